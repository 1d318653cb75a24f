/- crush.Odd. crush: what is known of a lot (state), Decide. slices.Repeat of one box. slices.Repeat of one integer. slices.Repeat of an integer, however often. crush: how many tests more a lot needs. (Made by gen_i15.py.) crush.Need of what is valid. crush.High. (Made by gen_i7.py.) armSpan. The contract of armCrush: the document's examples of chapter 3. The helpers of chapter 3's statements, and what the document's examples say. The document's examples of chapter 3, call by call. The document's examples of chapter 3: known returns true. (Made by gen_i33.py.) -/
import Derived.Test.YtcdilmagcdbogaaQI33b
import Derived.Test.YtcdilmagcdbogaaQI33a
import Derived.Test.YtcdilmagcdbogaaShelf
import Derived.Laws.CopyRow
import Derived.Laws.CopyOwn
import Derived.Laws.MakeOwn
import Derived.Deep.WholeRow
import Derived.BigQuiet
import Derived.Deep.CutRange
import Derived.Deep.MidRow
namespace Go.Proofs.Ytcdilmagcdbogaa
set_option linter.unusedVariables false
set_option linter.unusedSimpArgs false
open Go.RowKit

def exceptTo (p : Int → Bool) (l : List Int) (k : Nat) : List Nat := (List.range k).filter (fun i => !p (l.getD i 0))

theorem exceptTo_succ (p : Int → Bool) (l : List Int) (k : Nat) : exceptTo p l (k + 1) = if p (l.getD k 0) = true then exceptTo p l k else exceptTo p l k ++ [k] := by
  unfold exceptTo
  rw [List.range_succ, List.filter_append]
  cases h : p (l.getD k 0) <;> (rw [List.getD_eq_getElem?_getD] at h; simp [h])

theorem exceptTo_len (p : Int → Bool) (l : List Int) (k : Nat) : (exceptTo p l k).length ≤ k := by
  have := List.length_filter_le (fun i => !p (l.getD i 0)) (List.range k)
  simpa [exceptTo] using this

def inWin (off spread from' r : Int) : Bool := decide (from' ≤ min 100000 (r + off)) && decide (max 0 (r - off) ≤ from' + spread)

def leftL (off spread : Int) (l : List Int) (i : Nat) : List Nat := exceptTo (inWin off spread (min 100000 (l.getD i 0 + off))) l l.length

/-- The fewest readings without which the others can be as close as spread. -/
def oddTo (off spread : Int) (l : List Int) : Nat → List Nat
  | 0 => []
  | k + 1 => if k = 0 ∨ (leftL off spread l k).length < (oddTo off spread l k).length ∨ ((leftL off spread l k).length = (oddTo off spread l k).length ∧ compL (intsN (leftL off spread l k)) (intsN (oddTo off spread l k)) < 0) then leftL off spread l k else oddTo off spread l k

theorem callOdd (args : Array Value) (W : World) : (callFunc 116 args).run Try.prog W = .ok (.enter 116 args) W := by kernel_rfl

set_option maxRecDepth 100000 in
set_option maxHeartbeats 2000000 in
theorem oddClosure (off spread from' r : Int) (o0 : 0 ≤ off) (o1 : off ≤ 1000) (s0 : 0 ≤ spread) (s1 : spread ≤ 100000) (f0 : 0 ≤ from') (f1 : from' ≤ 100000) (r0 : 0 ≤ r) (r1 : r ≤ 100000) (b3 b10 b5 : Nat) (W : World)
    (q3 : Box W b3 [.int .i64 off]) (q10 : Box W b10 [.int .i64 from']) (q5 : Box W b5 [.int .i64 spread]) :
    Calls Try.prog 116 #[.int .i64 r, .pointer (some ⟨b3, 0, none⟩), .pointer (some ⟨b10, 0, none⟩), .pointer (some ⟨b5, 0, none⟩)] W fun e W' => e = .returned (.bool (inWin off spread from' r)) ∧ Gr W W' := by
  have c3 := q3.c1
  have v0 : IntKind.i64.wrap (from' + spread) = from' + spread := IntWalk.i64_in _ (by omega)
  obtain ⟨lo, hlo⟩ : ∃ lo, max 0 (r - off) = lo := ⟨_, rfl⟩
  obtain ⟨hi, hhi⟩ : ∃ hi, min 100000 (r + off) = hi := ⟨_, rfl⟩
  have hT : ∀ V, Calls Try.prog 114 #[.agg #[.int .i64 off], .int .i64 r] V fun e w' => e = .returned (.agg #[.int .i64 lo, .int .i64 hi]) ∧ Gr V w' := fun V => by
    have := truth_any off r o0 o1 r0 r1 V
    rw [hlo, hhi] at this
    exact this
  have E : inWin off spread from' r = (decide (from' ≤ hi) && decide (lo ≤ from' + spread)) := by unfold inWin; rw [hlo, hhi]
  rw [E]
  clear hlo hhi E
  by_cases h1 : from' ≤ hi
  · have e1 : decide (from' ≤ hi) = true := by simpa using h1
    go_enter Try.func116, Try.ntmps116
    go_wp2_with (go_at_call 114; refine (hT _).mono ?_; rintro e w1 ⟨rfl, g1⟩; (obtain ⟨d0, d1⟩ := (Box.new w1 [.int .i64 lo, .int .i64 hi] 45 w1.heap.size rfl).c2); have c10 := ((q10.keep g1).keep (Gr.al w1 (.cells #[.int .i64 lo, .int .i64 hi] 45))).c1; have c5 := ((q5.keep g1).keep (Gr.al w1 (.cells #[.int .i64 lo, .int .i64 hi] 45))).c1)
    rw [e1, Bool.true_and]
    go_ret
    exact ⟨rfl, g1.tr (Gr.al _ _)⟩
  · have e1 : decide (from' ≤ hi) = false := by simpa using h1
    go_enter Try.func116, Try.ntmps116
    go_wp2_with (go_at_call 114; refine (hT _).mono ?_; rintro e w1 ⟨rfl, g1⟩; (obtain ⟨d0, d1⟩ := (Box.new w1 [.int .i64 lo, .int .i64 hi] 45 w1.heap.size rfl).c2); have c10 := ((q10.keep g1).keep (Gr.al w1 (.cells #[.int .i64 lo, .int .i64 hi] 45))).c1; have c5 := ((q5.keep g1).keep (Gr.al w1 (.cells #[.int .i64 lo, .int .i64 hi] 45))).c1)
    rw [e1, Bool.false_and]
    go_ret
    exact ⟨rfl, g1.tr (Gr.al _ _)⟩

set_option maxRecDepth 100000 in
set_option maxHeartbeats 2000000 in
theorem except_any (p : Int → Bool) (l : List Int) (hlen : l.length ≤ 1000) (fid : FuncId) (c0 c1 c2 : Value) (a : Option Addr) (cap : Nat) (w : World) (hl : IRow w a l)
    (hcall : ∀ (args : Array Value) (W : World), (callFunc fid args).run Try.prog W = .ok (.enter fid args) W)
    (hf : ∀ (r : Int) (W : World), Gr w W → r ∈ l → Calls Try.prog fid #[.int .i64 r, c0, c1, c2] W fun e W' => e = .returned (.bool (p r)) ∧ Gr W W') :
    Calls Try.prog 115 #[.slice a l.length cap, .func (.func fid) #[] #[c0, c1, c2]] w fun e w' => ∃ b d, e = .returned (.slice b (intsN (exceptTo p l l.length)).length d) ∧ IRow w' b (intsN (exceptTo p l l.length)) ∧ Gr w w' := by
  obtain ⟨i0, hi, hz0, hz1, hz2⟩ := info_parts infoInt
  have HF := Lib.hid hf
  clear hf
  go_enter Try.func115, Try.ntmps115
  go_wp2
  go_loopw [10, 5] (fun t v wr => Hid (∃ k : Nat, k ≤ l.length ∧ t = .int .i64 k ∧ Gr w wr ∧ wr.ownsRow w.heap.size 3 1 v (exceptTo p l k).length ((intsN (exceptTo p l k)).flatMap encI))) (fun t _ _ => l.length - (intOf t).toNat)
  case atStart => exact Lib.hid ⟨0, Nat.zero_le _, rfl, Below.refl _ _, World.ownsRow_nil _ _ _ _⟩
  case round =>
    obtain ⟨k, hk, rfl, gW, hown⟩ := hrel.out
    clear hrel
    by_cases hlt : k < l.length
    · obtain ⟨x, hx⟩ : ∃ x, l[k]? = some x := ⟨l[k], by simp [hlt]⟩
      obtain ⟨b1, o1, rfl, h1, cc⟩ := IRow.get (hl.grow gW) hx
      have hS := exceptTo_succ p l k
      have hgd : l.getD k 0 = x := by simp [List.getD, hx]
      rw [hgd] at hS
      have hln := exceptTo_len p l k
      have hcl := HF.out x wr gW (List.mem_of_getElem? hx)
      have hk1 : (exceptTo p l k).length + 1 ≤ maxLen := by unfold maxLen; omega
      have hk2 : ((exceptTo p l k).length + 1) * 8 ≤ 140737488355328 := by omega
      cases hp : p x with
      | true =>
        rw [hp] at hcl hS
        rw [if_pos rfl] at hS
        have HC := Lib.hid hcl
        have HS := Lib.hid hS
        clear hcl hS hgd hx hp hln hk1 hk2
        go_wp2_with fail
        refine HC.out.mono ?_
        rintro e w2 ⟨rfl, g2⟩
        go_wp2
        go_roundw
        case rel => exact Lib.hid ⟨k + 1, by omega, by go_num, gW.tr g2, by rw [HS.out]; exact owns_keep hown g2⟩
        case measure => simp [intOf]; omega
      | false =>
        rw [hp] at hcl hS
        rw [if_neg (by decide)] at hS
        have HC := Lib.hid hcl
        have HS := Lib.hid hS
        clear hcl hS hgd hx hp hln
        go_wp2_with fail
        refine HC.out.mono ?_
        rintro e w2 ⟨rfl, g2⟩
        go_wp2_with (at_builtin; refine wpList_append_own _ rfl _ _ 24 rfl w.heap.size 3 i0 (.int .i64 0) 1 8 Try.underlying24 hi hz0 hz1 hz2 rfl (by decide) _ _ _ rfl (owns_keep (owns_keep hown g2) (Gr.al w2 (.cells #[.int .i64 (k : Int)] 3))) ⟨w2.heap.size, 0, none⟩ 1 1 ([(k : Int)].map (fun n => Value.int .i64 n)) rfl rfl (cell_news _ _ _) (ints_one _) hk1 hk2 ((gW.tr g2).tr (Gr.al _ _)).size ?_; intro v' w6 hown' hgrow' _)
        go_roundw
        case rel =>
          have hR : Gr w w6 := ((gW.tr g2).tr (Gr.al _ _)).grown' (owns_keep (owns_keep hown g2) (Gr.al _ _)) (Nat.le_refl _) hgrow'
          have hl : w6.ownsRow w.heap.size 3 1 v' (exceptTo p l (k + 1)).length ((intsN (exceptTo p l (k + 1))).flatMap encI) := by
            rw [HS.out, List.length_append]
            unfold intsN
            rw [List.map_append, List.flatMap_append]
            exact hown'
          exact Lib.hid ⟨k + 1, by omega, by go_num, hR, hl⟩
        case measure => simp [intOf]; omega
    · obtain rfl : k = l.length := by omega
      have hl1 := intsN_len (exceptTo p l l.length)
      have hln := exceptTo_len p l l.length
      obtain ⟨b, d, hv, hr4⟩ := owns_row (enc := encI) (l := intsN (exceptTo p l l.length)) (fun _ => rfl) (by rw [hl1]; omega) (by rw [hl1]; exact hown)
      subst hv
      have HR := Lib.hid hr4
      clear hr4 hown hl1 hln
      go_wp2
      go_ret
      exact ⟨b, ⟨d, rfl⟩, HR.out, gW⟩

theorem fieldSp1 (a b : Value) (w : World) : (Instr.field 45 (.agg #[a, b]) 1).run Try.prog w = .ok b w := by kernel_rfl

theorem getD_in {l : List Int} {k : Nat} (h : k < l.length) : ∃ x, l[k]? = some x ∧ l.getD k 0 = x ∧ x ∈ l := by
  have hx : l[k]? = some l[k] := by simp [h]
  exact ⟨l[k], hx, by simp [List.getD, hx], List.getElem_mem h⟩

set_option maxRecDepth 100000 in
set_option maxHeartbeats 4000000 in
theorem odd_any (off spread : Int) (o0 : 0 ≤ off) (o1 : off ≤ 1000) (s0 : 0 ≤ spread) (s1 : spread ≤ 100000) (l : List Int) (hlen : l.length ≤ 1000) (hB : ∀ r ∈ l, 0 ≤ r ∧ r ≤ 100000) (a : Option Addr) (cap : Nat) (w : World) (hl : IRow w a l) :
    Calls Try.prog 80 #[.agg #[.int .i64 off], .slice a l.length cap, .int .i64 spread] w fun e w' => ∃ b d, e = .returned (.slice b (intsN (oddTo off spread l l.length)).length d) ∧ IRow w' b (intsN (oddTo off spread l l.length)) ∧ Gr w w' := by
  have gg := (Gr.al w (.cells #[.int .i64 off] 145)).tr (Gr.al _ (.cells #[.int .i64 spread] 3))
  have b3 := (Box.new w [.int .i64 off] 145 w.heap.size rfl).keep (Gr.al _ (.cells #[.int .i64 spread] 3))
  have b5 := Box.new (w.alloc (.cells #[.int .i64 off] 145)) [.int .i64 spread] 3 (w.heap.size + 1) (by simp)
  have HBB := Lib.hid hB
  clear hB
  go_enter Try.func80, Try.ntmps80
  go_wp2
  obtain ⟨w3, hw3⟩ : ∃ w3, w3 = (w.alloc (.cells #[.int .i64 off] 145)).alloc (.cells #[.int .i64 spread] 3) := ⟨_, rfl⟩
  rw [← hw3] at gg b3 b5 ⊢
  clear hw3
  go_loopw [14, 7] (fun t v wr => Hid (∃ (k : Nat) (b : Option Addr) (c : Nat), k ≤ l.length ∧ t = .int .i64 k ∧ v = .slice b (intsN (oddTo off spread l k)).length c ∧ Gr w3 wr ∧ IRow wr b (intsN (oddTo off spread l k)))) (fun t _ _ => l.length - (intOf t).toNat)
  case atStart => exact Lib.hid ⟨0, none, 0, Nat.zero_le _, rfl, rfl, Below.refl _ _, RowOf.nil⟩
  case round =>
    obtain ⟨k, b, c, hk, rfl, rfl, gW, hrow⟩ := hrel.out
    clear hrel
    obtain ⟨B, hB⟩ : ∃ B, oddTo off spread l k = B := ⟨_, rfl⟩
    rw [hB] at hrow ⊢
    by_cases hlt : k < l.length
    · obtain ⟨x, hx, hgd, hmem⟩ := getD_in hlt
      obtain ⟨x0, x1⟩ := HBB.out x hmem
      have hrw := hl.grow (gg.tr gW)
      obtain ⟨bl, ol, rfl, h1l, cc⟩ := IRow.get hrw hx
      have q3 := (b3.keep gW).c1
      obtain ⟨C, hC⟩ : ∃ C, leftL off spread l k = C := ⟨_, rfl⟩
      have hS : oddTo off spread l (k + 1) = if k = 0 ∨ C.length < B.length ∨ (C.length = B.length ∧ compL (intsN C) (intsN B) < 0) then C else B := by rw [oddTo, hB, hC]
      obtain ⟨fr, hfr⟩ : ∃ fr, min 100000 (x + off) = fr := ⟨_, rfl⟩
      obtain ⟨lo, hlo⟩ : ∃ lo, max 0 (x - off) = lo := ⟨_, rfl⟩
      have hT : ∀ V, Calls Try.prog 114 #[.agg #[.int .i64 off], .int .i64 x] V fun e w' => e = .returned (.agg #[.int .i64 lo, .int .i64 fr]) ∧ Gr V w' := fun V => by
        have := truth_any off x o0 o1 x0 x1 V
        rw [hlo, hfr] at this
        exact this
      have hC' : exceptTo (inWin off spread fr) l l.length = C := by rw [← hC]; unfold leftL; rw [hgd, hfr]
      have hEX : ∀ (D : Nat) (V : World), Gr w3 V → Box V D [.int .i64 fr] → Calls Try.prog 115 #[.slice (some ⟨bl, ol, none⟩) l.length cap, .func (.func 116) #[] #[.pointer (some ⟨w.heap.size, 0, none⟩), .pointer (some ⟨D, 0, none⟩), .pointer (some ⟨w.heap.size + 1, 0, none⟩)]] V fun e w' => ∃ b d, e = .returned (.slice b (intsN C).length d) ∧ IRow w' b (intsN C) ∧ Gr V w' := fun D V g hD => by
        have := except_any (inWin off spread fr) l hlen 116 (.pointer (some ⟨w.heap.size, 0, none⟩)) (.pointer (some ⟨D, 0, none⟩)) (.pointer (some ⟨w.heap.size + 1, 0, none⟩)) (some ⟨bl, ol, none⟩) cap V (hl.grow (gg.tr g)) callOdd (fun r W hW hr => oddClosure off spread fr r o0 o1 s0 s1 (by omega) (by omega) (HBB.out r hr).1 (HBB.out r hr).2 _ _ _ W ((b3.keep g).keep hW) (hD.keep hW) ((b5.keep g).keep hW))
        rw [hC'] at this
        exact this
      have hfi := fieldSp1
      have HT := Lib.hid hT
      have HEX := Lib.hid hEX
      have lB := intsN_len B
      have lC := intsN_len C
      rw [← lB, ← lC] at hS
      obtain ⟨nb, hnb⟩ : ∃ nb, (intsN B).length = nb := ⟨_, rfl⟩
      obtain ⟨nc, hnc⟩ : ∃ nc, (intsN C).length = nc := ⟨_, rfl⟩
      rw [hnb, hnc] at hS
      obtain ⟨z, hz⟩ : ∃ z, compL (intsN C) (intsN B) = z := ⟨_, rfl⟩
      rw [hz] at hS
      have hcmp : ∀ W' a5 c5, IRow W' a5 (intsN C) → IRow W' b (intsN B) → Calls Try.prog 117 #[.slice a5 nc c5, .slice b nb c] W' fun e w' => e = .returned (.int .i64 z) ∧ Gr W' w' := fun W' a5 c5 r1 r2 => by
        have := compare_any (intsN C) (intsN B) a5 b c5 c W' r1 r2
        rw [hnc, hnb, hz] at this
        exact this
      have HCMP := Lib.hid hcmp
      clear lB lC hB hC hC' hT hEX hfr hlo hcmp hz hx hgd hmem hrw
      have HNB := Lib.hid hnb
      have HNC := Lib.hid hnc
      rw [hnb]
      clear hnb hnc
      by_cases h0 : k = 0
      · rw [if_pos (.inl h0)] at hS
        have HS := Lib.hid hS
        have e0 : ((k : Int) == 0) = true := by rw [beq_iff_eq]; omega
        clear hS h0
        go_wp2_with (first
          | (go_at_call 114; refine (HT.out _).mono ?_; rintro e w4 ⟨rfl, g4⟩; (have o10 := Box.new w4 [.int .i64 fr] 3 w4.heap.size rfl); have gA := gW.tr (g4.tr (Gr.al w4 (.cells #[.int .i64 fr] 3))))
          | (go_at_call 115; refine (HEX.out w4.heap.size _ gA o10).mono ?_; rintro e w5 ⟨a5, c5, rfl, r5, g5⟩; rw [HNC.out])
          | (go_at_call 117; refine (HCMP.out _ _ _ r5 (hrow.grow (g4.tr ((Gr.al _ _).tr g5)))).mono ?_; rintro e w6 ⟨rfl, g6⟩))
        go_roundw
        case rel => exact Lib.hid ⟨k + 1, a5, c5, by omega, by go_num, by rw [HS.out, HNC.out], gA.tr g5, by rw [HS.out]; exact r5⟩
        case measure => simp [intOf]; omega
      · have e0 : ((k : Int) == 0) = false := by rw [beq_eq_false_iff_ne]; omega
        by_cases h1 : nc < nb
        · rw [if_pos (.inr (.inl h1))] at hS
          have HS := Lib.hid hS
          clear hS
          go_wp2_with (first
            | (go_at_call 114; refine (HT.out _).mono ?_; rintro e w4 ⟨rfl, g4⟩; (have o10 := Box.new w4 [.int .i64 fr] 3 w4.heap.size rfl); have gA := gW.tr (g4.tr (Gr.al w4 (.cells #[.int .i64 fr] 3))))
            | (go_at_call 115; refine (HEX.out w4.heap.size _ gA o10).mono ?_; rintro e w5 ⟨a5, c5, rfl, r5, g5⟩; rw [HNC.out])
            | (go_at_call 117; refine (HCMP.out _ _ _ r5 (hrow.grow (g4.tr ((Gr.al _ _).tr g5)))).mono ?_; rintro e w6 ⟨rfl, g6⟩))
          go_roundw
          case rel => exact Lib.hid ⟨k + 1, a5, c5, by omega, by go_num, by rw [HS.out, HNC.out], gA.tr g5, by rw [HS.out]; exact r5⟩
          case measure => simp [intOf]; omega
        · have h1' : ¬ (nc : Int) < (nb : Int) := by omega
          by_cases h2 : nc = nb
          · have h3 : ((nc : Int) == (nb : Int)) = true := by rw [beq_iff_eq]; omega
            by_cases h4 : z < 0
            · rw [if_pos (.inr (.inr ⟨h2, h4⟩))] at hS
              have HS := Lib.hid hS
              clear hS h2
              go_wp2_with (first
                | (go_at_call 114; refine (HT.out _).mono ?_; rintro e w4 ⟨rfl, g4⟩; (have o10 := Box.new w4 [.int .i64 fr] 3 w4.heap.size rfl); have gA := gW.tr (g4.tr (Gr.al w4 (.cells #[.int .i64 fr] 3))))
                | (go_at_call 115; refine (HEX.out w4.heap.size _ gA o10).mono ?_; rintro e w5 ⟨a5, c5, rfl, r5, g5⟩; rw [HNC.out])
                | (go_at_call 117; refine (HCMP.out _ _ _ r5 (hrow.grow (g4.tr ((Gr.al _ _).tr g5)))).mono ?_; rintro e w6 ⟨rfl, g6⟩))
              go_roundw
              case rel => exact Lib.hid ⟨k + 1, a5, c5, by omega, by go_num, by rw [HS.out, HNC.out], gA.tr (g5.tr g6), by rw [HS.out]; exact r5.grow g6⟩
              case measure => simp [intOf]; omega
            · rw [if_neg (by omega)] at hS
              have HS := Lib.hid hS
              clear hS h2
              go_wp2_with (first
                | (go_at_call 114; refine (HT.out _).mono ?_; rintro e w4 ⟨rfl, g4⟩; (have o10 := Box.new w4 [.int .i64 fr] 3 w4.heap.size rfl); have gA := gW.tr (g4.tr (Gr.al w4 (.cells #[.int .i64 fr] 3))))
                | (go_at_call 115; refine (HEX.out w4.heap.size _ gA o10).mono ?_; rintro e w5 ⟨a5, c5, rfl, r5, g5⟩; rw [HNC.out])
                | (go_at_call 117; refine (HCMP.out _ _ _ r5 (hrow.grow (g4.tr ((Gr.al _ _).tr g5)))).mono ?_; rintro e w6 ⟨rfl, g6⟩))
              go_roundw
              case rel => exact Lib.hid ⟨k + 1, b, c, by omega, by go_num, by rw [HS.out, HNB.out], gA.tr (g5.tr g6), by rw [HS.out]; exact hrow.grow (g4.tr ((Gr.al _ _).tr (g5.tr g6)))⟩
              case measure => simp [intOf]; omega
          · have h3 : ((nc : Int) == (nb : Int)) = false := by rw [beq_eq_false_iff_ne]; omega
            rw [if_neg (by omega)] at hS
            have HS := Lib.hid hS
            clear hS
            go_wp2_with (first
              | (go_at_call 114; refine (HT.out _).mono ?_; rintro e w4 ⟨rfl, g4⟩; (have o10 := Box.new w4 [.int .i64 fr] 3 w4.heap.size rfl); have gA := gW.tr (g4.tr (Gr.al w4 (.cells #[.int .i64 fr] 3))))
              | (go_at_call 115; refine (HEX.out w4.heap.size _ gA o10).mono ?_; rintro e w5 ⟨a5, c5, rfl, r5, g5⟩; rw [HNC.out])
              | (go_at_call 117; refine (HCMP.out _ _ _ r5 (hrow.grow (g4.tr ((Gr.al _ _).tr g5)))).mono ?_; rintro e w6 ⟨rfl, g6⟩))
            go_roundw
            case rel => exact Lib.hid ⟨k + 1, b, c, by omega, by go_num, by rw [HS.out, HNB.out], gA.tr g5, by rw [HS.out]; exact hrow.grow (g4.tr ((Gr.al _ _).tr g5))⟩
            case measure => simp [intOf]; omega
    · obtain rfl : k = l.length := by omega
      have HB := Lib.hid hB
      clear hB
      go_wp2
      go_ret
      exact ⟨b, c, by rw [HB.out]; rfl, by rw [HB.out]; exact hrow, gg.tr gW⟩

/-- Odd of what is valid. -/
theorem oddF_ok (off spread : Int) (l : List Int) (h20 : l.length ≤ 20) (ho : inB 0 1000 [off] = true) (hs : inB 0 100000 [spread] = true) (hl : inB 0 100000 l = true) (a : Option Addr) (cap : Nat) (w : World) (hr : IRow w a l) :
    Calls Try.prog 29 #[.slice a l.length cap, .int .i64 off, .int .i64 spread] w fun e w' => ∃ b d, e = .returned (.tuple #[.slice b (intsN (oddTo off spread l l.length)).length d, .int .i64 0]) ∧ IRow w' b (intsN (oddTo off spread l l.length)) ∧ Gr w w' := by
  have hoo : 0 ≤ off ∧ off ≤ 1000 := by simpa [inB, in1] using ho
  have hss : 0 ≤ spread ∧ spread ≤ 100000 := by simpa [inB, in1] using hs
  have hll : ∀ r ∈ l, 0 ≤ r ∧ r ≤ 100000 := fun r hr => by
    have := List.all_eq_true.1 hl r hr
    simpa [in1] using this
  obtain ⟨R, hR⟩ : ∃ R, oddTo off spread l l.length = R := ⟨_, rfl⟩
  rw [hR]
  have hO : ∀ W, IRow W a l → Calls Try.prog 80 #[.agg #[.int .i64 off], .slice a l.length cap, .int .i64 spread] W fun e w' => ∃ b d, e = .returned (.slice b (intsN R).length d) ∧ IRow w' b (intsN R) ∧ Gr W w' := fun W h => by
    have := odd_any off spread hoo.1 hoo.2 hss.1 hss.2 l (by omega) hll a cap W h
    rw [hR] at this
    exact this
  have HO := Lib.hid hO
  have HL := Lib.hid hl
  have HS := Lib.hid hs
  have HOF := Lib.hid ho
  have d1 : decide (20 < (l.length : Int)) = false := by simp; omega
  have d2 : ¬ (20 : Int) < (l.length : Int) := by omega
  clear hR hO hl hs ho hll hss hoo
  go_enter Try.func29, Try.ntmps29
  go_wp2_with (first
    | (go_at_call 73; refine (goodOff_any off true HOF.out _).mono ?_; rintro e w1 ⟨rfl, g1⟩)
    | (go_at_call 79; refine (within_any 0 100000 [spread] _ HS.out _ _ _ (IRow.new' _ 3 [spread] (by simp) _ (by simp) _ (by simp))).mono ?_; rintro e w3 ⟨rfl, hg⟩; have h3 := g1.tr (Gr.tr (Gr.al _ _) hg))
    | (go_at_call 74; refine (goodReadings_any l true HL.out a cap _ (hr.grow h3)).mono ?_; rintro e w4 ⟨rfl, g4⟩)
    | (go_at_call 80; refine (HO.out _ (hr.grow (h3.tr g4))).mono ?_; rintro e w5 ⟨b, d, rfl, r5, g5⟩))
  go_ret2
  exact ⟨b, d, rfl, r5, (h3.tr g4).tr g5⟩

end Go.Proofs.Ytcdilmagcdbogaa

namespace Go.Proofs.Ytcdilmagcdbogaa
set_option linter.unusedVariables false
set_option linter.unusedSimpArgs false
open Go.RowKit

/-- What is known of a lot: 1 it passes, 2 it fails, 3 it is open. -/
def stateL (te me low ba : Int) (l : List (Int × Int)) : Int := if passB false te me low ba l = true then 1 else if passB true te me low ba l = true then 3 else 2

set_option maxRecDepth 100000 in
set_option maxHeartbeats 4000000 in
theorem state_any (te : Nat) (me low ba off : Int) (rl ml : List Int) (ra ma : Option Addr) (rc mc : Nat) (t1 : te ≤ 1000) (m0 : 0 ≤ me) (m1 : me ≤ 100000) (o0 : 0 ≤ off) (o1 : off ≤ 1000) (a0 : 0 ≤ ba) (a1 : ba ≤ 1000) (hB : ∀ r ∈ rl ++ ml, 0 ≤ r ∧ r ≤ 100000) (hl : (rl ++ ml).length ≤ 100000) (w : World) (hr : IRow w ra rl) (hrn : ra = none → rc = 0) (hm : IRow w ma ml) (hmn : ma = none → mc = 0) :
    Calls Try.prog 75 #[.agg #[.int .i64 (te : Int), .int .i64 me, .int .i64 low, .int .i64 ba, .int .i64 off, .slice ra rl.length rc], .slice ma ml.length mc] w fun e w' => e = .returned (.int .i64 (stateL (te : Int) me low ba (truthsL te off (rl ++ ml)))) ∧ Gr w w' := by
  have gU := Gr.al w (.cells #[.int .i64 (te : Int), .int .i64 me, .int .i64 low, .int .i64 ba, .int .i64 off, .slice ra rl.length rc] 147)
  have oU := Own.new w [.int .i64 (te : Int), .int .i64 me, .int .i64 low, .int .i64 ba, .int .i64 off, .slice ra rl.length rc] 147 w.heap.size rfl
  obtain ⟨p1, h1⟩ : ∃ p1, passB false (te : Int) me low ba (truthsL te off (rl ++ ml)) = p1 := ⟨_, rfl⟩
  obtain ⟨p2, h2⟩ : ∃ p2, passB true (te : Int) me low ba (truthsL te off (rl ++ ml)) = p2 := ⟨_, rfl⟩
  have e : stateL (te : Int) me low ba (truthsL te off (rl ++ ml)) = if p1 = true then 1 else if p2 = true then 3 else 2 := by unfold stateL; rw [h1, h2]
  rw [e]
  have P1 : ∀ W, Gr w W → Calls Try.prog 110 #[.agg #[.int .i64 (te : Int), .int .i64 me, .int .i64 low, .int .i64 ba, .int .i64 off, .slice ra rl.length rc], .func (.func 111) #[] #[], .slice ma ml.length mc] W fun e w' => e = .returned (.bool p1) ∧ Gr W w' := fun W g => by
    have h := passes_lo te me low ba off rl ml ra ma rc mc t1 m0 m1 o0 o1 a0 a1 hB hl W (hr.grow g) hrn (hm.grow g) hmn
    rw [h1] at h
    exact h
  have P2 : ∀ W, Gr w W → Calls Try.prog 110 #[.agg #[.int .i64 (te : Int), .int .i64 me, .int .i64 low, .int .i64 ba, .int .i64 off, .slice ra rl.length rc], .func (.func 112) #[] #[], .slice ma ml.length mc] W fun e w' => e = .returned (.bool p2) ∧ Gr W w' := fun W g => by
    have h := passes_hi te me low ba off rl ml ra ma rc mc t1 m0 m1 o0 o1 a0 a1 hB hl W (hr.grow g) hrn (hm.grow g) hmn
    rw [h2] at h
    exact h
  have HP1 := Lib.hid P1
  have HP2 := Lib.hid P2
  have q0 := oU.1.2 0 _ rfl
  have q1 := oU.1.2 1 _ rfl
  have q2 := oU.1.2 2 _ rfl
  have q3 := oU.1.2 3 _ rfl
  have q4 := oU.1.2 4 _ rfl
  have q5 := oU.1.2 5 _ rfl
  have OU := Lib.hid oU
  have GU := Lib.hid gU
  clear P1 P2 e h1 h2 oU gU
  cases p1 with
  | true =>
    go_enter Try.func75, Try.ntmps75
    go_wp2_with (go_at_call 110; refine (HP1.out _ GU.out).mono ?_; rintro e w1 ⟨rfl, g1⟩)
    go_ret
    exact ⟨rfl, GU.out.tr g1⟩
  | false =>
    go_enter Try.func75, Try.ntmps75
    go_wp2_with fail
    refine (HP1.out _ GU.out).mono ?_
    rintro e w1 ⟨rfl, g1⟩
    clear q0 q1 q2 q3 q4 q5
    have o1' := OU.out.keep g1
    have q0 := o1'.1.2 0 _ rfl
    have q1 := o1'.1.2 1 _ rfl
    have q2 := o1'.1.2 2 _ rfl
    have q3 := o1'.1.2 3 _ rfl
    have q4 := o1'.1.2 4 _ rfl
    have q5 := o1'.1.2 5 _ rfl
    have G1 := Lib.hid (GU.out.tr g1)
    clear o1' g1
    go_wp2_with fail
    refine (HP2.out _ G1.out).mono ?_
    rintro e w2 ⟨rfl, g2⟩
    have G2 := Lib.hid (G1.out.tr g2)
    clear g2 q0 q1 q2 q3 q4 q5
    cases p2
    all_goals
      go_wp2
      go_ret
      exact ⟨rfl, G2.out⟩

theorem rule_parts {te me lo ba off : Int} {l : List Int} (h : ruleL te me lo ba off l = 0) : (1 ≤ te ∧ te ≤ 20) ∧ (0 ≤ me ∧ me ≤ 100000) ∧ (0 ≤ ba ∧ ba ≤ te) ∧ (0 ≤ off ∧ off ≤ 1000) ∧ (l.length : Int) ≤ te ∧ ∀ r ∈ l, 0 ≤ r ∧ r ≤ 100000 := by
  unfold ruleL at h
  split at h
  · omega
  rename_i h1
  split at h
  · omega
  rename_i h2
  split at h
  · omega
  rename_i h3
  split at h
  · omega
  rename_i h4
  simp only [Bool.not_eq_false] at h1 h2 h4
  simp only [ruleOk, inB, in1, List.all_cons, List.all_nil, Bool.and_true, Bool.and_eq_true, decide_eq_true_eq] at h1 h2
  refine ⟨by omega, by omega, by omega, by omega, by omega, fun r hr => ?_⟩
  simp only [inB, in1, List.all_eq_true, Bool.and_eq_true, decide_eq_true_eq] at h4
  have := h4 r hr
  omega

set_option maxRecDepth 100000 in
set_option maxHeartbeats 2000000 in
theorem decide_ok (te me lo ba off : Int) (l : List Int) (h : ruleL te me lo ba off l = 0) (a : Option Addr) (cap : Nat) (w : World) (hr : IRow w a l) (hn : a = none → cap = 0) :
    Calls Try.prog 21 #[.agg #[.int .i64 te, .int .i64 me, .int .i64 lo, .int .i64 ba], .slice a l.length cap, .int .i64 off] w fun e w' => e = .returned (.tuple #[.int .i64 (stateL te me lo ba (truthsL te.toNat off l)), .int .i64 0]) ∧ Gr w w' := by
  obtain ⟨⟨x0, x1⟩, ⟨x2, x3⟩, ⟨x4, x5⟩, ⟨x6, x7⟩, x8, x9⟩ := rule_parts h
  obtain ⟨n, rfl⟩ : ∃ n : Nat, te = (n : Int) := ⟨te.toNat, by omega⟩
  rw [Int.toNat_natCast]
  have oU := Own.new w [.int .i64 (n : Int), .int .i64 me, .int .i64 lo, .int .i64 ba] 23 w.heap.size rfl
  have gU := Gr.al w (.cells #[.int .i64 (n : Int), .int .i64 me, .int .i64 lo, .int .i64 ba] 23)
  have hR : ∀ W, Gr w W → Calls Try.prog 20 #[.agg #[.int .i64 (n : Int), .int .i64 me, .int .i64 lo, .int .i64 ba], .slice a l.length cap, .int .i64 off] W fun e w' => e = .returned (.int .i64 0) ∧ Gr W w' := fun W g => by
    have := rule_any (n : Int) me lo ba off l a cap W (hr.grow g)
    rw [h] at this
    exact this
  have hS : ∀ W, Gr w W → Calls Try.prog 75 #[.agg #[.int .i64 (n : Int), .int .i64 me, .int .i64 lo, .int .i64 ba, .int .i64 off, .slice a l.length cap], .slice none 0 0] W fun e w' => e = .returned (.int .i64 (stateL (n : Int) me lo ba (truthsL n off l))) ∧ Gr W w' := fun W g => by
    have := state_any n me lo ba off l [] a none cap 0 (by omega) (by omega) (by omega) (by omega) (by omega) (by omega) (by omega) (by rw [List.append_nil]; exact x9) (by rw [List.append_nil]; omega) W (hr.grow g) hn RowOf.nil (fun _ => rfl)
    rw [List.append_nil] at this
    exact this
  have HR := Lib.hid hR
  have HS := Lib.hid hS
  obtain ⟨q0, q1, q2, q3⟩ := oU.1.c4'
  have OU := Lib.hid oU
  have GU := Lib.hid gU
  clear hR hS oU gU h
  go_enter Try.func21, Try.ntmps21
  go_wp2_with fail
  refine (HR.out _ GU.out).mono ?_
  rintro e w1 ⟨rfl, g1⟩
  obtain ⟨q0, q1, q2, q3⟩ := (OU.out.keep g1).1.c4'
  have G1 := Lib.hid (GU.out.tr g1)
  clear g1
  go_wp2_with fail
  refine (HS.out _ G1.out).mono ?_
  rintro e w2 ⟨rfl, g2⟩
  have G2 := Lib.hid (G1.out.tr g2)
  clear g2
  go_wp2
  go_ret2
  exact ⟨rfl, G2.out⟩

end Go.Proofs.Ytcdilmagcdbogaa

namespace Go.Proofs.Ytcdilmagcdbogaa
set_option linter.unusedVariables false
set_option linter.unusedSimpArgs false
open Go.RowKit

section
variable {P : Program}

/-- copy of elements of whatever size. -/
theorem run_copy_wide (w : World) (dT sT ty elem : TypeId) (g o dLen dCap : Nat) (a : Addr) (sLen sCap m : Nat) (sz : Nat) (cur : Array Value) (t : TypeId) (cs : List Value)
    (hu : P.underlying dT = some (.slice elem)) (hs : (P.info? elem).map (·.size) = some sz)
    (hg : w.heap[g]? = some (.cells cur t (0, 0))) (hm : Nat.min sLen dLen = m) (hn : cs.length = m * sz)
    (hsrc : ∀ j v, cs[j]? = some v → w.cell? (a.add j) = some v) (hfit : o + cs.length ≤ cur.size) (h1 : ∀ v ∈ cs, v.oneCell' = true) :
    (Builtin.copy_ #[dT, sT] ty #[.slice (some ⟨g, o, none⟩) dLen dCap, .slice (some a) sLen sCap]).run P w =
      .ok (goInt m) (w.setRow g (cur.toList.take o ++ cs ++ cur.toList.drop (o + cs.length)).toArray) := by
  have hl := run_loadCells_list (P := P) w a cs hsrc
  have hst := run_storeCells_at P g o t cs 0 cur w hg (by simpa using hfit) h1
  cases hq : P.info? elem with
  | none => simp [hq] at hs
  | some i =>
    have hi : i.size = sz := by simpa [hq] using hs
    simp [Builtin.copy_, run_underlying hu, Builtin.lenOf, Builtin.firstCells, sizeOf, typeInfo, hq, hi, hm, ← hn, hl, hst]

end

def rep (n : Nat) (x : Ld) : List Value := (List.replicate n x).flatMap encL

theorem rep_len (n : Nat) (x : Ld) : (rep n x).length = 4 * n := by
  induction n with
  | zero => rfl
  | succ n ih => simp [rep, List.replicate_succ, encL] at ih ⊢; omega

theorem rep_add (n m : Nat) (x : Ld) : rep (n + m) x = rep n x ++ rep m x := by
  unfold rep
  rw [← List.replicate_append_replicate, List.flatMap_append]

theorem rep_one (n : Nat) (x : Ld) : ∀ v ∈ rep n x, v.oneCell' = true := by
  intro v hv
  obtain ⟨y, hy, hv⟩ := List.mem_flatMap.1 hv
  have e := (List.mem_replicate.1 hy).2
  rw [e] at hv
  have hv' : v ∈ [Value.int .i64 x.sl, .int .i64 x.sh, .int .i64 x.wl, .int .i64 x.wh] := hv
  simp only [List.mem_cons, List.not_mem_nil, or_false] at hv'
  rcases hv' with h | h | h | h <;> (rw [h]; rfl)

theorem rep_at {k j i : Nat} {x : Ld} (hj : j < k) (hi : i < 4) : (rep k x)[j * 4 + i]? = (encL x)[i]? := by
  have e : rep k x = rep j x ++ (rep 1 x ++ rep (k - j - 1) x) := by rw [← rep_add, ← rep_add]; congr 1; omega
  have e1 : rep 1 x = encL x := by simp [rep]
  rw [e, List.getElem?_append_right (by rw [rep_len]; omega), rep_len, show j * 4 + i - 4 * j = i by omega, List.getElem?_append_left (by rw [rep_len]; omega), e1]

theorem mul_one64 (c : Nat) (hc : c ≤ 1000) (w : World) :
    Calls Try.prog 124 #[.int .u64 1, .int .u64 (c : Int)] w fun e w' => e = .returned (.tuple #[.int .u64 0, .int .u64 (c : Int)]) ∧ w' = w := by
  have h := Try.bits_Mul 1 c (by omega) (by omega) w
  have e1 : 1 * c / 18446744073709551616 = 0 := by omega
  have e2 : 1 * c % 18446744073709551616 = c := by omega
  rw [e1, e2] at h
  exact h

theorem infoLd : (Try.prog.info? 70).map (fun i => (i.zero, i.size, i.bytes)) = some (some (.agg #[.int .i64 0, .int .i64 0, .int .i64 0, .int .i64 0]), 4, 32) := by kernel_rfl

theorem infoLd4 : (Try.prog.info? 70).map (·.size) = some 4 := by kernel_rfl

set_option maxRecDepth 100000 in
set_option maxHeartbeats 2000000 in
theorem repeat_one (x : Ld) (c : Nat) (h1 : 1 ≤ c) (h2 : c ≤ 1000) (a : Option Addr) (cap : Nat) (w : World) (hr : LRow w a [x]) :
    Calls Try.prog 98 #[.slice a 1 cap, .int .i64 (c : Int)] w fun e w' => ∃ a', e = .returned (.slice a' c c) ∧ LRow w' a' (List.replicate c x) ∧ Gr w w' := by
  obtain ⟨i0, hi, hz⟩ := Option.map_eq_some_iff.1 infoLd
  simp only [Prod.mk.injEq] at hz
  obtain ⟨hz0, hz1, hz2⟩ := hz
  have hmk := run_make (P := Try.prog) w 53 70 i0 _ Try.underlying53 hi hz0 .i64 .i64 (c : Int) (c : Int) (by omega) (Int.le_refl _) (by rw [hz2]; omega) (by omega)
  rw [hz1] at hmk
  simp only [Int.toNat_natCast] at hmk
  have d0 : decide ((c : Int) < 0) = false := by simp
  have d1 : decide ((9223372036854775807 : Int) < (c : Int)) = false := by simp; omega
  have v0 : IntKind.u64.wrap (c : Int) = (c : Int) := by rw [IntKind.wrap_u64]; omega
  have v1 : IntKind.i64.wrap (c : Int) = (c : Int) := IntWalk.i64_in _ (by omega)
  go_enter Try.func98, Try.ntmps98
  obtain ⟨b, off, rfl, hb, _⟩ := hr.2 0 x rfl
  have hnew : (w.alloc (.cells (madeCells #[.int .i64 0, .int .i64 0, .int .i64 0, .int .i64 0] (c * 4)) 70)).heap[w.heap.size]? = some (.cells (madeCells #[.int .i64 0, .int .i64 0, .int .i64 0, .int .i64 0] (c * 4)) 70) := World.alloc_heap_new w _
  have hr1 := hr.grow (Gr.al w (.cells (madeCells #[.int .i64 0, .int .i64 0, .int .i64 0, .int .i64 0] (c * 4)) 70))
  have hsrc : ∀ j v, (rep 1 x)[j]? = some v → (w.alloc (.cells (madeCells #[.int .i64 0, .int .i64 0, .int .i64 0, .int .i64 0] (c * 4)) 70)).cell? ((Addr.mk b off none).add j) = some v := by
    intro j v hv
    obtain ⟨b', off', e', _, hc⟩ := hr1.2 0 x rfl
    injection e' with e'
    injection e' with e1 e2 _
    subst e1; subst e2
    have h := hc j v (by simpa [rep] using hv)
    rw [WideShapes.add_plain]
    simpa using h
  have hcp := run_copy_wide (P := Try.prog) _ 53 53 3 70 w.heap.size 0 c c ⟨b, off, none⟩ 1 cap 1 4 _ 70 (rep 1 x) Try.underlying53 infoLd4 hnew (Nat.min_eq_left h1) (by rw [rep_len]) hsrc (by rw [rep_len, size_madeCells]; omega) (rep_one 1 x)
  rw [World.setRow_alloc_new, show goInt ((1 : Nat) : Int) = .int .i64 1 from rfl] at hcp
  obtain ⟨rest, hrest⟩ : ∃ rest : List Value, (madeCells #[Value.int .i64 0, .int .i64 0, .int .i64 0, .int .i64 0] (c * 4)).toList.drop (0 + (rep 1 x).length) = rest := ⟨_, rfl⟩
  have hlen : rest.length = 4 * (c - 1) := by rw [← hrest, rep_len, List.length_drop, Array.length_toList, size_madeCells]; omega
  rw [hrest, List.take_zero, List.nil_append] at hcp
  have Hlen := Lib.hid hlen
  clear hnew hr1 hsrc hrest hlen hr
  go_wp2_with (go_at_call 124; refine (mul_one64 c h2 _).mono ?_; rintro e w1 ⟨rfl, rfl⟩)
  clear hmk hcp d0 d1
  go_loopw [8] (fun n wr => Hid (∃ k : Nat, ∃ rest : List Value, n = .int .i64 k ∧ 1 ≤ k ∧ k ≤ c ∧ Gr w1 wr ∧ wr.heap[w1.heap.size]? = some (.cells (rep k x ++ rest).toArray 70) ∧ rest.length = 4 * (c - k))) (fun n _ => c - (intOf n).toNat)
  case atStart => exact Lib.hid ⟨1, rest, rfl, Nat.le_refl _, h1, Gr.al _ _, World.alloc_heap_new _ _, Hlen.out⟩
  case round =>
    obtain ⟨k, rest, rfl, hk1, hkc, gw, hB, hl⟩ := hrel.out
    clear hrel
    by_cases hlt : k < c
    · obtain ⟨m, hm⟩ : ∃ m, Nat.min k (c - k) = m := ⟨_, rfl⟩
      have hm' : min k (c - k) = m := hm
      have m1 : 1 ≤ m := by omega
      have m2 : k + m ≤ c := by omega
      have hmk' : m ≤ k := by omega
      have hBd : wr.drew.heap[w1.heap.size]? = some (.cells (rep k x ++ rest).toArray 70) := hB
      have hsrc : ∀ j v, (rep m x)[j]? = some v → wr.drew.cell? ((Addr.mk w1.heap.size 0 none).add j) = some v := by
        intro j v hv
        have hj : j < 4 * m := by
          have := (List.getElem?_eq_some_iff.1 hv).1
          rwa [rep_len] at this
        have hc : wr.drew.cell? ⟨w1.heap.size, 0 + j, none⟩ = (rep k x ++ rest)[0 + j]? := by
          unfold World.cell?
          rw [hBd]
          simp
        have ek : rep k x = rep m x ++ rep (k - m) x := by rw [← rep_add]; congr 1; omega
        rw [WideShapes.add_plain, hc, Nat.zero_add, ek, List.append_assoc, List.getElem?_append_left (by rw [rep_len]; exact hj)]
        exact hv
      have hcp := run_copy_wide (P := Try.prog) wr.drew 53 53 3 70 w1.heap.size (k * 4) (c - k) (c - k) ⟨w1.heap.size, 0, none⟩ k c m 4 _ 70 (rep m x) Try.underlying53 infoLd4 hBd hm (by rw [rep_len]; omega) hsrc (by simp [rep_len]; omega) (rep_one m x)
      rw [show goInt ((m : Nat) : Int) = .int .i64 (m : Int) from rfl] at hcp
      obtain ⟨row, hrow⟩ : ∃ row, (((rep k x ++ rest).toArray.toList.take (k * 4) ++ rep m x ++ (rep k x ++ rest).toArray.toList.drop (k * 4 + (rep m x).length)).toArray) = row := ⟨_, rfl⟩
      rw [hrow] at hcp
      have e1 : row = (rep (k + m) x ++ rest.drop (4 * m)).toArray := by
        rw [← hrow]
        congr 1
        show (rep k x ++ rest).take (k * 4) ++ rep m x ++ (rep k x ++ rest).drop (k * 4 + (rep m x).length) = _
        rw [rep_len, List.take_append_of_le_length (by rw [rep_len]; omega), List.take_of_length_le (by rw [rep_len]; omega), List.drop_append, rep_len, List.drop_of_length_le (by rw [rep_len]; omega), List.nil_append, rep_add, show k * 4 + 4 * m - 4 * k = 4 * m by omega]
      have hB' : (wr.drew.setRow w1.heap.size row).heap[w1.heap.size]? = some (.cells (rep (k + m) x ++ rest.drop (4 * m)).toArray 70) := by
        rw [← e1]
        exact setRow_heap _ _ _ _ _ _ hBd
      have g' : Gr w1 (wr.drew.setRow w1.heap.size row) := below_setRow (gw.tr (Gr.dr wr)) (Nat.le_refl _) _
      have l' : (rest.drop (4 * m)).length = 4 * (c - (k + m)) := by rw [List.length_drop, hl]; omega
      have v2 : IntKind.i64.wrap ((k : Int) + (m : Int)) = ((k + m : Nat) : Int) := by rw [IntWalk.i64_in _ (by omega)]; omega
      have HN := Lib.hid (And.intro hB' (And.intro g' l'))
      clear hB' g' l' e1 hrow hsrc hBd hB gw hl hm hm'
      go_wp2
      have hmx : Try.prog.follows .mixedOrders = true := by kernel_rfl
      go_region
      go_wp2
      go_roundw
      case rel => exact Lib.hid ⟨k + m, rest.drop (4 * m), by go_num, by omega, m2, HN.out.2.1, HN.out.1, HN.out.2.2⟩
      case measure => simp [intOf]; omega
    · obtain rfl : k = c := by omega
      go_wp2
      go_ret
      refine ⟨_, rfl, ⟨by simp; omega, fun j y hy => ?_⟩, gw⟩
      obtain ⟨hj, e⟩ := List.getElem?_eq_some_iff.1 hy
      have hj' : j < k := by simpa using hj
      have ey : x = y := by simpa using e
      subst ey
      refine ⟨_, _, rfl, (Array.getElem?_eq_some_iff.1 hB).1, fun i v hv => ?_⟩
      have hr0 : rest = [] := List.eq_nil_of_length_eq_zero (by omega)
      have hi4 : i < 4 := by
        have := (List.getElem?_eq_some_iff.1 hv).1
        simpa [encL] using this
      have hc : wr.cell? ⟨w1.heap.size, j * 4 + i, none⟩ = (rep k x)[j * 4 + i]? := by
        unfold World.cell?
        rw [hB, hr0, List.append_nil]
        simp
      rw [Nat.zero_add, hc, rep_at hj' hi4]
      exact hv

end Go.Proofs.Ytcdilmagcdbogaa

namespace Go.Proofs.Ytcdilmagcdbogaa
set_option linter.unusedVariables false
set_option linter.unusedSimpArgs false
open Go.RowKit

def repi (n : Nat) (x : Int) : List Value := (List.replicate n x).flatMap encI

theorem repi_len (n : Nat) (x : Int) : (repi n x).length = 1 * n := by
  induction n with
  | zero => rfl
  | succ n ih => simp [repi, List.replicate_succ, encI] at ih ⊢ <;> try omega

theorem repi_add (n m : Nat) (x : Int) : repi (n + m) x = repi n x ++ repi m x := by
  unfold repi
  rw [← List.replicate_append_replicate, List.flatMap_append]

theorem repi_one (n : Nat) (x : Int) : ∀ v ∈ repi n x, v.oneCell' = true := by
  intro v hv
  obtain ⟨y, hy, hv⟩ := List.mem_flatMap.1 hv
  have hv' : v ∈ [Value.int .i64 y] := hv
  rw [List.mem_singleton.1 hv']
  rfl

theorem repi_at {k j i : Nat} {x : Int} (hj : j < k) (hi : i < 1) : (repi k x)[j * 1 + i]? = (encI x)[i]? := by
  have e : repi k x = repi j x ++ (repi 1 x ++ repi (k - j - 1) x) := by rw [← repi_add, ← repi_add]; congr 1; omega
  have e1 : repi 1 x = encI x := by simp [repi]
  rw [e, List.getElem?_append_right (by rw [repi_len]; omega), repi_len, show j * 1 + i - 1 * j = i by omega, List.getElem?_append_left (by rw [repi_len]; omega), e1]

theorem infoI1 : (Try.prog.info? 3).map (·.size) = some 1 := by kernel_rfl

set_option maxRecDepth 100000 in
set_option maxHeartbeats 2000000 in
theorem repeat_int (x : Int) (c : Nat) (h1 : 1 ≤ c) (h2 : c ≤ 1000) (a : Option Addr) (cap : Nat) (w : World) (hr : IRow w a [x]) :
    Calls Try.prog 113 #[.slice a 1 cap, .int .i64 (c : Int)] w fun e w' => ∃ a', e = .returned (.slice a' c c) ∧ IRow w' a' (List.replicate c x) ∧ Gr w w' := by
  obtain ⟨i0, hi, hz⟩ := Option.map_eq_some_iff.1 infoInt'
  simp only [Prod.mk.injEq] at hz
  obtain ⟨hz0, hz1, hz2⟩ := hz
  have hmk := run_make (P := Try.prog) w 24 3 i0 _ Try.underlying24 hi hz0 .i64 .i64 (c : Int) (c : Int) (by omega) (Int.le_refl _) (by rw [hz2]; omega) (by omega)
  rw [hz1] at hmk
  simp only [Int.toNat_natCast, Nat.mul_one] at hmk
  have d0 : decide ((c : Int) < 0) = false := by simp
  have d1 : decide ((9223372036854775807 : Int) < (c : Int)) = false := by simp; omega
  have v0 : IntKind.u64.wrap (c : Int) = (c : Int) := by rw [IntKind.wrap_u64]; omega
  have v1 : IntKind.i64.wrap (c : Int) = (c : Int) := IntWalk.i64_in _ (by omega)
  go_enter Try.func113, Try.ntmps113
  obtain ⟨b, off, rfl, hb, _⟩ := hr.2 0 x rfl
  have hnew : (w.alloc (.cells (madeCells #[.int .i64 0] c) 3)).heap[w.heap.size]? = some (.cells (madeCells #[.int .i64 0] c) 3) := World.alloc_heap_new w _
  have hr1 := hr.grow (Gr.al w (.cells (madeCells #[.int .i64 0] c) 3))
  have hsrc : ∀ j v, (repi 1 x)[j]? = some v → (w.alloc (.cells (madeCells #[.int .i64 0] c) 3)).cell? ((Addr.mk b off none).add j) = some v := by
    intro j v hv
    obtain ⟨b', off', e', _, hc⟩ := hr1.2 0 x rfl
    injection e' with e'
    injection e' with e1 e2 _
    subst e1; subst e2
    have h := hc j v (by simpa [repi] using hv)
    rw [WideShapes.add_plain]
    simpa using h
  have hcp := run_copy_wide (P := Try.prog) _ 24 24 3 3 w.heap.size 0 c c ⟨b, off, none⟩ 1 cap 1 1 _ 3 (repi 1 x) Try.underlying24 infoI1 hnew (Nat.min_eq_left h1) (by rw [repi_len]) hsrc (by rw [repi_len, size_madeCells]; omega) (repi_one 1 x)
  rw [World.setRow_alloc_new, show goInt ((1 : Nat) : Int) = .int .i64 1 from rfl] at hcp
  obtain ⟨rest, hrest⟩ : ∃ rest : List Value, (madeCells #[Value.int .i64 0] c).toList.drop (0 + (repi 1 x).length) = rest := ⟨_, rfl⟩
  have hlen : rest.length = 1 * (c - 1) := by rw [← hrest, repi_len, List.length_drop, Array.length_toList, size_madeCells]; omega
  rw [hrest, List.take_zero, List.nil_append] at hcp
  have Hlen := Lib.hid hlen
  clear hnew hr1 hsrc hrest hlen hr
  go_wp2_with (go_at_call 124; refine (mul_one64 c h2 _).mono ?_; rintro e w1 ⟨rfl, rfl⟩)
  clear hmk hcp d0 d1
  go_loopw [8] (fun n wr => Hid (∃ k : Nat, ∃ rest : List Value, n = .int .i64 k ∧ 1 ≤ k ∧ k ≤ c ∧ Gr w1 wr ∧ wr.heap[w1.heap.size]? = some (.cells (repi k x ++ rest).toArray 3) ∧ rest.length = 1 * (c - k))) (fun n _ => c - (intOf n).toNat)
  case atStart => exact Lib.hid ⟨1, rest, rfl, Nat.le_refl _, h1, Gr.al _ _, World.alloc_heap_new _ _, Hlen.out⟩
  case round =>
    obtain ⟨k, rest, rfl, hk1, hkc, gw, hB, hl⟩ := hrel.out
    clear hrel
    by_cases hlt : k < c
    · obtain ⟨m, hm⟩ : ∃ m, Nat.min k (c - k) = m := ⟨_, rfl⟩
      have hm' : min k (c - k) = m := hm
      have m1 : 1 ≤ m := by omega
      have m2 : k + m ≤ c := by omega
      have hmk' : m ≤ k := by omega
      have hBd : wr.drew.heap[w1.heap.size]? = some (.cells (repi k x ++ rest).toArray 3) := hB
      have hsrc : ∀ j v, (repi m x)[j]? = some v → wr.drew.cell? ((Addr.mk w1.heap.size 0 none).add j) = some v := by
        intro j v hv
        have hj : j < 1 * m := by
          have := (List.getElem?_eq_some_iff.1 hv).1
          rwa [repi_len] at this
        have hc : wr.drew.cell? ⟨w1.heap.size, 0 + j, none⟩ = (repi k x ++ rest)[0 + j]? := by
          unfold World.cell?
          rw [hBd]
          simp
        have ek : repi k x = repi m x ++ repi (k - m) x := by rw [← repi_add]; congr 1; omega
        rw [WideShapes.add_plain, hc, Nat.zero_add, ek, List.append_assoc, List.getElem?_append_left (by rw [repi_len]; exact hj)]
        exact hv
      have hcp := run_copy_wide (P := Try.prog) wr.drew 24 24 3 3 w1.heap.size (k * 1) (c - k) (c - k) ⟨w1.heap.size, 0, none⟩ k c m 1 _ 3 (repi m x) Try.underlying24 infoI1 hBd hm (by rw [repi_len]; omega) hsrc (by simp [repi_len]; omega) (repi_one m x)
      rw [show goInt ((m : Nat) : Int) = .int .i64 (m : Int) from rfl] at hcp
      obtain ⟨row, hrow⟩ : ∃ row, (((repi k x ++ rest).toArray.toList.take (k * 1) ++ repi m x ++ (repi k x ++ rest).toArray.toList.drop (k * 1 + (repi m x).length)).toArray) = row := ⟨_, rfl⟩
      rw [hrow, Nat.mul_one] at hcp
      have e1 : row = (repi (k + m) x ++ rest.drop (1 * m)).toArray := by
        rw [← hrow]
        congr 1
        show (repi k x ++ rest).take (k * 1) ++ repi m x ++ (repi k x ++ rest).drop (k * 1 + (repi m x).length) = _
        rw [repi_len, List.take_append_of_le_length (by rw [repi_len]; omega), List.take_of_length_le (by rw [repi_len]; omega), List.drop_append, repi_len, List.drop_of_length_le (by rw [repi_len]; omega), List.nil_append, repi_add, show k * 1 + 1 * m - 1 * k = 1 * m by omega]
      have hB' : (wr.drew.setRow w1.heap.size row).heap[w1.heap.size]? = some (.cells (repi (k + m) x ++ rest.drop (1 * m)).toArray 3) := by
        rw [← e1]
        exact setRow_heap _ _ _ _ _ _ hBd
      have g' : Gr w1 (wr.drew.setRow w1.heap.size row) := below_setRow (gw.tr (Gr.dr wr)) (Nat.le_refl _) _
      have l' : (rest.drop (1 * m)).length = 1 * (c - (k + m)) := by rw [List.length_drop, hl]; omega
      have v2 : IntKind.i64.wrap ((k : Int) + (m : Int)) = ((k + m : Nat) : Int) := by rw [IntWalk.i64_in _ (by omega)]; omega
      have HN := Lib.hid (And.intro hB' (And.intro g' l'))
      clear hB' g' l' e1 hrow hsrc hBd hB gw hl hm hm'
      go_wp2
      have hmx : Try.prog.follows .mixedOrders = true := by kernel_rfl
      go_region
      go_wp2
      go_roundw
      case rel => exact Lib.hid ⟨k + m, rest.drop (1 * m), by go_num, by omega, m2, HN.out.2.1, HN.out.1, HN.out.2.2⟩
      case measure => simp [intOf]; omega
    · obtain rfl : k = c := by omega
      go_wp2
      go_ret
      refine ⟨_, rfl, ⟨by simp; omega, fun j y hy => ?_⟩, gw⟩
      obtain ⟨hj, e⟩ := List.getElem?_eq_some_iff.1 hy
      have hj' : j < k := by simpa using hj
      have ey : x = y := by simpa using e
      subst ey
      refine ⟨_, _, rfl, (Array.getElem?_eq_some_iff.1 hB).1, fun i v hv => ?_⟩
      have hr0 : rest = [] := List.eq_nil_of_length_eq_zero (by omega)
      have hi4 : i < 1 := by
        have := (List.getElem?_eq_some_iff.1 hv).1
        simpa [encI] using this
      have hc : wr.cell? ⟨w1.heap.size, j * 1 + i, none⟩ = (repi k x)[j * 1 + i]? := by
        unfold World.cell?
        rw [hB, hr0, List.append_nil]
        simp
      rw [Nat.zero_add, hc, repi_at hj' hi4]
      exact hv

end Go.Proofs.Ytcdilmagcdbogaa

namespace Go.Proofs.Ytcdilmagcdbogaa
set_option linter.unusedVariables false
set_option linter.unusedSimpArgs false
open Go.RowKit

theorem mul_one64z (w : World) :
    Calls Try.prog 124 #[.int .u64 1, .int .u64 0] w fun e w' => e = .returned (.tuple #[.int .u64 0, .int .u64 0]) ∧ w' = w := mul_one64 0 (by omega) w

set_option maxRecDepth 100000 in
set_option maxHeartbeats 2000000 in
theorem repeat_int0 (x : Int) (a : Option Addr) (cap : Nat) (w : World) (hr : IRow w a [x]) :
    Calls Try.prog 113 #[.slice a 1 cap, .int .i64 0] w fun e w' => ∃ a', e = .returned (.slice a' 0 0) ∧ (∃ b, a' = some b) ∧ Gr w w' := by
  obtain ⟨i0, hi, hz⟩ := Option.map_eq_some_iff.1 infoInt'
  simp only [Prod.mk.injEq] at hz
  obtain ⟨hz0, hz1, hz2⟩ := hz
  have hmk := run_make (P := Try.prog) w 24 3 i0 _ Try.underlying24 hi hz0 .i64 .i64 0 0 (by omega) (Int.le_refl _) (by omega) (by omega)
  rw [show madeCells (Value.int .i64 0).cells ((0 : Int).toNat * i0.size) = #[] by simp [madeCells]] at hmk
  obtain ⟨b, off, rfl, hb, _⟩ := hr.2 0 x rfl
  have hnew : (w.alloc (.cells #[] 3)).heap[w.heap.size]? = some (.cells #[] 3) := World.alloc_heap_new w _
  have hcp := run_copy_wide (P := Try.prog) _ 24 24 3 3 w.heap.size 0 0 0 ⟨b, off, none⟩ 1 cap 0 1 _ 3 [] Try.underlying24 infoI1 hnew rfl rfl (fun j v h => by simp at h) (by simp) (fun v h => by cases h)
  rw [World.setRow_alloc_new, show goInt ((0 : Nat) : Int) = .int .i64 0 from rfl] at hcp
  clear hnew hr
  go_enter Try.func113, Try.ntmps113
  go_wp2_with (go_at_call 124; refine (mul_one64z _).mono ?_; rintro e w1 ⟨rfl, rfl⟩)
  clear hmk hcp
  go_loopw [8] (fun n wr => Hid (n = .int .i64 0 ∧ Gr w1 wr)) (fun n _ => 0)
  case atStart => exact Lib.hid ⟨rfl, Gr.al _ _⟩
  case round =>
    obtain ⟨rfl, gw⟩ := hrel.out
    clear hrel
    go_wp2
    go_ret
    exact ⟨_, rfl, ⟨_, rfl⟩, gw⟩

/-- However often. -/
theorem repeat_any (x : Int) (c : Nat) (h2 : c ≤ 1000) (a : Option Addr) (cap : Nat) (w : World) (hr : IRow w a [x]) :
    Calls Try.prog 113 #[.slice a 1 cap, .int .i64 (c : Int)] w fun e w' => ∃ a', e = .returned (.slice a' (List.replicate c x).length c) ∧ IRow w' a' (List.replicate c x) ∧ (a' = none → c = 0) ∧ Gr w w' := by
  by_cases h : c = 0
  · subst h
    refine (repeat_int0 x a cap w hr).mono ?_
    rintro e w' ⟨a', rfl, _, g⟩
    exact ⟨a', rfl, RowOf.nil, fun _ => rfl, g⟩
  · refine (repeat_int x c (by omega) h2 a cap w hr).mono ?_
    rintro e w' ⟨a', rfl, hr', g⟩
    refine ⟨a', by simp, hr', fun e => ?_, g⟩
    subst e
    have := irow_nil hr'
    simpa using this

end Go.Proofs.Ytcdilmagcdbogaa

namespace Go.Proofs.Ytcdilmagcdbogaa
set_option linter.unusedVariables false
set_option linter.unusedSimpArgs false
open Go.RowKit

theorem irow_one (v : World) (n : Int) : IRow (v.alloc (.cells (List.toArray [.int .i64 n]) 3)) (some ⟨v.heap.size, 0, none⟩) [n] := by
  have bx := Box.new v [.int .i64 n] 3 v.heap.size rfl
  refine ⟨by simp, fun j y hy => ⟨v.heap.size, 0, rfl, bx.1, fun i u hu => ?_⟩⟩
  have hj : j = 0 := by
    have := (List.getElem?_eq_some_iff.1 hy).1
    simpa using this
  have hi : i = 0 := by
    have := (List.getElem?_eq_some_iff.1 hu).1
    simpa [encI] using this
  subst hj
  subst hi
  simp at hy
  subst hy
  simp [encI] at hu
  subst hu
  exact bx.2 0 _ rfl

theorem repeat_any' (x : Int) (c : Nat) (h2 : c ≤ 1000) (a : Option Addr) (cap : Nat) (w : World) (hr : IRow w a [x]) :
    Calls Try.prog 113 #[.slice a 1 cap, .int .i64 (c : Int)] w fun e w' => ∃ a', e = .returned (.slice a' c c) ∧ IRow w' a' (List.replicate c x) ∧ (a' = none → c = 0) ∧ Gr w w' := by
  refine (repeat_any x c h2 a cap w hr).mono ?_
  rintro e w' ⟨a', rfl, h⟩
  exact ⟨a', by rw [List.length_replicate], h⟩

def stAt (te : Nat) (me low ba off : Int) (rl : List Int) (rd : Int) (k : Nat) : Int := stateL (te : Int) me low ba (truthsL te off (rl ++ List.replicate k rd))

def needL (te : Nat) (me low ba off : Int) (rl : List Int) (st rd : Int) : Int := match (List.range (te + 1 - rl.length)).find? (fun k => decide (stAt te me low ba off rl rd k = st)) with
  | some k => (k : Int)
  | none => -1

set_option maxRecDepth 100000 in
set_option maxHeartbeats 4000000 in
theorem need_any (te : Nat) (me low ba off : Int) (rl : List Int) (ra : Option Addr) (rc : Nat) (st rd : Int) (t1 : te ≤ 1000) (m0 : 0 ≤ me) (m1 : me ≤ 100000) (o0 : 0 ≤ off) (o1 : off ≤ 1000) (a0 : 0 ≤ ba) (a1 : ba ≤ 1000) (hB : ∀ r ∈ rl, 0 ≤ r ∧ r ≤ 100000) (hl : rl.length ≤ te) (r0 : 0 ≤ rd) (r1 : rd ≤ 100000) (w : World) (hr : IRow w ra rl) (hrn : ra = none → rc = 0) :
    Calls Try.prog 76 #[.agg #[.int .i64 (te : Int), .int .i64 me, .int .i64 low, .int .i64 ba, .int .i64 off, .slice ra rl.length rc], .int .i64 st, .int .i64 rd] w fun e w' => e = .returned (.int .i64 (needL te me low ba off rl st rd)) ∧ Gr w w' := by
  have gU := Gr.al w (.cells #[.int .i64 (te : Int), .int .i64 me, .int .i64 low, .int .i64 ba, .int .i64 off, .slice ra rl.length rc] 147)
  have oU := Own.new w [.int .i64 (te : Int), .int .i64 me, .int .i64 low, .int .i64 ba, .int .i64 off, .slice ra rl.length rc] 147 w.heap.size rfl
  obtain ⟨M, hM⟩ : ∃ M : Nat, te + 1 - rl.length = M := ⟨_, rfl⟩
  have v0 : IntKind.i64.wrap ((te : Int) - (rl.length : Int)) = (te : Int) - (rl.length : Int) := IntWalk.i64_in _ (by omega)
  have v1 : IntKind.i64.wrap ((te : Int) - (rl.length : Int) + 1) = (M : Int) := by rw [IntWalk.i64_in _ (by omega)]; omega
  have q0 := oU.1.2 0 _ rfl
  have q5 := oU.1.2 5 _ rfl
  have OU := Lib.hid oU
  have GU := Lib.hid gU
  have HR := Lib.hid hr
  have HB := Lib.hid hB
  clear oU gU hr hB
  go_enter Try.func76, Try.ntmps76
  go_wp2
  clear q0 q5 v0 v1
  go_loopw [16] (fun i wr => Hid (∃ k : Nat, k ≤ M ∧ i = .int .i64 k ∧ (∀ j, j < k → stAt te me low ba off rl rd j ≠ st) ∧ Gr (w.alloc (.cells #[.int .i64 (te : Int), .int .i64 me, .int .i64 low, .int .i64 ba, .int .i64 off, .slice ra rl.length rc] 147)) wr)) (fun i _ => M - (intOf i).toNat)
  case atStart => exact Lib.hid ⟨0, Nat.zero_le _, rfl, fun j hj => by omega, Below.refl _ _⟩
  case round =>
    obtain ⟨k, hk, rfl, hno, gw⟩ := hrel.out
    clear hrel
    have HNO := Lib.hid hno
    clear hno
    by_cases hlt : k < M
    · have hO := OU.out.keep gw
      have hrr := HR.out.grow (GU.out.tr gw)
      have HO := Lib.hid hO
      have HRR := Lib.hid hrr
      have GW := Lib.hid gw
      obtain ⟨sk, hsk⟩ : ∃ sk, stAt te me low ba off rl rd k = sk := ⟨_, rfl⟩
      have hbd : ∀ r ∈ rl ++ List.replicate k rd, 0 ≤ r ∧ r ≤ 100000 := fun r h => by
        rcases List.mem_append.1 h with h | h
        · exact HB.out r h
        · rw [(List.mem_replicate.1 h).2]; exact ⟨r0, r1⟩
      have hlen : (rl ++ List.replicate k rd).length ≤ 100000 := by simp; omega
      clear hO hrr gw
      go_upto_region 4 with fail
      refine wp_region_facts 7 [(2, 1), (4, 2), (4, 3), (5, 0), (5, 4)] (fun x => ⟨#[.agg #[.int .i64 (te : Int), .int .i64 me, .int .i64 low, .int .i64 ba, .int .i64 off, .slice ra rl.length rc], .int .i64 st, .int .i64 rd, .pointer (some ⟨w.heap.size, 0, none⟩), undef, undef, u6, .int .i64 (k : Int), .pointer (some ⟨w.heap.size, 0, none⟩), .pointer (some ⟨w.heap.size, 0, none⟩), .int .i64 (te : Int), .pointer (some ⟨w.heap.size, 5, none⟩), .slice ra rl.length rc, .int .i64 (rl.length : Int), .int .i64 ((te : Int) - (rl.length : Int)), .int .i64 (M : Int), .int .i64 (k : Int), .bool true, .int .i64 (k : Int), x 0, x 1, x 2, x 3, x 4, x 5, x 6, u26, u27, u28], []⟩) (fun i => [u19, u20, u21, u22, u23, u24, u25].getD i undef) [fun _ x => x = .agg #[.int .i64 (te : Int), .int .i64 me, .int .i64 low, .int .i64 ba, .int .i64 off, .slice ra rl.length rc], fun _ x => x = .int .i64 rd, fun v x => ∃ b, x = .slice (some ⟨b, 0, none⟩) 1 1 ∧ IRow v (some ⟨b, 0, none⟩) [rd], fun _ x => x = .int .i64 (k : Int), fun v x => ∃ a, x = .slice a k k ∧ IRow v a (List.replicate k rd) ∧ (a = none → k = 0), fun _ x => x = .int .i64 sk, fun _ x => x = .int .i64 st] (by rfl) (by kernel_rfl) (by kernel_rfl) (by kernel_rfl) (stays_cons (Stays.eq _) (stays_cons (Stays.eq _) (stays_cons ((show Stays (fun v x => ∃ b, x = .slice (some ⟨b, 0, none⟩) 1 1 ∧ IRow v (some ⟨b, 0, none⟩) [rd]) from fun v v' x g ⟨b, h, r⟩ => ⟨b, h, r.grow g⟩)) (stays_cons (Stays.eq _) (stays_cons ((show Stays (fun v x => ∃ a, x = .slice a k k ∧ IRow v a (List.replicate k rd) ∧ (a = none → k = 0)) from fun v v' x g ⟨a, h, r, n⟩ => ⟨a, h, r.grow g, n⟩)) (stays_cons (Stays.eq _) (stays_cons (Stays.eq _) stays_nil))))))) ?step4 ?fin4
      case step4 =>
        rintro i hi x v gv hd K hK
        have hi8 : i = 0 ∨ i = 1 ∨ i = 2 ∨ i = 3 ∨ i = 4 ∨ i = 5 ∨ i = 6 := by omega
        rcases hi8 with rfl | rfl | rfl | rfl | rfl | rfl | rfl
        · show wpOp Try.prog _ _ 0 K (⟨#[.agg #[.int .i64 (te : Int), .int .i64 me, .int .i64 low, .int .i64 ba, .int .i64 off, .slice ra rl.length rc], .int .i64 st, .int .i64 rd, .pointer (some ⟨w.heap.size, 0, none⟩), undef, undef, u6, .int .i64 (k : Int), .pointer (some ⟨w.heap.size, 0, none⟩), .pointer (some ⟨w.heap.size, 0, none⟩), .int .i64 (te : Int), .pointer (some ⟨w.heap.size, 5, none⟩), .slice ra rl.length rc, .int .i64 (rl.length : Int), .int .i64 ((te : Int) - (rl.length : Int)), .int .i64 (M : Int), .int .i64 (k : Int), .bool true, .int .i64 (k : Int), x 0, x 1, x 2, x 3, x 4, x 5, x 6, u26, u27, u28], []⟩ : Act) v
          refine wpOp_step rfl (fun K' hK' => ?_)
          have p0 := ((HO.out.keep gv).1.2 0 _ rfl)
          have p1 := ((HO.out.keep gv).1.2 1 _ rfl)
          have p2 := ((HO.out.keep gv).1.2 2 _ rfl)
          have p3 := ((HO.out.keep gv).1.2 3 _ rfl)
          have p4 := ((HO.out.keep gv).1.2 4 _ rfl)
          have p5 := ((HO.out.keep gv).1.2 5 _ rfl)
          go_simp
          exact hK' _ _ (hK _ _ (Below.refl _ _) (at_of rfl (rfl)))
        · show wpOp Try.prog _ _ 1 K (⟨#[.agg #[.int .i64 (te : Int), .int .i64 me, .int .i64 low, .int .i64 ba, .int .i64 off, .slice ra rl.length rc], .int .i64 st, .int .i64 rd, .pointer (some ⟨w.heap.size, 0, none⟩), undef, undef, u6, .int .i64 (k : Int), .pointer (some ⟨w.heap.size, 0, none⟩), .pointer (some ⟨w.heap.size, 0, none⟩), .int .i64 (te : Int), .pointer (some ⟨w.heap.size, 5, none⟩), .slice ra rl.length rc, .int .i64 (rl.length : Int), .int .i64 ((te : Int) - (rl.length : Int)), .int .i64 (M : Int), .int .i64 (k : Int), .bool true, .int .i64 (k : Int), x 0, x 1, x 2, x 3, x 4, x 5, x 6, u26, u27, u28], []⟩ : Act) v
          refine wpOp_step rfl (fun K' hK' => ?_)
          go_simp
          exact hK' _ _ (hK _ _ (Below.refl _ _) (at_of rfl (rfl)))
        · obtain ⟨x, rfl⟩ := upd_of (show x 1 = .int .i64 rd from hd 1 _ (by simp) rfl)
          show wpOp Try.prog _ _ 2 K (⟨#[.agg #[.int .i64 (te : Int), .int .i64 me, .int .i64 low, .int .i64 ba, .int .i64 off, .slice ra rl.length rc], .int .i64 st, .int .i64 rd, .pointer (some ⟨w.heap.size, 0, none⟩), undef, undef, u6, .int .i64 (k : Int), .pointer (some ⟨w.heap.size, 0, none⟩), .pointer (some ⟨w.heap.size, 0, none⟩), .int .i64 (te : Int), .pointer (some ⟨w.heap.size, 5, none⟩), .slice ra rl.length rc, .int .i64 (rl.length : Int), .int .i64 ((te : Int) - (rl.length : Int)), .int .i64 (M : Int), .int .i64 (k : Int), .bool true, .int .i64 (k : Int), x 0, .int .i64 rd, x 2, x 3, x 4, x 5, x 6, u26, u27, u28], []⟩ : Act) v
          refine wpOp_step rfl (fun K' hK' => ?_)
          go_simp
          have hg := Gr.al v (.cells (List.toArray [.int .i64 rd]) 3)
          exact hK' _ _ (hK _ _ hg (at_of rfl (⟨_, rfl, irow_one v rd⟩)))
        · show wpOp Try.prog _ _ 3 K (⟨#[.agg #[.int .i64 (te : Int), .int .i64 me, .int .i64 low, .int .i64 ba, .int .i64 off, .slice ra rl.length rc], .int .i64 st, .int .i64 rd, .pointer (some ⟨w.heap.size, 0, none⟩), undef, undef, u6, .int .i64 (k : Int), .pointer (some ⟨w.heap.size, 0, none⟩), .pointer (some ⟨w.heap.size, 0, none⟩), .int .i64 (te : Int), .pointer (some ⟨w.heap.size, 5, none⟩), .slice ra rl.length rc, .int .i64 (rl.length : Int), .int .i64 ((te : Int) - (rl.length : Int)), .int .i64 (M : Int), .int .i64 (k : Int), .bool true, .int .i64 (k : Int), x 0, x 1, x 2, x 3, x 4, x 5, x 6, u26, u27, u28], []⟩ : Act) v
          refine wpOp_step rfl (fun K' hK' => ?_)
          go_simp
          exact hK' _ _ (hK _ _ (Below.refl _ _) (at_of rfl (rfl)))
        · obtain ⟨b2, e2, h2⟩ := hd 2 _ (by simp) rfl
          obtain ⟨x, rfl⟩ := upd_of (show x 2 = .slice (some ⟨b2, 0, none⟩) 1 1 from e2)
          obtain ⟨x, rfl⟩ := upd_of (show x 3 = .int .i64 (k : Int) from hd 3 _ (by simp) rfl)
          show wpOp Try.prog _ _ 4 K (⟨#[.agg #[.int .i64 (te : Int), .int .i64 me, .int .i64 low, .int .i64 ba, .int .i64 off, .slice ra rl.length rc], .int .i64 st, .int .i64 rd, .pointer (some ⟨w.heap.size, 0, none⟩), undef, undef, u6, .int .i64 (k : Int), .pointer (some ⟨w.heap.size, 0, none⟩), .pointer (some ⟨w.heap.size, 0, none⟩), .int .i64 (te : Int), .pointer (some ⟨w.heap.size, 5, none⟩), .slice ra rl.length rc, .int .i64 (rl.length : Int), .int .i64 ((te : Int) - (rl.length : Int)), .int .i64 (M : Int), .int .i64 (k : Int), .bool true, .int .i64 (k : Int), x 0, x 1, .slice (some ⟨b2, 0, none⟩) 1 1, .int .i64 (k : Int), x 4, x 5, x 6, u26, u27, u28], []⟩ : Act) v
          refine wpOp_step rfl (fun K' hK' => ?_)
          go_simp
          refine (repeat_any' rd k (by omega) (some ⟨b2, 0, none⟩) 1 v h2).mono ?_
          rintro e v' ⟨a4, rfl, hr4, hn4, hg⟩
          exact hK' _ _ (hK _ _ hg (at_of rfl (⟨_, rfl, hr4, hn4⟩)))
        · obtain ⟨x, rfl⟩ := upd_of (show x 0 = .agg #[.int .i64 (te : Int), .int .i64 me, .int .i64 low, .int .i64 ba, .int .i64 off, .slice ra rl.length rc] from hd 0 _ (by simp) rfl)
          obtain ⟨a4, e4, h4, n4⟩ := hd 4 _ (by simp) rfl
          obtain ⟨x, rfl⟩ := upd_of (show x 4 = .slice a4 k k from e4)
          show wpOp Try.prog _ _ 5 K (⟨#[.agg #[.int .i64 (te : Int), .int .i64 me, .int .i64 low, .int .i64 ba, .int .i64 off, .slice ra rl.length rc], .int .i64 st, .int .i64 rd, .pointer (some ⟨w.heap.size, 0, none⟩), undef, undef, u6, .int .i64 (k : Int), .pointer (some ⟨w.heap.size, 0, none⟩), .pointer (some ⟨w.heap.size, 0, none⟩), .int .i64 (te : Int), .pointer (some ⟨w.heap.size, 5, none⟩), .slice ra rl.length rc, .int .i64 (rl.length : Int), .int .i64 ((te : Int) - (rl.length : Int)), .int .i64 (M : Int), .int .i64 (k : Int), .bool true, .int .i64 (k : Int), .agg #[.int .i64 (te : Int), .int .i64 me, .int .i64 low, .int .i64 ba, .int .i64 off, .slice ra rl.length rc], x 1, x 2, x 3, .slice a4 k k, x 5, x 6, u26, u27, u28], []⟩ : Act) v
          refine wpOp_step rfl (fun K' hK' => ?_)
          go_simp
          have c := state_any te me low ba off rl (List.replicate k rd) ra a4 rc k t1 m0 m1 o0 o1 a0 a1 hbd hlen v (HRR.out.grow gv) hrn h4 n4
          rw [List.length_replicate, show stateL (te : Int) me low ba (truthsL te off (rl ++ List.replicate k rd)) = sk from hsk] at c
          refine c.mono ?_
          rintro e v' ⟨rfl, hg⟩
          exact hK' _ _ (hK _ _ hg (at_of rfl (rfl)))
        · show wpOp Try.prog _ _ 6 K (⟨#[.agg #[.int .i64 (te : Int), .int .i64 me, .int .i64 low, .int .i64 ba, .int .i64 off, .slice ra rl.length rc], .int .i64 st, .int .i64 rd, .pointer (some ⟨w.heap.size, 0, none⟩), undef, undef, u6, .int .i64 (k : Int), .pointer (some ⟨w.heap.size, 0, none⟩), .pointer (some ⟨w.heap.size, 0, none⟩), .int .i64 (te : Int), .pointer (some ⟨w.heap.size, 5, none⟩), .slice ra rl.length rc, .int .i64 (rl.length : Int), .int .i64 ((te : Int) - (rl.length : Int)), .int .i64 (M : Int), .int .i64 (k : Int), .bool true, .int .i64 (k : Int), x 0, x 1, x 2, x 3, x 4, x 5, x 6, u26, u27, u28], []⟩ : Act) v
          refine wpOp_step rfl (fun K' hK' => ?_)
          go_simp
          exact hK' _ _ (hK _ _ (Below.refl _ _) (at_of rfl (rfl)))
      case fin4 =>
        rintro x v gv hd
        obtain ⟨x, rfl⟩ := upd_of (show x 5 = .int .i64 sk from hd 5 _ (by omega) rfl)
        obtain ⟨x, rfl⟩ := upd_of (show x 6 = .int .i64 st from hd 6 _ (by omega) rfl)
        clear hd
        show wpList Try.prog _ _ (List.drop 7 _) (⟨#[.agg #[.int .i64 (te : Int), .int .i64 me, .int .i64 low, .int .i64 ba, .int .i64 off, .slice ra rl.length rc], .int .i64 st, .int .i64 rd, .pointer (some ⟨w.heap.size, 0, none⟩), undef, undef, u6, .int .i64 (k : Int), .pointer (some ⟨w.heap.size, 0, none⟩), .pointer (some ⟨w.heap.size, 0, none⟩), .int .i64 (te : Int), .pointer (some ⟨w.heap.size, 5, none⟩), .slice ra rl.length rc, .int .i64 (rl.length : Int), .int .i64 ((te : Int) - (rl.length : Int)), .int .i64 (M : Int), .int .i64 (k : Int), .bool true, .int .i64 (k : Int), x 0, x 1, x 2, x 3, x 4, .int .i64 sk, .int .i64 st, u26, u27, u28], []⟩ : Act) v
        simp only [List.drop_succ_cons, List.drop_zero]
        have gZ := Lib.hid ((GU.out.tr GW.out).tr gv)
        have gY := Lib.hid (GW.out.tr gv)
        clear gv
        by_cases hE : sk = st
        · subst hE
          go_wp2
          go_ret
          refine ⟨?_, gZ.out⟩
          have hf : (List.range (te + 1 - rl.length)).find? (fun k => decide (stAt te me low ba off rl rd k = sk)) = some k := by
            rw [List.find?_range_eq_some]
            exact ⟨by simpa using hsk, List.mem_range.2 (by omega), fun j hj => by simpa using HNO.out j hj⟩
          unfold needL
          rw [hf]
          rfl
        · go_wp2
          go_roundw
          case rel =>
            refine Lib.hid ⟨k + 1, by omega, by go_num, fun j hj => ?_, gY.out⟩
            by_cases hjk : j = k
            · subst hjk
              rw [hsk]
              exact hE
            · exact HNO.out j (by omega)
          case measure => simp [intOf]; omega
    · obtain rfl : k = M := by omega
      go_wp2
      go_ret
      refine ⟨?_, GU.out.tr gw⟩
      have hf : (List.range (te + 1 - rl.length)).find? (fun k => decide (stAt te me low ba off rl rd k = st)) = none := by
        rw [List.find?_range_eq_none]
        intro j hj
        have := HNO.out j (by omega)
        simpa using this
      unfold needL
      rw [hf]
      rfl

end Go.Proofs.Ytcdilmagcdbogaa

namespace Go.Proofs.Ytcdilmagcdbogaa
set_option linter.unusedVariables false
set_option linter.unusedSimpArgs false
open Go.RowKit

set_option maxRecDepth 100000 in
set_option maxHeartbeats 4000000 in
theorem needF_ok (te me lo ba off : Int) (l : List Int) (h : ruleL te me lo ba off l = 0) (a : Option Addr) (cap : Nat) (w : World) (hr : IRow w a l) (hn : a = none → cap = 0) :
    Calls Try.prog 22 #[.agg #[.int .i64 te, .int .i64 me, .int .i64 lo, .int .i64 ba], .slice a l.length cap, .int .i64 off] w fun e w' => e = .returned (.tuple #[.int .i64 (needL te.toNat me lo ba off l 1 100000), .int .i64 (needL te.toNat me lo ba off l 2 0), .int .i64 0]) ∧ Gr w w' := by
  obtain ⟨⟨x0, x1⟩, ⟨x2, x3⟩, ⟨x4, x5⟩, ⟨x6, x7⟩, x8, x9⟩ := rule_parts h
  obtain ⟨n, rfl⟩ : ∃ n : Nat, te = (n : Int) := ⟨te.toNat, by omega⟩
  rw [Int.toNat_natCast]
  have oU := Own.new w [.int .i64 (n : Int), .int .i64 me, .int .i64 lo, .int .i64 ba] 23 w.heap.size rfl
  have gU := Gr.al w (.cells #[.int .i64 (n : Int), .int .i64 me, .int .i64 lo, .int .i64 ba] 23)
  have hR : ∀ W, Gr w W → Calls Try.prog 20 #[.agg #[.int .i64 (n : Int), .int .i64 me, .int .i64 lo, .int .i64 ba], .slice a l.length cap, .int .i64 off] W fun e w' => e = .returned (.int .i64 0) ∧ Gr W w' := fun W g => by
    have := rule_any (n : Int) me lo ba off l a cap W (hr.grow g)
    rw [h] at this
    exact this
  have hS : ∀ (st rd : Int), 0 ≤ rd → rd ≤ 100000 → ∀ W, Gr w W → Calls Try.prog 76 #[.agg #[.int .i64 (n : Int), .int .i64 me, .int .i64 lo, .int .i64 ba, .int .i64 off, .slice a l.length cap], .int .i64 st, .int .i64 rd] W fun e w' => e = .returned (.int .i64 (needL n me lo ba off l st rd)) ∧ Gr W w' := fun st rd r0 r1 W g =>
    need_any n me lo ba off l a cap st rd (by omega) (by omega) (by omega) (by omega) (by omega) (by omega) (by omega) x9 (by omega) r0 r1 W (hr.grow g) hn
  have HR := Lib.hid hR
  have HS := Lib.hid hS
  obtain ⟨q0, q1, q2, q3⟩ := oU.1.c4'
  have OU := Lib.hid oU
  have GU := Lib.hid gU
  clear hR hS oU gU h
  go_enter Try.func22, Try.ntmps22
  go_wp2_with fail
  refine (HR.out _ GU.out).mono ?_
  rintro e w1 ⟨rfl, g1⟩
  obtain ⟨q0, q1, q2, q3⟩ := (OU.out.keep g1).1.c4'
  have G1 := Lib.hid (GU.out.tr g1)
  have bx := Box.new w1 [.int .i64 (n : Int), .int .i64 me, .int .i64 lo, .int .i64 ba, .int .i64 off, .slice a l.length cap] 147 w1.heap.size rfl
  have BX := Lib.hid bx
  clear g1 bx
  go_upto_region 5 with fail
  have GV := Lib.hid (G1.out.tr (Gr.al w1 (.cells #[.int .i64 (n : Int), .int .i64 me, .int .i64 lo, .int .i64 ba, .int .i64 off, .slice a l.length cap] 147)))
  clear q0 q1 q2 q3
  refine wp_region_facts 5 [(1, 0), (3, 2), (4, 1)] (fun x => ⟨#[.agg #[.int .i64 (n : Int), .int .i64 me, .int .i64 lo, .int .i64 ba], .slice a l.length cap, .int .i64 off, .pointer (some ⟨w.heap.size, 0, none⟩), undef, undef, x 4, .int .i64 0, .int .i64 0, .int .i64 0, .pointer (some ⟨w1.heap.size, 0, none⟩), .agg #[.int .i64 (n : Int), .int .i64 me, .int .i64 lo, .int .i64 ba], .slice a l.length cap, .int .i64 off, .int .i64 0, .int .i64 0, .bool false, undef, .agg #[.int .i64 (n : Int), .int .i64 me, .int .i64 lo, .int .i64 ba], .int .i64 off, .agg #[.int .i64 off], .slice a l.length cap, .agg #[.int .i64 (n : Int), .int .i64 me, .int .i64 lo, .int .i64 ba, .int .i64 off, .slice a l.length cap], x 0, x 1, x 2, x 3], []⟩) (fun i => [undef, undef, undef, undef, .int .i64 0].getD i undef) [fun _ x => x = .agg #[.int .i64 (n : Int), .int .i64 me, .int .i64 lo, .int .i64 ba, .int .i64 off, .slice a l.length cap], fun _ x => x = .int .i64 (needL n me lo ba off l 1 100000), fun _ x => x = .agg #[.int .i64 (n : Int), .int .i64 me, .int .i64 lo, .int .i64 ba, .int .i64 off, .slice a l.length cap], fun _ x => x = .int .i64 (needL n me lo ba off l 2 0), fun _ x => x = .int .i64 (needL n me lo ba off l 1 100000)] (by rfl) (by kernel_rfl) (by kernel_rfl) (by kernel_rfl) (stays_cons (Stays.eq _) (stays_cons (Stays.eq _) (stays_cons (Stays.eq _) (stays_cons (Stays.eq _) (stays_cons (Stays.eq _) stays_nil))))) ?step5 ?fin5
  case step5 =>
    rintro i hi x v gv hd K hK
    have hi8 : i = 0 ∨ i = 1 ∨ i = 2 ∨ i = 3 ∨ i = 4 := by omega
    rcases hi8 with rfl | rfl | rfl | rfl | rfl
    · show wpOp Try.prog _ _ 0 K (⟨#[.agg #[.int .i64 (n : Int), .int .i64 me, .int .i64 lo, .int .i64 ba], .slice a l.length cap, .int .i64 off, .pointer (some ⟨w.heap.size, 0, none⟩), undef, undef, x 4, .int .i64 0, .int .i64 0, .int .i64 0, .pointer (some ⟨w1.heap.size, 0, none⟩), .agg #[.int .i64 (n : Int), .int .i64 me, .int .i64 lo, .int .i64 ba], .slice a l.length cap, .int .i64 off, .int .i64 0, .int .i64 0, .bool false, undef, .agg #[.int .i64 (n : Int), .int .i64 me, .int .i64 lo, .int .i64 ba], .int .i64 off, .agg #[.int .i64 off], .slice a l.length cap, .agg #[.int .i64 (n : Int), .int .i64 me, .int .i64 lo, .int .i64 ba, .int .i64 off, .slice a l.length cap], x 0, x 1, x 2, x 3], []⟩ : Act) v
      refine wpOp_step rfl (fun K' hK' => ?_)
      have p0 := ((BX.out.keep gv).2 0 _ rfl)
      have p1 := ((BX.out.keep gv).2 1 _ rfl)
      have p2 := ((BX.out.keep gv).2 2 _ rfl)
      have p3 := ((BX.out.keep gv).2 3 _ rfl)
      have p4 := ((BX.out.keep gv).2 4 _ rfl)
      have p5 := ((BX.out.keep gv).2 5 _ rfl)
      go_simp
      exact hK' _ _ (hK _ _ (Below.refl _ _) (at_of rfl (rfl)))
    · obtain ⟨x, rfl⟩ := upd_of (show x 0 = .agg #[.int .i64 (n : Int), .int .i64 me, .int .i64 lo, .int .i64 ba, .int .i64 off, .slice a l.length cap] from hd 0 _ (by simp) rfl)
      show wpOp Try.prog _ _ 1 K (⟨#[.agg #[.int .i64 (n : Int), .int .i64 me, .int .i64 lo, .int .i64 ba], .slice a l.length cap, .int .i64 off, .pointer (some ⟨w.heap.size, 0, none⟩), undef, undef, x 4, .int .i64 0, .int .i64 0, .int .i64 0, .pointer (some ⟨w1.heap.size, 0, none⟩), .agg #[.int .i64 (n : Int), .int .i64 me, .int .i64 lo, .int .i64 ba], .slice a l.length cap, .int .i64 off, .int .i64 0, .int .i64 0, .bool false, undef, .agg #[.int .i64 (n : Int), .int .i64 me, .int .i64 lo, .int .i64 ba], .int .i64 off, .agg #[.int .i64 off], .slice a l.length cap, .agg #[.int .i64 (n : Int), .int .i64 me, .int .i64 lo, .int .i64 ba, .int .i64 off, .slice a l.length cap], .agg #[.int .i64 (n : Int), .int .i64 me, .int .i64 lo, .int .i64 ba, .int .i64 off, .slice a l.length cap], x 1, x 2, x 3], []⟩ : Act) v
      refine wpOp_step rfl (fun K' hK' => ?_)
      go_simp
      refine (HS.out 1 100000 (by omega) (by omega) v (GV.out.tr gv)).mono ?_
      rintro e v' ⟨rfl, hg⟩
      exact hK' _ _ (hK _ _ hg (at_of rfl (rfl)))
    · show wpOp Try.prog _ _ 2 K (⟨#[.agg #[.int .i64 (n : Int), .int .i64 me, .int .i64 lo, .int .i64 ba], .slice a l.length cap, .int .i64 off, .pointer (some ⟨w.heap.size, 0, none⟩), undef, undef, x 4, .int .i64 0, .int .i64 0, .int .i64 0, .pointer (some ⟨w1.heap.size, 0, none⟩), .agg #[.int .i64 (n : Int), .int .i64 me, .int .i64 lo, .int .i64 ba], .slice a l.length cap, .int .i64 off, .int .i64 0, .int .i64 0, .bool false, undef, .agg #[.int .i64 (n : Int), .int .i64 me, .int .i64 lo, .int .i64 ba], .int .i64 off, .agg #[.int .i64 off], .slice a l.length cap, .agg #[.int .i64 (n : Int), .int .i64 me, .int .i64 lo, .int .i64 ba, .int .i64 off, .slice a l.length cap], x 0, x 1, x 2, x 3], []⟩ : Act) v
      refine wpOp_step rfl (fun K' hK' => ?_)
      have p0 := ((BX.out.keep gv).2 0 _ rfl)
      have p1 := ((BX.out.keep gv).2 1 _ rfl)
      have p2 := ((BX.out.keep gv).2 2 _ rfl)
      have p3 := ((BX.out.keep gv).2 3 _ rfl)
      have p4 := ((BX.out.keep gv).2 4 _ rfl)
      have p5 := ((BX.out.keep gv).2 5 _ rfl)
      go_simp
      exact hK' _ _ (hK _ _ (Below.refl _ _) (at_of rfl (rfl)))
    · obtain ⟨x, rfl⟩ := upd_of (show x 2 = .agg #[.int .i64 (n : Int), .int .i64 me, .int .i64 lo, .int .i64 ba, .int .i64 off, .slice a l.length cap] from hd 2 _ (by simp) rfl)
      show wpOp Try.prog _ _ 3 K (⟨#[.agg #[.int .i64 (n : Int), .int .i64 me, .int .i64 lo, .int .i64 ba], .slice a l.length cap, .int .i64 off, .pointer (some ⟨w.heap.size, 0, none⟩), undef, undef, x 4, .int .i64 0, .int .i64 0, .int .i64 0, .pointer (some ⟨w1.heap.size, 0, none⟩), .agg #[.int .i64 (n : Int), .int .i64 me, .int .i64 lo, .int .i64 ba], .slice a l.length cap, .int .i64 off, .int .i64 0, .int .i64 0, .bool false, undef, .agg #[.int .i64 (n : Int), .int .i64 me, .int .i64 lo, .int .i64 ba], .int .i64 off, .agg #[.int .i64 off], .slice a l.length cap, .agg #[.int .i64 (n : Int), .int .i64 me, .int .i64 lo, .int .i64 ba, .int .i64 off, .slice a l.length cap], x 0, x 1, .agg #[.int .i64 (n : Int), .int .i64 me, .int .i64 lo, .int .i64 ba, .int .i64 off, .slice a l.length cap], x 3], []⟩ : Act) v
      refine wpOp_step rfl (fun K' hK' => ?_)
      go_simp
      refine (HS.out 2 0 (by omega) (by omega) v (GV.out.tr gv)).mono ?_
      rintro e v' ⟨rfl, hg⟩
      exact hK' _ _ (hK _ _ hg (at_of rfl (rfl)))
    · obtain ⟨x, rfl⟩ := upd_of (show x 1 = .int .i64 (needL n me lo ba off l 1 100000) from hd 1 _ (by simp) rfl)
      show wpOp Try.prog _ _ 4 K (⟨#[.agg #[.int .i64 (n : Int), .int .i64 me, .int .i64 lo, .int .i64 ba], .slice a l.length cap, .int .i64 off, .pointer (some ⟨w.heap.size, 0, none⟩), undef, undef, x 4, .int .i64 0, .int .i64 0, .int .i64 0, .pointer (some ⟨w1.heap.size, 0, none⟩), .agg #[.int .i64 (n : Int), .int .i64 me, .int .i64 lo, .int .i64 ba], .slice a l.length cap, .int .i64 off, .int .i64 0, .int .i64 0, .bool false, undef, .agg #[.int .i64 (n : Int), .int .i64 me, .int .i64 lo, .int .i64 ba], .int .i64 off, .agg #[.int .i64 off], .slice a l.length cap, .agg #[.int .i64 (n : Int), .int .i64 me, .int .i64 lo, .int .i64 ba, .int .i64 off, .slice a l.length cap], x 0, .int .i64 (needL n me lo ba off l 1 100000), x 2, x 3], []⟩ : Act) v
      refine wpOp_step rfl (fun K' hK' => ?_)
      go_simp
      exact hK' _ _ (hK _ _ (Below.refl _ _) (at_of rfl (rfl)))
  case fin5 =>
    rintro x v gv hd
    obtain ⟨x, rfl⟩ := upd_of (show x 3 = .int .i64 (needL n me lo ba off l 2 0) from hd 3 _ (by omega) rfl)
    obtain ⟨x, rfl⟩ := upd_of (show x 4 = .int .i64 (needL n me lo ba off l 1 100000) from hd 4 _ (by omega) rfl)
    clear hd
    show wpList Try.prog _ _ (List.drop 5 _) (⟨#[.agg #[.int .i64 (n : Int), .int .i64 me, .int .i64 lo, .int .i64 ba], .slice a l.length cap, .int .i64 off, .pointer (some ⟨w.heap.size, 0, none⟩), undef, undef, .int .i64 (needL n me lo ba off l 1 100000), .int .i64 0, .int .i64 0, .int .i64 0, .pointer (some ⟨w1.heap.size, 0, none⟩), .agg #[.int .i64 (n : Int), .int .i64 me, .int .i64 lo, .int .i64 ba], .slice a l.length cap, .int .i64 off, .int .i64 0, .int .i64 0, .bool false, undef, .agg #[.int .i64 (n : Int), .int .i64 me, .int .i64 lo, .int .i64 ba], .int .i64 off, .agg #[.int .i64 off], .slice a l.length cap, .agg #[.int .i64 (n : Int), .int .i64 me, .int .i64 lo, .int .i64 ba, .int .i64 off, .slice a l.length cap], x 0, x 1, x 2, .int .i64 (needL n me lo ba off l 2 0)], []⟩ : Act) v
    simp only [List.drop_succ_cons, List.drop_zero]
    have GZ := Lib.hid (GV.out.tr gv)
    clear gv
    go_wp2
    exact bodyPost_ret (v := .tuple #[.int .i64 (needL n me lo ba off l 1 100000), .int .i64 (needL n me lo ba off l 2 0), .int .i64 0]) (by simp [results, Try.results22, go_sem]) rfl ⟨rfl, GZ.out⟩

end Go.Proofs.Ytcdilmagcdbogaa

namespace Go.Proofs.Ytcdilmagcdbogaa
set_option linter.unusedVariables false
set_option linter.unusedSimpArgs false
open Go.RowKit

theorem sumHi_rep (x : Ld) : ∀ n : Nat, sumHi (List.replicate n x) = x.wh * (n : Int)
  | 0 => by simp [sumHi]
  | n + 1 => by
    rw [List.replicate_succ, sumHi, sumHi_rep x n]
    rw [show ((n + 1 : Nat) : Int) = (n : Int) + 1 by omega, Int.mul_add, Int.mul_one]
    omega

theorem weakAt_rep {x : Ld} {keep : Int} {n k : Nat} (hk : k < n) : weakAt (List.replicate n x) keep k = decide (x.sl * keep / 1000 < x.wh * ((n - 1 - k : Nat) : Int)) := by
  have e : (List.replicate n x)[k]? = some x := by simp [hk]
  unfold weakAt
  rw [e]
  simp only [List.drop_replicate]
  rw [sumHi_rep, show n - (k + 1) = n - 1 - k by omega]

/-- A stack of equal boxes is weak where the others are too heavy for the lowest one. -/
theorem weak_rep {x : Ld} {keep : Int} (h0 : 0 ≤ x.wh) (n : Nat) : weakV (List.replicate (n + 1) x) keep = .tuple #[.int .i64 0, .bool (decide (x.sl * keep / 1000 < x.wh * (n : Int)))] := by
  unfold weakV
  cases hd : decide (x.sl * keep / 1000 < x.wh * (n : Int)) with
  | true =>
    rw [weakO_some (k := 0) (by simp) (by rw [weakAt_rep (by omega)]; simpa using hd) (fun j hj => by omega)]
    rfl
  | false =>
    rw [weakO_none (fun k hk => by
      have hk' : k < n + 1 := by simpa using hk
      rw [weakAt_rep hk']
      have h1 : x.wh * ((n + 1 - 1 - k : Nat) : Int) ≤ x.wh * (n : Int) := Int.mul_le_mul_of_nonneg_left (by omega) h0
      simp only [decide_eq_false_iff_not] at hd ⊢
      omega)]

theorem callHigh (args : Array Value) (W : World) : (callFunc 97 args).run Try.prog W = .ok (.enter 97 args) W := by kernel_rfl

set_option maxRecDepth 100000 in
set_option maxHeartbeats 2000000 in
theorem highClosure (X : Ld) (hx : LdOk X) (keep : Int) (k0 : 0 ≤ keep) (k1 : keep ≤ 1000) (h : Nat) (hh : h < 1000 - 1) (b1 b2 : Nat) (a : Option Addr) (cap : Nat) (W : World) (q1 : W.cell? ⟨b1, 0, none⟩ = some (.slice a 1 cap)) (q2 : W.cell? ⟨b2, 0, none⟩ = some (.int .i64 keep)) (hr : LRow W a [X]) :
    Calls Try.prog 97 #[.int .i64 (h : Int), .pointer (some ⟨b1, 0, none⟩), .pointer (some ⟨b2, 0, none⟩)] W fun e W' => e = .returned (.bool (decide (X.sl * keep / 1000 < X.wh * (h : Int)))) ∧ Gr W W' := by
  have hw0 : 0 ≤ X.wh := hx.1.2.2.1
  obtain ⟨d, hd⟩ : ∃ d, decide (X.sl * keep / 1000 < X.wh * (h : Int)) = d := ⟨_, rfl⟩
  have hwk : weakV (List.replicate (h + 1) X) keep = .tuple #[.int .i64 0, .bool d] := by rw [weak_rep hw0, hd]
  have hall : ∀ y ∈ List.replicate (h + 1) X, LdOk y := fun y hy => by rw [(List.mem_replicate.1 hy).2]; exact hx
  have hlen : (List.replicate (h + 1) X).length = h + 1 := by simp
  have e0 : IntKind.i64.wrap ((h : Int) + 1) = ((h + 1 : Nat) : Int) := by rw [IntWalk.i64_in _ (by omega)]; omega
  rw [hd]
  clear hd
  go_enter Try.func97, Try.ntmps97
  go_upto_region 1 with fail
  refine wp_region_facts 10 [(2, 1), (3, 0), (3, 2), (5, 3), (5, 4), (6, 5), (7, 6), (8, 6), (9, 7)] (fun x => ⟨#[.int .i64 (h : Int), .pointer (some ⟨b1, 0, none⟩), .pointer (some ⟨b2, 0, none⟩), undef, .bool false, x 9, undef, x 6, x 0, x 1, x 2, x 3, x 4, x 5, x 7, x 8, undef], []⟩) (fun _ => undef) [fun _ x => x = .slice a 1 cap, fun _ x => x = .int .i64 (h : Int), fun _ x => x = .int .i64 ((h + 1 : Nat) : Int), fun v x => ∃ a, x = .slice a (h + 1) (h + 1) ∧ LRow v a (List.replicate (h + 1) X), fun _ x => x = .int .i64 keep, fun _ x => x = .tuple #[.int .i64 0, .bool d], fun _ x => x = .tuple #[.int .i64 0, .bool d], fun _ x => x = .int .i64 0, fun _ x => x = .bool d, fun _ x => x = .int .i64 0] (by rfl) (by kernel_rfl) (by kernel_rfl) (by kernel_rfl) (stays_cons (Stays.eq _) (stays_cons (Stays.eq _) (stays_cons (Stays.eq _) (stays_cons ((show Stays (fun v x => ∃ a, x = .slice a (h + 1) (h + 1) ∧ LRow v a (List.replicate (h + 1) X)) from fun v v' x g ⟨a, h, r⟩ => ⟨a, h, r.grow g⟩)) (stays_cons (Stays.eq _) (stays_cons (Stays.eq _) (stays_cons (Stays.eq _) (stays_cons (Stays.eq _) (stays_cons (Stays.eq _) (stays_cons (Stays.eq _) stays_nil)))))))))) ?step1 ?fin1
  case step1 =>
    rintro i hi x v gv hd K hK
    have hi8 : i = 0 ∨ i = 1 ∨ i = 2 ∨ i = 3 ∨ i = 4 ∨ i = 5 ∨ i = 6 ∨ i = 7 ∨ i = 8 ∨ i = 9 := by omega
    rcases hi8 with rfl | rfl | rfl | rfl | rfl | rfl | rfl | rfl | rfl | rfl
    · show wpOp Try.prog _ _ 0 K (⟨#[.int .i64 (h : Int), .pointer (some ⟨b1, 0, none⟩), .pointer (some ⟨b2, 0, none⟩), undef, .bool false, x 9, undef, x 6, x 0, x 1, x 2, x 3, x 4, x 5, x 7, x 8, undef], []⟩ : Act) v
      refine wpOp_step rfl (fun K' hK' => ?_)
      have q := gv.keep q1
      go_simp
      exact hK' _ _ (hK _ _ (Below.refl _ _) (at_of rfl (rfl)))
    · show wpOp Try.prog _ _ 1 K (⟨#[.int .i64 (h : Int), .pointer (some ⟨b1, 0, none⟩), .pointer (some ⟨b2, 0, none⟩), undef, .bool false, x 9, undef, x 6, x 0, x 1, x 2, x 3, x 4, x 5, x 7, x 8, undef], []⟩ : Act) v
      refine wpOp_step rfl (fun K' hK' => ?_)
      go_simp
      exact hK' _ _ (hK _ _ (Below.refl _ _) (at_of rfl (rfl)))
    · obtain ⟨x, rfl⟩ := upd_of (show x 1 = .int .i64 (h : Int) from hd 1 _ (by simp) rfl)
      show wpOp Try.prog _ _ 2 K (⟨#[.int .i64 (h : Int), .pointer (some ⟨b1, 0, none⟩), .pointer (some ⟨b2, 0, none⟩), undef, .bool false, x 9, undef, x 6, x 0, .int .i64 (h : Int), x 2, x 3, x 4, x 5, x 7, x 8, undef], []⟩ : Act) v
      refine wpOp_step rfl (fun K' hK' => ?_)
      go_simp
      exact hK' _ _ (hK _ _ (Below.refl _ _) (at_of rfl (rfl)))
    · obtain ⟨x, rfl⟩ := upd_of (show x 0 = .slice a 1 cap from hd 0 _ (by simp) rfl)
      obtain ⟨x, rfl⟩ := upd_of (show x 2 = .int .i64 ((h + 1 : Nat) : Int) from hd 2 _ (by simp) rfl)
      show wpOp Try.prog _ _ 3 K (⟨#[.int .i64 (h : Int), .pointer (some ⟨b1, 0, none⟩), .pointer (some ⟨b2, 0, none⟩), undef, .bool false, x 9, undef, x 6, .slice a 1 cap, x 1, .int .i64 ((h + 1 : Nat) : Int), x 3, x 4, x 5, x 7, x 8, undef], []⟩ : Act) v
      refine wpOp_step rfl (fun K' hK' => ?_)
      go_simp
      refine (repeat_one X (h + 1) (by omega) (by omega) a cap v (hr.grow gv)).mono ?_
      rintro e v' ⟨a3, rfl, hr3, hg⟩
      exact hK' _ _ (hK _ _ hg (at_of rfl (⟨_, rfl, hr3⟩)))
    · show wpOp Try.prog _ _ 4 K (⟨#[.int .i64 (h : Int), .pointer (some ⟨b1, 0, none⟩), .pointer (some ⟨b2, 0, none⟩), undef, .bool false, x 9, undef, x 6, x 0, x 1, x 2, x 3, x 4, x 5, x 7, x 8, undef], []⟩ : Act) v
      refine wpOp_step rfl (fun K' hK' => ?_)
      have q := gv.keep q2
      go_simp
      exact hK' _ _ (hK _ _ (Below.refl _ _) (at_of rfl (rfl)))
    · obtain ⟨a3, e3, r3⟩ := hd 3 _ (by simp) rfl
      obtain ⟨x, rfl⟩ := upd_of (show x 3 = .slice a3 (h + 1) (h + 1) from e3)
      obtain ⟨x, rfl⟩ := upd_of (show x 4 = .int .i64 keep from hd 4 _ (by simp) rfl)
      show wpOp Try.prog _ _ 5 K (⟨#[.int .i64 (h : Int), .pointer (some ⟨b1, 0, none⟩), .pointer (some ⟨b2, 0, none⟩), undef, .bool false, x 9, undef, x 6, x 0, x 1, x 2, .slice a3 (h + 1) (h + 1), .int .i64 keep, x 5, x 7, x 8, undef], []⟩ : Act) v
      refine wpOp_step rfl (fun K' hK' => ?_)
      go_simp
      have c := weak_any (List.replicate (h + 1) X) (by rw [hlen]; omega) hall keep k0 k1 a3 (h + 1) v r3
      rw [hlen, hwk] at c
      refine c.mono ?_
      rintro e v' ⟨rfl, hg⟩
      exact hK' _ _ (hK _ _ hg (at_of rfl (rfl)))
    · obtain ⟨x, rfl⟩ := upd_of (show x 5 = .tuple #[.int .i64 0, .bool d] from hd 5 _ (by simp) rfl)
      show wpOp Try.prog _ _ 6 K (⟨#[.int .i64 (h : Int), .pointer (some ⟨b1, 0, none⟩), .pointer (some ⟨b2, 0, none⟩), undef, .bool false, x 9, undef, x 6, x 0, x 1, x 2, x 3, x 4, .tuple #[.int .i64 0, .bool d], x 7, x 8, undef], []⟩ : Act) v
      refine wpOp_step rfl (fun K' hK' => ?_)
      go_simp
      exact hK' _ _ (hK _ _ (Below.refl _ _) (at_of rfl (rfl)))
    · obtain ⟨x, rfl⟩ := upd_of (show x 6 = .tuple #[.int .i64 0, .bool d] from hd 6 _ (by simp) rfl)
      show wpOp Try.prog _ _ 7 K (⟨#[.int .i64 (h : Int), .pointer (some ⟨b1, 0, none⟩), .pointer (some ⟨b2, 0, none⟩), undef, .bool false, x 9, undef, .tuple #[.int .i64 0, .bool d], x 0, x 1, x 2, x 3, x 4, x 5, x 7, x 8, undef], []⟩ : Act) v
      refine wpOp_step rfl (fun K' hK' => ?_)
      go_simp
      exact hK' _ _ (hK _ _ (Below.refl _ _) (at_of rfl (rfl)))
    · obtain ⟨x, rfl⟩ := upd_of (show x 6 = .tuple #[.int .i64 0, .bool d] from hd 6 _ (by simp) rfl)
      show wpOp Try.prog _ _ 8 K (⟨#[.int .i64 (h : Int), .pointer (some ⟨b1, 0, none⟩), .pointer (some ⟨b2, 0, none⟩), undef, .bool false, x 9, undef, .tuple #[.int .i64 0, .bool d], x 0, x 1, x 2, x 3, x 4, x 5, x 7, x 8, undef], []⟩ : Act) v
      refine wpOp_step rfl (fun K' hK' => ?_)
      go_simp
      exact hK' _ _ (hK _ _ (Below.refl _ _) (at_of rfl (rfl)))
    · obtain ⟨x, rfl⟩ := upd_of (show x 7 = .int .i64 0 from hd 7 _ (by simp) rfl)
      show wpOp Try.prog _ _ 9 K (⟨#[.int .i64 (h : Int), .pointer (some ⟨b1, 0, none⟩), .pointer (some ⟨b2, 0, none⟩), undef, .bool false, x 9, undef, x 6, x 0, x 1, x 2, x 3, x 4, x 5, .int .i64 0, x 8, undef], []⟩ : Act) v
      refine wpOp_step rfl (fun K' hK' => ?_)
      go_simp
      exact hK' _ _ (hK _ _ (Below.refl _ _) (at_of rfl (rfl)))
  case fin1 =>
    rintro x v gv hd
    obtain ⟨x, rfl⟩ := upd_of (show x 8 = .bool d from hd 8 _ (by omega) rfl)
    clear hd
    show wpList Try.prog _ _ (List.drop 10 _) (⟨#[.int .i64 (h : Int), .pointer (some ⟨b1, 0, none⟩), .pointer (some ⟨b2, 0, none⟩), undef, .bool false, x 9, undef, x 6, x 0, x 1, x 2, x 3, x 4, x 5, x 7, .bool d, undef], []⟩ : Act) v
    simp only [List.drop_succ_cons, List.drop_zero]
    go_wp2
    go_ret
    exact ⟨rfl, gv⟩

theorem mono_high {s h : Int} (h0 : 0 ≤ h) : ∀ a b : Int, 0 ≤ a → a ≤ b → b < 50 → decide (s < h * a) = true → decide (s < h * b) = true := fun a b ha hab _ hd => by
  have := Int.mul_le_mul_of_nonneg_left hab h0
  simp only [decide_eq_true_eq] at hd ⊢
  omega

theorem high_calls {x : Ld} (HX : Hid (LdOk x)) {B8 Bb : Nat} {keep : Int} {U W1 W2 : World} (O8 : Hid (Own U B8 [.slice (some ⟨Bb, 0, none⟩) 1 1])) (RB : Hid (LRow U (some ⟨Bb, 0, none⟩) [x])) (G1 : Hid (Gr U W1)) (G2 : Hid (Gr W1 W2)) (k0 : 0 ≤ keep) (k1 : keep ≤ 1000) :
    ∀ (h : Int) (W : World), Gr (W2.alloc (.cells #[.int .i64 keep] 3)) W → 0 ≤ h → h < 50 → Calls Try.prog 97 #[.int .i64 h, .pointer (some ⟨B8, 0, none⟩), .pointer (some ⟨W2.heap.size, 0, none⟩)] W fun e W' => e = .returned (.bool (decide (x.sl * keep / 1000 < x.wh * h))) ∧ Gr W W' := by
  intro h W g h0 h1
  obtain ⟨k, rfl⟩ : ∃ k : Nat, h = (k : Int) := ⟨h.toNat, by omega⟩
  have gg : Gr U W := ((G1.out.tr G2.out).tr (Gr.al _ _)).tr g
  exact highClosure x HX.out keep k0 k1 k (by omega) B8 W2.heap.size _ 1 W ((O8.out.keep gg).1.c1) (((Own.new W2 [.int .i64 keep] 3 _ rfl).keep g).1.c1) (RB.out.grow gg)

set_option maxRecDepth 100000 in
set_option maxHeartbeats 2000000 in
/-- High of what is valid: how many stand. -/
theorem high_ok (x : Ld) (hx : LdOk x) (t : List Stp) (days : Int) (hs : storedL 1 [x] t days = 0) (hn : t.length ≤ 1000000) (hp : t.Pairwise (fun x y => x.day ≤ y.day)) (h0 : 0 < (untilL t days).length) (h1 : (untilL t days).length ≤ t.length) (k0 : 0 ≤ lastL t days) (k1 : lastL t days ≤ 1000)
    (c : Option Addr) (cc : Nat) (hcc : t.length ≤ cc) (w : World) (ht : TRow w c t) :
    Calls Try.prog 45 #[.agg #[.int .i64 x.sl, .int .i64 x.sh, .int .i64 x.wl, .int .i64 x.wh], .slice c t.length cc, .int .i64 days] w fun e w' => ∃ r, e = .returned (.tuple #[.int .i64 r, .int .i64 0]) ∧ 0 ≤ r ∧ r ≤ 50 ∧ (∀ a, 0 ≤ a → a < r → decide (x.sl * lastL t days / 1000 < x.wh * a) = false) ∧ (∀ a, r ≤ a → a < 50 → decide (x.sl * lastL t days / 1000 < x.wh * a) = true) ∧ Gr w w' := by
  have hw0 : 0 ≤ x.wh := hx.1.2.2.1
  have HS := Lib.hid hs
  have HP := Lib.hid hp
  have HX := Lib.hid hx
  clear hs hp hx
  go_enter Try.func45, Try.ntmps45
  go_upto_region 2 with fail
  have gU := (Gr.al w (.cells #[.int .i64 x.sl, .int .i64 x.sh, .int .i64 x.wl, .int .i64 x.wh] 70)).tr ((Gr.al _ (.cells #[.int .i64 x.sl, .int .i64 x.sh, .int .i64 x.wl, .int .i64 x.wh] 70)).tr (Gr.al _ (.cells #[.slice (some ⟨w.heap.size + 1, 0, none⟩) 1 1] 53)))
  have oB := (Own.new (w.alloc (.cells #[.int .i64 x.sl, .int .i64 x.sh, .int .i64 x.wl, .int .i64 x.wh] 70)) [.int .i64 x.sl, .int .i64 x.sh, .int .i64 x.wl, .int .i64 x.wh] 70 (w.heap.size + 1) (by simp)).keep (Gr.al _ (.cells #[.slice (some ⟨w.heap.size + 1, 0, none⟩) 1 1] 53))
  have o8 := Own.new ((w.alloc (.cells #[.int .i64 x.sl, .int .i64 x.sh, .int .i64 x.wl, .int .i64 x.wh] 70)).alloc (.cells #[.int .i64 x.sl, .int .i64 x.sh, .int .i64 x.wl, .int .i64 x.wh] 70)) [.slice (some ⟨w.heap.size + 1, 0, none⟩) 1 1] 53 (w.heap.size + 1 + 1) (by simp)
  refine wp_abs (fun U => Gr w U ∧ Own U (w.heap.size + 1) [.int .i64 x.sl, .int .i64 x.sh, .int .i64 x.wl, .int .i64 x.wh] ∧ Own U (w.heap.size + 1 + 1) [.slice (some ⟨w.heap.size + 1, 0, none⟩) 1 1]) ⟨gU, oB, o8⟩ ?_
  clear gU oB o8
  rintro U ⟨gU, oB, o8⟩
  have rB : LRow U (some ⟨w.heap.size + 1, 0, none⟩) [x] := by
    refine ⟨by simp, fun j y hy => ?_⟩
    have hj : j = 0 := by
      have := (List.getElem?_eq_some_iff.1 hy).1
      simpa using this
    subst hj
    have ey : x = y := by simpa using hy
    subst ey
    exact ⟨_, _, rfl, oB.1.1, fun i v hv => by simpa using oB.1.2 i v hv⟩
  have q8 := o8.1.c1
  have RB := Lib.hid rB
  have O8 := Lib.hid o8
  have GU := Lib.hid gU
  clear oB o8 rB gU
  have cS : ∀ W, Gr U W → Calls Try.prog 88 #[.slice (some ⟨w.heap.size + 1, 0, none⟩) 1 1, .int .i64 1, .slice c t.length cc, .int .i64 days] W fun e w' => e = .returned (.int .i64 0) ∧ Gr W w' := fun W g => by
    have h := stored_any 1 [x] t days (some ⟨w.heap.size + 1, 0, none⟩) c 1 cc W (RB.out.grow g) (ht.grow (GU.out.tr g))
    rw [HS.out] at h
    exact h
  have CS := Lib.hid cS
  clear cS
  go_wp2_with (first
    | (go_at_call 88; refine (CS.out _ (Below.refl _ _)).mono ?_; rintro e w1 ⟨rfl, g1⟩; have G1 := Lib.hid g1; clear g1)
    | (go_at_call 95; refine (last_any t days hn HP.out h0 h1 c cc hcc _ (ht.grow (GU.out.tr G1.out))).mono ?_; rintro e w2 ⟨rfl, g2⟩; have G2 := Lib.hid g2; clear g2)
    | (go_at_call 96; refine (search2 50 (by omega) (by omega) (fun a => decide (x.sl * lastL t days / 1000 < x.wh * a)) (mono_high hw0) 97 (.pointer (some ⟨w.heap.size + 1 + 1, 0, none⟩)) (.pointer (some ⟨w2.heap.size, 0, none⟩)) _ callHigh (high_calls HX O8 RB G1 G2 k0 k1)).mono ?_; rintro e w3 ⟨r, rfl, r0, r1, hlo, hhi, g3⟩))
  go_ret2
  exact ⟨r, rfl, r0, r1, hlo, hhi, ((GU.out.tr (G1.out.tr G2.out)).tr (Gr.al _ _)).tr g3⟩

end Go.Proofs.Ytcdilmagcdbogaa

namespace Go.Proofs.Ytcdilmagcdbogaa
set_option linter.unusedVariables false
set_option linter.unusedSimpArgs false
open Go.RowKit

theorem armSpan_any (a b : Int) (w : World) :
    Calls Try.prog 33 #[.int .i64 a, .int .i64 b] w fun e w' => e = .returned (.agg #[.int .i64 a, .int .i64 b]) ∧ Gr w w' := by
  go_enter Try.func33, Try.ntmps33
  go_wp2
  exact bodyPost_ret (v := .agg #[.int .i64 a, .int .i64 b]) (by simp [results, Try.results33, go_sem]) rfl ⟨rfl, Gr.al _ _⟩

end Go.Proofs.Ytcdilmagcdbogaa

namespace Go.Proofs.Ytcdilmagcdbogaa
set_option linter.unusedVariables false
set_option linter.unusedSimpArgs false
open Go.RowKit

theorem strong_lo : strongB 1600 587 5000 4000 = 74226 := by
  unfold strongB
  rw [show (4000 : Int) * 1600 = 6400000 from rfl, rootL_is (n := 6400000) (r := 2529) (by omega) (by omega) (by omega) (by omega)]
  rfl

theorem strong_hi : strongB 1600 587 6000 4200 = 91290 := by
  unfold strongB
  rw [show (4200 : Int) * 1600 = 6720000 from rfl, rootL_is (n := 6720000) (r := 2592) (by omega) (by omega) (by omega) (by omega)]
  rfl

theorem crush1 (w : World) : Calls Try.prog 31 #[.agg #[.int .i64 5000, .int .i64 6000, .int .i64 4000, .int .i64 4200, .int .i64 1600, .int .i64 587]] w fun e w' => e = .returned (.tuple #[.agg #[.int .i64 74226, .int .i64 91290], .int .i64 0]) ∧ Gr w w' := by
  have h := crushStrength_ok 5000 6000 4000 4200 1600 587 (by decide +kernel) w
  rw [strong_lo, strong_hi] at h
  exact h

def ld0 : Ld := ⟨300, 320, 100, 110⟩

def ts0 : List Stp := [⟨0, 1000⟩, ⟨10, 800⟩, ⟨30, 600⟩]

theorem stored0 : storedL 1 [ld0] ts0 10 = 0 := by decide +kernel

theorem until0 : (untilL ts0 10).length = 2 := by decide +kernel

theorem last0 : lastL ts0 10 = 800 := by decide +kernel

theorem high1 (c : Option Addr) (w : World) (ht : TRow w c ts0) : Calls Try.prog 45 #[.agg #[.int .i64 300, .int .i64 320, .int .i64 100, .int .i64 110], .slice c 3 3, .int .i64 10] w fun e w' => e = .returned (.tuple #[.int .i64 3, .int .i64 0]) ∧ Gr w w' := by
  have h := high_ok ld0 (by simp [LdOk, LdB, ld0]) ts0 10 stored0 (by simp [ts0]) (by simp [ts0]) (by rw [until0]; omega) (by rw [until0]; simp [ts0]) (by rw [last0]; omega) (by rw [last0]; omega) c 3 (by simp [ts0]) w ht
  rw [last0] at h
  refine h.mono ?_
  rintro e w' ⟨r, rfl, r0, r1, hlo, hhi, g⟩
  obtain rfl : r = 3 := by
    rcases Int.lt_trichotomy r 3 with h | h | h
    · have := hhi 2 (by omega) (by omega)
      simp [ld0] at this
    · exact h
    · have := hlo 3 (by omega) h
      simp [ld0] at this
  exact ⟨rfl, g⟩

end Go.Proofs.Ytcdilmagcdbogaa

namespace Go.Proofs.Ytcdilmagcdbogaa
set_option linter.unusedVariables false
set_option linter.unusedSimpArgs false
open Go.RowKit

theorem RowOf.lit31 {α : Type} {enc : α → List Value} {sz : Nat} (he : ∀ x, (enc x).length = sz) (w : World) (t : TypeId) (l : List α) (hl : l.length ≤ 9223372036854775807) (cs : Array Value) (hcs : cs = (l.flatMap enc).toArray) (n : Nat) (hn : n = w.heap.size) : RowOf sz enc (w.alloc (.cells cs t)) (some ⟨n, 0, none⟩) l := by
  subst hn hcs
  refine ⟨hl, fun j x hx => ⟨w.heap.size, 0, rfl, by simp, fun i v hv => ?_⟩⟩
  have hf := flat_get he l j i x v hx hv
  refine new_cell w _ t ?_
  simpa using hf

theorem RowOf.take31 {α : Type} {enc : α → List Value} {sz : Nat} {w : World} {a : Option Addr} {l : List α} (h : RowOf sz enc w a l) (n : Nat) : RowOf sz enc w a (l.take n) :=
  ⟨by have := h.1; rw [List.length_take]; omega, fun j x hx => h.2 j x (by
    rw [List.getElem?_take] at hx
    split at hx
    · exact hx
    · cases hx)⟩

set_option maxRecDepth 100000 in
theorem load_any (a b c d : Int) (w : World) :
    Calls Try.prog 59 #[.int .i64 a, .int .i64 b, .int .i64 c, .int .i64 d] w fun e w' => e = .returned (.agg #[.int .i64 a, .int .i64 b, .int .i64 c, .int .i64 d]) ∧ Gr w w' := by
  have o8 := Own.new w [.int .i64 0, .int .i64 0, .int .i64 0, .int .i64 0] 70 w.heap.size rfl
  have gg := Gr.al w (.cells #[.int .i64 0, .int .i64 0, .int .i64 0, .int .i64 0] 70)
  have tok0 : True := trivial
  go_enter Try.func59, Try.ntmps59
  go_wp2_with (first
    | (have _t := tok0; clear tok0 _t; go_at_call 33; refine (armSpan_any a b _).mono ?_; rintro e w1 ⟨rfl, g1⟩)
    | (go_at_call 33; refine (armSpan_any c d _).mono ?_; rintro e w2 ⟨rfl, g2⟩; have oX := o8.keep (g1.tr g2); (obtain ⟨q0, q1, q2, q3⟩ := oX.1.c4'); have z0 := oX.2 0; have z1 := oX.2 1; have z2 := oX.2 2; have z3 := oX.2 3))
  have oZ := (((oX.set (i := 0) (v := .int .i64 a) (by simp)).set (i := 1) (v := .int .i64 b) (by simp)).set (i := 2) (v := .int .i64 c) (by simp)).set (i := 3) (v := .int .i64 d) (by simp)
  obtain ⟨y0, y1, y2, y3⟩ := oZ.1.c4'
  exact bodyPost_ret (v := .agg #[.int .i64 a, .int .i64 b, .int .i64 c, .int .i64 d]) (by simp [results, Try.results59, go_sem, y0, y1, y2, y3]) rfl ⟨rfl, (((((gg.tr (g1.tr g2)).setCell (Nat.le_refl _) _).setCell (Nat.le_refl _) _).setCell (Nat.le_refl _) _).setCell (Nat.le_refl _) _)⟩

set_option maxRecDepth 100000 in
theorem table_any (w : World) :
    Calls Try.prog 71 #[] w fun e w' => ∃ a, e = .returned (.slice a 3 3) ∧ TRow w' a ts0 ∧ Gr w w' := by
  have r1 : TRow _ _ ts0 := RowOf.lit31 (enc := encT) (sz := 2) (fun _ => rfl) w 138 ts0 (by simp [ts0]) #[.int .i64 0, .int .i64 1000, .int .i64 10, .int .i64 800, .int .i64 30, .int .i64 600] (by rfl) w.heap.size rfl
  go_enter Try.func71, Try.ntmps71
  go_wp2
  go_ret
  exact ⟨_, rfl, r1, Gr.al _ _⟩

set_option maxRecDepth 100000 in
set_option maxHeartbeats 1000000 in
theorem same_any (l m : List Int) (a b : Option Addr) (c d : Nat) (w : World) (hl : IRow w a l) (hm : IRow w b m) :
    Calls Try.prog 24 #[.slice a l.length c, .slice b m.length d] w fun e w' => e = .returned (.bool (decide (l = m))) ∧ Gr w w' := by
  have hl0 := hl.1
  have hm0 := hm.1
  by_cases hlen : l.length = m.length
  · have hb : ((l.length : Int) != (m.length : Int)) = false := by rw [bne_eq_false_iff_eq]; omega
    go_enter Try.func24, Try.ntmps24
    go_wp2
    go_loopw [5] (fun t wr => Hid (∃ k : Nat, k ≤ l.length ∧ t = .int .i64 k ∧ Gr w wr ∧ l.take k = m.take k)) (fun t _ => l.length - (intOf t).toNat)
    case atStart => exact Lib.hid ⟨0, Nat.zero_le _, rfl, Below.refl _ _, by simp⟩
    case round =>
      obtain ⟨k, hk, rfl, gW, ht⟩ := hrel.out
      clear hrel
      by_cases hlt : k < l.length
      · obtain ⟨x, hx⟩ : ∃ x, l[k]? = some x := ⟨l[k], by simp [hlt]⟩
        obtain ⟨y, hy⟩ : ∃ y, m[k]? = some y := ⟨m[k], by simp [show k < m.length by omega]⟩
        obtain ⟨b1, o1, rfl, h1, c1⟩ := IRow.get (hl.grow gW) hx
        obtain ⟨b2, o2, rfl, h2, c2⟩ := IRow.get (hm.grow gW) hy
        have hlt2 : k < m.length := by omega
        by_cases hxy : x = y
        · have hne : (x != y) = false := by simpa using hxy
          have ht' : l.take (k + 1) = m.take (k + 1) := by rw [List.take_add_one, List.take_add_one, hx, hy, ht, hxy]
          have HT := Lib.hid ht'
          clear ht ht' hx hy hxy
          go_upto_region 6 with fail
          go_quiet (fail)
          go_wp2
          go_roundw
          case rel => exact Lib.hid ⟨k + 1, by omega, by go_num, Gr.drewN gW _, HT.out⟩
          case measure => simp [intOf]; omega
        · have hne : (x != y) = true := by simpa using hxy
          have hD : decide (l = m) = false := by
            rw [decide_eq_false_iff_not]
            intro e
            subst e
            rw [hx] at hy
            cases hy
            exact hxy rfl
          have HD := Lib.hid hD
          clear ht hx hy hxy hD
          go_upto_region 6 with fail
          go_quiet (fail)
          go_wp2
          go_ret
          exact ⟨ret_bool HD.out.symm, Gr.drewN gW _⟩
      · obtain rfl : k = l.length := by omega
        rw [List.take_length, hlen, List.take_length] at ht
        have hD : decide (l = m) = true := by simpa using ht
        have HD := Lib.hid hD
        clear ht hD
        go_wp2
        go_ret
        exact ⟨ret_bool HD.out.symm, gW⟩
  · have hb : ((l.length : Int) != (m.length : Int)) = true := by rw [bne_iff_ne]; omega
    have hD : decide (l = m) = false := by
      rw [decide_eq_false_iff_not]
      intro e
      exact hlen (by rw [e])
    have HD := Lib.hid hD
    clear hD
    go_enter Try.func24, Try.ntmps24
    go_wp2
    go_ret
    exact ⟨ret_bool HD.out.symm, Below.refl _ _⟩

end Go.Proofs.Ytcdilmagcdbogaa

namespace Go.Proofs.Ytcdilmagcdbogaa
set_option linter.unusedVariables false
set_option linter.unusedSimpArgs false
open Go.RowKit

def rd1 : List Int := [120, 110, 90]

def rd2 : List Int := [120, 110, 70, 60]

def rd3 : List Int := [100, 130, 104, 98]

def st3 : List Ld := [ld0, ld0, ld0]

def or3 : List Ld := [⟨100, 100, 50, 50⟩, ⟨200, 200, 100, 100⟩, ⟨40, 40, 60, 60⟩]

def mo3 : List Ld := [⟨100, 100, 50, 50⟩, ⟨40, 40, 60, 60⟩, ⟨50, 50, 60, 60⟩]

def ts1 : List Stp := [⟨0, 1000⟩]

theorem ex_dec1 (b o c : Nat) (w : World) (hr : IRow w (some ⟨b, o, none⟩) rd1) : Calls Try.prog 21 #[.agg #[.int .i64 5, .int .i64 100, .int .i64 80, .int .i64 1], .slice (some ⟨b, o, none⟩) 3 c, .int .i64 5] w fun e w' => e = .returned (.tuple #[.int .i64 3, .int .i64 0]) ∧ Gr w w' := by
  have h := decide_ok 5 100 80 1 5 rd1 (by decide +kernel) (some ⟨b, o, none⟩) c w hr (fun e => by cases e)
  rw [show stateL 5 100 80 1 (truthsL (Int.toNat 5) 5 rd1) = 3 from by decide +kernel] at h
  exact h

theorem ex_dec2 (b o c : Nat) (w : World) (hr : IRow w (some ⟨b, o, none⟩) rd2) : Calls Try.prog 21 #[.agg #[.int .i64 5, .int .i64 100, .int .i64 80, .int .i64 1], .slice (some ⟨b, o, none⟩) 4 c, .int .i64 5] w fun e w' => e = .returned (.tuple #[.int .i64 2, .int .i64 0]) ∧ Gr w w' := by
  have h := decide_ok 5 100 80 1 5 rd2 (by decide +kernel) (some ⟨b, o, none⟩) c w hr (fun e => by cases e)
  rw [show stateL 5 100 80 1 (truthsL (Int.toNat 5) 5 rd2) = 2 from by decide +kernel] at h
  exact h

theorem ex_need (b o c : Nat) (w : World) (hr : IRow w (some ⟨b, o, none⟩) rd1) : Calls Try.prog 22 #[.agg #[.int .i64 5, .int .i64 100, .int .i64 80, .int .i64 1], .slice (some ⟨b, o, none⟩) 3 c, .int .i64 5] w fun e w' => e = .returned (.tuple #[.int .i64 1, .int .i64 2, .int .i64 0]) ∧ Gr w w' := by
  have h := needF_ok 5 100 80 1 5 rd1 (by decide +kernel) (some ⟨b, o, none⟩) c w hr (fun e => by cases e)
  rw [show needL (Int.toNat 5) 100 80 1 5 rd1 1 100000 = 1 from by decide +kernel, show needL (Int.toNat 5) 100 80 1 5 rd1 2 0 = 2 from by decide +kernel] at h
  exact h

theorem ex_odd (b o c : Nat) (w : World) (hr : IRow w (some ⟨b, o, none⟩) rd3) : Calls Try.prog 29 #[.slice (some ⟨b, o, none⟩) 4 c, .int .i64 5, .int .i64 10] w fun e w' => ∃ a d, e = .returned (.tuple #[.slice a 1 d, .int .i64 0]) ∧ IRow w' a [1] ∧ Gr w w' := by
  have h := oddF_ok 5 10 rd3 (by decide) (by decide +kernel) (by decide +kernel) (by decide +kernel) (some ⟨b, o, none⟩) c w hr
  rw [show oddTo 5 10 rd3 rd3.length = [1] from by decide +kernel] at h
  exact h

theorem ex_loads (b o c : Nat) (w : World) (hr : LRow w (some ⟨b, o, none⟩) st3) : Calls Try.prog 37 #[.slice (some ⟨b, o, none⟩) 3 c] w fun e w' => ∃ a d, e = .returned (.tuple #[.slice a 3 d, .int .i64 0]) ∧ SRow w' a [⟨200, 220⟩, ⟨100, 110⟩, ⟨0, 0⟩] ∧ Gr w w' := by
  have h := loads_ok st3 (by decide +kernel) (some ⟨b, o, none⟩) c w hr
  rw [show spansL st3 = [⟨200, 220⟩, ⟨100, 110⟩, ⟨0, 0⟩] from rfl] at h
  exact h

theorem ex_fall1 (b o c : Nat) (a : Option Addr) (w : World) (hr : LRow w (some ⟨b, o, none⟩) st3) (ht : TRow w a ts0) : Calls Try.prog 38 #[.slice (some ⟨b, o, none⟩) 3 c, .slice a 3 3, .int .i64 40] w fun e w' => e = .returned (.tuple #[.int .i64 30, .int .i64 0, .int .i64 0]) ∧ Gr w w' := by
  have h := fall_ok st3 ts0 40 (by decide +kernel) (some ⟨b, o, none⟩) a c 3 (by decide) w hr ht
  rw [show fallV st3 ts0 40 = .tuple #[.int .i64 30, .int .i64 0, .int .i64 0] from by kernel_rfl] at h
  exact h

theorem ex_fall2 (b o c : Nat) (a : Option Addr) (w : World) (hr : LRow w (some ⟨b, o, none⟩) st3) (ht : TRow w a ts0) : Calls Try.prog 38 #[.slice (some ⟨b, o, none⟩) 3 c, .slice a 3 3, .int .i64 29] w fun e w' => e = .returned (.tuple #[.int .i64 0, .int .i64 0, .int .i64 7]) ∧ Gr w w' := by
  have h := fall_ok st3 ts0 29 (by decide +kernel) (some ⟨b, o, none⟩) a c 3 (by decide) w hr ht
  rw [show fallV st3 ts0 29 = .tuple #[.int .i64 0, .int .i64 0, .int .i64 7] from by kernel_rfl] at h
  exact h

theorem ex_order (b o c : Nat) (a : Option Addr) (w : World) (hr : LRow w (some ⟨b, o, none⟩) or3) (ht : TRow w a ts1) : Calls Try.prog 47 #[.slice (some ⟨b, o, none⟩) 3 c, .slice a 1 1, .int .i64 0] w fun e w' => ∃ d n, e = .returned (.tuple #[.slice d 3 n, .int .i64 0]) ∧ IRow w' d [1, 0, 2] ∧ Gr w w' := by
  have h := order_some or3 ts1 0 (by decide +kernel) (by decide +kernel) (some ⟨b, o, none⟩) a c 1 (by decide) w hr ht
  rw [show orderL or3 (lastL ts1 0) (setsL or3 ts1 0) (allN or3) = [1, 0, 2] from by decide +kernel] at h
  exact h

theorem ex_most (b o c : Nat) (a : Option Addr) (w : World) (hr : LRow w (some ⟨b, o, none⟩) mo3) (ht : TRow w a ts1) : Calls Try.prog 48 #[.slice (some ⟨b, o, none⟩) 3 c, .slice a 1 1, .int .i64 0] w fun e w' => ∃ d n, e = .returned (.tuple #[.slice d 2 n, .int .i64 0]) ∧ IRow w' d [0, 1] ∧ Gr w w' := by
  have h := most_ok mo3 ts1 0 (by decide +kernel) (some ⟨b, o, none⟩) a c 1 (by decide) w hr ht
  rw [show mostTo (setsL mo3 ts1 0) (allN mo3 + 1) = [0, 1] from by decide +kernel] at h
  exact h

end Go.Proofs.Ytcdilmagcdbogaa

namespace Go.Proofs.Ytcdilmagcdbogaa
set_option linter.unusedVariables false
set_option linter.unusedSimpArgs false
open Go.RowKit


set_option maxRecDepth 100000 in
set_option maxHeartbeats 8000000 in
theorem known_any (w : World) : Calls Try.prog 18 #[] w fun e w' => e = .returned (.bool true) ∧ Gr w w' := by
  go_enter Try.func18, Try.ntmps18
  go_upto_region 2 with (go_at_call 59; refine (load_any 300 320 100 110 _).mono ?_; rintro e w1 ⟨rfl, g1⟩)
  obtain ⟨B1, hB1⟩ : ∃ B1, B1 = w1.heap.size := ⟨_, rfl⟩
  have b1 := (Box.new w1 [.int .i64 5, .int .i64 100, .int .i64 80, .int .i64 1] 23 B1 hB1).keep (Gr.al _ (.cells #[.int .i64 300, .int .i64 320, .int .i64 100, .int .i64 110] 70))
  have b2 := Box.new (w1.alloc (.cells #[.int .i64 5, .int .i64 100, .int .i64 80, .int .i64 1] 23)) [.int .i64 300, .int .i64 320, .int .i64 100, .int .i64 110] 70 (B1 + 1) (by simp [hB1])
  have gX := g1.tr ((Gr.al w1 (.cells #[.int .i64 5, .int .i64 100, .int .i64 80, .int .i64 1] 23)).tr (Gr.al _ (.cells #[.int .i64 300, .int .i64 320, .int .i64 100, .int .i64 110] 70)))
  rw [← hB1]
  refine wp_abs (fun X => Gr w X ∧ Box X B1 [.int .i64 5, .int .i64 100, .int .i64 80, .int .i64 1] ∧ Box X (B1 + 1) [.int .i64 300, .int .i64 320, .int .i64 100, .int .i64 110]) ⟨gX, b1, b2⟩ ?_
  clear gX b1 b2 hB1 g1
  rintro X ⟨gX, b1, b2⟩
  obtain ⟨q0, q1, q2, q3⟩ := b1.c4'
  go_upto_region 3 with (go_at_call 21; refine (ex_dec1 _ _ _ _ (IRow.new' X 3 rd1 (by decide) _ (by rfl) _ (by rfl))).mono ?_; rintro e w2 ⟨rfl, g⟩)
  replace g := (Gr.al X (.cells #[.int .i64 120, .int .i64 110, .int .i64 90] 3)).tr g
  replace gX := gX.tr g
  replace b1 := b1.keep g
  replace b2 := b2.keep g
  clear q0 q1 q2 q3 g
  obtain ⟨q0, q1, q2, q3⟩ := b1.c4'
  go_upto_region 4 with (go_at_call 21; refine (ex_dec2 _ _ _ _ (IRow.new' w2 3 rd2 (by decide) _ (by rfl) _ (by rfl))).mono ?_; rintro e w3 ⟨rfl, g⟩)
  replace g := (Gr.al w2 (.cells #[.int .i64 120, .int .i64 110, .int .i64 70, .int .i64 60] 3)).tr g
  replace gX := gX.tr g
  replace b1 := b1.keep g
  replace b2 := b2.keep g
  clear q0 q1 q2 q3 g
  obtain ⟨q0, q1, q2, q3⟩ := b1.c4'
  go_upto_region 5 with (go_at_call 22; refine (ex_need _ _ _ _ (IRow.new' w3 3 rd1 (by decide) _ (by rfl) _ (by rfl))).mono ?_; rintro e w4 ⟨rfl, g⟩)
  replace g := (Gr.al w3 (.cells #[.int .i64 120, .int .i64 110, .int .i64 90] 3)).tr g
  replace gX := gX.tr g
  replace b1 := b1.keep g
  replace b2 := b2.keep g
  clear q0 q1 q2 q3 g
  go_upto_region 6 with (go_at_call 29; refine (ex_odd _ _ _ _ (IRow.new' w4 3 rd3 (by decide) _ (by rfl) _ (by rfl))).mono ?_; rintro e w5 ⟨a10, d10, rfl, r10, g⟩)
  replace g := (Gr.al w4 (.cells #[.int .i64 100, .int .i64 130, .int .i64 104, .int .i64 98] 3)).tr g
  replace gX := gX.tr g
  replace b1 := b1.keep g
  replace b2 := b2.keep g
  clear g
  obtain ⟨A10, O10, rfl, _⟩ := r10.addr (by decide)
  have tok0 : True := trivial
  go_upto_region 7 with (first
    | (have _t := tok0; clear tok0 _t; go_at_call 33; refine (armSpan_any 5000 6000 _).mono ?_; rintro e w6 ⟨rfl, g6⟩)
    | (go_at_call 33; refine (armSpan_any 4000 4200 _).mono ?_; rintro e w7 ⟨rfl, g7⟩)
    | (go_at_call 31; refine (crush1 _).mono ?_; rintro e w8 ⟨rfl, g8⟩))
  obtain ⟨B12, hB12⟩ : ∃ B12, B12 = w8.heap.size := ⟨_, rfl⟩
  have b12 := Box.new w8 [.int .i64 74226, .int .i64 91290] 45 B12 hB12
  have g := (g6.tr (g7.tr g8)).tr (Gr.al w8 (.cells #[.int .i64 74226, .int .i64 91290] 45))
  rw [← hB12]
  refine wp_abs (fun Y => Gr w Y ∧ Box Y B1 [.int .i64 5, .int .i64 100, .int .i64 80, .int .i64 1] ∧ Box Y (B1 + 1) [.int .i64 300, .int .i64 320, .int .i64 100, .int .i64 110] ∧ IRow Y (some ⟨A10, O10, none⟩) [1] ∧ Box Y B12 [.int .i64 74226, .int .i64 91290]) ⟨gX.tr g, b1.keep g, b2.keep g, r10.grow g, b12⟩ ?_
  clear gX b1 b2 r10 b12 g g6 g7 g8 hB12
  rintro Y ⟨gX, b1, b2, r10, b12⟩
  obtain ⟨p0, p1, p2, p3⟩ := b2.c4'
  go_upto_region 8 with (go_at_call 37; refine (ex_loads _ _ _ _ (RowOf.lit31 (enc := encL) (sz := 4) (fun _ => rfl) Y 70 st3 (by decide) #[.int .i64 300, .int .i64 320, .int .i64 100, .int .i64 110, .int .i64 300, .int .i64 320, .int .i64 100, .int .i64 110, .int .i64 300, .int .i64 320, .int .i64 100, .int .i64 110] (by rfl) _ rfl)).mono ?_; rintro e w9 ⟨a14, d14, rfl, r14, g⟩)
  replace g := (Gr.al Y (.cells #[.int .i64 300, .int .i64 320, .int .i64 100, .int .i64 110, .int .i64 300, .int .i64 320, .int .i64 100, .int .i64 110, .int .i64 300, .int .i64 320, .int .i64 100, .int .i64 110] 70)).tr g
  replace gX := gX.tr g
  replace b2 := b2.keep g
  replace r10 := r10.grow g
  replace b12 := b12.keep g
  clear g b1 p0 p1 p2 p3
  obtain ⟨A14, O14, rfl, _⟩ := r14.addr (by decide)
  refine (show (∀ s : Nat → Value, Code.wp Try.prog _ _ ⟨#[.bool false, .pointer (some ⟨B1, 0, none⟩), .pointer (some ⟨(B1 + 1), 0, none⟩), .int .i64 3, .int .i64 0, .int .i64 2, .int .i64 0, .int .i64 1, .int .i64 2, .int .i64 0, .slice (some ⟨A10, O10, none⟩) 1 d10, .int .i64 0, .pointer (some ⟨B12, 0, none⟩), .int .i64 0, .slice (some ⟨A14, O14, none⟩) 3 d14, .int .i64 0, undef, undef, undef, undef, undef, undef, undef, undef, undef, undef, undef, undef, s 28, s 29, s 30, s 31, s 32, s 33, s 34, s 35, s 36, s 37, s 38, s 39, s 40, s 41, s 42, s 43, s 44, s 45, s 46, s 47, s 48, s 49, s 50, s 51, s 52, s 53, s 54, s 55, s 56, s 57, s 58, s 59, s 60, s 61, s 62, s 63, s 64, s 65, s 66, s 67, s 68, undef, undef, undef, undef, undef, undef, undef, undef, undef, undef, undef, undef, undef, undef, undef, undef, undef, undef, undef, undef, undef, undef, undef, undef, undef, undef, undef, undef, undef, undef, undef, undef, undef, undef, undef, undef, undef, undef, undef, undef, undef, undef, undef, undef, undef, undef, undef, undef, undef, undef, undef, undef, undef, undef, undef, undef, undef, undef, undef, undef, undef, undef, undef, undef, undef, undef, undef, undef, undef, undef, undef, undef, undef, undef, undef, undef, undef, undef, undef, undef, undef, undef, undef, undef, undef, undef, undef, undef, undef, undef, undef, undef, undef, undef, undef, undef, undef, undef, undef, undef, undef, undef, undef, undef, undef, undef, undef, undef, undef, undef, undef, undef, undef, undef, undef, undef, undef, undef, undef, undef, undef, undef, undef, undef, undef, undef, undef, undef, undef, undef, undef, undef, undef, undef, undef, undef, undef, undef, undef, undef, undef, undef, undef, undef, undef, undef, undef, undef, undef, undef, undef, undef, undef], []⟩ _) → _ from fun h => h ((fun l : List Value => fun i => l.getD i undef) [undef, undef, undef, undef, undef, undef, undef, undef, undef, undef, undef, undef, undef, undef, undef, undef, undef, undef, undef, undef, undef, undef, undef, undef, undef, undef, undef, undef, _, _, _, _, _, _, _, _, _, _, _, _, _, _, _, _, _, _, _, _, _, _, _, _, _, _, _, _, _, _, _, _, _, _, _, _, _, _, _, _, _])) ?_
  intro s
  dsimp only
  refine wp_region_facts 12 [(3, 0), (3, 1), (3, 2), (5, 3), (5, 4), (6, 5), (7, 6), (8, 6), (9, 6), (10, 7), (11, 8)] (fun x => ⟨#[.bool false, .pointer (some ⟨B1, 0, none⟩), .pointer (some ⟨(B1 + 1), 0, none⟩), .int .i64 3, .int .i64 0, .int .i64 2, .int .i64 0, .int .i64 1, .int .i64 2, .int .i64 0, .slice (some ⟨A10, O10, none⟩) 1 d10, .int .i64 0, .pointer (some ⟨B12, 0, none⟩), .int .i64 0, .slice (some ⟨A14, O14, none⟩) 3 d14, .int .i64 0, x 10, x 11, undef, undef, undef, undef, undef, undef, undef, undef, undef, undef, s 28, s 29, s 30, s 31, s 32, s 33, s 34, s 35, s 36, s 37, s 38, s 39, s 40, s 41, s 42, s 43, s 44, s 45, s 46, s 47, s 48, s 49, s 50, s 51, s 52, s 53, s 54, s 55, s 56, s 57, s 58, s 59, s 60, s 61, s 62, s 63, s 64, s 65, s 66, s 67, s 68, x 6, x 0, x 1, x 2, x 3, x 4, x 5, x 7, x 8, x 9, undef, undef, undef, undef, undef, undef, undef, undef, undef, undef, undef, undef, undef, undef, undef, undef, undef, undef, undef, undef, undef, undef, undef, undef, undef, undef, undef, undef, undef, undef, undef, undef, undef, undef, undef, undef, undef, undef, undef, undef, undef, undef, undef, undef, undef, undef, undef, undef, undef, undef, undef, undef, undef, undef, undef, undef, undef, undef, undef, undef, undef, undef, undef, undef, undef, undef, undef, undef, undef, undef, undef, undef, undef, undef, undef, undef, undef, undef, undef, undef, undef, undef, undef, undef, undef, undef, undef, undef, undef, undef, undef, undef, undef, undef, undef, undef, undef, undef, undef, undef, undef, undef, undef, undef, undef, undef, undef, undef, undef, undef, undef, undef, undef, undef, undef, undef, undef, undef, undef, undef, undef, undef, undef, undef, undef, undef, undef, undef, undef, undef, undef, undef, undef, undef, undef, undef, undef, undef, undef, undef, undef, undef, undef], []⟩) (fun _ => undef) [fun _ x => x = .agg #[.int .i64 300, .int .i64 320, .int .i64 100, .int .i64 110], fun _ x => x = .agg #[.int .i64 300, .int .i64 320, .int .i64 100, .int .i64 110], fun _ x => x = .agg #[.int .i64 300, .int .i64 320, .int .i64 100, .int .i64 110], fun v x => ∃ b, x = .slice (some ⟨b, 0, none⟩) 3 3 ∧ LRow v (some ⟨b, 0, none⟩) st3, fun v x => ∃ a, x = .slice a 3 3 ∧ TRow v a ts0, fun _ x => x = .tuple #[.int .i64 30, .int .i64 0, .int .i64 0], fun _ x => x = .tuple #[.int .i64 30, .int .i64 0, .int .i64 0], fun _ x => x = .int .i64 30, fun _ x => x = .int .i64 0, fun _ x => x = .int .i64 0, fun _ x => x = .int .i64 30, fun _ x => x = .int .i64 0] (by rfl) (by kernel_rfl) (by kernel_rfl) (by kernel_rfl) (stays_cons (Stays.eq _) (stays_cons (Stays.eq _) (stays_cons (Stays.eq _) (stays_cons ((show Stays (fun v x => ∃ b, x = .slice (some ⟨b, 0, none⟩) 3 3 ∧ LRow v (some ⟨b, 0, none⟩) st3) from fun v v' x g ⟨b, h, r⟩ => ⟨b, h, r.grow g⟩)) (stays_cons ((show Stays (fun v x => ∃ a, x = .slice a 3 3 ∧ TRow v a ts0) from fun v v' x g ⟨b, h, r⟩ => ⟨b, h, r.grow g⟩)) (stays_cons (Stays.eq _) (stays_cons (Stays.eq _) (stays_cons (Stays.eq _) (stays_cons (Stays.eq _) (stays_cons (Stays.eq _) (stays_cons (Stays.eq _) (stays_cons (Stays.eq _) stays_nil)))))))))))) ?step8 ?fin8
  case step8 =>
    rintro i hi x v gv hd K hK
    have hi8 : i = 0 ∨ i = 1 ∨ i = 2 ∨ i = 3 ∨ i = 4 ∨ i = 5 ∨ i = 6 ∨ i = 7 ∨ i = 8 ∨ i = 9 ∨ i = 10 ∨ i = 11 := by omega
    rcases hi8 with rfl | rfl | rfl | rfl | rfl | rfl | rfl | rfl | rfl | rfl | rfl | rfl
    · show wpOp Try.prog _ _ 0 K (⟨#[.bool false, .pointer (some ⟨B1, 0, none⟩), .pointer (some ⟨(B1 + 1), 0, none⟩), .int .i64 3, .int .i64 0, .int .i64 2, .int .i64 0, .int .i64 1, .int .i64 2, .int .i64 0, .slice (some ⟨A10, O10, none⟩) 1 d10, .int .i64 0, .pointer (some ⟨B12, 0, none⟩), .int .i64 0, .slice (some ⟨A14, O14, none⟩) 3 d14, .int .i64 0, x 10, x 11, undef, undef, undef, undef, undef, undef, undef, undef, undef, undef, s 28, s 29, s 30, s 31, s 32, s 33, s 34, s 35, s 36, s 37, s 38, s 39, s 40, s 41, s 42, s 43, s 44, s 45, s 46, s 47, s 48, s 49, s 50, s 51, s 52, s 53, s 54, s 55, s 56, s 57, s 58, s 59, s 60, s 61, s 62, s 63, s 64, s 65, s 66, s 67, s 68, x 6, x 0, x 1, x 2, x 3, x 4, x 5, x 7, x 8, x 9, undef, undef, undef, undef, undef, undef, undef, undef, undef, undef, undef, undef, undef, undef, undef, undef, undef, undef, undef, undef, undef, undef, undef, undef, undef, undef, undef, undef, undef, undef, undef, undef, undef, undef, undef, undef, undef, undef, undef, undef, undef, undef, undef, undef, undef, undef, undef, undef, undef, undef, undef, undef, undef, undef, undef, undef, undef, undef, undef, undef, undef, undef, undef, undef, undef, undef, undef, undef, undef, undef, undef, undef, undef, undef, undef, undef, undef, undef, undef, undef, undef, undef, undef, undef, undef, undef, undef, undef, undef, undef, undef, undef, undef, undef, undef, undef, undef, undef, undef, undef, undef, undef, undef, undef, undef, undef, undef, undef, undef, undef, undef, undef, undef, undef, undef, undef, undef, undef, undef, undef, undef, undef, undef, undef, undef, undef, undef, undef, undef, undef, undef, undef, undef, undef, undef, undef, undef, undef, undef, undef, undef, undef, undef], []⟩ : Act) v
      refine wpOp_step rfl (fun K' hK' => ?_)
      rw [if_pos (by rfl)]
      refine wp_load_mid 70 _ rfl (B1 + 1) 0 (by rfl) [.int .i64 300, .int .i64 320, .int .i64 100, .int .i64 110] _ (fun j u hu => by rw [Nat.zero_add]; exact (b2.keep gv).2 j u hu) Try.underlying70 rfl (by kernel_rfl) ?_
      exact hK' _ _ (hK _ _ (Below.refl _ _) (at_of rfl (rfl)))
    · show wpOp Try.prog _ _ 1 K (⟨#[.bool false, .pointer (some ⟨B1, 0, none⟩), .pointer (some ⟨(B1 + 1), 0, none⟩), .int .i64 3, .int .i64 0, .int .i64 2, .int .i64 0, .int .i64 1, .int .i64 2, .int .i64 0, .slice (some ⟨A10, O10, none⟩) 1 d10, .int .i64 0, .pointer (some ⟨B12, 0, none⟩), .int .i64 0, .slice (some ⟨A14, O14, none⟩) 3 d14, .int .i64 0, x 10, x 11, undef, undef, undef, undef, undef, undef, undef, undef, undef, undef, s 28, s 29, s 30, s 31, s 32, s 33, s 34, s 35, s 36, s 37, s 38, s 39, s 40, s 41, s 42, s 43, s 44, s 45, s 46, s 47, s 48, s 49, s 50, s 51, s 52, s 53, s 54, s 55, s 56, s 57, s 58, s 59, s 60, s 61, s 62, s 63, s 64, s 65, s 66, s 67, s 68, x 6, x 0, x 1, x 2, x 3, x 4, x 5, x 7, x 8, x 9, undef, undef, undef, undef, undef, undef, undef, undef, undef, undef, undef, undef, undef, undef, undef, undef, undef, undef, undef, undef, undef, undef, undef, undef, undef, undef, undef, undef, undef, undef, undef, undef, undef, undef, undef, undef, undef, undef, undef, undef, undef, undef, undef, undef, undef, undef, undef, undef, undef, undef, undef, undef, undef, undef, undef, undef, undef, undef, undef, undef, undef, undef, undef, undef, undef, undef, undef, undef, undef, undef, undef, undef, undef, undef, undef, undef, undef, undef, undef, undef, undef, undef, undef, undef, undef, undef, undef, undef, undef, undef, undef, undef, undef, undef, undef, undef, undef, undef, undef, undef, undef, undef, undef, undef, undef, undef, undef, undef, undef, undef, undef, undef, undef, undef, undef, undef, undef, undef, undef, undef, undef, undef, undef, undef, undef, undef, undef, undef, undef, undef, undef, undef, undef, undef, undef, undef, undef, undef, undef, undef, undef, undef, undef], []⟩ : Act) v
      refine wpOp_step rfl (fun K' hK' => ?_)
      rw [if_pos (by rfl)]
      refine wp_load_mid 70 _ rfl (B1 + 1) 0 (by rfl) [.int .i64 300, .int .i64 320, .int .i64 100, .int .i64 110] _ (fun j u hu => by rw [Nat.zero_add]; exact (b2.keep gv).2 j u hu) Try.underlying70 rfl (by kernel_rfl) ?_
      exact hK' _ _ (hK _ _ (Below.refl _ _) (at_of rfl (rfl)))
    · show wpOp Try.prog _ _ 2 K (⟨#[.bool false, .pointer (some ⟨B1, 0, none⟩), .pointer (some ⟨(B1 + 1), 0, none⟩), .int .i64 3, .int .i64 0, .int .i64 2, .int .i64 0, .int .i64 1, .int .i64 2, .int .i64 0, .slice (some ⟨A10, O10, none⟩) 1 d10, .int .i64 0, .pointer (some ⟨B12, 0, none⟩), .int .i64 0, .slice (some ⟨A14, O14, none⟩) 3 d14, .int .i64 0, x 10, x 11, undef, undef, undef, undef, undef, undef, undef, undef, undef, undef, s 28, s 29, s 30, s 31, s 32, s 33, s 34, s 35, s 36, s 37, s 38, s 39, s 40, s 41, s 42, s 43, s 44, s 45, s 46, s 47, s 48, s 49, s 50, s 51, s 52, s 53, s 54, s 55, s 56, s 57, s 58, s 59, s 60, s 61, s 62, s 63, s 64, s 65, s 66, s 67, s 68, x 6, x 0, x 1, x 2, x 3, x 4, x 5, x 7, x 8, x 9, undef, undef, undef, undef, undef, undef, undef, undef, undef, undef, undef, undef, undef, undef, undef, undef, undef, undef, undef, undef, undef, undef, undef, undef, undef, undef, undef, undef, undef, undef, undef, undef, undef, undef, undef, undef, undef, undef, undef, undef, undef, undef, undef, undef, undef, undef, undef, undef, undef, undef, undef, undef, undef, undef, undef, undef, undef, undef, undef, undef, undef, undef, undef, undef, undef, undef, undef, undef, undef, undef, undef, undef, undef, undef, undef, undef, undef, undef, undef, undef, undef, undef, undef, undef, undef, undef, undef, undef, undef, undef, undef, undef, undef, undef, undef, undef, undef, undef, undef, undef, undef, undef, undef, undef, undef, undef, undef, undef, undef, undef, undef, undef, undef, undef, undef, undef, undef, undef, undef, undef, undef, undef, undef, undef, undef, undef, undef, undef, undef, undef, undef, undef, undef, undef, undef, undef, undef, undef, undef, undef, undef, undef, undef], []⟩ : Act) v
      refine wpOp_step rfl (fun K' hK' => ?_)
      rw [if_pos (by rfl)]
      refine wp_load_mid 70 _ rfl (B1 + 1) 0 (by rfl) [.int .i64 300, .int .i64 320, .int .i64 100, .int .i64 110] _ (fun j u hu => by rw [Nat.zero_add]; exact (b2.keep gv).2 j u hu) Try.underlying70 rfl (by kernel_rfl) ?_
      exact hK' _ _ (hK _ _ (Below.refl _ _) (at_of rfl (rfl)))
    · obtain ⟨x, rfl⟩ := upd_of (show x 0 = .agg #[.int .i64 300, .int .i64 320, .int .i64 100, .int .i64 110] from hd 0 _ (by simp) rfl)
      obtain ⟨x, rfl⟩ := upd_of (show x 1 = .agg #[.int .i64 300, .int .i64 320, .int .i64 100, .int .i64 110] from hd 1 _ (by simp) rfl)
      obtain ⟨x, rfl⟩ := upd_of (show x 2 = .agg #[.int .i64 300, .int .i64 320, .int .i64 100, .int .i64 110] from hd 2 _ (by simp) rfl)
      show wpOp Try.prog _ _ 3 K (⟨#[.bool false, .pointer (some ⟨B1, 0, none⟩), .pointer (some ⟨(B1 + 1), 0, none⟩), .int .i64 3, .int .i64 0, .int .i64 2, .int .i64 0, .int .i64 1, .int .i64 2, .int .i64 0, .slice (some ⟨A10, O10, none⟩) 1 d10, .int .i64 0, .pointer (some ⟨B12, 0, none⟩), .int .i64 0, .slice (some ⟨A14, O14, none⟩) 3 d14, .int .i64 0, x 10, x 11, undef, undef, undef, undef, undef, undef, undef, undef, undef, undef, s 28, s 29, s 30, s 31, s 32, s 33, s 34, s 35, s 36, s 37, s 38, s 39, s 40, s 41, s 42, s 43, s 44, s 45, s 46, s 47, s 48, s 49, s 50, s 51, s 52, s 53, s 54, s 55, s 56, s 57, s 58, s 59, s 60, s 61, s 62, s 63, s 64, s 65, s 66, s 67, s 68, x 6, .agg #[.int .i64 300, .int .i64 320, .int .i64 100, .int .i64 110], .agg #[.int .i64 300, .int .i64 320, .int .i64 100, .int .i64 110], .agg #[.int .i64 300, .int .i64 320, .int .i64 100, .int .i64 110], x 3, x 4, x 5, x 7, x 8, x 9, undef, undef, undef, undef, undef, undef, undef, undef, undef, undef, undef, undef, undef, undef, undef, undef, undef, undef, undef, undef, undef, undef, undef, undef, undef, undef, undef, undef, undef, undef, undef, undef, undef, undef, undef, undef, undef, undef, undef, undef, undef, undef, undef, undef, undef, undef, undef, undef, undef, undef, undef, undef, undef, undef, undef, undef, undef, undef, undef, undef, undef, undef, undef, undef, undef, undef, undef, undef, undef, undef, undef, undef, undef, undef, undef, undef, undef, undef, undef, undef, undef, undef, undef, undef, undef, undef, undef, undef, undef, undef, undef, undef, undef, undef, undef, undef, undef, undef, undef, undef, undef, undef, undef, undef, undef, undef, undef, undef, undef, undef, undef, undef, undef, undef, undef, undef, undef, undef, undef, undef, undef, undef, undef, undef, undef, undef, undef, undef, undef, undef, undef, undef, undef, undef, undef, undef, undef, undef, undef, undef, undef, undef, undef], []⟩ : Act) v
      refine wpOp_step rfl (fun K' hK' => ?_)
      go_simp
      have hg := Gr.al v (.cells #[.int .i64 300, .int .i64 320, .int .i64 100, .int .i64 110, .int .i64 300, .int .i64 320, .int .i64 100, .int .i64 110, .int .i64 300, .int .i64 320, .int .i64 100, .int .i64 110] 70)
      exact hK' _ _ (hK _ _ hg (at_of rfl (⟨_, rfl, RowOf.lit31 (enc := encL) (sz := 4) (fun _ => rfl) v 70 st3 (by decide) #[.int .i64 300, .int .i64 320, .int .i64 100, .int .i64 110, .int .i64 300, .int .i64 320, .int .i64 100, .int .i64 110, .int .i64 300, .int .i64 320, .int .i64 100, .int .i64 110] (by rfl) _ rfl⟩)))
    · show wpOp Try.prog _ _ 4 K (⟨#[.bool false, .pointer (some ⟨B1, 0, none⟩), .pointer (some ⟨(B1 + 1), 0, none⟩), .int .i64 3, .int .i64 0, .int .i64 2, .int .i64 0, .int .i64 1, .int .i64 2, .int .i64 0, .slice (some ⟨A10, O10, none⟩) 1 d10, .int .i64 0, .pointer (some ⟨B12, 0, none⟩), .int .i64 0, .slice (some ⟨A14, O14, none⟩) 3 d14, .int .i64 0, x 10, x 11, undef, undef, undef, undef, undef, undef, undef, undef, undef, undef, s 28, s 29, s 30, s 31, s 32, s 33, s 34, s 35, s 36, s 37, s 38, s 39, s 40, s 41, s 42, s 43, s 44, s 45, s 46, s 47, s 48, s 49, s 50, s 51, s 52, s 53, s 54, s 55, s 56, s 57, s 58, s 59, s 60, s 61, s 62, s 63, s 64, s 65, s 66, s 67, s 68, x 6, x 0, x 1, x 2, x 3, x 4, x 5, x 7, x 8, x 9, undef, undef, undef, undef, undef, undef, undef, undef, undef, undef, undef, undef, undef, undef, undef, undef, undef, undef, undef, undef, undef, undef, undef, undef, undef, undef, undef, undef, undef, undef, undef, undef, undef, undef, undef, undef, undef, undef, undef, undef, undef, undef, undef, undef, undef, undef, undef, undef, undef, undef, undef, undef, undef, undef, undef, undef, undef, undef, undef, undef, undef, undef, undef, undef, undef, undef, undef, undef, undef, undef, undef, undef, undef, undef, undef, undef, undef, undef, undef, undef, undef, undef, undef, undef, undef, undef, undef, undef, undef, undef, undef, undef, undef, undef, undef, undef, undef, undef, undef, undef, undef, undef, undef, undef, undef, undef, undef, undef, undef, undef, undef, undef, undef, undef, undef, undef, undef, undef, undef, undef, undef, undef, undef, undef, undef, undef, undef, undef, undef, undef, undef, undef, undef, undef, undef, undef, undef, undef, undef, undef, undef, undef, undef], []⟩ : Act) v
      refine wpOp_step rfl (fun K' hK' => ?_)
      go_simp
      refine (table_any v).mono ?_
      rintro e v' ⟨a, rfl, hr, hg⟩
      exact hK' _ _ (hK _ _ hg (at_of rfl (⟨_, rfl, hr⟩)))
    · obtain ⟨f3, e3, r3⟩ := hd 3 _ (by simp) rfl
      obtain ⟨x, rfl⟩ := upd_of (show x 3 = .slice (some ⟨f3, 0, none⟩) 3 3 from e3)
      obtain ⟨t4, e4, r4⟩ := hd 4 _ (by simp) rfl
      obtain ⟨x, rfl⟩ := upd_of (show x 4 = .slice t4 3 3 from e4)
      show wpOp Try.prog _ _ 5 K (⟨#[.bool false, .pointer (some ⟨B1, 0, none⟩), .pointer (some ⟨(B1 + 1), 0, none⟩), .int .i64 3, .int .i64 0, .int .i64 2, .int .i64 0, .int .i64 1, .int .i64 2, .int .i64 0, .slice (some ⟨A10, O10, none⟩) 1 d10, .int .i64 0, .pointer (some ⟨B12, 0, none⟩), .int .i64 0, .slice (some ⟨A14, O14, none⟩) 3 d14, .int .i64 0, x 10, x 11, undef, undef, undef, undef, undef, undef, undef, undef, undef, undef, s 28, s 29, s 30, s 31, s 32, s 33, s 34, s 35, s 36, s 37, s 38, s 39, s 40, s 41, s 42, s 43, s 44, s 45, s 46, s 47, s 48, s 49, s 50, s 51, s 52, s 53, s 54, s 55, s 56, s 57, s 58, s 59, s 60, s 61, s 62, s 63, s 64, s 65, s 66, s 67, s 68, x 6, x 0, x 1, x 2, .slice (some ⟨f3, 0, none⟩) 3 3, .slice t4 3 3, x 5, x 7, x 8, x 9, undef, undef, undef, undef, undef, undef, undef, undef, undef, undef, undef, undef, undef, undef, undef, undef, undef, undef, undef, undef, undef, undef, undef, undef, undef, undef, undef, undef, undef, undef, undef, undef, undef, undef, undef, undef, undef, undef, undef, undef, undef, undef, undef, undef, undef, undef, undef, undef, undef, undef, undef, undef, undef, undef, undef, undef, undef, undef, undef, undef, undef, undef, undef, undef, undef, undef, undef, undef, undef, undef, undef, undef, undef, undef, undef, undef, undef, undef, undef, undef, undef, undef, undef, undef, undef, undef, undef, undef, undef, undef, undef, undef, undef, undef, undef, undef, undef, undef, undef, undef, undef, undef, undef, undef, undef, undef, undef, undef, undef, undef, undef, undef, undef, undef, undef, undef, undef, undef, undef, undef, undef, undef, undef, undef, undef, undef, undef, undef, undef, undef, undef, undef, undef, undef, undef, undef, undef, undef, undef, undef, undef, undef, undef], []⟩ : Act) v
      refine wpOp_step rfl (fun K' hK' => ?_)
      go_simp
      refine (ex_fall1 f3 0 3 t4 v r3 r4).mono ?_
      rintro e v' ⟨rfl, hg⟩
      exact hK' _ _ (hK _ _ hg (at_of rfl (rfl)))
    · obtain ⟨x, rfl⟩ := upd_of (show x 5 = .tuple #[.int .i64 30, .int .i64 0, .int .i64 0] from hd 5 _ (by simp) rfl)
      show wpOp Try.prog _ _ 6 K (⟨#[.bool false, .pointer (some ⟨B1, 0, none⟩), .pointer (some ⟨(B1 + 1), 0, none⟩), .int .i64 3, .int .i64 0, .int .i64 2, .int .i64 0, .int .i64 1, .int .i64 2, .int .i64 0, .slice (some ⟨A10, O10, none⟩) 1 d10, .int .i64 0, .pointer (some ⟨B12, 0, none⟩), .int .i64 0, .slice (some ⟨A14, O14, none⟩) 3 d14, .int .i64 0, x 10, x 11, undef, undef, undef, undef, undef, undef, undef, undef, undef, undef, s 28, s 29, s 30, s 31, s 32, s 33, s 34, s 35, s 36, s 37, s 38, s 39, s 40, s 41, s 42, s 43, s 44, s 45, s 46, s 47, s 48, s 49, s 50, s 51, s 52, s 53, s 54, s 55, s 56, s 57, s 58, s 59, s 60, s 61, s 62, s 63, s 64, s 65, s 66, s 67, s 68, x 6, x 0, x 1, x 2, x 3, x 4, .tuple #[.int .i64 30, .int .i64 0, .int .i64 0], x 7, x 8, x 9, undef, undef, undef, undef, undef, undef, undef, undef, undef, undef, undef, undef, undef, undef, undef, undef, undef, undef, undef, undef, undef, undef, undef, undef, undef, undef, undef, undef, undef, undef, undef, undef, undef, undef, undef, undef, undef, undef, undef, undef, undef, undef, undef, undef, undef, undef, undef, undef, undef, undef, undef, undef, undef, undef, undef, undef, undef, undef, undef, undef, undef, undef, undef, undef, undef, undef, undef, undef, undef, undef, undef, undef, undef, undef, undef, undef, undef, undef, undef, undef, undef, undef, undef, undef, undef, undef, undef, undef, undef, undef, undef, undef, undef, undef, undef, undef, undef, undef, undef, undef, undef, undef, undef, undef, undef, undef, undef, undef, undef, undef, undef, undef, undef, undef, undef, undef, undef, undef, undef, undef, undef, undef, undef, undef, undef, undef, undef, undef, undef, undef, undef, undef, undef, undef, undef, undef, undef, undef, undef, undef, undef, undef, undef], []⟩ : Act) v
      refine wpOp_step rfl (fun K' hK' => ?_)
      go_simp
      exact hK' _ _ (hK _ _ (Below.refl _ _) (at_of rfl (rfl)))
    · obtain ⟨x, rfl⟩ := upd_of (show x 6 = .tuple #[.int .i64 30, .int .i64 0, .int .i64 0] from hd 6 _ (by simp) rfl)
      show wpOp Try.prog _ _ 7 K (⟨#[.bool false, .pointer (some ⟨B1, 0, none⟩), .pointer (some ⟨(B1 + 1), 0, none⟩), .int .i64 3, .int .i64 0, .int .i64 2, .int .i64 0, .int .i64 1, .int .i64 2, .int .i64 0, .slice (some ⟨A10, O10, none⟩) 1 d10, .int .i64 0, .pointer (some ⟨B12, 0, none⟩), .int .i64 0, .slice (some ⟨A14, O14, none⟩) 3 d14, .int .i64 0, x 10, x 11, undef, undef, undef, undef, undef, undef, undef, undef, undef, undef, s 28, s 29, s 30, s 31, s 32, s 33, s 34, s 35, s 36, s 37, s 38, s 39, s 40, s 41, s 42, s 43, s 44, s 45, s 46, s 47, s 48, s 49, s 50, s 51, s 52, s 53, s 54, s 55, s 56, s 57, s 58, s 59, s 60, s 61, s 62, s 63, s 64, s 65, s 66, s 67, s 68, .tuple #[.int .i64 30, .int .i64 0, .int .i64 0], x 0, x 1, x 2, x 3, x 4, x 5, x 7, x 8, x 9, undef, undef, undef, undef, undef, undef, undef, undef, undef, undef, undef, undef, undef, undef, undef, undef, undef, undef, undef, undef, undef, undef, undef, undef, undef, undef, undef, undef, undef, undef, undef, undef, undef, undef, undef, undef, undef, undef, undef, undef, undef, undef, undef, undef, undef, undef, undef, undef, undef, undef, undef, undef, undef, undef, undef, undef, undef, undef, undef, undef, undef, undef, undef, undef, undef, undef, undef, undef, undef, undef, undef, undef, undef, undef, undef, undef, undef, undef, undef, undef, undef, undef, undef, undef, undef, undef, undef, undef, undef, undef, undef, undef, undef, undef, undef, undef, undef, undef, undef, undef, undef, undef, undef, undef, undef, undef, undef, undef, undef, undef, undef, undef, undef, undef, undef, undef, undef, undef, undef, undef, undef, undef, undef, undef, undef, undef, undef, undef, undef, undef, undef, undef, undef, undef, undef, undef, undef, undef, undef, undef, undef, undef, undef], []⟩ : Act) v
      refine wpOp_step rfl (fun K' hK' => ?_)
      go_simp
      exact hK' _ _ (hK _ _ (Below.refl _ _) (at_of rfl (rfl)))
    · obtain ⟨x, rfl⟩ := upd_of (show x 6 = .tuple #[.int .i64 30, .int .i64 0, .int .i64 0] from hd 6 _ (by simp) rfl)
      show wpOp Try.prog _ _ 8 K (⟨#[.bool false, .pointer (some ⟨B1, 0, none⟩), .pointer (some ⟨(B1 + 1), 0, none⟩), .int .i64 3, .int .i64 0, .int .i64 2, .int .i64 0, .int .i64 1, .int .i64 2, .int .i64 0, .slice (some ⟨A10, O10, none⟩) 1 d10, .int .i64 0, .pointer (some ⟨B12, 0, none⟩), .int .i64 0, .slice (some ⟨A14, O14, none⟩) 3 d14, .int .i64 0, x 10, x 11, undef, undef, undef, undef, undef, undef, undef, undef, undef, undef, s 28, s 29, s 30, s 31, s 32, s 33, s 34, s 35, s 36, s 37, s 38, s 39, s 40, s 41, s 42, s 43, s 44, s 45, s 46, s 47, s 48, s 49, s 50, s 51, s 52, s 53, s 54, s 55, s 56, s 57, s 58, s 59, s 60, s 61, s 62, s 63, s 64, s 65, s 66, s 67, s 68, .tuple #[.int .i64 30, .int .i64 0, .int .i64 0], x 0, x 1, x 2, x 3, x 4, x 5, x 7, x 8, x 9, undef, undef, undef, undef, undef, undef, undef, undef, undef, undef, undef, undef, undef, undef, undef, undef, undef, undef, undef, undef, undef, undef, undef, undef, undef, undef, undef, undef, undef, undef, undef, undef, undef, undef, undef, undef, undef, undef, undef, undef, undef, undef, undef, undef, undef, undef, undef, undef, undef, undef, undef, undef, undef, undef, undef, undef, undef, undef, undef, undef, undef, undef, undef, undef, undef, undef, undef, undef, undef, undef, undef, undef, undef, undef, undef, undef, undef, undef, undef, undef, undef, undef, undef, undef, undef, undef, undef, undef, undef, undef, undef, undef, undef, undef, undef, undef, undef, undef, undef, undef, undef, undef, undef, undef, undef, undef, undef, undef, undef, undef, undef, undef, undef, undef, undef, undef, undef, undef, undef, undef, undef, undef, undef, undef, undef, undef, undef, undef, undef, undef, undef, undef, undef, undef, undef, undef, undef, undef, undef, undef, undef, undef, undef], []⟩ : Act) v
      refine wpOp_step rfl (fun K' hK' => ?_)
      go_simp
      exact hK' _ _ (hK _ _ (Below.refl _ _) (at_of rfl (rfl)))
    · obtain ⟨x, rfl⟩ := upd_of (show x 6 = .tuple #[.int .i64 30, .int .i64 0, .int .i64 0] from hd 6 _ (by simp) rfl)
      show wpOp Try.prog _ _ 9 K (⟨#[.bool false, .pointer (some ⟨B1, 0, none⟩), .pointer (some ⟨(B1 + 1), 0, none⟩), .int .i64 3, .int .i64 0, .int .i64 2, .int .i64 0, .int .i64 1, .int .i64 2, .int .i64 0, .slice (some ⟨A10, O10, none⟩) 1 d10, .int .i64 0, .pointer (some ⟨B12, 0, none⟩), .int .i64 0, .slice (some ⟨A14, O14, none⟩) 3 d14, .int .i64 0, x 10, x 11, undef, undef, undef, undef, undef, undef, undef, undef, undef, undef, s 28, s 29, s 30, s 31, s 32, s 33, s 34, s 35, s 36, s 37, s 38, s 39, s 40, s 41, s 42, s 43, s 44, s 45, s 46, s 47, s 48, s 49, s 50, s 51, s 52, s 53, s 54, s 55, s 56, s 57, s 58, s 59, s 60, s 61, s 62, s 63, s 64, s 65, s 66, s 67, s 68, .tuple #[.int .i64 30, .int .i64 0, .int .i64 0], x 0, x 1, x 2, x 3, x 4, x 5, x 7, x 8, x 9, undef, undef, undef, undef, undef, undef, undef, undef, undef, undef, undef, undef, undef, undef, undef, undef, undef, undef, undef, undef, undef, undef, undef, undef, undef, undef, undef, undef, undef, undef, undef, undef, undef, undef, undef, undef, undef, undef, undef, undef, undef, undef, undef, undef, undef, undef, undef, undef, undef, undef, undef, undef, undef, undef, undef, undef, undef, undef, undef, undef, undef, undef, undef, undef, undef, undef, undef, undef, undef, undef, undef, undef, undef, undef, undef, undef, undef, undef, undef, undef, undef, undef, undef, undef, undef, undef, undef, undef, undef, undef, undef, undef, undef, undef, undef, undef, undef, undef, undef, undef, undef, undef, undef, undef, undef, undef, undef, undef, undef, undef, undef, undef, undef, undef, undef, undef, undef, undef, undef, undef, undef, undef, undef, undef, undef, undef, undef, undef, undef, undef, undef, undef, undef, undef, undef, undef, undef, undef, undef, undef, undef, undef, undef], []⟩ : Act) v
      refine wpOp_step rfl (fun K' hK' => ?_)
      go_simp
      exact hK' _ _ (hK _ _ (Below.refl _ _) (at_of rfl (rfl)))
    · obtain ⟨x, rfl⟩ := upd_of (show x 7 = .int .i64 30 from hd 7 _ (by simp) rfl)
      show wpOp Try.prog _ _ 10 K (⟨#[.bool false, .pointer (some ⟨B1, 0, none⟩), .pointer (some ⟨(B1 + 1), 0, none⟩), .int .i64 3, .int .i64 0, .int .i64 2, .int .i64 0, .int .i64 1, .int .i64 2, .int .i64 0, .slice (some ⟨A10, O10, none⟩) 1 d10, .int .i64 0, .pointer (some ⟨B12, 0, none⟩), .int .i64 0, .slice (some ⟨A14, O14, none⟩) 3 d14, .int .i64 0, x 10, x 11, undef, undef, undef, undef, undef, undef, undef, undef, undef, undef, s 28, s 29, s 30, s 31, s 32, s 33, s 34, s 35, s 36, s 37, s 38, s 39, s 40, s 41, s 42, s 43, s 44, s 45, s 46, s 47, s 48, s 49, s 50, s 51, s 52, s 53, s 54, s 55, s 56, s 57, s 58, s 59, s 60, s 61, s 62, s 63, s 64, s 65, s 66, s 67, s 68, x 6, x 0, x 1, x 2, x 3, x 4, x 5, .int .i64 30, x 8, x 9, undef, undef, undef, undef, undef, undef, undef, undef, undef, undef, undef, undef, undef, undef, undef, undef, undef, undef, undef, undef, undef, undef, undef, undef, undef, undef, undef, undef, undef, undef, undef, undef, undef, undef, undef, undef, undef, undef, undef, undef, undef, undef, undef, undef, undef, undef, undef, undef, undef, undef, undef, undef, undef, undef, undef, undef, undef, undef, undef, undef, undef, undef, undef, undef, undef, undef, undef, undef, undef, undef, undef, undef, undef, undef, undef, undef, undef, undef, undef, undef, undef, undef, undef, undef, undef, undef, undef, undef, undef, undef, undef, undef, undef, undef, undef, undef, undef, undef, undef, undef, undef, undef, undef, undef, undef, undef, undef, undef, undef, undef, undef, undef, undef, undef, undef, undef, undef, undef, undef, undef, undef, undef, undef, undef, undef, undef, undef, undef, undef, undef, undef, undef, undef, undef, undef, undef, undef, undef, undef, undef, undef, undef, undef], []⟩ : Act) v
      refine wpOp_step rfl (fun K' hK' => ?_)
      go_simp
      exact hK' _ _ (hK _ _ (Below.refl _ _) (at_of rfl (rfl)))
    · obtain ⟨x, rfl⟩ := upd_of (show x 8 = .int .i64 0 from hd 8 _ (by simp) rfl)
      show wpOp Try.prog _ _ 11 K (⟨#[.bool false, .pointer (some ⟨B1, 0, none⟩), .pointer (some ⟨(B1 + 1), 0, none⟩), .int .i64 3, .int .i64 0, .int .i64 2, .int .i64 0, .int .i64 1, .int .i64 2, .int .i64 0, .slice (some ⟨A10, O10, none⟩) 1 d10, .int .i64 0, .pointer (some ⟨B12, 0, none⟩), .int .i64 0, .slice (some ⟨A14, O14, none⟩) 3 d14, .int .i64 0, x 10, x 11, undef, undef, undef, undef, undef, undef, undef, undef, undef, undef, s 28, s 29, s 30, s 31, s 32, s 33, s 34, s 35, s 36, s 37, s 38, s 39, s 40, s 41, s 42, s 43, s 44, s 45, s 46, s 47, s 48, s 49, s 50, s 51, s 52, s 53, s 54, s 55, s 56, s 57, s 58, s 59, s 60, s 61, s 62, s 63, s 64, s 65, s 66, s 67, s 68, x 6, x 0, x 1, x 2, x 3, x 4, x 5, x 7, .int .i64 0, x 9, undef, undef, undef, undef, undef, undef, undef, undef, undef, undef, undef, undef, undef, undef, undef, undef, undef, undef, undef, undef, undef, undef, undef, undef, undef, undef, undef, undef, undef, undef, undef, undef, undef, undef, undef, undef, undef, undef, undef, undef, undef, undef, undef, undef, undef, undef, undef, undef, undef, undef, undef, undef, undef, undef, undef, undef, undef, undef, undef, undef, undef, undef, undef, undef, undef, undef, undef, undef, undef, undef, undef, undef, undef, undef, undef, undef, undef, undef, undef, undef, undef, undef, undef, undef, undef, undef, undef, undef, undef, undef, undef, undef, undef, undef, undef, undef, undef, undef, undef, undef, undef, undef, undef, undef, undef, undef, undef, undef, undef, undef, undef, undef, undef, undef, undef, undef, undef, undef, undef, undef, undef, undef, undef, undef, undef, undef, undef, undef, undef, undef, undef, undef, undef, undef, undef, undef, undef, undef, undef, undef, undef, undef, undef], []⟩ : Act) v
      refine wpOp_step rfl (fun K' hK' => ?_)
      go_simp
      exact hK' _ _ (hK _ _ (Below.refl _ _) (at_of rfl (rfl)))
  case fin8 =>
    rintro x v gv hd
    obtain ⟨x, rfl⟩ := upd_of (show x 9 = .int .i64 0 from hd 9 _ (by omega) rfl)
    obtain ⟨x, rfl⟩ := upd_of (show x 10 = .int .i64 30 from hd 10 _ (by omega) rfl)
    obtain ⟨x, rfl⟩ := upd_of (show x 11 = .int .i64 0 from hd 11 _ (by omega) rfl)
    clear hd
    show wpList Try.prog _ _ (List.drop 12 _) (⟨#[.bool false, .pointer (some ⟨B1, 0, none⟩), .pointer (some ⟨(B1 + 1), 0, none⟩), .int .i64 3, .int .i64 0, .int .i64 2, .int .i64 0, .int .i64 1, .int .i64 2, .int .i64 0, .slice (some ⟨A10, O10, none⟩) 1 d10, .int .i64 0, .pointer (some ⟨B12, 0, none⟩), .int .i64 0, .slice (some ⟨A14, O14, none⟩) 3 d14, .int .i64 0, .int .i64 30, .int .i64 0, undef, undef, undef, undef, undef, undef, undef, undef, undef, undef, s 28, s 29, s 30, s 31, s 32, s 33, s 34, s 35, s 36, s 37, s 38, s 39, s 40, s 41, s 42, s 43, s 44, s 45, s 46, s 47, s 48, s 49, s 50, s 51, s 52, s 53, s 54, s 55, s 56, s 57, s 58, s 59, s 60, s 61, s 62, s 63, s 64, s 65, s 66, s 67, s 68, x 6, x 0, x 1, x 2, x 3, x 4, x 5, x 7, x 8, .int .i64 0, undef, undef, undef, undef, undef, undef, undef, undef, undef, undef, undef, undef, undef, undef, undef, undef, undef, undef, undef, undef, undef, undef, undef, undef, undef, undef, undef, undef, undef, undef, undef, undef, undef, undef, undef, undef, undef, undef, undef, undef, undef, undef, undef, undef, undef, undef, undef, undef, undef, undef, undef, undef, undef, undef, undef, undef, undef, undef, undef, undef, undef, undef, undef, undef, undef, undef, undef, undef, undef, undef, undef, undef, undef, undef, undef, undef, undef, undef, undef, undef, undef, undef, undef, undef, undef, undef, undef, undef, undef, undef, undef, undef, undef, undef, undef, undef, undef, undef, undef, undef, undef, undef, undef, undef, undef, undef, undef, undef, undef, undef, undef, undef, undef, undef, undef, undef, undef, undef, undef, undef, undef, undef, undef, undef, undef, undef, undef, undef, undef, undef, undef, undef, undef, undef, undef, undef, undef, undef, undef, undef, undef, undef, undef], []⟩ : Act) v
    simp only [List.drop_succ_cons, List.drop_zero]
    replace gX := gX.tr gv
    replace b2 := b2.keep gv
    replace r10 := r10.grow gv
    replace b12 := b12.keep gv
    replace r14 := r14.grow gv
    clear gv
    go_upto_region 9 with fail
    refine (show (∀ y : Nat → Value, Code.wp Try.prog _ _ ⟨#[.bool false, .pointer (some ⟨B1, 0, none⟩), .pointer (some ⟨(B1 + 1), 0, none⟩), .int .i64 3, .int .i64 0, .int .i64 2, .int .i64 0, .int .i64 1, .int .i64 2, .int .i64 0, .slice (some ⟨A10, O10, none⟩) 1 d10, .int .i64 0, .pointer (some ⟨B12, 0, none⟩), .int .i64 0, .slice (some ⟨A14, O14, none⟩) 3 d14, .int .i64 0, .int .i64 30, .int .i64 0, .int .i64 0, undef, undef, undef, undef, undef, undef, undef, undef, undef, y 28, y 29, y 30, y 31, y 32, y 33, y 34, y 35, y 36, y 37, y 38, y 39, y 40, y 41, y 42, y 43, y 44, y 45, y 46, y 47, y 48, y 49, y 50, y 51, y 52, y 53, y 54, y 55, y 56, y 57, y 58, y 59, y 60, y 61, y 62, y 63, y 64, y 65, y 66, y 67, y 68, y 69, y 70, y 71, y 72, y 73, y 74, y 75, y 76, y 77, y 78, undef, undef, undef, undef, undef, undef, undef, undef, undef, undef, undef, undef, undef, undef, undef, undef, undef, undef, undef, undef, undef, undef, undef, undef, undef, undef, undef, undef, undef, undef, undef, undef, undef, undef, undef, undef, undef, undef, undef, undef, undef, undef, undef, undef, undef, undef, undef, undef, undef, undef, undef, undef, undef, undef, undef, undef, undef, undef, undef, undef, undef, undef, undef, undef, undef, undef, undef, undef, undef, undef, undef, undef, undef, undef, undef, undef, undef, undef, undef, undef, undef, undef, undef, undef, undef, undef, undef, undef, undef, undef, undef, undef, undef, undef, undef, undef, undef, undef, undef, undef, undef, undef, undef, undef, undef, undef, undef, undef, undef, undef, undef, undef, undef, undef, undef, undef, undef, undef, undef, undef, undef, undef, undef, undef, undef, undef, undef, undef, undef, undef, undef, undef, undef, undef, undef, undef, undef, undef, undef, undef, undef, undef, undef], []⟩ _) → _ from fun h => h ((fun l : List Value => fun i => l.getD i undef) [undef, undef, undef, undef, undef, undef, undef, undef, undef, undef, undef, undef, undef, undef, undef, undef, undef, undef, undef, undef, undef, undef, undef, undef, undef, undef, undef, undef, _, _, _, _, _, _, _, _, _, _, _, _, _, _, _, _, _, _, _, _, _, _, _, _, _, _, _, _, _, _, _, _, _, _, _, _, _, _, _, _, _, _, _, _, _, _, _, _, _, _, _])) ?_
    intro y
    dsimp only
    refine wp_region_facts 12 [(3, 0), (3, 1), (3, 2), (5, 3), (5, 4), (6, 5), (7, 6), (8, 6), (9, 6), (10, 7), (11, 8)] (fun x => ⟨#[.bool false, .pointer (some ⟨B1, 0, none⟩), .pointer (some ⟨(B1 + 1), 0, none⟩), .int .i64 3, .int .i64 0, .int .i64 2, .int .i64 0, .int .i64 1, .int .i64 2, .int .i64 0, .slice (some ⟨A10, O10, none⟩) 1 d10, .int .i64 0, .pointer (some ⟨B12, 0, none⟩), .int .i64 0, .slice (some ⟨A14, O14, none⟩) 3 d14, .int .i64 0, .int .i64 30, .int .i64 0, .int .i64 0, x 10, x 11, undef, undef, undef, undef, undef, undef, undef, y 28, y 29, y 30, y 31, y 32, y 33, y 34, y 35, y 36, y 37, y 38, y 39, y 40, y 41, y 42, y 43, y 44, y 45, y 46, y 47, y 48, y 49, y 50, y 51, y 52, y 53, y 54, y 55, y 56, y 57, y 58, y 59, y 60, y 61, y 62, y 63, y 64, y 65, y 66, y 67, y 68, y 69, y 70, y 71, y 72, y 73, y 74, y 75, y 76, y 77, y 78, x 6, x 0, x 1, x 2, x 3, x 4, x 5, x 7, x 8, x 9, undef, undef, undef, undef, undef, undef, undef, undef, undef, undef, undef, undef, undef, undef, undef, undef, undef, undef, undef, undef, undef, undef, undef, undef, undef, undef, undef, undef, undef, undef, undef, undef, undef, undef, undef, undef, undef, undef, undef, undef, undef, undef, undef, undef, undef, undef, undef, undef, undef, undef, undef, undef, undef, undef, undef, undef, undef, undef, undef, undef, undef, undef, undef, undef, undef, undef, undef, undef, undef, undef, undef, undef, undef, undef, undef, undef, undef, undef, undef, undef, undef, undef, undef, undef, undef, undef, undef, undef, undef, undef, undef, undef, undef, undef, undef, undef, undef, undef, undef, undef, undef, undef, undef, undef, undef, undef, undef, undef, undef, undef, undef, undef, undef, undef, undef, undef, undef, undef, undef, undef, undef, undef, undef, undef, undef, undef, undef, undef, undef, undef, undef, undef, undef], []⟩) (fun _ => undef) [fun _ x => x = .agg #[.int .i64 300, .int .i64 320, .int .i64 100, .int .i64 110], fun _ x => x = .agg #[.int .i64 300, .int .i64 320, .int .i64 100, .int .i64 110], fun _ x => x = .agg #[.int .i64 300, .int .i64 320, .int .i64 100, .int .i64 110], fun v x => ∃ b, x = .slice (some ⟨b, 0, none⟩) 3 3 ∧ LRow v (some ⟨b, 0, none⟩) st3, fun v x => ∃ a, x = .slice a 3 3 ∧ TRow v a ts0, fun _ x => x = .tuple #[.int .i64 0, .int .i64 0, .int .i64 7], fun _ x => x = .tuple #[.int .i64 0, .int .i64 0, .int .i64 7], fun _ x => x = .int .i64 0, fun _ x => x = .int .i64 0, fun _ x => x = .int .i64 7, fun _ x => x = .int .i64 0, fun _ x => x = .int .i64 0] (by rfl) (by kernel_rfl) (by kernel_rfl) (by kernel_rfl) (stays_cons (Stays.eq _) (stays_cons (Stays.eq _) (stays_cons (Stays.eq _) (stays_cons ((show Stays (fun v x => ∃ b, x = .slice (some ⟨b, 0, none⟩) 3 3 ∧ LRow v (some ⟨b, 0, none⟩) st3) from fun v v' x g ⟨b, h, r⟩ => ⟨b, h, r.grow g⟩)) (stays_cons ((show Stays (fun v x => ∃ a, x = .slice a 3 3 ∧ TRow v a ts0) from fun v v' x g ⟨b, h, r⟩ => ⟨b, h, r.grow g⟩)) (stays_cons (Stays.eq _) (stays_cons (Stays.eq _) (stays_cons (Stays.eq _) (stays_cons (Stays.eq _) (stays_cons (Stays.eq _) (stays_cons (Stays.eq _) (stays_cons (Stays.eq _) stays_nil)))))))))))) ?step9 ?fin9
    case step9 =>
      rintro i hi x v gv hd K hK
      have hi8 : i = 0 ∨ i = 1 ∨ i = 2 ∨ i = 3 ∨ i = 4 ∨ i = 5 ∨ i = 6 ∨ i = 7 ∨ i = 8 ∨ i = 9 ∨ i = 10 ∨ i = 11 := by omega
      rcases hi8 with rfl | rfl | rfl | rfl | rfl | rfl | rfl | rfl | rfl | rfl | rfl | rfl
      · show wpOp Try.prog _ _ 0 K (⟨#[.bool false, .pointer (some ⟨B1, 0, none⟩), .pointer (some ⟨(B1 + 1), 0, none⟩), .int .i64 3, .int .i64 0, .int .i64 2, .int .i64 0, .int .i64 1, .int .i64 2, .int .i64 0, .slice (some ⟨A10, O10, none⟩) 1 d10, .int .i64 0, .pointer (some ⟨B12, 0, none⟩), .int .i64 0, .slice (some ⟨A14, O14, none⟩) 3 d14, .int .i64 0, .int .i64 30, .int .i64 0, .int .i64 0, x 10, x 11, undef, undef, undef, undef, undef, undef, undef, y 28, y 29, y 30, y 31, y 32, y 33, y 34, y 35, y 36, y 37, y 38, y 39, y 40, y 41, y 42, y 43, y 44, y 45, y 46, y 47, y 48, y 49, y 50, y 51, y 52, y 53, y 54, y 55, y 56, y 57, y 58, y 59, y 60, y 61, y 62, y 63, y 64, y 65, y 66, y 67, y 68, y 69, y 70, y 71, y 72, y 73, y 74, y 75, y 76, y 77, y 78, x 6, x 0, x 1, x 2, x 3, x 4, x 5, x 7, x 8, x 9, undef, undef, undef, undef, undef, undef, undef, undef, undef, undef, undef, undef, undef, undef, undef, undef, undef, undef, undef, undef, undef, undef, undef, undef, undef, undef, undef, undef, undef, undef, undef, undef, undef, undef, undef, undef, undef, undef, undef, undef, undef, undef, undef, undef, undef, undef, undef, undef, undef, undef, undef, undef, undef, undef, undef, undef, undef, undef, undef, undef, undef, undef, undef, undef, undef, undef, undef, undef, undef, undef, undef, undef, undef, undef, undef, undef, undef, undef, undef, undef, undef, undef, undef, undef, undef, undef, undef, undef, undef, undef, undef, undef, undef, undef, undef, undef, undef, undef, undef, undef, undef, undef, undef, undef, undef, undef, undef, undef, undef, undef, undef, undef, undef, undef, undef, undef, undef, undef, undef, undef, undef, undef, undef, undef, undef, undef, undef, undef, undef, undef, undef, undef, undef], []⟩ : Act) v
        refine wpOp_step rfl (fun K' hK' => ?_)
        rw [if_pos (by rfl)]
        refine wp_load_mid 70 _ rfl (B1 + 1) 0 (by rfl) [.int .i64 300, .int .i64 320, .int .i64 100, .int .i64 110] _ (fun j u hu => by rw [Nat.zero_add]; exact (b2.keep gv).2 j u hu) Try.underlying70 rfl (by kernel_rfl) ?_
        exact hK' _ _ (hK _ _ (Below.refl _ _) (at_of rfl (rfl)))
      · show wpOp Try.prog _ _ 1 K (⟨#[.bool false, .pointer (some ⟨B1, 0, none⟩), .pointer (some ⟨(B1 + 1), 0, none⟩), .int .i64 3, .int .i64 0, .int .i64 2, .int .i64 0, .int .i64 1, .int .i64 2, .int .i64 0, .slice (some ⟨A10, O10, none⟩) 1 d10, .int .i64 0, .pointer (some ⟨B12, 0, none⟩), .int .i64 0, .slice (some ⟨A14, O14, none⟩) 3 d14, .int .i64 0, .int .i64 30, .int .i64 0, .int .i64 0, x 10, x 11, undef, undef, undef, undef, undef, undef, undef, y 28, y 29, y 30, y 31, y 32, y 33, y 34, y 35, y 36, y 37, y 38, y 39, y 40, y 41, y 42, y 43, y 44, y 45, y 46, y 47, y 48, y 49, y 50, y 51, y 52, y 53, y 54, y 55, y 56, y 57, y 58, y 59, y 60, y 61, y 62, y 63, y 64, y 65, y 66, y 67, y 68, y 69, y 70, y 71, y 72, y 73, y 74, y 75, y 76, y 77, y 78, x 6, x 0, x 1, x 2, x 3, x 4, x 5, x 7, x 8, x 9, undef, undef, undef, undef, undef, undef, undef, undef, undef, undef, undef, undef, undef, undef, undef, undef, undef, undef, undef, undef, undef, undef, undef, undef, undef, undef, undef, undef, undef, undef, undef, undef, undef, undef, undef, undef, undef, undef, undef, undef, undef, undef, undef, undef, undef, undef, undef, undef, undef, undef, undef, undef, undef, undef, undef, undef, undef, undef, undef, undef, undef, undef, undef, undef, undef, undef, undef, undef, undef, undef, undef, undef, undef, undef, undef, undef, undef, undef, undef, undef, undef, undef, undef, undef, undef, undef, undef, undef, undef, undef, undef, undef, undef, undef, undef, undef, undef, undef, undef, undef, undef, undef, undef, undef, undef, undef, undef, undef, undef, undef, undef, undef, undef, undef, undef, undef, undef, undef, undef, undef, undef, undef, undef, undef, undef, undef, undef, undef, undef, undef, undef, undef, undef], []⟩ : Act) v
        refine wpOp_step rfl (fun K' hK' => ?_)
        rw [if_pos (by rfl)]
        refine wp_load_mid 70 _ rfl (B1 + 1) 0 (by rfl) [.int .i64 300, .int .i64 320, .int .i64 100, .int .i64 110] _ (fun j u hu => by rw [Nat.zero_add]; exact (b2.keep gv).2 j u hu) Try.underlying70 rfl (by kernel_rfl) ?_
        exact hK' _ _ (hK _ _ (Below.refl _ _) (at_of rfl (rfl)))
      · show wpOp Try.prog _ _ 2 K (⟨#[.bool false, .pointer (some ⟨B1, 0, none⟩), .pointer (some ⟨(B1 + 1), 0, none⟩), .int .i64 3, .int .i64 0, .int .i64 2, .int .i64 0, .int .i64 1, .int .i64 2, .int .i64 0, .slice (some ⟨A10, O10, none⟩) 1 d10, .int .i64 0, .pointer (some ⟨B12, 0, none⟩), .int .i64 0, .slice (some ⟨A14, O14, none⟩) 3 d14, .int .i64 0, .int .i64 30, .int .i64 0, .int .i64 0, x 10, x 11, undef, undef, undef, undef, undef, undef, undef, y 28, y 29, y 30, y 31, y 32, y 33, y 34, y 35, y 36, y 37, y 38, y 39, y 40, y 41, y 42, y 43, y 44, y 45, y 46, y 47, y 48, y 49, y 50, y 51, y 52, y 53, y 54, y 55, y 56, y 57, y 58, y 59, y 60, y 61, y 62, y 63, y 64, y 65, y 66, y 67, y 68, y 69, y 70, y 71, y 72, y 73, y 74, y 75, y 76, y 77, y 78, x 6, x 0, x 1, x 2, x 3, x 4, x 5, x 7, x 8, x 9, undef, undef, undef, undef, undef, undef, undef, undef, undef, undef, undef, undef, undef, undef, undef, undef, undef, undef, undef, undef, undef, undef, undef, undef, undef, undef, undef, undef, undef, undef, undef, undef, undef, undef, undef, undef, undef, undef, undef, undef, undef, undef, undef, undef, undef, undef, undef, undef, undef, undef, undef, undef, undef, undef, undef, undef, undef, undef, undef, undef, undef, undef, undef, undef, undef, undef, undef, undef, undef, undef, undef, undef, undef, undef, undef, undef, undef, undef, undef, undef, undef, undef, undef, undef, undef, undef, undef, undef, undef, undef, undef, undef, undef, undef, undef, undef, undef, undef, undef, undef, undef, undef, undef, undef, undef, undef, undef, undef, undef, undef, undef, undef, undef, undef, undef, undef, undef, undef, undef, undef, undef, undef, undef, undef, undef, undef, undef, undef, undef, undef, undef, undef, undef], []⟩ : Act) v
        refine wpOp_step rfl (fun K' hK' => ?_)
        rw [if_pos (by rfl)]
        refine wp_load_mid 70 _ rfl (B1 + 1) 0 (by rfl) [.int .i64 300, .int .i64 320, .int .i64 100, .int .i64 110] _ (fun j u hu => by rw [Nat.zero_add]; exact (b2.keep gv).2 j u hu) Try.underlying70 rfl (by kernel_rfl) ?_
        exact hK' _ _ (hK _ _ (Below.refl _ _) (at_of rfl (rfl)))
      · obtain ⟨x, rfl⟩ := upd_of (show x 0 = .agg #[.int .i64 300, .int .i64 320, .int .i64 100, .int .i64 110] from hd 0 _ (by simp) rfl)
        obtain ⟨x, rfl⟩ := upd_of (show x 1 = .agg #[.int .i64 300, .int .i64 320, .int .i64 100, .int .i64 110] from hd 1 _ (by simp) rfl)
        obtain ⟨x, rfl⟩ := upd_of (show x 2 = .agg #[.int .i64 300, .int .i64 320, .int .i64 100, .int .i64 110] from hd 2 _ (by simp) rfl)
        show wpOp Try.prog _ _ 3 K (⟨#[.bool false, .pointer (some ⟨B1, 0, none⟩), .pointer (some ⟨(B1 + 1), 0, none⟩), .int .i64 3, .int .i64 0, .int .i64 2, .int .i64 0, .int .i64 1, .int .i64 2, .int .i64 0, .slice (some ⟨A10, O10, none⟩) 1 d10, .int .i64 0, .pointer (some ⟨B12, 0, none⟩), .int .i64 0, .slice (some ⟨A14, O14, none⟩) 3 d14, .int .i64 0, .int .i64 30, .int .i64 0, .int .i64 0, x 10, x 11, undef, undef, undef, undef, undef, undef, undef, y 28, y 29, y 30, y 31, y 32, y 33, y 34, y 35, y 36, y 37, y 38, y 39, y 40, y 41, y 42, y 43, y 44, y 45, y 46, y 47, y 48, y 49, y 50, y 51, y 52, y 53, y 54, y 55, y 56, y 57, y 58, y 59, y 60, y 61, y 62, y 63, y 64, y 65, y 66, y 67, y 68, y 69, y 70, y 71, y 72, y 73, y 74, y 75, y 76, y 77, y 78, x 6, .agg #[.int .i64 300, .int .i64 320, .int .i64 100, .int .i64 110], .agg #[.int .i64 300, .int .i64 320, .int .i64 100, .int .i64 110], .agg #[.int .i64 300, .int .i64 320, .int .i64 100, .int .i64 110], x 3, x 4, x 5, x 7, x 8, x 9, undef, undef, undef, undef, undef, undef, undef, undef, undef, undef, undef, undef, undef, undef, undef, undef, undef, undef, undef, undef, undef, undef, undef, undef, undef, undef, undef, undef, undef, undef, undef, undef, undef, undef, undef, undef, undef, undef, undef, undef, undef, undef, undef, undef, undef, undef, undef, undef, undef, undef, undef, undef, undef, undef, undef, undef, undef, undef, undef, undef, undef, undef, undef, undef, undef, undef, undef, undef, undef, undef, undef, undef, undef, undef, undef, undef, undef, undef, undef, undef, undef, undef, undef, undef, undef, undef, undef, undef, undef, undef, undef, undef, undef, undef, undef, undef, undef, undef, undef, undef, undef, undef, undef, undef, undef, undef, undef, undef, undef, undef, undef, undef, undef, undef, undef, undef, undef, undef, undef, undef, undef, undef, undef, undef, undef, undef, undef, undef, undef, undef, undef, undef, undef], []⟩ : Act) v
        refine wpOp_step rfl (fun K' hK' => ?_)
        go_simp
        have hg := Gr.al v (.cells #[.int .i64 300, .int .i64 320, .int .i64 100, .int .i64 110, .int .i64 300, .int .i64 320, .int .i64 100, .int .i64 110, .int .i64 300, .int .i64 320, .int .i64 100, .int .i64 110] 70)
        exact hK' _ _ (hK _ _ hg (at_of rfl (⟨_, rfl, RowOf.lit31 (enc := encL) (sz := 4) (fun _ => rfl) v 70 st3 (by decide) #[.int .i64 300, .int .i64 320, .int .i64 100, .int .i64 110, .int .i64 300, .int .i64 320, .int .i64 100, .int .i64 110, .int .i64 300, .int .i64 320, .int .i64 100, .int .i64 110] (by rfl) _ rfl⟩)))
      · show wpOp Try.prog _ _ 4 K (⟨#[.bool false, .pointer (some ⟨B1, 0, none⟩), .pointer (some ⟨(B1 + 1), 0, none⟩), .int .i64 3, .int .i64 0, .int .i64 2, .int .i64 0, .int .i64 1, .int .i64 2, .int .i64 0, .slice (some ⟨A10, O10, none⟩) 1 d10, .int .i64 0, .pointer (some ⟨B12, 0, none⟩), .int .i64 0, .slice (some ⟨A14, O14, none⟩) 3 d14, .int .i64 0, .int .i64 30, .int .i64 0, .int .i64 0, x 10, x 11, undef, undef, undef, undef, undef, undef, undef, y 28, y 29, y 30, y 31, y 32, y 33, y 34, y 35, y 36, y 37, y 38, y 39, y 40, y 41, y 42, y 43, y 44, y 45, y 46, y 47, y 48, y 49, y 50, y 51, y 52, y 53, y 54, y 55, y 56, y 57, y 58, y 59, y 60, y 61, y 62, y 63, y 64, y 65, y 66, y 67, y 68, y 69, y 70, y 71, y 72, y 73, y 74, y 75, y 76, y 77, y 78, x 6, x 0, x 1, x 2, x 3, x 4, x 5, x 7, x 8, x 9, undef, undef, undef, undef, undef, undef, undef, undef, undef, undef, undef, undef, undef, undef, undef, undef, undef, undef, undef, undef, undef, undef, undef, undef, undef, undef, undef, undef, undef, undef, undef, undef, undef, undef, undef, undef, undef, undef, undef, undef, undef, undef, undef, undef, undef, undef, undef, undef, undef, undef, undef, undef, undef, undef, undef, undef, undef, undef, undef, undef, undef, undef, undef, undef, undef, undef, undef, undef, undef, undef, undef, undef, undef, undef, undef, undef, undef, undef, undef, undef, undef, undef, undef, undef, undef, undef, undef, undef, undef, undef, undef, undef, undef, undef, undef, undef, undef, undef, undef, undef, undef, undef, undef, undef, undef, undef, undef, undef, undef, undef, undef, undef, undef, undef, undef, undef, undef, undef, undef, undef, undef, undef, undef, undef, undef, undef, undef, undef, undef, undef, undef, undef, undef], []⟩ : Act) v
        refine wpOp_step rfl (fun K' hK' => ?_)
        go_simp
        refine (table_any v).mono ?_
        rintro e v' ⟨a, rfl, hr, hg⟩
        exact hK' _ _ (hK _ _ hg (at_of rfl (⟨_, rfl, hr⟩)))
      · obtain ⟨f3, e3, r3⟩ := hd 3 _ (by simp) rfl
        obtain ⟨x, rfl⟩ := upd_of (show x 3 = .slice (some ⟨f3, 0, none⟩) 3 3 from e3)
        obtain ⟨t4, e4, r4⟩ := hd 4 _ (by simp) rfl
        obtain ⟨x, rfl⟩ := upd_of (show x 4 = .slice t4 3 3 from e4)
        show wpOp Try.prog _ _ 5 K (⟨#[.bool false, .pointer (some ⟨B1, 0, none⟩), .pointer (some ⟨(B1 + 1), 0, none⟩), .int .i64 3, .int .i64 0, .int .i64 2, .int .i64 0, .int .i64 1, .int .i64 2, .int .i64 0, .slice (some ⟨A10, O10, none⟩) 1 d10, .int .i64 0, .pointer (some ⟨B12, 0, none⟩), .int .i64 0, .slice (some ⟨A14, O14, none⟩) 3 d14, .int .i64 0, .int .i64 30, .int .i64 0, .int .i64 0, x 10, x 11, undef, undef, undef, undef, undef, undef, undef, y 28, y 29, y 30, y 31, y 32, y 33, y 34, y 35, y 36, y 37, y 38, y 39, y 40, y 41, y 42, y 43, y 44, y 45, y 46, y 47, y 48, y 49, y 50, y 51, y 52, y 53, y 54, y 55, y 56, y 57, y 58, y 59, y 60, y 61, y 62, y 63, y 64, y 65, y 66, y 67, y 68, y 69, y 70, y 71, y 72, y 73, y 74, y 75, y 76, y 77, y 78, x 6, x 0, x 1, x 2, .slice (some ⟨f3, 0, none⟩) 3 3, .slice t4 3 3, x 5, x 7, x 8, x 9, undef, undef, undef, undef, undef, undef, undef, undef, undef, undef, undef, undef, undef, undef, undef, undef, undef, undef, undef, undef, undef, undef, undef, undef, undef, undef, undef, undef, undef, undef, undef, undef, undef, undef, undef, undef, undef, undef, undef, undef, undef, undef, undef, undef, undef, undef, undef, undef, undef, undef, undef, undef, undef, undef, undef, undef, undef, undef, undef, undef, undef, undef, undef, undef, undef, undef, undef, undef, undef, undef, undef, undef, undef, undef, undef, undef, undef, undef, undef, undef, undef, undef, undef, undef, undef, undef, undef, undef, undef, undef, undef, undef, undef, undef, undef, undef, undef, undef, undef, undef, undef, undef, undef, undef, undef, undef, undef, undef, undef, undef, undef, undef, undef, undef, undef, undef, undef, undef, undef, undef, undef, undef, undef, undef, undef, undef, undef, undef, undef, undef, undef, undef, undef], []⟩ : Act) v
        refine wpOp_step rfl (fun K' hK' => ?_)
        go_simp
        refine (ex_fall2 f3 0 3 t4 v r3 r4).mono ?_
        rintro e v' ⟨rfl, hg⟩
        exact hK' _ _ (hK _ _ hg (at_of rfl (rfl)))
      · obtain ⟨x, rfl⟩ := upd_of (show x 5 = .tuple #[.int .i64 0, .int .i64 0, .int .i64 7] from hd 5 _ (by simp) rfl)
        show wpOp Try.prog _ _ 6 K (⟨#[.bool false, .pointer (some ⟨B1, 0, none⟩), .pointer (some ⟨(B1 + 1), 0, none⟩), .int .i64 3, .int .i64 0, .int .i64 2, .int .i64 0, .int .i64 1, .int .i64 2, .int .i64 0, .slice (some ⟨A10, O10, none⟩) 1 d10, .int .i64 0, .pointer (some ⟨B12, 0, none⟩), .int .i64 0, .slice (some ⟨A14, O14, none⟩) 3 d14, .int .i64 0, .int .i64 30, .int .i64 0, .int .i64 0, x 10, x 11, undef, undef, undef, undef, undef, undef, undef, y 28, y 29, y 30, y 31, y 32, y 33, y 34, y 35, y 36, y 37, y 38, y 39, y 40, y 41, y 42, y 43, y 44, y 45, y 46, y 47, y 48, y 49, y 50, y 51, y 52, y 53, y 54, y 55, y 56, y 57, y 58, y 59, y 60, y 61, y 62, y 63, y 64, y 65, y 66, y 67, y 68, y 69, y 70, y 71, y 72, y 73, y 74, y 75, y 76, y 77, y 78, x 6, x 0, x 1, x 2, x 3, x 4, .tuple #[.int .i64 0, .int .i64 0, .int .i64 7], x 7, x 8, x 9, undef, undef, undef, undef, undef, undef, undef, undef, undef, undef, undef, undef, undef, undef, undef, undef, undef, undef, undef, undef, undef, undef, undef, undef, undef, undef, undef, undef, undef, undef, undef, undef, undef, undef, undef, undef, undef, undef, undef, undef, undef, undef, undef, undef, undef, undef, undef, undef, undef, undef, undef, undef, undef, undef, undef, undef, undef, undef, undef, undef, undef, undef, undef, undef, undef, undef, undef, undef, undef, undef, undef, undef, undef, undef, undef, undef, undef, undef, undef, undef, undef, undef, undef, undef, undef, undef, undef, undef, undef, undef, undef, undef, undef, undef, undef, undef, undef, undef, undef, undef, undef, undef, undef, undef, undef, undef, undef, undef, undef, undef, undef, undef, undef, undef, undef, undef, undef, undef, undef, undef, undef, undef, undef, undef, undef, undef, undef, undef, undef, undef, undef, undef, undef], []⟩ : Act) v
        refine wpOp_step rfl (fun K' hK' => ?_)
        go_simp
        exact hK' _ _ (hK _ _ (Below.refl _ _) (at_of rfl (rfl)))
      · obtain ⟨x, rfl⟩ := upd_of (show x 6 = .tuple #[.int .i64 0, .int .i64 0, .int .i64 7] from hd 6 _ (by simp) rfl)
        show wpOp Try.prog _ _ 7 K (⟨#[.bool false, .pointer (some ⟨B1, 0, none⟩), .pointer (some ⟨(B1 + 1), 0, none⟩), .int .i64 3, .int .i64 0, .int .i64 2, .int .i64 0, .int .i64 1, .int .i64 2, .int .i64 0, .slice (some ⟨A10, O10, none⟩) 1 d10, .int .i64 0, .pointer (some ⟨B12, 0, none⟩), .int .i64 0, .slice (some ⟨A14, O14, none⟩) 3 d14, .int .i64 0, .int .i64 30, .int .i64 0, .int .i64 0, x 10, x 11, undef, undef, undef, undef, undef, undef, undef, y 28, y 29, y 30, y 31, y 32, y 33, y 34, y 35, y 36, y 37, y 38, y 39, y 40, y 41, y 42, y 43, y 44, y 45, y 46, y 47, y 48, y 49, y 50, y 51, y 52, y 53, y 54, y 55, y 56, y 57, y 58, y 59, y 60, y 61, y 62, y 63, y 64, y 65, y 66, y 67, y 68, y 69, y 70, y 71, y 72, y 73, y 74, y 75, y 76, y 77, y 78, .tuple #[.int .i64 0, .int .i64 0, .int .i64 7], x 0, x 1, x 2, x 3, x 4, x 5, x 7, x 8, x 9, undef, undef, undef, undef, undef, undef, undef, undef, undef, undef, undef, undef, undef, undef, undef, undef, undef, undef, undef, undef, undef, undef, undef, undef, undef, undef, undef, undef, undef, undef, undef, undef, undef, undef, undef, undef, undef, undef, undef, undef, undef, undef, undef, undef, undef, undef, undef, undef, undef, undef, undef, undef, undef, undef, undef, undef, undef, undef, undef, undef, undef, undef, undef, undef, undef, undef, undef, undef, undef, undef, undef, undef, undef, undef, undef, undef, undef, undef, undef, undef, undef, undef, undef, undef, undef, undef, undef, undef, undef, undef, undef, undef, undef, undef, undef, undef, undef, undef, undef, undef, undef, undef, undef, undef, undef, undef, undef, undef, undef, undef, undef, undef, undef, undef, undef, undef, undef, undef, undef, undef, undef, undef, undef, undef, undef, undef, undef, undef, undef, undef, undef, undef, undef], []⟩ : Act) v
        refine wpOp_step rfl (fun K' hK' => ?_)
        go_simp
        exact hK' _ _ (hK _ _ (Below.refl _ _) (at_of rfl (rfl)))
      · obtain ⟨x, rfl⟩ := upd_of (show x 6 = .tuple #[.int .i64 0, .int .i64 0, .int .i64 7] from hd 6 _ (by simp) rfl)
        show wpOp Try.prog _ _ 8 K (⟨#[.bool false, .pointer (some ⟨B1, 0, none⟩), .pointer (some ⟨(B1 + 1), 0, none⟩), .int .i64 3, .int .i64 0, .int .i64 2, .int .i64 0, .int .i64 1, .int .i64 2, .int .i64 0, .slice (some ⟨A10, O10, none⟩) 1 d10, .int .i64 0, .pointer (some ⟨B12, 0, none⟩), .int .i64 0, .slice (some ⟨A14, O14, none⟩) 3 d14, .int .i64 0, .int .i64 30, .int .i64 0, .int .i64 0, x 10, x 11, undef, undef, undef, undef, undef, undef, undef, y 28, y 29, y 30, y 31, y 32, y 33, y 34, y 35, y 36, y 37, y 38, y 39, y 40, y 41, y 42, y 43, y 44, y 45, y 46, y 47, y 48, y 49, y 50, y 51, y 52, y 53, y 54, y 55, y 56, y 57, y 58, y 59, y 60, y 61, y 62, y 63, y 64, y 65, y 66, y 67, y 68, y 69, y 70, y 71, y 72, y 73, y 74, y 75, y 76, y 77, y 78, .tuple #[.int .i64 0, .int .i64 0, .int .i64 7], x 0, x 1, x 2, x 3, x 4, x 5, x 7, x 8, x 9, undef, undef, undef, undef, undef, undef, undef, undef, undef, undef, undef, undef, undef, undef, undef, undef, undef, undef, undef, undef, undef, undef, undef, undef, undef, undef, undef, undef, undef, undef, undef, undef, undef, undef, undef, undef, undef, undef, undef, undef, undef, undef, undef, undef, undef, undef, undef, undef, undef, undef, undef, undef, undef, undef, undef, undef, undef, undef, undef, undef, undef, undef, undef, undef, undef, undef, undef, undef, undef, undef, undef, undef, undef, undef, undef, undef, undef, undef, undef, undef, undef, undef, undef, undef, undef, undef, undef, undef, undef, undef, undef, undef, undef, undef, undef, undef, undef, undef, undef, undef, undef, undef, undef, undef, undef, undef, undef, undef, undef, undef, undef, undef, undef, undef, undef, undef, undef, undef, undef, undef, undef, undef, undef, undef, undef, undef, undef, undef, undef, undef, undef, undef, undef], []⟩ : Act) v
        refine wpOp_step rfl (fun K' hK' => ?_)
        go_simp
        exact hK' _ _ (hK _ _ (Below.refl _ _) (at_of rfl (rfl)))
      · obtain ⟨x, rfl⟩ := upd_of (show x 6 = .tuple #[.int .i64 0, .int .i64 0, .int .i64 7] from hd 6 _ (by simp) rfl)
        show wpOp Try.prog _ _ 9 K (⟨#[.bool false, .pointer (some ⟨B1, 0, none⟩), .pointer (some ⟨(B1 + 1), 0, none⟩), .int .i64 3, .int .i64 0, .int .i64 2, .int .i64 0, .int .i64 1, .int .i64 2, .int .i64 0, .slice (some ⟨A10, O10, none⟩) 1 d10, .int .i64 0, .pointer (some ⟨B12, 0, none⟩), .int .i64 0, .slice (some ⟨A14, O14, none⟩) 3 d14, .int .i64 0, .int .i64 30, .int .i64 0, .int .i64 0, x 10, x 11, undef, undef, undef, undef, undef, undef, undef, y 28, y 29, y 30, y 31, y 32, y 33, y 34, y 35, y 36, y 37, y 38, y 39, y 40, y 41, y 42, y 43, y 44, y 45, y 46, y 47, y 48, y 49, y 50, y 51, y 52, y 53, y 54, y 55, y 56, y 57, y 58, y 59, y 60, y 61, y 62, y 63, y 64, y 65, y 66, y 67, y 68, y 69, y 70, y 71, y 72, y 73, y 74, y 75, y 76, y 77, y 78, .tuple #[.int .i64 0, .int .i64 0, .int .i64 7], x 0, x 1, x 2, x 3, x 4, x 5, x 7, x 8, x 9, undef, undef, undef, undef, undef, undef, undef, undef, undef, undef, undef, undef, undef, undef, undef, undef, undef, undef, undef, undef, undef, undef, undef, undef, undef, undef, undef, undef, undef, undef, undef, undef, undef, undef, undef, undef, undef, undef, undef, undef, undef, undef, undef, undef, undef, undef, undef, undef, undef, undef, undef, undef, undef, undef, undef, undef, undef, undef, undef, undef, undef, undef, undef, undef, undef, undef, undef, undef, undef, undef, undef, undef, undef, undef, undef, undef, undef, undef, undef, undef, undef, undef, undef, undef, undef, undef, undef, undef, undef, undef, undef, undef, undef, undef, undef, undef, undef, undef, undef, undef, undef, undef, undef, undef, undef, undef, undef, undef, undef, undef, undef, undef, undef, undef, undef, undef, undef, undef, undef, undef, undef, undef, undef, undef, undef, undef, undef, undef, undef, undef, undef, undef, undef], []⟩ : Act) v
        refine wpOp_step rfl (fun K' hK' => ?_)
        go_simp
        exact hK' _ _ (hK _ _ (Below.refl _ _) (at_of rfl (rfl)))
      · obtain ⟨x, rfl⟩ := upd_of (show x 7 = .int .i64 0 from hd 7 _ (by simp) rfl)
        show wpOp Try.prog _ _ 10 K (⟨#[.bool false, .pointer (some ⟨B1, 0, none⟩), .pointer (some ⟨(B1 + 1), 0, none⟩), .int .i64 3, .int .i64 0, .int .i64 2, .int .i64 0, .int .i64 1, .int .i64 2, .int .i64 0, .slice (some ⟨A10, O10, none⟩) 1 d10, .int .i64 0, .pointer (some ⟨B12, 0, none⟩), .int .i64 0, .slice (some ⟨A14, O14, none⟩) 3 d14, .int .i64 0, .int .i64 30, .int .i64 0, .int .i64 0, x 10, x 11, undef, undef, undef, undef, undef, undef, undef, y 28, y 29, y 30, y 31, y 32, y 33, y 34, y 35, y 36, y 37, y 38, y 39, y 40, y 41, y 42, y 43, y 44, y 45, y 46, y 47, y 48, y 49, y 50, y 51, y 52, y 53, y 54, y 55, y 56, y 57, y 58, y 59, y 60, y 61, y 62, y 63, y 64, y 65, y 66, y 67, y 68, y 69, y 70, y 71, y 72, y 73, y 74, y 75, y 76, y 77, y 78, x 6, x 0, x 1, x 2, x 3, x 4, x 5, .int .i64 0, x 8, x 9, undef, undef, undef, undef, undef, undef, undef, undef, undef, undef, undef, undef, undef, undef, undef, undef, undef, undef, undef, undef, undef, undef, undef, undef, undef, undef, undef, undef, undef, undef, undef, undef, undef, undef, undef, undef, undef, undef, undef, undef, undef, undef, undef, undef, undef, undef, undef, undef, undef, undef, undef, undef, undef, undef, undef, undef, undef, undef, undef, undef, undef, undef, undef, undef, undef, undef, undef, undef, undef, undef, undef, undef, undef, undef, undef, undef, undef, undef, undef, undef, undef, undef, undef, undef, undef, undef, undef, undef, undef, undef, undef, undef, undef, undef, undef, undef, undef, undef, undef, undef, undef, undef, undef, undef, undef, undef, undef, undef, undef, undef, undef, undef, undef, undef, undef, undef, undef, undef, undef, undef, undef, undef, undef, undef, undef, undef, undef, undef, undef, undef, undef, undef, undef], []⟩ : Act) v
        refine wpOp_step rfl (fun K' hK' => ?_)
        go_simp
        exact hK' _ _ (hK _ _ (Below.refl _ _) (at_of rfl (rfl)))
      · obtain ⟨x, rfl⟩ := upd_of (show x 8 = .int .i64 0 from hd 8 _ (by simp) rfl)
        show wpOp Try.prog _ _ 11 K (⟨#[.bool false, .pointer (some ⟨B1, 0, none⟩), .pointer (some ⟨(B1 + 1), 0, none⟩), .int .i64 3, .int .i64 0, .int .i64 2, .int .i64 0, .int .i64 1, .int .i64 2, .int .i64 0, .slice (some ⟨A10, O10, none⟩) 1 d10, .int .i64 0, .pointer (some ⟨B12, 0, none⟩), .int .i64 0, .slice (some ⟨A14, O14, none⟩) 3 d14, .int .i64 0, .int .i64 30, .int .i64 0, .int .i64 0, x 10, x 11, undef, undef, undef, undef, undef, undef, undef, y 28, y 29, y 30, y 31, y 32, y 33, y 34, y 35, y 36, y 37, y 38, y 39, y 40, y 41, y 42, y 43, y 44, y 45, y 46, y 47, y 48, y 49, y 50, y 51, y 52, y 53, y 54, y 55, y 56, y 57, y 58, y 59, y 60, y 61, y 62, y 63, y 64, y 65, y 66, y 67, y 68, y 69, y 70, y 71, y 72, y 73, y 74, y 75, y 76, y 77, y 78, x 6, x 0, x 1, x 2, x 3, x 4, x 5, x 7, .int .i64 0, x 9, undef, undef, undef, undef, undef, undef, undef, undef, undef, undef, undef, undef, undef, undef, undef, undef, undef, undef, undef, undef, undef, undef, undef, undef, undef, undef, undef, undef, undef, undef, undef, undef, undef, undef, undef, undef, undef, undef, undef, undef, undef, undef, undef, undef, undef, undef, undef, undef, undef, undef, undef, undef, undef, undef, undef, undef, undef, undef, undef, undef, undef, undef, undef, undef, undef, undef, undef, undef, undef, undef, undef, undef, undef, undef, undef, undef, undef, undef, undef, undef, undef, undef, undef, undef, undef, undef, undef, undef, undef, undef, undef, undef, undef, undef, undef, undef, undef, undef, undef, undef, undef, undef, undef, undef, undef, undef, undef, undef, undef, undef, undef, undef, undef, undef, undef, undef, undef, undef, undef, undef, undef, undef, undef, undef, undef, undef, undef, undef, undef, undef, undef, undef, undef], []⟩ : Act) v
        refine wpOp_step rfl (fun K' hK' => ?_)
        go_simp
        exact hK' _ _ (hK _ _ (Below.refl _ _) (at_of rfl (rfl)))
    case fin9 =>
      rintro x v gv hd
      obtain ⟨x, rfl⟩ := upd_of (show x 9 = .int .i64 7 from hd 9 _ (by omega) rfl)
      obtain ⟨x, rfl⟩ := upd_of (show x 10 = .int .i64 0 from hd 10 _ (by omega) rfl)
      obtain ⟨x, rfl⟩ := upd_of (show x 11 = .int .i64 0 from hd 11 _ (by omega) rfl)
      clear hd
      show wpList Try.prog _ _ (List.drop 12 _) (⟨#[.bool false, .pointer (some ⟨B1, 0, none⟩), .pointer (some ⟨(B1 + 1), 0, none⟩), .int .i64 3, .int .i64 0, .int .i64 2, .int .i64 0, .int .i64 1, .int .i64 2, .int .i64 0, .slice (some ⟨A10, O10, none⟩) 1 d10, .int .i64 0, .pointer (some ⟨B12, 0, none⟩), .int .i64 0, .slice (some ⟨A14, O14, none⟩) 3 d14, .int .i64 0, .int .i64 30, .int .i64 0, .int .i64 0, .int .i64 0, .int .i64 0, undef, undef, undef, undef, undef, undef, undef, y 28, y 29, y 30, y 31, y 32, y 33, y 34, y 35, y 36, y 37, y 38, y 39, y 40, y 41, y 42, y 43, y 44, y 45, y 46, y 47, y 48, y 49, y 50, y 51, y 52, y 53, y 54, y 55, y 56, y 57, y 58, y 59, y 60, y 61, y 62, y 63, y 64, y 65, y 66, y 67, y 68, y 69, y 70, y 71, y 72, y 73, y 74, y 75, y 76, y 77, y 78, x 6, x 0, x 1, x 2, x 3, x 4, x 5, x 7, x 8, .int .i64 7, undef, undef, undef, undef, undef, undef, undef, undef, undef, undef, undef, undef, undef, undef, undef, undef, undef, undef, undef, undef, undef, undef, undef, undef, undef, undef, undef, undef, undef, undef, undef, undef, undef, undef, undef, undef, undef, undef, undef, undef, undef, undef, undef, undef, undef, undef, undef, undef, undef, undef, undef, undef, undef, undef, undef, undef, undef, undef, undef, undef, undef, undef, undef, undef, undef, undef, undef, undef, undef, undef, undef, undef, undef, undef, undef, undef, undef, undef, undef, undef, undef, undef, undef, undef, undef, undef, undef, undef, undef, undef, undef, undef, undef, undef, undef, undef, undef, undef, undef, undef, undef, undef, undef, undef, undef, undef, undef, undef, undef, undef, undef, undef, undef, undef, undef, undef, undef, undef, undef, undef, undef, undef, undef, undef, undef, undef, undef, undef, undef, undef, undef, undef, undef], []⟩ : Act) v
      simp only [List.drop_succ_cons, List.drop_zero]
      replace gX := gX.tr gv
      replace b2 := b2.keep gv
      replace r10 := r10.grow gv
      replace b12 := b12.keep gv
      replace r14 := r14.grow gv
      clear gv
      go_upto_region 10 with fail
      refine (show (∀ z : Nat → Value, Code.wp Try.prog _ _ ⟨#[.bool false, .pointer (some ⟨B1, 0, none⟩), .pointer (some ⟨(B1 + 1), 0, none⟩), .int .i64 3, .int .i64 0, .int .i64 2, .int .i64 0, .int .i64 1, .int .i64 2, .int .i64 0, .slice (some ⟨A10, O10, none⟩) 1 d10, .int .i64 0, .pointer (some ⟨B12, 0, none⟩), .int .i64 0, .slice (some ⟨A14, O14, none⟩) 3 d14, .int .i64 0, .int .i64 30, .int .i64 0, .int .i64 0, .int .i64 0, .int .i64 0, .int .i64 7, undef, undef, undef, undef, undef, undef, z 28, z 29, z 30, z 31, z 32, z 33, z 34, z 35, z 36, z 37, z 38, z 39, z 40, z 41, z 42, z 43, z 44, z 45, z 46, z 47, z 48, z 49, z 50, z 51, z 52, z 53, z 54, z 55, z 56, z 57, z 58, z 59, z 60, z 61, z 62, z 63, z 64, z 65, z 66, z 67, z 68, z 69, z 70, z 71, z 72, z 73, z 74, z 75, z 76, z 77, z 78, z 79, z 80, z 81, z 82, z 83, z 84, z 85, z 86, z 87, z 88, undef, undef, undef, undef, undef, undef, undef, undef, undef, undef, undef, undef, undef, undef, undef, undef, undef, undef, undef, undef, undef, undef, undef, undef, undef, undef, undef, undef, undef, undef, undef, undef, undef, undef, undef, undef, undef, undef, undef, undef, undef, undef, undef, undef, undef, undef, undef, undef, undef, undef, undef, undef, undef, undef, undef, undef, undef, undef, undef, undef, undef, undef, undef, undef, undef, undef, undef, undef, undef, undef, undef, undef, undef, undef, undef, undef, undef, undef, undef, undef, undef, undef, undef, undef, undef, undef, undef, undef, undef, undef, undef, undef, undef, undef, undef, undef, undef, undef, undef, undef, undef, undef, undef, undef, undef, undef, undef, undef, undef, undef, undef, undef, undef, undef, undef, undef, undef, undef, undef, undef, undef, undef, undef, undef, undef, undef, undef, undef, undef, undef, undef, undef, undef], []⟩ _) → _ from fun h => h ((fun l : List Value => fun i => l.getD i undef) [undef, undef, undef, undef, undef, undef, undef, undef, undef, undef, undef, undef, undef, undef, undef, undef, undef, undef, undef, undef, undef, undef, undef, undef, undef, undef, undef, undef, _, _, _, _, _, _, _, _, _, _, _, _, _, _, _, _, _, _, _, _, _, _, _, _, _, _, _, _, _, _, _, _, _, _, _, _, _, _, _, _, _, _, _, _, _, _, _, _, _, _, _, _, _, _, _, _, _, _, _, _, _])) ?_
      intro z
      dsimp only
      refine wp_region_facts 7 [(2, 0), (2, 1), (3, 2), (4, 3), (5, 3), (6, 4)] (fun x => ⟨#[.bool false, .pointer (some ⟨B1, 0, none⟩), .pointer (some ⟨(B1 + 1), 0, none⟩), .int .i64 3, .int .i64 0, .int .i64 2, .int .i64 0, .int .i64 1, .int .i64 2, .int .i64 0, .slice (some ⟨A10, O10, none⟩) 1 d10, .int .i64 0, .pointer (some ⟨B12, 0, none⟩), .int .i64 0, .slice (some ⟨A14, O14, none⟩) 3 d14, .int .i64 0, .int .i64 30, .int .i64 0, .int .i64 0, .int .i64 0, .int .i64 0, .int .i64 7, x 6, undef, undef, undef, undef, undef, z 28, z 29, z 30, z 31, z 32, z 33, z 34, z 35, z 36, z 37, z 38, z 39, z 40, z 41, z 42, z 43, z 44, z 45, z 46, z 47, z 48, z 49, z 50, z 51, z 52, z 53, z 54, z 55, z 56, z 57, z 58, z 59, z 60, z 61, z 62, z 63, z 64, z 65, z 66, z 67, z 68, z 69, z 70, z 71, z 72, z 73, z 74, z 75, z 76, z 77, z 78, z 79, z 80, z 81, z 82, z 83, z 84, z 85, z 86, z 87, z 88, x 3, x 0, x 1, x 2, x 4, x 5, undef, undef, undef, undef, undef, undef, undef, undef, undef, undef, undef, undef, undef, undef, undef, undef, undef, undef, undef, undef, undef, undef, undef, undef, undef, undef, undef, undef, undef, undef, undef, undef, undef, undef, undef, undef, undef, undef, undef, undef, undef, undef, undef, undef, undef, undef, undef, undef, undef, undef, undef, undef, undef, undef, undef, undef, undef, undef, undef, undef, undef, undef, undef, undef, undef, undef, undef, undef, undef, undef, undef, undef, undef, undef, undef, undef, undef, undef, undef, undef, undef, undef, undef, undef, undef, undef, undef, undef, undef, undef, undef, undef, undef, undef, undef, undef, undef, undef, undef, undef, undef, undef, undef, undef, undef, undef, undef, undef, undef, undef, undef, undef, undef, undef, undef, undef, undef, undef, undef, undef, undef, undef, undef, undef, undef, undef, undef], []⟩) (fun _ => undef) [fun _ x => x = .agg #[.int .i64 300, .int .i64 320, .int .i64 100, .int .i64 110], fun v x => ∃ a, x = .slice a 3 3 ∧ TRow v a ts0, fun _ x => x = .tuple #[.int .i64 3, .int .i64 0], fun _ x => x = .tuple #[.int .i64 3, .int .i64 0], fun _ x => x = .int .i64 3, fun _ x => x = .int .i64 0, fun _ x => x = .int .i64 3] (by rfl) (by kernel_rfl) (by kernel_rfl) (by kernel_rfl) (stays_cons (Stays.eq _) (stays_cons ((show Stays (fun v x => ∃ a, x = .slice a 3 3 ∧ TRow v a ts0) from fun v v' x g ⟨b, h, r⟩ => ⟨b, h, r.grow g⟩)) (stays_cons (Stays.eq _) (stays_cons (Stays.eq _) (stays_cons (Stays.eq _) (stays_cons (Stays.eq _) (stays_cons (Stays.eq _) stays_nil))))))) ?step10 ?fin10
      case step10 =>
        rintro i hi x v gv hd K hK
        have hi8 : i = 0 ∨ i = 1 ∨ i = 2 ∨ i = 3 ∨ i = 4 ∨ i = 5 ∨ i = 6 := by omega
        rcases hi8 with rfl | rfl | rfl | rfl | rfl | rfl | rfl
        · show wpOp Try.prog _ _ 0 K (⟨#[.bool false, .pointer (some ⟨B1, 0, none⟩), .pointer (some ⟨(B1 + 1), 0, none⟩), .int .i64 3, .int .i64 0, .int .i64 2, .int .i64 0, .int .i64 1, .int .i64 2, .int .i64 0, .slice (some ⟨A10, O10, none⟩) 1 d10, .int .i64 0, .pointer (some ⟨B12, 0, none⟩), .int .i64 0, .slice (some ⟨A14, O14, none⟩) 3 d14, .int .i64 0, .int .i64 30, .int .i64 0, .int .i64 0, .int .i64 0, .int .i64 0, .int .i64 7, x 6, undef, undef, undef, undef, undef, z 28, z 29, z 30, z 31, z 32, z 33, z 34, z 35, z 36, z 37, z 38, z 39, z 40, z 41, z 42, z 43, z 44, z 45, z 46, z 47, z 48, z 49, z 50, z 51, z 52, z 53, z 54, z 55, z 56, z 57, z 58, z 59, z 60, z 61, z 62, z 63, z 64, z 65, z 66, z 67, z 68, z 69, z 70, z 71, z 72, z 73, z 74, z 75, z 76, z 77, z 78, z 79, z 80, z 81, z 82, z 83, z 84, z 85, z 86, z 87, z 88, x 3, x 0, x 1, x 2, x 4, x 5, undef, undef, undef, undef, undef, undef, undef, undef, undef, undef, undef, undef, undef, undef, undef, undef, undef, undef, undef, undef, undef, undef, undef, undef, undef, undef, undef, undef, undef, undef, undef, undef, undef, undef, undef, undef, undef, undef, undef, undef, undef, undef, undef, undef, undef, undef, undef, undef, undef, undef, undef, undef, undef, undef, undef, undef, undef, undef, undef, undef, undef, undef, undef, undef, undef, undef, undef, undef, undef, undef, undef, undef, undef, undef, undef, undef, undef, undef, undef, undef, undef, undef, undef, undef, undef, undef, undef, undef, undef, undef, undef, undef, undef, undef, undef, undef, undef, undef, undef, undef, undef, undef, undef, undef, undef, undef, undef, undef, undef, undef, undef, undef, undef, undef, undef, undef, undef, undef, undef, undef, undef, undef, undef, undef, undef, undef, undef], []⟩ : Act) v
          refine wpOp_step rfl (fun K' hK' => ?_)
          rw [if_pos (by rfl)]
          refine wp_load_mid 70 _ rfl (B1 + 1) 0 (by rfl) [.int .i64 300, .int .i64 320, .int .i64 100, .int .i64 110] _ (fun j u hu => by rw [Nat.zero_add]; exact (b2.keep gv).2 j u hu) Try.underlying70 rfl (by kernel_rfl) ?_
          exact hK' _ _ (hK _ _ (Below.refl _ _) (at_of rfl (rfl)))
        · show wpOp Try.prog _ _ 1 K (⟨#[.bool false, .pointer (some ⟨B1, 0, none⟩), .pointer (some ⟨(B1 + 1), 0, none⟩), .int .i64 3, .int .i64 0, .int .i64 2, .int .i64 0, .int .i64 1, .int .i64 2, .int .i64 0, .slice (some ⟨A10, O10, none⟩) 1 d10, .int .i64 0, .pointer (some ⟨B12, 0, none⟩), .int .i64 0, .slice (some ⟨A14, O14, none⟩) 3 d14, .int .i64 0, .int .i64 30, .int .i64 0, .int .i64 0, .int .i64 0, .int .i64 0, .int .i64 7, x 6, undef, undef, undef, undef, undef, z 28, z 29, z 30, z 31, z 32, z 33, z 34, z 35, z 36, z 37, z 38, z 39, z 40, z 41, z 42, z 43, z 44, z 45, z 46, z 47, z 48, z 49, z 50, z 51, z 52, z 53, z 54, z 55, z 56, z 57, z 58, z 59, z 60, z 61, z 62, z 63, z 64, z 65, z 66, z 67, z 68, z 69, z 70, z 71, z 72, z 73, z 74, z 75, z 76, z 77, z 78, z 79, z 80, z 81, z 82, z 83, z 84, z 85, z 86, z 87, z 88, x 3, x 0, x 1, x 2, x 4, x 5, undef, undef, undef, undef, undef, undef, undef, undef, undef, undef, undef, undef, undef, undef, undef, undef, undef, undef, undef, undef, undef, undef, undef, undef, undef, undef, undef, undef, undef, undef, undef, undef, undef, undef, undef, undef, undef, undef, undef, undef, undef, undef, undef, undef, undef, undef, undef, undef, undef, undef, undef, undef, undef, undef, undef, undef, undef, undef, undef, undef, undef, undef, undef, undef, undef, undef, undef, undef, undef, undef, undef, undef, undef, undef, undef, undef, undef, undef, undef, undef, undef, undef, undef, undef, undef, undef, undef, undef, undef, undef, undef, undef, undef, undef, undef, undef, undef, undef, undef, undef, undef, undef, undef, undef, undef, undef, undef, undef, undef, undef, undef, undef, undef, undef, undef, undef, undef, undef, undef, undef, undef, undef, undef, undef, undef, undef, undef], []⟩ : Act) v
          refine wpOp_step rfl (fun K' hK' => ?_)
          go_simp
          refine (table_any v).mono ?_
          rintro e v' ⟨a, rfl, hr, hg⟩
          exact hK' _ _ (hK _ _ hg (at_of rfl (⟨_, rfl, hr⟩)))
        · obtain ⟨x, rfl⟩ := upd_of (show x 0 = .agg #[.int .i64 300, .int .i64 320, .int .i64 100, .int .i64 110] from hd 0 _ (by simp) rfl)
          obtain ⟨t1, e1, r1⟩ := hd 1 _ (by simp) rfl
          obtain ⟨x, rfl⟩ := upd_of (show x 1 = .slice t1 3 3 from e1)
          show wpOp Try.prog _ _ 2 K (⟨#[.bool false, .pointer (some ⟨B1, 0, none⟩), .pointer (some ⟨(B1 + 1), 0, none⟩), .int .i64 3, .int .i64 0, .int .i64 2, .int .i64 0, .int .i64 1, .int .i64 2, .int .i64 0, .slice (some ⟨A10, O10, none⟩) 1 d10, .int .i64 0, .pointer (some ⟨B12, 0, none⟩), .int .i64 0, .slice (some ⟨A14, O14, none⟩) 3 d14, .int .i64 0, .int .i64 30, .int .i64 0, .int .i64 0, .int .i64 0, .int .i64 0, .int .i64 7, x 6, undef, undef, undef, undef, undef, z 28, z 29, z 30, z 31, z 32, z 33, z 34, z 35, z 36, z 37, z 38, z 39, z 40, z 41, z 42, z 43, z 44, z 45, z 46, z 47, z 48, z 49, z 50, z 51, z 52, z 53, z 54, z 55, z 56, z 57, z 58, z 59, z 60, z 61, z 62, z 63, z 64, z 65, z 66, z 67, z 68, z 69, z 70, z 71, z 72, z 73, z 74, z 75, z 76, z 77, z 78, z 79, z 80, z 81, z 82, z 83, z 84, z 85, z 86, z 87, z 88, x 3, .agg #[.int .i64 300, .int .i64 320, .int .i64 100, .int .i64 110], .slice t1 3 3, x 2, x 4, x 5, undef, undef, undef, undef, undef, undef, undef, undef, undef, undef, undef, undef, undef, undef, undef, undef, undef, undef, undef, undef, undef, undef, undef, undef, undef, undef, undef, undef, undef, undef, undef, undef, undef, undef, undef, undef, undef, undef, undef, undef, undef, undef, undef, undef, undef, undef, undef, undef, undef, undef, undef, undef, undef, undef, undef, undef, undef, undef, undef, undef, undef, undef, undef, undef, undef, undef, undef, undef, undef, undef, undef, undef, undef, undef, undef, undef, undef, undef, undef, undef, undef, undef, undef, undef, undef, undef, undef, undef, undef, undef, undef, undef, undef, undef, undef, undef, undef, undef, undef, undef, undef, undef, undef, undef, undef, undef, undef, undef, undef, undef, undef, undef, undef, undef, undef, undef, undef, undef, undef, undef, undef, undef, undef, undef, undef, undef, undef], []⟩ : Act) v
          refine wpOp_step rfl (fun K' hK' => ?_)
          go_simp
          refine (high1 t1 v r1).mono ?_
          rintro e v' ⟨rfl, hg⟩
          exact hK' _ _ (hK _ _ hg (at_of rfl (rfl)))
        · obtain ⟨x, rfl⟩ := upd_of (show x 2 = .tuple #[.int .i64 3, .int .i64 0] from hd 2 _ (by simp) rfl)
          show wpOp Try.prog _ _ 3 K (⟨#[.bool false, .pointer (some ⟨B1, 0, none⟩), .pointer (some ⟨(B1 + 1), 0, none⟩), .int .i64 3, .int .i64 0, .int .i64 2, .int .i64 0, .int .i64 1, .int .i64 2, .int .i64 0, .slice (some ⟨A10, O10, none⟩) 1 d10, .int .i64 0, .pointer (some ⟨B12, 0, none⟩), .int .i64 0, .slice (some ⟨A14, O14, none⟩) 3 d14, .int .i64 0, .int .i64 30, .int .i64 0, .int .i64 0, .int .i64 0, .int .i64 0, .int .i64 7, x 6, undef, undef, undef, undef, undef, z 28, z 29, z 30, z 31, z 32, z 33, z 34, z 35, z 36, z 37, z 38, z 39, z 40, z 41, z 42, z 43, z 44, z 45, z 46, z 47, z 48, z 49, z 50, z 51, z 52, z 53, z 54, z 55, z 56, z 57, z 58, z 59, z 60, z 61, z 62, z 63, z 64, z 65, z 66, z 67, z 68, z 69, z 70, z 71, z 72, z 73, z 74, z 75, z 76, z 77, z 78, z 79, z 80, z 81, z 82, z 83, z 84, z 85, z 86, z 87, z 88, x 3, x 0, x 1, .tuple #[.int .i64 3, .int .i64 0], x 4, x 5, undef, undef, undef, undef, undef, undef, undef, undef, undef, undef, undef, undef, undef, undef, undef, undef, undef, undef, undef, undef, undef, undef, undef, undef, undef, undef, undef, undef, undef, undef, undef, undef, undef, undef, undef, undef, undef, undef, undef, undef, undef, undef, undef, undef, undef, undef, undef, undef, undef, undef, undef, undef, undef, undef, undef, undef, undef, undef, undef, undef, undef, undef, undef, undef, undef, undef, undef, undef, undef, undef, undef, undef, undef, undef, undef, undef, undef, undef, undef, undef, undef, undef, undef, undef, undef, undef, undef, undef, undef, undef, undef, undef, undef, undef, undef, undef, undef, undef, undef, undef, undef, undef, undef, undef, undef, undef, undef, undef, undef, undef, undef, undef, undef, undef, undef, undef, undef, undef, undef, undef, undef, undef, undef, undef, undef, undef, undef], []⟩ : Act) v
          refine wpOp_step rfl (fun K' hK' => ?_)
          go_simp
          exact hK' _ _ (hK _ _ (Below.refl _ _) (at_of rfl (rfl)))
        · obtain ⟨x, rfl⟩ := upd_of (show x 3 = .tuple #[.int .i64 3, .int .i64 0] from hd 3 _ (by simp) rfl)
          show wpOp Try.prog _ _ 4 K (⟨#[.bool false, .pointer (some ⟨B1, 0, none⟩), .pointer (some ⟨(B1 + 1), 0, none⟩), .int .i64 3, .int .i64 0, .int .i64 2, .int .i64 0, .int .i64 1, .int .i64 2, .int .i64 0, .slice (some ⟨A10, O10, none⟩) 1 d10, .int .i64 0, .pointer (some ⟨B12, 0, none⟩), .int .i64 0, .slice (some ⟨A14, O14, none⟩) 3 d14, .int .i64 0, .int .i64 30, .int .i64 0, .int .i64 0, .int .i64 0, .int .i64 0, .int .i64 7, x 6, undef, undef, undef, undef, undef, z 28, z 29, z 30, z 31, z 32, z 33, z 34, z 35, z 36, z 37, z 38, z 39, z 40, z 41, z 42, z 43, z 44, z 45, z 46, z 47, z 48, z 49, z 50, z 51, z 52, z 53, z 54, z 55, z 56, z 57, z 58, z 59, z 60, z 61, z 62, z 63, z 64, z 65, z 66, z 67, z 68, z 69, z 70, z 71, z 72, z 73, z 74, z 75, z 76, z 77, z 78, z 79, z 80, z 81, z 82, z 83, z 84, z 85, z 86, z 87, z 88, .tuple #[.int .i64 3, .int .i64 0], x 0, x 1, x 2, x 4, x 5, undef, undef, undef, undef, undef, undef, undef, undef, undef, undef, undef, undef, undef, undef, undef, undef, undef, undef, undef, undef, undef, undef, undef, undef, undef, undef, undef, undef, undef, undef, undef, undef, undef, undef, undef, undef, undef, undef, undef, undef, undef, undef, undef, undef, undef, undef, undef, undef, undef, undef, undef, undef, undef, undef, undef, undef, undef, undef, undef, undef, undef, undef, undef, undef, undef, undef, undef, undef, undef, undef, undef, undef, undef, undef, undef, undef, undef, undef, undef, undef, undef, undef, undef, undef, undef, undef, undef, undef, undef, undef, undef, undef, undef, undef, undef, undef, undef, undef, undef, undef, undef, undef, undef, undef, undef, undef, undef, undef, undef, undef, undef, undef, undef, undef, undef, undef, undef, undef, undef, undef, undef, undef, undef, undef, undef, undef, undef], []⟩ : Act) v
          refine wpOp_step rfl (fun K' hK' => ?_)
          go_simp
          exact hK' _ _ (hK _ _ (Below.refl _ _) (at_of rfl (rfl)))
        · obtain ⟨x, rfl⟩ := upd_of (show x 3 = .tuple #[.int .i64 3, .int .i64 0] from hd 3 _ (by simp) rfl)
          show wpOp Try.prog _ _ 5 K (⟨#[.bool false, .pointer (some ⟨B1, 0, none⟩), .pointer (some ⟨(B1 + 1), 0, none⟩), .int .i64 3, .int .i64 0, .int .i64 2, .int .i64 0, .int .i64 1, .int .i64 2, .int .i64 0, .slice (some ⟨A10, O10, none⟩) 1 d10, .int .i64 0, .pointer (some ⟨B12, 0, none⟩), .int .i64 0, .slice (some ⟨A14, O14, none⟩) 3 d14, .int .i64 0, .int .i64 30, .int .i64 0, .int .i64 0, .int .i64 0, .int .i64 0, .int .i64 7, x 6, undef, undef, undef, undef, undef, z 28, z 29, z 30, z 31, z 32, z 33, z 34, z 35, z 36, z 37, z 38, z 39, z 40, z 41, z 42, z 43, z 44, z 45, z 46, z 47, z 48, z 49, z 50, z 51, z 52, z 53, z 54, z 55, z 56, z 57, z 58, z 59, z 60, z 61, z 62, z 63, z 64, z 65, z 66, z 67, z 68, z 69, z 70, z 71, z 72, z 73, z 74, z 75, z 76, z 77, z 78, z 79, z 80, z 81, z 82, z 83, z 84, z 85, z 86, z 87, z 88, .tuple #[.int .i64 3, .int .i64 0], x 0, x 1, x 2, x 4, x 5, undef, undef, undef, undef, undef, undef, undef, undef, undef, undef, undef, undef, undef, undef, undef, undef, undef, undef, undef, undef, undef, undef, undef, undef, undef, undef, undef, undef, undef, undef, undef, undef, undef, undef, undef, undef, undef, undef, undef, undef, undef, undef, undef, undef, undef, undef, undef, undef, undef, undef, undef, undef, undef, undef, undef, undef, undef, undef, undef, undef, undef, undef, undef, undef, undef, undef, undef, undef, undef, undef, undef, undef, undef, undef, undef, undef, undef, undef, undef, undef, undef, undef, undef, undef, undef, undef, undef, undef, undef, undef, undef, undef, undef, undef, undef, undef, undef, undef, undef, undef, undef, undef, undef, undef, undef, undef, undef, undef, undef, undef, undef, undef, undef, undef, undef, undef, undef, undef, undef, undef, undef, undef, undef, undef, undef, undef, undef], []⟩ : Act) v
          refine wpOp_step rfl (fun K' hK' => ?_)
          go_simp
          exact hK' _ _ (hK _ _ (Below.refl _ _) (at_of rfl (rfl)))
        · obtain ⟨x, rfl⟩ := upd_of (show x 4 = .int .i64 3 from hd 4 _ (by simp) rfl)
          show wpOp Try.prog _ _ 6 K (⟨#[.bool false, .pointer (some ⟨B1, 0, none⟩), .pointer (some ⟨(B1 + 1), 0, none⟩), .int .i64 3, .int .i64 0, .int .i64 2, .int .i64 0, .int .i64 1, .int .i64 2, .int .i64 0, .slice (some ⟨A10, O10, none⟩) 1 d10, .int .i64 0, .pointer (some ⟨B12, 0, none⟩), .int .i64 0, .slice (some ⟨A14, O14, none⟩) 3 d14, .int .i64 0, .int .i64 30, .int .i64 0, .int .i64 0, .int .i64 0, .int .i64 0, .int .i64 7, x 6, undef, undef, undef, undef, undef, z 28, z 29, z 30, z 31, z 32, z 33, z 34, z 35, z 36, z 37, z 38, z 39, z 40, z 41, z 42, z 43, z 44, z 45, z 46, z 47, z 48, z 49, z 50, z 51, z 52, z 53, z 54, z 55, z 56, z 57, z 58, z 59, z 60, z 61, z 62, z 63, z 64, z 65, z 66, z 67, z 68, z 69, z 70, z 71, z 72, z 73, z 74, z 75, z 76, z 77, z 78, z 79, z 80, z 81, z 82, z 83, z 84, z 85, z 86, z 87, z 88, x 3, x 0, x 1, x 2, .int .i64 3, x 5, undef, undef, undef, undef, undef, undef, undef, undef, undef, undef, undef, undef, undef, undef, undef, undef, undef, undef, undef, undef, undef, undef, undef, undef, undef, undef, undef, undef, undef, undef, undef, undef, undef, undef, undef, undef, undef, undef, undef, undef, undef, undef, undef, undef, undef, undef, undef, undef, undef, undef, undef, undef, undef, undef, undef, undef, undef, undef, undef, undef, undef, undef, undef, undef, undef, undef, undef, undef, undef, undef, undef, undef, undef, undef, undef, undef, undef, undef, undef, undef, undef, undef, undef, undef, undef, undef, undef, undef, undef, undef, undef, undef, undef, undef, undef, undef, undef, undef, undef, undef, undef, undef, undef, undef, undef, undef, undef, undef, undef, undef, undef, undef, undef, undef, undef, undef, undef, undef, undef, undef, undef, undef, undef, undef, undef, undef, undef], []⟩ : Act) v
          refine wpOp_step rfl (fun K' hK' => ?_)
          go_simp
          exact hK' _ _ (hK _ _ (Below.refl _ _) (at_of rfl (rfl)))
      case fin10 =>
        rintro x v gv hd
        obtain ⟨x, rfl⟩ := upd_of (show x 5 = .int .i64 0 from hd 5 _ (by omega) rfl)
        obtain ⟨x, rfl⟩ := upd_of (show x 6 = .int .i64 3 from hd 6 _ (by omega) rfl)
        clear hd
        show wpList Try.prog _ _ (List.drop 7 _) (⟨#[.bool false, .pointer (some ⟨B1, 0, none⟩), .pointer (some ⟨(B1 + 1), 0, none⟩), .int .i64 3, .int .i64 0, .int .i64 2, .int .i64 0, .int .i64 1, .int .i64 2, .int .i64 0, .slice (some ⟨A10, O10, none⟩) 1 d10, .int .i64 0, .pointer (some ⟨B12, 0, none⟩), .int .i64 0, .slice (some ⟨A14, O14, none⟩) 3 d14, .int .i64 0, .int .i64 30, .int .i64 0, .int .i64 0, .int .i64 0, .int .i64 0, .int .i64 7, .int .i64 3, undef, undef, undef, undef, undef, z 28, z 29, z 30, z 31, z 32, z 33, z 34, z 35, z 36, z 37, z 38, z 39, z 40, z 41, z 42, z 43, z 44, z 45, z 46, z 47, z 48, z 49, z 50, z 51, z 52, z 53, z 54, z 55, z 56, z 57, z 58, z 59, z 60, z 61, z 62, z 63, z 64, z 65, z 66, z 67, z 68, z 69, z 70, z 71, z 72, z 73, z 74, z 75, z 76, z 77, z 78, z 79, z 80, z 81, z 82, z 83, z 84, z 85, z 86, z 87, z 88, x 3, x 0, x 1, x 2, x 4, .int .i64 0, undef, undef, undef, undef, undef, undef, undef, undef, undef, undef, undef, undef, undef, undef, undef, undef, undef, undef, undef, undef, undef, undef, undef, undef, undef, undef, undef, undef, undef, undef, undef, undef, undef, undef, undef, undef, undef, undef, undef, undef, undef, undef, undef, undef, undef, undef, undef, undef, undef, undef, undef, undef, undef, undef, undef, undef, undef, undef, undef, undef, undef, undef, undef, undef, undef, undef, undef, undef, undef, undef, undef, undef, undef, undef, undef, undef, undef, undef, undef, undef, undef, undef, undef, undef, undef, undef, undef, undef, undef, undef, undef, undef, undef, undef, undef, undef, undef, undef, undef, undef, undef, undef, undef, undef, undef, undef, undef, undef, undef, undef, undef, undef, undef, undef, undef, undef, undef, undef, undef, undef, undef, undef, undef, undef, undef, undef, undef], []⟩ : Act) v
        simp only [List.drop_succ_cons, List.drop_zero]
        replace gX := gX.tr gv
        replace r10 := r10.grow gv
        replace b12 := b12.keep gv
        replace r14 := r14.grow gv
        clear gv b2
        go_upto_region 11 with fail
        have tok0 : True := trivial
        have tok1 : True := trivial
        go_upto_region 12 with (first
          | (have _t := tok0; clear tok0 _t; go_at_call 59; refine (load_any 100 100 50 50 _).mono ?_; rintro e u0 ⟨rfl, h0⟩)
          | (have _t := tok1; clear tok1 _t; go_at_call 59; refine (load_any 200 200 100 100 _).mono ?_; rintro e u1 ⟨rfl, h1⟩)
          | (go_at_call 59; refine (load_any 40 40 60 60 _).mono ?_; rintro e u2 ⟨rfl, h2⟩)
          | (go_at_call 71; refine (table_any _).mono ?_; rintro e u3 ⟨t3, rfl, rt, h3⟩; obtain ⟨TB, TO, rfl, _⟩ := rt.addr (by decide))
          | (go_at_call 47; refine (ex_order _ _ _ _ _ ((RowOf.lit31 (enc := encL) (sz := 4) (fun _ => rfl) u2 70 or3 (by decide) #[.int .i64 100, .int .i64 100, .int .i64 50, .int .i64 50, .int .i64 200, .int .i64 200, .int .i64 100, .int .i64 100, .int .i64 40, .int .i64 40, .int .i64 60, .int .i64 60] (by rfl) _ rfl).grow h3) (RowOf.take31 rt 1)).mono ?_; rintro e u4 ⟨a24, d24, rfl, r24, h4⟩))
        have g := (h0.tr (h1.tr h2)).tr ((Gr.al u2 (.cells #[.int .i64 100, .int .i64 100, .int .i64 50, .int .i64 50, .int .i64 200, .int .i64 200, .int .i64 100, .int .i64 100, .int .i64 40, .int .i64 40, .int .i64 60, .int .i64 60] 70)).tr (h3.tr h4))
        replace gX := gX.tr g
        replace r10 := r10.grow g
        replace b12 := b12.keep g
        replace r14 := r14.grow g
        clear g h0 h1 h2 h3 h4 rt
        obtain ⟨A24, O24, rfl, _⟩ := r24.addr (by decide)
        have tok0 : True := trivial
        have tok1 : True := trivial
        go_upto_region 13 with (first
          | (have _t := tok0; clear tok0 _t; go_at_call 59; refine (load_any 100 100 50 50 _).mono ?_; rintro e u0 ⟨rfl, h0⟩)
          | (have _t := tok1; clear tok1 _t; go_at_call 59; refine (load_any 40 40 60 60 _).mono ?_; rintro e u1 ⟨rfl, h1⟩)
          | (go_at_call 59; refine (load_any 50 50 60 60 _).mono ?_; rintro e u2 ⟨rfl, h2⟩)
          | (go_at_call 71; refine (table_any _).mono ?_; rintro e u3 ⟨t3, rfl, rt, h3⟩; obtain ⟨TB, TO, rfl, _⟩ := rt.addr (by decide))
          | (go_at_call 48; refine (ex_most _ _ _ _ _ ((RowOf.lit31 (enc := encL) (sz := 4) (fun _ => rfl) u2 70 mo3 (by decide) #[.int .i64 100, .int .i64 100, .int .i64 50, .int .i64 50, .int .i64 40, .int .i64 40, .int .i64 60, .int .i64 60, .int .i64 50, .int .i64 50, .int .i64 60, .int .i64 60] (by rfl) _ rfl).grow h3) (RowOf.take31 rt 1)).mono ?_; rintro e u4 ⟨a26, d26, rfl, r26, h4⟩))
        have g := (h0.tr (h1.tr h2)).tr ((Gr.al u2 (.cells #[.int .i64 100, .int .i64 100, .int .i64 50, .int .i64 50, .int .i64 40, .int .i64 40, .int .i64 60, .int .i64 60, .int .i64 50, .int .i64 50, .int .i64 60, .int .i64 60] 70)).tr (h3.tr h4))
        replace gX := gX.tr g
        replace r10 := r10.grow g
        replace b12 := b12.keep g
        replace r14 := r14.grow g
        replace r24 := r24.grow g
        clear g h0 h1 h2 h3 h4 rt
        obtain ⟨A26, O26, rfl, _⟩ := r26.addr (by decide)
        go_upto_region 15 with fail
        refine (show (∀ n : Nat → Value, Code.wp Try.prog _ _ ⟨#[.bool false, .pointer (some ⟨B1, 0, none⟩), .pointer (some ⟨(B1 + 1), 0, none⟩), .int .i64 3, .int .i64 0, .int .i64 2, .int .i64 0, .int .i64 1, .int .i64 2, .int .i64 0, .slice (some ⟨A10, O10, none⟩) 1 d10, .int .i64 0, .pointer (some ⟨B12, 0, none⟩), .int .i64 0, .slice (some ⟨A14, O14, none⟩) 3 d14, .int .i64 0, .int .i64 30, .int .i64 0, .int .i64 0, .int .i64 0, .int .i64 0, .int .i64 7, .int .i64 3, .int .i64 0, .slice (some ⟨A24, O24, none⟩) 3 d24, .int .i64 0, .slice (some ⟨A26, O26, none⟩) 2 d26, .int .i64 0, n 28, n 29, n 30, n 31, n 32, n 33, n 34, n 35, n 36, n 37, n 38, n 39, n 40, n 41, n 42, n 43, n 44, n 45, n 46, n 47, n 48, n 49, n 50, n 51, n 52, n 53, n 54, n 55, n 56, n 57, n 58, n 59, n 60, n 61, n 62, n 63, n 64, n 65, n 66, n 67, n 68, n 69, n 70, n 71, n 72, n 73, n 74, n 75, n 76, n 77, n 78, n 79, n 80, n 81, n 82, n 83, n 84, n 85, n 86, n 87, n 88, n 89, n 90, n 91, n 92, n 93, n 94, n 95, n 96, n 97, n 98, n 99, n 100, n 101, n 102, n 103, n 104, n 105, n 106, n 107, n 108, n 109, n 110, n 111, n 112, n 113, n 114, n 115, n 116, n 117, n 118, n 119, n 120, n 121, n 122, n 123, n 124, n 125, n 126, n 127, n 128, n 129, n 130, n 131, n 132, n 133, n 134, n 135, n 136, n 137, n 138, n 139, n 140, n 141, n 142, n 143, n 144, n 145, n 146, n 147, n 148, n 149, n 150, n 151, n 152, n 153, n 154, n 155, n 156, n 157, n 158, n 159, n 160, n 161, undef, undef, undef, undef, undef, undef, undef, undef, undef, undef, undef, undef, undef, undef, undef, undef, undef, undef, undef, undef, undef, undef, undef, undef, undef, undef, undef, undef, undef, undef, undef, undef, undef, undef, undef, undef, undef, undef, undef, undef, undef, undef, undef, undef, undef, undef, undef, undef, undef, undef, undef, undef, undef, undef, undef, undef, undef, undef, undef, undef], []⟩ _) → _ from fun h => h ((fun l : List Value => fun i => l.getD i undef) [undef, undef, undef, undef, undef, undef, undef, undef, undef, undef, undef, undef, undef, undef, undef, undef, undef, undef, undef, undef, undef, undef, undef, undef, undef, undef, undef, undef, _, _, _, _, _, _, _, _, _, _, _, _, _, _, _, _, _, _, _, _, _, _, _, _, _, _, _, _, _, _, _, _, _, _, _, _, _, _, _, _, _, _, _, _, _, _, _, _, _, _, _, _, _, _, _, _, _, _, _, _, _, _, _, _, _, _, _, _, _, _, _, _, _, _, _, _, _, _, _, _, _, _, _, _, _, _, _, _, _, _, _, _, _, _, _, _, _, _, _, _, _, _, _, _, _, _, _, _, _, _, _, _, _, _, _, _, _, _, _, _, _, _, _, _, _, _, _, _, _, _, _, _, _, _])) ?_
        intro n
        dsimp only
        obtain ⟨c12a, c12b⟩ := b12.c2
        obtain ⟨_, _, he0, _, e0, e1⟩ := SRow.get r14 (j := 0) (x := ⟨200, 220⟩) rfl
        obtain ⟨_, _, he2, _, e4, e5⟩ := SRow.get r14 (j := 2) (x := ⟨0, 0⟩) rfl
        cases he0
        cases he2
        simp only [Nat.zero_mul, Nat.add_zero, Nat.reduceMul] at e0 e1 e4 e5
        have gv := Gr.dr u4
        obtain ⟨x0, x1⟩ := (b12.keep gv).c2
        have x2 := gv.keep e0
        have x3 := gv.keep e1
        have x4 := gv.keep e4
        have x5 := gv.keep e5
        have tk0 : True := trivial
        have tk1 : True := trivial
        have ts0' : True := trivial
        have ts1' : True := trivial
        go_region_held3 (fun w' => w'.cell? ⟨B12, 0, none⟩ = some (.int .i64 74226) ∧ w'.cell? ⟨B12, 1, none⟩ = some (.int .i64 91290) ∧ w'.cell? ⟨A14, O14, none⟩ = some (.int .i64 200) ∧ w'.cell? ⟨A14, O14 + 1, none⟩ = some (.int .i64 220) ∧ w'.cell? ⟨A14, O14 + 4, none⟩ = some (.int .i64 0) ∧ w'.cell? ⟨A14, O14 + 4 + 1, none⟩ = some (.int .i64 0)) (first | exact ⟨x0, x1, x2, x3, x4, x5⟩ | go_keep) (first
          | (have _t := ts0'; clear ts0' _t; go_at_call 24; (refine (same_any [1] [1] (some ⟨A10, O10, none⟩) _ d10 _ _ (r10.grow (gv.tr (Gr.al _ _))) (IRow.new' _ 3 [1] (by decide) _ rfl _ (by rfl))).mono ?_); rintro e wq ⟨rfl, hy⟩; replace gv := (gv.tr (Gr.al _ _)).tr hy; (obtain ⟨x0, x1⟩ := (b12.keep gv).c2); have x2 := gv.keep e0; have x3 := gv.keep e1; have x4 := gv.keep e4; have x5 := gv.keep e5)
          | (have _t := ts1'; clear ts1' _t; go_at_call 24; (refine (same_any [1, 0, 2] [1, 0, 2] (some ⟨A24, O24, none⟩) _ d24 _ _ (r24.grow (gv.tr (Gr.al _ _))) (IRow.new' _ 3 [1, 0, 2] (by decide) _ rfl _ (by rfl))).mono ?_); rintro e wq ⟨rfl, hy⟩; replace gv := (gv.tr (Gr.al _ _)).tr hy; (obtain ⟨x0, x1⟩ := (b12.keep gv).c2); have x2 := gv.keep e0; have x3 := gv.keep e1; have x4 := gv.keep e4; have x5 := gv.keep e5)
          | (go_at_call 24; (refine (same_any [0, 1] [0, 1] (some ⟨A26, O26, none⟩) _ d26 _ _ (r26.grow (gv.tr (Gr.al _ _))) (IRow.new' _ 3 [0, 1] (by decide) _ rfl _ (by rfl))).mono ?_); rintro e wq ⟨rfl, hy⟩; replace gv := (gv.tr (Gr.al _ _)).tr hy; (obtain ⟨x0, x1⟩ := (b12.keep gv).c2); have x2 := gv.keep e0; have x3 := gv.keep e1; have x4 := gv.keep e4; have x5 := gv.keep e5)
          | (have _t := tk0; clear tk0 _t; go_at_call 33; (refine (armSpan_any 74226 91290 _).mono ?_); rintro e wq ⟨rfl, hy⟩; replace gv := gv.tr hy; (obtain ⟨x0, x1⟩ := (b12.keep gv).c2); have x2 := gv.keep e0; have x3 := gv.keep e1; have x4 := gv.keep e4; have x5 := gv.keep e5)
          | (have _t := tk1; clear tk1 _t; go_at_call 33; (refine (armSpan_any 200 220 _).mono ?_); rintro e wq ⟨rfl, hy⟩; replace gv := gv.tr hy; (obtain ⟨x0, x1⟩ := (b12.keep gv).c2); have x2 := gv.keep e0; have x3 := gv.keep e1; have x4 := gv.keep e4; have x5 := gv.keep e5)
          | (go_at_call 33; (refine (armSpan_any 0 0 _).mono ?_); rintro e wq ⟨rfl, hy⟩; replace gv := gv.tr hy; (obtain ⟨x0, x1⟩ := (b12.keep gv).c2); have x2 := gv.keep e0; have x3 := gv.keep e1; have x4 := gv.keep e4; have x5 := gv.keep e5))
        all_goals
          go_wp2
          go_ret
          exact ⟨rfl, gX.tr gv⟩

end Go.Proofs.Ytcdilmagcdbogaa
