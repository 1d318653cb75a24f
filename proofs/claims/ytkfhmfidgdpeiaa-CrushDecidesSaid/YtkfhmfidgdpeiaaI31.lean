/- The helpers of chapter 3's statements, and what the document's examples say. -/
import Derived.Test.YtkfhmfidgdpeiaaI28
import Derived.Test.YtkfhmfidgdpeiaaI29
import Derived.Test.YtkfhmfidgdpeiaaI30
import Derived.Test.YtkfhmfidgdpeiaaQl
import Derived.Test.YtkfhmfidgdpeiaaE10
import Derived.BigQuiet
namespace Go.Proofs.Ytkfhmfidgdpeiaa
set_option linter.unusedVariables false
set_option linter.unusedSimpArgs false
open Go.RowKit

theorem RowOf.lit31 {α : Type} {enc : α → List Value} {sz : Nat} (he : ∀ x, (enc x).length = sz) (w : World) (t : TypeId) (l : List α) (hl : l.length ≤ 9223372036854775807) (cs : Array Value) (hcs : cs = (l.flatMap enc).toArray) (n : Nat) (hn : n = w.heap.size) : RowOf sz enc (w.alloc (.cells cs t)) (some ⟨n, 0, none⟩) l := by
  subst hn hcs
  refine ⟨hl, fun j x hx => ⟨w.heap.size, 0, rfl, by simp, fun i v hv => ?_⟩⟩
  have hf := flat_get he l j i x v hx hv
  refine new_cell w _ t ?_
  simpa using hf

theorem RowOf.take31 {α : Type} {enc : α → List Value} {sz : Nat} {w : World} {a : Option Addr} {l : List α} (h : RowOf sz enc w a l) (n : Nat) : RowOf sz enc w a (l.take n) :=
  ⟨by have := h.1; rw [List.length_take]; omega, fun j x hx => h.2 j x (by
    rw [List.getElem?_take] at hx
    split at hx
    · exact hx
    · cases hx)⟩

set_option maxRecDepth 100000 in
theorem load_any (a b c d : Int) (w : World) :
    Calls Try.prog 57 #[.int .i64 a, .int .i64 b, .int .i64 c, .int .i64 d] w fun e w' => e = .returned (.agg #[.int .i64 a, .int .i64 b, .int .i64 c, .int .i64 d]) ∧ Gr w w' := by
  have o8 := Own.new w [.int .i64 0, .int .i64 0, .int .i64 0, .int .i64 0] 70 w.heap.size rfl
  have gg := Gr.al w (.cells #[.int .i64 0, .int .i64 0, .int .i64 0, .int .i64 0] 70)
  have tok0 : True := trivial
  go_enter Try.func57, Try.ntmps57
  go_wp2_with (first
    | (have _t := tok0; clear tok0 _t; go_at_call 31; refine (armSpan_any a b _).mono ?_; rintro e w1 ⟨rfl, g1⟩)
    | (go_at_call 31; refine (armSpan_any c d _).mono ?_; rintro e w2 ⟨rfl, g2⟩; have oX := o8.keep (g1.tr g2); (obtain ⟨q0, q1, q2, q3⟩ := oX.1.c4'); have z0 := oX.2 0; have z1 := oX.2 1; have z2 := oX.2 2; have z3 := oX.2 3))
  have oZ := (((oX.set (i := 0) (v := .int .i64 a) (by simp)).set (i := 1) (v := .int .i64 b) (by simp)).set (i := 2) (v := .int .i64 c) (by simp)).set (i := 3) (v := .int .i64 d) (by simp)
  obtain ⟨y0, y1, y2, y3⟩ := oZ.1.c4'
  exact bodyPost_ret (v := .agg #[.int .i64 a, .int .i64 b, .int .i64 c, .int .i64 d]) (by simp [results, Try.results57, go_sem, y0, y1, y2, y3]) rfl ⟨rfl, (((((gg.tr (g1.tr g2)).setCell (Nat.le_refl _) _).setCell (Nat.le_refl _) _).setCell (Nat.le_refl _) _).setCell (Nat.le_refl _) _)⟩

set_option maxRecDepth 100000 in
theorem table_any (w : World) :
    Calls Try.prog 58 #[] w fun e w' => ∃ a, e = .returned (.slice a 3 3) ∧ TRow w' a ts0 ∧ Gr w w' := by
  have r1 : TRow _ _ ts0 := RowOf.lit31 (enc := encT) (sz := 2) (fun _ => rfl) w 136 ts0 (by simp [ts0]) #[.int .i64 0, .int .i64 1000, .int .i64 10, .int .i64 800, .int .i64 30, .int .i64 600] (by rfl) w.heap.size rfl
  go_enter Try.func58, Try.ntmps58
  go_wp2
  go_ret
  exact ⟨_, rfl, r1, Gr.al _ _⟩

set_option maxRecDepth 100000 in
set_option maxHeartbeats 1000000 in
theorem same_any (l m : List Int) (a b : Option Addr) (c d : Nat) (w : World) (hl : IRow w a l) (hm : IRow w b m) :
    Calls Try.prog 22 #[.slice a l.length c, .slice b m.length d] w fun e w' => e = .returned (.bool (decide (l = m))) ∧ Gr w w' := by
  have hl0 := hl.1
  have hm0 := hm.1
  by_cases hlen : l.length = m.length
  · have hb : ((l.length : Int) != (m.length : Int)) = false := by rw [bne_eq_false_iff_eq]; omega
    go_enter Try.func22, Try.ntmps22
    go_wp2
    go_loopw [5] (fun t wr => Hid (∃ k : Nat, k ≤ l.length ∧ t = .int .i64 k ∧ Gr w wr ∧ l.take k = m.take k)) (fun t _ => l.length - (intOf t).toNat)
    case atStart => exact Lib.hid ⟨0, Nat.zero_le _, rfl, Below.refl _ _, by simp⟩
    case round =>
      obtain ⟨k, hk, rfl, gW, ht⟩ := hrel.out
      clear hrel
      by_cases hlt : k < l.length
      · obtain ⟨x, hx⟩ : ∃ x, l[k]? = some x := ⟨l[k], by simp [hlt]⟩
        obtain ⟨y, hy⟩ : ∃ y, m[k]? = some y := ⟨m[k], by simp [show k < m.length by omega]⟩
        obtain ⟨b1, o1, rfl, h1, c1⟩ := IRow.get (hl.grow gW) hx
        obtain ⟨b2, o2, rfl, h2, c2⟩ := IRow.get (hm.grow gW) hy
        have hlt2 : k < m.length := by omega
        by_cases hxy : x = y
        · have hne : (x != y) = false := by simpa using hxy
          have ht' : l.take (k + 1) = m.take (k + 1) := by rw [List.take_add_one, List.take_add_one, hx, hy, ht, hxy]
          have HT := Lib.hid ht'
          clear ht ht' hx hy hxy
          go_upto_region 6 with fail
          go_quiet (fail)
          go_wp2
          go_roundw
          case rel => exact Lib.hid ⟨k + 1, by omega, by go_num, Gr.drewN gW _, HT.out⟩
          case measure => simp [intOf]; omega
        · have hne : (x != y) = true := by simpa using hxy
          have hD : decide (l = m) = false := by
            rw [decide_eq_false_iff_not]
            intro e
            subst e
            rw [hx] at hy
            cases hy
            exact hxy rfl
          have HD := Lib.hid hD
          clear ht hx hy hxy hD
          go_upto_region 6 with fail
          go_quiet (fail)
          go_wp2
          go_ret
          exact ⟨ret_bool HD.out.symm, Gr.drewN gW _⟩
      · obtain rfl : k = l.length := by omega
        rw [List.take_length, hlen, List.take_length] at ht
        have hD : decide (l = m) = true := by simpa using ht
        have HD := Lib.hid hD
        clear ht hD
        go_wp2
        go_ret
        exact ⟨ret_bool HD.out.symm, gW⟩
  · have hb : ((l.length : Int) != (m.length : Int)) = true := by rw [bne_iff_ne]; omega
    have hD : decide (l = m) = false := by
      rw [decide_eq_false_iff_not]
      intro e
      exact hlen (by rw [e])
    have HD := Lib.hid hD
    clear hD
    go_enter Try.func22, Try.ntmps22
    go_wp2
    go_ret
    exact ⟨ret_bool HD.out.symm, Below.refl _ _⟩

end Go.Proofs.Ytkfhmfidgdpeiaa
