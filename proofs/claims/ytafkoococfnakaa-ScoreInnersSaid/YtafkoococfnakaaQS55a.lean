/- The reference's In, Long, Check of chapter 2; the law's large; Size in general. (Made by gen_s33.py.) A row appended onto an empty one; the law's large; Size in general (chapter 2). The reference's Copy, the law's own (chapter 2). (Made by gen_s35.py.) ScoreSizes' body. (Made by gen_s36.py.) The reference's Span and Panel; Play's error. (Made by gen_s39.py.) The law's ints, the reference's Height and Inside, Holds' error. (Made by gen_s43.py.) The reference's Copy, the law's own once more: three rows of one's own, in three blocks (chapter 2). (Made by gen_s49.py.) The reference's Around and Gap, Inner's error. (Made by gen_s50.py.) The law's widened: what a measure can be, all lengths tried. (Made by gen_s51.py.) -/
import Derived.Test.YtafkoococfnakaaQS32d
import Derived.Test.YtafkoococfnakaaQS32a
import Derived.Test.YtafkoococfnakaaQS32e
import Derived.Test.YtafkoococfnakaaQS32c
import Derived.Test.YtafkoococfnakaaQS32b
namespace Go.Proofs.Ytafkoococfnakaa
set_option linter.unusedVariables false
set_option linter.unusedSimpArgs false
open Go.RowKit

theorem refIn02_any (n lo hi : Int) (d : Bool) (hd : in1 lo hi n = d) (w : World) :
    Calls Try.prog 25 #[.int .i64 n, .int .i64 lo, .int .i64 hi] w fun e w' => e = .returned (.bool d) ∧ Gr w w' := by
  subst hd
  by_cases h : lo ≤ n
  · have E := Lib.hid (show in1 lo hi n = decide (n ≤ hi) by simp [in1, h])
    go_enter Try.func25, Try.ntmps25
    go_wp2
    go_ret
    exact ⟨ret_bool E.out.symm, Below.refl _ _⟩
  · have E := Lib.hid (show in1 lo hi n = false by simp [in1, h])
    have h' : decide (lo ≤ n) = false := by simpa using h
    go_enter Try.func25, Try.ntmps25
    go_wp2
    go_ret
    exact ⟨ret_bool E.out.symm, Below.refl _ _⟩

theorem inB_cut {lo hi : Int} {l : List Int} {k : Nat} {x : Int} (hx : l[k]? = some x) : inB lo hi (l.take (k + 1)) = (inB lo hi (l.take k) && in1 lo hi x) := by
  unfold inB
  rw [List.take_add_one, hx]
  simp

set_option maxRecDepth 100000 in
set_option maxHeartbeats 1000000 in
theorem refLong02_any (lo : Int) (l : List Int) (d : Bool) (hd : inB lo 3000 l = d) (a : Option Addr) (c : Nat) (w : World) (hl : IRow w a l) :
    Calls Try.prog 36 #[.slice a l.length c, .int .i64 lo] w fun e w' => e = .returned (.bool d) ∧ Gr w w' := by
  subst hd
  have hl0 := hl.1
  go_enter Try.func36, Try.ntmps36
  go_wp2
  go_loopw [5] (fun t wr => Hid (∃ k : Nat, k ≤ l.length ∧ t = .int .i64 k ∧ Gr w wr ∧ inB lo 3000 (l.take k) = true)) (fun t _ => l.length - (intOf t).toNat)
  case atStart => exact Lib.hid ⟨0, Nat.zero_le _, rfl, Below.refl _ _, by simp [inB]⟩
  case round =>
    obtain ⟨k, hk, rfl, gW, ht⟩ := hrel.out
    clear hrel
    by_cases hlt : k < l.length
    · obtain ⟨x, hx⟩ : ∃ x, l[k]? = some x := ⟨l[k], by simp [hlt]⟩
      obtain ⟨b1, o1, rfl, h1, c1⟩ := IRow.get (hl.grow gW) hx
      cases hd : in1 lo 3000 x with
      | true =>
        have HT := Lib.hid (show inB lo 3000 (l.take (k + 1)) = true by rw [inB_cut hx, ht, hd]; rfl)
        have HX := Lib.hid hd
        clear ht hx hd
        go_wp2_with (go_at_call 25; refine (refIn02_any x lo 3000 true HX.out _).mono ?_; rintro e w1 ⟨rfl, g1⟩)
        go_roundw
        case rel => exact Lib.hid ⟨k + 1, by omega, by go_num, gW.tr g1, HT.out⟩
        case measure => simp [intOf]; omega
      | false =>
        have HD := Lib.hid (show inB lo 3000 l = false by
          rw [Bool.eq_false_iff]
          intro h
          have := List.all_eq_true.1 h x (List.mem_of_getElem? hx)
          rw [hd] at this
          cases this)
        have HX := Lib.hid hd
        clear ht hx hd
        go_wp2_with (go_at_call 25; refine (refIn02_any x lo 3000 false HX.out _).mono ?_; rintro e w1 ⟨rfl, g1⟩)
        go_ret
        exact ⟨ret_bool HD.out.symm, gW.tr g1⟩
    · obtain rfl : k = l.length := by omega
      rw [List.take_length] at ht
      have HD := Lib.hid ht
      clear ht
      go_wp2
      go_ret
      exact ⟨ret_bool HD.out.symm, gW⟩

theorem inB_one (lo hi x : Int) : inB lo hi [x] = in1 lo hi x := by simp [inB]

theorem top_ne {l : List Int} {k : Nat} {x : Int} (hx : l[k]? = some x) (h : x ≠ 0) : inB 0 0 l = false := by
  cases hh : inB 0 0 l with
  | false => rfl
  | true =>
    have := in_at hh hx
    omega

theorem top_eq {l : List Int} (h2 : l.length = 2) (hx : l[0]? = some 0) (hy : l[1]? = some 0) : inB 0 0 l = true := by
  match l, h2 with
  | [a, b], _ =>
    simp at hx hy
    subst hx
    subst hy
    rfl

set_option maxRecDepth 100000 in
set_option maxHeartbeats 2000000 in
theorem refCheck02_any (tab hei slo : Int) (pan top bot : List Int) (pa ta ba : Option Addr) (pc tc bc : Nat) (opn : Bool) (w : World) (hp : IRow w pa pan) (ht : IRow w ta top) (hb : IRow w ba bot) :
    Calls Try.prog 21 #[.agg #[.int .i64 tab, .slice pa pan.length pc, .int .i64 hei, .slice ta top.length tc, .slice ba bot.length bc, .int .i64 slo, .bool opn]] w fun e w' => e = .returned (.int .i64 (checkE tab hei slo pan top bot opn)) ∧ Gr w w' := by
  have gX := Gr.al w (.cells #[.int .i64 tab, .slice pa pan.length pc, .int .i64 hei, .slice ta top.length tc, .slice ba bot.length bc, .int .i64 slo, .bool opn] 24)
  have hB := Box.new w [.int .i64 tab, .slice pa pan.length pc, .int .i64 hei, .slice ta top.length tc, .slice ba bot.length bc, .int .i64 slo, .bool opn] 24 w.heap.size rfl
  obtain ⟨q0, q1, q2, q3, q4, q5, q6⟩ := hB.c7
  by_cases h1 : pan.length = 4
  case neg =>
    rw [checkE_form (fun h => h1 h.1)]
    have l0 : ((pan.length : Int) != 4) = true := by rw [bne_iff_ne]; omega
    clear h1
    go_enter Try.func21, Try.ntmps21
    go_wp2
    go_ret
    exact ⟨rfl, gX⟩
  by_cases h2 : top.length = 2
  case neg =>
    rw [checkE_form (fun h => h2 h.2.1)]
    have l0 : ((pan.length : Int) != 4) = false := by rw [h1]; rfl
    have l1 : ((top.length : Int) != 2) = true := by rw [bne_iff_ne]; omega
    clear h1 h2
    go_enter Try.func21, Try.ntmps21
    go_wp2
    go_ret
    exact ⟨rfl, gX⟩
  by_cases h3 : bot.length = 2
  case neg =>
    rw [checkE_form (fun h => h3 h.2.2)]
    have l0 : ((pan.length : Int) != 4) = false := by rw [h1]; rfl
    have l1 : ((top.length : Int) != 2) = false := by rw [h2]; rfl
    have l2 : ((bot.length : Int) != 2) = true := by rw [bne_iff_ne]; omega
    clear h1 h2 h3
    go_enter Try.func21, Try.ntmps21
    go_wp2
    go_ret
    exact ⟨rfl, gX⟩
  have HL := Lib.hid (And.intro h1 (And.intro h2 h3))
  have l0 : ((pan.length : Int) != 4) = false := by rw [h1]; rfl
  have l1 : ((top.length : Int) != 2) = false := by rw [h2]; rfl
  have l2 : ((bot.length : Int) != 2) = false := by rw [h3]; rfl
  have HP := Lib.hid hp
  have g := gX
  cases d0 : in1 0 100 tab with
  | false =>
    rw [checkE_arg HL.out (by skip; unfold goodN; simp [inB_one, d0])]
    have D0 := Lib.hid d0
    clear d0 h1 h2 h3 HP
    go_enter Try.func21, Try.ntmps21
    go_wp2_with (first
      | (go_at_call 25; refine (refIn02_any tab 0 100 false D0.out _).mono ?_; rintro e w1 ⟨rfl, hx⟩; replace g := g.tr hx; replace hB := hB.keep hx; clear hx q0 q1 q2 q3 q4 q5 q6; obtain ⟨q0, q1, q2, q3, q4, q5, q6⟩ := hB.c7))
    go_ret
    exact ⟨rfl, g⟩
  | true =>
  have D0 := Lib.hid d0
  clear d0
  cases d1 : inB 1 3000 pan with
  | false =>
    rw [checkE_arg HL.out (by skip; unfold goodN; simp [inB_one, D0.out, d1])]
    have D1 := Lib.hid d1
    clear d1 h1 h2 h3 HP
    go_enter Try.func21, Try.ntmps21
    go_wp2_with (first
      | (go_at_call 25; refine (refIn02_any tab 0 100 true D0.out _).mono ?_; rintro e w1 ⟨rfl, hx⟩; replace g := g.tr hx; replace hB := hB.keep hx; clear hx q0 q1 q2 q3 q4 q5 q6; obtain ⟨q0, q1, q2, q3, q4, q5, q6⟩ := hB.c7)
      | (go_at_call 36; refine (refLong02_any 1 pan false D1.out pa pc _ (hp.grow g)).mono ?_; rintro e w2 ⟨rfl, hx⟩; replace g := g.tr hx; replace hB := hB.keep hx; clear hx q0 q1 q2 q3 q4 q5 q6; obtain ⟨q0, q1, q2, q3, q4, q5, q6⟩ := hB.c7))
    go_ret
    exact ⟨rfl, g⟩
  | true =>
  have D1 := Lib.hid d1
  clear d1
  cases d2 : in1 1 3000 hei with
  | false =>
    rw [checkE_arg HL.out (by skip; unfold goodN; simp [inB_one, D0.out, D1.out, d2])]
    have D2 := Lib.hid d2
    clear d2 h1 h2 h3 HP
    have tok0 : True := trivial
    go_enter Try.func21, Try.ntmps21
    go_wp2_with (first
      | (have _t := tok0; clear tok0 _t; go_at_call 25; refine (refIn02_any tab 0 100 true D0.out _).mono ?_; rintro e w1 ⟨rfl, hx⟩; replace g := g.tr hx; replace hB := hB.keep hx; clear hx q0 q1 q2 q3 q4 q5 q6; obtain ⟨q0, q1, q2, q3, q4, q5, q6⟩ := hB.c7)
      | (go_at_call 36; refine (refLong02_any 1 pan true D1.out pa pc _ (hp.grow g)).mono ?_; rintro e w2 ⟨rfl, hx⟩; replace g := g.tr hx; replace hB := hB.keep hx; clear hx q0 q1 q2 q3 q4 q5 q6; obtain ⟨q0, q1, q2, q3, q4, q5, q6⟩ := hB.c7)
      | (go_at_call 25; refine (refIn02_any hei 1 3000 false D2.out _).mono ?_; rintro e w3 ⟨rfl, hx⟩; replace g := g.tr hx; replace hB := hB.keep hx; clear hx q0 q1 q2 q3 q4 q5 q6; obtain ⟨q0, q1, q2, q3, q4, q5, q6⟩ := hB.c7))
    go_ret
    exact ⟨rfl, g⟩
  | true =>
  have D2 := Lib.hid d2
  clear d2
  cases d3 : inB 0 3000 top with
  | false =>
    rw [checkE_arg HL.out (by skip; unfold goodN; simp [inB_one, D0.out, D1.out, D2.out, d3])]
    have D3 := Lib.hid d3
    clear d3 h1 h2 h3 HP
    have tok0 : True := trivial
    have tok1 : True := trivial
    go_enter Try.func21, Try.ntmps21
    go_wp2_with (first
      | (have _t := tok0; clear tok0 _t; go_at_call 25; refine (refIn02_any tab 0 100 true D0.out _).mono ?_; rintro e w1 ⟨rfl, hx⟩; replace g := g.tr hx; replace hB := hB.keep hx; clear hx q0 q1 q2 q3 q4 q5 q6; obtain ⟨q0, q1, q2, q3, q4, q5, q6⟩ := hB.c7)
      | (have _t := tok1; clear tok1 _t; go_at_call 36; refine (refLong02_any 1 pan true D1.out pa pc _ (hp.grow g)).mono ?_; rintro e w2 ⟨rfl, hx⟩; replace g := g.tr hx; replace hB := hB.keep hx; clear hx q0 q1 q2 q3 q4 q5 q6; obtain ⟨q0, q1, q2, q3, q4, q5, q6⟩ := hB.c7)
      | (go_at_call 25; refine (refIn02_any hei 1 3000 true D2.out _).mono ?_; rintro e w3 ⟨rfl, hx⟩; replace g := g.tr hx; replace hB := hB.keep hx; clear hx q0 q1 q2 q3 q4 q5 q6; obtain ⟨q0, q1, q2, q3, q4, q5, q6⟩ := hB.c7)
      | (go_at_call 36; refine (refLong02_any 0 top false D3.out ta tc _ (ht.grow g)).mono ?_; rintro e w4 ⟨rfl, hx⟩; replace g := g.tr hx; replace hB := hB.keep hx; clear hx q0 q1 q2 q3 q4 q5 q6; obtain ⟨q0, q1, q2, q3, q4, q5, q6⟩ := hB.c7))
    go_ret
    exact ⟨rfl, g⟩
  | true =>
  have D3 := Lib.hid d3
  clear d3
  cases d4 : inB 0 3000 bot with
  | false =>
    rw [checkE_arg HL.out (by skip; unfold goodN; simp [inB_one, D0.out, D1.out, D2.out, D3.out, d4])]
    have D4 := Lib.hid d4
    clear d4 h1 h2 h3 HP
    have tok0 : True := trivial
    have tok1 : True := trivial
    have tok3 : True := trivial
    go_enter Try.func21, Try.ntmps21
    go_wp2_with (first
      | (have _t := tok0; clear tok0 _t; go_at_call 25; refine (refIn02_any tab 0 100 true D0.out _).mono ?_; rintro e w1 ⟨rfl, hx⟩; replace g := g.tr hx; replace hB := hB.keep hx; clear hx q0 q1 q2 q3 q4 q5 q6; obtain ⟨q0, q1, q2, q3, q4, q5, q6⟩ := hB.c7)
      | (have _t := tok1; clear tok1 _t; go_at_call 36; refine (refLong02_any 1 pan true D1.out pa pc _ (hp.grow g)).mono ?_; rintro e w2 ⟨rfl, hx⟩; replace g := g.tr hx; replace hB := hB.keep hx; clear hx q0 q1 q2 q3 q4 q5 q6; obtain ⟨q0, q1, q2, q3, q4, q5, q6⟩ := hB.c7)
      | (go_at_call 25; refine (refIn02_any hei 1 3000 true D2.out _).mono ?_; rintro e w3 ⟨rfl, hx⟩; replace g := g.tr hx; replace hB := hB.keep hx; clear hx q0 q1 q2 q3 q4 q5 q6; obtain ⟨q0, q1, q2, q3, q4, q5, q6⟩ := hB.c7)
      | (have _t := tok3; clear tok3 _t; go_at_call 36; refine (refLong02_any 0 top true D3.out ta tc _ (ht.grow g)).mono ?_; rintro e w4 ⟨rfl, hx⟩; replace g := g.tr hx; replace hB := hB.keep hx; clear hx q0 q1 q2 q3 q4 q5 q6; obtain ⟨q0, q1, q2, q3, q4, q5, q6⟩ := hB.c7)
      | (go_at_call 36; refine (refLong02_any 0 bot false D4.out ba bc _ (hb.grow g)).mono ?_; rintro e w5 ⟨rfl, hx⟩; replace g := g.tr hx; replace hB := hB.keep hx; clear hx q0 q1 q2 q3 q4 q5 q6; obtain ⟨q0, q1, q2, q3, q4, q5, q6⟩ := hB.c7))
    go_ret
    exact ⟨rfl, g⟩
  | true =>
  have D4 := Lib.hid d4
  clear d4
  cases d5 : in1 0 20 slo with
  | false =>
    rw [checkE_arg HL.out (by skip; unfold goodN; simp [inB_one, D0.out, D1.out, D2.out, D3.out, D4.out, d5])]
    have D5 := Lib.hid d5
    clear d5 h1 h2 h3 HP
    have tok0 : True := trivial
    have tok1 : True := trivial
    have tok2 : True := trivial
    have tok3 : True := trivial
    go_enter Try.func21, Try.ntmps21
    go_wp2_with (first
      | (have _t := tok0; clear tok0 _t; go_at_call 25; refine (refIn02_any tab 0 100 true D0.out _).mono ?_; rintro e w1 ⟨rfl, hx⟩; replace g := g.tr hx; replace hB := hB.keep hx; clear hx q0 q1 q2 q3 q4 q5 q6; obtain ⟨q0, q1, q2, q3, q4, q5, q6⟩ := hB.c7)
      | (have _t := tok1; clear tok1 _t; go_at_call 36; refine (refLong02_any 1 pan true D1.out pa pc _ (hp.grow g)).mono ?_; rintro e w2 ⟨rfl, hx⟩; replace g := g.tr hx; replace hB := hB.keep hx; clear hx q0 q1 q2 q3 q4 q5 q6; obtain ⟨q0, q1, q2, q3, q4, q5, q6⟩ := hB.c7)
      | (have _t := tok2; clear tok2 _t; go_at_call 25; refine (refIn02_any hei 1 3000 true D2.out _).mono ?_; rintro e w3 ⟨rfl, hx⟩; replace g := g.tr hx; replace hB := hB.keep hx; clear hx q0 q1 q2 q3 q4 q5 q6; obtain ⟨q0, q1, q2, q3, q4, q5, q6⟩ := hB.c7)
      | (have _t := tok3; clear tok3 _t; go_at_call 36; refine (refLong02_any 0 top true D3.out ta tc _ (ht.grow g)).mono ?_; rintro e w4 ⟨rfl, hx⟩; replace g := g.tr hx; replace hB := hB.keep hx; clear hx q0 q1 q2 q3 q4 q5 q6; obtain ⟨q0, q1, q2, q3, q4, q5, q6⟩ := hB.c7)
      | (go_at_call 36; refine (refLong02_any 0 bot true D4.out ba bc _ (hb.grow g)).mono ?_; rintro e w5 ⟨rfl, hx⟩; replace g := g.tr hx; replace hB := hB.keep hx; clear hx q0 q1 q2 q3 q4 q5 q6; obtain ⟨q0, q1, q2, q3, q4, q5, q6⟩ := hB.c7)
      | (go_at_call 25; refine (refIn02_any slo 0 20 false D5.out _).mono ?_; rintro e w6 ⟨rfl, hx⟩; replace g := g.tr hx; replace hB := hB.keep hx; clear hx q0 q1 q2 q3 q4 q5 q6; obtain ⟨q0, q1, q2, q3, q4, q5, q6⟩ := hB.c7))
    go_ret
    exact ⟨rfl, g⟩
  | true =>
  have D5 := Lib.hid d5
  clear d5
  obtain ⟨x, hx0⟩ := get_of_lt (l := top) (k := 0) (by omega)
  obtain ⟨y, hy0⟩ := get_of_lt (l := top) (k := 1) (by omega)
  have HX := Lib.hid hx0
  have HY := Lib.hid hy0
  have HH := Lib.hid h2
  have lt0 : 0 < top.length := by omega
  have lt1 : 1 < top.length := by omega
  clear hx0 hy0
  obtain ⟨b1, o1, rfl, _, _⟩ := IRow.get ht HX.out
  have HT := Lib.hid ht
  clear ht
  cases opn with
  | false =>
    rw [checkE_ok HL.out (by unfold goodN; simp [inB_one, D0.out, D1.out, D2.out, D3.out, D4.out, D5.out])]
    clear h1 h2 h3 HP
    have tok0 : True := trivial
    have tok1 : True := trivial
    have tok2 : True := trivial
    have tok3 : True := trivial
    go_enter Try.func21, Try.ntmps21
    go_wp2_with (first
      | (have _t := tok0; clear tok0 _t; go_at_call 25; refine (refIn02_any tab 0 100 true D0.out _).mono ?_; rintro e w1 ⟨rfl, hx⟩; replace g := g.tr hx; replace hB := hB.keep hx; clear hx q0 q1 q2 q3 q4 q5 q6; obtain ⟨q0, q1, q2, q3, q4, q5, q6⟩ := hB.c7)
      | (have _t := tok1; clear tok1 _t; go_at_call 36; refine (refLong02_any 1 pan true D1.out pa pc _ (hp.grow g)).mono ?_; rintro e w2 ⟨rfl, hx⟩; replace g := g.tr hx; replace hB := hB.keep hx; clear hx q0 q1 q2 q3 q4 q5 q6; obtain ⟨q0, q1, q2, q3, q4, q5, q6⟩ := hB.c7)
      | (have _t := tok2; clear tok2 _t; go_at_call 25; refine (refIn02_any hei 1 3000 true D2.out _).mono ?_; rintro e w3 ⟨rfl, hx⟩; replace g := g.tr hx; replace hB := hB.keep hx; clear hx q0 q1 q2 q3 q4 q5 q6; obtain ⟨q0, q1, q2, q3, q4, q5, q6⟩ := hB.c7)
      | (have _t := tok3; clear tok3 _t; go_at_call 36; refine (refLong02_any 0 top true D3.out (some ⟨b1, o1, none⟩) tc _ (HT.out.grow g)).mono ?_; rintro e w4 ⟨rfl, hx⟩; replace g := g.tr hx; replace hB := hB.keep hx; clear hx q0 q1 q2 q3 q4 q5 q6; obtain ⟨q0, q1, q2, q3, q4, q5, q6⟩ := hB.c7)
      | (go_at_call 36; refine (refLong02_any 0 bot true D4.out ba bc _ (hb.grow g)).mono ?_; rintro e w5 ⟨rfl, hx⟩; replace g := g.tr hx; replace hB := hB.keep hx; clear hx q0 q1 q2 q3 q4 q5 q6; obtain ⟨q0, q1, q2, q3, q4, q5, q6⟩ := hB.c7)
      | (go_at_call 25; refine (refIn02_any slo 0 20 true D5.out _).mono ?_; rintro e w6 ⟨rfl, hx⟩; replace g := g.tr hx; replace hB := hB.keep hx; clear hx q0 q1 q2 q3 q4 q5 q6; obtain ⟨q0, q1, q2, q3, q4, q5, q6⟩ := hB.c7; obtain ⟨_, _, e1, _, k0⟩ := IRow.get (HT.out.grow g) HX.out; obtain ⟨_, _, e2, _, k1⟩ := IRow.get (HT.out.grow g) HY.out; cases e1; cases e2; simp only [Nat.add_zero] at k0))
    go_ret
    exact ⟨rfl, g⟩
  | true =>
    by_cases hx : x = 0
    case neg =>
      rw [checkE_arg HL.out (by unfold goodN; simp [inB_one, D0.out, D1.out, D2.out, D3.out, D4.out, D5.out, top_ne HX.out hx])]
      have nx : (x != 0) = true := by rw [bne_iff_ne]; exact hx
      clear hx
      clear h1 h2 h3 HP
      have tok0 : True := trivial
      have tok1 : True := trivial
      have tok2 : True := trivial
      have tok3 : True := trivial
      go_enter Try.func21, Try.ntmps21
      go_wp2_with (first
        | (have _t := tok0; clear tok0 _t; go_at_call 25; refine (refIn02_any tab 0 100 true D0.out _).mono ?_; rintro e w1 ⟨rfl, hx⟩; replace g := g.tr hx; replace hB := hB.keep hx; clear hx q0 q1 q2 q3 q4 q5 q6; obtain ⟨q0, q1, q2, q3, q4, q5, q6⟩ := hB.c7)
        | (have _t := tok1; clear tok1 _t; go_at_call 36; refine (refLong02_any 1 pan true D1.out pa pc _ (hp.grow g)).mono ?_; rintro e w2 ⟨rfl, hx⟩; replace g := g.tr hx; replace hB := hB.keep hx; clear hx q0 q1 q2 q3 q4 q5 q6; obtain ⟨q0, q1, q2, q3, q4, q5, q6⟩ := hB.c7)
        | (have _t := tok2; clear tok2 _t; go_at_call 25; refine (refIn02_any hei 1 3000 true D2.out _).mono ?_; rintro e w3 ⟨rfl, hx⟩; replace g := g.tr hx; replace hB := hB.keep hx; clear hx q0 q1 q2 q3 q4 q5 q6; obtain ⟨q0, q1, q2, q3, q4, q5, q6⟩ := hB.c7)
        | (have _t := tok3; clear tok3 _t; go_at_call 36; refine (refLong02_any 0 top true D3.out (some ⟨b1, o1, none⟩) tc _ (HT.out.grow g)).mono ?_; rintro e w4 ⟨rfl, hx⟩; replace g := g.tr hx; replace hB := hB.keep hx; clear hx q0 q1 q2 q3 q4 q5 q6; obtain ⟨q0, q1, q2, q3, q4, q5, q6⟩ := hB.c7)
        | (go_at_call 36; refine (refLong02_any 0 bot true D4.out ba bc _ (hb.grow g)).mono ?_; rintro e w5 ⟨rfl, hx⟩; replace g := g.tr hx; replace hB := hB.keep hx; clear hx q0 q1 q2 q3 q4 q5 q6; obtain ⟨q0, q1, q2, q3, q4, q5, q6⟩ := hB.c7)
        | (go_at_call 25; refine (refIn02_any slo 0 20 true D5.out _).mono ?_; rintro e w6 ⟨rfl, hx⟩; replace g := g.tr hx; replace hB := hB.keep hx; clear hx q0 q1 q2 q3 q4 q5 q6; obtain ⟨q0, q1, q2, q3, q4, q5, q6⟩ := hB.c7; obtain ⟨_, _, e1, _, k0⟩ := IRow.get (HT.out.grow g) HX.out; obtain ⟨_, _, e2, _, k1⟩ := IRow.get (HT.out.grow g) HY.out; cases e1; cases e2; simp only [Nat.add_zero] at k0))
      go_ret
      exact ⟨rfl, g⟩
    by_cases hy : y = 0
    case neg =>
      rw [checkE_arg HL.out (by unfold goodN; simp [inB_one, D0.out, D1.out, D2.out, D3.out, D4.out, D5.out, top_ne HY.out hy])]
      have nx : (x != 0) = false := by rw [hx]; rfl
      have ny : (y != 0) = true := by rw [bne_iff_ne]; exact hy
      clear hx hy
      clear h1 h2 h3 HP
      have tok0 : True := trivial
      have tok1 : True := trivial
      have tok2 : True := trivial
      have tok3 : True := trivial
      go_enter Try.func21, Try.ntmps21
      go_wp2_with (first
        | (have _t := tok0; clear tok0 _t; go_at_call 25; refine (refIn02_any tab 0 100 true D0.out _).mono ?_; rintro e w1 ⟨rfl, hx⟩; replace g := g.tr hx; replace hB := hB.keep hx; clear hx q0 q1 q2 q3 q4 q5 q6; obtain ⟨q0, q1, q2, q3, q4, q5, q6⟩ := hB.c7)
        | (have _t := tok1; clear tok1 _t; go_at_call 36; refine (refLong02_any 1 pan true D1.out pa pc _ (hp.grow g)).mono ?_; rintro e w2 ⟨rfl, hx⟩; replace g := g.tr hx; replace hB := hB.keep hx; clear hx q0 q1 q2 q3 q4 q5 q6; obtain ⟨q0, q1, q2, q3, q4, q5, q6⟩ := hB.c7)
        | (have _t := tok2; clear tok2 _t; go_at_call 25; refine (refIn02_any hei 1 3000 true D2.out _).mono ?_; rintro e w3 ⟨rfl, hx⟩; replace g := g.tr hx; replace hB := hB.keep hx; clear hx q0 q1 q2 q3 q4 q5 q6; obtain ⟨q0, q1, q2, q3, q4, q5, q6⟩ := hB.c7)
        | (have _t := tok3; clear tok3 _t; go_at_call 36; refine (refLong02_any 0 top true D3.out (some ⟨b1, o1, none⟩) tc _ (HT.out.grow g)).mono ?_; rintro e w4 ⟨rfl, hx⟩; replace g := g.tr hx; replace hB := hB.keep hx; clear hx q0 q1 q2 q3 q4 q5 q6; obtain ⟨q0, q1, q2, q3, q4, q5, q6⟩ := hB.c7)
        | (go_at_call 36; refine (refLong02_any 0 bot true D4.out ba bc _ (hb.grow g)).mono ?_; rintro e w5 ⟨rfl, hx⟩; replace g := g.tr hx; replace hB := hB.keep hx; clear hx q0 q1 q2 q3 q4 q5 q6; obtain ⟨q0, q1, q2, q3, q4, q5, q6⟩ := hB.c7)
        | (go_at_call 25; refine (refIn02_any slo 0 20 true D5.out _).mono ?_; rintro e w6 ⟨rfl, hx⟩; replace g := g.tr hx; replace hB := hB.keep hx; clear hx q0 q1 q2 q3 q4 q5 q6; obtain ⟨q0, q1, q2, q3, q4, q5, q6⟩ := hB.c7; obtain ⟨_, _, e1, _, k0⟩ := IRow.get (HT.out.grow g) HX.out; obtain ⟨_, _, e2, _, k1⟩ := IRow.get (HT.out.grow g) HY.out; cases e1; cases e2; simp only [Nat.add_zero] at k0))
      go_ret
      exact ⟨rfl, g⟩
    rw [checkE_ok HL.out (by unfold goodN; simp [inB_one, D0.out, D1.out, D2.out, D3.out, D4.out, D5.out, top_eq HH.out (hx ▸ HX.out) (hy ▸ HY.out)])]
    have nx : (x != 0) = false := by rw [hx]; rfl
    have ny : (y != 0) = false := by rw [hy]; rfl
    clear hx hy
    clear h1 h2 h3 HP
    have tok0 : True := trivial
    have tok1 : True := trivial
    have tok2 : True := trivial
    have tok3 : True := trivial
    go_enter Try.func21, Try.ntmps21
    go_wp2_with (first
      | (have _t := tok0; clear tok0 _t; go_at_call 25; refine (refIn02_any tab 0 100 true D0.out _).mono ?_; rintro e w1 ⟨rfl, hx⟩; replace g := g.tr hx; replace hB := hB.keep hx; clear hx q0 q1 q2 q3 q4 q5 q6; obtain ⟨q0, q1, q2, q3, q4, q5, q6⟩ := hB.c7)
      | (have _t := tok1; clear tok1 _t; go_at_call 36; refine (refLong02_any 1 pan true D1.out pa pc _ (hp.grow g)).mono ?_; rintro e w2 ⟨rfl, hx⟩; replace g := g.tr hx; replace hB := hB.keep hx; clear hx q0 q1 q2 q3 q4 q5 q6; obtain ⟨q0, q1, q2, q3, q4, q5, q6⟩ := hB.c7)
      | (have _t := tok2; clear tok2 _t; go_at_call 25; refine (refIn02_any hei 1 3000 true D2.out _).mono ?_; rintro e w3 ⟨rfl, hx⟩; replace g := g.tr hx; replace hB := hB.keep hx; clear hx q0 q1 q2 q3 q4 q5 q6; obtain ⟨q0, q1, q2, q3, q4, q5, q6⟩ := hB.c7)
      | (have _t := tok3; clear tok3 _t; go_at_call 36; refine (refLong02_any 0 top true D3.out (some ⟨b1, o1, none⟩) tc _ (HT.out.grow g)).mono ?_; rintro e w4 ⟨rfl, hx⟩; replace g := g.tr hx; replace hB := hB.keep hx; clear hx q0 q1 q2 q3 q4 q5 q6; obtain ⟨q0, q1, q2, q3, q4, q5, q6⟩ := hB.c7)
      | (go_at_call 36; refine (refLong02_any 0 bot true D4.out ba bc _ (hb.grow g)).mono ?_; rintro e w5 ⟨rfl, hx⟩; replace g := g.tr hx; replace hB := hB.keep hx; clear hx q0 q1 q2 q3 q4 q5 q6; obtain ⟨q0, q1, q2, q3, q4, q5, q6⟩ := hB.c7)
      | (go_at_call 25; refine (refIn02_any slo 0 20 true D5.out _).mono ?_; rintro e w6 ⟨rfl, hx⟩; replace g := g.tr hx; replace hB := hB.keep hx; clear hx q0 q1 q2 q3 q4 q5 q6; obtain ⟨q0, q1, q2, q3, q4, q5, q6⟩ := hB.c7; obtain ⟨_, _, e1, _, k0⟩ := IRow.get (HT.out.grow g) HX.out; obtain ⟨_, _, e2, _, k1⟩ := IRow.get (HT.out.grow g) HY.out; cases e1; cases e2; simp only [Nat.add_zero] at k0))
    go_ret
    exact ⟨rfl, g⟩

end Go.Proofs.Ytafkoococfnakaa

namespace Go.Proofs.Ytafkoococfnakaa
set_option linter.unusedVariables false
set_option linter.unusedSimpArgs false
open Go.RowKit

theorem row_long (v : World) (l : List Int) (hl : l.length ≤ 9223372036854775807) (z : Array Value) (t : TypeId) (n : Nat) (hn : n = v.heap.size) (cs : Array Value) (hcs : cs = (l.map fun n => Value.int .i64 n).toArray ++ z) :
    IRow (v.alloc (.cells cs t)) (some ⟨n, 0, none⟩) l := by
  subst hn
  subst hcs
  refine ⟨hl, fun j x hx => ⟨v.heap.size, 0, rfl, by simp, fun i u hu => ?_⟩⟩
  cases i with
  | succ i => simp [encI] at hu
  | zero =>
    simp only [encI, List.getElem?_cons_zero, Option.some.injEq] at hu
    subst hu
    have hj : j < l.length := (List.getElem?_eq_some_iff.1 hx).1
    refine new_cell v _ t ?_
    rw [Array.getElem?_append_left (by simpa using hj)]
    simp [hx]

theorem app_new (v : World) (b : Nat) (a : Option Addr) (l : List Int) (c : Nat) (hr : IRow v a l) (hl : l.length ≤ 1000) :
    ∃ u v', (Builtin.append_ #[22, 22] 22 #[.slice (some ⟨b, 0, none⟩) 0 0, .slice a l.length c]).run Try.prog v = .ok u v' ∧ Gr v v' ∧ ∃ a' c', u = .slice a' l.length c' ∧ IRow v' a' l ∧ ∀ ad, a' = some ad → (ad.block = b ∨ v.heap.size ≤ ad.block) ∧ (b < v.heap.size → ad.block < v'.heap.size) := by
  obtain ⟨i, hi, hz, hs, hb⟩ := info_parts infoIntS
  have ht := Try.underlying22
  cases l with
  | nil =>
    refine ⟨.slice (some ⟨b, 0, none⟩) 0 0, v, ?_, Below.refl _ _, _, _, rfl, ⟨by simp, fun j x hx => by simp at hx⟩, fun ad e => by cases e; exact ⟨.inl rfl, fun h => h⟩⟩
    cases a <;> simp [Builtin.append_, run_underlying ht, sizeOf, typeInfo, hi, Builtin.lenOf, Builtin.firstCells, storeCells, loadCells, loadCellsFrom, Sem.run_pure, Result.andThen]
  | cons x0 l0 =>
    obtain ⟨l, hL⟩ : ∃ l, l = x0 :: l0 := ⟨_, rfl⟩
    have h0 : 0 < l.length := by rw [hL]; simp
    rw [← hL] at hr hl ⊢
    clear hL
    obtain ⟨B, O, rfl, _⟩ := hr.addr h0
    have hn : (l.map fun n => Value.int .i64 n).length = l.length * i.size := by rw [hs]; simp
    have hcell : ∀ j u, (l.map fun n => Value.int .i64 n)[j]? = some u → v.cell? ((⟨B, O, none⟩ : Addr).add j) = some u := by
      intro j u hu
      rw [List.getElem?_map] at hu
      cases hx : l[j]? with
      | none => rw [hx] at hu; cases hu
      | some x =>
        rw [hx] at hu
        cases hu
        obtain ⟨_, _, e, _, hc⟩ := IRow.get hr hx
        cases e
        rw [Addr.add_lit]
        exact hc
    have h := run_append_grow (P := Try.prog) v 22 22 3 i _ ht hi hz ⟨b, 0, none⟩ 0 0 [] (by simp) (by simp) ⟨B, O, none⟩ l.length c (l.map fun n => Value.int .i64 n) hn hcell (by omega) (by omega) (growslice_fits (by omega) (by rw [hb]; omega))
    refine ⟨_, _, h, (Gr.dr v).tr (Gr.al _ _), some ⟨v.heap.size, 0, none⟩, grownCap v (0 + l.length) 0 3, by rw [Nat.zero_add], ?_, fun ad e => by cases e; exact ⟨.inr (Nat.le_refl _), fun _ => by simp⟩⟩
    exact row_long v.drew l (by omega) (Builtin.zeroCells (Value.int .i64 0).cells (grownCap v (0 + l.length) 0 3 - (0 + l.length))) _ _ (by simp) _ (by simp)

set_option maxRecDepth 100000 in
theorem large02_any (tab hei slo : Int) (pan top bot : List Int) (pa ta ba : Option Addr) (pc tc bc : Nat) (opn : Bool) (d : Bool) (hd : (decide (10 < pan.length) || (decide (10 < top.length) || decide (10 < bot.length))) = d) (w : World) :
    Calls Try.prog 14 #[.agg #[.int .i64 tab, .slice pa pan.length pc, .int .i64 hei, .slice ta top.length tc, .slice ba bot.length bc, .int .i64 slo, .bool opn]] w fun e w' => e = .returned (.bool d) ∧ Gr w w' := by
  have gX := Gr.al w (.cells #[.int .i64 tab, .slice pa pan.length pc, .int .i64 hei, .slice ta top.length tc, .slice ba bot.length bc, .int .i64 slo, .bool opn] 24)
  have hB := Box.new w [.int .i64 tab, .slice pa pan.length pc, .int .i64 hei, .slice ta top.length tc, .slice ba bot.length bc, .int .i64 slo, .bool opn] 24 w.heap.size rfl
  obtain ⟨q0, q1, q2, q3, q4, q5, q6⟩ := hB.c7
  by_cases h1 : 10 < pan.length
  · have HD := Lib.hid (show true = d by rw [← hd]; simp [h1])
    have k1 : decide ((pan.length : Int) > 10) = true := by simp; omega
    clear hd h1
    go_enter Try.func14, Try.ntmps14
    go_wp2
    go_ret
    exact ⟨ret_bool HD.out, gX⟩
  have k1 : decide ((pan.length : Int) > 10) = false := by simp; omega
  by_cases h2 : 10 < top.length
  · have HD := Lib.hid (show true = d by rw [← hd]; simp [h2])
    have k2 : decide ((top.length : Int) > 10) = true := by simp; omega
    clear hd h1 h2
    go_enter Try.func14, Try.ntmps14
    go_wp2
    go_ret
    exact ⟨ret_bool HD.out, gX⟩
  have k2 : decide ((top.length : Int) > 10) = false := by simp; omega
  by_cases h3 : 10 < bot.length
  · have HD := Lib.hid (show true = d by rw [← hd]; simp [h3])
    have k3 : decide ((bot.length : Int) > 10) = true := by simp; omega
    clear hd h1 h2 h3
    go_enter Try.func14, Try.ntmps14
    go_wp2
    go_ret
    exact ⟨ret_bool HD.out, gX⟩
  have k3 : decide ((bot.length : Int) > 10) = false := by simp; omega
  have HD := Lib.hid (show false = d by rw [← hd]; simp [h1, h2, h3])
  clear hd h1 h2 h3
  go_enter Try.func14, Try.ntmps14
  go_wp2
  go_ret
  exact ⟨ret_bool HD.out, gX⟩

def SizePost (E a b c : Int) (w : World) (e : Ending) (w' : World) : Prop :=
  Gr w w' ∧ ((E ≠ 0 ∧ e = .returned (.tuple #[.int .i64 0, .int .i64 0, .int .i64 0, .int .i64 E])) ∨ (E = 0 ∧ e = .returned (.tuple #[.int .i64 a, .int .i64 b, .int .i64 c, .int .i64 0])))

set_option maxRecDepth 100000 in
theorem size_any (tab hei slo : Int) (pan top bot : List Int) (pa ta ba : Option Addr) (pc tc bc : Nat) (opn : Bool) (w : World) (hp : IRow w pa pan) (ht : IRow w ta top) (hb : IRow w ba bot) :
    Calls Try.prog 18 #[.agg #[.int .i64 tab, .slice pa pan.length pc, .int .i64 hei, .slice ta top.length tc, .slice ba bot.length bc, .int .i64 slo, .bool opn]] w (SizePost (checkE tab hei slo pan top bot opn) (acrossL tab pan) (alongL hei top bot) (acrossL tab pan * alongL hei top bot) w) := by
  by_cases h0 : checkE tab hei slo pan top bot opn = 0
  · refine (size_ok tab hei slo pan top bot pa ta ba pc tc bc opn (good_of h0) w hp ht hb).mono ?_
    rintro e w' ⟨rfl, g⟩
    exact ⟨g, .inr ⟨h0, rfl⟩⟩
  have gg := Gr.al w (.cells #[.int .i64 tab, .slice pa pan.length pc, .int .i64 hei, .slice ta top.length tc, .slice ba bot.length bc, .int .i64 slo, .bool opn] 24)
  have hBs := Box.new w [.int .i64 tab, .slice pa pan.length pc, .int .i64 hei, .slice ta top.length tc, .slice ba bot.length bc, .int .i64 slo, .bool opn] 24 w.heap.size rfl
  have cB := fun v (h1 : IRow v pa pan) (h2 : IRow v ta top) (h3 : IRow v ba bot) => blank_any tab hei slo pan top bot pa ta ba pc tc bc opn v h1 h2 h3
  obtain ⟨E, heE⟩ : ∃ e, checkE tab hei slo pan top bot opn = e := ⟨_, rfl⟩
  rw [heE] at cB h0 ⊢
  have CB := Lib.hid cB
  have H0 := Lib.hid h0
  have h0' : (E != 0) = true := by rw [bne_iff_ne]; exact h0
  clear cB heE h0
  go_enter Try.func18, Try.ntmps18
  obtain ⟨b0, b1, b2, b3, b4, b5, b6⟩ := hBs.c7
  go_wp2_with (go_at_call 17; refine (CB.out _ (hp.grow gg) (ht.grow gg) (hb.grow gg)).mono ?_; rintro e w2 ⟨rfl, g2⟩)
  refine bodyPost_ret (v := .tuple #[.int .i64 0, .int .i64 0, .int .i64 0, .int .i64 E]) (by simp [results, Try.results18, go_sem]) rfl ?_
  exact ⟨gg.tr g2, .inl ⟨H0.out, rfl⟩⟩

end Go.Proofs.Ytafkoococfnakaa

namespace Go.Proofs.Ytafkoococfnakaa
set_option linter.unusedVariables false
set_option linter.unusedSimpArgs false
open Go.RowKit

/-- An append among the operations of a drawn region. -/
theorem wpOp_append {P : Program} {ops : Array Oper} {Q : Exit → Act → World → Prop} {i : Nat} {K : Act → World → Prop} {a : Act} {w : World} {o : Oper} (s x : Operand) (t : TypeId) (ho : ops[i]? = some o) (hg : o.guard = none)
    (hop : o.op = Op.call { callee := Callee.builtin Builtin.append, args := #[s, x], argTypes := #[t, t] }) (v1 v2 u : Value) (w' : World) (hs : a.eval s = v1) (hx : a.eval x = v2)
    (hrun : (Builtin.append_ #[t, t] o.type #[v1, v2]).run P w = .ok u w') (h : ∀ K' : Act → World → Prop, (∀ a w, K a w → K' a w) → K' (a.put o.dst u) w') : wpOp P ops Q i K a w := by
  refine wpOp_step ho (fun K' hK' => ?_)
  have hw : Region.wanted o (yielded ops a.tmps) = true := by simp [Region.wanted, hg]
  rw [if_pos hw]
  unfold Oper.wp execOp
  simp only [hop, resolve, invoke, builtin, Sem.run_bind, Sem.run_pure, Result.andThen_ok, List.map_toArray, List.map_cons, List.map_nil, hs, hx, hrun]
  exact h K' hK'

set_option maxRecDepth 100000 in
set_option maxHeartbeats 4000000 in
theorem copy02_any (tab hei slo : Int) (pan top bot : List Int) (pa ta ba : Option Addr) (pc tc bc : Nat) (opn : Bool) (l1 : pan.length ≤ 1000) (l2 : top.length ≤ 1000) (l3 : bot.length ≤ 1000) (w : World) (hp : IRow w pa pan) (ht : IRow w ta top) (hb : IRow w ba bot) :
    Calls Try.prog 62 #[.agg #[.int .i64 tab, .slice pa pan.length pc, .int .i64 hei, .slice ta top.length tc, .slice ba bot.length bc, .int .i64 slo, .bool opn]] w fun e w' => ∃ a3 c3 a7 c7 a11 c11, e = .returned (.agg #[.int .i64 tab, .slice a3 pan.length c3, .int .i64 hei, .slice a7 top.length c7, .slice a11 bot.length c11, .int .i64 slo, .bool opn]) ∧ Gr w w' ∧ IRow w' a3 pan ∧ IRow w' a7 top ∧ IRow w' a11 bot ∧ (∀ ad, a3 = some ad → w.heap.size ≤ ad.block ∧ ad.block < w'.heap.size) ∧ (∀ ad, a7 = some ad → w.heap.size ≤ ad.block ∧ ad.block < w'.heap.size) ∧ (∀ ad, a11 = some ad → w.heap.size ≤ ad.block ∧ ad.block < w'.heap.size) := by
  have gg := (Gr.al w (.cells #[.int .i64 tab, .slice pa pan.length pc, .int .i64 hei, .slice ta top.length tc, .slice ba bot.length bc, .int .i64 slo, .bool opn] 24)).tr (Gr.al _ (.cells #[.int .i64 0, .slice none 0 0, .int .i64 0, .slice none 0 0, .slice none 0 0, .int .i64 0, .bool false] 24))
  have oB := (Own.new w [.int .i64 tab, .slice pa pan.length pc, .int .i64 hei, .slice ta top.length tc, .slice ba bot.length bc, .int .i64 slo, .bool opn] 24 w.heap.size rfl).keep (Gr.al _ (.cells #[.int .i64 0, .slice none 0 0, .int .i64 0, .slice none 0 0, .slice none 0 0, .int .i64 0, .bool false] 24))
  have oZ := Own.new (w.alloc (.cells #[.int .i64 tab, .slice pa pan.length pc, .int .i64 hei, .slice ta top.length tc, .slice ba bot.length bc, .int .i64 slo, .bool opn] 24)) [.int .i64 0, .slice none 0 0, .int .i64 0, .slice none 0 0, .slice none 0 0, .int .i64 0, .bool false] 24 (w.heap.size + 1) (by simp)
  have HP := Lib.hid hp
  have HT := Lib.hid ht
  have HB := Lib.hid hb
  have HL := Lib.hid (And.intro l1 (And.intro l2 l3))
  clear hp ht hb l1 l2 l3
  have hle : w.heap.size ≤ w.heap.size := Nat.le_refl _
  go_enter Try.func62, Try.ntmps62
  go_upto_region 1 with fail
  refine wp_abs (fun U => Gr w U ∧ Own U w.heap.size [.int .i64 tab, .slice pa pan.length pc, .int .i64 hei, .slice ta top.length tc, .slice ba bot.length bc, .int .i64 slo, .bool opn] ∧ Own U (w.heap.size + 1) [.int .i64 0, .slice none 0 0, .int .i64 0, .slice none 0 0, .slice none 0 0, .int .i64 0, .bool false]) ⟨gg, oB, oZ⟩ ?_
  clear gg oB oZ
  rintro U ⟨gU, oB, oZ⟩
  obtain ⟨N, hN⟩ : ∃ N, U.heap.size = N := ⟨_, rfl⟩
  have hB := oB.1
  have lN : w.heap.size + 1 < N := hN ▸ oZ.1.1
  have HN := Lib.hid hN
  clear hN
  refine wp_region_facts 13 [(2, 1), (3, 0), (3, 2), (6, 5), (7, 4), (7, 6), (10, 9), (11, 8), (11, 10)] (fun x => ⟨#[.agg #[.int .i64 tab, .slice pa pan.length pc, .int .i64 hei, .slice ta top.length tc, .slice ba bot.length bc, .int .i64 slo, .bool opn], .pointer (some ⟨w.heap.size, 0, none⟩), .pointer (some ⟨(w.heap.size + 1), 0, none⟩), x 0, x 1, x 2, x 3, x 4, x 5, x 6, x 7, x 8, x 9, x 10, x 11, x 12, undef, undef, undef], []⟩) (fun _ => undef) [fun v x => ∃ b, x = .slice (some ⟨b, 0, none⟩) 0 0 ∧ N ≤ b ∧ b < v.heap.size, fun _ x => x = .pointer (some ⟨w.heap.size, 1, none⟩), fun _ x => x = .slice pa pan.length pc, fun v x => ∃ a c, x = .slice a pan.length c ∧ IRow v a pan ∧ ∀ ad, a = some ad → N ≤ ad.block ∧ ad.block < v.heap.size, fun v x => ∃ b, x = .slice (some ⟨b, 0, none⟩) 0 0 ∧ N ≤ b ∧ b < v.heap.size, fun _ x => x = .pointer (some ⟨w.heap.size, 3, none⟩), fun _ x => x = .slice ta top.length tc, fun v x => ∃ a c, x = .slice a top.length c ∧ IRow v a top ∧ ∀ ad, a = some ad → N ≤ ad.block ∧ ad.block < v.heap.size, fun v x => ∃ b, x = .slice (some ⟨b, 0, none⟩) 0 0 ∧ N ≤ b ∧ b < v.heap.size, fun _ x => x = .pointer (some ⟨w.heap.size, 4, none⟩), fun _ x => x = .slice ba bot.length bc, fun v x => ∃ a c, x = .slice a bot.length c ∧ IRow v a bot ∧ ∀ ad, a = some ad → N ≤ ad.block ∧ ad.block < v.heap.size, fun _ x => x = .pointer (some ⟨w.heap.size, 1, none⟩)] (by rfl) (by kernel_rfl) (by kernel_rfl) (by kernel_rfl) (stays_cons ((show Stays (fun v x => ∃ b, x = .slice (some ⟨b, 0, none⟩) 0 0 ∧ N ≤ b ∧ b < v.heap.size) from fun v v' x g ⟨b, h, h1, h2⟩ => ⟨b, h, h1, Nat.lt_of_lt_of_le h2 g.size⟩)) (stays_cons (Stays.eq _) (stays_cons (Stays.eq _) (stays_cons ((show Stays (fun v x => ∃ a c, x = .slice a pan.length c ∧ IRow v a pan ∧ ∀ ad, a = some ad → N ≤ ad.block ∧ ad.block < v.heap.size) from fun v v' x g ⟨a, c, h, r, n⟩ => ⟨a, c, h, r.grow g, fun ad e => ⟨(n ad e).1, Nat.lt_of_lt_of_le (n ad e).2 g.size⟩⟩)) (stays_cons ((show Stays (fun v x => ∃ b, x = .slice (some ⟨b, 0, none⟩) 0 0 ∧ N ≤ b ∧ b < v.heap.size) from fun v v' x g ⟨b, h, h1, h2⟩ => ⟨b, h, h1, Nat.lt_of_lt_of_le h2 g.size⟩)) (stays_cons (Stays.eq _) (stays_cons (Stays.eq _) (stays_cons ((show Stays (fun v x => ∃ a c, x = .slice a top.length c ∧ IRow v a top ∧ ∀ ad, a = some ad → N ≤ ad.block ∧ ad.block < v.heap.size) from fun v v' x g ⟨a, c, h, r, n⟩ => ⟨a, c, h, r.grow g, fun ad e => ⟨(n ad e).1, Nat.lt_of_lt_of_le (n ad e).2 g.size⟩⟩)) (stays_cons ((show Stays (fun v x => ∃ b, x = .slice (some ⟨b, 0, none⟩) 0 0 ∧ N ≤ b ∧ b < v.heap.size) from fun v v' x g ⟨b, h, h1, h2⟩ => ⟨b, h, h1, Nat.lt_of_lt_of_le h2 g.size⟩)) (stays_cons (Stays.eq _) (stays_cons (Stays.eq _) (stays_cons ((show Stays (fun v x => ∃ a c, x = .slice a bot.length c ∧ IRow v a bot ∧ ∀ ad, a = some ad → N ≤ ad.block ∧ ad.block < v.heap.size) from fun v v' x g ⟨a, c, h, r, n⟩ => ⟨a, c, h, r.grow g, fun ad e => ⟨(n ad e).1, Nat.lt_of_lt_of_le (n ad e).2 g.size⟩⟩)) (stays_cons (Stays.eq _) stays_nil))))))))))))) ?step1 ?fin1
  case step1 =>
    rintro i hi x v gv hd K hK
    have hi8 : i = 0 ∨ i = 1 ∨ i = 2 ∨ i = 3 ∨ i = 4 ∨ i = 5 ∨ i = 6 ∨ i = 7 ∨ i = 8 ∨ i = 9 ∨ i = 10 ∨ i = 11 ∨ i = 12 := by omega
    rcases hi8 with rfl | rfl | rfl | rfl | rfl | rfl | rfl | rfl | rfl | rfl | rfl | rfl | rfl
    · show wpOp Try.prog _ _ 0 K (⟨#[_, _, _, x 0, x 1, x 2, x 3, x 4, x 5, x 6, x 7, x 8, x 9, x 10, x 11, x 12, _, _, _], []⟩ : Act) v
      refine wpOp_step rfl (fun K' hK' => ?_)
      go_simp
      have hg := Gr.al v (.cells #[] 3)
      have hsz : N ≤ v.heap.size := HN.out ▸ gv.size
      exact hK' _ _ (hK _ _ hg (at_of rfl (⟨_, rfl, hsz, by simp⟩)))
    · show wpOp Try.prog _ _ 1 K (⟨#[_, _, _, x 0, x 1, x 2, x 3, x 4, x 5, x 6, x 7, x 8, x 9, x 10, x 11, x 12, _, _, _], []⟩ : Act) v
      refine wpOp_step rfl (fun K' hK' => ?_)
      go_simp
      exact hK' _ _ (hK _ _ (Below.refl _ _) (at_of rfl (rfl)))
    · obtain ⟨x, rfl⟩ := upd_of (show x 1 = .pointer (some ⟨w.heap.size, 1, none⟩) from hd 1 _ (by simp) rfl)
      show wpOp Try.prog _ _ 2 K (⟨#[_, _, _, x 0, .pointer (some ⟨w.heap.size, 1, none⟩), x 2, x 3, x 4, x 5, x 6, x 7, x 8, x 9, x 10, x 11, x 12, _, _, _], []⟩ : Act) v
      refine wpOp_step rfl (fun K' hK' => ?_)
      have q := (hB.keep gv).2 1 _ rfl
      go_simp
      exact hK' _ _ (hK _ _ (Below.refl _ _) (at_of rfl (rfl)))
    · obtain ⟨b0, e0, hb0, hc0⟩ := hd 0 _ (by simp) rfl
      obtain ⟨x, rfl⟩ := upd_of (show x 0 = .slice (some ⟨b0, 0, none⟩) 0 0 from e0)
      obtain ⟨x, rfl⟩ := upd_of (show x 2 = .slice pa pan.length pc from hd 2 _ (by simp) rfl)
      show wpOp Try.prog _ _ 3 K (⟨#[_, _, _, .slice (some ⟨b0, 0, none⟩) 0 0, x 1, .slice pa pan.length pc, x 3, x 4, x 5, x 6, x 7, x 8, x 9, x 10, x 11, x 12, _, _, _], []⟩ : Act) v
      obtain ⟨u, v', hrun, hg, ⟨a, c, hu, hr, hn⟩⟩ := app_new v b0 pa pan pc (HP.out.grow (gU.tr gv)) HL.out.1
      subst hu
      have hn2 : ∀ ad, a = some ad → N ≤ ad.block ∧ ad.block < v'.heap.size := fun ad e => by have h1 := (hn ad e).1; have h4 := (hn ad e).2 hc0; have h2 := gv.size; have h3 := HN.out; omega
      refine wpOp_append (Operand.tmp 3) (Operand.tmp 5) 22 rfl rfl rfl (.slice (some ⟨b0, 0, none⟩) 0 0) (.slice pa pan.length pc) _ v' rfl rfl hrun (fun K' hK' => ?_)
      exact hK' _ _ (hK _ _ hg (at_of rfl (⟨_, _, rfl, hr, hn2⟩)))
    · show wpOp Try.prog _ _ 4 K (⟨#[_, _, _, x 0, x 1, x 2, x 3, x 4, x 5, x 6, x 7, x 8, x 9, x 10, x 11, x 12, _, _, _], []⟩ : Act) v
      refine wpOp_step rfl (fun K' hK' => ?_)
      go_simp
      have hg := Gr.al v (.cells #[] 3)
      have hsz : N ≤ v.heap.size := HN.out ▸ gv.size
      exact hK' _ _ (hK _ _ hg (at_of rfl (⟨_, rfl, hsz, by simp⟩)))
    · show wpOp Try.prog _ _ 5 K (⟨#[_, _, _, x 0, x 1, x 2, x 3, x 4, x 5, x 6, x 7, x 8, x 9, x 10, x 11, x 12, _, _, _], []⟩ : Act) v
      refine wpOp_step rfl (fun K' hK' => ?_)
      go_simp
      exact hK' _ _ (hK _ _ (Below.refl _ _) (at_of rfl (rfl)))
    · obtain ⟨x, rfl⟩ := upd_of (show x 5 = .pointer (some ⟨w.heap.size, 3, none⟩) from hd 5 _ (by simp) rfl)
      show wpOp Try.prog _ _ 6 K (⟨#[_, _, _, x 0, x 1, x 2, x 3, x 4, .pointer (some ⟨w.heap.size, 3, none⟩), x 6, x 7, x 8, x 9, x 10, x 11, x 12, _, _, _], []⟩ : Act) v
      refine wpOp_step rfl (fun K' hK' => ?_)
      have q := (hB.keep gv).2 3 _ rfl
      go_simp
      exact hK' _ _ (hK _ _ (Below.refl _ _) (at_of rfl (rfl)))
    · obtain ⟨b4, e4, hb4, hc4⟩ := hd 4 _ (by simp) rfl
      obtain ⟨x, rfl⟩ := upd_of (show x 4 = .slice (some ⟨b4, 0, none⟩) 0 0 from e4)
      obtain ⟨x, rfl⟩ := upd_of (show x 6 = .slice ta top.length tc from hd 6 _ (by simp) rfl)
      show wpOp Try.prog _ _ 7 K (⟨#[_, _, _, x 0, x 1, x 2, x 3, .slice (some ⟨b4, 0, none⟩) 0 0, x 5, .slice ta top.length tc, x 7, x 8, x 9, x 10, x 11, x 12, _, _, _], []⟩ : Act) v
      obtain ⟨u, v', hrun, hg, ⟨a, c, hu, hr, hn⟩⟩ := app_new v b4 ta top tc (HT.out.grow (gU.tr gv)) HL.out.2.1
      subst hu
      have hn2 : ∀ ad, a = some ad → N ≤ ad.block ∧ ad.block < v'.heap.size := fun ad e => by have h1 := (hn ad e).1; have h4 := (hn ad e).2 hc4; have h2 := gv.size; have h3 := HN.out; omega
      refine wpOp_append (Operand.tmp 7) (Operand.tmp 9) 22 rfl rfl rfl (.slice (some ⟨b4, 0, none⟩) 0 0) (.slice ta top.length tc) _ v' rfl rfl hrun (fun K' hK' => ?_)
      exact hK' _ _ (hK _ _ hg (at_of rfl (⟨_, _, rfl, hr, hn2⟩)))
    · show wpOp Try.prog _ _ 8 K (⟨#[_, _, _, x 0, x 1, x 2, x 3, x 4, x 5, x 6, x 7, x 8, x 9, x 10, x 11, x 12, _, _, _], []⟩ : Act) v
      refine wpOp_step rfl (fun K' hK' => ?_)
      go_simp
      have hg := Gr.al v (.cells #[] 3)
      have hsz : N ≤ v.heap.size := HN.out ▸ gv.size
      exact hK' _ _ (hK _ _ hg (at_of rfl (⟨_, rfl, hsz, by simp⟩)))
    · show wpOp Try.prog _ _ 9 K (⟨#[_, _, _, x 0, x 1, x 2, x 3, x 4, x 5, x 6, x 7, x 8, x 9, x 10, x 11, x 12, _, _, _], []⟩ : Act) v
      refine wpOp_step rfl (fun K' hK' => ?_)
      go_simp
      exact hK' _ _ (hK _ _ (Below.refl _ _) (at_of rfl (rfl)))
    · obtain ⟨x, rfl⟩ := upd_of (show x 9 = .pointer (some ⟨w.heap.size, 4, none⟩) from hd 9 _ (by simp) rfl)
      show wpOp Try.prog _ _ 10 K (⟨#[_, _, _, x 0, x 1, x 2, x 3, x 4, x 5, x 6, x 7, x 8, .pointer (some ⟨w.heap.size, 4, none⟩), x 10, x 11, x 12, _, _, _], []⟩ : Act) v
      refine wpOp_step rfl (fun K' hK' => ?_)
      have q := (hB.keep gv).2 4 _ rfl
      go_simp
      exact hK' _ _ (hK _ _ (Below.refl _ _) (at_of rfl (rfl)))
    · obtain ⟨b8, e8, hb8, hc8⟩ := hd 8 _ (by simp) rfl
      obtain ⟨x, rfl⟩ := upd_of (show x 8 = .slice (some ⟨b8, 0, none⟩) 0 0 from e8)
      obtain ⟨x, rfl⟩ := upd_of (show x 10 = .slice ba bot.length bc from hd 10 _ (by simp) rfl)
      show wpOp Try.prog _ _ 11 K (⟨#[_, _, _, x 0, x 1, x 2, x 3, x 4, x 5, x 6, x 7, .slice (some ⟨b8, 0, none⟩) 0 0, x 9, .slice ba bot.length bc, x 11, x 12, _, _, _], []⟩ : Act) v
      obtain ⟨u, v', hrun, hg, ⟨a, c, hu, hr, hn⟩⟩ := app_new v b8 ba bot bc (HB.out.grow (gU.tr gv)) HL.out.2.2
      subst hu
      have hn2 : ∀ ad, a = some ad → N ≤ ad.block ∧ ad.block < v'.heap.size := fun ad e => by have h1 := (hn ad e).1; have h4 := (hn ad e).2 hc8; have h2 := gv.size; have h3 := HN.out; omega
      refine wpOp_append (Operand.tmp 11) (Operand.tmp 13) 22 rfl rfl rfl (.slice (some ⟨b8, 0, none⟩) 0 0) (.slice ba bot.length bc) _ v' rfl rfl hrun (fun K' hK' => ?_)
      exact hK' _ _ (hK _ _ hg (at_of rfl (⟨_, _, rfl, hr, hn2⟩)))
    · show wpOp Try.prog _ _ 12 K (⟨#[_, _, _, x 0, x 1, x 2, x 3, x 4, x 5, x 6, x 7, x 8, x 9, x 10, x 11, x 12, _, _, _], []⟩ : Act) v
      refine wpOp_step rfl (fun K' hK' => ?_)
      go_simp
      exact hK' _ _ (hK _ _ (Below.refl _ _) (at_of rfl (rfl)))
  case fin1 =>
    rintro x v gv hd
    obtain ⟨a3, c3, e3, r3, n3⟩ := hd 3 _ (by omega) rfl
    obtain ⟨x, rfl⟩ := upd_of (show x 3 = .slice a3 pan.length c3 from e3)
    obtain ⟨a7, c7, e7, r7, n7⟩ := hd 7 _ (by omega) rfl
    obtain ⟨x, rfl⟩ := upd_of (show x 7 = .slice a7 top.length c7 from e7)
    obtain ⟨a11, c11, e11, r11, n11⟩ := hd 11 _ (by omega) rfl
    obtain ⟨x, rfl⟩ := upd_of (show x 11 = .slice a11 bot.length c11 from e11)
    obtain ⟨x, rfl⟩ := upd_of (show x 12 = .pointer (some ⟨w.heap.size, 1, none⟩) from hd 12 _ (by omega) rfl)
    clear hd
    show wpList Try.prog _ _ (List.drop 13 _) (⟨#[_, _, _, x 0, x 1, x 2, .slice a3 pan.length c3, x 4, x 5, x 6, .slice a7 top.length c7, x 8, x 9, x 10, .slice a11 bot.length c11, .pointer (some ⟨w.heap.size, 1, none⟩), _, _, _], []⟩ : Act) v
    simp only [List.drop_succ_cons, List.drop_zero]
    have R3 := Lib.hid r3
    have R7 := Lib.hid r7
    have R11 := Lib.hid r11
    have N3 := Lib.hid n3
    have N7 := Lib.hid n7
    have N11 := Lib.hid n11
    clear r3 r7 r11 n3 n7 n11
    replace gU := gU.tr gv
    replace oB := oB.keep gv
    replace oZ := oZ.keep gv
    clear gv hB
    have z1 := oB.2 1
    have z3 := oB.2 3
    have z4 := oB.2 4
    have q1 := oB.1.2 1 _ rfl
    have q3 := oB.1.2 3 _ rfl
    have q4 := oB.1.2 4 _ rfl
    go_upto_region 2 with fail
    refine wp_abs (fun V => Gr w V ∧ Own V w.heap.size [.int .i64 tab, .slice a3 pan.length c3, .int .i64 hei, .slice a7 top.length c7, .slice a11 bot.length c11, .int .i64 slo, .bool opn] ∧ Own V (w.heap.size + 1) [.int .i64 0, .slice none 0 0, .int .i64 0, .slice none 0 0, .slice none 0 0, .int .i64 0, .bool false] ∧ IRow V a3 pan ∧ IRow V a7 top ∧ IRow V a11 bot ∧ v.heap.size ≤ V.heap.size) ⟨((gU.setCell (p := ⟨w.heap.size, 1, none⟩) hle _).setCell (p := ⟨w.heap.size, 3, none⟩) hle _).setCell (p := ⟨w.heap.size, 4, none⟩) hle _, ((oB.set (i := 1) (by simp)).set (i := 3) (by simp)).set (i := 4) (by simp), ((oZ.other (by omega)).other (by omega)).other (by omega), (RowOf.kx R3.out ((((Kx.refl _ _).tr (Kx.set (Z := fun j => j = w.heap.size) (p := ⟨w.heap.size, 1, none⟩) rfl _)).tr (Kx.set (Z := fun j => j = w.heap.size) (p := ⟨w.heap.size, 3, none⟩) rfl _)).tr (Kx.set (Z := fun j => j = w.heap.size) (p := ⟨w.heap.size, 4, none⟩) rfl _)) (fun b off e e2 => by have := N3.out ⟨b, off, none⟩ e; dsimp only at this; omega)), (RowOf.kx R7.out ((((Kx.refl _ _).tr (Kx.set (Z := fun j => j = w.heap.size) (p := ⟨w.heap.size, 1, none⟩) rfl _)).tr (Kx.set (Z := fun j => j = w.heap.size) (p := ⟨w.heap.size, 3, none⟩) rfl _)).tr (Kx.set (Z := fun j => j = w.heap.size) (p := ⟨w.heap.size, 4, none⟩) rfl _)) (fun b off e e2 => by have := N7.out ⟨b, off, none⟩ e; dsimp only at this; omega)), (RowOf.kx R11.out ((((Kx.refl _ _).tr (Kx.set (Z := fun j => j = w.heap.size) (p := ⟨w.heap.size, 1, none⟩) rfl _)).tr (Kx.set (Z := fun j => j = w.heap.size) (p := ⟨w.heap.size, 3, none⟩) rfl _)).tr (Kx.set (Z := fun j => j = w.heap.size) (p := ⟨w.heap.size, 4, none⟩) rfl _)) (fun b off e e2 => by have := N11.out ⟨b, off, none⟩ e; dsimp only at this; omega)), ((((Kx.refl _ _).tr (Kx.set (Z := fun j => j = w.heap.size) (p := ⟨w.heap.size, 1, none⟩) rfl _)).tr (Kx.set (Z := fun j => j = w.heap.size) (p := ⟨w.heap.size, 3, none⟩) rfl _)).tr (Kx.set (Z := fun j => j = w.heap.size) (p := ⟨w.heap.size, 4, none⟩) rfl _)).size⟩ ?_
    clear gU oB oZ z1 z3 z4 q1 q3 q4 R3 R7 R11
    rintro V ⟨gV, oB, oZ, r3, r7, r11, hvV⟩
    obtain ⟨q0, q1, q2, q3, q4, q5, q6⟩ := oB.1.c7
    have R3 := Lib.hid r3
    have R7 := Lib.hid r7
    have R11 := Lib.hid r11
    clear r3 r7 r11
    have p0 := oZ.1.2 0 _ rfl
    have z0 := oZ.2 0
    have p1 := oZ.1.2 1 _ rfl
    have z1 := oZ.2 1
    have p2 := oZ.1.2 2 _ rfl
    have z2 := oZ.2 2
    have p3 := oZ.1.2 3 _ rfl
    have z3 := oZ.2 3
    have p4 := oZ.1.2 4 _ rfl
    have z4 := oZ.2 4
    have p5 := oZ.1.2 5 _ rfl
    have z5 := oZ.2 5
    have p6 := oZ.1.2 6 _ rfl
    have z6 := oZ.2 6
    have hl1 : w.heap.size ≤ w.heap.size + 1 := Nat.le_succ _
    go_wp2
    refine bodyPost_ret (v := .agg #[.int .i64 tab, .slice a3 pan.length c3, .int .i64 hei, .slice a7 top.length c7, .slice a11 bot.length c11, .int .i64 slo, .bool opn]) (by simp [results, Try.results62, go_sem, p0, p1, p2, p3, p4, p5, p6]) rfl ⟨_, _, _, _, _, _, rfl, ?_, ?_, ?_, ?_, ?_, ?_, ?_⟩
    · exact (((((((gV.setCell (p := ⟨w.heap.size + 1, 0, none⟩) hl1 _).setCell (p := ⟨w.heap.size + 1, 1, none⟩) hl1 _).setCell (p := ⟨w.heap.size + 1, 2, none⟩) hl1 _).setCell (p := ⟨w.heap.size + 1, 3, none⟩) hl1 _).setCell (p := ⟨w.heap.size + 1, 4, none⟩) hl1 _).setCell (p := ⟨w.heap.size + 1, 5, none⟩) hl1 _).setCell (p := ⟨w.heap.size + 1, 6, none⟩) hl1 _)
    · exact (RowOf.kx R3.out ((((((((Kx.refl _ _).tr (Kx.set (Z := fun j => j = (w.heap.size + 1)) (p := ⟨(w.heap.size + 1), 0, none⟩) rfl _)).tr (Kx.set (Z := fun j => j = (w.heap.size + 1)) (p := ⟨(w.heap.size + 1), 1, none⟩) rfl _)).tr (Kx.set (Z := fun j => j = (w.heap.size + 1)) (p := ⟨(w.heap.size + 1), 2, none⟩) rfl _)).tr (Kx.set (Z := fun j => j = (w.heap.size + 1)) (p := ⟨(w.heap.size + 1), 3, none⟩) rfl _)).tr (Kx.set (Z := fun j => j = (w.heap.size + 1)) (p := ⟨(w.heap.size + 1), 4, none⟩) rfl _)).tr (Kx.set (Z := fun j => j = (w.heap.size + 1)) (p := ⟨(w.heap.size + 1), 5, none⟩) rfl _)).tr (Kx.set (Z := fun j => j = (w.heap.size + 1)) (p := ⟨(w.heap.size + 1), 6, none⟩) rfl _)) (fun b off e e2 => by have := N3.out ⟨b, off, none⟩ e; dsimp only at this; omega))
    · exact (RowOf.kx R7.out ((((((((Kx.refl _ _).tr (Kx.set (Z := fun j => j = (w.heap.size + 1)) (p := ⟨(w.heap.size + 1), 0, none⟩) rfl _)).tr (Kx.set (Z := fun j => j = (w.heap.size + 1)) (p := ⟨(w.heap.size + 1), 1, none⟩) rfl _)).tr (Kx.set (Z := fun j => j = (w.heap.size + 1)) (p := ⟨(w.heap.size + 1), 2, none⟩) rfl _)).tr (Kx.set (Z := fun j => j = (w.heap.size + 1)) (p := ⟨(w.heap.size + 1), 3, none⟩) rfl _)).tr (Kx.set (Z := fun j => j = (w.heap.size + 1)) (p := ⟨(w.heap.size + 1), 4, none⟩) rfl _)).tr (Kx.set (Z := fun j => j = (w.heap.size + 1)) (p := ⟨(w.heap.size + 1), 5, none⟩) rfl _)).tr (Kx.set (Z := fun j => j = (w.heap.size + 1)) (p := ⟨(w.heap.size + 1), 6, none⟩) rfl _)) (fun b off e e2 => by have := N7.out ⟨b, off, none⟩ e; dsimp only at this; omega))
    · exact (RowOf.kx R11.out ((((((((Kx.refl _ _).tr (Kx.set (Z := fun j => j = (w.heap.size + 1)) (p := ⟨(w.heap.size + 1), 0, none⟩) rfl _)).tr (Kx.set (Z := fun j => j = (w.heap.size + 1)) (p := ⟨(w.heap.size + 1), 1, none⟩) rfl _)).tr (Kx.set (Z := fun j => j = (w.heap.size + 1)) (p := ⟨(w.heap.size + 1), 2, none⟩) rfl _)).tr (Kx.set (Z := fun j => j = (w.heap.size + 1)) (p := ⟨(w.heap.size + 1), 3, none⟩) rfl _)).tr (Kx.set (Z := fun j => j = (w.heap.size + 1)) (p := ⟨(w.heap.size + 1), 4, none⟩) rfl _)).tr (Kx.set (Z := fun j => j = (w.heap.size + 1)) (p := ⟨(w.heap.size + 1), 5, none⟩) rfl _)).tr (Kx.set (Z := fun j => j = (w.heap.size + 1)) (p := ⟨(w.heap.size + 1), 6, none⟩) rfl _)) (fun b off e e2 => by have := N11.out ⟨b, off, none⟩ e; dsimp only at this; omega))
    · intro ad e; have := N3.out ad e; simp only [World.size_setCell]; omega
    · intro ad e; have := N7.out ad e; simp only [World.size_setCell]; omega
    · intro ad e; have := N11.out ad e; simp only [World.size_setCell]; omega

set_option maxRecDepth 100000 in
set_option maxHeartbeats 4000000 in
theorem own02_any (tab hei slo : Int) (pan top bot : List Int) (pa ta ba : Option Addr) (pc tc bc : Nat) (opn : Bool) (l1 : pan.length ≤ 1000) (l2 : top.length ≤ 1000) (l3 : bot.length ≤ 1000) (w : World) (hp : IRow w pa pan) (ht : IRow w ta top) (hb : IRow w ba bot) :
    Calls Try.prog 16 #[.agg #[.int .i64 tab, .slice pa pan.length pc, .int .i64 hei, .slice ta top.length tc, .slice ba bot.length bc, .int .i64 slo, .bool opn]] w fun e w' => ∃ a3 c3 a7 c7 a11 c11, e = .returned (.agg #[.int .i64 tab, .slice a3 pan.length c3, .int .i64 hei, .slice a7 top.length c7, .slice a11 bot.length c11, .int .i64 slo, .bool opn]) ∧ Gr w w' ∧ IRow w' a3 pan ∧ IRow w' a7 top ∧ IRow w' a11 bot ∧ (∀ ad, a3 = some ad → w.heap.size ≤ ad.block ∧ ad.block < w'.heap.size) ∧ (∀ ad, a7 = some ad → w.heap.size ≤ ad.block ∧ ad.block < w'.heap.size) ∧ (∀ ad, a11 = some ad → w.heap.size ≤ ad.block ∧ ad.block < w'.heap.size) := by
  have gg := (Gr.al w (.cells #[.int .i64 tab, .slice pa pan.length pc, .int .i64 hei, .slice ta top.length tc, .slice ba bot.length bc, .int .i64 slo, .bool opn] 24)).tr (Gr.al _ (.cells #[.int .i64 0, .slice none 0 0, .int .i64 0, .slice none 0 0, .slice none 0 0, .int .i64 0, .bool false] 24))
  have oB := (Box.new w [.int .i64 tab, .slice pa pan.length pc, .int .i64 hei, .slice ta top.length tc, .slice ba bot.length bc, .int .i64 slo, .bool opn] 24 w.heap.size rfl).keep (Gr.al _ (.cells #[.int .i64 0, .slice none 0 0, .int .i64 0, .slice none 0 0, .slice none 0 0, .int .i64 0, .bool false] 24))
  have oZ := Own.new (w.alloc (.cells #[.int .i64 tab, .slice pa pan.length pc, .int .i64 hei, .slice ta top.length tc, .slice ba bot.length bc, .int .i64 slo, .bool opn] 24)) [.int .i64 0, .slice none 0 0, .int .i64 0, .slice none 0 0, .slice none 0 0, .int .i64 0, .bool false] 24 (w.heap.size + 1) (by simp)
  have HP := Lib.hid hp
  have HT := Lib.hid ht
  have HB := Lib.hid hb
  clear hp ht hb
  have hl1 : w.heap.size ≤ w.heap.size + 1 := Nat.le_succ _
  go_enter Try.func16, Try.ntmps16
  go_upto_region 1 with fail
  refine wp_abs (fun U => Gr w U ∧ Box U w.heap.size [.int .i64 tab, .slice pa pan.length pc, .int .i64 hei, .slice ta top.length tc, .slice ba bot.length bc, .int .i64 slo, .bool opn] ∧ Own U (w.heap.size + 1) [.int .i64 0, .slice none 0 0, .int .i64 0, .slice none 0 0, .slice none 0 0, .int .i64 0, .bool false]) ⟨gg, oB, oZ⟩ ?_
  clear gg oB oZ
  rintro U ⟨gU, oB, oZ⟩
  obtain ⟨b0, b1, b2, b3, b4, b5, b6⟩ := oB.c7
  have hlt : w.heap.size + 1 < U.heap.size := oZ.1.1
  go_wp2_with (go_at_call 62; refine (copy02_any tab hei slo pan top bot pa ta ba pc tc bc opn l1 l2 l3 U (HP.out.grow gU) (HT.out.grow gU) (HB.out.grow gU)).mono ?_; rintro e w1 ⟨a3, c3, a7, c7, a11, c11, rfl, g1, r3, r7, r11, n3, n7, n11⟩; replace gU := gU.tr g1; replace oZ := oZ.keep g1; clear b0 b1 b2 b3 b4 b5 b6 oB; have N3 := Lib.hid n3; have N7 := Lib.hid n7; have N11 := Lib.hid n11; have R3 := Lib.hid r3; have R7 := Lib.hid r7; have R11 := Lib.hid r11; clear n3 n7 n11 r3 r7 r11; have p0 := oZ.1.2 0 _ rfl; have z0 := oZ.2 0; have p1 := oZ.1.2 1 _ rfl; have z1 := oZ.2 1; have p2 := oZ.1.2 2 _ rfl; have z2 := oZ.2 2; have p3 := oZ.1.2 3 _ rfl; have z3 := oZ.2 3; have p4 := oZ.1.2 4 _ rfl; have z4 := oZ.2 4; have p5 := oZ.1.2 5 _ rfl; have z5 := oZ.2 5; have p6 := oZ.1.2 6 _ rfl; have z6 := oZ.2 6)
  refine bodyPost_ret (v := .agg #[.int .i64 tab, .slice a3 pan.length c3, .int .i64 hei, .slice a7 top.length c7, .slice a11 bot.length c11, .int .i64 slo, .bool opn]) (by simp [results, Try.results16, go_sem, p0, p1, p2, p3, p4, p5, p6]) rfl ⟨_, _, _, _, _, _, rfl, ?_, ?_, ?_, ?_, ?_, ?_, ?_⟩
  · exact (((((((gU.setCell (p := ⟨w.heap.size + 1, 0, none⟩) hl1 _).setCell (p := ⟨w.heap.size + 1, 1, none⟩) hl1 _).setCell (p := ⟨w.heap.size + 1, 2, none⟩) hl1 _).setCell (p := ⟨w.heap.size + 1, 3, none⟩) hl1 _).setCell (p := ⟨w.heap.size + 1, 4, none⟩) hl1 _).setCell (p := ⟨w.heap.size + 1, 5, none⟩) hl1 _).setCell (p := ⟨w.heap.size + 1, 6, none⟩) hl1 _)
  · exact (RowOf.kx R3.out ((((((((Kx.refl _ _).tr (Kx.set (Z := fun j => j = (w.heap.size + 1)) (p := ⟨(w.heap.size + 1), 0, none⟩) rfl _)).tr (Kx.set (Z := fun j => j = (w.heap.size + 1)) (p := ⟨(w.heap.size + 1), 1, none⟩) rfl _)).tr (Kx.set (Z := fun j => j = (w.heap.size + 1)) (p := ⟨(w.heap.size + 1), 2, none⟩) rfl _)).tr (Kx.set (Z := fun j => j = (w.heap.size + 1)) (p := ⟨(w.heap.size + 1), 3, none⟩) rfl _)).tr (Kx.set (Z := fun j => j = (w.heap.size + 1)) (p := ⟨(w.heap.size + 1), 4, none⟩) rfl _)).tr (Kx.set (Z := fun j => j = (w.heap.size + 1)) (p := ⟨(w.heap.size + 1), 5, none⟩) rfl _)).tr (Kx.set (Z := fun j => j = (w.heap.size + 1)) (p := ⟨(w.heap.size + 1), 6, none⟩) rfl _)) (fun b off e e2 => by have := N3.out ⟨b, off, none⟩ e; dsimp only at this; omega))
  · exact (RowOf.kx R7.out ((((((((Kx.refl _ _).tr (Kx.set (Z := fun j => j = (w.heap.size + 1)) (p := ⟨(w.heap.size + 1), 0, none⟩) rfl _)).tr (Kx.set (Z := fun j => j = (w.heap.size + 1)) (p := ⟨(w.heap.size + 1), 1, none⟩) rfl _)).tr (Kx.set (Z := fun j => j = (w.heap.size + 1)) (p := ⟨(w.heap.size + 1), 2, none⟩) rfl _)).tr (Kx.set (Z := fun j => j = (w.heap.size + 1)) (p := ⟨(w.heap.size + 1), 3, none⟩) rfl _)).tr (Kx.set (Z := fun j => j = (w.heap.size + 1)) (p := ⟨(w.heap.size + 1), 4, none⟩) rfl _)).tr (Kx.set (Z := fun j => j = (w.heap.size + 1)) (p := ⟨(w.heap.size + 1), 5, none⟩) rfl _)).tr (Kx.set (Z := fun j => j = (w.heap.size + 1)) (p := ⟨(w.heap.size + 1), 6, none⟩) rfl _)) (fun b off e e2 => by have := N7.out ⟨b, off, none⟩ e; dsimp only at this; omega))
  · exact (RowOf.kx R11.out ((((((((Kx.refl _ _).tr (Kx.set (Z := fun j => j = (w.heap.size + 1)) (p := ⟨(w.heap.size + 1), 0, none⟩) rfl _)).tr (Kx.set (Z := fun j => j = (w.heap.size + 1)) (p := ⟨(w.heap.size + 1), 1, none⟩) rfl _)).tr (Kx.set (Z := fun j => j = (w.heap.size + 1)) (p := ⟨(w.heap.size + 1), 2, none⟩) rfl _)).tr (Kx.set (Z := fun j => j = (w.heap.size + 1)) (p := ⟨(w.heap.size + 1), 3, none⟩) rfl _)).tr (Kx.set (Z := fun j => j = (w.heap.size + 1)) (p := ⟨(w.heap.size + 1), 4, none⟩) rfl _)).tr (Kx.set (Z := fun j => j = (w.heap.size + 1)) (p := ⟨(w.heap.size + 1), 5, none⟩) rfl _)).tr (Kx.set (Z := fun j => j = (w.heap.size + 1)) (p := ⟨(w.heap.size + 1), 6, none⟩) rfl _)) (fun b off e e2 => by have := N11.out ⟨b, off, none⟩ e; dsimp only at this; omega))
  · intro ad e; have := N3.out ad e; have h9 := gU.size; simp only [World.size_setCell]; omega
  · intro ad e; have := N7.out ad e; have h9 := gU.size; simp only [World.size_setCell]; omega
  · intro ad e; have := N11.out ad e; have h9 := gU.size; simp only [World.size_setCell]; omega

end Go.Proofs.Ytafkoococfnakaa

namespace Go.Proofs.Ytafkoococfnakaa
set_option linter.unusedVariables false
set_option linter.unusedSimpArgs false
open Go.RowKit

theorem check_eq (tab hei slo : Int) (pan top bot : List Int) (pa ta ba : Option Addr) (pc tc bc : Nat) (opn : Bool) (E : Int) (h : checkE tab hei slo pan top bot opn = E) (w : World) (hp : IRow w pa pan) (ht : IRow w ta top) (hb : IRow w ba bot) :
    Calls Try.prog 17 #[.agg #[.int .i64 tab, .slice pa pan.length pc, .int .i64 hei, .slice ta top.length tc, .slice ba bot.length bc, .int .i64 slo, .bool opn]] w fun e w' => e = .returned (.int .i64 E) ∧ Gr w w' := by subst h; exact blank_any tab hei slo pan top bot pa ta ba pc tc bc opn w hp ht hb

theorem refCheck_eq (tab hei slo : Int) (pan top bot : List Int) (pa ta ba : Option Addr) (pc tc bc : Nat) (opn : Bool) (E : Int) (h : checkE tab hei slo pan top bot opn = E) (w : World) (hp : IRow w pa pan) (ht : IRow w ta top) (hb : IRow w ba bot) :
    Calls Try.prog 21 #[.agg #[.int .i64 tab, .slice pa pan.length pc, .int .i64 hei, .slice ta top.length tc, .slice ba bot.length bc, .int .i64 slo, .bool opn]] w fun e w' => e = .returned (.int .i64 E) ∧ Gr w w' := by subst h; exact refCheck02_any tab hei slo pan top bot pa ta ba pc tc bc opn w hp ht hb

theorem size_err (tab hei slo : Int) (pan top bot : List Int) (pa ta ba : Option Addr) (pc tc bc : Nat) (opn : Bool) (E : Int) (h : checkE tab hei slo pan top bot opn = E) (h0 : E ≠ 0) (w : World) (hp : IRow w pa pan) (ht : IRow w ta top) (hb : IRow w ba bot) :
    Calls Try.prog 18 #[.agg #[.int .i64 tab, .slice pa pan.length pc, .int .i64 hei, .slice ta top.length tc, .slice ba bot.length bc, .int .i64 slo, .bool opn]] w fun e w' => e = .returned (.tuple #[.int .i64 0, .int .i64 0, .int .i64 0, .int .i64 E]) ∧ Gr w w' := by
  subst h
  refine (size_any tab hei slo pan top bot pa ta ba pc tc bc opn w hp ht hb).mono ?_
  rintro e w' ⟨g, h | h⟩
  · exact ⟨h.2, g⟩
  · exact absurd h.1 h0

theorem scores_err (tab hei slo : Int) (pan top bot : List Int) (pa ta ba : Option Addr) (pc tc bc : Nat) (opn : Bool) (E : Int) (h : checkE tab hei slo pan top bot opn = E) (h0 : E ≠ 0) (w : World) (hp : IRow w pa pan) (ht : IRow w ta top) (hb : IRow w ba bot) :
    Calls Try.prog 19 #[.agg #[.int .i64 tab, .slice pa pan.length pc, .int .i64 hei, .slice ta top.length tc, .slice ba bot.length bc, .int .i64 slo, .bool opn]] w fun e w' => e = .returned (.tuple #[.slice none 0 0, .slice none 0 0, .int .i64 E]) ∧ Gr w w' := by
  subst h
  refine (scores_any tab hei slo pan top bot pa ta ba pc tc bc opn w hp ht hb).mono ?_
  rintro e w' ⟨g, h | h⟩
  · exact ⟨h.2, g⟩
  · exact absurd h.1 h0

theorem scores_ok (tab hei slo : Int) (pan top bot : List Int) (pa ta ba : Option Addr) (pc tc bc : Nat) (opn : Bool) (h : checkE tab hei slo pan top bot opn = 0) (w : World) (hp : IRow w pa pan) (ht : IRow w ta top) (hb : IRow w ba bot) :
    Calls Try.prog 19 #[.agg #[.int .i64 tab, .slice pa pan.length pc, .int .i64 hei, .slice ta top.length tc, .slice ba bot.length bc, .int .i64 slo, .bool opn]] w fun e w' => ∃ p c q d, e = .returned (.tuple #[.slice p 4 c, .slice q 2 d, .int .i64 0]) ∧ Gr w w' ∧ IRow w' p (placesTo tab pan 4) ∧ IRow w' q [maxL top, maxL top + hei] := by
  refine (scores_any tab hei slo pan top bot pa ta ba pc tc bc opn w hp ht hb).mono ?_
  rintro e w' ⟨g, h1 | ⟨_, p, c, q, d, h1, h2, h3⟩⟩
  · exact absurd h h1.1
  · rw [places_len] at h1
    exact ⟨p, c, q, d, h1, g, h2, h3⟩

theorem ints_places (tab : Int) (pan : List Int) (a b : Option Addr) (c d : Nat) (w : World) (h1 : IRow w a (placesTo tab pan 4)) (h2 : IRow w b (placesTo tab pan 4)) :
    Calls Try.prog 22 #[.slice a 4 c, .slice b 4 d] w fun e w' => e = .returned (.bool true) ∧ Gr w w' := by
  have h := ints02_any (placesTo tab pan 4) (placesTo tab pan 4) a b c d w h1 h2
  rw [decide_eq_true rfl, places_len] at h
  exact h

theorem ints_two (x y : Int) (a b : Option Addr) (c d : Nat) (w : World) (h1 : IRow w a [x, y]) (h2 : IRow w b [x, y]) :
    Calls Try.prog 22 #[.slice a 2 c, .slice b 2 d] w fun e w' => e = .returned (.bool true) ∧ Gr w w' := by
  have h := ints02_any [x, y] [x, y] a b c d w h1 h2
  rw [decide_eq_true rfl] at h
  exact h

theorem max_two {l : List Int} {x y : Int} (h2 : l.length = 2) (hx : l[0]? = some x) (hy : l[1]? = some y) : maxL l = max x y := by
  match l, h2 with
  | [a, b], _ =>
    simp at hx hy
    subst hx
    subst hy
    simp [maxL, maxTo]

theorem same02_eq (tab hei slo : Int) (pan top bot : List Int) (pa ta ba : Option Addr) (pc tc bc : Nat) (opn : Bool) (a3 a7 a11 : Option Addr) (c3 c7 c11 : Nat) (w : World) (hp : IRow w pa pan) (ht : IRow w ta top) (hb : IRow w ba bot) (h1 : IRow w a3 pan) (h2 : IRow w a7 top) (h3 : IRow w a11 bot) :
    Calls Try.prog 20 #[.agg #[.int .i64 tab, .slice a3 pan.length c3, .int .i64 hei, .slice a7 top.length c7, .slice a11 bot.length c11, .int .i64 slo, .bool opn], .agg #[.int .i64 tab, .slice pa pan.length pc, .int .i64 hei, .slice ta top.length tc, .slice ba bot.length bc, .int .i64 slo, .bool opn]] w fun e w' => e = .returned (.bool true) ∧ Gr w w' := by
  have h := same02_any ⟨tab, pan, hei, top, bot, slo, opn⟩ ⟨tab, pan, hei, top, bot, slo, opn⟩ a3 a7 a11 pa ta ba c3 c7 c11 pc tc bc w ⟨h1, h2, h3⟩ ⟨hp, ht, hb⟩
  rw [(sameB_iff _ _).2 rfl] at h
  exact h

set_option maxRecDepth 100000 in
set_option maxHeartbeats 8000000 in
theorem sizes_body (tab hei slo : Int) (pan top bot : List Int) (pa ta ba : Option Addr) (pc tc bc : Nat) (opn : Bool) (w : World) (hp : IRow w pa pan) (ht : IRow w ta top) (hb : IRow w ba bot) : Calls Try.prog 3 #[.agg #[.int .i64 tab, .slice pa pan.length pc, .int .i64 hei, .slice ta top.length tc, .slice ba bot.length bc, .int .i64 slo, .bool opn]] w fun e w' => e = .returned (.bool true) ∧ Gr w w' := by
  have gg := Gr.al w (.cells #[.int .i64 tab, .slice pa pan.length pc, .int .i64 hei, .slice ta top.length tc, .slice ba bot.length bc, .int .i64 slo, .bool opn] 24)
  have hBs := Box.new w [.int .i64 tab, .slice pa pan.length pc, .int .i64 hei, .slice ta top.length tc, .slice ba bot.length bc, .int .i64 slo, .bool opn] 24 w.heap.size rfl
  have HP := Lib.hid hp
  have HT := Lib.hid ht
  have HB := Lib.hid hb
  clear hp ht hb
  obtain ⟨d, hd⟩ : ∃ d, (decide (10 < pan.length) || (decide (10 < top.length) || decide (10 < bot.length))) = d := ⟨_, rfl⟩
  obtain ⟨b0, b1, b2, b3, b4, b5, b6⟩ := hBs.c7
  cases d with
  | true =>
    have HD := Lib.hid hd
    clear hd
    go_enter Try.func3, Try.ntmps3
    go_wp2_with (first
      | (go_at_call 14; refine (large02_any tab hei slo pan top bot pa ta ba pc tc bc opn true HD.out _).mono ?_; rintro e w1 ⟨rfl, g1⟩)
      | (go_at_call 15; refine (known_any _).mono ?_; rintro e w2 ⟨rfl, g2⟩))
    go_ret
    exact ⟨rfl, gg.tr (g1.tr g2)⟩
  | false =>
    have hl : pan.length ≤ 10 ∧ top.length ≤ 10 ∧ bot.length ≤ 10 := by
      simp at hd
      omega
    have HL := Lib.hid hl
    have HD := Lib.hid hd
    clear hd hl
    obtain ⟨E, hE⟩ : ∃ E, checkE tab hei slo pan top bot opn = E := ⟨_, rfl⟩
    have HE := Lib.hid hE
    clear hE
    go_enter Try.func3, Try.ntmps3
    go_upto_region 4 with (first
      | (go_at_call 14; refine (large02_any tab hei slo pan top bot pa ta ba pc tc bc opn false HD.out _).mono ?_; rintro e w1 ⟨rfl, g1⟩; replace gg := gg.tr g1; replace hBs := hBs.keep g1; clear b0 b1 b2 b3 b4 b5 b6; obtain ⟨b0, b1, b2, b3, b4, b5, b6⟩ := hBs.c7)
      | (go_at_call 16; refine (own02_any tab hei slo pan top bot pa ta ba pc tc bc opn (by have := HL.out.1; omega) (by have := HL.out.2.1; omega) (by have := HL.out.2.2; omega) _ (HP.out.grow gg) (HT.out.grow gg) (HB.out.grow gg)).mono ?_; rintro e w2 ⟨a3, c3, a7, c7, a11, c11, rfl, g2, r3, r7, r11, _, _, _⟩))
    obtain ⟨B, hB⟩ : ∃ B, B = w2.heap.size := ⟨_, rfl⟩
    have hBo := Box.new w2 [.int .i64 tab, .slice a3 pan.length c3, .int .i64 hei, .slice a7 top.length c7, .slice a11 bot.length c11, .int .i64 slo, .bool opn] 24 B hB
    have gq := Gr.al w2 (.cells #[.int .i64 tab, .slice a3 pan.length c3, .int .i64 hei, .slice a7 top.length c7, .slice a11 bot.length c11, .int .i64 slo, .bool opn] 24)
    rw [← hB]
    refine wp_abs (fun X => Gr w X ∧ Box X w.heap.size [.int .i64 tab, .slice pa pan.length pc, .int .i64 hei, .slice ta top.length tc, .slice ba bot.length bc, .int .i64 slo, .bool opn] ∧ Box X B [.int .i64 tab, .slice a3 pan.length c3, .int .i64 hei, .slice a7 top.length c7, .slice a11 bot.length c11, .int .i64 slo, .bool opn] ∧ IRow X a3 pan ∧ IRow X a7 top ∧ IRow X a11 bot) ⟨gg.tr (g2.tr gq), hBs.keep (g2.tr gq), hBo, r3.grow gq, r7.grow gq, r11.grow gq⟩ ?_
    clear gg hBs hBo r3 r7 r11 gq hB b0 b1 b2 b3 b4 b5 b6 g1 g2
    rintro X ⟨gX, hBs, hBo, r3, r7, r11⟩
    obtain ⟨b0, b1, b2, b3, b4, b5, b6⟩ := hBs.c7
    obtain ⟨o0, o1, o2, o3, o4, o5, o6⟩ := hBo.c7
    by_cases h0 : E = 0
    case neg =>
      have H0 := Lib.hid h0
      have h0' : (E != 0) = true := by rw [bne_iff_ne]; exact h0
      clear h0
      go_upto_region 5 with (go_at_call 17; refine (check_eq tab hei slo pan top bot a3 a7 a11 c3 c7 c11 opn _ HE.out _ r3 r7 r11).mono ?_; rintro e w3 ⟨rfl, g3⟩; replace gX := gX.tr g3; replace hBs := hBs.keep g3; replace hBo := hBo.keep g3; replace r3 := r3.grow g3; replace r7 := r7.grow g3; replace r11 := r11.grow g3; clear b0 b1 b2 b3 b4 b5 b6 o0 o1 o2 o3 o4 o5 o6; obtain ⟨b0, b1, b2, b3, b4, b5, b6⟩ := hBs.c7; obtain ⟨o0, o1, o2, o3, o4, o5, o6⟩ := hBo.c7; clear g3)
      go_upto_region 6 with (go_at_call 18; refine (size_err tab hei slo pan top bot a3 a7 a11 c3 c7 c11 opn _ HE.out H0.out _ r3 r7 r11).mono ?_; rintro e w4 ⟨rfl, g4⟩; replace gX := gX.tr g4; replace hBs := hBs.keep g4; replace hBo := hBo.keep g4; replace r3 := r3.grow g4; replace r7 := r7.grow g4; replace r11 := r11.grow g4; clear b0 b1 b2 b3 b4 b5 b6 o0 o1 o2 o3 o4 o5 o6; obtain ⟨b0, b1, b2, b3, b4, b5, b6⟩ := hBs.c7; obtain ⟨o0, o1, o2, o3, o4, o5, o6⟩ := hBo.c7; clear g4)
      go_upto_region 7 with (go_at_call 19; refine (scores_err tab hei slo pan top bot a3 a7 a11 c3 c7 c11 opn _ HE.out H0.out _ r3 r7 r11).mono ?_; rintro e w5 ⟨rfl, g5⟩; replace gX := gX.tr g5; replace hBs := hBs.keep g5; replace hBo := hBo.keep g5; replace r3 := r3.grow g5; replace r7 := r7.grow g5; replace r11 := r11.grow g5; clear b0 b1 b2 b3 b4 b5 b6 o0 o1 o2 o3 o4 o5 o6; obtain ⟨b0, b1, b2, b3, b4, b5, b6⟩ := hBs.c7; obtain ⟨o0, o1, o2, o3, o4, o5, o6⟩ := hBo.c7; clear g5)
      have hee : (E != E) = false := bne_self_eq_false E
      go_wp2_with (first
        | (go_at_call 20; refine (same02_eq tab hei slo pan top bot pa ta ba pc tc bc opn a3 a7 a11 c3 c7 c11 _ (HP.out.grow gX) (HT.out.grow gX) (HB.out.grow gX) r3 r7 r11).mono ?_; rintro e w6 ⟨rfl, g6⟩; replace gX := gX.tr g6; replace hBs := hBs.keep g6; replace hBo := hBo.keep g6; replace r3 := r3.grow g6; replace r7 := r7.grow g6; replace r11 := r11.grow g6; clear b0 b1 b2 b3 b4 b5 b6 o0 o1 o2 o3 o4 o5 o6; obtain ⟨b0, b1, b2, b3, b4, b5, b6⟩ := hBs.c7; obtain ⟨o0, o1, o2, o3, o4, o5, o6⟩ := hBo.c7; clear g6)
        | (go_at_call 21; refine (refCheck_eq tab hei slo pan top bot pa ta ba pc tc bc opn _ HE.out _ (HP.out.grow gX) (HT.out.grow gX) (HB.out.grow gX)).mono ?_; rintro e w7 ⟨rfl, g7⟩; replace gX := gX.tr g7; replace hBs := hBs.keep g7; replace hBo := hBo.keep g7; replace r3 := r3.grow g7; replace r7 := r7.grow g7; replace r11 := r11.grow g7; clear b0 b1 b2 b3 b4 b5 b6 o0 o1 o2 o3 o4 o5 o6; obtain ⟨b0, b1, b2, b3, b4, b5, b6⟩ := hBs.c7; obtain ⟨o0, o1, o2, o3, o4, o5, o6⟩ := hBo.c7; clear g7)
        | (go_at_call 15; refine (known_any _).mono ?_; rintro e w8 ⟨rfl, g8⟩))
      go_ret
      exact ⟨rfl, gX.tr g8⟩
    subst h0
    have G := good_of HE.out
    have hl4 := G.l4
    obtain ⟨t0, t1⟩ := in_one G.gtab
    obtain ⟨e0, e1⟩ := in_one G.ghei
    have HSB := Lib.hid (fun k hk => sumTo_bd (s := tab) (l := pan) ⟨t0, t1⟩ G.gpan k hk)
    obtain ⟨m0, m1⟩ := maxL_bd G.gtop (by rw [G.t2]; omega)
    obtain ⟨n0, n1⟩ := maxL_bd G.gbot (by rw [G.b2]; omega)
    have HG := Lib.hid G
    have hln : pan.length = 4 := hl4
    have HLN := Lib.hid hln
    obtain ⟨ac, hac⟩ : ∃ x, acrossL tab pan = x := ⟨_, rfl⟩
    obtain ⟨al, hal⟩ : ∃ x, alongL hei top bot = x := ⟨_, rfl⟩
    have HAC := Lib.hid hac
    have HAL := Lib.hid hal
    have cS := fun (v : World) (h1 : IRow v a3 pan) (h2 : IRow v a7 top) (h3 : IRow v a11 bot) => size_ok tab hei slo pan top bot a3 a7 a11 c3 c7 c11 opn HG.out v h1 h2 h3
    rw [hac, hal] at cS
    have CS := Lib.hid cS
    clear cS hac hal hl4 G hln
    go_upto_region 5 with (go_at_call 17; refine (check_eq tab hei slo pan top bot a3 a7 a11 c3 c7 c11 opn _ HE.out _ r3 r7 r11).mono ?_; rintro e w3 ⟨rfl, g3⟩; replace gX := gX.tr g3; replace hBs := hBs.keep g3; replace hBo := hBo.keep g3; replace r3 := r3.grow g3; replace r7 := r7.grow g3; replace r11 := r11.grow g3; clear b0 b1 b2 b3 b4 b5 b6 o0 o1 o2 o3 o4 o5 o6; obtain ⟨b0, b1, b2, b3, b4, b5, b6⟩ := hBs.c7; obtain ⟨o0, o1, o2, o3, o4, o5, o6⟩ := hBo.c7; clear g3)
    go_upto_region 6 with (go_at_call 18; refine (CS.out _ r3 r7 r11).mono ?_; rintro e w4 ⟨rfl, g4⟩; replace gX := gX.tr g4; replace hBs := hBs.keep g4; replace hBo := hBo.keep g4; replace r3 := r3.grow g4; replace r7 := r7.grow g4; replace r11 := r11.grow g4; clear b0 b1 b2 b3 b4 b5 b6 o0 o1 o2 o3 o4 o5 o6; obtain ⟨b0, b1, b2, b3, b4, b5, b6⟩ := hBs.c7; obtain ⟨o0, o1, o2, o3, o4, o5, o6⟩ := hBo.c7; clear g4)
    go_upto_region 7 with (go_at_call 19; refine (scores_ok tab hei slo pan top bot a3 a7 a11 c3 c7 c11 opn HE.out _ r3 r7 r11).mono ?_; rintro e w5 ⟨p9, c9, p10, c10, rfl, g5, r9, r10⟩; replace gX := gX.tr g5; replace hBs := hBs.keep g5; replace hBo := hBo.keep g5; replace r3 := r3.grow g5; replace r7 := r7.grow g5; replace r11 := r11.grow g5; clear b0 b1 b2 b3 b4 b5 b6 o0 o1 o2 o3 o4 o5 o6; obtain ⟨b0, b1, b2, b3, b4, b5, b6⟩ := hBs.c7; obtain ⟨o0, o1, o2, o3, o4, o5, o6⟩ := hBo.c7; clear g5)
    go_upto_region 11 with (first
      | (go_at_call 20; refine (same02_eq tab hei slo pan top bot pa ta ba pc tc bc opn a3 a7 a11 c3 c7 c11 _ (HP.out.grow gX) (HT.out.grow gX) (HB.out.grow gX) r3 r7 r11).mono ?_; rintro e w6 ⟨rfl, g6⟩; replace gX := gX.tr g6; replace hBs := hBs.keep g6; replace hBo := hBo.keep g6; replace r3 := r3.grow g6; replace r7 := r7.grow g6; replace r11 := r11.grow g6; clear b0 b1 b2 b3 b4 b5 b6 o0 o1 o2 o3 o4 o5 o6; obtain ⟨b0, b1, b2, b3, b4, b5, b6⟩ := hBs.c7; obtain ⟨o0, o1, o2, o3, o4, o5, o6⟩ := hBo.c7; replace r9 := r9.grow g6; replace r10 := r10.grow g6; clear g6)
      | (go_at_call 21; refine (refCheck_eq tab hei slo pan top bot pa ta ba pc tc bc opn _ HE.out _ (HP.out.grow gX) (HT.out.grow gX) (HB.out.grow gX)).mono ?_; rintro e w7 ⟨rfl, g7⟩; replace gX := gX.tr g7; replace hBs := hBs.keep g7; replace hBo := hBo.keep g7; replace r3 := r3.grow g7; replace r7 := r7.grow g7; replace r11 := r11.grow g7; clear b0 b1 b2 b3 b4 b5 b6 o0 o1 o2 o3 o4 o5 o6; obtain ⟨b0, b1, b2, b3, b4, b5, b6⟩ := hBs.c7; obtain ⟨o0, o1, o2, o3, o4, o5, o6⟩ := hBo.c7; replace r9 := r9.grow g7; replace r10 := r10.grow g7; clear g7))
    obtain ⟨i0, hi, hz0, hz1, hz2⟩ := info_parts infoIntS
    clear o0 o1 o2 o3 o4 o5 o6 hBo r3 r7 r11
    go_wp2
    go_loopw [14, 13, 12] (fun x y z wr => Hid (∃ (k : Nat) (vv : Value), k ≤ 4 ∧ x = .int .i64 k ∧ y = vv ∧ z = .int .i64 (sumTo tab pan k) ∧ Gr w7 wr ∧ wr.ownsRow w7.heap.size 3 1 vv (placesTo tab pan k).length ((placesTo tab pan k).flatMap encI))) (fun x y z wr => 4 - (intOf x).toNat)
    case atStart => exact Lib.hid ⟨0, _, by omega, rfl, rfl, rfl, Gr.al _ _, owns_empty w7 _ 1⟩
    case round =>
      obtain ⟨k, vv, hk, rfl, hvv, rfl, gR, hown⟩ := hrel.out
      obtain rfl := hvv.symm
      clear hrel
      obtain ⟨s0, s1⟩ := HSB.out k (by have := HLN.out; omega)
      obtain ⟨sk, hsk⟩ : ∃ sk, sumTo tab pan k = sk := ⟨_, rfl⟩
      rw [hsk] at s0 s1 ⊢
      have HSK := Lib.hid hsk
      clear hsk b0 b1 b2 b3 b4 b5 b6
      by_cases hlt : k < 4
      · obtain ⟨x, hx⟩ := get_of_lt (show k < pan.length by have := HLN.out; omega)
        obtain ⟨pb, po, rfl, _, _⟩ := IRow.get HP.out hx
        obtain ⟨x0, x1⟩ := in_at HG.out.gpan hx
        have HX := Lib.hid hx
        have HSN := Lib.hid (sumTo_succ (s := tab) hx)
        have hlen := places_len tab pan k
        have HNX := Lib.hid (places_succ tab pan k)
        have hk1 : (placesTo tab pan k).length + 1 ≤ maxLen := by unfold maxLen; omega
        have hk2 : ((placesTo tab pan k).length + 1) * 8 ≤ 140737488355328 := by omega
        have v0 : IntKind.i64.wrap (sk + x) = sk + x := IntWalk.i64_in _ (by omega)
        have hlp : (k : Int) < (pan.length : Int) := by have := HLN.out; omega
        have hlq : k < pan.length := by omega
        have hoA := owns_keep hown (Gr.al wr (.cells #[.int .i64 sk] 3))
        clear hx hlen
        go_wp2_with (at_builtin; refine wpList_append_own _ rfl _ _ 22 rfl w7.heap.size 3 i0 (.int .i64 0) 1 8 Try.underlying22 hi hz0 hz1 hz2 rfl (by decide) _ _ _ rfl hoA ⟨wr.heap.size, 0, none⟩ 1 1 ([sk].map (fun n => Value.int .i64 n)) rfl rfl (cell_news _ _ _) (ints_one _) hk1 hk2 (gR.tr (Gr.al _ _)).size ?_; intro v' v6 hown' hgrow' _; have hR : Gr w7 v6 := (gR.tr (Gr.al _ _)).grown' hoA (Nat.le_refl _) hgrow'; obtain ⟨b0, b1, b2, b3, b4, b5, b6⟩ := (hBs.keep hR).c7; obtain ⟨_, _, eq, _, hc⟩ := IRow.get (HP.out.grow (gX.tr hR)) HX.out; cases eq)
        go_roundw
        case rel =>
          refine Lib.hid ⟨k + 1, v', by omega, by go_num, rfl, by rw [HSN.out, HSK.out], hR, ?_⟩
          rw [HNX.out, flat_snoc, List.length_append, HSK.out]
          exact hown'
        case measure => simp [intOf]; omega
      · obtain rfl : k = 4 := by omega

        obtain ⟨ra, rc, hv, hr⟩ := owns_row (enc := encI) (l := placesTo tab pan 4) (fun _ => rfl) (by rw [places_len]; omega) hown
        subst hv
        rw [places_len]
        have hr : IRow wr ra (placesTo tab pan 4) := hr
        obtain rfl : sk = ac := by rw [← HSK.out, ← HAC.out]; unfold acrossL; rw [HLN.out]
        obtain ⟨x, hx⟩ := get_of_lt (l := top) (k := 0) (by rw [HG.out.t2]; omega)
        obtain ⟨y, hy⟩ := get_of_lt (l := top) (k := 1) (by rw [HG.out.t2]; omega)
        obtain ⟨u, hu⟩ := get_of_lt (l := bot) (k := 0) (by rw [HG.out.b2]; omega)
        obtain ⟨v, hv⟩ := get_of_lt (l := bot) (k := 1) (by rw [HG.out.b2]; omega)
        have hm1 := max_two HG.out.t2 hx hy
        have hm2 := max_two HG.out.b2 hu hv
        obtain ⟨x0, x1⟩ := in_at HG.out.gtop hx
        obtain ⟨y0, y1⟩ := in_at HG.out.gtop hy
        obtain ⟨u0, u1⟩ := in_at HG.out.gbot hu
        obtain ⟨v0, v1⟩ := in_at HG.out.gbot hv
        have lt0 : 0 < top.length := by rw [HG.out.t2]; omega
        have lt1 : 1 < top.length := by rw [HG.out.t2]; omega
        have lb0 : 0 < bot.length := by rw [HG.out.b2]; omega
        have lb1 : 1 < bot.length := by rw [HG.out.b2]; omega
        obtain ⟨tb, tof, rfl, _, _⟩ := IRow.get HT.out hx
        obtain ⟨bb, bo, rfl, _, _⟩ := IRow.get HB.out hu
        have gA := gX.tr gR
        obtain ⟨_, _, e1, _, k0⟩ := IRow.get (HT.out.grow gA) hx
        obtain ⟨_, _, e2, _, k1⟩ := IRow.get (HT.out.grow gA) hy
        obtain ⟨_, _, e3, _, k2⟩ := IRow.get (HB.out.grow gA) hu
        obtain ⟨_, _, e4, _, k3⟩ := IRow.get (HB.out.grow gA) hv
        cases e1
        cases e2
        cases e3
        cases e4
        simp only [Nat.add_zero] at k0 k2
        have HM1 := Lib.hid hm1
        have HM2 := Lib.hid hm2
        have HU := Lib.hid hu
        have HV := Lib.hid hv
        clear hx hy hu hv hm1 hm2 hown m0 m1 n0 n1 hi hz0 hz1 hz2
        replace hBs := hBs.keep gR
        replace r9 := r9.grow gR
        replace r10 := r10.grow gR
        obtain ⟨b0, b1, b2, b3, b4, b5, b6⟩ := hBs.c7
        go_upto_region 17 with fail
        go_quiet (fail)
        obtain ⟨mx, hmx⟩ : ∃ m, max x y = m := ⟨_, rfl⟩
        obtain ⟨mb, hmb⟩ : ∃ m, max u v = m := ⟨_, rfl⟩
        rw [hmx]
        have hm1 := HM1.out
        have hm2 := HM2.out
        rw [hmx] at hm1
        rw [hmb] at hm2
        have mx0 : 0 ≤ mx ∧ mx ≤ 3000 := by omega
        have mb0 : 0 ≤ mb ∧ mb ≤ 3000 := by omega
        rw [hm1] at r10
        obtain rfl : mx + hei + mb = al := by rw [← HAL.out]; unfold alongL; rw [hm1, hm2]
        have hpr := mul_bdS (A := 12100) (B := 9000) s0 (by omega : sk ≤ 12100) (by omega : 0 ≤ mx + hei + mb) (by omega)
        have v2 : IntKind.i64.wrap (mx + hei) = mx + hei := IntWalk.i64_in _ (by omega)
        have v3 : IntKind.i64.wrap (mx + hei + max u v) = mx + hei + mb := by rw [hmb]; exact IntWalk.i64_in _ (by omega)
        have v4 : IntKind.i64.wrap (sk * (mx + hei + mb)) = sk * (mx + hei + mb) := IntWalk.i64_in _ (by omega)
        have V3 := Lib.hid v3
        go_upto_region 18 with fail
        refine wp_abs (fun V => Gr wr V) (Gr.drewN (Below.refl _ _) _) ?_
        rintro V gV
        have gB := gA.tr gV
        obtain ⟨_, _, e3, _, j2⟩ := IRow.get (HB.out.grow gB) HU.out
        obtain ⟨_, _, e4, _, j3⟩ := IRow.get (HB.out.grow gB) HV.out
        cases e3
        cases e4
        simp only [Nat.add_zero] at j2
        have hBs := hBs.keep gV
        clear b0 b1 b2 b3 b4 b5 b6 k0 k1 k2 k3 hm1 hm2 hmx hmb HM1 HM2
        obtain ⟨b0, b1, b2, b3, b4, b5, b6⟩ := hBs.c7
        go_upto_region 19 with fail
        go_quiet (fail)
        go_upto_region 20 with fail
        refine wp_abs (fun Y => Gr V Y) (Gr.drewN (Below.refl _ _) _) ?_
        rintro Y gY
        have r9 := r9.grow (gV.tr gY)
        have r10 := r10.grow (gV.tr gY)
        have hr := hr.grow (gV.tr gY)
        have gC := gB.tr gY
        clear b0 b1 b2 b3 b4 b5 b6 hBs j2 j3
        have tk : True := trivial
        go_wp2_with (first
          | (have _t := tk; clear tk _t; go_at_call 22; refine (ints_places tab pan p9 ra c9 rc _ r9 hr).mono ?_; rintro e w10 ⟨rfl, g10⟩)
          | (go_at_call 22; go_loud (refine (ints_two mx (mx + hei) p10 _ c10 _ _ (r10.grow (g10.tr (Gr.al _ _))) (IRow.new' w10 3 [mx, mx + hei] (by simp) _ rfl _ (by rfl))).mono ?_); rintro e w11 ⟨rfl, g11⟩)
          | (go_at_call 15; refine (known_any _).mono ?_; rintro e w12 ⟨rfl, g12⟩))
        go_ret
        exact ⟨rfl, gC.tr (g10.tr ((Gr.al _ _).tr (g11.tr g12)))⟩

end Go.Proofs.Ytafkoococfnakaa

namespace Go.Proofs.Ytafkoococfnakaa
set_option linter.unusedVariables false
set_option linter.unusedSimpArgs false
open Go.RowKit

set_option maxRecDepth 100000 in
theorem refSpan02_any (a b lo hi : Int) (d : Bool) (hd : okSpan lo hi a b = d) (w : World) :
    Calls Try.prog 24 #[.agg #[.int .i64 a, .int .i64 b], .int .i64 lo, .int .i64 hi] w fun e w' => e = .returned (.bool d) ∧ Gr w w' := by
  have gg := Gr.al w (.cells #[.int .i64 a, .int .i64 b] 37)
  have hb := Box.new w [.int .i64 a, .int .i64 b] 37 w.heap.size rfl
  obtain ⟨q0, q1⟩ := hb.c2
  cases c : in1 lo b a with
  | true =>
    have E := Lib.hid (show d = decide (b ≤ hi) by
      rw [← hd]
      simp [in1] at c
      by_cases h : b ≤ hi
      · simp [okSpan, inB, in1, h]
        omega
      · simp [okSpan, inB, in1, h])
    clear hd
    go_enter Try.func24, Try.ntmps24
    go_wp2_with (go_at_call 25; refine (refIn02_any a lo b true c _).mono ?_; rintro e w1 ⟨rfl, g1⟩; replace hb := hb.keep g1; clear q0 q1; obtain ⟨q0, q1⟩ := hb.c2)
    go_ret
    exact ⟨ret_bool E.out.symm, gg.tr g1⟩
  | false =>
    have E := Lib.hid (show d = false by
      rw [← hd]
      cases h : okSpan lo hi a b with
      | false => rfl
      | true =>
        simp [okSpan, inB, in1] at h
        simp [in1] at c
        omega)
    clear hd
    go_enter Try.func24, Try.ntmps24
    go_wp2_with (go_at_call 25; refine (refIn02_any a lo b false c _).mono ?_; rintro e w1 ⟨rfl, g1⟩; replace hb := hb.keep g1; clear q0 q1; obtain ⟨q0, q1⟩ := hb.c2)
    go_ret
    exact ⟨ret_bool E.out.symm, gg.tr g1⟩

set_option maxRecDepth 100000 in
theorem refPanel02_any (tab hei slo : Int) (pan top bot : List Int) (pa ta ba : Option Addr) (pc tc bc : Nat) (opn : Bool) (k : Nat) (x c : Int) (hx : pan[k]? = some x) (x0 : 0 ≤ x) (x1 : x ≤ 10000) (c0 : 0 ≤ c) (c1 : c ≤ 20000) (w : World) (hp : IRow w pa pan) :
    Calls Try.prog 33 #[.agg #[.int .i64 tab, .slice pa pan.length pc, .int .i64 hei, .slice ta top.length tc, .slice ba bot.length bc, .int .i64 slo, .bool opn], .int .i64 k, .int .i64 c] w fun e w' => e = .returned (.int .i64 (1000 * x - c)) ∧ Gr w w' := by
  have gg := Gr.al w (.cells #[.int .i64 tab, .slice pa pan.length pc, .int .i64 hei, .slice ta top.length tc, .slice ba bot.length bc, .int .i64 slo, .bool opn] 24)
  have hB := Box.new w [.int .i64 tab, .slice pa pan.length pc, .int .i64 hei, .slice ta top.length tc, .slice ba bot.length bc, .int .i64 slo, .bool opn] 24 w.heap.size rfl
  obtain ⟨pb, po, rfl, _, hc⟩ := IRow.get (hp.grow gg) hx
  have hm := (hp.grow gg).1
  have hlt : k < pan.length := (List.getElem?_eq_some_iff.1 hx).1
  have hlp : (k : Int) < (pan.length : Int) := by omega
  have v0 : IntKind.i64.wrap (1000 * x) = 1000 * x := IntWalk.i64_in _ (by omega)
  have v1 : IntKind.i64.wrap (1000 * x - c) = 1000 * x - c := IntWalk.i64_in _ (by omega)
  obtain ⟨b0, b1, b2, b3, b4, b5, b6⟩ := hB.c7
  clear hx
  go_enter Try.func33, Try.ntmps33
  go_wp2
  go_ret
  exact ⟨rfl, gg⟩

set_option maxRecDepth 100000 in
set_option maxHeartbeats 4000000 in
theorem play_err (tab hei slo : Int) (pan top bot : List Int) (pa ta ba : Option Addr) (pc tc bc : Nat) (opn : Bool) (tab' hei' slo' : Int) (pan' top' bot' : List Int) (pa' ta' ba' : Option Addr) (pc' tc' bc' : Nat) (opn' : Bool) (cl ch cl' ch' E : Int) (hE : firstE [checkE tab hei slo pan top bot opn, checkE tab' hei' slo' pan' top' bot' opn', measE [⟨cl, ch⟩, ⟨cl', ch'⟩]] = E) (h0 : E ≠ 0) (w : World) (hp : IRow w pa pan) (ht : IRow w ta top) (hb : IRow w ba bot) (hp' : IRow w pa' pan') (ht' : IRow w ta' top') (hb' : IRow w ba' bot') :
    Calls Try.prog 32 #[.agg #[.int .i64 tab, .slice pa pan.length pc, .int .i64 hei, .slice ta top.length tc, .slice ba bot.length bc, .int .i64 slo, .bool opn], .agg #[.int .i64 tab', .slice pa' pan'.length pc', .int .i64 hei', .slice ta' top'.length tc', .slice ba' bot'.length bc', .int .i64 slo', .bool opn'], .agg #[.int .i64 cl, .int .i64 ch], .agg #[.int .i64 cl', .int .i64 ch']] w fun e w' => e = .returned (.tuple #[.slice none 0 0, .int .i64 E]) ∧ Gr w w' := by
  have gg := (((Gr.al w (.cells #[.int .i64 tab, .slice pa pan.length pc, .int .i64 hei, .slice ta top.length tc, .slice ba bot.length bc, .int .i64 slo, .bool opn] 24)).tr (Gr.al _ (.cells #[.int .i64 tab', .slice pa' pan'.length pc', .int .i64 hei', .slice ta' top'.length tc', .slice ba' bot'.length bc', .int .i64 slo', .bool opn'] 24))).tr (Gr.al _ (.cells #[.int .i64 cl, .int .i64 ch] 37))).tr (Gr.al _ (.cells #[.int .i64 cl', .int .i64 ch'] 37))
  have h1 := (Box.new w [.int .i64 tab, .slice pa pan.length pc, .int .i64 hei, .slice ta top.length tc, .slice ba bot.length bc, .int .i64 slo, .bool opn] 24 w.heap.size rfl).keep (((Gr.al _ (.cells #[.int .i64 tab', .slice pa' pan'.length pc', .int .i64 hei', .slice ta' top'.length tc', .slice ba' bot'.length bc', .int .i64 slo', .bool opn'] 24)).tr (Gr.al _ (.cells #[.int .i64 cl, .int .i64 ch] 37))).tr (Gr.al _ (.cells #[.int .i64 cl', .int .i64 ch'] 37)))
  have h2 := (Box.new (w.alloc (.cells #[.int .i64 tab, .slice pa pan.length pc, .int .i64 hei, .slice ta top.length tc, .slice ba bot.length bc, .int .i64 slo, .bool opn] 24)) [.int .i64 tab', .slice pa' pan'.length pc', .int .i64 hei', .slice ta' top'.length tc', .slice ba' bot'.length bc', .int .i64 slo', .bool opn'] 24 (w.heap.size + 1) (by simp)).keep ((Gr.al _ (.cells #[.int .i64 cl, .int .i64 ch] 37)).tr (Gr.al _ (.cells #[.int .i64 cl', .int .i64 ch'] 37)))
  have h3 := (Box.new ((w.alloc (.cells #[.int .i64 tab, .slice pa pan.length pc, .int .i64 hei, .slice ta top.length tc, .slice ba bot.length bc, .int .i64 slo, .bool opn] 24)).alloc (.cells #[.int .i64 tab', .slice pa' pan'.length pc', .int .i64 hei', .slice ta' top'.length tc', .slice ba' bot'.length bc', .int .i64 slo', .bool opn'] 24)) [.int .i64 cl, .int .i64 ch] 37 (w.heap.size + 1 + 1) (by simp)).keep (Gr.al _ (.cells #[.int .i64 cl', .int .i64 ch'] 37))
  have h4 := Box.new (((w.alloc (.cells #[.int .i64 tab, .slice pa pan.length pc, .int .i64 hei, .slice ta top.length tc, .slice ba bot.length bc, .int .i64 slo, .bool opn] 24)).alloc (.cells #[.int .i64 tab', .slice pa' pan'.length pc', .int .i64 hei', .slice ta' top'.length tc', .slice ba' bot'.length bc', .int .i64 slo', .bool opn'] 24)).alloc (.cells #[.int .i64 cl, .int .i64 ch] 37)) [.int .i64 cl', .int .i64 ch'] 37 (w.heap.size + 1 + 1 + 1) (by simp)
  obtain ⟨e1, he1⟩ : ∃ e, checkE tab hei slo pan top bot opn = e := ⟨_, rfl⟩
  obtain ⟨e2, he2⟩ : ∃ e, checkE tab' hei' slo' pan' top' bot' opn' = e := ⟨_, rfl⟩
  obtain ⟨e3, he3⟩ : ∃ e, measE [⟨cl, ch⟩, ⟨cl', ch'⟩] = e := ⟨_, rfl⟩
  have cB := fun v (k1 : IRow v pa pan) (k2 : IRow v ta top) (k3 : IRow v ba bot) => blank_any tab hei slo pan top bot pa ta ba pc tc bc opn v k1 k2 k3
  rw [he1] at cB hE
  have cD := fun v (k1 : IRow v pa' pan') (k2 : IRow v ta' top') (k3 : IRow v ba' bot') => blank_any tab' hei' slo' pan' top' bot' pa' ta' ba' pc' tc' bc' opn' v k1 k2 k3
  rw [he2] at cD hE
  have cM := fun a v (k1 : SRow v a [⟨cl, ch⟩, ⟨cl', ch'⟩]) => measured_two cl ch cl' ch' a 2 v k1
  rw [he3] at cM hE
  have cE := fun a v (k1 : IRow v a [e1, e2, e3]) => first_3 e1 e2 e3 a 3 v k1
  rw [hE] at cE
  have CB := Lib.hid cB
  have CD := Lib.hid cD
  have CM := Lib.hid cM
  have CE := Lib.hid cE
  have HP := Lib.hid hp
  have HT := Lib.hid ht
  have HB := Lib.hid hb
  have HP' := Lib.hid hp'
  have HT' := Lib.hid ht'
  have HB' := Lib.hid hb'
  have h0' : (E != 0) = true := by rw [bne_iff_ne]; exact h0
  clear cB cD cM cE he1 he2 he3 hE hp ht hb hp' ht' hb' h0
  go_enter Try.func32, Try.ntmps32
  go_upto_region 1 with fail
  refine wp_abs (fun U => Gr w U ∧ Box U w.heap.size [.int .i64 tab, .slice pa pan.length pc, .int .i64 hei, .slice ta top.length tc, .slice ba bot.length bc, .int .i64 slo, .bool opn] ∧ Box U (w.heap.size + 1) [.int .i64 tab', .slice pa' pan'.length pc', .int .i64 hei', .slice ta' top'.length tc', .slice ba' bot'.length bc', .int .i64 slo', .bool opn'] ∧ Box U (w.heap.size + 1 + 1) [.int .i64 cl, .int .i64 ch] ∧ Box U (w.heap.size + 1 + 1 + 1) [.int .i64 cl', .int .i64 ch']) ⟨gg, h1, h2, h3, h4⟩ ?_
  clear gg h1 h2 h3 h4
  rintro U ⟨gU, h1, h2, h3, h4⟩
  refine wp_region_facts 10 [(1, 0), (3, 2), (6, 4), (6, 5), (7, 6), (8, 1), (8, 3), (8, 7), (9, 8)] (fun x => ⟨#[.agg #[.int .i64 tab, .slice pa pan.length pc, .int .i64 hei, .slice ta top.length tc, .slice ba bot.length bc, .int .i64 slo, .bool opn], .agg #[.int .i64 tab', .slice pa' pan'.length pc', .int .i64 hei', .slice ta' top'.length tc', .slice ba' bot'.length bc', .int .i64 slo', .bool opn'], .agg #[.int .i64 cl, .int .i64 ch], .agg #[.int .i64 cl', .int .i64 ch'], .pointer (some ⟨w.heap.size, 0, none⟩), .pointer (some ⟨(w.heap.size + 1), 0, none⟩), .pointer (some ⟨(w.heap.size + 1 + 1), 0, none⟩), .pointer (some ⟨(w.heap.size + 1 + 1 + 1), 0, none⟩), .slice none 0 0, .int .i64 0, undef, undef, undef, undef, undef, x 0, x 1, x 2, x 3, x 4, x 5, x 6, x 7, x 8, x 9, undef, undef, undef, undef, undef, undef, undef, undef, undef, undef, undef, undef, undef, undef, undef, undef, undef, undef, undef, undef, undef, undef, undef, undef, undef, undef], []⟩) (fun _ => undef) [fun _ x => x = .agg #[.int .i64 tab, .slice pa pan.length pc, .int .i64 hei, .slice ta top.length tc, .slice ba bot.length bc, .int .i64 slo, .bool opn], fun _ x => x = .int .i64 e1, fun _ x => x = .agg #[.int .i64 tab', .slice pa' pan'.length pc', .int .i64 hei', .slice ta' top'.length tc', .slice ba' bot'.length bc', .int .i64 slo', .bool opn'], fun _ x => x = .int .i64 e2, fun _ x => x = .agg #[.int .i64 cl, .int .i64 ch], fun _ x => x = .agg #[.int .i64 cl', .int .i64 ch'], fun v x => ∃ a, x = .slice a 2 2 ∧ SRow v a [⟨cl, ch⟩, ⟨cl', ch'⟩], fun _ x => x = .int .i64 e3, fun v x => ∃ a, x = .slice a 3 3 ∧ IRow v a [e1, e2, e3], fun _ x => x = .int .i64 E] (by rfl) (by kernel_rfl) (by kernel_rfl) (by kernel_rfl) (stays_cons (Stays.eq _) (stays_cons (Stays.eq _) (stays_cons (Stays.eq _) (stays_cons (Stays.eq _) (stays_cons (Stays.eq _) (stays_cons (Stays.eq _) (stays_cons ((show Stays (fun v x => ∃ a, x = .slice a 2 2 ∧ SRow v a [⟨cl, ch⟩, ⟨cl', ch'⟩]) from fun v v' x g ⟨a, e, r⟩ => ⟨a, e, r.grow g⟩)) (stays_cons (Stays.eq _) (stays_cons ((show Stays (fun v x => ∃ a, x = .slice a 3 3 ∧ IRow v a [e1, e2, e3]) from fun v v' x g ⟨a, e, r⟩ => ⟨a, e, r.grow g⟩)) (stays_cons (Stays.eq _) stays_nil)))))))))) ?step1 ?fin1
  case step1 =>
    rintro i hi x v gv hd K hK
    have hi8 : i = 0 ∨ i = 1 ∨ i = 2 ∨ i = 3 ∨ i = 4 ∨ i = 5 ∨ i = 6 ∨ i = 7 ∨ i = 8 ∨ i = 9 := by omega
    rcases hi8 with rfl | rfl | rfl | rfl | rfl | rfl | rfl | rfl | rfl | rfl
    · show wpOp Try.prog _ _ 0 K (⟨#[_, _, _, _, _, _, _, _, _, _, _, _, _, _, _, x 0, x 1, x 2, x 3, x 4, x 5, x 6, x 7, x 8, x 9, _, _, _, _, _, _, _, _, _, _, _, _, _, _, _, _, _, _, _, _, _, _, _, _, _, _], []⟩ : Act) v
      refine wpOp_step rfl (fun K' hK' => ?_)
      rw [if_pos (by rfl)]
      refine wp_load_mid 24 _ rfl w.heap.size 0 (by rfl) [.int .i64 tab, .slice pa pan.length pc, .int .i64 hei, .slice ta top.length tc, .slice ba bot.length bc, .int .i64 slo, .bool opn] _ (fun j u hu => by rw [Nat.zero_add]; exact (h1.keep gv).2 j u hu) Try.underlying24 rfl (by kernel_rfl) ?_
      exact hK' _ _ (hK _ _ (Below.refl _ _) (at_of rfl (rfl)))
    · obtain ⟨x, rfl⟩ := upd_of (show x 0 = .agg #[.int .i64 tab, .slice pa pan.length pc, .int .i64 hei, .slice ta top.length tc, .slice ba bot.length bc, .int .i64 slo, .bool opn] from hd 0 _ (by simp) rfl)
      show wpOp Try.prog _ _ 1 K (⟨#[_, _, _, _, _, _, _, _, _, _, _, _, _, _, _, .agg #[.int .i64 tab, .slice pa pan.length pc, .int .i64 hei, .slice ta top.length tc, .slice ba bot.length bc, .int .i64 slo, .bool opn], x 1, x 2, x 3, x 4, x 5, x 6, x 7, x 8, x 9, _, _, _, _, _, _, _, _, _, _, _, _, _, _, _, _, _, _, _, _, _, _, _, _, _, _], []⟩ : Act) v
      refine wpOp_step rfl (fun K' hK' => ?_)
      go_simp
      refine (CB.out v (HP.out.grow (gU.tr gv)) (HT.out.grow (gU.tr gv)) (HB.out.grow (gU.tr gv))).mono ?_
      rintro e v' ⟨rfl, hg⟩
      exact hK' _ _ (hK _ _ hg (at_of rfl (rfl)))
    · show wpOp Try.prog _ _ 2 K (⟨#[_, _, _, _, _, _, _, _, _, _, _, _, _, _, _, x 0, x 1, x 2, x 3, x 4, x 5, x 6, x 7, x 8, x 9, _, _, _, _, _, _, _, _, _, _, _, _, _, _, _, _, _, _, _, _, _, _, _, _, _, _], []⟩ : Act) v
      refine wpOp_step rfl (fun K' hK' => ?_)
      rw [if_pos (by rfl)]
      refine wp_load_mid 24 _ rfl (w.heap.size + 1) 0 (by rfl) [.int .i64 tab', .slice pa' pan'.length pc', .int .i64 hei', .slice ta' top'.length tc', .slice ba' bot'.length bc', .int .i64 slo', .bool opn'] _ (fun j u hu => by rw [Nat.zero_add]; exact (h2.keep gv).2 j u hu) Try.underlying24 rfl (by kernel_rfl) ?_
      exact hK' _ _ (hK _ _ (Below.refl _ _) (at_of rfl (rfl)))
    · obtain ⟨x, rfl⟩ := upd_of (show x 2 = .agg #[.int .i64 tab', .slice pa' pan'.length pc', .int .i64 hei', .slice ta' top'.length tc', .slice ba' bot'.length bc', .int .i64 slo', .bool opn'] from hd 2 _ (by simp) rfl)
      show wpOp Try.prog _ _ 3 K (⟨#[_, _, _, _, _, _, _, _, _, _, _, _, _, _, _, x 0, x 1, .agg #[.int .i64 tab', .slice pa' pan'.length pc', .int .i64 hei', .slice ta' top'.length tc', .slice ba' bot'.length bc', .int .i64 slo', .bool opn'], x 3, x 4, x 5, x 6, x 7, x 8, x 9, _, _, _, _, _, _, _, _, _, _, _, _, _, _, _, _, _, _, _, _, _, _, _, _, _, _], []⟩ : Act) v
      refine wpOp_step rfl (fun K' hK' => ?_)
      go_simp
      refine (CD.out v (HP'.out.grow (gU.tr gv)) (HT'.out.grow (gU.tr gv)) (HB'.out.grow (gU.tr gv))).mono ?_
      rintro e v' ⟨rfl, hg⟩
      exact hK' _ _ (hK _ _ hg (at_of rfl (rfl)))
    · show wpOp Try.prog _ _ 4 K (⟨#[_, _, _, _, _, _, _, _, _, _, _, _, _, _, _, x 0, x 1, x 2, x 3, x 4, x 5, x 6, x 7, x 8, x 9, _, _, _, _, _, _, _, _, _, _, _, _, _, _, _, _, _, _, _, _, _, _, _, _, _, _], []⟩ : Act) v
      refine wpOp_step rfl (fun K' hK' => ?_)
      rw [if_pos (by rfl)]
      refine wp_load_mid 37 _ rfl (w.heap.size + 1 + 1) 0 (by rfl) [.int .i64 cl, .int .i64 ch] _ (fun j u hu => by rw [Nat.zero_add]; exact (h3.keep gv).2 j u hu) Try.underlying37 rfl (by kernel_rfl) ?_
      exact hK' _ _ (hK _ _ (Below.refl _ _) (at_of rfl (rfl)))
    · show wpOp Try.prog _ _ 5 K (⟨#[_, _, _, _, _, _, _, _, _, _, _, _, _, _, _, x 0, x 1, x 2, x 3, x 4, x 5, x 6, x 7, x 8, x 9, _, _, _, _, _, _, _, _, _, _, _, _, _, _, _, _, _, _, _, _, _, _, _, _, _, _], []⟩ : Act) v
      refine wpOp_step rfl (fun K' hK' => ?_)
      rw [if_pos (by rfl)]
      refine wp_load_mid 37 _ rfl (w.heap.size + 1 + 1 + 1) 0 (by rfl) [.int .i64 cl', .int .i64 ch'] _ (fun j u hu => by rw [Nat.zero_add]; exact (h4.keep gv).2 j u hu) Try.underlying37 rfl (by kernel_rfl) ?_
      exact hK' _ _ (hK _ _ (Below.refl _ _) (at_of rfl (rfl)))
    · obtain ⟨x, rfl⟩ := upd_of (show x 4 = .agg #[.int .i64 cl, .int .i64 ch] from hd 4 _ (by simp) rfl)
      obtain ⟨x, rfl⟩ := upd_of (show x 5 = .agg #[.int .i64 cl', .int .i64 ch'] from hd 5 _ (by simp) rfl)
      show wpOp Try.prog _ _ 6 K (⟨#[_, _, _, _, _, _, _, _, _, _, _, _, _, _, _, x 0, x 1, x 2, x 3, .agg #[.int .i64 cl, .int .i64 ch], .agg #[.int .i64 cl', .int .i64 ch'], x 6, x 7, x 8, x 9, _, _, _, _, _, _, _, _, _, _, _, _, _, _, _, _, _, _, _, _, _, _, _, _, _, _], []⟩ : Act) v
      refine wpOp_step rfl (fun K' hK' => ?_)
      go_simp
      have hg := Gr.al v (.cells (List.toArray [.int .i64 cl, .int .i64 ch, .int .i64 cl', .int .i64 ch']) 37)
      exact hK' _ _ (hK _ _ hg (at_of rfl (⟨_, rfl, SRow.new2 v 37 cl ch cl' ch' v.heap.size rfl⟩)))
    · obtain ⟨a6, e6, r6⟩ := hd 6 _ (by simp) rfl
      obtain ⟨x, rfl⟩ := upd_of (show x 6 = .slice a6 2 2 from e6)
      show wpOp Try.prog _ _ 7 K (⟨#[_, _, _, _, _, _, _, _, _, _, _, _, _, _, _, x 0, x 1, x 2, x 3, x 4, x 5, .slice a6 2 2, x 7, x 8, x 9, _, _, _, _, _, _, _, _, _, _, _, _, _, _, _, _, _, _, _, _, _, _, _, _, _, _], []⟩ : Act) v
      refine wpOp_step rfl (fun K' hK' => ?_)
      go_simp
      refine (CM.out a6 v r6).mono ?_
      rintro e v' ⟨rfl, hg⟩
      exact hK' _ _ (hK _ _ hg (at_of rfl (rfl)))
    · obtain ⟨x, rfl⟩ := upd_of (show x 1 = .int .i64 e1 from hd 1 _ (by simp) rfl)
      obtain ⟨x, rfl⟩ := upd_of (show x 3 = .int .i64 e2 from hd 3 _ (by simp) rfl)
      obtain ⟨x, rfl⟩ := upd_of (show x 7 = .int .i64 e3 from hd 7 _ (by simp) rfl)
      show wpOp Try.prog _ _ 8 K (⟨#[_, _, _, _, _, _, _, _, _, _, _, _, _, _, _, x 0, .int .i64 e1, x 2, .int .i64 e2, x 4, x 5, x 6, .int .i64 e3, x 8, x 9, _, _, _, _, _, _, _, _, _, _, _, _, _, _, _, _, _, _, _, _, _, _, _, _, _, _], []⟩ : Act) v
      refine wpOp_step rfl (fun K' hK' => ?_)
      go_simp
      have hg := Gr.al v (.cells (List.toArray [.int .i64 e1, .int .i64 e2, .int .i64 e3]) 28)
      exact hK' _ _ (hK _ _ hg (at_of rfl (⟨_, rfl, IRow.new' v 28 [e1, e2, e3] (by simp) v.heap.size rfl _ (by rfl)⟩)))
    · obtain ⟨a8, e8, r8⟩ := hd 8 _ (by simp) rfl
      obtain ⟨x, rfl⟩ := upd_of (show x 8 = .slice a8 3 3 from e8)
      show wpOp Try.prog _ _ 9 K (⟨#[_, _, _, _, _, _, _, _, _, _, _, _, _, _, _, x 0, x 1, x 2, x 3, x 4, x 5, x 6, x 7, .slice a8 3 3, x 9, _, _, _, _, _, _, _, _, _, _, _, _, _, _, _, _, _, _, _, _, _, _, _, _, _, _], []⟩ : Act) v
      refine wpOp_step rfl (fun K' hK' => ?_)
      go_simp
      refine (CE.out a8 v r8).mono ?_
      rintro e v' ⟨rfl, hg⟩
      exact hK' _ _ (hK _ _ hg (at_of rfl (rfl)))
  case fin1 =>
    rintro x v gv hd
    obtain ⟨x, rfl⟩ := upd_of (show x 9 = .int .i64 E from hd 9 _ (by omega) rfl)
    clear hd
    show wpList Try.prog _ _ (List.drop 10 _) (⟨#[_, _, _, _, _, _, _, _, _, _, _, _, _, _, _, x 0, x 1, x 2, x 3, x 4, x 5, x 6, x 7, x 8, .int .i64 E, _, _, _, _, _, _, _, _, _, _, _, _, _, _, _, _, _, _, _, _, _, _, _, _, _, _], []⟩ : Act) v
    simp only [List.drop_succ_cons, List.drop_zero]
    go_wp2
    refine bodyPost_ret (v := .tuple #[.slice none 0 0, .int .i64 E]) (by simp [results, Try.results32, go_sem]) rfl ⟨rfl, gU.tr gv⟩

end Go.Proofs.Ytafkoococfnakaa

namespace Go.Proofs.Ytafkoococfnakaa
set_option linter.unusedVariables false
set_option linter.unusedSimpArgs false
open Go.RowKit

theorem wpList_append_run {P : Program} {ops : Array Oper} {rest : List Oper} {o : Oper} {a : Act} {Q : Exit → Act → World → Prop} {w : World} (s x : Operand) (t : TypeId) (hg : o.guard = none)
    (ho : o.op = .call { callee := .builtin .append, args := #[s, x], argTypes := #[t, t] }) (v1 v2 u : Value) (w' : World) (hs : a.eval s = v1) (hx : a.eval x = v2)
    (hrun : (Builtin.append_ #[t, t] o.type #[v1, v2]).run P w = .ok u w') (h : wpList P ops Q rest (a.put o.dst u) w') : wpList P ops Q (o :: rest) a w := by
  refine wpList_plain hg fun K hK => ?_
  unfold Oper.wp
  simp [execOp, ho, resolve, invoke, builtin, hs, hx, hrun, Result.andThen]
  exact hK _ _ h

set_option maxRecDepth 100000 in
theorem ints02c_any (l : List Int) (hl : l.length ≤ 1000) (a : Option Addr) (c : Nat) (w : World) (hr : IRow w a l) :
    Calls Try.prog 34 #[.slice a l.length c] w fun e w' => ∃ a' c', e = .returned (.slice a' l.length c') ∧ Gr w w' ∧ IRow w' a' l := by
  have g0 := Gr.al w (.cells #[] 3)
  obtain ⟨u, v', hrun, hg, a', c', rfl, hr', _⟩ := app_new (w.alloc (.cells #[] 3)) w.heap.size a l c (hr.grow g0) hl
  have HR := Lib.hid hr'
  have HRUN := Lib.hid hrun
  clear hr' hrun
  go_enter Try.func34, Try.ntmps34
  go_wp2_with (at_builtin; refine wpList_append_run _ _ 22 rfl rfl _ _ _ _ rfl rfl HRUN.out ?_)
  go_ret
  exact ⟨_, _, rfl, g0.tr hg, HR.out⟩

def heightL (hei : Int) (opn : Bool) (c : Int) : Int := if opn = true then 1000 * hei - c else 1000 * hei - c - c

set_option maxRecDepth 100000 in
theorem refHeight02_any (tab hei slo : Int) (pan top bot : List Int) (pa ta ba : Option Addr) (pc tc bc : Nat) (opn : Bool) (c : Int) (x0 : 0 ≤ hei) (x1 : hei ≤ 10000) (c0 : 0 ≤ c) (c1 : c ≤ 20000) (w : World) :
    Calls Try.prog 71 #[.agg #[.int .i64 tab, .slice pa pan.length pc, .int .i64 hei, .slice ta top.length tc, .slice ba bot.length bc, .int .i64 slo, .bool opn], .int .i64 c] w fun e w' => e = .returned (.int .i64 (heightL hei opn c)) ∧ Gr w w' := by
  have gg := Gr.al w (.cells #[.int .i64 tab, .slice pa pan.length pc, .int .i64 hei, .slice ta top.length tc, .slice ba bot.length bc, .int .i64 slo, .bool opn] 24)
  have hB := Box.new w [.int .i64 tab, .slice pa pan.length pc, .int .i64 hei, .slice ta top.length tc, .slice ba bot.length bc, .int .i64 slo, .bool opn] 24 w.heap.size rfl
  have v0 : IntKind.i64.wrap (1000 * hei) = 1000 * hei := IntWalk.i64_in _ (by omega)
  have v1 : IntKind.i64.wrap (1000 * hei - c) = 1000 * hei - c := IntWalk.i64_in _ (by omega)
  have v2 : IntKind.i64.wrap (1000 * hei - c - c) = 1000 * hei - c - c := IntWalk.i64_in _ (by omega)
  obtain ⟨b0, b1, b2, b3, b4, b5, b6⟩ := hB.c7
  cases opn with
  | true =>
    go_enter Try.func71, Try.ntmps71
    go_wp2
    go_ret
    exact ⟨rfl, gg⟩
  | false =>
    go_enter Try.func71, Try.ntmps71
    go_wp2
    go_ret
    exact ⟨rfl, gg⟩

def holdsE (e cl ch : Int) (thing : List Int) : Int := firstE [e, measE [⟨cl, ch⟩], if thing.length = 3 then 0 else 4, if inB 0 3000 thing = true then 0 else 2]

set_option maxRecDepth 100000 in
set_option maxHeartbeats 4000000 in
theorem holds_err (tab hei slo : Int) (pan top bot : List Int) (pa ta ba : Option Addr) (pc tc bc : Nat) (opn : Bool) (cl ch e1 E : Int) (thing : List Int) (he : checkE tab hei slo pan top bot opn = e1) (hE : holdsE e1 cl ch thing = E) (h0 : E ≠ 0) (td : Option Addr) (tcap : Nat) (w : World) (hp : IRow w pa pan) (ht : IRow w ta top) (hb : IRow w ba bot) (htd : IRow w td thing) :
    Calls Try.prog 35 #[.agg #[.int .i64 tab, .slice pa pan.length pc, .int .i64 hei, .slice ta top.length tc, .slice ba bot.length bc, .int .i64 slo, .bool opn], .agg #[.int .i64 cl, .int .i64 ch], .slice td thing.length tcap] w fun e w' => e = .returned (.tuple #[.bool false, .bool false, .int .i64 E]) ∧ Gr w w' := by
  have gg := (Gr.al w (.cells #[.int .i64 tab, .slice pa pan.length pc, .int .i64 hei, .slice ta top.length tc, .slice ba bot.length bc, .int .i64 slo, .bool opn] 24)).tr (Gr.al _ (.cells #[.int .i64 cl, .int .i64 ch] 37))
  have h1 := (Box.new w [.int .i64 tab, .slice pa pan.length pc, .int .i64 hei, .slice ta top.length tc, .slice ba bot.length bc, .int .i64 slo, .bool opn] 24 w.heap.size rfl).keep (Gr.al _ (.cells #[.int .i64 cl, .int .i64 ch] 37))
  have h2 := Box.new (w.alloc (.cells #[.int .i64 tab, .slice pa pan.length pc, .int .i64 hei, .slice ta top.length tc, .slice ba bot.length bc, .int .i64 slo, .bool opn] 24)) [.int .i64 cl, .int .i64 ch] 37 (w.heap.size + 1) (by simp)
  obtain ⟨e2, he2⟩ : ∃ e, measE [⟨cl, ch⟩] = e := ⟨_, rfl⟩
  obtain ⟨e3, he3⟩ : ∃ e, firstE [e1, e2] = e := ⟨_, rfl⟩
  have cB := fun v (k1 : IRow v pa pan) (k2 : IRow v ta top) (k3 : IRow v ba bot) => blank_any tab hei slo pan top bot pa ta ba pc tc bc opn v k1 k2 k3
  rw [he] at cB
  have cM := fun a v (k1 : SRow v a [⟨cl, ch⟩]) => measured_one cl ch a 1 v k1
  rw [he2] at cM
  have cE := fun a v (k1 : IRow v a [e1, e2]) => first_2 e1 e2 a 2 v k1
  rw [he3] at cE
  have CB := Lib.hid cB
  have CM := Lib.hid cM
  have CE := Lib.hid cE
  have HP := Lib.hid hp
  have HT := Lib.hid ht
  have HB := Lib.hid hb
  have HTD := Lib.hid htd
  have hE' : firstE [e3, if thing.length = 3 then 0 else 4, if inB 0 3000 thing = true then 0 else 2] = E := by
    rw [← hE, ← he3]
    unfold holdsE
    rw [he2]
    by_cases q1 : e1 = 0 <;> by_cases q2 : e2 = 0 <;> simp [firstE, q1, q2]
  have HE := Lib.hid hE'
  have H0 := Lib.hid h0
  clear cB cM cE he he2 he3 hE hE' hp ht hb htd h0
  go_enter Try.func35, Try.ntmps35
  go_upto_region 1 with fail
  refine wp_abs (fun U => Gr w U ∧ Box U w.heap.size [.int .i64 tab, .slice pa pan.length pc, .int .i64 hei, .slice ta top.length tc, .slice ba bot.length bc, .int .i64 slo, .bool opn] ∧ Box U (w.heap.size + 1) [.int .i64 cl, .int .i64 ch]) ⟨gg, h1, h2⟩ ?_
  clear gg h1 h2
  rintro U ⟨gU, h1, h2⟩
  refine wp_region_facts 7 [(1, 0), (3, 2), (4, 3), (5, 1), (5, 4), (6, 5)] (fun x => ⟨#[.agg #[.int .i64 tab, .slice pa pan.length pc, .int .i64 hei, .slice ta top.length tc, .slice ba bot.length bc, .int .i64 slo, .bool opn], .agg #[.int .i64 cl, .int .i64 ch], .slice td thing.length tcap, .pointer (some ⟨w.heap.size, 0, none⟩), .pointer (some ⟨(w.heap.size + 1), 0, none⟩), undef, .bool false, .bool false, .int .i64 0, undef, undef, x 0, x 1, x 2, x 3, x 4, x 5, x 6, undef, undef, undef, undef, undef, undef, undef, undef, undef, undef, undef, undef, undef, undef, undef, undef, undef, undef, undef, undef, undef], []⟩) (fun _ => undef) [fun _ x => x = .agg #[.int .i64 tab, .slice pa pan.length pc, .int .i64 hei, .slice ta top.length tc, .slice ba bot.length bc, .int .i64 slo, .bool opn], fun _ x => x = .int .i64 e1, fun _ x => x = .agg #[.int .i64 cl, .int .i64 ch], fun v x => ∃ a, x = .slice a 1 1 ∧ SRow v a [⟨cl, ch⟩], fun _ x => x = .int .i64 e2, fun v x => ∃ a, x = .slice a 2 2 ∧ IRow v a [e1, e2], fun _ x => x = .int .i64 e3] (by rfl) (by kernel_rfl) (by kernel_rfl) (by kernel_rfl) (stays_cons (Stays.eq _) (stays_cons (Stays.eq _) (stays_cons (Stays.eq _) (stays_cons ((show Stays (fun v x => ∃ a, x = .slice a 1 1 ∧ SRow v a [⟨cl, ch⟩]) from fun v v' x g ⟨a, e, r⟩ => ⟨a, e, r.grow g⟩)) (stays_cons (Stays.eq _) (stays_cons ((show Stays (fun v x => ∃ a, x = .slice a 2 2 ∧ IRow v a [e1, e2]) from fun v v' x g ⟨a, e, r⟩ => ⟨a, e, r.grow g⟩)) (stays_cons (Stays.eq _) stays_nil))))))) ?step1 ?fin1
  case step1 =>
    rintro i hi x v gv hd K hK
    have hi8 : i = 0 ∨ i = 1 ∨ i = 2 ∨ i = 3 ∨ i = 4 ∨ i = 5 ∨ i = 6 := by omega
    rcases hi8 with rfl | rfl | rfl | rfl | rfl | rfl | rfl
    · show wpOp Try.prog _ _ 0 K (⟨#[.agg #[.int .i64 tab, .slice pa pan.length pc, .int .i64 hei, .slice ta top.length tc, .slice ba bot.length bc, .int .i64 slo, .bool opn], .agg #[.int .i64 cl, .int .i64 ch], .slice td thing.length tcap, .pointer (some ⟨w.heap.size, 0, none⟩), .pointer (some ⟨(w.heap.size + 1), 0, none⟩), undef, .bool false, .bool false, .int .i64 0, undef, undef, x 0, x 1, x 2, x 3, x 4, x 5, x 6, undef, undef, undef, undef, undef, undef, undef, undef, undef, undef, undef, undef, undef, undef, undef, undef, undef, undef, undef, undef, undef], []⟩ : Act) v
      refine wpOp_step rfl (fun K' hK' => ?_)
      rw [if_pos (by rfl)]
      refine wp_load_mid 24 _ rfl w.heap.size 0 (by rfl) [.int .i64 tab, .slice pa pan.length pc, .int .i64 hei, .slice ta top.length tc, .slice ba bot.length bc, .int .i64 slo, .bool opn] _ (fun j u hu => by rw [Nat.zero_add]; exact (h1.keep gv).2 j u hu) Try.underlying24 rfl (by kernel_rfl) ?_
      exact hK' _ _ (hK _ _ (Below.refl _ _) (at_of rfl (rfl)))
    · obtain ⟨x, rfl⟩ := upd_of (show x 0 = .agg #[.int .i64 tab, .slice pa pan.length pc, .int .i64 hei, .slice ta top.length tc, .slice ba bot.length bc, .int .i64 slo, .bool opn] from hd 0 _ (by simp) rfl)
      show wpOp Try.prog _ _ 1 K (⟨#[.agg #[.int .i64 tab, .slice pa pan.length pc, .int .i64 hei, .slice ta top.length tc, .slice ba bot.length bc, .int .i64 slo, .bool opn], .agg #[.int .i64 cl, .int .i64 ch], .slice td thing.length tcap, .pointer (some ⟨w.heap.size, 0, none⟩), .pointer (some ⟨(w.heap.size + 1), 0, none⟩), undef, .bool false, .bool false, .int .i64 0, undef, undef, .agg #[.int .i64 tab, .slice pa pan.length pc, .int .i64 hei, .slice ta top.length tc, .slice ba bot.length bc, .int .i64 slo, .bool opn], x 1, x 2, x 3, x 4, x 5, x 6, undef, undef, undef, undef, undef, undef, undef, undef, undef, undef, undef, undef, undef, undef, undef, undef, undef, undef, undef, undef, undef], []⟩ : Act) v
      refine wpOp_step rfl (fun K' hK' => ?_)
      go_simp
      refine (CB.out v (HP.out.grow (gU.tr gv)) (HT.out.grow (gU.tr gv)) (HB.out.grow (gU.tr gv))).mono ?_
      rintro e v' ⟨rfl, hg⟩
      exact hK' _ _ (hK _ _ hg (at_of rfl (rfl)))
    · show wpOp Try.prog _ _ 2 K (⟨#[.agg #[.int .i64 tab, .slice pa pan.length pc, .int .i64 hei, .slice ta top.length tc, .slice ba bot.length bc, .int .i64 slo, .bool opn], .agg #[.int .i64 cl, .int .i64 ch], .slice td thing.length tcap, .pointer (some ⟨w.heap.size, 0, none⟩), .pointer (some ⟨(w.heap.size + 1), 0, none⟩), undef, .bool false, .bool false, .int .i64 0, undef, undef, x 0, x 1, x 2, x 3, x 4, x 5, x 6, undef, undef, undef, undef, undef, undef, undef, undef, undef, undef, undef, undef, undef, undef, undef, undef, undef, undef, undef, undef, undef], []⟩ : Act) v
      refine wpOp_step rfl (fun K' hK' => ?_)
      rw [if_pos (by rfl)]
      refine wp_load_mid 37 _ rfl (w.heap.size + 1) 0 (by rfl) [.int .i64 cl, .int .i64 ch] _ (fun j u hu => by rw [Nat.zero_add]; exact (h2.keep gv).2 j u hu) Try.underlying37 rfl (by kernel_rfl) ?_
      exact hK' _ _ (hK _ _ (Below.refl _ _) (at_of rfl (rfl)))
    · obtain ⟨x, rfl⟩ := upd_of (show x 2 = .agg #[.int .i64 cl, .int .i64 ch] from hd 2 _ (by simp) rfl)
      show wpOp Try.prog _ _ 3 K (⟨#[.agg #[.int .i64 tab, .slice pa pan.length pc, .int .i64 hei, .slice ta top.length tc, .slice ba bot.length bc, .int .i64 slo, .bool opn], .agg #[.int .i64 cl, .int .i64 ch], .slice td thing.length tcap, .pointer (some ⟨w.heap.size, 0, none⟩), .pointer (some ⟨(w.heap.size + 1), 0, none⟩), undef, .bool false, .bool false, .int .i64 0, undef, undef, x 0, x 1, .agg #[.int .i64 cl, .int .i64 ch], x 3, x 4, x 5, x 6, undef, undef, undef, undef, undef, undef, undef, undef, undef, undef, undef, undef, undef, undef, undef, undef, undef, undef, undef, undef, undef], []⟩ : Act) v
      refine wpOp_step rfl (fun K' hK' => ?_)
      go_simp
      have hg := Gr.al v (.cells (List.toArray [.int .i64 cl, .int .i64 ch]) 37)
      exact hK' _ _ (hK _ _ hg (at_of rfl (⟨_, rfl, SRow.new1 v 37 cl ch v.heap.size rfl⟩)))
    · obtain ⟨a3, e3, r3⟩ := hd 3 _ (by simp) rfl
      obtain ⟨x, rfl⟩ := upd_of (show x 3 = .slice a3 1 1 from e3)
      show wpOp Try.prog _ _ 4 K (⟨#[.agg #[.int .i64 tab, .slice pa pan.length pc, .int .i64 hei, .slice ta top.length tc, .slice ba bot.length bc, .int .i64 slo, .bool opn], .agg #[.int .i64 cl, .int .i64 ch], .slice td thing.length tcap, .pointer (some ⟨w.heap.size, 0, none⟩), .pointer (some ⟨(w.heap.size + 1), 0, none⟩), undef, .bool false, .bool false, .int .i64 0, undef, undef, x 0, x 1, x 2, .slice a3 1 1, x 4, x 5, x 6, undef, undef, undef, undef, undef, undef, undef, undef, undef, undef, undef, undef, undef, undef, undef, undef, undef, undef, undef, undef, undef], []⟩ : Act) v
      refine wpOp_step rfl (fun K' hK' => ?_)
      go_simp
      refine (CM.out a3 v r3).mono ?_
      rintro e v' ⟨rfl, hg⟩
      exact hK' _ _ (hK _ _ hg (at_of rfl (rfl)))
    · obtain ⟨x, rfl⟩ := upd_of (show x 1 = .int .i64 e1 from hd 1 _ (by simp) rfl)
      obtain ⟨x, rfl⟩ := upd_of (show x 4 = .int .i64 e2 from hd 4 _ (by simp) rfl)
      show wpOp Try.prog _ _ 5 K (⟨#[.agg #[.int .i64 tab, .slice pa pan.length pc, .int .i64 hei, .slice ta top.length tc, .slice ba bot.length bc, .int .i64 slo, .bool opn], .agg #[.int .i64 cl, .int .i64 ch], .slice td thing.length tcap, .pointer (some ⟨w.heap.size, 0, none⟩), .pointer (some ⟨(w.heap.size + 1), 0, none⟩), undef, .bool false, .bool false, .int .i64 0, undef, undef, x 0, .int .i64 e1, x 2, x 3, .int .i64 e2, x 5, x 6, undef, undef, undef, undef, undef, undef, undef, undef, undef, undef, undef, undef, undef, undef, undef, undef, undef, undef, undef, undef, undef], []⟩ : Act) v
      refine wpOp_step rfl (fun K' hK' => ?_)
      go_simp
      have hg := Gr.al v (.cells (List.toArray [.int .i64 e1, .int .i64 e2]) 28)
      exact hK' _ _ (hK _ _ hg (at_of rfl (⟨_, rfl, IRow.new' v 28 [e1, e2] (by simp) v.heap.size rfl _ (by rfl)⟩)))
    · obtain ⟨a5, e5, r5⟩ := hd 5 _ (by simp) rfl
      obtain ⟨x, rfl⟩ := upd_of (show x 5 = .slice a5 2 2 from e5)
      show wpOp Try.prog _ _ 6 K (⟨#[.agg #[.int .i64 tab, .slice pa pan.length pc, .int .i64 hei, .slice ta top.length tc, .slice ba bot.length bc, .int .i64 slo, .bool opn], .agg #[.int .i64 cl, .int .i64 ch], .slice td thing.length tcap, .pointer (some ⟨w.heap.size, 0, none⟩), .pointer (some ⟨(w.heap.size + 1), 0, none⟩), undef, .bool false, .bool false, .int .i64 0, undef, undef, x 0, x 1, x 2, x 3, x 4, .slice a5 2 2, x 6, undef, undef, undef, undef, undef, undef, undef, undef, undef, undef, undef, undef, undef, undef, undef, undef, undef, undef, undef, undef, undef], []⟩ : Act) v
      refine wpOp_step rfl (fun K' hK' => ?_)
      go_simp
      refine (CE.out a5 v r5).mono ?_
      rintro e v' ⟨rfl, hg⟩
      exact hK' _ _ (hK _ _ hg (at_of rfl (rfl)))
  case fin1 =>
    rintro x v gv hd
    obtain ⟨x, rfl⟩ := upd_of (show x 6 = .int .i64 e3 from hd 6 _ (by omega) rfl)
    clear hd
    show wpList Try.prog _ _ (List.drop 7 _) (⟨#[.agg #[.int .i64 tab, .slice pa pan.length pc, .int .i64 hei, .slice ta top.length tc, .slice ba bot.length bc, .int .i64 slo, .bool opn], .agg #[.int .i64 cl, .int .i64 ch], .slice td thing.length tcap, .pointer (some ⟨w.heap.size, 0, none⟩), .pointer (some ⟨(w.heap.size + 1), 0, none⟩), undef, .bool false, .bool false, .int .i64 0, undef, undef, x 0, x 1, x 2, x 3, x 4, x 5, .int .i64 e3, undef, undef, undef, undef, undef, undef, undef, undef, undef, undef, undef, undef, undef, undef, undef, undef, undef, undef, undef, undef, undef], []⟩ : Act) v
    simp only [List.drop_succ_cons, List.drop_zero]
    by_cases h3 : e3 = 0
    case neg =>
      have q3 : (e3 != 0) = true := by rw [bne_iff_ne]; exact h3
      have HEQ := Lib.hid (show e3 = E by rw [← HE.out]; simp [firstE, h3])
      clear h3
      go_wp2
      refine bodyPost_ret (v := .tuple #[.bool false, .bool false, .int .i64 e3]) (by simp [results, Try.results35, go_sem]) rfl ?_
      exact ⟨by rw [HEQ.out], gU.tr gv⟩
    subst h3
    by_cases hl : thing.length = 3
    case neg =>
      have ql : ((thing.length : Int) != 3) = true := by rw [bne_iff_ne]; omega
      have HEQ := Lib.hid (show (4 : Int) = E by rw [← HE.out]; simp [firstE, hl])
      clear hl
      go_wp2
      refine bodyPost_ret (v := .tuple #[.bool false, .bool false, .int .i64 4]) (by simp [results, Try.results35, go_sem]) rfl ?_
      exact ⟨by rw [HEQ.out], gU.tr gv⟩
    have ql : ((thing.length : Int) != 3) = false := by rw [hl]; rfl
    cases hd : inB 0 3000 thing with
    | true => exact absurd (by rw [← HE.out]; simp [firstE, hl, hd]) H0.out
    | false =>
      have HEQ := Lib.hid (show (2 : Int) = E by rw [← HE.out]; simp [firstE, hl, hd])
      have HD := Lib.hid hd
      clear hl hd
      go_wp2_with (go_at_call 63; refine (within_any 0 3000 thing false HD.out _ _ _ (HTD.out.grow (gU.tr gv))).mono ?_; rintro e w2 ⟨rfl, g2⟩)
      refine bodyPost_ret (v := .tuple #[.bool false, .bool false, .int .i64 2]) (by simp [results, Try.results35, go_sem]) rfl ?_
      exact ⟨by rw [HEQ.out], gU.tr (gv.tr g2)⟩

end Go.Proofs.Ytafkoococfnakaa

namespace Go.Proofs.Ytafkoococfnakaa
set_option linter.unusedVariables false
set_option linter.unusedSimpArgs false
open Go.RowKit

theorem Own.part {w : World} {b : Nat} {vs us : List Value} (h : Own w b (vs ++ us)) : Own w b vs := by
  refine ⟨⟨h.1.1, fun i v hv => h.1.2 i v ?_⟩, h.2⟩
  have hi : i < vs.length := (List.getElem?_eq_some_iff.1 hv).1
  rw [List.getElem?_append_left hi]
  exact hv

theorem Own.row {w : World} {b : Nat} {l : List Int} (h : Own w b (l.map (fun n => Value.int .i64 n))) (hl : l.length ≤ 9223372036854775807) : IRow w (some ⟨b, 0, none⟩) l := by
  refine ⟨hl, fun j x hx => ⟨b, 0, rfl, h.1.1, fun i u hu => ?_⟩⟩
  cases i with
  | succ i => simp [encI] at hu
  | zero =>
    simp only [encI, List.getElem?_cons_zero, Option.some.injEq] at hu
    subst hu
    have := h.1.2 j (.int .i64 x) (by rw [List.getElem?_map, hx]; rfl)
    simpa using this

theorem app_own (v : World) (b : Nat) (a : Option Addr) (l : List Int) (c : Nat) (hr : IRow v a l) (h0 : 0 < l.length) (hl : l.length ≤ 1000) :
    ∃ v' c', (Builtin.append_ #[22, 22] 22 #[.slice (some ⟨b, 0, none⟩) 0 0, .slice a l.length c]).run Try.prog v = .ok (.slice (some ⟨v.heap.size, 0, none⟩) l.length c') v' ∧ Gr v v' ∧ Own v' v.heap.size (l.map (fun n => Value.int .i64 n)) := by
  obtain ⟨i, hi, hz, hs, hb⟩ := info_parts infoIntS
  have ht := Try.underlying22
  obtain ⟨B, O, rfl, _⟩ := hr.addr h0
  have hn : (l.map fun n => Value.int .i64 n).length = l.length * i.size := by rw [hs]; simp
  have hcell : ∀ j u, (l.map fun n => Value.int .i64 n)[j]? = some u → v.cell? ((⟨B, O, none⟩ : Addr).add j) = some u := by
    intro j u hu
    rw [List.getElem?_map] at hu
    cases hx : l[j]? with
    | none => rw [hx] at hu; cases hu
    | some x =>
      rw [hx] at hu
      cases hu
      obtain ⟨_, _, e, _, hc⟩ := IRow.get hr hx
      cases e
      rw [Addr.add_lit]
      exact hc
  have h := run_append_grow (P := Try.prog) v 22 22 3 i _ ht hi hz ⟨b, 0, none⟩ 0 0 [] (by simp) (by simp) ⟨B, O, none⟩ l.length c (l.map fun n => Value.int .i64 n) hn hcell (by omega) (by omega) (growslice_fits (by omega) (by rw [hb]; omega))
  refine ⟨_, grownCap v (0 + l.length) 0 3, by rw [Nat.zero_add] at h ⊢; exact h, (Gr.dr v).tr (Gr.al _ _), ?_⟩
  have ho := Own.new v.drew ((l.map fun n => Value.int .i64 n) ++ (Builtin.zeroCells (Value.int .i64 0).cells (grownCap v (0 + l.length) 0 3 - (0 + l.length))).toList) 3 v.heap.size (by simp)
  have ho2 := Own.part ho
  have e : ∀ (A : List Value) (B : Array Value), (A ++ B.toList).toArray = A.toArray ++ B := fun A B => by apply Array.ext'; simp
  rw [e] at ho2
  simpa using ho2

def OwnPost (tab hei slo : Int) (pan top bot : List Int) (opn : Bool) (w : World) (e : Ending) (w' : World) : Prop :=
  ∃ r3 c3 r7 c7 r11 c11, e = .returned (.agg #[.int .i64 tab, .slice (some ⟨r3, 0, none⟩) pan.length c3, .int .i64 hei, .slice (some ⟨r7, 0, none⟩) top.length c7, .slice (some ⟨r11, 0, none⟩) bot.length c11, .int .i64 slo, .bool opn]) ∧ Gr w w' ∧ Own w' r3 (pan.map (fun n => Value.int .i64 n)) ∧ Own w' r7 (top.map (fun n => Value.int .i64 n)) ∧ Own w' r11 (bot.map (fun n => Value.int .i64 n)) ∧ (w.heap.size ≤ r3 ∧ w.heap.size ≤ r7 ∧ w.heap.size ≤ r11) ∧ r3 ≠ r7 ∧ r3 ≠ r11 ∧ r7 ≠ r11

set_option maxRecDepth 100000 in
set_option maxHeartbeats 4000000 in
theorem copy02_own (tab hei slo : Int) (pan top bot : List Int) (pa ta ba : Option Addr) (pc tc bc : Nat) (opn : Bool) (l1 : 0 < pan.length ∧ pan.length ≤ 1000) (l2 : 0 < top.length ∧ top.length ≤ 1000) (l3 : 0 < bot.length ∧ bot.length ≤ 1000) (w : World) (hp : IRow w pa pan) (ht : IRow w ta top) (hb : IRow w ba bot) :
    Calls Try.prog 62 #[.agg #[.int .i64 tab, .slice pa pan.length pc, .int .i64 hei, .slice ta top.length tc, .slice ba bot.length bc, .int .i64 slo, .bool opn]] w (OwnPost tab hei slo pan top bot opn w) := by
  have gg := (Gr.al w (.cells #[.int .i64 tab, .slice pa pan.length pc, .int .i64 hei, .slice ta top.length tc, .slice ba bot.length bc, .int .i64 slo, .bool opn] 24)).tr (Gr.al _ (.cells #[.int .i64 0, .slice none 0 0, .int .i64 0, .slice none 0 0, .slice none 0 0, .int .i64 0, .bool false] 24))
  have oB := (Own.new w [.int .i64 tab, .slice pa pan.length pc, .int .i64 hei, .slice ta top.length tc, .slice ba bot.length bc, .int .i64 slo, .bool opn] 24 w.heap.size rfl).keep (Gr.al _ (.cells #[.int .i64 0, .slice none 0 0, .int .i64 0, .slice none 0 0, .slice none 0 0, .int .i64 0, .bool false] 24))
  have oZ := Own.new (w.alloc (.cells #[.int .i64 tab, .slice pa pan.length pc, .int .i64 hei, .slice ta top.length tc, .slice ba bot.length bc, .int .i64 slo, .bool opn] 24)) [.int .i64 0, .slice none 0 0, .int .i64 0, .slice none 0 0, .slice none 0 0, .int .i64 0, .bool false] 24 (w.heap.size + 1) (by simp)
  have HP := Lib.hid hp
  have HT := Lib.hid ht
  have HB := Lib.hid hb
  have HL := Lib.hid (And.intro l1 (And.intro l2 l3))
  clear hp ht hb l1 l2 l3
  have hle : w.heap.size ≤ w.heap.size := Nat.le_refl _
  go_enter Try.func62, Try.ntmps62
  go_upto_region 1 with fail
  refine wp_abs (fun U => Gr w U ∧ Own U w.heap.size [.int .i64 tab, .slice pa pan.length pc, .int .i64 hei, .slice ta top.length tc, .slice ba bot.length bc, .int .i64 slo, .bool opn] ∧ Own U (w.heap.size + 1) [.int .i64 0, .slice none 0 0, .int .i64 0, .slice none 0 0, .slice none 0 0, .int .i64 0, .bool false]) ⟨gg, oB, oZ⟩ ?_
  clear gg oB oZ
  rintro U ⟨gU, oB, oZ⟩
  obtain ⟨N, hN⟩ : ∃ N, U.heap.size = N := ⟨_, rfl⟩
  have hB := oB.1
  have lN : w.heap.size + 1 < N := hN ▸ oZ.1.1
  have HN := Lib.hid hN
  clear hN
  refine wp_region_apart 13 [(2, 1), (3, 0), (3, 2), (6, 5), (7, 4), (7, 6), (10, 9), (11, 8), (11, 10)] [3, 7, 11] (fun x => ⟨#[.agg #[.int .i64 tab, .slice pa pan.length pc, .int .i64 hei, .slice ta top.length tc, .slice ba bot.length bc, .int .i64 slo, .bool opn], .pointer (some ⟨w.heap.size, 0, none⟩), .pointer (some ⟨(w.heap.size + 1), 0, none⟩), x 0, x 1, x 2, x 3, x 4, x 5, x 6, x 7, x 8, x 9, x 10, x 11, x 12, undef, undef, undef], []⟩) (fun _ => undef) [fun v x => ∃ b, x = .slice (some ⟨b, 0, none⟩) 0 0, fun _ x => x = .pointer (some ⟨w.heap.size, 1, none⟩), fun _ x => x = .slice pa pan.length pc, fun v x => ∃ r c, x = .slice (some ⟨r, 0, none⟩) pan.length c ∧ Own v r (pan.map (fun n => Value.int .i64 n)) ∧ N ≤ r, fun v x => ∃ b, x = .slice (some ⟨b, 0, none⟩) 0 0, fun _ x => x = .pointer (some ⟨w.heap.size, 3, none⟩), fun _ x => x = .slice ta top.length tc, fun v x => ∃ r c, x = .slice (some ⟨r, 0, none⟩) top.length c ∧ Own v r (top.map (fun n => Value.int .i64 n)) ∧ N ≤ r, fun v x => ∃ b, x = .slice (some ⟨b, 0, none⟩) 0 0, fun _ x => x = .pointer (some ⟨w.heap.size, 4, none⟩), fun _ x => x = .slice ba bot.length bc, fun v x => ∃ r c, x = .slice (some ⟨r, 0, none⟩) bot.length c ∧ Own v r (bot.map (fun n => Value.int .i64 n)) ∧ N ≤ r, fun _ x => x = .pointer (some ⟨w.heap.size, 1, none⟩)] (by rfl) (by kernel_rfl) (by kernel_rfl) (by kernel_rfl) (stays_cons ((show Stays (fun v x => ∃ b, x = .slice (some ⟨b, 0, none⟩) 0 0) from fun v v' x g ⟨b, h⟩ => ⟨b, h⟩)) (stays_cons (Stays.eq _) (stays_cons (Stays.eq _) (stays_cons ((show Stays (fun v x => ∃ r c, x = .slice (some ⟨r, 0, none⟩) pan.length c ∧ Own v r (pan.map (fun n => Value.int .i64 n)) ∧ N ≤ r) from fun v v' x g ⟨r, c, h, o, n⟩ => ⟨r, c, h, o.keep g, n⟩)) (stays_cons ((show Stays (fun v x => ∃ b, x = .slice (some ⟨b, 0, none⟩) 0 0) from fun v v' x g ⟨b, h⟩ => ⟨b, h⟩)) (stays_cons (Stays.eq _) (stays_cons (Stays.eq _) (stays_cons ((show Stays (fun v x => ∃ r c, x = .slice (some ⟨r, 0, none⟩) top.length c ∧ Own v r (top.map (fun n => Value.int .i64 n)) ∧ N ≤ r) from fun v v' x g ⟨r, c, h, o, n⟩ => ⟨r, c, h, o.keep g, n⟩)) (stays_cons ((show Stays (fun v x => ∃ b, x = .slice (some ⟨b, 0, none⟩) 0 0) from fun v v' x g ⟨b, h⟩ => ⟨b, h⟩)) (stays_cons (Stays.eq _) (stays_cons (Stays.eq _) (stays_cons ((show Stays (fun v x => ∃ r c, x = .slice (some ⟨r, 0, none⟩) bot.length c ∧ Own v r (bot.map (fun n => Value.int .i64 n)) ∧ N ≤ r) from fun v v' x g ⟨r, c, h, o, n⟩ => ⟨r, c, h, o.keep g, n⟩)) (stays_cons (Stays.eq _) stays_nil))))))))))))) ?step1 ?fin1
  case step1 =>
    rintro i hi x v gv hd K hK
    have hi8 : i = 0 ∨ i = 1 ∨ i = 2 ∨ i = 3 ∨ i = 4 ∨ i = 5 ∨ i = 6 ∨ i = 7 ∨ i = 8 ∨ i = 9 ∨ i = 10 ∨ i = 11 ∨ i = 12 := by omega
    rcases hi8 with rfl | rfl | rfl | rfl | rfl | rfl | rfl | rfl | rfl | rfl | rfl | rfl | rfl
    · show wpOp Try.prog _ _ 0 K (⟨#[_, _, _, x 0, x 1, x 2, x 3, x 4, x 5, x 6, x 7, x 8, x 9, x 10, x 11, x 12, _, _, _], []⟩ : Act) v
      refine wpOp_step rfl (fun K' hK' => ?_)
      go_simp
      have hg := Gr.al v (.cells #[] 3)
      exact hK' _ _ (hK _ _ hg (at_of rfl (⟨_, rfl⟩)) (fun h => absurd h (by simp)))
    · show wpOp Try.prog _ _ 1 K (⟨#[_, _, _, x 0, x 1, x 2, x 3, x 4, x 5, x 6, x 7, x 8, x 9, x 10, x 11, x 12, _, _, _], []⟩ : Act) v
      refine wpOp_step rfl (fun K' hK' => ?_)
      go_simp
      exact hK' _ _ (hK _ _ (Below.refl _ _) (at_of rfl (rfl)) (fun h => absurd h (by simp)))
    · obtain ⟨x, rfl⟩ := upd_of (show x 1 = .pointer (some ⟨w.heap.size, 1, none⟩) from hd 1 _ (by simp) rfl)
      show wpOp Try.prog _ _ 2 K (⟨#[_, _, _, x 0, .pointer (some ⟨w.heap.size, 1, none⟩), x 2, x 3, x 4, x 5, x 6, x 7, x 8, x 9, x 10, x 11, x 12, _, _, _], []⟩ : Act) v
      refine wpOp_step rfl (fun K' hK' => ?_)
      have q := (hB.keep gv).2 1 _ rfl
      go_simp
      exact hK' _ _ (hK _ _ (Below.refl _ _) (at_of rfl (rfl)) (fun h => absurd h (by simp)))
    · obtain ⟨b0, e0⟩ := hd 0 _ (by simp) rfl
      obtain ⟨x, rfl⟩ := upd_of (show x 0 = .slice (some ⟨b0, 0, none⟩) 0 0 from e0)
      obtain ⟨x, rfl⟩ := upd_of (show x 2 = .slice pa pan.length pc from hd 2 _ (by simp) rfl)
      show wpOp Try.prog _ _ 3 K (⟨#[_, _, _, .slice (some ⟨b0, 0, none⟩) 0 0, x 1, .slice pa pan.length pc, x 3, x 4, x 5, x 6, x 7, x 8, x 9, x 10, x 11, x 12, _, _, _], []⟩ : Act) v
      obtain ⟨v', c', hrun, hg, ho⟩ := app_own v b0 pa pan pc (HP.out.grow (gU.tr gv)) HL.out.1.1 HL.out.1.2
      have hn2 : N ≤ v.heap.size := HN.out ▸ gv.size
      refine wpOp_append (Operand.tmp 3) (Operand.tmp 5) 22 rfl rfl rfl (.slice (some ⟨b0, 0, none⟩) 0 0) (.slice pa pan.length pc) _ v' rfl rfl hrun (fun K' hK' => ?_)
      exact hK' _ _ (hK _ _ hg (at_of rfl (⟨_, _, rfl, ho, hn2⟩)) (fun _ b hb => by simp [hasB, blkOf] at hb; subst hb; exact ⟨Nat.le_refl _, ho.1.1⟩))
    · show wpOp Try.prog _ _ 4 K (⟨#[_, _, _, x 0, x 1, x 2, x 3, x 4, x 5, x 6, x 7, x 8, x 9, x 10, x 11, x 12, _, _, _], []⟩ : Act) v
      refine wpOp_step rfl (fun K' hK' => ?_)
      go_simp
      have hg := Gr.al v (.cells #[] 3)
      exact hK' _ _ (hK _ _ hg (at_of rfl (⟨_, rfl⟩)) (fun h => absurd h (by simp)))
    · show wpOp Try.prog _ _ 5 K (⟨#[_, _, _, x 0, x 1, x 2, x 3, x 4, x 5, x 6, x 7, x 8, x 9, x 10, x 11, x 12, _, _, _], []⟩ : Act) v
      refine wpOp_step rfl (fun K' hK' => ?_)
      go_simp
      exact hK' _ _ (hK _ _ (Below.refl _ _) (at_of rfl (rfl)) (fun h => absurd h (by simp)))
    · obtain ⟨x, rfl⟩ := upd_of (show x 5 = .pointer (some ⟨w.heap.size, 3, none⟩) from hd 5 _ (by simp) rfl)
      show wpOp Try.prog _ _ 6 K (⟨#[_, _, _, x 0, x 1, x 2, x 3, x 4, .pointer (some ⟨w.heap.size, 3, none⟩), x 6, x 7, x 8, x 9, x 10, x 11, x 12, _, _, _], []⟩ : Act) v
      refine wpOp_step rfl (fun K' hK' => ?_)
      have q := (hB.keep gv).2 3 _ rfl
      go_simp
      exact hK' _ _ (hK _ _ (Below.refl _ _) (at_of rfl (rfl)) (fun h => absurd h (by simp)))
    · obtain ⟨b4, e4⟩ := hd 4 _ (by simp) rfl
      obtain ⟨x, rfl⟩ := upd_of (show x 4 = .slice (some ⟨b4, 0, none⟩) 0 0 from e4)
      obtain ⟨x, rfl⟩ := upd_of (show x 6 = .slice ta top.length tc from hd 6 _ (by simp) rfl)
      show wpOp Try.prog _ _ 7 K (⟨#[_, _, _, x 0, x 1, x 2, x 3, .slice (some ⟨b4, 0, none⟩) 0 0, x 5, .slice ta top.length tc, x 7, x 8, x 9, x 10, x 11, x 12, _, _, _], []⟩ : Act) v
      obtain ⟨v', c', hrun, hg, ho⟩ := app_own v b4 ta top tc (HT.out.grow (gU.tr gv)) HL.out.2.1.1 HL.out.2.1.2
      have hn2 : N ≤ v.heap.size := HN.out ▸ gv.size
      refine wpOp_append (Operand.tmp 7) (Operand.tmp 9) 22 rfl rfl rfl (.slice (some ⟨b4, 0, none⟩) 0 0) (.slice ta top.length tc) _ v' rfl rfl hrun (fun K' hK' => ?_)
      exact hK' _ _ (hK _ _ hg (at_of rfl (⟨_, _, rfl, ho, hn2⟩)) (fun _ b hb => by simp [hasB, blkOf] at hb; subst hb; exact ⟨Nat.le_refl _, ho.1.1⟩))
    · show wpOp Try.prog _ _ 8 K (⟨#[_, _, _, x 0, x 1, x 2, x 3, x 4, x 5, x 6, x 7, x 8, x 9, x 10, x 11, x 12, _, _, _], []⟩ : Act) v
      refine wpOp_step rfl (fun K' hK' => ?_)
      go_simp
      have hg := Gr.al v (.cells #[] 3)
      exact hK' _ _ (hK _ _ hg (at_of rfl (⟨_, rfl⟩)) (fun h => absurd h (by simp)))
    · show wpOp Try.prog _ _ 9 K (⟨#[_, _, _, x 0, x 1, x 2, x 3, x 4, x 5, x 6, x 7, x 8, x 9, x 10, x 11, x 12, _, _, _], []⟩ : Act) v
      refine wpOp_step rfl (fun K' hK' => ?_)
      go_simp
      exact hK' _ _ (hK _ _ (Below.refl _ _) (at_of rfl (rfl)) (fun h => absurd h (by simp)))
    · obtain ⟨x, rfl⟩ := upd_of (show x 9 = .pointer (some ⟨w.heap.size, 4, none⟩) from hd 9 _ (by simp) rfl)
      show wpOp Try.prog _ _ 10 K (⟨#[_, _, _, x 0, x 1, x 2, x 3, x 4, x 5, x 6, x 7, x 8, .pointer (some ⟨w.heap.size, 4, none⟩), x 10, x 11, x 12, _, _, _], []⟩ : Act) v
      refine wpOp_step rfl (fun K' hK' => ?_)
      have q := (hB.keep gv).2 4 _ rfl
      go_simp
      exact hK' _ _ (hK _ _ (Below.refl _ _) (at_of rfl (rfl)) (fun h => absurd h (by simp)))
    · obtain ⟨b8, e8⟩ := hd 8 _ (by simp) rfl
      obtain ⟨x, rfl⟩ := upd_of (show x 8 = .slice (some ⟨b8, 0, none⟩) 0 0 from e8)
      obtain ⟨x, rfl⟩ := upd_of (show x 10 = .slice ba bot.length bc from hd 10 _ (by simp) rfl)
      show wpOp Try.prog _ _ 11 K (⟨#[_, _, _, x 0, x 1, x 2, x 3, x 4, x 5, x 6, x 7, .slice (some ⟨b8, 0, none⟩) 0 0, x 9, .slice ba bot.length bc, x 11, x 12, _, _, _], []⟩ : Act) v
      obtain ⟨v', c', hrun, hg, ho⟩ := app_own v b8 ba bot bc (HB.out.grow (gU.tr gv)) HL.out.2.2.1 HL.out.2.2.2
      have hn2 : N ≤ v.heap.size := HN.out ▸ gv.size
      refine wpOp_append (Operand.tmp 11) (Operand.tmp 13) 22 rfl rfl rfl (.slice (some ⟨b8, 0, none⟩) 0 0) (.slice ba bot.length bc) _ v' rfl rfl hrun (fun K' hK' => ?_)
      exact hK' _ _ (hK _ _ hg (at_of rfl (⟨_, _, rfl, ho, hn2⟩)) (fun _ b hb => by simp [hasB, blkOf] at hb; subst hb; exact ⟨Nat.le_refl _, ho.1.1⟩))
    · show wpOp Try.prog _ _ 12 K (⟨#[_, _, _, x 0, x 1, x 2, x 3, x 4, x 5, x 6, x 7, x 8, x 9, x 10, x 11, x 12, _, _, _], []⟩ : Act) v
      refine wpOp_step rfl (fun K' hK' => ?_)
      go_simp
      exact hK' _ _ (hK _ _ (Below.refl _ _) (at_of rfl (rfl)) (fun h => absurd h (by simp)))
  case fin1 =>
    rintro x v gv hd hap
    obtain ⟨r3, c3, e3, o3, n3⟩ := hd 3 _ (by omega) rfl
    obtain ⟨x, rfl⟩ := upd_of (show x 3 = .slice (some ⟨r3, 0, none⟩) pan.length c3 from e3)
    obtain ⟨r7, c7, e7, o7, n7⟩ := hd 7 _ (by omega) rfl
    obtain ⟨x, rfl⟩ := upd_of (show x 7 = .slice (some ⟨r7, 0, none⟩) top.length c7 from e7)
    obtain ⟨r11, c11, e11, o11, n11⟩ := hd 11 _ (by omega) rfl
    obtain ⟨x, rfl⟩ := upd_of (show x 11 = .slice (some ⟨r11, 0, none⟩) bot.length c11 from e11)
    obtain ⟨x, rfl⟩ := upd_of (show x 12 = .pointer (some ⟨w.heap.size, 1, none⟩) from hd 12 _ (by omega) rfl)
    clear hd
    show wpList Try.prog _ _ (List.drop 13 _) (⟨#[_, _, _, x 0, x 1, x 2, .slice (some ⟨r3, 0, none⟩) pan.length c3, x 4, x 5, x 6, .slice (some ⟨r7, 0, none⟩) top.length c7, x 8, x 9, x 10, .slice (some ⟨r11, 0, none⟩) bot.length c11, .pointer (some ⟨w.heap.size, 1, none⟩), _, _, _], []⟩ : Act) v
    simp only [List.drop_succ_cons, List.drop_zero]
    have n37 : r3 ≠ r7 := (fun e => hap 3 7 (by simp) (by simp) (by simp) (by omega) (by omega) r3 (by rw [e3]; simp [hasB, blkOf]) (by rw [e7, ← e]; simp [hasB, blkOf]))
    have n3b : r3 ≠ r11 := (fun e => hap 3 11 (by simp) (by simp) (by simp) (by omega) (by omega) r3 (by rw [e3]; simp [hasB, blkOf]) (by rw [e11, ← e]; simp [hasB, blkOf]))
    have n7b : r7 ≠ r11 := (fun e => hap 7 11 (by simp) (by simp) (by simp) (by omega) (by omega) r7 (by rw [e7]; simp [hasB, blkOf]) (by rw [e11, ← e]; simp [hasB, blkOf]))
    clear hap e3 e7 e11
    replace gU := gU.tr gv
    replace oB := oB.keep gv
    replace oZ := oZ.keep gv
    clear gv hB HP HT HB HN
    have z1 := oB.2 1
    have z3 := oB.2 3
    have z4 := oB.2 4
    have q1 := oB.1.2 1 _ rfl
    have q3 := oB.1.2 3 _ rfl
    have q4 := oB.1.2 4 _ rfl
    go_upto_region 2 with fail
    refine wp_abs (fun V => Gr w V ∧ Own V w.heap.size [.int .i64 tab, .slice (some ⟨r3, 0, none⟩) pan.length c3, .int .i64 hei, .slice (some ⟨r7, 0, none⟩) top.length c7, .slice (some ⟨r11, 0, none⟩) bot.length c11, .int .i64 slo, .bool opn] ∧ Own V (w.heap.size + 1) [.int .i64 0, .slice none 0 0, .int .i64 0, .slice none 0 0, .slice none 0 0, .int .i64 0, .bool false] ∧ Own V r3 (pan.map (fun n => Value.int .i64 n)) ∧ Own V r7 (top.map (fun n => Value.int .i64 n)) ∧ Own V r11 (bot.map (fun n => Value.int .i64 n))) ⟨((gU.setCell (p := ⟨w.heap.size, 1, none⟩) hle _).setCell (p := ⟨w.heap.size, 3, none⟩) hle _).setCell (p := ⟨w.heap.size, 4, none⟩) hle _, ((oB.set (i := 1) (by simp)).set (i := 3) (by simp)).set (i := 4) (by simp), ((oZ.other (by omega)).other (by omega)).other (by omega), ((((o3).other (by omega)).other (by omega)).other (by omega)), ((((o7).other (by omega)).other (by omega)).other (by omega)), ((((o11).other (by omega)).other (by omega)).other (by omega))⟩ ?_
    clear gU oB oZ z1 z3 z4 q1 q3 q4 o3 o7 o11
    rintro V ⟨gV, oB, oZ, o3, o7, o11⟩
    obtain ⟨q0, q1, q2, q3, q4, q5, q6⟩ := oB.1.c7
    have p0 := oZ.1.2 0 _ rfl
    have z0 := oZ.2 0
    have p1 := oZ.1.2 1 _ rfl
    have z1 := oZ.2 1
    have p2 := oZ.1.2 2 _ rfl
    have z2 := oZ.2 2
    have p3 := oZ.1.2 3 _ rfl
    have z3 := oZ.2 3
    have p4 := oZ.1.2 4 _ rfl
    have z4 := oZ.2 4
    have p5 := oZ.1.2 5 _ rfl
    have z5 := oZ.2 5
    have p6 := oZ.1.2 6 _ rfl
    have z6 := oZ.2 6
    have hl1 : w.heap.size ≤ w.heap.size + 1 := Nat.le_succ _
    have m3 : r3 ≠ w.heap.size + 1 := by omega
    have m7 : r7 ≠ w.heap.size + 1 := by omega
    have m11 : r11 ≠ w.heap.size + 1 := by omega
    have le3 : w.heap.size ≤ r3 ∧ w.heap.size ≤ r7 ∧ w.heap.size ≤ r11 := by omega
    clear oB oZ lN n3 n7 n11
    go_wp2
    refine bodyPost_ret (v := .agg #[.int .i64 tab, .slice (some ⟨r3, 0, none⟩) pan.length c3, .int .i64 hei, .slice (some ⟨r7, 0, none⟩) top.length c7, .slice (some ⟨r11, 0, none⟩) bot.length c11, .int .i64 slo, .bool opn]) (by simp [results, Try.results62, go_sem, p0, p1, p2, p3, p4, p5, p6]) rfl ⟨_, _, _, _, _, _, rfl, ?_, ?_, ?_, ?_, le3, n37, n3b, n7b⟩
    · exact (((((((gV.setCell (p := ⟨w.heap.size + 1, 0, none⟩) hl1 _).setCell (p := ⟨w.heap.size + 1, 1, none⟩) hl1 _).setCell (p := ⟨w.heap.size + 1, 2, none⟩) hl1 _).setCell (p := ⟨w.heap.size + 1, 3, none⟩) hl1 _).setCell (p := ⟨w.heap.size + 1, 4, none⟩) hl1 _).setCell (p := ⟨w.heap.size + 1, 5, none⟩) hl1 _).setCell (p := ⟨w.heap.size + 1, 6, none⟩) hl1 _)
    · exact (((((((o3.other m3).other m3).other m3).other m3).other m3).other m3).other m3)
    · exact (((((((o7.other m7).other m7).other m7).other m7).other m7).other m7).other m7)
    · exact (((((((o11.other m11).other m11).other m11).other m11).other m11).other m11).other m11)

set_option maxRecDepth 100000 in
set_option maxHeartbeats 4000000 in
theorem own02_own (tab hei slo : Int) (pan top bot : List Int) (pa ta ba : Option Addr) (pc tc bc : Nat) (opn : Bool) (l1 : 0 < pan.length ∧ pan.length ≤ 1000) (l2 : 0 < top.length ∧ top.length ≤ 1000) (l3 : 0 < bot.length ∧ bot.length ≤ 1000) (w : World) (hp : IRow w pa pan) (ht : IRow w ta top) (hb : IRow w ba bot) :
    Calls Try.prog 16 #[.agg #[.int .i64 tab, .slice pa pan.length pc, .int .i64 hei, .slice ta top.length tc, .slice ba bot.length bc, .int .i64 slo, .bool opn]] w (OwnPost tab hei slo pan top bot opn w) := by
  have gg := (Gr.al w (.cells #[.int .i64 tab, .slice pa pan.length pc, .int .i64 hei, .slice ta top.length tc, .slice ba bot.length bc, .int .i64 slo, .bool opn] 24)).tr (Gr.al _ (.cells #[.int .i64 0, .slice none 0 0, .int .i64 0, .slice none 0 0, .slice none 0 0, .int .i64 0, .bool false] 24))
  have oB := (Box.new w [.int .i64 tab, .slice pa pan.length pc, .int .i64 hei, .slice ta top.length tc, .slice ba bot.length bc, .int .i64 slo, .bool opn] 24 w.heap.size rfl).keep (Gr.al _ (.cells #[.int .i64 0, .slice none 0 0, .int .i64 0, .slice none 0 0, .slice none 0 0, .int .i64 0, .bool false] 24))
  have oZ := Own.new (w.alloc (.cells #[.int .i64 tab, .slice pa pan.length pc, .int .i64 hei, .slice ta top.length tc, .slice ba bot.length bc, .int .i64 slo, .bool opn] 24)) [.int .i64 0, .slice none 0 0, .int .i64 0, .slice none 0 0, .slice none 0 0, .int .i64 0, .bool false] 24 (w.heap.size + 1) (by simp)
  have HP := Lib.hid hp
  have HT := Lib.hid ht
  have HB := Lib.hid hb
  clear hp ht hb
  have hl1 : w.heap.size ≤ w.heap.size + 1 := Nat.le_succ _
  go_enter Try.func16, Try.ntmps16
  go_upto_region 1 with fail
  refine wp_abs (fun U => Gr w U ∧ Box U w.heap.size [.int .i64 tab, .slice pa pan.length pc, .int .i64 hei, .slice ta top.length tc, .slice ba bot.length bc, .int .i64 slo, .bool opn] ∧ Own U (w.heap.size + 1) [.int .i64 0, .slice none 0 0, .int .i64 0, .slice none 0 0, .slice none 0 0, .int .i64 0, .bool false]) ⟨gg, oB, oZ⟩ ?_
  clear gg oB oZ
  rintro U ⟨gU, oB, oZ⟩
  obtain ⟨b0, b1, b2, b3, b4, b5, b6⟩ := oB.c7
  have hlt : w.heap.size + 1 < U.heap.size := oZ.1.1
  go_wp2_with (go_at_call 62; refine (copy02_own tab hei slo pan top bot pa ta ba pc tc bc opn l1 l2 l3 U (HP.out.grow gU) (HT.out.grow gU) (HB.out.grow gU)).mono ?_; rintro e w1 ⟨r3, c3, r7, c7, r11, c11, rfl, g1, o3, o7, o11, ⟨n3, n7, n11⟩, n37, n3b, n7b⟩; have hsz := gU.size; replace gU := gU.tr g1; replace oZ := oZ.keep g1; clear b0 b1 b2 b3 b4 b5 b6 oB; have m3 : r3 ≠ w.heap.size + 1 := (by omega); have m7 : r7 ≠ w.heap.size + 1 := (by omega); have m11 : r11 ≠ w.heap.size + 1 := (by omega); have le3 : w.heap.size ≤ r3 ∧ w.heap.size ≤ r7 ∧ w.heap.size ≤ r11 := (by omega); have p0 := oZ.1.2 0 _ rfl; have z0 := oZ.2 0; have p1 := oZ.1.2 1 _ rfl; have z1 := oZ.2 1; have p2 := oZ.1.2 2 _ rfl; have z2 := oZ.2 2; have p3 := oZ.1.2 3 _ rfl; have z3 := oZ.2 3; have p4 := oZ.1.2 4 _ rfl; have z4 := oZ.2 4; have p5 := oZ.1.2 5 _ rfl; have z5 := oZ.2 5; have p6 := oZ.1.2 6 _ rfl; have z6 := oZ.2 6; clear hsz n3 n7 n11 hlt oZ)
  refine bodyPost_ret (v := .agg #[.int .i64 tab, .slice (some ⟨r3, 0, none⟩) pan.length c3, .int .i64 hei, .slice (some ⟨r7, 0, none⟩) top.length c7, .slice (some ⟨r11, 0, none⟩) bot.length c11, .int .i64 slo, .bool opn]) (by simp [results, Try.results16, go_sem, p0, p1, p2, p3, p4, p5, p6]) rfl ⟨_, _, _, _, _, _, rfl, ?_, ?_, ?_, ?_, le3, n37, n3b, n7b⟩
  · exact (((((((gU.setCell (p := ⟨w.heap.size + 1, 0, none⟩) hl1 _).setCell (p := ⟨w.heap.size + 1, 1, none⟩) hl1 _).setCell (p := ⟨w.heap.size + 1, 2, none⟩) hl1 _).setCell (p := ⟨w.heap.size + 1, 3, none⟩) hl1 _).setCell (p := ⟨w.heap.size + 1, 4, none⟩) hl1 _).setCell (p := ⟨w.heap.size + 1, 5, none⟩) hl1 _).setCell (p := ⟨w.heap.size + 1, 6, none⟩) hl1 _)
  · exact (((((((o3.other m3).other m3).other m3).other m3).other m3).other m3).other m3)
  · exact (((((((o7.other m7).other m7).other m7).other m7).other m7).other m7).other m7)
  · exact (((((((o11.other m11).other m11).other m11).other m11).other m11).other m11).other m11)

end Go.Proofs.Ytafkoococfnakaa

namespace Go.Proofs.Ytafkoococfnakaa
set_option linter.unusedVariables false
set_option linter.unusedSimpArgs false
open Go.RowKit

theorem refPanel02_atX (tab hei slo : Int) (pan top bot : List Int) (pa ta ba : Option Addr) (pc tc bc : Nat) (opn : Bool) (k : Nat) (j : Int) (hj : j = (k : Int)) (x c m : Int) (hm : 1000 * x - c = m) (hx : pan[k]? = some x) (x0 : 0 ≤ x) (x1 : x ≤ 10000) (c0 : 0 ≤ c) (c1 : c ≤ 20000) (w : World) (hp : IRow w pa pan) :
    Calls Try.prog 33 #[.agg #[.int .i64 tab, .slice pa pan.length pc, .int .i64 hei, .slice ta top.length tc, .slice ba bot.length bc, .int .i64 slo, .bool opn], .int .i64 j, .int .i64 c] w fun e w' => e = .returned (.int .i64 m) ∧ Gr w w' := by
  subst hj
  subst hm
  exact refPanel02_any tab hei slo pan top bot pa ta ba pc tc bc opn k x c hx x0 x1 c0 c1 w hp

/-- All integers from lo on, so many. -/
def upL (lo : Int) (k : Nat) : List Int := (List.range k).map (fun j : Nat => lo + (j : Int))

theorem upL_len (lo : Int) (k : Nat) : (upL lo k).length = k := by simp [upL]

theorem upL_succ (lo : Int) (k : Nat) : upL lo (k + 1) = upL lo k ++ [lo + (k : Int)] := by simp [upL, List.range_succ]

theorem upL_get {lo : Int} {k j : Nat} (h : j < k) : (upL lo k)[j]? = some (lo + (j : Int)) := by simp [upL, h]

def arLo (n off least : Int) : Int := max least (n - off)

def arHi (n off : Int) : Int := min 3000 (n + off)

def arN (n off least : Int) : Nat := (arHi n off - arLo n off least + 1).toNat

/-- All lengths that one can truly be. -/
def arL (n off least : Int) : List Int := upL (arLo n off least) (arN n off least)

def arTo (n off least x : Int) : List Int := upL (arLo n off least) (min x (arHi n off + 1) - arLo n off least).toNat

def ArPost (n : Nat) (l : List Int) (w : World) (e : Ending) (w' : World) : Prop := ∃ a c, e = .returned (.slice a n c) ∧ Gr w w' ∧ IRow w' a l ∧ NewAt w.heap.size a

set_option maxRecDepth 100000 in
set_option maxHeartbeats 1000000 in
theorem refAround_any (n off least : Int) (h0 : least ≤ n) (h1 : n ≤ 3000) (h2 : 0 ≤ off) (h3 : off ≤ 5) (h4 : 0 ≤ least) (w : World) :
    Calls Try.prog 70 #[.int .i64 n, .int .i64 off, .int .i64 least] w (ArPost (arN n off least) (arL n off least) w) := by
  obtain ⟨i0, hi, hz0, hz1, hz2⟩ := info_parts infoIntS
  obtain ⟨lo, hlo⟩ : ∃ x, arLo n off least = x := ⟨_, rfl⟩
  obtain ⟨hh, hhi⟩ : ∃ x, arHi n off = x := ⟨_, rfl⟩
  have b0 : lo ≤ n ∧ n - off ≤ lo ∧ least ≤ lo ∧ (lo = least ∨ lo = n - off) := by unfold arLo at hlo; omega
  have b1 : n ≤ hh ∧ hh ≤ n + off ∧ hh ≤ 3000 ∧ (hh = 3000 ∨ hh = n + off) := by unfold arHi at hhi; omega
  have HLO := Lib.hid hlo
  have HHI := Lib.hid hhi
  clear hlo hhi
  have k0 : IntKind.i64.wrap (n - off) = n - off := IntWalk.i64_in _ (by omega)
  have k1 : IntKind.i64.wrap (n + off) = n + off := IntWalk.i64_in _ (by omega)
  go_enter Try.func70, Try.ntmps70
  go_wp2
  go_loopw [7, 8] (fun v t wr => Hid (∃ (x : Int) (vv : Value) (k : Nat), v = vv ∧ t = .int .i64 x ∧ n - off ≤ x ∧ x ≤ n + off + 1 ∧ Gr w wr ∧ k = (min x (hh + 1) - lo).toNat ∧ wr.ownsRow w.heap.size 3 1 vv k ((upL lo k).flatMap encI))) (fun _ t _ => (n + off + 1 - intOf t).toNat)
  case atStart => exact Lib.hid ⟨n - off, _, 0, rfl, rfl, by omega, by omega, Gr.al _ _, by omega, owns_empty w _ 1⟩
  case round =>
    obtain ⟨x, vv, k, hvv, rfl, x0, x1, gR, hk, hown⟩ := hrel.out
    obtain rfl := hvv.symm
    clear hrel
    by_cases hlt : x ≤ n + off
    · cases hd : in1 least 3000 x with
      | true =>
        have y0 : least ≤ x ∧ x ≤ 3000 := by simp [in1] at hd; omega
        have hxk : x = lo + (k : Int) := by omega
        have hk1 : k + 1 ≤ maxLen := by unfold maxLen; omega
        have hk2 : (k + 1) * 8 ≤ 140737488355328 := by omega
        have HD := Lib.hid hd
        have HK := Lib.hid (show k + 1 = (min (x + 1) (hh + 1) - lo).toNat by omega)
        have HU := Lib.hid (show (upL lo (k + 1)).flatMap encI = (upL lo k).flatMap encI ++ [.int .i64 x] by rw [upL_succ, flat_snoc, ← hxk]; rfl)
        clear hd hk hxk
        go_upto_region 6 with (go_at_call 25; refine (refIn02_any x least 3000 true HD.out _).mono ?_; rintro e w1 ⟨rfl, g1⟩)
        have gS := gR.tr g1
        have hoA := owns_keep hown (g1.tr (Gr.al w1 (.cells #[.int .i64 x] 3)))
        go_wp2_with (at_builtin; refine wpList_append_own _ rfl _ _ 22 rfl w.heap.size 3 i0 (.int .i64 0) 1 8 Try.underlying22 hi hz0 hz1 hz2 rfl (by decide) _ _ _ rfl hoA ⟨w1.heap.size, 0, none⟩ 1 1 ([x].map (fun n => Value.int .i64 n)) rfl rfl (cell_news _ _ _) (ints_one _) hk1 hk2 (gS.tr (Gr.al _ _)).size ?_; intro v' v6 hown' hgrow' _; have hR : Gr w v6 := (gS.tr (Gr.al _ _)).grown' hoA (Nat.le_refl _) hgrow')
        go_roundw
        case rel =>
          refine Lib.hid ⟨x + 1, v', k + 1, rfl, rfl, by omega, by omega, hR, HK.out, ?_⟩
          rw [HU.out]
          exact hown'
        case measure => simp [intOf]; omega
      | false =>
        have y0 : ¬ (least ≤ x ∧ x ≤ 3000) := by
          intro h
          simp [in1] at hd
          omega
        have HD := Lib.hid hd
        have HK := Lib.hid (show k = (min (x + 1) (hh + 1) - lo).toNat by omega)
        clear hd hk y0
        go_wp2_with (go_at_call 25; refine (refIn02_any x least 3000 false HD.out _).mono ?_; rintro e w1 ⟨rfl, g1⟩)
        go_roundw
        case rel => exact Lib.hid ⟨x + 1, _, k, rfl, rfl, by omega, by omega, gR.tr g1, HK.out, owns_keep hown g1⟩
        case measure => simp [intOf]; omega
    · have ek : k = (hh - lo + 1).toNat := by omega
      obtain ⟨ra, rc, hv, hr, hnew⟩ := owns_row_new (enc := encI) (l := upL lo k) (fun _ => rfl) (by rw [upL_len]; omega) (by rw [upL_len]; exact hown)
      rw [upL_len] at hv
      subst hv
      have E := Lib.hid (show arN n off least = k ∧ arL n off least = upL lo k by
        unfold arL arN
        rw [HLO.out, HHI.out, ← ek]
        exact ⟨rfl, rfl⟩)
      have HR := Lib.hid hr
      have HNW := Lib.hid hnew
      clear hnew
      clear hown hr ek hk
      go_wp2
      go_ret
      exact ⟨ra, rc, by rw [E.out.1]; rfl, gR, by rw [E.out.2]; exact HR.out, HNW.out⟩

set_option maxRecDepth 100000 in
theorem refGapOut_any (tab hei slo : Int) (pan top bot : List Int) (pa ta ba : Option Addr) (pc tc bc : Nat) (opn : Bool) (x f c m : Int) (hm : 1000 * x - c - 1000 * f - 1000 * f = m) (hx : pan[1]? = some x) (hf : bot[0]? = some f) (x0 : 0 ≤ x) (x1 : x ≤ 10000) (f0 : 0 ≤ f) (f1 : f ≤ 10000) (c0 : 0 ≤ c) (c1 : c ≤ 20000) (w : World) (hp : IRow w pa pan) (hb : IRow w ba bot) :
    Calls Try.prog 72 #[.agg #[.int .i64 tab, .slice pa pan.length pc, .int .i64 hei, .slice ta top.length tc, .slice ba bot.length bc, .int .i64 slo, .bool opn], .bool false, .bool true, .int .i64 c] w fun e w' => e = .returned (.int .i64 m) ∧ Gr w w' := by
  subst hm
  have gg := Gr.al w (.cells #[.int .i64 tab, .slice pa pan.length pc, .int .i64 hei, .slice ta top.length tc, .slice ba bot.length bc, .int .i64 slo, .bool opn] 24)
  have hB := Box.new w [.int .i64 tab, .slice pa pan.length pc, .int .i64 hei, .slice ta top.length tc, .slice ba bot.length bc, .int .i64 slo, .bool opn] 24 w.heap.size rfl
  obtain ⟨b0, b1, b2, b3, b4, b5, b6⟩ := hB.c7
  have hlt : 0 < bot.length := (List.getElem?_eq_some_iff.1 hf).1
  have hlp : (0 : Int) < (bot.length : Int) := by omega
  obtain ⟨bb, bo, rfl, _, hc⟩ := IRow.get (hb.grow gg) hf
  try simp only [Nat.add_zero] at hc
  have PA := Lib.hid (fun (u : From (w.alloc (.cells #[.int .i64 tab, .slice pa pan.length pc, .int .i64 hei, .slice ta top.length tc, .slice (some ⟨bb, bo, none⟩) bot.length bc, .int .i64 slo, .bool opn] 24))) => refPanel02_atX tab hei slo pan top bot pa ta (some ⟨bb, bo, none⟩) pc tc bc opn 1 1 rfl x c _ rfl hx x0 x1 c0 c1 u.val (hp.grow (gg.tr u.property)))
  have v0 : IntKind.i64.wrap (1000 * f) = 1000 * f := IntWalk.i64_in _ (by omega)
  have v1 : IntKind.i64.wrap (1000 * x - c - 1000 * f) = 1000 * x - c - 1000 * f := IntWalk.i64_in _ (by omega)
  have v2 : IntKind.i64.wrap (1000 * x - c - 1000 * f - 1000 * f) = 1000 * x - c - 1000 * f - 1000 * f := IntWalk.i64_in _ (by omega)
  clear hx hf hp hb hB
  go_enter Try.func72, Try.ntmps72
  go_upto_region 5 with fail
  have g0 := From.keep b0
  have g1 := From.keep b1
  have g2 := From.keep b2
  have g3 := From.keep b3
  have g4 := From.keep b4
  have g5 := From.keep b5
  have g6 := From.keep b6
  have g7 := From.keep hc
  refine wp_region_gr (by kernel_rfl) (by kernel_rfl) ?_
  repeat (go_big_quiet_step (first
    | (go_at_call 33; (with_reducible exact Calls.gr (PA.out _)))))
  refine wpQuiet_nil ?_
  rintro _ ⟨u, rfl⟩
  clear v0 v1 v2 PA g0 g1 g2 g3 g4 g5 g6 g7
  go_wp2
  go_ret
  exact ⟨rfl, gg.tr u.property⟩

set_option maxRecDepth 100000 in
theorem refGapIn_any (tab hei slo : Int) (pan top bot : List Int) (pa ta ba : Option Addr) (pc tc bc : Nat) (opn : Bool) (x f c m : Int) (hm : 1000 * x - c - 1000 * f - 1000 * f = m) (hx : pan[0]? = some x) (hf : bot[1]? = some f) (x0 : 0 ≤ x) (x1 : x ≤ 10000) (f0 : 0 ≤ f) (f1 : f ≤ 10000) (c0 : 0 ≤ c) (c1 : c ≤ 20000) (w : World) (hp : IRow w pa pan) (hb : IRow w ba bot) :
    Calls Try.prog 72 #[.agg #[.int .i64 tab, .slice pa pan.length pc, .int .i64 hei, .slice ta top.length tc, .slice ba bot.length bc, .int .i64 slo, .bool opn], .bool false, .bool false, .int .i64 c] w fun e w' => e = .returned (.int .i64 m) ∧ Gr w w' := by
  subst hm
  have gg := Gr.al w (.cells #[.int .i64 tab, .slice pa pan.length pc, .int .i64 hei, .slice ta top.length tc, .slice ba bot.length bc, .int .i64 slo, .bool opn] 24)
  have hB := Box.new w [.int .i64 tab, .slice pa pan.length pc, .int .i64 hei, .slice ta top.length tc, .slice ba bot.length bc, .int .i64 slo, .bool opn] 24 w.heap.size rfl
  obtain ⟨b0, b1, b2, b3, b4, b5, b6⟩ := hB.c7
  have hlt : 1 < bot.length := (List.getElem?_eq_some_iff.1 hf).1
  have hlp : (1 : Int) < (bot.length : Int) := by omega
  obtain ⟨bb, bo, rfl, _, hc⟩ := IRow.get (hb.grow gg) hf
  try simp only [Nat.add_zero] at hc
  have PA := Lib.hid (fun (u : From (w.alloc (.cells #[.int .i64 tab, .slice pa pan.length pc, .int .i64 hei, .slice ta top.length tc, .slice (some ⟨bb, bo, none⟩) bot.length bc, .int .i64 slo, .bool opn] 24))) => refPanel02_atX tab hei slo pan top bot pa ta (some ⟨bb, bo, none⟩) pc tc bc opn 0 0 rfl x c _ rfl hx x0 x1 c0 c1 u.val (hp.grow (gg.tr u.property)))
  have v0 : IntKind.i64.wrap (1000 * f) = 1000 * f := IntWalk.i64_in _ (by omega)
  have v1 : IntKind.i64.wrap (1000 * x - c - 1000 * f) = 1000 * x - c - 1000 * f := IntWalk.i64_in _ (by omega)
  have v2 : IntKind.i64.wrap (1000 * x - c - 1000 * f - 1000 * f) = 1000 * x - c - 1000 * f - 1000 * f := IntWalk.i64_in _ (by omega)
  clear hx hf hp hb hB
  go_enter Try.func72, Try.ntmps72
  go_upto_region 6 with fail
  have g0 := From.keep b0
  have g1 := From.keep b1
  have g2 := From.keep b2
  have g3 := From.keep b3
  have g4 := From.keep b4
  have g5 := From.keep b5
  have g6 := From.keep b6
  have g7 := From.keep hc
  refine wp_region_gr (by kernel_rfl) (by kernel_rfl) ?_
  repeat (go_big_quiet_step (first
    | (go_at_call 33; (with_reducible exact Calls.gr (PA.out _)))))
  refine wpQuiet_nil ?_
  rintro _ ⟨u, rfl⟩
  clear v0 v1 v2 PA g0 g1 g2 g3 g4 g5 g6 g7
  go_wp2
  go_ret
  exact ⟨rfl, gg.tr u.property⟩

end Go.Proofs.Ytafkoococfnakaa

namespace Go.Proofs.Ytafkoococfnakaa
set_option linter.unusedVariables false
set_option linter.unusedSimpArgs false
open Go.RowKit

/-- The pairs that were tried before (i, k). -/
def Tried (nf i k a b : Nat) : Prop := b < nf ∧ (a < i ∨ (a = i ∧ b < k))

/-- The least and the greatest of what was tried, and of the span. -/
def InvW (f : Nat → Nat → Int) (nf : Nat) (sl sh : Int) (i k : Nat) (lo hi : Int) : Prop :=
  lo ≤ sl ∧ sh ≤ hi ∧ (∀ a b, Tried nf i k a b → lo ≤ f a b ∧ f a b ≤ hi) ∧ (lo = sl ∨ ∃ a b, Tried nf i k a b ∧ lo = f a b) ∧ (hi = sh ∨ ∃ a b, Tried nf i k a b ∧ hi = f a b)

theorem InvW.start (f : Nat → Nat → Int) (nf : Nat) (sl sh : Int) : InvW f nf sl sh 0 0 sl sh :=
  ⟨Int.le_refl _, Int.le_refl _, fun a b h => by unfold Tried at h; omega, .inl rfl, .inl rfl⟩

theorem InvW.step {f : Nat → Nat → Int} {nf : Nat} {sl sh : Int} {i k : Nat} {lo hi : Int} (h : InvW f nf sl sh i k lo hi) (hk : k < nf) : InvW f nf sl sh i (k + 1) (min lo (f i k)) (max hi (f i k)) := by
  obtain ⟨h1, h2, h3, h4, h5⟩ := h
  have up : ∀ a b, Tried nf i k a b → Tried nf i (k + 1) a b := fun a b h => by unfold Tried at *; omega
  have me : Tried nf i (k + 1) i k := by unfold Tried; omega
  refine ⟨by omega, by omega, fun a b h => ?_, ?_, ?_⟩
  · by_cases e : a = i ∧ b = k
    · obtain ⟨rfl, rfl⟩ := e
      omega
    · have := h3 a b (by unfold Tried at *; omega)
      omega
  · by_cases e : f i k ≤ lo
    · exact .inr ⟨i, k, me, by omega⟩
    · rcases h4 with h4 | ⟨a, b, h4, h6⟩
      · exact .inl (by omega)
      · exact .inr ⟨a, b, up a b h4, by omega⟩
  · by_cases e : hi ≤ f i k
    · exact .inr ⟨i, k, me, by omega⟩
    · rcases h5 with h5 | ⟨a, b, h5, h6⟩
      · exact .inl (by omega)
      · exact .inr ⟨a, b, up a b h5, by omega⟩

theorem InvW.row {f : Nat → Nat → Int} {nf : Nat} {sl sh : Int} {i : Nat} {lo hi : Int} (h : InvW f nf sl sh i nf lo hi) : InvW f nf sl sh (i + 1) 0 lo hi := by
  have e : ∀ a b, Tried nf i nf a b ↔ Tried nf (i + 1) 0 a b := fun a b => by unfold Tried; omega
  obtain ⟨h1, h2, h3, h4, h5⟩ := h
  refine ⟨h1, h2, fun a b h => h3 a b ((e a b).2 h), ?_, ?_⟩
  · rcases h4 with h4 | ⟨a, b, h4, h6⟩
    · exact .inl h4
    · exact .inr ⟨a, b, (e a b).1 h4, h6⟩
  · rcases h5 with h5 | ⟨a, b, h5, h6⟩
    · exact .inl h5
    · exact .inr ⟨a, b, (e a b).1 h5, h6⟩

/-- What is tried for lengths from l on and flaps from g on. -/
def wF (l g K : Int) (a b : Nat) : Int := 1000 * (l + (a : Int)) - K - 1000 * (g + (b : Int)) - 1000 * (g + (b : Int))

theorem InvW.done {l g K : Int} {nl nf : Nat} {sl sh lo hi : Int} (h : InvW (wF l g K) nf sl sh nl 0 lo hi) (h1 : 0 < nl) (h2 : 0 < nf) :
    lo = min sl (1000 * l - K - 2000 * (g + (nf : Int) - 1)) ∧ hi = max sh (1000 * (l + (nl : Int) - 1) - K - 2000 * g) := by
  obtain ⟨a1, a2, a3, a4, a5⟩ := h
  have b1 := a3 0 (nf - 1) (by unfold Tried; omega)
  have b2 := a3 (nl - 1) 0 (by unfold Tried; omega)
  unfold wF at *
  constructor
  · rcases a4 with a4 | ⟨a, b, ⟨c1, c2⟩, a4⟩ <;> omega
  · rcases a5 with a5 | ⟨a, b, ⟨c1, c2⟩, a5⟩ <;> omega

def XCells (tab : Int) (pan top bot : List Int) (r3 r7 r11 c3 c7 c11 : Nat) (slo : Int) (opn : Bool) (h : Int) : List Value := [.int .i64 tab, .slice (some ⟨r3, 0, none⟩) pan.length c3, .int .i64 h, .slice (some ⟨r7, 0, none⟩) top.length c7, .slice (some ⟨r11, 0, none⟩) bot.length c11, .int .i64 slo, .bool opn]

/-- What the rounds keep. -/
structure WidK (w : World) (b5 b10 B r3 r11 : Nat) (xc : Int → List Value) (pan bot : List Int) (j q : Nat) (la fa : Option Addr) (L F : List Int) (lo hi : Int) (v : World) : Prop where
  g : Gr w v
  s : Own v b5 [.int .i64 lo, .int .i64 hi]
  z : Own v b10 [.int .i64 0, .int .i64 0]
  x : ∃ h, Own v B (xc h)
  p : ∃ y, Own v r3 ((pan.set j y).map (fun n => Value.int .i64 n))
  b : ∃ y, Own v r11 ((bot.set q y).map (fun n => Value.int .i64 n))
  l : IRow v la L
  f : IRow v fa F

theorem WidK.grow {w : World} {b5 b10 B r3 r11 : Nat} {xc : Int → List Value} {pan bot : List Int} {j q : Nat} {la fa : Option Addr} {L F : List Int} {lo hi : Int} {v v' : World} (h : WidK w b5 b10 B r3 r11 xc pan bot j q la fa L F lo hi v) (g : Gr v v') : WidK w b5 b10 B r3 r11 xc pan bot j q la fa L F lo hi v' := by
  obtain ⟨h0, h1, h2, ⟨a, h3⟩, ⟨b, h4⟩, ⟨c, h5⟩, h6, h7⟩ := h
  exact ⟨h0.tr g, h1.keep g, h2.keep g, ⟨a, h3.keep g⟩, ⟨b, h4.keep g⟩, ⟨c, h5.keep g⟩, h6.grow g, h7.grow g⟩

def lostK (opn : Bool) (c : Int) : Int := if opn = true then c else 2 * c

def Held2 (b1 o1 : Nat) (v1 : Value) (b2 o2 : Nat) (v2 : Value) (w' : World) : Prop := w'.cell? ⟨b1, o1, none⟩ = some v1 ∧ w'.cell? ⟨b2, o2, none⟩ = some v2

theorem set_self (l : List Int) (j : Nat) : l = l.set j (l.getD j 0) := by
  apply List.ext_getElem?
  intro i
  rw [List.getElem?_set]
  by_cases e : j = i
  · subst e
    by_cases h : j < l.length
    · simp [h]
    · simp [h]
  · simp [e]

theorem set_len4 (l : List Int) (j : Nat) (y : Int) : (l.set j y).length = l.length := List.length_set

theorem map_set {l : List Int} {j : Nat} (u y : Int) : ((l.set j u).map (fun n => Value.int .i64 n)).set j (.int .i64 y) = (l.set j y).map (fun n => Value.int .i64 n) := by
  rw [← List.map_set, List.set_set]

def WidPostA (sl sh off c n f : Int) (w : World) (e : Ending) (w' : World) : Prop := ∃ lo hi, e = .returned (.agg #[.int .i64 lo, .int .i64 hi]) ∧ Gr w w' ∧ InvW (wF (arLo n off 1) 0 c) 1 sl sh (arN n off 1) 0 lo hi

set_option maxRecDepth 100000 in
set_option maxHeartbeats 8000000 in
theorem widened_A (tab hei slo : Int) (pan top bot : List Int) (pa ta ba : Option Addr) (pc tc bc : Nat) (opn : Bool) (m : Nat) (G : GoodB tab hei slo pan top bot opn) (off c sl sh : Int) (o0 : 0 ≤ off) (o1 : off ≤ 5) (c0 : 0 ≤ c) (c1 : c ≤ 10000) (n : Int)  (hm : m < 4) (hx : pan[m]? = some n) (w : World) (hp : IRow w pa pan) (ht : IRow w ta top) (hb : IRow w ba bot) :
    Calls Try.prog 27 #[.agg #[.int .i64 sl, .int .i64 sh], .agg #[.int .i64 tab, .slice pa pan.length pc, .int .i64 hei, .slice ta top.length tc, .slice ba bot.length bc, .int .i64 slo, .bool opn], .int .i64 (m : Int), .int .i64 c, .int .i64 off] w (WidPostA sl sh off c n 0 w) := by
  have gg := ((Gr.al w (.cells #[.int .i64 sl, .int .i64 sh] 37)).tr (Gr.al _ (.cells #[.int .i64 tab, .slice pa pan.length pc, .int .i64 hei, .slice ta top.length tc, .slice ba bot.length bc, .int .i64 slo, .bool opn] 24))).tr (Gr.al _ (.cells #[.int .i64 0, .int .i64 0] 37))
  have h5 := (Own.new w [.int .i64 sl, .int .i64 sh] 37 w.heap.size rfl).keep ((Gr.al _ (.cells #[.int .i64 tab, .slice pa pan.length pc, .int .i64 hei, .slice ta top.length tc, .slice ba bot.length bc, .int .i64 slo, .bool opn] 24)).tr (Gr.al _ (.cells #[.int .i64 0, .int .i64 0] 37)))
  have h6 := (Box.new (w.alloc (.cells #[.int .i64 sl, .int .i64 sh] 37)) [.int .i64 tab, .slice pa pan.length pc, .int .i64 hei, .slice ta top.length tc, .slice ba bot.length bc, .int .i64 slo, .bool opn] 24 (w.heap.size + 1) (by simp)).keep (Gr.al _ (.cells #[.int .i64 0, .int .i64 0] 37))
  have h10 := Own.new ((w.alloc (.cells #[.int .i64 sl, .int .i64 sh] 37)).alloc (.cells #[.int .i64 tab, .slice pa pan.length pc, .int .i64 hei, .slice ta top.length tc, .slice ba bot.length bc, .int .i64 slo, .bool opn] 24)) [.int .i64 0, .int .i64 0] 37 (w.heap.size + 1 + 1) (by simp)
  have HP := Lib.hid hp
  have HT := Lib.hid ht
  have HB := Lib.hid hb
  have HG := Lib.hid G
  clear hp ht hb
  obtain ⟨b0, b1, b2, b3, b4, b5, b6⟩ := h6.c7
  go_enter Try.func27, Try.ntmps27
  go_upto_region 2 with (go_at_call 16; refine (own02_own tab hei slo pan top bot pa ta ba pc tc bc opn (by rw [HG.out.l4]; omega) (by rw [HG.out.t2]; omega) (by rw [HG.out.b2]; omega) _ (HP.out.grow gg) (HT.out.grow gg) (HB.out.grow gg)).mono ?_; rintro e w1 ⟨r3, c3, r7, c7, r11, c11, rfl, g1, o3, o7, o11, ⟨n3, n7, n11⟩, n37, n3b, n7b⟩)
  obtain ⟨B, hB⟩ : ∃ B, B = w1.heap.size := ⟨_, rfl⟩
  have ho := Own.new w1 (XCells tab pan top bot r3 r7 r11 c3 c7 c11 slo opn hei) 24 B hB
  have gq := g1.tr (Gr.al w1 (.cells (XCells tab pan top bot r3 r7 r11 c3 c7 c11 slo opn hei).toArray 24))
  have gq1 := Gr.al w1 (.cells (XCells tab pan top bot r3 r7 r11 c3 c7 c11 slo opn hei).toArray 24)
  have l3 : r3 < B := hB ▸ o3.1.1
  have l11 : r11 < B := hB ▸ o11.1.1
  have l6 := h6.1
  have l10 := h10.1.1
  have lB : w.heap.size + 1 + 1 < B := by have := g1.size; omega
  have m3 : w.heap.size + 1 + 1 < r3 := by omega
  have m11 : w.heap.size + 1 + 1 < r11 := by omega
  rw [← hB]
  refine wp_abs (fun X => Gr w X ∧ Own X w.heap.size [.int .i64 sl, .int .i64 sh] ∧ Box X (w.heap.size + 1) [.int .i64 tab, .slice pa pan.length pc, .int .i64 hei, .slice ta top.length tc, .slice ba bot.length bc, .int .i64 slo, .bool opn] ∧ Own X (w.heap.size + 1 + 1) [.int .i64 0, .int .i64 0] ∧ Own X B (XCells tab pan top bot r3 r7 r11 c3 c7 c11 slo opn hei) ∧ Own X r3 (pan.map (fun n => Value.int .i64 n)) ∧ Own X r11 (bot.map (fun n => Value.int .i64 n)) ∧ B < X.heap.size) ⟨gg.tr gq, h5.keep gq, h6.keep gq, h10.keep gq, ho, o3.keep gq1, o11.keep gq1, ho.1.1⟩ ?_
  clear gg h5 h6 h10 ho o3 o7 o11 gq gq1 hB n3 n7 n11 n37 n7b g1 l6 l10 b0 b1 b2 b3 b4 b5 b6
  rintro X ⟨gX, h5, h6, h10, ho, o3, o11, lX⟩
  obtain ⟨b0, b1, b2, b3, b4, b5, b6⟩ := h6.c7
  obtain ⟨nn0, nn1⟩ := in_at HG.out.gpan hx
  have hpl : 4 ≤ pan.length ∧ pan.length ≤ 4 := by rw [HG.out.l4]; omega
  obtain ⟨pb, po, rfl, _, hc⟩ := IRow.get (HP.out.grow gX) hx
  try simp only [Nat.add_zero] at hc
  skip
  have lr3 : w.heap.size ≠ r3 := by omega
  have lr11 : w.heap.size ≠ r11 := by omega
  have gA := (Gr.al X (.cells #[] 3)).tr (Gr.al _ (.cells #[.int .i64 0] 3))
  have h6 := h6.keep gA
  clear b0 b1 b2 b3 b4 b5 b6
  obtain ⟨b0, b1, b2, b3, b4, b5, b6⟩ := h6.c7
  clear hc
  obtain ⟨_, _, eq9, _, hc⟩ := IRow.get (HP.out.grow (gX.tr gA)) hx
  cases eq9
  try simp only [Nat.add_zero] at hc
  have hm4 : (m : Int) < 4 := by omega
  have hm6 : ¬ (m : Int) > 6 := by omega
  have mml : m < pan.length := by omega
  have mmp : (m : Int) < (pan.length : Int) := by omega
  have mt : ((m : Int) + 1).tmod 2 = ((m : Int) + 1) % 2 := Int.tmod_eq_emod_of_nonneg (by omega)
  have rf := IRow.new' (X.alloc (.cells #[] 3)) 3 [0] (by simp) (X.heap.size + 1) (by simp) (#[.int .i64 0]) (by rfl)
  go_wp2_with (go_at_call 70; refine (refAround_any n off 1 (by omega) (by omega) o0 o1 (by omega) _).mono ?_; rintro e w2 ⟨la, lc, rfl, g2, rl, nl⟩; replace h6 := h6.keep g2; clear b0 b1 b2 b3 b4 b5 b6; obtain ⟨b0, b1, b2, b3, b4, b5, b6⟩ := h6.c7)
  obtain ⟨fb0, hfb⟩ : ∃ z, X.heap.size + 1 = z := ⟨_, rfl⟩
  rw [hfb] at rf ⊢
  have nf : NewAt (B + 1) (some (⟨fb0, 0, none⟩ : Addr)) := fun b f c e => by cases e; omega
  replace rf := rf.grow g2
  have W2 : Gr X w2 := gA.tr g2
  have hlp : 0 < arN n off 1 := by unfold arN arHi arLo; omega
  obtain ⟨gl, go, rfl, _, _⟩ := IRow.get rl (upL_get hlp)
  have nl : NewAt (B + 1) (some (⟨gl, go, none⟩ : Addr)) := nl.le (by have := gA.size; omega)
  obtain ⟨NL, hNL⟩ : ∃ k, arN n off 1 = k := ⟨_, rfl⟩
  obtain ⟨l0, hl0⟩ : ∃ k, arLo n off 1 = k := ⟨_, rfl⟩
  have nn : 1 ≤ l0 ∧ l0 ≤ n ∧ 0 < NL ∧ NL ≤ 11 ∧ l0 + (NL : Int) ≤ 3001 := by unfold arN arHi arLo at hNL; unfold arLo at hl0; omega
  rw [show arL n off 1 = upL l0 NL by unfold arL; rw [hNL, hl0]] at rl
  rw [hNL]
  have hsp := set_self pan m
  have hsb := set_self bot 0
  have K0 : WidK w w.heap.size (w.heap.size + 1 + 1) B r3 r11 (XCells tab pan top bot r3 r7 r11 c3 c7 c11 slo opn) pan bot m 0 (some ⟨gl, go, none⟩) (some ⟨fb0, 0, none⟩) (upL l0 NL) [0] sl sh w2 := ⟨gX.tr W2, h5.keep W2, h10.keep W2, ⟨_, ho.keep W2⟩, ⟨pan.getD m 0, by rw [← hsp]; exact o3.keep W2⟩, ⟨bot.getD 0 0, by rw [← hsb]; exact o11.keep W2⟩, rl, rf⟩
  have HE := (Lib.hid (And.intro hNL hl0))
  have HX := Lib.hid hx
  clear hsp hsb rl rf h5 h6 h10 ho o3 o11 b0 b1 b2 b3 b4 b5 b6 gX gA g2  W2 hNL hl0 hlp hc
  have e56 : w.heap.size ≠ w.heap.size + 1 + 1 := by omega
  have e5B : w.heap.size ≠ B := by omega
  have e10B : w.heap.size + 1 + 1 ≠ B := by omega
  have e103 : w.heap.size + 1 + 1 ≠ r3 := by omega
  have e1011 : w.heap.size + 1 + 1 ≠ r11 := by omega
  have e3B : r3 ≠ B := by omega
  have e11B : r11 ≠ B := by omega
  have le3 : w.heap.size ≤ r3 := by omega
  have le11 : w.heap.size ≤ r11 := by omega
  have leB : w.heap.size ≤ B := by omega
  have t3 : r3 < B + 1 := by omega
  have t11 : r11 < B + 1 := by omega
  have t5 : w.heap.size < B + 1 := by omega
  go_loopw [15] (fun t wr => Hid (∃ (i : Nat) (lo hi : Int), i ≤ NL ∧ t = .int .i64 i ∧ WidK w w.heap.size (w.heap.size + 1 + 1) B r3 r11 (XCells tab pan top bot r3 r7 r11 c3 c7 c11 slo opn) pan bot m 0 (some ⟨gl, go, none⟩) (some ⟨fb0, 0, none⟩) (upL l0 NL) [0] lo hi wr ∧ InvW (wF l0 0 c) 1 sl sh i 0 lo hi)) (fun t _ => NL - (intOf t).toNat)
  case atStart => exact Lib.hid ⟨0, sl, sh, Nat.zero_le _, rfl, K0, InvW.start _ _ _ _⟩
  case round =>
    clear K0
    obtain ⟨i, lo, hi, hiN, rfl, K, V⟩ := hrel.out
    clear hrel
    by_cases hlt : i < NL
    case neg =>
      obtain rfl : i = NL := by omega
      have s5 := K.s.1.2 0 _ rfl
      have s6 := K.s.1.2 1 _ rfl
      obtain ⟨y0, y1⟩ := K.z.1.c2
      have z0 := K.z.2 0
      have z1 := K.z.2 1
      have HV := Lib.hid V
      have gK := K.g
      have hle10 : w.heap.size ≤ w.heap.size + 1 + 1 := by omega
      clear V K
      go_wp2
      refine bodyPost_ret (v := .agg #[.int .i64 lo, .int .i64 hi]) (by simp [results, Try.results27, go_sem, y0, y1]) rfl ⟨lo, hi, rfl, (gK.setCell hle10 _).setCell hle10 _, ?_⟩
      have e := HE.out
      rw [e.1, e.2]
      exact HV.out
    have HV := Lib.hid V
    clear V
    have hil : (i : Int) < (NL : Int) := by omega
    go_wp2
    go_loopw [16] (fun t wr => Hid (∃ (k : Nat) (lo hi : Int), k ≤ 1 ∧ t = .int .i64 k ∧ WidK w w.heap.size (w.heap.size + 1 + 1) B r3 r11 (XCells tab pan top bot r3 r7 r11 c3 c7 c11 slo opn) pan bot m 0 (some ⟨gl, go, none⟩) (some ⟨fb0, 0, none⟩) (upL l0 NL) [0] lo hi wr ∧ InvW (wF l0 0 c) 1 sl sh i k lo hi)) (fun t _ => 1 - (intOf t).toNat)
    case atStart => exact Lib.hid ⟨0, lo, hi, Nat.zero_le _, rfl, K, HV.out⟩
    case round =>
      clear K HV lo hi
      obtain ⟨k, lo, hi, hkN, rfl, K, V⟩ := hrel.out
      clear hrel
      by_cases hkt : k < 1
      case neg =>
        obtain rfl : k = 1 := by omega
        have HV := Lib.hid V.row
        clear V
        go_wp2
        go_roundw
        case rel => exact Lib.hid ⟨i + 1, lo, hi, by omega, by go_num, K, HV.out⟩
        case measure => simp [intOf]; omega
      obtain ⟨gK, ks, kz, ⟨xh, kx⟩, ⟨yp, kp⟩, ⟨yb, kb⟩, kl, kf⟩ := K
      have hkl : (k : Int) < (1 : Int) := by omega
      obtain ⟨_, _, e9, _, cl⟩ := IRow.get kl (upL_get hlt)
      cases e9
      obtain ⟨_, _, e9, _, cf⟩ := IRow.get kf (show ([0] : List Int)[k]? = some 0 by obtain rfl : k = 0 := (by omega); rfl)
      cases e9
      have HV := Lib.hid (V.step hkt)
      clear V
      obtain ⟨nv, hnv⟩ : ∃ z, wF l0 0 c i k = z := ⟨_, rfl⟩
      rw [hnv] at HV
      try simp only [Nat.zero_add] at cf
      try simp only [Nat.zero_add] at cl
      have mjl : m < pan.length := mml
      go_upto_region 24 with fail
      have hF : Held2 B 1 (.slice (some ⟨r3, 0, none⟩) pan.length c3) gl (go + i) (.int .i64 (l0 + (i : Int))) wr.drew := ⟨(kx.keep (Gr.dr _)).1.2 1 _ rfl, (Gr.dr _).keep cl⟩
      haveI : Nonempty (AtW (Held2 B 1 (.slice (some ⟨r3, 0, none⟩) pan.length c3) gl (go + i) (.int .i64 (l0 + (i : Int))))) := ⟨⟨_, hF⟩⟩
      have z0 : ∀ u : AtW (Held2 B 1 (.slice (some ⟨r3, 0, none⟩) pan.length c3) gl (go + i) (.int .i64 (l0 + (i : Int)))), u.val.cell? ⟨B, 1, none⟩ = some (.slice (some ⟨r3, 0, none⟩) pan.length c3) := fun u => u.property.1
      have z1 : ∀ u : AtW (Held2 B 1 (.slice (some ⟨r3, 0, none⟩) pan.length c3) gl (go + i) (.int .i64 (l0 + (i : Int)))), u.val.cell? ⟨gl, go + i, none⟩ = some (.int .i64 (l0 + (i : Int))) := fun u => u.property.2
      refine wp_region_ord (fun w' => ∃ u : AtW (Held2 B 1 (.slice (some ⟨r3, 0, none⟩) pan.length c3) gl (go + i) (.int .i64 (l0 + (i : Int)))), w' = u.val) 7 ((List.range' 0 7).map (fun i => (i, true)) ++ []) (by kernel_rfl) (by kernel_rfl) ⟨⟨_, hF⟩, rfl⟩ ?_
      refine ord_seg 0 7 (by kernel_rfl) (fun d _ _ _ _ h => by cases d <;> exact h) ?_
      simp only [List.drop_zero, List.take_succ_cons, List.take_zero]
      repeat (go_big_quiet_step (fail))
      refine wpQuiet_nil ?_
      clear z0 z1
      show wpList _ _ _ (List.drop 7 _) _ _
      simp only [List.drop_succ_cons, List.drop_zero]
      have w0 := (kp.keep (Gr.dr wr)).1.2 m (.int .i64 yp) (by simp [mjl])
      have z0 := (kp.keep (Gr.dr wr)).2 m
      go_upto_region 25 with fail
      refine wp_abs (fun V => Gr w V ∧ Own V w.heap.size [.int .i64 lo, .int .i64 hi] ∧ Own V (w.heap.size + 1 + 1) [.int .i64 0, .int .i64 0] ∧ Own V B (XCells tab pan top bot r3 r7 r11 c3 c7 c11 slo opn xh) ∧ Own V r3 ((pan.set m (l0 + (i : Int))).map (fun n => Value.int .i64 n)) ∧ Own V r11 ((bot.set 0 yb).map (fun n => Value.int .i64 n)) ∧ IRow V (some ⟨gl, go, none⟩) (upL l0 NL) ∧ IRow V (some ⟨fb0, 0, none⟩) [0]) ⟨(gK.tr (Gr.dr _)).setCell le3 _, (ks.keep (Gr.dr _)).other lr3, (kz.keep (Gr.dr _)).other e103, (kx.keep (Gr.dr _)).other e3B.symm, by have h9 := (kp.keep (Gr.dr _)).set (i := m) (v := .int .i64 (l0 + (i : Int))) (by simpa using mjl); rw [map_set] at h9; exact h9, (kb.keep (Gr.dr _)).other n3b.symm, (kl.grow (Gr.dr _)).other nl t3, (kf.grow (Gr.dr _)).other nf t3⟩ ?_
      clear gK ks kz kx kp kb kl kf w0 z0 hF
      rintro V1 ⟨gK, ks, kz, kx, kp, kb, kl, kf⟩
      have PC := Lib.hid (fun (W' : World) (hr : IRow W' (some ⟨r3, 0, none⟩) (pan.set m (l0 + (i : Int)))) => show Calls Try.prog 33 #[.agg #[.int .i64 tab, .slice (some ⟨r3, 0, none⟩) pan.length c3, .int .i64 xh, .slice (some ⟨r7, 0, none⟩) top.length c7, .slice (some ⟨r11, 0, none⟩) bot.length c11, .int .i64 slo, .bool opn], .int .i64 (m : Int), .int .i64 c] W' (fun e w' => e = .returned (.int .i64 nv) ∧ Gr W' w') from by
        have h := refPanel02_atX tab xh slo (pan.set m (l0 + (i : Int))) top bot (some ⟨r3, 0, none⟩) (some ⟨r7, 0, none⟩) (some ⟨r11, 0, none⟩) c3 c7 c11 opn m m rfl (l0 + (i : Int)) c nv (by rw [← hnv]; unfold wF; omega) (by simp [mjl]) (by omega) (by omega) c0 (by omega) W' hr
        rw [set_len4] at h
        exact h)
      have x0 := kx.1.2 0 _ rfl
      have x1 := kx.1.2 1 _ rfl
      have x2 := kx.1.2 2 _ rfl
      have x3 := kx.1.2 3 _ rfl
      have x4 := kx.1.2 4 _ rfl
      have x5 := kx.1.2 5 _ rfl
      have x6 := kx.1.2 6 _ rfl
      have HNV := Lib.hid hnv
      clear hnv cf cl
      go_wp2_with (first
        | (go_at_call 33; refine (PC.out _ (Own.row kp (by rw [set_len4]; omega))).mono ?_; rintro e w4 ⟨rfl, g4⟩; replace gK := gK.tr g4; replace ks := ks.keep g4; replace kz := kz.keep g4; replace kx := kx.keep g4; replace kp := kp.keep g4; replace kb := kb.keep g4; replace kl := kl.grow g4; replace kf := kf.grow g4; clear x0 x1 x2 x3 x4 x5 x6 PC; have s0 := ks.1.2 0 _ rfl; have s1 := ks.1.2 1 _ rfl)
        | (go_at_call 26; refine (span02_any _ _ _).mono ?_; rintro e w5 ⟨rfl, g5⟩; replace gK := gK.tr g5; replace ks := ks.keep g5; replace kz := kz.keep g5; replace kx := kx.keep g5; replace kp := kp.keep g5; replace kb := kb.keep g5; replace kl := kl.grow g5; replace kf := kf.grow g5; clear s0 s1; have s0 := ks.1.2 0 _ rfl; have s1 := ks.1.2 1 _ rfl; have z0 := ks.2 0; have z1 := ks.2 1))
      go_roundw
      case rel => exact Lib.hid ⟨k + 1, _, _, by omega, by go_num, ⟨(gK.setCell (p := ⟨w.heap.size, 0, none⟩) (Nat.le_refl _) _).setCell (p := ⟨w.heap.size, 1, none⟩) (Nat.le_refl _) _, (ks.set (i := 0) (by simp)).set (i := 1) (by simp), (kz.other e56.symm).other e56.symm, ⟨_, (kx.other e5B.symm).other e5B.symm⟩, ⟨_, (kp.other lr3.symm).other lr3.symm⟩, ⟨_, (kb.other lr11.symm).other lr11.symm⟩, (kl.other nl t5).other nl t5, (kf.other nf t5).other nf t5⟩, HV.out⟩
      case measure => simp [intOf]; omega

def WidPostB (sl sh off c n f : Int) (opn : Bool) (w : World) (e : Ending) (w' : World) : Prop := ∃ lo hi, e = .returned (.agg #[.int .i64 lo, .int .i64 hi]) ∧ Gr w w' ∧ InvW (wF (arLo n off 1) 0 (lostK opn c)) 1 sl sh (arN n off 1) 0 lo hi

set_option maxRecDepth 100000 in
set_option maxHeartbeats 8000000 in
theorem widened_B (tab hei slo : Int) (pan top bot : List Int) (pa ta ba : Option Addr) (pc tc bc : Nat) (opn : Bool) (G : GoodB tab hei slo pan top bot opn) (off c sl sh : Int) (o0 : 0 ≤ off) (o1 : off ≤ 5) (c0 : 0 ≤ c) (c1 : c ≤ 10000)   (w : World) (hp : IRow w pa pan) (ht : IRow w ta top) (hb : IRow w ba bot) :
    Calls Try.prog 27 #[.agg #[.int .i64 sl, .int .i64 sh], .agg #[.int .i64 tab, .slice pa pan.length pc, .int .i64 hei, .slice ta top.length tc, .slice ba bot.length bc, .int .i64 slo, .bool opn], .int .i64 4, .int .i64 c, .int .i64 off] w (WidPostB sl sh off c hei 0 opn w) := by
  have gg := ((Gr.al w (.cells #[.int .i64 sl, .int .i64 sh] 37)).tr (Gr.al _ (.cells #[.int .i64 tab, .slice pa pan.length pc, .int .i64 hei, .slice ta top.length tc, .slice ba bot.length bc, .int .i64 slo, .bool opn] 24))).tr (Gr.al _ (.cells #[.int .i64 0, .int .i64 0] 37))
  have h5 := (Own.new w [.int .i64 sl, .int .i64 sh] 37 w.heap.size rfl).keep ((Gr.al _ (.cells #[.int .i64 tab, .slice pa pan.length pc, .int .i64 hei, .slice ta top.length tc, .slice ba bot.length bc, .int .i64 slo, .bool opn] 24)).tr (Gr.al _ (.cells #[.int .i64 0, .int .i64 0] 37)))
  have h6 := (Box.new (w.alloc (.cells #[.int .i64 sl, .int .i64 sh] 37)) [.int .i64 tab, .slice pa pan.length pc, .int .i64 hei, .slice ta top.length tc, .slice ba bot.length bc, .int .i64 slo, .bool opn] 24 (w.heap.size + 1) (by simp)).keep (Gr.al _ (.cells #[.int .i64 0, .int .i64 0] 37))
  have h10 := Own.new ((w.alloc (.cells #[.int .i64 sl, .int .i64 sh] 37)).alloc (.cells #[.int .i64 tab, .slice pa pan.length pc, .int .i64 hei, .slice ta top.length tc, .slice ba bot.length bc, .int .i64 slo, .bool opn] 24)) [.int .i64 0, .int .i64 0] 37 (w.heap.size + 1 + 1) (by simp)
  have HP := Lib.hid hp
  have HT := Lib.hid ht
  have HB := Lib.hid hb
  have HG := Lib.hid G
  clear hp ht hb
  obtain ⟨b0, b1, b2, b3, b4, b5, b6⟩ := h6.c7
  go_enter Try.func27, Try.ntmps27
  go_upto_region 2 with (go_at_call 16; refine (own02_own tab hei slo pan top bot pa ta ba pc tc bc opn (by rw [HG.out.l4]; omega) (by rw [HG.out.t2]; omega) (by rw [HG.out.b2]; omega) _ (HP.out.grow gg) (HT.out.grow gg) (HB.out.grow gg)).mono ?_; rintro e w1 ⟨r3, c3, r7, c7, r11, c11, rfl, g1, o3, o7, o11, ⟨n3, n7, n11⟩, n37, n3b, n7b⟩)
  obtain ⟨B, hB⟩ : ∃ B, B = w1.heap.size := ⟨_, rfl⟩
  have ho := Own.new w1 (XCells tab pan top bot r3 r7 r11 c3 c7 c11 slo opn hei) 24 B hB
  have gq := g1.tr (Gr.al w1 (.cells (XCells tab pan top bot r3 r7 r11 c3 c7 c11 slo opn hei).toArray 24))
  have gq1 := Gr.al w1 (.cells (XCells tab pan top bot r3 r7 r11 c3 c7 c11 slo opn hei).toArray 24)
  have l3 : r3 < B := hB ▸ o3.1.1
  have l11 : r11 < B := hB ▸ o11.1.1
  have l6 := h6.1
  have l10 := h10.1.1
  have lB : w.heap.size + 1 + 1 < B := by have := g1.size; omega
  have m3 : w.heap.size + 1 + 1 < r3 := by omega
  have m11 : w.heap.size + 1 + 1 < r11 := by omega
  rw [← hB]
  refine wp_abs (fun X => Gr w X ∧ Own X w.heap.size [.int .i64 sl, .int .i64 sh] ∧ Box X (w.heap.size + 1) [.int .i64 tab, .slice pa pan.length pc, .int .i64 hei, .slice ta top.length tc, .slice ba bot.length bc, .int .i64 slo, .bool opn] ∧ Own X (w.heap.size + 1 + 1) [.int .i64 0, .int .i64 0] ∧ Own X B (XCells tab pan top bot r3 r7 r11 c3 c7 c11 slo opn hei) ∧ Own X r3 (pan.map (fun n => Value.int .i64 n)) ∧ Own X r11 (bot.map (fun n => Value.int .i64 n)) ∧ B < X.heap.size) ⟨gg.tr gq, h5.keep gq, h6.keep gq, h10.keep gq, ho, o3.keep gq1, o11.keep gq1, ho.1.1⟩ ?_
  clear gg h5 h6 h10 ho o3 o7 o11 gq gq1 hB n3 n7 n11 n37 n7b g1 l6 l10 b0 b1 b2 b3 b4 b5 b6
  rintro X ⟨gX, h5, h6, h10, ho, o3, o11, lX⟩
  obtain ⟨b0, b1, b2, b3, b4, b5, b6⟩ := h6.c7
  obtain ⟨nn0, nn1⟩ := in_one HG.out.ghei
  skip
  have lr3 : w.heap.size ≠ r3 := by omega
  have lr11 : w.heap.size ≠ r11 := by omega
  have gA := (Gr.al X (.cells #[] 3)).tr (Gr.al _ (.cells #[.int .i64 0] 3))
  have h6 := h6.keep gA
  clear b0 b1 b2 b3 b4 b5 b6
  obtain ⟨b0, b1, b2, b3, b4, b5, b6⟩ := h6.c7
  have rf := IRow.new' (X.alloc (.cells #[] 3)) 3 [0] (by simp) (X.heap.size + 1) (by simp) (#[.int .i64 0]) (by rfl)
  go_wp2_with (go_at_call 70; refine (refAround_any hei off 1 (by omega) (by omega) o0 o1 (by omega) _).mono ?_; rintro e w2 ⟨la, lc, rfl, g2, rl, nl⟩; replace h6 := h6.keep g2; clear b0 b1 b2 b3 b4 b5 b6; obtain ⟨b0, b1, b2, b3, b4, b5, b6⟩ := h6.c7)
  obtain ⟨fb0, hfb⟩ : ∃ z, X.heap.size + 1 = z := ⟨_, rfl⟩
  rw [hfb] at rf ⊢
  have nf : NewAt (B + 1) (some (⟨fb0, 0, none⟩ : Addr)) := fun b f c e => by cases e; omega
  replace rf := rf.grow g2
  have W2 : Gr X w2 := gA.tr g2
  have hlp : 0 < arN hei off 1 := by unfold arN arHi arLo; omega
  obtain ⟨gl, go, rfl, _, _⟩ := IRow.get rl (upL_get hlp)
  have nl : NewAt (B + 1) (some (⟨gl, go, none⟩ : Addr)) := nl.le (by have := gA.size; omega)
  obtain ⟨NL, hNL⟩ : ∃ k, arN hei off 1 = k := ⟨_, rfl⟩
  obtain ⟨l0, hl0⟩ : ∃ k, arLo hei off 1 = k := ⟨_, rfl⟩
  have nn : 1 ≤ l0 ∧ l0 ≤ hei ∧ 0 < NL ∧ NL ≤ 11 ∧ l0 + (NL : Int) ≤ 3001 := by unfold arN arHi arLo at hNL; unfold arLo at hl0; omega
  rw [show arL hei off 1 = upL l0 NL by unfold arL; rw [hNL, hl0]] at rl
  rw [hNL]
  have hsp := set_self pan 0
  have hsb := set_self bot 0
  have K0 : WidK w w.heap.size (w.heap.size + 1 + 1) B r3 r11 (XCells tab pan top bot r3 r7 r11 c3 c7 c11 slo opn) pan bot 0 0 (some ⟨gl, go, none⟩) (some ⟨fb0, 0, none⟩) (upL l0 NL) [0] sl sh w2 := ⟨gX.tr W2, h5.keep W2, h10.keep W2, ⟨_, ho.keep W2⟩, ⟨pan.getD 0 0, by rw [← hsp]; exact o3.keep W2⟩, ⟨bot.getD 0 0, by rw [← hsb]; exact o11.keep W2⟩, rl, rf⟩
  have HE := (Lib.hid (And.intro hNL hl0))
  have HX := Lib.hid (And.intro nn0 nn1)
  clear hsp hsb rl rf h5 h6 h10 ho o3 o11 b0 b1 b2 b3 b4 b5 b6 gX gA g2  W2 hNL hl0 hlp 
  have e56 : w.heap.size ≠ w.heap.size + 1 + 1 := by omega
  have e5B : w.heap.size ≠ B := by omega
  have e10B : w.heap.size + 1 + 1 ≠ B := by omega
  have e103 : w.heap.size + 1 + 1 ≠ r3 := by omega
  have e1011 : w.heap.size + 1 + 1 ≠ r11 := by omega
  have e3B : r3 ≠ B := by omega
  have e11B : r11 ≠ B := by omega
  have le3 : w.heap.size ≤ r3 := by omega
  have le11 : w.heap.size ≤ r11 := by omega
  have leB : w.heap.size ≤ B := by omega
  have t3 : r3 < B + 1 := by omega
  have t11 : r11 < B + 1 := by omega
  have t5 : w.heap.size < B + 1 := by omega
  go_loopw [15] (fun t wr => Hid (∃ (i : Nat) (lo hi : Int), i ≤ NL ∧ t = .int .i64 i ∧ WidK w w.heap.size (w.heap.size + 1 + 1) B r3 r11 (XCells tab pan top bot r3 r7 r11 c3 c7 c11 slo opn) pan bot 0 0 (some ⟨gl, go, none⟩) (some ⟨fb0, 0, none⟩) (upL l0 NL) [0] lo hi wr ∧ InvW (wF l0 0 (lostK opn c)) 1 sl sh i 0 lo hi)) (fun t _ => NL - (intOf t).toNat)
  case atStart => exact Lib.hid ⟨0, sl, sh, Nat.zero_le _, rfl, K0, InvW.start _ _ _ _⟩
  case round =>
    clear K0
    obtain ⟨i, lo, hi, hiN, rfl, K, V⟩ := hrel.out
    clear hrel
    by_cases hlt : i < NL
    case neg =>
      obtain rfl : i = NL := by omega
      have s5 := K.s.1.2 0 _ rfl
      have s6 := K.s.1.2 1 _ rfl
      obtain ⟨y0, y1⟩ := K.z.1.c2
      have z0 := K.z.2 0
      have z1 := K.z.2 1
      have HV := Lib.hid V
      have gK := K.g
      have hle10 : w.heap.size ≤ w.heap.size + 1 + 1 := by omega
      clear V K
      go_wp2
      refine bodyPost_ret (v := .agg #[.int .i64 lo, .int .i64 hi]) (by simp [results, Try.results27, go_sem, y0, y1]) rfl ⟨lo, hi, rfl, (gK.setCell hle10 _).setCell hle10 _, ?_⟩
      have e := HE.out
      rw [e.1, e.2]
      exact HV.out
    have HV := Lib.hid V
    clear V
    have hil : (i : Int) < (NL : Int) := by omega
    go_wp2
    go_loopw [16] (fun t wr => Hid (∃ (k : Nat) (lo hi : Int), k ≤ 1 ∧ t = .int .i64 k ∧ WidK w w.heap.size (w.heap.size + 1 + 1) B r3 r11 (XCells tab pan top bot r3 r7 r11 c3 c7 c11 slo opn) pan bot 0 0 (some ⟨gl, go, none⟩) (some ⟨fb0, 0, none⟩) (upL l0 NL) [0] lo hi wr ∧ InvW (wF l0 0 (lostK opn c)) 1 sl sh i k lo hi)) (fun t _ => 1 - (intOf t).toNat)
    case atStart => exact Lib.hid ⟨0, lo, hi, Nat.zero_le _, rfl, K, HV.out⟩
    case round =>
      clear K HV lo hi
      obtain ⟨k, lo, hi, hkN, rfl, K, V⟩ := hrel.out
      clear hrel
      by_cases hkt : k < 1
      case neg =>
        obtain rfl : k = 1 := by omega
        have HV := Lib.hid V.row
        clear V
        go_wp2
        go_roundw
        case rel => exact Lib.hid ⟨i + 1, lo, hi, by omega, by go_num, K, HV.out⟩
        case measure => simp [intOf]; omega
      obtain ⟨gK, ks, kz, ⟨xh, kx⟩, ⟨yp, kp⟩, ⟨yb, kb⟩, kl, kf⟩ := K
      have hkl : (k : Int) < (1 : Int) := by omega
      obtain ⟨_, _, e9, _, cl⟩ := IRow.get kl (upL_get hlt)
      cases e9
      obtain ⟨_, _, e9, _, cf⟩ := IRow.get kf (show ([0] : List Int)[k]? = some 0 by obtain rfl : k = 0 := (by omega); rfl)
      cases e9
      have HV := Lib.hid (V.step hkt)
      clear V
      obtain ⟨nv, hnv⟩ : ∃ z, wF l0 0 (lostK opn c) i k = z := ⟨_, rfl⟩
      rw [hnv] at HV
      try simp only [Nat.zero_add] at cf
      try simp only [Nat.zero_add] at cl
      have w0 := kx.1.2 2 _ rfl
      have z0 := kx.2 2
      go_upto_region 28 with fail
      refine wp_abs (fun V => Gr w V ∧ Own V w.heap.size [.int .i64 lo, .int .i64 hi] ∧ Own V (w.heap.size + 1 + 1) [.int .i64 0, .int .i64 0] ∧ Own V B (XCells tab pan top bot r3 r7 r11 c3 c7 c11 slo opn (l0 + (i : Int))) ∧ Own V r3 ((pan.set 0 yp).map (fun n => Value.int .i64 n)) ∧ Own V r11 ((bot.set 0 yb).map (fun n => Value.int .i64 n)) ∧ IRow V (some ⟨gl, go, none⟩) (upL l0 NL) ∧ IRow V (some ⟨fb0, 0, none⟩) [0]) ⟨(gK.tr (Below.refl _ _)).setCell leB _, (ks.keep (Below.refl _ _)).other e5B, (kz.keep (Below.refl _ _)).other e10B, (kx.keep (Below.refl _ _)).set (i := 2) (v := .int .i64 (l0 + (i : Int))) (by simp [XCells]), (kp.keep (Below.refl _ _)).other e3B, (kb.keep (Below.refl _ _)).other e11B, (kl.grow (Below.refl _ _)).other nl (Nat.lt_succ_self B), (kf.grow (Below.refl _ _)).other nf (Nat.lt_succ_self B)⟩ ?_
      clear gK ks kz kx kp kb kl kf w0 z0 
      rintro V1 ⟨gK, ks, kz, kx, kp, kb, kl, kf⟩
      have PC := Lib.hid (fun (W' : World) => show Calls Try.prog 71 #[.agg #[.int .i64 tab, .slice (some ⟨r3, 0, none⟩) pan.length c3, .int .i64 (l0 + (i : Int)), .slice (some ⟨r7, 0, none⟩) top.length c7, .slice (some ⟨r11, 0, none⟩) bot.length c11, .int .i64 slo, .bool opn], .int .i64 c] W' (fun e w' => e = .returned (.int .i64 nv) ∧ Gr W' w') from by
        have h := refHeight02_any tab (l0 + (i : Int)) slo pan top bot (some ⟨r3, 0, none⟩) (some ⟨r7, 0, none⟩) (some ⟨r11, 0, none⟩) c3 c7 c11 opn c (by omega) (by omega) c0 (by omega) W'
        rw [show heightL (l0 + (i : Int)) opn c = nv by rw [← hnv]; unfold wF heightL lostK; split <;> omega] at h
        exact h)
      have x0 := kx.1.2 0 _ rfl
      have x1 := kx.1.2 1 _ rfl
      have x2 := kx.1.2 2 _ rfl
      have x3 := kx.1.2 3 _ rfl
      have x4 := kx.1.2 4 _ rfl
      have x5 := kx.1.2 5 _ rfl
      have x6 := kx.1.2 6 _ rfl
      have HNV := Lib.hid hnv
      clear hnv cf cl
      go_wp2_with (first
        | (go_at_call 71; refine (PC.out _).mono ?_; rintro e w4 ⟨rfl, g4⟩; replace gK := gK.tr g4; replace ks := ks.keep g4; replace kz := kz.keep g4; replace kx := kx.keep g4; replace kp := kp.keep g4; replace kb := kb.keep g4; replace kl := kl.grow g4; replace kf := kf.grow g4; clear x0 x1 x2 x3 x4 x5 x6 PC; have s0 := ks.1.2 0 _ rfl; have s1 := ks.1.2 1 _ rfl)
        | (go_at_call 26; refine (span02_any _ _ _).mono ?_; rintro e w5 ⟨rfl, g5⟩; replace gK := gK.tr g5; replace ks := ks.keep g5; replace kz := kz.keep g5; replace kx := kx.keep g5; replace kp := kp.keep g5; replace kb := kb.keep g5; replace kl := kl.grow g5; replace kf := kf.grow g5; clear s0 s1; have s0 := ks.1.2 0 _ rfl; have s1 := ks.1.2 1 _ rfl; have z0 := ks.2 0; have z1 := ks.2 1))
      go_roundw
      case rel => exact Lib.hid ⟨k + 1, _, _, by omega, by go_num, ⟨(gK.setCell (p := ⟨w.heap.size, 0, none⟩) (Nat.le_refl _) _).setCell (p := ⟨w.heap.size, 1, none⟩) (Nat.le_refl _) _, (ks.set (i := 0) (by simp)).set (i := 1) (by simp), (kz.other e56.symm).other e56.symm, ⟨_, (kx.other e5B.symm).other e5B.symm⟩, ⟨_, (kp.other lr3.symm).other lr3.symm⟩, ⟨_, (kb.other lr11.symm).other lr11.symm⟩, (kl.other nl t5).other nl t5, (kf.other nf t5).other nf t5⟩, HV.out⟩
      case measure => simp [intOf]; omega

def WidPostF5 (sl sh off c n f : Int) (w : World) (e : Ending) (w' : World) : Prop := ∃ lo hi, e = .returned (.agg #[.int .i64 lo, .int .i64 hi]) ∧ Gr w w' ∧ InvW (wF (arLo n off 1) 0 c) 1 sl sh (arN n off 1) 0 lo hi

set_option maxRecDepth 100000 in
set_option maxHeartbeats 8000000 in
theorem widened_F5 (tab hei slo : Int) (pan top bot : List Int) (pa ta ba : Option Addr) (pc tc bc : Nat) (G : GoodB tab hei slo pan top bot true) (off c sl sh : Int) (o0 : 0 ≤ off) (o1 : off ≤ 5) (c0 : 0 ≤ c) (c1 : c ≤ 10000) (n : Int)  (hx : pan[1]? = some n) (w : World) (hp : IRow w pa pan) (ht : IRow w ta top) (hb : IRow w ba bot) :
    Calls Try.prog 27 #[.agg #[.int .i64 sl, .int .i64 sh], .agg #[.int .i64 tab, .slice pa pan.length pc, .int .i64 hei, .slice ta top.length tc, .slice ba bot.length bc, .int .i64 slo, .bool true], .int .i64 5, .int .i64 c, .int .i64 off] w (WidPostF5 sl sh off c n 0 w) := by
  have gg := ((Gr.al w (.cells #[.int .i64 sl, .int .i64 sh] 37)).tr (Gr.al _ (.cells #[.int .i64 tab, .slice pa pan.length pc, .int .i64 hei, .slice ta top.length tc, .slice ba bot.length bc, .int .i64 slo, .bool true] 24))).tr (Gr.al _ (.cells #[.int .i64 0, .int .i64 0] 37))
  have h5 := (Own.new w [.int .i64 sl, .int .i64 sh] 37 w.heap.size rfl).keep ((Gr.al _ (.cells #[.int .i64 tab, .slice pa pan.length pc, .int .i64 hei, .slice ta top.length tc, .slice ba bot.length bc, .int .i64 slo, .bool true] 24)).tr (Gr.al _ (.cells #[.int .i64 0, .int .i64 0] 37)))
  have h6 := (Box.new (w.alloc (.cells #[.int .i64 sl, .int .i64 sh] 37)) [.int .i64 tab, .slice pa pan.length pc, .int .i64 hei, .slice ta top.length tc, .slice ba bot.length bc, .int .i64 slo, .bool true] 24 (w.heap.size + 1) (by simp)).keep (Gr.al _ (.cells #[.int .i64 0, .int .i64 0] 37))
  have h10 := Own.new ((w.alloc (.cells #[.int .i64 sl, .int .i64 sh] 37)).alloc (.cells #[.int .i64 tab, .slice pa pan.length pc, .int .i64 hei, .slice ta top.length tc, .slice ba bot.length bc, .int .i64 slo, .bool true] 24)) [.int .i64 0, .int .i64 0] 37 (w.heap.size + 1 + 1) (by simp)
  have HP := Lib.hid hp
  have HT := Lib.hid ht
  have HB := Lib.hid hb
  have HG := Lib.hid G
  clear hp ht hb
  obtain ⟨b0, b1, b2, b3, b4, b5, b6⟩ := h6.c7
  go_enter Try.func27, Try.ntmps27
  go_upto_region 2 with (go_at_call 16; refine (own02_own tab hei slo pan top bot pa ta ba pc tc bc true (by rw [HG.out.l4]; omega) (by rw [HG.out.t2]; omega) (by rw [HG.out.b2]; omega) _ (HP.out.grow gg) (HT.out.grow gg) (HB.out.grow gg)).mono ?_; rintro e w1 ⟨r3, c3, r7, c7, r11, c11, rfl, g1, o3, o7, o11, ⟨n3, n7, n11⟩, n37, n3b, n7b⟩)
  obtain ⟨B, hB⟩ : ∃ B, B = w1.heap.size := ⟨_, rfl⟩
  have ho := Own.new w1 (XCells tab pan top bot r3 r7 r11 c3 c7 c11 slo true hei) 24 B hB
  have gq := g1.tr (Gr.al w1 (.cells (XCells tab pan top bot r3 r7 r11 c3 c7 c11 slo true hei).toArray 24))
  have gq1 := Gr.al w1 (.cells (XCells tab pan top bot r3 r7 r11 c3 c7 c11 slo true hei).toArray 24)
  have l3 : r3 < B := hB ▸ o3.1.1
  have l11 : r11 < B := hB ▸ o11.1.1
  have l6 := h6.1
  have l10 := h10.1.1
  have lB : w.heap.size + 1 + 1 < B := by have := g1.size; omega
  have m3 : w.heap.size + 1 + 1 < r3 := by omega
  have m11 : w.heap.size + 1 + 1 < r11 := by omega
  rw [← hB]
  refine wp_abs (fun X => Gr w X ∧ Own X w.heap.size [.int .i64 sl, .int .i64 sh] ∧ Box X (w.heap.size + 1) [.int .i64 tab, .slice pa pan.length pc, .int .i64 hei, .slice ta top.length tc, .slice ba bot.length bc, .int .i64 slo, .bool true] ∧ Own X (w.heap.size + 1 + 1) [.int .i64 0, .int .i64 0] ∧ Own X B (XCells tab pan top bot r3 r7 r11 c3 c7 c11 slo true hei) ∧ Own X r3 (pan.map (fun n => Value.int .i64 n)) ∧ Own X r11 (bot.map (fun n => Value.int .i64 n)) ∧ B < X.heap.size) ⟨gg.tr gq, h5.keep gq, h6.keep gq, h10.keep gq, ho, o3.keep gq1, o11.keep gq1, ho.1.1⟩ ?_
  clear gg h5 h6 h10 ho o3 o7 o11 gq gq1 hB n3 n7 n11 n37 n7b g1 l6 l10 b0 b1 b2 b3 b4 b5 b6
  rintro X ⟨gX, h5, h6, h10, ho, o3, o11, lX⟩
  obtain ⟨b0, b1, b2, b3, b4, b5, b6⟩ := h6.c7
  obtain ⟨nn0, nn1⟩ := in_at HG.out.gpan hx
  have hpl : 4 ≤ pan.length ∧ pan.length ≤ 4 := by rw [HG.out.l4]; omega
  obtain ⟨pb, po, rfl, _, hc⟩ := IRow.get (HP.out.grow gX) hx
  try simp only [Nat.add_zero] at hc
  have hbl : 2 ≤ bot.length ∧ bot.length ≤ 2 := by rw [HG.out.b2]; omega
  have htl : 2 ≤ top.length ∧ top.length ≤ 2 := by rw [HG.out.t2]; omega
  have hbp : (1 : Int) < (bot.length : Int) := by omega
  have hbq : (0 : Int) < (bot.length : Int) := by omega
  have htp : (1 : Int) < (top.length : Int) := by omega
  have htq : (0 : Int) < (top.length : Int) := by omega
  have hbr : 1 < bot.length ∧ 0 < bot.length := by omega
  have htr : 1 < top.length ∧ 0 < top.length := by omega
  skip
  have lr3 : w.heap.size ≠ r3 := by omega
  have lr11 : w.heap.size ≠ r11 := by omega
  have gA := (Gr.al X (.cells #[] 3)).tr (Gr.al _ (.cells #[.int .i64 0] 3))
  have h6 := h6.keep gA
  clear b0 b1 b2 b3 b4 b5 b6
  obtain ⟨b0, b1, b2, b3, b4, b5, b6⟩ := h6.c7
  clear hc
  obtain ⟨_, _, eq9, _, hc⟩ := IRow.get (HP.out.grow (gX.tr gA)) hx
  cases eq9
  try simp only [Nat.add_zero] at hc
  have rf := IRow.new' (X.alloc (.cells #[] 3)) 3 [0] (by simp) (X.heap.size + 1) (by simp) (#[.int .i64 0]) (by rfl)
  go_wp2_with (go_at_call 70; refine (refAround_any n off 1 (by omega) (by omega) o0 o1 (by omega) _).mono ?_; rintro e w2 ⟨la, lc, rfl, g2, rl, nl⟩; replace h6 := h6.keep g2; clear b0 b1 b2 b3 b4 b5 b6; obtain ⟨b0, b1, b2, b3, b4, b5, b6⟩ := h6.c7)
  obtain ⟨fb0, hfb⟩ : ∃ z, X.heap.size + 1 = z := ⟨_, rfl⟩
  rw [hfb] at rf ⊢
  have nf : NewAt (B + 1) (some (⟨fb0, 0, none⟩ : Addr)) := fun b f c e => by cases e; omega
  replace rf := rf.grow g2
  have W2 : Gr X w2 := gA.tr g2
  have hlp : 0 < arN n off 1 := by unfold arN arHi arLo; omega
  obtain ⟨gl, go, rfl, _, _⟩ := IRow.get rl (upL_get hlp)
  have nl : NewAt (B + 1) (some (⟨gl, go, none⟩ : Addr)) := nl.le (by have := gA.size; omega)
  obtain ⟨NL, hNL⟩ : ∃ k, arN n off 1 = k := ⟨_, rfl⟩
  obtain ⟨l0, hl0⟩ : ∃ k, arLo n off 1 = k := ⟨_, rfl⟩
  have nn : 1 ≤ l0 ∧ l0 ≤ n ∧ 0 < NL ∧ NL ≤ 11 ∧ l0 + (NL : Int) ≤ 3001 := by unfold arN arHi arLo at hNL; unfold arLo at hl0; omega
  rw [show arL n off 1 = upL l0 NL by unfold arL; rw [hNL, hl0]] at rl
  rw [hNL]
  have hsp := set_self pan 1
  have hsb := set_self bot 0
  have K0 : WidK w w.heap.size (w.heap.size + 1 + 1) B r3 r11 (XCells tab pan top bot r3 r7 r11 c3 c7 c11 slo true) pan bot 1 0 (some ⟨gl, go, none⟩) (some ⟨fb0, 0, none⟩) (upL l0 NL) [0] sl sh w2 := ⟨gX.tr W2, h5.keep W2, h10.keep W2, ⟨_, ho.keep W2⟩, ⟨pan.getD 1 0, by rw [← hsp]; exact o3.keep W2⟩, ⟨bot.getD 0 0, by rw [← hsb]; exact o11.keep W2⟩, rl, rf⟩
  have HE := (Lib.hid (And.intro hNL hl0))
  have HX := Lib.hid hx
  clear hsp hsb rl rf h5 h6 h10 ho o3 o11 b0 b1 b2 b3 b4 b5 b6 gX gA g2  W2 hNL hl0 hlp hc
  have e56 : w.heap.size ≠ w.heap.size + 1 + 1 := by omega
  have e5B : w.heap.size ≠ B := by omega
  have e10B : w.heap.size + 1 + 1 ≠ B := by omega
  have e103 : w.heap.size + 1 + 1 ≠ r3 := by omega
  have e1011 : w.heap.size + 1 + 1 ≠ r11 := by omega
  have e3B : r3 ≠ B := by omega
  have e11B : r11 ≠ B := by omega
  have le3 : w.heap.size ≤ r3 := by omega
  have le11 : w.heap.size ≤ r11 := by omega
  have leB : w.heap.size ≤ B := by omega
  have t3 : r3 < B + 1 := by omega
  have t11 : r11 < B + 1 := by omega
  have t5 : w.heap.size < B + 1 := by omega
  go_loopw [15] (fun t wr => Hid (∃ (i : Nat) (lo hi : Int), i ≤ NL ∧ t = .int .i64 i ∧ WidK w w.heap.size (w.heap.size + 1 + 1) B r3 r11 (XCells tab pan top bot r3 r7 r11 c3 c7 c11 slo true) pan bot 1 0 (some ⟨gl, go, none⟩) (some ⟨fb0, 0, none⟩) (upL l0 NL) [0] lo hi wr ∧ InvW (wF l0 0 c) 1 sl sh i 0 lo hi)) (fun t _ => NL - (intOf t).toNat)
  case atStart => exact Lib.hid ⟨0, sl, sh, Nat.zero_le _, rfl, K0, InvW.start _ _ _ _⟩
  case round =>
    clear K0
    obtain ⟨i, lo, hi, hiN, rfl, K, V⟩ := hrel.out
    clear hrel
    by_cases hlt : i < NL
    case neg =>
      obtain rfl : i = NL := by omega
      have s5 := K.s.1.2 0 _ rfl
      have s6 := K.s.1.2 1 _ rfl
      obtain ⟨y0, y1⟩ := K.z.1.c2
      have z0 := K.z.2 0
      have z1 := K.z.2 1
      have HV := Lib.hid V
      have gK := K.g
      have hle10 : w.heap.size ≤ w.heap.size + 1 + 1 := by omega
      clear V K
      go_wp2
      refine bodyPost_ret (v := .agg #[.int .i64 lo, .int .i64 hi]) (by simp [results, Try.results27, go_sem, y0, y1]) rfl ⟨lo, hi, rfl, (gK.setCell hle10 _).setCell hle10 _, ?_⟩
      have e := HE.out
      rw [e.1, e.2]
      exact HV.out
    have HV := Lib.hid V
    clear V
    have hil : (i : Int) < (NL : Int) := by omega
    go_wp2
    go_loopw [16] (fun t wr => Hid (∃ (k : Nat) (lo hi : Int), k ≤ 1 ∧ t = .int .i64 k ∧ WidK w w.heap.size (w.heap.size + 1 + 1) B r3 r11 (XCells tab pan top bot r3 r7 r11 c3 c7 c11 slo true) pan bot 1 0 (some ⟨gl, go, none⟩) (some ⟨fb0, 0, none⟩) (upL l0 NL) [0] lo hi wr ∧ InvW (wF l0 0 c) 1 sl sh i k lo hi)) (fun t _ => 1 - (intOf t).toNat)
    case atStart => exact Lib.hid ⟨0, lo, hi, Nat.zero_le _, rfl, K, HV.out⟩
    case round =>
      clear K HV lo hi
      obtain ⟨k, lo, hi, hkN, rfl, K, V⟩ := hrel.out
      clear hrel
      by_cases hkt : k < 1
      case neg =>
        obtain rfl : k = 1 := by omega
        have HV := Lib.hid V.row
        clear V
        go_wp2
        go_roundw
        case rel => exact Lib.hid ⟨i + 1, lo, hi, by omega, by go_num, K, HV.out⟩
        case measure => simp [intOf]; omega
      obtain ⟨gK, ks, kz, ⟨xh, kx⟩, ⟨yp, kp⟩, ⟨yb, kb⟩, kl, kf⟩ := K
      have hkl : (k : Int) < (1 : Int) := by omega
      obtain ⟨_, _, e9, _, cl⟩ := IRow.get kl (upL_get hlt)
      cases e9
      obtain ⟨_, _, e9, _, cf⟩ := IRow.get kf (show ([0] : List Int)[k]? = some 0 by obtain rfl : k = 0 := (by omega); rfl)
      cases e9
      have HV := Lib.hid (V.step hkt)
      clear V
      obtain ⟨nv, hnv⟩ : ∃ z, wF l0 0 c i k = z := ⟨_, rfl⟩
      rw [hnv] at HV
      try simp only [Nat.zero_add] at cf
      try simp only [Nat.zero_add] at cl
      have mjl : 1 < pan.length := by omega
      have mql : 0 < bot.length := by omega
      have mjp : (1 : Int) < (pan.length : Int) := by omega
      have mqp : (0 : Int) < (bot.length : Int) := by omega
      go_upto_region 20 with fail
      have hF : Held2 B 1 (.slice (some ⟨r3, 0, none⟩) pan.length c3) gl (go + i) (.int .i64 (l0 + (i : Int))) wr.drew := ⟨(kx.keep (Gr.dr _)).1.2 1 _ rfl, (Gr.dr _).keep cl⟩
      haveI : Nonempty (AtW (Held2 B 1 (.slice (some ⟨r3, 0, none⟩) pan.length c3) gl (go + i) (.int .i64 (l0 + (i : Int))))) := ⟨⟨_, hF⟩⟩
      have z0 : ∀ u : AtW (Held2 B 1 (.slice (some ⟨r3, 0, none⟩) pan.length c3) gl (go + i) (.int .i64 (l0 + (i : Int)))), u.val.cell? ⟨B, 1, none⟩ = some (.slice (some ⟨r3, 0, none⟩) pan.length c3) := fun u => u.property.1
      have z1 : ∀ u : AtW (Held2 B 1 (.slice (some ⟨r3, 0, none⟩) pan.length c3) gl (go + i) (.int .i64 (l0 + (i : Int)))), u.val.cell? ⟨gl, go + i, none⟩ = some (.int .i64 (l0 + (i : Int))) := fun u => u.property.2
      refine wp_region_ord (fun w' => ∃ u : AtW (Held2 B 1 (.slice (some ⟨r3, 0, none⟩) pan.length c3) gl (go + i) (.int .i64 (l0 + (i : Int)))), w' = u.val) 8 ((List.range' 0 8).map (fun i => (i, true)) ++ []) (by kernel_rfl) (by kernel_rfl) ⟨⟨_, hF⟩, rfl⟩ ?_
      refine ord_seg 0 8 (by kernel_rfl) (fun d _ _ _ _ h => by cases d <;> exact h) ?_
      simp only [List.drop_zero, List.take_succ_cons, List.take_zero]
      repeat (go_big_quiet_step (fail))
      refine wpQuiet_nil ?_
      clear z0 z1
      show wpList _ _ _ (List.drop 8 _) _ _
      simp only [List.drop_succ_cons, List.drop_zero]
      have w0 := (kp.keep (Gr.dr wr)).1.2 1 (.int .i64 yp) (by simp [mjl])
      have z0 := (kp.keep (Gr.dr wr)).2 1
      go_upto_region 21 with fail
      refine wp_abs (fun V => Gr w V ∧ Own V w.heap.size [.int .i64 lo, .int .i64 hi] ∧ Own V (w.heap.size + 1 + 1) [.int .i64 0, .int .i64 0] ∧ Own V B (XCells tab pan top bot r3 r7 r11 c3 c7 c11 slo true xh) ∧ Own V r3 ((pan.set 1 (l0 + (i : Int))).map (fun n => Value.int .i64 n)) ∧ Own V r11 ((bot.set 0 yb).map (fun n => Value.int .i64 n)) ∧ IRow V (some ⟨gl, go, none⟩) (upL l0 NL) ∧ IRow V (some ⟨fb0, 0, none⟩) [0]) ⟨(gK.tr (Gr.dr _)).setCell le3 _, (ks.keep (Gr.dr _)).other lr3, (kz.keep (Gr.dr _)).other e103, (kx.keep (Gr.dr _)).other e3B.symm, by have h9 := (kp.keep (Gr.dr _)).set (i := 1) (v := .int .i64 (l0 + (i : Int))) (by simpa using mjl); rw [map_set] at h9; exact h9, (kb.keep (Gr.dr _)).other n3b.symm, (kl.grow (Gr.dr _)).other nl t3, (kf.grow (Gr.dr _)).other nf t3⟩ ?_
      clear gK ks kz kx kp kb kl kf w0 z0 hF
      rintro wr ⟨gK, ks, kz, kx, kp, kb, kl, kf⟩
      clear cl cf
      obtain ⟨_, _, e9, _, cf⟩ := IRow.get kf (show ([0] : List Int)[k]? = some 0 by obtain rfl : k = 0 := (by omega); rfl)
      cases e9
      try simp only [Nat.zero_add] at cf
      go_upto_region 21 with fail
      have hF : Held2 B 4 (.slice (some ⟨r11, 0, none⟩) bot.length c11) fb0 (k) (.int .i64 0) wr.drew := ⟨(kx.keep (Gr.dr _)).1.2 4 _ rfl, (Gr.dr _).keep cf⟩
      haveI : Nonempty (AtW (Held2 B 4 (.slice (some ⟨r11, 0, none⟩) bot.length c11) fb0 (k) (.int .i64 0))) := ⟨⟨_, hF⟩⟩
      have z0 : ∀ u : AtW (Held2 B 4 (.slice (some ⟨r11, 0, none⟩) bot.length c11) fb0 (k) (.int .i64 0)), u.val.cell? ⟨B, 4, none⟩ = some (.slice (some ⟨r11, 0, none⟩) bot.length c11) := fun u => u.property.1
      have z1 : ∀ u : AtW (Held2 B 4 (.slice (some ⟨r11, 0, none⟩) bot.length c11) fb0 (k) (.int .i64 0)), u.val.cell? ⟨fb0, k, none⟩ = some (.int .i64 0) := fun u => u.property.2
      refine wp_region_ord (fun w' => ∃ u : AtW (Held2 B 4 (.slice (some ⟨r11, 0, none⟩) bot.length c11) fb0 (k) (.int .i64 0)), w' = u.val) 7 ((List.range' 0 7).map (fun i => (i, true)) ++ []) (by kernel_rfl) (by kernel_rfl) ⟨⟨_, hF⟩, rfl⟩ ?_
      refine ord_seg 0 7 (by kernel_rfl) (fun d _ _ _ _ h => by cases d <;> exact h) ?_
      simp only [List.drop_zero, List.take_succ_cons, List.take_zero]
      repeat (go_big_quiet_step (fail))
      refine wpQuiet_nil ?_
      clear z0 z1
      show wpList _ _ _ (List.drop 7 _) _ _
      simp only [List.drop_succ_cons, List.drop_zero]
      have w0 := (kb.keep (Gr.dr wr)).1.2 0 (.int .i64 yb) (by simp [mql])
      have z0 := (kb.keep (Gr.dr wr)).2 0
      go_upto_region 22 with fail
      refine wp_abs (fun V => Gr w V ∧ Own V w.heap.size [.int .i64 lo, .int .i64 hi] ∧ Own V (w.heap.size + 1 + 1) [.int .i64 0, .int .i64 0] ∧ Own V B (XCells tab pan top bot r3 r7 r11 c3 c7 c11 slo true xh) ∧ Own V r3 ((pan.set 1 (l0 + (i : Int))).map (fun n => Value.int .i64 n)) ∧ Own V r11 ((bot.set 0 0).map (fun n => Value.int .i64 n)) ∧ IRow V (some ⟨gl, go, none⟩) (upL l0 NL) ∧ IRow V (some ⟨fb0, 0, none⟩) [0]) ⟨(gK.tr (Gr.dr _)).setCell le11 _, (ks.keep (Gr.dr _)).other lr11, (kz.keep (Gr.dr _)).other e1011, (kx.keep (Gr.dr _)).other e11B.symm, (kp.keep (Gr.dr _)).other n3b, by have h9 := (kb.keep (Gr.dr _)).set (i := 0) (v := .int .i64 0) (by simpa using mql); rw [map_set] at h9; exact h9, (kl.grow (Gr.dr _)).other nl t11, (kf.grow (Gr.dr _)).other nf t11⟩ ?_
      clear gK ks kz kx kp kb kl kf w0 z0 hF
      rintro V1 ⟨gK, ks, kz, kx, kp, kb, kl, kf⟩
      have PC := Lib.hid (fun (W' : World) (hr : IRow W' (some ⟨r3, 0, none⟩) (pan.set 1 (l0 + (i : Int)))) (h7 : True) (hs : IRow W' (some ⟨r11, 0, none⟩) (bot.set 0 0)) => show Calls Try.prog 72 #[.agg #[.int .i64 tab, .slice (some ⟨r3, 0, none⟩) pan.length c3, .int .i64 xh, .slice (some ⟨r7, 0, none⟩) top.length c7, .slice (some ⟨r11, 0, none⟩) bot.length c11, .int .i64 slo, .bool true], .bool false, .bool true, .int .i64 c] W' (fun e w' => e = .returned (.int .i64 nv) ∧ Gr W' w') from by
        have h := refGapOut_any tab xh slo (pan.set 1 (l0 + (i : Int))) top (bot.set 0 0) (some ⟨r3, 0, none⟩) (some ⟨r7, 0, none⟩) (some ⟨r11, 0, none⟩) c3 c7 c11 true (l0 + (i : Int)) 0 c nv (by rw [← hnv]; unfold wF; omega) (by simp [mjl]) (by simp [mql]) (by omega) (by omega) (by omega) (by omega) c0 (by omega) W' hr hs
        rw [set_len4, set_len4] at h
        exact h)
      have x0 := kx.1.2 0 _ rfl
      have x1 := kx.1.2 1 _ rfl
      have x2 := kx.1.2 2 _ rfl
      have x3 := kx.1.2 3 _ rfl
      have x4 := kx.1.2 4 _ rfl
      have x5 := kx.1.2 5 _ rfl
      have x6 := kx.1.2 6 _ rfl
      have HNV := Lib.hid hnv
      clear hnv cf
      go_wp2_with (first
        | (go_at_call 72; refine (PC.out _ (Own.row kp (by rw [set_len4]; omega)) trivial (Own.row kb (by rw [set_len4]; omega))).mono ?_; rintro e w4 ⟨rfl, g4⟩; replace gK := gK.tr g4; replace ks := ks.keep g4; replace kz := kz.keep g4; replace kx := kx.keep g4; replace kp := kp.keep g4; replace kb := kb.keep g4; replace kl := kl.grow g4; replace kf := kf.grow g4; clear x0 x1 x2 x3 x4 x5 x6 PC; have s0 := ks.1.2 0 _ rfl; have s1 := ks.1.2 1 _ rfl)
        | (go_at_call 26; refine (span02_any _ _ _).mono ?_; rintro e w5 ⟨rfl, g5⟩; replace gK := gK.tr g5; replace ks := ks.keep g5; replace kz := kz.keep g5; replace kx := kx.keep g5; replace kp := kp.keep g5; replace kb := kb.keep g5; replace kl := kl.grow g5; replace kf := kf.grow g5; clear s0 s1; have s0 := ks.1.2 0 _ rfl; have s1 := ks.1.2 1 _ rfl; have z0 := ks.2 0; have z1 := ks.2 1))
      go_roundw
      case rel => exact Lib.hid ⟨k + 1, _, _, by omega, by go_num, ⟨(gK.setCell (p := ⟨w.heap.size, 0, none⟩) (Nat.le_refl _) _).setCell (p := ⟨w.heap.size, 1, none⟩) (Nat.le_refl _) _, (ks.set (i := 0) (by simp)).set (i := 1) (by simp), (kz.other e56.symm).other e56.symm, ⟨_, (kx.other e5B.symm).other e5B.symm⟩, ⟨_, (kp.other lr3.symm).other lr3.symm⟩, ⟨_, (kb.other lr11.symm).other lr11.symm⟩, (kl.other nl t5).other nl t5, (kf.other nf t5).other nf t5⟩, HV.out⟩
      case measure => simp [intOf]; omega

def WidPostF6 (sl sh off c n f : Int) (w : World) (e : Ending) (w' : World) : Prop := ∃ lo hi, e = .returned (.agg #[.int .i64 lo, .int .i64 hi]) ∧ Gr w w' ∧ InvW (wF (arLo n off 1) 0 c) 1 sl sh (arN n off 1) 0 lo hi

set_option maxRecDepth 100000 in
set_option maxHeartbeats 8000000 in
theorem widened_F6 (tab hei slo : Int) (pan top bot : List Int) (pa ta ba : Option Addr) (pc tc bc : Nat) (G : GoodB tab hei slo pan top bot true) (off c sl sh : Int) (o0 : 0 ≤ off) (o1 : off ≤ 5) (c0 : 0 ≤ c) (c1 : c ≤ 10000) (n : Int)  (hx : pan[0]? = some n) (w : World) (hp : IRow w pa pan) (ht : IRow w ta top) (hb : IRow w ba bot) :
    Calls Try.prog 27 #[.agg #[.int .i64 sl, .int .i64 sh], .agg #[.int .i64 tab, .slice pa pan.length pc, .int .i64 hei, .slice ta top.length tc, .slice ba bot.length bc, .int .i64 slo, .bool true], .int .i64 6, .int .i64 c, .int .i64 off] w (WidPostF6 sl sh off c n 0 w) := by
  have gg := ((Gr.al w (.cells #[.int .i64 sl, .int .i64 sh] 37)).tr (Gr.al _ (.cells #[.int .i64 tab, .slice pa pan.length pc, .int .i64 hei, .slice ta top.length tc, .slice ba bot.length bc, .int .i64 slo, .bool true] 24))).tr (Gr.al _ (.cells #[.int .i64 0, .int .i64 0] 37))
  have h5 := (Own.new w [.int .i64 sl, .int .i64 sh] 37 w.heap.size rfl).keep ((Gr.al _ (.cells #[.int .i64 tab, .slice pa pan.length pc, .int .i64 hei, .slice ta top.length tc, .slice ba bot.length bc, .int .i64 slo, .bool true] 24)).tr (Gr.al _ (.cells #[.int .i64 0, .int .i64 0] 37)))
  have h6 := (Box.new (w.alloc (.cells #[.int .i64 sl, .int .i64 sh] 37)) [.int .i64 tab, .slice pa pan.length pc, .int .i64 hei, .slice ta top.length tc, .slice ba bot.length bc, .int .i64 slo, .bool true] 24 (w.heap.size + 1) (by simp)).keep (Gr.al _ (.cells #[.int .i64 0, .int .i64 0] 37))
  have h10 := Own.new ((w.alloc (.cells #[.int .i64 sl, .int .i64 sh] 37)).alloc (.cells #[.int .i64 tab, .slice pa pan.length pc, .int .i64 hei, .slice ta top.length tc, .slice ba bot.length bc, .int .i64 slo, .bool true] 24)) [.int .i64 0, .int .i64 0] 37 (w.heap.size + 1 + 1) (by simp)
  have HP := Lib.hid hp
  have HT := Lib.hid ht
  have HB := Lib.hid hb
  have HG := Lib.hid G
  clear hp ht hb
  obtain ⟨b0, b1, b2, b3, b4, b5, b6⟩ := h6.c7
  go_enter Try.func27, Try.ntmps27
  go_upto_region 2 with (go_at_call 16; refine (own02_own tab hei slo pan top bot pa ta ba pc tc bc true (by rw [HG.out.l4]; omega) (by rw [HG.out.t2]; omega) (by rw [HG.out.b2]; omega) _ (HP.out.grow gg) (HT.out.grow gg) (HB.out.grow gg)).mono ?_; rintro e w1 ⟨r3, c3, r7, c7, r11, c11, rfl, g1, o3, o7, o11, ⟨n3, n7, n11⟩, n37, n3b, n7b⟩)
  obtain ⟨B, hB⟩ : ∃ B, B = w1.heap.size := ⟨_, rfl⟩
  have ho := Own.new w1 (XCells tab pan top bot r3 r7 r11 c3 c7 c11 slo true hei) 24 B hB
  have gq := g1.tr (Gr.al w1 (.cells (XCells tab pan top bot r3 r7 r11 c3 c7 c11 slo true hei).toArray 24))
  have gq1 := Gr.al w1 (.cells (XCells tab pan top bot r3 r7 r11 c3 c7 c11 slo true hei).toArray 24)
  have l3 : r3 < B := hB ▸ o3.1.1
  have l11 : r11 < B := hB ▸ o11.1.1
  have l6 := h6.1
  have l10 := h10.1.1
  have lB : w.heap.size + 1 + 1 < B := by have := g1.size; omega
  have m3 : w.heap.size + 1 + 1 < r3 := by omega
  have m11 : w.heap.size + 1 + 1 < r11 := by omega
  rw [← hB]
  refine wp_abs (fun X => Gr w X ∧ Own X w.heap.size [.int .i64 sl, .int .i64 sh] ∧ Box X (w.heap.size + 1) [.int .i64 tab, .slice pa pan.length pc, .int .i64 hei, .slice ta top.length tc, .slice ba bot.length bc, .int .i64 slo, .bool true] ∧ Own X (w.heap.size + 1 + 1) [.int .i64 0, .int .i64 0] ∧ Own X B (XCells tab pan top bot r3 r7 r11 c3 c7 c11 slo true hei) ∧ Own X r3 (pan.map (fun n => Value.int .i64 n)) ∧ Own X r11 (bot.map (fun n => Value.int .i64 n)) ∧ B < X.heap.size) ⟨gg.tr gq, h5.keep gq, h6.keep gq, h10.keep gq, ho, o3.keep gq1, o11.keep gq1, ho.1.1⟩ ?_
  clear gg h5 h6 h10 ho o3 o7 o11 gq gq1 hB n3 n7 n11 n37 n7b g1 l6 l10 b0 b1 b2 b3 b4 b5 b6
  rintro X ⟨gX, h5, h6, h10, ho, o3, o11, lX⟩
  obtain ⟨b0, b1, b2, b3, b4, b5, b6⟩ := h6.c7
  obtain ⟨nn0, nn1⟩ := in_at HG.out.gpan hx
  have hpl : 4 ≤ pan.length ∧ pan.length ≤ 4 := by rw [HG.out.l4]; omega
  obtain ⟨pb, po, rfl, _, hc⟩ := IRow.get (HP.out.grow gX) hx
  try simp only [Nat.add_zero] at hc
  have hbl : 2 ≤ bot.length ∧ bot.length ≤ 2 := by rw [HG.out.b2]; omega
  have htl : 2 ≤ top.length ∧ top.length ≤ 2 := by rw [HG.out.t2]; omega
  have hbp : (1 : Int) < (bot.length : Int) := by omega
  have hbq : (0 : Int) < (bot.length : Int) := by omega
  have htp : (1 : Int) < (top.length : Int) := by omega
  have htq : (0 : Int) < (top.length : Int) := by omega
  have hbr : 1 < bot.length ∧ 0 < bot.length := by omega
  have htr : 1 < top.length ∧ 0 < top.length := by omega
  skip
  have lr3 : w.heap.size ≠ r3 := by omega
  have lr11 : w.heap.size ≠ r11 := by omega
  have gA := (Gr.al X (.cells #[] 3)).tr (Gr.al _ (.cells #[.int .i64 0] 3))
  have h6 := h6.keep gA
  clear b0 b1 b2 b3 b4 b5 b6
  obtain ⟨b0, b1, b2, b3, b4, b5, b6⟩ := h6.c7
  clear hc
  obtain ⟨_, _, eq9, _, hc⟩ := IRow.get (HP.out.grow (gX.tr gA)) hx
  cases eq9
  try simp only [Nat.add_zero] at hc
  have rf := IRow.new' (X.alloc (.cells #[] 3)) 3 [0] (by simp) (X.heap.size + 1) (by simp) (#[.int .i64 0]) (by rfl)
  go_wp2_with (go_at_call 70; refine (refAround_any n off 1 (by omega) (by omega) o0 o1 (by omega) _).mono ?_; rintro e w2 ⟨la, lc, rfl, g2, rl, nl⟩; replace h6 := h6.keep g2; clear b0 b1 b2 b3 b4 b5 b6; obtain ⟨b0, b1, b2, b3, b4, b5, b6⟩ := h6.c7)
  obtain ⟨fb0, hfb⟩ : ∃ z, X.heap.size + 1 = z := ⟨_, rfl⟩
  rw [hfb] at rf ⊢
  have nf : NewAt (B + 1) (some (⟨fb0, 0, none⟩ : Addr)) := fun b f c e => by cases e; omega
  replace rf := rf.grow g2
  have W2 : Gr X w2 := gA.tr g2
  have hlp : 0 < arN n off 1 := by unfold arN arHi arLo; omega
  obtain ⟨gl, go, rfl, _, _⟩ := IRow.get rl (upL_get hlp)
  have nl : NewAt (B + 1) (some (⟨gl, go, none⟩ : Addr)) := nl.le (by have := gA.size; omega)
  obtain ⟨NL, hNL⟩ : ∃ k, arN n off 1 = k := ⟨_, rfl⟩
  obtain ⟨l0, hl0⟩ : ∃ k, arLo n off 1 = k := ⟨_, rfl⟩
  have nn : 1 ≤ l0 ∧ l0 ≤ n ∧ 0 < NL ∧ NL ≤ 11 ∧ l0 + (NL : Int) ≤ 3001 := by unfold arN arHi arLo at hNL; unfold arLo at hl0; omega
  rw [show arL n off 1 = upL l0 NL by unfold arL; rw [hNL, hl0]] at rl
  rw [hNL]
  have hsp := set_self pan 0
  have hsb := set_self bot 1
  have K0 : WidK w w.heap.size (w.heap.size + 1 + 1) B r3 r11 (XCells tab pan top bot r3 r7 r11 c3 c7 c11 slo true) pan bot 0 1 (some ⟨gl, go, none⟩) (some ⟨fb0, 0, none⟩) (upL l0 NL) [0] sl sh w2 := ⟨gX.tr W2, h5.keep W2, h10.keep W2, ⟨_, ho.keep W2⟩, ⟨pan.getD 0 0, by rw [← hsp]; exact o3.keep W2⟩, ⟨bot.getD 1 0, by rw [← hsb]; exact o11.keep W2⟩, rl, rf⟩
  have HE := (Lib.hid (And.intro hNL hl0))
  have HX := Lib.hid hx
  clear hsp hsb rl rf h5 h6 h10 ho o3 o11 b0 b1 b2 b3 b4 b5 b6 gX gA g2  W2 hNL hl0 hlp hc
  have e56 : w.heap.size ≠ w.heap.size + 1 + 1 := by omega
  have e5B : w.heap.size ≠ B := by omega
  have e10B : w.heap.size + 1 + 1 ≠ B := by omega
  have e103 : w.heap.size + 1 + 1 ≠ r3 := by omega
  have e1011 : w.heap.size + 1 + 1 ≠ r11 := by omega
  have e3B : r3 ≠ B := by omega
  have e11B : r11 ≠ B := by omega
  have le3 : w.heap.size ≤ r3 := by omega
  have le11 : w.heap.size ≤ r11 := by omega
  have leB : w.heap.size ≤ B := by omega
  have t3 : r3 < B + 1 := by omega
  have t11 : r11 < B + 1 := by omega
  have t5 : w.heap.size < B + 1 := by omega
  go_loopw [15] (fun t wr => Hid (∃ (i : Nat) (lo hi : Int), i ≤ NL ∧ t = .int .i64 i ∧ WidK w w.heap.size (w.heap.size + 1 + 1) B r3 r11 (XCells tab pan top bot r3 r7 r11 c3 c7 c11 slo true) pan bot 0 1 (some ⟨gl, go, none⟩) (some ⟨fb0, 0, none⟩) (upL l0 NL) [0] lo hi wr ∧ InvW (wF l0 0 c) 1 sl sh i 0 lo hi)) (fun t _ => NL - (intOf t).toNat)
  case atStart => exact Lib.hid ⟨0, sl, sh, Nat.zero_le _, rfl, K0, InvW.start _ _ _ _⟩
  case round =>
    clear K0
    obtain ⟨i, lo, hi, hiN, rfl, K, V⟩ := hrel.out
    clear hrel
    by_cases hlt : i < NL
    case neg =>
      obtain rfl : i = NL := by omega
      have s5 := K.s.1.2 0 _ rfl
      have s6 := K.s.1.2 1 _ rfl
      obtain ⟨y0, y1⟩ := K.z.1.c2
      have z0 := K.z.2 0
      have z1 := K.z.2 1
      have HV := Lib.hid V
      have gK := K.g
      have hle10 : w.heap.size ≤ w.heap.size + 1 + 1 := by omega
      clear V K
      go_wp2
      refine bodyPost_ret (v := .agg #[.int .i64 lo, .int .i64 hi]) (by simp [results, Try.results27, go_sem, y0, y1]) rfl ⟨lo, hi, rfl, (gK.setCell hle10 _).setCell hle10 _, ?_⟩
      have e := HE.out
      rw [e.1, e.2]
      exact HV.out
    have HV := Lib.hid V
    clear V
    have hil : (i : Int) < (NL : Int) := by omega
    go_wp2
    go_loopw [16] (fun t wr => Hid (∃ (k : Nat) (lo hi : Int), k ≤ 1 ∧ t = .int .i64 k ∧ WidK w w.heap.size (w.heap.size + 1 + 1) B r3 r11 (XCells tab pan top bot r3 r7 r11 c3 c7 c11 slo true) pan bot 0 1 (some ⟨gl, go, none⟩) (some ⟨fb0, 0, none⟩) (upL l0 NL) [0] lo hi wr ∧ InvW (wF l0 0 c) 1 sl sh i k lo hi)) (fun t _ => 1 - (intOf t).toNat)
    case atStart => exact Lib.hid ⟨0, lo, hi, Nat.zero_le _, rfl, K, HV.out⟩
    case round =>
      clear K HV lo hi
      obtain ⟨k, lo, hi, hkN, rfl, K, V⟩ := hrel.out
      clear hrel
      by_cases hkt : k < 1
      case neg =>
        obtain rfl : k = 1 := by omega
        have HV := Lib.hid V.row
        clear V
        go_wp2
        go_roundw
        case rel => exact Lib.hid ⟨i + 1, lo, hi, by omega, by go_num, K, HV.out⟩
        case measure => simp [intOf]; omega
      obtain ⟨gK, ks, kz, ⟨xh, kx⟩, ⟨yp, kp⟩, ⟨yb, kb⟩, kl, kf⟩ := K
      have hkl : (k : Int) < (1 : Int) := by omega
      obtain ⟨_, _, e9, _, cl⟩ := IRow.get kl (upL_get hlt)
      cases e9
      obtain ⟨_, _, e9, _, cf⟩ := IRow.get kf (show ([0] : List Int)[k]? = some 0 by obtain rfl : k = 0 := (by omega); rfl)
      cases e9
      have HV := Lib.hid (V.step hkt)
      clear V
      obtain ⟨nv, hnv⟩ : ∃ z, wF l0 0 c i k = z := ⟨_, rfl⟩
      rw [hnv] at HV
      try simp only [Nat.zero_add] at cf
      try simp only [Nat.zero_add] at cl
      have mjl : 0 < pan.length := by omega
      have mql : 1 < bot.length := by omega
      have mjp : (0 : Int) < (pan.length : Int) := by omega
      have mqp : (1 : Int) < (bot.length : Int) := by omega
      go_upto_region 20 with fail
      have hF : Held2 B 1 (.slice (some ⟨r3, 0, none⟩) pan.length c3) gl (go + i) (.int .i64 (l0 + (i : Int))) wr.drew := ⟨(kx.keep (Gr.dr _)).1.2 1 _ rfl, (Gr.dr _).keep cl⟩
      haveI : Nonempty (AtW (Held2 B 1 (.slice (some ⟨r3, 0, none⟩) pan.length c3) gl (go + i) (.int .i64 (l0 + (i : Int))))) := ⟨⟨_, hF⟩⟩
      have z0 : ∀ u : AtW (Held2 B 1 (.slice (some ⟨r3, 0, none⟩) pan.length c3) gl (go + i) (.int .i64 (l0 + (i : Int)))), u.val.cell? ⟨B, 1, none⟩ = some (.slice (some ⟨r3, 0, none⟩) pan.length c3) := fun u => u.property.1
      have z1 : ∀ u : AtW (Held2 B 1 (.slice (some ⟨r3, 0, none⟩) pan.length c3) gl (go + i) (.int .i64 (l0 + (i : Int)))), u.val.cell? ⟨gl, go + i, none⟩ = some (.int .i64 (l0 + (i : Int))) := fun u => u.property.2
      refine wp_region_ord (fun w' => ∃ u : AtW (Held2 B 1 (.slice (some ⟨r3, 0, none⟩) pan.length c3) gl (go + i) (.int .i64 (l0 + (i : Int)))), w' = u.val) 8 ((List.range' 0 8).map (fun i => (i, true)) ++ []) (by kernel_rfl) (by kernel_rfl) ⟨⟨_, hF⟩, rfl⟩ ?_
      refine ord_seg 0 8 (by kernel_rfl) (fun d _ _ _ _ h => by cases d <;> exact h) ?_
      simp only [List.drop_zero, List.take_succ_cons, List.take_zero]
      repeat (go_big_quiet_step (fail))
      refine wpQuiet_nil ?_
      clear z0 z1
      show wpList _ _ _ (List.drop 8 _) _ _
      simp only [List.drop_succ_cons, List.drop_zero]
      have w0 := (kp.keep (Gr.dr wr)).1.2 0 (.int .i64 yp) (by simp [mjl])
      have z0 := (kp.keep (Gr.dr wr)).2 0
      go_upto_region 21 with fail
      refine wp_abs (fun V => Gr w V ∧ Own V w.heap.size [.int .i64 lo, .int .i64 hi] ∧ Own V (w.heap.size + 1 + 1) [.int .i64 0, .int .i64 0] ∧ Own V B (XCells tab pan top bot r3 r7 r11 c3 c7 c11 slo true xh) ∧ Own V r3 ((pan.set 0 (l0 + (i : Int))).map (fun n => Value.int .i64 n)) ∧ Own V r11 ((bot.set 1 yb).map (fun n => Value.int .i64 n)) ∧ IRow V (some ⟨gl, go, none⟩) (upL l0 NL) ∧ IRow V (some ⟨fb0, 0, none⟩) [0]) ⟨(gK.tr (Gr.dr _)).setCell le3 _, (ks.keep (Gr.dr _)).other lr3, (kz.keep (Gr.dr _)).other e103, (kx.keep (Gr.dr _)).other e3B.symm, by have h9 := (kp.keep (Gr.dr _)).set (i := 0) (v := .int .i64 (l0 + (i : Int))) (by simpa using mjl); rw [map_set] at h9; exact h9, (kb.keep (Gr.dr _)).other n3b.symm, (kl.grow (Gr.dr _)).other nl t3, (kf.grow (Gr.dr _)).other nf t3⟩ ?_
      clear gK ks kz kx kp kb kl kf w0 z0 hF
      rintro wr ⟨gK, ks, kz, kx, kp, kb, kl, kf⟩
      clear cl cf
      obtain ⟨_, _, e9, _, cf⟩ := IRow.get kf (show ([0] : List Int)[k]? = some 0 by obtain rfl : k = 0 := (by omega); rfl)
      cases e9
      try simp only [Nat.zero_add] at cf
      go_upto_region 21 with fail
      have hF : Held2 B 4 (.slice (some ⟨r11, 0, none⟩) bot.length c11) fb0 (k) (.int .i64 0) wr.drew := ⟨(kx.keep (Gr.dr _)).1.2 4 _ rfl, (Gr.dr _).keep cf⟩
      haveI : Nonempty (AtW (Held2 B 4 (.slice (some ⟨r11, 0, none⟩) bot.length c11) fb0 (k) (.int .i64 0))) := ⟨⟨_, hF⟩⟩
      have z0 : ∀ u : AtW (Held2 B 4 (.slice (some ⟨r11, 0, none⟩) bot.length c11) fb0 (k) (.int .i64 0)), u.val.cell? ⟨B, 4, none⟩ = some (.slice (some ⟨r11, 0, none⟩) bot.length c11) := fun u => u.property.1
      have z1 : ∀ u : AtW (Held2 B 4 (.slice (some ⟨r11, 0, none⟩) bot.length c11) fb0 (k) (.int .i64 0)), u.val.cell? ⟨fb0, k, none⟩ = some (.int .i64 0) := fun u => u.property.2
      refine wp_region_ord (fun w' => ∃ u : AtW (Held2 B 4 (.slice (some ⟨r11, 0, none⟩) bot.length c11) fb0 (k) (.int .i64 0)), w' = u.val) 7 ((List.range' 0 7).map (fun i => (i, true)) ++ []) (by kernel_rfl) (by kernel_rfl) ⟨⟨_, hF⟩, rfl⟩ ?_
      refine ord_seg 0 7 (by kernel_rfl) (fun d _ _ _ _ h => by cases d <;> exact h) ?_
      simp only [List.drop_zero, List.take_succ_cons, List.take_zero]
      repeat (go_big_quiet_step (fail))
      refine wpQuiet_nil ?_
      clear z0 z1
      show wpList _ _ _ (List.drop 7 _) _ _
      simp only [List.drop_succ_cons, List.drop_zero]
      have w0 := (kb.keep (Gr.dr wr)).1.2 1 (.int .i64 yb) (by simp [mql])
      have z0 := (kb.keep (Gr.dr wr)).2 1
      go_upto_region 22 with fail
      refine wp_abs (fun V => Gr w V ∧ Own V w.heap.size [.int .i64 lo, .int .i64 hi] ∧ Own V (w.heap.size + 1 + 1) [.int .i64 0, .int .i64 0] ∧ Own V B (XCells tab pan top bot r3 r7 r11 c3 c7 c11 slo true xh) ∧ Own V r3 ((pan.set 0 (l0 + (i : Int))).map (fun n => Value.int .i64 n)) ∧ Own V r11 ((bot.set 1 0).map (fun n => Value.int .i64 n)) ∧ IRow V (some ⟨gl, go, none⟩) (upL l0 NL) ∧ IRow V (some ⟨fb0, 0, none⟩) [0]) ⟨(gK.tr (Gr.dr _)).setCell le11 _, (ks.keep (Gr.dr _)).other lr11, (kz.keep (Gr.dr _)).other e1011, (kx.keep (Gr.dr _)).other e11B.symm, (kp.keep (Gr.dr _)).other n3b, by have h9 := (kb.keep (Gr.dr _)).set (i := 1) (v := .int .i64 0) (by simpa using mql); rw [map_set] at h9; exact h9, (kl.grow (Gr.dr _)).other nl t11, (kf.grow (Gr.dr _)).other nf t11⟩ ?_
      clear gK ks kz kx kp kb kl kf w0 z0 hF
      rintro V1 ⟨gK, ks, kz, kx, kp, kb, kl, kf⟩
      have PC := Lib.hid (fun (W' : World) (hr : IRow W' (some ⟨r3, 0, none⟩) (pan.set 0 (l0 + (i : Int)))) (h7 : True) (hs : IRow W' (some ⟨r11, 0, none⟩) (bot.set 1 0)) => show Calls Try.prog 72 #[.agg #[.int .i64 tab, .slice (some ⟨r3, 0, none⟩) pan.length c3, .int .i64 xh, .slice (some ⟨r7, 0, none⟩) top.length c7, .slice (some ⟨r11, 0, none⟩) bot.length c11, .int .i64 slo, .bool true], .bool false, .bool false, .int .i64 c] W' (fun e w' => e = .returned (.int .i64 nv) ∧ Gr W' w') from by
        have h := refGapIn_any tab xh slo (pan.set 0 (l0 + (i : Int))) top (bot.set 1 0) (some ⟨r3, 0, none⟩) (some ⟨r7, 0, none⟩) (some ⟨r11, 0, none⟩) c3 c7 c11 true (l0 + (i : Int)) 0 c nv (by rw [← hnv]; unfold wF; omega) (by simp [mjl]) (by simp [mql]) (by omega) (by omega) (by omega) (by omega) c0 (by omega) W' hr hs
        rw [set_len4, set_len4] at h
        exact h)
      have x0 := kx.1.2 0 _ rfl
      have x1 := kx.1.2 1 _ rfl
      have x2 := kx.1.2 2 _ rfl
      have x3 := kx.1.2 3 _ rfl
      have x4 := kx.1.2 4 _ rfl
      have x5 := kx.1.2 5 _ rfl
      have x6 := kx.1.2 6 _ rfl
      have HNV := Lib.hid hnv
      clear hnv cf
      go_wp2_with (first
        | (go_at_call 72; refine (PC.out _ (Own.row kp (by rw [set_len4]; omega)) trivial (Own.row kb (by rw [set_len4]; omega))).mono ?_; rintro e w4 ⟨rfl, g4⟩; replace gK := gK.tr g4; replace ks := ks.keep g4; replace kz := kz.keep g4; replace kx := kx.keep g4; replace kp := kp.keep g4; replace kb := kb.keep g4; replace kl := kl.grow g4; replace kf := kf.grow g4; clear x0 x1 x2 x3 x4 x5 x6 PC; have s0 := ks.1.2 0 _ rfl; have s1 := ks.1.2 1 _ rfl)
        | (go_at_call 26; refine (span02_any _ _ _).mono ?_; rintro e w5 ⟨rfl, g5⟩; replace gK := gK.tr g5; replace ks := ks.keep g5; replace kz := kz.keep g5; replace kx := kx.keep g5; replace kp := kp.keep g5; replace kb := kb.keep g5; replace kl := kl.grow g5; replace kf := kf.grow g5; clear s0 s1; have s0 := ks.1.2 0 _ rfl; have s1 := ks.1.2 1 _ rfl; have z0 := ks.2 0; have z1 := ks.2 1))
      go_roundw
      case rel => exact Lib.hid ⟨k + 1, _, _, by omega, by go_num, ⟨(gK.setCell (p := ⟨w.heap.size, 0, none⟩) (Nat.le_refl _) _).setCell (p := ⟨w.heap.size, 1, none⟩) (Nat.le_refl _) _, (ks.set (i := 0) (by simp)).set (i := 1) (by simp), (kz.other e56.symm).other e56.symm, ⟨_, (kx.other e5B.symm).other e5B.symm⟩, ⟨_, (kp.other lr3.symm).other lr3.symm⟩, ⟨_, (kb.other lr11.symm).other lr11.symm⟩, (kl.other nl t5).other nl t5, (kf.other nf t5).other nf t5⟩, HV.out⟩
      case measure => simp [intOf]; omega

end Go.Proofs.Ytafkoococfnakaa
