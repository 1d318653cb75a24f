/- The reference's In, Long, Check of chapter 2; the law's large; Size in general. (Made by gen_s33.py.) A row appended onto an empty one; the law's large; Size in general (chapter 2). The reference's Copy, the law's own (chapter 2). (Made by gen_s35.py.) ScoreSizes' body. (Made by gen_s36.py.) The reference's Span and Panel; Play's error. (Made by gen_s39.py.) The law's ints, the reference's Height and Inside, Holds' error. (Made by gen_s43.py.) Three measures, sorted; what fits into a box with thinner board. The reference's Inside: a thing fits in some order just if it does sorted. (Made by gen_s44.py.) ScoreHolds' body. (Made by gen_s45.py.) A law's end: it returned true and the world only grew. And: what an argument is that is made of integers of one kind. What an argument is that is a slice of small arrays of integers; a struct of three slices; the pieces of a struct. Blanks, spans and rows of ints that come in (chapter 2). -/
import Derived.Test.YtafkoococfnakaaQS32d
import Derived.Test.YtafkoococfnakaaQS32e
import Derived.Test.YtafkoococfnakaaQS32a
import Derived.Test.YtafkoococfnakaaQS32b
import Derived.ProofKit
import Derived.OpenShut
import Derived.ChangeSame
import Derived.Carry
namespace Go.Proofs.Ytafkoococfnakaa
set_option linter.unusedVariables false
set_option linter.unusedSimpArgs false
open Go.RowKit

theorem refIn02_any (n lo hi : Int) (d : Bool) (hd : in1 lo hi n = d) (w : World) :
    Calls Try.prog 25 #[.int .i64 n, .int .i64 lo, .int .i64 hi] w fun e w' => e = .returned (.bool d) ∧ Gr w w' := by
  subst hd
  by_cases h : lo ≤ n
  · have E := Lib.hid (show in1 lo hi n = decide (n ≤ hi) by simp [in1, h])
    go_enter Try.func25, Try.ntmps25
    go_wp2
    go_ret
    exact ⟨ret_bool E.out.symm, Below.refl _ _⟩
  · have E := Lib.hid (show in1 lo hi n = false by simp [in1, h])
    have h' : decide (lo ≤ n) = false := by simpa using h
    go_enter Try.func25, Try.ntmps25
    go_wp2
    go_ret
    exact ⟨ret_bool E.out.symm, Below.refl _ _⟩

theorem inB_cut {lo hi : Int} {l : List Int} {k : Nat} {x : Int} (hx : l[k]? = some x) : inB lo hi (l.take (k + 1)) = (inB lo hi (l.take k) && in1 lo hi x) := by
  unfold inB
  rw [List.take_add_one, hx]
  simp

set_option maxRecDepth 100000 in
set_option maxHeartbeats 1000000 in
theorem refLong02_any (lo : Int) (l : List Int) (d : Bool) (hd : inB lo 3000 l = d) (a : Option Addr) (c : Nat) (w : World) (hl : IRow w a l) :
    Calls Try.prog 36 #[.slice a l.length c, .int .i64 lo] w fun e w' => e = .returned (.bool d) ∧ Gr w w' := by
  subst hd
  have hl0 := hl.1
  go_enter Try.func36, Try.ntmps36
  go_wp2
  go_loopw [5] (fun t wr => Hid (∃ k : Nat, k ≤ l.length ∧ t = .int .i64 k ∧ Gr w wr ∧ inB lo 3000 (l.take k) = true)) (fun t _ => l.length - (intOf t).toNat)
  case atStart => exact Lib.hid ⟨0, Nat.zero_le _, rfl, Below.refl _ _, by simp [inB]⟩
  case round =>
    obtain ⟨k, hk, rfl, gW, ht⟩ := hrel.out
    clear hrel
    by_cases hlt : k < l.length
    · obtain ⟨x, hx⟩ : ∃ x, l[k]? = some x := ⟨l[k], by simp [hlt]⟩
      obtain ⟨b1, o1, rfl, h1, c1⟩ := IRow.get (hl.grow gW) hx
      cases hd : in1 lo 3000 x with
      | true =>
        have HT := Lib.hid (show inB lo 3000 (l.take (k + 1)) = true by rw [inB_cut hx, ht, hd]; rfl)
        have HX := Lib.hid hd
        clear ht hx hd
        go_wp2_with (go_at_call 25; refine (refIn02_any x lo 3000 true HX.out _).mono ?_; rintro e w1 ⟨rfl, g1⟩)
        go_roundw
        case rel => exact Lib.hid ⟨k + 1, by omega, by go_num, gW.tr g1, HT.out⟩
        case measure => simp [intOf]; omega
      | false =>
        have HD := Lib.hid (show inB lo 3000 l = false by
          rw [Bool.eq_false_iff]
          intro h
          have := List.all_eq_true.1 h x (List.mem_of_getElem? hx)
          rw [hd] at this
          cases this)
        have HX := Lib.hid hd
        clear ht hx hd
        go_wp2_with (go_at_call 25; refine (refIn02_any x lo 3000 false HX.out _).mono ?_; rintro e w1 ⟨rfl, g1⟩)
        go_ret
        exact ⟨ret_bool HD.out.symm, gW.tr g1⟩
    · obtain rfl : k = l.length := by omega
      rw [List.take_length] at ht
      have HD := Lib.hid ht
      clear ht
      go_wp2
      go_ret
      exact ⟨ret_bool HD.out.symm, gW⟩

theorem inB_one (lo hi x : Int) : inB lo hi [x] = in1 lo hi x := by simp [inB]

theorem top_ne {l : List Int} {k : Nat} {x : Int} (hx : l[k]? = some x) (h : x ≠ 0) : inB 0 0 l = false := by
  cases hh : inB 0 0 l with
  | false => rfl
  | true =>
    have := in_at hh hx
    omega

theorem top_eq {l : List Int} (h2 : l.length = 2) (hx : l[0]? = some 0) (hy : l[1]? = some 0) : inB 0 0 l = true := by
  match l, h2 with
  | [a, b], _ =>
    simp at hx hy
    subst hx
    subst hy
    rfl

set_option maxRecDepth 100000 in
set_option maxHeartbeats 2000000 in
theorem refCheck02_any (tab hei slo : Int) (pan top bot : List Int) (pa ta ba : Option Addr) (pc tc bc : Nat) (opn : Bool) (w : World) (hp : IRow w pa pan) (ht : IRow w ta top) (hb : IRow w ba bot) :
    Calls Try.prog 21 #[.agg #[.int .i64 tab, .slice pa pan.length pc, .int .i64 hei, .slice ta top.length tc, .slice ba bot.length bc, .int .i64 slo, .bool opn]] w fun e w' => e = .returned (.int .i64 (checkE tab hei slo pan top bot opn)) ∧ Gr w w' := by
  have gX := Gr.al w (.cells #[.int .i64 tab, .slice pa pan.length pc, .int .i64 hei, .slice ta top.length tc, .slice ba bot.length bc, .int .i64 slo, .bool opn] 24)
  have hB := Box.new w [.int .i64 tab, .slice pa pan.length pc, .int .i64 hei, .slice ta top.length tc, .slice ba bot.length bc, .int .i64 slo, .bool opn] 24 w.heap.size rfl
  obtain ⟨q0, q1, q2, q3, q4, q5, q6⟩ := hB.c7
  by_cases h1 : pan.length = 4
  case neg =>
    rw [checkE_form (fun h => h1 h.1)]
    have l0 : ((pan.length : Int) != 4) = true := by rw [bne_iff_ne]; omega
    clear h1
    go_enter Try.func21, Try.ntmps21
    go_wp2
    go_ret
    exact ⟨rfl, gX⟩
  by_cases h2 : top.length = 2
  case neg =>
    rw [checkE_form (fun h => h2 h.2.1)]
    have l0 : ((pan.length : Int) != 4) = false := by rw [h1]; rfl
    have l1 : ((top.length : Int) != 2) = true := by rw [bne_iff_ne]; omega
    clear h1 h2
    go_enter Try.func21, Try.ntmps21
    go_wp2
    go_ret
    exact ⟨rfl, gX⟩
  by_cases h3 : bot.length = 2
  case neg =>
    rw [checkE_form (fun h => h3 h.2.2)]
    have l0 : ((pan.length : Int) != 4) = false := by rw [h1]; rfl
    have l1 : ((top.length : Int) != 2) = false := by rw [h2]; rfl
    have l2 : ((bot.length : Int) != 2) = true := by rw [bne_iff_ne]; omega
    clear h1 h2 h3
    go_enter Try.func21, Try.ntmps21
    go_wp2
    go_ret
    exact ⟨rfl, gX⟩
  have HL := Lib.hid (And.intro h1 (And.intro h2 h3))
  have l0 : ((pan.length : Int) != 4) = false := by rw [h1]; rfl
  have l1 : ((top.length : Int) != 2) = false := by rw [h2]; rfl
  have l2 : ((bot.length : Int) != 2) = false := by rw [h3]; rfl
  have HP := Lib.hid hp
  have g := gX
  cases d0 : in1 0 100 tab with
  | false =>
    rw [checkE_arg HL.out (by skip; unfold goodN; simp [inB_one, d0])]
    have D0 := Lib.hid d0
    clear d0 h1 h2 h3 HP
    go_enter Try.func21, Try.ntmps21
    go_wp2_with (first
      | (go_at_call 25; refine (refIn02_any tab 0 100 false D0.out _).mono ?_; rintro e w1 ⟨rfl, hx⟩; replace g := g.tr hx; replace hB := hB.keep hx; clear hx q0 q1 q2 q3 q4 q5 q6; obtain ⟨q0, q1, q2, q3, q4, q5, q6⟩ := hB.c7))
    go_ret
    exact ⟨rfl, g⟩
  | true =>
  have D0 := Lib.hid d0
  clear d0
  cases d1 : inB 1 3000 pan with
  | false =>
    rw [checkE_arg HL.out (by skip; unfold goodN; simp [inB_one, D0.out, d1])]
    have D1 := Lib.hid d1
    clear d1 h1 h2 h3 HP
    go_enter Try.func21, Try.ntmps21
    go_wp2_with (first
      | (go_at_call 25; refine (refIn02_any tab 0 100 true D0.out _).mono ?_; rintro e w1 ⟨rfl, hx⟩; replace g := g.tr hx; replace hB := hB.keep hx; clear hx q0 q1 q2 q3 q4 q5 q6; obtain ⟨q0, q1, q2, q3, q4, q5, q6⟩ := hB.c7)
      | (go_at_call 36; refine (refLong02_any 1 pan false D1.out pa pc _ (hp.grow g)).mono ?_; rintro e w2 ⟨rfl, hx⟩; replace g := g.tr hx; replace hB := hB.keep hx; clear hx q0 q1 q2 q3 q4 q5 q6; obtain ⟨q0, q1, q2, q3, q4, q5, q6⟩ := hB.c7))
    go_ret
    exact ⟨rfl, g⟩
  | true =>
  have D1 := Lib.hid d1
  clear d1
  cases d2 : in1 1 3000 hei with
  | false =>
    rw [checkE_arg HL.out (by skip; unfold goodN; simp [inB_one, D0.out, D1.out, d2])]
    have D2 := Lib.hid d2
    clear d2 h1 h2 h3 HP
    have tok0 : True := trivial
    go_enter Try.func21, Try.ntmps21
    go_wp2_with (first
      | (have _t := tok0; clear tok0 _t; go_at_call 25; refine (refIn02_any tab 0 100 true D0.out _).mono ?_; rintro e w1 ⟨rfl, hx⟩; replace g := g.tr hx; replace hB := hB.keep hx; clear hx q0 q1 q2 q3 q4 q5 q6; obtain ⟨q0, q1, q2, q3, q4, q5, q6⟩ := hB.c7)
      | (go_at_call 36; refine (refLong02_any 1 pan true D1.out pa pc _ (hp.grow g)).mono ?_; rintro e w2 ⟨rfl, hx⟩; replace g := g.tr hx; replace hB := hB.keep hx; clear hx q0 q1 q2 q3 q4 q5 q6; obtain ⟨q0, q1, q2, q3, q4, q5, q6⟩ := hB.c7)
      | (go_at_call 25; refine (refIn02_any hei 1 3000 false D2.out _).mono ?_; rintro e w3 ⟨rfl, hx⟩; replace g := g.tr hx; replace hB := hB.keep hx; clear hx q0 q1 q2 q3 q4 q5 q6; obtain ⟨q0, q1, q2, q3, q4, q5, q6⟩ := hB.c7))
    go_ret
    exact ⟨rfl, g⟩
  | true =>
  have D2 := Lib.hid d2
  clear d2
  cases d3 : inB 0 3000 top with
  | false =>
    rw [checkE_arg HL.out (by skip; unfold goodN; simp [inB_one, D0.out, D1.out, D2.out, d3])]
    have D3 := Lib.hid d3
    clear d3 h1 h2 h3 HP
    have tok0 : True := trivial
    have tok1 : True := trivial
    go_enter Try.func21, Try.ntmps21
    go_wp2_with (first
      | (have _t := tok0; clear tok0 _t; go_at_call 25; refine (refIn02_any tab 0 100 true D0.out _).mono ?_; rintro e w1 ⟨rfl, hx⟩; replace g := g.tr hx; replace hB := hB.keep hx; clear hx q0 q1 q2 q3 q4 q5 q6; obtain ⟨q0, q1, q2, q3, q4, q5, q6⟩ := hB.c7)
      | (have _t := tok1; clear tok1 _t; go_at_call 36; refine (refLong02_any 1 pan true D1.out pa pc _ (hp.grow g)).mono ?_; rintro e w2 ⟨rfl, hx⟩; replace g := g.tr hx; replace hB := hB.keep hx; clear hx q0 q1 q2 q3 q4 q5 q6; obtain ⟨q0, q1, q2, q3, q4, q5, q6⟩ := hB.c7)
      | (go_at_call 25; refine (refIn02_any hei 1 3000 true D2.out _).mono ?_; rintro e w3 ⟨rfl, hx⟩; replace g := g.tr hx; replace hB := hB.keep hx; clear hx q0 q1 q2 q3 q4 q5 q6; obtain ⟨q0, q1, q2, q3, q4, q5, q6⟩ := hB.c7)
      | (go_at_call 36; refine (refLong02_any 0 top false D3.out ta tc _ (ht.grow g)).mono ?_; rintro e w4 ⟨rfl, hx⟩; replace g := g.tr hx; replace hB := hB.keep hx; clear hx q0 q1 q2 q3 q4 q5 q6; obtain ⟨q0, q1, q2, q3, q4, q5, q6⟩ := hB.c7))
    go_ret
    exact ⟨rfl, g⟩
  | true =>
  have D3 := Lib.hid d3
  clear d3
  cases d4 : inB 0 3000 bot with
  | false =>
    rw [checkE_arg HL.out (by skip; unfold goodN; simp [inB_one, D0.out, D1.out, D2.out, D3.out, d4])]
    have D4 := Lib.hid d4
    clear d4 h1 h2 h3 HP
    have tok0 : True := trivial
    have tok1 : True := trivial
    have tok3 : True := trivial
    go_enter Try.func21, Try.ntmps21
    go_wp2_with (first
      | (have _t := tok0; clear tok0 _t; go_at_call 25; refine (refIn02_any tab 0 100 true D0.out _).mono ?_; rintro e w1 ⟨rfl, hx⟩; replace g := g.tr hx; replace hB := hB.keep hx; clear hx q0 q1 q2 q3 q4 q5 q6; obtain ⟨q0, q1, q2, q3, q4, q5, q6⟩ := hB.c7)
      | (have _t := tok1; clear tok1 _t; go_at_call 36; refine (refLong02_any 1 pan true D1.out pa pc _ (hp.grow g)).mono ?_; rintro e w2 ⟨rfl, hx⟩; replace g := g.tr hx; replace hB := hB.keep hx; clear hx q0 q1 q2 q3 q4 q5 q6; obtain ⟨q0, q1, q2, q3, q4, q5, q6⟩ := hB.c7)
      | (go_at_call 25; refine (refIn02_any hei 1 3000 true D2.out _).mono ?_; rintro e w3 ⟨rfl, hx⟩; replace g := g.tr hx; replace hB := hB.keep hx; clear hx q0 q1 q2 q3 q4 q5 q6; obtain ⟨q0, q1, q2, q3, q4, q5, q6⟩ := hB.c7)
      | (have _t := tok3; clear tok3 _t; go_at_call 36; refine (refLong02_any 0 top true D3.out ta tc _ (ht.grow g)).mono ?_; rintro e w4 ⟨rfl, hx⟩; replace g := g.tr hx; replace hB := hB.keep hx; clear hx q0 q1 q2 q3 q4 q5 q6; obtain ⟨q0, q1, q2, q3, q4, q5, q6⟩ := hB.c7)
      | (go_at_call 36; refine (refLong02_any 0 bot false D4.out ba bc _ (hb.grow g)).mono ?_; rintro e w5 ⟨rfl, hx⟩; replace g := g.tr hx; replace hB := hB.keep hx; clear hx q0 q1 q2 q3 q4 q5 q6; obtain ⟨q0, q1, q2, q3, q4, q5, q6⟩ := hB.c7))
    go_ret
    exact ⟨rfl, g⟩
  | true =>
  have D4 := Lib.hid d4
  clear d4
  cases d5 : in1 0 20 slo with
  | false =>
    rw [checkE_arg HL.out (by skip; unfold goodN; simp [inB_one, D0.out, D1.out, D2.out, D3.out, D4.out, d5])]
    have D5 := Lib.hid d5
    clear d5 h1 h2 h3 HP
    have tok0 : True := trivial
    have tok1 : True := trivial
    have tok2 : True := trivial
    have tok3 : True := trivial
    go_enter Try.func21, Try.ntmps21
    go_wp2_with (first
      | (have _t := tok0; clear tok0 _t; go_at_call 25; refine (refIn02_any tab 0 100 true D0.out _).mono ?_; rintro e w1 ⟨rfl, hx⟩; replace g := g.tr hx; replace hB := hB.keep hx; clear hx q0 q1 q2 q3 q4 q5 q6; obtain ⟨q0, q1, q2, q3, q4, q5, q6⟩ := hB.c7)
      | (have _t := tok1; clear tok1 _t; go_at_call 36; refine (refLong02_any 1 pan true D1.out pa pc _ (hp.grow g)).mono ?_; rintro e w2 ⟨rfl, hx⟩; replace g := g.tr hx; replace hB := hB.keep hx; clear hx q0 q1 q2 q3 q4 q5 q6; obtain ⟨q0, q1, q2, q3, q4, q5, q6⟩ := hB.c7)
      | (have _t := tok2; clear tok2 _t; go_at_call 25; refine (refIn02_any hei 1 3000 true D2.out _).mono ?_; rintro e w3 ⟨rfl, hx⟩; replace g := g.tr hx; replace hB := hB.keep hx; clear hx q0 q1 q2 q3 q4 q5 q6; obtain ⟨q0, q1, q2, q3, q4, q5, q6⟩ := hB.c7)
      | (have _t := tok3; clear tok3 _t; go_at_call 36; refine (refLong02_any 0 top true D3.out ta tc _ (ht.grow g)).mono ?_; rintro e w4 ⟨rfl, hx⟩; replace g := g.tr hx; replace hB := hB.keep hx; clear hx q0 q1 q2 q3 q4 q5 q6; obtain ⟨q0, q1, q2, q3, q4, q5, q6⟩ := hB.c7)
      | (go_at_call 36; refine (refLong02_any 0 bot true D4.out ba bc _ (hb.grow g)).mono ?_; rintro e w5 ⟨rfl, hx⟩; replace g := g.tr hx; replace hB := hB.keep hx; clear hx q0 q1 q2 q3 q4 q5 q6; obtain ⟨q0, q1, q2, q3, q4, q5, q6⟩ := hB.c7)
      | (go_at_call 25; refine (refIn02_any slo 0 20 false D5.out _).mono ?_; rintro e w6 ⟨rfl, hx⟩; replace g := g.tr hx; replace hB := hB.keep hx; clear hx q0 q1 q2 q3 q4 q5 q6; obtain ⟨q0, q1, q2, q3, q4, q5, q6⟩ := hB.c7))
    go_ret
    exact ⟨rfl, g⟩
  | true =>
  have D5 := Lib.hid d5
  clear d5
  obtain ⟨x, hx0⟩ := get_of_lt (l := top) (k := 0) (by omega)
  obtain ⟨y, hy0⟩ := get_of_lt (l := top) (k := 1) (by omega)
  have HX := Lib.hid hx0
  have HY := Lib.hid hy0
  have HH := Lib.hid h2
  have lt0 : 0 < top.length := by omega
  have lt1 : 1 < top.length := by omega
  clear hx0 hy0
  obtain ⟨b1, o1, rfl, _, _⟩ := IRow.get ht HX.out
  have HT := Lib.hid ht
  clear ht
  cases opn with
  | false =>
    rw [checkE_ok HL.out (by unfold goodN; simp [inB_one, D0.out, D1.out, D2.out, D3.out, D4.out, D5.out])]
    clear h1 h2 h3 HP
    have tok0 : True := trivial
    have tok1 : True := trivial
    have tok2 : True := trivial
    have tok3 : True := trivial
    go_enter Try.func21, Try.ntmps21
    go_wp2_with (first
      | (have _t := tok0; clear tok0 _t; go_at_call 25; refine (refIn02_any tab 0 100 true D0.out _).mono ?_; rintro e w1 ⟨rfl, hx⟩; replace g := g.tr hx; replace hB := hB.keep hx; clear hx q0 q1 q2 q3 q4 q5 q6; obtain ⟨q0, q1, q2, q3, q4, q5, q6⟩ := hB.c7)
      | (have _t := tok1; clear tok1 _t; go_at_call 36; refine (refLong02_any 1 pan true D1.out pa pc _ (hp.grow g)).mono ?_; rintro e w2 ⟨rfl, hx⟩; replace g := g.tr hx; replace hB := hB.keep hx; clear hx q0 q1 q2 q3 q4 q5 q6; obtain ⟨q0, q1, q2, q3, q4, q5, q6⟩ := hB.c7)
      | (have _t := tok2; clear tok2 _t; go_at_call 25; refine (refIn02_any hei 1 3000 true D2.out _).mono ?_; rintro e w3 ⟨rfl, hx⟩; replace g := g.tr hx; replace hB := hB.keep hx; clear hx q0 q1 q2 q3 q4 q5 q6; obtain ⟨q0, q1, q2, q3, q4, q5, q6⟩ := hB.c7)
      | (have _t := tok3; clear tok3 _t; go_at_call 36; refine (refLong02_any 0 top true D3.out (some ⟨b1, o1, none⟩) tc _ (HT.out.grow g)).mono ?_; rintro e w4 ⟨rfl, hx⟩; replace g := g.tr hx; replace hB := hB.keep hx; clear hx q0 q1 q2 q3 q4 q5 q6; obtain ⟨q0, q1, q2, q3, q4, q5, q6⟩ := hB.c7)
      | (go_at_call 36; refine (refLong02_any 0 bot true D4.out ba bc _ (hb.grow g)).mono ?_; rintro e w5 ⟨rfl, hx⟩; replace g := g.tr hx; replace hB := hB.keep hx; clear hx q0 q1 q2 q3 q4 q5 q6; obtain ⟨q0, q1, q2, q3, q4, q5, q6⟩ := hB.c7)
      | (go_at_call 25; refine (refIn02_any slo 0 20 true D5.out _).mono ?_; rintro e w6 ⟨rfl, hx⟩; replace g := g.tr hx; replace hB := hB.keep hx; clear hx q0 q1 q2 q3 q4 q5 q6; obtain ⟨q0, q1, q2, q3, q4, q5, q6⟩ := hB.c7; obtain ⟨_, _, e1, _, k0⟩ := IRow.get (HT.out.grow g) HX.out; obtain ⟨_, _, e2, _, k1⟩ := IRow.get (HT.out.grow g) HY.out; cases e1; cases e2; simp only [Nat.add_zero] at k0))
    go_ret
    exact ⟨rfl, g⟩
  | true =>
    by_cases hx : x = 0
    case neg =>
      rw [checkE_arg HL.out (by unfold goodN; simp [inB_one, D0.out, D1.out, D2.out, D3.out, D4.out, D5.out, top_ne HX.out hx])]
      have nx : (x != 0) = true := by rw [bne_iff_ne]; exact hx
      clear hx
      clear h1 h2 h3 HP
      have tok0 : True := trivial
      have tok1 : True := trivial
      have tok2 : True := trivial
      have tok3 : True := trivial
      go_enter Try.func21, Try.ntmps21
      go_wp2_with (first
        | (have _t := tok0; clear tok0 _t; go_at_call 25; refine (refIn02_any tab 0 100 true D0.out _).mono ?_; rintro e w1 ⟨rfl, hx⟩; replace g := g.tr hx; replace hB := hB.keep hx; clear hx q0 q1 q2 q3 q4 q5 q6; obtain ⟨q0, q1, q2, q3, q4, q5, q6⟩ := hB.c7)
        | (have _t := tok1; clear tok1 _t; go_at_call 36; refine (refLong02_any 1 pan true D1.out pa pc _ (hp.grow g)).mono ?_; rintro e w2 ⟨rfl, hx⟩; replace g := g.tr hx; replace hB := hB.keep hx; clear hx q0 q1 q2 q3 q4 q5 q6; obtain ⟨q0, q1, q2, q3, q4, q5, q6⟩ := hB.c7)
        | (have _t := tok2; clear tok2 _t; go_at_call 25; refine (refIn02_any hei 1 3000 true D2.out _).mono ?_; rintro e w3 ⟨rfl, hx⟩; replace g := g.tr hx; replace hB := hB.keep hx; clear hx q0 q1 q2 q3 q4 q5 q6; obtain ⟨q0, q1, q2, q3, q4, q5, q6⟩ := hB.c7)
        | (have _t := tok3; clear tok3 _t; go_at_call 36; refine (refLong02_any 0 top true D3.out (some ⟨b1, o1, none⟩) tc _ (HT.out.grow g)).mono ?_; rintro e w4 ⟨rfl, hx⟩; replace g := g.tr hx; replace hB := hB.keep hx; clear hx q0 q1 q2 q3 q4 q5 q6; obtain ⟨q0, q1, q2, q3, q4, q5, q6⟩ := hB.c7)
        | (go_at_call 36; refine (refLong02_any 0 bot true D4.out ba bc _ (hb.grow g)).mono ?_; rintro e w5 ⟨rfl, hx⟩; replace g := g.tr hx; replace hB := hB.keep hx; clear hx q0 q1 q2 q3 q4 q5 q6; obtain ⟨q0, q1, q2, q3, q4, q5, q6⟩ := hB.c7)
        | (go_at_call 25; refine (refIn02_any slo 0 20 true D5.out _).mono ?_; rintro e w6 ⟨rfl, hx⟩; replace g := g.tr hx; replace hB := hB.keep hx; clear hx q0 q1 q2 q3 q4 q5 q6; obtain ⟨q0, q1, q2, q3, q4, q5, q6⟩ := hB.c7; obtain ⟨_, _, e1, _, k0⟩ := IRow.get (HT.out.grow g) HX.out; obtain ⟨_, _, e2, _, k1⟩ := IRow.get (HT.out.grow g) HY.out; cases e1; cases e2; simp only [Nat.add_zero] at k0))
      go_ret
      exact ⟨rfl, g⟩
    by_cases hy : y = 0
    case neg =>
      rw [checkE_arg HL.out (by unfold goodN; simp [inB_one, D0.out, D1.out, D2.out, D3.out, D4.out, D5.out, top_ne HY.out hy])]
      have nx : (x != 0) = false := by rw [hx]; rfl
      have ny : (y != 0) = true := by rw [bne_iff_ne]; exact hy
      clear hx hy
      clear h1 h2 h3 HP
      have tok0 : True := trivial
      have tok1 : True := trivial
      have tok2 : True := trivial
      have tok3 : True := trivial
      go_enter Try.func21, Try.ntmps21
      go_wp2_with (first
        | (have _t := tok0; clear tok0 _t; go_at_call 25; refine (refIn02_any tab 0 100 true D0.out _).mono ?_; rintro e w1 ⟨rfl, hx⟩; replace g := g.tr hx; replace hB := hB.keep hx; clear hx q0 q1 q2 q3 q4 q5 q6; obtain ⟨q0, q1, q2, q3, q4, q5, q6⟩ := hB.c7)
        | (have _t := tok1; clear tok1 _t; go_at_call 36; refine (refLong02_any 1 pan true D1.out pa pc _ (hp.grow g)).mono ?_; rintro e w2 ⟨rfl, hx⟩; replace g := g.tr hx; replace hB := hB.keep hx; clear hx q0 q1 q2 q3 q4 q5 q6; obtain ⟨q0, q1, q2, q3, q4, q5, q6⟩ := hB.c7)
        | (have _t := tok2; clear tok2 _t; go_at_call 25; refine (refIn02_any hei 1 3000 true D2.out _).mono ?_; rintro e w3 ⟨rfl, hx⟩; replace g := g.tr hx; replace hB := hB.keep hx; clear hx q0 q1 q2 q3 q4 q5 q6; obtain ⟨q0, q1, q2, q3, q4, q5, q6⟩ := hB.c7)
        | (have _t := tok3; clear tok3 _t; go_at_call 36; refine (refLong02_any 0 top true D3.out (some ⟨b1, o1, none⟩) tc _ (HT.out.grow g)).mono ?_; rintro e w4 ⟨rfl, hx⟩; replace g := g.tr hx; replace hB := hB.keep hx; clear hx q0 q1 q2 q3 q4 q5 q6; obtain ⟨q0, q1, q2, q3, q4, q5, q6⟩ := hB.c7)
        | (go_at_call 36; refine (refLong02_any 0 bot true D4.out ba bc _ (hb.grow g)).mono ?_; rintro e w5 ⟨rfl, hx⟩; replace g := g.tr hx; replace hB := hB.keep hx; clear hx q0 q1 q2 q3 q4 q5 q6; obtain ⟨q0, q1, q2, q3, q4, q5, q6⟩ := hB.c7)
        | (go_at_call 25; refine (refIn02_any slo 0 20 true D5.out _).mono ?_; rintro e w6 ⟨rfl, hx⟩; replace g := g.tr hx; replace hB := hB.keep hx; clear hx q0 q1 q2 q3 q4 q5 q6; obtain ⟨q0, q1, q2, q3, q4, q5, q6⟩ := hB.c7; obtain ⟨_, _, e1, _, k0⟩ := IRow.get (HT.out.grow g) HX.out; obtain ⟨_, _, e2, _, k1⟩ := IRow.get (HT.out.grow g) HY.out; cases e1; cases e2; simp only [Nat.add_zero] at k0))
      go_ret
      exact ⟨rfl, g⟩
    rw [checkE_ok HL.out (by unfold goodN; simp [inB_one, D0.out, D1.out, D2.out, D3.out, D4.out, D5.out, top_eq HH.out (hx ▸ HX.out) (hy ▸ HY.out)])]
    have nx : (x != 0) = false := by rw [hx]; rfl
    have ny : (y != 0) = false := by rw [hy]; rfl
    clear hx hy
    clear h1 h2 h3 HP
    have tok0 : True := trivial
    have tok1 : True := trivial
    have tok2 : True := trivial
    have tok3 : True := trivial
    go_enter Try.func21, Try.ntmps21
    go_wp2_with (first
      | (have _t := tok0; clear tok0 _t; go_at_call 25; refine (refIn02_any tab 0 100 true D0.out _).mono ?_; rintro e w1 ⟨rfl, hx⟩; replace g := g.tr hx; replace hB := hB.keep hx; clear hx q0 q1 q2 q3 q4 q5 q6; obtain ⟨q0, q1, q2, q3, q4, q5, q6⟩ := hB.c7)
      | (have _t := tok1; clear tok1 _t; go_at_call 36; refine (refLong02_any 1 pan true D1.out pa pc _ (hp.grow g)).mono ?_; rintro e w2 ⟨rfl, hx⟩; replace g := g.tr hx; replace hB := hB.keep hx; clear hx q0 q1 q2 q3 q4 q5 q6; obtain ⟨q0, q1, q2, q3, q4, q5, q6⟩ := hB.c7)
      | (have _t := tok2; clear tok2 _t; go_at_call 25; refine (refIn02_any hei 1 3000 true D2.out _).mono ?_; rintro e w3 ⟨rfl, hx⟩; replace g := g.tr hx; replace hB := hB.keep hx; clear hx q0 q1 q2 q3 q4 q5 q6; obtain ⟨q0, q1, q2, q3, q4, q5, q6⟩ := hB.c7)
      | (have _t := tok3; clear tok3 _t; go_at_call 36; refine (refLong02_any 0 top true D3.out (some ⟨b1, o1, none⟩) tc _ (HT.out.grow g)).mono ?_; rintro e w4 ⟨rfl, hx⟩; replace g := g.tr hx; replace hB := hB.keep hx; clear hx q0 q1 q2 q3 q4 q5 q6; obtain ⟨q0, q1, q2, q3, q4, q5, q6⟩ := hB.c7)
      | (go_at_call 36; refine (refLong02_any 0 bot true D4.out ba bc _ (hb.grow g)).mono ?_; rintro e w5 ⟨rfl, hx⟩; replace g := g.tr hx; replace hB := hB.keep hx; clear hx q0 q1 q2 q3 q4 q5 q6; obtain ⟨q0, q1, q2, q3, q4, q5, q6⟩ := hB.c7)
      | (go_at_call 25; refine (refIn02_any slo 0 20 true D5.out _).mono ?_; rintro e w6 ⟨rfl, hx⟩; replace g := g.tr hx; replace hB := hB.keep hx; clear hx q0 q1 q2 q3 q4 q5 q6; obtain ⟨q0, q1, q2, q3, q4, q5, q6⟩ := hB.c7; obtain ⟨_, _, e1, _, k0⟩ := IRow.get (HT.out.grow g) HX.out; obtain ⟨_, _, e2, _, k1⟩ := IRow.get (HT.out.grow g) HY.out; cases e1; cases e2; simp only [Nat.add_zero] at k0))
    go_ret
    exact ⟨rfl, g⟩

end Go.Proofs.Ytafkoococfnakaa

namespace Go.Proofs.Ytafkoococfnakaa
set_option linter.unusedVariables false
set_option linter.unusedSimpArgs false
open Go.RowKit

theorem row_long (v : World) (l : List Int) (hl : l.length ≤ 9223372036854775807) (z : Array Value) (t : TypeId) (n : Nat) (hn : n = v.heap.size) (cs : Array Value) (hcs : cs = (l.map fun n => Value.int .i64 n).toArray ++ z) :
    IRow (v.alloc (.cells cs t)) (some ⟨n, 0, none⟩) l := by
  subst hn
  subst hcs
  refine ⟨hl, fun j x hx => ⟨v.heap.size, 0, rfl, by simp, fun i u hu => ?_⟩⟩
  cases i with
  | succ i => simp [encI] at hu
  | zero =>
    simp only [encI, List.getElem?_cons_zero, Option.some.injEq] at hu
    subst hu
    have hj : j < l.length := (List.getElem?_eq_some_iff.1 hx).1
    refine new_cell v _ t ?_
    rw [Array.getElem?_append_left (by simpa using hj)]
    simp [hx]

theorem app_new (v : World) (b : Nat) (a : Option Addr) (l : List Int) (c : Nat) (hr : IRow v a l) (hl : l.length ≤ 1000) :
    ∃ u v', (Builtin.append_ #[22, 22] 22 #[.slice (some ⟨b, 0, none⟩) 0 0, .slice a l.length c]).run Try.prog v = .ok u v' ∧ Gr v v' ∧ ∃ a' c', u = .slice a' l.length c' ∧ IRow v' a' l ∧ ∀ ad, a' = some ad → (ad.block = b ∨ v.heap.size ≤ ad.block) ∧ (b < v.heap.size → ad.block < v'.heap.size) := by
  obtain ⟨i, hi, hz, hs, hb⟩ := info_parts infoIntS
  have ht := Try.underlying22
  cases l with
  | nil =>
    refine ⟨.slice (some ⟨b, 0, none⟩) 0 0, v, ?_, Below.refl _ _, _, _, rfl, ⟨by simp, fun j x hx => by simp at hx⟩, fun ad e => by cases e; exact ⟨.inl rfl, fun h => h⟩⟩
    cases a <;> simp [Builtin.append_, run_underlying ht, sizeOf, typeInfo, hi, Builtin.lenOf, Builtin.firstCells, storeCells, loadCells, loadCellsFrom, Sem.run_pure, Result.andThen]
  | cons x0 l0 =>
    obtain ⟨l, hL⟩ : ∃ l, l = x0 :: l0 := ⟨_, rfl⟩
    have h0 : 0 < l.length := by rw [hL]; simp
    rw [← hL] at hr hl ⊢
    clear hL
    obtain ⟨B, O, rfl, _⟩ := hr.addr h0
    have hn : (l.map fun n => Value.int .i64 n).length = l.length * i.size := by rw [hs]; simp
    have hcell : ∀ j u, (l.map fun n => Value.int .i64 n)[j]? = some u → v.cell? ((⟨B, O, none⟩ : Addr).add j) = some u := by
      intro j u hu
      rw [List.getElem?_map] at hu
      cases hx : l[j]? with
      | none => rw [hx] at hu; cases hu
      | some x =>
        rw [hx] at hu
        cases hu
        obtain ⟨_, _, e, _, hc⟩ := IRow.get hr hx
        cases e
        rw [Addr.add_lit]
        exact hc
    have h := run_append_grow (P := Try.prog) v 22 22 3 i _ ht hi hz ⟨b, 0, none⟩ 0 0 [] (by simp) (by simp) ⟨B, O, none⟩ l.length c (l.map fun n => Value.int .i64 n) hn hcell (by omega) (by omega) (growslice_fits (by omega) (by rw [hb]; omega))
    refine ⟨_, _, h, (Gr.dr v).tr (Gr.al _ _), some ⟨v.heap.size, 0, none⟩, grownCap v (0 + l.length) 0 3, by rw [Nat.zero_add], ?_, fun ad e => by cases e; exact ⟨.inr (Nat.le_refl _), fun _ => by simp⟩⟩
    exact row_long v.drew l (by omega) (Builtin.zeroCells (Value.int .i64 0).cells (grownCap v (0 + l.length) 0 3 - (0 + l.length))) _ _ (by simp) _ (by simp)

set_option maxRecDepth 100000 in
theorem large02_any (tab hei slo : Int) (pan top bot : List Int) (pa ta ba : Option Addr) (pc tc bc : Nat) (opn : Bool) (d : Bool) (hd : (decide (10 < pan.length) || (decide (10 < top.length) || decide (10 < bot.length))) = d) (w : World) :
    Calls Try.prog 14 #[.agg #[.int .i64 tab, .slice pa pan.length pc, .int .i64 hei, .slice ta top.length tc, .slice ba bot.length bc, .int .i64 slo, .bool opn]] w fun e w' => e = .returned (.bool d) ∧ Gr w w' := by
  have gX := Gr.al w (.cells #[.int .i64 tab, .slice pa pan.length pc, .int .i64 hei, .slice ta top.length tc, .slice ba bot.length bc, .int .i64 slo, .bool opn] 24)
  have hB := Box.new w [.int .i64 tab, .slice pa pan.length pc, .int .i64 hei, .slice ta top.length tc, .slice ba bot.length bc, .int .i64 slo, .bool opn] 24 w.heap.size rfl
  obtain ⟨q0, q1, q2, q3, q4, q5, q6⟩ := hB.c7
  by_cases h1 : 10 < pan.length
  · have HD := Lib.hid (show true = d by rw [← hd]; simp [h1])
    have k1 : decide ((pan.length : Int) > 10) = true := by simp; omega
    clear hd h1
    go_enter Try.func14, Try.ntmps14
    go_wp2
    go_ret
    exact ⟨ret_bool HD.out, gX⟩
  have k1 : decide ((pan.length : Int) > 10) = false := by simp; omega
  by_cases h2 : 10 < top.length
  · have HD := Lib.hid (show true = d by rw [← hd]; simp [h2])
    have k2 : decide ((top.length : Int) > 10) = true := by simp; omega
    clear hd h1 h2
    go_enter Try.func14, Try.ntmps14
    go_wp2
    go_ret
    exact ⟨ret_bool HD.out, gX⟩
  have k2 : decide ((top.length : Int) > 10) = false := by simp; omega
  by_cases h3 : 10 < bot.length
  · have HD := Lib.hid (show true = d by rw [← hd]; simp [h3])
    have k3 : decide ((bot.length : Int) > 10) = true := by simp; omega
    clear hd h1 h2 h3
    go_enter Try.func14, Try.ntmps14
    go_wp2
    go_ret
    exact ⟨ret_bool HD.out, gX⟩
  have k3 : decide ((bot.length : Int) > 10) = false := by simp; omega
  have HD := Lib.hid (show false = d by rw [← hd]; simp [h1, h2, h3])
  clear hd h1 h2 h3
  go_enter Try.func14, Try.ntmps14
  go_wp2
  go_ret
  exact ⟨ret_bool HD.out, gX⟩

def SizePost (E a b c : Int) (w : World) (e : Ending) (w' : World) : Prop :=
  Gr w w' ∧ ((E ≠ 0 ∧ e = .returned (.tuple #[.int .i64 0, .int .i64 0, .int .i64 0, .int .i64 E])) ∨ (E = 0 ∧ e = .returned (.tuple #[.int .i64 a, .int .i64 b, .int .i64 c, .int .i64 0])))

set_option maxRecDepth 100000 in
theorem size_any (tab hei slo : Int) (pan top bot : List Int) (pa ta ba : Option Addr) (pc tc bc : Nat) (opn : Bool) (w : World) (hp : IRow w pa pan) (ht : IRow w ta top) (hb : IRow w ba bot) :
    Calls Try.prog 18 #[.agg #[.int .i64 tab, .slice pa pan.length pc, .int .i64 hei, .slice ta top.length tc, .slice ba bot.length bc, .int .i64 slo, .bool opn]] w (SizePost (checkE tab hei slo pan top bot opn) (acrossL tab pan) (alongL hei top bot) (acrossL tab pan * alongL hei top bot) w) := by
  by_cases h0 : checkE tab hei slo pan top bot opn = 0
  · refine (size_ok tab hei slo pan top bot pa ta ba pc tc bc opn (good_of h0) w hp ht hb).mono ?_
    rintro e w' ⟨rfl, g⟩
    exact ⟨g, .inr ⟨h0, rfl⟩⟩
  have gg := Gr.al w (.cells #[.int .i64 tab, .slice pa pan.length pc, .int .i64 hei, .slice ta top.length tc, .slice ba bot.length bc, .int .i64 slo, .bool opn] 24)
  have hBs := Box.new w [.int .i64 tab, .slice pa pan.length pc, .int .i64 hei, .slice ta top.length tc, .slice ba bot.length bc, .int .i64 slo, .bool opn] 24 w.heap.size rfl
  have cB := fun v (h1 : IRow v pa pan) (h2 : IRow v ta top) (h3 : IRow v ba bot) => blank_any tab hei slo pan top bot pa ta ba pc tc bc opn v h1 h2 h3
  obtain ⟨E, heE⟩ : ∃ e, checkE tab hei slo pan top bot opn = e := ⟨_, rfl⟩
  rw [heE] at cB h0 ⊢
  have CB := Lib.hid cB
  have H0 := Lib.hid h0
  have h0' : (E != 0) = true := by rw [bne_iff_ne]; exact h0
  clear cB heE h0
  go_enter Try.func18, Try.ntmps18
  obtain ⟨b0, b1, b2, b3, b4, b5, b6⟩ := hBs.c7
  go_wp2_with (go_at_call 17; refine (CB.out _ (hp.grow gg) (ht.grow gg) (hb.grow gg)).mono ?_; rintro e w2 ⟨rfl, g2⟩)
  refine bodyPost_ret (v := .tuple #[.int .i64 0, .int .i64 0, .int .i64 0, .int .i64 E]) (by simp [results, Try.results18, go_sem]) rfl ?_
  exact ⟨gg.tr g2, .inl ⟨H0.out, rfl⟩⟩

end Go.Proofs.Ytafkoococfnakaa

namespace Go.Proofs.Ytafkoococfnakaa
set_option linter.unusedVariables false
set_option linter.unusedSimpArgs false
open Go.RowKit

/-- An append among the operations of a drawn region. -/
theorem wpOp_append {P : Program} {ops : Array Oper} {Q : Exit → Act → World → Prop} {i : Nat} {K : Act → World → Prop} {a : Act} {w : World} {o : Oper} (s x : Operand) (t : TypeId) (ho : ops[i]? = some o) (hg : o.guard = none)
    (hop : o.op = Op.call { callee := Callee.builtin Builtin.append, args := #[s, x], argTypes := #[t, t] }) (v1 v2 u : Value) (w' : World) (hs : a.eval s = v1) (hx : a.eval x = v2)
    (hrun : (Builtin.append_ #[t, t] o.type #[v1, v2]).run P w = .ok u w') (h : ∀ K' : Act → World → Prop, (∀ a w, K a w → K' a w) → K' (a.put o.dst u) w') : wpOp P ops Q i K a w := by
  refine wpOp_step ho (fun K' hK' => ?_)
  have hw : Region.wanted o (yielded ops a.tmps) = true := by simp [Region.wanted, hg]
  rw [if_pos hw]
  unfold Oper.wp execOp
  simp only [hop, resolve, invoke, builtin, Sem.run_bind, Sem.run_pure, Result.andThen_ok, List.map_toArray, List.map_cons, List.map_nil, hs, hx, hrun]
  exact h K' hK'

set_option maxRecDepth 100000 in
set_option maxHeartbeats 4000000 in
theorem copy02_any (tab hei slo : Int) (pan top bot : List Int) (pa ta ba : Option Addr) (pc tc bc : Nat) (opn : Bool) (l1 : pan.length ≤ 1000) (l2 : top.length ≤ 1000) (l3 : bot.length ≤ 1000) (w : World) (hp : IRow w pa pan) (ht : IRow w ta top) (hb : IRow w ba bot) :
    Calls Try.prog 62 #[.agg #[.int .i64 tab, .slice pa pan.length pc, .int .i64 hei, .slice ta top.length tc, .slice ba bot.length bc, .int .i64 slo, .bool opn]] w fun e w' => ∃ a3 c3 a7 c7 a11 c11, e = .returned (.agg #[.int .i64 tab, .slice a3 pan.length c3, .int .i64 hei, .slice a7 top.length c7, .slice a11 bot.length c11, .int .i64 slo, .bool opn]) ∧ Gr w w' ∧ IRow w' a3 pan ∧ IRow w' a7 top ∧ IRow w' a11 bot ∧ (∀ ad, a3 = some ad → w.heap.size ≤ ad.block ∧ ad.block < w'.heap.size) ∧ (∀ ad, a7 = some ad → w.heap.size ≤ ad.block ∧ ad.block < w'.heap.size) ∧ (∀ ad, a11 = some ad → w.heap.size ≤ ad.block ∧ ad.block < w'.heap.size) := by
  have gg := (Gr.al w (.cells #[.int .i64 tab, .slice pa pan.length pc, .int .i64 hei, .slice ta top.length tc, .slice ba bot.length bc, .int .i64 slo, .bool opn] 24)).tr (Gr.al _ (.cells #[.int .i64 0, .slice none 0 0, .int .i64 0, .slice none 0 0, .slice none 0 0, .int .i64 0, .bool false] 24))
  have oB := (Own.new w [.int .i64 tab, .slice pa pan.length pc, .int .i64 hei, .slice ta top.length tc, .slice ba bot.length bc, .int .i64 slo, .bool opn] 24 w.heap.size rfl).keep (Gr.al _ (.cells #[.int .i64 0, .slice none 0 0, .int .i64 0, .slice none 0 0, .slice none 0 0, .int .i64 0, .bool false] 24))
  have oZ := Own.new (w.alloc (.cells #[.int .i64 tab, .slice pa pan.length pc, .int .i64 hei, .slice ta top.length tc, .slice ba bot.length bc, .int .i64 slo, .bool opn] 24)) [.int .i64 0, .slice none 0 0, .int .i64 0, .slice none 0 0, .slice none 0 0, .int .i64 0, .bool false] 24 (w.heap.size + 1) (by simp)
  have HP := Lib.hid hp
  have HT := Lib.hid ht
  have HB := Lib.hid hb
  have HL := Lib.hid (And.intro l1 (And.intro l2 l3))
  clear hp ht hb l1 l2 l3
  have hle : w.heap.size ≤ w.heap.size := Nat.le_refl _
  go_enter Try.func62, Try.ntmps62
  go_upto_region 1 with fail
  refine wp_abs (fun U => Gr w U ∧ Own U w.heap.size [.int .i64 tab, .slice pa pan.length pc, .int .i64 hei, .slice ta top.length tc, .slice ba bot.length bc, .int .i64 slo, .bool opn] ∧ Own U (w.heap.size + 1) [.int .i64 0, .slice none 0 0, .int .i64 0, .slice none 0 0, .slice none 0 0, .int .i64 0, .bool false]) ⟨gg, oB, oZ⟩ ?_
  clear gg oB oZ
  rintro U ⟨gU, oB, oZ⟩
  obtain ⟨N, hN⟩ : ∃ N, U.heap.size = N := ⟨_, rfl⟩
  have hB := oB.1
  have lN : w.heap.size + 1 < N := hN ▸ oZ.1.1
  have HN := Lib.hid hN
  clear hN
  refine wp_region_facts 13 [(2, 1), (3, 0), (3, 2), (6, 5), (7, 4), (7, 6), (10, 9), (11, 8), (11, 10)] (fun x => ⟨#[.agg #[.int .i64 tab, .slice pa pan.length pc, .int .i64 hei, .slice ta top.length tc, .slice ba bot.length bc, .int .i64 slo, .bool opn], .pointer (some ⟨w.heap.size, 0, none⟩), .pointer (some ⟨(w.heap.size + 1), 0, none⟩), x 0, x 1, x 2, x 3, x 4, x 5, x 6, x 7, x 8, x 9, x 10, x 11, x 12, undef, undef, undef], []⟩) (fun _ => undef) [fun v x => ∃ b, x = .slice (some ⟨b, 0, none⟩) 0 0 ∧ N ≤ b ∧ b < v.heap.size, fun _ x => x = .pointer (some ⟨w.heap.size, 1, none⟩), fun _ x => x = .slice pa pan.length pc, fun v x => ∃ a c, x = .slice a pan.length c ∧ IRow v a pan ∧ ∀ ad, a = some ad → N ≤ ad.block ∧ ad.block < v.heap.size, fun v x => ∃ b, x = .slice (some ⟨b, 0, none⟩) 0 0 ∧ N ≤ b ∧ b < v.heap.size, fun _ x => x = .pointer (some ⟨w.heap.size, 3, none⟩), fun _ x => x = .slice ta top.length tc, fun v x => ∃ a c, x = .slice a top.length c ∧ IRow v a top ∧ ∀ ad, a = some ad → N ≤ ad.block ∧ ad.block < v.heap.size, fun v x => ∃ b, x = .slice (some ⟨b, 0, none⟩) 0 0 ∧ N ≤ b ∧ b < v.heap.size, fun _ x => x = .pointer (some ⟨w.heap.size, 4, none⟩), fun _ x => x = .slice ba bot.length bc, fun v x => ∃ a c, x = .slice a bot.length c ∧ IRow v a bot ∧ ∀ ad, a = some ad → N ≤ ad.block ∧ ad.block < v.heap.size, fun _ x => x = .pointer (some ⟨w.heap.size, 1, none⟩)] (by rfl) (by kernel_rfl) (by kernel_rfl) (by kernel_rfl) (stays_cons ((show Stays (fun v x => ∃ b, x = .slice (some ⟨b, 0, none⟩) 0 0 ∧ N ≤ b ∧ b < v.heap.size) from fun v v' x g ⟨b, h, h1, h2⟩ => ⟨b, h, h1, Nat.lt_of_lt_of_le h2 g.size⟩)) (stays_cons (Stays.eq _) (stays_cons (Stays.eq _) (stays_cons ((show Stays (fun v x => ∃ a c, x = .slice a pan.length c ∧ IRow v a pan ∧ ∀ ad, a = some ad → N ≤ ad.block ∧ ad.block < v.heap.size) from fun v v' x g ⟨a, c, h, r, n⟩ => ⟨a, c, h, r.grow g, fun ad e => ⟨(n ad e).1, Nat.lt_of_lt_of_le (n ad e).2 g.size⟩⟩)) (stays_cons ((show Stays (fun v x => ∃ b, x = .slice (some ⟨b, 0, none⟩) 0 0 ∧ N ≤ b ∧ b < v.heap.size) from fun v v' x g ⟨b, h, h1, h2⟩ => ⟨b, h, h1, Nat.lt_of_lt_of_le h2 g.size⟩)) (stays_cons (Stays.eq _) (stays_cons (Stays.eq _) (stays_cons ((show Stays (fun v x => ∃ a c, x = .slice a top.length c ∧ IRow v a top ∧ ∀ ad, a = some ad → N ≤ ad.block ∧ ad.block < v.heap.size) from fun v v' x g ⟨a, c, h, r, n⟩ => ⟨a, c, h, r.grow g, fun ad e => ⟨(n ad e).1, Nat.lt_of_lt_of_le (n ad e).2 g.size⟩⟩)) (stays_cons ((show Stays (fun v x => ∃ b, x = .slice (some ⟨b, 0, none⟩) 0 0 ∧ N ≤ b ∧ b < v.heap.size) from fun v v' x g ⟨b, h, h1, h2⟩ => ⟨b, h, h1, Nat.lt_of_lt_of_le h2 g.size⟩)) (stays_cons (Stays.eq _) (stays_cons (Stays.eq _) (stays_cons ((show Stays (fun v x => ∃ a c, x = .slice a bot.length c ∧ IRow v a bot ∧ ∀ ad, a = some ad → N ≤ ad.block ∧ ad.block < v.heap.size) from fun v v' x g ⟨a, c, h, r, n⟩ => ⟨a, c, h, r.grow g, fun ad e => ⟨(n ad e).1, Nat.lt_of_lt_of_le (n ad e).2 g.size⟩⟩)) (stays_cons (Stays.eq _) stays_nil))))))))))))) ?step1 ?fin1
  case step1 =>
    rintro i hi x v gv hd K hK
    have hi8 : i = 0 ∨ i = 1 ∨ i = 2 ∨ i = 3 ∨ i = 4 ∨ i = 5 ∨ i = 6 ∨ i = 7 ∨ i = 8 ∨ i = 9 ∨ i = 10 ∨ i = 11 ∨ i = 12 := by omega
    rcases hi8 with rfl | rfl | rfl | rfl | rfl | rfl | rfl | rfl | rfl | rfl | rfl | rfl | rfl
    · show wpOp Try.prog _ _ 0 K (⟨#[.agg #[.int .i64 tab, .slice pa pan.length pc, .int .i64 hei, .slice ta top.length tc, .slice ba bot.length bc, .int .i64 slo, .bool opn], .pointer (some ⟨w.heap.size, 0, none⟩), .pointer (some ⟨(w.heap.size + 1), 0, none⟩), x 0, x 1, x 2, x 3, x 4, x 5, x 6, x 7, x 8, x 9, x 10, x 11, x 12, undef, undef, undef], []⟩ : Act) v
      refine wpOp_step rfl (fun K' hK' => ?_)
      go_simp
      have hg := Gr.al v (.cells #[] 3)
      have hsz : N ≤ v.heap.size := HN.out ▸ gv.size
      exact hK' _ _ (hK _ _ hg (at_of rfl (⟨_, rfl, hsz, by simp⟩)))
    · show wpOp Try.prog _ _ 1 K (⟨#[.agg #[.int .i64 tab, .slice pa pan.length pc, .int .i64 hei, .slice ta top.length tc, .slice ba bot.length bc, .int .i64 slo, .bool opn], .pointer (some ⟨w.heap.size, 0, none⟩), .pointer (some ⟨(w.heap.size + 1), 0, none⟩), x 0, x 1, x 2, x 3, x 4, x 5, x 6, x 7, x 8, x 9, x 10, x 11, x 12, undef, undef, undef], []⟩ : Act) v
      refine wpOp_step rfl (fun K' hK' => ?_)
      go_simp
      exact hK' _ _ (hK _ _ (Below.refl _ _) (at_of rfl (rfl)))
    · obtain ⟨x, rfl⟩ := upd_of (show x 1 = .pointer (some ⟨w.heap.size, 1, none⟩) from hd 1 _ (by simp) rfl)
      show wpOp Try.prog _ _ 2 K (⟨#[.agg #[.int .i64 tab, .slice pa pan.length pc, .int .i64 hei, .slice ta top.length tc, .slice ba bot.length bc, .int .i64 slo, .bool opn], .pointer (some ⟨w.heap.size, 0, none⟩), .pointer (some ⟨(w.heap.size + 1), 0, none⟩), x 0, .pointer (some ⟨w.heap.size, 1, none⟩), x 2, x 3, x 4, x 5, x 6, x 7, x 8, x 9, x 10, x 11, x 12, undef, undef, undef], []⟩ : Act) v
      refine wpOp_step rfl (fun K' hK' => ?_)
      have q := (hB.keep gv).2 1 _ rfl
      go_simp
      exact hK' _ _ (hK _ _ (Below.refl _ _) (at_of rfl (rfl)))
    · obtain ⟨b0, e0, hb0, hc0⟩ := hd 0 _ (by simp) rfl
      obtain ⟨x, rfl⟩ := upd_of (show x 0 = .slice (some ⟨b0, 0, none⟩) 0 0 from e0)
      obtain ⟨x, rfl⟩ := upd_of (show x 2 = .slice pa pan.length pc from hd 2 _ (by simp) rfl)
      show wpOp Try.prog _ _ 3 K (⟨#[.agg #[.int .i64 tab, .slice pa pan.length pc, .int .i64 hei, .slice ta top.length tc, .slice ba bot.length bc, .int .i64 slo, .bool opn], .pointer (some ⟨w.heap.size, 0, none⟩), .pointer (some ⟨(w.heap.size + 1), 0, none⟩), .slice (some ⟨b0, 0, none⟩) 0 0, x 1, .slice pa pan.length pc, x 3, x 4, x 5, x 6, x 7, x 8, x 9, x 10, x 11, x 12, undef, undef, undef], []⟩ : Act) v
      obtain ⟨u, v', hrun, hg, ⟨a, c, hu, hr, hn⟩⟩ := app_new v b0 pa pan pc (HP.out.grow (gU.tr gv)) HL.out.1
      subst hu
      have hn2 : ∀ ad, a = some ad → N ≤ ad.block ∧ ad.block < v'.heap.size := fun ad e => by have h1 := (hn ad e).1; have h4 := (hn ad e).2 hc0; have h2 := gv.size; have h3 := HN.out; omega
      refine wpOp_append (Operand.tmp 3) (Operand.tmp 5) 22 rfl rfl rfl (.slice (some ⟨b0, 0, none⟩) 0 0) (.slice pa pan.length pc) _ v' rfl rfl hrun (fun K' hK' => ?_)
      exact hK' _ _ (hK _ _ hg (at_of rfl (⟨_, _, rfl, hr, hn2⟩)))
    · show wpOp Try.prog _ _ 4 K (⟨#[.agg #[.int .i64 tab, .slice pa pan.length pc, .int .i64 hei, .slice ta top.length tc, .slice ba bot.length bc, .int .i64 slo, .bool opn], .pointer (some ⟨w.heap.size, 0, none⟩), .pointer (some ⟨(w.heap.size + 1), 0, none⟩), x 0, x 1, x 2, x 3, x 4, x 5, x 6, x 7, x 8, x 9, x 10, x 11, x 12, undef, undef, undef], []⟩ : Act) v
      refine wpOp_step rfl (fun K' hK' => ?_)
      go_simp
      have hg := Gr.al v (.cells #[] 3)
      have hsz : N ≤ v.heap.size := HN.out ▸ gv.size
      exact hK' _ _ (hK _ _ hg (at_of rfl (⟨_, rfl, hsz, by simp⟩)))
    · show wpOp Try.prog _ _ 5 K (⟨#[.agg #[.int .i64 tab, .slice pa pan.length pc, .int .i64 hei, .slice ta top.length tc, .slice ba bot.length bc, .int .i64 slo, .bool opn], .pointer (some ⟨w.heap.size, 0, none⟩), .pointer (some ⟨(w.heap.size + 1), 0, none⟩), x 0, x 1, x 2, x 3, x 4, x 5, x 6, x 7, x 8, x 9, x 10, x 11, x 12, undef, undef, undef], []⟩ : Act) v
      refine wpOp_step rfl (fun K' hK' => ?_)
      go_simp
      exact hK' _ _ (hK _ _ (Below.refl _ _) (at_of rfl (rfl)))
    · obtain ⟨x, rfl⟩ := upd_of (show x 5 = .pointer (some ⟨w.heap.size, 3, none⟩) from hd 5 _ (by simp) rfl)
      show wpOp Try.prog _ _ 6 K (⟨#[.agg #[.int .i64 tab, .slice pa pan.length pc, .int .i64 hei, .slice ta top.length tc, .slice ba bot.length bc, .int .i64 slo, .bool opn], .pointer (some ⟨w.heap.size, 0, none⟩), .pointer (some ⟨(w.heap.size + 1), 0, none⟩), x 0, x 1, x 2, x 3, x 4, .pointer (some ⟨w.heap.size, 3, none⟩), x 6, x 7, x 8, x 9, x 10, x 11, x 12, undef, undef, undef], []⟩ : Act) v
      refine wpOp_step rfl (fun K' hK' => ?_)
      have q := (hB.keep gv).2 3 _ rfl
      go_simp
      exact hK' _ _ (hK _ _ (Below.refl _ _) (at_of rfl (rfl)))
    · obtain ⟨b4, e4, hb4, hc4⟩ := hd 4 _ (by simp) rfl
      obtain ⟨x, rfl⟩ := upd_of (show x 4 = .slice (some ⟨b4, 0, none⟩) 0 0 from e4)
      obtain ⟨x, rfl⟩ := upd_of (show x 6 = .slice ta top.length tc from hd 6 _ (by simp) rfl)
      show wpOp Try.prog _ _ 7 K (⟨#[.agg #[.int .i64 tab, .slice pa pan.length pc, .int .i64 hei, .slice ta top.length tc, .slice ba bot.length bc, .int .i64 slo, .bool opn], .pointer (some ⟨w.heap.size, 0, none⟩), .pointer (some ⟨(w.heap.size + 1), 0, none⟩), x 0, x 1, x 2, x 3, .slice (some ⟨b4, 0, none⟩) 0 0, x 5, .slice ta top.length tc, x 7, x 8, x 9, x 10, x 11, x 12, undef, undef, undef], []⟩ : Act) v
      obtain ⟨u, v', hrun, hg, ⟨a, c, hu, hr, hn⟩⟩ := app_new v b4 ta top tc (HT.out.grow (gU.tr gv)) HL.out.2.1
      subst hu
      have hn2 : ∀ ad, a = some ad → N ≤ ad.block ∧ ad.block < v'.heap.size := fun ad e => by have h1 := (hn ad e).1; have h4 := (hn ad e).2 hc4; have h2 := gv.size; have h3 := HN.out; omega
      refine wpOp_append (Operand.tmp 7) (Operand.tmp 9) 22 rfl rfl rfl (.slice (some ⟨b4, 0, none⟩) 0 0) (.slice ta top.length tc) _ v' rfl rfl hrun (fun K' hK' => ?_)
      exact hK' _ _ (hK _ _ hg (at_of rfl (⟨_, _, rfl, hr, hn2⟩)))
    · show wpOp Try.prog _ _ 8 K (⟨#[.agg #[.int .i64 tab, .slice pa pan.length pc, .int .i64 hei, .slice ta top.length tc, .slice ba bot.length bc, .int .i64 slo, .bool opn], .pointer (some ⟨w.heap.size, 0, none⟩), .pointer (some ⟨(w.heap.size + 1), 0, none⟩), x 0, x 1, x 2, x 3, x 4, x 5, x 6, x 7, x 8, x 9, x 10, x 11, x 12, undef, undef, undef], []⟩ : Act) v
      refine wpOp_step rfl (fun K' hK' => ?_)
      go_simp
      have hg := Gr.al v (.cells #[] 3)
      have hsz : N ≤ v.heap.size := HN.out ▸ gv.size
      exact hK' _ _ (hK _ _ hg (at_of rfl (⟨_, rfl, hsz, by simp⟩)))
    · show wpOp Try.prog _ _ 9 K (⟨#[.agg #[.int .i64 tab, .slice pa pan.length pc, .int .i64 hei, .slice ta top.length tc, .slice ba bot.length bc, .int .i64 slo, .bool opn], .pointer (some ⟨w.heap.size, 0, none⟩), .pointer (some ⟨(w.heap.size + 1), 0, none⟩), x 0, x 1, x 2, x 3, x 4, x 5, x 6, x 7, x 8, x 9, x 10, x 11, x 12, undef, undef, undef], []⟩ : Act) v
      refine wpOp_step rfl (fun K' hK' => ?_)
      go_simp
      exact hK' _ _ (hK _ _ (Below.refl _ _) (at_of rfl (rfl)))
    · obtain ⟨x, rfl⟩ := upd_of (show x 9 = .pointer (some ⟨w.heap.size, 4, none⟩) from hd 9 _ (by simp) rfl)
      show wpOp Try.prog _ _ 10 K (⟨#[.agg #[.int .i64 tab, .slice pa pan.length pc, .int .i64 hei, .slice ta top.length tc, .slice ba bot.length bc, .int .i64 slo, .bool opn], .pointer (some ⟨w.heap.size, 0, none⟩), .pointer (some ⟨(w.heap.size + 1), 0, none⟩), x 0, x 1, x 2, x 3, x 4, x 5, x 6, x 7, x 8, .pointer (some ⟨w.heap.size, 4, none⟩), x 10, x 11, x 12, undef, undef, undef], []⟩ : Act) v
      refine wpOp_step rfl (fun K' hK' => ?_)
      have q := (hB.keep gv).2 4 _ rfl
      go_simp
      exact hK' _ _ (hK _ _ (Below.refl _ _) (at_of rfl (rfl)))
    · obtain ⟨b8, e8, hb8, hc8⟩ := hd 8 _ (by simp) rfl
      obtain ⟨x, rfl⟩ := upd_of (show x 8 = .slice (some ⟨b8, 0, none⟩) 0 0 from e8)
      obtain ⟨x, rfl⟩ := upd_of (show x 10 = .slice ba bot.length bc from hd 10 _ (by simp) rfl)
      show wpOp Try.prog _ _ 11 K (⟨#[.agg #[.int .i64 tab, .slice pa pan.length pc, .int .i64 hei, .slice ta top.length tc, .slice ba bot.length bc, .int .i64 slo, .bool opn], .pointer (some ⟨w.heap.size, 0, none⟩), .pointer (some ⟨(w.heap.size + 1), 0, none⟩), x 0, x 1, x 2, x 3, x 4, x 5, x 6, x 7, .slice (some ⟨b8, 0, none⟩) 0 0, x 9, .slice ba bot.length bc, x 11, x 12, undef, undef, undef], []⟩ : Act) v
      obtain ⟨u, v', hrun, hg, ⟨a, c, hu, hr, hn⟩⟩ := app_new v b8 ba bot bc (HB.out.grow (gU.tr gv)) HL.out.2.2
      subst hu
      have hn2 : ∀ ad, a = some ad → N ≤ ad.block ∧ ad.block < v'.heap.size := fun ad e => by have h1 := (hn ad e).1; have h4 := (hn ad e).2 hc8; have h2 := gv.size; have h3 := HN.out; omega
      refine wpOp_append (Operand.tmp 11) (Operand.tmp 13) 22 rfl rfl rfl (.slice (some ⟨b8, 0, none⟩) 0 0) (.slice ba bot.length bc) _ v' rfl rfl hrun (fun K' hK' => ?_)
      exact hK' _ _ (hK _ _ hg (at_of rfl (⟨_, _, rfl, hr, hn2⟩)))
    · show wpOp Try.prog _ _ 12 K (⟨#[.agg #[.int .i64 tab, .slice pa pan.length pc, .int .i64 hei, .slice ta top.length tc, .slice ba bot.length bc, .int .i64 slo, .bool opn], .pointer (some ⟨w.heap.size, 0, none⟩), .pointer (some ⟨(w.heap.size + 1), 0, none⟩), x 0, x 1, x 2, x 3, x 4, x 5, x 6, x 7, x 8, x 9, x 10, x 11, x 12, undef, undef, undef], []⟩ : Act) v
      refine wpOp_step rfl (fun K' hK' => ?_)
      go_simp
      exact hK' _ _ (hK _ _ (Below.refl _ _) (at_of rfl (rfl)))
  case fin1 =>
    rintro x v gv hd
    obtain ⟨a3, c3, e3, r3, n3⟩ := hd 3 _ (by omega) rfl
    obtain ⟨x, rfl⟩ := upd_of (show x 3 = .slice a3 pan.length c3 from e3)
    obtain ⟨a7, c7, e7, r7, n7⟩ := hd 7 _ (by omega) rfl
    obtain ⟨x, rfl⟩ := upd_of (show x 7 = .slice a7 top.length c7 from e7)
    obtain ⟨a11, c11, e11, r11, n11⟩ := hd 11 _ (by omega) rfl
    obtain ⟨x, rfl⟩ := upd_of (show x 11 = .slice a11 bot.length c11 from e11)
    obtain ⟨x, rfl⟩ := upd_of (show x 12 = .pointer (some ⟨w.heap.size, 1, none⟩) from hd 12 _ (by omega) rfl)
    clear hd
    show wpList Try.prog _ _ (List.drop 13 _) (⟨#[.agg #[.int .i64 tab, .slice pa pan.length pc, .int .i64 hei, .slice ta top.length tc, .slice ba bot.length bc, .int .i64 slo, .bool opn], .pointer (some ⟨w.heap.size, 0, none⟩), .pointer (some ⟨(w.heap.size + 1), 0, none⟩), x 0, x 1, x 2, .slice a3 pan.length c3, x 4, x 5, x 6, .slice a7 top.length c7, x 8, x 9, x 10, .slice a11 bot.length c11, .pointer (some ⟨w.heap.size, 1, none⟩), undef, undef, undef], []⟩ : Act) v
    simp only [List.drop_succ_cons, List.drop_zero]
    have R3 := Lib.hid r3
    have R7 := Lib.hid r7
    have R11 := Lib.hid r11
    have N3 := Lib.hid n3
    have N7 := Lib.hid n7
    have N11 := Lib.hid n11
    clear r3 r7 r11 n3 n7 n11
    replace gU := gU.tr gv
    replace oB := oB.keep gv
    replace oZ := oZ.keep gv
    clear gv hB
    have z1 := oB.2 1
    have z3 := oB.2 3
    have z4 := oB.2 4
    have q1 := oB.1.2 1 _ rfl
    have q3 := oB.1.2 3 _ rfl
    have q4 := oB.1.2 4 _ rfl
    go_upto_region 2 with fail
    refine wp_abs (fun V => Gr w V ∧ Own V w.heap.size [.int .i64 tab, .slice a3 pan.length c3, .int .i64 hei, .slice a7 top.length c7, .slice a11 bot.length c11, .int .i64 slo, .bool opn] ∧ Own V (w.heap.size + 1) [.int .i64 0, .slice none 0 0, .int .i64 0, .slice none 0 0, .slice none 0 0, .int .i64 0, .bool false] ∧ IRow V a3 pan ∧ IRow V a7 top ∧ IRow V a11 bot ∧ v.heap.size ≤ V.heap.size) ⟨((gU.setCell (p := ⟨w.heap.size, 1, none⟩) hle _).setCell (p := ⟨w.heap.size, 3, none⟩) hle _).setCell (p := ⟨w.heap.size, 4, none⟩) hle _, ((oB.set (i := 1) (by simp)).set (i := 3) (by simp)).set (i := 4) (by simp), ((oZ.other (by omega)).other (by omega)).other (by omega), (RowOf.kx R3.out ((((Kx.refl _ _).tr (Kx.set (Z := fun j => j = w.heap.size) (p := ⟨w.heap.size, 1, none⟩) rfl _)).tr (Kx.set (Z := fun j => j = w.heap.size) (p := ⟨w.heap.size, 3, none⟩) rfl _)).tr (Kx.set (Z := fun j => j = w.heap.size) (p := ⟨w.heap.size, 4, none⟩) rfl _)) (fun b off e e2 => by have := N3.out ⟨b, off, none⟩ e; dsimp only at this; omega)), (RowOf.kx R7.out ((((Kx.refl _ _).tr (Kx.set (Z := fun j => j = w.heap.size) (p := ⟨w.heap.size, 1, none⟩) rfl _)).tr (Kx.set (Z := fun j => j = w.heap.size) (p := ⟨w.heap.size, 3, none⟩) rfl _)).tr (Kx.set (Z := fun j => j = w.heap.size) (p := ⟨w.heap.size, 4, none⟩) rfl _)) (fun b off e e2 => by have := N7.out ⟨b, off, none⟩ e; dsimp only at this; omega)), (RowOf.kx R11.out ((((Kx.refl _ _).tr (Kx.set (Z := fun j => j = w.heap.size) (p := ⟨w.heap.size, 1, none⟩) rfl _)).tr (Kx.set (Z := fun j => j = w.heap.size) (p := ⟨w.heap.size, 3, none⟩) rfl _)).tr (Kx.set (Z := fun j => j = w.heap.size) (p := ⟨w.heap.size, 4, none⟩) rfl _)) (fun b off e e2 => by have := N11.out ⟨b, off, none⟩ e; dsimp only at this; omega)), ((((Kx.refl _ _).tr (Kx.set (Z := fun j => j = w.heap.size) (p := ⟨w.heap.size, 1, none⟩) rfl _)).tr (Kx.set (Z := fun j => j = w.heap.size) (p := ⟨w.heap.size, 3, none⟩) rfl _)).tr (Kx.set (Z := fun j => j = w.heap.size) (p := ⟨w.heap.size, 4, none⟩) rfl _)).size⟩ ?_
    clear gU oB oZ z1 z3 z4 q1 q3 q4 R3 R7 R11
    rintro V ⟨gV, oB, oZ, r3, r7, r11, hvV⟩
    obtain ⟨q0, q1, q2, q3, q4, q5, q6⟩ := oB.1.c7
    have R3 := Lib.hid r3
    have R7 := Lib.hid r7
    have R11 := Lib.hid r11
    clear r3 r7 r11
    have p0 := oZ.1.2 0 _ rfl
    have z0 := oZ.2 0
    have p1 := oZ.1.2 1 _ rfl
    have z1 := oZ.2 1
    have p2 := oZ.1.2 2 _ rfl
    have z2 := oZ.2 2
    have p3 := oZ.1.2 3 _ rfl
    have z3 := oZ.2 3
    have p4 := oZ.1.2 4 _ rfl
    have z4 := oZ.2 4
    have p5 := oZ.1.2 5 _ rfl
    have z5 := oZ.2 5
    have p6 := oZ.1.2 6 _ rfl
    have z6 := oZ.2 6
    have hl1 : w.heap.size ≤ w.heap.size + 1 := Nat.le_succ _
    go_wp2
    refine bodyPost_ret (v := .agg #[.int .i64 tab, .slice a3 pan.length c3, .int .i64 hei, .slice a7 top.length c7, .slice a11 bot.length c11, .int .i64 slo, .bool opn]) (by simp [results, Try.results62, go_sem, p0, p1, p2, p3, p4, p5, p6]) rfl ⟨_, _, _, _, _, _, rfl, ?_, ?_, ?_, ?_, ?_, ?_, ?_⟩
    · exact (((((((gV.setCell (p := ⟨w.heap.size + 1, 0, none⟩) hl1 _).setCell (p := ⟨w.heap.size + 1, 1, none⟩) hl1 _).setCell (p := ⟨w.heap.size + 1, 2, none⟩) hl1 _).setCell (p := ⟨w.heap.size + 1, 3, none⟩) hl1 _).setCell (p := ⟨w.heap.size + 1, 4, none⟩) hl1 _).setCell (p := ⟨w.heap.size + 1, 5, none⟩) hl1 _).setCell (p := ⟨w.heap.size + 1, 6, none⟩) hl1 _)
    · exact (RowOf.kx R3.out ((((((((Kx.refl _ _).tr (Kx.set (Z := fun j => j = (w.heap.size + 1)) (p := ⟨(w.heap.size + 1), 0, none⟩) rfl _)).tr (Kx.set (Z := fun j => j = (w.heap.size + 1)) (p := ⟨(w.heap.size + 1), 1, none⟩) rfl _)).tr (Kx.set (Z := fun j => j = (w.heap.size + 1)) (p := ⟨(w.heap.size + 1), 2, none⟩) rfl _)).tr (Kx.set (Z := fun j => j = (w.heap.size + 1)) (p := ⟨(w.heap.size + 1), 3, none⟩) rfl _)).tr (Kx.set (Z := fun j => j = (w.heap.size + 1)) (p := ⟨(w.heap.size + 1), 4, none⟩) rfl _)).tr (Kx.set (Z := fun j => j = (w.heap.size + 1)) (p := ⟨(w.heap.size + 1), 5, none⟩) rfl _)).tr (Kx.set (Z := fun j => j = (w.heap.size + 1)) (p := ⟨(w.heap.size + 1), 6, none⟩) rfl _)) (fun b off e e2 => by have := N3.out ⟨b, off, none⟩ e; dsimp only at this; omega))
    · exact (RowOf.kx R7.out ((((((((Kx.refl _ _).tr (Kx.set (Z := fun j => j = (w.heap.size + 1)) (p := ⟨(w.heap.size + 1), 0, none⟩) rfl _)).tr (Kx.set (Z := fun j => j = (w.heap.size + 1)) (p := ⟨(w.heap.size + 1), 1, none⟩) rfl _)).tr (Kx.set (Z := fun j => j = (w.heap.size + 1)) (p := ⟨(w.heap.size + 1), 2, none⟩) rfl _)).tr (Kx.set (Z := fun j => j = (w.heap.size + 1)) (p := ⟨(w.heap.size + 1), 3, none⟩) rfl _)).tr (Kx.set (Z := fun j => j = (w.heap.size + 1)) (p := ⟨(w.heap.size + 1), 4, none⟩) rfl _)).tr (Kx.set (Z := fun j => j = (w.heap.size + 1)) (p := ⟨(w.heap.size + 1), 5, none⟩) rfl _)).tr (Kx.set (Z := fun j => j = (w.heap.size + 1)) (p := ⟨(w.heap.size + 1), 6, none⟩) rfl _)) (fun b off e e2 => by have := N7.out ⟨b, off, none⟩ e; dsimp only at this; omega))
    · exact (RowOf.kx R11.out ((((((((Kx.refl _ _).tr (Kx.set (Z := fun j => j = (w.heap.size + 1)) (p := ⟨(w.heap.size + 1), 0, none⟩) rfl _)).tr (Kx.set (Z := fun j => j = (w.heap.size + 1)) (p := ⟨(w.heap.size + 1), 1, none⟩) rfl _)).tr (Kx.set (Z := fun j => j = (w.heap.size + 1)) (p := ⟨(w.heap.size + 1), 2, none⟩) rfl _)).tr (Kx.set (Z := fun j => j = (w.heap.size + 1)) (p := ⟨(w.heap.size + 1), 3, none⟩) rfl _)).tr (Kx.set (Z := fun j => j = (w.heap.size + 1)) (p := ⟨(w.heap.size + 1), 4, none⟩) rfl _)).tr (Kx.set (Z := fun j => j = (w.heap.size + 1)) (p := ⟨(w.heap.size + 1), 5, none⟩) rfl _)).tr (Kx.set (Z := fun j => j = (w.heap.size + 1)) (p := ⟨(w.heap.size + 1), 6, none⟩) rfl _)) (fun b off e e2 => by have := N11.out ⟨b, off, none⟩ e; dsimp only at this; omega))
    · intro ad e; have := N3.out ad e; simp only [World.size_setCell]; omega
    · intro ad e; have := N7.out ad e; simp only [World.size_setCell]; omega
    · intro ad e; have := N11.out ad e; simp only [World.size_setCell]; omega

set_option maxRecDepth 100000 in
set_option maxHeartbeats 4000000 in
theorem own02_any (tab hei slo : Int) (pan top bot : List Int) (pa ta ba : Option Addr) (pc tc bc : Nat) (opn : Bool) (l1 : pan.length ≤ 1000) (l2 : top.length ≤ 1000) (l3 : bot.length ≤ 1000) (w : World) (hp : IRow w pa pan) (ht : IRow w ta top) (hb : IRow w ba bot) :
    Calls Try.prog 16 #[.agg #[.int .i64 tab, .slice pa pan.length pc, .int .i64 hei, .slice ta top.length tc, .slice ba bot.length bc, .int .i64 slo, .bool opn]] w fun e w' => ∃ a3 c3 a7 c7 a11 c11, e = .returned (.agg #[.int .i64 tab, .slice a3 pan.length c3, .int .i64 hei, .slice a7 top.length c7, .slice a11 bot.length c11, .int .i64 slo, .bool opn]) ∧ Gr w w' ∧ IRow w' a3 pan ∧ IRow w' a7 top ∧ IRow w' a11 bot ∧ (∀ ad, a3 = some ad → w.heap.size ≤ ad.block ∧ ad.block < w'.heap.size) ∧ (∀ ad, a7 = some ad → w.heap.size ≤ ad.block ∧ ad.block < w'.heap.size) ∧ (∀ ad, a11 = some ad → w.heap.size ≤ ad.block ∧ ad.block < w'.heap.size) := by
  have gg := (Gr.al w (.cells #[.int .i64 tab, .slice pa pan.length pc, .int .i64 hei, .slice ta top.length tc, .slice ba bot.length bc, .int .i64 slo, .bool opn] 24)).tr (Gr.al _ (.cells #[.int .i64 0, .slice none 0 0, .int .i64 0, .slice none 0 0, .slice none 0 0, .int .i64 0, .bool false] 24))
  have oB := (Box.new w [.int .i64 tab, .slice pa pan.length pc, .int .i64 hei, .slice ta top.length tc, .slice ba bot.length bc, .int .i64 slo, .bool opn] 24 w.heap.size rfl).keep (Gr.al _ (.cells #[.int .i64 0, .slice none 0 0, .int .i64 0, .slice none 0 0, .slice none 0 0, .int .i64 0, .bool false] 24))
  have oZ := Own.new (w.alloc (.cells #[.int .i64 tab, .slice pa pan.length pc, .int .i64 hei, .slice ta top.length tc, .slice ba bot.length bc, .int .i64 slo, .bool opn] 24)) [.int .i64 0, .slice none 0 0, .int .i64 0, .slice none 0 0, .slice none 0 0, .int .i64 0, .bool false] 24 (w.heap.size + 1) (by simp)
  have HP := Lib.hid hp
  have HT := Lib.hid ht
  have HB := Lib.hid hb
  clear hp ht hb
  have hl1 : w.heap.size ≤ w.heap.size + 1 := Nat.le_succ _
  go_enter Try.func16, Try.ntmps16
  go_upto_region 1 with fail
  refine wp_abs (fun U => Gr w U ∧ Box U w.heap.size [.int .i64 tab, .slice pa pan.length pc, .int .i64 hei, .slice ta top.length tc, .slice ba bot.length bc, .int .i64 slo, .bool opn] ∧ Own U (w.heap.size + 1) [.int .i64 0, .slice none 0 0, .int .i64 0, .slice none 0 0, .slice none 0 0, .int .i64 0, .bool false]) ⟨gg, oB, oZ⟩ ?_
  clear gg oB oZ
  rintro U ⟨gU, oB, oZ⟩
  obtain ⟨b0, b1, b2, b3, b4, b5, b6⟩ := oB.c7
  have hlt : w.heap.size + 1 < U.heap.size := oZ.1.1
  go_wp2_with (go_at_call 62; refine (copy02_any tab hei slo pan top bot pa ta ba pc tc bc opn l1 l2 l3 U (HP.out.grow gU) (HT.out.grow gU) (HB.out.grow gU)).mono ?_; rintro e w1 ⟨a3, c3, a7, c7, a11, c11, rfl, g1, r3, r7, r11, n3, n7, n11⟩; replace gU := gU.tr g1; replace oZ := oZ.keep g1; clear b0 b1 b2 b3 b4 b5 b6 oB; have N3 := Lib.hid n3; have N7 := Lib.hid n7; have N11 := Lib.hid n11; have R3 := Lib.hid r3; have R7 := Lib.hid r7; have R11 := Lib.hid r11; clear n3 n7 n11 r3 r7 r11; have p0 := oZ.1.2 0 _ rfl; have z0 := oZ.2 0; have p1 := oZ.1.2 1 _ rfl; have z1 := oZ.2 1; have p2 := oZ.1.2 2 _ rfl; have z2 := oZ.2 2; have p3 := oZ.1.2 3 _ rfl; have z3 := oZ.2 3; have p4 := oZ.1.2 4 _ rfl; have z4 := oZ.2 4; have p5 := oZ.1.2 5 _ rfl; have z5 := oZ.2 5; have p6 := oZ.1.2 6 _ rfl; have z6 := oZ.2 6)
  refine bodyPost_ret (v := .agg #[.int .i64 tab, .slice a3 pan.length c3, .int .i64 hei, .slice a7 top.length c7, .slice a11 bot.length c11, .int .i64 slo, .bool opn]) (by simp [results, Try.results16, go_sem, p0, p1, p2, p3, p4, p5, p6]) rfl ⟨_, _, _, _, _, _, rfl, ?_, ?_, ?_, ?_, ?_, ?_, ?_⟩
  · exact (((((((gU.setCell (p := ⟨w.heap.size + 1, 0, none⟩) hl1 _).setCell (p := ⟨w.heap.size + 1, 1, none⟩) hl1 _).setCell (p := ⟨w.heap.size + 1, 2, none⟩) hl1 _).setCell (p := ⟨w.heap.size + 1, 3, none⟩) hl1 _).setCell (p := ⟨w.heap.size + 1, 4, none⟩) hl1 _).setCell (p := ⟨w.heap.size + 1, 5, none⟩) hl1 _).setCell (p := ⟨w.heap.size + 1, 6, none⟩) hl1 _)
  · exact (RowOf.kx R3.out ((((((((Kx.refl _ _).tr (Kx.set (Z := fun j => j = (w.heap.size + 1)) (p := ⟨(w.heap.size + 1), 0, none⟩) rfl _)).tr (Kx.set (Z := fun j => j = (w.heap.size + 1)) (p := ⟨(w.heap.size + 1), 1, none⟩) rfl _)).tr (Kx.set (Z := fun j => j = (w.heap.size + 1)) (p := ⟨(w.heap.size + 1), 2, none⟩) rfl _)).tr (Kx.set (Z := fun j => j = (w.heap.size + 1)) (p := ⟨(w.heap.size + 1), 3, none⟩) rfl _)).tr (Kx.set (Z := fun j => j = (w.heap.size + 1)) (p := ⟨(w.heap.size + 1), 4, none⟩) rfl _)).tr (Kx.set (Z := fun j => j = (w.heap.size + 1)) (p := ⟨(w.heap.size + 1), 5, none⟩) rfl _)).tr (Kx.set (Z := fun j => j = (w.heap.size + 1)) (p := ⟨(w.heap.size + 1), 6, none⟩) rfl _)) (fun b off e e2 => by have := N3.out ⟨b, off, none⟩ e; dsimp only at this; omega))
  · exact (RowOf.kx R7.out ((((((((Kx.refl _ _).tr (Kx.set (Z := fun j => j = (w.heap.size + 1)) (p := ⟨(w.heap.size + 1), 0, none⟩) rfl _)).tr (Kx.set (Z := fun j => j = (w.heap.size + 1)) (p := ⟨(w.heap.size + 1), 1, none⟩) rfl _)).tr (Kx.set (Z := fun j => j = (w.heap.size + 1)) (p := ⟨(w.heap.size + 1), 2, none⟩) rfl _)).tr (Kx.set (Z := fun j => j = (w.heap.size + 1)) (p := ⟨(w.heap.size + 1), 3, none⟩) rfl _)).tr (Kx.set (Z := fun j => j = (w.heap.size + 1)) (p := ⟨(w.heap.size + 1), 4, none⟩) rfl _)).tr (Kx.set (Z := fun j => j = (w.heap.size + 1)) (p := ⟨(w.heap.size + 1), 5, none⟩) rfl _)).tr (Kx.set (Z := fun j => j = (w.heap.size + 1)) (p := ⟨(w.heap.size + 1), 6, none⟩) rfl _)) (fun b off e e2 => by have := N7.out ⟨b, off, none⟩ e; dsimp only at this; omega))
  · exact (RowOf.kx R11.out ((((((((Kx.refl _ _).tr (Kx.set (Z := fun j => j = (w.heap.size + 1)) (p := ⟨(w.heap.size + 1), 0, none⟩) rfl _)).tr (Kx.set (Z := fun j => j = (w.heap.size + 1)) (p := ⟨(w.heap.size + 1), 1, none⟩) rfl _)).tr (Kx.set (Z := fun j => j = (w.heap.size + 1)) (p := ⟨(w.heap.size + 1), 2, none⟩) rfl _)).tr (Kx.set (Z := fun j => j = (w.heap.size + 1)) (p := ⟨(w.heap.size + 1), 3, none⟩) rfl _)).tr (Kx.set (Z := fun j => j = (w.heap.size + 1)) (p := ⟨(w.heap.size + 1), 4, none⟩) rfl _)).tr (Kx.set (Z := fun j => j = (w.heap.size + 1)) (p := ⟨(w.heap.size + 1), 5, none⟩) rfl _)).tr (Kx.set (Z := fun j => j = (w.heap.size + 1)) (p := ⟨(w.heap.size + 1), 6, none⟩) rfl _)) (fun b off e e2 => by have := N11.out ⟨b, off, none⟩ e; dsimp only at this; omega))
  · intro ad e; have := N3.out ad e; have h9 := gU.size; simp only [World.size_setCell]; omega
  · intro ad e; have := N7.out ad e; have h9 := gU.size; simp only [World.size_setCell]; omega
  · intro ad e; have := N11.out ad e; have h9 := gU.size; simp only [World.size_setCell]; omega

end Go.Proofs.Ytafkoococfnakaa

namespace Go.Proofs.Ytafkoococfnakaa
set_option linter.unusedVariables false
set_option linter.unusedSimpArgs false
open Go.RowKit

theorem check_eq (tab hei slo : Int) (pan top bot : List Int) (pa ta ba : Option Addr) (pc tc bc : Nat) (opn : Bool) (E : Int) (h : checkE tab hei slo pan top bot opn = E) (w : World) (hp : IRow w pa pan) (ht : IRow w ta top) (hb : IRow w ba bot) :
    Calls Try.prog 17 #[.agg #[.int .i64 tab, .slice pa pan.length pc, .int .i64 hei, .slice ta top.length tc, .slice ba bot.length bc, .int .i64 slo, .bool opn]] w fun e w' => e = .returned (.int .i64 E) ∧ Gr w w' := by subst h; exact blank_any tab hei slo pan top bot pa ta ba pc tc bc opn w hp ht hb

theorem refCheck_eq (tab hei slo : Int) (pan top bot : List Int) (pa ta ba : Option Addr) (pc tc bc : Nat) (opn : Bool) (E : Int) (h : checkE tab hei slo pan top bot opn = E) (w : World) (hp : IRow w pa pan) (ht : IRow w ta top) (hb : IRow w ba bot) :
    Calls Try.prog 21 #[.agg #[.int .i64 tab, .slice pa pan.length pc, .int .i64 hei, .slice ta top.length tc, .slice ba bot.length bc, .int .i64 slo, .bool opn]] w fun e w' => e = .returned (.int .i64 E) ∧ Gr w w' := by subst h; exact refCheck02_any tab hei slo pan top bot pa ta ba pc tc bc opn w hp ht hb

theorem size_err (tab hei slo : Int) (pan top bot : List Int) (pa ta ba : Option Addr) (pc tc bc : Nat) (opn : Bool) (E : Int) (h : checkE tab hei slo pan top bot opn = E) (h0 : E ≠ 0) (w : World) (hp : IRow w pa pan) (ht : IRow w ta top) (hb : IRow w ba bot) :
    Calls Try.prog 18 #[.agg #[.int .i64 tab, .slice pa pan.length pc, .int .i64 hei, .slice ta top.length tc, .slice ba bot.length bc, .int .i64 slo, .bool opn]] w fun e w' => e = .returned (.tuple #[.int .i64 0, .int .i64 0, .int .i64 0, .int .i64 E]) ∧ Gr w w' := by
  subst h
  refine (size_any tab hei slo pan top bot pa ta ba pc tc bc opn w hp ht hb).mono ?_
  rintro e w' ⟨g, h | h⟩
  · exact ⟨h.2, g⟩
  · exact absurd h.1 h0

theorem scores_err (tab hei slo : Int) (pan top bot : List Int) (pa ta ba : Option Addr) (pc tc bc : Nat) (opn : Bool) (E : Int) (h : checkE tab hei slo pan top bot opn = E) (h0 : E ≠ 0) (w : World) (hp : IRow w pa pan) (ht : IRow w ta top) (hb : IRow w ba bot) :
    Calls Try.prog 19 #[.agg #[.int .i64 tab, .slice pa pan.length pc, .int .i64 hei, .slice ta top.length tc, .slice ba bot.length bc, .int .i64 slo, .bool opn]] w fun e w' => e = .returned (.tuple #[.slice none 0 0, .slice none 0 0, .int .i64 E]) ∧ Gr w w' := by
  subst h
  refine (scores_any tab hei slo pan top bot pa ta ba pc tc bc opn w hp ht hb).mono ?_
  rintro e w' ⟨g, h | h⟩
  · exact ⟨h.2, g⟩
  · exact absurd h.1 h0

theorem scores_ok (tab hei slo : Int) (pan top bot : List Int) (pa ta ba : Option Addr) (pc tc bc : Nat) (opn : Bool) (h : checkE tab hei slo pan top bot opn = 0) (w : World) (hp : IRow w pa pan) (ht : IRow w ta top) (hb : IRow w ba bot) :
    Calls Try.prog 19 #[.agg #[.int .i64 tab, .slice pa pan.length pc, .int .i64 hei, .slice ta top.length tc, .slice ba bot.length bc, .int .i64 slo, .bool opn]] w fun e w' => ∃ p c q d, e = .returned (.tuple #[.slice p 4 c, .slice q 2 d, .int .i64 0]) ∧ Gr w w' ∧ IRow w' p (placesTo tab pan 4) ∧ IRow w' q [maxL top, maxL top + hei] := by
  refine (scores_any tab hei slo pan top bot pa ta ba pc tc bc opn w hp ht hb).mono ?_
  rintro e w' ⟨g, h1 | ⟨_, p, c, q, d, h1, h2, h3⟩⟩
  · exact absurd h h1.1
  · rw [places_len] at h1
    exact ⟨p, c, q, d, h1, g, h2, h3⟩

theorem ints_places (tab : Int) (pan : List Int) (a b : Option Addr) (c d : Nat) (w : World) (h1 : IRow w a (placesTo tab pan 4)) (h2 : IRow w b (placesTo tab pan 4)) :
    Calls Try.prog 22 #[.slice a 4 c, .slice b 4 d] w fun e w' => e = .returned (.bool true) ∧ Gr w w' := by
  have h := ints02_any (placesTo tab pan 4) (placesTo tab pan 4) a b c d w h1 h2
  rw [decide_eq_true rfl, places_len] at h
  exact h

theorem ints_two (x y : Int) (a b : Option Addr) (c d : Nat) (w : World) (h1 : IRow w a [x, y]) (h2 : IRow w b [x, y]) :
    Calls Try.prog 22 #[.slice a 2 c, .slice b 2 d] w fun e w' => e = .returned (.bool true) ∧ Gr w w' := by
  have h := ints02_any [x, y] [x, y] a b c d w h1 h2
  rw [decide_eq_true rfl] at h
  exact h

theorem max_two {l : List Int} {x y : Int} (h2 : l.length = 2) (hx : l[0]? = some x) (hy : l[1]? = some y) : maxL l = max x y := by
  match l, h2 with
  | [a, b], _ =>
    simp at hx hy
    subst hx
    subst hy
    simp [maxL, maxTo]

theorem same02_eq (tab hei slo : Int) (pan top bot : List Int) (pa ta ba : Option Addr) (pc tc bc : Nat) (opn : Bool) (a3 a7 a11 : Option Addr) (c3 c7 c11 : Nat) (w : World) (hp : IRow w pa pan) (ht : IRow w ta top) (hb : IRow w ba bot) (h1 : IRow w a3 pan) (h2 : IRow w a7 top) (h3 : IRow w a11 bot) :
    Calls Try.prog 20 #[.agg #[.int .i64 tab, .slice a3 pan.length c3, .int .i64 hei, .slice a7 top.length c7, .slice a11 bot.length c11, .int .i64 slo, .bool opn], .agg #[.int .i64 tab, .slice pa pan.length pc, .int .i64 hei, .slice ta top.length tc, .slice ba bot.length bc, .int .i64 slo, .bool opn]] w fun e w' => e = .returned (.bool true) ∧ Gr w w' := by
  have h := same02_any ⟨tab, pan, hei, top, bot, slo, opn⟩ ⟨tab, pan, hei, top, bot, slo, opn⟩ a3 a7 a11 pa ta ba c3 c7 c11 pc tc bc w ⟨h1, h2, h3⟩ ⟨hp, ht, hb⟩
  rw [(sameB_iff _ _).2 rfl] at h
  exact h

set_option maxRecDepth 100000 in
set_option maxHeartbeats 8000000 in
theorem sizes_body (tab hei slo : Int) (pan top bot : List Int) (pa ta ba : Option Addr) (pc tc bc : Nat) (opn : Bool) (w : World) (hp : IRow w pa pan) (ht : IRow w ta top) (hb : IRow w ba bot) : Calls Try.prog 3 #[.agg #[.int .i64 tab, .slice pa pan.length pc, .int .i64 hei, .slice ta top.length tc, .slice ba bot.length bc, .int .i64 slo, .bool opn]] w fun e w' => e = .returned (.bool true) ∧ Gr w w' := by
  have gg := Gr.al w (.cells #[.int .i64 tab, .slice pa pan.length pc, .int .i64 hei, .slice ta top.length tc, .slice ba bot.length bc, .int .i64 slo, .bool opn] 24)
  have hBs := Box.new w [.int .i64 tab, .slice pa pan.length pc, .int .i64 hei, .slice ta top.length tc, .slice ba bot.length bc, .int .i64 slo, .bool opn] 24 w.heap.size rfl
  have HP := Lib.hid hp
  have HT := Lib.hid ht
  have HB := Lib.hid hb
  clear hp ht hb
  obtain ⟨d, hd⟩ : ∃ d, (decide (10 < pan.length) || (decide (10 < top.length) || decide (10 < bot.length))) = d := ⟨_, rfl⟩
  obtain ⟨b0, b1, b2, b3, b4, b5, b6⟩ := hBs.c7
  cases d with
  | true =>
    have HD := Lib.hid hd
    clear hd
    go_enter Try.func3, Try.ntmps3
    go_wp2_with (first
      | (go_at_call 14; refine (large02_any tab hei slo pan top bot pa ta ba pc tc bc opn true HD.out _).mono ?_; rintro e w1 ⟨rfl, g1⟩)
      | (go_at_call 15; refine (known_any _).mono ?_; rintro e w2 ⟨rfl, g2⟩))
    go_ret
    exact ⟨rfl, gg.tr (g1.tr g2)⟩
  | false =>
    have hl : pan.length ≤ 10 ∧ top.length ≤ 10 ∧ bot.length ≤ 10 := by
      simp at hd
      omega
    have HL := Lib.hid hl
    have HD := Lib.hid hd
    clear hd hl
    obtain ⟨E, hE⟩ : ∃ E, checkE tab hei slo pan top bot opn = E := ⟨_, rfl⟩
    have HE := Lib.hid hE
    clear hE
    go_enter Try.func3, Try.ntmps3
    go_upto_region 4 with (first
      | (go_at_call 14; refine (large02_any tab hei slo pan top bot pa ta ba pc tc bc opn false HD.out _).mono ?_; rintro e w1 ⟨rfl, g1⟩; replace gg := gg.tr g1; replace hBs := hBs.keep g1; clear b0 b1 b2 b3 b4 b5 b6; obtain ⟨b0, b1, b2, b3, b4, b5, b6⟩ := hBs.c7)
      | (go_at_call 16; refine (own02_any tab hei slo pan top bot pa ta ba pc tc bc opn (by have := HL.out.1; omega) (by have := HL.out.2.1; omega) (by have := HL.out.2.2; omega) _ (HP.out.grow gg) (HT.out.grow gg) (HB.out.grow gg)).mono ?_; rintro e w2 ⟨a3, c3, a7, c7, a11, c11, rfl, g2, r3, r7, r11, _, _, _⟩))
    obtain ⟨B, hB⟩ : ∃ B, B = w2.heap.size := ⟨_, rfl⟩
    have hBo := Box.new w2 [.int .i64 tab, .slice a3 pan.length c3, .int .i64 hei, .slice a7 top.length c7, .slice a11 bot.length c11, .int .i64 slo, .bool opn] 24 B hB
    have gq := Gr.al w2 (.cells #[.int .i64 tab, .slice a3 pan.length c3, .int .i64 hei, .slice a7 top.length c7, .slice a11 bot.length c11, .int .i64 slo, .bool opn] 24)
    rw [← hB]
    refine wp_abs (fun X => Gr w X ∧ Box X w.heap.size [.int .i64 tab, .slice pa pan.length pc, .int .i64 hei, .slice ta top.length tc, .slice ba bot.length bc, .int .i64 slo, .bool opn] ∧ Box X B [.int .i64 tab, .slice a3 pan.length c3, .int .i64 hei, .slice a7 top.length c7, .slice a11 bot.length c11, .int .i64 slo, .bool opn] ∧ IRow X a3 pan ∧ IRow X a7 top ∧ IRow X a11 bot) ⟨gg.tr (g2.tr gq), hBs.keep (g2.tr gq), hBo, r3.grow gq, r7.grow gq, r11.grow gq⟩ ?_
    clear gg hBs hBo r3 r7 r11 gq hB b0 b1 b2 b3 b4 b5 b6 g1 g2
    rintro X ⟨gX, hBs, hBo, r3, r7, r11⟩
    obtain ⟨b0, b1, b2, b3, b4, b5, b6⟩ := hBs.c7
    obtain ⟨o0, o1, o2, o3, o4, o5, o6⟩ := hBo.c7
    by_cases h0 : E = 0
    case neg =>
      have H0 := Lib.hid h0
      have h0' : (E != 0) = true := by rw [bne_iff_ne]; exact h0
      clear h0
      go_upto_region 5 with (go_at_call 17; refine (check_eq tab hei slo pan top bot a3 a7 a11 c3 c7 c11 opn _ HE.out _ r3 r7 r11).mono ?_; rintro e w3 ⟨rfl, g3⟩; replace gX := gX.tr g3; replace hBs := hBs.keep g3; replace hBo := hBo.keep g3; replace r3 := r3.grow g3; replace r7 := r7.grow g3; replace r11 := r11.grow g3; clear b0 b1 b2 b3 b4 b5 b6 o0 o1 o2 o3 o4 o5 o6; obtain ⟨b0, b1, b2, b3, b4, b5, b6⟩ := hBs.c7; obtain ⟨o0, o1, o2, o3, o4, o5, o6⟩ := hBo.c7; clear g3)
      go_upto_region 6 with (go_at_call 18; refine (size_err tab hei slo pan top bot a3 a7 a11 c3 c7 c11 opn _ HE.out H0.out _ r3 r7 r11).mono ?_; rintro e w4 ⟨rfl, g4⟩; replace gX := gX.tr g4; replace hBs := hBs.keep g4; replace hBo := hBo.keep g4; replace r3 := r3.grow g4; replace r7 := r7.grow g4; replace r11 := r11.grow g4; clear b0 b1 b2 b3 b4 b5 b6 o0 o1 o2 o3 o4 o5 o6; obtain ⟨b0, b1, b2, b3, b4, b5, b6⟩ := hBs.c7; obtain ⟨o0, o1, o2, o3, o4, o5, o6⟩ := hBo.c7; clear g4)
      go_upto_region 7 with (go_at_call 19; refine (scores_err tab hei slo pan top bot a3 a7 a11 c3 c7 c11 opn _ HE.out H0.out _ r3 r7 r11).mono ?_; rintro e w5 ⟨rfl, g5⟩; replace gX := gX.tr g5; replace hBs := hBs.keep g5; replace hBo := hBo.keep g5; replace r3 := r3.grow g5; replace r7 := r7.grow g5; replace r11 := r11.grow g5; clear b0 b1 b2 b3 b4 b5 b6 o0 o1 o2 o3 o4 o5 o6; obtain ⟨b0, b1, b2, b3, b4, b5, b6⟩ := hBs.c7; obtain ⟨o0, o1, o2, o3, o4, o5, o6⟩ := hBo.c7; clear g5)
      have hee : (E != E) = false := bne_self_eq_false E
      go_wp2_with (first
        | (go_at_call 20; refine (same02_eq tab hei slo pan top bot pa ta ba pc tc bc opn a3 a7 a11 c3 c7 c11 _ (HP.out.grow gX) (HT.out.grow gX) (HB.out.grow gX) r3 r7 r11).mono ?_; rintro e w6 ⟨rfl, g6⟩; replace gX := gX.tr g6; replace hBs := hBs.keep g6; replace hBo := hBo.keep g6; replace r3 := r3.grow g6; replace r7 := r7.grow g6; replace r11 := r11.grow g6; clear b0 b1 b2 b3 b4 b5 b6 o0 o1 o2 o3 o4 o5 o6; obtain ⟨b0, b1, b2, b3, b4, b5, b6⟩ := hBs.c7; obtain ⟨o0, o1, o2, o3, o4, o5, o6⟩ := hBo.c7; clear g6)
        | (go_at_call 21; refine (refCheck_eq tab hei slo pan top bot pa ta ba pc tc bc opn _ HE.out _ (HP.out.grow gX) (HT.out.grow gX) (HB.out.grow gX)).mono ?_; rintro e w7 ⟨rfl, g7⟩; replace gX := gX.tr g7; replace hBs := hBs.keep g7; replace hBo := hBo.keep g7; replace r3 := r3.grow g7; replace r7 := r7.grow g7; replace r11 := r11.grow g7; clear b0 b1 b2 b3 b4 b5 b6 o0 o1 o2 o3 o4 o5 o6; obtain ⟨b0, b1, b2, b3, b4, b5, b6⟩ := hBs.c7; obtain ⟨o0, o1, o2, o3, o4, o5, o6⟩ := hBo.c7; clear g7)
        | (go_at_call 15; refine (known_any _).mono ?_; rintro e w8 ⟨rfl, g8⟩))
      go_ret
      exact ⟨rfl, gX.tr g8⟩
    subst h0
    have G := good_of HE.out
    have hl4 := G.l4
    obtain ⟨t0, t1⟩ := in_one G.gtab
    obtain ⟨e0, e1⟩ := in_one G.ghei
    have HSB := Lib.hid (fun k hk => sumTo_bd (s := tab) (l := pan) ⟨t0, t1⟩ G.gpan k hk)
    obtain ⟨m0, m1⟩ := maxL_bd G.gtop (by rw [G.t2]; omega)
    obtain ⟨n0, n1⟩ := maxL_bd G.gbot (by rw [G.b2]; omega)
    have HG := Lib.hid G
    have hln : pan.length = 4 := hl4
    have HLN := Lib.hid hln
    obtain ⟨ac, hac⟩ : ∃ x, acrossL tab pan = x := ⟨_, rfl⟩
    obtain ⟨al, hal⟩ : ∃ x, alongL hei top bot = x := ⟨_, rfl⟩
    have HAC := Lib.hid hac
    have HAL := Lib.hid hal
    have cS := fun (v : World) (h1 : IRow v a3 pan) (h2 : IRow v a7 top) (h3 : IRow v a11 bot) => size_ok tab hei slo pan top bot a3 a7 a11 c3 c7 c11 opn HG.out v h1 h2 h3
    rw [hac, hal] at cS
    have CS := Lib.hid cS
    clear cS hac hal hl4 G hln
    go_upto_region 5 with (go_at_call 17; refine (check_eq tab hei slo pan top bot a3 a7 a11 c3 c7 c11 opn _ HE.out _ r3 r7 r11).mono ?_; rintro e w3 ⟨rfl, g3⟩; replace gX := gX.tr g3; replace hBs := hBs.keep g3; replace hBo := hBo.keep g3; replace r3 := r3.grow g3; replace r7 := r7.grow g3; replace r11 := r11.grow g3; clear b0 b1 b2 b3 b4 b5 b6 o0 o1 o2 o3 o4 o5 o6; obtain ⟨b0, b1, b2, b3, b4, b5, b6⟩ := hBs.c7; obtain ⟨o0, o1, o2, o3, o4, o5, o6⟩ := hBo.c7; clear g3)
    go_upto_region 6 with (go_at_call 18; refine (CS.out _ r3 r7 r11).mono ?_; rintro e w4 ⟨rfl, g4⟩; replace gX := gX.tr g4; replace hBs := hBs.keep g4; replace hBo := hBo.keep g4; replace r3 := r3.grow g4; replace r7 := r7.grow g4; replace r11 := r11.grow g4; clear b0 b1 b2 b3 b4 b5 b6 o0 o1 o2 o3 o4 o5 o6; obtain ⟨b0, b1, b2, b3, b4, b5, b6⟩ := hBs.c7; obtain ⟨o0, o1, o2, o3, o4, o5, o6⟩ := hBo.c7; clear g4)
    go_upto_region 7 with (go_at_call 19; refine (scores_ok tab hei slo pan top bot a3 a7 a11 c3 c7 c11 opn HE.out _ r3 r7 r11).mono ?_; rintro e w5 ⟨p9, c9, p10, c10, rfl, g5, r9, r10⟩; replace gX := gX.tr g5; replace hBs := hBs.keep g5; replace hBo := hBo.keep g5; replace r3 := r3.grow g5; replace r7 := r7.grow g5; replace r11 := r11.grow g5; clear b0 b1 b2 b3 b4 b5 b6 o0 o1 o2 o3 o4 o5 o6; obtain ⟨b0, b1, b2, b3, b4, b5, b6⟩ := hBs.c7; obtain ⟨o0, o1, o2, o3, o4, o5, o6⟩ := hBo.c7; clear g5)
    go_upto_region 11 with (first
      | (go_at_call 20; refine (same02_eq tab hei slo pan top bot pa ta ba pc tc bc opn a3 a7 a11 c3 c7 c11 _ (HP.out.grow gX) (HT.out.grow gX) (HB.out.grow gX) r3 r7 r11).mono ?_; rintro e w6 ⟨rfl, g6⟩; replace gX := gX.tr g6; replace hBs := hBs.keep g6; replace hBo := hBo.keep g6; replace r3 := r3.grow g6; replace r7 := r7.grow g6; replace r11 := r11.grow g6; clear b0 b1 b2 b3 b4 b5 b6 o0 o1 o2 o3 o4 o5 o6; obtain ⟨b0, b1, b2, b3, b4, b5, b6⟩ := hBs.c7; obtain ⟨o0, o1, o2, o3, o4, o5, o6⟩ := hBo.c7; replace r9 := r9.grow g6; replace r10 := r10.grow g6; clear g6)
      | (go_at_call 21; refine (refCheck_eq tab hei slo pan top bot pa ta ba pc tc bc opn _ HE.out _ (HP.out.grow gX) (HT.out.grow gX) (HB.out.grow gX)).mono ?_; rintro e w7 ⟨rfl, g7⟩; replace gX := gX.tr g7; replace hBs := hBs.keep g7; replace hBo := hBo.keep g7; replace r3 := r3.grow g7; replace r7 := r7.grow g7; replace r11 := r11.grow g7; clear b0 b1 b2 b3 b4 b5 b6 o0 o1 o2 o3 o4 o5 o6; obtain ⟨b0, b1, b2, b3, b4, b5, b6⟩ := hBs.c7; obtain ⟨o0, o1, o2, o3, o4, o5, o6⟩ := hBo.c7; replace r9 := r9.grow g7; replace r10 := r10.grow g7; clear g7))
    obtain ⟨i0, hi, hz0, hz1, hz2⟩ := info_parts infoIntS
    clear o0 o1 o2 o3 o4 o5 o6 hBo r3 r7 r11
    go_wp2
    go_loopw [14, 13, 12] (fun x y z wr => Hid (∃ (k : Nat) (vv : Value), k ≤ 4 ∧ x = .int .i64 k ∧ y = vv ∧ z = .int .i64 (sumTo tab pan k) ∧ Gr w7 wr ∧ wr.ownsRow w7.heap.size 3 1 vv (placesTo tab pan k).length ((placesTo tab pan k).flatMap encI))) (fun x y z wr => 4 - (intOf x).toNat)
    case atStart => exact Lib.hid ⟨0, _, by omega, rfl, rfl, rfl, Gr.al _ _, owns_empty w7 _ 1⟩
    case round =>
      obtain ⟨k, vv, hk, rfl, hvv, rfl, gR, hown⟩ := hrel.out
      obtain rfl := hvv.symm
      clear hrel
      obtain ⟨s0, s1⟩ := HSB.out k (by have := HLN.out; omega)
      obtain ⟨sk, hsk⟩ : ∃ sk, sumTo tab pan k = sk := ⟨_, rfl⟩
      rw [hsk] at s0 s1 ⊢
      have HSK := Lib.hid hsk
      clear hsk b0 b1 b2 b3 b4 b5 b6
      by_cases hlt : k < 4
      · obtain ⟨x, hx⟩ := get_of_lt (show k < pan.length by have := HLN.out; omega)
        obtain ⟨pb, po, rfl, _, _⟩ := IRow.get HP.out hx
        obtain ⟨x0, x1⟩ := in_at HG.out.gpan hx
        have HX := Lib.hid hx
        have HSN := Lib.hid (sumTo_succ (s := tab) hx)
        have hlen := places_len tab pan k
        have HNX := Lib.hid (places_succ tab pan k)
        have hk1 : (placesTo tab pan k).length + 1 ≤ maxLen := by unfold maxLen; omega
        have hk2 : ((placesTo tab pan k).length + 1) * 8 ≤ 140737488355328 := by omega
        have v0 : IntKind.i64.wrap (sk + x) = sk + x := IntWalk.i64_in _ (by omega)
        have hlp : (k : Int) < (pan.length : Int) := by have := HLN.out; omega
        have hlq : k < pan.length := by omega
        have hoA := owns_keep hown (Gr.al wr (.cells #[.int .i64 sk] 3))
        clear hx hlen
        go_wp2_with (at_builtin; refine wpList_append_own _ rfl _ _ 22 rfl w7.heap.size 3 i0 (.int .i64 0) 1 8 Try.underlying22 hi hz0 hz1 hz2 rfl (by decide) _ _ _ rfl hoA ⟨wr.heap.size, 0, none⟩ 1 1 ([sk].map (fun n => Value.int .i64 n)) rfl rfl (cell_news _ _ _) (ints_one _) hk1 hk2 (gR.tr (Gr.al _ _)).size ?_; intro v' v6 hown' hgrow' _; have hR : Gr w7 v6 := (gR.tr (Gr.al _ _)).grown' hoA (Nat.le_refl _) hgrow'; obtain ⟨b0, b1, b2, b3, b4, b5, b6⟩ := (hBs.keep hR).c7; obtain ⟨_, _, eq, _, hc⟩ := IRow.get (HP.out.grow (gX.tr hR)) HX.out; cases eq)
        go_roundw
        case rel =>
          refine Lib.hid ⟨k + 1, v', by omega, by go_num, rfl, by rw [HSN.out, HSK.out], hR, ?_⟩
          rw [HNX.out, flat_snoc, List.length_append, HSK.out]
          exact hown'
        case measure => simp [intOf]; omega
      · obtain rfl : k = 4 := by omega

        obtain ⟨ra, rc, hv, hr⟩ := owns_row (enc := encI) (l := placesTo tab pan 4) (fun _ => rfl) (by rw [places_len]; omega) hown
        subst hv
        rw [places_len]
        have hr : IRow wr ra (placesTo tab pan 4) := hr
        obtain rfl : sk = ac := by rw [← HSK.out, ← HAC.out]; unfold acrossL; rw [HLN.out]
        obtain ⟨x, hx⟩ := get_of_lt (l := top) (k := 0) (by rw [HG.out.t2]; omega)
        obtain ⟨y, hy⟩ := get_of_lt (l := top) (k := 1) (by rw [HG.out.t2]; omega)
        obtain ⟨u, hu⟩ := get_of_lt (l := bot) (k := 0) (by rw [HG.out.b2]; omega)
        obtain ⟨v, hv⟩ := get_of_lt (l := bot) (k := 1) (by rw [HG.out.b2]; omega)
        have hm1 := max_two HG.out.t2 hx hy
        have hm2 := max_two HG.out.b2 hu hv
        obtain ⟨x0, x1⟩ := in_at HG.out.gtop hx
        obtain ⟨y0, y1⟩ := in_at HG.out.gtop hy
        obtain ⟨u0, u1⟩ := in_at HG.out.gbot hu
        obtain ⟨v0, v1⟩ := in_at HG.out.gbot hv
        have lt0 : 0 < top.length := by rw [HG.out.t2]; omega
        have lt1 : 1 < top.length := by rw [HG.out.t2]; omega
        have lb0 : 0 < bot.length := by rw [HG.out.b2]; omega
        have lb1 : 1 < bot.length := by rw [HG.out.b2]; omega
        obtain ⟨tb, tof, rfl, _, _⟩ := IRow.get HT.out hx
        obtain ⟨bb, bo, rfl, _, _⟩ := IRow.get HB.out hu
        have gA := gX.tr gR
        obtain ⟨_, _, e1, _, k0⟩ := IRow.get (HT.out.grow gA) hx
        obtain ⟨_, _, e2, _, k1⟩ := IRow.get (HT.out.grow gA) hy
        obtain ⟨_, _, e3, _, k2⟩ := IRow.get (HB.out.grow gA) hu
        obtain ⟨_, _, e4, _, k3⟩ := IRow.get (HB.out.grow gA) hv
        cases e1
        cases e2
        cases e3
        cases e4
        simp only [Nat.add_zero] at k0 k2
        have HM1 := Lib.hid hm1
        have HM2 := Lib.hid hm2
        have HU := Lib.hid hu
        have HV := Lib.hid hv
        clear hx hy hu hv hm1 hm2 hown m0 m1 n0 n1 hi hz0 hz1 hz2
        replace hBs := hBs.keep gR
        replace r9 := r9.grow gR
        replace r10 := r10.grow gR
        obtain ⟨b0, b1, b2, b3, b4, b5, b6⟩ := hBs.c7
        go_upto_region 17 with fail
        go_quiet (fail)
        obtain ⟨mx, hmx⟩ : ∃ m, max x y = m := ⟨_, rfl⟩
        obtain ⟨mb, hmb⟩ : ∃ m, max u v = m := ⟨_, rfl⟩
        rw [hmx]
        have hm1 := HM1.out
        have hm2 := HM2.out
        rw [hmx] at hm1
        rw [hmb] at hm2
        have mx0 : 0 ≤ mx ∧ mx ≤ 3000 := by omega
        have mb0 : 0 ≤ mb ∧ mb ≤ 3000 := by omega
        rw [hm1] at r10
        obtain rfl : mx + hei + mb = al := by rw [← HAL.out]; unfold alongL; rw [hm1, hm2]
        have hpr := mul_bdS (A := 12100) (B := 9000) s0 (by omega : sk ≤ 12100) (by omega : 0 ≤ mx + hei + mb) (by omega)
        have v2 : IntKind.i64.wrap (mx + hei) = mx + hei := IntWalk.i64_in _ (by omega)
        have v3 : IntKind.i64.wrap (mx + hei + max u v) = mx + hei + mb := by rw [hmb]; exact IntWalk.i64_in _ (by omega)
        have v4 : IntKind.i64.wrap (sk * (mx + hei + mb)) = sk * (mx + hei + mb) := IntWalk.i64_in _ (by omega)
        have V3 := Lib.hid v3
        go_upto_region 18 with fail
        refine wp_abs (fun V => Gr wr V) (Gr.drewN (Below.refl _ _) _) ?_
        rintro V gV
        have gB := gA.tr gV
        obtain ⟨_, _, e3, _, j2⟩ := IRow.get (HB.out.grow gB) HU.out
        obtain ⟨_, _, e4, _, j3⟩ := IRow.get (HB.out.grow gB) HV.out
        cases e3
        cases e4
        simp only [Nat.add_zero] at j2
        have hBs := hBs.keep gV
        clear b0 b1 b2 b3 b4 b5 b6 k0 k1 k2 k3 hm1 hm2 hmx hmb HM1 HM2
        obtain ⟨b0, b1, b2, b3, b4, b5, b6⟩ := hBs.c7
        go_upto_region 19 with fail
        go_quiet (fail)
        go_upto_region 20 with fail
        refine wp_abs (fun Y => Gr V Y) (Gr.drewN (Below.refl _ _) _) ?_
        rintro Y gY
        have r9 := r9.grow (gV.tr gY)
        have r10 := r10.grow (gV.tr gY)
        have hr := hr.grow (gV.tr gY)
        have gC := gB.tr gY
        clear b0 b1 b2 b3 b4 b5 b6 hBs j2 j3
        have tk : True := trivial
        go_wp2_with (first
          | (have _t := tk; clear tk _t; go_at_call 22; refine (ints_places tab pan p9 ra c9 rc _ r9 hr).mono ?_; rintro e w10 ⟨rfl, g10⟩)
          | (go_at_call 22; go_loud (refine (ints_two mx (mx + hei) p10 _ c10 _ _ (r10.grow (g10.tr (Gr.al _ _))) (IRow.new' w10 3 [mx, mx + hei] (by simp) _ rfl _ (by rfl))).mono ?_); rintro e w11 ⟨rfl, g11⟩)
          | (go_at_call 15; refine (known_any _).mono ?_; rintro e w12 ⟨rfl, g12⟩))
        go_ret
        exact ⟨rfl, gC.tr (g10.tr ((Gr.al _ _).tr (g11.tr g12)))⟩

end Go.Proofs.Ytafkoococfnakaa

namespace Go.Proofs.Ytafkoococfnakaa
set_option linter.unusedVariables false
set_option linter.unusedSimpArgs false
open Go.RowKit

set_option maxRecDepth 100000 in
theorem refSpan02_any (a b lo hi : Int) (d : Bool) (hd : okSpan lo hi a b = d) (w : World) :
    Calls Try.prog 24 #[.agg #[.int .i64 a, .int .i64 b], .int .i64 lo, .int .i64 hi] w fun e w' => e = .returned (.bool d) ∧ Gr w w' := by
  have gg := Gr.al w (.cells #[.int .i64 a, .int .i64 b] 37)
  have hb := Box.new w [.int .i64 a, .int .i64 b] 37 w.heap.size rfl
  obtain ⟨q0, q1⟩ := hb.c2
  cases c : in1 lo b a with
  | true =>
    have E := Lib.hid (show d = decide (b ≤ hi) by
      rw [← hd]
      simp [in1] at c
      by_cases h : b ≤ hi
      · simp [okSpan, inB, in1, h]
        omega
      · simp [okSpan, inB, in1, h])
    clear hd
    go_enter Try.func24, Try.ntmps24
    go_wp2_with (go_at_call 25; refine (refIn02_any a lo b true c _).mono ?_; rintro e w1 ⟨rfl, g1⟩; replace hb := hb.keep g1; clear q0 q1; obtain ⟨q0, q1⟩ := hb.c2)
    go_ret
    exact ⟨ret_bool E.out.symm, gg.tr g1⟩
  | false =>
    have E := Lib.hid (show d = false by
      rw [← hd]
      cases h : okSpan lo hi a b with
      | false => rfl
      | true =>
        simp [okSpan, inB, in1] at h
        simp [in1] at c
        omega)
    clear hd
    go_enter Try.func24, Try.ntmps24
    go_wp2_with (go_at_call 25; refine (refIn02_any a lo b false c _).mono ?_; rintro e w1 ⟨rfl, g1⟩; replace hb := hb.keep g1; clear q0 q1; obtain ⟨q0, q1⟩ := hb.c2)
    go_ret
    exact ⟨ret_bool E.out.symm, gg.tr g1⟩

set_option maxRecDepth 100000 in
theorem refPanel02_any (tab hei slo : Int) (pan top bot : List Int) (pa ta ba : Option Addr) (pc tc bc : Nat) (opn : Bool) (k : Nat) (x c : Int) (hx : pan[k]? = some x) (x0 : 0 ≤ x) (x1 : x ≤ 10000) (c0 : 0 ≤ c) (c1 : c ≤ 20000) (w : World) (hp : IRow w pa pan) :
    Calls Try.prog 33 #[.agg #[.int .i64 tab, .slice pa pan.length pc, .int .i64 hei, .slice ta top.length tc, .slice ba bot.length bc, .int .i64 slo, .bool opn], .int .i64 k, .int .i64 c] w fun e w' => e = .returned (.int .i64 (1000 * x - c)) ∧ Gr w w' := by
  have gg := Gr.al w (.cells #[.int .i64 tab, .slice pa pan.length pc, .int .i64 hei, .slice ta top.length tc, .slice ba bot.length bc, .int .i64 slo, .bool opn] 24)
  have hB := Box.new w [.int .i64 tab, .slice pa pan.length pc, .int .i64 hei, .slice ta top.length tc, .slice ba bot.length bc, .int .i64 slo, .bool opn] 24 w.heap.size rfl
  obtain ⟨pb, po, rfl, _, hc⟩ := IRow.get (hp.grow gg) hx
  have hm := (hp.grow gg).1
  have hlt : k < pan.length := (List.getElem?_eq_some_iff.1 hx).1
  have hlp : (k : Int) < (pan.length : Int) := by omega
  have v0 : IntKind.i64.wrap (1000 * x) = 1000 * x := IntWalk.i64_in _ (by omega)
  have v1 : IntKind.i64.wrap (1000 * x - c) = 1000 * x - c := IntWalk.i64_in _ (by omega)
  obtain ⟨b0, b1, b2, b3, b4, b5, b6⟩ := hB.c7
  clear hx
  go_enter Try.func33, Try.ntmps33
  go_wp2
  go_ret
  exact ⟨rfl, gg⟩

set_option maxRecDepth 100000 in
set_option maxHeartbeats 4000000 in
theorem play_err (tab hei slo : Int) (pan top bot : List Int) (pa ta ba : Option Addr) (pc tc bc : Nat) (opn : Bool) (tab' hei' slo' : Int) (pan' top' bot' : List Int) (pa' ta' ba' : Option Addr) (pc' tc' bc' : Nat) (opn' : Bool) (cl ch cl' ch' E : Int) (hE : firstE [checkE tab hei slo pan top bot opn, checkE tab' hei' slo' pan' top' bot' opn', measE [⟨cl, ch⟩, ⟨cl', ch'⟩]] = E) (h0 : E ≠ 0) (w : World) (hp : IRow w pa pan) (ht : IRow w ta top) (hb : IRow w ba bot) (hp' : IRow w pa' pan') (ht' : IRow w ta' top') (hb' : IRow w ba' bot') :
    Calls Try.prog 32 #[.agg #[.int .i64 tab, .slice pa pan.length pc, .int .i64 hei, .slice ta top.length tc, .slice ba bot.length bc, .int .i64 slo, .bool opn], .agg #[.int .i64 tab', .slice pa' pan'.length pc', .int .i64 hei', .slice ta' top'.length tc', .slice ba' bot'.length bc', .int .i64 slo', .bool opn'], .agg #[.int .i64 cl, .int .i64 ch], .agg #[.int .i64 cl', .int .i64 ch']] w fun e w' => e = .returned (.tuple #[.slice none 0 0, .int .i64 E]) ∧ Gr w w' := by
  have gg := (((Gr.al w (.cells #[.int .i64 tab, .slice pa pan.length pc, .int .i64 hei, .slice ta top.length tc, .slice ba bot.length bc, .int .i64 slo, .bool opn] 24)).tr (Gr.al _ (.cells #[.int .i64 tab', .slice pa' pan'.length pc', .int .i64 hei', .slice ta' top'.length tc', .slice ba' bot'.length bc', .int .i64 slo', .bool opn'] 24))).tr (Gr.al _ (.cells #[.int .i64 cl, .int .i64 ch] 37))).tr (Gr.al _ (.cells #[.int .i64 cl', .int .i64 ch'] 37))
  have h1 := (Box.new w [.int .i64 tab, .slice pa pan.length pc, .int .i64 hei, .slice ta top.length tc, .slice ba bot.length bc, .int .i64 slo, .bool opn] 24 w.heap.size rfl).keep (((Gr.al _ (.cells #[.int .i64 tab', .slice pa' pan'.length pc', .int .i64 hei', .slice ta' top'.length tc', .slice ba' bot'.length bc', .int .i64 slo', .bool opn'] 24)).tr (Gr.al _ (.cells #[.int .i64 cl, .int .i64 ch] 37))).tr (Gr.al _ (.cells #[.int .i64 cl', .int .i64 ch'] 37)))
  have h2 := (Box.new (w.alloc (.cells #[.int .i64 tab, .slice pa pan.length pc, .int .i64 hei, .slice ta top.length tc, .slice ba bot.length bc, .int .i64 slo, .bool opn] 24)) [.int .i64 tab', .slice pa' pan'.length pc', .int .i64 hei', .slice ta' top'.length tc', .slice ba' bot'.length bc', .int .i64 slo', .bool opn'] 24 (w.heap.size + 1) (by simp)).keep ((Gr.al _ (.cells #[.int .i64 cl, .int .i64 ch] 37)).tr (Gr.al _ (.cells #[.int .i64 cl', .int .i64 ch'] 37)))
  have h3 := (Box.new ((w.alloc (.cells #[.int .i64 tab, .slice pa pan.length pc, .int .i64 hei, .slice ta top.length tc, .slice ba bot.length bc, .int .i64 slo, .bool opn] 24)).alloc (.cells #[.int .i64 tab', .slice pa' pan'.length pc', .int .i64 hei', .slice ta' top'.length tc', .slice ba' bot'.length bc', .int .i64 slo', .bool opn'] 24)) [.int .i64 cl, .int .i64 ch] 37 (w.heap.size + 1 + 1) (by simp)).keep (Gr.al _ (.cells #[.int .i64 cl', .int .i64 ch'] 37))
  have h4 := Box.new (((w.alloc (.cells #[.int .i64 tab, .slice pa pan.length pc, .int .i64 hei, .slice ta top.length tc, .slice ba bot.length bc, .int .i64 slo, .bool opn] 24)).alloc (.cells #[.int .i64 tab', .slice pa' pan'.length pc', .int .i64 hei', .slice ta' top'.length tc', .slice ba' bot'.length bc', .int .i64 slo', .bool opn'] 24)).alloc (.cells #[.int .i64 cl, .int .i64 ch] 37)) [.int .i64 cl', .int .i64 ch'] 37 (w.heap.size + 1 + 1 + 1) (by simp)
  obtain ⟨e1, he1⟩ : ∃ e, checkE tab hei slo pan top bot opn = e := ⟨_, rfl⟩
  obtain ⟨e2, he2⟩ : ∃ e, checkE tab' hei' slo' pan' top' bot' opn' = e := ⟨_, rfl⟩
  obtain ⟨e3, he3⟩ : ∃ e, measE [⟨cl, ch⟩, ⟨cl', ch'⟩] = e := ⟨_, rfl⟩
  have cB := fun v (k1 : IRow v pa pan) (k2 : IRow v ta top) (k3 : IRow v ba bot) => blank_any tab hei slo pan top bot pa ta ba pc tc bc opn v k1 k2 k3
  rw [he1] at cB hE
  have cD := fun v (k1 : IRow v pa' pan') (k2 : IRow v ta' top') (k3 : IRow v ba' bot') => blank_any tab' hei' slo' pan' top' bot' pa' ta' ba' pc' tc' bc' opn' v k1 k2 k3
  rw [he2] at cD hE
  have cM := fun a v (k1 : SRow v a [⟨cl, ch⟩, ⟨cl', ch'⟩]) => measured_two cl ch cl' ch' a 2 v k1
  rw [he3] at cM hE
  have cE := fun a v (k1 : IRow v a [e1, e2, e3]) => first_3 e1 e2 e3 a 3 v k1
  rw [hE] at cE
  have CB := Lib.hid cB
  have CD := Lib.hid cD
  have CM := Lib.hid cM
  have CE := Lib.hid cE
  have HP := Lib.hid hp
  have HT := Lib.hid ht
  have HB := Lib.hid hb
  have HP' := Lib.hid hp'
  have HT' := Lib.hid ht'
  have HB' := Lib.hid hb'
  have h0' : (E != 0) = true := by rw [bne_iff_ne]; exact h0
  clear cB cD cM cE he1 he2 he3 hE hp ht hb hp' ht' hb' h0
  go_enter Try.func32, Try.ntmps32
  go_upto_region 1 with fail
  refine wp_abs (fun U => Gr w U ∧ Box U w.heap.size [.int .i64 tab, .slice pa pan.length pc, .int .i64 hei, .slice ta top.length tc, .slice ba bot.length bc, .int .i64 slo, .bool opn] ∧ Box U (w.heap.size + 1) [.int .i64 tab', .slice pa' pan'.length pc', .int .i64 hei', .slice ta' top'.length tc', .slice ba' bot'.length bc', .int .i64 slo', .bool opn'] ∧ Box U (w.heap.size + 1 + 1) [.int .i64 cl, .int .i64 ch] ∧ Box U (w.heap.size + 1 + 1 + 1) [.int .i64 cl', .int .i64 ch']) ⟨gg, h1, h2, h3, h4⟩ ?_
  clear gg h1 h2 h3 h4
  rintro U ⟨gU, h1, h2, h3, h4⟩
  refine wp_region_facts 10 [(1, 0), (3, 2), (6, 4), (6, 5), (7, 6), (8, 1), (8, 3), (8, 7), (9, 8)] (fun x => ⟨#[.agg #[.int .i64 tab, .slice pa pan.length pc, .int .i64 hei, .slice ta top.length tc, .slice ba bot.length bc, .int .i64 slo, .bool opn], .agg #[.int .i64 tab', .slice pa' pan'.length pc', .int .i64 hei', .slice ta' top'.length tc', .slice ba' bot'.length bc', .int .i64 slo', .bool opn'], .agg #[.int .i64 cl, .int .i64 ch], .agg #[.int .i64 cl', .int .i64 ch'], .pointer (some ⟨w.heap.size, 0, none⟩), .pointer (some ⟨(w.heap.size + 1), 0, none⟩), .pointer (some ⟨(w.heap.size + 1 + 1), 0, none⟩), .pointer (some ⟨(w.heap.size + 1 + 1 + 1), 0, none⟩), .slice none 0 0, .int .i64 0, undef, undef, undef, undef, undef, x 0, x 1, x 2, x 3, x 4, x 5, x 6, x 7, x 8, x 9, undef, undef, undef, undef, undef, undef, undef, undef, undef, undef, undef, undef, undef, undef, undef, undef, undef, undef, undef, undef, undef, undef, undef, undef, undef, undef], []⟩) (fun _ => undef) [fun _ x => x = .agg #[.int .i64 tab, .slice pa pan.length pc, .int .i64 hei, .slice ta top.length tc, .slice ba bot.length bc, .int .i64 slo, .bool opn], fun _ x => x = .int .i64 e1, fun _ x => x = .agg #[.int .i64 tab', .slice pa' pan'.length pc', .int .i64 hei', .slice ta' top'.length tc', .slice ba' bot'.length bc', .int .i64 slo', .bool opn'], fun _ x => x = .int .i64 e2, fun _ x => x = .agg #[.int .i64 cl, .int .i64 ch], fun _ x => x = .agg #[.int .i64 cl', .int .i64 ch'], fun v x => ∃ a, x = .slice a 2 2 ∧ SRow v a [⟨cl, ch⟩, ⟨cl', ch'⟩], fun _ x => x = .int .i64 e3, fun v x => ∃ a, x = .slice a 3 3 ∧ IRow v a [e1, e2, e3], fun _ x => x = .int .i64 E] (by rfl) (by kernel_rfl) (by kernel_rfl) (by kernel_rfl) (stays_cons (Stays.eq _) (stays_cons (Stays.eq _) (stays_cons (Stays.eq _) (stays_cons (Stays.eq _) (stays_cons (Stays.eq _) (stays_cons (Stays.eq _) (stays_cons ((show Stays (fun v x => ∃ a, x = .slice a 2 2 ∧ SRow v a [⟨cl, ch⟩, ⟨cl', ch'⟩]) from fun v v' x g ⟨a, e, r⟩ => ⟨a, e, r.grow g⟩)) (stays_cons (Stays.eq _) (stays_cons ((show Stays (fun v x => ∃ a, x = .slice a 3 3 ∧ IRow v a [e1, e2, e3]) from fun v v' x g ⟨a, e, r⟩ => ⟨a, e, r.grow g⟩)) (stays_cons (Stays.eq _) stays_nil)))))))))) ?step1 ?fin1
  case step1 =>
    rintro i hi x v gv hd K hK
    have hi8 : i = 0 ∨ i = 1 ∨ i = 2 ∨ i = 3 ∨ i = 4 ∨ i = 5 ∨ i = 6 ∨ i = 7 ∨ i = 8 ∨ i = 9 := by omega
    rcases hi8 with rfl | rfl | rfl | rfl | rfl | rfl | rfl | rfl | rfl | rfl
    · show wpOp Try.prog _ _ 0 K (⟨#[.agg #[.int .i64 tab, .slice pa pan.length pc, .int .i64 hei, .slice ta top.length tc, .slice ba bot.length bc, .int .i64 slo, .bool opn], .agg #[.int .i64 tab', .slice pa' pan'.length pc', .int .i64 hei', .slice ta' top'.length tc', .slice ba' bot'.length bc', .int .i64 slo', .bool opn'], .agg #[.int .i64 cl, .int .i64 ch], .agg #[.int .i64 cl', .int .i64 ch'], .pointer (some ⟨w.heap.size, 0, none⟩), .pointer (some ⟨(w.heap.size + 1), 0, none⟩), .pointer (some ⟨(w.heap.size + 1 + 1), 0, none⟩), .pointer (some ⟨(w.heap.size + 1 + 1 + 1), 0, none⟩), .slice none 0 0, .int .i64 0, undef, undef, undef, undef, undef, x 0, x 1, x 2, x 3, x 4, x 5, x 6, x 7, x 8, x 9, undef, undef, undef, undef, undef, undef, undef, undef, undef, undef, undef, undef, undef, undef, undef, undef, undef, undef, undef, undef, undef, undef, undef, undef, undef, undef], []⟩ : Act) v
      refine wpOp_step rfl (fun K' hK' => ?_)
      rw [if_pos (by rfl)]
      refine wp_load_mid 24 _ rfl w.heap.size 0 (by rfl) [.int .i64 tab, .slice pa pan.length pc, .int .i64 hei, .slice ta top.length tc, .slice ba bot.length bc, .int .i64 slo, .bool opn] _ (fun j u hu => by rw [Nat.zero_add]; exact (h1.keep gv).2 j u hu) Try.underlying24 rfl (by kernel_rfl) ?_
      exact hK' _ _ (hK _ _ (Below.refl _ _) (at_of rfl (rfl)))
    · obtain ⟨x, rfl⟩ := upd_of (show x 0 = .agg #[.int .i64 tab, .slice pa pan.length pc, .int .i64 hei, .slice ta top.length tc, .slice ba bot.length bc, .int .i64 slo, .bool opn] from hd 0 _ (by simp) rfl)
      show wpOp Try.prog _ _ 1 K (⟨#[.agg #[.int .i64 tab, .slice pa pan.length pc, .int .i64 hei, .slice ta top.length tc, .slice ba bot.length bc, .int .i64 slo, .bool opn], .agg #[.int .i64 tab', .slice pa' pan'.length pc', .int .i64 hei', .slice ta' top'.length tc', .slice ba' bot'.length bc', .int .i64 slo', .bool opn'], .agg #[.int .i64 cl, .int .i64 ch], .agg #[.int .i64 cl', .int .i64 ch'], .pointer (some ⟨w.heap.size, 0, none⟩), .pointer (some ⟨(w.heap.size + 1), 0, none⟩), .pointer (some ⟨(w.heap.size + 1 + 1), 0, none⟩), .pointer (some ⟨(w.heap.size + 1 + 1 + 1), 0, none⟩), .slice none 0 0, .int .i64 0, undef, undef, undef, undef, undef, .agg #[.int .i64 tab, .slice pa pan.length pc, .int .i64 hei, .slice ta top.length tc, .slice ba bot.length bc, .int .i64 slo, .bool opn], x 1, x 2, x 3, x 4, x 5, x 6, x 7, x 8, x 9, undef, undef, undef, undef, undef, undef, undef, undef, undef, undef, undef, undef, undef, undef, undef, undef, undef, undef, undef, undef, undef, undef, undef, undef, undef, undef], []⟩ : Act) v
      refine wpOp_step rfl (fun K' hK' => ?_)
      go_simp
      refine (CB.out v (HP.out.grow (gU.tr gv)) (HT.out.grow (gU.tr gv)) (HB.out.grow (gU.tr gv))).mono ?_
      rintro e v' ⟨rfl, hg⟩
      exact hK' _ _ (hK _ _ hg (at_of rfl (rfl)))
    · show wpOp Try.prog _ _ 2 K (⟨#[.agg #[.int .i64 tab, .slice pa pan.length pc, .int .i64 hei, .slice ta top.length tc, .slice ba bot.length bc, .int .i64 slo, .bool opn], .agg #[.int .i64 tab', .slice pa' pan'.length pc', .int .i64 hei', .slice ta' top'.length tc', .slice ba' bot'.length bc', .int .i64 slo', .bool opn'], .agg #[.int .i64 cl, .int .i64 ch], .agg #[.int .i64 cl', .int .i64 ch'], .pointer (some ⟨w.heap.size, 0, none⟩), .pointer (some ⟨(w.heap.size + 1), 0, none⟩), .pointer (some ⟨(w.heap.size + 1 + 1), 0, none⟩), .pointer (some ⟨(w.heap.size + 1 + 1 + 1), 0, none⟩), .slice none 0 0, .int .i64 0, undef, undef, undef, undef, undef, x 0, x 1, x 2, x 3, x 4, x 5, x 6, x 7, x 8, x 9, undef, undef, undef, undef, undef, undef, undef, undef, undef, undef, undef, undef, undef, undef, undef, undef, undef, undef, undef, undef, undef, undef, undef, undef, undef, undef], []⟩ : Act) v
      refine wpOp_step rfl (fun K' hK' => ?_)
      rw [if_pos (by rfl)]
      refine wp_load_mid 24 _ rfl (w.heap.size + 1) 0 (by rfl) [.int .i64 tab', .slice pa' pan'.length pc', .int .i64 hei', .slice ta' top'.length tc', .slice ba' bot'.length bc', .int .i64 slo', .bool opn'] _ (fun j u hu => by rw [Nat.zero_add]; exact (h2.keep gv).2 j u hu) Try.underlying24 rfl (by kernel_rfl) ?_
      exact hK' _ _ (hK _ _ (Below.refl _ _) (at_of rfl (rfl)))
    · obtain ⟨x, rfl⟩ := upd_of (show x 2 = .agg #[.int .i64 tab', .slice pa' pan'.length pc', .int .i64 hei', .slice ta' top'.length tc', .slice ba' bot'.length bc', .int .i64 slo', .bool opn'] from hd 2 _ (by simp) rfl)
      show wpOp Try.prog _ _ 3 K (⟨#[.agg #[.int .i64 tab, .slice pa pan.length pc, .int .i64 hei, .slice ta top.length tc, .slice ba bot.length bc, .int .i64 slo, .bool opn], .agg #[.int .i64 tab', .slice pa' pan'.length pc', .int .i64 hei', .slice ta' top'.length tc', .slice ba' bot'.length bc', .int .i64 slo', .bool opn'], .agg #[.int .i64 cl, .int .i64 ch], .agg #[.int .i64 cl', .int .i64 ch'], .pointer (some ⟨w.heap.size, 0, none⟩), .pointer (some ⟨(w.heap.size + 1), 0, none⟩), .pointer (some ⟨(w.heap.size + 1 + 1), 0, none⟩), .pointer (some ⟨(w.heap.size + 1 + 1 + 1), 0, none⟩), .slice none 0 0, .int .i64 0, undef, undef, undef, undef, undef, x 0, x 1, .agg #[.int .i64 tab', .slice pa' pan'.length pc', .int .i64 hei', .slice ta' top'.length tc', .slice ba' bot'.length bc', .int .i64 slo', .bool opn'], x 3, x 4, x 5, x 6, x 7, x 8, x 9, undef, undef, undef, undef, undef, undef, undef, undef, undef, undef, undef, undef, undef, undef, undef, undef, undef, undef, undef, undef, undef, undef, undef, undef, undef, undef], []⟩ : Act) v
      refine wpOp_step rfl (fun K' hK' => ?_)
      go_simp
      refine (CD.out v (HP'.out.grow (gU.tr gv)) (HT'.out.grow (gU.tr gv)) (HB'.out.grow (gU.tr gv))).mono ?_
      rintro e v' ⟨rfl, hg⟩
      exact hK' _ _ (hK _ _ hg (at_of rfl (rfl)))
    · show wpOp Try.prog _ _ 4 K (⟨#[.agg #[.int .i64 tab, .slice pa pan.length pc, .int .i64 hei, .slice ta top.length tc, .slice ba bot.length bc, .int .i64 slo, .bool opn], .agg #[.int .i64 tab', .slice pa' pan'.length pc', .int .i64 hei', .slice ta' top'.length tc', .slice ba' bot'.length bc', .int .i64 slo', .bool opn'], .agg #[.int .i64 cl, .int .i64 ch], .agg #[.int .i64 cl', .int .i64 ch'], .pointer (some ⟨w.heap.size, 0, none⟩), .pointer (some ⟨(w.heap.size + 1), 0, none⟩), .pointer (some ⟨(w.heap.size + 1 + 1), 0, none⟩), .pointer (some ⟨(w.heap.size + 1 + 1 + 1), 0, none⟩), .slice none 0 0, .int .i64 0, undef, undef, undef, undef, undef, x 0, x 1, x 2, x 3, x 4, x 5, x 6, x 7, x 8, x 9, undef, undef, undef, undef, undef, undef, undef, undef, undef, undef, undef, undef, undef, undef, undef, undef, undef, undef, undef, undef, undef, undef, undef, undef, undef, undef], []⟩ : Act) v
      refine wpOp_step rfl (fun K' hK' => ?_)
      rw [if_pos (by rfl)]
      refine wp_load_mid 37 _ rfl (w.heap.size + 1 + 1) 0 (by rfl) [.int .i64 cl, .int .i64 ch] _ (fun j u hu => by rw [Nat.zero_add]; exact (h3.keep gv).2 j u hu) Try.underlying37 rfl (by kernel_rfl) ?_
      exact hK' _ _ (hK _ _ (Below.refl _ _) (at_of rfl (rfl)))
    · show wpOp Try.prog _ _ 5 K (⟨#[.agg #[.int .i64 tab, .slice pa pan.length pc, .int .i64 hei, .slice ta top.length tc, .slice ba bot.length bc, .int .i64 slo, .bool opn], .agg #[.int .i64 tab', .slice pa' pan'.length pc', .int .i64 hei', .slice ta' top'.length tc', .slice ba' bot'.length bc', .int .i64 slo', .bool opn'], .agg #[.int .i64 cl, .int .i64 ch], .agg #[.int .i64 cl', .int .i64 ch'], .pointer (some ⟨w.heap.size, 0, none⟩), .pointer (some ⟨(w.heap.size + 1), 0, none⟩), .pointer (some ⟨(w.heap.size + 1 + 1), 0, none⟩), .pointer (some ⟨(w.heap.size + 1 + 1 + 1), 0, none⟩), .slice none 0 0, .int .i64 0, undef, undef, undef, undef, undef, x 0, x 1, x 2, x 3, x 4, x 5, x 6, x 7, x 8, x 9, undef, undef, undef, undef, undef, undef, undef, undef, undef, undef, undef, undef, undef, undef, undef, undef, undef, undef, undef, undef, undef, undef, undef, undef, undef, undef], []⟩ : Act) v
      refine wpOp_step rfl (fun K' hK' => ?_)
      rw [if_pos (by rfl)]
      refine wp_load_mid 37 _ rfl (w.heap.size + 1 + 1 + 1) 0 (by rfl) [.int .i64 cl', .int .i64 ch'] _ (fun j u hu => by rw [Nat.zero_add]; exact (h4.keep gv).2 j u hu) Try.underlying37 rfl (by kernel_rfl) ?_
      exact hK' _ _ (hK _ _ (Below.refl _ _) (at_of rfl (rfl)))
    · obtain ⟨x, rfl⟩ := upd_of (show x 4 = .agg #[.int .i64 cl, .int .i64 ch] from hd 4 _ (by simp) rfl)
      obtain ⟨x, rfl⟩ := upd_of (show x 5 = .agg #[.int .i64 cl', .int .i64 ch'] from hd 5 _ (by simp) rfl)
      show wpOp Try.prog _ _ 6 K (⟨#[.agg #[.int .i64 tab, .slice pa pan.length pc, .int .i64 hei, .slice ta top.length tc, .slice ba bot.length bc, .int .i64 slo, .bool opn], .agg #[.int .i64 tab', .slice pa' pan'.length pc', .int .i64 hei', .slice ta' top'.length tc', .slice ba' bot'.length bc', .int .i64 slo', .bool opn'], .agg #[.int .i64 cl, .int .i64 ch], .agg #[.int .i64 cl', .int .i64 ch'], .pointer (some ⟨w.heap.size, 0, none⟩), .pointer (some ⟨(w.heap.size + 1), 0, none⟩), .pointer (some ⟨(w.heap.size + 1 + 1), 0, none⟩), .pointer (some ⟨(w.heap.size + 1 + 1 + 1), 0, none⟩), .slice none 0 0, .int .i64 0, undef, undef, undef, undef, undef, x 0, x 1, x 2, x 3, .agg #[.int .i64 cl, .int .i64 ch], .agg #[.int .i64 cl', .int .i64 ch'], x 6, x 7, x 8, x 9, undef, undef, undef, undef, undef, undef, undef, undef, undef, undef, undef, undef, undef, undef, undef, undef, undef, undef, undef, undef, undef, undef, undef, undef, undef, undef], []⟩ : Act) v
      refine wpOp_step rfl (fun K' hK' => ?_)
      go_simp
      have hg := Gr.al v (.cells (List.toArray [.int .i64 cl, .int .i64 ch, .int .i64 cl', .int .i64 ch']) 37)
      exact hK' _ _ (hK _ _ hg (at_of rfl (⟨_, rfl, SRow.new2 v 37 cl ch cl' ch' v.heap.size rfl⟩)))
    · obtain ⟨a6, e6, r6⟩ := hd 6 _ (by simp) rfl
      obtain ⟨x, rfl⟩ := upd_of (show x 6 = .slice a6 2 2 from e6)
      show wpOp Try.prog _ _ 7 K (⟨#[.agg #[.int .i64 tab, .slice pa pan.length pc, .int .i64 hei, .slice ta top.length tc, .slice ba bot.length bc, .int .i64 slo, .bool opn], .agg #[.int .i64 tab', .slice pa' pan'.length pc', .int .i64 hei', .slice ta' top'.length tc', .slice ba' bot'.length bc', .int .i64 slo', .bool opn'], .agg #[.int .i64 cl, .int .i64 ch], .agg #[.int .i64 cl', .int .i64 ch'], .pointer (some ⟨w.heap.size, 0, none⟩), .pointer (some ⟨(w.heap.size + 1), 0, none⟩), .pointer (some ⟨(w.heap.size + 1 + 1), 0, none⟩), .pointer (some ⟨(w.heap.size + 1 + 1 + 1), 0, none⟩), .slice none 0 0, .int .i64 0, undef, undef, undef, undef, undef, x 0, x 1, x 2, x 3, x 4, x 5, .slice a6 2 2, x 7, x 8, x 9, undef, undef, undef, undef, undef, undef, undef, undef, undef, undef, undef, undef, undef, undef, undef, undef, undef, undef, undef, undef, undef, undef, undef, undef, undef, undef], []⟩ : Act) v
      refine wpOp_step rfl (fun K' hK' => ?_)
      go_simp
      refine (CM.out a6 v r6).mono ?_
      rintro e v' ⟨rfl, hg⟩
      exact hK' _ _ (hK _ _ hg (at_of rfl (rfl)))
    · obtain ⟨x, rfl⟩ := upd_of (show x 1 = .int .i64 e1 from hd 1 _ (by simp) rfl)
      obtain ⟨x, rfl⟩ := upd_of (show x 3 = .int .i64 e2 from hd 3 _ (by simp) rfl)
      obtain ⟨x, rfl⟩ := upd_of (show x 7 = .int .i64 e3 from hd 7 _ (by simp) rfl)
      show wpOp Try.prog _ _ 8 K (⟨#[.agg #[.int .i64 tab, .slice pa pan.length pc, .int .i64 hei, .slice ta top.length tc, .slice ba bot.length bc, .int .i64 slo, .bool opn], .agg #[.int .i64 tab', .slice pa' pan'.length pc', .int .i64 hei', .slice ta' top'.length tc', .slice ba' bot'.length bc', .int .i64 slo', .bool opn'], .agg #[.int .i64 cl, .int .i64 ch], .agg #[.int .i64 cl', .int .i64 ch'], .pointer (some ⟨w.heap.size, 0, none⟩), .pointer (some ⟨(w.heap.size + 1), 0, none⟩), .pointer (some ⟨(w.heap.size + 1 + 1), 0, none⟩), .pointer (some ⟨(w.heap.size + 1 + 1 + 1), 0, none⟩), .slice none 0 0, .int .i64 0, undef, undef, undef, undef, undef, x 0, .int .i64 e1, x 2, .int .i64 e2, x 4, x 5, x 6, .int .i64 e3, x 8, x 9, undef, undef, undef, undef, undef, undef, undef, undef, undef, undef, undef, undef, undef, undef, undef, undef, undef, undef, undef, undef, undef, undef, undef, undef, undef, undef], []⟩ : Act) v
      refine wpOp_step rfl (fun K' hK' => ?_)
      go_simp
      have hg := Gr.al v (.cells (List.toArray [.int .i64 e1, .int .i64 e2, .int .i64 e3]) 28)
      exact hK' _ _ (hK _ _ hg (at_of rfl (⟨_, rfl, IRow.new' v 28 [e1, e2, e3] (by simp) v.heap.size rfl _ (by rfl)⟩)))
    · obtain ⟨a8, e8, r8⟩ := hd 8 _ (by simp) rfl
      obtain ⟨x, rfl⟩ := upd_of (show x 8 = .slice a8 3 3 from e8)
      show wpOp Try.prog _ _ 9 K (⟨#[.agg #[.int .i64 tab, .slice pa pan.length pc, .int .i64 hei, .slice ta top.length tc, .slice ba bot.length bc, .int .i64 slo, .bool opn], .agg #[.int .i64 tab', .slice pa' pan'.length pc', .int .i64 hei', .slice ta' top'.length tc', .slice ba' bot'.length bc', .int .i64 slo', .bool opn'], .agg #[.int .i64 cl, .int .i64 ch], .agg #[.int .i64 cl', .int .i64 ch'], .pointer (some ⟨w.heap.size, 0, none⟩), .pointer (some ⟨(w.heap.size + 1), 0, none⟩), .pointer (some ⟨(w.heap.size + 1 + 1), 0, none⟩), .pointer (some ⟨(w.heap.size + 1 + 1 + 1), 0, none⟩), .slice none 0 0, .int .i64 0, undef, undef, undef, undef, undef, x 0, x 1, x 2, x 3, x 4, x 5, x 6, x 7, .slice a8 3 3, x 9, undef, undef, undef, undef, undef, undef, undef, undef, undef, undef, undef, undef, undef, undef, undef, undef, undef, undef, undef, undef, undef, undef, undef, undef, undef, undef], []⟩ : Act) v
      refine wpOp_step rfl (fun K' hK' => ?_)
      go_simp
      refine (CE.out a8 v r8).mono ?_
      rintro e v' ⟨rfl, hg⟩
      exact hK' _ _ (hK _ _ hg (at_of rfl (rfl)))
  case fin1 =>
    rintro x v gv hd
    obtain ⟨x, rfl⟩ := upd_of (show x 9 = .int .i64 E from hd 9 _ (by omega) rfl)
    clear hd
    show wpList Try.prog _ _ (List.drop 10 _) (⟨#[.agg #[.int .i64 tab, .slice pa pan.length pc, .int .i64 hei, .slice ta top.length tc, .slice ba bot.length bc, .int .i64 slo, .bool opn], .agg #[.int .i64 tab', .slice pa' pan'.length pc', .int .i64 hei', .slice ta' top'.length tc', .slice ba' bot'.length bc', .int .i64 slo', .bool opn'], .agg #[.int .i64 cl, .int .i64 ch], .agg #[.int .i64 cl', .int .i64 ch'], .pointer (some ⟨w.heap.size, 0, none⟩), .pointer (some ⟨(w.heap.size + 1), 0, none⟩), .pointer (some ⟨(w.heap.size + 1 + 1), 0, none⟩), .pointer (some ⟨(w.heap.size + 1 + 1 + 1), 0, none⟩), .slice none 0 0, .int .i64 0, undef, undef, undef, undef, undef, x 0, x 1, x 2, x 3, x 4, x 5, x 6, x 7, x 8, .int .i64 E, undef, undef, undef, undef, undef, undef, undef, undef, undef, undef, undef, undef, undef, undef, undef, undef, undef, undef, undef, undef, undef, undef, undef, undef, undef, undef], []⟩ : Act) v
    simp only [List.drop_succ_cons, List.drop_zero]
    go_wp2
    refine bodyPost_ret (v := .tuple #[.slice none 0 0, .int .i64 E]) (by simp [results, Try.results32, go_sem]) rfl ⟨rfl, gU.tr gv⟩

end Go.Proofs.Ytafkoococfnakaa

namespace Go.Proofs.Ytafkoococfnakaa
set_option linter.unusedVariables false
set_option linter.unusedSimpArgs false
open Go.RowKit

theorem wpList_append_run {P : Program} {ops : Array Oper} {rest : List Oper} {o : Oper} {a : Act} {Q : Exit → Act → World → Prop} {w : World} (s x : Operand) (t : TypeId) (hg : o.guard = none)
    (ho : o.op = .call { callee := .builtin .append, args := #[s, x], argTypes := #[t, t] }) (v1 v2 u : Value) (w' : World) (hs : a.eval s = v1) (hx : a.eval x = v2)
    (hrun : (Builtin.append_ #[t, t] o.type #[v1, v2]).run P w = .ok u w') (h : wpList P ops Q rest (a.put o.dst u) w') : wpList P ops Q (o :: rest) a w := by
  refine wpList_plain hg fun K hK => ?_
  unfold Oper.wp
  simp [execOp, ho, resolve, invoke, builtin, hs, hx, hrun, Result.andThen]
  exact hK _ _ h

set_option maxRecDepth 100000 in
theorem ints02c_any (l : List Int) (hl : l.length ≤ 1000) (a : Option Addr) (c : Nat) (w : World) (hr : IRow w a l) :
    Calls Try.prog 34 #[.slice a l.length c] w fun e w' => ∃ a' c', e = .returned (.slice a' l.length c') ∧ Gr w w' ∧ IRow w' a' l := by
  have g0 := Gr.al w (.cells #[] 3)
  obtain ⟨u, v', hrun, hg, a', c', rfl, hr', _⟩ := app_new (w.alloc (.cells #[] 3)) w.heap.size a l c (hr.grow g0) hl
  have HR := Lib.hid hr'
  have HRUN := Lib.hid hrun
  clear hr' hrun
  go_enter Try.func34, Try.ntmps34
  go_wp2_with (at_builtin; refine wpList_append_run _ _ 22 rfl rfl _ _ _ _ rfl rfl HRUN.out ?_)
  go_ret
  exact ⟨_, _, rfl, g0.tr hg, HR.out⟩

def heightL (hei : Int) (opn : Bool) (c : Int) : Int := if opn = true then 1000 * hei - c else 1000 * hei - c - c

set_option maxRecDepth 100000 in
theorem refHeight02_any (tab hei slo : Int) (pan top bot : List Int) (pa ta ba : Option Addr) (pc tc bc : Nat) (opn : Bool) (c : Int) (x0 : 0 ≤ hei) (x1 : hei ≤ 10000) (c0 : 0 ≤ c) (c1 : c ≤ 20000) (w : World) :
    Calls Try.prog 71 #[.agg #[.int .i64 tab, .slice pa pan.length pc, .int .i64 hei, .slice ta top.length tc, .slice ba bot.length bc, .int .i64 slo, .bool opn], .int .i64 c] w fun e w' => e = .returned (.int .i64 (heightL hei opn c)) ∧ Gr w w' := by
  have gg := Gr.al w (.cells #[.int .i64 tab, .slice pa pan.length pc, .int .i64 hei, .slice ta top.length tc, .slice ba bot.length bc, .int .i64 slo, .bool opn] 24)
  have hB := Box.new w [.int .i64 tab, .slice pa pan.length pc, .int .i64 hei, .slice ta top.length tc, .slice ba bot.length bc, .int .i64 slo, .bool opn] 24 w.heap.size rfl
  have v0 : IntKind.i64.wrap (1000 * hei) = 1000 * hei := IntWalk.i64_in _ (by omega)
  have v1 : IntKind.i64.wrap (1000 * hei - c) = 1000 * hei - c := IntWalk.i64_in _ (by omega)
  have v2 : IntKind.i64.wrap (1000 * hei - c - c) = 1000 * hei - c - c := IntWalk.i64_in _ (by omega)
  obtain ⟨b0, b1, b2, b3, b4, b5, b6⟩ := hB.c7
  cases opn with
  | true =>
    go_enter Try.func71, Try.ntmps71
    go_wp2
    go_ret
    exact ⟨rfl, gg⟩
  | false =>
    go_enter Try.func71, Try.ntmps71
    go_wp2
    go_ret
    exact ⟨rfl, gg⟩

def holdsE (e cl ch : Int) (thing : List Int) : Int := firstE [e, measE [⟨cl, ch⟩], if thing.length = 3 then 0 else 4, if inB 0 3000 thing = true then 0 else 2]

set_option maxRecDepth 100000 in
set_option maxHeartbeats 4000000 in
theorem holds_err (tab hei slo : Int) (pan top bot : List Int) (pa ta ba : Option Addr) (pc tc bc : Nat) (opn : Bool) (cl ch e1 E : Int) (thing : List Int) (he : checkE tab hei slo pan top bot opn = e1) (hE : holdsE e1 cl ch thing = E) (h0 : E ≠ 0) (td : Option Addr) (tcap : Nat) (w : World) (hp : IRow w pa pan) (ht : IRow w ta top) (hb : IRow w ba bot) (htd : IRow w td thing) :
    Calls Try.prog 35 #[.agg #[.int .i64 tab, .slice pa pan.length pc, .int .i64 hei, .slice ta top.length tc, .slice ba bot.length bc, .int .i64 slo, .bool opn], .agg #[.int .i64 cl, .int .i64 ch], .slice td thing.length tcap] w fun e w' => e = .returned (.tuple #[.bool false, .bool false, .int .i64 E]) ∧ Gr w w' := by
  have gg := (Gr.al w (.cells #[.int .i64 tab, .slice pa pan.length pc, .int .i64 hei, .slice ta top.length tc, .slice ba bot.length bc, .int .i64 slo, .bool opn] 24)).tr (Gr.al _ (.cells #[.int .i64 cl, .int .i64 ch] 37))
  have h1 := (Box.new w [.int .i64 tab, .slice pa pan.length pc, .int .i64 hei, .slice ta top.length tc, .slice ba bot.length bc, .int .i64 slo, .bool opn] 24 w.heap.size rfl).keep (Gr.al _ (.cells #[.int .i64 cl, .int .i64 ch] 37))
  have h2 := Box.new (w.alloc (.cells #[.int .i64 tab, .slice pa pan.length pc, .int .i64 hei, .slice ta top.length tc, .slice ba bot.length bc, .int .i64 slo, .bool opn] 24)) [.int .i64 cl, .int .i64 ch] 37 (w.heap.size + 1) (by simp)
  obtain ⟨e2, he2⟩ : ∃ e, measE [⟨cl, ch⟩] = e := ⟨_, rfl⟩
  obtain ⟨e3, he3⟩ : ∃ e, firstE [e1, e2] = e := ⟨_, rfl⟩
  have cB := fun v (k1 : IRow v pa pan) (k2 : IRow v ta top) (k3 : IRow v ba bot) => blank_any tab hei slo pan top bot pa ta ba pc tc bc opn v k1 k2 k3
  rw [he] at cB
  have cM := fun a v (k1 : SRow v a [⟨cl, ch⟩]) => measured_one cl ch a 1 v k1
  rw [he2] at cM
  have cE := fun a v (k1 : IRow v a [e1, e2]) => first_2 e1 e2 a 2 v k1
  rw [he3] at cE
  have CB := Lib.hid cB
  have CM := Lib.hid cM
  have CE := Lib.hid cE
  have HP := Lib.hid hp
  have HT := Lib.hid ht
  have HB := Lib.hid hb
  have HTD := Lib.hid htd
  have hE' : firstE [e3, if thing.length = 3 then 0 else 4, if inB 0 3000 thing = true then 0 else 2] = E := by
    rw [← hE, ← he3]
    unfold holdsE
    rw [he2]
    by_cases q1 : e1 = 0 <;> by_cases q2 : e2 = 0 <;> simp [firstE, q1, q2]
  have HE := Lib.hid hE'
  have H0 := Lib.hid h0
  clear cB cM cE he he2 he3 hE hE' hp ht hb htd h0
  go_enter Try.func35, Try.ntmps35
  go_upto_region 1 with fail
  refine wp_abs (fun U => Gr w U ∧ Box U w.heap.size [.int .i64 tab, .slice pa pan.length pc, .int .i64 hei, .slice ta top.length tc, .slice ba bot.length bc, .int .i64 slo, .bool opn] ∧ Box U (w.heap.size + 1) [.int .i64 cl, .int .i64 ch]) ⟨gg, h1, h2⟩ ?_
  clear gg h1 h2
  rintro U ⟨gU, h1, h2⟩
  refine wp_region_facts 7 [(1, 0), (3, 2), (4, 3), (5, 1), (5, 4), (6, 5)] (fun x => ⟨#[.agg #[.int .i64 tab, .slice pa pan.length pc, .int .i64 hei, .slice ta top.length tc, .slice ba bot.length bc, .int .i64 slo, .bool opn], .agg #[.int .i64 cl, .int .i64 ch], .slice td thing.length tcap, .pointer (some ⟨w.heap.size, 0, none⟩), .pointer (some ⟨(w.heap.size + 1), 0, none⟩), undef, .bool false, .bool false, .int .i64 0, undef, undef, x 0, x 1, x 2, x 3, x 4, x 5, x 6, undef, undef, undef, undef, undef, undef, undef, undef, undef, undef, undef, undef, undef, undef, undef, undef, undef, undef, undef, undef, undef], []⟩) (fun _ => undef) [fun _ x => x = .agg #[.int .i64 tab, .slice pa pan.length pc, .int .i64 hei, .slice ta top.length tc, .slice ba bot.length bc, .int .i64 slo, .bool opn], fun _ x => x = .int .i64 e1, fun _ x => x = .agg #[.int .i64 cl, .int .i64 ch], fun v x => ∃ a, x = .slice a 1 1 ∧ SRow v a [⟨cl, ch⟩], fun _ x => x = .int .i64 e2, fun v x => ∃ a, x = .slice a 2 2 ∧ IRow v a [e1, e2], fun _ x => x = .int .i64 e3] (by rfl) (by kernel_rfl) (by kernel_rfl) (by kernel_rfl) (stays_cons (Stays.eq _) (stays_cons (Stays.eq _) (stays_cons (Stays.eq _) (stays_cons ((show Stays (fun v x => ∃ a, x = .slice a 1 1 ∧ SRow v a [⟨cl, ch⟩]) from fun v v' x g ⟨a, e, r⟩ => ⟨a, e, r.grow g⟩)) (stays_cons (Stays.eq _) (stays_cons ((show Stays (fun v x => ∃ a, x = .slice a 2 2 ∧ IRow v a [e1, e2]) from fun v v' x g ⟨a, e, r⟩ => ⟨a, e, r.grow g⟩)) (stays_cons (Stays.eq _) stays_nil))))))) ?step1 ?fin1
  case step1 =>
    rintro i hi x v gv hd K hK
    have hi8 : i = 0 ∨ i = 1 ∨ i = 2 ∨ i = 3 ∨ i = 4 ∨ i = 5 ∨ i = 6 := by omega
    rcases hi8 with rfl | rfl | rfl | rfl | rfl | rfl | rfl
    · show wpOp Try.prog _ _ 0 K (⟨#[.agg #[.int .i64 tab, .slice pa pan.length pc, .int .i64 hei, .slice ta top.length tc, .slice ba bot.length bc, .int .i64 slo, .bool opn], .agg #[.int .i64 cl, .int .i64 ch], .slice td thing.length tcap, .pointer (some ⟨w.heap.size, 0, none⟩), .pointer (some ⟨(w.heap.size + 1), 0, none⟩), undef, .bool false, .bool false, .int .i64 0, undef, undef, x 0, x 1, x 2, x 3, x 4, x 5, x 6, undef, undef, undef, undef, undef, undef, undef, undef, undef, undef, undef, undef, undef, undef, undef, undef, undef, undef, undef, undef, undef], []⟩ : Act) v
      refine wpOp_step rfl (fun K' hK' => ?_)
      rw [if_pos (by rfl)]
      refine wp_load_mid 24 _ rfl w.heap.size 0 (by rfl) [.int .i64 tab, .slice pa pan.length pc, .int .i64 hei, .slice ta top.length tc, .slice ba bot.length bc, .int .i64 slo, .bool opn] _ (fun j u hu => by rw [Nat.zero_add]; exact (h1.keep gv).2 j u hu) Try.underlying24 rfl (by kernel_rfl) ?_
      exact hK' _ _ (hK _ _ (Below.refl _ _) (at_of rfl (rfl)))
    · obtain ⟨x, rfl⟩ := upd_of (show x 0 = .agg #[.int .i64 tab, .slice pa pan.length pc, .int .i64 hei, .slice ta top.length tc, .slice ba bot.length bc, .int .i64 slo, .bool opn] from hd 0 _ (by simp) rfl)
      show wpOp Try.prog _ _ 1 K (⟨#[.agg #[.int .i64 tab, .slice pa pan.length pc, .int .i64 hei, .slice ta top.length tc, .slice ba bot.length bc, .int .i64 slo, .bool opn], .agg #[.int .i64 cl, .int .i64 ch], .slice td thing.length tcap, .pointer (some ⟨w.heap.size, 0, none⟩), .pointer (some ⟨(w.heap.size + 1), 0, none⟩), undef, .bool false, .bool false, .int .i64 0, undef, undef, .agg #[.int .i64 tab, .slice pa pan.length pc, .int .i64 hei, .slice ta top.length tc, .slice ba bot.length bc, .int .i64 slo, .bool opn], x 1, x 2, x 3, x 4, x 5, x 6, undef, undef, undef, undef, undef, undef, undef, undef, undef, undef, undef, undef, undef, undef, undef, undef, undef, undef, undef, undef, undef], []⟩ : Act) v
      refine wpOp_step rfl (fun K' hK' => ?_)
      go_simp
      refine (CB.out v (HP.out.grow (gU.tr gv)) (HT.out.grow (gU.tr gv)) (HB.out.grow (gU.tr gv))).mono ?_
      rintro e v' ⟨rfl, hg⟩
      exact hK' _ _ (hK _ _ hg (at_of rfl (rfl)))
    · show wpOp Try.prog _ _ 2 K (⟨#[.agg #[.int .i64 tab, .slice pa pan.length pc, .int .i64 hei, .slice ta top.length tc, .slice ba bot.length bc, .int .i64 slo, .bool opn], .agg #[.int .i64 cl, .int .i64 ch], .slice td thing.length tcap, .pointer (some ⟨w.heap.size, 0, none⟩), .pointer (some ⟨(w.heap.size + 1), 0, none⟩), undef, .bool false, .bool false, .int .i64 0, undef, undef, x 0, x 1, x 2, x 3, x 4, x 5, x 6, undef, undef, undef, undef, undef, undef, undef, undef, undef, undef, undef, undef, undef, undef, undef, undef, undef, undef, undef, undef, undef], []⟩ : Act) v
      refine wpOp_step rfl (fun K' hK' => ?_)
      rw [if_pos (by rfl)]
      refine wp_load_mid 37 _ rfl (w.heap.size + 1) 0 (by rfl) [.int .i64 cl, .int .i64 ch] _ (fun j u hu => by rw [Nat.zero_add]; exact (h2.keep gv).2 j u hu) Try.underlying37 rfl (by kernel_rfl) ?_
      exact hK' _ _ (hK _ _ (Below.refl _ _) (at_of rfl (rfl)))
    · obtain ⟨x, rfl⟩ := upd_of (show x 2 = .agg #[.int .i64 cl, .int .i64 ch] from hd 2 _ (by simp) rfl)
      show wpOp Try.prog _ _ 3 K (⟨#[.agg #[.int .i64 tab, .slice pa pan.length pc, .int .i64 hei, .slice ta top.length tc, .slice ba bot.length bc, .int .i64 slo, .bool opn], .agg #[.int .i64 cl, .int .i64 ch], .slice td thing.length tcap, .pointer (some ⟨w.heap.size, 0, none⟩), .pointer (some ⟨(w.heap.size + 1), 0, none⟩), undef, .bool false, .bool false, .int .i64 0, undef, undef, x 0, x 1, .agg #[.int .i64 cl, .int .i64 ch], x 3, x 4, x 5, x 6, undef, undef, undef, undef, undef, undef, undef, undef, undef, undef, undef, undef, undef, undef, undef, undef, undef, undef, undef, undef, undef], []⟩ : Act) v
      refine wpOp_step rfl (fun K' hK' => ?_)
      go_simp
      have hg := Gr.al v (.cells (List.toArray [.int .i64 cl, .int .i64 ch]) 37)
      exact hK' _ _ (hK _ _ hg (at_of rfl (⟨_, rfl, SRow.new1 v 37 cl ch v.heap.size rfl⟩)))
    · obtain ⟨a3, e3, r3⟩ := hd 3 _ (by simp) rfl
      obtain ⟨x, rfl⟩ := upd_of (show x 3 = .slice a3 1 1 from e3)
      show wpOp Try.prog _ _ 4 K (⟨#[.agg #[.int .i64 tab, .slice pa pan.length pc, .int .i64 hei, .slice ta top.length tc, .slice ba bot.length bc, .int .i64 slo, .bool opn], .agg #[.int .i64 cl, .int .i64 ch], .slice td thing.length tcap, .pointer (some ⟨w.heap.size, 0, none⟩), .pointer (some ⟨(w.heap.size + 1), 0, none⟩), undef, .bool false, .bool false, .int .i64 0, undef, undef, x 0, x 1, x 2, .slice a3 1 1, x 4, x 5, x 6, undef, undef, undef, undef, undef, undef, undef, undef, undef, undef, undef, undef, undef, undef, undef, undef, undef, undef, undef, undef, undef], []⟩ : Act) v
      refine wpOp_step rfl (fun K' hK' => ?_)
      go_simp
      refine (CM.out a3 v r3).mono ?_
      rintro e v' ⟨rfl, hg⟩
      exact hK' _ _ (hK _ _ hg (at_of rfl (rfl)))
    · obtain ⟨x, rfl⟩ := upd_of (show x 1 = .int .i64 e1 from hd 1 _ (by simp) rfl)
      obtain ⟨x, rfl⟩ := upd_of (show x 4 = .int .i64 e2 from hd 4 _ (by simp) rfl)
      show wpOp Try.prog _ _ 5 K (⟨#[.agg #[.int .i64 tab, .slice pa pan.length pc, .int .i64 hei, .slice ta top.length tc, .slice ba bot.length bc, .int .i64 slo, .bool opn], .agg #[.int .i64 cl, .int .i64 ch], .slice td thing.length tcap, .pointer (some ⟨w.heap.size, 0, none⟩), .pointer (some ⟨(w.heap.size + 1), 0, none⟩), undef, .bool false, .bool false, .int .i64 0, undef, undef, x 0, .int .i64 e1, x 2, x 3, .int .i64 e2, x 5, x 6, undef, undef, undef, undef, undef, undef, undef, undef, undef, undef, undef, undef, undef, undef, undef, undef, undef, undef, undef, undef, undef], []⟩ : Act) v
      refine wpOp_step rfl (fun K' hK' => ?_)
      go_simp
      have hg := Gr.al v (.cells (List.toArray [.int .i64 e1, .int .i64 e2]) 28)
      exact hK' _ _ (hK _ _ hg (at_of rfl (⟨_, rfl, IRow.new' v 28 [e1, e2] (by simp) v.heap.size rfl _ (by rfl)⟩)))
    · obtain ⟨a5, e5, r5⟩ := hd 5 _ (by simp) rfl
      obtain ⟨x, rfl⟩ := upd_of (show x 5 = .slice a5 2 2 from e5)
      show wpOp Try.prog _ _ 6 K (⟨#[.agg #[.int .i64 tab, .slice pa pan.length pc, .int .i64 hei, .slice ta top.length tc, .slice ba bot.length bc, .int .i64 slo, .bool opn], .agg #[.int .i64 cl, .int .i64 ch], .slice td thing.length tcap, .pointer (some ⟨w.heap.size, 0, none⟩), .pointer (some ⟨(w.heap.size + 1), 0, none⟩), undef, .bool false, .bool false, .int .i64 0, undef, undef, x 0, x 1, x 2, x 3, x 4, .slice a5 2 2, x 6, undef, undef, undef, undef, undef, undef, undef, undef, undef, undef, undef, undef, undef, undef, undef, undef, undef, undef, undef, undef, undef], []⟩ : Act) v
      refine wpOp_step rfl (fun K' hK' => ?_)
      go_simp
      refine (CE.out a5 v r5).mono ?_
      rintro e v' ⟨rfl, hg⟩
      exact hK' _ _ (hK _ _ hg (at_of rfl (rfl)))
  case fin1 =>
    rintro x v gv hd
    obtain ⟨x, rfl⟩ := upd_of (show x 6 = .int .i64 e3 from hd 6 _ (by omega) rfl)
    clear hd
    show wpList Try.prog _ _ (List.drop 7 _) (⟨#[.agg #[.int .i64 tab, .slice pa pan.length pc, .int .i64 hei, .slice ta top.length tc, .slice ba bot.length bc, .int .i64 slo, .bool opn], .agg #[.int .i64 cl, .int .i64 ch], .slice td thing.length tcap, .pointer (some ⟨w.heap.size, 0, none⟩), .pointer (some ⟨(w.heap.size + 1), 0, none⟩), undef, .bool false, .bool false, .int .i64 0, undef, undef, x 0, x 1, x 2, x 3, x 4, x 5, .int .i64 e3, undef, undef, undef, undef, undef, undef, undef, undef, undef, undef, undef, undef, undef, undef, undef, undef, undef, undef, undef, undef, undef], []⟩ : Act) v
    simp only [List.drop_succ_cons, List.drop_zero]
    by_cases h3 : e3 = 0
    case neg =>
      have q3 : (e3 != 0) = true := by rw [bne_iff_ne]; exact h3
      have HEQ := Lib.hid (show e3 = E by rw [← HE.out]; simp [firstE, h3])
      clear h3
      go_wp2
      refine bodyPost_ret (v := .tuple #[.bool false, .bool false, .int .i64 e3]) (by simp [results, Try.results35, go_sem]) rfl ?_
      exact ⟨by rw [HEQ.out], gU.tr gv⟩
    subst h3
    by_cases hl : thing.length = 3
    case neg =>
      have ql : ((thing.length : Int) != 3) = true := by rw [bne_iff_ne]; omega
      have HEQ := Lib.hid (show (4 : Int) = E by rw [← HE.out]; simp [firstE, hl])
      clear hl
      go_wp2
      refine bodyPost_ret (v := .tuple #[.bool false, .bool false, .int .i64 4]) (by simp [results, Try.results35, go_sem]) rfl ?_
      exact ⟨by rw [HEQ.out], gU.tr gv⟩
    have ql : ((thing.length : Int) != 3) = false := by rw [hl]; rfl
    cases hd : inB 0 3000 thing with
    | true => exact absurd (by rw [← HE.out]; simp [firstE, hl, hd]) H0.out
    | false =>
      have HEQ := Lib.hid (show (2 : Int) = E by rw [← HE.out]; simp [firstE, hl, hd])
      have HD := Lib.hid hd
      clear hl hd
      go_wp2_with (go_at_call 63; refine (within_any 0 3000 thing false HD.out _ _ _ (HTD.out.grow (gU.tr gv))).mono ?_; rintro e w2 ⟨rfl, g2⟩)
      refine bodyPost_ret (v := .tuple #[.bool false, .bool false, .int .i64 2]) (by simp [results, Try.results35, go_sem]) rfl ?_
      exact ⟨by rw [HEQ.out], gU.tr (gv.tr g2)⟩

end Go.Proofs.Ytafkoococfnakaa

namespace Go.Proofs.Ytafkoococfnakaa
set_option linter.unusedVariables false
set_option linter.unusedSimpArgs false
open Go.RowKit

theorem inner_le {off hei : Int} {pan top bot : List Int} {opn : Bool} {cl ch cl' ch' : Int} (h0 : cl ≤ cl') (h1 : ch ≤ ch') (i : Nat) :
    (innerAt off hei pan top bot opn cl' ch' i).lo ≤ (innerAt off hei pan top bot opn cl ch i).lo ∧ (innerAt off hei pan top bot opn cl' ch' i).hi ≤ (innerAt off hei pan top bot opn cl ch i).hi := by
  have hL : 0 ≤ lostL i opn := by unfold lostL; split <;> omega
  have a := Int.mul_le_mul_of_nonneg_left h0 hL
  have b := Int.mul_le_mul_of_nonneg_left h1 hL
  simp only [innerAt, insideS]
  omega

/-! ### Three measures, sorted -/

theorem sort3 (a b c : Int) : sortL [a, b, c] = [min a (min b c), max (min a b) (min c (max a b)), max a (max b c)] := by
  by_cases h1 : a ≤ b <;> by_cases h2 : b ≤ c <;> by_cases h3 : a ≤ c <;> simp [sortL, List.mergeSort, List.MergeSort.Internal.splitInTwo, h1, h2, h3] <;> omega

theorem fits3 (t0 t1 t2 a b c : Int) : fitsL [t0, t1, t2] [a, b, c] = true ↔
    1000 * min t0 (min t1 t2) ≤ min a (min b c) ∧ 1000 * max (min t0 t1) (min t2 (max t0 t1)) ≤ max (min a b) (min c (max a b)) ∧ 1000 * max t0 (max t1 t2) ≤ max a (max b c) := by
  unfold fitsL
  rw [sort3, sort3]
  simp [fitsP]

theorem min_mono {a b a' b' : Int} (ha : a' ≤ a) (hb : b' ≤ b) : min a' b' ≤ min a b := by omega

theorem max_mono {a b a' b' : Int} (ha : a' ≤ a) (hb : b' ≤ b) : max a' b' ≤ max a b := by omega

theorem fits_mono {t0 t1 t2 a b c a' b' c' : Int} (ha : a' ≤ a) (hb : b' ≤ b) (hc : c' ≤ c) (h : fitsL [t0, t1, t2] [a', b', c'] = true) : fitsL [t0, t1, t2] [a, b, c] = true := by
  rw [fits3] at h ⊢
  obtain ⟨h1, h2, h3⟩ := h
  exact ⟨Int.le_trans h1 (min_mono ha (min_mono hb hc)), Int.le_trans h2 (max_mono (min_mono ha hb) (min_mono hc (max_mono ha hb))), Int.le_trans h3 (max_mono ha (max_mono hb hc))⟩

theorem fitsBox_mono {t0 t1 t2 off hei : Int} {pan top bot : List Int} {opn : Bool} {c c' : Int} (hc : c ≤ c') (h : fitsL [t0, t1, t2] (fitsBox off hei pan top bot opn c') = true) : fitsL [t0, t1, t2] (fitsBox off hei pan top bot opn c) = true := by
  have m := fun k => (inner_le (off := off) (hei := hei) (pan := pan) (top := top) (bot := bot) (opn := opn) hc hc k).1
  have m0 := m 0
  have m1 := m 1
  have m2 := m 2
  have m3 := m 3
  have m4 := m 4
  unfold fitsBox at h ⊢
  exact fits_mono (min_mono m0 m2) (min_mono m1 m3) m4 h

end Go.Proofs.Ytafkoococfnakaa

namespace Go.Proofs.Ytafkoococfnakaa
set_option linter.unusedVariables false
set_option linter.unusedSimpArgs false
open Go.RowKit

def insP (L W H : Int) (t : List Int) (j : Nat) : Bool := decide (j / 3 ≠ j % 3) && (decide (1000 * t.getD (j / 3) 0 ≤ L) && (decide (1000 * t.getD (j % 3) 0 ≤ W) && decide (1000 * t.getD (3 - j / 3 - j % 3) 0 ≤ H)))

def insN (L W H : Int) (t : List Int) (n : Nat) : Bool := (List.range n).any (insP L W H t)

theorem insN_zero (L W H : Int) (t : List Int) : insN L W H t 0 = false := rfl

theorem insN_succ {L W H : Int} {t : List Int} {n : Nat} (h : insN L W H t n = false) (hn : insP L W H t n = false) : insN L W H t (n + 1) = false := by
  unfold insN at *
  rw [List.range_succ, List.any_append, h]
  simp [hn]

theorem insN_yes {L W H : Int} {t : List Int} {n : Nat} (h : n < 9) (hn : insP L W H t n = true) : insN L W H t 9 = true := by
  unfold insN
  rw [List.any_eq_true]
  exact ⟨n, by simpa using h, hn⟩

theorem insN_fits (t0 t1 t2 L W H : Int) : insN L W H [t0, t1, t2] 9 = fitsL [t0, t1, t2] [L, W, H] := by
  rw [Bool.eq_iff_iff, fits3]
  have e : insN L W H [t0, t1, t2] 9 = true ↔ (1000 * t0 ≤ L ∧ 1000 * t1 ≤ W ∧ 1000 * t2 ≤ H) ∨ (1000 * t0 ≤ L ∧ 1000 * t2 ≤ W ∧ 1000 * t1 ≤ H) ∨ (1000 * t1 ≤ L ∧ 1000 * t0 ≤ W ∧ 1000 * t2 ≤ H) ∨ (1000 * t1 ≤ L ∧ 1000 * t2 ≤ W ∧ 1000 * t0 ≤ H) ∨ (1000 * t2 ≤ L ∧ 1000 * t0 ≤ W ∧ 1000 * t1 ≤ H) ∨ (1000 * t2 ≤ L ∧ 1000 * t1 ≤ W ∧ 1000 * t0 ≤ H) := by
    simp [insN, insP, List.range_succ, or_assoc]
  rw [e]
  by_cases a1 : t0 ≤ t1 <;> by_cases a2 : t1 ≤ t2 <;> by_cases a3 : t0 ≤ t2 <;> by_cases b1 : L ≤ W <;> by_cases b2 : W ≤ H <;> by_cases b3 : L ≤ H <;> simp only [Int.min_def, Int.max_def, a1, a2, a3, b1, b2, b3, if_true, if_false] <;> omega

theorem refPanel02_at (tab hei slo : Int) (pan top bot : List Int) (pa ta ba : Option Addr) (pc tc bc : Nat) (opn : Bool) (k : Nat) (j : Int) (hj : j = (k : Int)) (x c m : Int) (hm : 1000 * x - c = m) (hx : pan[k]? = some x) (x0 : 0 ≤ x) (x1 : x ≤ 10000) (c0 : 0 ≤ c) (c1 : c ≤ 20000) (w : World) (hp : IRow w pa pan) :
    Calls Try.prog 33 #[.agg #[.int .i64 tab, .slice pa pan.length pc, .int .i64 hei, .slice ta top.length tc, .slice ba bot.length bc, .int .i64 slo, .bool opn], .int .i64 j, .int .i64 c] w fun e w' => e = .returned (.int .i64 m) ∧ Gr w w' := by
  subst hj
  subst hm
  exact refPanel02_any tab hei slo pan top bot pa ta ba pc tc bc opn k x c hx x0 x1 c0 c1 w hp

theorem refHeight02_at (tab hei slo : Int) (pan top bot : List Int) (pa ta ba : Option Addr) (pc tc bc : Nat) (opn : Bool) (c m : Int) (hm : heightL hei opn c = m) (x0 : 0 ≤ hei) (x1 : hei ≤ 10000) (c0 : 0 ≤ c) (c1 : c ≤ 20000) (w : World) :
    Calls Try.prog 71 #[.agg #[.int .i64 tab, .slice pa pan.length pc, .int .i64 hei, .slice ta top.length tc, .slice ba bot.length bc, .int .i64 slo, .bool opn], .int .i64 c] w fun e w' => e = .returned (.int .i64 m) ∧ Gr w w' := by
  subst hm
  exact refHeight02_any tab hei slo pan top bot pa ta ba pc tc bc opn c x0 x1 c0 c1 w

set_option maxRecDepth 100000 in
set_option maxHeartbeats 4000000 in
theorem refInside02_any (tab hei slo : Int) (pan top bot : List Int) (pa ta ba : Option Addr) (pc tc bc : Nat) (opn : Bool) (G : GoodB tab hei slo pan top bot opn) (c p0 p1 p2 p3 t0 t1 t2 : Int) (hpan : pan = [p0, p1, p2, p3]) (hth : inB 0 3000 [t0, t1, t2] = true) (c0 : 0 ≤ c) (c1 : c ≤ 10000) (td : Option Addr) (tcap : Nat) (w : World) (hp : IRow w pa pan) (ht : IRow w td [t0, t1, t2]) :
    Calls Try.prog 37 #[.agg #[.int .i64 tab, .slice pa pan.length pc, .int .i64 hei, .slice ta top.length tc, .slice ba bot.length bc, .int .i64 slo, .bool opn], .int .i64 c, .slice td 3 tcap] w fun e w' => e = .returned (.bool (insN (min (1000 * p0 - c) (1000 * p2 - c)) (min (1000 * p1 - c) (1000 * p3 - c)) (heightL hei opn c) [t0, t1, t2] 9)) ∧ Gr w w' := by
  have gg := Gr.al w (.cells #[.int .i64 tab, .slice pa pan.length pc, .int .i64 hei, .slice ta top.length tc, .slice ba bot.length bc, .int .i64 slo, .bool opn] 24)
  have hB := Box.new w [.int .i64 tab, .slice pa pan.length pc, .int .i64 hei, .slice ta top.length tc, .slice ba bot.length bc, .int .i64 slo, .bool opn] 24 w.heap.size rfl
  obtain ⟨e0, e1⟩ := in_one G.ghei
  have gp := G.gpan
  rw [hpan] at gp
  obtain ⟨a0, b0⟩ := in_at (k := 0) gp rfl
  obtain ⟨a1, b1⟩ := in_at (k := 1) gp rfl
  obtain ⟨a2, b2⟩ := in_at (k := 2) gp rfl
  obtain ⟨a3, b3⟩ := in_at (k := 3) gp rfl
  obtain ⟨x0, y0⟩ := in_at (k := 0) hth rfl
  obtain ⟨x1, y1⟩ := in_at (k := 1) hth rfl
  obtain ⟨x2, y2⟩ := in_at (k := 2) hth rfl
  obtain ⟨m0, h0⟩ : ∃ m, 1000 * p0 - c = m := ⟨_, rfl⟩
  obtain ⟨m1, h1⟩ : ∃ m, 1000 * p1 - c = m := ⟨_, rfl⟩
  obtain ⟨m2, h2⟩ : ∃ m, 1000 * p2 - c = m := ⟨_, rfl⟩
  obtain ⟨m3, h3⟩ : ∃ m, 1000 * p3 - c = m := ⟨_, rfl⟩
  obtain ⟨m4, h4⟩ : ∃ m, heightL hei opn c = m := ⟨_, rfl⟩
  rw [h0, h1, h2, h3, h4]
  have P0 := Lib.hid (fun (u : From (w.alloc (.cells #[.int .i64 tab, .slice pa pan.length pc, .int .i64 hei, .slice ta top.length tc, .slice ba bot.length bc, .int .i64 slo, .bool opn] 24))) => refPanel02_at tab hei slo pan top bot pa ta ba pc tc bc opn 0 0 rfl p0 c m0 h0 (by rw [hpan]; rfl) (by omega) (by omega) (by omega) (by omega) u.val (hp.grow (gg.tr u.property)))
  have P1 := Lib.hid (fun (u : From (w.alloc (.cells #[.int .i64 tab, .slice pa pan.length pc, .int .i64 hei, .slice ta top.length tc, .slice ba bot.length bc, .int .i64 slo, .bool opn] 24))) => refPanel02_at tab hei slo pan top bot pa ta ba pc tc bc opn 1 1 rfl p1 c m1 h1 (by rw [hpan]; rfl) (by omega) (by omega) (by omega) (by omega) u.val (hp.grow (gg.tr u.property)))
  have P2 := Lib.hid (fun (u : From (w.alloc (.cells #[.int .i64 tab, .slice pa pan.length pc, .int .i64 hei, .slice ta top.length tc, .slice ba bot.length bc, .int .i64 slo, .bool opn] 24))) => refPanel02_at tab hei slo pan top bot pa ta ba pc tc bc opn 2 2 rfl p2 c m2 h2 (by rw [hpan]; rfl) (by omega) (by omega) (by omega) (by omega) u.val (hp.grow (gg.tr u.property)))
  have P3 := Lib.hid (fun (u : From (w.alloc (.cells #[.int .i64 tab, .slice pa pan.length pc, .int .i64 hei, .slice ta top.length tc, .slice ba bot.length bc, .int .i64 slo, .bool opn] 24))) => refPanel02_at tab hei slo pan top bot pa ta ba pc tc bc opn 3 3 rfl p3 c m3 h3 (by rw [hpan]; rfl) (by omega) (by omega) (by omega) (by omega) u.val (hp.grow (gg.tr u.property)))
  have P4 := Lib.hid (fun (u : From (w.alloc (.cells #[.int .i64 tab, .slice pa pan.length pc, .int .i64 hei, .slice ta top.length tc, .slice ba bot.length bc, .int .i64 slo, .bool opn] 24))) => refHeight02_at tab hei slo pan top bot pa ta ba pc tc bc opn c m4 h4 (by omega) (by omega) (by omega) (by omega) u.val)
  obtain ⟨L, hL⟩ : ∃ m, min m0 m2 = m := ⟨_, rfl⟩
  obtain ⟨W, hW⟩ : ∃ m, min m1 m3 = m := ⟨_, rfl⟩
  rw [hL, hW]
  have HL := Lib.hid hL
  have HW := Lib.hid hW
  have HT := Lib.hid ht
  clear h0 h1 h2 h3 h4 hL hW hpan gp hp ht hth G
  obtain ⟨q0, q1, q2, q3, q4, q5, q6⟩ := hB.c7
  have f0 := From.keep q0
  have f1 := From.keep q1
  have f2 := From.keep q2
  have f3 := From.keep q3
  have f4 := From.keep q4
  have f5 := From.keep q5
  have f6 := From.keep q6
  go_enter Try.func37, Try.ntmps37
  go_upto_region 1 with fail
  clear q0 q1 q2 q3 q4 q5 q6
  refine wp_region_gr (by kernel_rfl) (by kernel_rfl) ?_
  repeat (go_big_quiet_step (first
    | (go_at_call 33; (with_reducible exact Calls.gr (P0.out _)))
    | (go_at_call 33; (with_reducible exact Calls.gr (P1.out _)))
    | (go_at_call 33; (with_reducible exact Calls.gr (P2.out _)))
    | (go_at_call 33; (with_reducible exact Calls.gr (P3.out _)))
    | (go_at_call 71; (with_reducible exact Calls.gr (P4.out _)))))
  refine wpQuiet_nil ?_
  rintro _ ⟨u, rfl⟩
  clear P0 P1 P2 P3 P4 f0 f1 f2 f3 f4 f5 f6 hB
  go_upto_region 2 with fail
  rw [HL.out, HW.out]
  refine wp_abs (fun U => Gr w U) (gg.tr u.property) ?_
  clear gg
  rintro U gU
  obtain ⟨tb, tf, rfl, _, k0⟩ := IRow.get (HT.out.grow gU) (j := 0) rfl
  obtain ⟨_, _, z1, _, k1⟩ := IRow.get (HT.out.grow gU) (j := 1) rfl
  obtain ⟨_, _, z2, _, k2⟩ := IRow.get (HT.out.grow gU) (j := 2) rfl
  cases z1
  cases z2
  simp only [Nat.add_zero] at k0
  have v0 : IntKind.i64.wrap (1000 * t0) = 1000 * t0 := IntWalk.i64_in _ (by omega)
  have v1 : IntKind.i64.wrap (1000 * t1) = 1000 * t1 := IntWalk.i64_in _ (by omega)
  have v2 : IntKind.i64.wrap (1000 * t2) = 1000 * t2 := IntWalk.i64_in _ (by omega)
  go_wp2
  go_loop [10] (fun x => Hid ((x = .int .i64 0 ∧ insN L W m4 [t0, t1, t2] 0 = false) ∨ (x = .int .i64 1 ∧ insN L W m4 [t0, t1, t2] 3 = false) ∨ (x = .int .i64 2 ∧ insN L W m4 [t0, t1, t2] 6 = false) ∨ (x = .int .i64 3 ∧ insN L W m4 [t0, t1, t2] 9 = false))) (fun x => 3 - (intOf x).toNat)
  case atStart => exact Lib.hid (.inl ⟨rfl, insN_zero _ _ _ _⟩)
  case round =>
    rcases hrel.out with ⟨rfl, hn⟩ | ⟨rfl, hn⟩ | ⟨rfl, hn⟩ | ⟨rfl, hn⟩
    · clear hrel
      go_wp2
      go_loop [11] (fun x => Hid ((x = .int .i64 0 ∧ insN L W m4 [t0, t1, t2] 0 = false) ∨ (x = .int .i64 1 ∧ insN L W m4 [t0, t1, t2] 1 = false) ∨ (x = .int .i64 2 ∧ insN L W m4 [t0, t1, t2] 2 = false) ∨ (x = .int .i64 3 ∧ insN L W m4 [t0, t1, t2] 3 = false))) (fun x => 3 - (intOf x).toNat)
      case atStart => exact Lib.hid (.inl ⟨rfl, hn⟩)
      case round =>
        clear hn
        rcases hrel.out with ⟨rfl, hn⟩ | ⟨rfl, hn⟩ | ⟨rfl, hn⟩ | ⟨rfl, hn⟩
        · have HN1 := Lib.hid hn
          clear hn hrel
          go_wp2
          go_round
          case rel => exact Lib.hid (.inr (.inl ⟨rfl, insN_succ HN1.out (by simp [insP])⟩))
          case measure => simp [intOf]
        · have HN1 := Lib.hid hn
          clear hn hrel
          by_cases q1 : 1000 * t0 ≤ L
          case neg =>
            have HP := Lib.hid (show insP L W m4 [t0, t1, t2] 1 = false by simp [insP, q1])
            go_wp2
            go_round
            case rel => exact Lib.hid (.inr (.inr (.inl ⟨rfl, insN_succ HN1.out HP.out⟩)))
            case measure => simp [intOf]
          by_cases q2 : 1000 * t1 ≤ W
          case neg =>
            have HP := Lib.hid (show insP L W m4 [t0, t1, t2] 1 = false by simp [insP, q1, q2])
            go_wp2
            go_round
            case rel => exact Lib.hid (.inr (.inr (.inl ⟨rfl, insN_succ HN1.out HP.out⟩)))
            case measure => simp [intOf]
          by_cases q3 : 1000 * t2 ≤ m4
          case neg =>
            have HP := Lib.hid (show insP L W m4 [t0, t1, t2] 1 = false by simp [insP, q1, q2, q3])
            go_wp2
            go_round
            case rel => exact Lib.hid (.inr (.inr (.inl ⟨rfl, insN_succ HN1.out HP.out⟩)))
            case measure => simp [intOf]
          have HP := Lib.hid (insN_yes (n := 1) (by decide) (show insP L W m4 [t0, t1, t2] 1 = true by simp [insP, q1, q2, q3]))
          go_wp2
          go_ret
          exact ⟨ret_bool HP.out.symm, gU⟩
        · have HN1 := Lib.hid hn
          clear hn hrel
          by_cases q1 : 1000 * t0 ≤ L
          case neg =>
            have HP := Lib.hid (show insP L W m4 [t0, t1, t2] 2 = false by simp [insP, q1])
            go_wp2
            go_round
            case rel => exact Lib.hid (.inr (.inr (.inr (⟨rfl, insN_succ HN1.out HP.out⟩))))
            case measure => simp [intOf]
          by_cases q2 : 1000 * t2 ≤ W
          case neg =>
            have HP := Lib.hid (show insP L W m4 [t0, t1, t2] 2 = false by simp [insP, q1, q2])
            go_wp2
            go_round
            case rel => exact Lib.hid (.inr (.inr (.inr (⟨rfl, insN_succ HN1.out HP.out⟩))))
            case measure => simp [intOf]
          by_cases q3 : 1000 * t1 ≤ m4
          case neg =>
            have HP := Lib.hid (show insP L W m4 [t0, t1, t2] 2 = false by simp [insP, q1, q2, q3])
            go_wp2
            go_round
            case rel => exact Lib.hid (.inr (.inr (.inr (⟨rfl, insN_succ HN1.out HP.out⟩))))
            case measure => simp [intOf]
          have HP := Lib.hid (insN_yes (n := 2) (by decide) (show insP L W m4 [t0, t1, t2] 2 = true by simp [insP, q1, q2, q3]))
          go_wp2
          go_ret
          exact ⟨ret_bool HP.out.symm, gU⟩
        · have HN1 := Lib.hid hn
          clear hn hrel
          go_wp2
          go_round
          case rel => exact Lib.hid (.inr (.inl ⟨rfl, HN1.out⟩))
          case measure => simp [intOf]
    · clear hrel
      go_wp2
      go_loop [11] (fun x => Hid ((x = .int .i64 0 ∧ insN L W m4 [t0, t1, t2] 3 = false) ∨ (x = .int .i64 1 ∧ insN L W m4 [t0, t1, t2] 4 = false) ∨ (x = .int .i64 2 ∧ insN L W m4 [t0, t1, t2] 5 = false) ∨ (x = .int .i64 3 ∧ insN L W m4 [t0, t1, t2] 6 = false))) (fun x => 3 - (intOf x).toNat)
      case atStart => exact Lib.hid (.inl ⟨rfl, hn⟩)
      case round =>
        clear hn
        rcases hrel.out with ⟨rfl, hn⟩ | ⟨rfl, hn⟩ | ⟨rfl, hn⟩ | ⟨rfl, hn⟩
        · have HN1 := Lib.hid hn
          clear hn hrel
          by_cases q1 : 1000 * t1 ≤ L
          case neg =>
            have HP := Lib.hid (show insP L W m4 [t0, t1, t2] 3 = false by simp [insP, q1])
            go_wp2
            go_round
            case rel => exact Lib.hid (.inr (.inl ⟨rfl, insN_succ HN1.out HP.out⟩))
            case measure => simp [intOf]
          by_cases q2 : 1000 * t0 ≤ W
          case neg =>
            have HP := Lib.hid (show insP L W m4 [t0, t1, t2] 3 = false by simp [insP, q1, q2])
            go_wp2
            go_round
            case rel => exact Lib.hid (.inr (.inl ⟨rfl, insN_succ HN1.out HP.out⟩))
            case measure => simp [intOf]
          by_cases q3 : 1000 * t2 ≤ m4
          case neg =>
            have HP := Lib.hid (show insP L W m4 [t0, t1, t2] 3 = false by simp [insP, q1, q2, q3])
            go_wp2
            go_round
            case rel => exact Lib.hid (.inr (.inl ⟨rfl, insN_succ HN1.out HP.out⟩))
            case measure => simp [intOf]
          have HP := Lib.hid (insN_yes (n := 3) (by decide) (show insP L W m4 [t0, t1, t2] 3 = true by simp [insP, q1, q2, q3]))
          go_wp2
          go_ret
          exact ⟨ret_bool HP.out.symm, gU⟩
        · have HN1 := Lib.hid hn
          clear hn hrel
          go_wp2
          go_round
          case rel => exact Lib.hid (.inr (.inr (.inl ⟨rfl, insN_succ HN1.out (by simp [insP])⟩)))
          case measure => simp [intOf]
        · have HN1 := Lib.hid hn
          clear hn hrel
          by_cases q1 : 1000 * t1 ≤ L
          case neg =>
            have HP := Lib.hid (show insP L W m4 [t0, t1, t2] 5 = false by simp [insP, q1])
            go_wp2
            go_round
            case rel => exact Lib.hid (.inr (.inr (.inr (⟨rfl, insN_succ HN1.out HP.out⟩))))
            case measure => simp [intOf]
          by_cases q2 : 1000 * t2 ≤ W
          case neg =>
            have HP := Lib.hid (show insP L W m4 [t0, t1, t2] 5 = false by simp [insP, q1, q2])
            go_wp2
            go_round
            case rel => exact Lib.hid (.inr (.inr (.inr (⟨rfl, insN_succ HN1.out HP.out⟩))))
            case measure => simp [intOf]
          by_cases q3 : 1000 * t0 ≤ m4
          case neg =>
            have HP := Lib.hid (show insP L W m4 [t0, t1, t2] 5 = false by simp [insP, q1, q2, q3])
            go_wp2
            go_round
            case rel => exact Lib.hid (.inr (.inr (.inr (⟨rfl, insN_succ HN1.out HP.out⟩))))
            case measure => simp [intOf]
          have HP := Lib.hid (insN_yes (n := 5) (by decide) (show insP L W m4 [t0, t1, t2] 5 = true by simp [insP, q1, q2, q3]))
          go_wp2
          go_ret
          exact ⟨ret_bool HP.out.symm, gU⟩
        · have HN1 := Lib.hid hn
          clear hn hrel
          go_wp2
          go_round
          case rel => exact Lib.hid (.inr (.inr (.inl ⟨rfl, HN1.out⟩)))
          case measure => simp [intOf]
    · clear hrel
      go_wp2
      go_loop [11] (fun x => Hid ((x = .int .i64 0 ∧ insN L W m4 [t0, t1, t2] 6 = false) ∨ (x = .int .i64 1 ∧ insN L W m4 [t0, t1, t2] 7 = false) ∨ (x = .int .i64 2 ∧ insN L W m4 [t0, t1, t2] 8 = false) ∨ (x = .int .i64 3 ∧ insN L W m4 [t0, t1, t2] 9 = false))) (fun x => 3 - (intOf x).toNat)
      case atStart => exact Lib.hid (.inl ⟨rfl, hn⟩)
      case round =>
        clear hn
        rcases hrel.out with ⟨rfl, hn⟩ | ⟨rfl, hn⟩ | ⟨rfl, hn⟩ | ⟨rfl, hn⟩
        · have HN1 := Lib.hid hn
          clear hn hrel
          by_cases q1 : 1000 * t2 ≤ L
          case neg =>
            have HP := Lib.hid (show insP L W m4 [t0, t1, t2] 6 = false by simp [insP, q1])
            go_wp2
            go_round
            case rel => exact Lib.hid (.inr (.inl ⟨rfl, insN_succ HN1.out HP.out⟩))
            case measure => simp [intOf]
          by_cases q2 : 1000 * t0 ≤ W
          case neg =>
            have HP := Lib.hid (show insP L W m4 [t0, t1, t2] 6 = false by simp [insP, q1, q2])
            go_wp2
            go_round
            case rel => exact Lib.hid (.inr (.inl ⟨rfl, insN_succ HN1.out HP.out⟩))
            case measure => simp [intOf]
          by_cases q3 : 1000 * t1 ≤ m4
          case neg =>
            have HP := Lib.hid (show insP L W m4 [t0, t1, t2] 6 = false by simp [insP, q1, q2, q3])
            go_wp2
            go_round
            case rel => exact Lib.hid (.inr (.inl ⟨rfl, insN_succ HN1.out HP.out⟩))
            case measure => simp [intOf]
          have HP := Lib.hid (insN_yes (n := 6) (by decide) (show insP L W m4 [t0, t1, t2] 6 = true by simp [insP, q1, q2, q3]))
          go_wp2
          go_ret
          exact ⟨ret_bool HP.out.symm, gU⟩
        · have HN1 := Lib.hid hn
          clear hn hrel
          by_cases q1 : 1000 * t2 ≤ L
          case neg =>
            have HP := Lib.hid (show insP L W m4 [t0, t1, t2] 7 = false by simp [insP, q1])
            go_wp2
            go_round
            case rel => exact Lib.hid (.inr (.inr (.inl ⟨rfl, insN_succ HN1.out HP.out⟩)))
            case measure => simp [intOf]
          by_cases q2 : 1000 * t1 ≤ W
          case neg =>
            have HP := Lib.hid (show insP L W m4 [t0, t1, t2] 7 = false by simp [insP, q1, q2])
            go_wp2
            go_round
            case rel => exact Lib.hid (.inr (.inr (.inl ⟨rfl, insN_succ HN1.out HP.out⟩)))
            case measure => simp [intOf]
          by_cases q3 : 1000 * t0 ≤ m4
          case neg =>
            have HP := Lib.hid (show insP L W m4 [t0, t1, t2] 7 = false by simp [insP, q1, q2, q3])
            go_wp2
            go_round
            case rel => exact Lib.hid (.inr (.inr (.inl ⟨rfl, insN_succ HN1.out HP.out⟩)))
            case measure => simp [intOf]
          have HP := Lib.hid (insN_yes (n := 7) (by decide) (show insP L W m4 [t0, t1, t2] 7 = true by simp [insP, q1, q2, q3]))
          go_wp2
          go_ret
          exact ⟨ret_bool HP.out.symm, gU⟩
        · have HN1 := Lib.hid hn
          clear hn hrel
          go_wp2
          go_round
          case rel => exact Lib.hid (.inr (.inr (.inr (⟨rfl, insN_succ HN1.out (by simp [insP])⟩))))
          case measure => simp [intOf]
        · have HN1 := Lib.hid hn
          clear hn hrel
          go_wp2
          go_round
          case rel => exact Lib.hid (.inr (.inr (.inr (⟨rfl, HN1.out⟩))))
          case measure => simp [intOf]
    · have HN1 := Lib.hid hn
      clear hn hrel
      go_wp2
      go_ret
      exact ⟨ret_bool HN1.out.symm, gU⟩

theorem box_is {hei : Int} {top bot : List Int} {opn : Bool} {c p0 p1 p2 p3 : Int} (hp : inB 1 3000 [p0, p1, p2, p3] = true) (hh : 1 ≤ hei ∧ hei ≤ 3000) : fitsBox 0 hei [p0, p1, p2, p3] top bot opn c = [min (1000 * p0 - c) (1000 * p2 - c), min (1000 * p1 - c) (1000 * p3 - c), heightL hei opn c] := by
  obtain ⟨a0, b0⟩ := in_at (k := 0) hp rfl
  obtain ⟨a1, b1⟩ := in_at (k := 1) hp rfl
  obtain ⟨a2, b2⟩ := in_at (k := 2) hp rfl
  obtain ⟨a3, b3⟩ := in_at (k := 3) hp rfl
  have e : ∀ p : Int, 1 ≤ p → 1000 * max 1 (p - 0) - 1 * c = 1000 * p - c := fun p h => by rw [show max 1 (p - 0) = p by omega]; omega
  have i : ∀ (k : Nat) (p : Int), k < 4 → ([p0, p1, p2, p3] : List Int).getD k 0 = p → 1 ≤ p → (innerAt 0 hei [p0, p1, p2, p3] top bot opn c c k).lo = 1000 * p - c := by
    intro k p hk hg h1
    have e4 : ¬ ((k : Int) = 4 ∧ opn = false) := by omega
    simp only [innerAt, insideS, flatAt, if_pos hk, lostL, if_neg e4, hg, nearL]
    exact e p h1
  have h4 : (innerAt 0 hei [p0, p1, p2, p3] top bot opn c c 4).lo = heightL hei opn c := by
    cases opn <;> simp [innerAt, insideS, flatAt, lostL, nearL, heightL] <;> omega
  unfold fitsBox
  rw [i 0 p0 (by omega) rfl a0, i 1 p1 (by omega) rfl a1, i 2 p2 (by omega) rfl a2, i 3 p3 (by omega) rfl a3, h4]

theorem inside_fits (tab hei slo : Int) (pan top bot : List Int) (pa ta ba : Option Addr) (pc tc bc : Nat) (opn : Bool) (G : GoodB tab hei slo pan top bot opn) (c : Int) (thing : List Int) (hl : thing.length = 3) (hth : inB 0 3000 thing = true) (c0 : 0 ≤ c) (c1 : c ≤ 10000) (td : Option Addr) (tcap : Nat) (w : World) (hp : IRow w pa pan) (ht : IRow w td thing) :
    Calls Try.prog 37 #[.agg #[.int .i64 tab, .slice pa pan.length pc, .int .i64 hei, .slice ta top.length tc, .slice ba bot.length bc, .int .i64 slo, .bool opn], .int .i64 c, .slice td thing.length tcap] w fun e w' => e = .returned (.bool (fitsL thing (fitsBox 0 hei pan top bot opn c))) ∧ Gr w w' := by
  obtain ⟨t0, t1, t2, rfl⟩ : ∃ a b c, thing = [a, b, c] := by
    match thing, hl with
    | [a, b, c], _ => exact ⟨a, b, c, rfl⟩
  have h4 := G.l4
  obtain ⟨p0, p1, p2, p3, hpan⟩ : ∃ a b c d, pan = [a, b, c, d] := by
    match pan, h4 with
    | [a, b, c, d], _ => exact ⟨a, b, c, d, rfl⟩
  have h := refInside02_any tab hei slo pan top bot pa ta ba pc tc bc opn G c p0 p1 p2 p3 t0 t1 t2 hpan hth c0 c1 td tcap w hp ht
  rw [insN_fits] at h
  have hb : fitsBox 0 hei pan top bot opn c = [min (1000 * p0 - c) (1000 * p2 - c), min (1000 * p1 - c) (1000 * p3 - c), heightL hei opn c] := by
    rw [hpan]
    exact box_is (by rw [← hpan]; exact G.gpan) (in_one G.ghei)
  rw [hb]
  exact h

end Go.Proofs.Ytafkoococfnakaa

namespace Go.Proofs.Ytafkoococfnakaa
set_option linter.unusedVariables false
set_option linter.unusedSimpArgs false
open Go.RowKit

theorem ints02_eq (l : List Int) (a b : Option Addr) (c d : Nat) (w : World) (h1 : IRow w a l) (h2 : IRow w b l) :
    Calls Try.prog 22 #[.slice a l.length c, .slice b l.length d] w fun e w' => e = .returned (.bool true) ∧ Gr w w' := by
  have h := ints02_any l l a b c d w h1 h2
  rw [decide_eq_true rfl] at h
  exact h

theorem fits_down {thing : List Int} (hl : thing.length = 3) {hei : Int} {pan top bot : List Int} {opn : Bool} {c c' : Int} (hc : c ≤ c') (h : fitsL thing (fitsBox 0 hei pan top bot opn c') = true) : fitsL thing (fitsBox 0 hei pan top bot opn c) = true := by
  match thing, hl with
  | [a, b, d], _ => exact fitsBox_mono hc h

/-- What the loop over the calipers knows before caliper c. -/
def allTo (f : Int → Bool) (cl c : Int) : Bool := decide (c = cl) || f (c - 1)

def someTo (f : Int → Bool) (cl c : Int) : Bool := !decide (c = cl) && f cl

theorem allTo_succ {f : Int → Bool} {cl c : Int} (h : cl ≤ c) (hf : c ≠ cl → f c = true → f (c - 1) = true) : allTo f cl (c + 1) = (allTo f cl c && f c) := by
  unfold allTo
  rw [show c + 1 - 1 = c by omega, decide_eq_false (by omega : ¬ c + 1 = cl), Bool.false_or]
  by_cases e : c = cl
  · simp [e]
  · rw [decide_eq_false e, Bool.false_or]
    cases h1 : f c with
    | false => simp
    | true => rw [hf e h1]; rfl

theorem someTo_succ {f : Int → Bool} {cl c : Int} (h : cl ≤ c) (hf : f c = true → f cl = true) : someTo f cl (c + 1) = (someTo f cl c || f c) := by
  unfold someTo
  rw [decide_eq_false (by omega : ¬ c + 1 = cl)]
  by_cases e : c = cl
  · simp [e]
  · rw [decide_eq_false e]
    cases h1 : f c with
    | false => simp
    | true => rw [hf h1]; rfl

theorem allTo_end {f : Int → Bool} {cl ch : Int} (h : cl ≤ ch) : allTo f cl (ch + 1) = f ch := by
  unfold allTo
  rw [show ch + 1 - 1 = ch by omega, decide_eq_false (by omega : ¬ ch + 1 = cl), Bool.false_or]

theorem someTo_end {f : Int → Bool} {cl ch : Int} (h : cl ≤ ch) : someTo f cl (ch + 1) = f cl := by
  unfold someTo
  rw [decide_eq_false (by omega : ¬ ch + 1 = cl)]
  rfl

set_option maxRecDepth 100000 in
set_option maxHeartbeats 8000000 in
theorem holds_body (tab hei slo : Int) (pan top bot : List Int) (pa ta ba : Option Addr) (pc tc bc : Nat) (opn : Bool) (cl ch : Int) (thing : List Int) (td : Option Addr) (tcap : Nat) (w : World) (hp : IRow w pa pan) (ht : IRow w ta top) (hb : IRow w ba bot) (htd : IRow w td thing) :
    Calls Try.prog 7 #[.agg #[.int .i64 tab, .slice pa pan.length pc, .int .i64 hei, .slice ta top.length tc, .slice ba bot.length bc, .int .i64 slo, .bool opn], .agg #[.int .i64 cl, .int .i64 ch], .slice td thing.length tcap] w fun e w' => e = .returned (.bool true) ∧ Gr w w' := by
  have gg := (Gr.al w (.cells #[.int .i64 tab, .slice pa pan.length pc, .int .i64 hei, .slice ta top.length tc, .slice ba bot.length bc, .int .i64 slo, .bool opn] 24)).tr (Gr.al _ (.cells #[.int .i64 cl, .int .i64 ch] 37))
  have h1 := (Box.new w [.int .i64 tab, .slice pa pan.length pc, .int .i64 hei, .slice ta top.length tc, .slice ba bot.length bc, .int .i64 slo, .bool opn] 24 w.heap.size rfl).keep (Gr.al _ (.cells #[.int .i64 cl, .int .i64 ch] 37))
  have h2 := Box.new (w.alloc (.cells #[.int .i64 tab, .slice pa pan.length pc, .int .i64 hei, .slice ta top.length tc, .slice ba bot.length bc, .int .i64 slo, .bool opn] 24)) [.int .i64 cl, .int .i64 ch] 37 (w.heap.size + 1) (by simp)
  have HP := Lib.hid hp
  have HT := Lib.hid ht
  have HB := Lib.hid hb
  have HTD := Lib.hid htd
  clear hp ht hb htd
  obtain ⟨d, hd⟩ : ∃ d, (decide (10 < pan.length) || (decide (10 < top.length) || decide (10 < bot.length))) = d := ⟨_, rfl⟩
  have HD := Lib.hid hd
  clear hd
  obtain ⟨b0, b1, b2, b3, b4, b5, b6⟩ := h1.c7
  cases d with
  | true =>
    go_enter Try.func7, Try.ntmps7
    go_wp2_with (first
      | (go_at_call 14; refine (large02_any tab hei slo pan top bot pa ta ba pc tc bc opn true HD.out _).mono ?_; rintro e w1 ⟨rfl, g1⟩)
      | (go_at_call 15; refine (known_any _).mono ?_; rintro e w2 ⟨rfl, g2⟩))
    go_ret
    exact ⟨rfl, gg.tr (g1.tr g2)⟩
  | false =>
  by_cases hn : 10 < thing.length
  · have k1 : decide ((thing.length : Int) > 10) = true := by simp; omega
    clear hn
    go_enter Try.func7, Try.ntmps7
    go_wp2_with (first
      | (go_at_call 14; refine (large02_any tab hei slo pan top bot pa ta ba pc tc bc opn false HD.out _).mono ?_; rintro e w1 ⟨rfl, g1⟩)
      | (go_at_call 15; refine (known_any _).mono ?_; rintro e w2 ⟨rfl, g2⟩))
    go_ret
    exact ⟨rfl, gg.tr (g1.tr g2)⟩
  have k1 : decide ((thing.length : Int) > 10) = false := by simp; omega
  have hl : pan.length ≤ 10 ∧ top.length ≤ 10 ∧ bot.length ≤ 10 := by
    have h := HD.out
    simp at h
    omega
  have HL := Lib.hid hl
  have HN := Lib.hid hn
  clear hl hn
  go_enter Try.func7, Try.ntmps7
  go_upto_region 4 with (first
    | (go_at_call 14; refine (large02_any tab hei slo pan top bot pa ta ba pc tc bc opn false HD.out _).mono ?_; rintro e w1 ⟨rfl, g1⟩; replace gg := gg.tr g1; replace h1 := h1.keep g1; replace h2 := h2.keep g1; clear b0 b1 b2 b3 b4 b5 b6; obtain ⟨b0, b1, b2, b3, b4, b5, b6⟩ := h1.c7)
    | (go_at_call 16; refine (own02_any tab hei slo pan top bot pa ta ba pc tc bc opn (by have := HL.out.1; omega) (by have := HL.out.2.1; omega) (by have := HL.out.2.2; omega) _ (HP.out.grow gg) (HT.out.grow gg) (HB.out.grow gg)).mono ?_; rintro e w2 ⟨a3, c3, a7, c7, a11, c11, rfl, g2, r3, r7, r11, _, _, _⟩)
    | (go_at_call 34; refine (ints02c_any thing (by have := HN.out; omega) td tcap _ (HTD.out.grow (gg.tr g2))).mono ?_; rintro e w3 ⟨ta', tc', rfl, g3, rt⟩))
  obtain ⟨B, hB⟩ : ∃ B, B = w3.heap.size := ⟨_, rfl⟩
  have ho := Box.new w3 [.int .i64 tab, .slice a3 pan.length c3, .int .i64 hei, .slice a7 top.length c7, .slice a11 bot.length c11, .int .i64 slo, .bool opn] 24 B hB
  have gq := g3.tr (Gr.al w3 (.cells #[.int .i64 tab, .slice a3 pan.length c3, .int .i64 hei, .slice a7 top.length c7, .slice a11 bot.length c11, .int .i64 slo, .bool opn] 24))
  rw [← hB]
  refine wp_abs (fun X => Gr w X ∧ Box X w.heap.size [.int .i64 tab, .slice pa pan.length pc, .int .i64 hei, .slice ta top.length tc, .slice ba bot.length bc, .int .i64 slo, .bool opn] ∧ Box X (w.heap.size + 1) [.int .i64 cl, .int .i64 ch] ∧ Box X B [.int .i64 tab, .slice a3 pan.length c3, .int .i64 hei, .slice a7 top.length c7, .slice a11 bot.length c11, .int .i64 slo, .bool opn] ∧ IRow X a3 pan ∧ IRow X a7 top ∧ IRow X a11 bot ∧ IRow X ta' thing) ⟨gg.tr (g2.tr gq), h1.keep (g2.tr gq), h2.keep (g2.tr gq), ho, r3.grow gq, r7.grow gq, r11.grow gq, rt.grow (Gr.al _ _)⟩ ?_
  clear gg h1 h2 ho r3 r7 r11 rt gq hB b0 b1 b2 b3 b4 b5 b6 g1 g2 g3 HL HN HD k1
  rintro X ⟨gU, h1, h2, ho, r3, r7, r11, rt⟩
  obtain ⟨b0, b1, b2, b3, b4, b5, b6⟩ := h1.c7
  obtain ⟨u0, u1⟩ := h2.c2
  obtain ⟨o0, o1, o2, o3, o4, o5, o6⟩ := ho.c7
  obtain ⟨e1, he1⟩ : ∃ e, checkE tab hei slo pan top bot opn = e := ⟨_, rfl⟩
  obtain ⟨sp, hsp⟩ : ∃ d, okSpan 1 10000 cl ch = d := ⟨_, rfl⟩
  obtain ⟨lg, hlg⟩ : ∃ d, inB 0 3000 thing = d := ⟨_, rfl⟩
  have E1 := Lib.hid he1
  have SP := Lib.hid hsp
  have LG := Lib.hid hlg
  have hE : holdsE e1 cl ch thing = firstE [e1, if sp = true then 0 else 3, if thing.length = 3 then 0 else 4, if lg = true then 0 else 2] := by
    unfold holdsE measE
    simp only [List.all_cons, List.all_nil, okSp, Bool.and_true, hsp, hlg]
  have HE := Lib.hid hE
  clear he1 hsp hlg hE
  by_cases hz1 : e1 = 0
  case neg =>
    have Z1 := Lib.hid hz1
    have q2 : (e1 != 0) = true := by rw [bne_iff_ne]; exact hz1
    have q3 : (e1 == e1) = true := beq_self_eq_true e1
    have HE := Lib.hid (HE.out.trans (show _ = e1 by simp [firstE, hz1]))
    clear hz1
    go_wp2_with (first
      | (go_at_call 35; refine (holds_err tab hei slo pan top bot a3 a7 a11 c3 c7 c11 opn cl ch e1 e1 thing E1.out HE.out Z1.out ta' tc' _ r3 r7 r11 rt).mono ?_; rintro e w4 ⟨rfl, g4⟩; replace gU := gU.tr g4; replace h1 := h1.keep g4; replace h2 := h2.keep g4; replace ho := ho.keep g4; replace r3 := r3.grow g4; replace r7 := r7.grow g4; replace r11 := r11.grow g4; replace rt := rt.grow g4; clear g4 b0 b1 b2 b3 b4 b5 b6 u0 u1 o0 o1 o2 o3 o4 o5 o6; obtain ⟨b0, b1, b2, b3, b4, b5, b6⟩ := h1.c7; obtain ⟨u0, u1⟩ := h2.c2; obtain ⟨o0, o1, o2, o3, o4, o5, o6⟩ := ho.c7)
      | (go_at_call 20; refine (same02_eq tab hei slo pan top bot pa ta ba pc tc bc opn a3 a7 a11 c3 c7 c11 _ (HP.out.grow gU) (HT.out.grow gU) (HB.out.grow gU) r3 r7 r11).mono ?_; rintro e w5 ⟨rfl, g5⟩; replace gU := gU.tr g5; replace h1 := h1.keep g5; replace h2 := h2.keep g5; replace ho := ho.keep g5; replace r3 := r3.grow g5; replace r7 := r7.grow g5; replace r11 := r11.grow g5; replace rt := rt.grow g5; clear g5 b0 b1 b2 b3 b4 b5 b6 u0 u1 o0 o1 o2 o3 o4 o5 o6; obtain ⟨b0, b1, b2, b3, b4, b5, b6⟩ := h1.c7; obtain ⟨u0, u1⟩ := h2.c2; obtain ⟨o0, o1, o2, o3, o4, o5, o6⟩ := ho.c7)
      | (go_at_call 22; refine (ints02_eq thing ta' td tc' tcap _ rt (HTD.out.grow gU)).mono ?_; rintro e w6 ⟨rfl, g6⟩; replace gU := gU.tr g6; replace h1 := h1.keep g6; replace h2 := h2.keep g6; replace ho := ho.keep g6; replace r3 := r3.grow g6; replace r7 := r7.grow g6; replace r11 := r11.grow g6; replace rt := rt.grow g6; clear g6 b0 b1 b2 b3 b4 b5 b6 u0 u1 o0 o1 o2 o3 o4 o5 o6; obtain ⟨b0, b1, b2, b3, b4, b5, b6⟩ := h1.c7; obtain ⟨u0, u1⟩ := h2.c2; obtain ⟨o0, o1, o2, o3, o4, o5, o6⟩ := ho.c7)
      | (go_at_call 21; refine (refCheck_eq tab hei slo pan top bot pa ta ba pc tc bc opn _ E1.out _ (HP.out.grow gU) (HT.out.grow gU) (HB.out.grow gU)).mono ?_; rintro e w7 ⟨rfl, g7⟩; replace gU := gU.tr g7; replace h1 := h1.keep g7; replace h2 := h2.keep g7; replace ho := ho.keep g7; replace r3 := r3.grow g7; replace r7 := r7.grow g7; replace r11 := r11.grow g7; replace rt := rt.grow g7; clear g7 b0 b1 b2 b3 b4 b5 b6 u0 u1 o0 o1 o2 o3 o4 o5 o6; obtain ⟨b0, b1, b2, b3, b4, b5, b6⟩ := h1.c7; obtain ⟨u0, u1⟩ := h2.c2; obtain ⟨o0, o1, o2, o3, o4, o5, o6⟩ := ho.c7)
      | (go_at_call 15; refine (known_any _).mono ?_; rintro e w10 ⟨rfl, g10⟩))
    go_ret
    exact ⟨rfl, gU.tr g10⟩
  subst hz1
  cases sp with
  | false =>
    have HE := Lib.hid (HE.out.trans (show _ = (3 : Int) by simp [firstE]))
    go_wp2_with (first
      | (go_at_call 35; refine (holds_err tab hei slo pan top bot a3 a7 a11 c3 c7 c11 opn cl ch 0 3 thing E1.out HE.out (by decide) ta' tc' _ r3 r7 r11 rt).mono ?_; rintro e w4 ⟨rfl, g4⟩; replace gU := gU.tr g4; replace h1 := h1.keep g4; replace h2 := h2.keep g4; replace ho := ho.keep g4; replace r3 := r3.grow g4; replace r7 := r7.grow g4; replace r11 := r11.grow g4; replace rt := rt.grow g4; clear g4 b0 b1 b2 b3 b4 b5 b6 u0 u1 o0 o1 o2 o3 o4 o5 o6; obtain ⟨b0, b1, b2, b3, b4, b5, b6⟩ := h1.c7; obtain ⟨u0, u1⟩ := h2.c2; obtain ⟨o0, o1, o2, o3, o4, o5, o6⟩ := ho.c7)
      | (go_at_call 20; refine (same02_eq tab hei slo pan top bot pa ta ba pc tc bc opn a3 a7 a11 c3 c7 c11 _ (HP.out.grow gU) (HT.out.grow gU) (HB.out.grow gU) r3 r7 r11).mono ?_; rintro e w5 ⟨rfl, g5⟩; replace gU := gU.tr g5; replace h1 := h1.keep g5; replace h2 := h2.keep g5; replace ho := ho.keep g5; replace r3 := r3.grow g5; replace r7 := r7.grow g5; replace r11 := r11.grow g5; replace rt := rt.grow g5; clear g5 b0 b1 b2 b3 b4 b5 b6 u0 u1 o0 o1 o2 o3 o4 o5 o6; obtain ⟨b0, b1, b2, b3, b4, b5, b6⟩ := h1.c7; obtain ⟨u0, u1⟩ := h2.c2; obtain ⟨o0, o1, o2, o3, o4, o5, o6⟩ := ho.c7)
      | (go_at_call 22; refine (ints02_eq thing ta' td tc' tcap _ rt (HTD.out.grow gU)).mono ?_; rintro e w6 ⟨rfl, g6⟩; replace gU := gU.tr g6; replace h1 := h1.keep g6; replace h2 := h2.keep g6; replace ho := ho.keep g6; replace r3 := r3.grow g6; replace r7 := r7.grow g6; replace r11 := r11.grow g6; replace rt := rt.grow g6; clear g6 b0 b1 b2 b3 b4 b5 b6 u0 u1 o0 o1 o2 o3 o4 o5 o6; obtain ⟨b0, b1, b2, b3, b4, b5, b6⟩ := h1.c7; obtain ⟨u0, u1⟩ := h2.c2; obtain ⟨o0, o1, o2, o3, o4, o5, o6⟩ := ho.c7)
      | (go_at_call 21; refine (refCheck_eq tab hei slo pan top bot pa ta ba pc tc bc opn _ E1.out _ (HP.out.grow gU) (HT.out.grow gU) (HB.out.grow gU)).mono ?_; rintro e w7 ⟨rfl, g7⟩; replace gU := gU.tr g7; replace h1 := h1.keep g7; replace h2 := h2.keep g7; replace ho := ho.keep g7; replace r3 := r3.grow g7; replace r7 := r7.grow g7; replace r11 := r11.grow g7; replace rt := rt.grow g7; clear g7 b0 b1 b2 b3 b4 b5 b6 u0 u1 o0 o1 o2 o3 o4 o5 o6; obtain ⟨b0, b1, b2, b3, b4, b5, b6⟩ := h1.c7; obtain ⟨u0, u1⟩ := h2.c2; obtain ⟨o0, o1, o2, o3, o4, o5, o6⟩ := ho.c7)
      | (go_at_call 24; refine (refSpan02_any cl ch 1 10000 _ SP.out _).mono ?_; rintro e w8 ⟨rfl, g8⟩; replace gU := gU.tr g8; replace h1 := h1.keep g8; replace h2 := h2.keep g8; replace ho := ho.keep g8; replace r3 := r3.grow g8; replace r7 := r7.grow g8; replace r11 := r11.grow g8; replace rt := rt.grow g8; clear g8 b0 b1 b2 b3 b4 b5 b6 u0 u1 o0 o1 o2 o3 o4 o5 o6; obtain ⟨b0, b1, b2, b3, b4, b5, b6⟩ := h1.c7; obtain ⟨u0, u1⟩ := h2.c2; obtain ⟨o0, o1, o2, o3, o4, o5, o6⟩ := ho.c7)
      | (go_at_call 15; refine (known_any _).mono ?_; rintro e w10 ⟨rfl, g10⟩))
    go_ret
    exact ⟨rfl, gU.tr g10⟩
  | true =>
  by_cases hl3 : thing.length = 3
  case neg =>
    have HE := Lib.hid (HE.out.trans (show _ = (4 : Int) by simp [firstE, hl3]))
    have ql : ((thing.length : Int) != 3) = true := by rw [bne_iff_ne]; omega
    clear hl3
    go_wp2_with (first
      | (go_at_call 35; refine (holds_err tab hei slo pan top bot a3 a7 a11 c3 c7 c11 opn cl ch 0 4 thing E1.out HE.out (by decide) ta' tc' _ r3 r7 r11 rt).mono ?_; rintro e w4 ⟨rfl, g4⟩; replace gU := gU.tr g4; replace h1 := h1.keep g4; replace h2 := h2.keep g4; replace ho := ho.keep g4; replace r3 := r3.grow g4; replace r7 := r7.grow g4; replace r11 := r11.grow g4; replace rt := rt.grow g4; clear g4 b0 b1 b2 b3 b4 b5 b6 u0 u1 o0 o1 o2 o3 o4 o5 o6; obtain ⟨b0, b1, b2, b3, b4, b5, b6⟩ := h1.c7; obtain ⟨u0, u1⟩ := h2.c2; obtain ⟨o0, o1, o2, o3, o4, o5, o6⟩ := ho.c7)
      | (go_at_call 20; refine (same02_eq tab hei slo pan top bot pa ta ba pc tc bc opn a3 a7 a11 c3 c7 c11 _ (HP.out.grow gU) (HT.out.grow gU) (HB.out.grow gU) r3 r7 r11).mono ?_; rintro e w5 ⟨rfl, g5⟩; replace gU := gU.tr g5; replace h1 := h1.keep g5; replace h2 := h2.keep g5; replace ho := ho.keep g5; replace r3 := r3.grow g5; replace r7 := r7.grow g5; replace r11 := r11.grow g5; replace rt := rt.grow g5; clear g5 b0 b1 b2 b3 b4 b5 b6 u0 u1 o0 o1 o2 o3 o4 o5 o6; obtain ⟨b0, b1, b2, b3, b4, b5, b6⟩ := h1.c7; obtain ⟨u0, u1⟩ := h2.c2; obtain ⟨o0, o1, o2, o3, o4, o5, o6⟩ := ho.c7)
      | (go_at_call 22; refine (ints02_eq thing ta' td tc' tcap _ rt (HTD.out.grow gU)).mono ?_; rintro e w6 ⟨rfl, g6⟩; replace gU := gU.tr g6; replace h1 := h1.keep g6; replace h2 := h2.keep g6; replace ho := ho.keep g6; replace r3 := r3.grow g6; replace r7 := r7.grow g6; replace r11 := r11.grow g6; replace rt := rt.grow g6; clear g6 b0 b1 b2 b3 b4 b5 b6 u0 u1 o0 o1 o2 o3 o4 o5 o6; obtain ⟨b0, b1, b2, b3, b4, b5, b6⟩ := h1.c7; obtain ⟨u0, u1⟩ := h2.c2; obtain ⟨o0, o1, o2, o3, o4, o5, o6⟩ := ho.c7)
      | (go_at_call 21; refine (refCheck_eq tab hei slo pan top bot pa ta ba pc tc bc opn _ E1.out _ (HP.out.grow gU) (HT.out.grow gU) (HB.out.grow gU)).mono ?_; rintro e w7 ⟨rfl, g7⟩; replace gU := gU.tr g7; replace h1 := h1.keep g7; replace h2 := h2.keep g7; replace ho := ho.keep g7; replace r3 := r3.grow g7; replace r7 := r7.grow g7; replace r11 := r11.grow g7; replace rt := rt.grow g7; clear g7 b0 b1 b2 b3 b4 b5 b6 u0 u1 o0 o1 o2 o3 o4 o5 o6; obtain ⟨b0, b1, b2, b3, b4, b5, b6⟩ := h1.c7; obtain ⟨u0, u1⟩ := h2.c2; obtain ⟨o0, o1, o2, o3, o4, o5, o6⟩ := ho.c7)
      | (go_at_call 24; refine (refSpan02_any cl ch 1 10000 _ SP.out _).mono ?_; rintro e w8 ⟨rfl, g8⟩; replace gU := gU.tr g8; replace h1 := h1.keep g8; replace h2 := h2.keep g8; replace ho := ho.keep g8; replace r3 := r3.grow g8; replace r7 := r7.grow g8; replace r11 := r11.grow g8; replace rt := rt.grow g8; clear g8 b0 b1 b2 b3 b4 b5 b6 u0 u1 o0 o1 o2 o3 o4 o5 o6; obtain ⟨b0, b1, b2, b3, b4, b5, b6⟩ := h1.c7; obtain ⟨u0, u1⟩ := h2.c2; obtain ⟨o0, o1, o2, o3, o4, o5, o6⟩ := ho.c7)
      | (go_at_call 15; refine (known_any _).mono ?_; rintro e w10 ⟨rfl, g10⟩))
    go_ret
    exact ⟨rfl, gU.tr g10⟩
  have HL3 := Lib.hid hl3
  have ql : ((thing.length : Int) != 3) = false := by rw [hl3]; rfl
  clear hl3
  cases lg with
  | false =>
    have HE := Lib.hid (HE.out.trans (show _ = (2 : Int) by simp [firstE, HL3.out]))
    go_wp2_with (first
      | (go_at_call 35; refine (holds_err tab hei slo pan top bot a3 a7 a11 c3 c7 c11 opn cl ch 0 2 thing E1.out HE.out (by decide) ta' tc' _ r3 r7 r11 rt).mono ?_; rintro e w4 ⟨rfl, g4⟩; replace gU := gU.tr g4; replace h1 := h1.keep g4; replace h2 := h2.keep g4; replace ho := ho.keep g4; replace r3 := r3.grow g4; replace r7 := r7.grow g4; replace r11 := r11.grow g4; replace rt := rt.grow g4; clear g4 b0 b1 b2 b3 b4 b5 b6 u0 u1 o0 o1 o2 o3 o4 o5 o6; obtain ⟨b0, b1, b2, b3, b4, b5, b6⟩ := h1.c7; obtain ⟨u0, u1⟩ := h2.c2; obtain ⟨o0, o1, o2, o3, o4, o5, o6⟩ := ho.c7)
      | (go_at_call 20; refine (same02_eq tab hei slo pan top bot pa ta ba pc tc bc opn a3 a7 a11 c3 c7 c11 _ (HP.out.grow gU) (HT.out.grow gU) (HB.out.grow gU) r3 r7 r11).mono ?_; rintro e w5 ⟨rfl, g5⟩; replace gU := gU.tr g5; replace h1 := h1.keep g5; replace h2 := h2.keep g5; replace ho := ho.keep g5; replace r3 := r3.grow g5; replace r7 := r7.grow g5; replace r11 := r11.grow g5; replace rt := rt.grow g5; clear g5 b0 b1 b2 b3 b4 b5 b6 u0 u1 o0 o1 o2 o3 o4 o5 o6; obtain ⟨b0, b1, b2, b3, b4, b5, b6⟩ := h1.c7; obtain ⟨u0, u1⟩ := h2.c2; obtain ⟨o0, o1, o2, o3, o4, o5, o6⟩ := ho.c7)
      | (go_at_call 22; refine (ints02_eq thing ta' td tc' tcap _ rt (HTD.out.grow gU)).mono ?_; rintro e w6 ⟨rfl, g6⟩; replace gU := gU.tr g6; replace h1 := h1.keep g6; replace h2 := h2.keep g6; replace ho := ho.keep g6; replace r3 := r3.grow g6; replace r7 := r7.grow g6; replace r11 := r11.grow g6; replace rt := rt.grow g6; clear g6 b0 b1 b2 b3 b4 b5 b6 u0 u1 o0 o1 o2 o3 o4 o5 o6; obtain ⟨b0, b1, b2, b3, b4, b5, b6⟩ := h1.c7; obtain ⟨u0, u1⟩ := h2.c2; obtain ⟨o0, o1, o2, o3, o4, o5, o6⟩ := ho.c7)
      | (go_at_call 21; refine (refCheck_eq tab hei slo pan top bot pa ta ba pc tc bc opn _ E1.out _ (HP.out.grow gU) (HT.out.grow gU) (HB.out.grow gU)).mono ?_; rintro e w7 ⟨rfl, g7⟩; replace gU := gU.tr g7; replace h1 := h1.keep g7; replace h2 := h2.keep g7; replace ho := ho.keep g7; replace r3 := r3.grow g7; replace r7 := r7.grow g7; replace r11 := r11.grow g7; replace rt := rt.grow g7; clear g7 b0 b1 b2 b3 b4 b5 b6 u0 u1 o0 o1 o2 o3 o4 o5 o6; obtain ⟨b0, b1, b2, b3, b4, b5, b6⟩ := h1.c7; obtain ⟨u0, u1⟩ := h2.c2; obtain ⟨o0, o1, o2, o3, o4, o5, o6⟩ := ho.c7)
      | (go_at_call 24; refine (refSpan02_any cl ch 1 10000 _ SP.out _).mono ?_; rintro e w8 ⟨rfl, g8⟩; replace gU := gU.tr g8; replace h1 := h1.keep g8; replace h2 := h2.keep g8; replace ho := ho.keep g8; replace r3 := r3.grow g8; replace r7 := r7.grow g8; replace r11 := r11.grow g8; replace rt := rt.grow g8; clear g8 b0 b1 b2 b3 b4 b5 b6 u0 u1 o0 o1 o2 o3 o4 o5 o6; obtain ⟨b0, b1, b2, b3, b4, b5, b6⟩ := h1.c7; obtain ⟨u0, u1⟩ := h2.c2; obtain ⟨o0, o1, o2, o3, o4, o5, o6⟩ := ho.c7)
      | (go_at_call 36; refine (refLong02_any 0 thing _ LG.out td tcap _ (HTD.out.grow gU)).mono ?_; rintro e w9 ⟨rfl, g9⟩; replace gU := gU.tr g9; replace h1 := h1.keep g9; replace h2 := h2.keep g9; replace ho := ho.keep g9; replace r3 := r3.grow g9; replace r7 := r7.grow g9; replace r11 := r11.grow g9; replace rt := rt.grow g9; clear g9 b0 b1 b2 b3 b4 b5 b6 u0 u1 o0 o1 o2 o3 o4 o5 o6; obtain ⟨b0, b1, b2, b3, b4, b5, b6⟩ := h1.c7; obtain ⟨u0, u1⟩ := h2.c2; obtain ⟨o0, o1, o2, o3, o4, o5, o6⟩ := ho.c7)
      | (go_at_call 15; refine (known_any _).mono ?_; rintro e w10 ⟨rfl, g10⟩))
    go_ret
    exact ⟨rfl, gU.tr g10⟩
  | true =>
  have G := Lib.hid (good_of E1.out)
  obtain ⟨cc0, cc1, cc2, cc3⟩ := okSpan_four SP.out
  have hle : cl ≤ ch := by
    have h := SP.out
    simp only [okSpan, Bool.and_eq_true, decide_eq_true_eq] at h
    exact h.2
  obtain ⟨f, hf⟩ : ∃ f : Int → Bool, f = fun c => fitsL thing (fitsBox 0 hei pan top bot opn c) := ⟨_, rfl⟩
  have HF := Lib.hid (fun (c c' : Int) (h : c ≤ c') (k : f c' = true) => show f c = true by
    rw [hf] at k ⊢
    exact fits_down HL3.out h k)
  have HC := Lib.hid (fun (v : World) (k3 : IRow v a3 pan) (k7 : IRow v a7 top) (k11 : IRow v a11 bot) (kt : IRow v ta' thing) => holds_ok tab hei slo pan top bot a3 a7 a11 c3 c7 c11 opn cl ch thing G.out SP.out HL3.out LG.out ta' tc' v k3 k7 k11 kt)
  have HI := Lib.hid (fun (c : Int) (k0 : 0 ≤ c) (k1 : c ≤ 10000) (v : World) (kp : IRow v pa pan) (kt : IRow v td thing) => inside_fits tab hei slo pan top bot pa ta ba pc tc bc opn G.out c thing HL3.out LG.out k0 k1 td tcap v kp kt)
  have HC := Lib.hid (fun (v : World) (k3 : IRow v a3 pan) (k7 : IRow v a7 top) (k11 : IRow v a11 bot) (kt : IRow v ta' thing) => show Calls Try.prog 35 #[.agg #[.int .i64 tab, .slice a3 pan.length c3, .int .i64 hei, .slice a7 top.length c7, .slice a11 bot.length c11, .int .i64 slo, .bool opn], .agg #[.int .i64 cl, .int .i64 ch], .slice ta' thing.length tc'] v (fun e w' => e = .returned (.tuple #[.bool (f ch), .bool (f cl), .int .i64 0]) ∧ Gr v w') from by
    have h := HC.out v k3 k7 k11 kt
    rw [hf]
    exact h)
  have HI := Lib.hid (fun (c : Int) (k0 : 0 ≤ c) (k1 : c ≤ 10000) (v : World) (kp : IRow v pa pan) (kt : IRow v td thing) => show Calls Try.prog 37 #[.agg #[.int .i64 tab, .slice pa pan.length pc, .int .i64 hei, .slice ta top.length tc, .slice ba bot.length bc, .int .i64 slo, .bool opn], .int .i64 c, .slice td thing.length tcap] v (fun e w' => e = .returned (.bool (f c)) ∧ Gr v w') from by
    have h := HI.out c k0 k1 v kp kt
    rw [hf]
    exact h)
  obtain ⟨fh, hfh⟩ : ∃ b, f ch = b := ⟨_, rfl⟩
  obtain ⟨fl, hfl⟩ : ∃ b, f cl = b := ⟨_, rfl⟩
  rw [hfh, hfl] at HC
  have HFH := Lib.hid hfh
  have HFL := Lib.hid hfl
  clear hf hfh hfl HE
  go_wp2_with (first
    | (go_at_call 35; refine (HC.out _ r3 r7 r11 rt).mono ?_; rintro e w4 ⟨rfl, g4⟩; replace gU := gU.tr g4; replace h1 := h1.keep g4; replace h2 := h2.keep g4; replace ho := ho.keep g4; replace r3 := r3.grow g4; replace r7 := r7.grow g4; replace r11 := r11.grow g4; replace rt := rt.grow g4; clear g4 b0 b1 b2 b3 b4 b5 b6 u0 u1 o0 o1 o2 o3 o4 o5 o6; obtain ⟨b0, b1, b2, b3, b4, b5, b6⟩ := h1.c7; obtain ⟨u0, u1⟩ := h2.c2; obtain ⟨o0, o1, o2, o3, o4, o5, o6⟩ := ho.c7)
    | (go_at_call 20; refine (same02_eq tab hei slo pan top bot pa ta ba pc tc bc opn a3 a7 a11 c3 c7 c11 _ (HP.out.grow gU) (HT.out.grow gU) (HB.out.grow gU) r3 r7 r11).mono ?_; rintro e w5 ⟨rfl, g5⟩; replace gU := gU.tr g5; replace h1 := h1.keep g5; replace h2 := h2.keep g5; replace ho := ho.keep g5; replace r3 := r3.grow g5; replace r7 := r7.grow g5; replace r11 := r11.grow g5; replace rt := rt.grow g5; clear g5 b0 b1 b2 b3 b4 b5 b6 u0 u1 o0 o1 o2 o3 o4 o5 o6; obtain ⟨b0, b1, b2, b3, b4, b5, b6⟩ := h1.c7; obtain ⟨u0, u1⟩ := h2.c2; obtain ⟨o0, o1, o2, o3, o4, o5, o6⟩ := ho.c7)
    | (go_at_call 22; refine (ints02_eq thing ta' td tc' tcap _ rt (HTD.out.grow gU)).mono ?_; rintro e w6 ⟨rfl, g6⟩; replace gU := gU.tr g6; replace h1 := h1.keep g6; replace h2 := h2.keep g6; replace ho := ho.keep g6; replace r3 := r3.grow g6; replace r7 := r7.grow g6; replace r11 := r11.grow g6; replace rt := rt.grow g6; clear g6 b0 b1 b2 b3 b4 b5 b6 u0 u1 o0 o1 o2 o3 o4 o5 o6; obtain ⟨b0, b1, b2, b3, b4, b5, b6⟩ := h1.c7; obtain ⟨u0, u1⟩ := h2.c2; obtain ⟨o0, o1, o2, o3, o4, o5, o6⟩ := ho.c7)
    | (go_at_call 21; refine (refCheck_eq tab hei slo pan top bot pa ta ba pc tc bc opn _ E1.out _ (HP.out.grow gU) (HT.out.grow gU) (HB.out.grow gU)).mono ?_; rintro e w7 ⟨rfl, g7⟩; replace gU := gU.tr g7; replace h1 := h1.keep g7; replace h2 := h2.keep g7; replace ho := ho.keep g7; replace r3 := r3.grow g7; replace r7 := r7.grow g7; replace r11 := r11.grow g7; replace rt := rt.grow g7; clear g7 b0 b1 b2 b3 b4 b5 b6 u0 u1 o0 o1 o2 o3 o4 o5 o6; obtain ⟨b0, b1, b2, b3, b4, b5, b6⟩ := h1.c7; obtain ⟨u0, u1⟩ := h2.c2; obtain ⟨o0, o1, o2, o3, o4, o5, o6⟩ := ho.c7)
    | (go_at_call 24; refine (refSpan02_any cl ch 1 10000 _ SP.out _).mono ?_; rintro e w8 ⟨rfl, g8⟩; replace gU := gU.tr g8; replace h1 := h1.keep g8; replace h2 := h2.keep g8; replace ho := ho.keep g8; replace r3 := r3.grow g8; replace r7 := r7.grow g8; replace r11 := r11.grow g8; replace rt := rt.grow g8; clear g8 b0 b1 b2 b3 b4 b5 b6 u0 u1 o0 o1 o2 o3 o4 o5 o6; obtain ⟨b0, b1, b2, b3, b4, b5, b6⟩ := h1.c7; obtain ⟨u0, u1⟩ := h2.c2; obtain ⟨o0, o1, o2, o3, o4, o5, o6⟩ := ho.c7)
    | (go_at_call 36; refine (refLong02_any 0 thing _ LG.out td tcap _ (HTD.out.grow gU)).mono ?_; rintro e w9 ⟨rfl, g9⟩; replace gU := gU.tr g9; replace h1 := h1.keep g9; replace h2 := h2.keep g9; replace ho := ho.keep g9; replace r3 := r3.grow g9; replace r7 := r7.grow g9; replace r11 := r11.grow g9; replace rt := rt.grow g9; clear g9 b0 b1 b2 b3 b4 b5 b6 u0 u1 o0 o1 o2 o3 o4 o5 o6; obtain ⟨b0, b1, b2, b3, b4, b5, b6⟩ := h1.c7; obtain ⟨u0, u1⟩ := h2.c2; obtain ⟨o0, o1, o2, o3, o4, o5, o6⟩ := ho.c7))
  go_loopw [13, 14, 15] (fun x y z wr => Hid (∃ (c : Int) (a s : Bool), z = .int .i64 c ∧ cl ≤ c ∧ c ≤ ch + 1 ∧ x = .bool a ∧ y = .bool s ∧ allTo f cl c = a ∧ someTo f cl c = s ∧ Gr w9 wr)) (fun x y z wr => (ch + 1 - intOf z).toNat)
  case atStart => exact Lib.hid ⟨cl, true, false, rfl, by omega, by omega, rfl, rfl, by simp [allTo], by simp [someTo], Below.refl _ _⟩
  case round =>
    obtain ⟨c, a, s, rfl, y0, y1, rfl, rfl, ha, hs, gL⟩ := hrel.out
    clear hrel
    have gR := gL
    replace gU := gU.tr gR
    replace h1 := h1.keep gR
    replace h2 := h2.keep gR
    replace ho := ho.keep gR
    replace r3 := r3.grow gR
    replace r7 := r7.grow gR
    replace r11 := r11.grow gR
    replace rt := rt.grow gR
    clear gR b0 b1 b2 b3 b4 b5 b6 u0 u1 o0 o1 o2 o3 o4 o5 o6
    obtain ⟨b0, b1, b2, b3, b4, b5, b6⟩ := h1.c7
    obtain ⟨u0, u1⟩ := h2.c2
    obtain ⟨o0, o1, o2, o3, o4, o5, o6⟩ := ho.c7
    by_cases hlt : c ≤ ch
    case neg =>
      obtain rfl : c = ch + 1 := by omega
      obtain rfl : a = fh := by rw [← ha, ← HFH.out, allTo_end hle]
      obtain rfl : s = fl := by rw [← hs, ← HFL.out, someTo_end hle]
      have qa : (a == a) = true := beq_self_eq_true a
      have qs : (s == s) = true := beq_self_eq_true s
      clear ha hs
      go_wp2_with (first | (go_at_call 15; refine (known_any _).mono ?_; rintro e w10 ⟨rfl, g10⟩))
      go_ret
      exact ⟨rfl, gU.tr g10⟩
    obtain ⟨fc, hfc⟩ : ∃ b, f c = b := ⟨_, rfl⟩
    have HFC := Lib.hid hfc
    have HA := Lib.hid (show allTo f cl (c + 1) = (a && fc) by rw [allTo_succ y0 (fun _ h => HF.out _ _ (by omega) h), ha, hfc])
    have HS := Lib.hid (show someTo f cl (c + 1) = (s || fc) by rw [someTo_succ y0 (fun h => HF.out _ _ y0 h), hs, hfc])
    clear ha hs hfc
    go_upto_region 22 with (go_at_call 37; refine (HI.out c (by omega) (by omega) _ (HP.out.grow gU) (HTD.out.grow gU)).mono ?_; rintro e w11 ⟨rfl, g11⟩; rw [HFC.out]; replace gL := gL.tr g11; replace gU := gU.tr g11; replace h1 := h1.keep g11; replace h2 := h2.keep g11; replace ho := ho.keep g11; replace r3 := r3.grow g11; replace r7 := r7.grow g11; replace r11 := r11.grow g11; replace rt := rt.grow g11; clear g11 b0 b1 b2 b3 b4 b5 b6 u0 u1 o0 o1 o2 o3 o4 o5 o6; obtain ⟨b0, b1, b2, b3, b4, b5, b6⟩ := h1.c7; obtain ⟨u0, u1⟩ := h2.c2; obtain ⟨o0, o1, o2, o3, o4, o5, o6⟩ := ho.c7)
    cases a <;> cases s <;> cases fc
    all_goals
      go_wp2
      go_roundw
      case rel => exact Lib.hid ⟨c + 1, _, _, rfl, by omega, by omega, rfl, rfl, HA.out, HS.out, gL⟩
      case measure => simp [intOf]; omega

end Go.Proofs.Ytafkoococfnakaa

namespace Go.Proofs.Ytafkoococfnakaa
set_option linter.unusedVariables false
set_option linter.unusedSimpArgs false
open Go.RowKit Go.ChangeShapes

section
variable {H : Type} {enc : TypeId × Value → H} {P : Program} {W W' : World}

theorem trodAll_stays (hl : laidOutB P = true) (g : Gr W W') {sp : Nat → Bool} : ∀ (ts : List TypeId) (vs : List Value) (ds : List (DataW H)) (ps : List MemPlace), (∀ t ∈ ts, P.readableRec t = true ∧ t < P.types.size) →
    DataW.TrodAll enc P W 0 (fun _ => true) true ts vs ds ps → (∀ p ∈ ps, p.block < W.heap.size) → (∀ p ∈ ps, sp p.block = true) → DataW.TrodAll enc P W' 0 sp true ts vs ds ps
  | [], [], [], _, _, h, _, _ => h
  | t :: ts, v :: vs, d :: ds, ps, ht, h, hlt, hsp => by
    obtain ⟨p, q, h1, h2, rfl⟩ := h
    exact ⟨p, q, WideElems.Trod_stays hl (ht t (by simp)).1 (ht t (by simp)).2 h1 (fun x hx => g.same (hlt x (by simp [hx]))) (fun x hx => hsp x (by simp [hx])),
      trodAll_stays hl g ts vs ds q (fun u hu => ht u (by simp [hu])) h2 (fun x hx => hlt x (by simp [hx])) (fun x hx => hsp x (by simp [hx])), rfl⟩

/-- A law that returned true in a world that only grew, its arguments as they were. -/
theorem law_true {f : Func} {s : ChangeSpec} {bt : TypeId} {args : Array Value} {ds : List (DataW H)} {p : List MemPlace}
    (hl : laidOutB P = true) (hpt : ∀ t ∈ f.params.toList, P.readableRec t = true ∧ t < P.types.size) (hbt : P.underlying bt = some .bool) (hrt : f.resultTypes = #[bt]) (hsv : s.vars = [])
    (hs : s.fn H ds = { results := [.lit (.bool true)], args := ds })
    (hW : DataW.Whole enc P f.params.toList s.vars false W args.toList ds [] p) (g : Gr W W') :
    s.post enc P f false true false false W args (.bool true) W' := by
  have hW0 := hW
  obtain ⟨pa, pv, hA, hV, hp, hfz, hnd⟩ := hW0
  rw [hsv] at hV
  have hpv : pv = [] := hV
  subst hpv
  rw [List.append_nil] at hp
  subst hp
  have hold : ∀ x ∈ p, x.block < W.heap.size := fun x hx => hW.lt x hx
  have hargs : ∀ sp : Nat → Bool, (∀ x ∈ p, sp x.block = true) → DataW.TrodAll enc P W' 0 sp true f.params.toList args.toList ds p := fun sp hsp => trodAll_stays hl g _ _ _ _ hpt hA hold hsp
  have hres : ∀ (b : Nat) (sp : Nat → Bool) (hd : Bool), DataW.TrodAll enc P W' b sp hd f.resultTypes.toList ((Value.bool true).resultList f.resultTypes.size) [.lit (.bool true)] [] := fun b sp hd => by
    rw [hrt]
    exact trodAll_cons_mk (shut_bool hbt _) trodAll_mk0
  have hok : ∀ (j : Nat) (t : TypeId) (r : Value), f.resultTypes[j]? = some t → ((Value.bool true).resultList f.resultTypes.size)[j]? = some r → Value.okWide P W' .any 0 t r := ok_one hrt rfl (okWide_bool_mk hbt _)
  have es : s.fn H (ds ++ []) = { results := [.lit (.bool true)], args := ds } := by rw [List.append_nil]; exact hs
  have hsp0 : ∀ x ∈ p, (fun b => decide (b < W.heap.size)) x.block = true := fun x hx => by simpa using hold x hx
  refine ⟨ds, [], p, [], p, [], hW, ?_, ?_, ?_, World.keptBut_mono (fun x hx => hx.elim) (g.frame (fun _ => False)), fun _ => ?_⟩
  · rw [es]; exact hres _ _ _
  · rw [es]; exact hargs _ hsp0
  · rw [es, hsv]; rfl
  · refine ⟨hok, [.lit (.bool true)] ++ ds, [], ([] ++ p) ++ [], ⟨[] ++ p, [], trodAll_append (hargs (fun _ => true) (fun _ _ => rfl)) (hres _ _ _), ?_, rfl, ?_, ?_⟩, ?_⟩
    · rw [hsv]; rfl
    · intro b off hx
      have hx' : MemPlace.cell b off ∈ p := by simpa using hx
      have hb : b < W.heap.size := hold _ hx'
      rw [g.frozen (p := ⟨b, off, none⟩) hb]
      exact hfz b off hx'
    · intro ha
      cases ha
    · intro x hx _
      simpa using hx

/-- Made of integers of kind k alone, cell by cell: by looking. -/
def allK (P : Program) (k : IntKind) : Nat → TypeId → Bool
  | 0, _ => false
  | f + 1, t => match P.underlying t with
    | some (.int k') => decide (k' = k) && decide (P.cellsOf t = 1)
    | some (.struct fs) => fs.toList.all (fun x => allK P k f x.type) && (List.range (P.cellsOf t)).all fun i => fs.toList.any fun x => decide (x.offset ≤ i) && decide (i < x.offset + P.cellsOf x.type)
    | some (.array n e) => allK P k f e && (List.range (P.cellsOf t)).all fun i => (List.range n).any fun j => decide (j * P.cellsOf e ≤ i) && decide (i < j * P.cellsOf e + P.cellsOf e)
    | _ => false

theorem piece {cs : List Value} {o n i : Nat} (h1 : o ≤ i) (h2 : i < o + n) : ((cs.drop o).take n)[i - o]? = cs[i]? := by
  rw [List.getElem?_take_of_lt (by omega), List.getElem?_drop, show o + (i - o) = i by omega]

theorem mapM_at {α β : Type} {f : α → Option β} : ∀ (l : List α) (ys : List β), l.mapM f = some ys → ∀ a ∈ l, ∃ y, f a = some y
  | [], _, _, a, ha => by cases ha
  | b :: l, ys, h, a, ha => by
    rw [List.mapM_cons] at h
    cases h1 : f b with
    | none => simp [h1] at h
    | some y =>
      cases h2 : l.mapM f with
      | none => simp [h1, h2] at h
      | some zs =>
        rcases List.mem_cons.1 ha with rfl | ha
        · exact ⟨y, h1⟩
        · exact mapM_at l zs h2 a ha

theorem int_open {k : IntKind} {base : Nat} {sp : Nat → Bool} {held : Bool} {t : TypeId} (hu : P.underlying t = some (.int k)) {fuel : Nat} {cs : List Value} {x : DataW H × List MemPlace} (hx : DataW.trod enc P W base sp held fuel t cs = some x) :
    ∃ n, cs = [.int k n] ∧ (Lit.int k n).wf = true := by
  obtain ⟨n, e, _, hw⟩ := DataW.trod_int hu hx
  exact ⟨n, e, hw⟩

theorem allK_open {k : IntKind} {base : Nat} {sp : Nat → Bool} {held : Bool} : ∀ (f : Nat) (t : TypeId), allK P k f t = true → ∀ (fuel : Nat) (cs : List Value) (x : DataW H × List MemPlace), DataW.trod enc P W base sp held fuel t cs = some x →
    cs.length = P.cellsOf t ∧ ∀ i, i < cs.length → ∃ n, cs[i]? = some (.int k n) ∧ (Lit.int k n).wf = true
  | 0, _, h, _, _, _, _ => by simp [allK] at h
  | f + 1, t, h, 0, cs, x, hx => by simp [DataW.trod] at hx
  | f + 1, t, h, fuel + 1, cs, x, hx => by
    unfold allK at h
    split at h
    · rename_i k' hu
      simp only [Bool.and_eq_true, decide_eq_true_eq] at h
      obtain ⟨rfl, hc⟩ := h
      obtain ⟨n, rfl, hw⟩ := int_open hu hx
      refine ⟨by rw [hc]; rfl, fun i hi => ?_⟩
      obtain rfl : i = 0 := by simpa using hi
      exact ⟨n, rfl, hw⟩
    · rename_i fs hu
      simp only [Bool.and_eq_true] at h
      obtain ⟨ha, hcov⟩ := h
      unfold DataW.trod at hx
      rw [hu] at hx
      simp only at hx
      split at hx
      case isFalse => cases hx
      rename_i hl
      refine ⟨hl, fun i hi => ?_⟩
      obtain ⟨xs, hxs, _⟩ := Option.map_eq_some_iff.1 hx
      have hci := List.all_eq_true.1 hcov i (by simp; omega)
      obtain ⟨fd, hfd, hin⟩ := List.any_eq_true.1 hci
      simp only [Bool.and_eq_true, decide_eq_true_eq] at hin
      obtain ⟨y, hy⟩ := mapM_at _ _ hxs fd hfd
      obtain ⟨hl', hat⟩ := allK_open f fd.type (List.all_eq_true.1 ha fd hfd) fuel _ y hy
      obtain ⟨n, hn, hw⟩ := hat (i - fd.offset) (by rw [hl']; omega)
      rw [piece hin.1 hin.2] at hn
      exact ⟨n, hn, hw⟩
    · rename_i m e hu
      simp only [Bool.and_eq_true] at h
      obtain ⟨ha, hcov⟩ := h
      unfold DataW.trod at hx
      rw [hu] at hx
      simp only at hx
      split at hx
      case isFalse => cases hx
      rename_i hl
      refine ⟨hl, fun i hi => ?_⟩
      obtain ⟨xs, hxs, _⟩ := Option.map_eq_some_iff.1 hx
      have hci := List.all_eq_true.1 hcov i (by simp; omega)
      obtain ⟨j, hj, hin⟩ := List.any_eq_true.1 hci
      simp only [Bool.and_eq_true, decide_eq_true_eq] at hin
      obtain ⟨y, hy⟩ := mapM_at _ _ hxs j hj
      obtain ⟨hl', hat⟩ := allK_open f e ha fuel _ y hy
      obtain ⟨n, hn, hw⟩ := hat (i - j * P.cellsOf e) (by rw [hl']; omega)
      rw [piece hin.1 hin.2] at hn
      exact ⟨n, hn, hw⟩
    · cases h

theorem ints_of {k : IntKind} : ∀ (cs : List Value), (∀ i, i < cs.length → ∃ n, cs[i]? = some (.int k n) ∧ (Lit.int k n).wf = true) → ∃ l : List Int, cs = l.map (Value.int k) ∧ ∀ n ∈ l, (Lit.int k n).wf = true
  | [], _ => ⟨[], rfl, by simp⟩
  | c :: cs, h => by
    obtain ⟨n, hn, hw⟩ := h 0 (by simp)
    obtain ⟨l, rfl, hl⟩ := ints_of cs (fun i hi => by simpa using h (i + 1) (by simpa using hi))
    simp only [List.getElem?_cons_zero, Option.some.injEq] at hn
    subst hn
    refine ⟨n :: l, rfl, fun m hm => ?_⟩
    rcases List.mem_cons.1 hm with rfl | hm
    · exact hw
    · exact hl m hm

/-- A struct or array by value, of integers of one kind: its integers. -/
theorem agg_ints {k : IntKind} {base : Nat} {sp : Nat → Bool} {held : Bool} {f : Nat} {t : TypeId} (ha : allK P k f t = true) (hc : P.cellsOf t ≠ 1) {v : Value} {d : DataW H} {ps : List MemPlace} (h : DataW.Trod enc P W base sp held t v d ps) :
    ∃ l : List Int, v = .agg (l.map (Value.int k)).toArray ∧ l.length = P.cellsOf t ∧ ∀ n ∈ l, (Lit.int k n).wf = true := by
  obtain ⟨fuel, hf⟩ := h
  obtain ⟨hl, hat⟩ := allK_open f t ha fuel _ _ hf
  obtain ⟨l, hcs, hw⟩ := ints_of _ hat
  have hlen : l.length = P.cellsOf t := by rw [← hl, hcs]; simp
  refine ⟨l, ?_, hlen, hw⟩
  unfold Value.cells at hcs hl
  split at hcs
  · rename_i cs
    rw [← hcs]
  · rename_i hna
    exfalso
    apply hc
    rw [← hlen]
    have := congrArg List.length hcs
    simpa using this.symm

/-- A slice of bytes that came in. -/
theorem row_bytes {e : TypeId} {t : TypeId} {r : Reach} {b0 : Nat} (ht : P.underlying t = some (.slice e)) (he : P.underlying e = some (.int .u8)) (hc : P.cellsOf e = 1) {v : Value} {d : DataW H} {ps : List MemPlace} (hval : Value.okWide P W r b0 t v)
    (h : DataW.Trod enc P W 0 (fun _ => true) true t v d ps) :
    ∃ (a : Option Addr) (l : List Int) (cap : Nat), v = .slice a l.length cap ∧ URow W a l ∧ Bytes l := by
  obtain ⟨fuel, hf⟩ := h
  obtain ⟨a0, len0, cap0, rfl⟩ := Go.WideShapes.okWide_slice ht hval
  rcases open_ints ht he hc hf with ⟨hcs, _⟩ | ⟨a, len, cap, zs, hcs, _, hle, hmax, hlen, _, hcell, hwf⟩
  · have hcs' : [Value.slice a0 len0 cap0] = [.slice none 0 0] := by simpa [Value.cells] using hcs
    cases hcs'
    exact ⟨none, [], 0, rfl, RowOf.nil, fun x hx => by cases hx⟩
  · have hcs' : [Value.slice a0 len0 cap0] = [.slice (some a) len cap] := by simpa [Value.cells] using hcs
    cases hcs'
    simp only [if_true] at hlen
    have hl : (zs.take len0).length = len0 := by simp; omega
    refine ⟨some a, zs.take len0, cap0, by rw [hl], ⟨by rw [hl]; exact Nat.le_trans hle hmax, fun j x hx => ?_⟩, fun x hx => bounds_u8 (hwf x (List.mem_of_mem_take hx))⟩
    have hj : j < len0 := by
      have := (List.getElem?_eq_some_iff.1 hx).1
      omega
    have hz : zs[j]? = some x := by
      rw [List.getElem?_take_of_lt hj] at hx
      exact hx
    have h0 := hcell 0 (by omega)
    rw [show a.add 0 = a by simp [Addr.add]] at h0
    have hb := World.block_lt_of_cell? W _ h0
    have hs : a.spot = none := by
      cases hsp : a.spot with
      | none => rfl
      | some q =>
        exfalso
        unfold World.cell? at h0
        split at h0
        · simp [hsp] at h0
        · cases h0
    obtain ⟨b, off, sp⟩ := a
    simp only at hs
    subst hs
    have h1 := hcell j (by omega)
    have e1 : zs.getD j 0 = x := by simp [hz]
    rw [e1, show (Addr.mk b off none).add j = ⟨b, off + j, none⟩ by unfold Addr.add; split <;> simp_all] at h1
    refine ⟨b, off, rfl, hb, fun i v hv => ?_⟩
    have hi : i = 0 := by
      have := (List.getElem?_eq_some_iff.1 hv).1
      simpa [encU] using this
    subst hi
    simp [encU] at hv
    subst hv
    simpa using h1

end

end Go.Proofs.Ytafkoococfnakaa

namespace Go.Proofs.Ytafkoococfnakaa
set_option linter.unusedVariables false
set_option linter.unusedSimpArgs false
open Go.RowKit Go.ChangeShapes

theorem list_of {α : Type} (p : Nat → α → Prop) : ∀ n, (∀ j, j < n → ∃ x, p j x) → ∃ l : List α, l.length = n ∧ ∀ j x, l[j]? = some x → p j x
  | 0, _ => ⟨[], rfl, fun j x h => by simp at h⟩
  | n + 1, h => by
    obtain ⟨l, hl, hp⟩ := list_of p n (fun j hj => h j (by omega))
    obtain ⟨x, hx⟩ := h n (by omega)
    refine ⟨l ++ [x], by simp [hl], fun j y hy => ?_⟩
    by_cases hj : j < l.length
    · rw [List.getElem?_append_left hj] at hy
      exact hp j y hy
    · rw [List.getElem?_append_right (by omega)] at hy
      have h1 := (List.getElem?_eq_some_iff.1 hy).1
      simp at h1
      obtain rfl : j = n := by omega
      simp [hl] at hy
      subst hy
      exact hx

section
variable {H : Type} {enc : TypeId × Value → H} {P : Program} {W : World}

/-- A slice of arrays of integers of one kind. -/
theorem row_flat {α : Type} {en : α → List Value} {G : α → Prop} {e t : TypeId} {k : IntKind} {f sz fuel : Nat} {cs : List Value} {x : DataW H × List MemPlace} (ht : P.underlying t = some (.slice e)) (ha : allK P k f e = true) (hc : P.cellsOf e = sz) (h0 : 0 < sz)
    (hmk : ∀ l : List Int, l.length = sz → (∀ n ∈ l, (Lit.int k n).wf = true) → ∃ y : α, en y = l.map (Value.int k) ∧ G y)
    (hx : DataW.trod enc P W 0 (fun _ => true) true fuel t cs = some x) :
    ∃ (a : Option Addr) (l : List α) (cap : Nat), cs = [.slice a l.length cap] ∧ RowOf sz en W a l ∧ ∀ v ∈ l, G v := by
  rcases DataW.trod_slice ht hx with ⟨h, _⟩ | ⟨a, len, cap, elems, rest, n, _, rfl, _, hb, hl, hm, hlen, hel, _, _⟩
  · exact ⟨none, [], 0, h, RowOf.nil, fun v hv => by cases hv⟩
  have hj : ∀ j, j < len → ∃ y : α, G y ∧ ∃ l : List Int, l.length = sz ∧ en y = l.map (Value.int k) ∧ ∀ i, i < sz → W.cell? ((a.add (j * sz)).add i) = (l.map (Value.int k))[i]? := by
    intro j hj
    have h1 := hel j hj
    rw [List.getElem?_eq_getElem (by omega)] at h1
    obtain ⟨cs', hcs, hy⟩ := Option.bind_eq_some_iff.1 h1
    obtain ⟨hl', hat⟩ := allK_open f e ha _ _ _ hy
    obtain ⟨l, hcl, hw⟩ := ints_of _ hat
    have hll : l.length = sz := by rw [← hc, ← hl', hcl]; simp
    obtain ⟨y, hy1, hy2⟩ := hmk l hll hw
    refine ⟨y, hy2, l, hll, hy1, fun i hi => ?_⟩
    have := (World.cells?_some hcs).2.2 i (by omega)
    rw [hc, hcl] at this
    exact this
  obtain ⟨l, hlen', hp⟩ := list_of _ len hj
  refine ⟨some a, l, cap, by rw [hlen'], ⟨?_, fun j y hy => ?_⟩, fun v hv => ?_⟩
  · rw [hlen']
    have : maxLen ≤ 9223372036854775807 := by decide
    omega
  · obtain ⟨_, li, hli, hen, hcell⟩ := hp j y hy
    have z0 := hcell 0 h0
    have hi0 : (li.map (Value.int k))[0]? = some (.int k (li[0]'(by omega))) := by simp [List.getElem?_eq_getElem (show 0 < li.length by omega)]
    rw [hi0, show (a.add (j * sz)).add 0 = a.add (j * sz) by simp [Addr.add]] at z0
    have hs : a.spot = none := by
      cases hsp : a.spot with
      | none => rfl
      | some q =>
        exfalso
        have hj0 : j < len := by have := (List.getElem?_eq_some_iff.1 hy).1; omega
        obtain ⟨_, _, li0, hli0, _, hc0⟩ := hj 0 (by omega)
        have z1 := hc0 0 h0
        have hi1 : (li0.map (Value.int k))[0]? = some (.int k (li0[0]'(by omega))) := by simp [List.getElem?_eq_getElem (show 0 < li0.length by omega)]
        rw [hi1, show (a.add (0 * sz)).add 0 = a by simp [Addr.add]] at z1
        unfold World.cell? at z1
        split at z1
        · simp [hsp] at z1
        · cases z1
    obtain ⟨b, off, sp⟩ := a
    simp only at hs
    subst hs
    refine ⟨b, off, rfl, ?_, fun i v hv => ?_⟩
    · have := World.block_lt_of_cell? W _ z0
      rw [WideShapes.add_plain] at this
      exact this
    · have hi : i < sz := by
        have := (List.getElem?_eq_some_iff.1 hv).1
        rw [hen] at this
        simpa [hli] using this
      have := hcell i hi
      rw [WideShapes.add_plain, WideShapes.add_plain, ← hen, hv] at this
      exact this
  · obtain ⟨j, hjv⟩ := List.getElem?_of_mem hv
    exact (hp j v hjv).1

/-- A struct of three slices: each by itself. -/
theorem struct3 {t t0 t1 t2 : TypeId} {fs : Array Field} {fuel : Nat} {cs : List Value} {x : DataW H × List MemPlace} (hu : P.underlying t = some (.struct fs)) (ct : P.cellsOf t = 3) (c0 : P.cellsOf t0 = 1) (c1 : P.cellsOf t1 = 1) (c2 : P.cellsOf t2 = 1)
    (m0 : ∃ g ∈ fs.toList, g.type = t0 ∧ g.offset = 0) (m1 : ∃ g ∈ fs.toList, g.type = t1 ∧ g.offset = 1) (m2 : ∃ g ∈ fs.toList, g.type = t2 ∧ g.offset = 2)
    (hx : DataW.trod enc P W 0 (fun _ => true) true fuel t cs = some x) :
    ∃ s0 s1 s2 n x0 x1 x2, cs = [s0, s1, s2] ∧ DataW.trod enc P W 0 (fun _ => true) true n t0 [s0] = some x0 ∧ DataW.trod enc P W 0 (fun _ => true) true n t1 [s1] = some x1 ∧ DataW.trod enc P W 0 (fun _ => true) true n t2 [s2] = some x2 := by
  cases fuel with
  | zero => simp [DataW.trod] at hx
  | succ n =>
    unfold DataW.trod at hx
    rw [hu] at hx
    simp only at hx
    split at hx
    case isFalse => cases hx
    rename_i hl
    obtain ⟨xs, hxs, _⟩ := Option.map_eq_some_iff.1 hx
    rw [ct] at hl
    obtain ⟨s0, s1, s2, rfl⟩ : ∃ s0 s1 s2, cs = [s0, s1, s2] := by
      match cs, hl with
      | [s0, s1, s2], _ => exact ⟨s0, s1, s2, rfl⟩
    obtain ⟨g0, hg0, e0, o0⟩ := m0
    obtain ⟨g1, hg1, e1, o1⟩ := m1
    obtain ⟨g2, hg2, e2, o2⟩ := m2
    obtain ⟨y0, hy0⟩ := mapM_at _ _ hxs g0 hg0
    obtain ⟨y1, hy1⟩ := mapM_at _ _ hxs g1 hg1
    obtain ⟨y2, hy2⟩ := mapM_at _ _ hxs g2 hg2
    rw [e0, o0, c0] at hy0
    rw [e1, o1, c1] at hy1
    rw [e2, o2, c2] at hy2
    exact ⟨s0, s1, s2, n, y0, y1, y2, rfl, hy0, hy1, hy2⟩

end


/-- The pieces of a struct. -/
theorem struct_piece {H : Type} {enc : TypeId × Value → H} {P : Program} {W : World} {t : TypeId} {fs : Array Field} {fuel : Nat} {cs : List Value} {x : DataW H × List MemPlace} (hu : P.underlying t = some (.struct fs))
    (hx : DataW.trod enc P W 0 (fun _ => true) true fuel t cs = some x) :
    cs.length = P.cellsOf t ∧ ∃ n, ∀ g ∈ fs.toList, ∃ y, DataW.trod enc P W 0 (fun _ => true) true n g.type ((cs.drop g.offset).take (P.cellsOf g.type)) = some y := by
  cases fuel with
  | zero => simp [DataW.trod] at hx
  | succ n =>
    unfold DataW.trod at hx
    rw [hu] at hx
    simp only at hx
    split at hx
    case isFalse => cases hx
    rename_i hl
    obtain ⟨xs, hxs, _⟩ := Option.map_eq_some_iff.1 hx
    exact ⟨hl, n, fun g hg => mapM_at _ _ hxs g hg⟩

end Go.Proofs.Ytafkoococfnakaa

namespace Go.Proofs.Ytafkoococfnakaa
set_option linter.unusedVariables false
set_option linter.unusedSimpArgs false
open Go.RowKit Go.ChangeShapes

theorem mkI64 (l : List Int) (hl : l.length = 1) (hw : ∀ n ∈ l, (Lit.int .i64 n).wf = true) : ∃ y : Int, encI y = l.map (Value.int .i64) ∧ True := by
  match l, hl with
  | [a], _ => exact ⟨a, rfl, trivial⟩

set_option maxRecDepth 100000 in
theorem rowI_open {H : Type} {enc : TypeId × Value → H} {W : World} {fuel : Nat} {cs : List Value} {x : DataW H × List MemPlace} (hx : DataW.trod enc Try.prog W 0 (fun _ => true) true fuel 22 cs = some x) :
    ∃ (a : Option Addr) (l : List Int) (cap : Nat), cs = [.slice a l.length cap] ∧ IRow W a l := by
  obtain ⟨a, l, cap, e, rl, _⟩ := row_flat (f := 5) (en := encI) (G := fun _ => True) Try.underlying22 (k := .i64) (by kernel_rfl) (by kernel_rfl) (by decide) mkI64 hx
  exact ⟨a, l, cap, e, rl⟩

set_option maxRecDepth 100000 in
theorem blank_open {H : Type} {enc : TypeId × Value → H} {W : World} {fuel : Nat} {cs : List Value} {x : DataW H × List MemPlace} (hx : DataW.trod enc Try.prog W 0 (fun _ => true) true fuel 24 cs = some x) :
    ∃ (tab hei slo : Int) (pan top bot : List Int) (pa ta ba : Option Addr) (pc tc bc : Nat) (opn : Bool), cs = [.int .i64 tab, .slice pa pan.length pc, .int .i64 hei, .slice ta top.length tc, .slice ba bot.length bc, .int .i64 slo, .bool opn] ∧ IRow W pa pan ∧ IRow W ta top ∧ IRow W ba bot := by
  obtain ⟨hl, n, hp⟩ := struct_piece Try.underlying24 hx
  rw [show Try.prog.cellsOf 24 = 7 from by kernel_rfl] at hl
  obtain ⟨c0, c1, c2, c3, c4, c5, c6, rfl⟩ : ∃ c0 c1 c2 c3 c4 c5 c6, cs = [c0, c1, c2, c3, c4, c5, c6] := by
    match cs, hl with
    | [c0, c1, c2, c3, c4, c5, c6], _ => exact ⟨c0, c1, c2, c3, c4, c5, c6, rfl⟩
  obtain ⟨y0, h0⟩ := hp _ List.mem_cons_self
  obtain ⟨y1, h1⟩ := hp _ (List.mem_cons_of_mem _ List.mem_cons_self)
  obtain ⟨y2, h2⟩ := hp _ (List.mem_cons_of_mem _ (List.mem_cons_of_mem _ List.mem_cons_self))
  obtain ⟨y3, h3⟩ := hp _ (List.mem_cons_of_mem _ (List.mem_cons_of_mem _ (List.mem_cons_of_mem _ List.mem_cons_self)))
  obtain ⟨y4, h4⟩ := hp _ (List.mem_cons_of_mem _ (List.mem_cons_of_mem _ (List.mem_cons_of_mem _ (List.mem_cons_of_mem _ List.mem_cons_self))))
  obtain ⟨y5, h5⟩ := hp _ (List.mem_cons_of_mem _ (List.mem_cons_of_mem _ (List.mem_cons_of_mem _ (List.mem_cons_of_mem _ (List.mem_cons_of_mem _ List.mem_cons_self)))))
  obtain ⟨y6, h6⟩ := hp _ (List.mem_cons_of_mem _ (List.mem_cons_of_mem _ (List.mem_cons_of_mem _ (List.mem_cons_of_mem _ (List.mem_cons_of_mem _ (List.mem_cons_of_mem _ List.mem_cons_self))))))
  have ei : Try.prog.cellsOf 3 = 1 := by kernel_rfl
  have es : Try.prog.cellsOf 22 = 1 := by kernel_rfl
  have eb : Try.prog.cellsOf 4 = 1 := by kernel_rfl
  have h0' : DataW.trod enc Try.prog W 0 (fun _ => true) true n 3 [c0] = some y0 := by
    simpa only [List.drop_zero, ei, List.take_succ_cons, List.take_zero] using h0
  have h1' : DataW.trod enc Try.prog W 0 (fun _ => true) true n 22 [c1] = some y1 := by
    simpa only [List.drop_succ_cons, List.drop_zero, es, List.take_succ_cons, List.take_zero] using h1
  have h2' : DataW.trod enc Try.prog W 0 (fun _ => true) true n 3 [c2] = some y2 := by
    simpa only [List.drop_succ_cons, List.drop_zero, ei, List.take_succ_cons, List.take_zero] using h2
  have h3' : DataW.trod enc Try.prog W 0 (fun _ => true) true n 22 [c3] = some y3 := by
    simpa only [List.drop_succ_cons, List.drop_zero, es, List.take_succ_cons, List.take_zero] using h3
  have h4' : DataW.trod enc Try.prog W 0 (fun _ => true) true n 22 [c4] = some y4 := by
    simpa only [List.drop_succ_cons, List.drop_zero, es, List.take_succ_cons, List.take_zero] using h4
  have h5' : DataW.trod enc Try.prog W 0 (fun _ => true) true n 3 [c5] = some y5 := by
    simpa only [List.drop_succ_cons, List.drop_zero, ei, List.take_succ_cons, List.take_zero] using h5
  have h6' : DataW.trod enc Try.prog W 0 (fun _ => true) true n 4 [c6] = some y6 := by
    simpa only [List.drop_succ_cons, List.drop_zero, eb, List.take_succ_cons, List.take_zero] using h6
  obtain ⟨tab, e0, _⟩ := int_open Try.underlying3 h0'
  obtain ⟨hei, e2, _⟩ := int_open Try.underlying3 h2'
  obtain ⟨slo, e5, _⟩ := int_open Try.underlying3 h5'
  obtain ⟨opn, e6, _⟩ := DataW.trod_bool Try.underlying4 h6'
  obtain ⟨pa, pan, pc, e1, r1⟩ := rowI_open h1'
  obtain ⟨ta, top, tc, e3, r3⟩ := rowI_open h3'
  obtain ⟨ba, bot, bc, e4, r4⟩ := rowI_open h4'
  cases e0
  cases e1
  cases e2
  cases e3
  cases e4
  cases e5
  cases e6
  exact ⟨tab, hei, slo, pan, top, bot, pa, ta, ba, pc, tc, bc, opn, rfl, r1, r3, r4⟩

end Go.Proofs.Ytafkoococfnakaa
