/- Contract of score's Check, of a valid blank. -/
import Derived.Test.YtaommdjekddgiaaS5
namespace Go.Proofs.Ytaommdjekddgiaa
set_option linter.unusedVariables false
set_option linter.unusedSimpArgs false
open Go.RowKit

/-- A valid blank. -/
structure GoodB (tab hei slo : Int) (pan top bot : List Int) (opn : Bool) : Prop where
  l4 : pan.length = 4
  t2 : top.length = 2
  b2 : bot.length = 2
  gtab : inB 0 100 [tab] = true
  gpan : inB 1 3000 pan = true
  ghei : inB 1 3000 [hei] = true
  gtop : inB 0 3000 top = true
  gbot : inB 0 3000 bot = true
  gslo : inB 0 20 [slo] = true
  gopn : opn = true → inB 0 0 top = true

theorem in_one {lo hi x : Int} (h : inB lo hi [x] = true) : lo ≤ x ∧ x ≤ hi := by simpa [inB, in1] using h
theorem in_at {lo hi : Int} {l : List Int} (h : inB lo hi l = true) {k : Nat} {x : Int} (hx : l[k]? = some x) : lo ≤ x ∧ x ≤ hi := by
  have := List.all_eq_true.1 h x (List.mem_of_getElem? hx)
  simpa [in1] using this

set_option maxRecDepth 100000 in
set_option maxHeartbeats 2000000 in
theorem checkB_ok (tab hei slo : Int) (pan top bot : List Int) (pa ta ba : Option Addr) (pc tc bc : Nat) (opn : Bool) (G : GoodB tab hei slo pan top bot opn) (w : World) (hp : IRow w pa pan) (ht : IRow w ta top) (hb : IRow w ba bot) :
    Calls Try.prog 51 #[.agg #[.int .i64 tab, .slice pa pan.length pc, .int .i64 hei, .slice ta top.length tc, .slice ba bot.length bc, .int .i64 slo, .bool opn]] w fun e w' => e = .returned (.int .i64 0) ∧ Gr w w' := by
  have l1 : ((pan.length : Int) != 4) = false := by rw [G.l4]; rfl
  have l2 : ((top.length : Int) != 2) = false := by rw [G.t2]; rfl
  have l3 : ((bot.length : Int) != 2) = false := by rw [G.b2]; rfl
  have gX := Gr.al w (.cells #[.int .i64 tab, .slice pa pan.length pc, .int .i64 hei, .slice ta top.length tc, .slice ba bot.length bc, .int .i64 slo, .bool opn] 58)
  have hB := Box.new w [.int .i64 tab, .slice pa pan.length pc, .int .i64 hei, .slice ta top.length tc, .slice ba bot.length bc, .int .i64 slo, .bool opn] 58 w.heap.size rfl
  have c1 := Lib.hid G.gtab
  have c2 := Lib.hid G.gpan
  have c3 := Lib.hid G.ghei
  have c4 := Lib.hid G.gtop
  have c5 := Lib.hid G.gbot
  have c6 := Lib.hid G.gslo
  have c7 := Lib.hid G.gopn
  clear G
  go_enter Try.func51, Try.ntmps51
  go_wp2_with fail
  have hr1 := within_any 0 100 [tab] _ c1.out (some ⟨w.heap.size + 1, 0, none⟩) 1 _ (IRow.new' (w.alloc (.cells #[.int .i64 tab, .slice pa pan.length pc, .int .i64 hei, .slice ta top.length tc, .slice ba bot.length bc, .int .i64 slo, .bool opn] 58)) 3 [tab] (by simp) (w.heap.size + 1) (by simp) #[.int .i64 tab] (by simp))
  refine hr1.mono ?_
  rintro e w1 ⟨rfl, hx'⟩
  have hx := (Gr.al _ _).tr hx'
  have B1 := hB.keep hx
  have g1 := gX.tr hx
  clear hr1 hx hx'
  obtain ⟨q0, q1, q2, q3, q4, q5, q6⟩ := B1.c7
  have hr1 := within_any 1 3000 pan _ c2.out pa pc w1 (hp.grow g1)
  go_wp2_with fail
  refine hr1.mono ?_
  rintro e w2 ⟨rfl, hx⟩
  have B2 := B1.keep hx
  have g2 := g1.tr hx
  clear hr1 hx B1
  obtain ⟨q0, q1, q2, q3, q4, q5, q6⟩ := B2.c7
  have hr1 := within_any 1 3000 [hei] _ c3.out (some ⟨w2.heap.size, 0, none⟩) 1 _ (IRow.new' w2 3 [hei] (by simp) (w2.heap.size) (by simp) #[.int .i64 hei] (by simp))
  go_wp2_with fail
  refine hr1.mono ?_
  rintro e w3 ⟨rfl, hx'⟩
  have hx := (Gr.al _ _).tr hx'
  have B3 := B2.keep hx
  have g3 := g2.tr hx
  clear hr1 hx hx' B2
  obtain ⟨q0, q1, q2, q3, q4, q5, q6⟩ := B3.c7
  have hr1 := within_any 0 3000 top _ c4.out ta tc w3 (ht.grow g3)
  go_wp2_with fail
  refine hr1.mono ?_
  rintro e w4 ⟨rfl, hx⟩
  have B4 := B3.keep hx
  have g4 := g3.tr hx
  clear hr1 hx B3
  obtain ⟨q0, q1, q2, q3, q4, q5, q6⟩ := B4.c7
  have hr1 := within_any 0 3000 bot _ c5.out ba bc w4 (hb.grow g4)
  go_wp2_with fail
  refine hr1.mono ?_
  rintro e w5 ⟨rfl, hx⟩
  have B5 := B4.keep hx
  have g5 := g4.tr hx
  clear hr1 hx B4
  obtain ⟨q0, q1, q2, q3, q4, q5, q6⟩ := B5.c7
  have hr1 := within_any 0 20 [slo] _ c6.out (some ⟨w5.heap.size, 0, none⟩) 1 _ (IRow.new' w5 3 [slo] (by simp) (w5.heap.size) (by simp) #[.int .i64 slo] (by simp))
  go_wp2_with fail
  refine hr1.mono ?_
  rintro e w6 ⟨rfl, hx'⟩
  have hx := (Gr.al _ _).tr hx'
  have B6 := B5.keep hx
  have g6 := g5.tr hx
  clear hr1 hx hx' B5
  obtain ⟨q0, q1, q2, q3, q4, q5, q6⟩ := B6.c7
  cases opn with
  | false =>
    go_wp2
    go_ret
    exact ⟨rfl, g6⟩
  | true =>
    have hr1 := within_any 0 0 top _ (c7.out rfl) ta tc w6 (ht.grow g6)
    go_wp2_with fail
    refine hr1.mono ?_
    rintro e w7 ⟨rfl, hx⟩
    have g7 := g6.tr hx
    clear hr1 hx
    go_wp2
    go_ret
    exact ⟨rfl, g7⟩

end Go.Proofs.Ytaommdjekddgiaa
