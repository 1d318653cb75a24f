/- Contracts of pubMade, pubSingle, pubDouble. -/
import Derived.Test.YtbohjmogpiaejaaP1
import Derived.Test.YtbohjmogpiaejaaR1
namespace Go.Proofs.Ytbohjmogpiaejaa
set_option linter.unusedVariables false
set_option linter.unusedSimpArgs false
open Go.RowKit

/-- A board is handed back. -/
def MadePost (mp mf : List Int) (w : World) (e : Ending) (w' : World) : Prop := ∃ a ac g gc, e = .returned (.agg #[.slice a mp.length ac, .slice g mf.length gc]) ∧ Gr w w' ∧ IRow w' a mp ∧ IRow w' g mf ∧ NewAt w.heap.size a ∧ NewAt w.heap.size g

set_option maxRecDepth 100000 in
set_option maxHeartbeats 1000000 in
theorem pubMade_any (mp mf : List Int) (m0 : 0 < mp.length) (m1 : mp.length ≤ 1000) (n0 : 0 < mf.length) (n1 : mf.length ≤ 1000) (a f : Option Addr) (ac fc : Nat) (w : World) (ha : IRow w a mp) (hf : IRow w f mf) :
    Calls Try.prog 11 #[.agg #[.slice a mp.length ac, .slice f mf.length fc]] w (MadePost mp mf w) := by
  have gg := (Gr.al w (.cells #[.slice a mp.length ac, .slice f mf.length fc] 37)).tr (Gr.al _ (.cells #[.slice none 0 0, .slice none 0 0] 37))
  have hb := (Box.new w [.slice a mp.length ac, .slice f mf.length fc] 37 w.heap.size rfl).keep (Gr.al _ (.cells #[.slice none 0 0, .slice none 0 0] 37))
  have ob := Own.new (w.alloc (.cells #[.slice a mp.length ac, .slice f mf.length fc] 37)) [.slice none 0 0, .slice none 0 0] 37 (w.heap.size + 1) (by simp)
  go_enter Try.func11, Try.ntmps11
  go_wp2
  refine wp_abs (fun W => Gr w W ∧ Box W w.heap.size [.slice a mp.length ac, .slice f mf.length fc] ∧ Own W (w.heap.size + 1) [.slice none 0 0, .slice none 0 0]) ⟨gg, hb, ob⟩ ?_
  clear gg hb ob
  rintro W ⟨gg, hb, ob⟩
  have gX := Gr.dr W
  obtain ⟨q0, q1⟩ := (hb.keep gX).c2
  have tok1 : True := trivial
  go_region_held3 (fun w' => w'.cell? ⟨w.heap.size, 0, none⟩ = some (.slice a mp.length ac) ∧ w'.cell? ⟨w.heap.size, 1, none⟩ = some (.slice f mf.length fc)) (first | exact ⟨q0, q1⟩ | go_keep) (first
    | (go_at_call 21; have _t := tok1; (refine (pubInts_any mp m0 m1 a ac _ (ha.grow (gg.tr gX))).mono ?_); clear tok1 _t; rintro e w2 ⟨a', ac', rfl, hx, ra, na⟩; have na2 := na.le (show w.heap.size + 2 ≤ _ by have := gX.size; have := ob.1.1; omega); replace gX := gX.tr hx; obtain ⟨q0, q1⟩ := (hb.keep gX).c2)
    | (go_at_call 21; (refine (pubInts_any mf n0 n1 f fc _ (hf.grow (gg.tr gX))).mono ?_); rintro e w3 ⟨f', fc', rfl, hy, rf, nf⟩; have nf2 := nf.le (show w.heap.size + 2 ≤ _ by have := gX.size; have := ob.1.1; omega); replace gX := gX.tr hy; (obtain ⟨q0, q1⟩ := (hb.keep gX).c2); have ob2 := ob.keep gX; (obtain ⟨u0, u1⟩ := ob2.1.c2); have z0 := ob2.2 0; have z1 := ob2.2 1))
  all_goals
    go_wp2
    refine bodyPost_ret (v := .agg #[.slice a' mp.length ac', .slice f' mf.length fc']) (by simp [results, Try.results11, go_sem, u0, u1]) rfl ⟨a', ac', f', fc', rfl, ((gg.tr gX).setCell (by simp) _).setCell (by simp) _, ?_, ?_, na2.le (by omega), nf2.le (by omega)⟩
    · exact ((ra.grow hy).other na2 (by omega)).other na2 (by omega)
    · exact (rf.other nf2 (by omega)).other nf2 (by omega)

theorem pubSingle_any (w : World) : Calls Try.prog 7 #[] w (MadePost [0, 1, 2] [0] w) := by
  have r1 := (IRow.new' (w.alloc (.cells #[.slice (some ⟨w.heap.size + 1, 0, none⟩) 3 3, .slice (some ⟨w.heap.size + 1 + 1, 0, none⟩) 1 1] 37)) 3 [0, 1, 2] (by simp) (w.heap.size + 1) (by simp) #[.int .i64 0, .int .i64 1, .int .i64 2] (by simp)).grow (Gr.al _ (.cells #[.int .i64 0] 3))
  have r2 := IRow.new' ((w.alloc (.cells #[.slice (some ⟨w.heap.size + 1, 0, none⟩) 3 3, .slice (some ⟨w.heap.size + 1 + 1, 0, none⟩) 1 1] 37)).alloc (.cells #[.int .i64 0, .int .i64 1, .int .i64 2] 3)) 3 [0] (by simp) (w.heap.size + 1 + 1) (by simp) #[.int .i64 0] (by simp)
  go_enter Try.func7, Try.ntmps7
  go_wp2
  exact bodyPost_ret (v := .agg #[.slice (some ⟨w.heap.size + 1, 0, none⟩) 3 3, .slice (some ⟨w.heap.size + 1 + 1, 0, none⟩) 1 1]) (by simp [results, Try.results7, go_sem]) rfl
    ⟨_, 3, _, 1, rfl, ((Gr.al _ _).tr (Gr.al _ _)).tr (Gr.al _ _), r1, r2, NewAt.lit _ _ _ (by omega), NewAt.lit _ _ _ (by omega)⟩

theorem pubDouble_any (w : World) : Calls Try.prog 18 #[] w (MadePost [0, 1, 2, 1, 0] [0, 1] w) := by
  have r1 := (IRow.new' (w.alloc (.cells #[.slice (some ⟨w.heap.size + 1, 0, none⟩) 5 5, .slice (some ⟨w.heap.size + 1 + 1, 0, none⟩) 2 2] 37)) 3 [0, 1, 2, 1, 0] (by simp) (w.heap.size + 1) (by simp) #[.int .i64 0, .int .i64 1, .int .i64 2, .int .i64 1, .int .i64 0] (by simp)).grow (Gr.al _ (.cells #[.int .i64 0, .int .i64 1] 3))
  have r2 := IRow.new' ((w.alloc (.cells #[.slice (some ⟨w.heap.size + 1, 0, none⟩) 5 5, .slice (some ⟨w.heap.size + 1 + 1, 0, none⟩) 2 2] 37)).alloc (.cells #[.int .i64 0, .int .i64 1, .int .i64 2, .int .i64 1, .int .i64 0] 3)) 3 [0, 1] (by simp) (w.heap.size + 1 + 1) (by simp) #[.int .i64 0, .int .i64 1] (by simp)
  go_enter Try.func18, Try.ntmps18
  go_wp2
  exact bodyPost_ret (v := .agg #[.slice (some ⟨w.heap.size + 1, 0, none⟩) 5 5, .slice (some ⟨w.heap.size + 1 + 1, 0, none⟩) 2 2]) (by simp [results, Try.results18, go_sem]) rfl
    ⟨_, 5, _, 2, rfl, ((Gr.al _ _).tr (Gr.al _ _)).tr (Gr.al _ _), r1, r2, NewAt.lit _ _ _ (by omega), NewAt.lit _ _ _ (by omega)⟩

/-- A blank is handed back. -/
def BlankPost (tab hei slo : Int) (pan top bot : List Int) (opn : Bool) (w : World) (e : Ending) (w' : World) : Prop :=
  ∃ pa pc ta tc ba bc, e = .returned (.agg #[.int .i64 tab, .slice pa pan.length pc, .int .i64 hei, .slice ta top.length tc, .slice ba bot.length bc, .int .i64 slo, .bool opn]) ∧ Gr w w' ∧ IRow w' pa pan ∧ IRow w' ta top ∧ IRow w' ba bot ∧ NewAt w.heap.size pa ∧ NewAt w.heap.size ta ∧ NewAt w.heap.size ba

set_option maxRecDepth 100000 in
set_option maxHeartbeats 2000000 in
theorem pubBlank_any (tab hei slo : Int) (pan top bot : List Int) (pa ta ba : Option Addr) (pc tc bc : Nat) (opn : Bool) (p0 : 0 < pan.length) (p1 : pan.length ≤ 1000) (t0 : 0 < top.length) (t1 : top.length ≤ 1000) (b0 : 0 < bot.length) (b1 : bot.length ≤ 1000) (w : World) (hp : IRow w pa pan) (ht : IRow w ta top) (hb : IRow w ba bot) :
    Calls Try.prog 13 #[.agg #[.int .i64 tab, .slice pa pan.length pc, .int .i64 hei, .slice ta top.length tc, .slice ba bot.length bc, .int .i64 slo, .bool opn]] w (BlankPost tab hei slo pan top bot opn w) := by
  have gg := (Gr.al w (.cells #[.int .i64 tab, .slice pa pan.length pc, .int .i64 hei, .slice ta top.length tc, .slice ba bot.length bc, .int .i64 slo, .bool opn] 40)).tr (Gr.al _ (.cells #[.int .i64 0, .slice none 0 0, .int .i64 0, .slice none 0 0, .slice none 0 0, .int .i64 0, .bool false] 40))
  have hB := (Own.new w [.int .i64 tab, .slice pa pan.length pc, .int .i64 hei, .slice ta top.length tc, .slice ba bot.length bc, .int .i64 slo, .bool opn] 40 w.heap.size rfl).keep (Gr.al _ (.cells #[.int .i64 0, .slice none 0 0, .int .i64 0, .slice none 0 0, .slice none 0 0, .int .i64 0, .bool false] 40))
  have ob := Own.new (w.alloc (.cells #[.int .i64 tab, .slice pa pan.length pc, .int .i64 hei, .slice ta top.length tc, .slice ba bot.length bc, .int .i64 slo, .bool opn] 40)) [.int .i64 0, .slice none 0 0, .int .i64 0, .slice none 0 0, .slice none 0 0, .int .i64 0, .bool false] 40 (w.heap.size + 1) (by simp)
  go_enter Try.func13, Try.ntmps13
  go_wp2
  refine wp_abs (fun W => Gr w W ∧ Own W w.heap.size [.int .i64 tab, .slice pa pan.length pc, .int .i64 hei, .slice ta top.length tc, .slice ba bot.length bc, .int .i64 slo, .bool opn] ∧ Own W (w.heap.size + 1) [.int .i64 0, .slice none 0 0, .int .i64 0, .slice none 0 0, .slice none 0 0, .int .i64 0, .bool false]) ⟨gg, hB, ob⟩ ?_
  clear gg hB ob
  rintro W ⟨gg, hB, ob⟩
  have gX := Gr.dr W
  obtain ⟨e0, e1, e2, e3, e4, e5, e6⟩ := (hB.keep gX).1.c7
  have tok1 : True := trivial
  have tok2 : True := trivial
  refine wp_region_ord (fun w' => w'.cell? ⟨w.heap.size, 1, none⟩ = some (.slice pa pan.length pc) ∧ w'.cell? ⟨w.heap.size, 3, none⟩ = some (.slice ta top.length tc) ∧ w'.cell? ⟨w.heap.size, 4, none⟩ = some (.slice ba bot.length bc)) 10
    [(0, true), (1, true), (3, true), (4, true), (6, true), (7, true), (2, false), (9, true), (5, false), (8, false)] (by kernel_rfl) (by kernel_rfl) ⟨e1, e3, e4⟩ ?_
  refine ⟨_, .pointer (some ⟨w.heap.size, 1, none⟩), rfl, Or.inl ⟨rfl, ?_⟩, fun _ _ _ h => h, ?_⟩
  · rintro w' ⟨s1, s3, s4⟩
    go_simp
  refine ⟨_, .slice pa pan.length pc, rfl, Or.inl ⟨rfl, ?_⟩, fun _ _ _ h => h, ?_⟩
  · rintro w' ⟨s1, s3, s4⟩
    go_simp
  refine ⟨_, .pointer (some ⟨w.heap.size, 3, none⟩), rfl, Or.inl ⟨rfl, ?_⟩, fun _ _ _ h => h, ?_⟩
  · rintro w' ⟨s1, s3, s4⟩
    go_simp
  refine ⟨_, .slice ta top.length tc, rfl, Or.inl ⟨rfl, ?_⟩, fun _ _ _ h => h, ?_⟩
  · rintro w' ⟨s1, s3, s4⟩
    go_simp
  refine ⟨_, .pointer (some ⟨w.heap.size, 4, none⟩), rfl, Or.inl ⟨rfl, ?_⟩, fun _ _ _ h => h, ?_⟩
  · rintro w' ⟨s1, s3, s4⟩
    go_simp
  refine ⟨_, .slice ba bot.length bc, rfl, Or.inl ⟨rfl, ?_⟩, fun _ _ _ h => h, ?_⟩
  · rintro w' ⟨s1, s3, s4⟩
    go_simp
  refine wpOp_step rfl (fun K' hK => ?_)
  go_simp
  refine (pubInts_any pan p0 p1 pa pc _ (hp.grow (gg.tr gX))).mono ?_
  rintro e w2 ⟨pa', pc', rfl, hx, rp, np⟩
  have np2 := np.le (show w.heap.size + 2 ≤ _ by have := gX.size; have := ob.1.1; omega)
  replace gX := gX.tr hx
  obtain ⟨e0, e1, e2, e3, e4, e5, e6⟩ := (hB.keep gX).1.c7
  refine hK _ _ ⟨⟨e1, e3, e4⟩, ?_⟩
  refine ⟨_, .pointer (some ⟨w.heap.size, 1, none⟩), rfl, Or.inl ⟨rfl, ?_⟩, fun _ _ _ h => h, ?_⟩
  · rintro w' ⟨s1, s3, s4⟩
    go_simp
  refine wpOp_step rfl (fun K' hK => ?_)
  go_simp
  refine (pubInts_any top t0 t1 ta tc _ (ht.grow (gg.tr gX))).mono ?_
  rintro e w3 ⟨ta', tc', rfl, hy, rt, nt⟩
  have nt2 := nt.le (show w.heap.size + 2 ≤ _ by have := gX.size; have := ob.1.1; omega)
  replace gX := gX.tr hy
  obtain ⟨e0, e1, e2, e3, e4, e5, e6⟩ := (hB.keep gX).1.c7
  refine hK _ _ ⟨⟨e1, e3, e4⟩, ?_⟩
  refine wpOp_step rfl (fun K' hK => ?_)
  go_simp
  refine (pubInts_any bot b0 b1 ba bc _ (hb.grow (gg.tr gX))).mono ?_
  rintro e w4 ⟨ba', bc', rfl, hz, rb, nb⟩
  have nb2 := nb.le (show w.heap.size + 2 ≤ _ by have := gX.size; have := ob.1.1; omega)
  replace gX := gX.tr hz
  obtain ⟨e0, e1, e2, e3, e4, e5, e6⟩ := (hB.keep gX).1.c7
  refine hK _ _ ⟨⟨e1, e3, e4⟩, ?_⟩
  have hB2 := hB.keep gX
  have ob2 := ob.keep gX
  have fz := hB2.2
  have z1 := fz 1
  have z3 := fz 3
  have z4 := fz 4
  obtain ⟨u0, u1, u2, u3, u4, u5, u6⟩ := ob2.1.c7
  have fy := ob2.2
  have y0 := fy 0
  have y1 := fy 1
  have y2 := fy 2
  have y3 := fy 3
  have y4 := fy 4
  have y5 := fy 5
  have y6 := fy 6
  clear fz fy
  show wpList _ _ _ (List.drop 10 _) _ _
  simp only [List.drop_succ_cons, List.drop_zero]
  go_wp2
  refine bodyPost_ret (v := .agg #[.int .i64 tab, .slice pa' pan.length pc', .int .i64 hei, .slice ta' top.length tc', .slice ba' bot.length bc', .int .i64 slo, .bool opn]) (by simp [results, Try.results13, go_sem, u0, u1, u2, u3, u4, u5, u6]) rfl ⟨pa', pc', ta', tc', ba', bc', rfl, ?_, ?_, ?_, ?_, np2.le (by omega), nt2.le (by omega), nb2.le (by omega)⟩
  · exact ((((((((((gg.tr gX).setCell (by simp) _).setCell (by simp) _).setCell (by simp) _).setCell (by simp) _).setCell (by simp) _).setCell (by simp) _).setCell (by simp) _).setCell (by simp) _).setCell (by simp) _).setCell (by simp) _
  · exact (((((((((((rp.grow hy).grow hz).other np2 (by omega)).other np2 (by omega)).other np2 (by omega)).other np2 (by omega)).other np2 (by omega)).other np2 (by omega)).other np2 (by omega)).other np2 (by omega)).other np2 (by omega)).other np2 (by omega)
  · exact ((((((((((rt.grow hz).other nt2 (by omega)).other nt2 (by omega)).other nt2 (by omega)).other nt2 (by omega)).other nt2 (by omega)).other nt2 (by omega)).other nt2 (by omega)).other nt2 (by omega)).other nt2 (by omega)).other nt2 (by omega)
  · exact (((((((((rb.other nb2 (by omega)).other nb2 (by omega)).other nb2 (by omega)).other nb2 (by omega)).other nb2 (by omega)).other nb2 (by omega)).other nb2 (by omega)).other nb2 (by omega)).other nb2 (by omega)).other nb2 (by omega)

end Go.Proofs.Ytbohjmogpiaejaa
