/- Copies whose row is the call's own: armInts, armBlank. What TopLidStack's numbers are. -/
import Derived.Test.YtaommdjekddgiaaE1
import Derived.Test.YtaommdjekddgiaaQr
import Derived.Test.YtaommdjekddgiaaQp
import Derived.Test.YtaommdjekddgiaaL1
import Derived.Test.YtaommdjekddgiaaV5
namespace Go.Proofs.Ytaommdjekddgiaa
set_option linter.unusedVariables false
set_option linter.unusedSimpArgs false
open Go.RowKit

/-- A row of ints of the call's own is handed back. -/
def IntsOwn (l : List Int) (w : World) (e : Ending) (w' : World) : Prop := ∃ v', e = .returned v' ∧ Gr w w' ∧ w'.ownsRow w.heap.size 3 1 v' l.length (l.flatMap encI)

def BlankOwn (tab hei slo : Int) (pan top bot : List Int) (opn : Bool) (w : World) (e : Ending) (w' : World) : Prop :=
  ∃ pa pc ta tc ba bc, e = .returned (.agg #[.int .i64 tab, .slice pa pan.length pc, .int .i64 hei, .slice ta top.length tc, .slice ba bot.length bc, .int .i64 slo, .bool opn]) ∧ Gr w w' ∧ w'.ownsRow (w.heap.size + 2) 3 1 (.slice pa pan.length pc) pan.length (pan.flatMap encI) ∧ IRow w' ta top ∧ IRow w' ba bot ∧ (∀ r, (Value.slice pa pan.length pc).ownBlock = some r → NewAt (r + 1) ta ∧ NewAt (r + 1) ba)

set_option maxHeartbeats 400000 in
/-- A copy of integers. -/
theorem armInts_own (l : List Int) (h0 : 0 < l.length) (hl : l.length ≤ 1000) (a : Option Addr) (cap : Nat) (w : World) (hr : IRow w a l) :
    Calls Try.prog 26 #[.slice a l.length cap] w (IntsOwn l w) := by
  obtain ⟨b, off, rfl, hb⟩ := hr.addr h0
  obtain ⟨i0, hi, hz0, hz1, hz2⟩ := info_parts infoInt
  have hr1 := hr.grow (Gr.al w (.cells #[] 3))
  have h1 : 0 + l.length ≤ maxLen := by unfold maxLen; omega
  have h2 : (0 + l.length) * 8 ≤ 140737488355328 := by omega
  have hfl := flat_len (enc := encI) (sz := 1) (fun _ => rfl) l
  have hnews := row_news (enc := encI) (sz := 1) (fun _ => rfl) hr1
  have Hfl := Lib.hid hfl
  have Hnews := Lib.hid hnews
  clear hfl hnews
  go_enter Try.func26, Try.ntmps26
  go_wp2_with (at_builtin; refine wpList_append_own _ rfl _ _ 33 rfl w.heap.size 3 i0 (.int .i64 0) 1 8 Try.underlying33 hi hz0 hz1 hz2 rfl (by decide) _ _ _ rfl (owns_empty w _ _) ⟨b, off, none⟩ l.length cap (l.flatMap encI) rfl Hfl.out Hnews.out (one_flat (fun x u hu => by simp [encI] at hu; subst hu; rfl) l) h1 h2 (by simp) ?_; intro v' w1 hown hgrow _)
  have HO := Lib.hid hown
  clear hown
  go_wp2
  go_ret
  exact ⟨v', rfl, (Gr.al w _).grown' (owns_empty w _ 1) (Nat.le_refl _) hgrow, by simpa using HO.out⟩

set_option maxRecDepth 100000 in
set_option maxHeartbeats 2000000 in
theorem armBlank_own (tab hei slo : Int) (pan top bot : List Int) (pa ta ba : Option Addr) (pc tc bc : Nat) (opn : Bool) (p0 : 0 < pan.length) (p1 : pan.length ≤ 1000) (t0 : 0 < top.length) (t1 : top.length ≤ 1000) (b0 : 0 < bot.length) (b1 : bot.length ≤ 1000) (w : World) (hp : IRow w pa pan) (ht : IRow w ta top) (hb : IRow w ba bot) :
    Calls Try.prog 22 #[.agg #[.int .i64 tab, .slice pa pan.length pc, .int .i64 hei, .slice ta top.length tc, .slice ba bot.length bc, .int .i64 slo, .bool opn]] w (BlankOwn tab hei slo pan top bot opn w) := by
  have gg := (Gr.al w (.cells #[.int .i64 tab, .slice pa pan.length pc, .int .i64 hei, .slice ta top.length tc, .slice ba bot.length bc, .int .i64 slo, .bool opn] 58)).tr (Gr.al _ (.cells #[.int .i64 0, .slice none 0 0, .int .i64 0, .slice none 0 0, .slice none 0 0, .int .i64 0, .bool false] 58))
  have hB := (Own.new w [.int .i64 tab, .slice pa pan.length pc, .int .i64 hei, .slice ta top.length tc, .slice ba bot.length bc, .int .i64 slo, .bool opn] 58 w.heap.size rfl).keep (Gr.al _ (.cells #[.int .i64 0, .slice none 0 0, .int .i64 0, .slice none 0 0, .slice none 0 0, .int .i64 0, .bool false] 58))
  have ob := Own.new (w.alloc (.cells #[.int .i64 tab, .slice pa pan.length pc, .int .i64 hei, .slice ta top.length tc, .slice ba bot.length bc, .int .i64 slo, .bool opn] 58)) [.int .i64 0, .slice none 0 0, .int .i64 0, .slice none 0 0, .slice none 0 0, .int .i64 0, .bool false] 58 (w.heap.size + 1) (by simp)
  go_enter Try.func22, Try.ntmps22
  go_wp2
  refine wp_abs (fun W => Gr w W ∧ Own W w.heap.size [.int .i64 tab, .slice pa pan.length pc, .int .i64 hei, .slice ta top.length tc, .slice ba bot.length bc, .int .i64 slo, .bool opn] ∧ Own W (w.heap.size + 1) [.int .i64 0, .slice none 0 0, .int .i64 0, .slice none 0 0, .slice none 0 0, .int .i64 0, .bool false]) ⟨gg, hB, ob⟩ ?_
  clear gg hB ob
  rintro W ⟨gg, hB, ob⟩
  have gX := Gr.dr W
  obtain ⟨e0, e1, e2, e3, e4, e5, e6⟩ := (hB.keep gX).1.c7
  have tok1 : True := trivial
  have tok2 : True := trivial
  refine wp_region_ord (fun w' => w'.cell? ⟨w.heap.size, 1, none⟩ = some (.slice pa pan.length pc) ∧ w'.cell? ⟨w.heap.size, 3, none⟩ = some (.slice ta top.length tc) ∧ w'.cell? ⟨w.heap.size, 4, none⟩ = some (.slice ba bot.length bc)) 10
    [(0, true), (1, true), (3, true), (4, true), (6, true), (7, true), (2, false), (9, true), (5, false), (8, false)] (by kernel_rfl) (by kernel_rfl) ⟨e1, e3, e4⟩ ?_
  refine ⟨_, .pointer (some ⟨w.heap.size, 1, none⟩), rfl, Or.inl ⟨rfl, ?_⟩, fun _ _ _ h => h, ?_⟩
  · rintro w' ⟨s1, s3, s4⟩
    go_simp
  refine ⟨_, .slice pa pan.length pc, rfl, Or.inl ⟨rfl, ?_⟩, fun _ _ _ h => h, ?_⟩
  · rintro w' ⟨s1, s3, s4⟩
    go_simp
  refine ⟨_, .pointer (some ⟨w.heap.size, 3, none⟩), rfl, Or.inl ⟨rfl, ?_⟩, fun _ _ _ h => h, ?_⟩
  · rintro w' ⟨s1, s3, s4⟩
    go_simp
  refine ⟨_, .slice ta top.length tc, rfl, Or.inl ⟨rfl, ?_⟩, fun _ _ _ h => h, ?_⟩
  · rintro w' ⟨s1, s3, s4⟩
    go_simp
  refine ⟨_, .pointer (some ⟨w.heap.size, 4, none⟩), rfl, Or.inl ⟨rfl, ?_⟩, fun _ _ _ h => h, ?_⟩
  · rintro w' ⟨s1, s3, s4⟩
    go_simp
  refine ⟨_, .slice ba bot.length bc, rfl, Or.inl ⟨rfl, ?_⟩, fun _ _ _ h => h, ?_⟩
  · rintro w' ⟨s1, s3, s4⟩
    go_simp
  refine wpOp_step rfl (fun K' hK => ?_)
  go_simp
  refine (armInts_own pan p0 p1 pa pc _ (hp.grow (gg.tr gX))).mono ?_
  rintro e w2 ⟨pv, rfl, hx, rp⟩
  obtain ⟨pa', pc', rfl⟩ := owns_val rp
  have rp2 := owns_base rp (show w.heap.size + 2 ≤ _ by have := gX.size; have := ob.1.1; omega)
  replace gX := gX.tr hx
  obtain ⟨e0, e1, e2, e3, e4, e5, e6⟩ := (hB.keep gX).1.c7
  refine hK _ _ ⟨⟨e1, e3, e4⟩, ?_⟩
  refine ⟨_, .pointer (some ⟨w.heap.size, 1, none⟩), rfl, Or.inl ⟨rfl, ?_⟩, fun _ _ _ h => h, ?_⟩
  · rintro w' ⟨s1, s3, s4⟩
    go_simp
  refine wpOp_step rfl (fun K' hK => ?_)
  go_simp
  refine (pubInts_any top t0 t1 ta tc _ (ht.grow (gg.tr gX))).mono ?_
  rintro e w3 ⟨ta', tc', rfl, hy, rt, nt⟩
  have nt2 := nt.le (show w.heap.size + 2 ≤ _ by have := gX.size; have := ob.1.1; omega)
  replace gX := gX.tr hy
  obtain ⟨e0, e1, e2, e3, e4, e5, e6⟩ := (hB.keep gX).1.c7
  refine hK _ _ ⟨⟨e1, e3, e4⟩, ?_⟩
  refine wpOp_step rfl (fun K' hK => ?_)
  go_simp
  refine (pubInts_any bot b0 b1 ba bc _ (hb.grow (gg.tr gX))).mono ?_
  rintro e w4 ⟨ba', bc', rfl, hz, rb, nb⟩
  have nb2 := nb.le (show w.heap.size + 2 ≤ _ by have := gX.size; have := ob.1.1; omega)
  replace gX := gX.tr hz
  obtain ⟨e0, e1, e2, e3, e4, e5, e6⟩ := (hB.keep gX).1.c7
  refine hK _ _ ⟨⟨e1, e3, e4⟩, ?_⟩
  have hB2 := hB.keep gX
  have ob2 := ob.keep gX
  have fz := hB2.2
  have z1 := fz 1
  have z3 := fz 3
  have z4 := fz 4
  obtain ⟨u0, u1, u2, u3, u4, u5, u6⟩ := ob2.1.c7
  have fy := ob2.2
  have y0 := fy 0
  have y1 := fy 1
  have y2 := fy 2
  have y3 := fy 3
  have y4 := fy 4
  have y5 := fy 5
  have y6 := fy 6
  clear fz fy
  show wpList _ _ _ (List.drop 10 _) _ _
  simp only [List.drop_succ_cons, List.drop_zero]
  go_wp2
  refine bodyPost_ret (v := .agg #[.int .i64 tab, .slice pa' pan.length pc', .int .i64 hei, .slice ta' top.length tc', .slice ba' bot.length bc', .int .i64 slo, .bool opn]) (by simp [results, Try.results22, go_sem, u0, u1, u2, u3, u4, u5, u6]) rfl ⟨pa', pc', ta', tc', ba', bc', rfl, ?_, ?_, ?_, ?_, fun r e => ⟨nt.le (by have := rp.lt r e; omega), nb.le (by have := rp.lt r e; have := hy.size; omega)⟩⟩
  · exact ((((((((((gg.tr gX).setCell (by simp) _).setCell (by simp) _).setCell (by simp) _).setCell (by simp) _).setCell (by simp) _).setCell (by simp) _).setCell (by simp) _).setCell (by simp) _).setCell (by simp) _).setCell (by simp) _
  · exact owns_other (owns_other (owns_other (owns_other (owns_other (owns_other (owns_other (owns_other (owns_other (owns_other (owns_keep (owns_keep rp2 hy) hz) (by omega)) (by omega)) (by omega)) (by omega)) (by omega)) (by omega)) (by omega)) (by omega)) (by omega)) (by omega)
  · exact ((((((((((rt.grow hz).other nt2 (by omega)).other nt2 (by omega)).other nt2 (by omega)).other nt2 (by omega)).other nt2 (by omega)).other nt2 (by omega)).other nt2 (by omega)).other nt2 (by omega)).other nt2 (by omega)).other nt2 (by omega)
  · exact (((((((((rb.other nb2 (by omega)).other nb2 (by omega)).other nb2 (by omega)).other nb2 (by omega)).other nb2 (by omega)).other nb2 (by omega)).other nb2 (by omega)).other nb2 (by omega)).other nb2 (by omega)).other nb2 (by omega)


theorem near_z {m lo hi : Int} (h0 : lo ≤ m) (h1 : m ≤ hi) : nearL 0 m lo hi = ⟨m, m⟩ := by
  unfold nearL
  rw [show max lo (m - 0) = m by omega, show min hi (m + 0) = m by omega]

theorem sort_3 (a b c : Int) : sortL [a, b, c] = [min a (min b c), max (min a b) (min c (max a b)), max a (max b c)] := by
  by_cases h1 : a ≤ b <;> by_cases h2 : b ≤ c <;> by_cases h3 : a ≤ c <;> simp [sortL, List.mergeSort, List.MergeSort.Internal.splitInTwo, h1, h2, h3] <;> omega

theorem fits_3 (t0 t1 t2 a b c : Int) : fitsL [t0, t1, t2] [a, b, c] = true ↔
    1000 * min t0 (min t1 t2) ≤ min a (min b c) ∧ 1000 * max (min t0 t1) (min t2 (max t0 t1)) ≤ max (min a b) (min c (max a b)) ∧ 1000 * max t0 (max t1 t2) ≤ max a (max b c) := by
  unfold fitsL
  rw [sort_3, sort_3]
  simp [fitsP]

theorem min_mon {a b a' b' : Int} (ha : a' ≤ a) (hb : b' ≤ b) : min a' b' ≤ min a b := by omega

theorem max_mon {a b a' b' : Int} (ha : a' ≤ a) (hb : b' ≤ b) : max a' b' ≤ max a b := by omega

theorem fits_mon {t0 t1 t2 a b c a' b' c' : Int} (ha : a' ≤ a) (hb : b' ≤ b) (hc : c' ≤ c) (h : fitsL [t0, t1, t2] [a', b', c'] = true) : fitsL [t0, t1, t2] [a, b, c] = true := by
  rw [fits_3] at h ⊢
  obtain ⟨h1, h2, h3⟩ := h
  exact ⟨Int.le_trans h1 (min_mon ha (min_mon hb hc)), Int.le_trans h2 (max_mon (min_mon ha hb) (min_mon hc (max_mon ha hb))), Int.le_trans h3 (max_mon ha (max_mon hb hc))⟩

/-- What stays while the lid's panels are stored. -/
structure LidS (w : World) (B6 D E : Nat) (tl th v0 v1 v2 v3 : Int) (lp lt lb : Option Addr) (lpc ltc lbc : Nat) (v : World) : Prop where
  gr : Gr w v
  b6 : Box v B6 [.int .i64 tl, .int .i64 th]
  bv : Box v (w.heap.size + 1) [.int .u8 v0, .int .u8 v1, .int .u8 v2, .int .u8 v3]
  r0 : IRow v (some ⟨D, 0, none⟩) [150 + v0, 120 + v1, 150 + v0, 120 + v1]
  r1 : IRow v (some ⟨D + 1, 0, none⟩) [0, 0]
  r2 : IRow v (some ⟨D + 1 + 1, 0, none⟩) [60, 60]
  bb : Box v (D + 1 + 1 + 1) [.int .i64 0, .slice (some ⟨D, 0, none⟩) 4 4, .int .i64 (60 + v2), .slice (some ⟨D + 1, 0, none⟩) 2 2, .slice (some ⟨D + 1 + 1, 0, none⟩) 2 2, .int .i64 10, .bool true]
  bl : Box v E [.int .i64 0, .slice lp 4 lpc, .int .i64 (60 + v2), .slice lt 2 ltc, .slice lb 2 lbc, .int .i64 10, .bool true]
  rt : IRow v lt [0, 0]
  rb : IRow v lb [60, 60]

theorem LidS.keep {w : World} {B6 D E : Nat} {tl th v0 v1 v2 v3 : Int} {lp lt lb : Option Addr} {lpc ltc lbc : Nat} {v v' : World} (h : LidS w B6 D E tl th v0 v1 v2 v3 lp lt lb lpc ltc lbc v) (g : Gr v v') : LidS w B6 D E tl th v0 v1 v2 v3 lp lt lb lpc ltc lbc v' :=
  ⟨h.gr.tr g, h.b6.keep g, h.bv.keep g, h.r0.grow g, h.r1.grow g, h.r2.grow g, h.bb.keep g, h.bl.keep g, h.rt.grow g, h.rb.grow g⟩

theorem LidS.set {w : World} {B6 D E : Nat} {tl th v0 v1 v2 v3 : Int} {lp lt lb : Option Addr} {lpc ltc lbc : Nat} {v : World} (h : LidS w B6 D E tl th v0 v1 v2 v3 lp lt lb lpc ltc lbc v) {c : Nat} (h0 : w.heap.size + 1 < c) (h1 : B6 ≠ c) (h2 : D + 1 + 1 + 1 < c) (h3 : E ≠ c)
    (ht : NewAt (c + 1) lt) (hb : NewAt (c + 1) lb) (i : Nat) (u : Value) : LidS w B6 D E tl th v0 v1 v2 v3 lp lt lb lpc ltc lbc (v.setCell ⟨c, i, none⟩ u) :=
  ⟨h.gr.setCell (show w.heap.size ≤ c by omega) u, h.b6.other h1, h.bv.other (by omega), h.r0.setAt (fun b off e => by cases e; omega) i u, h.r1.setAt (fun b off e => by cases e; omega) i u, h.r2.setAt (fun b off e => by cases e; omega) i u, h.bb.other (by omega), h.bl.other h3,
    h.rt.setAt (fun b off e => by have := ht b off none e; omega) i u, h.rb.setAt (fun b off e => by have := hb b off none e; omega) i u⟩

/-- The lid's panels, as many of which are longer. -/
def lidC (v0 v1 m : Int) (k : Nat) : List Value := [.int .i64 (if 0 < k then 150 + v0 + m else 150 + v0), .int .i64 (if 1 < k then 120 + v1 + m else 120 + v1), .int .i64 (if 2 < k then 150 + v0 + m else 150 + v0), .int .i64 (if 3 < k then 120 + v1 + m else 120 + v1)]

/-- The panels of the base, and of the lid. -/
def pansL (v0 v1 m : Int) : List Int := [150 + v0 + m, 120 + v1 + m, 150 + v0 + m, 120 + v1 + m]

theorem boxL (v0 v1 m hei c : Int) (h0 : isB v0) (h1 : isB v1) (hm : 0 ≤ m) (hm1 : m ≤ 100) (hh : 1 ≤ hei) (hh1 : hei ≤ 3000) :
    fitsBox 0 hei (pansL v0 v1 m) [0, 0] [60, 60] true c = [1000 * (150 + v0 + m) - c, 1000 * (120 + v1 + m) - c, 1000 * hei - c] := by
  obtain ⟨a0, b0⟩ := h0
  obtain ⟨a1, b1⟩ := h1
  have n0 := near_z (m := 150 + v0 + m) (lo := 1) (hi := 3000) (by omega) (by omega)
  have n1 := near_z (m := 120 + v1 + m) (lo := 1) (hi := 3000) (by omega) (by omega)
  have n2 := near_z (m := hei) (lo := 1) (hi := 3000) hh hh1
  simp [fitsBox, innerAt, insideS, flatAt, lostL, pansL, n0, n1, n2]

theorem goodL (v0 v1 m hei : Int) (h0 : isB v0) (h1 : isB v1) (hm : 0 ≤ m) (hm1 : m ≤ 100) (hh : 1 ≤ hei) (hh1 : hei ≤ 3000) : GoodB 0 hei 10 (pansL v0 v1 m) [0, 0] [60, 60] true := by
  obtain ⟨a0, b0⟩ := h0
  obtain ⟨a1, b1⟩ := h1
  refine ⟨rfl, rfl, rfl, by decide, ?_, ?_, by decide, by decide, by decide, fun _ => by decide⟩
  · simp only [pansL, inB, in1, List.all_cons, List.all_nil, Bool.and_true, Bool.and_eq_true, decide_eq_true_eq]
    omega
  · simp only [inB, in1, List.all_cons, List.all_nil, Bool.and_true, Bool.and_eq_true, decide_eq_true_eq]
    omega

theorem playL_at (v0 v1 m hei cl ch : Int) (h0 : isB v0) (h1 : isB v1) (hm : 0 ≤ m) (hm1 : m ≤ 100) {k : Nat} (hk : k < 4) :
    (playL hei (pansL v0 v1 m) [0, 0] [60, 60] true cl ch hei (pansL v0 v1 0) [0, 0] [60, 60] true cl ch 4)[k]? = some ⟨1000 * m - 2 * ch, 1000 * m - 2 * cl⟩ := by
  obtain ⟨a0, b0⟩ := h0
  obtain ⟨a1, b1⟩ := h1
  have n0 := near_z (m := 150 + v0 + m) (lo := 1) (hi := 3000) (by omega) (by omega)
  have n1 := near_z (m := 120 + v1 + m) (lo := 1) (hi := 3000) (by omega) (by omega)
  have n2 := near_z (m := 150 + v0) (lo := 1) (hi := 3000) (by omega) (by omega)
  have n3 := near_z (m := 120 + v1) (lo := 1) (hi := 3000) (by omega) (by omega)
  unfold playL
  rw [List.getElem?_map, List.getElem?_range hk]
  have h4 : k = 0 ∨ k = 1 ∨ k = 2 ∨ k = 3 := by omega
  rcases h4 with rfl | rfl | rfl | rfl <;> simp [playAt, innerAt, insideS, flatAt, lostL, pansL, lessL, less1, n0, n1, n2, n3] <;> omega

end Go.Proofs.Ytaommdjekddgiaa
