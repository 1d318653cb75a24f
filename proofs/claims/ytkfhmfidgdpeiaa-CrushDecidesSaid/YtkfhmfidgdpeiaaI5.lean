/- crush's weak: the lowest box that does not hold. -/
import Derived.Test.YtkfhmfidgdpeiaaQi
import Derived.Test.YtkfhmfidgdpeiaaR9
namespace Go.Proofs.Ytkfhmfidgdpeiaa
set_option linter.unusedVariables false
set_option linter.unusedSimpArgs false
open Go.RowKit Go.Shelf
attribute [local go_sem] Oper.semAt_some

def markD (D : Nat) : Deferred := { target := .collected D, args := #[] }

theorem leaves_marks {F : Fence} {n : Nat} {P : Program} {fn : Func} {tmps : Array Value} {R : Ending → World → Prop} : ∀ (Ds : List Nat) (w : World), (∀ D ∈ Ds, w.heap[D]? = some (.deferred (some []))) → Ds.Nodup →
    (∀ w', Kx (fun b => b ∈ Ds) w w' → LeavesIn F n P fn tmps R [] .returning w') → LeavesInM F n P fn tmps R (Ds.map markD) .returning w
  | [], w, _, _, h => h w (Kx.refl _ _)
  | D :: Ds, w, hm, hn, h => by
    have hD := hm D (by simp)
    obtain ⟨hn1, hn2⟩ := List.nodup_cons.1 hn
    refine ⟨by simp, .inl ⟨D, _, rfl, run_takeDeferred hD, leaves_marks Ds _ (fun E hE => ?_) hn2 (fun w' hk => h w' ?_)⟩⟩
    · exact (World.putObj_heap_other (k := E) (r := D) (by rintro rfl; exact hn1 hE)).trans (hm E (by simp [hE]))
    · exact (Kx.put (Z := fun b => b ∈ D :: Ds) (by simp) _).th hk fun i e => .inl (by simp [e])

/-- Whether the box at a place bears less than lies on it. -/
def weakAt (l : List Ld) (keep : Int) (k : Nat) : Bool := match l[k]? with
  | some x => decide (x.sl * keep / 1000 < sumHi (l.drop (k + 1)))
  | none => false

def weakO (l : List Ld) (keep : Int) : Option Nat := (List.range l.length).find? (weakAt l keep)

def weakV (l : List Ld) (keep : Int) : Value := match weakO l keep with
  | none => .tuple #[.int .i64 0, .bool false]
  | some k => .tuple #[.int .i64 (k : Int), .bool true]

def LdOk (x : Ld) : Prop := LdB x ∧ 0 ≤ x.sl ∧ x.sl ≤ 20000000

theorem loads_any' (l : List Ld) (a : Option Addr) (cap : Nat) (w : World) :
    Calls Try.prog 74 #[.slice a l.length cap] w fun e w' => ∃ b, e = .returned (.func (.func 100) #[] #[.pointer (some ⟨b, 0, none⟩)]) ∧ w.heap.size ≤ b ∧ Own w' b [.slice a l.length cap] ∧ Gr w w' :=
  (loads_any l a cap w).mono fun _ _ h => ⟨w.heap.size, h.1, Nat.le_refl _, h.2.1, h.2.2⟩

theorem weakO_none {l : List Ld} {keep : Int} (h : ∀ k, k < l.length → weakAt l keep k = false) : weakO l keep = none := by
  unfold weakO
  rw [List.find?_range_eq_none]
  intro i tp
  simp [h i tp]

theorem weakO_some {l : List Ld} {keep : Int} {k : Nat} (hk : k < l.length) (h1 : weakAt l keep k = true) (h : ∀ j, j < k → weakAt l keep j = false) : weakO l keep = some k := by
  unfold weakO
  rw [List.find?_range_eq_some]
  exact ⟨h1, List.mem_range.2 hk, fun j hj => by simp [h j hj]⟩

theorem loadsL_at {l : List Ld} {k : Nat} (hk : k < l.length) : (loadsL l)[k]? = some (k, sumLo (l.drop (k + 1)), sumHi (l.drop (k + 1))) := by simp [loadsL, hk]

theorem loadsL_mem {l : List Ld} {x : Nat × Int × Int} (h : x ∈ loadsL l) : x.1 < l.length ∧ x = (x.1, sumLo (l.drop (x.1 + 1)), sumHi (l.drop (x.1 + 1))) := by
  obtain ⟨k, hk, rfl⟩ := List.mem_map.1 h
  exact ⟨List.mem_range.1 hk, rfl⟩

theorem first_weak {l : List Ld} {keep : Int} {m : Nat} {pre : List (Nat × Int × Int)} {x : Nat × Int × Int} (h : pre ++ [x] = (loadsL l).take m) (hp : ∀ y ∈ pre, weakAt l keep y.1 = false) (hx : weakAt l keep x.1 = true) :
    x.1 < l.length ∧ weakAt l keep x.1 = true ∧ ∀ j, j < x.1 → weakAt l keep j = false := by
  have hq : ((loadsL l).take m)[pre.length]? = some x := by rw [← h]; simp
  have hm : pre.length < m := by
    have := (List.getElem?_eq_some_iff.1 hq).1
    simp at this
    omega
  rw [List.getElem?_take_of_lt hm] at hq
  have hlen : pre.length < l.length := by
    have := (List.getElem?_eq_some_iff.1 hq).1
    simpa [loadsL] using this
  rw [loadsL_at hlen] at hq
  injection hq with hq
  have e : x.1 = pre.length := by rw [← hq]
  refine ⟨by omega, hx, fun j hj => ?_⟩
  have hj' : j < pre.length := by omega
  have h1 : (loadsL l)[j]? = some pre[j] := by
    have : ((loadsL l).take m)[j]? = some pre[j] := by rw [← h, List.getElem?_append_left hj']; simp
    rwa [List.getElem?_take_of_lt (by omega)] at this
  rw [loadsL_at (by omega)] at h1
  injection h1 with h1
  have h2 := hp pre[j] (List.getElem_mem hj')
  rw [← h1] at h2
  exact h2

/-- While weak looks: what the rounds have not turned; no box that has come is weak. -/
def InvW (l : List Ld) (keep : Int) (X0 : Nat → Prop) (w4 : World) (pre : List (Nat × Int × Int)) (X Y : Nat → Prop) (W : World) : Prop :=
  X = X0 ∧ (∀ i, Y i → w4.heap.size ≤ i) ∧ Gr w4 W ∧ ∀ y ∈ pre, weakAt l keep y.1 = false

theorem InvW.ab {l : List Ld} {keep : Int} {X0 : Nat → Prop} {w4 : World} (s : List (Nat × Int × Int)) (X : Nat → Prop) : Ab (InvW l keep X0 w4 s X) := by
  rintro Y Y' A B ⟨h1, h2, h3, h4⟩ hk hy
  have hs := h3.size
  refine ⟨h1, fun i e => ?_, Kx.toGr ((Kx.gr (Z := noBlock) h3).th hk fun i e => .inr (h2 i e)), h4⟩
  rcases hy i e with e | e
  · exact h2 i e
  · omega

theorem InvW.next {l : List Ld} {keep s t : Int} {X0 : Nat → Prop} {w4 : World} {pre : List (Nat × Int × Int)} {k : Nat} {lo tp : Int} {X Y : Nat → Prop} {W W' : World} (hE : weakAt l keep k = decide (s < t)) (hd : decide (s < t) = false)
    (h : InvW l keep X0 w4 pre X Y W) (g : Gr W W') : InvW l keep X0 w4 (pre ++ [(k, lo, tp)]) X Y W' := by
  obtain ⟨h1, h2, h3, h4⟩ := h
  refine ⟨h1, h2, h3.tr g, fun y hy => ?_⟩
  rcases List.mem_append.1 hy with hy | hy
  · exact h4 y hy
  · simp only [List.mem_singleton] at hy
    subst hy
    rw [hE, hd]

/-- It has found one. -/
def FndW (l : List Ld) (keep : Int) (X0 : Nat → Prop) (w4 : World) (b4 b5 : Nat) (c : Code) (pre : List (Nat × Int × Int)) (Y : Nat → Prop) (W : World) : Prop :=
  c = .ret ∧ (∀ i, Y i → w4.heap.size ≤ i) ∧ Kx X0 w4 W ∧ ∃ pre' x, pre = pre' ++ [x] ∧ (∀ y ∈ pre', weakAt l keep y.1 = false) ∧ weakAt l keep x.1 = true ∧ Own W b4 [.int .i64 (x.1 : Int)] ∧ Own W b5 [.bool true]

set_option maxRecDepth 100000 in
set_option maxHeartbeats 4000000 in
theorem weak_any (l : List Ld) (hl : l.length ≤ 1000) (hB : ∀ x ∈ l, LdOk x) (keep : Int) (k0 : 0 ≤ keep) (k1 : keep ≤ 1000) (a : Option Addr) (cap : Nat) (w : World) (hr : LRow w a l) :
    Calls Try.prog 77 #[.slice a l.length cap, .int .i64 keep] w fun e w' => e = .returned (weakV l keep) ∧ Gr w w' := by
  refine (callsIn_wide (n := 20)).1 ?_
  have gg := ((Gr.al w (.cells #[.slice a l.length cap] 53)).tr (Gr.al _ (.cells #[.int .i64 keep] 3))).tr ((Gr.al _ (.cells #[.int .i64 0] 3)).tr (Gr.al _ (.cells #[.bool false] 4)))
  have o2 := (Own.new w [.slice a l.length cap] 53 w.heap.size rfl).keep ((Gr.al _ (.cells #[.int .i64 keep] 3)).tr ((Gr.al _ (.cells #[.int .i64 0] 3)).tr (Gr.al _ (.cells #[.bool false] 4))))
  have o3 := (Own.new (w.alloc (.cells #[.slice a l.length cap] 53)) [.int .i64 keep] 3 (w.heap.size + 1) (by simp)).keep ((Gr.al _ (.cells #[.int .i64 0] 3)).tr (Gr.al _ (.cells #[.bool false] 4)))
  have o4 := (Own.new ((w.alloc (.cells #[.slice a l.length cap] 53)).alloc (.cells #[.int .i64 keep] 3)) [.int .i64 0] 3 (w.heap.size + 1 + 1) (by simp)).keep (Gr.al _ (.cells #[.bool false] 4))
  have o5 := Own.new (((w.alloc (.cells #[.slice a l.length cap] 53)).alloc (.cells #[.int .i64 keep] 3)).alloc (.cells #[.int .i64 0] 3)) [.bool false] 4 (w.heap.size + 1 + 1 + 1) (by simp)
  have q2 := o2.1.c1
  refine callsIn_of_wp_marks Try.func77 rfl trivial ?_ rfl
  simp only [Try.ntmps77, List.size_toArray, List.length_cons, List.length_nil, Nat.reduceAdd, Nat.reduceSub, Array.replicate_succ, Array.replicate_zero, List.push_toArray, List.append_toArray, List.nil_append, List.cons_append]
  gi_wp2_with (refine ⟨trivial, ?_⟩; gi_at_call 74; refine (callsIn_wide.2 (loads_any' l a cap _)).mono ?_; rintro e w4 ⟨b, rfl, hb, hO, h4⟩; have HO := Lib.hid hO; have O2 := Lib.hid (o2.keep h4); have O3 := Lib.hid (o3.keep h4); have O4 := Lib.hid (o4.keep h4); have O5 := Lib.hid (o5.keep h4); have G4 := Lib.hid (gg.tr h4); clear hO h4)
  have hb4 : w.heap.size + 4 ≤ b := by simpa using hb
  have s4 : w.heap.size + 4 ≤ w4.heap.size := by have := O5.out.1.1; omega
  clear hb gg o2 o3 o4 o5 q2
  obtain ⟨X0, hX0⟩ : ∃ X0 : Nat → Prop, X0 = fun i => i = w.heap.size + 1 + 1 ∨ i = w.heap.size + 1 + 1 + 1 := ⟨_, rfl⟩
  have x0 : ∀ i, X0 i → i < w.heap.size + 4 ∧ w.heap.size + 2 ≤ i := fun i e => by rw [hX0] at e; rcases e with e | e <;> omega
  have hst : St X0 (fun V => Own V b [.slice a l.length cap] ∧ LRow V a l) w4 := fun B hB => by
    refine ⟨HO.out.kx hB fun e => by have := x0 _ e; omega, ?_⟩
    by_cases h0 : 0 < l.length
    · obtain ⟨b2, off2, e2, hb2, _⟩ := hr.2 0 l[0] (by simp)
      refine RowOf.kx (hr.grow G4.out) hB fun b' off e e' => ?_
      have := x0 _ e'
      rw [e] at e2
      injection e2 with e2
      injection e2 with e2 _
      omega
    · obtain rfl : l = [] := by simpa using h0
      exact RowOf.nil
  have HX0 := Lib.hid hX0
  have Hx0 := Lib.hid x0
  have Hst := Lib.hid hst
  have HB := Lib.hid hB
  have HR := Lib.hid hr
  clear hX0 x0 hst hB hr
  refine wpIn_rangeX (F := Fence.wide) rfl (by omega) (gf := 100) (lb := #[.pointer (some ⟨b, 0, none⟩)]) rfl trivial (enters_of Try.func100 (by kernel_rfl) rfl)
    (loads_seq Fence.wide 19 trivial rfl (by omega) b a cap l hl (fun x hx => (HB.out x hx).1) X0 w4 Hst.out) (Kx.refl _ _) (fun _ => rfl) X0 (fun i e => ⟨by have := Hx0.out i e; omega, .inl e⟩)
    (InvW l keep X0 w4) (FndW l keep X0 w4 (w.heap.size + 1 + 1) (w.heap.size + 1 + 1 + 1)) (fun s X => InvW.ab s X) ?abX ?start
    (fun pre x a' X Y W => InvW l keep X0 w4 pre X Y W ∧ x ∈ loadsL l ∧ ∃ B7, Own W B7 [.int .i64 x.2.1, .int .i64 x.2.2] ∧ ¬ X B7 ∧ ¬ Y B7 ∧ w4.heap.size ≤ B7 ∧ a' = ⟨#[.slice a l.length cap, .int .i64 keep, .pointer (some ⟨w.heap.size, 0, none⟩), .pointer (some ⟨w.heap.size + 1, 0, none⟩), .pointer (some ⟨w.heap.size + 1 + 1, 0, none⟩), .pointer (some ⟨w.heap.size + 1 + 1 + 1, 0, none⟩), .int .i64 (x.1 : Int), .pointer (some ⟨B7, 0, none⟩), .slice a l.length cap, .func (.func 100) #[] #[.pointer (some ⟨b, 0, none⟩)], .int .i64 (x.1 : Int), .agg #[.int .i64 x.2.1, .int .i64 x.2.2], undef, undef, undef, undef, undef, undef, undef, undef, undef, undef], []⟩)
    ?abA ?assign ?body ?done ?stop
  case start => exact ⟨rfl, fun i e => e.elim, Below.refl _ _, fun y hy => by cases hy⟩
  case abX =>
    rintro c s Y Y' A B ⟨h1, h2, h3, pre', x, h4, h5, h6, h7, h8⟩ hk hy
    have hs := h3.size
    refine ⟨h1, fun i e => ?_, h3.th hk fun i e => .inr (h2 i e), pre', x, h4, h5, h6, h7.kx hk fun e => ?_, h8.kx hk fun e => ?_⟩
    · rcases hy i e with e | e
      · exact h2 i e
      · omega
    · have := h2 _ e; omega
    · have := h2 _ e; omega
  case abA =>
    rintro s x a' X Y Y' A B ⟨h1, hm, B7, h3, h4, h5, h6, h7⟩ hk hy
    refine ⟨InvW.ab _ _ _ _ _ _ h1 hk hy, hm, B7, h3.kx hk h5, h4, fun e => ?_, h6, h7⟩
    rcases hy _ e with e | e
    · exact h5 e
    · have := h3.1.1; omega
  case assign =>
    rintro l1 pre x X Y W K hI hG hD hK
    have HK := Lib.hid hK
    have HI := Lib.hid hI
    have HG := Lib.hid hG
    clear hK hI hG
    dsimp only [encO]
    gi_wp2
    refine HK.out _ X _ ⟨InvW.ab _ _ _ _ _ _ HI.out (Kx.al _ _ _) (fun i e => .inl e), HG.out.1, W.heap.size, Own.new _ [_, _] 45 _ rfl, fun e => ?_, fun e => ?_, HI.out.2.2.1.size, rfl⟩ (Kx.al _ _ _) (fun i e => ⟨?_, .inl e⟩)
    · have := hD.x _ e; omega
    · have := hD.y _ e; omega
    · have := hD.x _ e; simp; omega
  case body =>
    rintro l1 pre ⟨k, lo, tp⟩ a' X Y W ⟨⟨rfl, hY, hg, hpre⟩, hm, B7, h7, hn1, hn2, hn3, rfl⟩ hD hYl hrec
    obtain ⟨hk, hx⟩ := loadsL_mem hm
    dsimp only at hk hx h7
    dsimp only
    obtain ⟨xl, hxl⟩ : ∃ xl, l[k]? = some xl := ⟨l[k], by simp [hk]⟩
    obtain ⟨y1, y2, y3⟩ := HB.out xl (List.mem_of_getElem? hxl)
    obtain ⟨c, off, rfl, hc, r0, r1, r2, r3⟩ := LRow.get (HR.out.grow (G4.out.tr hg)) hxl
    have ehi : tp = sumHi (l.drop (k + 1)) := by injection hx with _ e; injection e
    have E : weakAt l keep k = decide (xl.sl * keep / 1000 < tp) := by simp [weakAt, hxl, ehi]
    have i2 := (O2.out.keep hg).1.c1
    have i3 := (O3.out.keep hg).1.c1
    obtain ⟨j0, j1⟩ := h7.1.c2
    have H7 := Lib.hid h7
    have HG := Lib.hid hg
    have HY := Lib.hid hY
    have HP := Lib.hid hpre
    have HE := Lib.hid E
    have HI := Lib.hid (show InvW l keep X w4 pre X Y W from ⟨rfl, hY, hg, hpre⟩)
    clear hg hY hpre hm hx hxl ehi E h7 hD hYl hrec hn1 hn2
    gi_wp2
    refine wpIn_region_facts 8 [(1, 0), (4, 2), (4, 3), (5, 4), (7, 5), (7, 6)] (fun x => ⟨#[.slice (some ⟨c, off, none⟩) l.length cap, .int .i64 keep, .pointer (some ⟨w.heap.size, 0, none⟩), .pointer (some ⟨(w.heap.size + 1), 0, none⟩), .pointer (some ⟨(w.heap.size + 1 + 1), 0, none⟩), .pointer (some ⟨(w.heap.size + 1 + 1 + 1), 0, none⟩), .int .i64 (k : Int), .pointer (some ⟨B7, 0, none⟩), .slice (some ⟨c, off, none⟩) l.length cap, .func (.func 100) #[] #[.pointer (some ⟨b, 0, none⟩)], .int .i64 (k : Int), .agg #[.int .i64 lo, .int .i64 tp], x 0, x 1, x 2, x 3, x 4, x 5, x 6, x 7, undef, undef], []⟩) (fun _ => undef) [fun _ x => x = .pointer (some ⟨B7, 1, none⟩), fun _ x => x = .int .i64 tp, fun _ x => x = .slice (some ⟨c, off, none⟩) l.length cap, fun _ x => x = .int .i64 (k : Int), fun _ x => x = .pointer (some ⟨c, off + k * 4, none⟩), fun _ x => x = .agg #[.int .i64 xl.sl, .int .i64 xl.sh, .int .i64 xl.wl, .int .i64 xl.wh], fun _ x => x = .int .i64 keep, fun _ x => x = .int .i64 (xl.sl * keep / 1000)] (by rfl) (by kernel_rfl) (by kernel_rfl) (by kernel_rfl) (by kernel_rfl) (by rintro ⟨_, _, h⟩; exact h) (stays_cons (Stays.eq _) (stays_cons (Stays.eq _) (stays_cons (Stays.eq _) (stays_cons (Stays.eq _) (stays_cons (Stays.eq _) (stays_cons (Stays.eq _) (stays_cons (Stays.eq _) (stays_cons (Stays.eq _) stays_nil)))))))) ?step4 ?fin4
    case step4 =>
      rintro i hi x v gv hd K hK
      have hi8 : i = 0 ∨ i = 1 ∨ i = 2 ∨ i = 3 ∨ i = 4 ∨ i = 5 ∨ i = 6 ∨ i = 7 := by omega
      rcases hi8 with rfl | rfl | rfl | rfl | rfl | rfl | rfl | rfl
      · show wpOp Try.prog _ _ 0 K (⟨#[.slice (some ⟨c, off, none⟩) l.length cap, .int .i64 keep, .pointer (some ⟨w.heap.size, 0, none⟩), .pointer (some ⟨(w.heap.size + 1), 0, none⟩), .pointer (some ⟨(w.heap.size + 1 + 1), 0, none⟩), .pointer (some ⟨(w.heap.size + 1 + 1 + 1), 0, none⟩), .int .i64 (k : Int), .pointer (some ⟨B7, 0, none⟩), .slice (some ⟨c, off, none⟩) l.length cap, .func (.func 100) #[] #[.pointer (some ⟨b, 0, none⟩)], .int .i64 (k : Int), .agg #[.int .i64 lo, .int .i64 tp], x 0, x 1, x 2, x 3, x 4, x 5, x 6, x 7, undef, undef], []⟩ : Act) v
        refine wpOp_step rfl (fun K' hK' => ?_)
        go_simp
        exact hK' _ _ (hK _ _ (Below.refl _ _) (at_of rfl (rfl)))
      · obtain ⟨x, rfl⟩ := upd_of (show x 0 = .pointer (some ⟨B7, 1, none⟩) from hd 0 _ (by simp) rfl)
        show wpOp Try.prog _ _ 1 K (⟨#[.slice (some ⟨c, off, none⟩) l.length cap, .int .i64 keep, .pointer (some ⟨w.heap.size, 0, none⟩), .pointer (some ⟨(w.heap.size + 1), 0, none⟩), .pointer (some ⟨(w.heap.size + 1 + 1), 0, none⟩), .pointer (some ⟨(w.heap.size + 1 + 1 + 1), 0, none⟩), .int .i64 (k : Int), .pointer (some ⟨B7, 0, none⟩), .slice (some ⟨c, off, none⟩) l.length cap, .func (.func 100) #[] #[.pointer (some ⟨b, 0, none⟩)], .int .i64 (k : Int), .agg #[.int .i64 lo, .int .i64 tp], .pointer (some ⟨B7, 1, none⟩), x 1, x 2, x 3, x 4, x 5, x 6, x 7, undef, undef], []⟩ : Act) v
        refine wpOp_step rfl (fun K' hK' => ?_)
        have q := gv.keep j1
        go_simp
        exact hK' _ _ (hK _ _ (Below.refl _ _) (at_of rfl (rfl)))
      · show wpOp Try.prog _ _ 2 K (⟨#[.slice (some ⟨c, off, none⟩) l.length cap, .int .i64 keep, .pointer (some ⟨w.heap.size, 0, none⟩), .pointer (some ⟨(w.heap.size + 1), 0, none⟩), .pointer (some ⟨(w.heap.size + 1 + 1), 0, none⟩), .pointer (some ⟨(w.heap.size + 1 + 1 + 1), 0, none⟩), .int .i64 (k : Int), .pointer (some ⟨B7, 0, none⟩), .slice (some ⟨c, off, none⟩) l.length cap, .func (.func 100) #[] #[.pointer (some ⟨b, 0, none⟩)], .int .i64 (k : Int), .agg #[.int .i64 lo, .int .i64 tp], x 0, x 1, x 2, x 3, x 4, x 5, x 6, x 7, undef, undef], []⟩ : Act) v
        refine wpOp_step rfl (fun K' hK' => ?_)
        have q := gv.keep i2
        go_simp
        exact hK' _ _ (hK _ _ (Below.refl _ _) (at_of rfl (rfl)))
      · show wpOp Try.prog _ _ 3 K (⟨#[.slice (some ⟨c, off, none⟩) l.length cap, .int .i64 keep, .pointer (some ⟨w.heap.size, 0, none⟩), .pointer (some ⟨(w.heap.size + 1), 0, none⟩), .pointer (some ⟨(w.heap.size + 1 + 1), 0, none⟩), .pointer (some ⟨(w.heap.size + 1 + 1 + 1), 0, none⟩), .int .i64 (k : Int), .pointer (some ⟨B7, 0, none⟩), .slice (some ⟨c, off, none⟩) l.length cap, .func (.func 100) #[] #[.pointer (some ⟨b, 0, none⟩)], .int .i64 (k : Int), .agg #[.int .i64 lo, .int .i64 tp], x 0, x 1, x 2, x 3, x 4, x 5, x 6, x 7, undef, undef], []⟩ : Act) v
        refine wpOp_step rfl (fun K' hK' => ?_)
        go_simp
        exact hK' _ _ (hK _ _ (Below.refl _ _) (at_of rfl (rfl)))
      · obtain ⟨x, rfl⟩ := upd_of (show x 2 = .slice (some ⟨c, off, none⟩) l.length cap from hd 2 _ (by simp) rfl)
        obtain ⟨x, rfl⟩ := upd_of (show x 3 = .int .i64 (k : Int) from hd 3 _ (by simp) rfl)
        show wpOp Try.prog _ _ 4 K (⟨#[.slice (some ⟨c, off, none⟩) l.length cap, .int .i64 keep, .pointer (some ⟨w.heap.size, 0, none⟩), .pointer (some ⟨(w.heap.size + 1), 0, none⟩), .pointer (some ⟨(w.heap.size + 1 + 1), 0, none⟩), .pointer (some ⟨(w.heap.size + 1 + 1 + 1), 0, none⟩), .int .i64 (k : Int), .pointer (some ⟨B7, 0, none⟩), .slice (some ⟨c, off, none⟩) l.length cap, .func (.func 100) #[] #[.pointer (some ⟨b, 0, none⟩)], .int .i64 (k : Int), .agg #[.int .i64 lo, .int .i64 tp], x 0, x 1, .slice (some ⟨c, off, none⟩) l.length cap, .int .i64 (k : Int), x 4, x 5, x 6, x 7, undef, undef], []⟩ : Act) v
        refine wpOp_step rfl (fun K' hK' => ?_)
        go_simp
        exact hK' _ _ (hK _ _ (Below.refl _ _) (at_of rfl (rfl)))
      · obtain ⟨x, rfl⟩ := upd_of (show x 4 = .pointer (some ⟨c, off + k * 4, none⟩) from hd 4 _ (by simp) rfl)
        show wpOp Try.prog _ _ 5 K (⟨#[.slice (some ⟨c, off, none⟩) l.length cap, .int .i64 keep, .pointer (some ⟨w.heap.size, 0, none⟩), .pointer (some ⟨(w.heap.size + 1), 0, none⟩), .pointer (some ⟨(w.heap.size + 1 + 1), 0, none⟩), .pointer (some ⟨(w.heap.size + 1 + 1 + 1), 0, none⟩), .int .i64 (k : Int), .pointer (some ⟨B7, 0, none⟩), .slice (some ⟨c, off, none⟩) l.length cap, .func (.func 100) #[] #[.pointer (some ⟨b, 0, none⟩)], .int .i64 (k : Int), .agg #[.int .i64 lo, .int .i64 tp], x 0, x 1, x 2, x 3, .pointer (some ⟨c, off + k * 4, none⟩), x 5, x 6, x 7, undef, undef], []⟩ : Act) v
        refine wpOp_step rfl (fun K' hK' => ?_)
        have q0 := gv.keep r0
        have q1 := gv.keep r1
        have q2 := gv.keep r2
        have q3 := gv.keep r3
        go_simp
        exact hK' _ _ (hK _ _ (Below.refl _ _) (at_of rfl (rfl)))
      · show wpOp Try.prog _ _ 6 K (⟨#[.slice (some ⟨c, off, none⟩) l.length cap, .int .i64 keep, .pointer (some ⟨w.heap.size, 0, none⟩), .pointer (some ⟨(w.heap.size + 1), 0, none⟩), .pointer (some ⟨(w.heap.size + 1 + 1), 0, none⟩), .pointer (some ⟨(w.heap.size + 1 + 1 + 1), 0, none⟩), .int .i64 (k : Int), .pointer (some ⟨B7, 0, none⟩), .slice (some ⟨c, off, none⟩) l.length cap, .func (.func 100) #[] #[.pointer (some ⟨b, 0, none⟩)], .int .i64 (k : Int), .agg #[.int .i64 lo, .int .i64 tp], x 0, x 1, x 2, x 3, x 4, x 5, x 6, x 7, undef, undef], []⟩ : Act) v
        refine wpOp_step rfl (fun K' hK' => ?_)
        have q := gv.keep i3
        go_simp
        exact hK' _ _ (hK _ _ (Below.refl _ _) (at_of rfl (rfl)))
      · obtain ⟨x, rfl⟩ := upd_of (show x 5 = .agg #[.int .i64 xl.sl, .int .i64 xl.sh, .int .i64 xl.wl, .int .i64 xl.wh] from hd 5 _ (by simp) rfl)
        obtain ⟨x, rfl⟩ := upd_of (show x 6 = .int .i64 keep from hd 6 _ (by simp) rfl)
        show wpOp Try.prog _ _ 7 K (⟨#[.slice (some ⟨c, off, none⟩) l.length cap, .int .i64 keep, .pointer (some ⟨w.heap.size, 0, none⟩), .pointer (some ⟨(w.heap.size + 1), 0, none⟩), .pointer (some ⟨(w.heap.size + 1 + 1), 0, none⟩), .pointer (some ⟨(w.heap.size + 1 + 1 + 1), 0, none⟩), .int .i64 (k : Int), .pointer (some ⟨B7, 0, none⟩), .slice (some ⟨c, off, none⟩) l.length cap, .func (.func 100) #[] #[.pointer (some ⟨b, 0, none⟩)], .int .i64 (k : Int), .agg #[.int .i64 lo, .int .i64 tp], x 0, x 1, x 2, x 3, x 4, .agg #[.int .i64 xl.sl, .int .i64 xl.sh, .int .i64 xl.wl, .int .i64 xl.wh], .int .i64 keep, x 7, undef, undef], []⟩ : Act) v
        refine wpOp_step rfl (fun K' hK' => ?_)
        go_simp
        refine (bears_any xl.sl xl.sh xl.wl xl.wh keep y2 y3 k0 k1 v).mono ?_
        rintro e v' ⟨rfl, hg⟩
        exact hK' _ _ (hK _ _ hg (at_of rfl (rfl)))
    case fin4 =>
      rintro x v gv hd
      obtain ⟨x, rfl⟩ := upd_of (show x 1 = .int .i64 tp from hd 1 _ (by omega) rfl)
      obtain ⟨x, rfl⟩ := upd_of (show x 7 = .int .i64 (xl.sl * keep / 1000) from hd 7 _ (by omega) rfl)
      clear hd
      show wpList Try.prog _ _ (List.drop 8 _) (⟨#[.slice (some ⟨c, off, none⟩) l.length cap, .int .i64 keep, .pointer (some ⟨w.heap.size, 0, none⟩), .pointer (some ⟨(w.heap.size + 1), 0, none⟩), .pointer (some ⟨(w.heap.size + 1 + 1), 0, none⟩), .pointer (some ⟨(w.heap.size + 1 + 1 + 1), 0, none⟩), .int .i64 (k : Int), .pointer (some ⟨B7, 0, none⟩), .slice (some ⟨c, off, none⟩) l.length cap, .func (.func 100) #[] #[.pointer (some ⟨b, 0, none⟩)], .int .i64 (k : Int), .agg #[.int .i64 lo, .int .i64 tp], x 0, .int .i64 tp, x 2, x 3, x 4, x 5, x 6, .int .i64 (xl.sl * keep / 1000), undef, undef], []⟩ : Act) v
      simp only [List.drop_succ_cons, List.drop_zero]
      clear i2 i3 j0 j1 r0 r1 r2 r3
      cases hd : decide (xl.sl * keep / 1000 < tp) with
      | false =>
        go_wp2
        have hd0 := hd
        clear hd
        gi_wp2
        have hgv := Lib.hid gv
        refine ⟨Kx.gr gv, X, InvW.next HE.out hd0 HI.out gv, fun i e => ⟨by have := Hx0.out i e; have := gv.size; have := HG.out.size; omega, .inl e⟩⟩
      | true =>
        go_wp2
        have d4 := ((O4.out.keep HG.out).keep gv)
        have d5 := ((O5.out.keep HG.out).keep gv)
        have e4 := d4.1.c1
        have e5 := d5.1.c1
        have z4 := d4.2 0
        have z5 := d5.2 0
        have n45 : ¬ w.heap.size + 1 + 1 = w.heap.size + 1 + 1 + 1 := by omega
        have n54 : ¬ w.heap.size + 1 + 1 + 1 = w.heap.size + 1 + 1 := by omega
        have D4 := Lib.hid d4
        have D5 := Lib.hid d5
        clear d4 d5
        gi_wp2
        have x4 : X (w.heap.size + 1 + 1) := by rw [HX0.out]; exact .inl rfl
        have x5 : X (w.heap.size + 1 + 1 + 1) := by rw [HX0.out]; exact .inr rfl
        have kk : Kx X W ((v.setCell ⟨w.heap.size + 1 + 1, 0, none⟩ (.int .i64 (k : Int))).setCell ⟨w.heap.size + 1 + 1 + 1, 0, none⟩ (.bool true)) :=
          (Kx.gr gv).tr ((Kx.set (Z := X) (p := ⟨w.heap.size + 1 + 1, 0, none⟩) x4 _).tr (Kx.set (Z := X) (p := ⟨w.heap.size + 1 + 1 + 1, 0, none⟩) x5 _))
        refine ⟨kk, rfl, HY.out, (Kx.gr HG.out).tr kk, pre, (k, lo, tp), rfl, HP.out, by show weakAt l keep k = true; rw [HE.out, hd], ?_, ?_⟩
        · exact (D4.out.set (i := 0) (v := .int .i64 (k : Int)) (by simp)).other n45
        · exact (D5.out.other n54).set (i := 0) (v := .bool true) (by simp)
  case done =>
    rintro D xs X Y W hD rfl ⟨rfl, hY, hg, hpre⟩ hYD hK
    have d4 := O4.out.keep hg
    have d5 := O5.out.keep hg
    have e4 := d4.1.c1
    have e5 := d5.1.c1
    have z4 := d4.2 0
    have z5 := d5.2 0
    have n45 : ¬ w.heap.size + 1 + 1 = w.heap.size + 1 + 1 + 1 := by omega
    have n54 : ¬ w.heap.size + 1 + 1 + 1 = w.heap.size + 1 + 1 := by omega
    have D4 := Lib.hid d4
    have D5 := Lib.hid d5
    have HG := Lib.hid (G4.out.tr hg)
    have HD := Lib.hid hD
    have HK := Lib.hid hK
    have HP := Lib.hid hpre
    clear d4 d5 hg hD hK hpre hY hYD
    gi_wp2
    have oz : Own ((W.setCell ⟨w.heap.size + 1 + 1, 0, none⟩ (.int .i64 0)).setCell ⟨w.heap.size + 1 + 1 + 1, 0, none⟩ (.bool false)) (w.heap.size + 1 + 1) [.int .i64 0] := (D4.out.set (i := 0) (v := .int .i64 0) (by simp)).other n45
    have oy : Own ((W.setCell ⟨w.heap.size + 1 + 1, 0, none⟩ (.int .i64 0)).setCell ⟨w.heap.size + 1 + 1 + 1, 0, none⟩ (.bool false)) (w.heap.size + 1 + 1 + 1) [.bool false] := (D5.out.other n54).set (i := 0) (v := .bool false) (by simp)
    have gz : Gr w ((W.setCell ⟨w.heap.size + 1 + 1, 0, none⟩ (.int .i64 0)).setCell ⟨w.heap.size + 1 + 1 + 1, 0, none⟩ (.bool false)) :=
      (HG.out.setCell (p := ⟨w.heap.size + 1 + 1, 0, none⟩) (by dsimp only; omega) _).setCell (p := ⟨w.heap.size + 1 + 1 + 1, 0, none⟩) (by dsimp only; omega) _
    have hD := HD.out
    refine leaves_marks [D] _ (fun E hE => ?_) (by simp) fun w' hk => ?_
    · simp only [List.mem_singleton] at hE
      subst hE
      exact (Below.heap_setCell _ _ _ _ (by dsimp only; omega)).trans ((Below.heap_setCell _ _ _ _ (by dsimp only; omega)).trans HK.out)
    · have p0 := (oz.kx hk (fun e => by simp only [List.mem_singleton] at e; omega)).1.c1
      have p1 := (oy.kx hk (fun e => by simp only [List.mem_singleton] at e; omega)).1.c1
      refine ⟨.tuple #[.int .i64 0, .bool false], by simp [results, Try.results77, go_sem, p0, p1], ?_, Kx.toGr ((Kx.gr (Z := noBlock) gz).th hk fun i e => ?_)⟩
      · unfold weakV
        rw [weakO_none (fun k hk => HP.out _ (List.mem_of_getElem? (loadsL_at hk)))]
      · simp only [List.mem_singleton] at e
        exact .inr (by omega)
  case stop =>
    rintro D c pre Y W hD ⟨m, hm, hpm⟩ ⟨rfl, hY, hk, pre', x, rfl, hp, hx, d4, d5⟩ hYD hK
    gi_wp2
    refine leaves_marks [D] _ (fun E hE => ?_) (by simp) fun w' hk' => ?_
    · simp only [List.mem_singleton] at hE
      subst hE
      exact hK
    · have p0 := (d4.kx hk' (fun e => by simp only [List.mem_singleton] at e; omega)).1.c1
      have p1 := (d5.kx hk' (fun e => by simp only [List.mem_singleton] at e; omega)).1.c1
      refine ⟨.tuple #[.int .i64 (x.1 : Int), .bool true], by simp [results, Try.results77, go_sem, p0, p1], ?_, Kx.toGr (((Kx.gr (Z := noBlock) G4.out).th hk fun i e => ?_).th hk' fun i e => ?_)⟩
      · unfold weakV
        obtain ⟨h1, h2, h3⟩ := first_weak hpm hp hx
        rw [weakO_some h1 h2 h3]
      · have := Hx0.out i e
        exact .inr (by omega)
      · simp only [List.mem_singleton] at e
        exact .inr (by omega)

end Go.Proofs.Ytkfhmfidgdpeiaa
