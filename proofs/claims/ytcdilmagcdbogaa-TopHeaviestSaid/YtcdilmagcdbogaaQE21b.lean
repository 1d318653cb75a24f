/- crush's weak: the lowest box that does not hold. crush's truths: the iterator's contract. (Made by gen_i8.py.) slices.Grow of nil, slices.Concat of two rows of ints. crush: what a lot's truths are made of. crush: whether a lot passes at an end of its truths. (Made by gen_i11.py.) crush's weight of a set. (Made by gen_i21.py from XI21.part.) A map from int to bool that a call makes; a set without one of its numbers. crush's lowest box of a set. (Made by gen_i23.py from XI23.part.) crush's pileOf: which sets stand. crush's order of a pile. The list of a set's numbers: slices.Collect of crush's members. slices.Compare of ints; crush's most. crush.Odd. The fewest readings that are left out: the least list of all sets is one of the windows'. crush: what is known of a lot (state), Decide. -/
import Derived.Test.YtcdilmagcdbogaaQE21a
import Derived.Deep.MidRow
import Derived.Lib.AppendZerosOnto
import Derived.Lib.SliceRun
import Derived.Laws.Append
import Derived.Deep.OwnRows
import Derived.Laws.AppendOwnNone
import Derived.Laws.AppendOwn
import Derived.OwnWalk
import Derived.OwnWalkIn
import Derived.Test.YtcdilmagcdbogaaShelf
namespace Go.Proofs.Ytcdilmagcdbogaa
set_option linter.unusedVariables false
set_option linter.unusedSimpArgs false
open Go.RowKit Go.Shelf
attribute [local go_sem] Oper.semAt_some

def markD (D : Nat) : Deferred := { target := .collected D, args := #[] }

theorem leaves_marks {F : Fence} {n : Nat} {P : Program} {fn : Func} {tmps : Array Value} {R : Ending → World → Prop} : ∀ (Ds : List Nat) (w : World), (∀ D ∈ Ds, w.heap[D]? = some (.deferred (some []))) → Ds.Nodup →
    (∀ w', Kx (fun b => b ∈ Ds) w w' → LeavesIn F n P fn tmps R [] .returning w') → LeavesInM F n P fn tmps R (Ds.map markD) .returning w
  | [], w, _, _, h => h w (Kx.refl _ _)
  | D :: Ds, w, hm, hn, h => by
    have hD := hm D (by simp)
    obtain ⟨hn1, hn2⟩ := List.nodup_cons.1 hn
    refine ⟨by simp, .inl ⟨D, _, rfl, run_takeDeferred hD, leaves_marks Ds _ (fun E hE => ?_) hn2 (fun w' hk => h w' ?_)⟩⟩
    · exact (World.putObj_heap_other (k := E) (r := D) (by rintro rfl; exact hn1 hE)).trans (hm E (by simp [hE]))
    · exact (Kx.put (Z := fun b => b ∈ D :: Ds) (by simp) _).th hk fun i e => .inl (by simp [e])

/-- Whether the box at a place bears less than lies on it. -/
def weakAt (l : List Ld) (keep : Int) (k : Nat) : Bool := match l[k]? with
  | some x => decide (x.sl * keep / 1000 < sumHi (l.drop (k + 1)))
  | none => false

def weakO (l : List Ld) (keep : Int) : Option Nat := (List.range l.length).find? (weakAt l keep)

def weakV (l : List Ld) (keep : Int) : Value := match weakO l keep with
  | none => .tuple #[.int .i64 0, .bool false]
  | some k => .tuple #[.int .i64 (k : Int), .bool true]

def LdOk (x : Ld) : Prop := LdB x ∧ 0 ≤ x.sl ∧ x.sl ≤ 20000000

theorem loads_any' (l : List Ld) (a : Option Addr) (cap : Nat) (w : World) :
    Calls Try.prog 87 #[.slice a l.length cap] w fun e w' => ∃ b, e = .returned (.func (.func 120) #[] #[.pointer (some ⟨b, 0, none⟩)]) ∧ w.heap.size ≤ b ∧ Own w' b [.slice a l.length cap] ∧ Gr w w' :=
  (loads_any l a cap w).mono fun _ _ h => ⟨w.heap.size, h.1, Nat.le_refl _, h.2.1, h.2.2⟩

theorem weakO_none {l : List Ld} {keep : Int} (h : ∀ k, k < l.length → weakAt l keep k = false) : weakO l keep = none := by
  unfold weakO
  rw [List.find?_range_eq_none]
  intro i tp
  simp [h i tp]

theorem weakO_some {l : List Ld} {keep : Int} {k : Nat} (hk : k < l.length) (h1 : weakAt l keep k = true) (h : ∀ j, j < k → weakAt l keep j = false) : weakO l keep = some k := by
  unfold weakO
  rw [List.find?_range_eq_some]
  exact ⟨h1, List.mem_range.2 hk, fun j hj => by simp [h j hj]⟩

theorem loadsL_at {l : List Ld} {k : Nat} (hk : k < l.length) : (loadsL l)[k]? = some (k, sumLo (l.drop (k + 1)), sumHi (l.drop (k + 1))) := by simp [loadsL, hk]

theorem loadsL_mem {l : List Ld} {x : Nat × Int × Int} (h : x ∈ loadsL l) : x.1 < l.length ∧ x = (x.1, sumLo (l.drop (x.1 + 1)), sumHi (l.drop (x.1 + 1))) := by
  obtain ⟨k, hk, rfl⟩ := List.mem_map.1 h
  exact ⟨List.mem_range.1 hk, rfl⟩

theorem first_weak {l : List Ld} {keep : Int} {m : Nat} {pre : List (Nat × Int × Int)} {x : Nat × Int × Int} (h : pre ++ [x] = (loadsL l).take m) (hp : ∀ y ∈ pre, weakAt l keep y.1 = false) (hx : weakAt l keep x.1 = true) :
    x.1 < l.length ∧ weakAt l keep x.1 = true ∧ ∀ j, j < x.1 → weakAt l keep j = false := by
  have hq : ((loadsL l).take m)[pre.length]? = some x := by rw [← h]; simp
  have hm : pre.length < m := by
    have := (List.getElem?_eq_some_iff.1 hq).1
    simp at this
    omega
  rw [List.getElem?_take_of_lt hm] at hq
  have hlen : pre.length < l.length := by
    have := (List.getElem?_eq_some_iff.1 hq).1
    simpa [loadsL] using this
  rw [loadsL_at hlen] at hq
  injection hq with hq
  have e : x.1 = pre.length := by rw [← hq]
  refine ⟨by omega, hx, fun j hj => ?_⟩
  have hj' : j < pre.length := by omega
  have h1 : (loadsL l)[j]? = some pre[j] := by
    have : ((loadsL l).take m)[j]? = some pre[j] := by rw [← h, List.getElem?_append_left hj']; simp
    rwa [List.getElem?_take_of_lt (by omega)] at this
  rw [loadsL_at (by omega)] at h1
  injection h1 with h1
  have h2 := hp pre[j] (List.getElem_mem hj')
  rw [← h1] at h2
  exact h2

/-- While weak looks: what the rounds have not turned; no box that has come is weak. -/
def InvW (l : List Ld) (keep : Int) (X0 : Nat → Prop) (w4 : World) (pre : List (Nat × Int × Int)) (X Y : Nat → Prop) (W : World) : Prop :=
  X = X0 ∧ (∀ i, Y i → w4.heap.size ≤ i) ∧ Gr w4 W ∧ ∀ y ∈ pre, weakAt l keep y.1 = false

theorem InvW.ab {l : List Ld} {keep : Int} {X0 : Nat → Prop} {w4 : World} (s : List (Nat × Int × Int)) (X : Nat → Prop) : Ab (InvW l keep X0 w4 s X) := by
  rintro Y Y' A B ⟨h1, h2, h3, h4⟩ hk hy
  have hs := h3.size
  refine ⟨h1, fun i e => ?_, Kx.toGr ((Kx.gr (Z := noBlock) h3).th hk fun i e => .inr (h2 i e)), h4⟩
  rcases hy i e with e | e
  · exact h2 i e
  · omega

theorem InvW.next {l : List Ld} {keep s t : Int} {X0 : Nat → Prop} {w4 : World} {pre : List (Nat × Int × Int)} {k : Nat} {lo tp : Int} {X Y : Nat → Prop} {W W' : World} (hE : weakAt l keep k = decide (s < t)) (hd : decide (s < t) = false)
    (h : InvW l keep X0 w4 pre X Y W) (g : Gr W W') : InvW l keep X0 w4 (pre ++ [(k, lo, tp)]) X Y W' := by
  obtain ⟨h1, h2, h3, h4⟩ := h
  refine ⟨h1, h2, h3.tr g, fun y hy => ?_⟩
  rcases List.mem_append.1 hy with hy | hy
  · exact h4 y hy
  · simp only [List.mem_singleton] at hy
    subst hy
    rw [hE, hd]

/-- It has found one. -/
def FndW (l : List Ld) (keep : Int) (X0 : Nat → Prop) (w4 : World) (b4 b5 : Nat) (c : Code) (pre : List (Nat × Int × Int)) (Y : Nat → Prop) (W : World) : Prop :=
  c = .ret ∧ (∀ i, Y i → w4.heap.size ≤ i) ∧ Kx X0 w4 W ∧ ∃ pre' x, pre = pre' ++ [x] ∧ (∀ y ∈ pre', weakAt l keep y.1 = false) ∧ weakAt l keep x.1 = true ∧ Own W b4 [.int .i64 (x.1 : Int)] ∧ Own W b5 [.bool true]

set_option maxRecDepth 100000 in
set_option maxHeartbeats 4000000 in
theorem weak_any (l : List Ld) (hl : l.length ≤ 1000) (hB : ∀ x ∈ l, LdOk x) (keep : Int) (k0 : 0 ≤ keep) (k1 : keep ≤ 1000) (a : Option Addr) (cap : Nat) (w : World) (hr : LRow w a l) :
    Calls Try.prog 90 #[.slice a l.length cap, .int .i64 keep] w fun e w' => e = .returned (weakV l keep) ∧ Gr w w' := by
  refine (callsIn_wide (n := 20)).1 ?_
  have gg := ((Gr.al w (.cells #[.slice a l.length cap] 53)).tr (Gr.al _ (.cells #[.int .i64 keep] 3))).tr ((Gr.al _ (.cells #[.int .i64 0] 3)).tr (Gr.al _ (.cells #[.bool false] 4)))
  have o2 := (Own.new w [.slice a l.length cap] 53 w.heap.size rfl).keep ((Gr.al _ (.cells #[.int .i64 keep] 3)).tr ((Gr.al _ (.cells #[.int .i64 0] 3)).tr (Gr.al _ (.cells #[.bool false] 4))))
  have o3 := (Own.new (w.alloc (.cells #[.slice a l.length cap] 53)) [.int .i64 keep] 3 (w.heap.size + 1) (by simp)).keep ((Gr.al _ (.cells #[.int .i64 0] 3)).tr (Gr.al _ (.cells #[.bool false] 4)))
  have o4 := (Own.new ((w.alloc (.cells #[.slice a l.length cap] 53)).alloc (.cells #[.int .i64 keep] 3)) [.int .i64 0] 3 (w.heap.size + 1 + 1) (by simp)).keep (Gr.al _ (.cells #[.bool false] 4))
  have o5 := Own.new (((w.alloc (.cells #[.slice a l.length cap] 53)).alloc (.cells #[.int .i64 keep] 3)).alloc (.cells #[.int .i64 0] 3)) [.bool false] 4 (w.heap.size + 1 + 1 + 1) (by simp)
  have q2 := o2.1.c1
  refine callsIn_of_wp_marks Try.func90 rfl trivial ?_ rfl
  simp only [Try.ntmps90, List.size_toArray, List.length_cons, List.length_nil, Nat.reduceAdd, Nat.reduceSub, Array.replicate_succ, Array.replicate_zero, List.push_toArray, List.append_toArray, List.nil_append, List.cons_append]
  gi_wp2_with (refine ⟨trivial, ?_⟩; gi_at_call 87; refine (callsIn_wide.2 (loads_any' l a cap _)).mono ?_; rintro e w4 ⟨b, rfl, hb, hO, h4⟩; have HO := Lib.hid hO; have O2 := Lib.hid (o2.keep h4); have O3 := Lib.hid (o3.keep h4); have O4 := Lib.hid (o4.keep h4); have O5 := Lib.hid (o5.keep h4); have G4 := Lib.hid (gg.tr h4); clear hO h4)
  have hb4 : w.heap.size + 4 ≤ b := by simpa using hb
  have s4 : w.heap.size + 4 ≤ w4.heap.size := by have := O5.out.1.1; omega
  clear hb gg o2 o3 o4 o5 q2
  obtain ⟨X0, hX0⟩ : ∃ X0 : Nat → Prop, X0 = fun i => i = w.heap.size + 1 + 1 ∨ i = w.heap.size + 1 + 1 + 1 := ⟨_, rfl⟩
  have x0 : ∀ i, X0 i → i < w.heap.size + 4 ∧ w.heap.size + 2 ≤ i := fun i e => by rw [hX0] at e; rcases e with e | e <;> omega
  have hst : St X0 (fun V => Own V b [.slice a l.length cap] ∧ LRow V a l) w4 := fun B hB => by
    refine ⟨HO.out.kx hB fun e => by have := x0 _ e; omega, ?_⟩
    by_cases h0 : 0 < l.length
    · obtain ⟨b2, off2, e2, hb2, _⟩ := hr.2 0 l[0] (by simp)
      refine RowOf.kx (hr.grow G4.out) hB fun b' off e e' => ?_
      have := x0 _ e'
      rw [e] at e2
      injection e2 with e2
      injection e2 with e2 _
      omega
    · obtain rfl : l = [] := by simpa using h0
      exact RowOf.nil
  have HX0 := Lib.hid hX0
  have Hx0 := Lib.hid x0
  have Hst := Lib.hid hst
  have HB := Lib.hid hB
  have HR := Lib.hid hr
  clear hX0 x0 hst hB hr
  refine wpIn_rangeX (F := Fence.wide) rfl (by omega) (gf := 120) (lb := #[.pointer (some ⟨b, 0, none⟩)]) rfl trivial (enters_of Try.func120 (by kernel_rfl) rfl)
    (loads_seq Fence.wide 19 trivial rfl (by omega) b a cap l hl (fun x hx => (HB.out x hx).1) X0 w4 Hst.out) (Kx.refl _ _) (fun _ => rfl) X0 (fun i e => ⟨by have := Hx0.out i e; omega, .inl e⟩)
    (InvW l keep X0 w4) (FndW l keep X0 w4 (w.heap.size + 1 + 1) (w.heap.size + 1 + 1 + 1)) (fun s X => InvW.ab s X) ?abX ?start
    (fun pre x a' X Y W => InvW l keep X0 w4 pre X Y W ∧ x ∈ loadsL l ∧ ∃ B7, Own W B7 [.int .i64 x.2.1, .int .i64 x.2.2] ∧ ¬ X B7 ∧ ¬ Y B7 ∧ w4.heap.size ≤ B7 ∧ a' = ⟨#[.slice a l.length cap, .int .i64 keep, .pointer (some ⟨w.heap.size, 0, none⟩), .pointer (some ⟨w.heap.size + 1, 0, none⟩), .pointer (some ⟨w.heap.size + 1 + 1, 0, none⟩), .pointer (some ⟨w.heap.size + 1 + 1 + 1, 0, none⟩), .int .i64 (x.1 : Int), .pointer (some ⟨B7, 0, none⟩), .slice a l.length cap, .func (.func 120) #[] #[.pointer (some ⟨b, 0, none⟩)], .int .i64 (x.1 : Int), .agg #[.int .i64 x.2.1, .int .i64 x.2.2], undef, undef, undef, undef, undef, undef, undef, undef, undef, undef], []⟩)
    ?abA ?assign ?body ?done ?stop
  case start => exact ⟨rfl, fun i e => e.elim, Below.refl _ _, fun y hy => by cases hy⟩
  case abX =>
    rintro c s Y Y' A B ⟨h1, h2, h3, pre', x, h4, h5, h6, h7, h8⟩ hk hy
    have hs := h3.size
    refine ⟨h1, fun i e => ?_, h3.th hk fun i e => .inr (h2 i e), pre', x, h4, h5, h6, h7.kx hk fun e => ?_, h8.kx hk fun e => ?_⟩
    · rcases hy i e with e | e
      · exact h2 i e
      · omega
    · have := h2 _ e; omega
    · have := h2 _ e; omega
  case abA =>
    rintro s x a' X Y Y' A B ⟨h1, hm, B7, h3, h4, h5, h6, h7⟩ hk hy
    refine ⟨InvW.ab _ _ _ _ _ _ h1 hk hy, hm, B7, h3.kx hk h5, h4, fun e => ?_, h6, h7⟩
    rcases hy _ e with e | e
    · exact h5 e
    · have := h3.1.1; omega
  case assign =>
    rintro l1 pre x X Y W K hI hG hD hK
    have HK := Lib.hid hK
    have HI := Lib.hid hI
    have HG := Lib.hid hG
    clear hK hI hG
    dsimp only [encO]
    gi_wp2
    refine HK.out _ X _ ⟨InvW.ab _ _ _ _ _ _ HI.out (Kx.al _ _ _) (fun i e => .inl e), HG.out.1, W.heap.size, Own.new _ [_, _] 45 _ rfl, fun e => ?_, fun e => ?_, HI.out.2.2.1.size, rfl⟩ (Kx.al _ _ _) (fun i e => ⟨?_, .inl e⟩)
    · have := hD.x _ e; omega
    · have := hD.y _ e; omega
    · have := hD.x _ e; simp; omega
  case body =>
    rintro l1 pre ⟨k, lo, tp⟩ a' X Y W ⟨⟨rfl, hY, hg, hpre⟩, hm, B7, h7, hn1, hn2, hn3, rfl⟩ hD hYl hrec
    obtain ⟨hk, hx⟩ := loadsL_mem hm
    dsimp only at hk hx h7
    dsimp only
    obtain ⟨xl, hxl⟩ : ∃ xl, l[k]? = some xl := ⟨l[k], by simp [hk]⟩
    obtain ⟨y1, y2, y3⟩ := HB.out xl (List.mem_of_getElem? hxl)
    obtain ⟨c, off, rfl, hc, r0, r1, r2, r3⟩ := LRow.get (HR.out.grow (G4.out.tr hg)) hxl
    have ehi : tp = sumHi (l.drop (k + 1)) := by injection hx with _ e; injection e
    have E : weakAt l keep k = decide (xl.sl * keep / 1000 < tp) := by simp [weakAt, hxl, ehi]
    have i2 := (O2.out.keep hg).1.c1
    have i3 := (O3.out.keep hg).1.c1
    obtain ⟨j0, j1⟩ := h7.1.c2
    have H7 := Lib.hid h7
    have HG := Lib.hid hg
    have HY := Lib.hid hY
    have HP := Lib.hid hpre
    have HE := Lib.hid E
    have HI := Lib.hid (show InvW l keep X w4 pre X Y W from ⟨rfl, hY, hg, hpre⟩)
    clear hg hY hpre hm hx hxl ehi E h7 hD hYl hrec hn1 hn2
    gi_wp2
    refine wpIn_region_facts 8 [(1, 0), (4, 2), (4, 3), (5, 4), (7, 5), (7, 6)] (fun x => ⟨#[.slice (some ⟨c, off, none⟩) l.length cap, .int .i64 keep, .pointer (some ⟨w.heap.size, 0, none⟩), .pointer (some ⟨(w.heap.size + 1), 0, none⟩), .pointer (some ⟨(w.heap.size + 1 + 1), 0, none⟩), .pointer (some ⟨(w.heap.size + 1 + 1 + 1), 0, none⟩), .int .i64 (k : Int), .pointer (some ⟨B7, 0, none⟩), .slice (some ⟨c, off, none⟩) l.length cap, .func (.func 120) #[] #[.pointer (some ⟨b, 0, none⟩)], .int .i64 (k : Int), .agg #[.int .i64 lo, .int .i64 tp], x 0, x 1, x 2, x 3, x 4, x 5, x 6, x 7, undef, undef], []⟩) (fun _ => undef) [fun _ x => x = .pointer (some ⟨B7, 1, none⟩), fun _ x => x = .int .i64 tp, fun _ x => x = .slice (some ⟨c, off, none⟩) l.length cap, fun _ x => x = .int .i64 (k : Int), fun _ x => x = .pointer (some ⟨c, off + k * 4, none⟩), fun _ x => x = .agg #[.int .i64 xl.sl, .int .i64 xl.sh, .int .i64 xl.wl, .int .i64 xl.wh], fun _ x => x = .int .i64 keep, fun _ x => x = .int .i64 (xl.sl * keep / 1000)] (by rfl) (by kernel_rfl) (by kernel_rfl) (by kernel_rfl) (by kernel_rfl) (by rintro ⟨_, _, h⟩; exact h) (stays_cons (Stays.eq _) (stays_cons (Stays.eq _) (stays_cons (Stays.eq _) (stays_cons (Stays.eq _) (stays_cons (Stays.eq _) (stays_cons (Stays.eq _) (stays_cons (Stays.eq _) (stays_cons (Stays.eq _) stays_nil)))))))) ?step4 ?fin4
    case step4 =>
      rintro i hi x v gv hd K hK
      have hi8 : i = 0 ∨ i = 1 ∨ i = 2 ∨ i = 3 ∨ i = 4 ∨ i = 5 ∨ i = 6 ∨ i = 7 := by omega
      rcases hi8 with rfl | rfl | rfl | rfl | rfl | rfl | rfl | rfl
      · show wpOp Try.prog _ _ 0 K (⟨#[.slice (some ⟨c, off, none⟩) l.length cap, .int .i64 keep, .pointer (some ⟨w.heap.size, 0, none⟩), .pointer (some ⟨(w.heap.size + 1), 0, none⟩), .pointer (some ⟨(w.heap.size + 1 + 1), 0, none⟩), .pointer (some ⟨(w.heap.size + 1 + 1 + 1), 0, none⟩), .int .i64 (k : Int), .pointer (some ⟨B7, 0, none⟩), .slice (some ⟨c, off, none⟩) l.length cap, .func (.func 120) #[] #[.pointer (some ⟨b, 0, none⟩)], .int .i64 (k : Int), .agg #[.int .i64 lo, .int .i64 tp], x 0, x 1, x 2, x 3, x 4, x 5, x 6, x 7, undef, undef], []⟩ : Act) v
        refine wpOp_step rfl (fun K' hK' => ?_)
        go_simp
        exact hK' _ _ (hK _ _ (Below.refl _ _) (at_of rfl (rfl)))
      · obtain ⟨x, rfl⟩ := upd_of (show x 0 = .pointer (some ⟨B7, 1, none⟩) from hd 0 _ (by simp) rfl)
        show wpOp Try.prog _ _ 1 K (⟨#[.slice (some ⟨c, off, none⟩) l.length cap, .int .i64 keep, .pointer (some ⟨w.heap.size, 0, none⟩), .pointer (some ⟨(w.heap.size + 1), 0, none⟩), .pointer (some ⟨(w.heap.size + 1 + 1), 0, none⟩), .pointer (some ⟨(w.heap.size + 1 + 1 + 1), 0, none⟩), .int .i64 (k : Int), .pointer (some ⟨B7, 0, none⟩), .slice (some ⟨c, off, none⟩) l.length cap, .func (.func 120) #[] #[.pointer (some ⟨b, 0, none⟩)], .int .i64 (k : Int), .agg #[.int .i64 lo, .int .i64 tp], .pointer (some ⟨B7, 1, none⟩), x 1, x 2, x 3, x 4, x 5, x 6, x 7, undef, undef], []⟩ : Act) v
        refine wpOp_step rfl (fun K' hK' => ?_)
        have q := gv.keep j1
        go_simp
        exact hK' _ _ (hK _ _ (Below.refl _ _) (at_of rfl (rfl)))
      · show wpOp Try.prog _ _ 2 K (⟨#[.slice (some ⟨c, off, none⟩) l.length cap, .int .i64 keep, .pointer (some ⟨w.heap.size, 0, none⟩), .pointer (some ⟨(w.heap.size + 1), 0, none⟩), .pointer (some ⟨(w.heap.size + 1 + 1), 0, none⟩), .pointer (some ⟨(w.heap.size + 1 + 1 + 1), 0, none⟩), .int .i64 (k : Int), .pointer (some ⟨B7, 0, none⟩), .slice (some ⟨c, off, none⟩) l.length cap, .func (.func 120) #[] #[.pointer (some ⟨b, 0, none⟩)], .int .i64 (k : Int), .agg #[.int .i64 lo, .int .i64 tp], x 0, x 1, x 2, x 3, x 4, x 5, x 6, x 7, undef, undef], []⟩ : Act) v
        refine wpOp_step rfl (fun K' hK' => ?_)
        have q := gv.keep i2
        go_simp
        exact hK' _ _ (hK _ _ (Below.refl _ _) (at_of rfl (rfl)))
      · show wpOp Try.prog _ _ 3 K (⟨#[.slice (some ⟨c, off, none⟩) l.length cap, .int .i64 keep, .pointer (some ⟨w.heap.size, 0, none⟩), .pointer (some ⟨(w.heap.size + 1), 0, none⟩), .pointer (some ⟨(w.heap.size + 1 + 1), 0, none⟩), .pointer (some ⟨(w.heap.size + 1 + 1 + 1), 0, none⟩), .int .i64 (k : Int), .pointer (some ⟨B7, 0, none⟩), .slice (some ⟨c, off, none⟩) l.length cap, .func (.func 120) #[] #[.pointer (some ⟨b, 0, none⟩)], .int .i64 (k : Int), .agg #[.int .i64 lo, .int .i64 tp], x 0, x 1, x 2, x 3, x 4, x 5, x 6, x 7, undef, undef], []⟩ : Act) v
        refine wpOp_step rfl (fun K' hK' => ?_)
        go_simp
        exact hK' _ _ (hK _ _ (Below.refl _ _) (at_of rfl (rfl)))
      · obtain ⟨x, rfl⟩ := upd_of (show x 2 = .slice (some ⟨c, off, none⟩) l.length cap from hd 2 _ (by simp) rfl)
        obtain ⟨x, rfl⟩ := upd_of (show x 3 = .int .i64 (k : Int) from hd 3 _ (by simp) rfl)
        show wpOp Try.prog _ _ 4 K (⟨#[.slice (some ⟨c, off, none⟩) l.length cap, .int .i64 keep, .pointer (some ⟨w.heap.size, 0, none⟩), .pointer (some ⟨(w.heap.size + 1), 0, none⟩), .pointer (some ⟨(w.heap.size + 1 + 1), 0, none⟩), .pointer (some ⟨(w.heap.size + 1 + 1 + 1), 0, none⟩), .int .i64 (k : Int), .pointer (some ⟨B7, 0, none⟩), .slice (some ⟨c, off, none⟩) l.length cap, .func (.func 120) #[] #[.pointer (some ⟨b, 0, none⟩)], .int .i64 (k : Int), .agg #[.int .i64 lo, .int .i64 tp], x 0, x 1, .slice (some ⟨c, off, none⟩) l.length cap, .int .i64 (k : Int), x 4, x 5, x 6, x 7, undef, undef], []⟩ : Act) v
        refine wpOp_step rfl (fun K' hK' => ?_)
        go_simp
        exact hK' _ _ (hK _ _ (Below.refl _ _) (at_of rfl (rfl)))
      · obtain ⟨x, rfl⟩ := upd_of (show x 4 = .pointer (some ⟨c, off + k * 4, none⟩) from hd 4 _ (by simp) rfl)
        show wpOp Try.prog _ _ 5 K (⟨#[.slice (some ⟨c, off, none⟩) l.length cap, .int .i64 keep, .pointer (some ⟨w.heap.size, 0, none⟩), .pointer (some ⟨(w.heap.size + 1), 0, none⟩), .pointer (some ⟨(w.heap.size + 1 + 1), 0, none⟩), .pointer (some ⟨(w.heap.size + 1 + 1 + 1), 0, none⟩), .int .i64 (k : Int), .pointer (some ⟨B7, 0, none⟩), .slice (some ⟨c, off, none⟩) l.length cap, .func (.func 120) #[] #[.pointer (some ⟨b, 0, none⟩)], .int .i64 (k : Int), .agg #[.int .i64 lo, .int .i64 tp], x 0, x 1, x 2, x 3, .pointer (some ⟨c, off + k * 4, none⟩), x 5, x 6, x 7, undef, undef], []⟩ : Act) v
        refine wpOp_step rfl (fun K' hK' => ?_)
        have q0 := gv.keep r0
        have q1 := gv.keep r1
        have q2 := gv.keep r2
        have q3 := gv.keep r3
        go_simp
        exact hK' _ _ (hK _ _ (Below.refl _ _) (at_of rfl (rfl)))
      · show wpOp Try.prog _ _ 6 K (⟨#[.slice (some ⟨c, off, none⟩) l.length cap, .int .i64 keep, .pointer (some ⟨w.heap.size, 0, none⟩), .pointer (some ⟨(w.heap.size + 1), 0, none⟩), .pointer (some ⟨(w.heap.size + 1 + 1), 0, none⟩), .pointer (some ⟨(w.heap.size + 1 + 1 + 1), 0, none⟩), .int .i64 (k : Int), .pointer (some ⟨B7, 0, none⟩), .slice (some ⟨c, off, none⟩) l.length cap, .func (.func 120) #[] #[.pointer (some ⟨b, 0, none⟩)], .int .i64 (k : Int), .agg #[.int .i64 lo, .int .i64 tp], x 0, x 1, x 2, x 3, x 4, x 5, x 6, x 7, undef, undef], []⟩ : Act) v
        refine wpOp_step rfl (fun K' hK' => ?_)
        have q := gv.keep i3
        go_simp
        exact hK' _ _ (hK _ _ (Below.refl _ _) (at_of rfl (rfl)))
      · obtain ⟨x, rfl⟩ := upd_of (show x 5 = .agg #[.int .i64 xl.sl, .int .i64 xl.sh, .int .i64 xl.wl, .int .i64 xl.wh] from hd 5 _ (by simp) rfl)
        obtain ⟨x, rfl⟩ := upd_of (show x 6 = .int .i64 keep from hd 6 _ (by simp) rfl)
        show wpOp Try.prog _ _ 7 K (⟨#[.slice (some ⟨c, off, none⟩) l.length cap, .int .i64 keep, .pointer (some ⟨w.heap.size, 0, none⟩), .pointer (some ⟨(w.heap.size + 1), 0, none⟩), .pointer (some ⟨(w.heap.size + 1 + 1), 0, none⟩), .pointer (some ⟨(w.heap.size + 1 + 1 + 1), 0, none⟩), .int .i64 (k : Int), .pointer (some ⟨B7, 0, none⟩), .slice (some ⟨c, off, none⟩) l.length cap, .func (.func 120) #[] #[.pointer (some ⟨b, 0, none⟩)], .int .i64 (k : Int), .agg #[.int .i64 lo, .int .i64 tp], x 0, x 1, x 2, x 3, x 4, .agg #[.int .i64 xl.sl, .int .i64 xl.sh, .int .i64 xl.wl, .int .i64 xl.wh], .int .i64 keep, x 7, undef, undef], []⟩ : Act) v
        refine wpOp_step rfl (fun K' hK' => ?_)
        go_simp
        refine (bears_any xl.sl xl.sh xl.wl xl.wh keep y2 y3 k0 k1 v).mono ?_
        rintro e v' ⟨rfl, hg⟩
        exact hK' _ _ (hK _ _ hg (at_of rfl (rfl)))
    case fin4 =>
      rintro x v gv hd
      obtain ⟨x, rfl⟩ := upd_of (show x 1 = .int .i64 tp from hd 1 _ (by omega) rfl)
      obtain ⟨x, rfl⟩ := upd_of (show x 7 = .int .i64 (xl.sl * keep / 1000) from hd 7 _ (by omega) rfl)
      clear hd
      show wpList Try.prog _ _ (List.drop 8 _) (⟨#[.slice (some ⟨c, off, none⟩) l.length cap, .int .i64 keep, .pointer (some ⟨w.heap.size, 0, none⟩), .pointer (some ⟨(w.heap.size + 1), 0, none⟩), .pointer (some ⟨(w.heap.size + 1 + 1), 0, none⟩), .pointer (some ⟨(w.heap.size + 1 + 1 + 1), 0, none⟩), .int .i64 (k : Int), .pointer (some ⟨B7, 0, none⟩), .slice (some ⟨c, off, none⟩) l.length cap, .func (.func 120) #[] #[.pointer (some ⟨b, 0, none⟩)], .int .i64 (k : Int), .agg #[.int .i64 lo, .int .i64 tp], x 0, .int .i64 tp, x 2, x 3, x 4, x 5, x 6, .int .i64 (xl.sl * keep / 1000), undef, undef], []⟩ : Act) v
      simp only [List.drop_succ_cons, List.drop_zero]
      clear i2 i3 j0 j1 r0 r1 r2 r3
      cases hd : decide (xl.sl * keep / 1000 < tp) with
      | false =>
        go_wp2
        have hd0 := hd
        clear hd
        gi_wp2
        have hgv := Lib.hid gv
        refine ⟨Kx.gr gv, X, InvW.next HE.out hd0 HI.out gv, fun i e => ⟨by have := Hx0.out i e; have := gv.size; have := HG.out.size; omega, .inl e⟩⟩
      | true =>
        go_wp2
        have d4 := ((O4.out.keep HG.out).keep gv)
        have d5 := ((O5.out.keep HG.out).keep gv)
        have e4 := d4.1.c1
        have e5 := d5.1.c1
        have z4 := d4.2 0
        have z5 := d5.2 0
        have n45 : ¬ w.heap.size + 1 + 1 = w.heap.size + 1 + 1 + 1 := by omega
        have n54 : ¬ w.heap.size + 1 + 1 + 1 = w.heap.size + 1 + 1 := by omega
        have D4 := Lib.hid d4
        have D5 := Lib.hid d5
        clear d4 d5
        gi_wp2
        have x4 : X (w.heap.size + 1 + 1) := by rw [HX0.out]; exact .inl rfl
        have x5 : X (w.heap.size + 1 + 1 + 1) := by rw [HX0.out]; exact .inr rfl
        have kk : Kx X W ((v.setCell ⟨w.heap.size + 1 + 1, 0, none⟩ (.int .i64 (k : Int))).setCell ⟨w.heap.size + 1 + 1 + 1, 0, none⟩ (.bool true)) :=
          (Kx.gr gv).tr ((Kx.set (Z := X) (p := ⟨w.heap.size + 1 + 1, 0, none⟩) x4 _).tr (Kx.set (Z := X) (p := ⟨w.heap.size + 1 + 1 + 1, 0, none⟩) x5 _))
        refine ⟨kk, rfl, HY.out, (Kx.gr HG.out).tr kk, pre, (k, lo, tp), rfl, HP.out, by show weakAt l keep k = true; rw [HE.out, hd], ?_, ?_⟩
        · exact (D4.out.set (i := 0) (v := .int .i64 (k : Int)) (by simp)).other n45
        · exact (D5.out.other n54).set (i := 0) (v := .bool true) (by simp)
  case done =>
    rintro D xs X Y W hD rfl ⟨rfl, hY, hg, hpre⟩ hYD hK
    have d4 := O4.out.keep hg
    have d5 := O5.out.keep hg
    have e4 := d4.1.c1
    have e5 := d5.1.c1
    have z4 := d4.2 0
    have z5 := d5.2 0
    have n45 : ¬ w.heap.size + 1 + 1 = w.heap.size + 1 + 1 + 1 := by omega
    have n54 : ¬ w.heap.size + 1 + 1 + 1 = w.heap.size + 1 + 1 := by omega
    have D4 := Lib.hid d4
    have D5 := Lib.hid d5
    have HG := Lib.hid (G4.out.tr hg)
    have HD := Lib.hid hD
    have HK := Lib.hid hK
    have HP := Lib.hid hpre
    clear d4 d5 hg hD hK hpre hY hYD
    gi_wp2
    have oz : Own ((W.setCell ⟨w.heap.size + 1 + 1, 0, none⟩ (.int .i64 0)).setCell ⟨w.heap.size + 1 + 1 + 1, 0, none⟩ (.bool false)) (w.heap.size + 1 + 1) [.int .i64 0] := (D4.out.set (i := 0) (v := .int .i64 0) (by simp)).other n45
    have oy : Own ((W.setCell ⟨w.heap.size + 1 + 1, 0, none⟩ (.int .i64 0)).setCell ⟨w.heap.size + 1 + 1 + 1, 0, none⟩ (.bool false)) (w.heap.size + 1 + 1 + 1) [.bool false] := (D5.out.other n54).set (i := 0) (v := .bool false) (by simp)
    have gz : Gr w ((W.setCell ⟨w.heap.size + 1 + 1, 0, none⟩ (.int .i64 0)).setCell ⟨w.heap.size + 1 + 1 + 1, 0, none⟩ (.bool false)) :=
      (HG.out.setCell (p := ⟨w.heap.size + 1 + 1, 0, none⟩) (by dsimp only; omega) _).setCell (p := ⟨w.heap.size + 1 + 1 + 1, 0, none⟩) (by dsimp only; omega) _
    have hD := HD.out
    refine leaves_marks [D] _ (fun E hE => ?_) (by simp) fun w' hk => ?_
    · simp only [List.mem_singleton] at hE
      subst hE
      exact (Below.heap_setCell _ _ _ _ (by dsimp only; omega)).trans ((Below.heap_setCell _ _ _ _ (by dsimp only; omega)).trans HK.out)
    · have p0 := (oz.kx hk (fun e => by simp only [List.mem_singleton] at e; omega)).1.c1
      have p1 := (oy.kx hk (fun e => by simp only [List.mem_singleton] at e; omega)).1.c1
      refine ⟨.tuple #[.int .i64 0, .bool false], by simp [results, Try.results90, go_sem, p0, p1], ?_, Kx.toGr ((Kx.gr (Z := noBlock) gz).th hk fun i e => ?_)⟩
      · unfold weakV
        rw [weakO_none (fun k hk => HP.out _ (List.mem_of_getElem? (loadsL_at hk)))]
      · simp only [List.mem_singleton] at e
        exact .inr (by omega)
  case stop =>
    rintro D c pre Y W hD ⟨m, hm, hpm⟩ ⟨rfl, hY, hk, pre', x, rfl, hp, hx, d4, d5⟩ hYD hK
    gi_wp2
    refine leaves_marks [D] _ (fun E hE => ?_) (by simp) fun w' hk' => ?_
    · simp only [List.mem_singleton] at hE
      subst hE
      exact hK
    · have p0 := (d4.kx hk' (fun e => by simp only [List.mem_singleton] at e; omega)).1.c1
      have p1 := (d5.kx hk' (fun e => by simp only [List.mem_singleton] at e; omega)).1.c1
      refine ⟨.tuple #[.int .i64 (x.1 : Int), .bool true], by simp [results, Try.results90, go_sem, p0, p1], ?_, Kx.toGr (((Kx.gr (Z := noBlock) G4.out).th hk fun i e => ?_).th hk' fun i e => ?_)⟩
      · unfold weakV
        obtain ⟨h1, h2, h3⟩ := first_weak hpm hp hx
        rw [weakO_some h1 h2 h3]
      · have := Hx0.out i e
        exact .inr (by omega)
      · simp only [List.mem_singleton] at e
        exact .inr (by omega)

end Go.Proofs.Ytcdilmagcdbogaa

namespace Go.Proofs.Ytcdilmagcdbogaa
set_option linter.unusedVariables false
set_option linter.unusedSimpArgs false
open Go.RowKit Go.Shelf
attribute [local go_sem] Oper.semAt_some

/-- What can be true of the test at a place. -/
def truthAt (off : Int) (made : List Int) (k : Nat) : Int × Int := match made[k]? with
  | some r => (max 0 (r - off), min 100000 (r + off))
  | none => (0, 100000)

def truthsL (tests : Nat) (off : Int) (made : List Int) : List (Int × Int) := (List.range tests).map (truthAt off made)

def encTr (x : Int × Int) : Array Value := #[.agg #[.int .i64 x.1, .int .i64 x.2]]

theorem truthsL_take {tests : Nat} {off : Int} {made : List Int} {k : Nat} (hk : k < tests) : (truthsL tests off made).take (k + 1) = (truthsL tests off made).take k ++ [truthAt off made k] := by
  rw [List.take_add_one]
  congr 1
  simp [truthsL, hk]

def TrB (x : Int × Int) : Prop := 0 ≤ x.1 ∧ x.1 ≤ 100000 ∧ 0 ≤ x.2 ∧ x.2 ≤ 100000

theorem truthAt_bd {off : Int} {made : List Int} (o0 : 0 ≤ off) (o1 : off ≤ 1000) (hB : ∀ r ∈ made, 0 ≤ r ∧ r ≤ 100000) (k : Nat) : TrB (truthAt off made k) := by
  unfold truthAt TrB
  split
  · rename_i r hr
    obtain ⟨h0, h1⟩ := hB r (List.mem_of_getElem? hr)
    dsimp only
    omega
  · dsimp only
    omega

set_option maxRecDepth 100000 in
set_option maxHeartbeats 4000000 in
theorem truths_seq (n : Nat) (hn : 1 ≤ n) (b1 b2 : Nat) (tests : Nat) (mean low bad off : Int) (rv : Value) (a : Option Addr) (cap : Nat) (made : List Int) (ht : tests ≤ 1000000) (o0 : 0 ≤ off) (o1 : off ≤ 1000) (hB : ∀ r ∈ made, 0 ≤ r ∧ r ≤ 100000)
    (Z0 : Nat → Prop) (w0 : World) (hst : St Z0 (fun V => Own V b1 [.int .i64 (tests : Int), .int .i64 mean, .int .i64 low, .int .i64 bad, .int .i64 off, rv] ∧ Own V b2 [.slice a made.length cap] ∧ IRow V a made) w0) :
    SeqX Fence.wide n Try.prog 155 #[.pointer (some ⟨b1, 0, none⟩), .pointer (some ⟨b2, 0, none⟩)] encTr (fun _ _ x _ => TrB x) (fun xs => xs = truthsL tests off made) (fun pre => ∃ k, k ≤ tests ∧ pre = (truthsL tests off made).take k) Z0 w0 := by
  intro i0 J Jx X0 W hk0 hX0 hJ hJx hY h0
  refine callsIn_of_wp Try.func155 rfl trivial ?_ rfl
  simp only [Try.ntmps155, List.size_toArray, List.length_cons, List.length_nil, Nat.reduceAdd, Nat.reduceSub, Array.replicate_succ, Array.replicate_zero, List.push_toArray, List.append_toArray, List.nil_append, List.cons_append]
  have HY := Lib.hid hY
  have HJ := Lib.hid hJ
  have HS := Lib.hid hst
  have HB := Lib.hid hB
  obtain ⟨h1, _, _⟩ := hst W hk0
  have q0 := h1.1.2 0 _ rfl
  have H0 := Lib.hid h0
  have HK := Lib.hid hk0
  have HX0 := Lib.hid hX0
  clear hY hJ hX0 hst hB hJx h0 hk0 h1
  gi_wp2
  clear q0
  gi_loopw [9] (fun i wr => ∃ k : Nat, k ≤ tests ∧ i = .int .i64 k ∧ ∃ pre X, pre = (truthsL tests off made).take k ∧ J pre X noBlock wr ∧ (∀ i, X i → i < wr.heap.size ∧ (Z0 i ∨ w0.heap.size ≤ i)) ∧ Kx Z0 w0 wr) (fun i _ => tests - (intOf i).toNat)
  case atStart => exact ⟨0, Nat.zero_le _, rfl, [], X0, rfl, H0.out, HX0.out, HK.out⟩
  case round =>
    obtain ⟨k, hk, rfl, pre, X, hpre, hj, hX, hkV⟩ := hrel
    obtain ⟨d1, d2, hrow⟩ := HS.out wr hkV
    by_cases hlt : k < tests
    · have gU := Gr.al wr (.cells #[.int .i64 0, .int .i64 100000] 45)
      have oU := Own.new wr [.int .i64 0, .int .i64 100000] 45 wr.heap.size rfl
      have p2 := (d2.keep gU).1.c1
      have HT := Lib.hid (truthAt_bd o0 o1 HB.out k)
      have HX := Lib.hid hX
      have HKV := Lib.hid hkV
      have HP := Lib.hid hpre
      have HJJ := Lib.hid hj
      have D1 := Lib.hid d1
      have D2 := Lib.hid d2
      have HR := Lib.hid hrow
      have GU := Lib.hid gU
      have OU := Lib.hid oU
      clear d1 hX hkV hpre hj gU oU
      by_cases hm : k < made.length
      · obtain ⟨r, hrm⟩ : ∃ r, made[k]? = some r := ⟨made[k], by simp [hm]⟩
        obtain ⟨r0, r1⟩ := HB.out r (List.mem_of_getElem? hrm)
        have hT : truthAt off made k = (max 0 (r - off), min 100000 (r + off)) := by simp [truthAt, hrm]
        obtain ⟨c, o, rfl, hc, hcell⟩ := IRow.get HR.out hrm
        have HT1 := Lib.hid hT
        clear hT
        gi_wp2
        refine wpIn_wide.2 ?_
        refine wp_region_facts 7 [(1, 0), (4, 2), (4, 3), (5, 4), (6, 1), (6, 5)] (fun x => ⟨#[.func (.yield i0) #[] #[], .pointer (some ⟨b1, 0, none⟩), .pointer (some ⟨b2, 0, none⟩), undef, .int .i64 (k : Int), .pointer (some ⟨wr.heap.size, 0, none⟩), .pointer (some ⟨b1, 0, none⟩), .pointer (some ⟨b1, 0, none⟩), .int .i64 (tests : Int), .int .i64 (k : Int), .bool true, .int .i64 (k : Int), .agg #[.int .i64 0, .int .i64 100000], .int .i64 (k : Int), .slice (some ⟨c, o, none⟩) made.length cap, .int .i64 (made.length : Int), .bool true, x 0, x 1, x 2, x 3, x 4, x 5, x 6, u24, u25, u26, u27, u28], []⟩) (fun i => [u17, u18, u19, u20, u21, u22, u23].getD i undef) [fun _ x => x = .pointer (some ⟨b1, 4, none⟩), fun _ x => x = .agg #[.int .i64 off], fun _ x => x = .slice (some ⟨c, o, none⟩) made.length cap, fun _ x => x = .int .i64 (k : Int), fun _ x => x = .pointer (some ⟨c, o + k, none⟩), fun _ x => x = .int .i64 r, fun _ x => x = .agg #[.int .i64 (max 0 (r - off)), .int .i64 (min 100000 (r + off))]] (by rfl) (by kernel_rfl) (by kernel_rfl) (by kernel_rfl) (stays_cons (Stays.eq _) (stays_cons (Stays.eq _) (stays_cons (Stays.eq _) (stays_cons (Stays.eq _) (stays_cons (Stays.eq _) (stays_cons (Stays.eq _) (stays_cons (Stays.eq _) stays_nil))))))) ?step5 ?fin5
        case step5 =>
          rintro i hi x v gv hd K hK
          have hi8 : i = 0 ∨ i = 1 ∨ i = 2 ∨ i = 3 ∨ i = 4 ∨ i = 5 ∨ i = 6 := by omega
          rcases hi8 with rfl | rfl | rfl | rfl | rfl | rfl | rfl
          · show wpOp Try.prog _ _ 0 K (⟨#[.func (.yield i0) #[] #[], .pointer (some ⟨b1, 0, none⟩), .pointer (some ⟨b2, 0, none⟩), undef, .int .i64 (k : Int), .pointer (some ⟨wr.heap.size, 0, none⟩), .pointer (some ⟨b1, 0, none⟩), .pointer (some ⟨b1, 0, none⟩), .int .i64 (tests : Int), .int .i64 (k : Int), .bool true, .int .i64 (k : Int), .agg #[.int .i64 0, .int .i64 100000], .int .i64 (k : Int), .slice (some ⟨c, o, none⟩) made.length cap, .int .i64 (made.length : Int), .bool true, x 0, x 1, x 2, x 3, x 4, x 5, x 6, u24, u25, u26, u27, u28], []⟩ : Act) v
            refine wpOp_step rfl (fun K' hK' => ?_)
            go_simp
            exact hK' _ _ (hK _ _ (Below.refl _ _) (at_of rfl (rfl)))
          · obtain ⟨x, rfl⟩ := upd_of (show x 0 = .pointer (some ⟨b1, 4, none⟩) from hd 0 _ (by simp) rfl)
            show wpOp Try.prog _ _ 1 K (⟨#[.func (.yield i0) #[] #[], .pointer (some ⟨b1, 0, none⟩), .pointer (some ⟨b2, 0, none⟩), undef, .int .i64 (k : Int), .pointer (some ⟨wr.heap.size, 0, none⟩), .pointer (some ⟨b1, 0, none⟩), .pointer (some ⟨b1, 0, none⟩), .int .i64 (tests : Int), .int .i64 (k : Int), .bool true, .int .i64 (k : Int), .agg #[.int .i64 0, .int .i64 100000], .int .i64 (k : Int), .slice (some ⟨c, o, none⟩) made.length cap, .int .i64 (made.length : Int), .bool true, .pointer (some ⟨b1, 4, none⟩), x 1, x 2, x 3, x 4, x 5, x 6, u24, u25, u26, u27, u28], []⟩ : Act) v
            refine wpOp_step rfl (fun K' hK' => ?_)
            have q := ((D1.out.keep GU.out).keep gv).1.2 4 _ rfl
            go_simp
            exact hK' _ _ (hK _ _ (Below.refl _ _) (at_of rfl (rfl)))
          · show wpOp Try.prog _ _ 2 K (⟨#[.func (.yield i0) #[] #[], .pointer (some ⟨b1, 0, none⟩), .pointer (some ⟨b2, 0, none⟩), undef, .int .i64 (k : Int), .pointer (some ⟨wr.heap.size, 0, none⟩), .pointer (some ⟨b1, 0, none⟩), .pointer (some ⟨b1, 0, none⟩), .int .i64 (tests : Int), .int .i64 (k : Int), .bool true, .int .i64 (k : Int), .agg #[.int .i64 0, .int .i64 100000], .int .i64 (k : Int), .slice (some ⟨c, o, none⟩) made.length cap, .int .i64 (made.length : Int), .bool true, x 0, x 1, x 2, x 3, x 4, x 5, x 6, u24, u25, u26, u27, u28], []⟩ : Act) v
            refine wpOp_step rfl (fun K' hK' => ?_)
            have q := ((D2.out.keep GU.out).keep gv).1.c1
            go_simp
            exact hK' _ _ (hK _ _ (Below.refl _ _) (at_of rfl (rfl)))
          · show wpOp Try.prog _ _ 3 K (⟨#[.func (.yield i0) #[] #[], .pointer (some ⟨b1, 0, none⟩), .pointer (some ⟨b2, 0, none⟩), undef, .int .i64 (k : Int), .pointer (some ⟨wr.heap.size, 0, none⟩), .pointer (some ⟨b1, 0, none⟩), .pointer (some ⟨b1, 0, none⟩), .int .i64 (tests : Int), .int .i64 (k : Int), .bool true, .int .i64 (k : Int), .agg #[.int .i64 0, .int .i64 100000], .int .i64 (k : Int), .slice (some ⟨c, o, none⟩) made.length cap, .int .i64 (made.length : Int), .bool true, x 0, x 1, x 2, x 3, x 4, x 5, x 6, u24, u25, u26, u27, u28], []⟩ : Act) v
            refine wpOp_step rfl (fun K' hK' => ?_)
            go_simp
            exact hK' _ _ (hK _ _ (Below.refl _ _) (at_of rfl (rfl)))
          · obtain ⟨x, rfl⟩ := upd_of (show x 2 = .slice (some ⟨c, o, none⟩) made.length cap from hd 2 _ (by simp) rfl)
            obtain ⟨x, rfl⟩ := upd_of (show x 3 = .int .i64 (k : Int) from hd 3 _ (by simp) rfl)
            show wpOp Try.prog _ _ 4 K (⟨#[.func (.yield i0) #[] #[], .pointer (some ⟨b1, 0, none⟩), .pointer (some ⟨b2, 0, none⟩), undef, .int .i64 (k : Int), .pointer (some ⟨wr.heap.size, 0, none⟩), .pointer (some ⟨b1, 0, none⟩), .pointer (some ⟨b1, 0, none⟩), .int .i64 (tests : Int), .int .i64 (k : Int), .bool true, .int .i64 (k : Int), .agg #[.int .i64 0, .int .i64 100000], .int .i64 (k : Int), .slice (some ⟨c, o, none⟩) made.length cap, .int .i64 (made.length : Int), .bool true, x 0, x 1, .slice (some ⟨c, o, none⟩) made.length cap, .int .i64 (k : Int), x 4, x 5, x 6, u24, u25, u26, u27, u28], []⟩ : Act) v
            refine wpOp_step rfl (fun K' hK' => ?_)
            go_simp
            exact hK' _ _ (hK _ _ (Below.refl _ _) (at_of rfl (rfl)))
          · obtain ⟨x, rfl⟩ := upd_of (show x 4 = .pointer (some ⟨c, o + k, none⟩) from hd 4 _ (by simp) rfl)
            show wpOp Try.prog _ _ 5 K (⟨#[.func (.yield i0) #[] #[], .pointer (some ⟨b1, 0, none⟩), .pointer (some ⟨b2, 0, none⟩), undef, .int .i64 (k : Int), .pointer (some ⟨wr.heap.size, 0, none⟩), .pointer (some ⟨b1, 0, none⟩), .pointer (some ⟨b1, 0, none⟩), .int .i64 (tests : Int), .int .i64 (k : Int), .bool true, .int .i64 (k : Int), .agg #[.int .i64 0, .int .i64 100000], .int .i64 (k : Int), .slice (some ⟨c, o, none⟩) made.length cap, .int .i64 (made.length : Int), .bool true, x 0, x 1, x 2, x 3, .pointer (some ⟨c, o + k, none⟩), x 5, x 6, u24, u25, u26, u27, u28], []⟩ : Act) v
            refine wpOp_step rfl (fun K' hK' => ?_)
            have q := (GU.out.tr gv).keep hcell
            go_simp
            exact hK' _ _ (hK _ _ (Below.refl _ _) (at_of rfl (rfl)))
          · obtain ⟨x, rfl⟩ := upd_of (show x 1 = .agg #[.int .i64 off] from hd 1 _ (by simp) rfl)
            obtain ⟨x, rfl⟩ := upd_of (show x 5 = .int .i64 r from hd 5 _ (by simp) rfl)
            show wpOp Try.prog _ _ 6 K (⟨#[.func (.yield i0) #[] #[], .pointer (some ⟨b1, 0, none⟩), .pointer (some ⟨b2, 0, none⟩), undef, .int .i64 (k : Int), .pointer (some ⟨wr.heap.size, 0, none⟩), .pointer (some ⟨b1, 0, none⟩), .pointer (some ⟨b1, 0, none⟩), .int .i64 (tests : Int), .int .i64 (k : Int), .bool true, .int .i64 (k : Int), .agg #[.int .i64 0, .int .i64 100000], .int .i64 (k : Int), .slice (some ⟨c, o, none⟩) made.length cap, .int .i64 (made.length : Int), .bool true, x 0, .agg #[.int .i64 off], x 2, x 3, x 4, .int .i64 r, x 6, u24, u25, u26, u27, u28], []⟩ : Act) v
            refine wpOp_step rfl (fun K' hK' => ?_)
            go_simp
            refine (truth_any off r o0 o1 r0 r1 v).mono ?_
            rintro e v' ⟨rfl, hg⟩
            exact hK' _ _ (hK _ _ hg (at_of rfl (rfl)))
        case fin5 =>
          rintro x v gv hd
          obtain ⟨x, rfl⟩ := upd_of (show x 6 = .agg #[.int .i64 (max 0 (r - off)), .int .i64 (min 100000 (r + off))] from hd 6 _ (by omega) rfl)
          clear hd
          show wpList Try.prog _ _ (List.drop 7 _) (⟨#[.func (.yield i0) #[] #[], .pointer (some ⟨b1, 0, none⟩), .pointer (some ⟨b2, 0, none⟩), undef, .int .i64 (k : Int), .pointer (some ⟨wr.heap.size, 0, none⟩), .pointer (some ⟨b1, 0, none⟩), .pointer (some ⟨b1, 0, none⟩), .int .i64 (tests : Int), .int .i64 (k : Int), .bool true, .int .i64 (k : Int), .agg #[.int .i64 0, .int .i64 100000], .int .i64 (k : Int), .slice (some ⟨c, o, none⟩) made.length cap, .int .i64 (made.length : Int), .bool true, x 0, x 1, x 2, x 3, x 4, x 5, .agg #[.int .i64 (max 0 (r - off)), .int .i64 (min 100000 (r + off))], u24, u25, u26, u27, u28], []⟩ : Act) v
          simp only [List.drop_succ_cons, List.drop_zero]
          have oV := OU.out.keep gv
          obtain ⟨p4, p5⟩ := oV.1.c2
          have z4 := oV.2 0
          have z5 := oV.2 1
          have OV := Lib.hid oV
          have GV := Lib.hid (GU.out.tr gv)
          clear oV gv
          go_wp2
          clear p4 p5 z4 z5
          have oE := (OV.out.set (i := 0) (v := .int .i64 (max 0 (r - off))) (by simp)).set (i := 1) (v := .int .i64 (min 100000 (r + off))) (by simp)
          have gE := (GV.out.setCell (p := ⟨wr.heap.size, 0, none⟩) (Nat.le_refl _) (.int .i64 (max 0 (r - off)))).setCell (p := ⟨wr.heap.size, 1, none⟩) (Nat.le_refl _) (.int .i64 (min 100000 (r + off)))
          obtain ⟨E, hE⟩ : ∃ E, (v.setCell ⟨wr.heap.size, 0, none⟩ (.int .i64 (max 0 (r - off)))).setCell ⟨wr.heap.size, 1, none⟩ (.int .i64 (min 100000 (r + off))) = E := ⟨_, rfl⟩
          dsimp only [List.set] at oE
          rw [hE] at oE gE ⊢
          clear hE
          have hT := HT1.out
          have jE : J pre X noBlock E := HJ.out pre X _ _ _ _ HJJ.out (Kx.gr gE) (fun i e => .inl e)
          obtain ⟨fn, tmps, assign, body, hy, hRR⟩ := HY.out pre (max 0 (r - off), min 100000 (r + off)) X noBlock E jE (by have := HT.out; rw [hT] at this; exact this) ⟨fun i e => by have := (HX.out i e).1; have := gE.size; omega, fun i e => e.elim, fun i e e' => e'⟩
          dsimp only [encTr] at hy
          obtain ⟨p4, p5⟩ := oE.1.c2
          have GE := Lib.hid gE
          have HTT := Lib.hid hT
          clear jE gE oE hT
          gi_wp2
          refine hRR.mono ?_
          clear hRR hy p4 p5
          rintro e W3 ⟨hk3, (⟨rfl, X', hJ3, hX3⟩ | ⟨rfl, hJx3⟩)⟩
          · have HJ3 := Lib.hid hJ3
            have HX3 := Lib.hid hX3
            have Hk3 := Lib.hid hk3
            clear hJ3 hX3 hk3
            gi_wp2
            go_roundw
            case rel =>
              have hw := HKV.out.size
              have hw' := GE.out.size
              refine ⟨k + 1, by omega, by go_num, _, X', ?_, HJ3.out, fun i e => ⟨(HX3.out i e).1, ?_⟩, (HKV.out.th (Kx.gr (Z := noBlock) GE.out) fun i e => e.elim).th Hk3.out fun i e => (HX.out i e).2⟩
              · rw [truthsL_take hlt, HTT.out, HP.out]
              · rcases (HX3.out i e).2 with h | h
                · exact (HX.out i h).2
                · exact .inr (by omega)
            case measure => simp [intOf]; omega
          · gi_wp2
            refine bodyPost_ret (results_none rfl _ _ _) rfl ?_
            refine ⟨⟨_, rfl⟩, .inr ⟨_, _, ⟨k + 1, by omega, ?_⟩, hJx3⟩⟩
            rw [truthsL_take hlt, HTT.out, HP.out]
      · have hT : truthAt off made k = (0, 100000) := by
          have : made[k]? = none := by simp; omega
          simp [truthAt, this]
        have HT1 := Lib.hid hT
        clear hT
        obtain ⟨E, hE⟩ : ∃ E, wr.alloc (.cells #[.int .i64 0, .int .i64 100000] 45) = E := ⟨_, rfl⟩
        have oE := OU.out
        have gE := GU.out
        rw [hE] at oE gE
        have hT := HT1.out
        have jE : J pre X noBlock E := HJ.out pre X _ _ _ _ HJJ.out (Kx.gr gE) (fun i e => .inl e)
        obtain ⟨fn, tmps, assign, body, hy, hRR⟩ := HY.out pre (0, 100000) X noBlock E jE (by have := HT.out; rw [hT] at this; exact this) ⟨fun i e => by have := (HX.out i e).1; have := gE.size; omega, fun i e => e.elim, fun i e e' => e'⟩
        dsimp only [encTr] at hy
        obtain ⟨p4, p5⟩ := oE.1.c2
        have GE := Lib.hid gE
        have HTT := Lib.hid hT
        clear jE gE oE hT
        subst hE
        gi_wp2
        refine hRR.mono ?_
        clear hRR hy p4 p5
        rintro e W3 ⟨hk3, (⟨rfl, X', hJ3, hX3⟩ | ⟨rfl, hJx3⟩)⟩
        · have HJ3 := Lib.hid hJ3
          have HX3 := Lib.hid hX3
          have Hk3 := Lib.hid hk3
          clear hJ3 hX3 hk3
          gi_wp2
          go_roundw
          case rel =>
            have hw := HKV.out.size
            have hw' := GE.out.size
            refine ⟨k + 1, by omega, by go_num, _, X', ?_, HJ3.out, fun i e => ⟨(HX3.out i e).1, ?_⟩, (HKV.out.th (Kx.gr (Z := noBlock) GE.out) fun i e => e.elim).th Hk3.out fun i e => (HX.out i e).2⟩
            · rw [truthsL_take hlt, HTT.out, HP.out]
            · rcases (HX3.out i e).2 with h | h
              · exact (HX.out i h).2
              · exact .inr (by omega)
          case measure => simp [intOf]; omega
        · gi_wp2
          refine bodyPost_ret (results_none rfl _ _ _) rfl ?_
          refine ⟨⟨_, rfl⟩, .inr ⟨_, _, ⟨k + 1, by omega, ?_⟩, hJx3⟩⟩
          rw [truthsL_take hlt, HTT.out, HP.out]
    · obtain rfl : k = tests := by omega
      gi_wp2
      go_end0
      refine ⟨⟨_, rfl⟩, .inl ⟨pre, X, _, ?_, hj⟩⟩
      rw [hpre]
      exact List.take_of_length_le (by simp [truthsL])

end Go.Proofs.Ytcdilmagcdbogaa

namespace Go.Proofs.Ytcdilmagcdbogaa
set_option linter.unusedVariables false
set_option linter.unusedSimpArgs false
open Go.RowKit

theorem infoInt' : (Try.prog.info? 3).map (fun i => (i.zero, i.size, i.bytes)) = some (some (.int .i64 0), 1, 8) := by kernel_rfl

set_option maxRecDepth 100000 in
set_option maxHeartbeats 2000000 in
theorem grow_nil (n : Nat) (h2 : n ≤ 100000) (w : World) :
    Calls Try.prog 161 #[.slice none 0 0, .int .i64 (n : Int)] w fun e w' => ∃ v, e = .returned v ∧ w'.ownsRow w.heap.size 3 1 v 0 [] ∧ Gr w w' := by
  obtain ⟨i0, hi, hz⟩ := Option.map_eq_some_iff.1 infoInt'
  simp only [Prod.mk.injEq] at hz
  obtain ⟨hz0, hz1, hz2⟩ := hz
  have d0 : decide ((n : Int) < 0) = false := by simp
  by_cases h0 : n = 0
  · subst h0
    go_enter Try.func161, Try.ntmps161
    go_wp2
    go_ret
    exact ⟨_, rfl, ⟨rfl, .inl ⟨rfl, rfl⟩⟩, Below.refl _ _⟩
  · have hold : (Builtin.firstCells i0.size 0 (.slice none 0 0)).run Try.prog w.drew = .ok ([] : List Value).toArray w.drew := run_firstCells_none w.drew i0.size 0 0 0
    have hrz := Lib.run_append_grow_zeros (P := Try.prog) w 24 3 24 3 i0 (.int .i64 0) .i64 .i64 Try.underlying24 Try.underlying3 hi hz0 none 0 0 [] hold n (by omega) (by omega) (by omega) (by omega) (by rw [hz2]; omega) (by rw [hz2]; exact growslice_fits (by omega) (by omega))
    simp only [Nat.zero_add, Nat.sub_zero] at hrz
    have hGn : n ≤ grownCap w n 0 3 := grownCap_ge w _ _ _
    have hG63 := grownCap_le_maxLen w n 0 3 (by unfold maxLen; omega)
    obtain ⟨G, hG⟩ : ∃ G, G = grownCap w n 0 3 := ⟨_, rfl⟩
    rw [← hG] at hrz hGn hG63
    have d1 : decide ((0 : Int) < (n : Int)) = true := by simp; omega
    have v0 : IntKind.i64.wrap (n : Int) = (n : Int) := IntWalk.i64_in _ (by omega)
    clear hold hG
    go_enter Try.func161, Try.ntmps161
    go_wp2_with (at_builtin; refine Lib.wpList_append_run _ rfl _ _ _ _ rfl _ _ rfl rfl _ _ hrz ?_)
    go_ret
    refine ⟨_, rfl, ⟨rfl, .inr ⟨_, G, Builtin.zeroCells #[.int .i64 0] n ++ Builtin.zeroCells #[.int .i64 0] (G - n), rfl, Nat.le_refl _, ?_, Nat.zero_le _, hG63, ?_, rfl⟩⟩, (Gr.al w _).tr (Gr.dr _)⟩
    · exact World.alloc_heap_new w _
    · simp [Builtin.zeroCells]
      omega

theorem ints_news {w : World} {ad : Addr} {l : List Int} (h : IRow w (some ad) l) : ∀ j u, (l.flatMap encI)[j]? = some u → w.cell? (ad.add j) = some u := by
  intro j u hu
  have e : l.flatMap encI = l.map (Value.int .i64) := by
    clear h hu
    induction l with
    | nil => rfl
    | cons x l ih => simp [encI, ih]
  rw [e, List.getElem?_map] at hu
  cases hn : l[j]? with
  | none => rw [hn] at hu; cases hu
  | some n =>
    rw [hn] at hu
    have eu : Value.int .i64 n = u := by simpa using hu
    obtain ⟨b, off, ea, _, hc⟩ := h.2 j n hn
    injection ea with ea
    subst ea
    have := hc 0 _ rfl
    rw [WideShapes.add_plain, ← eu]
    simpa using this

theorem ints_one9 (l : List Int) : ∀ u ∈ l.flatMap encI, u.oneCell' = true := by
  intro u hu
  obtain ⟨x, _, hx⟩ := List.mem_flatMap.1 hu
  have hx' : u ∈ [Value.int .i64 x] := hx
  rw [List.mem_singleton.1 hx']
  rfl

theorem ints_len (l : List Int) : (l.flatMap encI).length = l.length := by
  induction l with
  | nil => rfl
  | cons x l ih => simp [encI, ih]

theorem irow_nil {w : World} {l : List Int} (h : IRow w none l) : l = [] := by
  cases l with
  | nil => rfl
  | cons x l =>
    obtain ⟨b, off, e, _⟩ := h.2 0 x rfl
    cases e

/-- A slice of ints as a value: where, what, its room. -/
structure SJ where
  a : Option Addr
  l : List Int
  c : Nat

def encJ (s : SJ) : List Value := [.slice s.a s.l.length s.c]

abbrev JRow := RowOf 1 encJ

def catL (cs : List SJ) : List Int := cs.flatMap (·.l)

theorem catL_take {cs : List SJ} {k : Nat} {x : SJ} (h : cs[k]? = some x) : catL (cs.take (k + 1)) = catL (cs.take k) ++ x.l := by
  rw [List.take_add_one, h]
  simp [catL]

theorem catL_le : ∀ (cs : List SJ) (k : Nat), (catL (cs.take k)).length ≤ (catL cs).length
  | [], k => by simp [catL]
  | c :: cs, 0 => by simp [catL]
  | c :: cs, k + 1 => by
    have := catL_le cs k
    simp [catL] at this ⊢
    exact this

theorem flatI (l : List Int) : l.flatMap encI = l.map (Value.int .i64) := by induction l with
  | nil => rfl
  | cons x l ih => simp [encI, ih]

set_option maxRecDepth 100000 in
set_option maxHeartbeats 4000000 in
theorem concat_any (cs : List SJ) (hc : cs.length ≤ 100) (hl : (catL cs).length ≤ 100000) (p : Option Addr) (pc : Nat) (w : World) (hp : JRow w p cs) (hr : ∀ c ∈ cs, IRow w c.a c.l ∧ (c.a = none → c.c = 0)) :
    Calls Try.prog 154 #[.slice p cs.length pc] w fun e w' => ∃ v, e = .returned v ∧ w'.ownsRow w.heap.size 3 1 v (catL cs).length ((catL cs).flatMap encI) ∧ Gr w w' := by
  obtain ⟨i0, hi, hz⟩ := Option.map_eq_some_iff.1 infoInt'
  simp only [Prod.mk.injEq] at hz
  obtain ⟨hz0, hz1, hz2⟩ := hz
  have HR := Lib.hid hr
  have HP := Lib.hid hp
  clear hr hp
  go_enter Try.func154, Try.ntmps154
  go_wp2
  go_loopw [11, 3] (fun i t wr => Hid (∃ k : Nat, k ≤ cs.length ∧ i = .int .i64 k ∧ t = .int .i64 ((catL (cs.take k)).length : Int) ∧ wr = w)) (fun i _ _ => cs.length - (intOf i).toNat)
  case atStart => exact Lib.hid ⟨0, Nat.zero_le _, rfl, rfl, rfl⟩
  case round =>
    obtain ⟨k, hk, rfl, rfl, rfl⟩ := hrel.out
    clear hrel
    by_cases hlt : k < cs.length
    · obtain ⟨x, hx⟩ : ∃ x, cs[k]? = some x := ⟨cs[k], by simp [hlt]⟩
      obtain ⟨b, off, rfl, hb, hcell⟩ := HP.out.2 k x hx
      have q := hcell 0 _ rfl
      have e1 := congrArg List.length (catL_take hx)
      rw [List.length_append] at e1
      have e2 := catL_le cs (k + 1)
      have v0 : IntKind.i64.wrap (((catL (cs.take k)).length : Int) + (x.l.length : Int)) = ((catL (cs.take (k + 1))).length : Int) := by rw [IntWalk.i64_in _ (by omega)]; omega
      have d0 : decide (((catL (cs.take (k + 1))).length : Int) < 0) = false := by simp
      simp only [Nat.mul_one, Nat.add_zero] at q
      clear hcell e1 e2 hx
      go_wp2
      go_roundw
      case rel => exact Lib.hid ⟨k + 1, by omega, by go_num, by first | rfl | trivial, by first | rfl | trivial⟩
      case measure => simp [intOf]; omega
    · obtain rfl : k = cs.length := by omega
      rw [List.take_length]
      clear hlt hk
      go_wp2_with (go_at_call 161; refine (grow_nil (catL cs).length hl _).mono ?_; rintro e w1 ⟨v0, rfl, ho, g1⟩)
      have HO := Lib.hid ho
      have G1 := Lib.hid g1
      clear ho g1
      go_loopw [27, 6] (fun i t w2 => Hid (∃ k : Nat, k ≤ cs.length ∧ i = .int .i64 k ∧ w2.ownsRow wr.heap.size 3 1 t (catL (cs.take k)).length ((catL (cs.take k)).flatMap encI) ∧ Gr wr w2)) (fun i _ _ => cs.length - (intOf i).toNat)
      case atStart => exact Lib.hid ⟨0, Nat.zero_le _, rfl, HO.out, G1.out⟩
      case round =>
        rename World => V
        obtain ⟨k, hk, rfl, hown, gV⟩ := hrel.out
        clear hrel
        by_cases hlt : k < cs.length
        · obtain ⟨x, hx⟩ : ∃ x, cs[k]? = some x := ⟨cs[k], by simp [hlt]⟩
          obtain ⟨b, off, rfl, hb, hcell⟩ := (HP.out.grow gV).2 k x hx
          have q := hcell 0 _ rfl
          simp only [Nat.mul_one, Nat.add_zero] at q
          have e1 := catL_take hx
          have e2 := catL_le cs (k + 1)
          obtain ⟨hxr, hxn⟩ := HR.out x (List.mem_of_getElem? hx)
          have hxV := hxr.grow gV
          obtain ⟨xa, xl, xc⟩ := x
          dsimp only at hxr hxn hxV e1 q
          rw [e1, List.length_append] at e2
          have E1 := Lib.hid e1
          have HW := Lib.hid hown
          have GV := Lib.hid gV
          clear hcell hx hxr e1 hown gV
          cases xa with
          | none =>
            obtain rfl := irow_nil hxV
            obtain rfl := hxn rfl
            go_wp2_with (at_builtin; refine wpList_append_own_none rfl _ _ 24 rfl wr.heap.size 3 i0 1 Try.underlying24 hi _ _ _ rfl HW.out rfl ?_)
            go_roundw
            case rel =>
              refine Lib.hid ⟨k + 1, by omega, by go_num, ?_, GV.out⟩
              rw [E1.out, List.append_nil]
              exact HW.out
            case measure => simp [intOf]; omega
          | some ad =>
            have hnews := ints_news hxV
            have HN := Lib.hid hnews
            clear hnews hxV
            have hbase : wr.heap.size ≤ V.heap.size := GV.out.size
            go_wp2_with (at_builtin; refine wpList_append_own _ rfl _ _ 24 rfl wr.heap.size 3 i0 (.int .i64 0) 1 8 Try.underlying24 hi hz0 hz1 hz2 rfl (by decide) _ _ _ rfl HW.out ad xl.length xc (xl.flatMap encI) rfl (by rw [ints_len, Nat.mul_one]) HN.out (ints_one9 xl) (by unfold maxLen; omega) (by omega) hbase ?_; intro v' w' hown' hgr _)
            have HO' := Lib.hid hown'
            have HG' := Lib.hid (GV.out.grown' HW.out (Nat.le_refl _) hgr)
            clear hown' hgr
            go_wp2
            go_roundw
            case rel =>
              refine Lib.hid ⟨k + 1, by omega, by go_num, ?_, HG'.out⟩
              rw [E1.out, List.length_append, List.flatMap_append]
              exact HO'.out
            case measure => simp [intOf]; omega
        · obtain rfl : k = cs.length := by omega
          rw [List.take_length] at hown
          go_wp2
          go_ret
          exact ⟨_, rfl, hown, gV⟩

end Go.Proofs.Ytcdilmagcdbogaa

namespace Go.Proofs.Ytcdilmagcdbogaa
set_option linter.unusedVariables false
set_option linter.unusedSimpArgs false
open Go.RowKit

set_option maxRecDepth 100000 in
set_option maxHeartbeats 2000000 in
theorem truths_any (te me lo ba off : Int) (rl ml : List Int) (ra ma : Option Addr) (rc mc : Nat) (hl : (rl ++ ml).length ≤ 100000) (w : World) (hr : IRow w ra rl) (hrn : ra = none → rc = 0) (hm : IRow w ma ml) (hmn : ma = none → mc = 0) :
    Calls Try.prog 141 #[.agg #[.int .i64 te, .int .i64 me, .int .i64 lo, .int .i64 ba, .int .i64 off, .slice ra rl.length rc], .slice ma ml.length mc] w fun e w' => ∃ b1 b2 a cap, e = .returned (.func (.func 155) #[] #[.pointer (some ⟨b1, 0, none⟩), .pointer (some ⟨b2, 0, none⟩)]) ∧
      w.heap.size ≤ b1 ∧ w.heap.size ≤ b2 ∧ Own w' b1 [.int .i64 te, .int .i64 me, .int .i64 lo, .int .i64 ba, .int .i64 off, .slice ra rl.length rc] ∧ Own w' b2 [.slice a (rl ++ ml).length cap] ∧ IRow w' a (rl ++ ml) ∧ NewAt w.heap.size a ∧ Gr w w' := by
  have hl63 : (rl ++ ml).length ≤ 9223372036854775807 := by omega
  obtain ⟨cs, hcs⟩ : ∃ cs : List SJ, cs = [⟨ra, rl, rc⟩, ⟨ma, ml, mc⟩] := ⟨_, rfl⟩
  have hcat : catL cs = rl ++ ml := by rw [hcs]; simp [catL]
  have o1 := (Own.new w [.int .i64 te, .int .i64 me, .int .i64 lo, .int .i64 ba, .int .i64 off, .slice ra rl.length rc] 147 w.heap.size rfl).keep (Gr.al _ (.cells #[.slice ra rl.length rc, .slice ma ml.length mc] 24))
  have gg := (Gr.al w (.cells #[.int .i64 te, .int .i64 me, .int .i64 lo, .int .i64 ba, .int .i64 off, .slice ra rl.length rc] 147)).tr (Gr.al _ (.cells #[.slice ra rl.length rc, .slice ma ml.length mc] 24))
  have ob := Own.new (w.alloc (.cells #[.int .i64 te, .int .i64 me, .int .i64 lo, .int .i64 ba, .int .i64 off, .slice ra rl.length rc] 147)) [.slice ra rl.length rc, .slice ma ml.length mc] 24 (w.heap.size + 1) (by simp)
  have q5 := (Own.new w [.int .i64 te, .int .i64 me, .int .i64 lo, .int .i64 ba, .int .i64 off, .slice ra rl.length rc] 147 w.heap.size rfl).1.2 5 _ rfl
  have hp : JRow ((w.alloc (.cells #[.int .i64 te, .int .i64 me, .int .i64 lo, .int .i64 ba, .int .i64 off, .slice ra rl.length rc] 147)).alloc (.cells #[.slice ra rl.length rc, .slice ma ml.length mc] 24)) (some ⟨w.heap.size + 1, 0, none⟩) cs := by
    rw [hcs]
    refine ⟨by simp, fun j x hx => ⟨_, 0, rfl, ob.1.1, fun i v hv => ?_⟩⟩
    have hj : j = 0 ∨ j = 1 := by
      have := (List.getElem?_eq_some_iff.1 hx).1
      simp at this
      omega
    have hi : i = 0 := by
      have := (List.getElem?_eq_some_iff.1 hv).1
      simpa [encJ] using this
    subst hi
    rcases hj with rfl | rfl <;> (simp at hx; subst hx; simp [encJ] at hv; subst hv)
    · exact ob.1.2 0 _ rfl
    · exact ob.1.2 1 _ rfl
  have hC := concat_any cs (by rw [hcs]; simp) (by rw [hcat]; exact hl) (some ⟨w.heap.size + 1, 0, none⟩) 2 _ hp (by
    rw [hcs]
    intro c hc
    simp only [List.mem_cons, List.not_mem_nil, or_false] at hc
    rcases hc with rfl | rfl
    · exact ⟨hr.grow gg, hrn⟩
    · exact ⟨hm.grow gg, hmn⟩)
  rw [hcat, show cs.length = 2 by rw [hcs]; rfl] at hC
  have HC := Lib.hid hC
  have O1 := Lib.hid o1
  have GG := Lib.hid gg
  clear hC hp ob o1 gg hcat hcs
  go_enter Try.func141, Try.ntmps141
  go_wp2_with (go_at_call 154; refine HC.out.mono ?_; rintro e w1 ⟨v, rfl, ho, g1⟩; obtain ⟨a, cap, rfl, hrow, hnew⟩ := owns_row_new (enc := encI) (sz := 1) (l := rl ++ ml) (fun _ => rfl) hl63 ho; have HR := Lib.hid hrow; have HN := Lib.hid hnew; have G1 := Lib.hid g1; clear ho hrow hnew g1)
  go_ret
  refine ⟨_, _, a, cap, rfl, Nat.le_refl _, ?_, (O1.out.keep G1.out).keep (Gr.al _ _), by rw [List.length_append]; exact Own.new w1 [_] 24 _ rfl, HR.out.grow (Gr.al _ _), HN.out.le GG.out.size, (GG.out.tr G1.out).tr (Gr.al _ _)⟩
  have := (GG.out.tr G1.out).size
  exact this

end Go.Proofs.Ytcdilmagcdbogaa

namespace Go.Proofs.Ytcdilmagcdbogaa
set_option linter.unusedVariables false
set_option linter.unusedSimpArgs false
open Go.RowKit Go.Shelf
attribute [local go_sem] Oper.semAt_some

def sumS (hi : Bool) : List (Int × Int) → Int
  | [] => 0
  | x :: l => (if hi then x.2 else x.1) + sumS hi l

def badS (hi : Bool) (low : Int) : List (Int × Int) → Int
  | [] => 0
  | x :: l => (if (if hi then x.2 else x.1) < low then 1 else 0) + badS hi low l

theorem sumS_app (hi : Bool) (x : Int × Int) : ∀ l, sumS hi (l ++ [x]) = sumS hi l + (if hi then x.2 else x.1)
  | [] => by simp [sumS]
  | y :: l => by simp only [List.cons_append, sumS, sumS_app hi x l]; omega

theorem badS_app (hi : Bool) (low : Int) (x : Int × Int) : ∀ l, badS hi low (l ++ [x]) = badS hi low l + (if (if hi then x.2 else x.1) < low then 1 else 0)
  | [] => by simp [badS]
  | y :: l => by simp only [List.cons_append, badS, badS_app hi low x l]; omega

theorem badS_0 (hi : Bool) (low : Int) : ∀ l, 0 ≤ badS hi low l
  | [] => by simp [badS]
  | y :: l => by
    have := badS_0 hi low l
    simp only [badS]
    split <;> split <;> omega

theorem badS_le (hi : Bool) (low : Int) : ∀ a b, badS hi low a ≤ badS hi low (a ++ b)
  | [], b => by simpa [badS] using badS_0 hi low b
  | y :: l, b => by
    have := badS_le hi low l b
    simp only [List.cons_append, badS]
    omega

theorem sumS_bd (hi : Bool) : ∀ l, (∀ x ∈ l, TrB x) → 0 ≤ sumS hi l ∧ sumS hi l ≤ 100000 * (l.length : Int)
  | [], _ => by simp [sumS]
  | y :: l, h => by
    obtain ⟨a, b⟩ := sumS_bd hi l (fun x hx => h x (List.mem_cons_of_mem _ hx))
    obtain ⟨p, q, r, s⟩ := h y List.mem_cons_self
    simp only [sumS, List.length_cons]
    split <;> omega

/-- Whether a lot passes. -/
def passB (hi : Bool) (te me low ba : Int) (l : List (Int × Int)) : Bool := decide (badS hi low l ≤ ba) && decide (te * me ≤ sumS hi l)

theorem wrap_add (a b : Int) : IntKind.i64.wrap (IntKind.i64.wrap a + b) = IntKind.i64.wrap (a + b) := by
  rw [IntKind.wrap_i64, IntKind.wrap_i64, IntKind.wrap_i64]
  omega

/-- While passes counts. -/
def InvP (hi : Bool) (low ba : Int) (b6 b7 b8 : Nat) (X0 : Nat → Prop) (w4 : World) (pre : List (Int × Int)) (X Y : Nat → Prop) (W : World) : Prop :=
  X = X0 ∧ (∀ i, Y i → w4.heap.size ≤ i) ∧ Kx X0 w4 W ∧ Own W b6 [.bool false] ∧ Own W b7 [.int .i64 (IntKind.i64.wrap (sumS hi pre))] ∧ Own W b8 [.int .i64 (badS hi low pre)] ∧ badS hi low pre ≤ ba

theorem InvP.ab {hi : Bool} {low ba : Int} {b6 b7 b8 : Nat} {X0 : Nat → Prop} {w4 : World} (h6' : b6 < w4.heap.size) (h7 : b7 < w4.heap.size) (h8 : b8 < w4.heap.size) (s : List (Int × Int)) (X : Nat → Prop) : Ab (InvP hi low ba b6 b7 b8 X0 w4 s X) := by
  rintro Y Y' A B ⟨h1, h2, h3, h0, h4, h5, h6⟩ hk hy
  have hs := h3.size
  refine ⟨h1, fun i e => ?_, h3.th hk fun i e => .inr (h2 i e), h0.kx hk fun e => ?_, h4.kx hk fun e => ?_, h5.kx hk fun e => ?_, h6⟩
  · rcases hy i e with e | e
    · exact h2 i e
    · omega
  · have := h2 _ e; omega
  · have := h2 _ e; omega
  · have := h2 _ e; omega

def FndP (hi : Bool) (low ba : Int) (b6 : Nat) (X0 : Nat → Prop) (w4 : World) (c : Code) (pre : List (Int × Int)) (Y : Nat → Prop) (W : World) : Prop :=
  c = .ret ∧ (∀ i, Y i → w4.heap.size ≤ i) ∧ Kx X0 w4 W ∧ Own W b6 [.bool false] ∧ ba < badS hi low pre

theorem end_lo (x : Int × Int) (w : World) : Calls Try.prog 111 #[.agg #[.int .i64 x.1, .int .i64 x.2]] w fun e w' => e = .returned (.int .i64 x.1) ∧ Gr w w' := by
  have hb := Box.new w [.int .i64 x.1, .int .i64 x.2] 45 w.heap.size rfl
  obtain ⟨q0, q1⟩ := hb.c2
  have gg := Gr.al w (.cells #[.int .i64 x.1, .int .i64 x.2] 45)
  go_enter Try.func111, Try.ntmps111
  go_wp2
  go_ret
  exact ⟨rfl, gg⟩

set_option maxRecDepth 100000 in
set_option maxHeartbeats 4000000 in
theorem passes_lo (te : Nat) (me low ba off : Int) (rl ml : List Int) (ra ma : Option Addr) (rc mc : Nat) (t1 : te ≤ 1000) (m0 : 0 ≤ me) (m1 : me ≤ 100000) (o0 : 0 ≤ off) (o1 : off ≤ 1000) (a0 : 0 ≤ ba) (a1 : ba ≤ 1000) (hB : ∀ r ∈ rl ++ ml, 0 ≤ r ∧ r ≤ 100000) (hl : (rl ++ ml).length ≤ 100000) (w : World) (hr : IRow w ra rl) (hrn : ra = none → rc = 0) (hm : IRow w ma ml) (hmn : ma = none → mc = 0) :
    Calls Try.prog 110 #[.agg #[.int .i64 (te : Int), .int .i64 me, .int .i64 low, .int .i64 ba, .int .i64 off, .slice ra rl.length rc], .func (.func 111) #[] #[], .slice ma ml.length mc] w fun e w' => e = .returned (.bool (passB false (te : Int) me low ba (truthsL te off (rl ++ ml)))) ∧ Gr w w' := by
  refine (callsIn_wide (n := 20)).1 ?_
  have gg := (Gr.al w (.cells #[.int .i64 (te : Int), .int .i64 me, .int .i64 low, .int .i64 ba, .int .i64 off, .slice ra rl.length rc] 147)).tr ((Gr.al _ (.cells #[.func (.func 111) #[] #[]] 188)).tr ((Gr.al _ (.cells #[.bool false] 4)).tr ((Gr.al _ (.cells #[.int .i64 0] 3)).tr (Gr.al _ (.cells #[.int .i64 0] 3)))))
  have o3 := (Own.new w [.int .i64 (te : Int), .int .i64 me, .int .i64 low, .int .i64 ba, .int .i64 off, .slice ra rl.length rc] 147 w.heap.size rfl).keep ((Gr.al _ (.cells #[.func (.func 111) #[] #[]] 188)).tr ((Gr.al _ (.cells #[.bool false] 4)).tr ((Gr.al _ (.cells #[.int .i64 0] 3)).tr (Gr.al _ (.cells #[.int .i64 0] 3)))))
  have o4 := (Own.new (w.alloc (.cells #[.int .i64 (te : Int), .int .i64 me, .int .i64 low, .int .i64 ba, .int .i64 off, .slice ra rl.length rc] 147)) [.func (.func 111) #[] #[]] 188 (w.heap.size + 1) (by simp)).keep ((Gr.al _ (.cells #[.bool false] 4)).tr ((Gr.al _ (.cells #[.int .i64 0] 3)).tr (Gr.al _ (.cells #[.int .i64 0] 3))))
  have o6 := (Own.new ((w.alloc (.cells #[.int .i64 (te : Int), .int .i64 me, .int .i64 low, .int .i64 ba, .int .i64 off, .slice ra rl.length rc] 147)).alloc (.cells #[.func (.func 111) #[] #[]] 188)) [.bool false] 4 (w.heap.size + 1 + 1) (by simp)).keep ((Gr.al _ (.cells #[.int .i64 0] 3)).tr (Gr.al _ (.cells #[.int .i64 0] 3)))
  have o7 := (Own.new (((w.alloc (.cells #[.int .i64 (te : Int), .int .i64 me, .int .i64 low, .int .i64 ba, .int .i64 off, .slice ra rl.length rc] 147)).alloc (.cells #[.func (.func 111) #[] #[]] 188)).alloc (.cells #[.bool false] 4)) [.int .i64 0] 3 (w.heap.size + 1 + 1 + 1) (by simp)).keep (Gr.al _ (.cells #[.int .i64 0] 3))
  have o8 := Own.new ((((w.alloc (.cells #[.int .i64 (te : Int), .int .i64 me, .int .i64 low, .int .i64 ba, .int .i64 off, .slice ra rl.length rc] 147)).alloc (.cells #[.func (.func 111) #[] #[]] 188)).alloc (.cells #[.bool false] 4)).alloc (.cells #[.int .i64 0] 3)) [.int .i64 0] 3 (w.heap.size + 1 + 1 + 1 + 1) (by simp)
  have q3 := fun j v h => o3.1.2 j v h
  refine callsIn_of_wp_marks Try.func110 rfl trivial ?_ rfl
  simp only [Try.ntmps110, List.size_toArray, List.length_cons, List.length_nil, Nat.reduceAdd, Nat.reduceSub, Array.replicate_succ, Array.replicate_zero, List.push_toArray, List.append_toArray, List.nil_append, List.cons_append]
  gi_wp2_with (refine ⟨trivial, ?_⟩; gi_at_call 141; refine (callsIn_wide.2 (truths_any (te : Int) me low ba off rl ml ra ma rc mc hl _ (hr.grow gg) hrn (hm.grow gg) hmn)).mono ?_; rintro e w4 ⟨b1, b2, a, cap, rfl, hb1, hb2, h1, h2, h3, h5, h4⟩; have H1 := Lib.hid h1; have H2 := Lib.hid h2; have H3 := Lib.hid h3; have H5 := Lib.hid h5; have O3 := Lib.hid (o3.keep h4); have O4 := Lib.hid (o4.keep h4); have O6 := Lib.hid (o6.keep h4); have O7 := Lib.hid (o7.keep h4); have O8 := Lib.hid (o8.keep h4); have G4 := Lib.hid (gg.tr h4); clear h1 h2 h3 h5 h4)
  have hb1' : w.heap.size + 5 ≤ b1 := by simpa using hb1
  have hb2' : w.heap.size + 5 ≤ b2 := by simpa using hb2
  have s4 : w.heap.size + 5 ≤ w4.heap.size := by have := O8.out.1.1; omega
  have HN5 := Lib.hid (H5.out.le (show w.heap.size + 5 ≤ _ by simp))
  clear hb1 hb2 gg o3 o4 o6 o7 o8 q3 H5
  obtain ⟨X0, hX0⟩ : ∃ X0 : Nat → Prop, X0 = fun i => i = w.heap.size + 1 + 1 ∨ i = w.heap.size + 1 + 1 + 1 ∨ i = w.heap.size + 1 + 1 + 1 + 1 := ⟨_, rfl⟩
  have x0 : ∀ i, X0 i → i < w.heap.size + 5 ∧ w.heap.size + 2 ≤ i := fun i e => by rw [hX0] at e; rcases e with e | e | e <;> omega
  have x6 : X0 (w.heap.size + 1 + 1) := by rw [hX0]; exact .inl rfl
  have x7 : X0 (w.heap.size + 1 + 1 + 1) := by rw [hX0]; exact .inr (.inl rfl)
  have x8 : X0 (w.heap.size + 1 + 1 + 1 + 1) := by rw [hX0]; exact .inr (.inr rfl)
  have hst : St X0 (fun V => Own V b1 [.int .i64 (te : Int), .int .i64 me, .int .i64 low, .int .i64 ba, .int .i64 off, .slice ra rl.length rc] ∧ Own V b2 [.slice a (rl ++ ml).length cap] ∧ IRow V a (rl ++ ml)) w4 := fun B hB => by
    refine ⟨H1.out.kx hB fun e => by have := x0 _ e; omega, H2.out.kx hB fun e => by have := x0 _ e; omega, H3.out.kx hB fun b' off' e e' => ?_⟩
    have := x0 _ e'
    have := HN5.out b' off' none e
    omega
  have Hx0 := Lib.hid x0
  have Hst := Lib.hid hst
  have HB := Lib.hid hB
  clear hX0 x0 hst hB
  refine wpIn_rangeX (F := Fence.wide) rfl (by omega) (gf := 155) (lb := #[.pointer (some ⟨b1, 0, none⟩), .pointer (some ⟨b2, 0, none⟩)]) rfl trivial (enters_of Try.func155 (by kernel_rfl) rfl)
    (truths_seq 19 (by omega) b1 b2 te me low ba off (.slice ra rl.length rc) a cap (rl ++ ml) (by omega) o0 o1 HB.out X0 w4 Hst.out) (Kx.refl _ _) (fun _ => rfl) X0 (fun i e => ⟨by have := Hx0.out i e; omega, .inl e⟩)
    (InvP false low ba (w.heap.size + 1 + 1) (w.heap.size + 1 + 1 + 1) (w.heap.size + 1 + 1 + 1 + 1) X0 w4) (FndP false low ba (w.heap.size + 1 + 1) X0 w4) (fun s X => InvP.ab (by omega) (by omega) (by omega) s X) ?abX ?start
    (fun pre x a' X Y W => InvP false low ba (w.heap.size + 1 + 1) (w.heap.size + 1 + 1 + 1) (w.heap.size + 1 + 1 + 1 + 1) X0 w4 pre X Y W ∧ TrB x ∧ ∃ B9, Own W B9 [.int .i64 x.1, .int .i64 x.2] ∧ ¬ X B9 ∧ ¬ Y B9 ∧ w4.heap.size ≤ B9 ∧ a' = ⟨#[.agg #[.int .i64 (te : Int), .int .i64 me, .int .i64 low, .int .i64 ba, .int .i64 off, .slice ra rl.length rc], .func (.func 111) #[] #[], .slice ma ml.length mc, .pointer (some ⟨w.heap.size, 0, none⟩), .pointer (some ⟨w.heap.size + 1, 0, none⟩), undef, .pointer (some ⟨w.heap.size + 1 + 1, 0, none⟩), .pointer (some ⟨w.heap.size + 1 + 1 + 1, 0, none⟩), .pointer (some ⟨w.heap.size + 1 + 1 + 1 + 1, 0, none⟩), .pointer (some ⟨B9, 0, none⟩), undef, .agg #[.int .i64 (te : Int), .int .i64 me, .int .i64 low, .int .i64 ba, .int .i64 off, .slice ra rl.length rc], .slice ma ml.length mc, .func (.func 155) #[] #[.pointer (some ⟨b1, 0, none⟩), .pointer (some ⟨b2, 0, none⟩)], .agg #[.int .i64 x.1, .int .i64 x.2], undef, undef, undef, undef, undef, undef, undef, undef, undef, undef, undef, undef, undef, undef, undef, undef, undef, undef, undef, undef, undef, undef, undef, undef, undef, undef, undef], []⟩)
    ?abA ?assign ?body ?done ?stop
  case start =>
    refine ⟨rfl, fun i e => e.elim, Kx.refl _ _, O6.out, O7.out, O8.out, ?_⟩
    simpa [badS] using a0
  case abX =>
    rintro c s Y Y' A B ⟨h1, h2, h3, h4, h5⟩ hk hy
    have hs := h3.size
    refine ⟨h1, fun i e => ?_, h3.th hk fun i e => .inr (h2 i e), h4.kx hk fun e => ?_, h5⟩
    · rcases hy i e with e | e
      · exact h2 i e
      · omega
    · have := h2 _ e; omega
  case abA =>
    rintro s x a' X Y Y' A B ⟨h1, hm, B9, h3, h4, h5, h6, h7⟩ hk hy
    refine ⟨InvP.ab (by omega) (by omega) (by omega) _ _ _ _ _ _ h1 hk hy, hm, B9, h3.kx hk h5, h4, fun e => ?_, h6, h7⟩
    rcases hy _ e with e | e
    · exact h5 e
    · have := h3.1.1; omega
  case assign =>
    rintro l1 pre x X Y W K hI hG hD hK
    have HK := Lib.hid hK
    have false := Lib.hid hI
    have HG := Lib.hid hG
    clear hK hI hG
    dsimp only [encTr]
    gi_wp2
    refine HK.out _ X _ ⟨InvP.ab (by omega) (by omega) (by omega) _ _ _ _ _ _ false.out (Kx.al _ _ _) (fun i e => .inl e), HG.out, W.heap.size, Own.new _ [_, _] 45 _ rfl, fun e => ?_, fun e => ?_, false.out.2.2.1.size, rfl⟩ (Kx.al _ _ _) (fun i e => ⟨?_, .inl e⟩)
    · have := hD.x _ e; omega
    · have := hD.y _ e; omega
    · have := hD.x _ e; simp; omega
  case body =>
    rintro l1 pre x a' X Y W ⟨⟨rfl, hY, hk, h6, h7, h8, hba⟩, hT, B9, h9, hn1, hn2, hn3, rfl⟩ hD hYl hrec
    obtain ⟨T1, T2, T3, T4⟩ := hT
    have f3 := O3.out.kx hk (fun e => by have := Hx0.out _ e; omega)
    have f4 := O4.out.kx hk (fun e => by have := Hx0.out _ e; omega)
    have q4 := f4.1.c1
    obtain ⟨j0, j1⟩ := h9.1.c2
    have hsum : sumS false (pre ++ [x]) = sumS false pre + x.1 := by simp [sumS_app]
    have v0 : IntKind.i64.wrap (IntKind.i64.wrap (sumS false pre) + x.1) = IntKind.i64.wrap (sumS false (pre ++ [x])) := by rw [hsum, wrap_add]
    have hbad : badS false low (pre ++ [x]) = badS false low pre + (if x.1 < low then 1 else 0) := by simp [badS_app]
    have hb0 := badS_0 false low pre
    obtain ⟨Bd, hBd⟩ : ∃ Bd, badS false low pre = Bd := ⟨_, rfl⟩
    rw [hBd] at h8 hba hbad hb0
    have v1 : IntKind.i64.wrap (Bd + 1) = Bd + 1 := IntWalk.i64_in _ (by omega)
    have n1 : ¬ w.heap.size = w.heap.size + 1 + 1 + 1 := by omega
    have n2 : ¬ w.heap.size = w.heap.size + 1 + 1 + 1 + 1 := by omega
    have n3 : ¬ w.heap.size + 1 + 1 + 1 + 1 = w.heap.size + 1 + 1 + 1 := by omega
    have n4 : ¬ w.heap.size + 1 + 1 + 1 = w.heap.size + 1 + 1 + 1 + 1 := by omega
    have n5 : ¬ w.heap.size + 1 + 1 = w.heap.size + 1 + 1 + 1 := by omega
    have n6 : ¬ w.heap.size + 1 + 1 = w.heap.size + 1 + 1 + 1 + 1 := by omega
    have n7 : ¬ w.heap.size + 1 + 1 + 1 = w.heap.size + 1 + 1 := by omega
    have n8 : ¬ w.heap.size + 1 + 1 + 1 + 1 = w.heap.size + 1 + 1 := by omega
    obtain ⟨S', hS'⟩ : ∃ S', IntKind.i64.wrap (sumS false (pre ++ [x])) = S' := ⟨_, rfl⟩
    rw [hS'] at v0
    obtain ⟨Pv, hPv⟩ : ∃ Pv, IntKind.i64.wrap (sumS false pre) = Pv := ⟨_, rfl⟩
    rw [hPv] at v0 h7
    clear hPv
    have d1 : decide (ba < Bd) = false := by simp; omega
    have H6 := Lib.hid h6
    have H7 := Lib.hid h7
    have H8 := Lib.hid h8
    have HF := Lib.hid f3
    have HK := Lib.hid hk
    have HY := Lib.hid hY
    have HBD := Lib.hid hbad
    have HSS := Lib.hid hS'
    have X6 := Lib.hid x6
    have X7 := Lib.hid x7
    have X8 := Lib.hid x8
    have HBa := Lib.hid hba
    clear h6 h7 h8 f3 f4 hk hY hbad hS' hsum h9 hn1 hn2 hD hYl hrec hBd T1 T2 T3 T4 x6 x7 x8 hba
    cases hb : decide (x.1 < low) with
    | false =>
      have hb' : ¬ x.1 < low := by simpa using hb
      have eB := HBD.out
      rw [if_neg hb'] at eB
      have EB := Lib.hid eB
      clear eB hb'
      gi_wp2_with (refine ⟨trivial, ?_⟩; gi_at_call 111; refine (CallsIn.inRound l1 (callsIn_wide.2 (end_lo x _))).mono ?_; rintro e w6 ⟨rfl, g6⟩; have D6 := Lib.hid (H6.out.keep g6); have D7 := Lib.hid (H7.out.keep g6); have D8 := Lib.hid (H8.out.keep g6); have e32 := (HF.out.keep g6).1.2 2 _ rfl; have e33 := (HF.out.keep g6).1.2 3 _ rfl; have c7 := D7.out.1.c1; have z7 := D7.out.2 0; have c8 := D8.out.1.c1; have z8 := D8.out.2 0; have c6 := D6.out.1.c1; have z6 := D6.out.2 0; have G6 := Lib.hid g6; clear g6)
      have kk : Kx X W (w6.setCell ⟨w.heap.size + 1 + 1 + 1, 0, none⟩ (.int .i64 S')) := (Kx.gr G6.out).tr (Kx.set (Z := X) (p := ⟨w.heap.size + 1 + 1 + 1, 0, none⟩) X7.out _)
      refine ⟨kk, X, ⟨rfl, HY.out, HK.out.tr kk, D6.out.other n5, ?_, ?_, ?_⟩, fun i e => ⟨by have := Hx0.out i e; have := HK.out.size; have := kk.size; omega, .inl e⟩⟩
      · rw [HSS.out]
        exact D7.out.set (i := 0) (v := .int .i64 S') (by simp)
      · rw [EB.out, Int.add_zero]
        exact D8.out.other n3
      · rw [EB.out, Int.add_zero]
        exact HBa.out
    | true =>
      have hb' : x.1 < low := by simpa using hb
      have eB := HBD.out
      rw [if_pos hb'] at eB
      have EB := Lib.hid eB
      clear eB hb'
      cases hc : decide (ba < Bd + 1) with
      | false =>
        gi_wp2_with (refine ⟨trivial, ?_⟩; gi_at_call 111; refine (CallsIn.inRound l1 (callsIn_wide.2 (end_lo x _))).mono ?_; rintro e w6 ⟨rfl, g6⟩; have D6 := Lib.hid (H6.out.keep g6); have D7 := Lib.hid (H7.out.keep g6); have D8 := Lib.hid (H8.out.keep g6); have e32 := (HF.out.keep g6).1.2 2 _ rfl; have e33 := (HF.out.keep g6).1.2 3 _ rfl; have c7 := D7.out.1.c1; have z7 := D7.out.2 0; have c8 := D8.out.1.c1; have z8 := D8.out.2 0; have c6 := D6.out.1.c1; have z6 := D6.out.2 0; have G6 := Lib.hid g6; clear g6)
        have kk : Kx X W ((w6.setCell ⟨w.heap.size + 1 + 1 + 1, 0, none⟩ (.int .i64 S')).setCell ⟨w.heap.size + 1 + 1 + 1 + 1, 0, none⟩ (.int .i64 (Bd + 1))) := (Kx.gr G6.out).tr ((Kx.set (Z := X) (p := ⟨w.heap.size + 1 + 1 + 1, 0, none⟩) X7.out _).tr (Kx.set (Z := X) (p := ⟨w.heap.size + 1 + 1 + 1 + 1, 0, none⟩) X8.out _))
        refine ⟨kk, X, ⟨rfl, HY.out, HK.out.tr kk, (D6.out.other n5).other n6, ?_, ?_, ?_⟩, fun i e => ⟨by have := Hx0.out i e; have := HK.out.size; have := kk.size; omega, .inl e⟩⟩
        · rw [HSS.out]
          exact (D7.out.set (i := 0) (v := .int .i64 S') (by simp)).other n4
        · rw [EB.out]
          exact (D8.out.other n3).set (i := 0) (v := .int .i64 (Bd + 1)) (by simp)
        · rw [EB.out]
          simp only [decide_eq_false_iff_not] at hc
          omega
      | true =>
        gi_wp2_with (refine ⟨trivial, ?_⟩; gi_at_call 111; refine (CallsIn.inRound l1 (callsIn_wide.2 (end_lo x _))).mono ?_; rintro e w6 ⟨rfl, g6⟩; have D6 := Lib.hid (H6.out.keep g6); have D7 := Lib.hid (H7.out.keep g6); have D8 := Lib.hid (H8.out.keep g6); have e32 := (HF.out.keep g6).1.2 2 _ rfl; have e33 := (HF.out.keep g6).1.2 3 _ rfl; have c7 := D7.out.1.c1; have z7 := D7.out.2 0; have c8 := D8.out.1.c1; have z8 := D8.out.2 0; have c6 := D6.out.1.c1; have z6 := D6.out.2 0; have G6 := Lib.hid g6; clear g6)
        have kk : Kx X W (((w6.setCell ⟨w.heap.size + 1 + 1 + 1, 0, none⟩ (.int .i64 S')).setCell ⟨w.heap.size + 1 + 1 + 1 + 1, 0, none⟩ (.int .i64 (Bd + 1))).setCell ⟨w.heap.size + 1 + 1, 0, none⟩ (.bool false)) := (Kx.gr G6.out).tr ((Kx.set (Z := X) (p := ⟨w.heap.size + 1 + 1 + 1, 0, none⟩) X7.out _).tr ((Kx.set (Z := X) (p := ⟨w.heap.size + 1 + 1 + 1 + 1, 0, none⟩) X8.out _).tr (Kx.set (Z := X) (p := ⟨w.heap.size + 1 + 1, 0, none⟩) X6.out _)))
        refine ⟨kk, rfl, HY.out, HK.out.tr kk, ((D6.out.other n5).other n6).set (i := 0) (v := .bool false) (by simp), ?_⟩
        rw [EB.out]
        simpa using hc
  case done =>
    rintro D xs X Y W hD rfl ⟨rfl, hY, hk, h6, h7, h8, hba⟩ hYD hK
    have f3 := O3.out.kx hk (fun e => by have := Hx0.out _ e; omega)
    have hall : ∀ x ∈ truthsL te off (rl ++ ml), TrB x := fun x hx => by
      obtain ⟨k, _, rfl⟩ := List.mem_map.1 hx
      exact truthAt_bd o0 o1 HB.out k
    obtain ⟨s0, s1⟩ := sumS_bd false _ hall
    have hlen : ((truthsL te off (rl ++ ml)).length : Int) ≤ 1000 := by simp [truthsL]; omega
    obtain ⟨S, hS⟩ : ∃ S, sumS false (truthsL te off (rl ++ ml)) = S := ⟨_, rfl⟩
    rw [hS] at h7 s0 s1
    rw [IntWalk.i64_in S (by omega)] at h7
    have hm0 : 0 ≤ (te : Int) * me := Int.mul_nonneg (by omega) m0
    have hm1 : (te : Int) * me ≤ 1000 * 100000 := Int.mul_le_mul (by omega) m1 m0 (by omega)
    have v0 : IntKind.i64.wrap ((te : Int) * me) = (te : Int) * me := IntWalk.i64_in _ (by omega)
    have e30 := f3.1.2 0 _ rfl
    have e31 := f3.1.2 1 _ rfl
    have c7 := h7.1.c1
    have c6 := h6.1.c1
    have z6 := h6.2 0
    have D6 := Lib.hid h6
    have HKK := Lib.hid hk
    have HS := Lib.hid hS
    have HBa := Lib.hid hba
    have X6 := Lib.hid x6
    clear h6 h7 h8 f3 hk hall hY x6 x7 x8 hba hS s0 s1 hm0 hm1
    gi_wp2
    have oz := D6.out.set (i := 0) (v := .bool (decide ((te : Int) * me ≤ S))) (by simp)
    have kk := HKK.out.tr (Kx.set (Z := X) (w := W) (p := ⟨w.heap.size + 1 + 1, 0, none⟩) X6.out (.bool (decide ((te : Int) * me ≤ S))))
    refine leaves_marks [D] _ (fun E hE => ?_) (by simp) fun w' hk' => ?_
    · simp only [List.mem_singleton] at hE
      subst hE
      exact (Below.heap_setCell _ _ _ _ (by dsimp only; omega)).trans hK
    · have p0 := (oz.kx hk' (fun e => by simp only [List.mem_singleton] at e; omega)).1.c1
      refine ⟨.bool (decide ((te : Int) * me ≤ S)), by simp [results, Try.results110, go_sem, p0], ?_, Kx.toGr (((Kx.gr (Z := noBlock) G4.out).th kk fun i e => ?_).th hk' fun i e => ?_)⟩
      · have e1 : decide (badS false low (truthsL te off (rl ++ ml)) ≤ ba) = true := by simpa using HBa.out
        unfold passB
        rw [e1, HS.out, Bool.true_and]
      · have := Hx0.out i e
        exact .inr (by omega)
      · simp only [List.mem_singleton] at e
        exact .inr (by omega)
  case stop =>
    rintro D c pre Y W hD ⟨m, hm, hpm⟩ ⟨rfl, hY, hk, h6, hbad⟩ hYD hK
    gi_wp2
    refine leaves_marks [D] _ (fun E hE => ?_) (by simp) fun w' hk' => ?_
    · simp only [List.mem_singleton] at hE
      subst hE
      exact hK
    · have p0 := (h6.kx hk' (fun e => by simp only [List.mem_singleton] at e; omega)).1.c1
      refine ⟨.bool false, by simp [results, Try.results110, go_sem, p0], ?_, Kx.toGr (((Kx.gr (Z := noBlock) G4.out).th hk fun i e => ?_).th hk' fun i e => ?_)⟩
      · have h1 := badS_le false low pre ((truthsL te off (rl ++ ml)).drop m)
        rw [hpm, List.take_append_drop, ← hpm] at h1
        have e1 : decide (badS false low (truthsL te off (rl ++ ml)) ≤ ba) = false := by simp; omega
        unfold passB
        rw [e1, Bool.false_and]
      · have := Hx0.out i e
        exact .inr (by omega)
      · simp only [List.mem_singleton] at e
        exact .inr (by omega)

theorem end_hi (x : Int × Int) (w : World) : Calls Try.prog 112 #[.agg #[.int .i64 x.1, .int .i64 x.2]] w fun e w' => e = .returned (.int .i64 x.2) ∧ Gr w w' := by
  have hb := Box.new w [.int .i64 x.1, .int .i64 x.2] 45 w.heap.size rfl
  obtain ⟨q0, q1⟩ := hb.c2
  have gg := Gr.al w (.cells #[.int .i64 x.1, .int .i64 x.2] 45)
  go_enter Try.func112, Try.ntmps112
  go_wp2
  go_ret
  exact ⟨rfl, gg⟩

set_option maxRecDepth 100000 in
set_option maxHeartbeats 4000000 in
theorem passes_hi (te : Nat) (me low ba off : Int) (rl ml : List Int) (ra ma : Option Addr) (rc mc : Nat) (t1 : te ≤ 1000) (m0 : 0 ≤ me) (m1 : me ≤ 100000) (o0 : 0 ≤ off) (o1 : off ≤ 1000) (a0 : 0 ≤ ba) (a1 : ba ≤ 1000) (hB : ∀ r ∈ rl ++ ml, 0 ≤ r ∧ r ≤ 100000) (hl : (rl ++ ml).length ≤ 100000) (w : World) (hr : IRow w ra rl) (hrn : ra = none → rc = 0) (hm : IRow w ma ml) (hmn : ma = none → mc = 0) :
    Calls Try.prog 110 #[.agg #[.int .i64 (te : Int), .int .i64 me, .int .i64 low, .int .i64 ba, .int .i64 off, .slice ra rl.length rc], .func (.func 112) #[] #[], .slice ma ml.length mc] w fun e w' => e = .returned (.bool (passB true (te : Int) me low ba (truthsL te off (rl ++ ml)))) ∧ Gr w w' := by
  refine (callsIn_wide (n := 20)).1 ?_
  have gg := (Gr.al w (.cells #[.int .i64 (te : Int), .int .i64 me, .int .i64 low, .int .i64 ba, .int .i64 off, .slice ra rl.length rc] 147)).tr ((Gr.al _ (.cells #[.func (.func 112) #[] #[]] 188)).tr ((Gr.al _ (.cells #[.bool false] 4)).tr ((Gr.al _ (.cells #[.int .i64 0] 3)).tr (Gr.al _ (.cells #[.int .i64 0] 3)))))
  have o3 := (Own.new w [.int .i64 (te : Int), .int .i64 me, .int .i64 low, .int .i64 ba, .int .i64 off, .slice ra rl.length rc] 147 w.heap.size rfl).keep ((Gr.al _ (.cells #[.func (.func 112) #[] #[]] 188)).tr ((Gr.al _ (.cells #[.bool false] 4)).tr ((Gr.al _ (.cells #[.int .i64 0] 3)).tr (Gr.al _ (.cells #[.int .i64 0] 3)))))
  have o4 := (Own.new (w.alloc (.cells #[.int .i64 (te : Int), .int .i64 me, .int .i64 low, .int .i64 ba, .int .i64 off, .slice ra rl.length rc] 147)) [.func (.func 112) #[] #[]] 188 (w.heap.size + 1) (by simp)).keep ((Gr.al _ (.cells #[.bool false] 4)).tr ((Gr.al _ (.cells #[.int .i64 0] 3)).tr (Gr.al _ (.cells #[.int .i64 0] 3))))
  have o6 := (Own.new ((w.alloc (.cells #[.int .i64 (te : Int), .int .i64 me, .int .i64 low, .int .i64 ba, .int .i64 off, .slice ra rl.length rc] 147)).alloc (.cells #[.func (.func 112) #[] #[]] 188)) [.bool false] 4 (w.heap.size + 1 + 1) (by simp)).keep ((Gr.al _ (.cells #[.int .i64 0] 3)).tr (Gr.al _ (.cells #[.int .i64 0] 3)))
  have o7 := (Own.new (((w.alloc (.cells #[.int .i64 (te : Int), .int .i64 me, .int .i64 low, .int .i64 ba, .int .i64 off, .slice ra rl.length rc] 147)).alloc (.cells #[.func (.func 112) #[] #[]] 188)).alloc (.cells #[.bool false] 4)) [.int .i64 0] 3 (w.heap.size + 1 + 1 + 1) (by simp)).keep (Gr.al _ (.cells #[.int .i64 0] 3))
  have o8 := Own.new ((((w.alloc (.cells #[.int .i64 (te : Int), .int .i64 me, .int .i64 low, .int .i64 ba, .int .i64 off, .slice ra rl.length rc] 147)).alloc (.cells #[.func (.func 112) #[] #[]] 188)).alloc (.cells #[.bool false] 4)).alloc (.cells #[.int .i64 0] 3)) [.int .i64 0] 3 (w.heap.size + 1 + 1 + 1 + 1) (by simp)
  have q3 := fun j v h => o3.1.2 j v h
  refine callsIn_of_wp_marks Try.func110 rfl trivial ?_ rfl
  simp only [Try.ntmps110, List.size_toArray, List.length_cons, List.length_nil, Nat.reduceAdd, Nat.reduceSub, Array.replicate_succ, Array.replicate_zero, List.push_toArray, List.append_toArray, List.nil_append, List.cons_append]
  gi_wp2_with (refine ⟨trivial, ?_⟩; gi_at_call 141; refine (callsIn_wide.2 (truths_any (te : Int) me low ba off rl ml ra ma rc mc hl _ (hr.grow gg) hrn (hm.grow gg) hmn)).mono ?_; rintro e w4 ⟨b1, b2, a, cap, rfl, hb1, hb2, h1, h2, h3, h5, h4⟩; have H1 := Lib.hid h1; have H2 := Lib.hid h2; have H3 := Lib.hid h3; have H5 := Lib.hid h5; have O3 := Lib.hid (o3.keep h4); have O4 := Lib.hid (o4.keep h4); have O6 := Lib.hid (o6.keep h4); have O7 := Lib.hid (o7.keep h4); have O8 := Lib.hid (o8.keep h4); have G4 := Lib.hid (gg.tr h4); clear h1 h2 h3 h5 h4)
  have hb1' : w.heap.size + 5 ≤ b1 := by simpa using hb1
  have hb2' : w.heap.size + 5 ≤ b2 := by simpa using hb2
  have s4 : w.heap.size + 5 ≤ w4.heap.size := by have := O8.out.1.1; omega
  have HN5 := Lib.hid (H5.out.le (show w.heap.size + 5 ≤ _ by simp))
  clear hb1 hb2 gg o3 o4 o6 o7 o8 q3 H5
  obtain ⟨X0, hX0⟩ : ∃ X0 : Nat → Prop, X0 = fun i => i = w.heap.size + 1 + 1 ∨ i = w.heap.size + 1 + 1 + 1 ∨ i = w.heap.size + 1 + 1 + 1 + 1 := ⟨_, rfl⟩
  have x0 : ∀ i, X0 i → i < w.heap.size + 5 ∧ w.heap.size + 2 ≤ i := fun i e => by rw [hX0] at e; rcases e with e | e | e <;> omega
  have x6 : X0 (w.heap.size + 1 + 1) := by rw [hX0]; exact .inl rfl
  have x7 : X0 (w.heap.size + 1 + 1 + 1) := by rw [hX0]; exact .inr (.inl rfl)
  have x8 : X0 (w.heap.size + 1 + 1 + 1 + 1) := by rw [hX0]; exact .inr (.inr rfl)
  have hst : St X0 (fun V => Own V b1 [.int .i64 (te : Int), .int .i64 me, .int .i64 low, .int .i64 ba, .int .i64 off, .slice ra rl.length rc] ∧ Own V b2 [.slice a (rl ++ ml).length cap] ∧ IRow V a (rl ++ ml)) w4 := fun B hB => by
    refine ⟨H1.out.kx hB fun e => by have := x0 _ e; omega, H2.out.kx hB fun e => by have := x0 _ e; omega, H3.out.kx hB fun b' off' e e' => ?_⟩
    have := x0 _ e'
    have := HN5.out b' off' none e
    omega
  have Hx0 := Lib.hid x0
  have Hst := Lib.hid hst
  have HB := Lib.hid hB
  clear hX0 x0 hst hB
  refine wpIn_rangeX (F := Fence.wide) rfl (by omega) (gf := 155) (lb := #[.pointer (some ⟨b1, 0, none⟩), .pointer (some ⟨b2, 0, none⟩)]) rfl trivial (enters_of Try.func155 (by kernel_rfl) rfl)
    (truths_seq 19 (by omega) b1 b2 te me low ba off (.slice ra rl.length rc) a cap (rl ++ ml) (by omega) o0 o1 HB.out X0 w4 Hst.out) (Kx.refl _ _) (fun _ => rfl) X0 (fun i e => ⟨by have := Hx0.out i e; omega, .inl e⟩)
    (InvP true low ba (w.heap.size + 1 + 1) (w.heap.size + 1 + 1 + 1) (w.heap.size + 1 + 1 + 1 + 1) X0 w4) (FndP true low ba (w.heap.size + 1 + 1) X0 w4) (fun s X => InvP.ab (by omega) (by omega) (by omega) s X) ?abX ?start
    (fun pre x a' X Y W => InvP true low ba (w.heap.size + 1 + 1) (w.heap.size + 1 + 1 + 1) (w.heap.size + 1 + 1 + 1 + 1) X0 w4 pre X Y W ∧ TrB x ∧ ∃ B9, Own W B9 [.int .i64 x.1, .int .i64 x.2] ∧ ¬ X B9 ∧ ¬ Y B9 ∧ w4.heap.size ≤ B9 ∧ a' = ⟨#[.agg #[.int .i64 (te : Int), .int .i64 me, .int .i64 low, .int .i64 ba, .int .i64 off, .slice ra rl.length rc], .func (.func 112) #[] #[], .slice ma ml.length mc, .pointer (some ⟨w.heap.size, 0, none⟩), .pointer (some ⟨w.heap.size + 1, 0, none⟩), undef, .pointer (some ⟨w.heap.size + 1 + 1, 0, none⟩), .pointer (some ⟨w.heap.size + 1 + 1 + 1, 0, none⟩), .pointer (some ⟨w.heap.size + 1 + 1 + 1 + 1, 0, none⟩), .pointer (some ⟨B9, 0, none⟩), undef, .agg #[.int .i64 (te : Int), .int .i64 me, .int .i64 low, .int .i64 ba, .int .i64 off, .slice ra rl.length rc], .slice ma ml.length mc, .func (.func 155) #[] #[.pointer (some ⟨b1, 0, none⟩), .pointer (some ⟨b2, 0, none⟩)], .agg #[.int .i64 x.1, .int .i64 x.2], undef, undef, undef, undef, undef, undef, undef, undef, undef, undef, undef, undef, undef, undef, undef, undef, undef, undef, undef, undef, undef, undef, undef, undef, undef, undef, undef], []⟩)
    ?abA ?assign ?body ?done ?stop
  case start =>
    refine ⟨rfl, fun i e => e.elim, Kx.refl _ _, O6.out, O7.out, O8.out, ?_⟩
    simpa [badS] using a0
  case abX =>
    rintro c s Y Y' A B ⟨h1, h2, h3, h4, h5⟩ hk hy
    have hs := h3.size
    refine ⟨h1, fun i e => ?_, h3.th hk fun i e => .inr (h2 i e), h4.kx hk fun e => ?_, h5⟩
    · rcases hy i e with e | e
      · exact h2 i e
      · omega
    · have := h2 _ e; omega
  case abA =>
    rintro s x a' X Y Y' A B ⟨h1, hm, B9, h3, h4, h5, h6, h7⟩ hk hy
    refine ⟨InvP.ab (by omega) (by omega) (by omega) _ _ _ _ _ _ h1 hk hy, hm, B9, h3.kx hk h5, h4, fun e => ?_, h6, h7⟩
    rcases hy _ e with e | e
    · exact h5 e
    · have := h3.1.1; omega
  case assign =>
    rintro l1 pre x X Y W K hI hG hD hK
    have HK := Lib.hid hK
    have true := Lib.hid hI
    have HG := Lib.hid hG
    clear hK hI hG
    dsimp only [encTr]
    gi_wp2
    refine HK.out _ X _ ⟨InvP.ab (by omega) (by omega) (by omega) _ _ _ _ _ _ true.out (Kx.al _ _ _) (fun i e => .inl e), HG.out, W.heap.size, Own.new _ [_, _] 45 _ rfl, fun e => ?_, fun e => ?_, true.out.2.2.1.size, rfl⟩ (Kx.al _ _ _) (fun i e => ⟨?_, .inl e⟩)
    · have := hD.x _ e; omega
    · have := hD.y _ e; omega
    · have := hD.x _ e; simp; omega
  case body =>
    rintro l1 pre x a' X Y W ⟨⟨rfl, hY, hk, h6, h7, h8, hba⟩, hT, B9, h9, hn1, hn2, hn3, rfl⟩ hD hYl hrec
    obtain ⟨T1, T2, T3, T4⟩ := hT
    have f3 := O3.out.kx hk (fun e => by have := Hx0.out _ e; omega)
    have f4 := O4.out.kx hk (fun e => by have := Hx0.out _ e; omega)
    have q4 := f4.1.c1
    obtain ⟨j0, j1⟩ := h9.1.c2
    have hsum : sumS true (pre ++ [x]) = sumS true pre + x.2 := by simp [sumS_app]
    have v0 : IntKind.i64.wrap (IntKind.i64.wrap (sumS true pre) + x.2) = IntKind.i64.wrap (sumS true (pre ++ [x])) := by rw [hsum, wrap_add]
    have hbad : badS true low (pre ++ [x]) = badS true low pre + (if x.2 < low then 1 else 0) := by simp [badS_app]
    have hb0 := badS_0 true low pre
    obtain ⟨Bd, hBd⟩ : ∃ Bd, badS true low pre = Bd := ⟨_, rfl⟩
    rw [hBd] at h8 hba hbad hb0
    have v1 : IntKind.i64.wrap (Bd + 1) = Bd + 1 := IntWalk.i64_in _ (by omega)
    have n1 : ¬ w.heap.size = w.heap.size + 1 + 1 + 1 := by omega
    have n2 : ¬ w.heap.size = w.heap.size + 1 + 1 + 1 + 1 := by omega
    have n3 : ¬ w.heap.size + 1 + 1 + 1 + 1 = w.heap.size + 1 + 1 + 1 := by omega
    have n4 : ¬ w.heap.size + 1 + 1 + 1 = w.heap.size + 1 + 1 + 1 + 1 := by omega
    have n5 : ¬ w.heap.size + 1 + 1 = w.heap.size + 1 + 1 + 1 := by omega
    have n6 : ¬ w.heap.size + 1 + 1 = w.heap.size + 1 + 1 + 1 + 1 := by omega
    have n7 : ¬ w.heap.size + 1 + 1 + 1 = w.heap.size + 1 + 1 := by omega
    have n8 : ¬ w.heap.size + 1 + 1 + 1 + 1 = w.heap.size + 1 + 1 := by omega
    obtain ⟨S', hS'⟩ : ∃ S', IntKind.i64.wrap (sumS true (pre ++ [x])) = S' := ⟨_, rfl⟩
    rw [hS'] at v0
    obtain ⟨Pv, hPv⟩ : ∃ Pv, IntKind.i64.wrap (sumS true pre) = Pv := ⟨_, rfl⟩
    rw [hPv] at v0 h7
    clear hPv
    have d1 : decide (ba < Bd) = false := by simp; omega
    have H6 := Lib.hid h6
    have H7 := Lib.hid h7
    have H8 := Lib.hid h8
    have HF := Lib.hid f3
    have HK := Lib.hid hk
    have HY := Lib.hid hY
    have HBD := Lib.hid hbad
    have HSS := Lib.hid hS'
    have X6 := Lib.hid x6
    have X7 := Lib.hid x7
    have X8 := Lib.hid x8
    have HBa := Lib.hid hba
    clear h6 h7 h8 f3 f4 hk hY hbad hS' hsum h9 hn1 hn2 hD hYl hrec hBd T1 T2 T3 T4 x6 x7 x8 hba
    cases hb : decide (x.2 < low) with
    | false =>
      have hb' : ¬ x.2 < low := by simpa using hb
      have eB := HBD.out
      rw [if_neg hb'] at eB
      have EB := Lib.hid eB
      clear eB hb'
      gi_wp2_with (refine ⟨trivial, ?_⟩; gi_at_call 112; refine (CallsIn.inRound l1 (callsIn_wide.2 (end_hi x _))).mono ?_; rintro e w6 ⟨rfl, g6⟩; have D6 := Lib.hid (H6.out.keep g6); have D7 := Lib.hid (H7.out.keep g6); have D8 := Lib.hid (H8.out.keep g6); have e32 := (HF.out.keep g6).1.2 2 _ rfl; have e33 := (HF.out.keep g6).1.2 3 _ rfl; have c7 := D7.out.1.c1; have z7 := D7.out.2 0; have c8 := D8.out.1.c1; have z8 := D8.out.2 0; have c6 := D6.out.1.c1; have z6 := D6.out.2 0; have G6 := Lib.hid g6; clear g6)
      have kk : Kx X W (w6.setCell ⟨w.heap.size + 1 + 1 + 1, 0, none⟩ (.int .i64 S')) := (Kx.gr G6.out).tr (Kx.set (Z := X) (p := ⟨w.heap.size + 1 + 1 + 1, 0, none⟩) X7.out _)
      refine ⟨kk, X, ⟨rfl, HY.out, HK.out.tr kk, D6.out.other n5, ?_, ?_, ?_⟩, fun i e => ⟨by have := Hx0.out i e; have := HK.out.size; have := kk.size; omega, .inl e⟩⟩
      · rw [HSS.out]
        exact D7.out.set (i := 0) (v := .int .i64 S') (by simp)
      · rw [EB.out, Int.add_zero]
        exact D8.out.other n3
      · rw [EB.out, Int.add_zero]
        exact HBa.out
    | true =>
      have hb' : x.2 < low := by simpa using hb
      have eB := HBD.out
      rw [if_pos hb'] at eB
      have EB := Lib.hid eB
      clear eB hb'
      cases hc : decide (ba < Bd + 1) with
      | false =>
        gi_wp2_with (refine ⟨trivial, ?_⟩; gi_at_call 112; refine (CallsIn.inRound l1 (callsIn_wide.2 (end_hi x _))).mono ?_; rintro e w6 ⟨rfl, g6⟩; have D6 := Lib.hid (H6.out.keep g6); have D7 := Lib.hid (H7.out.keep g6); have D8 := Lib.hid (H8.out.keep g6); have e32 := (HF.out.keep g6).1.2 2 _ rfl; have e33 := (HF.out.keep g6).1.2 3 _ rfl; have c7 := D7.out.1.c1; have z7 := D7.out.2 0; have c8 := D8.out.1.c1; have z8 := D8.out.2 0; have c6 := D6.out.1.c1; have z6 := D6.out.2 0; have G6 := Lib.hid g6; clear g6)
        have kk : Kx X W ((w6.setCell ⟨w.heap.size + 1 + 1 + 1, 0, none⟩ (.int .i64 S')).setCell ⟨w.heap.size + 1 + 1 + 1 + 1, 0, none⟩ (.int .i64 (Bd + 1))) := (Kx.gr G6.out).tr ((Kx.set (Z := X) (p := ⟨w.heap.size + 1 + 1 + 1, 0, none⟩) X7.out _).tr (Kx.set (Z := X) (p := ⟨w.heap.size + 1 + 1 + 1 + 1, 0, none⟩) X8.out _))
        refine ⟨kk, X, ⟨rfl, HY.out, HK.out.tr kk, (D6.out.other n5).other n6, ?_, ?_, ?_⟩, fun i e => ⟨by have := Hx0.out i e; have := HK.out.size; have := kk.size; omega, .inl e⟩⟩
        · rw [HSS.out]
          exact (D7.out.set (i := 0) (v := .int .i64 S') (by simp)).other n4
        · rw [EB.out]
          exact (D8.out.other n3).set (i := 0) (v := .int .i64 (Bd + 1)) (by simp)
        · rw [EB.out]
          simp only [decide_eq_false_iff_not] at hc
          omega
      | true =>
        gi_wp2_with (refine ⟨trivial, ?_⟩; gi_at_call 112; refine (CallsIn.inRound l1 (callsIn_wide.2 (end_hi x _))).mono ?_; rintro e w6 ⟨rfl, g6⟩; have D6 := Lib.hid (H6.out.keep g6); have D7 := Lib.hid (H7.out.keep g6); have D8 := Lib.hid (H8.out.keep g6); have e32 := (HF.out.keep g6).1.2 2 _ rfl; have e33 := (HF.out.keep g6).1.2 3 _ rfl; have c7 := D7.out.1.c1; have z7 := D7.out.2 0; have c8 := D8.out.1.c1; have z8 := D8.out.2 0; have c6 := D6.out.1.c1; have z6 := D6.out.2 0; have G6 := Lib.hid g6; clear g6)
        have kk : Kx X W (((w6.setCell ⟨w.heap.size + 1 + 1 + 1, 0, none⟩ (.int .i64 S')).setCell ⟨w.heap.size + 1 + 1 + 1 + 1, 0, none⟩ (.int .i64 (Bd + 1))).setCell ⟨w.heap.size + 1 + 1, 0, none⟩ (.bool false)) := (Kx.gr G6.out).tr ((Kx.set (Z := X) (p := ⟨w.heap.size + 1 + 1 + 1, 0, none⟩) X7.out _).tr ((Kx.set (Z := X) (p := ⟨w.heap.size + 1 + 1 + 1 + 1, 0, none⟩) X8.out _).tr (Kx.set (Z := X) (p := ⟨w.heap.size + 1 + 1, 0, none⟩) X6.out _)))
        refine ⟨kk, rfl, HY.out, HK.out.tr kk, ((D6.out.other n5).other n6).set (i := 0) (v := .bool false) (by simp), ?_⟩
        rw [EB.out]
        simpa using hc
  case done =>
    rintro D xs X Y W hD rfl ⟨rfl, hY, hk, h6, h7, h8, hba⟩ hYD hK
    have f3 := O3.out.kx hk (fun e => by have := Hx0.out _ e; omega)
    have hall : ∀ x ∈ truthsL te off (rl ++ ml), TrB x := fun x hx => by
      obtain ⟨k, _, rfl⟩ := List.mem_map.1 hx
      exact truthAt_bd o0 o1 HB.out k
    obtain ⟨s0, s1⟩ := sumS_bd true _ hall
    have hlen : ((truthsL te off (rl ++ ml)).length : Int) ≤ 1000 := by simp [truthsL]; omega
    obtain ⟨S, hS⟩ : ∃ S, sumS true (truthsL te off (rl ++ ml)) = S := ⟨_, rfl⟩
    rw [hS] at h7 s0 s1
    rw [IntWalk.i64_in S (by omega)] at h7
    have hm0 : 0 ≤ (te : Int) * me := Int.mul_nonneg (by omega) m0
    have hm1 : (te : Int) * me ≤ 1000 * 100000 := Int.mul_le_mul (by omega) m1 m0 (by omega)
    have v0 : IntKind.i64.wrap ((te : Int) * me) = (te : Int) * me := IntWalk.i64_in _ (by omega)
    have e30 := f3.1.2 0 _ rfl
    have e31 := f3.1.2 1 _ rfl
    have c7 := h7.1.c1
    have c6 := h6.1.c1
    have z6 := h6.2 0
    have D6 := Lib.hid h6
    have HKK := Lib.hid hk
    have HS := Lib.hid hS
    have HBa := Lib.hid hba
    have X6 := Lib.hid x6
    clear h6 h7 h8 f3 hk hall hY x6 x7 x8 hba hS s0 s1 hm0 hm1
    gi_wp2
    have oz := D6.out.set (i := 0) (v := .bool (decide ((te : Int) * me ≤ S))) (by simp)
    have kk := HKK.out.tr (Kx.set (Z := X) (w := W) (p := ⟨w.heap.size + 1 + 1, 0, none⟩) X6.out (.bool (decide ((te : Int) * me ≤ S))))
    refine leaves_marks [D] _ (fun E hE => ?_) (by simp) fun w' hk' => ?_
    · simp only [List.mem_singleton] at hE
      subst hE
      exact (Below.heap_setCell _ _ _ _ (by dsimp only; omega)).trans hK
    · have p0 := (oz.kx hk' (fun e => by simp only [List.mem_singleton] at e; omega)).1.c1
      refine ⟨.bool (decide ((te : Int) * me ≤ S)), by simp [results, Try.results110, go_sem, p0], ?_, Kx.toGr (((Kx.gr (Z := noBlock) G4.out).th kk fun i e => ?_).th hk' fun i e => ?_)⟩
      · have e1 : decide (badS true low (truthsL te off (rl ++ ml)) ≤ ba) = true := by simpa using HBa.out
        unfold passB
        rw [e1, HS.out, Bool.true_and]
      · have := Hx0.out i e
        exact .inr (by omega)
      · simp only [List.mem_singleton] at e
        exact .inr (by omega)
  case stop =>
    rintro D c pre Y W hD ⟨m, hm, hpm⟩ ⟨rfl, hY, hk, h6, hbad⟩ hYD hK
    gi_wp2
    refine leaves_marks [D] _ (fun E hE => ?_) (by simp) fun w' hk' => ?_
    · simp only [List.mem_singleton] at hE
      subst hE
      exact hK
    · have p0 := (h6.kx hk' (fun e => by simp only [List.mem_singleton] at e; omega)).1.c1
      refine ⟨.bool false, by simp [results, Try.results110, go_sem, p0], ?_, Kx.toGr (((Kx.gr (Z := noBlock) G4.out).th hk fun i e => ?_).th hk' fun i e => ?_)⟩
      · have h1 := badS_le true low pre ((truthsL te off (rl ++ ml)).drop m)
        rw [hpm, List.take_append_drop, ← hpm] at h1
        have e1 : decide (badS true low (truthsL te off (rl ++ ml)) ≤ ba) = false := by simp; omega
        unfold passB
        rw [e1, Bool.false_and]
      · have := Hx0.out i e
        exact .inr (by omega)
      · simp only [List.mem_singleton] at e
        exact .inr (by omega)

end Go.Proofs.Ytcdilmagcdbogaa

namespace Go.Proofs.Ytcdilmagcdbogaa
set_option linter.unusedVariables false
set_option linter.unusedSimpArgs false
open Go.RowKit Go.Shelf
attribute [local go_sem] Oper.semAt_some

def whAt (l : List Ld) (x : Nat) : Int := match l[x]? with
  | some y => y.wh
  | none => 0

def sumW (l : List Ld) : List Nat → Int
  | [] => 0
  | x :: r => whAt l x + sumW l r

theorem sumW_app (l : List Ld) (x : Nat) : ∀ r : List Nat, sumW l (r ++ [x]) = sumW l r + whAt l x
  | [] => by simp [sumW]
  | y :: r => by
    simp only [List.cons_append, sumW, sumW_app l x r]
    omega

theorem whAt_bd {l : List Ld} (hB : ∀ x ∈ l, LdB x) (x : Nat) : 0 ≤ whAt l x ∧ whAt l x ≤ 1000000000 := by
  unfold whAt
  cases h : l[x]? with
  | none => simp
  | some y => exact ⟨(hB y (List.mem_of_getElem? h)).2.2.1, (hB y (List.mem_of_getElem? h)).2.2.2⟩

theorem sumW_bd {l : List Ld} (hB : ∀ x ∈ l, LdB x) : ∀ r : List Nat, 0 ≤ sumW l r ∧ sumW l r ≤ 1000000000 * (r.length : Int)
  | [] => by simp [sumW]
  | y :: r => by
    obtain ⟨a, b⟩ := sumW_bd hB r
    obtain ⟨c, d⟩ := whAt_bd hB y
    simp only [sumW, List.length_cons]
    omega

/-- What the boxes of a set weigh at most. -/
def weightW (l : List Ld) (s : Nat) : Int := sumW l (membL s)

theorem weightW_bd {l : List Ld} (hB : ∀ x ∈ l, LdB x) (s : Nat) : 0 ≤ weightW l s ∧ weightW l s ≤ 10000000000 := by
  obtain ⟨a, b⟩ := sumW_bd hB (membL s)
  have := membTo_len s 10
  unfold membL at b
  unfold weightW membL at *
  omega

theorem bit_lt {s n x : Nat} (hs : s < 2 ^ n) (h : s.testBit x = true) : x < n := by
  rcases Nat.lt_or_ge x n with h1 | h1
  · exact h1
  · rw [Nat.testBit_lt_two_pow (Nat.lt_of_lt_of_le hs (Nat.pow_le_pow_right (by decide) h1))] at h
    cases h

theorem pow_le_1024 {n : Nat} (h : n ≤ 10) : 2 ^ n ≤ 1024 := Nat.pow_le_pow_right (n := 2) (by decide) h

/-- While weight adds. -/
def InvS (l : List Ld) (b5 : Nat) (X0 : Nat → Prop) (w4 : World) (pre : List Nat) (X Y : Nat → Prop) (W : World) : Prop :=
  X = X0 ∧ (∀ i, Y i → w4.heap.size ≤ i) ∧ Kx X0 w4 W ∧ Own W b5 [.int .i64 (IntKind.i64.wrap (sumW l pre))]

theorem InvS.ab {l : List Ld} {b5 : Nat} {X0 : Nat → Prop} {w4 : World} (h5 : b5 < w4.heap.size) (s : List Nat) (X : Nat → Prop) : Ab (InvS l b5 X0 w4 s X) := by
  rintro Y Y' A B ⟨h1, h2, h3, h4⟩ hk hy
  have hs := h3.size
  refine ⟨h1, fun i e => ?_, h3.th hk fun i e => .inr (h2 i e), h4.kx hk fun e => ?_⟩
  · rcases hy i e with e | e
    · exact h2 i e
    · omega
  · have := h2 _ e; omega

theorem members_any' (set : Int) (w : World) :
    Calls Try.prog 128 #[.int .i64 set] w fun e w' => ∃ b, e = .returned (.func (.func 148) #[] #[.pointer (some ⟨b, 0, none⟩)]) ∧ w.heap.size ≤ b ∧ Own w' b [.int .i64 set] ∧ Gr w w' :=
  (members_any set w).mono fun _ _ h => ⟨w.heap.size, h.1, Nat.le_refl _, h.2.1, h.2.2⟩

set_option maxRecDepth 100000 in
set_option maxHeartbeats 4000000 in
theorem weight_set (l : List Ld) (h10 : l.length ≤ 10) (hB : ∀ x ∈ l, LdB x) (s : Nat) (hs : s < 2 ^ l.length) (a : Option Addr) (cap : Nat) (keep : Int) (mv : Option Nat) (w : World) (hr : LRow w a l) :
    Calls Try.prog 146 #[.agg #[.slice a l.length cap, .int .i64 keep, .map mv], .int .i64 (s : Int)] w fun e w' => e = .returned (.int .i64 (weightW l s)) ∧ Gr w w' := by
  refine (callsIn_wide (n := 20)).1 ?_
  have hs10 : s < 1024 := Nat.lt_of_lt_of_le hs (pow_le_1024 h10)
  have gg := (Gr.al w (.cells #[.slice a l.length cap, .int .i64 keep, .map mv] 168)).tr (Gr.al _ (.cells #[.int .i64 0] 3))
  have o2 := (Own.new w [.slice a l.length cap, .int .i64 keep, .map mv] 168 w.heap.size rfl).keep (Gr.al _ (.cells #[.int .i64 0] 3))
  have o5 := Own.new (w.alloc (.cells #[.slice a l.length cap, .int .i64 keep, .map mv] 168)) [.int .i64 0] 3 (w.heap.size + 1) (by simp)
  refine callsIn_of_wp_marks Try.func146 rfl trivial ?_ rfl
  simp only [Try.ntmps146, List.size_toArray, List.length_cons, List.length_nil, Nat.reduceAdd, Nat.reduceSub, Array.replicate_succ, Array.replicate_zero, List.push_toArray, List.append_toArray, List.nil_append, List.cons_append]
  gi_wp2_with (refine ⟨trivial, ?_⟩; gi_at_call 128; refine (callsIn_wide.2 (members_any' (s : Int) _)).mono ?_; rintro e w4 ⟨b, rfl, hb, hO, h4⟩; have HO := Lib.hid hO; have O2 := Lib.hid (o2.keep h4); have O5 := Lib.hid (o5.keep h4); have G4 := Lib.hid (gg.tr h4); clear hO h4)
  have hb2 : w.heap.size + 2 ≤ b := by simpa using hb
  have s4 : w.heap.size + 2 ≤ w4.heap.size := by have := O5.out.1.1; omega
  clear hb gg o2 o5
  obtain ⟨X0, hX0⟩ : ∃ X0 : Nat → Prop, X0 = fun i => i = w.heap.size + 1 := ⟨_, rfl⟩
  have x0 : ∀ i, X0 i → i = w.heap.size + 1 := fun i e => by rw [hX0] at e; exact e
  have x5 : X0 (w.heap.size + 1) := by rw [hX0]
  have hst : St X0 (fun V => Own V b [.int .i64 (s : Int)]) w4 := fun B hB => HO.out.kx hB fun e => by have := x0 _ e; omega
  have hrw : St X0 (fun V => LRow V a l) w4 := fun B hB => by
    by_cases h0 : 0 < l.length
    · obtain ⟨b2, off2, e2, hb2', _⟩ := hr.2 0 l[0] (by simp)
      refine RowOf.kx (hr.grow G4.out) hB fun b' off e e' => ?_
      have := x0 _ e'
      rw [e] at e2
      injection e2 with e2
      injection e2 with e2 _
      omega
    · obtain rfl : l = [] := by simpa using h0
      exact RowOf.nil
  have Hx0 := Lib.hid x0
  have X5 := Lib.hid x5
  have Hst := Lib.hid hst
  have HRW := Lib.hid hrw
  have HB := Lib.hid hB
  clear hX0 x0 x5 hst hrw hB hr
  refine wpIn_rangeX (F := Fence.wide) rfl (by omega) (gf := 148) (lb := #[.pointer (some ⟨b, 0, none⟩)]) rfl trivial (enters_of Try.func148 (by kernel_rfl) rfl)
    (members_seq 19 (by omega) b s hs10 X0 w4 Hst.out) (Kx.refl _ _) (fun _ => rfl) X0 (fun i e => ⟨by have := Hx0.out i e; omega, .inl e⟩)
    (InvS l (w.heap.size + 1) X0 w4) (fun _ _ _ _ => False) (fun s X => InvS.ab (by omega) s X) ?abX ?start
    (fun pre x a' X Y W => InvS l (w.heap.size + 1) X0 w4 pre X Y W ∧ s.testBit x = true ∧ a' = ⟨#[.agg #[.slice a l.length cap, .int .i64 keep, .map mv], .int .i64 (s : Int), .pointer (some ⟨w.heap.size, 0, none⟩), undef, .int .i64 0, .pointer (some ⟨w.heap.size + 1, 0, none⟩), .int .i64 (x : Int), .int .i64 (s : Int), .func (.func 148) #[] #[.pointer (some ⟨b, 0, none⟩)], .int .i64 (x : Int), undef, undef, undef, undef, undef, undef, undef, undef, undef, undef], []⟩)
    ?abA ?assign ?body ?done ?stop
  case start => exact ⟨rfl, fun i e => e.elim, Kx.refl _ _, O5.out⟩
  case abX => rintro c s Y Y' A B h _ _; exact h
  case abA =>
    rintro s' x a' X Y Y' A B ⟨h1, hm, h7⟩ hk hy
    exact ⟨InvS.ab (by omega) _ _ _ _ _ _ h1 hk hy, hm, h7⟩
  case assign =>
    rintro l1 pre x X Y W K hI hG hD hK
    dsimp only [encM]
    gi_wp2
    exact hK _ X _ ⟨hI, hG.2.1, rfl⟩ (Kx.refl _ _) (fun i e => ⟨by have := hD.x _ e; omega, .inl e⟩)
  case body =>
    rintro l1 pre xn a' X Y W ⟨⟨rfl, hY, hk, h5⟩, hT, rfl⟩ hD hYl hrec
    have hx : xn < l.length := bit_lt hs hT
    obtain ⟨y, hy⟩ : ∃ y, l[xn]? = some y := ⟨l[xn], by simp [hx]⟩
    obtain ⟨c, off, rfl, hc, r0, r1, r2, r3⟩ := LRow.get (HRW.out W hk) hy
    have f2 := O2.out.kx hk (fun e => by have := Hx0.out _ e; omega)
    have q2 := f2.1.2 0 _ rfl
    have q5 := h5.1.c1
    have z5 := h5.2 0
    have hsum : sumW l (pre ++ [xn]) = sumW l pre + y.wh := by rw [sumW_app]; simp [whAt, hy]
    have v0 : IntKind.i64.wrap (IntKind.i64.wrap (sumW l pre) + y.wh) = IntKind.i64.wrap (sumW l (pre ++ [xn])) := by rw [hsum, wrap_add]
    obtain ⟨S', hS'⟩ : ∃ S', IntKind.i64.wrap (sumW l (pre ++ [xn])) = S' := ⟨_, rfl⟩
    rw [hS'] at v0
    obtain ⟨Pv, hPv⟩ : ∃ Pv, IntKind.i64.wrap (sumW l pre) = Pv := ⟨_, rfl⟩
    rw [hPv] at v0 h5 q5
    have H5 := Lib.hid h5
    have HK := Lib.hid hk
    have HY := Lib.hid hY
    have HSS := Lib.hid hS'
    clear h5 hk hY hS' hsum hD hYl hrec hPv f2 hT hy r0 r1 r2
    gi_wp2
    refine wpIn_region_facts 9 [(2, 1), (4, 2), (4, 3), (5, 4), (6, 5), (7, 6), (8, 0), (8, 7)] (fun x => ⟨#[.agg #[.slice (some ⟨c, off, none⟩) l.length cap, .int .i64 keep, .map mv], .int .i64 (s : Int), .pointer (some ⟨w.heap.size, 0, none⟩), undef, .int .i64 0, .pointer (some ⟨(w.heap.size + 1), 0, none⟩), .int .i64 (xn : Int), .int .i64 (s : Int), .func (.func 148) #[] #[.pointer (some ⟨b, 0, none⟩)], .int .i64 (xn : Int), x 0, x 1, x 2, x 3, x 4, x 5, x 6, x 7, x 8, undef], []⟩) (fun _ => undef) [fun _ x => x = .int .i64 Pv, fun _ x => x = .pointer (some ⟨w.heap.size, 0, none⟩), fun _ x => x = .slice (some ⟨c, off, none⟩) l.length cap, fun _ x => x = .int .i64 (xn : Int), fun _ x => x = .pointer (some ⟨c, off + xn * 4, none⟩), fun _ x => x = .pointer (some ⟨c, off + xn * 4 + 2, none⟩), fun _ x => x = .pointer (some ⟨c, off + xn * 4 + 3, none⟩), fun _ x => x = .int .i64 y.wh, fun _ x => x = .int .i64 S'] (by rfl) (by kernel_rfl) (by kernel_rfl) (by kernel_rfl) (by kernel_rfl) (by rintro ⟨_, _, h⟩; exact h) (stays_cons (Stays.eq _) (stays_cons (Stays.eq _) (stays_cons (Stays.eq _) (stays_cons (Stays.eq _) (stays_cons (Stays.eq _) (stays_cons (Stays.eq _) (stays_cons (Stays.eq _) (stays_cons (Stays.eq _) (stays_cons (Stays.eq _) stays_nil))))))))) ?step4 ?fin4
    case step4 =>
      rintro i hi x v gv hd K hK
      have hi8 : i = 0 ∨ i = 1 ∨ i = 2 ∨ i = 3 ∨ i = 4 ∨ i = 5 ∨ i = 6 ∨ i = 7 ∨ i = 8 := by omega
      rcases hi8 with rfl | rfl | rfl | rfl | rfl | rfl | rfl | rfl | rfl
      · show wpOp Try.prog _ _ 0 K (⟨#[.agg #[.slice (some ⟨c, off, none⟩) l.length cap, .int .i64 keep, .map mv], .int .i64 (s : Int), .pointer (some ⟨w.heap.size, 0, none⟩), undef, .int .i64 0, .pointer (some ⟨(w.heap.size + 1), 0, none⟩), .int .i64 (xn : Int), .int .i64 (s : Int), .func (.func 148) #[] #[.pointer (some ⟨b, 0, none⟩)], .int .i64 (xn : Int), x 0, x 1, x 2, x 3, x 4, x 5, x 6, x 7, x 8, undef], []⟩ : Act) v
        refine wpOp_step rfl (fun K' hK' => ?_)
        have q := gv.keep q5
        go_simp
        exact hK' _ _ (hK _ _ (Below.refl _ _) (at_of rfl (rfl)))
      · show wpOp Try.prog _ _ 1 K (⟨#[.agg #[.slice (some ⟨c, off, none⟩) l.length cap, .int .i64 keep, .map mv], .int .i64 (s : Int), .pointer (some ⟨w.heap.size, 0, none⟩), undef, .int .i64 0, .pointer (some ⟨(w.heap.size + 1), 0, none⟩), .int .i64 (xn : Int), .int .i64 (s : Int), .func (.func 148) #[] #[.pointer (some ⟨b, 0, none⟩)], .int .i64 (xn : Int), x 0, x 1, x 2, x 3, x 4, x 5, x 6, x 7, x 8, undef], []⟩ : Act) v
        refine wpOp_step rfl (fun K' hK' => ?_)
        go_simp
        exact hK' _ _ (hK _ _ (Below.refl _ _) (at_of rfl (rfl)))
      · obtain ⟨x, rfl⟩ := upd_of (show x 1 = .pointer (some ⟨w.heap.size, 0, none⟩) from hd 1 _ (by simp) rfl)
        show wpOp Try.prog _ _ 2 K (⟨#[.agg #[.slice (some ⟨c, off, none⟩) l.length cap, .int .i64 keep, .map mv], .int .i64 (s : Int), .pointer (some ⟨w.heap.size, 0, none⟩), undef, .int .i64 0, .pointer (some ⟨(w.heap.size + 1), 0, none⟩), .int .i64 (xn : Int), .int .i64 (s : Int), .func (.func 148) #[] #[.pointer (some ⟨b, 0, none⟩)], .int .i64 (xn : Int), x 0, .pointer (some ⟨w.heap.size, 0, none⟩), x 2, x 3, x 4, x 5, x 6, x 7, x 8, undef], []⟩ : Act) v
        refine wpOp_step rfl (fun K' hK' => ?_)
        have q := gv.keep q2
        go_simp
        exact hK' _ _ (hK _ _ (Below.refl _ _) (at_of rfl (rfl)))
      · show wpOp Try.prog _ _ 3 K (⟨#[.agg #[.slice (some ⟨c, off, none⟩) l.length cap, .int .i64 keep, .map mv], .int .i64 (s : Int), .pointer (some ⟨w.heap.size, 0, none⟩), undef, .int .i64 0, .pointer (some ⟨(w.heap.size + 1), 0, none⟩), .int .i64 (xn : Int), .int .i64 (s : Int), .func (.func 148) #[] #[.pointer (some ⟨b, 0, none⟩)], .int .i64 (xn : Int), x 0, x 1, x 2, x 3, x 4, x 5, x 6, x 7, x 8, undef], []⟩ : Act) v
        refine wpOp_step rfl (fun K' hK' => ?_)
        go_simp
        exact hK' _ _ (hK _ _ (Below.refl _ _) (at_of rfl (rfl)))
      · obtain ⟨x, rfl⟩ := upd_of (show x 2 = .slice (some ⟨c, off, none⟩) l.length cap from hd 2 _ (by simp) rfl)
        obtain ⟨x, rfl⟩ := upd_of (show x 3 = .int .i64 (xn : Int) from hd 3 _ (by simp) rfl)
        show wpOp Try.prog _ _ 4 K (⟨#[.agg #[.slice (some ⟨c, off, none⟩) l.length cap, .int .i64 keep, .map mv], .int .i64 (s : Int), .pointer (some ⟨w.heap.size, 0, none⟩), undef, .int .i64 0, .pointer (some ⟨(w.heap.size + 1), 0, none⟩), .int .i64 (xn : Int), .int .i64 (s : Int), .func (.func 148) #[] #[.pointer (some ⟨b, 0, none⟩)], .int .i64 (xn : Int), x 0, x 1, .slice (some ⟨c, off, none⟩) l.length cap, .int .i64 (xn : Int), x 4, x 5, x 6, x 7, x 8, undef], []⟩ : Act) v
        refine wpOp_step rfl (fun K' hK' => ?_)
        go_simp
        exact hK' _ _ (hK _ _ (Below.refl _ _) (at_of rfl (rfl)))
      · obtain ⟨x, rfl⟩ := upd_of (show x 4 = .pointer (some ⟨c, off + xn * 4, none⟩) from hd 4 _ (by simp) rfl)
        show wpOp Try.prog _ _ 5 K (⟨#[.agg #[.slice (some ⟨c, off, none⟩) l.length cap, .int .i64 keep, .map mv], .int .i64 (s : Int), .pointer (some ⟨w.heap.size, 0, none⟩), undef, .int .i64 0, .pointer (some ⟨(w.heap.size + 1), 0, none⟩), .int .i64 (xn : Int), .int .i64 (s : Int), .func (.func 148) #[] #[.pointer (some ⟨b, 0, none⟩)], .int .i64 (xn : Int), x 0, x 1, x 2, x 3, .pointer (some ⟨c, off + xn * 4, none⟩), x 5, x 6, x 7, x 8, undef], []⟩ : Act) v
        refine wpOp_step rfl (fun K' hK' => ?_)
        go_simp
        exact hK' _ _ (hK _ _ (Below.refl _ _) (at_of rfl (rfl)))
      · obtain ⟨x, rfl⟩ := upd_of (show x 5 = .pointer (some ⟨c, off + xn * 4 + 2, none⟩) from hd 5 _ (by simp) rfl)
        show wpOp Try.prog _ _ 6 K (⟨#[.agg #[.slice (some ⟨c, off, none⟩) l.length cap, .int .i64 keep, .map mv], .int .i64 (s : Int), .pointer (some ⟨w.heap.size, 0, none⟩), undef, .int .i64 0, .pointer (some ⟨(w.heap.size + 1), 0, none⟩), .int .i64 (xn : Int), .int .i64 (s : Int), .func (.func 148) #[] #[.pointer (some ⟨b, 0, none⟩)], .int .i64 (xn : Int), x 0, x 1, x 2, x 3, x 4, .pointer (some ⟨c, off + xn * 4 + 2, none⟩), x 6, x 7, x 8, undef], []⟩ : Act) v
        refine wpOp_step rfl (fun K' hK' => ?_)
        go_simp
        exact hK' _ _ (hK _ _ (Below.refl _ _) (at_of rfl (rfl)))
      · obtain ⟨x, rfl⟩ := upd_of (show x 6 = .pointer (some ⟨c, off + xn * 4 + 3, none⟩) from hd 6 _ (by simp) rfl)
        show wpOp Try.prog _ _ 7 K (⟨#[.agg #[.slice (some ⟨c, off, none⟩) l.length cap, .int .i64 keep, .map mv], .int .i64 (s : Int), .pointer (some ⟨w.heap.size, 0, none⟩), undef, .int .i64 0, .pointer (some ⟨(w.heap.size + 1), 0, none⟩), .int .i64 (xn : Int), .int .i64 (s : Int), .func (.func 148) #[] #[.pointer (some ⟨b, 0, none⟩)], .int .i64 (xn : Int), x 0, x 1, x 2, x 3, x 4, x 5, .pointer (some ⟨c, off + xn * 4 + 3, none⟩), x 7, x 8, undef], []⟩ : Act) v
        refine wpOp_step rfl (fun K' hK' => ?_)
        have q := gv.keep r3
        go_simp
        exact hK' _ _ (hK _ _ (Below.refl _ _) (at_of rfl (rfl)))
      · obtain ⟨x, rfl⟩ := upd_of (show x 0 = .int .i64 Pv from hd 0 _ (by simp) rfl)
        obtain ⟨x, rfl⟩ := upd_of (show x 7 = .int .i64 y.wh from hd 7 _ (by simp) rfl)
        show wpOp Try.prog _ _ 8 K (⟨#[.agg #[.slice (some ⟨c, off, none⟩) l.length cap, .int .i64 keep, .map mv], .int .i64 (s : Int), .pointer (some ⟨w.heap.size, 0, none⟩), undef, .int .i64 0, .pointer (some ⟨(w.heap.size + 1), 0, none⟩), .int .i64 (xn : Int), .int .i64 (s : Int), .func (.func 148) #[] #[.pointer (some ⟨b, 0, none⟩)], .int .i64 (xn : Int), .int .i64 Pv, x 1, x 2, x 3, x 4, x 5, x 6, .int .i64 y.wh, x 8, undef], []⟩ : Act) v
        refine wpOp_step rfl (fun K' hK' => ?_)
        go_simp
        exact hK' _ _ (hK _ _ (Below.refl _ _) (at_of rfl (rfl)))
    case fin4 =>
      rintro x v gv hd
      obtain ⟨x, rfl⟩ := upd_of (show x 8 = .int .i64 S' from hd 8 _ (by omega) rfl)
      clear hd
      show wpList Try.prog _ _ (List.drop 9 _) (⟨#[.agg #[.slice (some ⟨c, off, none⟩) l.length cap, .int .i64 keep, .map mv], .int .i64 (s : Int), .pointer (some ⟨w.heap.size, 0, none⟩), undef, .int .i64 0, .pointer (some ⟨(w.heap.size + 1), 0, none⟩), .int .i64 (xn : Int), .int .i64 (s : Int), .func (.func 148) #[] #[.pointer (some ⟨b, 0, none⟩)], .int .i64 (xn : Int), x 0, x 1, x 2, x 3, x 4, x 5, x 6, x 7, .int .i64 S', undef], []⟩ : Act) v
      simp only [List.drop_succ_cons, List.drop_zero]
      have d5 := H5.out.keep gv
      have p5 := d5.1.c1
      have y5 := d5.2 0
      have D5 := Lib.hid d5
      have GV := Lib.hid gv
      clear d5 gv z5 q5 q2 r3
      go_wp2
      have kk : Kx X W (v.setCell ⟨w.heap.size + 1, 0, none⟩ (.int .i64 S')) := (Kx.gr GV.out).tr (Kx.set (Z := X) (p := ⟨w.heap.size + 1, 0, none⟩) X5.out _)
      refine ⟨kk, X, ⟨rfl, HY.out, HK.out.tr kk, ?_⟩, fun i e => ⟨by have := Hx0.out i e; have := HK.out.size; have := kk.size; omega, .inl e⟩⟩
      rw [HSS.out]
      exact D5.out.set (i := 0) (v := .int .i64 S') (by simp)
  case done =>
    rintro D xs X Y W hD rfl ⟨rfl, hY, hk, h5⟩ hYD hK
    obtain ⟨w0, w1⟩ := weightW_bd HB.out s
    have e5 : IntKind.i64.wrap (sumW l (membL s)) = weightW l s := IntWalk.i64_in (weightW l s) (by omega)
    rw [e5] at h5
    have c5 := h5.1.c1
    have HKK := Lib.hid hk
    clear h5 hk hY e5 w0 w1 hYD
    gi_wp2
    refine leaves_marks [D] _ (fun E hE => ?_) (by simp) fun w' hk' => ?_
    · simp only [List.mem_singleton] at hE
      subst hE
      exact hK
    · refine ⟨.int .i64 (weightW l s), by simp [results, Try.results146, go_sem], rfl, Kx.toGr (((Kx.gr (Z := noBlock) G4.out).th HKK.out fun i e => ?_).th hk' fun i e => ?_)⟩
      · have := Hx0.out i e
        exact .inr (by omega)
      · simp only [List.mem_singleton] at e
        exact .inr (by omega)
  case stop =>
    rintro D c pre Y W hD _ hF
    exact hF.elim

end Go.Proofs.Ytcdilmagcdbogaa

namespace Go.Proofs.Ytcdilmagcdbogaa
set_option linter.unusedVariables false
set_option linter.unusedSimpArgs false
open Go.RowKit

theorem zeroB (w : World) : (zeroValue 4).run Try.prog w = .ok (.bool false) w := by kernel_rfl

theorem plainElem_bool_inv {P : Program} {e : TypeId} (he : P.underlying e = some .bool) {v : Value} {z : DataW Unit × List MemPlace} (h : plainElem P e v = some z) : ∃ x, v = .bool x ∧ z = (.lit (.bool x), []) := by
  unfold plainElem at h
  rw [he] at h
  cases v <;> simp at h
  exact ⟨_, rfl, h.symm⟩

/-- Block b is a map of at most n entries in which each number x leads to f x (false where x is not in it). -/
def MapB (w : World) (b n : Nat) (f : Int → Bool) : Prop :=
  ∃ D : DataW Unit, Maps.IsMap D ∧ w.ownsMap Try.prog 3 (plainElem Try.prog 4) b n D ∧ ∀ x : Int, D.atKey (.int .i64 x) (.lit (.bool false)) = .lit (.bool (f x))

theorem MapB.lt {w : World} {b n : Nat} {f : Int → Bool} (h : MapB w b n f) : b < w.heap.size := by
  obtain ⟨D, _, h, _⟩ := h
  exact h.lt

theorem MapB.keep {w w' : World} {b n : Nat} {f : Int → Bool} (h : MapB w b n f) (g : Gr w w') : MapB w' b n f := by
  have hlt := h.lt
  obtain ⟨D, hD, ⟨es, clock, hb, F, hs, hd⟩, ha⟩ := h
  exact ⟨D, hD, ⟨es, clock, (g.block b hlt).trans hb, F, hs, hd⟩, ha⟩

theorem MapB.kx {Z : Nat → Prop} {w w' : World} {b n : Nat} {f : Int → Bool} (h : MapB w b n f) (k : Kx Z w w') (hz : ¬ Z b) : MapB w' b n f := by
  obtain ⟨D, hD, ⟨es, clock, hb, F, hs, hd⟩, ha⟩ := h
  exact ⟨D, hD, ⟨es, clock, k.keepO hb hz, F, hs, hd⟩, ha⟩

theorem MapB.made (w : World) : MapB (w.alloc (.map #[] 0)) w.heap.size 0 (fun _ => false) :=
  ⟨.map [], ⟨[], rfl⟩, World.ownsMap_made _ _ _ _, fun _ => rfl⟩

theorem MapB.look {w : World} {b n : Nat} {f : Int → Bool} (h : MapB w b n f) (x : Int) (hx : (Lit.int .i64 x).wf = true) :
    (Instr.lookup 95 (.map (some b)) (.int .i64 x) false).run Try.prog w = .ok (.bool (f x)) w := by
  obtain ⟨D, _, ho, ha⟩ := h
  obtain ⟨v, ps, hrun, hv⟩ := ho.lookup key3 Try.underlying95 (zeroB w) (plainElem_bool Try.underlying4 false) (Maps.keyOf_int_mk Try.underlying3 hx)
  obtain ⟨c, rfl, hc⟩ := plainElem_bool_inv Try.underlying4 hv
  simp only [Prod.mk.injEq] at hc
  have hat := hc.1
  rw [ha x] at hat
  have e : f x = c := by
    simp only [DataW.lit.injEq, Lit.bool.injEq] at hat
    exact hat
  rw [hrun, e]

theorem MapB.put {w : World} {b n : Nat} {f : Int → Bool} (h : MapB w b n f) (hn : n < 10000) (x : Int) (v : Bool) (hx : (Lit.int .i64 x).wf = true) :
    ∃ w', (Instr.mapUpdate 95 (.map (some b)) (.int .i64 x) (.bool v)).run Try.prog w = .ok () w' ∧ MapB w' b (n + 1) (fun y => if y = x then v else f y) ∧ w.grownBy w' (some b) := by
  obtain ⟨D, hD, ho, ha⟩ := h
  obtain ⟨w', hrun, ho', hg⟩ := ho.update (val := .bool v) (d := .lit (.bool v)) (ps := []) key3 Try.underlying95 (by unfold maxLen; omega) (Maps.keyOf_int_mk Try.underlying3 hx) (plainElem_bool Try.underlying4 v)
  refine ⟨w', hrun, ⟨_, hD.put _ _, ho', fun y => ?_⟩, hg⟩
  by_cases h : y = x
  · subst h
    rw [Maps.atKey_put_same hD (by trivial)]
    show _ = DataW.lit (.bool (if y = y then v else f y))
    rw [if_pos rfl]
  · rw [Maps.atKey_put_other (by intro e; injection e with _ e; exact h e), ha y]
    show _ = DataW.lit (.bool (if y = x then v else f y))
    rw [if_neg h]

theorem MapB.other {w : World} {b n c i : Nat} {f : Int → Bool} {v : Value} (h : MapB w b n f) (hne : b ≠ c) : MapB (w.setCell ⟨c, i, none⟩ v) b n f := by
  obtain ⟨D, hD, ⟨es, clock, hb, F, hs, hd⟩, ha⟩ := h
  exact ⟨D, hD, ⟨es, clock, (Below.heap_setCell _ _ _ _ hne).trans hb, F, hs, hd⟩, ha⟩

theorem MapB.congr {w : World} {b n n' : Nat} {f g : Int → Bool} (h : MapB w b n f) (hn : n ≤ n') (e : ∀ y, f y = g y) : MapB w b n' g := by
  have : f = g := funext e
  subst this
  obtain ⟨D, hD, ho, ha⟩ := h
  exact ⟨D, hD, ho.mono hn, ha⟩

/-- A set without a number. -/
def without (s x : Nat) : Nat := s ^^^ 2 ^ x

theorem without_bit {s x : Nat} (h : s.testBit x = true) (i : Nat) : (without s x).testBit i = (s.testBit i && !decide (x = i)) := by
  unfold without
  rw [Nat.testBit_xor, Nat.testBit_two_pow]
  by_cases e : x = i
  · subst e; simp [h]
  · simp [e]

theorem pow_1024 {x : Nat} (hx : x < 10) : 2 ^ x < 1024 := Nat.lt_of_lt_of_le (Nat.pow_lt_pow_right (a := 2) (by decide) hx) (by decide)

theorem ofInt_64 (a : Nat) (h : a < 18446744073709551616) : (BitVec.ofInt 64 (a : Int)).toNat = a := by
  rw [BitVec.ofInt_natCast, BitVec.toNat_ofNat]
  exact Nat.mod_eq_of_lt h

theorem without_and {s x : Nat} (hs : s < 1024) (hx : x < 10) (h : s.testBit x = true) : s &&& (18446744073709551615 - 2 ^ x) = without s x := by
  have h2 := pow_1024 hx
  apply Nat.eq_of_testBit_eq
  intro i
  rw [show 18446744073709551615 - 2 ^ x = 2 ^ 64 - (2 ^ x + 1) by omega, Nat.testBit_and, Nat.testBit_two_pow_sub_succ (by omega), Nat.testBit_two_pow, without_bit h]
  by_cases h64 : i < 64
  · simp [h64]
  · have : s.testBit i = false := Nat.testBit_lt_two_pow (Nat.lt_of_lt_of_le hs (Nat.le_trans (by decide : 1024 ≤ 2 ^ 64) (Nat.pow_le_pow_right (by decide) (by omega))))
    simp [this]

theorem without_lt {s x : Nat} (hs : s < 1024) (hx : x < 10) (h : s.testBit x = true) : without s x < s := by
  have h1 : without s x ≤ s := by rw [← without_and hs hx h]; exact Nat.and_le_left
  have h2 : without s x ≠ s := fun e => by
    have := without_bit h x
    rw [e, h] at this
    simp at this
  omega

theorem without_bits {s x : Nat} (hs : s < 1024) (hx : x < 10) (h : s.testBit x = true) : bits .andNot .i64 (s : Int) ((2 : Int) ^ x) = ((without s x : Nat) : Int) := by
  have h2 := pow_1024 hx
  have h3 := without_lt hs hx h
  rw [show (2 : Int) ^ x = ((2 ^ x : Nat) : Int) by simp]
  show IntKind.i64.wrap ((BitVec.ofInt 64 (s : Int) &&& ~~~BitVec.ofInt 64 ((2 ^ x : Nat) : Int)).toNat : Int) = _
  rw [BitVec.toNat_and, BitVec.toNat_not, ofInt_64 s (by omega), ofInt_64 (2 ^ x) (by omega), show 2 ^ 64 - 1 - 2 ^ x = 18446744073709551615 - 2 ^ x by omega, without_and hs hx h]
  exact IntWalk.i64_in _ (by omega)

end Go.Proofs.Ytcdilmagcdbogaa

namespace Go.Proofs.Ytcdilmagcdbogaa
set_option linter.unusedVariables false
set_option linter.unusedSimpArgs false
open Go.RowKit Go.Shelf
attribute [local go_sem] Oper.semAt_some

/-- Whether a box bears all others of a set, which stand. -/
def lowB (l : List Ld) (keep : Int) (f : Int → Bool) (s x : Nat) : Bool := match l[x]? with
  | some y => f ((without s x : Nat) : Int) && decide (weightW l (without s x) ≤ y.sl * keep / 1000)
  | none => false

def lowO (l : List Ld) (keep : Int) (f : Int → Bool) (s : Nat) : Option Nat := (membL s).find? (lowB l keep f s)

def lowV (l : List Ld) (keep : Int) (f : Int → Bool) (s : Nat) : Value := match lowO l keep f s with
  | none => .tuple #[.int .i64 0, .bool false]
  | some k => .tuple #[.int .i64 (k : Int), .bool true]

theorem wrap_small (N : Nat) (h : N < 1024) : IntKind.i64.wrap (N : Int) = N := IntWalk.i64_in _ (by omega)

theorem membTo_add (s k : Nat) : ∀ n, ∃ t, membTo s (k + n) = membTo s k ++ t
  | 0 => ⟨[], by simp⟩
  | n + 1 => by
    obtain ⟨t, ht⟩ := membTo_add s k n
    rw [show k + (n + 1) = (k + n) + 1 by omega, membTo_succ, ht]
    split
    · exact ⟨t ++ [k + n], by simp⟩
    · exact ⟨t, rfl⟩

theorem membL_pre {s k : Nat} (hk : k ≤ 10) : ∃ t, membL s = membTo s k ++ t := by
  obtain ⟨t, ht⟩ := membTo_add s k (10 - k)
  rw [show k + (10 - k) = 10 by omega] at ht
  exact ⟨t, ht⟩

theorem find_first {p : Nat → Bool} {pre t : List Nat} {x : Nat} (h : ∀ y ∈ pre, p y = false) (hx : p x = true) : ((pre ++ [x]) ++ t).find? p = some x := by
  rw [List.find?_append, List.find?_append]
  have : pre.find? p = none := by
    rw [List.find?_eq_none]
    intro y hy
    rw [h y hy]
    decide
  simp [this, hx]

theorem find_no {p : Nat → Bool} {l : List Nat} (h : ∀ y ∈ l, p y = false) : l.find? p = none := by
  rw [List.find?_eq_none]
  intro y hy
  rw [h y hy]
  decide

/-- While a condition is looked for: what the rounds have not turned; none that has come fulfils it. -/
def InvQ (p : Nat → Bool) (X0 : Nat → Prop) (w4 : World) (pre : List Nat) (X Y : Nat → Prop) (W : World) : Prop :=
  X = X0 ∧ (∀ i, Y i → w4.heap.size ≤ i) ∧ Gr w4 W ∧ ∀ y ∈ pre, p y = false

theorem InvQ.ab {p : Nat → Bool} {X0 : Nat → Prop} {w4 : World} (s : List Nat) (X : Nat → Prop) : Ab (InvQ p X0 w4 s X) := by
  rintro Y Y' A B ⟨h1, h2, h3, h4⟩ hk hy
  have hs := h3.size
  refine ⟨h1, fun i e => ?_, Kx.toGr ((Kx.gr (Z := noBlock) h3).th hk fun i e => .inr (h2 i e)), h4⟩
  rcases hy i e with e | e
  · exact h2 i e
  · omega

theorem InvQ.next {p : Nat → Bool} {X0 : Nat → Prop} {w4 : World} {pre : List Nat} {x : Nat} {X Y : Nat → Prop} {W W' : World} (hx : p x = false) (h : InvQ p X0 w4 pre X Y W) (g : Gr W W') : InvQ p X0 w4 (pre ++ [x]) X Y W' := by
  obtain ⟨h1, h2, h3, h4⟩ := h
  refine ⟨h1, h2, h3.tr g, fun y hy => ?_⟩
  rcases List.mem_append.1 hy with hy | hy
  · exact h4 y hy
  · simp only [List.mem_singleton] at hy
    subst hy
    exact hx

def FndQ (p : Nat → Bool) (X0 : Nat → Prop) (w4 : World) (b4 b5 : Nat) (c : Code) (pre : List Nat) (Y : Nat → Prop) (W : World) : Prop :=
  c = .ret ∧ (∀ i, Y i → w4.heap.size ≤ i) ∧ Kx X0 w4 W ∧ ∃ pre' x, pre = pre' ++ [x] ∧ (∀ y ∈ pre', p y = false) ∧ p x = true ∧ Own W b4 [.int .i64 (x : Int)] ∧ Own W b5 [.bool true]

set_option maxRecDepth 100000 in
set_option maxHeartbeats 4000000 in
theorem lowest_set (l : List Ld) (h10 : l.length ≤ 10) (hB : ∀ x ∈ l, LdOk x) (s : Nat) (hs : s < 2 ^ l.length) (a : Option Addr) (cap : Nat) (keep : Int) (k0 : 0 ≤ keep) (k1 : keep ≤ 1000) (m n : Nat) (f : Int → Bool) (w : World) (hr : LRow w a l) (hm : MapB w m n f) :
    Calls Try.prog 126 #[.agg #[.slice a l.length cap, .int .i64 keep, .map (some m)], .int .i64 (s : Int)] w fun e w' => e = .returned (lowV l keep f s) ∧ Gr w w' := by
  refine (callsIn_wide (n := 20)).1 ?_
  have hs10 : s < 1024 := Nat.lt_of_lt_of_le hs (pow_le_1024 h10)
  have gg := ((Gr.al w (.cells #[.slice a l.length cap, .int .i64 keep, .map (some m)] 168)).tr (Gr.al _ (.cells #[.int .i64 (s : Int)] 3))).tr ((Gr.al _ (.cells #[.int .i64 0] 3)).tr (Gr.al _ (.cells #[.bool false] 4)))
  have o2 := (Own.new w [.slice a l.length cap, .int .i64 keep, .map (some m)] 168 w.heap.size rfl).keep ((Gr.al _ (.cells #[.int .i64 (s : Int)] 3)).tr ((Gr.al _ (.cells #[.int .i64 0] 3)).tr (Gr.al _ (.cells #[.bool false] 4))))
  have o3 := (Own.new (w.alloc (.cells #[.slice a l.length cap, .int .i64 keep, .map (some m)] 168)) [.int .i64 (s : Int)] 3 (w.heap.size + 1) (by simp)).keep ((Gr.al _ (.cells #[.int .i64 0] 3)).tr (Gr.al _ (.cells #[.bool false] 4)))
  have o4 := (Own.new ((w.alloc (.cells #[.slice a l.length cap, .int .i64 keep, .map (some m)] 168)).alloc (.cells #[.int .i64 (s : Int)] 3)) [.int .i64 0] 3 (w.heap.size + 1 + 1) (by simp)).keep (Gr.al _ (.cells #[.bool false] 4))
  have o5 := Own.new (((w.alloc (.cells #[.slice a l.length cap, .int .i64 keep, .map (some m)] 168)).alloc (.cells #[.int .i64 (s : Int)] 3)).alloc (.cells #[.int .i64 0] 3)) [.bool false] 4 (w.heap.size + 1 + 1 + 1) (by simp)
  have q3 := o3.1.c1
  refine callsIn_of_wp_marks Try.func126 rfl trivial ?_ rfl
  simp only [Try.ntmps126, List.size_toArray, List.length_cons, List.length_nil, Nat.reduceAdd, Nat.reduceSub, Array.replicate_succ, Array.replicate_zero, List.push_toArray, List.append_toArray, List.nil_append, List.cons_append]
  gi_wp2_with (refine ⟨trivial, ?_⟩; gi_at_call 128; refine (callsIn_wide.2 (members_any' (s : Int) _)).mono ?_; rintro e w4 ⟨b, rfl, hb, hO, h4⟩; have HO := Lib.hid hO; have O2 := Lib.hid (o2.keep h4); have O3 := Lib.hid (o3.keep h4); have O4 := Lib.hid (o4.keep h4); have O5 := Lib.hid (o5.keep h4); have G4 := Lib.hid (gg.tr h4); clear hO h4)
  have hb4 : w.heap.size + 4 ≤ b := by simpa using hb
  have s4 : w.heap.size + 4 ≤ w4.heap.size := by have := O5.out.1.1; omega
  clear hb gg o2 o3 o4 o5 q3
  obtain ⟨X0, hX0⟩ : ∃ X0 : Nat → Prop, X0 = fun i => i = w.heap.size + 1 + 1 ∨ i = w.heap.size + 1 + 1 + 1 := ⟨_, rfl⟩
  have x0 : ∀ i, X0 i → i < w.heap.size + 4 ∧ w.heap.size + 2 ≤ i := fun i e => by rw [hX0] at e; rcases e with e | e <;> omega
  have hst : St X0 (fun V => Own V b [.int .i64 (s : Int)]) w4 := fun B hB => HO.out.kx hB fun e => by have := x0 _ e; omega
  have HX0 := Lib.hid hX0
  have Hx0 := Lib.hid x0
  have Hst := Lib.hid hst
  have HB := Lib.hid hB
  have HR := Lib.hid hr
  have HMp := Lib.hid hm
  clear hX0 x0 hst hB hr hm
  obtain ⟨p, hp⟩ : ∃ p, p = lowB l keep f s := ⟨_, rfl⟩
  refine wpIn_rangeX (F := Fence.wide) rfl (by omega) (gf := 148) (lb := #[.pointer (some ⟨b, 0, none⟩)]) rfl trivial (enters_of Try.func148 (by kernel_rfl) rfl)
    (members_seq 19 (by omega) b s hs10 X0 w4 Hst.out) (Kx.refl _ _) (fun _ => rfl) X0 (fun i e => ⟨by have := Hx0.out i e; omega, .inl e⟩)
    (InvQ p X0 w4) (FndQ p X0 w4 (w.heap.size + 1 + 1) (w.heap.size + 1 + 1 + 1)) (fun s X => InvQ.ab s X) ?abX ?start
    (fun pre x a' X Y W => InvQ p X0 w4 pre X Y W ∧ s.testBit x = true ∧ a' = ⟨#[.agg #[.slice a l.length cap, .int .i64 keep, .map (some m)], .int .i64 (s : Int), .pointer (some ⟨w.heap.size, 0, none⟩), .pointer (some ⟨w.heap.size + 1, 0, none⟩), .pointer (some ⟨w.heap.size + 1 + 1, 0, none⟩), .pointer (some ⟨w.heap.size + 1 + 1 + 1, 0, none⟩), .int .i64 (x : Int), undef, .int .i64 (s : Int), .func (.func 148) #[] #[.pointer (some ⟨b, 0, none⟩)], .int .i64 (x : Int), undef, undef, undef, undef, undef, undef, undef, undef, undef, undef, undef, undef, undef, undef, undef, undef, undef, undef, undef, undef, undef, undef, undef], []⟩)
    ?abA ?assign ?body ?done ?stop
  case start => exact ⟨rfl, fun i e => e.elim, Below.refl _ _, fun y hy => by cases hy⟩
  case abX =>
    rintro c s Y Y' A B ⟨h1, h2, h3, pre', x, h4, h5, h6, h7, h8⟩ hk hy
    have hs := h3.size
    refine ⟨h1, fun i e => ?_, h3.th hk fun i e => .inr (h2 i e), pre', x, h4, h5, h6, h7.kx hk fun e => ?_, h8.kx hk fun e => ?_⟩
    · rcases hy i e with e | e
      · exact h2 i e
      · omega
    · have := h2 _ e; omega
    · have := h2 _ e; omega
  case abA =>
    rintro s' x a' X Y Y' A B ⟨h1, hm, h7⟩ hk hy
    exact ⟨InvQ.ab _ _ _ _ _ _ h1 hk hy, hm, h7⟩
  case assign =>
    rintro l1 pre x X Y W K hI hG hD hK
    dsimp only [encM]
    gi_wp2
    exact hK _ X _ ⟨hI, hG.2.1, rfl⟩ (Kx.refl _ _) (fun i e => ⟨by have := hD.x _ e; omega, .inl e⟩)
  case body =>
    rintro l1 pre xn a' X Y W ⟨⟨rfl, hY, hg, hpre⟩, hT, rfl⟩ hD hYl hrec
    have hx : xn < l.length := bit_lt hs hT
    obtain ⟨y, hy⟩ : ∃ y, l[xn]? = some y := ⟨l[xn], by simp [hx]⟩
    obtain ⟨y1, y2, y3⟩ := HB.out y (List.mem_of_getElem? hy)
    obtain ⟨c, off, rfl, hc, r0, r1, r2, r3⟩ := LRow.get (HR.out.grow (G4.out.tr hg)) hy
    obtain ⟨O, hOt⟩ : ∃ O, without s xn = O := ⟨_, rfl⟩
    have hbits := without_bits hs10 (show xn < 10 by omega) hT
    have hlt := without_lt hs10 (show xn < 10 by omega) hT
    have hpw : IntKind.i64.wrap ((2 : Int) ^ xn) = (2 : Int) ^ xn := by
      have h2 := pow_1024 (show xn < 10 by omega)
      rw [show (2 : Int) ^ xn = ((2 ^ xn : Nat) : Int) by simp]
      exact wrap_small _ h2
    rw [hOt] at hbits hlt
    have hO10 : O < 1024 := by omega
    have hOl : O < 2 ^ l.length := by omega
    have E : p xn = (f ((O : Nat) : Int) && decide (weightW l O ≤ y.sl * keep / 1000)) := by rw [hp]; simp [lowB, hy, hOt]
    obtain ⟨P2, hP2⟩ : ∃ P2, (2 : Int) ^ xn = P2 := ⟨_, rfl⟩
    rw [hP2] at hbits hpw
    have i2 := O2.out.keep hg
    have i3 := (O3.out.keep hg).1.c1
    have HI2 := Lib.hid i2
    have HG := Lib.hid hg
    have HY := Lib.hid hY
    have HP := Lib.hid hpre
    have HE := Lib.hid E
    have HI := Lib.hid (show InvQ p X w4 pre X Y W from ⟨rfl, hY, hg, hpre⟩)
    have HP2 := Lib.hid hP2
    have HRW := Lib.hid (HR.out.grow (G4.out.tr hg))
    have HMW := Lib.hid (HMp.out.keep (G4.out.tr hg))
    have hLB : ∀ x ∈ l, LdB x := fun x hx => (HB.out x hx).1
    have HLB := Lib.hid hLB
    clear hg hY hpre hy E hD hYl hrec hT hlt hOt i2 hLB
    gi_wp2
    refine wpIn_region_facts 4 [(2, 1), (3, 0), (3, 2)] (fun x => ⟨#[.agg #[.slice (some ⟨c, off, none⟩) l.length cap, .int .i64 keep, .map (some m)], .int .i64 (s : Int), .pointer (some ⟨w.heap.size, 0, none⟩), .pointer (some ⟨(w.heap.size + 1), 0, none⟩), .pointer (some ⟨(w.heap.size + 1 + 1), 0, none⟩), .pointer (some ⟨(w.heap.size + 1 + 1 + 1), 0, none⟩), .int .i64 (xn : Int), undef, .int .i64 (s : Int), .func (.func 148) #[] #[.pointer (some ⟨b, 0, none⟩)], .int .i64 (xn : Int), x 0, x 1, x 2, x 3, undef, undef, undef, undef, undef, undef, undef, undef, undef, undef, undef, undef, undef, undef, undef, undef, undef, undef, undef], []⟩) (fun _ => undef) [fun _ x => x = .int .i64 (s : Int), fun _ x => x = .int .i64 (xn : Int), fun _ x => x = .int .i64 P2, fun _ x => x = .int .i64 (O : Int)] (by rfl) (by kernel_rfl) (by kernel_rfl) (by kernel_rfl) (by kernel_rfl) (by rintro ⟨_, _, h⟩; exact h) (stays_cons (Stays.eq _) (stays_cons (Stays.eq _) (stays_cons (Stays.eq _) (stays_cons (Stays.eq _) stays_nil)))) ?step3 ?fin3
    case step3 =>
      rintro i hi x v gv hd K hK
      have hi8 : i = 0 ∨ i = 1 ∨ i = 2 ∨ i = 3 := by omega
      rcases hi8 with rfl | rfl | rfl | rfl
      · show wpOp Try.prog _ _ 0 K (⟨#[.agg #[.slice (some ⟨c, off, none⟩) l.length cap, .int .i64 keep, .map (some m)], .int .i64 (s : Int), .pointer (some ⟨w.heap.size, 0, none⟩), .pointer (some ⟨(w.heap.size + 1), 0, none⟩), .pointer (some ⟨(w.heap.size + 1 + 1), 0, none⟩), .pointer (some ⟨(w.heap.size + 1 + 1 + 1), 0, none⟩), .int .i64 (xn : Int), undef, .int .i64 (s : Int), .func (.func 148) #[] #[.pointer (some ⟨b, 0, none⟩)], .int .i64 (xn : Int), x 0, x 1, x 2, x 3, undef, undef, undef, undef, undef, undef, undef, undef, undef, undef, undef, undef, undef, undef, undef, undef, undef, undef, undef], []⟩ : Act) v
        refine wpOp_step rfl (fun K' hK' => ?_)
        have q := gv.keep i3
        go_simp
        exact hK' _ _ (hK _ _ (Below.refl _ _) (at_of rfl (rfl)))
      · show wpOp Try.prog _ _ 1 K (⟨#[.agg #[.slice (some ⟨c, off, none⟩) l.length cap, .int .i64 keep, .map (some m)], .int .i64 (s : Int), .pointer (some ⟨w.heap.size, 0, none⟩), .pointer (some ⟨(w.heap.size + 1), 0, none⟩), .pointer (some ⟨(w.heap.size + 1 + 1), 0, none⟩), .pointer (some ⟨(w.heap.size + 1 + 1 + 1), 0, none⟩), .int .i64 (xn : Int), undef, .int .i64 (s : Int), .func (.func 148) #[] #[.pointer (some ⟨b, 0, none⟩)], .int .i64 (xn : Int), x 0, x 1, x 2, x 3, undef, undef, undef, undef, undef, undef, undef, undef, undef, undef, undef, undef, undef, undef, undef, undef, undef, undef, undef], []⟩ : Act) v
        refine wpOp_step rfl (fun K' hK' => ?_)
        go_simp
        exact hK' _ _ (hK _ _ (Below.refl _ _) (at_of rfl (rfl)))
      · obtain ⟨x, rfl⟩ := upd_of (show x 1 = .int .i64 (xn : Int) from hd 1 _ (by simp) rfl)
        show wpOp Try.prog _ _ 2 K (⟨#[.agg #[.slice (some ⟨c, off, none⟩) l.length cap, .int .i64 keep, .map (some m)], .int .i64 (s : Int), .pointer (some ⟨w.heap.size, 0, none⟩), .pointer (some ⟨(w.heap.size + 1), 0, none⟩), .pointer (some ⟨(w.heap.size + 1 + 1), 0, none⟩), .pointer (some ⟨(w.heap.size + 1 + 1 + 1), 0, none⟩), .int .i64 (xn : Int), undef, .int .i64 (s : Int), .func (.func 148) #[] #[.pointer (some ⟨b, 0, none⟩)], .int .i64 (xn : Int), x 0, .int .i64 (xn : Int), x 2, x 3, undef, undef, undef, undef, undef, undef, undef, undef, undef, undef, undef, undef, undef, undef, undef, undef, undef, undef, undef], []⟩ : Act) v
        refine wpOp_step rfl (fun K' hK' => ?_)
        have hP2 := HP2.out
        go_simp
        exact hK' _ _ (hK _ _ (Below.refl _ _) (at_of rfl (rfl)))
      · obtain ⟨x, rfl⟩ := upd_of (show x 0 = .int .i64 (s : Int) from hd 0 _ (by simp) rfl)
        obtain ⟨x, rfl⟩ := upd_of (show x 2 = .int .i64 P2 from hd 2 _ (by simp) rfl)
        show wpOp Try.prog _ _ 3 K (⟨#[.agg #[.slice (some ⟨c, off, none⟩) l.length cap, .int .i64 keep, .map (some m)], .int .i64 (s : Int), .pointer (some ⟨w.heap.size, 0, none⟩), .pointer (some ⟨(w.heap.size + 1), 0, none⟩), .pointer (some ⟨(w.heap.size + 1 + 1), 0, none⟩), .pointer (some ⟨(w.heap.size + 1 + 1 + 1), 0, none⟩), .int .i64 (xn : Int), undef, .int .i64 (s : Int), .func (.func 148) #[] #[.pointer (some ⟨b, 0, none⟩)], .int .i64 (xn : Int), .int .i64 (s : Int), x 1, .int .i64 P2, x 3, undef, undef, undef, undef, undef, undef, undef, undef, undef, undef, undef, undef, undef, undef, undef, undef, undef, undef, undef], []⟩ : Act) v
        refine wpOp_step rfl (fun K' hK' => ?_)
        go_simp
        exact hK' _ _ (hK _ _ (Below.refl _ _) (at_of rfl (rfl)))
    case fin3 =>
      rintro x v gv hd
      obtain ⟨x, rfl⟩ := upd_of (show x 3 = .int .i64 (O : Int) from hd 3 _ (by omega) rfl)
      clear hd
      show wpList Try.prog _ _ (List.drop 4 _) (⟨#[.agg #[.slice (some ⟨c, off, none⟩) l.length cap, .int .i64 keep, .map (some m)], .int .i64 (s : Int), .pointer (some ⟨w.heap.size, 0, none⟩), .pointer (some ⟨(w.heap.size + 1), 0, none⟩), .pointer (some ⟨(w.heap.size + 1 + 1), 0, none⟩), .pointer (some ⟨(w.heap.size + 1 + 1 + 1), 0, none⟩), .int .i64 (xn : Int), undef, .int .i64 (s : Int), .func (.func 148) #[] #[.pointer (some ⟨b, 0, none⟩)], .int .i64 (xn : Int), x 0, x 1, x 2, .int .i64 (O : Int), undef, undef, undef, undef, undef, undef, undef, undef, undef, undef, undef, undef, undef, undef, undef, undef, undef, undef, undef], []⟩ : Act) v
      simp only [List.drop_succ_cons, List.drop_zero]
      clear i3 hbits hpw
      obtain ⟨z, hz⟩ : ∃ z : Nat → Value, z = x := ⟨_, rfl⟩
      subst hz
      have GV := Lib.hid gv
      clear gv
      go_wp2
      gi_wp2
      obtain ⟨Wt, hWt⟩ : ∃ Wt, weightW l O = Wt := ⟨_, rfl⟩
      have HWt := Lib.hid hWt
      rw [hWt] at HE
      clear hWt
      have i20 := (HI2.out.keep GV.out).1.2 0 _ rfl
      have i21 := (HI2.out.keep GV.out).1.2 1 _ rfl
      have i22 := (HI2.out.keep GV.out).1.2 2 _ rfl
      have hlook := fun W' (g : Gr v W') => ((HMW.out.keep GV.out).keep g).look (O : Int) (wf64 (by omega) (by omega))
      have HLK := Lib.hid hlook
      have ps0 := GV.out.keep r0
      have ps1 := GV.out.keep r1
      have ps2 := GV.out.keep r2
      have ps3 := GV.out.keep r3
      clear hlook r0 r1 r2 r3
      obtain ⟨B, hBf⟩ : ∃ B, f ((O : Nat) : Int) = B := ⟨_, rfl⟩
      rw [hBf] at HE HLK
      clear hBf
      cases B with
      | false =>
        refine wpIn_region_facts 17 [(1, 0), (3, 1), (3, 2), (4, 3), (5, 4), (6, 4), (7, 4), (8, 4), (9, 4), (10, 4), (11, 4), (12, 4), (13, 4), (14, 4), (15, 4), (16, 4)] (fun x => ⟨#[.agg #[.slice (some ⟨c, off, none⟩) l.length cap, .int .i64 keep, .map (some m)], .int .i64 (s : Int), .pointer (some ⟨w.heap.size, 0, none⟩), .pointer (some ⟨(w.heap.size + 1), 0, none⟩), .pointer (some ⟨(w.heap.size + 1 + 1), 0, none⟩), .pointer (some ⟨(w.heap.size + 1 + 1 + 1), 0, none⟩), .int .i64 (xn : Int), .int .i64 (O : Int), .int .i64 (s : Int), .func (.func 148) #[] #[.pointer (some ⟨b, 0, none⟩)], .int .i64 (xn : Int), z 0, z 1, z 2, .int .i64 (O : Int), x 0, x 1, x 2, x 3, x 4, x 5, x 6, x 7, x 8, x 9, x 10, x 11, x 12, x 13, x 14, x 15, x 16, undef, undef], []⟩) (fun _ => undef) [fun _ x => x = .pointer (some ⟨w.heap.size, 2, none⟩), fun _ x => x = .map (some m), fun _ x => x = .int .i64 (O : Int), fun _ x => x = .bool false, fun _ x => x = .bool false, fun _ x => x = undef, fun _ x => x = undef, fun _ x => x = undef, fun _ x => x = undef, fun _ x => x = undef, fun _ x => x = undef, fun _ x => x = undef, fun _ x => x = undef, fun _ x => x = undef, fun _ x => x = undef, fun _ x => x = undef, fun _ x => x = undef] (by rfl) (by kernel_rfl) (by kernel_rfl) (by kernel_rfl) (by kernel_rfl) (by rintro ⟨_, _, h⟩; exact h) (stays_cons (Stays.eq _) (stays_cons (Stays.eq _) (stays_cons (Stays.eq _) (stays_cons (Stays.eq _) (stays_cons (Stays.eq _) (stays_cons (Stays.eq _) (stays_cons (Stays.eq _) (stays_cons (Stays.eq _) (stays_cons (Stays.eq _) (stays_cons (Stays.eq _) (stays_cons (Stays.eq _) (stays_cons (Stays.eq _) (stays_cons (Stays.eq _) (stays_cons (Stays.eq _) (stays_cons (Stays.eq _) (stays_cons (Stays.eq _) (stays_cons (Stays.eq _) stays_nil))))))))))))))))) ?step4f ?fin4f
        case step4f =>
          rintro i hi x v gv hd K hK
          have hi8 : i = 0 ∨ i = 1 ∨ i = 2 ∨ i = 3 ∨ i = 4 ∨ i = 5 ∨ i = 6 ∨ i = 7 ∨ i = 8 ∨ i = 9 ∨ i = 10 ∨ i = 11 ∨ i = 12 ∨ i = 13 ∨ i = 14 ∨ i = 15 ∨ i = 16 := by omega
          rcases hi8 with rfl | rfl | rfl | rfl | rfl | rfl | rfl | rfl | rfl | rfl | rfl | rfl | rfl | rfl | rfl | rfl | rfl
          · show wpOp Try.prog _ _ 0 K (⟨#[.agg #[.slice (some ⟨c, off, none⟩) l.length cap, .int .i64 keep, .map (some m)], .int .i64 (s : Int), .pointer (some ⟨w.heap.size, 0, none⟩), .pointer (some ⟨(w.heap.size + 1), 0, none⟩), .pointer (some ⟨(w.heap.size + 1 + 1), 0, none⟩), .pointer (some ⟨(w.heap.size + 1 + 1 + 1), 0, none⟩), .int .i64 (xn : Int), .int .i64 (O : Int), .int .i64 (s : Int), .func (.func 148) #[] #[.pointer (some ⟨b, 0, none⟩)], .int .i64 (xn : Int), z 0, z 1, z 2, .int .i64 (O : Int), x 0, x 1, x 2, x 3, x 4, x 5, x 6, x 7, x 8, x 9, x 10, x 11, x 12, x 13, x 14, x 15, x 16, undef, undef], []⟩ : Act) v
            refine wpOp_step rfl (fun K' hK' => ?_)
            go_simp
            exact hK' _ _ (hK _ _ (Below.refl _ _) (at_of rfl (rfl)))
          · obtain ⟨x, rfl⟩ := upd_of (show x 0 = .pointer (some ⟨w.heap.size, 2, none⟩) from hd 0 _ (by simp) rfl)
            show wpOp Try.prog _ _ 1 K (⟨#[.agg #[.slice (some ⟨c, off, none⟩) l.length cap, .int .i64 keep, .map (some m)], .int .i64 (s : Int), .pointer (some ⟨w.heap.size, 0, none⟩), .pointer (some ⟨(w.heap.size + 1), 0, none⟩), .pointer (some ⟨(w.heap.size + 1 + 1), 0, none⟩), .pointer (some ⟨(w.heap.size + 1 + 1 + 1), 0, none⟩), .int .i64 (xn : Int), .int .i64 (O : Int), .int .i64 (s : Int), .func (.func 148) #[] #[.pointer (some ⟨b, 0, none⟩)], .int .i64 (xn : Int), z 0, z 1, z 2, .int .i64 (O : Int), .pointer (some ⟨w.heap.size, 2, none⟩), x 1, x 2, x 3, x 4, x 5, x 6, x 7, x 8, x 9, x 10, x 11, x 12, x 13, x 14, x 15, x 16, undef, undef], []⟩ : Act) v
            refine wpOp_step rfl (fun K' hK' => ?_)
            have q := gv.keep i22
            go_simp
            exact hK' _ _ (hK _ _ (Below.refl _ _) (at_of rfl (rfl)))
          · show wpOp Try.prog _ _ 2 K (⟨#[.agg #[.slice (some ⟨c, off, none⟩) l.length cap, .int .i64 keep, .map (some m)], .int .i64 (s : Int), .pointer (some ⟨w.heap.size, 0, none⟩), .pointer (some ⟨(w.heap.size + 1), 0, none⟩), .pointer (some ⟨(w.heap.size + 1 + 1), 0, none⟩), .pointer (some ⟨(w.heap.size + 1 + 1 + 1), 0, none⟩), .int .i64 (xn : Int), .int .i64 (O : Int), .int .i64 (s : Int), .func (.func 148) #[] #[.pointer (some ⟨b, 0, none⟩)], .int .i64 (xn : Int), z 0, z 1, z 2, .int .i64 (O : Int), x 0, x 1, x 2, x 3, x 4, x 5, x 6, x 7, x 8, x 9, x 10, x 11, x 12, x 13, x 14, x 15, x 16, undef, undef], []⟩ : Act) v
            refine wpOp_step rfl (fun K' hK' => ?_)
            go_simp
            exact hK' _ _ (hK _ _ (Below.refl _ _) (at_of rfl (rfl)))
          · obtain ⟨x, rfl⟩ := upd_of (show x 1 = .map (some m) from hd 1 _ (by simp) rfl)
            obtain ⟨x, rfl⟩ := upd_of (show x 2 = .int .i64 (O : Int) from hd 2 _ (by simp) rfl)
            show wpOp Try.prog _ _ 3 K (⟨#[.agg #[.slice (some ⟨c, off, none⟩) l.length cap, .int .i64 keep, .map (some m)], .int .i64 (s : Int), .pointer (some ⟨w.heap.size, 0, none⟩), .pointer (some ⟨(w.heap.size + 1), 0, none⟩), .pointer (some ⟨(w.heap.size + 1 + 1), 0, none⟩), .pointer (some ⟨(w.heap.size + 1 + 1 + 1), 0, none⟩), .int .i64 (xn : Int), .int .i64 (O : Int), .int .i64 (s : Int), .func (.func 148) #[] #[.pointer (some ⟨b, 0, none⟩)], .int .i64 (xn : Int), z 0, z 1, z 2, .int .i64 (O : Int), x 0, .map (some m), .int .i64 (O : Int), x 3, x 4, x 5, x 6, x 7, x 8, x 9, x 10, x 11, x 12, x 13, x 14, x 15, x 16, undef, undef], []⟩ : Act) v
            refine wpOp_step rfl (fun K' hK' => ?_)
            have q := HLK.out v gv
            go_simp
            exact hK' _ _ (hK _ _ (Below.refl _ _) (at_of rfl (rfl)))
          · obtain ⟨x, rfl⟩ := upd_of (show x 3 = .bool false from hd 3 _ (by simp) rfl)
            show wpOp Try.prog _ _ 4 K (⟨#[.agg #[.slice (some ⟨c, off, none⟩) l.length cap, .int .i64 keep, .map (some m)], .int .i64 (s : Int), .pointer (some ⟨w.heap.size, 0, none⟩), .pointer (some ⟨(w.heap.size + 1), 0, none⟩), .pointer (some ⟨(w.heap.size + 1 + 1), 0, none⟩), .pointer (some ⟨(w.heap.size + 1 + 1 + 1), 0, none⟩), .int .i64 (xn : Int), .int .i64 (O : Int), .int .i64 (s : Int), .func (.func 148) #[] #[.pointer (some ⟨b, 0, none⟩)], .int .i64 (xn : Int), z 0, z 1, z 2, .int .i64 (O : Int), x 0, x 1, x 2, .bool false, x 4, x 5, x 6, x 7, x 8, x 9, x 10, x 11, x 12, x 13, x 14, x 15, x 16, undef, undef], []⟩ : Act) v
            refine wpOp_step rfl (fun K' hK' => ?_)
            go_simp
            exact hK' _ _ (hK _ _ (Below.refl _ _) (at_of rfl (rfl)))
          · obtain ⟨x, rfl⟩ := upd_of (show x 4 = .bool false from hd 4 _ (by simp) rfl)
            show wpOp Try.prog _ _ 5 K (⟨#[.agg #[.slice (some ⟨c, off, none⟩) l.length cap, .int .i64 keep, .map (some m)], .int .i64 (s : Int), .pointer (some ⟨w.heap.size, 0, none⟩), .pointer (some ⟨(w.heap.size + 1), 0, none⟩), .pointer (some ⟨(w.heap.size + 1 + 1), 0, none⟩), .pointer (some ⟨(w.heap.size + 1 + 1 + 1), 0, none⟩), .int .i64 (xn : Int), .int .i64 (O : Int), .int .i64 (s : Int), .func (.func 148) #[] #[.pointer (some ⟨b, 0, none⟩)], .int .i64 (xn : Int), z 0, z 1, z 2, .int .i64 (O : Int), x 0, x 1, x 2, x 3, .bool false, x 5, x 6, x 7, x 8, x 9, x 10, x 11, x 12, x 13, x 14, x 15, x 16, undef, undef], []⟩ : Act) v
            refine wpOp_step rfl (fun K' hK' => ?_)
            go_simp
            exact hK' _ _ (hK _ _ (Below.refl _ _) (at_of rfl (rfl)))
          · obtain ⟨x, rfl⟩ := upd_of (show x 4 = .bool false from hd 4 _ (by simp) rfl)
            show wpOp Try.prog _ _ 6 K (⟨#[.agg #[.slice (some ⟨c, off, none⟩) l.length cap, .int .i64 keep, .map (some m)], .int .i64 (s : Int), .pointer (some ⟨w.heap.size, 0, none⟩), .pointer (some ⟨(w.heap.size + 1), 0, none⟩), .pointer (some ⟨(w.heap.size + 1 + 1), 0, none⟩), .pointer (some ⟨(w.heap.size + 1 + 1 + 1), 0, none⟩), .int .i64 (xn : Int), .int .i64 (O : Int), .int .i64 (s : Int), .func (.func 148) #[] #[.pointer (some ⟨b, 0, none⟩)], .int .i64 (xn : Int), z 0, z 1, z 2, .int .i64 (O : Int), x 0, x 1, x 2, x 3, .bool false, x 5, x 6, x 7, x 8, x 9, x 10, x 11, x 12, x 13, x 14, x 15, x 16, undef, undef], []⟩ : Act) v
            refine wpOp_step rfl (fun K' hK' => ?_)
            go_simp
            exact hK' _ _ (hK _ _ (Below.refl _ _) (at_of rfl (rfl)))
          · obtain ⟨x, rfl⟩ := upd_of (show x 4 = .bool false from hd 4 _ (by simp) rfl)
            show wpOp Try.prog _ _ 7 K (⟨#[.agg #[.slice (some ⟨c, off, none⟩) l.length cap, .int .i64 keep, .map (some m)], .int .i64 (s : Int), .pointer (some ⟨w.heap.size, 0, none⟩), .pointer (some ⟨(w.heap.size + 1), 0, none⟩), .pointer (some ⟨(w.heap.size + 1 + 1), 0, none⟩), .pointer (some ⟨(w.heap.size + 1 + 1 + 1), 0, none⟩), .int .i64 (xn : Int), .int .i64 (O : Int), .int .i64 (s : Int), .func (.func 148) #[] #[.pointer (some ⟨b, 0, none⟩)], .int .i64 (xn : Int), z 0, z 1, z 2, .int .i64 (O : Int), x 0, x 1, x 2, x 3, .bool false, x 5, x 6, x 7, x 8, x 9, x 10, x 11, x 12, x 13, x 14, x 15, x 16, undef, undef], []⟩ : Act) v
            refine wpOp_step rfl (fun K' hK' => ?_)
            go_simp
            exact hK' _ _ (hK _ _ (Below.refl _ _) (at_of rfl (rfl)))
          · obtain ⟨x, rfl⟩ := upd_of (show x 4 = .bool false from hd 4 _ (by simp) rfl)
            show wpOp Try.prog _ _ 8 K (⟨#[.agg #[.slice (some ⟨c, off, none⟩) l.length cap, .int .i64 keep, .map (some m)], .int .i64 (s : Int), .pointer (some ⟨w.heap.size, 0, none⟩), .pointer (some ⟨(w.heap.size + 1), 0, none⟩), .pointer (some ⟨(w.heap.size + 1 + 1), 0, none⟩), .pointer (some ⟨(w.heap.size + 1 + 1 + 1), 0, none⟩), .int .i64 (xn : Int), .int .i64 (O : Int), .int .i64 (s : Int), .func (.func 148) #[] #[.pointer (some ⟨b, 0, none⟩)], .int .i64 (xn : Int), z 0, z 1, z 2, .int .i64 (O : Int), x 0, x 1, x 2, x 3, .bool false, x 5, x 6, x 7, x 8, x 9, x 10, x 11, x 12, x 13, x 14, x 15, x 16, undef, undef], []⟩ : Act) v
            refine wpOp_step rfl (fun K' hK' => ?_)
            go_simp
            exact hK' _ _ (hK _ _ (Below.refl _ _) (at_of rfl (rfl)))
          · obtain ⟨x, rfl⟩ := upd_of (show x 4 = .bool false from hd 4 _ (by simp) rfl)
            show wpOp Try.prog _ _ 9 K (⟨#[.agg #[.slice (some ⟨c, off, none⟩) l.length cap, .int .i64 keep, .map (some m)], .int .i64 (s : Int), .pointer (some ⟨w.heap.size, 0, none⟩), .pointer (some ⟨(w.heap.size + 1), 0, none⟩), .pointer (some ⟨(w.heap.size + 1 + 1), 0, none⟩), .pointer (some ⟨(w.heap.size + 1 + 1 + 1), 0, none⟩), .int .i64 (xn : Int), .int .i64 (O : Int), .int .i64 (s : Int), .func (.func 148) #[] #[.pointer (some ⟨b, 0, none⟩)], .int .i64 (xn : Int), z 0, z 1, z 2, .int .i64 (O : Int), x 0, x 1, x 2, x 3, .bool false, x 5, x 6, x 7, x 8, x 9, x 10, x 11, x 12, x 13, x 14, x 15, x 16, undef, undef], []⟩ : Act) v
            refine wpOp_step rfl (fun K' hK' => ?_)
            go_simp
            exact hK' _ _ (hK _ _ (Below.refl _ _) (at_of rfl (rfl)))
          · obtain ⟨x, rfl⟩ := upd_of (show x 4 = .bool false from hd 4 _ (by simp) rfl)
            show wpOp Try.prog _ _ 10 K (⟨#[.agg #[.slice (some ⟨c, off, none⟩) l.length cap, .int .i64 keep, .map (some m)], .int .i64 (s : Int), .pointer (some ⟨w.heap.size, 0, none⟩), .pointer (some ⟨(w.heap.size + 1), 0, none⟩), .pointer (some ⟨(w.heap.size + 1 + 1), 0, none⟩), .pointer (some ⟨(w.heap.size + 1 + 1 + 1), 0, none⟩), .int .i64 (xn : Int), .int .i64 (O : Int), .int .i64 (s : Int), .func (.func 148) #[] #[.pointer (some ⟨b, 0, none⟩)], .int .i64 (xn : Int), z 0, z 1, z 2, .int .i64 (O : Int), x 0, x 1, x 2, x 3, .bool false, x 5, x 6, x 7, x 8, x 9, x 10, x 11, x 12, x 13, x 14, x 15, x 16, undef, undef], []⟩ : Act) v
            refine wpOp_step rfl (fun K' hK' => ?_)
            go_simp
            exact hK' _ _ (hK _ _ (Below.refl _ _) (at_of rfl (rfl)))
          · obtain ⟨x, rfl⟩ := upd_of (show x 4 = .bool false from hd 4 _ (by simp) rfl)
            show wpOp Try.prog _ _ 11 K (⟨#[.agg #[.slice (some ⟨c, off, none⟩) l.length cap, .int .i64 keep, .map (some m)], .int .i64 (s : Int), .pointer (some ⟨w.heap.size, 0, none⟩), .pointer (some ⟨(w.heap.size + 1), 0, none⟩), .pointer (some ⟨(w.heap.size + 1 + 1), 0, none⟩), .pointer (some ⟨(w.heap.size + 1 + 1 + 1), 0, none⟩), .int .i64 (xn : Int), .int .i64 (O : Int), .int .i64 (s : Int), .func (.func 148) #[] #[.pointer (some ⟨b, 0, none⟩)], .int .i64 (xn : Int), z 0, z 1, z 2, .int .i64 (O : Int), x 0, x 1, x 2, x 3, .bool false, x 5, x 6, x 7, x 8, x 9, x 10, x 11, x 12, x 13, x 14, x 15, x 16, undef, undef], []⟩ : Act) v
            refine wpOp_step rfl (fun K' hK' => ?_)
            go_simp
            exact hK' _ _ (hK _ _ (Below.refl _ _) (at_of rfl (rfl)))
          · obtain ⟨x, rfl⟩ := upd_of (show x 4 = .bool false from hd 4 _ (by simp) rfl)
            show wpOp Try.prog _ _ 12 K (⟨#[.agg #[.slice (some ⟨c, off, none⟩) l.length cap, .int .i64 keep, .map (some m)], .int .i64 (s : Int), .pointer (some ⟨w.heap.size, 0, none⟩), .pointer (some ⟨(w.heap.size + 1), 0, none⟩), .pointer (some ⟨(w.heap.size + 1 + 1), 0, none⟩), .pointer (some ⟨(w.heap.size + 1 + 1 + 1), 0, none⟩), .int .i64 (xn : Int), .int .i64 (O : Int), .int .i64 (s : Int), .func (.func 148) #[] #[.pointer (some ⟨b, 0, none⟩)], .int .i64 (xn : Int), z 0, z 1, z 2, .int .i64 (O : Int), x 0, x 1, x 2, x 3, .bool false, x 5, x 6, x 7, x 8, x 9, x 10, x 11, x 12, x 13, x 14, x 15, x 16, undef, undef], []⟩ : Act) v
            refine wpOp_step rfl (fun K' hK' => ?_)
            go_simp
            exact hK' _ _ (hK _ _ (Below.refl _ _) (at_of rfl (rfl)))
          · obtain ⟨x, rfl⟩ := upd_of (show x 4 = .bool false from hd 4 _ (by simp) rfl)
            show wpOp Try.prog _ _ 13 K (⟨#[.agg #[.slice (some ⟨c, off, none⟩) l.length cap, .int .i64 keep, .map (some m)], .int .i64 (s : Int), .pointer (some ⟨w.heap.size, 0, none⟩), .pointer (some ⟨(w.heap.size + 1), 0, none⟩), .pointer (some ⟨(w.heap.size + 1 + 1), 0, none⟩), .pointer (some ⟨(w.heap.size + 1 + 1 + 1), 0, none⟩), .int .i64 (xn : Int), .int .i64 (O : Int), .int .i64 (s : Int), .func (.func 148) #[] #[.pointer (some ⟨b, 0, none⟩)], .int .i64 (xn : Int), z 0, z 1, z 2, .int .i64 (O : Int), x 0, x 1, x 2, x 3, .bool false, x 5, x 6, x 7, x 8, x 9, x 10, x 11, x 12, x 13, x 14, x 15, x 16, undef, undef], []⟩ : Act) v
            refine wpOp_step rfl (fun K' hK' => ?_)
            go_simp
            exact hK' _ _ (hK _ _ (Below.refl _ _) (at_of rfl (rfl)))
          · obtain ⟨x, rfl⟩ := upd_of (show x 4 = .bool false from hd 4 _ (by simp) rfl)
            show wpOp Try.prog _ _ 14 K (⟨#[.agg #[.slice (some ⟨c, off, none⟩) l.length cap, .int .i64 keep, .map (some m)], .int .i64 (s : Int), .pointer (some ⟨w.heap.size, 0, none⟩), .pointer (some ⟨(w.heap.size + 1), 0, none⟩), .pointer (some ⟨(w.heap.size + 1 + 1), 0, none⟩), .pointer (some ⟨(w.heap.size + 1 + 1 + 1), 0, none⟩), .int .i64 (xn : Int), .int .i64 (O : Int), .int .i64 (s : Int), .func (.func 148) #[] #[.pointer (some ⟨b, 0, none⟩)], .int .i64 (xn : Int), z 0, z 1, z 2, .int .i64 (O : Int), x 0, x 1, x 2, x 3, .bool false, x 5, x 6, x 7, x 8, x 9, x 10, x 11, x 12, x 13, x 14, x 15, x 16, undef, undef], []⟩ : Act) v
            refine wpOp_step rfl (fun K' hK' => ?_)
            go_simp
            exact hK' _ _ (hK _ _ (Below.refl _ _) (at_of rfl (rfl)))
          · obtain ⟨x, rfl⟩ := upd_of (show x 4 = .bool false from hd 4 _ (by simp) rfl)
            show wpOp Try.prog _ _ 15 K (⟨#[.agg #[.slice (some ⟨c, off, none⟩) l.length cap, .int .i64 keep, .map (some m)], .int .i64 (s : Int), .pointer (some ⟨w.heap.size, 0, none⟩), .pointer (some ⟨(w.heap.size + 1), 0, none⟩), .pointer (some ⟨(w.heap.size + 1 + 1), 0, none⟩), .pointer (some ⟨(w.heap.size + 1 + 1 + 1), 0, none⟩), .int .i64 (xn : Int), .int .i64 (O : Int), .int .i64 (s : Int), .func (.func 148) #[] #[.pointer (some ⟨b, 0, none⟩)], .int .i64 (xn : Int), z 0, z 1, z 2, .int .i64 (O : Int), x 0, x 1, x 2, x 3, .bool false, x 5, x 6, x 7, x 8, x 9, x 10, x 11, x 12, x 13, x 14, x 15, x 16, undef, undef], []⟩ : Act) v
            refine wpOp_step rfl (fun K' hK' => ?_)
            go_simp
            exact hK' _ _ (hK _ _ (Below.refl _ _) (at_of rfl (rfl)))
          · obtain ⟨x, rfl⟩ := upd_of (show x 4 = .bool false from hd 4 _ (by simp) rfl)
            show wpOp Try.prog _ _ 16 K (⟨#[.agg #[.slice (some ⟨c, off, none⟩) l.length cap, .int .i64 keep, .map (some m)], .int .i64 (s : Int), .pointer (some ⟨w.heap.size, 0, none⟩), .pointer (some ⟨(w.heap.size + 1), 0, none⟩), .pointer (some ⟨(w.heap.size + 1 + 1), 0, none⟩), .pointer (some ⟨(w.heap.size + 1 + 1 + 1), 0, none⟩), .int .i64 (xn : Int), .int .i64 (O : Int), .int .i64 (s : Int), .func (.func 148) #[] #[.pointer (some ⟨b, 0, none⟩)], .int .i64 (xn : Int), z 0, z 1, z 2, .int .i64 (O : Int), x 0, x 1, x 2, x 3, .bool false, x 5, x 6, x 7, x 8, x 9, x 10, x 11, x 12, x 13, x 14, x 15, x 16, undef, undef], []⟩ : Act) v
            refine wpOp_step rfl (fun K' hK' => ?_)
            go_simp
            exact hK' _ _ (hK _ _ (Below.refl _ _) (at_of rfl (rfl)))
        case fin4f =>
          rintro x v gv hd
          obtain ⟨x, rfl⟩ := upd_of (show x 4 = .bool false from hd 4 _ (by omega) rfl)
          obtain ⟨x, rfl⟩ := upd_of (show x 16 = undef from hd 16 _ (by omega) rfl)
          clear hd
          show wpList Try.prog _ _ (List.drop 17 _) (⟨#[.agg #[.slice (some ⟨c, off, none⟩) l.length cap, .int .i64 keep, .map (some m)], .int .i64 (s : Int), .pointer (some ⟨w.heap.size, 0, none⟩), .pointer (some ⟨(w.heap.size + 1), 0, none⟩), .pointer (some ⟨(w.heap.size + 1 + 1), 0, none⟩), .pointer (some ⟨(w.heap.size + 1 + 1 + 1), 0, none⟩), .int .i64 (xn : Int), .int .i64 (O : Int), .int .i64 (s : Int), .func (.func 148) #[] #[.pointer (some ⟨b, 0, none⟩)], .int .i64 (xn : Int), z 0, z 1, z 2, .int .i64 (O : Int), x 0, x 1, x 2, x 3, .bool false, x 5, x 6, x 7, x 8, x 9, x 10, x 11, x 12, x 13, x 14, x 15, undef, undef, undef], []⟩ : Act) v
          simp only [List.drop_succ_cons, List.drop_zero]
          clear ps0 ps1 ps2 ps3 i20 i21 i22
          go_wp2
          gi_wp2
          have GZ := Lib.hid (GV.out.tr gv)
          clear gv
          exact ⟨Kx.gr GZ.out, X, InvQ.next (by rw [HE.out]; rfl) HI.out GZ.out, fun i e => ⟨by have := Hx0.out i e; have := GZ.out.size; have := HG.out.size; omega, .inl e⟩⟩
      | true =>
        obtain ⟨Dd, hDd⟩ : ∃ Dd, decide (Wt ≤ y.sl * keep / 1000) = Dd := ⟨_, rfl⟩
        rw [hDd] at HE
        refine wpIn_region_facts 17 [(1, 0), (3, 1), (3, 2), (4, 3), (5, 4), (6, 4), (7, 4), (7, 5), (7, 6), (8, 4), (9, 4), (9, 8), (10, 4), (11, 4), (11, 9), (11, 10), (12, 4), (12, 11), (13, 4), (14, 4), (14, 13), (15, 4), (15, 12), (15, 14), (16, 4), (16, 7), (16, 15)] (fun x => ⟨#[.agg #[.slice (some ⟨c, off, none⟩) l.length cap, .int .i64 keep, .map (some m)], .int .i64 (s : Int), .pointer (some ⟨w.heap.size, 0, none⟩), .pointer (some ⟨(w.heap.size + 1), 0, none⟩), .pointer (some ⟨(w.heap.size + 1 + 1), 0, none⟩), .pointer (some ⟨(w.heap.size + 1 + 1 + 1), 0, none⟩), .int .i64 (xn : Int), .int .i64 (O : Int), .int .i64 (s : Int), .func (.func 148) #[] #[.pointer (some ⟨b, 0, none⟩)], .int .i64 (xn : Int), z 0, z 1, z 2, .int .i64 (O : Int), x 0, x 1, x 2, x 3, x 4, x 5, x 6, x 7, x 8, x 9, x 10, x 11, x 12, x 13, x 14, x 15, x 16, undef, undef], []⟩) (fun _ => undef) [fun _ x => x = .pointer (some ⟨w.heap.size, 2, none⟩), fun _ x => x = .map (some m), fun _ x => x = .int .i64 (O : Int), fun _ x => x = .bool true, fun _ x => x = .bool true, fun _ x => x = .agg #[.slice (some ⟨c, off, none⟩) l.length cap, .int .i64 keep, .map (some m)], fun _ x => x = .int .i64 (O : Int), fun _ x => x = .int .i64 Wt, fun _ x => x = .pointer (some ⟨w.heap.size, 0, none⟩), fun _ x => x = .slice (some ⟨c, off, none⟩) l.length cap, fun _ x => x = .int .i64 (xn : Int), fun _ x => x = .pointer (some ⟨c, off + xn * 4, none⟩), fun _ x => x = .agg #[.int .i64 y.sl, .int .i64 y.sh, .int .i64 y.wl, .int .i64 y.wh], fun _ x => x = .pointer (some ⟨w.heap.size, 1, none⟩), fun _ x => x = .int .i64 keep, fun _ x => x = .int .i64 (y.sl * keep / 1000), fun _ x => x = .bool Dd] (by rfl) (by kernel_rfl) (by kernel_rfl) (by kernel_rfl) (by kernel_rfl) (by rintro ⟨_, _, h⟩; exact h) (stays_cons (Stays.eq _) (stays_cons (Stays.eq _) (stays_cons (Stays.eq _) (stays_cons (Stays.eq _) (stays_cons (Stays.eq _) (stays_cons (Stays.eq _) (stays_cons (Stays.eq _) (stays_cons (Stays.eq _) (stays_cons (Stays.eq _) (stays_cons (Stays.eq _) (stays_cons (Stays.eq _) (stays_cons (Stays.eq _) (stays_cons (Stays.eq _) (stays_cons (Stays.eq _) (stays_cons (Stays.eq _) (stays_cons (Stays.eq _) (stays_cons (Stays.eq _) stays_nil))))))))))))))))) ?step4t ?fin4t
        case step4t =>
          rintro i hi x v gv hd K hK
          have hi8 : i = 0 ∨ i = 1 ∨ i = 2 ∨ i = 3 ∨ i = 4 ∨ i = 5 ∨ i = 6 ∨ i = 7 ∨ i = 8 ∨ i = 9 ∨ i = 10 ∨ i = 11 ∨ i = 12 ∨ i = 13 ∨ i = 14 ∨ i = 15 ∨ i = 16 := by omega
          rcases hi8 with rfl | rfl | rfl | rfl | rfl | rfl | rfl | rfl | rfl | rfl | rfl | rfl | rfl | rfl | rfl | rfl | rfl
          · show wpOp Try.prog _ _ 0 K (⟨#[.agg #[.slice (some ⟨c, off, none⟩) l.length cap, .int .i64 keep, .map (some m)], .int .i64 (s : Int), .pointer (some ⟨w.heap.size, 0, none⟩), .pointer (some ⟨(w.heap.size + 1), 0, none⟩), .pointer (some ⟨(w.heap.size + 1 + 1), 0, none⟩), .pointer (some ⟨(w.heap.size + 1 + 1 + 1), 0, none⟩), .int .i64 (xn : Int), .int .i64 (O : Int), .int .i64 (s : Int), .func (.func 148) #[] #[.pointer (some ⟨b, 0, none⟩)], .int .i64 (xn : Int), z 0, z 1, z 2, .int .i64 (O : Int), x 0, x 1, x 2, x 3, x 4, x 5, x 6, x 7, x 8, x 9, x 10, x 11, x 12, x 13, x 14, x 15, x 16, undef, undef], []⟩ : Act) v
            refine wpOp_step rfl (fun K' hK' => ?_)
            go_simp
            exact hK' _ _ (hK _ _ (Below.refl _ _) (at_of rfl (rfl)))
          · obtain ⟨x, rfl⟩ := upd_of (show x 0 = .pointer (some ⟨w.heap.size, 2, none⟩) from hd 0 _ (by simp) rfl)
            show wpOp Try.prog _ _ 1 K (⟨#[.agg #[.slice (some ⟨c, off, none⟩) l.length cap, .int .i64 keep, .map (some m)], .int .i64 (s : Int), .pointer (some ⟨w.heap.size, 0, none⟩), .pointer (some ⟨(w.heap.size + 1), 0, none⟩), .pointer (some ⟨(w.heap.size + 1 + 1), 0, none⟩), .pointer (some ⟨(w.heap.size + 1 + 1 + 1), 0, none⟩), .int .i64 (xn : Int), .int .i64 (O : Int), .int .i64 (s : Int), .func (.func 148) #[] #[.pointer (some ⟨b, 0, none⟩)], .int .i64 (xn : Int), z 0, z 1, z 2, .int .i64 (O : Int), .pointer (some ⟨w.heap.size, 2, none⟩), x 1, x 2, x 3, x 4, x 5, x 6, x 7, x 8, x 9, x 10, x 11, x 12, x 13, x 14, x 15, x 16, undef, undef], []⟩ : Act) v
            refine wpOp_step rfl (fun K' hK' => ?_)
            have q := gv.keep i22
            go_simp
            exact hK' _ _ (hK _ _ (Below.refl _ _) (at_of rfl (rfl)))
          · show wpOp Try.prog _ _ 2 K (⟨#[.agg #[.slice (some ⟨c, off, none⟩) l.length cap, .int .i64 keep, .map (some m)], .int .i64 (s : Int), .pointer (some ⟨w.heap.size, 0, none⟩), .pointer (some ⟨(w.heap.size + 1), 0, none⟩), .pointer (some ⟨(w.heap.size + 1 + 1), 0, none⟩), .pointer (some ⟨(w.heap.size + 1 + 1 + 1), 0, none⟩), .int .i64 (xn : Int), .int .i64 (O : Int), .int .i64 (s : Int), .func (.func 148) #[] #[.pointer (some ⟨b, 0, none⟩)], .int .i64 (xn : Int), z 0, z 1, z 2, .int .i64 (O : Int), x 0, x 1, x 2, x 3, x 4, x 5, x 6, x 7, x 8, x 9, x 10, x 11, x 12, x 13, x 14, x 15, x 16, undef, undef], []⟩ : Act) v
            refine wpOp_step rfl (fun K' hK' => ?_)
            go_simp
            exact hK' _ _ (hK _ _ (Below.refl _ _) (at_of rfl (rfl)))
          · obtain ⟨x, rfl⟩ := upd_of (show x 1 = .map (some m) from hd 1 _ (by simp) rfl)
            obtain ⟨x, rfl⟩ := upd_of (show x 2 = .int .i64 (O : Int) from hd 2 _ (by simp) rfl)
            show wpOp Try.prog _ _ 3 K (⟨#[.agg #[.slice (some ⟨c, off, none⟩) l.length cap, .int .i64 keep, .map (some m)], .int .i64 (s : Int), .pointer (some ⟨w.heap.size, 0, none⟩), .pointer (some ⟨(w.heap.size + 1), 0, none⟩), .pointer (some ⟨(w.heap.size + 1 + 1), 0, none⟩), .pointer (some ⟨(w.heap.size + 1 + 1 + 1), 0, none⟩), .int .i64 (xn : Int), .int .i64 (O : Int), .int .i64 (s : Int), .func (.func 148) #[] #[.pointer (some ⟨b, 0, none⟩)], .int .i64 (xn : Int), z 0, z 1, z 2, .int .i64 (O : Int), x 0, .map (some m), .int .i64 (O : Int), x 3, x 4, x 5, x 6, x 7, x 8, x 9, x 10, x 11, x 12, x 13, x 14, x 15, x 16, undef, undef], []⟩ : Act) v
            refine wpOp_step rfl (fun K' hK' => ?_)
            have q := HLK.out v gv
            go_simp
            exact hK' _ _ (hK _ _ (Below.refl _ _) (at_of rfl (rfl)))
          · obtain ⟨x, rfl⟩ := upd_of (show x 3 = .bool true from hd 3 _ (by simp) rfl)
            show wpOp Try.prog _ _ 4 K (⟨#[.agg #[.slice (some ⟨c, off, none⟩) l.length cap, .int .i64 keep, .map (some m)], .int .i64 (s : Int), .pointer (some ⟨w.heap.size, 0, none⟩), .pointer (some ⟨(w.heap.size + 1), 0, none⟩), .pointer (some ⟨(w.heap.size + 1 + 1), 0, none⟩), .pointer (some ⟨(w.heap.size + 1 + 1 + 1), 0, none⟩), .int .i64 (xn : Int), .int .i64 (O : Int), .int .i64 (s : Int), .func (.func 148) #[] #[.pointer (some ⟨b, 0, none⟩)], .int .i64 (xn : Int), z 0, z 1, z 2, .int .i64 (O : Int), x 0, x 1, x 2, .bool true, x 4, x 5, x 6, x 7, x 8, x 9, x 10, x 11, x 12, x 13, x 14, x 15, x 16, undef, undef], []⟩ : Act) v
            refine wpOp_step rfl (fun K' hK' => ?_)
            go_simp
            exact hK' _ _ (hK _ _ (Below.refl _ _) (at_of rfl (rfl)))
          · obtain ⟨x, rfl⟩ := upd_of (show x 4 = .bool true from hd 4 _ (by simp) rfl)
            show wpOp Try.prog _ _ 5 K (⟨#[.agg #[.slice (some ⟨c, off, none⟩) l.length cap, .int .i64 keep, .map (some m)], .int .i64 (s : Int), .pointer (some ⟨w.heap.size, 0, none⟩), .pointer (some ⟨(w.heap.size + 1), 0, none⟩), .pointer (some ⟨(w.heap.size + 1 + 1), 0, none⟩), .pointer (some ⟨(w.heap.size + 1 + 1 + 1), 0, none⟩), .int .i64 (xn : Int), .int .i64 (O : Int), .int .i64 (s : Int), .func (.func 148) #[] #[.pointer (some ⟨b, 0, none⟩)], .int .i64 (xn : Int), z 0, z 1, z 2, .int .i64 (O : Int), x 0, x 1, x 2, x 3, .bool true, x 5, x 6, x 7, x 8, x 9, x 10, x 11, x 12, x 13, x 14, x 15, x 16, undef, undef], []⟩ : Act) v
            refine wpOp_step rfl (fun K' hK' => ?_)
            have q0 := gv.keep i20
            have q1 := gv.keep i21
            have q2 := gv.keep i22
            go_simp
            exact hK' _ _ (hK _ _ (Below.refl _ _) (at_of rfl (rfl)))
          · obtain ⟨x, rfl⟩ := upd_of (show x 4 = .bool true from hd 4 _ (by simp) rfl)
            show wpOp Try.prog _ _ 6 K (⟨#[.agg #[.slice (some ⟨c, off, none⟩) l.length cap, .int .i64 keep, .map (some m)], .int .i64 (s : Int), .pointer (some ⟨w.heap.size, 0, none⟩), .pointer (some ⟨(w.heap.size + 1), 0, none⟩), .pointer (some ⟨(w.heap.size + 1 + 1), 0, none⟩), .pointer (some ⟨(w.heap.size + 1 + 1 + 1), 0, none⟩), .int .i64 (xn : Int), .int .i64 (O : Int), .int .i64 (s : Int), .func (.func 148) #[] #[.pointer (some ⟨b, 0, none⟩)], .int .i64 (xn : Int), z 0, z 1, z 2, .int .i64 (O : Int), x 0, x 1, x 2, x 3, .bool true, x 5, x 6, x 7, x 8, x 9, x 10, x 11, x 12, x 13, x 14, x 15, x 16, undef, undef], []⟩ : Act) v
            refine wpOp_step rfl (fun K' hK' => ?_)
            go_simp
            exact hK' _ _ (hK _ _ (Below.refl _ _) (at_of rfl (rfl)))
          · obtain ⟨x, rfl⟩ := upd_of (show x 4 = .bool true from hd 4 _ (by simp) rfl)
            obtain ⟨x, rfl⟩ := upd_of (show x 5 = .agg #[.slice (some ⟨c, off, none⟩) l.length cap, .int .i64 keep, .map (some m)] from hd 5 _ (by simp) rfl)
            obtain ⟨x, rfl⟩ := upd_of (show x 6 = .int .i64 (O : Int) from hd 6 _ (by simp) rfl)
            show wpOp Try.prog _ _ 7 K (⟨#[.agg #[.slice (some ⟨c, off, none⟩) l.length cap, .int .i64 keep, .map (some m)], .int .i64 (s : Int), .pointer (some ⟨w.heap.size, 0, none⟩), .pointer (some ⟨(w.heap.size + 1), 0, none⟩), .pointer (some ⟨(w.heap.size + 1 + 1), 0, none⟩), .pointer (some ⟨(w.heap.size + 1 + 1 + 1), 0, none⟩), .int .i64 (xn : Int), .int .i64 (O : Int), .int .i64 (s : Int), .func (.func 148) #[] #[.pointer (some ⟨b, 0, none⟩)], .int .i64 (xn : Int), z 0, z 1, z 2, .int .i64 (O : Int), x 0, x 1, x 2, x 3, .bool true, .agg #[.slice (some ⟨c, off, none⟩) l.length cap, .int .i64 keep, .map (some m)], .int .i64 (O : Int), x 7, x 8, x 9, x 10, x 11, x 12, x 13, x 14, x 15, x 16, undef, undef], []⟩ : Act) v
            refine wpOp_step rfl (fun K' hK' => ?_)
            go_simp
            refine ((HWt.out ▸ weight_set l h10 HLB.out O hOl (some ⟨c, off, none⟩) cap keep (some m) v ((HRW.out.grow GV.out).grow gv) : Calls Try.prog 146 #[.agg #[.slice (some ⟨c, off, none⟩) l.length cap, .int .i64 keep, .map (some m)], .int .i64 (O : Int)] v fun e w' => e = .returned (.int .i64 Wt) ∧ Gr v w')).mono ?_
            rintro e v' ⟨rfl, hg⟩
            exact hK' _ _ (hK _ _ hg (at_of rfl (rfl)))
          · obtain ⟨x, rfl⟩ := upd_of (show x 4 = .bool true from hd 4 _ (by simp) rfl)
            show wpOp Try.prog _ _ 8 K (⟨#[.agg #[.slice (some ⟨c, off, none⟩) l.length cap, .int .i64 keep, .map (some m)], .int .i64 (s : Int), .pointer (some ⟨w.heap.size, 0, none⟩), .pointer (some ⟨(w.heap.size + 1), 0, none⟩), .pointer (some ⟨(w.heap.size + 1 + 1), 0, none⟩), .pointer (some ⟨(w.heap.size + 1 + 1 + 1), 0, none⟩), .int .i64 (xn : Int), .int .i64 (O : Int), .int .i64 (s : Int), .func (.func 148) #[] #[.pointer (some ⟨b, 0, none⟩)], .int .i64 (xn : Int), z 0, z 1, z 2, .int .i64 (O : Int), x 0, x 1, x 2, x 3, .bool true, x 5, x 6, x 7, x 8, x 9, x 10, x 11, x 12, x 13, x 14, x 15, x 16, undef, undef], []⟩ : Act) v
            refine wpOp_step rfl (fun K' hK' => ?_)
            go_simp
            exact hK' _ _ (hK _ _ (Below.refl _ _) (at_of rfl (rfl)))
          · obtain ⟨x, rfl⟩ := upd_of (show x 4 = .bool true from hd 4 _ (by simp) rfl)
            obtain ⟨x, rfl⟩ := upd_of (show x 8 = .pointer (some ⟨w.heap.size, 0, none⟩) from hd 8 _ (by simp) rfl)
            show wpOp Try.prog _ _ 9 K (⟨#[.agg #[.slice (some ⟨c, off, none⟩) l.length cap, .int .i64 keep, .map (some m)], .int .i64 (s : Int), .pointer (some ⟨w.heap.size, 0, none⟩), .pointer (some ⟨(w.heap.size + 1), 0, none⟩), .pointer (some ⟨(w.heap.size + 1 + 1), 0, none⟩), .pointer (some ⟨(w.heap.size + 1 + 1 + 1), 0, none⟩), .int .i64 (xn : Int), .int .i64 (O : Int), .int .i64 (s : Int), .func (.func 148) #[] #[.pointer (some ⟨b, 0, none⟩)], .int .i64 (xn : Int), z 0, z 1, z 2, .int .i64 (O : Int), x 0, x 1, x 2, x 3, .bool true, x 5, x 6, x 7, .pointer (some ⟨w.heap.size, 0, none⟩), x 9, x 10, x 11, x 12, x 13, x 14, x 15, x 16, undef, undef], []⟩ : Act) v
            refine wpOp_step rfl (fun K' hK' => ?_)
            have q := gv.keep i20
            go_simp
            exact hK' _ _ (hK _ _ (Below.refl _ _) (at_of rfl (rfl)))
          · obtain ⟨x, rfl⟩ := upd_of (show x 4 = .bool true from hd 4 _ (by simp) rfl)
            show wpOp Try.prog _ _ 10 K (⟨#[.agg #[.slice (some ⟨c, off, none⟩) l.length cap, .int .i64 keep, .map (some m)], .int .i64 (s : Int), .pointer (some ⟨w.heap.size, 0, none⟩), .pointer (some ⟨(w.heap.size + 1), 0, none⟩), .pointer (some ⟨(w.heap.size + 1 + 1), 0, none⟩), .pointer (some ⟨(w.heap.size + 1 + 1 + 1), 0, none⟩), .int .i64 (xn : Int), .int .i64 (O : Int), .int .i64 (s : Int), .func (.func 148) #[] #[.pointer (some ⟨b, 0, none⟩)], .int .i64 (xn : Int), z 0, z 1, z 2, .int .i64 (O : Int), x 0, x 1, x 2, x 3, .bool true, x 5, x 6, x 7, x 8, x 9, x 10, x 11, x 12, x 13, x 14, x 15, x 16, undef, undef], []⟩ : Act) v
            refine wpOp_step rfl (fun K' hK' => ?_)
            go_simp
            exact hK' _ _ (hK _ _ (Below.refl _ _) (at_of rfl (rfl)))
          · obtain ⟨x, rfl⟩ := upd_of (show x 4 = .bool true from hd 4 _ (by simp) rfl)
            obtain ⟨x, rfl⟩ := upd_of (show x 9 = .slice (some ⟨c, off, none⟩) l.length cap from hd 9 _ (by simp) rfl)
            obtain ⟨x, rfl⟩ := upd_of (show x 10 = .int .i64 (xn : Int) from hd 10 _ (by simp) rfl)
            show wpOp Try.prog _ _ 11 K (⟨#[.agg #[.slice (some ⟨c, off, none⟩) l.length cap, .int .i64 keep, .map (some m)], .int .i64 (s : Int), .pointer (some ⟨w.heap.size, 0, none⟩), .pointer (some ⟨(w.heap.size + 1), 0, none⟩), .pointer (some ⟨(w.heap.size + 1 + 1), 0, none⟩), .pointer (some ⟨(w.heap.size + 1 + 1 + 1), 0, none⟩), .int .i64 (xn : Int), .int .i64 (O : Int), .int .i64 (s : Int), .func (.func 148) #[] #[.pointer (some ⟨b, 0, none⟩)], .int .i64 (xn : Int), z 0, z 1, z 2, .int .i64 (O : Int), x 0, x 1, x 2, x 3, .bool true, x 5, x 6, x 7, x 8, .slice (some ⟨c, off, none⟩) l.length cap, .int .i64 (xn : Int), x 11, x 12, x 13, x 14, x 15, x 16, undef, undef], []⟩ : Act) v
            refine wpOp_step rfl (fun K' hK' => ?_)
            go_simp
            exact hK' _ _ (hK _ _ (Below.refl _ _) (at_of rfl (rfl)))
          · obtain ⟨x, rfl⟩ := upd_of (show x 4 = .bool true from hd 4 _ (by simp) rfl)
            obtain ⟨x, rfl⟩ := upd_of (show x 11 = .pointer (some ⟨c, off + xn * 4, none⟩) from hd 11 _ (by simp) rfl)
            show wpOp Try.prog _ _ 12 K (⟨#[.agg #[.slice (some ⟨c, off, none⟩) l.length cap, .int .i64 keep, .map (some m)], .int .i64 (s : Int), .pointer (some ⟨w.heap.size, 0, none⟩), .pointer (some ⟨(w.heap.size + 1), 0, none⟩), .pointer (some ⟨(w.heap.size + 1 + 1), 0, none⟩), .pointer (some ⟨(w.heap.size + 1 + 1 + 1), 0, none⟩), .int .i64 (xn : Int), .int .i64 (O : Int), .int .i64 (s : Int), .func (.func 148) #[] #[.pointer (some ⟨b, 0, none⟩)], .int .i64 (xn : Int), z 0, z 1, z 2, .int .i64 (O : Int), x 0, x 1, x 2, x 3, .bool true, x 5, x 6, x 7, x 8, x 9, x 10, .pointer (some ⟨c, off + xn * 4, none⟩), x 12, x 13, x 14, x 15, x 16, undef, undef], []⟩ : Act) v
            refine wpOp_step rfl (fun K' hK' => ?_)
            have q0 := gv.keep ps0
            have q1 := gv.keep ps1
            have q2 := gv.keep ps2
            have q3 := gv.keep ps3
            go_simp
            exact hK' _ _ (hK _ _ (Below.refl _ _) (at_of rfl (rfl)))
          · obtain ⟨x, rfl⟩ := upd_of (show x 4 = .bool true from hd 4 _ (by simp) rfl)
            show wpOp Try.prog _ _ 13 K (⟨#[.agg #[.slice (some ⟨c, off, none⟩) l.length cap, .int .i64 keep, .map (some m)], .int .i64 (s : Int), .pointer (some ⟨w.heap.size, 0, none⟩), .pointer (some ⟨(w.heap.size + 1), 0, none⟩), .pointer (some ⟨(w.heap.size + 1 + 1), 0, none⟩), .pointer (some ⟨(w.heap.size + 1 + 1 + 1), 0, none⟩), .int .i64 (xn : Int), .int .i64 (O : Int), .int .i64 (s : Int), .func (.func 148) #[] #[.pointer (some ⟨b, 0, none⟩)], .int .i64 (xn : Int), z 0, z 1, z 2, .int .i64 (O : Int), x 0, x 1, x 2, x 3, .bool true, x 5, x 6, x 7, x 8, x 9, x 10, x 11, x 12, x 13, x 14, x 15, x 16, undef, undef], []⟩ : Act) v
            refine wpOp_step rfl (fun K' hK' => ?_)
            go_simp
            exact hK' _ _ (hK _ _ (Below.refl _ _) (at_of rfl (rfl)))
          · obtain ⟨x, rfl⟩ := upd_of (show x 4 = .bool true from hd 4 _ (by simp) rfl)
            obtain ⟨x, rfl⟩ := upd_of (show x 13 = .pointer (some ⟨w.heap.size, 1, none⟩) from hd 13 _ (by simp) rfl)
            show wpOp Try.prog _ _ 14 K (⟨#[.agg #[.slice (some ⟨c, off, none⟩) l.length cap, .int .i64 keep, .map (some m)], .int .i64 (s : Int), .pointer (some ⟨w.heap.size, 0, none⟩), .pointer (some ⟨(w.heap.size + 1), 0, none⟩), .pointer (some ⟨(w.heap.size + 1 + 1), 0, none⟩), .pointer (some ⟨(w.heap.size + 1 + 1 + 1), 0, none⟩), .int .i64 (xn : Int), .int .i64 (O : Int), .int .i64 (s : Int), .func (.func 148) #[] #[.pointer (some ⟨b, 0, none⟩)], .int .i64 (xn : Int), z 0, z 1, z 2, .int .i64 (O : Int), x 0, x 1, x 2, x 3, .bool true, x 5, x 6, x 7, x 8, x 9, x 10, x 11, x 12, .pointer (some ⟨w.heap.size, 1, none⟩), x 14, x 15, x 16, undef, undef], []⟩ : Act) v
            refine wpOp_step rfl (fun K' hK' => ?_)
            have q := gv.keep i21
            go_simp
            exact hK' _ _ (hK _ _ (Below.refl _ _) (at_of rfl (rfl)))
          · obtain ⟨x, rfl⟩ := upd_of (show x 4 = .bool true from hd 4 _ (by simp) rfl)
            obtain ⟨x, rfl⟩ := upd_of (show x 12 = .agg #[.int .i64 y.sl, .int .i64 y.sh, .int .i64 y.wl, .int .i64 y.wh] from hd 12 _ (by simp) rfl)
            obtain ⟨x, rfl⟩ := upd_of (show x 14 = .int .i64 keep from hd 14 _ (by simp) rfl)
            show wpOp Try.prog _ _ 15 K (⟨#[.agg #[.slice (some ⟨c, off, none⟩) l.length cap, .int .i64 keep, .map (some m)], .int .i64 (s : Int), .pointer (some ⟨w.heap.size, 0, none⟩), .pointer (some ⟨(w.heap.size + 1), 0, none⟩), .pointer (some ⟨(w.heap.size + 1 + 1), 0, none⟩), .pointer (some ⟨(w.heap.size + 1 + 1 + 1), 0, none⟩), .int .i64 (xn : Int), .int .i64 (O : Int), .int .i64 (s : Int), .func (.func 148) #[] #[.pointer (some ⟨b, 0, none⟩)], .int .i64 (xn : Int), z 0, z 1, z 2, .int .i64 (O : Int), x 0, x 1, x 2, x 3, .bool true, x 5, x 6, x 7, x 8, x 9, x 10, x 11, .agg #[.int .i64 y.sl, .int .i64 y.sh, .int .i64 y.wl, .int .i64 y.wh], x 13, .int .i64 keep, x 15, x 16, undef, undef], []⟩ : Act) v
            refine wpOp_step rfl (fun K' hK' => ?_)
            go_simp
            refine (bears_any y.sl y.sh y.wl y.wh keep y2 y3 k0 k1 v).mono ?_
            rintro e v' ⟨rfl, hg⟩
            exact hK' _ _ (hK _ _ hg (at_of rfl (rfl)))
          · obtain ⟨x, rfl⟩ := upd_of (show x 4 = .bool true from hd 4 _ (by simp) rfl)
            obtain ⟨x, rfl⟩ := upd_of (show x 7 = .int .i64 Wt from hd 7 _ (by simp) rfl)
            obtain ⟨x, rfl⟩ := upd_of (show x 15 = .int .i64 (y.sl * keep / 1000) from hd 15 _ (by simp) rfl)
            show wpOp Try.prog _ _ 16 K (⟨#[.agg #[.slice (some ⟨c, off, none⟩) l.length cap, .int .i64 keep, .map (some m)], .int .i64 (s : Int), .pointer (some ⟨w.heap.size, 0, none⟩), .pointer (some ⟨(w.heap.size + 1), 0, none⟩), .pointer (some ⟨(w.heap.size + 1 + 1), 0, none⟩), .pointer (some ⟨(w.heap.size + 1 + 1 + 1), 0, none⟩), .int .i64 (xn : Int), .int .i64 (O : Int), .int .i64 (s : Int), .func (.func 148) #[] #[.pointer (some ⟨b, 0, none⟩)], .int .i64 (xn : Int), z 0, z 1, z 2, .int .i64 (O : Int), x 0, x 1, x 2, x 3, .bool true, x 5, x 6, .int .i64 Wt, x 8, x 9, x 10, x 11, x 12, x 13, x 14, .int .i64 (y.sl * keep / 1000), x 16, undef, undef], []⟩ : Act) v
            refine wpOp_step rfl (fun K' hK' => ?_)
            have q := hDd
            go_simp
            exact hK' _ _ (hK _ _ (Below.refl _ _) (at_of rfl (rfl)))
        case fin4t =>
          rintro x v gv hd
          obtain ⟨x, rfl⟩ := upd_of (show x 4 = .bool true from hd 4 _ (by omega) rfl)
          obtain ⟨x, rfl⟩ := upd_of (show x 16 = .bool Dd from hd 16 _ (by omega) rfl)
          clear hd
          show wpList Try.prog _ _ (List.drop 17 _) (⟨#[.agg #[.slice (some ⟨c, off, none⟩) l.length cap, .int .i64 keep, .map (some m)], .int .i64 (s : Int), .pointer (some ⟨w.heap.size, 0, none⟩), .pointer (some ⟨(w.heap.size + 1), 0, none⟩), .pointer (some ⟨(w.heap.size + 1 + 1), 0, none⟩), .pointer (some ⟨(w.heap.size + 1 + 1 + 1), 0, none⟩), .int .i64 (xn : Int), .int .i64 (O : Int), .int .i64 (s : Int), .func (.func 148) #[] #[.pointer (some ⟨b, 0, none⟩)], .int .i64 (xn : Int), z 0, z 1, z 2, .int .i64 (O : Int), x 0, x 1, x 2, x 3, .bool true, x 5, x 6, x 7, x 8, x 9, x 10, x 11, x 12, x 13, x 14, x 15, .bool Dd, undef, undef], []⟩ : Act) v
          simp only [List.drop_succ_cons, List.drop_zero]
          clear ps0 ps1 ps2 ps3 i20 i21 i22 hDd
          cases Dd with
          | false =>
            go_wp2
            gi_wp2
            have GZ := Lib.hid (GV.out.tr gv)
            clear gv
            exact ⟨Kx.gr GZ.out, X, InvQ.next (by rw [HE.out]; rfl) HI.out GZ.out, fun i e => ⟨by have := Hx0.out i e; have := GZ.out.size; have := HG.out.size; omega, .inl e⟩⟩
          | true =>
            have gZ := GV.out.tr gv
            go_wp2
            have d4 := (O4.out.keep HG.out).keep gZ
            have d5 := (O5.out.keep HG.out).keep gZ
            have e4 := d4.1.c1
            have e5 := d5.1.c1
            have z4 := d4.2 0
            have z5 := d5.2 0
            have n45 : ¬ w.heap.size + 1 + 1 = w.heap.size + 1 + 1 + 1 := by omega
            have n54 : ¬ w.heap.size + 1 + 1 + 1 = w.heap.size + 1 + 1 := by omega
            have D4 := Lib.hid d4
            have D5 := Lib.hid d5
            have GZ := Lib.hid gZ
            clear d4 d5 gZ gv
            gi_wp2
            have x4 : X (w.heap.size + 1 + 1) := by rw [HX0.out]; exact .inl rfl
            have x5 : X (w.heap.size + 1 + 1 + 1) := by rw [HX0.out]; exact .inr rfl
            have kk : Kx X W ((v.setCell ⟨w.heap.size + 1 + 1, 0, none⟩ (.int .i64 (xn : Int))).setCell ⟨w.heap.size + 1 + 1 + 1, 0, none⟩ (.bool true)) :=
              (Kx.gr GZ.out).tr ((Kx.set (Z := X) (p := ⟨w.heap.size + 1 + 1, 0, none⟩) x4 _).tr (Kx.set (Z := X) (p := ⟨w.heap.size + 1 + 1 + 1, 0, none⟩) x5 _))
            refine ⟨kk, rfl, HY.out, (Kx.gr HG.out).tr kk, pre, xn, rfl, HP.out, by rw [HE.out]; rfl, ?_, ?_⟩
            · exact (D4.out.set (i := 0) (v := .int .i64 (xn : Int)) (by simp)).other n45
            · exact (D5.out.other n54).set (i := 0) (v := .bool true) (by simp)
  case done =>
    rintro D xs X Y W hD rfl ⟨rfl, hY, hg, hpre⟩ hYD hK
    have d4 := O4.out.keep hg
    have d5 := O5.out.keep hg
    have e4 := d4.1.c1
    have e5 := d5.1.c1
    have z4 := d4.2 0
    have z5 := d5.2 0
    have n45 : ¬ w.heap.size + 1 + 1 = w.heap.size + 1 + 1 + 1 := by omega
    have n54 : ¬ w.heap.size + 1 + 1 + 1 = w.heap.size + 1 + 1 := by omega
    have D4 := Lib.hid d4
    have D5 := Lib.hid d5
    have HG := Lib.hid (G4.out.tr hg)
    have HD := Lib.hid hD
    have HK := Lib.hid hK
    have HP := Lib.hid hpre
    clear d4 d5 hg hD hK hpre hY hYD
    gi_wp2
    have oz : Own ((W.setCell ⟨w.heap.size + 1 + 1, 0, none⟩ (.int .i64 0)).setCell ⟨w.heap.size + 1 + 1 + 1, 0, none⟩ (.bool false)) (w.heap.size + 1 + 1) [.int .i64 0] := (D4.out.set (i := 0) (v := .int .i64 0) (by simp)).other n45
    have oy : Own ((W.setCell ⟨w.heap.size + 1 + 1, 0, none⟩ (.int .i64 0)).setCell ⟨w.heap.size + 1 + 1 + 1, 0, none⟩ (.bool false)) (w.heap.size + 1 + 1 + 1) [.bool false] := (D5.out.other n54).set (i := 0) (v := .bool false) (by simp)
    have gz : Gr w ((W.setCell ⟨w.heap.size + 1 + 1, 0, none⟩ (.int .i64 0)).setCell ⟨w.heap.size + 1 + 1 + 1, 0, none⟩ (.bool false)) :=
      (HG.out.setCell (p := ⟨w.heap.size + 1 + 1, 0, none⟩) (by dsimp only; omega) _).setCell (p := ⟨w.heap.size + 1 + 1 + 1, 0, none⟩) (by dsimp only; omega) _
    have hD := HD.out
    refine leaves_marks [D] _ (fun E hE => ?_) (by simp) fun w' hk => ?_
    · simp only [List.mem_singleton] at hE
      subst hE
      exact (Below.heap_setCell _ _ _ _ (by dsimp only; omega)).trans ((Below.heap_setCell _ _ _ _ (by dsimp only; omega)).trans HK.out)
    · have p0 := (oz.kx hk (fun e => by simp only [List.mem_singleton] at e; omega)).1.c1
      have p1 := (oy.kx hk (fun e => by simp only [List.mem_singleton] at e; omega)).1.c1
      refine ⟨.tuple #[.int .i64 0, .bool false], by simp [results, Try.results126, go_sem, p0, p1], ?_, Kx.toGr ((Kx.gr (Z := noBlock) gz).th hk fun i e => ?_)⟩
      · unfold lowV lowO
        rw [← hp, find_no HP.out]
      · simp only [List.mem_singleton] at e
        exact .inr (by omega)
  case stop =>
    rintro D c pre Y W hD ⟨m', hm', hpm⟩ ⟨rfl, hY, hk, pre', x, rfl, hpf, hx, d4, d5⟩ hYD hK
    gi_wp2
    refine leaves_marks [D] _ (fun E hE => ?_) (by simp) fun w' hk' => ?_
    · simp only [List.mem_singleton] at hE
      subst hE
      exact hK
    · have p0 := (d4.kx hk' (fun e => by simp only [List.mem_singleton] at e; omega)).1.c1
      have p1 := (d5.kx hk' (fun e => by simp only [List.mem_singleton] at e; omega)).1.c1
      refine ⟨.tuple #[.int .i64 (x : Int), .bool true], by simp [results, Try.results126, go_sem, p0, p1], ?_, Kx.toGr (((Kx.gr (Z := noBlock) G4.out).th hk fun i e => ?_).th hk' fun i e => ?_)⟩
      · obtain ⟨t, ht⟩ := membL_pre (s := s) hm'
        unfold lowV lowO
        rw [← hp, ht, ← hpm, find_first hpf hx]
      · have := Hx0.out i e
        exact .inr (by omega)
      · simp only [List.mem_singleton] at e
        exact .inr (by omega)

end Go.Proofs.Ytcdilmagcdbogaa

namespace Go.Proofs.Ytcdilmagcdbogaa
set_option linter.unusedVariables false
set_option linter.unusedSimpArgs false
open Go.RowKit

/-- Which sets below k stand. -/
def standsTo (l : List Ld) (keep : Int) : Nat → Int → Bool
  | 0 => fun y => if y = 0 then true else false
  | k + 1 => if (lowO l keep (standsTo l keep k) k).isSome then (fun y => if y = (k : Int) then true else standsTo l keep k y) else standsTo l keep k

def allN (l : List Ld) : Nat := 2 ^ l.length - 1

theorem Box.c3p {w : World} {b : Nat} {x0 x1 x2 : Value} (h : Box w b [x0, x1, x2]) : w.cell? ⟨b, 0, none⟩ = some x0 ∧ w.cell? ⟨b, 1, none⟩ = some x1 ∧ w.cell? ⟨b, 2, none⟩ = some x2 := ⟨h.2 0 x0 rfl, h.2 1 x1 rfl, h.2 2 x2 rfl⟩

theorem pow_bd {n : Nat} (h : n ≤ 10) : 1 ≤ 2 ^ n ∧ 2 ^ n ≤ 1024 := ⟨Nat.one_le_two_pow, pow_le_1024 h⟩

set_option maxRecDepth 100000 in
set_option maxHeartbeats 1000000 in
theorem all_any (l : List Ld) (h10 : l.length ≤ 10) (a : Option Addr) (cap : Nat) (keep : Int) (mv : Option Nat) (w : World) :
    Calls Try.prog 125 #[.agg #[.slice a l.length cap, .int .i64 keep, .map mv]] w fun e w' => e = .returned (.int .i64 ((allN l : Nat) : Int)) ∧ Gr w w' := by
  have gg := Gr.al w (.cells #[.slice a l.length cap, .int .i64 keep, .map mv] 168)
  obtain ⟨p1, p2⟩ := pow_bd h10
  obtain ⟨N, hN⟩ : ∃ N, 2 ^ l.length = N := ⟨_, rfl⟩
  have e0 : (2 : Int) ^ l.length = (N : Int) := by rw [← hN]; simp
  have e1 : ((allN l : Nat) : Int) = (N : Int) - 1 := by unfold allN; rw [hN]; omega
  rw [hN] at p1 p2
  have z0 : IntKind.i64.wrap (N : Int) = N := IntWalk.i64_in _ (by omega)
  have z1 : IntKind.i64.wrap ((N : Int) - 1) = (N : Int) - 1 := IntWalk.i64_in _ (by omega)
  rw [e1]
  clear e1 hN
  go_enter Try.func125, Try.ntmps125
  go_wp2
  go_ret
  exact ⟨rfl, gg⟩

theorem lowV_none {l : List Ld} {keep : Int} {f : Int → Bool} {s : Nat} (h : lowO l keep f s = none) : lowV l keep f s = .tuple #[.int .i64 0, .bool false] := by unfold lowV; rw [h]

theorem lowV_some {l : List Ld} {keep : Int} {f : Int → Bool} {s k : Nat} (h : lowO l keep f s = some k) : lowV l keep f s = .tuple #[.int .i64 (k : Int), .bool true] := by unfold lowV; rw [h]

set_option maxRecDepth 100000 in
set_option maxHeartbeats 4000000 in
theorem pileOf_any (l : List Ld) (h10 : l.length ≤ 10) (hB : ∀ x ∈ l, LdOk x) (a : Option Addr) (cap : Nat) (keep : Int) (k0 : 0 ≤ keep) (k1 : keep ≤ 1000) (w : World) (hr : LRow w a l) :
    Calls Try.prog 100 #[.slice a l.length cap, .int .i64 keep] w fun e w' => ∃ m, e = .returned (.agg #[.slice a l.length cap, .int .i64 keep, .map (some m)]) ∧ (∃ n, MapB w' m n (standsTo l keep (allN l + 1))) ∧ Gr w w' := by
  obtain ⟨p1, p2⟩ := pow_bd h10
  have hall : allN l + 1 = 2 ^ l.length := by unfold allN; omega
  have g1 := Gr.al w (.cells #[.slice none 0 0, .int .i64 0, .map none] 168)
  have o4 := Own.new w [.slice none 0 0, .int .i64 0, .map none] 168 w.heap.size rfl
  have m1 := MapB.made (w.alloc (.cells #[.slice none 0 0, .int .i64 0, .map none] 168))
  have g2 := Gr.al (w.alloc (.cells #[.slice none 0 0, .int .i64 0, .map none] 168)) (.map #[] 0)
  rw [show (w.alloc (.cells #[.slice none 0 0, .int .i64 0, .map none] 168)).heap.size = w.heap.size + 1 by simp] at m1
  obtain ⟨w2, hput, m2, hg2⟩ := m1.put (by omega) 0 true (by decide)
  have gB : Gr w w2 := (g1.tr g2).grown hg2 (g1.tr g2).size (fun j e => by cases e; omega)
  have oB := (o4.keep g2).grown hg2 (by omega)
  have hD : w.heap.size + 1 + 1 ≤ w2.heap.size := by have := hg2.size; simp at this; omega
  have g3 := Gr.al w2 (.cells #[.slice a l.length cap, .int .i64 keep, .map (some (w.heap.size + 1))] 168)
  have o5 := Own.new w2 [.slice a l.length cap, .int .i64 keep, .map (some (w.heap.size + 1))] 168 w2.heap.size rfl
  have gC := gB.tr g3
  have oC := oB.keep g3
  have mC := m2.keep g3
  clear g1 o4 g2 m1 gB oB g3 m2 hg2
  have hmm := @run_makeMap Try.prog
  have HB := Lib.hid hB
  have HA := Lib.hid hall
  clear hB hall
  go_enter Try.func100, Try.ntmps100
  go_upto_region 2 with fail
  obtain ⟨D, hDD⟩ : ∃ D, D = w2.heap.size := ⟨_, rfl⟩
  rw [← hDD] at o5 hD ⊢
  refine wp_abs (fun W => Gr w W ∧ Own W w.heap.size [.slice none 0 0, .int .i64 0, .map none] ∧ (∃ n, n ≤ 1 ∧ MapB W (w.heap.size + 1) n (standsTo l keep 0)) ∧ Own W D [.slice a l.length cap, .int .i64 keep, .map (some (w.heap.size + 1))]) ⟨gC, oC, ⟨1, by omega, mC.congr (by omega) (fun y => rfl)⟩, o5⟩ ?_
  clear gC oC mC o5 hput hmm hDD
  rintro W ⟨gW, o4, hM, o5⟩
  have HM := Lib.hid hM
  clear hM
  obtain ⟨q0, q1, q2⟩ := Box.c3p o5.1
  obtain ⟨N, hN⟩ : ∃ N, allN l = N := ⟨_, rfl⟩
  have HN := Lib.hid hN
  have hN1 : N < 1024 := by have := HA.out; omega
  have hN2 : N + 1 = 2 ^ l.length := by rw [← hN]; exact HA.out
  have z0 : IntKind.i64.wrap ((N : Int) + 1) = (N : Int) + 1 := IntWalk.i64_in _ (by omega)
  have c1 : ∀ W', Gr W W' → Calls Try.prog 125 #[.agg #[.slice a l.length cap, .int .i64 keep, .map (some (w.heap.size + 1))]] W' fun e w' => e = .returned (.int .i64 (N : Int)) ∧ Gr W' w' := fun W' _ => by
    have := all_any l h10 a cap keep (some (w.heap.size + 1)) W'
    rw [hN] at this
    exact this
  have HN2 := Lib.hid hN2
  clear hN p1 p2 hN2
  go_wp2_with (go_at_call 125; refine (c1 _ (Below.refl _ _)).mono ?_; rintro e w3 ⟨rfl, g3⟩)
  have gW := gW.tr g3
  have o4 := o4.keep g3
  have o5 := o5.keep g3
  have hM : ∃ n, n ≤ 1 ∧ MapB w3 (w.heap.size + 1) n (standsTo l keep 0) := by
    obtain ⟨n, hn, h⟩ := HM.out
    exact ⟨n, hn, h.keep g3⟩
  clear HM g3 q0 q1 q2 c1 z0
  go_loopw [17] (fun i wr => Hid (∃ k : Nat, k ≤ N + 1 ∧ i = .int .i64 k ∧ Gr w wr ∧ Own wr w.heap.size [.slice none 0 0, .int .i64 0, .map none] ∧ (∃ n, n ≤ k + 1 ∧ MapB wr (w.heap.size + 1) n (standsTo l keep k)) ∧ Own wr D [.slice a l.length cap, .int .i64 keep, .map (some (w.heap.size + 1))])) (fun i wr => N + 1 - (intOf i).toNat)
  case atStart => exact Lib.hid ⟨0, Nat.zero_le _, rfl, gW, o4, by simpa using hM, o5⟩
  case round =>
    clear gW o4 hM o5
    obtain ⟨k, hk, rfl, gW, o4, ⟨n, hn, hM⟩, o5⟩ := hrel.out
    clear hrel
    by_cases hlt : k < N + 1
    · have hlt' : (k : Int) < (N : Int) + 1 := by omega
      obtain ⟨q0, q1, q2⟩ := Box.c3p o5.1
      have hlow := lowest_set l h10 HB.out k (by have := HN2.out; omega) a cap keep k0 k1 (w.heap.size + 1) n (standsTo l keep k) wr (hr.grow gW) hM
      cases hO : lowO l keep (standsTo l keep k) k with
      | none =>
        rw [lowV_none hO] at hlow
        have hS : standsTo l keep (k + 1) = standsTo l keep k := by simp [standsTo, hO]
        have HL := Lib.hid hlow
        have HS := Lib.hid hS
        clear hlow hO hS
        go_wp2_with (go_at_call 126; refine HL.out.mono ?_; rintro e w4 ⟨rfl, g4⟩)
        go_roundw
        case rel => exact Lib.hid ⟨k + 1, by omega, by go_num, gW.tr g4, o4.keep g4, ⟨n, by omega, by rw [HS.out]; exact hM.keep g4⟩, o5.keep g4⟩
        case measure => simp [intOf]; omega
      | some x =>
        rw [lowV_some hO] at hlow
        have hS : standsTo l keep (k + 1) = fun y => if y = (k : Int) then true else standsTo l keep k y := by simp [standsTo, hO]
        have HL := Lib.hid hlow
        have HS := Lib.hid hS
        clear hlow hO hS
        go_wp2_with (go_at_call 126; refine HL.out.mono ?_; rintro e w4 ⟨rfl, g4⟩; have o5' := o5.keep g4; (obtain ⟨q0, q1, q2⟩ := Box.c3p o5'.1); obtain ⟨w5, hput, m5, hg5⟩ := (hM.keep g4).put (by omega) (k : Int) true (wf64 (by omega) (by omega)))
        go_roundw
        case rel =>
          exact Lib.hid ⟨k + 1, by omega, by go_num, (gW.tr g4).grown hg5 ((gW.tr g4).size) (fun j e => by cases e; omega), (o4.keep g4).grown hg5 (by omega), ⟨n + 1, by omega, by rw [HS.out]; exact m5⟩, o5'.grown hg5 (by omega)⟩
        case measure => simp [intOf]; omega
    · obtain rfl : k = N + 1 := by omega
      have hlt' : ¬ ((N + 1 : Nat) : Int) < (N : Int) + 1 := by omega
      obtain ⟨q0, q1, q2⟩ := Box.c3p o5.1
      obtain ⟨p0, p1, p2⟩ := Box.c3p o4.1
      have y0 := o4.2 0
      have y1 := o4.2 1
      have y2 := o4.2 2
      have oz := ((o4.set (i := 0) (v := .slice a l.length cap) (by simp)).set (i := 1) (v := .int .i64 keep) (by simp)).set (i := 2) (v := .map (some (w.heap.size + 1))) (by simp)
      obtain ⟨s0, s1, s2⟩ := Box.c3p oz.1
      clear oz
      go_wp2
      refine bodyPost_ret (v := .agg #[.slice a l.length cap, .int .i64 keep, .map (some (w.heap.size + 1))]) (by simp [results, Try.results100, go_sem, s0, s1, s2]) rfl ⟨w.heap.size + 1, rfl, ⟨n, ?_⟩, ((gW.setCell (Nat.le_refl _) _).setCell (Nat.le_refl _) _).setCell (Nat.le_refl _) _⟩
      rw [HN.out]
      exact ((hM.other (by omega)).other (by omega)).other (by omega)

end Go.Proofs.Ytcdilmagcdbogaa

namespace Go.Proofs.Ytcdilmagcdbogaa
set_option linter.unusedVariables false
set_option linter.unusedSimpArgs false
open Go.RowKit

theorem memb_bit {s x : Nat} (h : x ∈ membL s) : x < 10 ∧ s.testBit x = true := by
  unfold membL membTo at h
  obtain ⟨h1, h2⟩ := List.mem_filter.1 h
  exact ⟨List.mem_range.1 h1, h2⟩

theorem memb_of {s x : Nat} (hx : x < 10) (h : s.testBit x = true) : x ∈ membL s := by
  unfold membL membTo
  exact List.mem_filter.2 ⟨List.mem_range.2 hx, h⟩

theorem low_bit {l : List Ld} {keep : Int} {f : Int → Bool} {s x : Nat} (h : lowO l keep f s = some x) : x < 10 ∧ s.testBit x = true ∧ lowB l keep f s x = true :=
  ⟨(memb_bit (List.mem_of_find?_eq_some h)).1, (memb_bit (List.mem_of_find?_eq_some h)).2, List.find?_some h⟩

theorem lowB_f {l : List Ld} {keep : Int} {f : Int → Bool} {s x : Nat} (h : lowB l keep f s x = true) : f ((without s x : Nat) : Int) = true := by
  unfold lowB at h
  split at h
  · simp only [Bool.and_eq_true] at h
    exact h.1
  · cases h

theorem find_congr {p q : Nat → Bool} : ∀ {l : List Nat}, (∀ x ∈ l, p x = q x) → l.find? p = l.find? q
  | [], _ => rfl
  | x :: l, h => by
    rw [List.find?_cons, List.find?_cons, h x List.mem_cons_self, find_congr (fun y hy => h y (List.mem_cons_of_mem _ hy))]

theorem low_congr {l : List Ld} {keep : Int} {f g : Int → Bool} {s : Nat} (hs : s < 1024) (h : ∀ y : Nat, y < s → f y = g y) : lowO l keep f s = lowO l keep g s := by
  refine find_congr fun x hx => ?_
  obtain ⟨h1, h2⟩ := memb_bit hx
  unfold lowB
  rw [h _ (without_lt hs h1 h2)]

/-- What is said of a set stays. -/
theorem stands_ge {l : List Ld} {keep : Int} : ∀ (k y : Nat), k ≤ y → 0 < y → standsTo l keep k (y : Int) = false
  | 0, y, _, h0 => by
    show (if (y : Int) = 0 then true else false) = false
    rw [if_neg (by omega)]
  | k + 1, y, h, h0 => by
    have ih := stands_ge (l := l) (keep := keep) k y (by omega) h0
    unfold standsTo
    split
    · show (if (y : Int) = (k : Int) then true else standsTo l keep k y) = false
      rw [if_neg (by omega)]
      exact ih
    · exact ih

theorem stands_keep {l : List Ld} {keep : Int} (y : Nat) : ∀ n : Nat, standsTo l keep (y + 1 + n) (y : Int) = standsTo l keep (y + 1) (y : Int)
  | 0 => rfl
  | n + 1 => by
    have ih := stands_keep (l := l) (keep := keep) y n
    rw [show y + 1 + (n + 1) = (y + 1 + n) + 1 by omega]
    rw [standsTo]
    split
    · show (if (y : Int) = ((y + 1 + n : Nat) : Int) then true else standsTo l keep (y + 1 + n) y) = _
      rw [if_neg (by omega)]
      exact ih
    · exact ih

theorem stands_at {l : List Ld} {keep : Int} {y k : Nat} (h : y < k) : standsTo l keep k (y : Int) = standsTo l keep (y + 1) (y : Int) := by
  have := stands_keep (l := l) (keep := keep) y (k - (y + 1))
  rwa [show y + 1 + (k - (y + 1)) = k by omega] at this

/-- A set stands just if it has a lowest box over others that stand. -/
theorem stands_iff {l : List Ld} {keep : Int} {s k : Nat} (h : s < k) (h0 : 0 < s) (hs : s < 1024) : standsTo l keep k (s : Int) = (lowO l keep (standsTo l keep k) s).isSome := by
  rw [stands_at h, low_congr (g := standsTo l keep s) hs (fun y hy => by rw [stands_at (show y < k by omega), stands_at hy])]
  rw [standsTo]
  split
  · rename_i h1
    rw [h1]
    show (if (s : Int) = (s : Int) then true else _) = true
    rw [if_pos rfl]
  · rename_i h1
    rw [stands_ge s s (Nat.le_refl _) h0]
    simpa using h1

/-- The order of a set's boxes from the bottom up. -/
def orderF (l : List Ld) (keep : Int) (f : Int → Bool) : Nat → Nat → List Nat
  | 0, _ => []
  | n + 1, s => match lowO l keep f s with
    | some x => x :: orderF l keep f n (without s x)
    | none => []

def orderL (l : List Ld) (keep : Int) (f : Int → Bool) (s : Nat) : List Nat := orderF l keep f s s

theorem orderF_zero {l : List Ld} {keep : Int} {f : Int → Bool} : ∀ n, orderF l keep f n 0 = []
  | 0 => rfl
  | n + 1 => by
    have : lowO l keep f 0 = none := find_no (fun y hy => by have := (memb_bit hy).2; simp at this)
    simp [orderF, this]

theorem orderF_fuel {l : List Ld} {keep : Int} {f : Int → Bool} : ∀ (s : Nat), s < 1024 → ∀ n, s ≤ n → orderF l keep f n s = orderF l keep f s s := by
  intro s
  induction s using Nat.strongRecOn with
  | ind s ih =>
    intro hs n hn
    cases s with
    | zero => rw [orderF_zero]; rfl
    | succ s =>
      obtain ⟨n, rfl⟩ : ∃ m, n = m + 1 := ⟨n - 1, by omega⟩
      simp only [orderF]
      cases h : lowO l keep f (s + 1) with
      | none => rfl
      | some x =>
        obtain ⟨h1, h2, _⟩ := low_bit h
        have hlt := without_lt hs h1 h2
        show x :: _ = x :: _
        rw [ih _ hlt (by omega) n (by omega), ih _ hlt (by omega) s (by omega)]

theorem orderL_step {l : List Ld} {keep : Int} {f : Int → Bool} {s x : Nat} (hs : s < 1024) (h0 : 0 < s) (h : lowO l keep f s = some x) : orderL l keep f s = x :: orderL l keep f (without s x) := by
  obtain ⟨h1, h2, _⟩ := low_bit h
  have hlt := without_lt hs h1 h2
  obtain ⟨n, rfl⟩ : ∃ m, s = m + 1 := ⟨s - 1, by omega⟩
  unfold orderL
  rw [orderF, h]
  show x :: _ = x :: _
  rw [orderF_fuel _ (by omega) n (by omega)]

def intsN (l : List Nat) : List Int := l.map (fun n : Nat => (n : Int))

theorem intsN_len (l : List Nat) : (intsN l).length = l.length := by simp [intsN]

theorem pow_wrap {x : Nat} (hx : x < 10) : IntKind.i64.wrap ((2 : Int) ^ x) = (2 : Int) ^ x := by
  have h2 := pow_1024 hx
  rw [show (2 : Int) ^ x = ((2 ^ x : Nat) : Int) by simp]
  exact wrap_small _ h2

set_option maxRecDepth 100000 in
set_option maxHeartbeats 2000000 in
theorem order_no (l : List Ld) (h10 : l.length ≤ 10) (a : Option Addr) (cap : Nat) (keep : Int) (m n : Nat) (f : Int → Bool) (w : World) (hm : MapB w m n f) (hF : f ((allN l : Nat) : Int) = false) :
    Calls Try.prog 101 #[.agg #[.slice a l.length cap, .int .i64 keep, .map (some m)]] w fun e w' => e = .returned (.tuple #[.slice none 0 0, .bool false]) ∧ Gr w w' := by
  have gg := Gr.al w (.cells #[.slice a l.length cap, .int .i64 keep, .map (some m)] 168)
  have hb := Box.new w [.slice a l.length cap, .int .i64 keep, .map (some m)] 168 w.heap.size rfl
  have hN : allN l < 1024 := by have := pow_bd h10; unfold allN; omega
  obtain ⟨N, hNN⟩ : ∃ N, allN l = N := ⟨_, rfl⟩
  rw [hNN] at hF hN
  have c1 : ∀ W', Calls Try.prog 125 #[.agg #[.slice a l.length cap, .int .i64 keep, .map (some m)]] W' fun e w' => e = .returned (.int .i64 (N : Int)) ∧ Gr W' w' := fun W' => by
    have := all_any l h10 a cap keep (some m) W'
    rw [hNN] at this
    exact this
  clear hNN
  go_enter Try.func101, Try.ntmps101
  go_wp2_with (go_at_call 125; refine (c1 _).mono ?_; rintro e w3 ⟨rfl, g3⟩; obtain ⟨q0, q1, q2⟩ := Box.c3p (hb.keep g3); have hl := (hm.keep (gg.tr g3)).look (N : Int) (wf64 (by omega) (by omega)); rw [hF] at hl)
  go_ret2
  exact ⟨rfl, gg.tr g3⟩

set_option maxRecDepth 100000 in
set_option maxHeartbeats 4000000 in
theorem order_yes (l : List Ld) (h10 : l.length ≤ 10) (hB : ∀ x ∈ l, LdOk x) (a : Option Addr) (cap : Nat) (keep : Int) (k0 : 0 ≤ keep) (k1 : keep ≤ 1000) (m n : Nat) (f : Int → Bool) (hf : f = standsTo l keep (allN l + 1)) (w : World) (hr : LRow w a l) (hm : MapB w m n f) (hF : f ((allN l : Nat) : Int) = true) :
    Calls Try.prog 101 #[.agg #[.slice a l.length cap, .int .i64 keep, .map (some m)]] w fun e w' => ∃ b c, e = .returned (.tuple #[.slice b (intsN (orderL l keep f (allN l))).length c, .bool true]) ∧ IRow w' b (intsN (orderL l keep f (allN l))) ∧ Gr w w' := by
  obtain ⟨i0, hi, hz0, hz1, hz2⟩ := info_parts infoInt
  have gg := Gr.al w (.cells #[.slice a l.length cap, .int .i64 keep, .map (some m)] 168)
  have hb := Box.new w [.slice a l.length cap, .int .i64 keep, .map (some m)] 168 w.heap.size rfl
  have hp := pow_bd h10
  have hN1 : allN l < 2 ^ l.length := by unfold allN; omega
  obtain ⟨N, hNN⟩ : ∃ N, allN l = N := ⟨_, rfl⟩
  rw [hNN] at hF hN1 hf ⊢
  have HN1 := Lib.hid hN1
  have hN : N < 1024 := by omega
  have c1 : ∀ W', Calls Try.prog 125 #[.agg #[.slice a l.length cap, .int .i64 keep, .map (some m)]] W' fun e w' => e = .returned (.int .i64 (N : Int)) ∧ Gr W' w' := fun W' => by
    have := all_any l h10 a cap keep (some m) W'
    rw [hNN] at this
    exact this
  have HFF := Lib.hid hf
  have HF := Lib.hid hF
  clear hNN hf hp hN1
  go_enter Try.func101, Try.ntmps101
  go_wp2_with (go_at_call 125; refine (c1 _).mono ?_; rintro e w3 ⟨rfl, g3⟩; obtain ⟨q0, q1, q2⟩ := Box.c3p (hb.keep g3); have hl := (hm.keep (gg.tr g3)).look (N : Int) (wf64 (by omega) (by omega)); rw [hF] at hl)
  have gX := gg.tr g3
  have hb3 := hb.keep g3
  have hm3 := hm.keep gX
  have hr3 := hr.grow gX
  clear hl q0 q1 q2 g3 hb hm hr gg hF c1
  go_loopw [4, 2] (fun t v wr => Hid (∃ (s : Nat) (pre : List Nat), s ≤ N ∧ t = .int .i64 s ∧ f (s : Int) = true ∧ pre ++ orderL l keep f s = orderL l keep f N ∧ pre.length + s ≤ N ∧ Gr w3 wr ∧ wr.ownsRow w3.heap.size 3 1 v pre.length ((intsN pre).flatMap encI))) (fun t _ _ => (intOf t).toNat)
  case atStart => exact Lib.hid ⟨N, [], Nat.le_refl _, rfl, HF.out, rfl, by simp, Below.refl _ _, World.ownsRow_nil _ _ _ _⟩
  case round =>
    obtain ⟨s, pre, hsN, rfl, hfs, hpre, hlen, gW, hown⟩ := hrel.out
    clear hrel
    by_cases h0 : s = 0
    · subst h0
      have e0 : orderL l keep f 0 = [] := rfl
      rw [e0, List.append_nil] at hpre
      have hl1 := intsN_len pre
      obtain ⟨b, c, hv, hr4⟩ := owns_row (enc := encI) (l := intsN pre) (fun _ => rfl) (by rw [hl1]; omega) (by rw [hl1]; exact hown)
      subst hv
      rw [hpre] at hr4
      have HR := Lib.hid hr4
      have HP := Lib.hid hpre
      clear hr4 hown hpre hl1
      go_wp2
      rw [HP.out]
      go_ret2
      exact ⟨b, ⟨c, rfl⟩, HR.out, gX.tr gW⟩
    · have hs0 : ((s : Int) == 0) = false := by simpa using h0
      have hlow := stands_iff (l := l) (keep := keep) (s := s) (k := N + 1) (by omega) (by omega) (by omega)
      rw [← HFF.out, hfs] at hlow
      obtain ⟨x, hx⟩ : ∃ x, lowO l keep f s = some x := Option.isSome_iff_exists.1 hlow.symm
      obtain ⟨x10, xb, xl⟩ := low_bit hx
      have hfx := lowB_f xl
      have hbits := without_bits (show s < 1024 by omega) x10 xb
      have hlt := without_lt (show s < 1024 by omega) x10 xb
      have hstep := orderL_step (show s < 1024 by omega) (by omega) hx
      have hpw := pow_wrap x10
      have hcl := lowest_set l h10 hB s (by have := HN1.out; omega) a cap keep k0 k1 m n f wr (hr3.grow gW) (hm3.keep gW)
      rw [lowV_some hx] at hcl
      obtain ⟨q0, q1, q2⟩ := Box.c3p (hb3.keep gW)
      obtain ⟨O, hO⟩ : ∃ O, without s x = O := ⟨_, rfl⟩
      rw [hO] at hfx hbits hlt hstep
      have hk1 : pre.length + 1 ≤ maxLen := by unfold maxLen; omega
      have hk2 : (pre.length + 1) * 8 ≤ 140737488355328 := by omega
      have HC := Lib.hid hcl
      have HST := Lib.hid hstep
      have HPR := Lib.hid hpre
      have HFX := Lib.hid hfx
      have HFS := Lib.hid hfs
      clear hlow hx xl hcl hO hstep hpre hfx hfs xb
      go_wp2_with (first
        | (go_at_call 126; refine HC.out.mono ?_; rintro e w4 ⟨rfl, g4⟩)
        | (at_builtin; refine wpList_append_own _ rfl _ _ 24 rfl w3.heap.size 3 i0 (.int .i64 0) 1 8 Try.underlying24 hi hz0 hz1 hz2 rfl (by decide) _ _ _ rfl (owns_keep (owns_keep hown g4) (Gr.al w4 (.cells #[.int .i64 (x : Int)] 3))) ⟨w4.heap.size, 0, none⟩ 1 1 ([(x : Int)].map (fun n => Value.int .i64 n)) rfl rfl (cell_news _ _ _) (ints_one _) hk1 hk2 ((gW.tr g4).tr (Gr.al _ _)).size ?_; intro v' w6 hown' hgrow' _))
      go_roundw
      case rel =>
        have hR : Gr w3 w6 := ((gW.tr g4).tr (Gr.al _ _)).grown' (owns_keep (owns_keep hown g4) (Gr.al _ _)) (Nat.le_refl _) hgrow'
        have hl : w6.ownsRow w3.heap.size 3 1 v' (pre ++ [x]).length ((intsN (pre ++ [x])).flatMap encI) := by
          rw [List.length_append]
          unfold intsN
          rw [List.map_append, List.flatMap_append]
          exact hown'
        refine Lib.hid ⟨O, pre ++ [x], by omega, rfl, HFX.out, ?_, by simp; omega, hR, hl⟩
        rw [← HPR.out, HST.out, List.append_assoc]
        rfl
      case measure => simp [intOf]; omega

end Go.Proofs.Ytcdilmagcdbogaa

namespace Go.Proofs.Ytcdilmagcdbogaa
set_option linter.unusedVariables false
set_option linter.unusedSimpArgs false
open Go.RowKit Go.Shelf
attribute [local go_sem] Oper.semAt_some

theorem owns_kx {Z : Nat → Prop} {w w' : World} {base : Nat} {e : TypeId} {sz : Nat} {v : Value} {n : Nat} {xs : List Value} (h : w.ownsRow base e sz v n xs) (k : Kx Z w w') (hz : ∀ r, v.ownBlock = some r → ¬ Z r) : w'.ownsRow base e sz v n xs := by
  obtain ⟨h1, h2⟩ := h
  refine ⟨h1, ?_⟩
  rcases h2 with h2 | ⟨b, cap, cur, hv, hb, hh, r⟩
  · exact .inl h2
  · exact .inr ⟨b, cap, cur, hv, hb, k.keepO hh (hz b (by rw [hv]; rfl)), r⟩

theorem wpListIn_append_base {F : Fence} {n : Nat} {P : Program} (w : World) {ops : Array Oper} {rest : List Oper} {o : Oper} {a : Act} {Q : Exit → Act → World → Prop}
    (hg : o.guard = none) (s x : Operand) (t : TypeId) (hop : o.op = Op.call { callee := Callee.builtin Builtin.append, args := #[s, x], argTypes := #[t, t] }) (base : Nat)
    (e : TypeId) (i : TypeInfo) (z : Value) (size bytes : Nat) (h1 : P.underlying t = some (.slice e)) (h2 : P.info? e = some i) (h3 : i.zero = some z) (h4 : i.size = size) (h5 : i.bytes = bytes) (h6 : z.cells.size = size) (h7 : 0 < size)
    (v : Value) (k : Nat) (xs : List Value) (hs : a.eval s = v) (hown : w.ownsRow base e size v k xs) (ad : Addr) (m c : Nat) (news : List Value) (hx : a.eval x = .slice (some ad) m c) (hn : news.length = m * size)
    (hc : ∀ j u, news[j]? = some u → w.cell? (ad.add j) = some u) (h1c : ∀ u ∈ news, u.oneCell' = true) (b1 : k + m ≤ maxLen) (b2 : (k + m) * bytes ≤ 140737488355328) (hb : base ≤ w.heap.size)
    (hK : ∀ v' w', w'.ownsRow base e size v' (k + m) (xs ++ news) → w.grownBy w' v.ownBlock → (∀ b, v'.ownBlock = some b → b < w'.heap.size ∧ (v.ownBlock = some b ∨ w.heap.size ≤ b)) → wpListIn F n P ops Q rest (a.put o.dst v') w') :
    wpListIn F n P ops Q (o :: rest) a w := by
  refine wpListIn_append_new w hg s x t hop e i z size bytes h1 h2 h3 h4 h5 h6 h7 v k xs hs (owns_base hown (Nat.zero_le _)) ad m c news hx hn hc h1c b1 b2 (fun v' w' r1 r2 r3 => hK v' w' ?_ r2 r3)
  obtain ⟨q1, q2⟩ := r1
  refine ⟨q1, ?_⟩
  rcases q2 with q2 | ⟨g, cap, cur, hv, hg0, hh, r⟩
  · exact .inl q2
  · refine .inr ⟨g, cap, cur, hv, ?_, hh, r⟩
    rcases (r3 g (by rw [hv]; rfl)).2 with h | h
    · exact (hown.lt g h).1
    · omega

/-- While a list is collected into a slice in cell b2. -/
def InvC (b2 : Nat) (w4 : World) (pre : List Nat) (X Y : Nat → Prop) (W : World) : Prop :=
  ∃ vv, (∀ i, X i ↔ (i = b2 ∨ vv.ownBlock = some i)) ∧ (∀ i, Y i → w4.heap.size ≤ i) ∧ Kx (fun i => i = b2) w4 W ∧ Own W b2 [vv] ∧ W.ownsRow w4.heap.size 3 1 vv pre.length ((intsN pre).flatMap encI) ∧ ∀ r, vv.ownBlock = some r → r < W.heap.size ∧ ¬ Y r

theorem InvC.ab {b2 : Nat} {w4 : World} (h2 : b2 < w4.heap.size) (s : List Nat) (X : Nat → Prop) : Ab (InvC b2 w4 s X) := by
  rintro Y Y' A B ⟨vv, hX, hY, hk, o2, hown, hr⟩ k hy
  have hs := hk.size
  have hY' : ∀ i, Y' i → w4.heap.size ≤ i := fun i e => by
    rcases hy i e with e | e
    · exact hY i e
    · omega
  have hr' : ∀ r, vv.ownBlock = some r → r < B.heap.size ∧ ¬ Y' r := fun r e => by
    obtain ⟨h1, h2⟩ := hr r e
    have := k.size
    refine ⟨by omega, fun e' => ?_⟩
    rcases hy r e' with e' | e'
    · exact h2 e'
    · omega
  exact ⟨vv, hX, hY', hk.th k fun i e => .inr (hY i e), o2.kx k fun e => by have := hY _ e; omega, owns_kx hown k fun r e => (hr r e).2, hr'⟩

set_option maxRecDepth 100000 in
set_option maxHeartbeats 4000000 in
theorem appendSeq_members (s : Nat) (hs : s < 1024) (b : Nat) (w : World) (hO : Own w b [.int .i64 (s : Int)]) :
    Calls Try.prog 147 #[.slice none 0 0, .func (.func 148) #[] #[.pointer (some ⟨b, 0, none⟩)]] w fun e w' => ∃ a c, e = .returned (.slice a (intsN (membL s)).length c) ∧ IRow w' a (intsN (membL s)) ∧ Gr w w' := by
  refine (callsIn_wide (n := 20)).1 ?_
  obtain ⟨i0, hi, hz0, hz1, hz2⟩ := info_parts infoInt
  have g0 := Gr.al w (.cells #[.slice none 0 0] 24)
  have o2 := Own.new w [.slice none 0 0] 24 w.heap.size rfl
  have hbl := hO.1.1
  have oB := hO.keep g0
  refine callsIn_of_wp_marks Try.func147 rfl trivial ?_ rfl
  simp only [Try.ntmps147, List.size_toArray, List.length_cons, List.length_nil, Nat.reduceAdd, Nat.reduceSub, Array.replicate_succ, Array.replicate_zero, List.push_toArray, List.append_toArray, List.nil_append, List.cons_append]
  gi_wp2
  obtain ⟨w4, hw4⟩ : ∃ w4, w4 = w.alloc (.cells #[.slice none 0 0] 24) := ⟨_, rfl⟩
  rw [← hw4] at g0 o2 oB ⊢
  have hs4 : w4.heap.size = w.heap.size + 1 := by rw [hw4]; simp
  clear hw4
  obtain ⟨X0, hX0⟩ : ∃ X0 : Nat → Prop, X0 = fun i => i = w.heap.size := ⟨_, rfl⟩
  have hst : St X0 (fun V => Own V b [.int .i64 (s : Int)]) w4 := fun B hB => oB.kx hB fun e => by rw [hX0] at e; omega
  have HX0 := Lib.hid hX0
  have Hst := Lib.hid hst
  have HO2 := Lib.hid o2
  have G0 := Lib.hid g0
  clear hX0 hst o2 oB hO g0
  refine wpIn_rangeX (F := Fence.wide) rfl (by omega) (gf := 148) (lb := #[.pointer (some ⟨b, 0, none⟩)]) rfl trivial (enters_of Try.func148 (by kernel_rfl) rfl)
    (members_seq 19 (by omega) b s hs X0 w4 Hst.out) (Kx.refl _ _) (fun _ => rfl) X0 (fun i e => ⟨by rw [HX0.out] at e; omega, .inl e⟩)
    (InvC w.heap.size w4) (fun _ _ _ _ => False) (fun s X => InvC.ab (by omega) s X) ?abX ?start
    (fun pre x a' X Y W => InvC w.heap.size w4 pre X Y W ∧ pre.length < 10 ∧ a' = ⟨#[.slice none 0 0, .func (.func 148) #[] #[.pointer (some ⟨b, 0, none⟩)], .pointer (some ⟨w.heap.size, 0, none⟩), undef, .slice none 0 0, .int .i64 (x : Int), .func (.func 148) #[] #[.pointer (some ⟨b, 0, none⟩)], .int .i64 (x : Int), undef, undef, undef, undef, undef], []⟩)
    ?abA ?assign ?body ?done ?stop
  case start =>
    refine ⟨.slice none 0 0, fun i => by rw [HX0.out]; simp [Value.ownBlock], fun i e => e.elim, Kx.refl _ _, HO2.out, World.ownsRow_nil _ _ _ _, fun r e => by simp [Value.ownBlock] at e⟩
  case abX => rintro c s Y Y' A B h _ _; exact h
  case abA =>
    rintro s' x a' X Y Y' A B ⟨h1, hm, h7⟩ hk hy
    exact ⟨InvC.ab (by omega) _ _ _ _ _ _ h1 hk hy, hm, h7⟩
  case assign =>
    rintro l1 pre x X Y W K hI hG hD hK
    dsimp only [encM]
    gi_wp2
    exact hK _ X _ ⟨hI, by omega, rfl⟩ (Kx.refl _ _) (fun i e => ⟨by have := hD.x _ e; omega, .inl e⟩)
  case body =>
    rintro l1 pre x a' X Y W ⟨⟨vv, hX, hY, hk, o2, hown, hr⟩, hlen, rfl⟩ hD hYl hrec
    have c2 := o2.1.c1
    have hk1 : pre.length + 1 ≤ maxLen := by unfold maxLen; omega
    have hk2 : (pre.length + 1) * 8 ≤ 140737488355328 := by omega
    have gA := Gr.al W (.cells #[.int .i64 (x : Int)] 3)
    have hlt : ∀ r, vv.ownBlock = some r → w4.heap.size ≤ r := fun r e => (hown.lt r e).1
    have hsz : w4.heap.size ≤ (W.alloc (.cells #[.int .i64 (x : Int)] 3)).heap.size := by have := hk.size; simp; omega
    have HX := Lib.hid hX
    have HY := Lib.hid hY
    have HK := Lib.hid hk
    have HO2' := Lib.hid o2
    have HR := Lib.hid hr
    have HD := Lib.hid hD
    have HL := Lib.hid hlt
    have GA := Lib.hid gA
    clear hX hY hk o2 hr hD hlt hYl hrec gA
    gi_wp2_with (gi_at_builtin; refine wpListIn_append_base _ rfl _ _ 24 rfl w4.heap.size 3 i0 (.int .i64 0) 1 8 Try.underlying24 hi hz0 hz1 hz2 rfl (by decide) vv _ _ rfl (owns_keep hown GA.out) ⟨W.heap.size, 0, none⟩ 1 1 ([(x : Int)].map (fun n => Value.int .i64 n)) rfl rfl (cell_news _ _ _) (ints_one _) hk1 hk2 hsz ?_; intro v' w6 hown' hgrow hnew; obtain ⟨g', cap', rfl⟩ := ownsRow_succ hown'; have kg : Kx (fun i => vv.ownBlock = some i) (W.alloc (.cells #[.int .i64 (x : Int)] 3)) w6 := Kx.grown hgrow (fun r e => .inl e); have d2 := (HO2'.out.keep GA.out).kx kg (fun e => by have := HL.out _ e; omega); have e2 := d2.1.c1; have z2 := d2.2 0; have D2 := Lib.hid d2; have HN := Lib.hid hnew; have KG := Lib.hid kg; clear d2 hnew kg)
    have kk : Kx X W (w6.setCell ⟨w.heap.size, 0, none⟩ (.slice (some ⟨g', 0, none⟩) (pre.length + 1) cap')) := (Kx.al X W _).tr ((KG.out.mono (fun r e => .inl ((HX.out r).2 (.inr e)))).tr (Kx.set (Z := X) (p := ⟨w.heap.size, 0, none⟩) ((HX.out _).2 (.inl rfl)) _))
    have hlt' : ∀ r, (Value.slice (some ⟨g', 0, none⟩) (pre.length + 1) cap').ownBlock = some r → w4.heap.size ≤ r := fun r e => (hown'.lt r e).1
    refine ⟨kk, fun i => i = w.heap.size ∨ (Value.slice (some ⟨g', 0, none⟩) (pre.length + 1) cap').ownBlock = some i, ⟨(.slice (some ⟨g', 0, none⟩) (pre.length + 1) cap'), fun i => Iff.rfl, HY.out, HK.out.th kk (fun i e => ?_), ?_, ?_, fun r e => ?_⟩, fun i e => ?_⟩
    · rcases (HX.out i).1 e with e | e
      · exact .inl e
      · exact .inr (HL.out i e)
    · exact D2.out.set (i := 0) (v := (.slice (some ⟨g', 0, none⟩) (pre.length + 1) cap')) (by simp)
    · have := owns_kx hown' (Kx.set (Z := fun i => i = w.heap.size) (p := ⟨w.heap.size, 0, none⟩) rfl (.slice (some ⟨g', 0, none⟩) (pre.length + 1) cap')) (fun r e e' => by have := hlt' r e; omega)
      rw [List.length_append]
      unfold intsN
      rw [List.map_append, List.flatMap_append]
      exact this
    · obtain ⟨n1, n2⟩ := HN.out r e
      refine ⟨by simpa using n1, fun e' => ?_⟩
      rcases n2 with h | h
      · exact (HR.out r h).2 e'
      · have := HD.out.y r e'
        simp at h
        omega
    · rcases e with rfl | e
      · exact ⟨by have := HO2'.out.1.1; have := kk.size; omega, .inl ((HX.out _).2 (.inl rfl))⟩
      · obtain ⟨n1, n2⟩ := HN.out i e
        refine ⟨by simpa using n1, ?_⟩
        rcases n2 with h | h
        · exact .inl ((HX.out _).2 (.inr h))
        · simp at h
          exact .inr (by omega)
  case done =>
    rintro D xs X Y W hD rfl ⟨vv, hX, hY, hk, o2, hown, hr⟩ hYD hK
    have hl1 := intsN_len (membL s)
    have hl2 : (membL s).length ≤ 10 := membTo_len s 10
    obtain ⟨a, c, hv, hrow⟩ := owns_row (enc := encI) (l := intsN (membL s)) (fun _ => rfl) (by rw [hl1]; omega) (by rw [hl1]; exact hown)
    subst hv
    have c2 := o2.1.c1
    have HR := Lib.hid hrow
    have HKK := Lib.hid hk
    have HRR := Lib.hid hr
    clear o2 hown hX hY hk hrow hr hl1 hl2
    gi_wp2
    refine leaves_marks [D] _ (fun E hE => ?_) (by simp) fun w' hk' => ?_
    · simp only [List.mem_singleton] at hE
      subst hE
      exact hK
    · refine ⟨.slice a (intsN (membL s)).length c, by simp [results, Try.results147, go_sem], a, ⟨c, rfl⟩, ?_, Kx.toGr (((Kx.gr (Z := noBlock) G0.out).th HKK.out fun i e => ?_).th hk' fun i e => ?_)⟩
      · refine RowOf.kx HR.out hk' fun b' off e e' => ?_
        simp only [List.mem_singleton] at e'
        subst e'
        exact (HRR.out b' (by rw [e]; rfl)).2 hYD
      · exact .inr (by omega)
      · simp only [List.mem_singleton] at e
        exact .inr (by omega)
  case stop =>
    rintro D c pre Y W hD _ hF
    exact hF.elim

set_option maxRecDepth 100000 in
theorem collect_members (s : Nat) (hs : s < 1024) (b : Nat) (w : World) (hO : Own w b [.int .i64 (s : Int)]) :
    Calls Try.prog 127 #[.func (.func 148) #[] #[.pointer (some ⟨b, 0, none⟩)]] w fun e w' => ∃ a c, e = .returned (.slice a (intsN (membL s)).length c) ∧ IRow w' a (intsN (membL s)) ∧ Gr w w' := by
  go_enter Try.func127, Try.ntmps127
  go_wp2_with (go_at_call 147; refine (appendSeq_members s hs b _ hO).mono ?_; rintro e w3 ⟨a, c, rfl, hr, g3⟩)
  go_ret
  exact ⟨a, c, rfl, hr, g3⟩

end Go.Proofs.Ytcdilmagcdbogaa

namespace Go.Proofs.Ytcdilmagcdbogaa
set_option linter.unusedVariables false
set_option linter.unusedSimpArgs false
open Go.RowKit

def compL : List Int → List Int → Int
  | [], [] => 0
  | [], _ :: _ => -1
  | _ :: _, [] => 1
  | x :: l, y :: m => if Lib.compareInt x y = 0 then compL l m else Lib.compareInt x y

set_option maxRecDepth 100000 in
set_option maxHeartbeats 2000000 in
theorem compare_any (l m : List Int) (a b : Option Addr) (c d : Nat) (w : World) (hl : IRow w a l) (hm : IRow w b m) :
    Calls Try.prog 117 #[.slice a l.length c, .slice b m.length d] w fun e w' => e = .returned (.int .i64 (compL l m)) ∧ Gr w w' := by
  have hl0 := hl.1
  have hm0 := hm.1
  obtain ⟨r, hr⟩ : ∃ r, compL l m = r := ⟨_, rfl⟩
  rw [hr]
  have HR := Lib.hid hr
  clear hr
  go_enter Try.func117, Try.ntmps117
  go_wp2
  go_loopw [11] (fun t wr => Hid (∃ k : Nat, k ≤ l.length ∧ k ≤ m.length ∧ t = .int .i64 k ∧ Gr w wr ∧ compL (l.drop k) (m.drop k) = r)) (fun t _ => l.length - (intOf t).toNat)
  case atStart => exact Lib.hid ⟨0, Nat.zero_le _, Nat.zero_le _, rfl, Below.refl _ _, HR.out⟩
  case round =>
    obtain ⟨k, hk, hk', rfl, gW, hc⟩ := hrel.out
    clear hrel
    by_cases hlt : k < l.length
    · obtain ⟨x, hx⟩ : ∃ x, l[k]? = some x := ⟨l[k], by simp [hlt]⟩
      have e1 : l.drop k = x :: l.drop (k + 1) := by rw [List.drop_eq_getElem_cons hlt, (List.getElem?_eq_some_iff.1 hx).2]
      obtain ⟨b1, o1, rfl, h1, c1⟩ := IRow.get (hl.grow gW) hx
      by_cases hlt2 : k < m.length
      · obtain ⟨y, hy⟩ : ∃ y, m[k]? = some y := ⟨m[k], by simp [hlt2]⟩
        have e2 : m.drop k = y :: m.drop (k + 1) := by rw [List.drop_eq_getElem_cons hlt2, (List.getElem?_eq_some_iff.1 hy).2]
        obtain ⟨b2, o2, rfl, h2, c2⟩ := IRow.get (hm.grow gW) hy
        rw [e1, e2] at hc
        have hc' : (if Lib.compareInt x y = 0 then compL (l.drop (k + 1)) (m.drop (k + 1)) else Lib.compareInt x y) = r := hc
        have d1 : decide (m.length ≤ k) = false := by simp; omega
        obtain ⟨z, hz⟩ : ∃ z, Lib.compareInt x y = z := ⟨_, rfl⟩
        have hcall := Try.cmp_Compare_int x y wr
        rw [hz] at hc' hcall
        have HC := Lib.hid hcall
        clear hc hcall hz e1 e2 hx hy
        by_cases h0 : z = 0
        · subst h0
          rw [if_pos rfl] at hc'
          have HC' := Lib.hid hc'
          clear hc'
          go_wp2_with (go_at_call 142; refine HC.out.mono ?_; rintro e w4 ⟨rfl, rfl⟩)
          go_roundw
          case rel => exact Lib.hid ⟨k + 1, by omega, by omega, by go_num, gW, HC'.out⟩
          case measure => simp [intOf]; omega
        · have hz0 : (z != 0) = true := by simpa using h0
          rw [if_neg h0] at hc'
          have HC' := Lib.hid hc'
          clear hc'
          go_wp2_with (go_at_call 142; refine HC.out.mono ?_; rintro e w4 ⟨rfl, rfl⟩)
          go_ret
          exact ⟨ret_int HC'.out, gW⟩
      · have e2 : m.drop k = [] := by rw [List.drop_eq_nil_iff]; omega
        rw [e1, e2] at hc
        have hc' : 1 = r := hc
        have hmk : m.length = k := by omega
        have d1 : decide (m.length ≤ k) = true := by simp; omega
        have HC' := Lib.hid hc'
        clear hc hc' e1 e2 hx hmk
        go_wp2
        go_ret
        exact ⟨ret_int HC'.out, gW⟩
    · obtain rfl : k = l.length := by omega
      have e1 : l.drop l.length = [] := by simp
      rw [e1] at hc
      by_cases hlt2 : l.length < m.length
      · obtain ⟨y, hy⟩ : ∃ y, m[l.length]? = some y := ⟨m[l.length], by simp [hlt2]⟩
        have e2 : m.drop l.length = y :: m.drop (l.length + 1) := by rw [List.drop_eq_getElem_cons hlt2, (List.getElem?_eq_some_iff.1 hy).2]
        rw [e2] at hc
        have hc' : -1 = r := hc
        have HC' := Lib.hid hc'
        clear hc hc' e1 e2 hy
        go_wp2
        go_ret
        exact ⟨ret_int HC'.out, gW⟩
      · have e2 : m.drop l.length = [] := by rw [List.drop_eq_nil_iff]; omega
        rw [e2] at hc
        have hc' : 0 = r := hc
        have HC' := Lib.hid hc'
        clear hc hc' e1 e2
        go_wp2
        go_ret
        exact ⟨ret_int HC'.out, gW⟩

/-- The most boxes of the sets below k that stand; of several lists the smallest one. -/
def mostTo (f : Int → Bool) : Nat → List Nat
  | 0 => []
  | k + 1 => if f (k : Int) = true then (if (mostTo f k).length < (membL k).length ∨ ((membL k).length = (mostTo f k).length ∧ compL (intsN (membL k)) (intsN (mostTo f k)) < 0) then membL k else mostTo f k) else mostTo f k

set_option maxRecDepth 100000 in
set_option maxHeartbeats 4000000 in
theorem most_set (l : List Ld) (h10 : l.length ≤ 10) (a : Option Addr) (cap : Nat) (keep : Int) (m n : Nat) (f : Int → Bool) (w : World) (hm : MapB w m n f) :
    Calls Try.prog 102 #[.agg #[.slice a l.length cap, .int .i64 keep, .map (some m)]] w fun e w' => ∃ b c, e = .returned (.slice b (intsN (mostTo f (allN l + 1))).length c) ∧ IRow w' b (intsN (mostTo f (allN l + 1))) ∧ Gr w w' := by
  have gg := Gr.al w (.cells #[.slice a l.length cap, .int .i64 keep, .map (some m)] 168)
  have hb := Box.new w [.slice a l.length cap, .int .i64 keep, .map (some m)] 168 w.heap.size rfl
  have hN : allN l < 1024 := by have := pow_bd h10; unfold allN; omega
  obtain ⟨N, hNN⟩ : ∃ N, allN l = N := ⟨_, rfl⟩
  rw [hNN] at hN ⊢
  have c1 : ∀ W', Calls Try.prog 125 #[.agg #[.slice a l.length cap, .int .i64 keep, .map (some m)]] W' fun e w' => e = .returned (.int .i64 (N : Int)) ∧ Gr W' w' := fun W' => by
    have := all_any l h10 a cap keep (some m) W'
    rw [hNN] at this
    exact this
  have z0 : IntKind.i64.wrap ((N : Int) + 1) = (N : Int) + 1 := IntWalk.i64_in _ (by omega)
  clear hNN
  go_enter Try.func102, Try.ntmps102
  go_wp2_with (go_at_call 125; refine (c1 _).mono ?_; rintro e w3 ⟨rfl, g3⟩)
  have gX := gg.tr g3
  have hb3 := hb.keep g3
  have hm3 := hm.keep gX
  clear g3 hb hm gg c1 z0
  go_loopw [9, 3] (fun t v wr => Hid (∃ (k : Nat) (b : Option Addr) (c : Nat), k ≤ N + 1 ∧ t = .int .i64 k ∧ v = .slice b (intsN (mostTo f k)).length c ∧ Gr w3 wr ∧ IRow wr b (intsN (mostTo f k)))) (fun t _ _ => N + 1 - (intOf t).toNat)
  case atStart => exact Lib.hid ⟨0, none, 0, Nat.zero_le _, rfl, rfl, Below.refl _ _, RowOf.nil⟩
  case round =>
    obtain ⟨k, b, c, hk, rfl, rfl, gW, hrow⟩ := hrel.out
    clear hrel
    obtain ⟨B, hB⟩ : ∃ B, mostTo f k = B := ⟨_, rfl⟩
    rw [hB] at hrow ⊢
    by_cases hlt : k < N + 1
    · have hlt' : (k : Int) < (N : Int) + 1 := by omega
      have hb4 := hb3.keep gW
      obtain ⟨q0, q1, q2⟩ := Box.c3p hb4
      have hl := (hm3.keep gW).look (k : Int) (wf64 (by omega) (by omega))
      cases hf : f (k : Int) with
      | false =>
        rw [hf] at hl
        have hS : mostTo f (k + 1) = B := by rw [mostTo, hf, if_neg (by decide), hB]
        have HS := Lib.hid hS
        clear hS hB hf
        go_wp2
        go_roundw
        case rel => exact Lib.hid ⟨k + 1, b, c, by omega, by go_num, by rw [HS.out], gW, by rw [HS.out]; exact hrow⟩
        case measure => simp [intOf]; omega
      | true =>
        rw [hf] at hl
        obtain ⟨C, hC⟩ : ∃ C, membL k = C := ⟨_, rfl⟩
        have hS : mostTo f (k + 1) = if B.length < C.length ∨ (C.length = B.length ∧ compL (intsN C) (intsN B) < 0) then C else B := by rw [mostTo, hf, if_pos rfl, hB, hC]
        have hcol := fun W' b' (h : Own W' b' [.int .i64 (k : Int)]) => collect_members k (by omega) b' W' h
        rw [hC] at hcol
        have HCOL := Lib.hid hcol
        have HS := Lib.hid hS
        have lB := intsN_len B
        have lC := intsN_len C
        rw [← lB, ← lC] at hS
        obtain ⟨nb, hnb⟩ : ∃ nb, (intsN B).length = nb := ⟨_, rfl⟩
        obtain ⟨nc, hnc⟩ : ∃ nc, (intsN C).length = nc := ⟨_, rfl⟩
        rw [hnb, hnc] at hS
        clear HS lB lC hB hC hf hcol
        by_cases h1 : nb < nc
        · rw [if_pos (.inl h1)] at hS
          have HS := Lib.hid hS
          have HNB := Lib.hid hnb
          have HNC := Lib.hid hnc
          rw [hnb]
          clear hS hnb hnc
          go_wp2_with (first
            | (go_at_call 128; refine (members_any (k : Int) _).mono ?_; rintro e w4 ⟨rfl, o4, g4⟩)
            | (go_at_call 127; refine (HCOL.out _ _ o4).mono ?_; rintro e w5 ⟨a5, c5, rfl, r5, g5⟩; rw [HNC.out]))
          go_roundw
          case rel => exact Lib.hid ⟨k + 1, a5, c5, by omega, by go_num, by rw [HS.out, HNC.out], gW.tr (g4.tr g5), by rw [HS.out]; exact r5⟩
          case measure => simp [intOf]; omega
        · by_cases h2 : nc = nb
          · have h3 : ((nc : Int) == (nb : Int)) = true := by rw [beq_iff_eq]; omega
            have h1' : ¬ (nb : Int) < (nc : Int) := by omega
            obtain ⟨z, hz⟩ : ∃ z, compL (intsN C) (intsN B) = z := ⟨_, rfl⟩
            rw [hz] at hS
            have hcmp : ∀ W' a5 c5, IRow W' a5 (intsN C) → IRow W' b (intsN B) → Calls Try.prog 117 #[.slice a5 nc c5, .slice b nb c] W' fun e w' => e = .returned (.int .i64 z) ∧ Gr W' w' := fun W' a5 c5 r1 r2 => by
              have := compare_any (intsN C) (intsN B) a5 b c5 c W' r1 r2
              rw [hnc, hnb, hz] at this
              exact this
            have HCMP := Lib.hid hcmp
            by_cases h4 : z < 0
            · rw [if_pos (.inr ⟨h2, h4⟩)] at hS
              have HS := Lib.hid hS
              have HNB := Lib.hid hnb
              have HNC := Lib.hid hnc
              rw [hnb]
              clear hS hnb hnc hcmp h2 hz
              go_wp2_with (first
                | (go_at_call 128; refine (members_any (k : Int) _).mono ?_; rintro e w4 ⟨rfl, o4, g4⟩)
                | (go_at_call 127; refine (HCOL.out _ _ o4).mono ?_; rintro e w5 ⟨a5, c5, rfl, r5, g5⟩; rw [HNC.out])
                | (go_at_call 117; refine (HCMP.out _ _ _ r5 (hrow.grow (g4.tr g5))).mono ?_; rintro e w6 ⟨rfl, g6⟩))
              go_roundw
              case rel => exact Lib.hid ⟨k + 1, a5, c5, by omega, by go_num, by rw [HS.out, HNC.out], gW.tr (g4.tr (g5.tr g6)), by rw [HS.out]; exact r5.grow g6⟩
              case measure => simp [intOf]; omega
            · rw [if_neg (by omega)] at hS
              have HS := Lib.hid hS
              have HNB := Lib.hid hnb
              have HNC := Lib.hid hnc
              rw [hnb]
              clear hS hnb hnc hcmp h2 hz
              go_wp2_with (first
                | (go_at_call 128; refine (members_any (k : Int) _).mono ?_; rintro e w4 ⟨rfl, o4, g4⟩)
                | (go_at_call 127; refine (HCOL.out _ _ o4).mono ?_; rintro e w5 ⟨a5, c5, rfl, r5, g5⟩; rw [HNC.out])
                | (go_at_call 117; refine (HCMP.out _ _ _ r5 (hrow.grow (g4.tr g5))).mono ?_; rintro e w6 ⟨rfl, g6⟩))
              go_roundw
              case rel => exact Lib.hid ⟨k + 1, b, c, by omega, by go_num, by rw [HS.out, HNB.out], gW.tr (g4.tr (g5.tr g6)), by rw [HS.out]; exact hrow.grow (g4.tr (g5.tr g6))⟩
              case measure => simp [intOf]; omega
          · rw [if_neg (by omega)] at hS
            have h3 : ((nc : Int) == (nb : Int)) = false := by rw [beq_eq_false_iff_ne]; omega
            have HS := Lib.hid hS
            have HNB := Lib.hid hnb
            have HNC := Lib.hid hnc
            rw [hnb]
            clear hS hnb hnc
            go_wp2_with (first
              | (go_at_call 128; refine (members_any (k : Int) _).mono ?_; rintro e w4 ⟨rfl, o4, g4⟩)
              | (go_at_call 127; refine (HCOL.out _ _ o4).mono ?_; rintro e w5 ⟨a5, c5, rfl, r5, g5⟩; rw [HNC.out]))
            go_roundw
            case rel => exact Lib.hid ⟨k + 1, b, c, by omega, by go_num, by rw [HS.out, HNB.out], gW.tr (g4.tr g5), by rw [HS.out]; exact hrow.grow (g4.tr g5)⟩
            case measure => simp [intOf]; omega
    · obtain rfl : k = N + 1 := by omega
      have hlt' : ¬ ((N + 1 : Nat) : Int) < (N : Int) + 1 := by omega
      have HB := Lib.hid hB
      clear hB
      go_wp2
      go_ret
      exact ⟨b, ⟨c, by rw [HB.out]; rfl⟩, by rw [HB.out]; exact hrow, gX.tr gW⟩

end Go.Proofs.Ytcdilmagcdbogaa

namespace Go.Proofs.Ytcdilmagcdbogaa
set_option linter.unusedVariables false
set_option linter.unusedSimpArgs false
open Go.RowKit

def exceptTo (p : Int → Bool) (l : List Int) (k : Nat) : List Nat := (List.range k).filter (fun i => !p (l.getD i 0))

theorem exceptTo_succ (p : Int → Bool) (l : List Int) (k : Nat) : exceptTo p l (k + 1) = if p (l.getD k 0) = true then exceptTo p l k else exceptTo p l k ++ [k] := by
  unfold exceptTo
  rw [List.range_succ, List.filter_append]
  cases h : p (l.getD k 0) <;> (rw [List.getD_eq_getElem?_getD] at h; simp [h])

theorem exceptTo_len (p : Int → Bool) (l : List Int) (k : Nat) : (exceptTo p l k).length ≤ k := by
  have := List.length_filter_le (fun i => !p (l.getD i 0)) (List.range k)
  simpa [exceptTo] using this

def inWin (off spread from' r : Int) : Bool := decide (from' ≤ min 100000 (r + off)) && decide (max 0 (r - off) ≤ from' + spread)

def leftL (off spread : Int) (l : List Int) (i : Nat) : List Nat := exceptTo (inWin off spread (min 100000 (l.getD i 0 + off))) l l.length

/-- The fewest readings without which the others can be as close as spread. -/
def oddTo (off spread : Int) (l : List Int) : Nat → List Nat
  | 0 => []
  | k + 1 => if k = 0 ∨ (leftL off spread l k).length < (oddTo off spread l k).length ∨ ((leftL off spread l k).length = (oddTo off spread l k).length ∧ compL (intsN (leftL off spread l k)) (intsN (oddTo off spread l k)) < 0) then leftL off spread l k else oddTo off spread l k

theorem callOdd (args : Array Value) (W : World) : (callFunc 116 args).run Try.prog W = .ok (.enter 116 args) W := by kernel_rfl

set_option maxRecDepth 100000 in
set_option maxHeartbeats 2000000 in
theorem oddClosure (off spread from' r : Int) (o0 : 0 ≤ off) (o1 : off ≤ 1000) (s0 : 0 ≤ spread) (s1 : spread ≤ 100000) (f0 : 0 ≤ from') (f1 : from' ≤ 100000) (r0 : 0 ≤ r) (r1 : r ≤ 100000) (b3 b10 b5 : Nat) (W : World)
    (q3 : Box W b3 [.int .i64 off]) (q10 : Box W b10 [.int .i64 from']) (q5 : Box W b5 [.int .i64 spread]) :
    Calls Try.prog 116 #[.int .i64 r, .pointer (some ⟨b3, 0, none⟩), .pointer (some ⟨b10, 0, none⟩), .pointer (some ⟨b5, 0, none⟩)] W fun e W' => e = .returned (.bool (inWin off spread from' r)) ∧ Gr W W' := by
  have c3 := q3.c1
  have v0 : IntKind.i64.wrap (from' + spread) = from' + spread := IntWalk.i64_in _ (by omega)
  obtain ⟨lo, hlo⟩ : ∃ lo, max 0 (r - off) = lo := ⟨_, rfl⟩
  obtain ⟨hi, hhi⟩ : ∃ hi, min 100000 (r + off) = hi := ⟨_, rfl⟩
  have hT : ∀ V, Calls Try.prog 114 #[.agg #[.int .i64 off], .int .i64 r] V fun e w' => e = .returned (.agg #[.int .i64 lo, .int .i64 hi]) ∧ Gr V w' := fun V => by
    have := truth_any off r o0 o1 r0 r1 V
    rw [hlo, hhi] at this
    exact this
  have E : inWin off spread from' r = (decide (from' ≤ hi) && decide (lo ≤ from' + spread)) := by unfold inWin; rw [hlo, hhi]
  rw [E]
  clear hlo hhi E
  by_cases h1 : from' ≤ hi
  · have e1 : decide (from' ≤ hi) = true := by simpa using h1
    go_enter Try.func116, Try.ntmps116
    go_wp2_with (go_at_call 114; refine (hT _).mono ?_; rintro e w1 ⟨rfl, g1⟩; (obtain ⟨d0, d1⟩ := (Box.new w1 [.int .i64 lo, .int .i64 hi] 45 w1.heap.size rfl).c2); have c10 := ((q10.keep g1).keep (Gr.al w1 (.cells #[.int .i64 lo, .int .i64 hi] 45))).c1; have c5 := ((q5.keep g1).keep (Gr.al w1 (.cells #[.int .i64 lo, .int .i64 hi] 45))).c1)
    rw [e1, Bool.true_and]
    go_ret
    exact ⟨rfl, g1.tr (Gr.al _ _)⟩
  · have e1 : decide (from' ≤ hi) = false := by simpa using h1
    go_enter Try.func116, Try.ntmps116
    go_wp2_with (go_at_call 114; refine (hT _).mono ?_; rintro e w1 ⟨rfl, g1⟩; (obtain ⟨d0, d1⟩ := (Box.new w1 [.int .i64 lo, .int .i64 hi] 45 w1.heap.size rfl).c2); have c10 := ((q10.keep g1).keep (Gr.al w1 (.cells #[.int .i64 lo, .int .i64 hi] 45))).c1; have c5 := ((q5.keep g1).keep (Gr.al w1 (.cells #[.int .i64 lo, .int .i64 hi] 45))).c1)
    rw [e1, Bool.false_and]
    go_ret
    exact ⟨rfl, g1.tr (Gr.al _ _)⟩

set_option maxRecDepth 100000 in
set_option maxHeartbeats 2000000 in
theorem except_any (p : Int → Bool) (l : List Int) (hlen : l.length ≤ 1000) (fid : FuncId) (c0 c1 c2 : Value) (a : Option Addr) (cap : Nat) (w : World) (hl : IRow w a l)
    (hcall : ∀ (args : Array Value) (W : World), (callFunc fid args).run Try.prog W = .ok (.enter fid args) W)
    (hf : ∀ (r : Int) (W : World), Gr w W → r ∈ l → Calls Try.prog fid #[.int .i64 r, c0, c1, c2] W fun e W' => e = .returned (.bool (p r)) ∧ Gr W W') :
    Calls Try.prog 115 #[.slice a l.length cap, .func (.func fid) #[] #[c0, c1, c2]] w fun e w' => ∃ b d, e = .returned (.slice b (intsN (exceptTo p l l.length)).length d) ∧ IRow w' b (intsN (exceptTo p l l.length)) ∧ Gr w w' := by
  obtain ⟨i0, hi, hz0, hz1, hz2⟩ := info_parts infoInt
  have HF := Lib.hid hf
  clear hf
  go_enter Try.func115, Try.ntmps115
  go_wp2
  go_loopw [10, 5] (fun t v wr => Hid (∃ k : Nat, k ≤ l.length ∧ t = .int .i64 k ∧ Gr w wr ∧ wr.ownsRow w.heap.size 3 1 v (exceptTo p l k).length ((intsN (exceptTo p l k)).flatMap encI))) (fun t _ _ => l.length - (intOf t).toNat)
  case atStart => exact Lib.hid ⟨0, Nat.zero_le _, rfl, Below.refl _ _, World.ownsRow_nil _ _ _ _⟩
  case round =>
    obtain ⟨k, hk, rfl, gW, hown⟩ := hrel.out
    clear hrel
    by_cases hlt : k < l.length
    · obtain ⟨x, hx⟩ : ∃ x, l[k]? = some x := ⟨l[k], by simp [hlt]⟩
      obtain ⟨b1, o1, rfl, h1, cc⟩ := IRow.get (hl.grow gW) hx
      have hS := exceptTo_succ p l k
      have hgd : l.getD k 0 = x := by simp [List.getD, hx]
      rw [hgd] at hS
      have hln := exceptTo_len p l k
      have hcl := HF.out x wr gW (List.mem_of_getElem? hx)
      have hk1 : (exceptTo p l k).length + 1 ≤ maxLen := by unfold maxLen; omega
      have hk2 : ((exceptTo p l k).length + 1) * 8 ≤ 140737488355328 := by omega
      cases hp : p x with
      | true =>
        rw [hp] at hcl hS
        rw [if_pos rfl] at hS
        have HC := Lib.hid hcl
        have HS := Lib.hid hS
        clear hcl hS hgd hx hp hln hk1 hk2
        go_wp2_with fail
        refine HC.out.mono ?_
        rintro e w2 ⟨rfl, g2⟩
        go_wp2
        go_roundw
        case rel => exact Lib.hid ⟨k + 1, by omega, by go_num, gW.tr g2, by rw [HS.out]; exact owns_keep hown g2⟩
        case measure => simp [intOf]; omega
      | false =>
        rw [hp] at hcl hS
        rw [if_neg (by decide)] at hS
        have HC := Lib.hid hcl
        have HS := Lib.hid hS
        clear hcl hS hgd hx hp hln
        go_wp2_with fail
        refine HC.out.mono ?_
        rintro e w2 ⟨rfl, g2⟩
        go_wp2_with (at_builtin; refine wpList_append_own _ rfl _ _ 24 rfl w.heap.size 3 i0 (.int .i64 0) 1 8 Try.underlying24 hi hz0 hz1 hz2 rfl (by decide) _ _ _ rfl (owns_keep (owns_keep hown g2) (Gr.al w2 (.cells #[.int .i64 (k : Int)] 3))) ⟨w2.heap.size, 0, none⟩ 1 1 ([(k : Int)].map (fun n => Value.int .i64 n)) rfl rfl (cell_news _ _ _) (ints_one _) hk1 hk2 ((gW.tr g2).tr (Gr.al _ _)).size ?_; intro v' w6 hown' hgrow' _)
        go_roundw
        case rel =>
          have hR : Gr w w6 := ((gW.tr g2).tr (Gr.al _ _)).grown' (owns_keep (owns_keep hown g2) (Gr.al _ _)) (Nat.le_refl _) hgrow'
          have hl : w6.ownsRow w.heap.size 3 1 v' (exceptTo p l (k + 1)).length ((intsN (exceptTo p l (k + 1))).flatMap encI) := by
            rw [HS.out, List.length_append]
            unfold intsN
            rw [List.map_append, List.flatMap_append]
            exact hown'
          exact Lib.hid ⟨k + 1, by omega, by go_num, hR, hl⟩
        case measure => simp [intOf]; omega
    · obtain rfl : k = l.length := by omega
      have hl1 := intsN_len (exceptTo p l l.length)
      have hln := exceptTo_len p l l.length
      obtain ⟨b, d, hv, hr4⟩ := owns_row (enc := encI) (l := intsN (exceptTo p l l.length)) (fun _ => rfl) (by rw [hl1]; omega) (by rw [hl1]; exact hown)
      subst hv
      have HR := Lib.hid hr4
      clear hr4 hown hl1 hln
      go_wp2
      go_ret
      exact ⟨b, ⟨d, rfl⟩, HR.out, gW⟩

theorem fieldSp1 (a b : Value) (w : World) : (Instr.field 45 (.agg #[a, b]) 1).run Try.prog w = .ok b w := by kernel_rfl

theorem getD_in {l : List Int} {k : Nat} (h : k < l.length) : ∃ x, l[k]? = some x ∧ l.getD k 0 = x ∧ x ∈ l := by
  have hx : l[k]? = some l[k] := by simp [h]
  exact ⟨l[k], hx, by simp [List.getD, hx], List.getElem_mem h⟩

set_option maxRecDepth 100000 in
set_option maxHeartbeats 4000000 in
theorem odd_any (off spread : Int) (o0 : 0 ≤ off) (o1 : off ≤ 1000) (s0 : 0 ≤ spread) (s1 : spread ≤ 100000) (l : List Int) (hlen : l.length ≤ 1000) (hB : ∀ r ∈ l, 0 ≤ r ∧ r ≤ 100000) (a : Option Addr) (cap : Nat) (w : World) (hl : IRow w a l) :
    Calls Try.prog 80 #[.agg #[.int .i64 off], .slice a l.length cap, .int .i64 spread] w fun e w' => ∃ b d, e = .returned (.slice b (intsN (oddTo off spread l l.length)).length d) ∧ IRow w' b (intsN (oddTo off spread l l.length)) ∧ Gr w w' := by
  have gg := (Gr.al w (.cells #[.int .i64 off] 145)).tr (Gr.al _ (.cells #[.int .i64 spread] 3))
  have b3 := (Box.new w [.int .i64 off] 145 w.heap.size rfl).keep (Gr.al _ (.cells #[.int .i64 spread] 3))
  have b5 := Box.new (w.alloc (.cells #[.int .i64 off] 145)) [.int .i64 spread] 3 (w.heap.size + 1) (by simp)
  have HBB := Lib.hid hB
  clear hB
  go_enter Try.func80, Try.ntmps80
  go_wp2
  obtain ⟨w3, hw3⟩ : ∃ w3, w3 = (w.alloc (.cells #[.int .i64 off] 145)).alloc (.cells #[.int .i64 spread] 3) := ⟨_, rfl⟩
  rw [← hw3] at gg b3 b5 ⊢
  clear hw3
  go_loopw [14, 7] (fun t v wr => Hid (∃ (k : Nat) (b : Option Addr) (c : Nat), k ≤ l.length ∧ t = .int .i64 k ∧ v = .slice b (intsN (oddTo off spread l k)).length c ∧ Gr w3 wr ∧ IRow wr b (intsN (oddTo off spread l k)))) (fun t _ _ => l.length - (intOf t).toNat)
  case atStart => exact Lib.hid ⟨0, none, 0, Nat.zero_le _, rfl, rfl, Below.refl _ _, RowOf.nil⟩
  case round =>
    obtain ⟨k, b, c, hk, rfl, rfl, gW, hrow⟩ := hrel.out
    clear hrel
    obtain ⟨B, hB⟩ : ∃ B, oddTo off spread l k = B := ⟨_, rfl⟩
    rw [hB] at hrow ⊢
    by_cases hlt : k < l.length
    · obtain ⟨x, hx, hgd, hmem⟩ := getD_in hlt
      obtain ⟨x0, x1⟩ := HBB.out x hmem
      have hrw := hl.grow (gg.tr gW)
      obtain ⟨bl, ol, rfl, h1l, cc⟩ := IRow.get hrw hx
      have q3 := (b3.keep gW).c1
      obtain ⟨C, hC⟩ : ∃ C, leftL off spread l k = C := ⟨_, rfl⟩
      have hS : oddTo off spread l (k + 1) = if k = 0 ∨ C.length < B.length ∨ (C.length = B.length ∧ compL (intsN C) (intsN B) < 0) then C else B := by rw [oddTo, hB, hC]
      obtain ⟨fr, hfr⟩ : ∃ fr, min 100000 (x + off) = fr := ⟨_, rfl⟩
      obtain ⟨lo, hlo⟩ : ∃ lo, max 0 (x - off) = lo := ⟨_, rfl⟩
      have hT : ∀ V, Calls Try.prog 114 #[.agg #[.int .i64 off], .int .i64 x] V fun e w' => e = .returned (.agg #[.int .i64 lo, .int .i64 fr]) ∧ Gr V w' := fun V => by
        have := truth_any off x o0 o1 x0 x1 V
        rw [hlo, hfr] at this
        exact this
      have hC' : exceptTo (inWin off spread fr) l l.length = C := by rw [← hC]; unfold leftL; rw [hgd, hfr]
      have hEX : ∀ (D : Nat) (V : World), Gr w3 V → Box V D [.int .i64 fr] → Calls Try.prog 115 #[.slice (some ⟨bl, ol, none⟩) l.length cap, .func (.func 116) #[] #[.pointer (some ⟨w.heap.size, 0, none⟩), .pointer (some ⟨D, 0, none⟩), .pointer (some ⟨w.heap.size + 1, 0, none⟩)]] V fun e w' => ∃ b d, e = .returned (.slice b (intsN C).length d) ∧ IRow w' b (intsN C) ∧ Gr V w' := fun D V g hD => by
        have := except_any (inWin off spread fr) l hlen 116 (.pointer (some ⟨w.heap.size, 0, none⟩)) (.pointer (some ⟨D, 0, none⟩)) (.pointer (some ⟨w.heap.size + 1, 0, none⟩)) (some ⟨bl, ol, none⟩) cap V (hl.grow (gg.tr g)) callOdd (fun r W hW hr => oddClosure off spread fr r o0 o1 s0 s1 (by omega) (by omega) (HBB.out r hr).1 (HBB.out r hr).2 _ _ _ W ((b3.keep g).keep hW) (hD.keep hW) ((b5.keep g).keep hW))
        rw [hC'] at this
        exact this
      have hfi := fieldSp1
      have HT := Lib.hid hT
      have HEX := Lib.hid hEX
      have lB := intsN_len B
      have lC := intsN_len C
      rw [← lB, ← lC] at hS
      obtain ⟨nb, hnb⟩ : ∃ nb, (intsN B).length = nb := ⟨_, rfl⟩
      obtain ⟨nc, hnc⟩ : ∃ nc, (intsN C).length = nc := ⟨_, rfl⟩
      rw [hnb, hnc] at hS
      obtain ⟨z, hz⟩ : ∃ z, compL (intsN C) (intsN B) = z := ⟨_, rfl⟩
      rw [hz] at hS
      have hcmp : ∀ W' a5 c5, IRow W' a5 (intsN C) → IRow W' b (intsN B) → Calls Try.prog 117 #[.slice a5 nc c5, .slice b nb c] W' fun e w' => e = .returned (.int .i64 z) ∧ Gr W' w' := fun W' a5 c5 r1 r2 => by
        have := compare_any (intsN C) (intsN B) a5 b c5 c W' r1 r2
        rw [hnc, hnb, hz] at this
        exact this
      have HCMP := Lib.hid hcmp
      clear lB lC hB hC hC' hT hEX hfr hlo hcmp hz hx hgd hmem hrw
      have HNB := Lib.hid hnb
      have HNC := Lib.hid hnc
      rw [hnb]
      clear hnb hnc
      by_cases h0 : k = 0
      · rw [if_pos (.inl h0)] at hS
        have HS := Lib.hid hS
        have e0 : ((k : Int) == 0) = true := by rw [beq_iff_eq]; omega
        clear hS h0
        go_wp2_with (first
          | (go_at_call 114; refine (HT.out _).mono ?_; rintro e w4 ⟨rfl, g4⟩; (have o10 := Box.new w4 [.int .i64 fr] 3 w4.heap.size rfl); have gA := gW.tr (g4.tr (Gr.al w4 (.cells #[.int .i64 fr] 3))))
          | (go_at_call 115; refine (HEX.out w4.heap.size _ gA o10).mono ?_; rintro e w5 ⟨a5, c5, rfl, r5, g5⟩; rw [HNC.out])
          | (go_at_call 117; refine (HCMP.out _ _ _ r5 (hrow.grow (g4.tr ((Gr.al _ _).tr g5)))).mono ?_; rintro e w6 ⟨rfl, g6⟩))
        go_roundw
        case rel => exact Lib.hid ⟨k + 1, a5, c5, by omega, by go_num, by rw [HS.out, HNC.out], gA.tr g5, by rw [HS.out]; exact r5⟩
        case measure => simp [intOf]; omega
      · have e0 : ((k : Int) == 0) = false := by rw [beq_eq_false_iff_ne]; omega
        by_cases h1 : nc < nb
        · rw [if_pos (.inr (.inl h1))] at hS
          have HS := Lib.hid hS
          clear hS
          go_wp2_with (first
            | (go_at_call 114; refine (HT.out _).mono ?_; rintro e w4 ⟨rfl, g4⟩; (have o10 := Box.new w4 [.int .i64 fr] 3 w4.heap.size rfl); have gA := gW.tr (g4.tr (Gr.al w4 (.cells #[.int .i64 fr] 3))))
            | (go_at_call 115; refine (HEX.out w4.heap.size _ gA o10).mono ?_; rintro e w5 ⟨a5, c5, rfl, r5, g5⟩; rw [HNC.out])
            | (go_at_call 117; refine (HCMP.out _ _ _ r5 (hrow.grow (g4.tr ((Gr.al _ _).tr g5)))).mono ?_; rintro e w6 ⟨rfl, g6⟩))
          go_roundw
          case rel => exact Lib.hid ⟨k + 1, a5, c5, by omega, by go_num, by rw [HS.out, HNC.out], gA.tr g5, by rw [HS.out]; exact r5⟩
          case measure => simp [intOf]; omega
        · have h1' : ¬ (nc : Int) < (nb : Int) := by omega
          by_cases h2 : nc = nb
          · have h3 : ((nc : Int) == (nb : Int)) = true := by rw [beq_iff_eq]; omega
            by_cases h4 : z < 0
            · rw [if_pos (.inr (.inr ⟨h2, h4⟩))] at hS
              have HS := Lib.hid hS
              clear hS h2
              go_wp2_with (first
                | (go_at_call 114; refine (HT.out _).mono ?_; rintro e w4 ⟨rfl, g4⟩; (have o10 := Box.new w4 [.int .i64 fr] 3 w4.heap.size rfl); have gA := gW.tr (g4.tr (Gr.al w4 (.cells #[.int .i64 fr] 3))))
                | (go_at_call 115; refine (HEX.out w4.heap.size _ gA o10).mono ?_; rintro e w5 ⟨a5, c5, rfl, r5, g5⟩; rw [HNC.out])
                | (go_at_call 117; refine (HCMP.out _ _ _ r5 (hrow.grow (g4.tr ((Gr.al _ _).tr g5)))).mono ?_; rintro e w6 ⟨rfl, g6⟩))
              go_roundw
              case rel => exact Lib.hid ⟨k + 1, a5, c5, by omega, by go_num, by rw [HS.out, HNC.out], gA.tr (g5.tr g6), by rw [HS.out]; exact r5.grow g6⟩
              case measure => simp [intOf]; omega
            · rw [if_neg (by omega)] at hS
              have HS := Lib.hid hS
              clear hS h2
              go_wp2_with (first
                | (go_at_call 114; refine (HT.out _).mono ?_; rintro e w4 ⟨rfl, g4⟩; (have o10 := Box.new w4 [.int .i64 fr] 3 w4.heap.size rfl); have gA := gW.tr (g4.tr (Gr.al w4 (.cells #[.int .i64 fr] 3))))
                | (go_at_call 115; refine (HEX.out w4.heap.size _ gA o10).mono ?_; rintro e w5 ⟨a5, c5, rfl, r5, g5⟩; rw [HNC.out])
                | (go_at_call 117; refine (HCMP.out _ _ _ r5 (hrow.grow (g4.tr ((Gr.al _ _).tr g5)))).mono ?_; rintro e w6 ⟨rfl, g6⟩))
              go_roundw
              case rel => exact Lib.hid ⟨k + 1, b, c, by omega, by go_num, by rw [HS.out, HNB.out], gA.tr (g5.tr g6), by rw [HS.out]; exact hrow.grow (g4.tr ((Gr.al _ _).tr (g5.tr g6)))⟩
              case measure => simp [intOf]; omega
          · have h3 : ((nc : Int) == (nb : Int)) = false := by rw [beq_eq_false_iff_ne]; omega
            rw [if_neg (by omega)] at hS
            have HS := Lib.hid hS
            clear hS
            go_wp2_with (first
              | (go_at_call 114; refine (HT.out _).mono ?_; rintro e w4 ⟨rfl, g4⟩; (have o10 := Box.new w4 [.int .i64 fr] 3 w4.heap.size rfl); have gA := gW.tr (g4.tr (Gr.al w4 (.cells #[.int .i64 fr] 3))))
              | (go_at_call 115; refine (HEX.out w4.heap.size _ gA o10).mono ?_; rintro e w5 ⟨a5, c5, rfl, r5, g5⟩; rw [HNC.out])
              | (go_at_call 117; refine (HCMP.out _ _ _ r5 (hrow.grow (g4.tr ((Gr.al _ _).tr g5)))).mono ?_; rintro e w6 ⟨rfl, g6⟩))
            go_roundw
            case rel => exact Lib.hid ⟨k + 1, b, c, by omega, by go_num, by rw [HS.out, HNB.out], gA.tr g5, by rw [HS.out]; exact hrow.grow (g4.tr ((Gr.al _ _).tr g5))⟩
            case measure => simp [intOf]; omega
    · obtain rfl : k = l.length := by omega
      have HB := Lib.hid hB
      clear hB
      go_wp2
      go_ret
      exact ⟨b, c, by rw [HB.out]; rfl, by rw [HB.out]; exact hrow, gg.tr gW⟩

/-- Odd of what is valid. -/
theorem oddF_ok (off spread : Int) (l : List Int) (h20 : l.length ≤ 20) (ho : inB 0 1000 [off] = true) (hs : inB 0 100000 [spread] = true) (hl : inB 0 100000 l = true) (a : Option Addr) (cap : Nat) (w : World) (hr : IRow w a l) :
    Calls Try.prog 29 #[.slice a l.length cap, .int .i64 off, .int .i64 spread] w fun e w' => ∃ b d, e = .returned (.tuple #[.slice b (intsN (oddTo off spread l l.length)).length d, .int .i64 0]) ∧ IRow w' b (intsN (oddTo off spread l l.length)) ∧ Gr w w' := by
  have hoo : 0 ≤ off ∧ off ≤ 1000 := by simpa [inB, in1] using ho
  have hss : 0 ≤ spread ∧ spread ≤ 100000 := by simpa [inB, in1] using hs
  have hll : ∀ r ∈ l, 0 ≤ r ∧ r ≤ 100000 := fun r hr => by
    have := List.all_eq_true.1 hl r hr
    simpa [in1] using this
  obtain ⟨R, hR⟩ : ∃ R, oddTo off spread l l.length = R := ⟨_, rfl⟩
  rw [hR]
  have hO : ∀ W, IRow W a l → Calls Try.prog 80 #[.agg #[.int .i64 off], .slice a l.length cap, .int .i64 spread] W fun e w' => ∃ b d, e = .returned (.slice b (intsN R).length d) ∧ IRow w' b (intsN R) ∧ Gr W w' := fun W h => by
    have := odd_any off spread hoo.1 hoo.2 hss.1 hss.2 l (by omega) hll a cap W h
    rw [hR] at this
    exact this
  have HO := Lib.hid hO
  have HL := Lib.hid hl
  have HS := Lib.hid hs
  have HOF := Lib.hid ho
  have d1 : decide (20 < (l.length : Int)) = false := by simp; omega
  have d2 : ¬ (20 : Int) < (l.length : Int) := by omega
  clear hR hO hl hs ho hll hss hoo
  go_enter Try.func29, Try.ntmps29
  go_wp2_with (first
    | (go_at_call 73; refine (goodOff_any off true HOF.out _).mono ?_; rintro e w1 ⟨rfl, g1⟩)
    | (go_at_call 79; refine (within_any 0 100000 [spread] _ HS.out _ _ _ (IRow.new' _ 3 [spread] (by simp) _ (by simp) _ (by simp))).mono ?_; rintro e w3 ⟨rfl, hg⟩; have h3 := g1.tr (Gr.tr (Gr.al _ _) hg))
    | (go_at_call 74; refine (goodReadings_any l true HL.out a cap _ (hr.grow h3)).mono ?_; rintro e w4 ⟨rfl, g4⟩)
    | (go_at_call 80; refine (HO.out _ (hr.grow (h3.tr g4))).mono ?_; rintro e w5 ⟨b, d, rfl, r5, g5⟩))
  go_ret2
  exact ⟨b, d, rfl, r5, (h3.tr g4).tr g5⟩

end Go.Proofs.Ytcdilmagcdbogaa

namespace Go.Proofs.Ytcdilmagcdbogaa
set_option linter.unusedVariables false
set_option linter.unusedSimpArgs false
open Go.RowKit

/-- The shorter list is smaller, then number by number. -/
def lexI : List Int → List Int → Bool
  | x :: a, y :: b => if x = y then lexI a b else decide (x < y)
  | _, _ => false

def lessI (a b : List Int) : Bool := if a.length = b.length then lexI a b else decide (a.length < b.length)

theorem lexI_self : ∀ a : List Int, lexI a a = false
  | [] => rfl
  | x :: a => by
    unfold lexI
    rw [if_pos rfl]
    exact lexI_self a

theorem lexI_at : ∀ (a b : List Int) (k : Nat) (x y : Int), a.take k = b.take k → a[k]? = some x → b[k]? = some y → x ≠ y → lexI a b = decide (x < y)
  | [], b, k, x, y, _, h, _, _ => by simp at h
  | u :: a, [], k, x, y, _, _, h, _ => by simp at h
  | u :: a, v :: b, 0, x, y, _, h1, h2, h3 => by
    simp at h1 h2
    subst h1
    subst h2
    unfold lexI
    rw [if_neg h3]
  | u :: a, v :: b, k + 1, x, y, h0, h1, h2, h3 => by
    simp only [List.take_succ_cons, List.cons.injEq] at h0
    unfold lexI
    rw [if_pos h0.1]
    exact lexI_at a b k x y h0.2 (by simpa using h1) (by simpa using h2) h3

theorem lexI_trans : ∀ (a b c : List Int), a.length = b.length → b.length = c.length → lexI a b = true → lexI b c = true → lexI a c = true
  | [], b, c, _, _, h, _ => by cases b <;> simp [lexI] at h
  | x :: a, [], c, h, _, _, _ => by simp at h
  | x :: a, y :: b, [], _, h, _, _ => by simp at h
  | x :: a, y :: b, z :: c, h1, h2, h3, h4 => by
    simp only [lexI] at h3 h4 ⊢
    simp only [List.length_cons, Nat.add_right_cancel_iff] at h1 h2
    by_cases e1 : x = y
    · rw [if_pos e1] at h3
      subst e1
      by_cases e2 : x = z
      · rw [if_pos e2] at h4 ⊢
        exact lexI_trans a b c h1 h2 h3 h4
      · rw [if_neg e2] at h4 ⊢
        exact h4
    · rw [if_neg e1] at h3
      simp only [decide_eq_true_eq] at h3
      by_cases e2 : y = z
      · subst e2
        rw [if_neg e1]
        simpa using h3
      · rw [if_neg e2] at h4
        simp only [decide_eq_true_eq] at h4
        rw [if_neg (by omega)]
        simp
        omega

theorem lexI_tri : ∀ (a b : List Int), a.length = b.length → lexI a b = false → lexI b a = false → a = b
  | [], b, h, _, _ => by cases b with
    | nil => rfl
    | cons y b => simp at h
  | x :: a, [], h, _, _ => by simp at h
  | x :: a, y :: b, h, h1, h2 => by
    simp only [lexI] at h1 h2
    simp only [List.length_cons, Nat.add_right_cancel_iff] at h
    by_cases e : x = y
    · subst e
      rw [if_pos rfl] at h1 h2
      rw [lexI_tri a b h h1 h2]
    · rw [if_neg e] at h1
      rw [if_neg (fun e' => e e'.symm)] at h2
      simp only [decide_eq_false_iff_not] at h1 h2
      omega

theorem lessI_trans {a b c : List Int} (h1 : lessI a b = true) (h2 : lessI b c = true) : lessI a c = true := by
  unfold lessI at h1 h2 ⊢
  by_cases e1 : a.length = b.length
  · rw [if_pos e1] at h1
    by_cases e2 : b.length = c.length
    · rw [if_pos e2] at h2
      rw [if_pos (e1.trans e2)]
      exact lexI_trans a b c e1 e2 h1 h2
    · rw [if_neg e2] at h2
      rw [if_neg (by omega), e1]
      exact h2
  · rw [if_neg e1] at h1
    simp only [decide_eq_true_eq] at h1
    by_cases e2 : b.length = c.length
    · rw [if_neg (by omega)]
      simp
      omega
    · rw [if_neg e2] at h2
      simp only [decide_eq_true_eq] at h2
      rw [if_neg (by omega)]
      simp
      omega

theorem lessI_tri {a b : List Int} (h1 : lessI a b = false) (h2 : lessI b a = false) : a = b := by
  unfold lessI at h1 h2
  by_cases e : a.length = b.length
  · rw [if_pos e] at h1
    rw [if_pos e.symm] at h2
    exact lexI_tri a b e h1 h2
  · rw [if_neg e] at h1
    rw [if_neg (fun e' => e e'.symm)] at h2
    simp only [decide_eq_false_iff_not] at h1 h2
    omega

theorem comp_lex : ∀ (a b : List Int), a.length = b.length → (compL a b < 0 ↔ lexI a b = true)
  | [], [], _ => by simp [compL, lexI]
  | [], y :: b, h => by simp at h
  | x :: a, [], h => by simp at h
  | x :: a, y :: b, h => by
    have ih := comp_lex a b (by simpa using h)
    unfold compL lexI
    by_cases e : x = y
    · subst e
      rw [if_pos (by simp [Lib.compareInt]), if_pos rfl]
      exact ih
    · rcases Int.lt_or_gt_of_ne e with e2 | e2
      · have hc : Lib.compareInt x y = -1 := by unfold Lib.compareInt; rw [if_pos e2]
        rw [hc, if_neg (by decide), if_neg e]
        simp [e2]
      · have hc : Lib.compareInt x y = 1 := by unfold Lib.compareInt; rw [if_neg (by omega), if_pos e2]
        rw [hc, if_neg (by decide), if_neg e]
        have : ¬ x < y := by omega
        simp [this]

/-- What can be true of a reading. -/
def loO (off r : Int) : Int := max 0 (r - off)

def hiO (off r : Int) : Int := min 100000 (r + off)

def closeB (off spread : Int) (R : List Int) : Bool := R.all (fun x => R.all (fun y => decide (loO off x - hiO off y ≤ spread)))

theorem close_iff {off spread : Int} {R : List Int} : closeB off spread R = true ↔ ∀ x ∈ R, ∀ y ∈ R, loO off x - hiO off y ≤ spread := by
  unfold closeB
  simp only [List.all_eq_true, decide_eq_true_eq]

/-- The readings that are left out by a set, and the others. -/
def outQ (n : Nat) (q : Nat → Bool) : List Nat := (List.range n).filter q

def restQ (l : List Int) (q : Nat → Bool) : List Int := ((List.range l.length).filter (fun i => !q i)).map (fun i => l.getD i 0)

def winB (off spread : Int) (l : List Int) (j i : Nat) : Bool := !inWin off spread (hiO off (l.getD j 0)) (l.getD i 0)

theorem left_out (off spread : Int) (l : List Int) (j : Nat) : leftL off spread l j = outQ l.length (winB off spread l j) := rfl

theorem win_iff {off spread : Int} {l : List Int} {j i : Nat} : winB off spread l j i = false ↔ hiO off (l.getD j 0) ≤ hiO off (l.getD i 0) ∧ loO off (l.getD i 0) ≤ hiO off (l.getD j 0) + spread := by
  unfold winB inWin
  simp only [Bool.not_eq_false', Bool.and_eq_true, decide_eq_true_eq]
  exact Iff.rfl

theorem rest_mem {l : List Int} {q : Nat → Bool} {x : Int} : x ∈ restQ l q ↔ ∃ i, i < l.length ∧ q i = false ∧ l.getD i 0 = x := by
  unfold restQ
  simp only [List.mem_map, List.mem_filter, List.mem_range, Bool.not_eq_true']
  constructor
  · rintro ⟨i, ⟨h1, h2⟩, h3⟩
    exact ⟨i, h1, h2, h3⟩
  · rintro ⟨i, h1, h2, h3⟩
    exact ⟨i, ⟨h1, h2⟩, h3⟩

/-- Without what a window leaves out the others are close. -/
theorem win_close (off spread : Int) (l : List Int) (j : Nat) : closeB off spread (restQ l (winB off spread l j)) = true := by
  rw [close_iff]
  intro x hx y hy
  obtain ⟨i, hi, h1, rfl⟩ := rest_mem.1 hx
  obtain ⟨k, hk, h2, rfl⟩ := rest_mem.1 hy
  have a := win_iff.1 h1
  have b := win_iff.1 h2
  omega

theorem filter_le {p q : Nat → Bool} : ∀ (L : List Nat), (∀ i ∈ L, p i = true → q i = true) → (L.filter p).length ≤ (L.filter q).length
  | [], _ => Nat.le_refl _
  | x :: L, h => by
    have ih := filter_le L (fun i hi => h i (List.mem_cons_of_mem _ hi))
    cases hp : p x with
    | true =>
      rw [List.filter_cons, List.filter_cons, if_pos hp, if_pos (h x List.mem_cons_self hp)]
      simp only [List.length_cons]
      omega
    | false =>
      rw [List.filter_cons, if_neg (by rw [hp]; decide), List.filter_cons]
      split
      · simp only [List.length_cons]
        omega
      · exact ih

theorem filter_eq {p q : Nat → Bool} : ∀ L : List Nat, (∀ i ∈ L, p i = true → q i = true) → (L.filter p).length = (L.filter q).length → L.filter p = L.filter q
  | [], _, _ => rfl
  | x :: L, h, he => by
    have h' : ∀ i ∈ L, p i = true → q i = true := fun i hi => h i (List.mem_cons_of_mem _ hi)
    have hle : (L.filter p).length ≤ (L.filter q).length := filter_le L h'
    cases hp : p x with
    | true =>
      have hq := h x List.mem_cons_self hp
      rw [List.filter_cons, List.filter_cons, if_pos hp, if_pos hq] at *
      rw [filter_eq L h' (by simpa using he)]
    | false =>
      cases hq : q x with
      | true =>
        rw [List.filter_cons, List.filter_cons, if_neg (by rw [hp]; decide), if_pos hq] at he
        simp at he
        omega
      | false =>
        rw [List.filter_cons, List.filter_cons, if_neg (by rw [hp]; decide), if_neg (by rw [hq]; decide)] at *
        exact filter_eq L h' he

/-- A least one of some. -/
theorem least_at (p : Nat → Bool) (v : Nat → Int) : ∀ n : Nat, (∃ j, j < n ∧ p j = true) → ∃ j, j < n ∧ p j = true ∧ ∀ i, i < n → p i = true → v j ≤ v i
  | 0, h => by obtain ⟨j, hj, _⟩ := h; omega
  | n + 1, h => by
    by_cases h' : ∃ j, j < n ∧ p j = true
    · obtain ⟨j, h1, h2, h3⟩ := least_at p v n h'
      by_cases e : p n = true ∧ v n < v j
      · refine ⟨n, by omega, e.1, fun i hi hpi => ?_⟩
        rcases Nat.lt_or_ge i n with h4 | h4
        · have := h3 i h4 hpi
          omega
        · obtain rfl : i = n := by omega
          omega
      · refine ⟨j, by omega, h2, fun i hi hpi => ?_⟩
        rcases Nat.lt_or_ge i n with h4 | h4
        · exact h3 i h4 hpi
        · obtain rfl : i = n := by omega
          have : ¬ v i < v j := fun e' => e ⟨hpi, e'⟩
          omega
    · obtain ⟨j, hj, hpj⟩ := h
      obtain rfl : j = n := by
        rcases Nat.lt_or_ge j n with h4 | h4
        · exact absurd ⟨j, h4, hpj⟩ h'
        · omega
      refine ⟨j, hj, hpj, fun i hi hpi => ?_⟩
      rcases Nat.lt_or_ge i j with h4 | h4
      · exact absurd ⟨i, h4, hpi⟩ h'
      · obtain rfl : i = j := by omega
        exact Int.le_refl _

/-- A set that leaves the others close leaves out all that some window does. -/
theorem close_win {off spread : Int} (o0 : 0 ≤ off) (s0 : 0 ≤ spread) {l : List Int} (hl : ∀ x ∈ l, 0 ≤ x ∧ x ≤ 100000) (hn : 0 < l.length) {q : Nat → Bool} (h : closeB off spread (restQ l q) = true) : ∃ j, j < l.length ∧ ∀ i ∈ List.range l.length, winB off spread l j i = true → q i = true := by
  have hb : ∀ i, i < l.length → 0 ≤ l.getD i 0 ∧ l.getD i 0 ≤ 100000 := fun i hi => by
    obtain ⟨x, _, e, hx⟩ := getD_in hi
    rw [e]
    exact hl x hx
  by_cases hc : ∃ j, j < l.length ∧ (!q j) = true
  · obtain ⟨j, h1, h2, h3⟩ := least_at (fun i => !q i) (fun i => hiO off (l.getD i 0)) l.length hc
    refine ⟨j, h1, fun i hi hw => ?_⟩
    have hi' := List.mem_range.1 hi
    cases hq : q i with
    | true => rfl
    | false =>
      have a := h3 i hi' (by simp [hq])
      have b := close_iff.1 h (l.getD i 0) (rest_mem.2 ⟨i, hi', hq, rfl⟩) (l.getD j 0) (rest_mem.2 ⟨j, h1, by simpa using h2, rfl⟩)
      have c : winB off spread l j i = false := win_iff.2 ⟨a, by omega⟩
      rw [c] at hw
      cases hw
  · refine ⟨0, hn, fun i hi hw => ?_⟩
    have hi' := List.mem_range.1 hi
    cases hq : q i with
    | true => rfl
    | false => exact absurd ⟨i, hi', by simp [hq]⟩ hc

theorem odd_all (off spread : Int) (l : List Int) : ∀ k j : Nat, j < k → lessI (intsN (leftL off spread l j)) (intsN (oddTo off spread l k)) = false
  | 0, j, h => by omega
  | k + 1, j, h => by
    have self : ∀ a : List Int, lessI a a = false := fun a => by unfold lessI; rw [if_pos rfl, lexI_self]
    have key : (k = 0 ∨ (leftL off spread l k).length < (oddTo off spread l k).length ∨ ((leftL off spread l k).length = (oddTo off spread l k).length ∧ compL (intsN (leftL off spread l k)) (intsN (oddTo off spread l k)) < 0)) ↔ (k = 0 ∨ lessI (intsN (leftL off spread l k)) (intsN (oddTo off spread l k)) = true) := by
      unfold lessI
      rw [intsN_len, intsN_len]
      by_cases e : (leftL off spread l k).length = (oddTo off spread l k).length
      · rw [if_pos e]
        have := comp_lex (intsN (leftL off spread l k)) (intsN (oddTo off spread l k)) (by rw [intsN_len, intsN_len]; exact e)
        constructor
        · rintro (h1 | h1 | h1)
          · exact .inl h1
          · omega
          · exact .inr (this.1 h1.2)
        · rintro (h1 | h1)
          · exact .inl h1
          · exact .inr (.inr ⟨e, this.2 h1⟩)
      · rw [if_neg e]
        simp only [decide_eq_true_eq]
        constructor
        · rintro (h1 | h1 | h1)
          · exact .inl h1
          · exact .inr h1
          · omega
        · rintro (h1 | h1)
          · exact .inl h1
          · exact .inr (.inl h1)
    unfold oddTo
    by_cases c : (k = 0 ∨ (leftL off spread l k).length < (oddTo off spread l k).length ∨ ((leftL off spread l k).length = (oddTo off spread l k).length ∧ compL (intsN (leftL off spread l k)) (intsN (oddTo off spread l k)) < 0))
    · rw [if_pos c]
      rcases Nat.lt_or_ge j k with e | e
      · rcases key.1 c with h0 | h0
        · omega
        · cases hl : lessI (intsN (leftL off spread l j)) (intsN (leftL off spread l k)) with
          | false => rfl
          | true =>
            have := lessI_trans hl h0
            rw [odd_all off spread l k j e] at this
            cases this
      · obtain rfl : j = k := by omega
        exact self _
    · rw [if_neg c]
      rcases Nat.lt_or_ge j k with e | e
      · exact odd_all off spread l k j e
      · obtain rfl : j = k := by omega
        cases hl : lessI (intsN (leftL off spread l j)) (intsN (oddTo off spread l j)) with
        | false => rfl
        | true => exact absurd (key.2 (.inr hl)) c

theorem odd_is (off spread : Int) (l : List Int) : ∀ k : Nat, 0 < k → ∃ j, j < k ∧ oddTo off spread l k = leftL off spread l j
  | 0, h => by omega
  | k + 1, _ => by
    unfold oddTo
    split
    · exact ⟨k, by omega, rfl⟩
    · rename_i h
      obtain ⟨j, h1, h2⟩ := odd_is off spread l k (by omega)
      exact ⟨j, by omega, h2⟩

/-- No set that leaves the others close is smaller than Odd's. -/
theorem odd_least {off spread : Int} (o0 : 0 ≤ off) (s0 : 0 ≤ spread) {l : List Int} (hl : ∀ x ∈ l, 0 ≤ x ∧ x ≤ 100000) (hn : 0 < l.length) {q : Nat → Bool} (h : closeB off spread (restQ l q) = true) : lessI (intsN (outQ l.length q)) (intsN (oddTo off spread l l.length)) = false := by
  obtain ⟨j, hj, hs⟩ := close_win o0 s0 hl hn h
  have h1 := odd_all off spread l l.length j hj
  rw [left_out] at h1
  have hle := filter_le (p := winB off spread l j) (q := q) (List.range l.length) hs
  cases hc : lessI (intsN (outQ l.length q)) (intsN (oddTo off spread l l.length)) with
  | false => rfl
  | true =>
    by_cases e : (outQ l.length (winB off spread l j)).length = (outQ l.length q).length
    · have := filter_eq (List.range l.length) hs e
      unfold outQ at h1 hc
      rw [this, hc] at h1
      cases h1
    · have h2 : lessI (intsN (outQ l.length (winB off spread l j))) (intsN (outQ l.length q)) = true := by
        unfold lessI
        rw [intsN_len, intsN_len, if_neg e]
        simp only [decide_eq_true_eq]
        unfold outQ at e ⊢
        omega
      have := lessI_trans h2 hc
      rw [h1] at this
      cases this

end Go.Proofs.Ytcdilmagcdbogaa

namespace Go.Proofs.Ytcdilmagcdbogaa
set_option linter.unusedVariables false
set_option linter.unusedSimpArgs false
open Go.RowKit

/-- What is known of a lot: 1 it passes, 2 it fails, 3 it is open. -/
def stateL (te me low ba : Int) (l : List (Int × Int)) : Int := if passB false te me low ba l = true then 1 else if passB true te me low ba l = true then 3 else 2

set_option maxRecDepth 100000 in
set_option maxHeartbeats 4000000 in
theorem state_any (te : Nat) (me low ba off : Int) (rl ml : List Int) (ra ma : Option Addr) (rc mc : Nat) (t1 : te ≤ 1000) (m0 : 0 ≤ me) (m1 : me ≤ 100000) (o0 : 0 ≤ off) (o1 : off ≤ 1000) (a0 : 0 ≤ ba) (a1 : ba ≤ 1000) (hB : ∀ r ∈ rl ++ ml, 0 ≤ r ∧ r ≤ 100000) (hl : (rl ++ ml).length ≤ 100000) (w : World) (hr : IRow w ra rl) (hrn : ra = none → rc = 0) (hm : IRow w ma ml) (hmn : ma = none → mc = 0) :
    Calls Try.prog 75 #[.agg #[.int .i64 (te : Int), .int .i64 me, .int .i64 low, .int .i64 ba, .int .i64 off, .slice ra rl.length rc], .slice ma ml.length mc] w fun e w' => e = .returned (.int .i64 (stateL (te : Int) me low ba (truthsL te off (rl ++ ml)))) ∧ Gr w w' := by
  have gU := Gr.al w (.cells #[.int .i64 (te : Int), .int .i64 me, .int .i64 low, .int .i64 ba, .int .i64 off, .slice ra rl.length rc] 147)
  have oU := Own.new w [.int .i64 (te : Int), .int .i64 me, .int .i64 low, .int .i64 ba, .int .i64 off, .slice ra rl.length rc] 147 w.heap.size rfl
  obtain ⟨p1, h1⟩ : ∃ p1, passB false (te : Int) me low ba (truthsL te off (rl ++ ml)) = p1 := ⟨_, rfl⟩
  obtain ⟨p2, h2⟩ : ∃ p2, passB true (te : Int) me low ba (truthsL te off (rl ++ ml)) = p2 := ⟨_, rfl⟩
  have e : stateL (te : Int) me low ba (truthsL te off (rl ++ ml)) = if p1 = true then 1 else if p2 = true then 3 else 2 := by unfold stateL; rw [h1, h2]
  rw [e]
  have P1 : ∀ W, Gr w W → Calls Try.prog 110 #[.agg #[.int .i64 (te : Int), .int .i64 me, .int .i64 low, .int .i64 ba, .int .i64 off, .slice ra rl.length rc], .func (.func 111) #[] #[], .slice ma ml.length mc] W fun e w' => e = .returned (.bool p1) ∧ Gr W w' := fun W g => by
    have h := passes_lo te me low ba off rl ml ra ma rc mc t1 m0 m1 o0 o1 a0 a1 hB hl W (hr.grow g) hrn (hm.grow g) hmn
    rw [h1] at h
    exact h
  have P2 : ∀ W, Gr w W → Calls Try.prog 110 #[.agg #[.int .i64 (te : Int), .int .i64 me, .int .i64 low, .int .i64 ba, .int .i64 off, .slice ra rl.length rc], .func (.func 112) #[] #[], .slice ma ml.length mc] W fun e w' => e = .returned (.bool p2) ∧ Gr W w' := fun W g => by
    have h := passes_hi te me low ba off rl ml ra ma rc mc t1 m0 m1 o0 o1 a0 a1 hB hl W (hr.grow g) hrn (hm.grow g) hmn
    rw [h2] at h
    exact h
  have HP1 := Lib.hid P1
  have HP2 := Lib.hid P2
  have q0 := oU.1.2 0 _ rfl
  have q1 := oU.1.2 1 _ rfl
  have q2 := oU.1.2 2 _ rfl
  have q3 := oU.1.2 3 _ rfl
  have q4 := oU.1.2 4 _ rfl
  have q5 := oU.1.2 5 _ rfl
  have OU := Lib.hid oU
  have GU := Lib.hid gU
  clear P1 P2 e h1 h2 oU gU
  cases p1 with
  | true =>
    go_enter Try.func75, Try.ntmps75
    go_wp2_with (go_at_call 110; refine (HP1.out _ GU.out).mono ?_; rintro e w1 ⟨rfl, g1⟩)
    go_ret
    exact ⟨rfl, GU.out.tr g1⟩
  | false =>
    go_enter Try.func75, Try.ntmps75
    go_wp2_with fail
    refine (HP1.out _ GU.out).mono ?_
    rintro e w1 ⟨rfl, g1⟩
    clear q0 q1 q2 q3 q4 q5
    have o1' := OU.out.keep g1
    have q0 := o1'.1.2 0 _ rfl
    have q1 := o1'.1.2 1 _ rfl
    have q2 := o1'.1.2 2 _ rfl
    have q3 := o1'.1.2 3 _ rfl
    have q4 := o1'.1.2 4 _ rfl
    have q5 := o1'.1.2 5 _ rfl
    have G1 := Lib.hid (GU.out.tr g1)
    clear o1' g1
    go_wp2_with fail
    refine (HP2.out _ G1.out).mono ?_
    rintro e w2 ⟨rfl, g2⟩
    have G2 := Lib.hid (G1.out.tr g2)
    clear g2 q0 q1 q2 q3 q4 q5
    cases p2
    all_goals
      go_wp2
      go_ret
      exact ⟨rfl, G2.out⟩

theorem rule_parts {te me lo ba off : Int} {l : List Int} (h : ruleL te me lo ba off l = 0) : (1 ≤ te ∧ te ≤ 20) ∧ (0 ≤ me ∧ me ≤ 100000) ∧ (0 ≤ ba ∧ ba ≤ te) ∧ (0 ≤ off ∧ off ≤ 1000) ∧ (l.length : Int) ≤ te ∧ ∀ r ∈ l, 0 ≤ r ∧ r ≤ 100000 := by
  unfold ruleL at h
  split at h
  · omega
  rename_i h1
  split at h
  · omega
  rename_i h2
  split at h
  · omega
  rename_i h3
  split at h
  · omega
  rename_i h4
  simp only [Bool.not_eq_false] at h1 h2 h4
  simp only [ruleOk, inB, in1, List.all_cons, List.all_nil, Bool.and_true, Bool.and_eq_true, decide_eq_true_eq] at h1 h2
  refine ⟨by omega, by omega, by omega, by omega, by omega, fun r hr => ?_⟩
  simp only [inB, in1, List.all_eq_true, Bool.and_eq_true, decide_eq_true_eq] at h4
  have := h4 r hr
  omega

set_option maxRecDepth 100000 in
set_option maxHeartbeats 2000000 in
theorem decide_ok (te me lo ba off : Int) (l : List Int) (h : ruleL te me lo ba off l = 0) (a : Option Addr) (cap : Nat) (w : World) (hr : IRow w a l) (hn : a = none → cap = 0) :
    Calls Try.prog 21 #[.agg #[.int .i64 te, .int .i64 me, .int .i64 lo, .int .i64 ba], .slice a l.length cap, .int .i64 off] w fun e w' => e = .returned (.tuple #[.int .i64 (stateL te me lo ba (truthsL te.toNat off l)), .int .i64 0]) ∧ Gr w w' := by
  obtain ⟨⟨x0, x1⟩, ⟨x2, x3⟩, ⟨x4, x5⟩, ⟨x6, x7⟩, x8, x9⟩ := rule_parts h
  obtain ⟨n, rfl⟩ : ∃ n : Nat, te = (n : Int) := ⟨te.toNat, by omega⟩
  rw [Int.toNat_natCast]
  have oU := Own.new w [.int .i64 (n : Int), .int .i64 me, .int .i64 lo, .int .i64 ba] 23 w.heap.size rfl
  have gU := Gr.al w (.cells #[.int .i64 (n : Int), .int .i64 me, .int .i64 lo, .int .i64 ba] 23)
  have hR : ∀ W, Gr w W → Calls Try.prog 20 #[.agg #[.int .i64 (n : Int), .int .i64 me, .int .i64 lo, .int .i64 ba], .slice a l.length cap, .int .i64 off] W fun e w' => e = .returned (.int .i64 0) ∧ Gr W w' := fun W g => by
    have := rule_any (n : Int) me lo ba off l a cap W (hr.grow g)
    rw [h] at this
    exact this
  have hS : ∀ W, Gr w W → Calls Try.prog 75 #[.agg #[.int .i64 (n : Int), .int .i64 me, .int .i64 lo, .int .i64 ba, .int .i64 off, .slice a l.length cap], .slice none 0 0] W fun e w' => e = .returned (.int .i64 (stateL (n : Int) me lo ba (truthsL n off l))) ∧ Gr W w' := fun W g => by
    have := state_any n me lo ba off l [] a none cap 0 (by omega) (by omega) (by omega) (by omega) (by omega) (by omega) (by omega) (by rw [List.append_nil]; exact x9) (by rw [List.append_nil]; omega) W (hr.grow g) hn RowOf.nil (fun _ => rfl)
    rw [List.append_nil] at this
    exact this
  have HR := Lib.hid hR
  have HS := Lib.hid hS
  obtain ⟨q0, q1, q2, q3⟩ := oU.1.c4'
  have OU := Lib.hid oU
  have GU := Lib.hid gU
  clear hR hS oU gU h
  go_enter Try.func21, Try.ntmps21
  go_wp2_with fail
  refine (HR.out _ GU.out).mono ?_
  rintro e w1 ⟨rfl, g1⟩
  obtain ⟨q0, q1, q2, q3⟩ := (OU.out.keep g1).1.c4'
  have G1 := Lib.hid (GU.out.tr g1)
  clear g1
  go_wp2_with fail
  refine (HS.out _ G1.out).mono ?_
  rintro e w2 ⟨rfl, g2⟩
  have G2 := Lib.hid (G1.out.tr g2)
  clear g2
  go_wp2
  go_ret2
  exact ⟨rfl, G2.out⟩

end Go.Proofs.Ytcdilmagcdbogaa
