/- armSpan. crush's weak: the lowest box that does not hold. slices.Repeat of one box. crush.High. (Made by gen_i7.py.) The contract of armCrush: the document's examples of chapter 3. -/
import Derived.Test.YtcdilmagcdbogaaQE10a
import Derived.Test.YtcdilmagcdbogaaShelf
import Derived.Laws.CopyRow
import Derived.Laws.CopyOwn
import Derived.Laws.MakeOwn
import Derived.Deep.WholeRow
namespace Go.Proofs.Ytcdilmagcdbogaa
set_option linter.unusedVariables false
set_option linter.unusedSimpArgs false
open Go.RowKit

theorem armSpan_any (a b : Int) (w : World) :
    Calls Try.prog 33 #[.int .i64 a, .int .i64 b] w fun e w' => e = .returned (.agg #[.int .i64 a, .int .i64 b]) ∧ Gr w w' := by
  go_enter Try.func33, Try.ntmps33
  go_wp2
  exact bodyPost_ret (v := .agg #[.int .i64 a, .int .i64 b]) (by simp [results, Try.results33, go_sem]) rfl ⟨rfl, Gr.al _ _⟩

end Go.Proofs.Ytcdilmagcdbogaa

namespace Go.Proofs.Ytcdilmagcdbogaa
set_option linter.unusedVariables false
set_option linter.unusedSimpArgs false
open Go.RowKit Go.Shelf
attribute [local go_sem] Oper.semAt_some

def markD (D : Nat) : Deferred := { target := .collected D, args := #[] }

theorem leaves_marks {F : Fence} {n : Nat} {P : Program} {fn : Func} {tmps : Array Value} {R : Ending → World → Prop} : ∀ (Ds : List Nat) (w : World), (∀ D ∈ Ds, w.heap[D]? = some (.deferred (some []))) → Ds.Nodup →
    (∀ w', Kx (fun b => b ∈ Ds) w w' → LeavesIn F n P fn tmps R [] .returning w') → LeavesInM F n P fn tmps R (Ds.map markD) .returning w
  | [], w, _, _, h => h w (Kx.refl _ _)
  | D :: Ds, w, hm, hn, h => by
    have hD := hm D (by simp)
    obtain ⟨hn1, hn2⟩ := List.nodup_cons.1 hn
    refine ⟨by simp, .inl ⟨D, _, rfl, run_takeDeferred hD, leaves_marks Ds _ (fun E hE => ?_) hn2 (fun w' hk => h w' ?_)⟩⟩
    · exact (World.putObj_heap_other (k := E) (r := D) (by rintro rfl; exact hn1 hE)).trans (hm E (by simp [hE]))
    · exact (Kx.put (Z := fun b => b ∈ D :: Ds) (by simp) _).th hk fun i e => .inl (by simp [e])

/-- Whether the box at a place bears less than lies on it. -/
def weakAt (l : List Ld) (keep : Int) (k : Nat) : Bool := match l[k]? with
  | some x => decide (x.sl * keep / 1000 < sumHi (l.drop (k + 1)))
  | none => false

def weakO (l : List Ld) (keep : Int) : Option Nat := (List.range l.length).find? (weakAt l keep)

def weakV (l : List Ld) (keep : Int) : Value := match weakO l keep with
  | none => .tuple #[.int .i64 0, .bool false]
  | some k => .tuple #[.int .i64 (k : Int), .bool true]

def LdOk (x : Ld) : Prop := LdB x ∧ 0 ≤ x.sl ∧ x.sl ≤ 20000000

theorem loads_any' (l : List Ld) (a : Option Addr) (cap : Nat) (w : World) :
    Calls Try.prog 87 #[.slice a l.length cap] w fun e w' => ∃ b, e = .returned (.func (.func 120) #[] #[.pointer (some ⟨b, 0, none⟩)]) ∧ w.heap.size ≤ b ∧ Own w' b [.slice a l.length cap] ∧ Gr w w' :=
  (loads_any l a cap w).mono fun _ _ h => ⟨w.heap.size, h.1, Nat.le_refl _, h.2.1, h.2.2⟩

theorem weakO_none {l : List Ld} {keep : Int} (h : ∀ k, k < l.length → weakAt l keep k = false) : weakO l keep = none := by
  unfold weakO
  rw [List.find?_range_eq_none]
  intro i tp
  simp [h i tp]

theorem weakO_some {l : List Ld} {keep : Int} {k : Nat} (hk : k < l.length) (h1 : weakAt l keep k = true) (h : ∀ j, j < k → weakAt l keep j = false) : weakO l keep = some k := by
  unfold weakO
  rw [List.find?_range_eq_some]
  exact ⟨h1, List.mem_range.2 hk, fun j hj => by simp [h j hj]⟩

theorem loadsL_at {l : List Ld} {k : Nat} (hk : k < l.length) : (loadsL l)[k]? = some (k, sumLo (l.drop (k + 1)), sumHi (l.drop (k + 1))) := by simp [loadsL, hk]

theorem loadsL_mem {l : List Ld} {x : Nat × Int × Int} (h : x ∈ loadsL l) : x.1 < l.length ∧ x = (x.1, sumLo (l.drop (x.1 + 1)), sumHi (l.drop (x.1 + 1))) := by
  obtain ⟨k, hk, rfl⟩ := List.mem_map.1 h
  exact ⟨List.mem_range.1 hk, rfl⟩

theorem first_weak {l : List Ld} {keep : Int} {m : Nat} {pre : List (Nat × Int × Int)} {x : Nat × Int × Int} (h : pre ++ [x] = (loadsL l).take m) (hp : ∀ y ∈ pre, weakAt l keep y.1 = false) (hx : weakAt l keep x.1 = true) :
    x.1 < l.length ∧ weakAt l keep x.1 = true ∧ ∀ j, j < x.1 → weakAt l keep j = false := by
  have hq : ((loadsL l).take m)[pre.length]? = some x := by rw [← h]; simp
  have hm : pre.length < m := by
    have := (List.getElem?_eq_some_iff.1 hq).1
    simp at this
    omega
  rw [List.getElem?_take_of_lt hm] at hq
  have hlen : pre.length < l.length := by
    have := (List.getElem?_eq_some_iff.1 hq).1
    simpa [loadsL] using this
  rw [loadsL_at hlen] at hq
  injection hq with hq
  have e : x.1 = pre.length := by rw [← hq]
  refine ⟨by omega, hx, fun j hj => ?_⟩
  have hj' : j < pre.length := by omega
  have h1 : (loadsL l)[j]? = some pre[j] := by
    have : ((loadsL l).take m)[j]? = some pre[j] := by rw [← h, List.getElem?_append_left hj']; simp
    rwa [List.getElem?_take_of_lt (by omega)] at this
  rw [loadsL_at (by omega)] at h1
  injection h1 with h1
  have h2 := hp pre[j] (List.getElem_mem hj')
  rw [← h1] at h2
  exact h2

/-- While weak looks: what the rounds have not turned; no box that has come is weak. -/
def InvW (l : List Ld) (keep : Int) (X0 : Nat → Prop) (w4 : World) (pre : List (Nat × Int × Int)) (X Y : Nat → Prop) (W : World) : Prop :=
  X = X0 ∧ (∀ i, Y i → w4.heap.size ≤ i) ∧ Gr w4 W ∧ ∀ y ∈ pre, weakAt l keep y.1 = false

theorem InvW.ab {l : List Ld} {keep : Int} {X0 : Nat → Prop} {w4 : World} (s : List (Nat × Int × Int)) (X : Nat → Prop) : Ab (InvW l keep X0 w4 s X) := by
  rintro Y Y' A B ⟨h1, h2, h3, h4⟩ hk hy
  have hs := h3.size
  refine ⟨h1, fun i e => ?_, Kx.toGr ((Kx.gr (Z := noBlock) h3).th hk fun i e => .inr (h2 i e)), h4⟩
  rcases hy i e with e | e
  · exact h2 i e
  · omega

theorem InvW.next {l : List Ld} {keep s t : Int} {X0 : Nat → Prop} {w4 : World} {pre : List (Nat × Int × Int)} {k : Nat} {lo tp : Int} {X Y : Nat → Prop} {W W' : World} (hE : weakAt l keep k = decide (s < t)) (hd : decide (s < t) = false)
    (h : InvW l keep X0 w4 pre X Y W) (g : Gr W W') : InvW l keep X0 w4 (pre ++ [(k, lo, tp)]) X Y W' := by
  obtain ⟨h1, h2, h3, h4⟩ := h
  refine ⟨h1, h2, h3.tr g, fun y hy => ?_⟩
  rcases List.mem_append.1 hy with hy | hy
  · exact h4 y hy
  · simp only [List.mem_singleton] at hy
    subst hy
    rw [hE, hd]

/-- It has found one. -/
def FndW (l : List Ld) (keep : Int) (X0 : Nat → Prop) (w4 : World) (b4 b5 : Nat) (c : Code) (pre : List (Nat × Int × Int)) (Y : Nat → Prop) (W : World) : Prop :=
  c = .ret ∧ (∀ i, Y i → w4.heap.size ≤ i) ∧ Kx X0 w4 W ∧ ∃ pre' x, pre = pre' ++ [x] ∧ (∀ y ∈ pre', weakAt l keep y.1 = false) ∧ weakAt l keep x.1 = true ∧ Own W b4 [.int .i64 (x.1 : Int)] ∧ Own W b5 [.bool true]

set_option maxRecDepth 100000 in
set_option maxHeartbeats 4000000 in
theorem weak_any (l : List Ld) (hl : l.length ≤ 1000) (hB : ∀ x ∈ l, LdOk x) (keep : Int) (k0 : 0 ≤ keep) (k1 : keep ≤ 1000) (a : Option Addr) (cap : Nat) (w : World) (hr : LRow w a l) :
    Calls Try.prog 90 #[.slice a l.length cap, .int .i64 keep] w fun e w' => e = .returned (weakV l keep) ∧ Gr w w' := by
  refine (callsIn_wide (n := 20)).1 ?_
  have gg := ((Gr.al w (.cells #[.slice a l.length cap] 53)).tr (Gr.al _ (.cells #[.int .i64 keep] 3))).tr ((Gr.al _ (.cells #[.int .i64 0] 3)).tr (Gr.al _ (.cells #[.bool false] 4)))
  have o2 := (Own.new w [.slice a l.length cap] 53 w.heap.size rfl).keep ((Gr.al _ (.cells #[.int .i64 keep] 3)).tr ((Gr.al _ (.cells #[.int .i64 0] 3)).tr (Gr.al _ (.cells #[.bool false] 4))))
  have o3 := (Own.new (w.alloc (.cells #[.slice a l.length cap] 53)) [.int .i64 keep] 3 (w.heap.size + 1) (by simp)).keep ((Gr.al _ (.cells #[.int .i64 0] 3)).tr (Gr.al _ (.cells #[.bool false] 4)))
  have o4 := (Own.new ((w.alloc (.cells #[.slice a l.length cap] 53)).alloc (.cells #[.int .i64 keep] 3)) [.int .i64 0] 3 (w.heap.size + 1 + 1) (by simp)).keep (Gr.al _ (.cells #[.bool false] 4))
  have o5 := Own.new (((w.alloc (.cells #[.slice a l.length cap] 53)).alloc (.cells #[.int .i64 keep] 3)).alloc (.cells #[.int .i64 0] 3)) [.bool false] 4 (w.heap.size + 1 + 1 + 1) (by simp)
  have q2 := o2.1.c1
  refine callsIn_of_wp_marks Try.func90 rfl trivial ?_ rfl
  simp only [Try.ntmps90, List.size_toArray, List.length_cons, List.length_nil, Nat.reduceAdd, Nat.reduceSub, Array.replicate_succ, Array.replicate_zero, List.push_toArray, List.append_toArray, List.nil_append, List.cons_append]
  gi_wp2_with (refine ⟨trivial, ?_⟩; gi_at_call 87; refine (callsIn_wide.2 (loads_any' l a cap _)).mono ?_; rintro e w4 ⟨b, rfl, hb, hO, h4⟩; have HO := Lib.hid hO; have O2 := Lib.hid (o2.keep h4); have O3 := Lib.hid (o3.keep h4); have O4 := Lib.hid (o4.keep h4); have O5 := Lib.hid (o5.keep h4); have G4 := Lib.hid (gg.tr h4); clear hO h4)
  have hb4 : w.heap.size + 4 ≤ b := by simpa using hb
  have s4 : w.heap.size + 4 ≤ w4.heap.size := by have := O5.out.1.1; omega
  clear hb gg o2 o3 o4 o5 q2
  obtain ⟨X0, hX0⟩ : ∃ X0 : Nat → Prop, X0 = fun i => i = w.heap.size + 1 + 1 ∨ i = w.heap.size + 1 + 1 + 1 := ⟨_, rfl⟩
  have x0 : ∀ i, X0 i → i < w.heap.size + 4 ∧ w.heap.size + 2 ≤ i := fun i e => by rw [hX0] at e; rcases e with e | e <;> omega
  have hst : St X0 (fun V => Own V b [.slice a l.length cap] ∧ LRow V a l) w4 := fun B hB => by
    refine ⟨HO.out.kx hB fun e => by have := x0 _ e; omega, ?_⟩
    by_cases h0 : 0 < l.length
    · obtain ⟨b2, off2, e2, hb2, _⟩ := hr.2 0 l[0] (by simp)
      refine RowOf.kx (hr.grow G4.out) hB fun b' off e e' => ?_
      have := x0 _ e'
      rw [e] at e2
      injection e2 with e2
      injection e2 with e2 _
      omega
    · obtain rfl : l = [] := by simpa using h0
      exact RowOf.nil
  have HX0 := Lib.hid hX0
  have Hx0 := Lib.hid x0
  have Hst := Lib.hid hst
  have HB := Lib.hid hB
  have HR := Lib.hid hr
  clear hX0 x0 hst hB hr
  refine wpIn_rangeX (F := Fence.wide) rfl (by omega) (gf := 120) (lb := #[.pointer (some ⟨b, 0, none⟩)]) rfl trivial (enters_of Try.func120 (by kernel_rfl) rfl)
    (loads_seq Fence.wide 19 trivial rfl (by omega) b a cap l hl (fun x hx => (HB.out x hx).1) X0 w4 Hst.out) (Kx.refl _ _) (fun _ => rfl) X0 (fun i e => ⟨by have := Hx0.out i e; omega, .inl e⟩)
    (InvW l keep X0 w4) (FndW l keep X0 w4 (w.heap.size + 1 + 1) (w.heap.size + 1 + 1 + 1)) (fun s X => InvW.ab s X) ?abX ?start
    (fun pre x a' X Y W => InvW l keep X0 w4 pre X Y W ∧ x ∈ loadsL l ∧ ∃ B7, Own W B7 [.int .i64 x.2.1, .int .i64 x.2.2] ∧ ¬ X B7 ∧ ¬ Y B7 ∧ w4.heap.size ≤ B7 ∧ a' = ⟨#[.slice a l.length cap, .int .i64 keep, .pointer (some ⟨w.heap.size, 0, none⟩), .pointer (some ⟨w.heap.size + 1, 0, none⟩), .pointer (some ⟨w.heap.size + 1 + 1, 0, none⟩), .pointer (some ⟨w.heap.size + 1 + 1 + 1, 0, none⟩), .int .i64 (x.1 : Int), .pointer (some ⟨B7, 0, none⟩), .slice a l.length cap, .func (.func 120) #[] #[.pointer (some ⟨b, 0, none⟩)], .int .i64 (x.1 : Int), .agg #[.int .i64 x.2.1, .int .i64 x.2.2], undef, undef, undef, undef, undef, undef, undef, undef, undef, undef], []⟩)
    ?abA ?assign ?body ?done ?stop
  case start => exact ⟨rfl, fun i e => e.elim, Below.refl _ _, fun y hy => by cases hy⟩
  case abX =>
    rintro c s Y Y' A B ⟨h1, h2, h3, pre', x, h4, h5, h6, h7, h8⟩ hk hy
    have hs := h3.size
    refine ⟨h1, fun i e => ?_, h3.th hk fun i e => .inr (h2 i e), pre', x, h4, h5, h6, h7.kx hk fun e => ?_, h8.kx hk fun e => ?_⟩
    · rcases hy i e with e | e
      · exact h2 i e
      · omega
    · have := h2 _ e; omega
    · have := h2 _ e; omega
  case abA =>
    rintro s x a' X Y Y' A B ⟨h1, hm, B7, h3, h4, h5, h6, h7⟩ hk hy
    refine ⟨InvW.ab _ _ _ _ _ _ h1 hk hy, hm, B7, h3.kx hk h5, h4, fun e => ?_, h6, h7⟩
    rcases hy _ e with e | e
    · exact h5 e
    · have := h3.1.1; omega
  case assign =>
    rintro l1 pre x X Y W K hI hG hD hK
    have HK := Lib.hid hK
    have HI := Lib.hid hI
    have HG := Lib.hid hG
    clear hK hI hG
    dsimp only [encO]
    gi_wp2
    refine HK.out _ X _ ⟨InvW.ab _ _ _ _ _ _ HI.out (Kx.al _ _ _) (fun i e => .inl e), HG.out.1, W.heap.size, Own.new _ [_, _] 45 _ rfl, fun e => ?_, fun e => ?_, HI.out.2.2.1.size, rfl⟩ (Kx.al _ _ _) (fun i e => ⟨?_, .inl e⟩)
    · have := hD.x _ e; omega
    · have := hD.y _ e; omega
    · have := hD.x _ e; simp; omega
  case body =>
    rintro l1 pre ⟨k, lo, tp⟩ a' X Y W ⟨⟨rfl, hY, hg, hpre⟩, hm, B7, h7, hn1, hn2, hn3, rfl⟩ hD hYl hrec
    obtain ⟨hk, hx⟩ := loadsL_mem hm
    dsimp only at hk hx h7
    dsimp only
    obtain ⟨xl, hxl⟩ : ∃ xl, l[k]? = some xl := ⟨l[k], by simp [hk]⟩
    obtain ⟨y1, y2, y3⟩ := HB.out xl (List.mem_of_getElem? hxl)
    obtain ⟨c, off, rfl, hc, r0, r1, r2, r3⟩ := LRow.get (HR.out.grow (G4.out.tr hg)) hxl
    have ehi : tp = sumHi (l.drop (k + 1)) := by injection hx with _ e; injection e
    have E : weakAt l keep k = decide (xl.sl * keep / 1000 < tp) := by simp [weakAt, hxl, ehi]
    have i2 := (O2.out.keep hg).1.c1
    have i3 := (O3.out.keep hg).1.c1
    obtain ⟨j0, j1⟩ := h7.1.c2
    have H7 := Lib.hid h7
    have HG := Lib.hid hg
    have HY := Lib.hid hY
    have HP := Lib.hid hpre
    have HE := Lib.hid E
    have HI := Lib.hid (show InvW l keep X w4 pre X Y W from ⟨rfl, hY, hg, hpre⟩)
    clear hg hY hpre hm hx hxl ehi E h7 hD hYl hrec hn1 hn2
    gi_wp2
    refine wpIn_region_facts 8 [(1, 0), (4, 2), (4, 3), (5, 4), (7, 5), (7, 6)] (fun x => ⟨#[.slice (some ⟨c, off, none⟩) l.length cap, .int .i64 keep, .pointer (some ⟨w.heap.size, 0, none⟩), .pointer (some ⟨(w.heap.size + 1), 0, none⟩), .pointer (some ⟨(w.heap.size + 1 + 1), 0, none⟩), .pointer (some ⟨(w.heap.size + 1 + 1 + 1), 0, none⟩), .int .i64 (k : Int), .pointer (some ⟨B7, 0, none⟩), .slice (some ⟨c, off, none⟩) l.length cap, .func (.func 120) #[] #[.pointer (some ⟨b, 0, none⟩)], .int .i64 (k : Int), .agg #[.int .i64 lo, .int .i64 tp], x 0, x 1, x 2, x 3, x 4, x 5, x 6, x 7, undef, undef], []⟩) (fun _ => undef) [fun _ x => x = .pointer (some ⟨B7, 1, none⟩), fun _ x => x = .int .i64 tp, fun _ x => x = .slice (some ⟨c, off, none⟩) l.length cap, fun _ x => x = .int .i64 (k : Int), fun _ x => x = .pointer (some ⟨c, off + k * 4, none⟩), fun _ x => x = .agg #[.int .i64 xl.sl, .int .i64 xl.sh, .int .i64 xl.wl, .int .i64 xl.wh], fun _ x => x = .int .i64 keep, fun _ x => x = .int .i64 (xl.sl * keep / 1000)] (by rfl) (by kernel_rfl) (by kernel_rfl) (by kernel_rfl) (by kernel_rfl) (by rintro ⟨_, _, h⟩; exact h) (stays_cons (Stays.eq _) (stays_cons (Stays.eq _) (stays_cons (Stays.eq _) (stays_cons (Stays.eq _) (stays_cons (Stays.eq _) (stays_cons (Stays.eq _) (stays_cons (Stays.eq _) (stays_cons (Stays.eq _) stays_nil)))))))) ?step4 ?fin4
    case step4 =>
      rintro i hi x v gv hd K hK
      have hi8 : i = 0 ∨ i = 1 ∨ i = 2 ∨ i = 3 ∨ i = 4 ∨ i = 5 ∨ i = 6 ∨ i = 7 := by omega
      rcases hi8 with rfl | rfl | rfl | rfl | rfl | rfl | rfl | rfl
      · show wpOp Try.prog _ _ 0 K (⟨#[.slice (some ⟨c, off, none⟩) l.length cap, .int .i64 keep, .pointer (some ⟨w.heap.size, 0, none⟩), .pointer (some ⟨(w.heap.size + 1), 0, none⟩), .pointer (some ⟨(w.heap.size + 1 + 1), 0, none⟩), .pointer (some ⟨(w.heap.size + 1 + 1 + 1), 0, none⟩), .int .i64 (k : Int), .pointer (some ⟨B7, 0, none⟩), .slice (some ⟨c, off, none⟩) l.length cap, .func (.func 120) #[] #[.pointer (some ⟨b, 0, none⟩)], .int .i64 (k : Int), .agg #[.int .i64 lo, .int .i64 tp], x 0, x 1, x 2, x 3, x 4, x 5, x 6, x 7, undef, undef], []⟩ : Act) v
        refine wpOp_step rfl (fun K' hK' => ?_)
        go_simp
        exact hK' _ _ (hK _ _ (Below.refl _ _) (at_of rfl (rfl)))
      · obtain ⟨x, rfl⟩ := upd_of (show x 0 = .pointer (some ⟨B7, 1, none⟩) from hd 0 _ (by simp) rfl)
        show wpOp Try.prog _ _ 1 K (⟨#[.slice (some ⟨c, off, none⟩) l.length cap, .int .i64 keep, .pointer (some ⟨w.heap.size, 0, none⟩), .pointer (some ⟨(w.heap.size + 1), 0, none⟩), .pointer (some ⟨(w.heap.size + 1 + 1), 0, none⟩), .pointer (some ⟨(w.heap.size + 1 + 1 + 1), 0, none⟩), .int .i64 (k : Int), .pointer (some ⟨B7, 0, none⟩), .slice (some ⟨c, off, none⟩) l.length cap, .func (.func 120) #[] #[.pointer (some ⟨b, 0, none⟩)], .int .i64 (k : Int), .agg #[.int .i64 lo, .int .i64 tp], .pointer (some ⟨B7, 1, none⟩), x 1, x 2, x 3, x 4, x 5, x 6, x 7, undef, undef], []⟩ : Act) v
        refine wpOp_step rfl (fun K' hK' => ?_)
        have q := gv.keep j1
        go_simp
        exact hK' _ _ (hK _ _ (Below.refl _ _) (at_of rfl (rfl)))
      · show wpOp Try.prog _ _ 2 K (⟨#[.slice (some ⟨c, off, none⟩) l.length cap, .int .i64 keep, .pointer (some ⟨w.heap.size, 0, none⟩), .pointer (some ⟨(w.heap.size + 1), 0, none⟩), .pointer (some ⟨(w.heap.size + 1 + 1), 0, none⟩), .pointer (some ⟨(w.heap.size + 1 + 1 + 1), 0, none⟩), .int .i64 (k : Int), .pointer (some ⟨B7, 0, none⟩), .slice (some ⟨c, off, none⟩) l.length cap, .func (.func 120) #[] #[.pointer (some ⟨b, 0, none⟩)], .int .i64 (k : Int), .agg #[.int .i64 lo, .int .i64 tp], x 0, x 1, x 2, x 3, x 4, x 5, x 6, x 7, undef, undef], []⟩ : Act) v
        refine wpOp_step rfl (fun K' hK' => ?_)
        have q := gv.keep i2
        go_simp
        exact hK' _ _ (hK _ _ (Below.refl _ _) (at_of rfl (rfl)))
      · show wpOp Try.prog _ _ 3 K (⟨#[.slice (some ⟨c, off, none⟩) l.length cap, .int .i64 keep, .pointer (some ⟨w.heap.size, 0, none⟩), .pointer (some ⟨(w.heap.size + 1), 0, none⟩), .pointer (some ⟨(w.heap.size + 1 + 1), 0, none⟩), .pointer (some ⟨(w.heap.size + 1 + 1 + 1), 0, none⟩), .int .i64 (k : Int), .pointer (some ⟨B7, 0, none⟩), .slice (some ⟨c, off, none⟩) l.length cap, .func (.func 120) #[] #[.pointer (some ⟨b, 0, none⟩)], .int .i64 (k : Int), .agg #[.int .i64 lo, .int .i64 tp], x 0, x 1, x 2, x 3, x 4, x 5, x 6, x 7, undef, undef], []⟩ : Act) v
        refine wpOp_step rfl (fun K' hK' => ?_)
        go_simp
        exact hK' _ _ (hK _ _ (Below.refl _ _) (at_of rfl (rfl)))
      · obtain ⟨x, rfl⟩ := upd_of (show x 2 = .slice (some ⟨c, off, none⟩) l.length cap from hd 2 _ (by simp) rfl)
        obtain ⟨x, rfl⟩ := upd_of (show x 3 = .int .i64 (k : Int) from hd 3 _ (by simp) rfl)
        show wpOp Try.prog _ _ 4 K (⟨#[.slice (some ⟨c, off, none⟩) l.length cap, .int .i64 keep, .pointer (some ⟨w.heap.size, 0, none⟩), .pointer (some ⟨(w.heap.size + 1), 0, none⟩), .pointer (some ⟨(w.heap.size + 1 + 1), 0, none⟩), .pointer (some ⟨(w.heap.size + 1 + 1 + 1), 0, none⟩), .int .i64 (k : Int), .pointer (some ⟨B7, 0, none⟩), .slice (some ⟨c, off, none⟩) l.length cap, .func (.func 120) #[] #[.pointer (some ⟨b, 0, none⟩)], .int .i64 (k : Int), .agg #[.int .i64 lo, .int .i64 tp], x 0, x 1, .slice (some ⟨c, off, none⟩) l.length cap, .int .i64 (k : Int), x 4, x 5, x 6, x 7, undef, undef], []⟩ : Act) v
        refine wpOp_step rfl (fun K' hK' => ?_)
        go_simp
        exact hK' _ _ (hK _ _ (Below.refl _ _) (at_of rfl (rfl)))
      · obtain ⟨x, rfl⟩ := upd_of (show x 4 = .pointer (some ⟨c, off + k * 4, none⟩) from hd 4 _ (by simp) rfl)
        show wpOp Try.prog _ _ 5 K (⟨#[.slice (some ⟨c, off, none⟩) l.length cap, .int .i64 keep, .pointer (some ⟨w.heap.size, 0, none⟩), .pointer (some ⟨(w.heap.size + 1), 0, none⟩), .pointer (some ⟨(w.heap.size + 1 + 1), 0, none⟩), .pointer (some ⟨(w.heap.size + 1 + 1 + 1), 0, none⟩), .int .i64 (k : Int), .pointer (some ⟨B7, 0, none⟩), .slice (some ⟨c, off, none⟩) l.length cap, .func (.func 120) #[] #[.pointer (some ⟨b, 0, none⟩)], .int .i64 (k : Int), .agg #[.int .i64 lo, .int .i64 tp], x 0, x 1, x 2, x 3, .pointer (some ⟨c, off + k * 4, none⟩), x 5, x 6, x 7, undef, undef], []⟩ : Act) v
        refine wpOp_step rfl (fun K' hK' => ?_)
        have q0 := gv.keep r0
        have q1 := gv.keep r1
        have q2 := gv.keep r2
        have q3 := gv.keep r3
        go_simp
        exact hK' _ _ (hK _ _ (Below.refl _ _) (at_of rfl (rfl)))
      · show wpOp Try.prog _ _ 6 K (⟨#[.slice (some ⟨c, off, none⟩) l.length cap, .int .i64 keep, .pointer (some ⟨w.heap.size, 0, none⟩), .pointer (some ⟨(w.heap.size + 1), 0, none⟩), .pointer (some ⟨(w.heap.size + 1 + 1), 0, none⟩), .pointer (some ⟨(w.heap.size + 1 + 1 + 1), 0, none⟩), .int .i64 (k : Int), .pointer (some ⟨B7, 0, none⟩), .slice (some ⟨c, off, none⟩) l.length cap, .func (.func 120) #[] #[.pointer (some ⟨b, 0, none⟩)], .int .i64 (k : Int), .agg #[.int .i64 lo, .int .i64 tp], x 0, x 1, x 2, x 3, x 4, x 5, x 6, x 7, undef, undef], []⟩ : Act) v
        refine wpOp_step rfl (fun K' hK' => ?_)
        have q := gv.keep i3
        go_simp
        exact hK' _ _ (hK _ _ (Below.refl _ _) (at_of rfl (rfl)))
      · obtain ⟨x, rfl⟩ := upd_of (show x 5 = .agg #[.int .i64 xl.sl, .int .i64 xl.sh, .int .i64 xl.wl, .int .i64 xl.wh] from hd 5 _ (by simp) rfl)
        obtain ⟨x, rfl⟩ := upd_of (show x 6 = .int .i64 keep from hd 6 _ (by simp) rfl)
        show wpOp Try.prog _ _ 7 K (⟨#[.slice (some ⟨c, off, none⟩) l.length cap, .int .i64 keep, .pointer (some ⟨w.heap.size, 0, none⟩), .pointer (some ⟨(w.heap.size + 1), 0, none⟩), .pointer (some ⟨(w.heap.size + 1 + 1), 0, none⟩), .pointer (some ⟨(w.heap.size + 1 + 1 + 1), 0, none⟩), .int .i64 (k : Int), .pointer (some ⟨B7, 0, none⟩), .slice (some ⟨c, off, none⟩) l.length cap, .func (.func 120) #[] #[.pointer (some ⟨b, 0, none⟩)], .int .i64 (k : Int), .agg #[.int .i64 lo, .int .i64 tp], x 0, x 1, x 2, x 3, x 4, .agg #[.int .i64 xl.sl, .int .i64 xl.sh, .int .i64 xl.wl, .int .i64 xl.wh], .int .i64 keep, x 7, undef, undef], []⟩ : Act) v
        refine wpOp_step rfl (fun K' hK' => ?_)
        go_simp
        refine (bears_any xl.sl xl.sh xl.wl xl.wh keep y2 y3 k0 k1 v).mono ?_
        rintro e v' ⟨rfl, hg⟩
        exact hK' _ _ (hK _ _ hg (at_of rfl (rfl)))
    case fin4 =>
      rintro x v gv hd
      obtain ⟨x, rfl⟩ := upd_of (show x 1 = .int .i64 tp from hd 1 _ (by omega) rfl)
      obtain ⟨x, rfl⟩ := upd_of (show x 7 = .int .i64 (xl.sl * keep / 1000) from hd 7 _ (by omega) rfl)
      clear hd
      show wpList Try.prog _ _ (List.drop 8 _) (⟨#[.slice (some ⟨c, off, none⟩) l.length cap, .int .i64 keep, .pointer (some ⟨w.heap.size, 0, none⟩), .pointer (some ⟨(w.heap.size + 1), 0, none⟩), .pointer (some ⟨(w.heap.size + 1 + 1), 0, none⟩), .pointer (some ⟨(w.heap.size + 1 + 1 + 1), 0, none⟩), .int .i64 (k : Int), .pointer (some ⟨B7, 0, none⟩), .slice (some ⟨c, off, none⟩) l.length cap, .func (.func 120) #[] #[.pointer (some ⟨b, 0, none⟩)], .int .i64 (k : Int), .agg #[.int .i64 lo, .int .i64 tp], x 0, .int .i64 tp, x 2, x 3, x 4, x 5, x 6, .int .i64 (xl.sl * keep / 1000), undef, undef], []⟩ : Act) v
      simp only [List.drop_succ_cons, List.drop_zero]
      clear i2 i3 j0 j1 r0 r1 r2 r3
      cases hd : decide (xl.sl * keep / 1000 < tp) with
      | false =>
        go_wp2
        have hd0 := hd
        clear hd
        gi_wp2
        have hgv := Lib.hid gv
        refine ⟨Kx.gr gv, X, InvW.next HE.out hd0 HI.out gv, fun i e => ⟨by have := Hx0.out i e; have := gv.size; have := HG.out.size; omega, .inl e⟩⟩
      | true =>
        go_wp2
        have d4 := ((O4.out.keep HG.out).keep gv)
        have d5 := ((O5.out.keep HG.out).keep gv)
        have e4 := d4.1.c1
        have e5 := d5.1.c1
        have z4 := d4.2 0
        have z5 := d5.2 0
        have n45 : ¬ w.heap.size + 1 + 1 = w.heap.size + 1 + 1 + 1 := by omega
        have n54 : ¬ w.heap.size + 1 + 1 + 1 = w.heap.size + 1 + 1 := by omega
        have D4 := Lib.hid d4
        have D5 := Lib.hid d5
        clear d4 d5
        gi_wp2
        have x4 : X (w.heap.size + 1 + 1) := by rw [HX0.out]; exact .inl rfl
        have x5 : X (w.heap.size + 1 + 1 + 1) := by rw [HX0.out]; exact .inr rfl
        have kk : Kx X W ((v.setCell ⟨w.heap.size + 1 + 1, 0, none⟩ (.int .i64 (k : Int))).setCell ⟨w.heap.size + 1 + 1 + 1, 0, none⟩ (.bool true)) :=
          (Kx.gr gv).tr ((Kx.set (Z := X) (p := ⟨w.heap.size + 1 + 1, 0, none⟩) x4 _).tr (Kx.set (Z := X) (p := ⟨w.heap.size + 1 + 1 + 1, 0, none⟩) x5 _))
        refine ⟨kk, rfl, HY.out, (Kx.gr HG.out).tr kk, pre, (k, lo, tp), rfl, HP.out, by show weakAt l keep k = true; rw [HE.out, hd], ?_, ?_⟩
        · exact (D4.out.set (i := 0) (v := .int .i64 (k : Int)) (by simp)).other n45
        · exact (D5.out.other n54).set (i := 0) (v := .bool true) (by simp)
  case done =>
    rintro D xs X Y W hD rfl ⟨rfl, hY, hg, hpre⟩ hYD hK
    have d4 := O4.out.keep hg
    have d5 := O5.out.keep hg
    have e4 := d4.1.c1
    have e5 := d5.1.c1
    have z4 := d4.2 0
    have z5 := d5.2 0
    have n45 : ¬ w.heap.size + 1 + 1 = w.heap.size + 1 + 1 + 1 := by omega
    have n54 : ¬ w.heap.size + 1 + 1 + 1 = w.heap.size + 1 + 1 := by omega
    have D4 := Lib.hid d4
    have D5 := Lib.hid d5
    have HG := Lib.hid (G4.out.tr hg)
    have HD := Lib.hid hD
    have HK := Lib.hid hK
    have HP := Lib.hid hpre
    clear d4 d5 hg hD hK hpre hY hYD
    gi_wp2
    have oz : Own ((W.setCell ⟨w.heap.size + 1 + 1, 0, none⟩ (.int .i64 0)).setCell ⟨w.heap.size + 1 + 1 + 1, 0, none⟩ (.bool false)) (w.heap.size + 1 + 1) [.int .i64 0] := (D4.out.set (i := 0) (v := .int .i64 0) (by simp)).other n45
    have oy : Own ((W.setCell ⟨w.heap.size + 1 + 1, 0, none⟩ (.int .i64 0)).setCell ⟨w.heap.size + 1 + 1 + 1, 0, none⟩ (.bool false)) (w.heap.size + 1 + 1 + 1) [.bool false] := (D5.out.other n54).set (i := 0) (v := .bool false) (by simp)
    have gz : Gr w ((W.setCell ⟨w.heap.size + 1 + 1, 0, none⟩ (.int .i64 0)).setCell ⟨w.heap.size + 1 + 1 + 1, 0, none⟩ (.bool false)) :=
      (HG.out.setCell (p := ⟨w.heap.size + 1 + 1, 0, none⟩) (by dsimp only; omega) _).setCell (p := ⟨w.heap.size + 1 + 1 + 1, 0, none⟩) (by dsimp only; omega) _
    have hD := HD.out
    refine leaves_marks [D] _ (fun E hE => ?_) (by simp) fun w' hk => ?_
    · simp only [List.mem_singleton] at hE
      subst hE
      exact (Below.heap_setCell _ _ _ _ (by dsimp only; omega)).trans ((Below.heap_setCell _ _ _ _ (by dsimp only; omega)).trans HK.out)
    · have p0 := (oz.kx hk (fun e => by simp only [List.mem_singleton] at e; omega)).1.c1
      have p1 := (oy.kx hk (fun e => by simp only [List.mem_singleton] at e; omega)).1.c1
      refine ⟨.tuple #[.int .i64 0, .bool false], by simp [results, Try.results90, go_sem, p0, p1], ?_, Kx.toGr ((Kx.gr (Z := noBlock) gz).th hk fun i e => ?_)⟩
      · unfold weakV
        rw [weakO_none (fun k hk => HP.out _ (List.mem_of_getElem? (loadsL_at hk)))]
      · simp only [List.mem_singleton] at e
        exact .inr (by omega)
  case stop =>
    rintro D c pre Y W hD ⟨m, hm, hpm⟩ ⟨rfl, hY, hk, pre', x, rfl, hp, hx, d4, d5⟩ hYD hK
    gi_wp2
    refine leaves_marks [D] _ (fun E hE => ?_) (by simp) fun w' hk' => ?_
    · simp only [List.mem_singleton] at hE
      subst hE
      exact hK
    · have p0 := (d4.kx hk' (fun e => by simp only [List.mem_singleton] at e; omega)).1.c1
      have p1 := (d5.kx hk' (fun e => by simp only [List.mem_singleton] at e; omega)).1.c1
      refine ⟨.tuple #[.int .i64 (x.1 : Int), .bool true], by simp [results, Try.results90, go_sem, p0, p1], ?_, Kx.toGr (((Kx.gr (Z := noBlock) G4.out).th hk fun i e => ?_).th hk' fun i e => ?_)⟩
      · unfold weakV
        obtain ⟨h1, h2, h3⟩ := first_weak hpm hp hx
        rw [weakO_some h1 h2 h3]
      · have := Hx0.out i e
        exact .inr (by omega)
      · simp only [List.mem_singleton] at e
        exact .inr (by omega)

end Go.Proofs.Ytcdilmagcdbogaa

namespace Go.Proofs.Ytcdilmagcdbogaa
set_option linter.unusedVariables false
set_option linter.unusedSimpArgs false
open Go.RowKit

section
variable {P : Program}

/-- copy of elements of whatever size. -/
theorem run_copy_wide (w : World) (dT sT ty elem : TypeId) (g o dLen dCap : Nat) (a : Addr) (sLen sCap m : Nat) (sz : Nat) (cur : Array Value) (t : TypeId) (cs : List Value)
    (hu : P.underlying dT = some (.slice elem)) (hs : (P.info? elem).map (·.size) = some sz)
    (hg : w.heap[g]? = some (.cells cur t (0, 0))) (hm : Nat.min sLen dLen = m) (hn : cs.length = m * sz)
    (hsrc : ∀ j v, cs[j]? = some v → w.cell? (a.add j) = some v) (hfit : o + cs.length ≤ cur.size) (h1 : ∀ v ∈ cs, v.oneCell' = true) :
    (Builtin.copy_ #[dT, sT] ty #[.slice (some ⟨g, o, none⟩) dLen dCap, .slice (some a) sLen sCap]).run P w =
      .ok (goInt m) (w.setRow g (cur.toList.take o ++ cs ++ cur.toList.drop (o + cs.length)).toArray) := by
  have hl := run_loadCells_list (P := P) w a cs hsrc
  have hst := run_storeCells_at P g o t cs 0 cur w hg (by simpa using hfit) h1
  cases hq : P.info? elem with
  | none => simp [hq] at hs
  | some i =>
    have hi : i.size = sz := by simpa [hq] using hs
    simp [Builtin.copy_, run_underlying hu, Builtin.lenOf, Builtin.firstCells, sizeOf, typeInfo, hq, hi, hm, ← hn, hl, hst]

end

def rep (n : Nat) (x : Ld) : List Value := (List.replicate n x).flatMap encL

theorem rep_len (n : Nat) (x : Ld) : (rep n x).length = 4 * n := by
  induction n with
  | zero => rfl
  | succ n ih => simp [rep, List.replicate_succ, encL] at ih ⊢; omega

theorem rep_add (n m : Nat) (x : Ld) : rep (n + m) x = rep n x ++ rep m x := by
  unfold rep
  rw [← List.replicate_append_replicate, List.flatMap_append]

theorem rep_one (n : Nat) (x : Ld) : ∀ v ∈ rep n x, v.oneCell' = true := by
  intro v hv
  obtain ⟨y, hy, hv⟩ := List.mem_flatMap.1 hv
  have e := (List.mem_replicate.1 hy).2
  rw [e] at hv
  have hv' : v ∈ [Value.int .i64 x.sl, .int .i64 x.sh, .int .i64 x.wl, .int .i64 x.wh] := hv
  simp only [List.mem_cons, List.not_mem_nil, or_false] at hv'
  rcases hv' with h | h | h | h <;> (rw [h]; rfl)

theorem rep_at {k j i : Nat} {x : Ld} (hj : j < k) (hi : i < 4) : (rep k x)[j * 4 + i]? = (encL x)[i]? := by
  have e : rep k x = rep j x ++ (rep 1 x ++ rep (k - j - 1) x) := by rw [← rep_add, ← rep_add]; congr 1; omega
  have e1 : rep 1 x = encL x := by simp [rep]
  rw [e, List.getElem?_append_right (by rw [rep_len]; omega), rep_len, show j * 4 + i - 4 * j = i by omega, List.getElem?_append_left (by rw [rep_len]; omega), e1]

theorem mul_one64 (c : Nat) (hc : c ≤ 1000) (w : World) :
    Calls Try.prog 124 #[.int .u64 1, .int .u64 (c : Int)] w fun e w' => e = .returned (.tuple #[.int .u64 0, .int .u64 (c : Int)]) ∧ w' = w := by
  have h := Try.bits_Mul 1 c (by omega) (by omega) w
  have e1 : 1 * c / 18446744073709551616 = 0 := by omega
  have e2 : 1 * c % 18446744073709551616 = c := by omega
  rw [e1, e2] at h
  exact h

theorem infoLd : (Try.prog.info? 70).map (fun i => (i.zero, i.size, i.bytes)) = some (some (.agg #[.int .i64 0, .int .i64 0, .int .i64 0, .int .i64 0]), 4, 32) := by kernel_rfl

theorem infoLd4 : (Try.prog.info? 70).map (·.size) = some 4 := by kernel_rfl

set_option maxRecDepth 100000 in
set_option maxHeartbeats 2000000 in
theorem repeat_one (x : Ld) (c : Nat) (h1 : 1 ≤ c) (h2 : c ≤ 1000) (a : Option Addr) (cap : Nat) (w : World) (hr : LRow w a [x]) :
    Calls Try.prog 98 #[.slice a 1 cap, .int .i64 (c : Int)] w fun e w' => ∃ a', e = .returned (.slice a' c c) ∧ LRow w' a' (List.replicate c x) ∧ Gr w w' := by
  obtain ⟨i0, hi, hz⟩ := Option.map_eq_some_iff.1 infoLd
  simp only [Prod.mk.injEq] at hz
  obtain ⟨hz0, hz1, hz2⟩ := hz
  have hmk := run_make (P := Try.prog) w 53 70 i0 _ Try.underlying53 hi hz0 .i64 .i64 (c : Int) (c : Int) (by omega) (Int.le_refl _) (by rw [hz2]; omega) (by omega)
  rw [hz1] at hmk
  simp only [Int.toNat_natCast] at hmk
  have d0 : decide ((c : Int) < 0) = false := by simp
  have d1 : decide ((9223372036854775807 : Int) < (c : Int)) = false := by simp; omega
  have v0 : IntKind.u64.wrap (c : Int) = (c : Int) := by rw [IntKind.wrap_u64]; omega
  have v1 : IntKind.i64.wrap (c : Int) = (c : Int) := IntWalk.i64_in _ (by omega)
  go_enter Try.func98, Try.ntmps98
  obtain ⟨b, off, rfl, hb, _⟩ := hr.2 0 x rfl
  have hnew : (w.alloc (.cells (madeCells #[.int .i64 0, .int .i64 0, .int .i64 0, .int .i64 0] (c * 4)) 70)).heap[w.heap.size]? = some (.cells (madeCells #[.int .i64 0, .int .i64 0, .int .i64 0, .int .i64 0] (c * 4)) 70) := World.alloc_heap_new w _
  have hr1 := hr.grow (Gr.al w (.cells (madeCells #[.int .i64 0, .int .i64 0, .int .i64 0, .int .i64 0] (c * 4)) 70))
  have hsrc : ∀ j v, (rep 1 x)[j]? = some v → (w.alloc (.cells (madeCells #[.int .i64 0, .int .i64 0, .int .i64 0, .int .i64 0] (c * 4)) 70)).cell? ((Addr.mk b off none).add j) = some v := by
    intro j v hv
    obtain ⟨b', off', e', _, hc⟩ := hr1.2 0 x rfl
    injection e' with e'
    injection e' with e1 e2 _
    subst e1; subst e2
    have h := hc j v (by simpa [rep] using hv)
    rw [WideShapes.add_plain]
    simpa using h
  have hcp := run_copy_wide (P := Try.prog) _ 53 53 3 70 w.heap.size 0 c c ⟨b, off, none⟩ 1 cap 1 4 _ 70 (rep 1 x) Try.underlying53 infoLd4 hnew (Nat.min_eq_left h1) (by rw [rep_len]) hsrc (by rw [rep_len, size_madeCells]; omega) (rep_one 1 x)
  rw [World.setRow_alloc_new, show goInt ((1 : Nat) : Int) = .int .i64 1 from rfl] at hcp
  obtain ⟨rest, hrest⟩ : ∃ rest : List Value, (madeCells #[Value.int .i64 0, .int .i64 0, .int .i64 0, .int .i64 0] (c * 4)).toList.drop (0 + (rep 1 x).length) = rest := ⟨_, rfl⟩
  have hlen : rest.length = 4 * (c - 1) := by rw [← hrest, rep_len, List.length_drop, Array.length_toList, size_madeCells]; omega
  rw [hrest, List.take_zero, List.nil_append] at hcp
  have Hlen := Lib.hid hlen
  clear hnew hr1 hsrc hrest hlen hr
  go_wp2_with (go_at_call 124; refine (mul_one64 c h2 _).mono ?_; rintro e w1 ⟨rfl, rfl⟩)
  clear hmk hcp d0 d1
  go_loopw [8] (fun n wr => Hid (∃ k : Nat, ∃ rest : List Value, n = .int .i64 k ∧ 1 ≤ k ∧ k ≤ c ∧ Gr w1 wr ∧ wr.heap[w1.heap.size]? = some (.cells (rep k x ++ rest).toArray 70) ∧ rest.length = 4 * (c - k))) (fun n _ => c - (intOf n).toNat)
  case atStart => exact Lib.hid ⟨1, rest, rfl, Nat.le_refl _, h1, Gr.al _ _, World.alloc_heap_new _ _, Hlen.out⟩
  case round =>
    obtain ⟨k, rest, rfl, hk1, hkc, gw, hB, hl⟩ := hrel.out
    clear hrel
    by_cases hlt : k < c
    · obtain ⟨m, hm⟩ : ∃ m, Nat.min k (c - k) = m := ⟨_, rfl⟩
      have hm' : min k (c - k) = m := hm
      have m1 : 1 ≤ m := by omega
      have m2 : k + m ≤ c := by omega
      have hmk' : m ≤ k := by omega
      have hBd : wr.drew.heap[w1.heap.size]? = some (.cells (rep k x ++ rest).toArray 70) := hB
      have hsrc : ∀ j v, (rep m x)[j]? = some v → wr.drew.cell? ((Addr.mk w1.heap.size 0 none).add j) = some v := by
        intro j v hv
        have hj : j < 4 * m := by
          have := (List.getElem?_eq_some_iff.1 hv).1
          rwa [rep_len] at this
        have hc : wr.drew.cell? ⟨w1.heap.size, 0 + j, none⟩ = (rep k x ++ rest)[0 + j]? := by
          unfold World.cell?
          rw [hBd]
          simp
        have ek : rep k x = rep m x ++ rep (k - m) x := by rw [← rep_add]; congr 1; omega
        rw [WideShapes.add_plain, hc, Nat.zero_add, ek, List.append_assoc, List.getElem?_append_left (by rw [rep_len]; exact hj)]
        exact hv
      have hcp := run_copy_wide (P := Try.prog) wr.drew 53 53 3 70 w1.heap.size (k * 4) (c - k) (c - k) ⟨w1.heap.size, 0, none⟩ k c m 4 _ 70 (rep m x) Try.underlying53 infoLd4 hBd hm (by rw [rep_len]; omega) hsrc (by simp [rep_len]; omega) (rep_one m x)
      rw [show goInt ((m : Nat) : Int) = .int .i64 (m : Int) from rfl] at hcp
      obtain ⟨row, hrow⟩ : ∃ row, (((rep k x ++ rest).toArray.toList.take (k * 4) ++ rep m x ++ (rep k x ++ rest).toArray.toList.drop (k * 4 + (rep m x).length)).toArray) = row := ⟨_, rfl⟩
      rw [hrow] at hcp
      have e1 : row = (rep (k + m) x ++ rest.drop (4 * m)).toArray := by
        rw [← hrow]
        congr 1
        show (rep k x ++ rest).take (k * 4) ++ rep m x ++ (rep k x ++ rest).drop (k * 4 + (rep m x).length) = _
        rw [rep_len, List.take_append_of_le_length (by rw [rep_len]; omega), List.take_of_length_le (by rw [rep_len]; omega), List.drop_append, rep_len, List.drop_of_length_le (by rw [rep_len]; omega), List.nil_append, rep_add, show k * 4 + 4 * m - 4 * k = 4 * m by omega]
      have hB' : (wr.drew.setRow w1.heap.size row).heap[w1.heap.size]? = some (.cells (rep (k + m) x ++ rest.drop (4 * m)).toArray 70) := by
        rw [← e1]
        exact setRow_heap _ _ _ _ _ _ hBd
      have g' : Gr w1 (wr.drew.setRow w1.heap.size row) := below_setRow (gw.tr (Gr.dr wr)) (Nat.le_refl _) _
      have l' : (rest.drop (4 * m)).length = 4 * (c - (k + m)) := by rw [List.length_drop, hl]; omega
      have v2 : IntKind.i64.wrap ((k : Int) + (m : Int)) = ((k + m : Nat) : Int) := by rw [IntWalk.i64_in _ (by omega)]; omega
      have HN := Lib.hid (And.intro hB' (And.intro g' l'))
      clear hB' g' l' e1 hrow hsrc hBd hB gw hl hm hm'
      go_wp2
      have hmx : Try.prog.follows .mixedOrders = true := by kernel_rfl
      go_region
      go_wp2
      go_roundw
      case rel => exact Lib.hid ⟨k + m, rest.drop (4 * m), by go_num, by omega, m2, HN.out.2.1, HN.out.1, HN.out.2.2⟩
      case measure => simp [intOf]; omega
    · obtain rfl : k = c := by omega
      go_wp2
      go_ret
      refine ⟨_, rfl, ⟨by simp; omega, fun j y hy => ?_⟩, gw⟩
      obtain ⟨hj, e⟩ := List.getElem?_eq_some_iff.1 hy
      have hj' : j < k := by simpa using hj
      have ey : x = y := by simpa using e
      subst ey
      refine ⟨_, _, rfl, (Array.getElem?_eq_some_iff.1 hB).1, fun i v hv => ?_⟩
      have hr0 : rest = [] := List.eq_nil_of_length_eq_zero (by omega)
      have hi4 : i < 4 := by
        have := (List.getElem?_eq_some_iff.1 hv).1
        simpa [encL] using this
      have hc : wr.cell? ⟨w1.heap.size, j * 4 + i, none⟩ = (rep k x)[j * 4 + i]? := by
        unfold World.cell?
        rw [hB, hr0, List.append_nil]
        simp
      rw [Nat.zero_add, hc, rep_at hj' hi4]
      exact hv

end Go.Proofs.Ytcdilmagcdbogaa

namespace Go.Proofs.Ytcdilmagcdbogaa
set_option linter.unusedVariables false
set_option linter.unusedSimpArgs false
open Go.RowKit

theorem sumHi_rep (x : Ld) : ∀ n : Nat, sumHi (List.replicate n x) = x.wh * (n : Int)
  | 0 => by simp [sumHi]
  | n + 1 => by
    rw [List.replicate_succ, sumHi, sumHi_rep x n]
    rw [show ((n + 1 : Nat) : Int) = (n : Int) + 1 by omega, Int.mul_add, Int.mul_one]
    omega

theorem weakAt_rep {x : Ld} {keep : Int} {n k : Nat} (hk : k < n) : weakAt (List.replicate n x) keep k = decide (x.sl * keep / 1000 < x.wh * ((n - 1 - k : Nat) : Int)) := by
  have e : (List.replicate n x)[k]? = some x := by simp [hk]
  unfold weakAt
  rw [e]
  simp only [List.drop_replicate]
  rw [sumHi_rep, show n - (k + 1) = n - 1 - k by omega]

/-- A stack of equal boxes is weak where the others are too heavy for the lowest one. -/
theorem weak_rep {x : Ld} {keep : Int} (h0 : 0 ≤ x.wh) (n : Nat) : weakV (List.replicate (n + 1) x) keep = .tuple #[.int .i64 0, .bool (decide (x.sl * keep / 1000 < x.wh * (n : Int)))] := by
  unfold weakV
  cases hd : decide (x.sl * keep / 1000 < x.wh * (n : Int)) with
  | true =>
    rw [weakO_some (k := 0) (by simp) (by rw [weakAt_rep (by omega)]; simpa using hd) (fun j hj => by omega)]
    rfl
  | false =>
    rw [weakO_none (fun k hk => by
      have hk' : k < n + 1 := by simpa using hk
      rw [weakAt_rep hk']
      have h1 : x.wh * ((n + 1 - 1 - k : Nat) : Int) ≤ x.wh * (n : Int) := Int.mul_le_mul_of_nonneg_left (by omega) h0
      simp only [decide_eq_false_iff_not] at hd ⊢
      omega)]

theorem callHigh (args : Array Value) (W : World) : (callFunc 97 args).run Try.prog W = .ok (.enter 97 args) W := by kernel_rfl

set_option maxRecDepth 100000 in
set_option maxHeartbeats 2000000 in
theorem highClosure (X : Ld) (hx : LdOk X) (keep : Int) (k0 : 0 ≤ keep) (k1 : keep ≤ 1000) (h : Nat) (hh : h < 1000 - 1) (b1 b2 : Nat) (a : Option Addr) (cap : Nat) (W : World) (q1 : W.cell? ⟨b1, 0, none⟩ = some (.slice a 1 cap)) (q2 : W.cell? ⟨b2, 0, none⟩ = some (.int .i64 keep)) (hr : LRow W a [X]) :
    Calls Try.prog 97 #[.int .i64 (h : Int), .pointer (some ⟨b1, 0, none⟩), .pointer (some ⟨b2, 0, none⟩)] W fun e W' => e = .returned (.bool (decide (X.sl * keep / 1000 < X.wh * (h : Int)))) ∧ Gr W W' := by
  have hw0 : 0 ≤ X.wh := hx.1.2.2.1
  obtain ⟨d, hd⟩ : ∃ d, decide (X.sl * keep / 1000 < X.wh * (h : Int)) = d := ⟨_, rfl⟩
  have hwk : weakV (List.replicate (h + 1) X) keep = .tuple #[.int .i64 0, .bool d] := by rw [weak_rep hw0, hd]
  have hall : ∀ y ∈ List.replicate (h + 1) X, LdOk y := fun y hy => by rw [(List.mem_replicate.1 hy).2]; exact hx
  have hlen : (List.replicate (h + 1) X).length = h + 1 := by simp
  have e0 : IntKind.i64.wrap ((h : Int) + 1) = ((h + 1 : Nat) : Int) := by rw [IntWalk.i64_in _ (by omega)]; omega
  rw [hd]
  clear hd
  go_enter Try.func97, Try.ntmps97
  go_upto_region 1 with fail
  refine wp_region_facts 10 [(2, 1), (3, 0), (3, 2), (5, 3), (5, 4), (6, 5), (7, 6), (8, 6), (9, 7)] (fun x => ⟨#[.int .i64 (h : Int), .pointer (some ⟨b1, 0, none⟩), .pointer (some ⟨b2, 0, none⟩), undef, .bool false, x 9, undef, x 6, x 0, x 1, x 2, x 3, x 4, x 5, x 7, x 8, undef], []⟩) (fun _ => undef) [fun _ x => x = .slice a 1 cap, fun _ x => x = .int .i64 (h : Int), fun _ x => x = .int .i64 ((h + 1 : Nat) : Int), fun v x => ∃ a, x = .slice a (h + 1) (h + 1) ∧ LRow v a (List.replicate (h + 1) X), fun _ x => x = .int .i64 keep, fun _ x => x = .tuple #[.int .i64 0, .bool d], fun _ x => x = .tuple #[.int .i64 0, .bool d], fun _ x => x = .int .i64 0, fun _ x => x = .bool d, fun _ x => x = .int .i64 0] (by rfl) (by kernel_rfl) (by kernel_rfl) (by kernel_rfl) (stays_cons (Stays.eq _) (stays_cons (Stays.eq _) (stays_cons (Stays.eq _) (stays_cons ((show Stays (fun v x => ∃ a, x = .slice a (h + 1) (h + 1) ∧ LRow v a (List.replicate (h + 1) X)) from fun v v' x g ⟨a, h, r⟩ => ⟨a, h, r.grow g⟩)) (stays_cons (Stays.eq _) (stays_cons (Stays.eq _) (stays_cons (Stays.eq _) (stays_cons (Stays.eq _) (stays_cons (Stays.eq _) (stays_cons (Stays.eq _) stays_nil)))))))))) ?step1 ?fin1
  case step1 =>
    rintro i hi x v gv hd K hK
    have hi8 : i = 0 ∨ i = 1 ∨ i = 2 ∨ i = 3 ∨ i = 4 ∨ i = 5 ∨ i = 6 ∨ i = 7 ∨ i = 8 ∨ i = 9 := by omega
    rcases hi8 with rfl | rfl | rfl | rfl | rfl | rfl | rfl | rfl | rfl | rfl
    · show wpOp Try.prog _ _ 0 K (⟨#[.int .i64 (h : Int), .pointer (some ⟨b1, 0, none⟩), .pointer (some ⟨b2, 0, none⟩), undef, .bool false, x 9, undef, x 6, x 0, x 1, x 2, x 3, x 4, x 5, x 7, x 8, undef], []⟩ : Act) v
      refine wpOp_step rfl (fun K' hK' => ?_)
      have q := gv.keep q1
      go_simp
      exact hK' _ _ (hK _ _ (Below.refl _ _) (at_of rfl (rfl)))
    · show wpOp Try.prog _ _ 1 K (⟨#[.int .i64 (h : Int), .pointer (some ⟨b1, 0, none⟩), .pointer (some ⟨b2, 0, none⟩), undef, .bool false, x 9, undef, x 6, x 0, x 1, x 2, x 3, x 4, x 5, x 7, x 8, undef], []⟩ : Act) v
      refine wpOp_step rfl (fun K' hK' => ?_)
      go_simp
      exact hK' _ _ (hK _ _ (Below.refl _ _) (at_of rfl (rfl)))
    · obtain ⟨x, rfl⟩ := upd_of (show x 1 = .int .i64 (h : Int) from hd 1 _ (by simp) rfl)
      show wpOp Try.prog _ _ 2 K (⟨#[.int .i64 (h : Int), .pointer (some ⟨b1, 0, none⟩), .pointer (some ⟨b2, 0, none⟩), undef, .bool false, x 9, undef, x 6, x 0, .int .i64 (h : Int), x 2, x 3, x 4, x 5, x 7, x 8, undef], []⟩ : Act) v
      refine wpOp_step rfl (fun K' hK' => ?_)
      go_simp
      exact hK' _ _ (hK _ _ (Below.refl _ _) (at_of rfl (rfl)))
    · obtain ⟨x, rfl⟩ := upd_of (show x 0 = .slice a 1 cap from hd 0 _ (by simp) rfl)
      obtain ⟨x, rfl⟩ := upd_of (show x 2 = .int .i64 ((h + 1 : Nat) : Int) from hd 2 _ (by simp) rfl)
      show wpOp Try.prog _ _ 3 K (⟨#[.int .i64 (h : Int), .pointer (some ⟨b1, 0, none⟩), .pointer (some ⟨b2, 0, none⟩), undef, .bool false, x 9, undef, x 6, .slice a 1 cap, x 1, .int .i64 ((h + 1 : Nat) : Int), x 3, x 4, x 5, x 7, x 8, undef], []⟩ : Act) v
      refine wpOp_step rfl (fun K' hK' => ?_)
      go_simp
      refine (repeat_one X (h + 1) (by omega) (by omega) a cap v (hr.grow gv)).mono ?_
      rintro e v' ⟨a3, rfl, hr3, hg⟩
      exact hK' _ _ (hK _ _ hg (at_of rfl (⟨_, rfl, hr3⟩)))
    · show wpOp Try.prog _ _ 4 K (⟨#[.int .i64 (h : Int), .pointer (some ⟨b1, 0, none⟩), .pointer (some ⟨b2, 0, none⟩), undef, .bool false, x 9, undef, x 6, x 0, x 1, x 2, x 3, x 4, x 5, x 7, x 8, undef], []⟩ : Act) v
      refine wpOp_step rfl (fun K' hK' => ?_)
      have q := gv.keep q2
      go_simp
      exact hK' _ _ (hK _ _ (Below.refl _ _) (at_of rfl (rfl)))
    · obtain ⟨a3, e3, r3⟩ := hd 3 _ (by simp) rfl
      obtain ⟨x, rfl⟩ := upd_of (show x 3 = .slice a3 (h + 1) (h + 1) from e3)
      obtain ⟨x, rfl⟩ := upd_of (show x 4 = .int .i64 keep from hd 4 _ (by simp) rfl)
      show wpOp Try.prog _ _ 5 K (⟨#[.int .i64 (h : Int), .pointer (some ⟨b1, 0, none⟩), .pointer (some ⟨b2, 0, none⟩), undef, .bool false, x 9, undef, x 6, x 0, x 1, x 2, .slice a3 (h + 1) (h + 1), .int .i64 keep, x 5, x 7, x 8, undef], []⟩ : Act) v
      refine wpOp_step rfl (fun K' hK' => ?_)
      go_simp
      have c := weak_any (List.replicate (h + 1) X) (by rw [hlen]; omega) hall keep k0 k1 a3 (h + 1) v r3
      rw [hlen, hwk] at c
      refine c.mono ?_
      rintro e v' ⟨rfl, hg⟩
      exact hK' _ _ (hK _ _ hg (at_of rfl (rfl)))
    · obtain ⟨x, rfl⟩ := upd_of (show x 5 = .tuple #[.int .i64 0, .bool d] from hd 5 _ (by simp) rfl)
      show wpOp Try.prog _ _ 6 K (⟨#[.int .i64 (h : Int), .pointer (some ⟨b1, 0, none⟩), .pointer (some ⟨b2, 0, none⟩), undef, .bool false, x 9, undef, x 6, x 0, x 1, x 2, x 3, x 4, .tuple #[.int .i64 0, .bool d], x 7, x 8, undef], []⟩ : Act) v
      refine wpOp_step rfl (fun K' hK' => ?_)
      go_simp
      exact hK' _ _ (hK _ _ (Below.refl _ _) (at_of rfl (rfl)))
    · obtain ⟨x, rfl⟩ := upd_of (show x 6 = .tuple #[.int .i64 0, .bool d] from hd 6 _ (by simp) rfl)
      show wpOp Try.prog _ _ 7 K (⟨#[.int .i64 (h : Int), .pointer (some ⟨b1, 0, none⟩), .pointer (some ⟨b2, 0, none⟩), undef, .bool false, x 9, undef, .tuple #[.int .i64 0, .bool d], x 0, x 1, x 2, x 3, x 4, x 5, x 7, x 8, undef], []⟩ : Act) v
      refine wpOp_step rfl (fun K' hK' => ?_)
      go_simp
      exact hK' _ _ (hK _ _ (Below.refl _ _) (at_of rfl (rfl)))
    · obtain ⟨x, rfl⟩ := upd_of (show x 6 = .tuple #[.int .i64 0, .bool d] from hd 6 _ (by simp) rfl)
      show wpOp Try.prog _ _ 8 K (⟨#[.int .i64 (h : Int), .pointer (some ⟨b1, 0, none⟩), .pointer (some ⟨b2, 0, none⟩), undef, .bool false, x 9, undef, .tuple #[.int .i64 0, .bool d], x 0, x 1, x 2, x 3, x 4, x 5, x 7, x 8, undef], []⟩ : Act) v
      refine wpOp_step rfl (fun K' hK' => ?_)
      go_simp
      exact hK' _ _ (hK _ _ (Below.refl _ _) (at_of rfl (rfl)))
    · obtain ⟨x, rfl⟩ := upd_of (show x 7 = .int .i64 0 from hd 7 _ (by simp) rfl)
      show wpOp Try.prog _ _ 9 K (⟨#[.int .i64 (h : Int), .pointer (some ⟨b1, 0, none⟩), .pointer (some ⟨b2, 0, none⟩), undef, .bool false, x 9, undef, x 6, x 0, x 1, x 2, x 3, x 4, x 5, .int .i64 0, x 8, undef], []⟩ : Act) v
      refine wpOp_step rfl (fun K' hK' => ?_)
      go_simp
      exact hK' _ _ (hK _ _ (Below.refl _ _) (at_of rfl (rfl)))
  case fin1 =>
    rintro x v gv hd
    obtain ⟨x, rfl⟩ := upd_of (show x 8 = .bool d from hd 8 _ (by omega) rfl)
    clear hd
    show wpList Try.prog _ _ (List.drop 10 _) (⟨#[.int .i64 (h : Int), .pointer (some ⟨b1, 0, none⟩), .pointer (some ⟨b2, 0, none⟩), undef, .bool false, x 9, undef, x 6, x 0, x 1, x 2, x 3, x 4, x 5, x 7, .bool d, undef], []⟩ : Act) v
    simp only [List.drop_succ_cons, List.drop_zero]
    go_wp2
    go_ret
    exact ⟨rfl, gv⟩

theorem mono_high {s h : Int} (h0 : 0 ≤ h) : ∀ a b : Int, 0 ≤ a → a ≤ b → b < 50 → decide (s < h * a) = true → decide (s < h * b) = true := fun a b ha hab _ hd => by
  have := Int.mul_le_mul_of_nonneg_left hab h0
  simp only [decide_eq_true_eq] at hd ⊢
  omega

theorem high_calls {x : Ld} (HX : Hid (LdOk x)) {B8 Bb : Nat} {keep : Int} {U W1 W2 : World} (O8 : Hid (Own U B8 [.slice (some ⟨Bb, 0, none⟩) 1 1])) (RB : Hid (LRow U (some ⟨Bb, 0, none⟩) [x])) (G1 : Hid (Gr U W1)) (G2 : Hid (Gr W1 W2)) (k0 : 0 ≤ keep) (k1 : keep ≤ 1000) :
    ∀ (h : Int) (W : World), Gr (W2.alloc (.cells #[.int .i64 keep] 3)) W → 0 ≤ h → h < 50 → Calls Try.prog 97 #[.int .i64 h, .pointer (some ⟨B8, 0, none⟩), .pointer (some ⟨W2.heap.size, 0, none⟩)] W fun e W' => e = .returned (.bool (decide (x.sl * keep / 1000 < x.wh * h))) ∧ Gr W W' := by
  intro h W g h0 h1
  obtain ⟨k, rfl⟩ : ∃ k : Nat, h = (k : Int) := ⟨h.toNat, by omega⟩
  have gg : Gr U W := ((G1.out.tr G2.out).tr (Gr.al _ _)).tr g
  exact highClosure x HX.out keep k0 k1 k (by omega) B8 W2.heap.size _ 1 W ((O8.out.keep gg).1.c1) (((Own.new W2 [.int .i64 keep] 3 _ rfl).keep g).1.c1) (RB.out.grow gg)

set_option maxRecDepth 100000 in
set_option maxHeartbeats 2000000 in
/-- High of what is valid: how many stand. -/
theorem high_ok (x : Ld) (hx : LdOk x) (t : List Stp) (days : Int) (hs : storedL 1 [x] t days = 0) (hn : t.length ≤ 1000000) (hp : t.Pairwise (fun x y => x.day ≤ y.day)) (h0 : 0 < (untilL t days).length) (h1 : (untilL t days).length ≤ t.length) (k0 : 0 ≤ lastL t days) (k1 : lastL t days ≤ 1000)
    (c : Option Addr) (cc : Nat) (hcc : t.length ≤ cc) (w : World) (ht : TRow w c t) :
    Calls Try.prog 45 #[.agg #[.int .i64 x.sl, .int .i64 x.sh, .int .i64 x.wl, .int .i64 x.wh], .slice c t.length cc, .int .i64 days] w fun e w' => ∃ r, e = .returned (.tuple #[.int .i64 r, .int .i64 0]) ∧ 0 ≤ r ∧ r ≤ 50 ∧ (∀ a, 0 ≤ a → a < r → decide (x.sl * lastL t days / 1000 < x.wh * a) = false) ∧ (∀ a, r ≤ a → a < 50 → decide (x.sl * lastL t days / 1000 < x.wh * a) = true) ∧ Gr w w' := by
  have hw0 : 0 ≤ x.wh := hx.1.2.2.1
  have HS := Lib.hid hs
  have HP := Lib.hid hp
  have HX := Lib.hid hx
  clear hs hp hx
  go_enter Try.func45, Try.ntmps45
  go_upto_region 2 with fail
  have gU := (Gr.al w (.cells #[.int .i64 x.sl, .int .i64 x.sh, .int .i64 x.wl, .int .i64 x.wh] 70)).tr ((Gr.al _ (.cells #[.int .i64 x.sl, .int .i64 x.sh, .int .i64 x.wl, .int .i64 x.wh] 70)).tr (Gr.al _ (.cells #[.slice (some ⟨w.heap.size + 1, 0, none⟩) 1 1] 53)))
  have oB := (Own.new (w.alloc (.cells #[.int .i64 x.sl, .int .i64 x.sh, .int .i64 x.wl, .int .i64 x.wh] 70)) [.int .i64 x.sl, .int .i64 x.sh, .int .i64 x.wl, .int .i64 x.wh] 70 (w.heap.size + 1) (by simp)).keep (Gr.al _ (.cells #[.slice (some ⟨w.heap.size + 1, 0, none⟩) 1 1] 53))
  have o8 := Own.new ((w.alloc (.cells #[.int .i64 x.sl, .int .i64 x.sh, .int .i64 x.wl, .int .i64 x.wh] 70)).alloc (.cells #[.int .i64 x.sl, .int .i64 x.sh, .int .i64 x.wl, .int .i64 x.wh] 70)) [.slice (some ⟨w.heap.size + 1, 0, none⟩) 1 1] 53 (w.heap.size + 1 + 1) (by simp)
  refine wp_abs (fun U => Gr w U ∧ Own U (w.heap.size + 1) [.int .i64 x.sl, .int .i64 x.sh, .int .i64 x.wl, .int .i64 x.wh] ∧ Own U (w.heap.size + 1 + 1) [.slice (some ⟨w.heap.size + 1, 0, none⟩) 1 1]) ⟨gU, oB, o8⟩ ?_
  clear gU oB o8
  rintro U ⟨gU, oB, o8⟩
  have rB : LRow U (some ⟨w.heap.size + 1, 0, none⟩) [x] := by
    refine ⟨by simp, fun j y hy => ?_⟩
    have hj : j = 0 := by
      have := (List.getElem?_eq_some_iff.1 hy).1
      simpa using this
    subst hj
    have ey : x = y := by simpa using hy
    subst ey
    exact ⟨_, _, rfl, oB.1.1, fun i v hv => by simpa using oB.1.2 i v hv⟩
  have q8 := o8.1.c1
  have RB := Lib.hid rB
  have O8 := Lib.hid o8
  have GU := Lib.hid gU
  clear oB o8 rB gU
  have cS : ∀ W, Gr U W → Calls Try.prog 88 #[.slice (some ⟨w.heap.size + 1, 0, none⟩) 1 1, .int .i64 1, .slice c t.length cc, .int .i64 days] W fun e w' => e = .returned (.int .i64 0) ∧ Gr W w' := fun W g => by
    have h := stored_any 1 [x] t days (some ⟨w.heap.size + 1, 0, none⟩) c 1 cc W (RB.out.grow g) (ht.grow (GU.out.tr g))
    rw [HS.out] at h
    exact h
  have CS := Lib.hid cS
  clear cS
  go_wp2_with (first
    | (go_at_call 88; refine (CS.out _ (Below.refl _ _)).mono ?_; rintro e w1 ⟨rfl, g1⟩; have G1 := Lib.hid g1; clear g1)
    | (go_at_call 95; refine (last_any t days hn HP.out h0 h1 c cc hcc _ (ht.grow (GU.out.tr G1.out))).mono ?_; rintro e w2 ⟨rfl, g2⟩; have G2 := Lib.hid g2; clear g2)
    | (go_at_call 96; refine (search2 50 (by omega) (by omega) (fun a => decide (x.sl * lastL t days / 1000 < x.wh * a)) (mono_high hw0) 97 (.pointer (some ⟨w.heap.size + 1 + 1, 0, none⟩)) (.pointer (some ⟨w2.heap.size, 0, none⟩)) _ callHigh (high_calls HX O8 RB G1 G2 k0 k1)).mono ?_; rintro e w3 ⟨r, rfl, r0, r1, hlo, hhi, g3⟩))
  go_ret2
  exact ⟨r, rfl, r0, r1, hlo, hhi, ((GU.out.tr (G1.out.tr G2.out)).tr (Gr.al _ _)).tr g3⟩

end Go.Proofs.Ytcdilmagcdbogaa

namespace Go.Proofs.Ytcdilmagcdbogaa
set_option linter.unusedVariables false
set_option linter.unusedSimpArgs false
open Go.RowKit

theorem strong_lo : strongB 1600 587 5000 4000 = 74226 := by
  unfold strongB
  rw [show (4000 : Int) * 1600 = 6400000 from rfl, rootL_is (n := 6400000) (r := 2529) (by omega) (by omega) (by omega) (by omega)]
  rfl

theorem strong_hi : strongB 1600 587 6000 4200 = 91290 := by
  unfold strongB
  rw [show (4200 : Int) * 1600 = 6720000 from rfl, rootL_is (n := 6720000) (r := 2592) (by omega) (by omega) (by omega) (by omega)]
  rfl

theorem crush1 (w : World) : Calls Try.prog 31 #[.agg #[.int .i64 5000, .int .i64 6000, .int .i64 4000, .int .i64 4200, .int .i64 1600, .int .i64 587]] w fun e w' => e = .returned (.tuple #[.agg #[.int .i64 74226, .int .i64 91290], .int .i64 0]) ∧ Gr w w' := by
  have h := crushStrength_ok 5000 6000 4000 4200 1600 587 (by decide +kernel) w
  rw [strong_lo, strong_hi] at h
  exact h

def ld0 : Ld := ⟨300, 320, 100, 110⟩

def ts0 : List Stp := [⟨0, 1000⟩, ⟨10, 800⟩, ⟨30, 600⟩]

theorem stored0 : storedL 1 [ld0] ts0 10 = 0 := by decide +kernel

theorem until0 : (untilL ts0 10).length = 2 := by decide +kernel

theorem last0 : lastL ts0 10 = 800 := by decide +kernel

theorem high1 (c : Option Addr) (w : World) (ht : TRow w c ts0) : Calls Try.prog 45 #[.agg #[.int .i64 300, .int .i64 320, .int .i64 100, .int .i64 110], .slice c 3 3, .int .i64 10] w fun e w' => e = .returned (.tuple #[.int .i64 3, .int .i64 0]) ∧ Gr w w' := by
  have h := high_ok ld0 (by simp [LdOk, LdB, ld0]) ts0 10 stored0 (by simp [ts0]) (by simp [ts0]) (by rw [until0]; omega) (by rw [until0]; simp [ts0]) (by rw [last0]; omega) (by rw [last0]; omega) c 3 (by simp [ts0]) w ht
  rw [last0] at h
  refine h.mono ?_
  rintro e w' ⟨r, rfl, r0, r1, hlo, hhi, g⟩
  obtain rfl : r = 3 := by
    rcases Int.lt_trichotomy r 3 with h | h | h
    · have := hhi 2 (by omega) (by omega)
      simp [ld0] at this
    · exact h
    · have := hlo 3 (by omega) h
      simp [ld0] at this
  exact ⟨rfl, g⟩

end Go.Proofs.Ytcdilmagcdbogaa
