/- score's panel: the smallest panel with its flaps. (Made by gen_s25.py.) wp_region_facts, and some of the values lie in blocks of their own, none of which is another's. score's empty and smallest. (Made by gen_s26.py.) score.Blank in general. (Made by gen_s27.py.) score.May in general. (Made by gen_s28.py.) The helpers of chapter 2's statements: span, wish, box, Ints, Same. (Made by gen_s30.py.) Contracts of slices.Max and of Size. A region that draws its order: many operations that only read, one operation that does not wait for them (an allocation), then stores: one walk of the reads serves every order. -/
import Derived.Test.YtafkoococfnakaaQS32c
import Derived.Lib.MinMax
import Derived.Sort.CutIn
import Derived.Test.YtafkoococfnakaaQS32a
import Derived.Deep.OwnRows
import Derived.Test.YtafkoococfnakaaQS32b
import Derived.Deep.CutRange
import Derived.BigQuiet
namespace Go.Proofs.Ytafkoococfnakaa
set_option linter.unusedVariables false
set_option linter.unusedSimpArgs false
open Go.RowKit Go.Shelf
attribute [local go_sem] Oper.semAt_some

theorem panelR (X : Sx) (hR : RmOk X.R) {i : Nat} (hi : i < 4) (w : World) (hr : IRow w X.ra X.R.pan) :
    Calls Try.prog 103 #[.agg #[.int .i64 X.tab, .slice X.ra X.R.pan.length X.rac, .int .i64 X.R.hei, .slice X.rt X.R.top.length X.rtc, .slice X.rb X.R.bot.length X.rbc, .int .i64 X.R.slo, .bool X.R.opn, .int .i64 X.R.off, .slice X.rt X.R.top.length X.rtc, .slice X.rb X.R.bot.length X.rbc], .int .i64 i] w fun e w' => e = .returned (.agg #[.int .i64 (X.R.pn i).lo, .int .i64 (X.R.pn i).hi]) ∧ Gr w w' := by
  obtain ⟨x, hx⟩ := get_of_lt (show i < X.R.pan.length by rw [hR.l4]; exact hi)
  obtain ⟨a, b⟩ := in_at hR.gpan hx
  unfold Rm.pn
  rw [getD_eq hx]
  exact panel_any _ _ _ _ _ _ _ _ _ _ _ _ _ _ i x hx a b hR.o0 hR.o1 w hr

theorem panK {d : Dr} {k : Nat} (h4 : k < 4) (hD : DrL d) {v : Int} (v0 : 0 ≤ v) (v1 : v ≤ 3000) : DrK (d.put (.pan k) v) k := by
  have hL := hD.put (.pan k) v
  refine ⟨hL.p, hL.t, hL.b, fun _ u hu => ?_, fun h => by omega, fun h => by omega, fun h => by omega, fun h => by omega, fun h => by omega⟩
  obtain rfl := set_get hu
  exact ⟨v0, v1⟩

theorem heiK {d : Dr} (hD : DrL d) {v : Int} (v0 : 0 ≤ v) (v1 : v ≤ 3000) : DrK (d.put .hei v) 4 :=
  ⟨hD.p, hD.t, hD.b, fun h => by omega, fun h => by omega, fun _ => ⟨v0, v1⟩, fun h => by omega, fun h => by omega, fun h => by omega⟩

theorem sloK {d : Dr} (hD : DrL d) {v : Int} (v0 : 0 ≤ v) (v1 : v ≤ 3000) : DrK (d.put .slo v) 9 :=
  ⟨hD.p, hD.t, hD.b, fun h => by omega, fun _ h => by omega, fun h => by omega, fun _ h => by omega, fun _ h => by omega, fun _ => ⟨v0, v1⟩⟩

def markS (D : Nat) : Deferred := { target := .collected D, args := #[] }

theorem leaves_markS {F : Fence} {n : Nat} {P : Program} {fn : Func} {tmps : Array Value} {R : Ending → World → Prop} : ∀ (Ds : List Nat) (w : World), (∀ D ∈ Ds, w.heap[D]? = some (.deferred (some []))) → Ds.Nodup →
    (∀ w', Kx (fun b => b ∈ Ds) w w' → LeavesIn F n P fn tmps R [] .returning w') → LeavesInM F n P fn tmps R (Ds.map markS) .returning w
  | [], w, _, _, h => h w (Kx.refl _ _)
  | D :: Ds, w, hm, hn, h => by
    have hD := hm D (by simp)
    obtain ⟨hn1, hn2⟩ := List.nodup_cons.1 hn
    refine ⟨by simp, .inl ⟨D, _, rfl, run_takeDeferred hD, leaves_markS Ds _ (fun E hE => ?_) hn2 (fun w' hk => h w' ?_)⟩⟩
    · exact (World.putObj_heap_other (k := E) (r := D) (by rintro rfl; exact hn1 hE)).trans (hm E (by simp [hE]))
    · exact (Kx.put (Z := fun b => b ∈ D :: Ds) (by simp) _).th hk fun i e => .inl (by simp [e])

theorem wpIn_abs {F : Fence} {n : Nat} {P : Program} {c : Code} {Q : Exit → Act → World → Prop} {a : Act} {w : World} (p : World → Prop) (h : p w) (k : ∀ W, p W → c.wpIn F n P Q a W) : c.wpIn F n P Q a w := k w h

theorem flapsFrom_L {R : Rm} {W : Wi} {cl ch : Int} {i : Nat} : ∀ (n k : Nat) (d : Dr), DrL d → DrL (flapsFrom R W cl ch i n k d).1
  | 0, _, _, h => h
  | n + 1, k, d, h => by
    rw [flapsFrom]
    split
    · split
      · exact flapsFrom_L n _ _ (h.put _ _)
      · exact h.put _ _
    · exact flapsFrom_L n _ _ h

/-- Between the rounds: what is drawn, how far the checks came. -/
def PInv (X : Sx) (i : Nat) (P0 : Int) (N b4 : Nat) (r0 : Dr × Nat) (X0 : Nat → Prop) (W4 : World) (pre : List Int) (X' Y : Nat → Prop) (W : World) : Prop :=
  X' = X0 ∧ (∀ k, Y k → W4.heap.size ≤ k) ∧ Kx X0 W4 W ∧ pre.length ≤ N ∧ ∃ (d' : Dr) (f : Nat), Se X d' W ∧ Own W b4 [.int .i64 (f : Int)] ∧ DrL d' ∧ panelFrom X.R X.W X.cl X.ch i (N - pre.length) (P0 + (pre.length : Int)) d' f = r0

theorem PInv.ab {X : Sx} {i : Nat} {P0 : Int} {N b4 : Nat} {r0 : Dr × Nat} {X0 : Nat → Prop} {W4 : World} (hZ : ∀ k, X.Z k → k < W4.heap.size) (h4 : b4 < W4.heap.size) (pre : List Int) (X' : Nat → Prop) : Ab (PInv X i P0 N b4 r0 X0 W4 pre X') := by
  rintro Y Y' A B ⟨h1, h2, h3, h5, d', f, h6, h7, h8, h9⟩ hk hy
  have hs := h3.size
  refine ⟨h1, fun k e => ?_, h3.th hk fun k e => .inr (h2 k e), h5, d', f, h6.kx hk (fun k e e' => ?_), h7.kx hk (fun e => ?_), h8, h9⟩
  · rcases hy k e with e | e
    · exact h2 k e
    · omega
  · have := hZ k e; have := h2 k e'; omega
  · have := h2 _ e; omega

/-- Behind a round that was the last one. -/
def PEnd (X : Sx) (b4 : Nat) (r0 : Dr × Nat) (X0 : Nat → Prop) (W4 : World) (c : Code) (pre : List Int) (Y : Nat → Prop) (W : World) : Prop :=
  c = .exit 0 ∧ (∀ k, Y k → W4.heap.size ≤ k) ∧ Kx X0 W4 W ∧ ∃ (d' : Dr) (f : Nat), Se X d' W ∧ Own W b4 [.int .i64 (f : Int)] ∧ (d', f) = r0

theorem PEnd.ab {X : Sx} {b4 : Nat} {r0 : Dr × Nat} {X0 : Nat → Prop} {W4 : World} (hZ : ∀ k, X.Z k → k < W4.heap.size) (h4 : b4 < W4.heap.size) (c : Code) (pre : List Int) : Ab (PEnd X b4 r0 X0 W4 c pre) := by
  rintro Y Y' A B ⟨h1, h2, h3, d', f, h6, h7, h9⟩ hk hy
  have hs := h3.size
  refine ⟨h1, fun k e => ?_, h3.th hk fun k e => .inr (h2 k e), d', f, h6.kx hk (fun k e e' => ?_), h7.kx hk (fun e => ?_), h9⟩
  · rcases hy k e with e | e
    · exact h2 k e
    · omega
  · have := hZ k e; have := h2 k e'; omega
  · have := h2 _ e; omega

set_option maxRecDepth 100000 in
set_option maxHeartbeats 8000000 in
theorem panelS_any (X : Sx) (D : X.Dis) (hR : RmOk X.R) (i : Nat) (hi : i < 4) (d : Dr) (hD : DrL d) (hW : X.W.ok) (w : World) (hS : Se X d w) (hr : RoomRows X w) :
    Calls Try.prog 98 #[.pointer (some ⟨X.S, 0, none⟩), .int .i64 i] w fun e w' => e = .returned (.int .i64 ((panelD X.R X.W X.cl X.ch i d).2 : Int)) ∧ Se X (panelD X.R X.W X.cl X.ch i d).1 w' ∧ Kx X.Z w w' := by
  refine (callsIn_wide (n := 20)).1 ?_
  obtain ⟨r0, hr0⟩ : ∃ r0, r0 = panelD X.R X.W X.cl X.ch i d := ⟨_, rfl⟩
  rw [← hr0]
  have HR0 := Lib.hid hr0
  have hz : ∀ k, X.Z k → k < w.heap.size := fun k e => hS.lt e
  have gg := ((Gr.al w (.cells #[.pointer (some ⟨X.S, 0, none⟩)] 184)).tr (Gr.al _ (.cells #[.int .i64 (i : Int)] 3))).tr (Gr.al _ (.cells #[.int .i64 0] 3))
  have o2 := (Own.new w [.pointer (some ⟨X.S, 0, none⟩)] 184 w.heap.size rfl).keep ((Gr.al _ (.cells #[.int .i64 (i : Int)] 3)).tr (Gr.al _ (.cells #[.int .i64 0] 3)))
  have o3 := (Own.new (w.alloc (.cells #[.pointer (some ⟨X.S, 0, none⟩)] 184)) [.int .i64 (i : Int)] 3 (w.heap.size + 1) (by simp)).keep (Gr.al _ (.cells #[.int .i64 0] 3))
  have o4 := Own.new ((w.alloc (.cells #[.pointer (some ⟨X.S, 0, none⟩)] 184)).alloc (.cells #[.int .i64 (i : Int)] 3)) [.int .i64 0] 3 (w.heap.size + 1 + 1) (by simp)
  have hS0 := hS.gr gg
  clear hr0
  refine callsIn_of_wp_marks Try.func98 rfl trivial ?_ rfl
  simp only [Try.ntmps98, List.size_toArray, List.length_cons, List.length_nil, Nat.reduceAdd, Nat.reduceSub, Array.replicate_succ, Array.replicate_zero, List.push_toArray, List.append_toArray, List.nil_append, List.cons_append]
  refine wpIn_wide.2 ?_
  go_upto_region 1 with fail
  refine wp_abs (fun U => Gr w U ∧ Se X d U ∧ Own U w.heap.size [.pointer (some ⟨X.S, 0, none⟩)] ∧ Own U (w.heap.size + 1) [.int .i64 (i : Int)] ∧ Own U (w.heap.size + 1 + 1) [.int .i64 0]) ⟨gg, hS0, o2, o3, o4⟩ ?_
  clear gg hS0 o2 o3 o4
  rintro U ⟨gU, hS1, o2, o3, o4⟩
  have hrU : IRow U X.ra X.R.pan := (hr U (Kx.gr gU)).1
  have i2 := o2.1.c1
  have i3 := o3.1.c1
  have hi4 : (i : Int) < 4 := by omega
  refine wp_region_fresh2 17 14 16 15 17 [.int .i64 0, .int .i64 0] [.int .i64 (X.R.pn i).lo, .int .i64 (X.R.pn i).hi] [.pointer none] [.pointer none] 37 168 [(1, 0), (2, 1), (3, 2), (5, 3), (5, 4), (7, 6), (8, 7), (9, 8), (10, 9), (11, 10), (13, 11), (13, 12), (16, 5), (16, 14)] (fun x => ⟨#[.pointer (some ⟨X.S, 0, none⟩), .int .i64 (i : Int), .pointer (some ⟨w.heap.size, 0, none⟩), .pointer (some ⟨(w.heap.size + 1), 0, none⟩), .pointer (some ⟨(w.heap.size + 1 + 1), 0, none⟩), x 14, x 15, undef, x 0, x 1, x 2, x 3, x 4, x 5, x 6, x 7, x 8, x 9, x 10, x 11, x 12, x 13, undef, undef, undef, undef, undef, undef, undef, undef, undef, undef, undef, undef, undef, undef, undef, undef, undef, undef, undef, undef, undef, undef, undef, undef, undef, undef, undef, undef, undef, undef, undef], []⟩) (fun _ => undef) [fun _ x => x = .pointer (some ⟨X.S, 0, none⟩), fun _ x => x = .pointer (some ⟨X.S, 0, none⟩), fun _ x => x = .pointer (some ⟨X.S, 0, none⟩), fun _ x => x = .agg #[.int .i64 X.tab, .slice X.ra X.R.pan.length X.rac, .int .i64 X.R.hei, .slice X.rt X.R.top.length X.rtc, .slice X.rb X.R.bot.length X.rbc, .int .i64 X.R.slo, .bool X.R.opn, .int .i64 X.R.off, .slice X.rt X.R.top.length X.rtc, .slice X.rb X.R.bot.length X.rbc], fun _ x => x = .int .i64 (i : Int), fun _ x => x = .agg #[.int .i64 (X.R.pn i).lo, .int .i64 (X.R.pn i).hi], fun _ x => x = .pointer (some ⟨X.S, 0, none⟩), fun _ x => x = .pointer (some ⟨X.S, 0, none⟩), fun _ x => x = .pointer (some ⟨X.S, 23, none⟩), fun _ x => x = .pointer (some ⟨X.S, 23, none⟩), fun _ x => x = .pointer (some ⟨X.S, 24, none⟩), fun _ x => x = .slice (some ⟨X.P, 0, none⟩) 4 X.pc, fun _ x => x = .int .i64 (i : Int), fun _ x => x = .pointer (some ⟨X.P, i, none⟩), fun _ _ => True, fun _ _ => True, fun _ _ => True] (by rfl) (by kernel_rfl) (by kernel_rfl) (by kernel_rfl) (by simp) (fun h => absurd h (by omega)) (by decide) (by omega) (staysZ_cons (StaysZ.eq _ _) (staysZ_cons (StaysZ.eq _ _) (staysZ_cons (StaysZ.eq _ _) (staysZ_cons (StaysZ.eq _ _) (staysZ_cons (StaysZ.eq _ _) (staysZ_cons (StaysZ.eq _ _) (staysZ_cons (StaysZ.eq _ _) (staysZ_cons (StaysZ.eq _ _) (staysZ_cons (StaysZ.eq _ _) (staysZ_cons (StaysZ.eq _ _) (staysZ_cons (StaysZ.eq _ _) (staysZ_cons (StaysZ.eq _ _) (staysZ_cons (StaysZ.eq _ _) (staysZ_cons (StaysZ.eq _ _) (staysZ_cons (fun _ _ _ _ _ => trivial) (staysZ_cons (fun _ _ _ _ _ => trivial) (staysZ_cons (fun _ _ _ _ _ => trivial) staysZ_nil))))))))))))))))) ?step1 ?pa1 ?pb1 ?qa1 ?qb1 ?fin1
  case step1 =>
    rintro i8 hi8 n1 n2 n3 n4 x v gv hd K hK
    have hi9 : i8 = 0 ∨ i8 = 1 ∨ i8 = 2 ∨ i8 = 3 ∨ i8 = 4 ∨ i8 = 5 ∨ i8 = 6 ∨ i8 = 7 ∨ i8 = 8 ∨ i8 = 9 ∨ i8 = 10 ∨ i8 = 11 ∨ i8 = 12 ∨ i8 = 13 := by omega
    rcases hi9 with rfl | rfl | rfl | rfl | rfl | rfl | rfl | rfl | rfl | rfl | rfl | rfl | rfl | rfl
    · show wpOp Try.prog _ _ 0 K (⟨#[.pointer (some ⟨X.S, 0, none⟩), .int .i64 (i : Int), .pointer (some ⟨w.heap.size, 0, none⟩), .pointer (some ⟨(w.heap.size + 1), 0, none⟩), .pointer (some ⟨(w.heap.size + 1 + 1), 0, none⟩), x 14, x 15, undef, x 0, x 1, x 2, x 3, x 4, x 5, x 6, x 7, x 8, x 9, x 10, x 11, x 12, x 13, undef, undef, undef, undef, undef, undef, undef, undef, undef, undef, undef, undef, undef, undef, undef, undef, undef, undef, undef, undef, undef, undef, undef, undef, undef, undef, undef, undef, undef, undef, undef], []⟩ : Act) v
      have q := gv.keep i2
      refine wpOp_step rfl (fun K' hK' => ?_)
      go_simp
      exact hK' _ _ (hK _ _ (Below.refl _ _) (at_of rfl rfl))
    · obtain ⟨x, rfl⟩ := upd_of (show x 0 = .pointer (some ⟨X.S, 0, none⟩) from hd 0 _ (by simp) (by decide) rfl)
      show wpOp Try.prog _ _ 1 K (⟨#[.pointer (some ⟨X.S, 0, none⟩), .int .i64 (i : Int), .pointer (some ⟨w.heap.size, 0, none⟩), .pointer (some ⟨(w.heap.size + 1), 0, none⟩), .pointer (some ⟨(w.heap.size + 1 + 1), 0, none⟩), x 14, x 15, undef, .pointer (some ⟨X.S, 0, none⟩), x 1, x 2, x 3, x 4, x 5, x 6, x 7, x 8, x 9, x 10, x 11, x 12, x 13, undef, undef, undef, undef, undef, undef, undef, undef, undef, undef, undef, undef, undef, undef, undef, undef, undef, undef, undef, undef, undef, undef, undef, undef, undef, undef, undef, undef, undef, undef, undef], []⟩ : Act) v
      refine wpOp_step rfl (fun K' hK' => ?_)
      go_simp
      exact hK' _ _ (hK _ _ (Below.refl _ _) (at_of rfl rfl))
    · obtain ⟨x, rfl⟩ := upd_of (show x 1 = .pointer (some ⟨X.S, 0, none⟩) from hd 1 _ (by simp) (by decide) rfl)
      show wpOp Try.prog _ _ 2 K (⟨#[.pointer (some ⟨X.S, 0, none⟩), .int .i64 (i : Int), .pointer (some ⟨w.heap.size, 0, none⟩), .pointer (some ⟨(w.heap.size + 1), 0, none⟩), .pointer (some ⟨(w.heap.size + 1 + 1), 0, none⟩), x 14, x 15, undef, x 0, .pointer (some ⟨X.S, 0, none⟩), x 2, x 3, x 4, x 5, x 6, x 7, x 8, x 9, x 10, x 11, x 12, x 13, undef, undef, undef, undef, undef, undef, undef, undef, undef, undef, undef, undef, undef, undef, undef, undef, undef, undef, undef, undef, undef, undef, undef, undef, undef, undef, undef, undef, undef, undef, undef], []⟩ : Act) v
      refine wpOp_step rfl (fun K' hK' => ?_)
      go_simp
      exact hK' _ _ (hK _ _ (Below.refl _ _) (at_of rfl rfl))
    · obtain ⟨x, rfl⟩ := upd_of (show x 2 = .pointer (some ⟨X.S, 0, none⟩) from hd 2 _ (by simp) (by decide) rfl)
      show wpOp Try.prog _ _ 3 K (⟨#[.pointer (some ⟨X.S, 0, none⟩), .int .i64 (i : Int), .pointer (some ⟨w.heap.size, 0, none⟩), .pointer (some ⟨(w.heap.size + 1), 0, none⟩), .pointer (some ⟨(w.heap.size + 1 + 1), 0, none⟩), x 14, x 15, undef, x 0, x 1, .pointer (some ⟨X.S, 0, none⟩), x 3, x 4, x 5, x 6, x 7, x 8, x 9, x 10, x 11, x 12, x 13, undef, undef, undef, undef, undef, undef, undef, undef, undef, undef, undef, undef, undef, undef, undef, undef, undef, undef, undef, undef, undef, undef, undef, undef, undef, undef, undef, undef, undef, undef, undef], []⟩ : Act) v
      refine wpOp_step rfl (fun K' hK' => ?_)
      rw [if_pos (by rfl)]
      refine wp_load_mid 124 _ rfl X.S 0 (by rfl) [.int .i64 X.tab, .slice X.ra X.R.pan.length X.rac, .int .i64 X.R.hei, .slice X.rt X.R.top.length X.rtc, .slice X.rb X.R.bot.length X.rbc, .int .i64 X.R.slo, .bool X.R.opn, .int .i64 X.R.off, .slice X.rt X.R.top.length X.rtc, .slice X.rb X.R.bot.length X.rbc] _ (fun j u hu => (hS1.gr gv).at0 j u hu) Try.underlying124 rfl (by kernel_rfl) ?_
      exact hK' _ _ (hK _ _ (Below.refl _ _) (at_of rfl rfl))
    · show wpOp Try.prog _ _ 4 K (⟨#[.pointer (some ⟨X.S, 0, none⟩), .int .i64 (i : Int), .pointer (some ⟨w.heap.size, 0, none⟩), .pointer (some ⟨(w.heap.size + 1), 0, none⟩), .pointer (some ⟨(w.heap.size + 1 + 1), 0, none⟩), x 14, x 15, undef, x 0, x 1, x 2, x 3, x 4, x 5, x 6, x 7, x 8, x 9, x 10, x 11, x 12, x 13, undef, undef, undef, undef, undef, undef, undef, undef, undef, undef, undef, undef, undef, undef, undef, undef, undef, undef, undef, undef, undef, undef, undef, undef, undef, undef, undef, undef, undef, undef, undef], []⟩ : Act) v
      have q := gv.keep i3
      refine wpOp_step rfl (fun K' hK' => ?_)
      go_simp
      exact hK' _ _ (hK _ _ (Below.refl _ _) (at_of rfl rfl))
    · obtain ⟨x, rfl⟩ := upd_of (show x 3 = .agg #[.int .i64 X.tab, .slice X.ra X.R.pan.length X.rac, .int .i64 X.R.hei, .slice X.rt X.R.top.length X.rtc, .slice X.rb X.R.bot.length X.rbc, .int .i64 X.R.slo, .bool X.R.opn, .int .i64 X.R.off, .slice X.rt X.R.top.length X.rtc, .slice X.rb X.R.bot.length X.rbc] from hd 3 _ (by simp) (by decide) rfl)
      obtain ⟨x, rfl⟩ := upd_of (show x 4 = .int .i64 (i : Int) from hd 4 _ (by simp) (by decide) rfl)
      show wpOp Try.prog _ _ 5 K (⟨#[.pointer (some ⟨X.S, 0, none⟩), .int .i64 (i : Int), .pointer (some ⟨w.heap.size, 0, none⟩), .pointer (some ⟨(w.heap.size + 1), 0, none⟩), .pointer (some ⟨(w.heap.size + 1 + 1), 0, none⟩), x 14, x 15, undef, x 0, x 1, x 2, .agg #[.int .i64 X.tab, .slice X.ra X.R.pan.length X.rac, .int .i64 X.R.hei, .slice X.rt X.R.top.length X.rtc, .slice X.rb X.R.bot.length X.rbc, .int .i64 X.R.slo, .bool X.R.opn, .int .i64 X.R.off, .slice X.rt X.R.top.length X.rtc, .slice X.rb X.R.bot.length X.rbc], .int .i64 (i : Int), x 5, x 6, x 7, x 8, x 9, x 10, x 11, x 12, x 13, undef, undef, undef, undef, undef, undef, undef, undef, undef, undef, undef, undef, undef, undef, undef, undef, undef, undef, undef, undef, undef, undef, undef, undef, undef, undef, undef, undef, undef, undef, undef], []⟩ : Act) v
      refine wpOp_step rfl (fun K' hK' => ?_)
      go_simp
      refine (panelR X hR hi v (hrU.grow gv)).mono ?_
      rintro e v' ⟨rfl, hg⟩
      exact hK' _ _ (hK _ _ hg (at_of rfl rfl))
    · show wpOp Try.prog _ _ 6 K (⟨#[.pointer (some ⟨X.S, 0, none⟩), .int .i64 (i : Int), .pointer (some ⟨w.heap.size, 0, none⟩), .pointer (some ⟨(w.heap.size + 1), 0, none⟩), .pointer (some ⟨(w.heap.size + 1 + 1), 0, none⟩), x 14, x 15, undef, x 0, x 1, x 2, x 3, x 4, x 5, x 6, x 7, x 8, x 9, x 10, x 11, x 12, x 13, undef, undef, undef, undef, undef, undef, undef, undef, undef, undef, undef, undef, undef, undef, undef, undef, undef, undef, undef, undef, undef, undef, undef, undef, undef, undef, undef, undef, undef, undef, undef], []⟩ : Act) v
      have q := gv.keep i2
      refine wpOp_step rfl (fun K' hK' => ?_)
      go_simp
      exact hK' _ _ (hK _ _ (Below.refl _ _) (at_of rfl rfl))
    · obtain ⟨x, rfl⟩ := upd_of (show x 6 = .pointer (some ⟨X.S, 0, none⟩) from hd 6 _ (by simp) (by decide) rfl)
      show wpOp Try.prog _ _ 7 K (⟨#[.pointer (some ⟨X.S, 0, none⟩), .int .i64 (i : Int), .pointer (some ⟨w.heap.size, 0, none⟩), .pointer (some ⟨(w.heap.size + 1), 0, none⟩), .pointer (some ⟨(w.heap.size + 1 + 1), 0, none⟩), x 14, x 15, undef, x 0, x 1, x 2, x 3, x 4, x 5, .pointer (some ⟨X.S, 0, none⟩), x 7, x 8, x 9, x 10, x 11, x 12, x 13, undef, undef, undef, undef, undef, undef, undef, undef, undef, undef, undef, undef, undef, undef, undef, undef, undef, undef, undef, undef, undef, undef, undef, undef, undef, undef, undef, undef, undef, undef, undef], []⟩ : Act) v
      refine wpOp_step rfl (fun K' hK' => ?_)
      go_simp
      exact hK' _ _ (hK _ _ (Below.refl _ _) (at_of rfl rfl))
    · obtain ⟨x, rfl⟩ := upd_of (show x 7 = .pointer (some ⟨X.S, 0, none⟩) from hd 7 _ (by simp) (by decide) rfl)
      show wpOp Try.prog _ _ 8 K (⟨#[.pointer (some ⟨X.S, 0, none⟩), .int .i64 (i : Int), .pointer (some ⟨w.heap.size, 0, none⟩), .pointer (some ⟨(w.heap.size + 1), 0, none⟩), .pointer (some ⟨(w.heap.size + 1 + 1), 0, none⟩), x 14, x 15, undef, x 0, x 1, x 2, x 3, x 4, x 5, x 6, .pointer (some ⟨X.S, 0, none⟩), x 8, x 9, x 10, x 11, x 12, x 13, undef, undef, undef, undef, undef, undef, undef, undef, undef, undef, undef, undef, undef, undef, undef, undef, undef, undef, undef, undef, undef, undef, undef, undef, undef, undef, undef, undef, undef, undef, undef], []⟩ : Act) v
      refine wpOp_step rfl (fun K' hK' => ?_)
      go_simp
      exact hK' _ _ (hK _ _ (Below.refl _ _) (at_of rfl rfl))
    · obtain ⟨x, rfl⟩ := upd_of (show x 8 = .pointer (some ⟨X.S, 23, none⟩) from hd 8 _ (by simp) (by decide) rfl)
      show wpOp Try.prog _ _ 9 K (⟨#[.pointer (some ⟨X.S, 0, none⟩), .int .i64 (i : Int), .pointer (some ⟨w.heap.size, 0, none⟩), .pointer (some ⟨(w.heap.size + 1), 0, none⟩), .pointer (some ⟨(w.heap.size + 1 + 1), 0, none⟩), x 14, x 15, undef, x 0, x 1, x 2, x 3, x 4, x 5, x 6, x 7, .pointer (some ⟨X.S, 23, none⟩), x 9, x 10, x 11, x 12, x 13, undef, undef, undef, undef, undef, undef, undef, undef, undef, undef, undef, undef, undef, undef, undef, undef, undef, undef, undef, undef, undef, undef, undef, undef, undef, undef, undef, undef, undef, undef, undef], []⟩ : Act) v
      refine wpOp_step rfl (fun K' hK' => ?_)
      go_simp
      exact hK' _ _ (hK _ _ (Below.refl _ _) (at_of rfl rfl))
    · obtain ⟨x, rfl⟩ := upd_of (show x 9 = .pointer (some ⟨X.S, 23, none⟩) from hd 9 _ (by simp) (by decide) rfl)
      show wpOp Try.prog _ _ 10 K (⟨#[.pointer (some ⟨X.S, 0, none⟩), .int .i64 (i : Int), .pointer (some ⟨w.heap.size, 0, none⟩), .pointer (some ⟨(w.heap.size + 1), 0, none⟩), .pointer (some ⟨(w.heap.size + 1 + 1), 0, none⟩), x 14, x 15, undef, x 0, x 1, x 2, x 3, x 4, x 5, x 6, x 7, x 8, .pointer (some ⟨X.S, 23, none⟩), x 10, x 11, x 12, x 13, undef, undef, undef, undef, undef, undef, undef, undef, undef, undef, undef, undef, undef, undef, undef, undef, undef, undef, undef, undef, undef, undef, undef, undef, undef, undef, undef, undef, undef, undef, undef], []⟩ : Act) v
      refine wpOp_step rfl (fun K' hK' => ?_)
      go_simp
      exact hK' _ _ (hK _ _ (Below.refl _ _) (at_of rfl rfl))
    · obtain ⟨x, rfl⟩ := upd_of (show x 10 = .pointer (some ⟨X.S, 24, none⟩) from hd 10 _ (by simp) (by decide) rfl)
      show wpOp Try.prog _ _ 11 K (⟨#[.pointer (some ⟨X.S, 0, none⟩), .int .i64 (i : Int), .pointer (some ⟨w.heap.size, 0, none⟩), .pointer (some ⟨(w.heap.size + 1), 0, none⟩), .pointer (some ⟨(w.heap.size + 1 + 1), 0, none⟩), x 14, x 15, undef, x 0, x 1, x 2, x 3, x 4, x 5, x 6, x 7, x 8, x 9, .pointer (some ⟨X.S, 24, none⟩), x 11, x 12, x 13, undef, undef, undef, undef, undef, undef, undef, undef, undef, undef, undef, undef, undef, undef, undef, undef, undef, undef, undef, undef, undef, undef, undef, undef, undef, undef, undef, undef, undef, undef, undef], []⟩ : Act) v
      have q := (hS1.gr gv).s.1.2 24 _ rfl
      refine wpOp_step rfl (fun K' hK' => ?_)
      go_simp
      exact hK' _ _ (hK _ _ (Below.refl _ _) (at_of rfl rfl))
    · show wpOp Try.prog _ _ 12 K (⟨#[.pointer (some ⟨X.S, 0, none⟩), .int .i64 (i : Int), .pointer (some ⟨w.heap.size, 0, none⟩), .pointer (some ⟨(w.heap.size + 1), 0, none⟩), .pointer (some ⟨(w.heap.size + 1 + 1), 0, none⟩), x 14, x 15, undef, x 0, x 1, x 2, x 3, x 4, x 5, x 6, x 7, x 8, x 9, x 10, x 11, x 12, x 13, undef, undef, undef, undef, undef, undef, undef, undef, undef, undef, undef, undef, undef, undef, undef, undef, undef, undef, undef, undef, undef, undef, undef, undef, undef, undef, undef, undef, undef, undef, undef], []⟩ : Act) v
      have q := gv.keep i3
      refine wpOp_step rfl (fun K' hK' => ?_)
      go_simp
      exact hK' _ _ (hK _ _ (Below.refl _ _) (at_of rfl rfl))
    · obtain ⟨x, rfl⟩ := upd_of (show x 11 = .slice (some ⟨X.P, 0, none⟩) 4 X.pc from hd 11 _ (by simp) (by decide) rfl)
      obtain ⟨x, rfl⟩ := upd_of (show x 12 = .int .i64 (i : Int) from hd 12 _ (by simp) (by decide) rfl)
      show wpOp Try.prog _ _ 13 K (⟨#[.pointer (some ⟨X.S, 0, none⟩), .int .i64 (i : Int), .pointer (some ⟨w.heap.size, 0, none⟩), .pointer (some ⟨(w.heap.size + 1), 0, none⟩), .pointer (some ⟨(w.heap.size + 1 + 1), 0, none⟩), x 14, x 15, undef, x 0, x 1, x 2, x 3, x 4, x 5, x 6, x 7, x 8, x 9, x 10, .slice (some ⟨X.P, 0, none⟩) 4 X.pc, .int .i64 (i : Int), x 13, undef, undef, undef, undef, undef, undef, undef, undef, undef, undef, undef, undef, undef, undef, undef, undef, undef, undef, undef, undef, undef, undef, undef, undef, undef, undef, undef, undef, undef, undef, undef], []⟩ : Act) v
      refine wpOp_step rfl (fun K' hK' => ?_)
      go_simp
      exact hK' _ _ (hK _ _ (Below.refl _ _) (at_of rfl rfl))
  case pa1 =>
    rintro x v gv K hK
    show wpOp Try.prog _ _ 14 K (⟨#[.pointer (some ⟨X.S, 0, none⟩), .int .i64 (i : Int), .pointer (some ⟨w.heap.size, 0, none⟩), .pointer (some ⟨(w.heap.size + 1), 0, none⟩), .pointer (some ⟨(w.heap.size + 1 + 1), 0, none⟩), x 14, x 15, undef, x 0, x 1, x 2, x 3, x 4, x 5, x 6, x 7, x 8, x 9, x 10, x 11, x 12, x 13, undef, undef, undef, undef, undef, undef, undef, undef, undef, undef, undef, undef, undef, undef, undef, undef, undef, undef, undef, undef, undef, undef, undef, undef, undef, undef, undef, undef, undef, undef, undef], []⟩ : Act) v
    refine wpOp_step rfl (fun K' hK' => ?_)
    go_simp
    exact hK' _ _ hK
  case pb1 =>
    rintro x v gv K hK
    show wpOp Try.prog _ _ 15 K (⟨#[.pointer (some ⟨X.S, 0, none⟩), .int .i64 (i : Int), .pointer (some ⟨w.heap.size, 0, none⟩), .pointer (some ⟨(w.heap.size + 1), 0, none⟩), .pointer (some ⟨(w.heap.size + 1 + 1), 0, none⟩), x 14, x 15, undef, x 0, x 1, x 2, x 3, x 4, x 5, x 6, x 7, x 8, x 9, x 10, x 11, x 12, x 13, undef, undef, undef, undef, undef, undef, undef, undef, undef, undef, undef, undef, undef, undef, undef, undef, undef, undef, undef, undef, undef, undef, undef, undef, undef, undef, undef, undef, undef, undef, undef], []⟩ : Act) v
    refine wpOp_step rfl (fun K' hK' => ?_)
    go_simp
    exact hK' _ _ hK
  case qa1 =>
    rintro x v bb gv hbb e ho hd K hK
    obtain ⟨x, rfl⟩ := upd_of (show x 5 = .agg #[.int .i64 (X.R.pn i).lo, .int .i64 (X.R.pn i).hi] from hd 5 _ (by simp) (by decide) rfl)
    obtain ⟨x, rfl⟩ := upd_of (show x 14 = .pointer (some ⟨bb, 0, none⟩) from by simpa [upd] using e)
    show wpOp Try.prog _ _ 16 K (⟨#[.pointer (some ⟨X.S, 0, none⟩), .int .i64 (i : Int), .pointer (some ⟨w.heap.size, 0, none⟩), .pointer (some ⟨(w.heap.size + 1), 0, none⟩), .pointer (some ⟨(w.heap.size + 1 + 1), 0, none⟩), .pointer (some ⟨bb, 0, none⟩), x 15, undef, x 0, x 1, x 2, x 3, x 4, .agg #[.int .i64 (X.R.pn i).lo, .int .i64 (X.R.pn i).hi], x 6, x 7, x 8, x 9, x 10, x 11, x 12, x 13, undef, undef, undef, undef, undef, undef, undef, undef, undef, undef, undef, undef, undef, undef, undef, undef, undef, undef, undef, undef, undef, undef, undef, undef, undef, undef, undef, undef, undef, undef, undef], []⟩ : Act) v
    obtain ⟨t0, t1⟩ := ho.1.c2
    have f0 := ho.2 0
    have f1 := ho.2 1
    refine wpOp_step rfl (fun K' hK' => ?_)
    go_simp
    exact hK' _ _ (hK _ ((Kx.set (Z := fun k => k = bb) (p := ⟨bb, 0, none⟩) rfl _).tr (Kx.set (Z := fun k => k = bb) (p := ⟨bb, 1, none⟩) rfl _)) ((ho.set (i := 0) (v := .int .i64 (X.R.pn i).lo) (by simp)).set (i := 1) (v := .int .i64 (X.R.pn i).hi) (by simp)))
  case qb1 =>
    exact fun h => absurd h (by omega)
  case fin1 =>
    rintro x v c5 c6 gv h5 h6 hne e1 e2 o5 o6 hd
    rw [if_neg (by omega)] at o6
    obtain ⟨x, rfl⟩ := upd_of (show x 13 = .pointer (some ⟨X.P, i, none⟩) from hd 13 _ (by omega) (by decide) rfl)
    obtain ⟨x, rfl⟩ := upd_of (show x 14 = .pointer (some ⟨c5, 0, none⟩) from by simpa [upd] using e1)
    obtain ⟨x, rfl⟩ := upd_of (show x 15 = .pointer (some ⟨c6, 0, none⟩) from by simpa [upd] using e2)
    clear hd e1 e2
    show wpList Try.prog _ _ (List.drop 17 _) (⟨#[.pointer (some ⟨X.S, 0, none⟩), .int .i64 (i : Int), .pointer (some ⟨w.heap.size, 0, none⟩), .pointer (some ⟨(w.heap.size + 1), 0, none⟩), .pointer (some ⟨(w.heap.size + 1 + 1), 0, none⟩), .pointer (some ⟨c5, 0, none⟩), .pointer (some ⟨c6, 0, none⟩), undef, x 0, x 1, x 2, x 3, x 4, x 5, x 6, x 7, x 8, x 9, x 10, x 11, x 12, .pointer (some ⟨X.P, i, none⟩), undef, undef, undef, undef, undef, undef, undef, undef, undef, undef, undef, undef, undef, undef, undef, undef, undef, undef, undef, undef, undef, undef, undef, undef, undef, undef, undef, undef, undef, undef, undef], []⟩ : Act) v
    simp only [List.drop_succ_cons, List.drop_zero]
    have t0 := o6.1.c1
    have f0 := o6.2 0
    go_upto_region 2 with fail
    have sU := gU.size
    have s2 := o4.1.1
    have z4 : ∀ k, X.Z k → k < w.heap.size := fun k e => hz k e
    have gk : Gr w (v.setCell ⟨c6, 0, none⟩ (.pointer (some ⟨X.P, i, none⟩))) := (gU.tr gv).setCell (p := ⟨c6, 0, none⟩) (by dsimp only; omega) _
    refine wp_abs (fun V => Gr w V ∧ Se X d V ∧ Own V w.heap.size [.pointer (some ⟨X.S, 0, none⟩)] ∧ Own V (w.heap.size + 1) [.int .i64 (i : Int)] ∧ Own V (w.heap.size + 1 + 1) [.int .i64 0] ∧ Own V c5 [.int .i64 (X.R.pn i).lo, .int .i64 (X.R.pn i).hi] ∧ Own V c6 [.pointer (some ⟨X.P, i, none⟩)]) ⟨gk, hS.gr gk, (o2.keep gv).other (by omega), (o3.keep gv).other (by omega), (o4.keep gv).other (by omega), o5.other hne, o6.set (i := 0) (v := .pointer (some ⟨X.P, i, none⟩)) (by simp)⟩ ?_
    clear t0 f0 gk o2 o3 o4 o5 o6 gv gU i2 i3 hrU hS1 hS
    rintro V ⟨gV, hS, o2, o3, o4, o5, o6⟩
    obtain ⟨⟨d1, ok⟩, hdr⟩ : ∃ r, riseD X.R X.W X.cl X.ch i (X.R.pn i) (.pan i) d = r := ⟨_, rfl⟩
    have HDR := Lib.hid hdr
    obtain ⟨ho, hlo1⟩ := hR.pn hi
    have z5 : ∀ k, X.Z k → k ≠ c5 ∧ k ≠ c6 ∧ k ≠ w.heap.size ∧ k ≠ w.heap.size + 1 ∧ k ≠ w.heap.size + 1 + 1 := fun k e => by have := z4 k e; omega
    have Z5 := Lib.hid z5
    have hrise : Calls Try.prog 99 #[.pointer (some ⟨X.S, 0, none⟩), .int .i64 i, .agg #[.int .i64 (X.R.pn i).lo, .int .i64 (X.R.pn i).hi], .pointer (some ⟨X.P, i, none⟩)] V fun e w' => e = .returned (.bool ok) ∧ Se X d1 w' ∧ Kx X.Z V w' := by
      have := rise_any X d (.pan i) X.P i (MeAt.pan D hi) i (by omega) (X.R.pn i) ho.r0 ho.r1 ho.r2 hD hW (fun u u0 u1 => panK hi hD (by omega) (by have := ho.r2; omega)) (fun u v' huv he => rise_mono (.inl ⟨hi, rfl⟩) hD huv he) V hS
      have e : drawD X.R.opn X.W X.cl X.ch (riseE X.ch) i (X.R.pn i) (.pan i) d = (d1, ok) := hdr
      rw [e] at this
      exact this
    have hd1 : ∃ L : Nat, d1 = d.put (.pan i) ((X.R.pn i).lo + (L : Int)) ∧ L ≤ ((X.R.pn i).hi - (X.R.pn i).lo + 1).toNat ∧ (ok = true → L < ((X.R.pn i).hi - (X.R.pn i).lo + 1).toNat) := by
      have e1 : d1 = (riseD X.R X.W X.cl X.ch i (X.R.pn i) (.pan i) d).1 := by rw [hdr]
      have e2 : ok = (riseD X.R X.W X.cl X.ch i (X.R.pn i) (.pan i) d).2 := by rw [hdr]
      refine ⟨leastD X.R.opn X.W (riseE X.ch) i (X.R.pn i) (.pan i) d, e1, firstN_le _ _, fun h => ?_⟩
      rw [e2] at h
      simp only [riseD, drawD, Bool.and_eq_true, decide_eq_true_eq] at h
      exact h.1
    clear hdr z5
    have i2 := o2.1.c1
    have i3 := o3.1.c1
    obtain ⟨j0, j1⟩ := o5.1.c2
    have i6 := o6.1.c1
    obtain ⟨L, hd1, hL, hLok⟩ := hd1
    have HD1 := Lib.hid hd1
    have HV := Lib.hid hS
    cases ok with
    | false =>
      have HR1 : Hid (r0 = (d1, i)) := Lib.hid (HR0.out.trans (by unfold panelD; rw [HDR.out, if_neg (by simp)]))
      clear hd1
      go_upto_region 3 with (go_at_call 99; refine hrise.mono ?_; rintro e w3 ⟨rfl, hS3, k3⟩)
      have p3 := (o3.kx k3 (fun e => (Z5.out _ e).2.2.2.1 rfl)).1.c1
      have o4' := o4.kx k3 (fun e => (Z5.out _ e).2.2.2.2 rfl)
      have p4 := o4'.1.c1
      have f4 := o4'.2 0
      clear i2 i3 j0 j1 i6
      go_wp2
      refine leaves_markS [] _ (by simp) (by simp) fun w' hk => ?_
      have oz := (o4'.set (i := 0) (v := .int .i64 (i : Int)) (by simp)).kx hk (by simp)
      have pz := oz.1.c1
      refine ⟨.int .i64 (i : Int), by simp [results, Try.results98, go_sem, pz], ?_, ?_, ?_⟩
      · rw [HR1.out]
      · rw [HR1.out]
        exact (hS3.kx (Kx.set (Z := fun k => k = w.heap.size + 1 + 1) (p := ⟨w.heap.size + 1 + 1, 0, none⟩) rfl _) (fun k e => (Z5.out _ e).2.2.2.2)).kx hk (by simp)
      · exact ((Kx.gr gV).tr k3).th ((Kx.set (Z := fun k => k = w.heap.size + 1 + 1) (p := ⟨w.heap.size + 1 + 1, 0, none⟩) rfl _).tr (hk.mono (by simp))) (fun k e => .inr (by omega))
    | true =>
      obtain ⟨P0, eP0⟩ : ∃ P0, P0 = (X.R.pn i).lo + (L : Int) := ⟨_, rfl⟩
      rw [← eP0] at hd1
      have hP0 : d1.p.getD i 0 = P0 := by rw [hd1]; exact getD_set (by rw [hD.p]; exact hi) P0
      have hPi : d1.p[i]? = some P0 := by
        rw [hd1]
        exact List.getElem?_set_self (by rw [hD.p]; exact hi)
      have HR1 : Hid (panelFrom X.R X.W X.cl X.ch i ((X.R.pn i).hi - P0 + 1).toNat P0 d1 i = r0) := Lib.hid (HR0.out.trans (by unfold panelD; rw [HDR.out, if_pos rfl, hP0])).symm
      have hD1 : DrL d1 := by rw [hd1]; exact hD.put _ _
      have hLt := hLok rfl
      have hr2 := ho.r2
      have p0 : 1 ≤ P0 := by omega
      have p1 : P0 ≤ (X.R.pn i).hi := by omega
      have HPI := Lib.hid hPi
      clear hd1 hP0 hL hLok hPi eP0 hLt HD1
      go_upto_region 4 with (go_at_call 99; refine hrise.mono ?_; rintro e w3 ⟨rfl, hS3, k3⟩)
      have o2' := o2.kx k3 (fun e => (Z5.out _ e).2.2.1 rfl)
      have o3' := o3.kx k3 (fun e => (Z5.out _ e).2.2.2.1 rfl)
      have o4' := o4.kx k3 (fun e => (Z5.out _ e).2.2.2.2 rfl)
      have o5' := o5.kx k3 (fun e => (Z5.out _ e).1 rfl)
      have o6' := o6.kx k3 (fun e => (Z5.out _ e).2.1 rfl)
      have p3 := o3'.1.c1
      have p4 := o4'.1.c1
      have f4 := o4'.2 0
      clear i2 i3 j0 j1 i6
      go_upto_region 5 with fail
      have k4 : Kx (fun k => k = w.heap.size + 1 + 1) w3 (w3.setCell ⟨w.heap.size + 1 + 1, 0, none⟩ (.int .i64 (i : Int))) := Kx.set (Z := fun k => k = w.heap.size + 1 + 1) (p := ⟨w.heap.size + 1 + 1, 0, none⟩) rfl _
      have kw : Kx X.Z w (w3.setCell ⟨w.heap.size + 1 + 1, 0, none⟩ (.int .i64 (i : Int))) := ((Kx.gr gV).tr k3).th k4 (fun k e => .inr (by omega))
      have hne5 : c5 ≠ w.heap.size + 1 + 1 := by omega
      have hne6 : c6 ≠ w.heap.size + 1 + 1 := by omega
      refine wp_abs (fun W5 => Kx X.Z w W5 ∧ Se X d1 W5 ∧ Own W5 w.heap.size [.pointer (some ⟨X.S, 0, none⟩)] ∧ Own W5 (w.heap.size + 1) [.int .i64 (i : Int)] ∧ Own W5 (w.heap.size + 1 + 1) [.int .i64 (i : Int)] ∧ Own W5 c5 [.int .i64 (X.R.pn i).lo, .int .i64 (X.R.pn i).hi] ∧ Own W5 c6 [.pointer (some ⟨X.P, i, none⟩)]) ⟨kw, hS3.kx k4 (fun k e => (Z5.out _ e).2.2.2.2), o2'.other (by omega), o3'.other (by omega), o4'.set (i := 0) (v := .int .i64 (i : Int)) (by simp), o5'.other hne5, o6'.other hne6⟩ ?_
      clear kw k4 p3 p4 f4 o2' o3' o4' o5' o6' hS3 k3 hrise o2 o3 o4 o5 o6 hS HV gV
      rintro W5 ⟨kW, hS, o2, o3, o4, o5, o6⟩
      have j1 := o5.1.2 1 _ rfl
      have i6 := o6.1.c1
      have ip : W5.cell? ⟨X.P, i, none⟩ = some (.int .i64 P0) := hS.p.1.2 i (.int .i64 P0) (by simp [HPI.out])
      refine (show (∀ s : Nat → Value, Code.wp Try.prog _ _ ⟨#[.pointer (some ⟨X.S, 0, none⟩), .int .i64 (i : Int), .pointer (some ⟨w.heap.size, 0, none⟩), .pointer (some ⟨(w.heap.size + 1), 0, none⟩), .pointer (some ⟨(w.heap.size + 1 + 1), 0, none⟩), .pointer (some ⟨c5, 0, none⟩), .pointer (some ⟨c6, 0, none⟩), undef, s 8, s 9, s 10, s 11, s 12, s 13, s 14, s 15, s 16, s 17, s 18, s 19, s 20, s 21, s 22, s 23, s 24, s 25, s 26, s 27, s 28, s 29, undef, undef, undef, undef, undef, undef, undef, undef, undef, undef, undef, undef, undef, undef, undef, undef, undef, undef, undef, undef, undef, undef, undef], []⟩ _) → _ from fun h => h ((fun l : List Value => fun i => l.getD i undef) [undef, undef, undef, undef, undef, undef, undef, undef, _, _, _, _, _, _, _, _, _, _, _, _, _, _, _, _, _, _, _, _, _, _])) ?_
      intro s
      refine wp_region_facts 6 [(1, 0), (2, 1), (4, 3), (5, 2), (5, 4)] (fun x => ⟨#[.pointer (some ⟨X.S, 0, none⟩), .int .i64 (i : Int), .pointer (some ⟨w.heap.size, 0, none⟩), .pointer (some ⟨(w.heap.size + 1), 0, none⟩), .pointer (some ⟨(w.heap.size + 1 + 1), 0, none⟩), .pointer (some ⟨c5, 0, none⟩), .pointer (some ⟨c6, 0, none⟩), undef, s 8, s 9, s 10, s 11, s 12, s 13, s 14, s 15, s 16, s 17, s 18, s 19, s 20, s 21, s 22, s 23, s 24, s 25, s 26, s 27, s 28, s 29, x 0, x 1, x 2, x 3, x 4, x 5, undef, undef, undef, undef, undef, undef, undef, undef, undef, undef, undef, undef, undef, undef, undef, undef, undef], []⟩) (fun _ => undef) [fun _ x => x = .pointer (some ⟨X.P, i, none⟩), fun _ x => x = .pointer (some ⟨X.P, i, none⟩), fun _ x => x = .int .i64 P0, fun _ x => x = .pointer (some ⟨c5, 1, none⟩), fun _ x => x = .int .i64 (X.R.pn i).hi, fun _ x => x = .agg #[.int .i64 P0, .int .i64 (X.R.pn i).hi]] (by rfl) (by kernel_rfl) (by kernel_rfl) (by kernel_rfl) (stays_cons (Stays.eq _) (stays_cons (Stays.eq _) (stays_cons (Stays.eq _) (stays_cons (Stays.eq _) (stays_cons (Stays.eq _) (stays_cons (Stays.eq _) stays_nil)))))) ?step5 ?fin5
      case step5 =>
        rintro i hi x v gv hd K hK
        have hi8 : i = 0 ∨ i = 1 ∨ i = 2 ∨ i = 3 ∨ i = 4 ∨ i = 5 := by omega
        rcases hi8 with rfl | rfl | rfl | rfl | rfl | rfl
        · show wpOp Try.prog _ _ 0 K (⟨#[.pointer (some ⟨X.S, 0, none⟩), .int .i64 (i : Int), .pointer (some ⟨w.heap.size, 0, none⟩), .pointer (some ⟨(w.heap.size + 1), 0, none⟩), .pointer (some ⟨(w.heap.size + 1 + 1), 0, none⟩), .pointer (some ⟨c5, 0, none⟩), .pointer (some ⟨c6, 0, none⟩), undef, s 8, s 9, s 10, s 11, s 12, s 13, s 14, s 15, s 16, s 17, s 18, s 19, s 20, s 21, s 22, s 23, s 24, s 25, s 26, s 27, s 28, s 29, x 0, x 1, x 2, x 3, x 4, x 5, undef, undef, undef, undef, undef, undef, undef, undef, undef, undef, undef, undef, undef, undef, undef, undef, undef], []⟩ : Act) v
          refine wpOp_step rfl (fun K' hK' => ?_)
          have q := gv.keep i6
          go_simp
          exact hK' _ _ (hK _ _ (Below.refl _ _) (at_of rfl (rfl)))
        · obtain ⟨x, rfl⟩ := upd_of (show x 0 = .pointer (some ⟨X.P, i, none⟩) from hd 0 _ (by simp) rfl)
          show wpOp Try.prog _ _ 1 K (⟨#[.pointer (some ⟨X.S, 0, none⟩), .int .i64 (i : Int), .pointer (some ⟨w.heap.size, 0, none⟩), .pointer (some ⟨(w.heap.size + 1), 0, none⟩), .pointer (some ⟨(w.heap.size + 1 + 1), 0, none⟩), .pointer (some ⟨c5, 0, none⟩), .pointer (some ⟨c6, 0, none⟩), undef, s 8, s 9, s 10, s 11, s 12, s 13, s 14, s 15, s 16, s 17, s 18, s 19, s 20, s 21, s 22, s 23, s 24, s 25, s 26, s 27, s 28, s 29, .pointer (some ⟨X.P, i, none⟩), x 1, x 2, x 3, x 4, x 5, undef, undef, undef, undef, undef, undef, undef, undef, undef, undef, undef, undef, undef, undef, undef, undef, undef], []⟩ : Act) v
          refine wpOp_step rfl (fun K' hK' => ?_)
          go_simp
          exact hK' _ _ (hK _ _ (Below.refl _ _) (at_of rfl (rfl)))
        · obtain ⟨x, rfl⟩ := upd_of (show x 1 = .pointer (some ⟨X.P, i, none⟩) from hd 1 _ (by simp) rfl)
          show wpOp Try.prog _ _ 2 K (⟨#[.pointer (some ⟨X.S, 0, none⟩), .int .i64 (i : Int), .pointer (some ⟨w.heap.size, 0, none⟩), .pointer (some ⟨(w.heap.size + 1), 0, none⟩), .pointer (some ⟨(w.heap.size + 1 + 1), 0, none⟩), .pointer (some ⟨c5, 0, none⟩), .pointer (some ⟨c6, 0, none⟩), undef, s 8, s 9, s 10, s 11, s 12, s 13, s 14, s 15, s 16, s 17, s 18, s 19, s 20, s 21, s 22, s 23, s 24, s 25, s 26, s 27, s 28, s 29, x 0, .pointer (some ⟨X.P, i, none⟩), x 2, x 3, x 4, x 5, undef, undef, undef, undef, undef, undef, undef, undef, undef, undef, undef, undef, undef, undef, undef, undef, undef], []⟩ : Act) v
          refine wpOp_step rfl (fun K' hK' => ?_)
          have q := gv.keep ip
          go_simp
          exact hK' _ _ (hK _ _ (Below.refl _ _) (at_of rfl (rfl)))
        · show wpOp Try.prog _ _ 3 K (⟨#[.pointer (some ⟨X.S, 0, none⟩), .int .i64 (i : Int), .pointer (some ⟨w.heap.size, 0, none⟩), .pointer (some ⟨(w.heap.size + 1), 0, none⟩), .pointer (some ⟨(w.heap.size + 1 + 1), 0, none⟩), .pointer (some ⟨c5, 0, none⟩), .pointer (some ⟨c6, 0, none⟩), undef, s 8, s 9, s 10, s 11, s 12, s 13, s 14, s 15, s 16, s 17, s 18, s 19, s 20, s 21, s 22, s 23, s 24, s 25, s 26, s 27, s 28, s 29, x 0, x 1, x 2, x 3, x 4, x 5, undef, undef, undef, undef, undef, undef, undef, undef, undef, undef, undef, undef, undef, undef, undef, undef, undef], []⟩ : Act) v
          refine wpOp_step rfl (fun K' hK' => ?_)
          go_simp
          exact hK' _ _ (hK _ _ (Below.refl _ _) (at_of rfl (rfl)))
        · obtain ⟨x, rfl⟩ := upd_of (show x 3 = .pointer (some ⟨c5, 1, none⟩) from hd 3 _ (by simp) rfl)
          show wpOp Try.prog _ _ 4 K (⟨#[.pointer (some ⟨X.S, 0, none⟩), .int .i64 (i : Int), .pointer (some ⟨w.heap.size, 0, none⟩), .pointer (some ⟨(w.heap.size + 1), 0, none⟩), .pointer (some ⟨(w.heap.size + 1 + 1), 0, none⟩), .pointer (some ⟨c5, 0, none⟩), .pointer (some ⟨c6, 0, none⟩), undef, s 8, s 9, s 10, s 11, s 12, s 13, s 14, s 15, s 16, s 17, s 18, s 19, s 20, s 21, s 22, s 23, s 24, s 25, s 26, s 27, s 28, s 29, x 0, x 1, x 2, .pointer (some ⟨c5, 1, none⟩), x 4, x 5, undef, undef, undef, undef, undef, undef, undef, undef, undef, undef, undef, undef, undef, undef, undef, undef, undef], []⟩ : Act) v
          refine wpOp_step rfl (fun K' hK' => ?_)
          have q := gv.keep j1
          go_simp
          exact hK' _ _ (hK _ _ (Below.refl _ _) (at_of rfl (rfl)))
        · obtain ⟨x, rfl⟩ := upd_of (show x 2 = .int .i64 P0 from hd 2 _ (by simp) rfl)
          obtain ⟨x, rfl⟩ := upd_of (show x 4 = .int .i64 (X.R.pn i).hi from hd 4 _ (by simp) rfl)
          show wpOp Try.prog _ _ 5 K (⟨#[.pointer (some ⟨X.S, 0, none⟩), .int .i64 (i : Int), .pointer (some ⟨w.heap.size, 0, none⟩), .pointer (some ⟨(w.heap.size + 1), 0, none⟩), .pointer (some ⟨(w.heap.size + 1 + 1), 0, none⟩), .pointer (some ⟨c5, 0, none⟩), .pointer (some ⟨c6, 0, none⟩), undef, s 8, s 9, s 10, s 11, s 12, s 13, s 14, s 15, s 16, s 17, s 18, s 19, s 20, s 21, s 22, s 23, s 24, s 25, s 26, s 27, s 28, s 29, x 0, x 1, .int .i64 P0, x 3, .int .i64 (X.R.pn i).hi, x 5, undef, undef, undef, undef, undef, undef, undef, undef, undef, undef, undef, undef, undef, undef, undef, undef, undef], []⟩ : Act) v
          refine wpOp_step rfl (fun K' hK' => ?_)
          go_simp
          exact hK' _ _ (hK _ _ (Below.refl _ _) (at_of rfl (rfl)))
      case fin5 =>
        rintro x v gv hd
        obtain ⟨x, rfl⟩ := upd_of (show x 5 = .agg #[.int .i64 P0, .int .i64 (X.R.pn i).hi] from hd 5 _ (by omega) rfl)
        clear hd
        show wpList Try.prog _ _ (List.drop 6 _) (⟨#[.pointer (some ⟨X.S, 0, none⟩), .int .i64 (i : Int), .pointer (some ⟨w.heap.size, 0, none⟩), .pointer (some ⟨(w.heap.size + 1), 0, none⟩), .pointer (some ⟨(w.heap.size + 1 + 1), 0, none⟩), .pointer (some ⟨c5, 0, none⟩), .pointer (some ⟨c6, 0, none⟩), undef, s 8, s 9, s 10, s 11, s 12, s 13, s 14, s 15, s 16, s 17, s 18, s 19, s 20, s 21, s 22, s 23, s 24, s 25, s 26, s 27, s 28, s 29, x 0, x 1, x 2, x 3, x 4, .agg #[.int .i64 P0, .int .i64 (X.R.pn i).hi], undef, undef, undef, undef, undef, undef, undef, undef, undef, undef, undef, undef, undef, undef, undef, undef, undef], []⟩ : Act) v
        simp only [List.drop_succ_cons, List.drop_zero]
        clear i6 j1 ip
        go_wp2_with (go_at_call 124; refine (each_any P0 (X.R.pn i).hi _).mono ?_; rintro e W6 ⟨b, rfl, hb, hO, g6⟩)

        skip
        refine (show (∀ s : Nat → Value, Code.wp Try.prog _ _ ⟨#[.pointer (some ⟨X.S, 0, none⟩), .int .i64 (i : Int), .pointer (some ⟨w.heap.size, 0, none⟩), .pointer (some ⟨(w.heap.size + 1), 0, none⟩), .pointer (some ⟨(w.heap.size + 1 + 1), 0, none⟩), .pointer (some ⟨c5, 0, none⟩), .pointer (some ⟨c6, 0, none⟩), undef, s 8, s 9, s 10, s 11, s 12, s 13, s 14, s 15, s 16, s 17, s 18, s 19, s 20, s 21, s 22, s 23, s 24, s 25, s 26, s 27, s 28, s 29, s 30, s 31, s 32, s 33, s 34, s 35, .func (.func 142) #[] #[.pointer (some ⟨b, 0, none⟩)], undef, undef, undef, undef, undef, undef, undef, undef, undef, undef, undef, undef, undef, undef, undef, undef], []⟩ _) → _ from fun h => h ((fun l : List Value => fun i => l.getD i undef) [undef, undef, undef, undef, undef, undef, undef, undef, _, _, _, _, _, _, _, _, _, _, _, _, _, _, _, _, _, _, _, _, _, _, _, _, _, _, _, _])) ?_
        clear s
        intro s
        refine (wpIn_wide (n := 20)).1 ?_
        have gk := gv.tr g6
        have hS6 := hS.gr gk
        have z6 : ∀ k, X.Z k → k < W6.heap.size := fun k e => hS6.lt e
        have s5 := gv.size
        have hb5 : W5.heap.size ≤ b := by omega
        have l4 := o4.1.1
        have l5 := o5.1.1
        have l6 := o6.1.1
        have l46 : w.heap.size + 1 + 1 < W6.heap.size := by have := gk.size; omega
        obtain ⟨X0, hX0⟩ : ∃ X0 : Nat → Prop, X0 = fun k => X.Z k ∨ k = w.heap.size + 1 + 1 := ⟨_, rfl⟩
        have x0 : ∀ k, X0 k → X.Z k ∨ k = w.heap.size + 1 + 1 := fun k e => by rw [hX0] at e; exact e
        have x0' : ∀ k, X.Z k ∨ k = w.heap.size + 1 + 1 → X0 k := fun k e => by rw [hX0]; exact e
        clear hX0
        have nb : ¬ X0 b := fun e => by rcases x0 _ e with e | e <;> (try have := z4 _ e) <;> omega
        have HO2 : Hid (∀ V, Kx X0 W6 V → V.cell? ⟨w.heap.size, 0, none⟩ = some (.pointer (some ⟨X.S, 0, none⟩))) := Lib.hid fun V k => ((o2.keep gk).kx k (fun e => by rcases x0 _ e with e | e <;> (try have := z4 _ e) <;> omega)).1.c1
        have HO3 : Hid (∀ V, Kx X0 W6 V → V.cell? ⟨w.heap.size + 1, 0, none⟩ = some (.int .i64 (i : Int))) := Lib.hid fun V k => ((o3.keep gk).kx k (fun e => by rcases x0 _ e with e | e <;> (try have := z4 _ e) <;> omega)).1.c1
        have HO6 : Hid (∀ V, Kx X0 W6 V → V.cell? ⟨c6, 0, none⟩ = some (.pointer (some ⟨X.P, i, none⟩))) := Lib.hid fun V k => ((o6.keep gk).kx k (fun e => by rcases x0 _ e with e | e <;> (try have := z4 _ e) <;> omega)).1.c1
        have HKW : Hid (∀ V, Kx X0 W6 V → Kx X.Z w V) := Lib.hid fun V k => (kW.tr (Kx.gr gk)).th k (fun j e => by rcases x0 _ e with e | e; exact .inl e; exact .inr (by omega))
        have O4 := Lib.hid (o4.keep gk)
        have HS6 := Lib.hid hS6
        have HRR := Lib.hid hr
        have HOst : Hid (St X0 (fun V => Own V b [.int .i64 P0, .int .i64 (X.R.pn i).hi]) W6) := Lib.hid (hO.st nb)
        obtain ⟨N, hN⟩ : ∃ N, N = ((X.R.pn i).hi - P0 + 1).toNat := ⟨_, rfl⟩
        have HR2 : Hid (panelFrom X.R X.W X.cl X.ch i N P0 d1 i = r0) := Lib.hid (by rw [hN]; exact HR1.out)
        have hMp := MeAt.pan D hi
        have HN := Lib.hid hN
        clear o2 o3 o4 o5 o6 hS hS6 kW gk gv g6 hO hr HR1 hN
        refine wpIn_rangeX (F := Fence.wide) rfl (by omega) (gf := 142) (lb := #[.pointer (some ⟨b, 0, none⟩)]) rfl trivial (enters_of Try.func142 (by kernel_rfl) rfl)
          (each_seq 19 (by omega) b P0 (X.R.pn i).hi (by omega) (by omega) X0 W6 HOst.out) (Kx.refl _ _) (fun _ => rfl) X0 (fun k e => ⟨by rcases x0 _ e with e | e; exact z6 _ e; omega, .inl e⟩)
          (PInv X i P0 N (w.heap.size + 1 + 1) r0 X0 W6) (PEnd X (w.heap.size + 1 + 1) r0 X0 W6) (fun s' X' => PInv.ab z6 l46 s' X') (fun c s' => PEnd.ab z6 l46 c s') ?start
          (fun pre x a' X' Y W => PInv X i P0 N (w.heap.size + 1 + 1) r0 X0 W6 pre X' Y W ∧ x = eachAt P0 pre.length ∧ x ≤ (X.R.pn i).hi ∧ a' = ⟨#[.pointer (some ⟨X.S, 0, none⟩), .int .i64 (i : Int), .pointer (some ⟨w.heap.size, 0, none⟩), .pointer (some ⟨(w.heap.size + 1), 0, none⟩), .pointer (some ⟨(w.heap.size + 1 + 1), 0, none⟩), .pointer (some ⟨c5, 0, none⟩), .pointer (some ⟨c6, 0, none⟩), .int .i64 x, s 8, s 9, s 10, s 11, s 12, s 13, s 14, s 15, s 16, s 17, s 18, s 19, s 20, s 21, s 22, s 23, s 24, s 25, s 26, s 27, s 28, s 29, s 30, s 31, s 32, s 33, s 34, s 35, .func (.func 142) #[] #[.pointer (some ⟨b, 0, none⟩)], .int .i64 x, undef, undef, undef, undef, undef, undef, undef, undef, undef, undef, undef, undef, undef, undef, undef], []⟩) ?abA ?assign ?body ?done ?stop
        case start => exact ⟨rfl, fun k e => e.elim, Kx.refl _ _, by simp, d1, i, HS6.out, O4.out, hD1, by simpa using HR2.out⟩
        case abA =>
          rintro s' x a' X' Y Y' A B ⟨h1, h2, h3, h4⟩ hk hy
          exact ⟨PInv.ab z6 l46 _ _ _ _ _ _ h1 hk hy, h2, h3, h4⟩
        case assign =>
          rintro l1 pre x X' Y W K hI hG hDj hK
          have HK := Lib.hid hK
          have HI := Lib.hid hI
          have HG := Lib.hid hG
          clear hK hI hG
          dsimp only [encE]
          gi_wp2
          exact HK.out _ X' _ ⟨HI.out, HG.out.1, HG.out.2, rfl⟩ (Kx.refl _ _) (fun k e => ⟨hDj.x _ e, .inl e⟩)
        case body =>
          rintro l1 pre x a' X' Y W ⟨⟨hXe, hY, h3, hlen, d', f, hS', oF, hD', hF⟩, hx, hle, rfl⟩ hDj hYl hrec
          obtain rfl := hXe.symm
          obtain ⟨m, hm⟩ : ∃ m, N - pre.length = m + 1 := ⟨N - pre.length - 1, by have hN := HN.out; simp only [eachAt] at hx; omega⟩
          have hm' : N - (pre ++ [x]).length = m := by simp; omega
          have hlen' : (pre ++ [x]).length ≤ N := by simp; omega
          have hx' : P0 + (((pre ++ [x]).length : Nat) : Int) = x + 1 := by simp only [eachAt] at hx; simp; omega
          have hxP : P0 + (pre.length : Int) = x := hx.symm
          have x1 : 1 ≤ x := by simp only [eachAt] at hx; omega
          rw [hm, hxP] at hF
          have HF := Lib.hid hF
          have HX := Lib.hid (And.intro hm' (And.intro hlen' hx'))
          have HY := Lib.hid hY
          have H3 := Lib.hid h3
          have i6 := HO6.out W h3
          obtain ⟨⟨u, hu⟩, hfr⟩ := hMp.cell d' W hD' hS'
          obtain ⟨d2, hd2⟩ : ∃ d2, d2 = d'.put (.pan i) x := ⟨_, rfl⟩
          have hS2 := hMp.put d' W x hD' hS'
          rw [← hd2] at hS2
          have hD2 : DrL d2 := by rw [hd2]; exact hD'.put _ _
          have hK2 : DrK d2 i := by rw [hd2]; exact panK hi hD' (by omega) (by omega)
          have hp2 : d2.p[i]? = some x := by rw [hd2]; exact List.getElem?_set_self (by rw [hD'.p]; exact hi)
          have HD2 := Lib.hid hd2
          have HP2 := Lib.hid hp2
          clear hF hx hm hm' hlen' hx' hxP hY h3 hd2 hp2 hD' hDj hYl hrec hlen
          gi_upto_region 8 with fail
          have zP : X.Z X.P := .inr (.inl rfl)
          have k7 : Kx X.Z W (W.setCell ⟨X.P, i, none⟩ (.int .i64 x)) := Kx.set (p := ⟨X.P, i, none⟩) zP _
          have k7' : Kx X0 W (W.setCell ⟨X.P, i, none⟩ (.int .i64 x)) := k7.mono (fun j e => .inl (x0' _ (.inl e)))
          have n4 : w.heap.size + 1 + 1 ≠ X.P := fun e => by have := z4 _ zP; omega
          refine wpIn_abs (fun V => Kx X0 W V ∧ Se X d2 V ∧ Own V (w.heap.size + 1 + 1) [.int .i64 (f : Int)]) ⟨k7', hS2, oF.other n4⟩ ?_
          clear k7 k7' hS2 oF hu hfr i6 hS'
          rintro V ⟨kV, hS2, oF⟩
          have k6V := H3.out.tr kV
          have i2 := HO2.out V k6V
          have i3 := HO3.out V k6V
          obtain ⟨g, hg⟩ : ∃ g, okAll (hL X.R.opn X.W d2 i) X.cl X.ch = g := ⟨_, rfl⟩
          have hhold := holds_any X d2 i (by omega) hD2 hK2 hW V hS2
          rw [hg] at hhold
          have HGG := Lib.hid hg
          clear hg
          cases g with
          | false =>
            gi_wp2_with (refine ⟨trivial, ?_⟩; gi_at_call 125; refine (CallsIn.inRound l1 (callsIn_wide.2 hhold)).mono ?_; rintro e w8 ⟨rfl, g8⟩)
            refine ⟨kV.tr (Kx.gr g8), rfl, HY.out, k6V.tr (Kx.gr g8), d2, f, hS2.gr g8, oF.keep g8, ?_⟩
            have h := HF.out
            rw [panelFrom, ← HD2.out, if_neg (by rw [HGG.out]; simp)] at h
            exact h
          | true =>
            gi_upto_region 9 with (refine ⟨trivial, ?_⟩; gi_at_call 125; refine (CallsIn.inRound l1 (callsIn_wide.2 hhold)).mono ?_; rintro e w8 ⟨rfl, g8⟩)
            have k8 := k6V.tr (Kx.gr g8)
            have kW8 := kV.tr (Kx.gr g8)
            have hS8 := hS2.gr g8
            have oF8 := oF.keep g8
            clear i2 i3 hS2 oF hhold kV k6V g8
            have i2 := HO2.out w8 k8
            have i3 := HO3.out w8 k8
            have i4 := oF8.1.c1
            have hrr := HRR.out.kx (HKW.out w8 k8)
            obtain ⟨⟨d3, f3⟩, hfl⟩ : ∃ r, flapsD X.R X.W X.cl X.ch i d2 = r := ⟨_, rfl⟩
            have hflaps := fun v (hs : Se X d2 v) (hrw : RoomRows X v) => flaps_any X D hR i hi d2 hD2 hW (fun v hv => by rw [HP2.out] at hv; cases hv; exact ⟨by omega, by omega⟩) v hs hrw
            rw [hfl] at hflaps
            have HFL := Lib.hid hfl
            have HFLAPS := Lib.hid hflaps
            have n4Z : ¬ X.Z (w.heap.size + 1 + 1) := fun e => by have := z4 _ e; omega
            have n2Z : ¬ X.Z w.heap.size := fun e => by have := z4 _ e; omega
            have n3Z : ¬ X.Z (w.heap.size + 1) := fun e => by have := z4 _ e; omega
            clear hfl hflaps
            refine (show (∀ s : Nat → Value, Code.wpIn _ _ Try.prog _ _ ⟨#[.pointer (some ⟨X.S, 0, none⟩), .int .i64 (i : Int), .pointer (some ⟨w.heap.size, 0, none⟩), .pointer (some ⟨(w.heap.size + 1), 0, none⟩), .pointer (some ⟨(w.heap.size + 1 + 1), 0, none⟩), .pointer (some ⟨c5, 0, none⟩), .pointer (some ⟨c6, 0, none⟩), .int .i64 x, s 8, s 9, s 10, s 11, s 12, s 13, s 14, s 15, s 16, s 17, s 18, s 19, s 20, s 21, s 22, s 23, s 24, s 25, s 26, s 27, s 28, s 29, s 30, s 31, s 32, s 33, s 34, s 35, .func (.func 142) #[] #[.pointer (some ⟨b, 0, none⟩)], .int .i64 x, s 38, s 39, s 40, s 41, s 42, s 43, s 44, undef, undef, undef, undef, undef, undef, undef, undef], []⟩ _) → _ from fun h => h ((fun l : List Value => fun i => l.getD i undef) [undef, undef, undef, undef, undef, undef, undef, undef, _, _, _, _, _, _, _, _, _, _, _, _, _, _, _, _, _, _, _, _, _, _, _, _, _, _, _, _, undef, undef, _, _, _, _, _, _, _])) ?_
            clear s
            intro s
            refine wpIn_region_turn 4 3 X.Z (Se X d2) (Se X d3) [(3, 1), (3, 2)] (fun x9 => ⟨#[.pointer (some ⟨X.S, 0, none⟩), .int .i64 (i : Int), .pointer (some ⟨w.heap.size, 0, none⟩), .pointer (some ⟨(w.heap.size + 1), 0, none⟩), .pointer (some ⟨(w.heap.size + 1 + 1), 0, none⟩), .pointer (some ⟨c5, 0, none⟩), .pointer (some ⟨c6, 0, none⟩), .int .i64 x, s 8, s 9, s 10, s 11, s 12, s 13, s 14, s 15, s 16, s 17, s 18, s 19, s 20, s 21, s 22, s 23, s 24, s 25, s 26, s 27, s 28, s 29, s 30, s 31, s 32, s 33, s 34, s 35, .func (.func 142) #[] #[.pointer (some ⟨b, 0, none⟩)], .int .i64 x, s 38, s 39, s 40, s 41, s 42, s 43, s 44, x9 0, x9 1, x9 2, x9 3, undef, undef, undef, undef], []⟩) (fun _ => undef) [fun _ z => z = .int .i64 (f : Int), fun _ z => z = .pointer (some ⟨X.S, 0, none⟩), fun _ z => z = .int .i64 (i : Int), fun _ z => z = .int .i64 (f3 : Int)] (by rfl) (by kernel_rfl) (by kernel_rfl) (by kernel_rfl) (by kernel_rfl) (by rintro ⟨_, _, h⟩; exact h) (by omega) (fun _ _ g h => h.gr g) (fun _ _ g h => h.gr g) hS8 (staysZ_cons (StaysZ.eq _ _) (staysZ_cons (StaysZ.eq _ _) (staysZ_cons (StaysZ.eq _ _) (staysZ_cons (StaysZ.eq _ _) staysZ_nil)))) ?step9 ?turn9 ?fin9
            case step9 =>
              rintro j hj hj3 x9 v kv hd K hK
              have hj8 : j = 0 ∨ j = 1 ∨ j = 2 := by omega
              rcases hj8 with rfl | rfl | rfl
              · show wpOp Try.prog _ _ 0 K (⟨#[.pointer (some ⟨X.S, 0, none⟩), .int .i64 (i : Int), .pointer (some ⟨w.heap.size, 0, none⟩), .pointer (some ⟨(w.heap.size + 1), 0, none⟩), .pointer (some ⟨(w.heap.size + 1 + 1), 0, none⟩), .pointer (some ⟨c5, 0, none⟩), .pointer (some ⟨c6, 0, none⟩), .int .i64 x, s 8, s 9, s 10, s 11, s 12, s 13, s 14, s 15, s 16, s 17, s 18, s 19, s 20, s 21, s 22, s 23, s 24, s 25, s 26, s 27, s 28, s 29, s 30, s 31, s 32, s 33, s 34, s 35, .func (.func 142) #[] #[.pointer (some ⟨b, 0, none⟩)], .int .i64 x, s 38, s 39, s 40, s 41, s 42, s 43, s 44, x9 0, x9 1, x9 2, x9 3, undef, undef, undef, undef], []⟩ : Act) v
                have q := (oF8.kx kv n4Z).1.c1
                refine wpOp_step rfl (fun K' hK' => ?_)
                go_simp
                exact hK' _ _ (hK _ _ (Below.refl _ _) (at_of rfl rfl))
              · show wpOp Try.prog _ _ 1 K (⟨#[.pointer (some ⟨X.S, 0, none⟩), .int .i64 (i : Int), .pointer (some ⟨w.heap.size, 0, none⟩), .pointer (some ⟨(w.heap.size + 1), 0, none⟩), .pointer (some ⟨(w.heap.size + 1 + 1), 0, none⟩), .pointer (some ⟨c5, 0, none⟩), .pointer (some ⟨c6, 0, none⟩), .int .i64 x, s 8, s 9, s 10, s 11, s 12, s 13, s 14, s 15, s 16, s 17, s 18, s 19, s 20, s 21, s 22, s 23, s 24, s 25, s 26, s 27, s 28, s 29, s 30, s 31, s 32, s 33, s 34, s 35, .func (.func 142) #[] #[.pointer (some ⟨b, 0, none⟩)], .int .i64 x, s 38, s 39, s 40, s 41, s 42, s 43, s 44, x9 0, x9 1, x9 2, x9 3, undef, undef, undef, undef], []⟩ : Act) v
                have q := HO2.out v (k8.tr (kv.mono (fun j e => .inl (x0' _ (.inl e)))))
                refine wpOp_step rfl (fun K' hK' => ?_)
                go_simp
                exact hK' _ _ (hK _ _ (Below.refl _ _) (at_of rfl rfl))
              · show wpOp Try.prog _ _ 2 K (⟨#[.pointer (some ⟨X.S, 0, none⟩), .int .i64 (i : Int), .pointer (some ⟨w.heap.size, 0, none⟩), .pointer (some ⟨(w.heap.size + 1), 0, none⟩), .pointer (some ⟨(w.heap.size + 1 + 1), 0, none⟩), .pointer (some ⟨c5, 0, none⟩), .pointer (some ⟨c6, 0, none⟩), .int .i64 x, s 8, s 9, s 10, s 11, s 12, s 13, s 14, s 15, s 16, s 17, s 18, s 19, s 20, s 21, s 22, s 23, s 24, s 25, s 26, s 27, s 28, s 29, s 30, s 31, s 32, s 33, s 34, s 35, .func (.func 142) #[] #[.pointer (some ⟨b, 0, none⟩)], .int .i64 x, s 38, s 39, s 40, s 41, s 42, s 43, s 44, x9 0, x9 1, x9 2, x9 3, undef, undef, undef, undef], []⟩ : Act) v
                have q := HO3.out v (k8.tr (kv.mono (fun j e => .inl (x0' _ (.inl e)))))
                refine wpOp_step rfl (fun K' hK' => ?_)
                go_simp
                exact hK' _ _ (hK _ _ (Below.refl _ _) (at_of rfl rfl))
            case turn9 =>
              rintro x9 v kv ht hd K hK
              obtain ⟨x9, rfl⟩ := upd_of (show x9 1 = .pointer (some ⟨X.S, 0, none⟩) from hd 1 _ (by simp) rfl)
              obtain ⟨x9, rfl⟩ := upd_of (show x9 2 = .int .i64 (i : Int) from hd 2 _ (by simp) rfl)
              show wpOp Try.prog _ _ 3 K (⟨#[.pointer (some ⟨X.S, 0, none⟩), .int .i64 (i : Int), .pointer (some ⟨w.heap.size, 0, none⟩), .pointer (some ⟨(w.heap.size + 1), 0, none⟩), .pointer (some ⟨(w.heap.size + 1 + 1), 0, none⟩), .pointer (some ⟨c5, 0, none⟩), .pointer (some ⟨c6, 0, none⟩), .int .i64 x, s 8, s 9, s 10, s 11, s 12, s 13, s 14, s 15, s 16, s 17, s 18, s 19, s 20, s 21, s 22, s 23, s 24, s 25, s 26, s 27, s 28, s 29, s 30, s 31, s 32, s 33, s 34, s 35, .func (.func 142) #[] #[.pointer (some ⟨b, 0, none⟩)], .int .i64 x, s 38, s 39, s 40, s 41, s 42, s 43, s 44, x9 0, .pointer (some ⟨X.S, 0, none⟩), .int .i64 (i : Int), x9 3, undef, undef, undef, undef], []⟩ : Act) v
              refine wpOp_step rfl (fun K' hK' => ?_)
              go_simp
              refine (HFLAPS.out v ht (hrr.kx kv)).mono ?_
              rintro e v' ⟨rfl, hs', hk'⟩
              exact hK' _ _ (hK _ _ hk' hs' (at_of rfl rfl))
            case fin9 =>
              rintro x9 v kv ht hd
              obtain ⟨x9, rfl⟩ := upd_of (show x9 0 = .int .i64 (f : Int) from hd 0 _ (by omega) rfl)
              obtain ⟨x9, rfl⟩ := upd_of (show x9 3 = .int .i64 (f3 : Int) from hd 3 _ (by omega) rfl)
              clear hd
              show wpList Try.prog _ _ (List.drop 4 _) (⟨#[.pointer (some ⟨X.S, 0, none⟩), .int .i64 (i : Int), .pointer (some ⟨w.heap.size, 0, none⟩), .pointer (some ⟨(w.heap.size + 1), 0, none⟩), .pointer (some ⟨(w.heap.size + 1 + 1), 0, none⟩), .pointer (some ⟨c5, 0, none⟩), .pointer (some ⟨c6, 0, none⟩), .int .i64 x, s 8, s 9, s 10, s 11, s 12, s 13, s 14, s 15, s 16, s 17, s 18, s 19, s 20, s 21, s 22, s 23, s 24, s 25, s 26, s 27, s 28, s 29, s 30, s 31, s 32, s 33, s 34, s 35, .func (.func 142) #[] #[.pointer (some ⟨b, 0, none⟩)], .int .i64 x, s 38, s 39, s 40, s 41, s 42, s 43, s 44, .int .i64 (f : Int), x9 1, x9 2, .int .i64 (f3 : Int), undef, undef, undef, undef], []⟩ : Act) v
              simp only [List.drop_succ_cons, List.drop_zero]
              have oFv := oF8.kx kv n4Z
              have q4 := oFv.1.c1
              have f4 := oFv.2 0
              obtain ⟨fm, hfm⟩ : ∃ fm, fm = max f f3 := ⟨_, rfl⟩
              have hmax : max (f : Int) (f3 : Int) = (fm : Int) := by omega
              have HFM := Lib.hid hfm
              clear hfm i2 i3 i4
              have kx0 : Kx X0 w8 v := kv.mono (fun j e => .inl (x0' _ (.inl e)))
              have kx1 : Kx X0 v (v.setCell ⟨w.heap.size + 1 + 1, 0, none⟩ (.int .i64 (fm : Int))) := Kx.set (p := ⟨w.heap.size + 1 + 1, 0, none⟩) (x0' _ (.inr rfl)) _
              have ht9 : Se X d3 (v.setCell ⟨w.heap.size + 1 + 1, 0, none⟩ (.int .i64 (fm : Int))) := ht.kx (Kx.set (Z := fun k => k = w.heap.size + 1 + 1) (p := ⟨w.heap.size + 1 + 1, 0, none⟩) rfl _) (fun k e e' => n4Z (by rw [← e']; exact e))
              have oF9 := oFv.set (i := 0) (v := .int .i64 (fm : Int)) (by simp)
              have kA := kW8.tr (kx0.tr kx1)
              have kB := k8.tr (kx0.tr kx1)
              have hD3 : DrL d3 := by
                have h := flapsFrom_L (R := X.R) (W := X.W) (cl := X.cl) (ch := X.ch) (i := i) 4 5 d2 hD2
                have e : flapsFrom X.R X.W X.cl X.ch i 4 5 d2 = (d3, f3) := HFL.out
                rw [e] at h
                exact h
              by_cases h10 : fm = 10
              · have h10' : ((fm : Int) == 10) = true := by rw [beq_iff_eq]; omega
                have hfin := HF.out
                rw [panelFrom, ← HD2.out, if_pos HGG.out, HFL.out, if_pos (by show max f f3 = 10; rw [← HFM.out]; exact h10)] at hfin
                have HFIN := Lib.hid hfin
                have H10 := Lib.hid h10
                clear hfin h10
                go_wp2
                gi_wp2
                refine ⟨kA, rfl, HY.out, kB, d3, fm, ht9, oF9, ?_⟩
                rw [H10.out]
                exact HFIN.out
              · have h10' : ((fm : Int) == 10) = false := by rw [beq_eq_false_iff_ne]; omega
                have hfin := HF.out
                rw [panelFrom, ← HD2.out, if_pos HGG.out, HFL.out, if_neg (by show ¬ max f f3 = 10; rw [← HFM.out]; exact h10)] at hfin
                have HFIN := Lib.hid hfin
                clear hfin h10
                go_wp2
                gi_wp2
                refine ⟨kA, X0, ⟨rfl, HY.out, kB, HX.out.2.1, d3, fm, ht9, oF9, hD3, ?_⟩, fun k e => ⟨?_, .inl e⟩⟩
                · rw [HX.out.1, HX.out.2.2]
                  have h := HFIN.out
                  have e : max f f3 = fm := HFM.out.symm
                  rw [e] at h
                  exact h
                · have := kB.size
                  rcases x0 _ e with e | e
                  · have := z6 _ e; omega
                  · omega
        case done =>
          rintro Dd xs X' Y W hDd ⟨k, rfl, hk1, hk2⟩ ⟨hXe, hY, h3, hlen, d', f, hS', oF, hD', hF⟩ hYD hKD
          obtain rfl := hXe.symm
          rw [comeTo_len] at hF hlen
          have e0 : N - k = 0 := by have hN := HN.out; simp only [eachAt] at hk1; omega
          rw [e0] at hF
          have HF := Lib.hid (show (d', f) = r0 from hF)
          have kw := HKW.out W h3
          have p4 := oF.1.c1
          have f4 := oF.2 0
          have hs3 := h3.size
          clear hF e0 hk1 hk2 hlen
          go_wp2
          have hn : ∀ k, X.Z k → ¬ k = Dd := fun k e e' => by have := z6 k e; omega
          refine leaves_markS [Dd] _ (fun E hE => ?_) (by simp) fun w' hk => ?_
          · simp only [List.mem_singleton] at hE
            subst hE
            exact (Below.heap_setCell _ _ _ _ (by dsimp only; omega)).trans hKD
          · have oz := (oF.set (i := 0) (v := .int .i64 (f : Int)) (by simp)).kx hk (fun e => by simp only [List.mem_singleton] at e; omega)
            have pz := oz.1.c1
            refine ⟨.int .i64 (f : Int), by simp [results, Try.results98, go_sem, pz], ?_, ?_, ?_⟩
            · rw [← HF.out]
            · rw [← HF.out]
              exact (hS'.kx (Kx.set (Z := fun k => k = w.heap.size + 1 + 1) (p := ⟨w.heap.size + 1 + 1, 0, none⟩) rfl _) (fun k e e' => by have := z4 k e; omega)).kx hk (fun k e e' => by simp only [List.mem_singleton] at e'; exact hn k e e')
            · exact (kw.th (Kx.set (Z := fun k => k = w.heap.size + 1 + 1) (p := ⟨w.heap.size + 1 + 1, 0, none⟩) rfl _) (fun k e => .inr (by omega))).th hk (fun k e => .inr (by simp only [List.mem_singleton] at e; omega))
        case stop =>
          rintro Dd c pre Y W hDd hSp ⟨rfl, hY, h3, d', f, hS', oF, hF⟩ hYD hKD
          have HF := Lib.hid hF
          have kw := HKW.out W h3
          have p4 := oF.1.c1
          have f4 := oF.2 0
          have hs3 := h3.size
          clear hF
          refine wpIn_wide.2 ?_
          go_wp2
          have hn : ∀ k, X.Z k → ¬ k = Dd := fun k e e' => by have := z6 k e; omega
          refine leaves_markS [Dd] _ (fun E hE => ?_) (by simp) fun w' hk => ?_
          · simp only [List.mem_singleton] at hE
            subst hE
            exact (Below.heap_setCell _ _ _ _ (by dsimp only; omega)).trans hKD
          · have oz := (oF.set (i := 0) (v := .int .i64 (f : Int)) (by simp)).kx hk (fun e => by simp only [List.mem_singleton] at e; omega)
            have pz := oz.1.c1
            refine ⟨.int .i64 (f : Int), by simp [results, Try.results98, go_sem, pz], ?_, ?_, ?_⟩
            · rw [← HF.out]
            · rw [← HF.out]
              exact (hS'.kx (Kx.set (Z := fun k => k = w.heap.size + 1 + 1) (p := ⟨w.heap.size + 1 + 1, 0, none⟩) rfl _) (fun k e e' => by have := z4 k e; omega)).kx hk (fun k e e' => by simp only [List.mem_singleton] at e'; exact hn k e e')
            · exact (kw.th (Kx.set (Z := fun k => k = w.heap.size + 1 + 1) (p := ⟨w.heap.size + 1 + 1, 0, none⟩) rfl _) (fun k e => .inr (by omega))).th hk (fun k e => .inr (by simp only [List.mem_singleton] at e; omega))

end Go.Proofs.Ytafkoococfnakaa

namespace Go.Proofs.Ytafkoococfnakaa
set_option linter.unusedVariables false
set_option linter.unusedSimpArgs false
open Go.RowKit

def blkOf : Value → Option Nat
  | .slice (some a) _ _ => some a.block
  | .pointer (some a) => some a.block
  | _ => none

/-- The value leads to block b. -/
def hasB (v : Value) (b : Nat) : Prop := blkOf v = some b ∨ ∃ cs, v = .agg cs ∧ ∃ c ∈ cs, blkOf c = some b

theorem wp_region_apart {P : Program} {Q : Exit → Act → World → Prop} {id : Nat} {W : World} {l : List Oper} (n : Nat) (ds : List (Nat × Nat)) (D : List Nat) (fr : (Nat → Value) → Act) (x0 : Nat → Value) (Fs : List (World → Value → Prop)) {a : Act} (ha : a = fr x0) (hm : P.follows .mixedOrders = true)
    (hB : (decide (n < l.toArray.size) && Region.sinkB .any l.toArray n && Region.chainB .any l.toArray n && minB .any l.toArray n && Region.seqB .any l.toArray (l.toArray.size - n) n (Array.replicate n true ++ Array.replicate (l.toArray.size - n) false)) = true)
    (hD : depB .any l.toArray ds = true)
    (hst : ∀ (i : Nat) (F : World → Value → Prop), Fs[i]? = some F → Stays F)
    (hstep : ∀ i, i < n → ∀ x v, Gr W v → (∀ (j : Nat) (F : World → Value → Prop), (i, j) ∈ ds → Fs[j]? = some F → F v (x j)) → ∀ K : Act → World → Prop, (∀ u v', Gr v v' → (∀ F : World → Value → Prop, Fs[i]? = some F → F v' u) → (i ∈ D → ∀ b, hasB u b → v.heap.size ≤ b ∧ b < v'.heap.size) → K (fr (upd x i u)) v') → wpOp P l.toArray Q i K (fr x) v)
    (hend : ∀ x v, Gr W v → (∀ (j : Nat) (F : World → Value → Prop), j < n → Fs[j]? = some F → F v (x j)) → (∀ i j, i ∈ D → j ∈ D → i ≠ j → i < n → j < n → ∀ b, hasB (x i) b → ¬ hasB (x j) b) → wpList P l.toArray Q (l.drop n) (fr x) v) : (Code.region id l.toArray true).wp P Q a W := by
  subst ha
  refine wp_region_inv' n ds (fun _ listed a v => ∃ x, a = fr x ∧ Gr W v ∧ (∀ (j : Nat) (F : World → Value → Prop), Fs[j]? = some F → listed.getD j false = true → F v (x j)) ∧ (∀ j ∈ D, listed.getD j false = true → ∀ b, hasB (x j) b → b < v.heap.size) ∧
      (∀ i j, i ∈ D → j ∈ D → i ≠ j → listed.getD i false = true → listed.getD j false = true → ∀ b, hasB (x i) b → ¬ hasB (x j) b)) hm hB hD
    ⟨x0, rfl, Gr.dr W, fun j F _ h => (by rw [getD_replicate_false] at h; cases h), fun j _ h => (by rw [getD_replicate_false] at h; cases h), fun i j _ _ _ h => (by rw [getD_replicate_false] at h; cases h)⟩ ?_ ?_
  · rintro i hi listed a v hun hdep ⟨x, rfl, gv, hf, hb, hap⟩
    refine hstep i hi x v gv (fun j F hj hF => hf j F hF (hdep j hj)) _ (fun u v' hg hu hn => ⟨upd x i u, rfl, gv.tr hg, fun j F hF hl => ?_, fun j hj hl b hbb => ?_, fun j k hj hk hjk hl1 hl2 b hb1 hb2 => ?_⟩)
    · by_cases e : j = i
      · subst e
        rw [upd_at]
        exact hu F hF
      · rw [upd_ne x u e]
        exact hst j F hF v v' _ hg (hf j F hF (by rwa [getD_set_ne false (fun e' => e e'.symm)] at hl))
    · by_cases e : j = i
      · subst e
        rw [upd_at] at hbb
        exact (hn hj b hbb).2
      · rw [upd_ne x u e] at hbb
        exact Nat.lt_of_lt_of_le (hb j hj (by rwa [getD_set_ne false (fun e' => e e'.symm)] at hl) b hbb) hg.size
    · by_cases e1 : j = i
      · subst e1
        have e2 : ¬ k = j := fun e => hjk e.symm
        rw [upd_at] at hb1
        rw [upd_ne x u e2] at hb2
        have h1 := (hn hj b hb1).1
        have h2 := hb k hk (by rwa [getD_set_ne false (fun e' => e2 e'.symm)] at hl2) b hb2
        omega
      · rw [upd_ne x u e1] at hb1
        have h3 : listed.getD j false = true := by rwa [getD_set_ne false (fun e' => e1 e'.symm)] at hl1
        by_cases e2 : k = i
        · subst e2
          rw [upd_at] at hb2
          have h1 := (hn hk b hb2).1
          have h2 := hb j hj h3 b hb1
          omega
        · rw [upd_ne x u e2] at hb2
          exact hap j k hj hk hjk h3 (by rwa [getD_set_ne false (fun e' => e2 e'.symm)] at hl2) b hb1 hb2
  · rintro listed a v hs hall ⟨x, rfl, gv, hf, hb, hap⟩
    have hl1 : ∀ j, j < n → listed.getD j false = true := fun j hj => by
      have h1 := hall j hj
      have hl : j < listed.size := by omega
      simp [hl] at h1 ⊢
      exact h1
    exact hend x v gv (fun j F hj hF => hf j F hF (hl1 j hj)) (fun i j hi hj hij hin hjn => hap i j hi hj hij (hl1 i hin) (hl1 j hjn))

end Go.Proofs.Ytafkoococfnakaa

namespace Go.Proofs.Ytafkoococfnakaa
set_option linter.unusedVariables false
set_option linter.unusedSimpArgs false
open Go.RowKit Go.Shelf

theorem wp_abs_list {P : Program} {ops : Array Oper} {rest : List Oper} {Q : Exit → Act → World → Prop} {a : Act} {w : World} (F : World → Prop) (h : F w) (k : ∀ W, F W → wpList P ops Q rest a W) : wpList P ops Q rest a w := k w h

theorem infoInt' : (Try.prog.info? 3).map (fun i => (i.zero, i.size, i.bytes)) = some (some (.int .i64 0), 1, 8) := by kernel_rfl

theorem made_4 (w : World) : (Instr.makeSlice 22 (.int .i64 4) (.int .i64 4)).run Try.prog w = .ok (.slice (some ⟨w.heap.size, 0, none⟩) 4 4) (w.alloc (.cells #[.int .i64 0, .int .i64 0, .int .i64 0, .int .i64 0] 3)) := by
  have h := run_make_row' 22 3 (.int .i64 0) 8 Try.underlying22 infoInt' rfl .i64 .i64 4 (by omega) (by omega) w
  have e : madeCells #[Value.int .i64 0] 4 = #[.int .i64 0, .int .i64 0, .int .i64 0, .int .i64 0] := by first | rfl | kernel_rfl | simp [madeCells]
  rw [e] at h
  exact h

theorem made_2 (w : World) : (Instr.makeSlice 22 (.int .i64 2) (.int .i64 2)).run Try.prog w = .ok (.slice (some ⟨w.heap.size, 0, none⟩) 2 2) (w.alloc (.cells #[.int .i64 0, .int .i64 0] 3)) := by
  have h := run_make_row' 22 3 (.int .i64 0) 8 Try.underlying22 infoInt' rfl .i64 .i64 2 (by omega) (by omega) w
  have e : madeCells #[Value.int .i64 0] 2 = #[.int .i64 0, .int .i64 0] := by first | rfl | kernel_rfl | simp [madeCells]
  rw [e] at h
  exact h

theorem own_of_block {w : World} {b : Nat} {vs : List Value} {t : TypeId} (h : w.heap[b]? = some (.cells vs.toArray t)) : Own w b vs := by
  refine ⟨⟨(Array.getElem?_eq_some_iff.1 h).1, fun i v hv => ?_⟩, fun i => ?_⟩
  · simp only [World.cell?, h]
    simpa using hv
  · simp [World.frozen?, h]

theorem block_gr {w w' : World} {b : Nat} {o : Obj} (h : w.heap[b]? = some o) (g : Gr w w') : w'.heap[b]? = some o := (g.block b (Array.getElem?_eq_some_iff.1 h).1).trans h

theorem block_set {w : World} {b c i : Nat} {o : Obj} {v : Value} (h : w.heap[c]? = some o) (hne : c ≠ b) : (w.setCell ⟨b, i, none⟩ v).heap[c]? = some o := (Below.heap_setCell _ _ _ _ hne).trans h

/-- Three rows of zeros, none of which is another. -/
structure Zeros (w w' : World) (a b c : Nat) : Prop where
  ha : w'.heap[a]? = some (.cells #[.int .i64 0, .int .i64 0, .int .i64 0, .int .i64 0] 3)
  hb : w'.heap[b]? = some (.cells #[.int .i64 0, .int .i64 0] 3)
  hc : w'.heap[c]? = some (.cells #[.int .i64 0, .int .i64 0] 3)
  la : w.heap.size ≤ a
  lb : w.heap.size ≤ b
  lc : w.heap.size ≤ c
  ab : a ≠ b
  ac : a ≠ c
  bc : b ≠ c

set_option maxRecDepth 100000 in
set_option maxHeartbeats 4000000 in
theorem empty_any (tab : Int) (opn : Bool) (w : World) :
    Calls Try.prog 74 #[.int .i64 tab, .bool opn] w fun e w' => ∃ a b c, e = .returned (.agg #[.int .i64 tab, .slice (some ⟨a, 0, none⟩) 4 4, .int .i64 0, .slice (some ⟨b, 0, none⟩) 2 2, .slice (some ⟨c, 0, none⟩) 2 2, .int .i64 0, .bool opn]) ∧ Zeros w w' a b c ∧ Gr w w' := by
  have g0 := Gr.al w (.cells #[.int .i64 0, .slice none 0 0, .int .i64 0, .slice none 0 0, .slice none 0 0, .int .i64 0, .bool false] 24)
  have o0 := Own.new w [.int .i64 0, .slice none 0 0, .int .i64 0, .slice none 0 0, .slice none 0 0, .int .i64 0, .bool false] 24 w.heap.size rfl
  go_enter Try.func74, Try.ntmps74
  go_upto_region 1 with fail
  refine wp_abs (fun U => Gr w U ∧ Own U w.heap.size [.int .i64 0, .slice none 0 0, .int .i64 0, .slice none 0 0, .slice none 0 0, .int .i64 0, .bool false]) ⟨g0, o0⟩ ?_
  clear g0 o0
  rintro U ⟨gU, o0⟩
  refine wp_region_apart 5 [] [1, 2, 3] (fun x => ⟨#[.int .i64 tab, .bool opn, undef, undef, .pointer (some ⟨w.heap.size, 0, none⟩), x 0, x 1, x 2, x 3, x 4, undef], []⟩) (fun _ => undef) [fun _ x => x = .int .i64 tab, fun v x => ∃ a, x = .slice (some ⟨a, 0, none⟩) 4 4 ∧ U.heap.size ≤ a ∧ v.heap[a]? = some (.cells #[.int .i64 0, .int .i64 0, .int .i64 0, .int .i64 0] 3), fun v x => ∃ a, x = .slice (some ⟨a, 0, none⟩) 2 2 ∧ U.heap.size ≤ a ∧ v.heap[a]? = some (.cells #[.int .i64 0, .int .i64 0] 3), fun v x => ∃ a, x = .slice (some ⟨a, 0, none⟩) 2 2 ∧ U.heap.size ≤ a ∧ v.heap[a]? = some (.cells #[.int .i64 0, .int .i64 0] 3), fun _ x => x = .bool opn] (by rfl) (by kernel_rfl) (by kernel_rfl) (by kernel_rfl) (stays_cons (Stays.eq _) (stays_cons ((show Stays (fun v x => ∃ a, x = .slice (some ⟨a, 0, none⟩) 4 4 ∧ U.heap.size ≤ a ∧ v.heap[a]? = some (.cells #[.int .i64 0, .int .i64 0, .int .i64 0, .int .i64 0] 3)) from fun v v' x g ⟨a, e, l, o⟩ => ⟨a, e, l, block_gr o g⟩)) (stays_cons ((show Stays (fun v x => ∃ a, x = .slice (some ⟨a, 0, none⟩) 2 2 ∧ U.heap.size ≤ a ∧ v.heap[a]? = some (.cells #[.int .i64 0, .int .i64 0] 3)) from fun v v' x g ⟨a, e, l, o⟩ => ⟨a, e, l, block_gr o g⟩)) (stays_cons ((show Stays (fun v x => ∃ a, x = .slice (some ⟨a, 0, none⟩) 2 2 ∧ U.heap.size ≤ a ∧ v.heap[a]? = some (.cells #[.int .i64 0, .int .i64 0] 3)) from fun v v' x g ⟨a, e, l, o⟩ => ⟨a, e, l, block_gr o g⟩)) (stays_cons (Stays.eq _) stays_nil))))) ?step1 ?fin1
  case step1 =>
    rintro i hi x v gv hd K hK
    have hi8 : i = 0 ∨ i = 1 ∨ i = 2 ∨ i = 3 ∨ i = 4 := by omega
    rcases hi8 with rfl | rfl | rfl | rfl | rfl
    · show wpOp Try.prog _ _ 0 K (⟨#[.int .i64 tab, .bool opn, undef, undef, .pointer (some ⟨w.heap.size, 0, none⟩), x 0, x 1, x 2, x 3, x 4, undef], []⟩ : Act) v
      refine wpOp_step rfl (fun K' hK' => ?_)
      go_simp
      exact hK' _ _ (hK _ _ (Below.refl _ _) (at_of rfl (rfl)) (fun h => absurd h (by simp)))
    · show wpOp Try.prog _ _ 1 K (⟨#[.int .i64 tab, .bool opn, undef, undef, .pointer (some ⟨w.heap.size, 0, none⟩), x 0, x 1, x 2, x 3, x 4, undef], []⟩ : Act) v
      refine wpOp_step rfl (fun K' hK' => ?_)
      have hm := made_4 v
      go_simp
      have hg := Gr.al v (.cells #[.int .i64 0, .int .i64 0, .int .i64 0, .int .i64 0] 3)
      exact hK' _ _ (hK _ _ hg (at_of rfl (⟨_, rfl, gv.size, World.alloc_heap_new v _⟩)) (fun _ b hb => by simp [hasB, blkOf] at hb; subst hb; simp))
    · show wpOp Try.prog _ _ 2 K (⟨#[.int .i64 tab, .bool opn, undef, undef, .pointer (some ⟨w.heap.size, 0, none⟩), x 0, x 1, x 2, x 3, x 4, undef], []⟩ : Act) v
      refine wpOp_step rfl (fun K' hK' => ?_)
      have hm := made_2 v
      go_simp
      have hg := Gr.al v (.cells #[.int .i64 0, .int .i64 0] 3)
      exact hK' _ _ (hK _ _ hg (at_of rfl (⟨_, rfl, gv.size, World.alloc_heap_new v _⟩)) (fun _ b hb => by simp [hasB, blkOf] at hb; subst hb; simp))
    · show wpOp Try.prog _ _ 3 K (⟨#[.int .i64 tab, .bool opn, undef, undef, .pointer (some ⟨w.heap.size, 0, none⟩), x 0, x 1, x 2, x 3, x 4, undef], []⟩ : Act) v
      refine wpOp_step rfl (fun K' hK' => ?_)
      have hm := made_2 v
      go_simp
      have hg := Gr.al v (.cells #[.int .i64 0, .int .i64 0] 3)
      exact hK' _ _ (hK _ _ hg (at_of rfl (⟨_, rfl, gv.size, World.alloc_heap_new v _⟩)) (fun _ b hb => by simp [hasB, blkOf] at hb; subst hb; simp))
    · show wpOp Try.prog _ _ 4 K (⟨#[.int .i64 tab, .bool opn, undef, undef, .pointer (some ⟨w.heap.size, 0, none⟩), x 0, x 1, x 2, x 3, x 4, undef], []⟩ : Act) v
      refine wpOp_step rfl (fun K' hK' => ?_)
      go_simp
      exact hK' _ _ (hK _ _ (Below.refl _ _) (at_of rfl (rfl)) (fun h => absurd h (by simp)))
  case fin1 =>
    rintro x v gv hd hap
    obtain ⟨x, rfl⟩ := upd_of (show x 0 = .int .i64 tab from hd 0 _ (by omega) rfl)
    obtain ⟨a1, e1, l1, o1⟩ := hd 1 _ (by omega) rfl
    obtain ⟨x, rfl⟩ := upd_of (show x 1 = .slice (some ⟨a1, 0, none⟩) 4 4 from e1)
    obtain ⟨a2, e2, l2, o2⟩ := hd 2 _ (by omega) rfl
    obtain ⟨x, rfl⟩ := upd_of (show x 2 = .slice (some ⟨a2, 0, none⟩) 2 2 from e2)
    obtain ⟨a3, e3, l3, o3⟩ := hd 3 _ (by omega) rfl
    obtain ⟨x, rfl⟩ := upd_of (show x 3 = .slice (some ⟨a3, 0, none⟩) 2 2 from e3)
    obtain ⟨x, rfl⟩ := upd_of (show x 4 = .bool opn from hd 4 _ (by omega) rfl)
    clear hd
    show wpList Try.prog _ _ (List.drop 5 _) (⟨#[.int .i64 tab, .bool opn, undef, undef, .pointer (some ⟨w.heap.size, 0, none⟩), .int .i64 tab, .slice (some ⟨a1, 0, none⟩) 4 4, .slice (some ⟨a2, 0, none⟩) 2 2, .slice (some ⟨a3, 0, none⟩) 2 2, .bool opn, undef], []⟩ : Act) v
    simp only [List.drop_succ_cons, List.drop_zero]
    have n12 : a1 ≠ a2 := fun e => hap 1 2 (by simp) (by simp) (by simp) (by omega) (by omega) a1 (by rw [e1]; simp [hasB, blkOf]) (by rw [e2, e]; simp [hasB, blkOf])
    have n13 : a1 ≠ a3 := fun e => hap 1 3 (by simp) (by simp) (by simp) (by omega) (by omega) a1 (by rw [e1]; simp [hasB, blkOf]) (by rw [e3, e]; simp [hasB, blkOf])
    have n23 : a2 ≠ a3 := fun e => hap 2 3 (by simp) (by simp) (by simp) (by omega) (by omega) a2 (by rw [e2]; simp [hasB, blkOf]) (by rw [e3, e]; simp [hasB, blkOf])
    clear hap e1 e2 e3
    have ov := o0.keep gv
    have lU := gU.size
    have l0 := o0.1.1
    have q0 := ov.1.2 0 _ rfl
    have q1 := ov.1.2 1 _ rfl
    have q2 := ov.1.2 2 _ rfl
    have q3 := ov.1.2 3 _ rfl
    have q4 := ov.1.2 4 _ rfl
    have q5 := ov.1.2 5 _ rfl
    have q6 := ov.1.2 6 _ rfl
    have z0 := ov.2 0
    have z1 := ov.2 1
    have z2 := ov.2 2
    have z3 := ov.2 3
    have z4 := ov.2 4
    have z5 := ov.2 5
    have z6 := ov.2 6
    go_wp2
    refine bodyPost_ret (v := .agg #[.int .i64 tab, .slice (some ⟨a1, 0, none⟩) 4 4, .int .i64 0, .slice (some ⟨a2, 0, none⟩) 2 2, .slice (some ⟨a3, 0, none⟩) 2 2, .int .i64 0, .bool opn]) (by simp [results, Try.results74, go_sem, q0, q1, q2, q3, q4, q5, q6]) rfl ⟨a1, a2, a3, rfl, ⟨(block_set (block_set (block_set (block_set (block_set (block_set (block_set o1 (by omega)) (by omega)) (by omega)) (by omega)) (by omega)) (by omega)) (by omega)), (block_set (block_set (block_set (block_set (block_set (block_set (block_set o2 (by omega)) (by omega)) (by omega)) (by omega)) (by omega)) (by omega)) (by omega)), (block_set (block_set (block_set (block_set (block_set (block_set (block_set o3 (by omega)) (by omega)) (by omega)) (by omega)) (by omega)) (by omega)) (by omega)), by omega, by omega, by omega, n12, n13, n23⟩, ?_⟩
    exact ((((((((gU.tr gv).setCell (p := ⟨w.heap.size, 0, none⟩) (by simp) _).setCell (p := ⟨w.heap.size, 1, none⟩) (by simp) _).setCell (p := ⟨w.heap.size, 2, none⟩) (by simp) _).setCell (p := ⟨w.heap.size, 3, none⟩) (by simp) _).setCell (p := ⟨w.heap.size, 4, none⟩) (by simp) _).setCell (p := ⟨w.heap.size, 5, none⟩) (by simp) _).setCell (p := ⟨w.heap.size, 6, none⟩) (by simp) _)

theorem Zeros.gr {w v v' : World} {a b c : Nat} (h : Zeros w v a b c) (g : Gr v v') : Zeros w v' a b c := ⟨block_gr h.ha g, block_gr h.hb g, block_gr h.hc g, h.la, h.lb, h.lc, h.ab, h.ac, h.bc⟩

theorem Zeros.up {w v v' : World} {a b c : Nat} (g : Gr w v) (h : Zeros v v' a b c) : Zeros w v' a b c := ⟨h.ha, h.hb, h.hc, Nat.le_trans g.size h.la, Nat.le_trans g.size h.lb, Nat.le_trans g.size h.lc, h.ab, h.ac, h.bc⟩

theorem layZ (tab : Int) (opn : Bool) (a b c : Nat) (w : World) :
    Calls Try.prog 68 #[.agg #[.int .i64 tab, .slice (some ⟨a, 0, none⟩) 4 4, .int .i64 0, .slice (some ⟨b, 0, none⟩) 2 2, .slice (some ⟨c, 0, none⟩) 2 2, .int .i64 0, .bool opn], .int .i64 0] w fun e w' => e = .returned (.agg #[.int .i64 tab, .slice (some ⟨a, 0, none⟩) 4 4, .int .i64 0, .slice (some ⟨b, 0, none⟩) 2 2, .slice (some ⟨c, 0, none⟩) 2 2, .int .i64 0, .bool opn, .int .i64 0, .slice (some ⟨b, 0, none⟩) 2 2, .slice (some ⟨c, 0, none⟩) 2 2]) ∧ Gr w w' :=
  layS_any tab 0 0 0 [0, 0, 0, 0] [0, 0] [0, 0] (some ⟨a, 0, none⟩) (some ⟨b, 0, none⟩) (some ⟨c, 0, none⟩) 4 2 2 opn w

theorem row_lt {w : World} {a : Option Addr} {l : List Int} (h : IRow w a l) (hl : 0 < l.length) : ∀ b off, a = some ⟨b, off, none⟩ → b < w.heap.size := fun b off e => by
  obtain ⟨x, hx⟩ := get_of_lt hl
  obtain ⟨b', off', e', hb, _⟩ := h.2 0 x hx
  rw [e] at e'
  injection e' with e'
  injection e' with e1 _
  omega

theorem min_cast {a b : Nat} : min (a : Int) (b : Int) = ((min a b : Nat) : Int) := by omega

theorem panelsD_L {R : Rm} {W : Wi} {cl ch : Int} {i : Nat} : ∀ (n : Nat) (long : Int) (d : Dr) (f : Nat), DrL d → DrL (panelFrom R W cl ch i n long d f).1
  | 0, _, _, _, h => h
  | n + 1, long, d, f, h => by
    rw [panelFrom]
    split
    · split
      · exact flapsFrom_L 4 5 _ (h.put _ _)
      · exact panelsD_L n _ _ _ (flapsFrom_L 4 5 _ (h.put _ _))
    · exact (h.put (.pan i) long : DrL (d.put (.pan i) long))

theorem panelD_L {R : Rm} {W : Wi} {cl ch : Int} {i : Nat} {d : Dr} (h : DrL d) : DrL (panelD R W cl ch i d).1 := by
  have h1 : DrL (riseD R W cl ch i (R.pn i) (.pan i) d).1 := (h.put (.pan i) ((R.pn i).lo + (leastD R.opn W (riseE ch) i (R.pn i) (.pan i) d : Int)) : _)
  unfold panelD
  split
  · exact panelsD_L _ _ _ _ h1
  · exact h1

theorem panels_L {R : Rm} {W : Wi} {cl ch : Int} : ∀ n, DrL (panelsD R W cl ch n).1
  | 0 => ⟨rfl, rfl, rfl⟩
  | n + 1 => panelD_L (panels_L n)

set_option maxRecDepth 100000 in
set_option maxHeartbeats 8000000 in
theorem smallest_any (tab : Int) (ra rt rb : Option Addr) (rac rtc rbc : Nat) (R : Rm) (W : Wi) (cl ch : Int) (hR : RmOk R) (hW : W.ok) (w : World) (hra : IRow w ra R.pan) (hrt : IRow w rt R.top) (hrb : IRow w rb R.bot) :
    Calls Try.prog 75 #[.agg #[.int .i64 tab, .slice ra R.pan.length rac, .int .i64 R.hei, .slice rt R.top.length rtc, .slice rb R.bot.length rbc, .int .i64 R.slo, .bool R.opn, .int .i64 R.off, .slice rt R.top.length rtc, .slice rb R.bot.length rbc], .agg #[.int .i64 W.ll, .int .i64 W.lh, .int .i64 W.wl, .int .i64 W.wh, .int .i64 W.hl, .int .i64 W.hh, .int .i64 W.ol, .int .i64 W.oh, .int .i64 W.il, .int .i64 W.ih, .bool W.wo], .agg #[.int .i64 cl, .int .i64 ch]] w fun e w' => ∃ P T B, e = .returned (.tuple #[.agg #[.int .i64 tab, .slice (some ⟨P, 0, none⟩) 4 4, .int .i64 (smallD R W cl ch).1.hei, .slice (some ⟨T, 0, none⟩) 2 2, .slice (some ⟨B, 0, none⟩) 2 2, .int .i64 (smallD R W cl ch).1.slo, .bool R.opn], .int .i64 ((smallD R W cl ch).2 : Int)]) ∧
      Own w' P ((smallD R W cl ch).1.p.map encN) ∧ Own w' T ((smallD R W cl ch).1.t.map encN) ∧ Own w' B ((smallD R W cl ch).1.b.map encN) ∧ w.heap.size ≤ P ∧ w.heap.size ≤ T ∧ w.heap.size ≤ B ∧ Gr w w' := by
  obtain ⟨⟨d0, f0⟩, hr0⟩ : ∃ r, smallD R W cl ch = r := ⟨_, rfl⟩
  rw [hr0]
  have HR0 := Lib.hid hr0
  clear hr0
  have gg := (((Gr.al w (.cells #[.int .i64 tab, .slice ra R.pan.length rac, .int .i64 R.hei, .slice rt R.top.length rtc, .slice rb R.bot.length rbc, .int .i64 R.slo, .bool R.opn, .int .i64 R.off, .slice rt R.top.length rtc, .slice rb R.bot.length rbc] 124)).tr (Gr.al _ (.cells #[.int .i64 W.ll, .int .i64 W.lh, .int .i64 W.wl, .int .i64 W.wh, .int .i64 W.hl, .int .i64 W.hh, .int .i64 W.ol, .int .i64 W.oh, .int .i64 W.il, .int .i64 W.ih, .bool W.wo] 133))).tr (Gr.al _ (.cells #[.int .i64 cl, .int .i64 ch] 37))).tr (Gr.al _ (.cells #[.int .i64 0, .slice none 0 0, .int .i64 0, .slice none 0 0, .slice none 0 0, .int .i64 0, .bool false] 24))
  have o3 := (Own.new w [.int .i64 tab, .slice ra R.pan.length rac, .int .i64 R.hei, .slice rt R.top.length rtc, .slice rb R.bot.length rbc, .int .i64 R.slo, .bool R.opn, .int .i64 R.off, .slice rt R.top.length rtc, .slice rb R.bot.length rbc] 124 w.heap.size rfl).keep (((Gr.al _ (.cells #[.int .i64 W.ll, .int .i64 W.lh, .int .i64 W.wl, .int .i64 W.wh, .int .i64 W.hl, .int .i64 W.hh, .int .i64 W.ol, .int .i64 W.oh, .int .i64 W.il, .int .i64 W.ih, .bool W.wo] 133)).tr (Gr.al _ (.cells #[.int .i64 cl, .int .i64 ch] 37))).tr (Gr.al _ (.cells #[.int .i64 0, .slice none 0 0, .int .i64 0, .slice none 0 0, .slice none 0 0, .int .i64 0, .bool false] 24)))
  have o4 := (Own.new (w.alloc (.cells #[.int .i64 tab, .slice ra R.pan.length rac, .int .i64 R.hei, .slice rt R.top.length rtc, .slice rb R.bot.length rbc, .int .i64 R.slo, .bool R.opn, .int .i64 R.off, .slice rt R.top.length rtc, .slice rb R.bot.length rbc] 124)) [.int .i64 W.ll, .int .i64 W.lh, .int .i64 W.wl, .int .i64 W.wh, .int .i64 W.hl, .int .i64 W.hh, .int .i64 W.ol, .int .i64 W.oh, .int .i64 W.il, .int .i64 W.ih, .bool W.wo] 133 (w.heap.size + 1) (by simp)).keep ((Gr.al _ (.cells #[.int .i64 cl, .int .i64 ch] 37)).tr (Gr.al _ (.cells #[.int .i64 0, .slice none 0 0, .int .i64 0, .slice none 0 0, .slice none 0 0, .int .i64 0, .bool false] 24)))
  have o5 := (Own.new ((w.alloc (.cells #[.int .i64 tab, .slice ra R.pan.length rac, .int .i64 R.hei, .slice rt R.top.length rtc, .slice rb R.bot.length rbc, .int .i64 R.slo, .bool R.opn, .int .i64 R.off, .slice rt R.top.length rtc, .slice rb R.bot.length rbc] 124)).alloc (.cells #[.int .i64 W.ll, .int .i64 W.lh, .int .i64 W.wl, .int .i64 W.wh, .int .i64 W.hl, .int .i64 W.hh, .int .i64 W.ol, .int .i64 W.oh, .int .i64 W.il, .int .i64 W.ih, .bool W.wo] 133)) [.int .i64 cl, .int .i64 ch] 37 (w.heap.size + 1 + 1) (by simp)).keep (Gr.al _ (.cells #[.int .i64 0, .slice none 0 0, .int .i64 0, .slice none 0 0, .slice none 0 0, .int .i64 0, .bool false] 24))
  have o6 := Own.new (((w.alloc (.cells #[.int .i64 tab, .slice ra R.pan.length rac, .int .i64 R.hei, .slice rt R.top.length rtc, .slice rb R.bot.length rbc, .int .i64 R.slo, .bool R.opn, .int .i64 R.off, .slice rt R.top.length rtc, .slice rb R.bot.length rbc] 124)).alloc (.cells #[.int .i64 W.ll, .int .i64 W.lh, .int .i64 W.wl, .int .i64 W.wh, .int .i64 W.hl, .int .i64 W.hh, .int .i64 W.ol, .int .i64 W.oh, .int .i64 W.il, .int .i64 W.ih, .bool W.wo] 133)).alloc (.cells #[.int .i64 cl, .int .i64 ch] 37)) [.int .i64 0, .slice none 0 0, .int .i64 0, .slice none 0 0, .slice none 0 0, .int .i64 0, .bool false] 24 (w.heap.size + 1 + 1 + 1) (by simp)
  go_enter Try.func75, Try.ntmps75
  go_upto_region 1 with fail
  refine wp_abs (fun U => Gr w U ∧ Own U w.heap.size [.int .i64 tab, .slice ra R.pan.length rac, .int .i64 R.hei, .slice rt R.top.length rtc, .slice rb R.bot.length rbc, .int .i64 R.slo, .bool R.opn, .int .i64 R.off, .slice rt R.top.length rtc, .slice rb R.bot.length rbc] ∧ Own U (w.heap.size + 1) [.int .i64 W.ll, .int .i64 W.lh, .int .i64 W.wl, .int .i64 W.wh, .int .i64 W.hl, .int .i64 W.hh, .int .i64 W.ol, .int .i64 W.oh, .int .i64 W.il, .int .i64 W.ih, .bool W.wo] ∧ Own U (w.heap.size + 1 + 1) [.int .i64 cl, .int .i64 ch] ∧ Own U (w.heap.size + 1 + 1 + 1) [.int .i64 0, .slice none 0 0, .int .i64 0, .slice none 0 0, .slice none 0 0, .int .i64 0, .bool false]) ⟨gg, o3, o4, o5, o6⟩ ?_
  clear gg o3 o4 o5 o6
  rintro U ⟨gU, o3, o4, o5, o6⟩
  have hX := o3.1
  have hWs := o4.1
  have hCs := o5.1
  refine wp_region_facts 13 [(4, 3), (5, 4), (7, 6), (8, 7), (9, 5), (9, 8), (10, 9), (11, 0), (11, 1), (11, 2), (11, 10)] (fun x => ⟨#[.agg #[.int .i64 tab, .slice ra R.pan.length rac, .int .i64 R.hei, .slice rt R.top.length rtc, .slice rb R.bot.length rbc, .int .i64 R.slo, .bool R.opn, .int .i64 R.off, .slice rt R.top.length rtc, .slice rb R.bot.length rbc], .agg #[.int .i64 W.ll, .int .i64 W.lh, .int .i64 W.wl, .int .i64 W.wh, .int .i64 W.hl, .int .i64 W.hh, .int .i64 W.ol, .int .i64 W.oh, .int .i64 W.il, .int .i64 W.ih, .bool W.wo], .agg #[.int .i64 cl, .int .i64 ch], .pointer (some ⟨w.heap.size, 0, none⟩), .pointer (some ⟨(w.heap.size + 1), 0, none⟩), .pointer (some ⟨(w.heap.size + 1 + 1), 0, none⟩), .pointer (some ⟨(w.heap.size + 1 + 1 + 1), 0, none⟩), .int .i64 0, x 12, undef, x 0, x 1, x 2, x 3, x 4, x 5, x 6, x 7, x 8, x 9, x 10, x 11, undef, undef, undef, undef, undef, undef, undef, undef, undef, undef, undef, undef, undef, undef, undef, undef, undef, undef, undef, undef, undef, undef, undef, undef, undef, undef, undef, undef, undef, undef], []⟩) (fun _ => undef) [fun _ x => x = .agg #[.int .i64 tab, .slice ra R.pan.length rac, .int .i64 R.hei, .slice rt R.top.length rtc, .slice rb R.bot.length rbc, .int .i64 R.slo, .bool R.opn, .int .i64 R.off, .slice rt R.top.length rtc, .slice rb R.bot.length rbc], fun _ x => x = .agg #[.int .i64 W.ll, .int .i64 W.lh, .int .i64 W.wl, .int .i64 W.wh, .int .i64 W.hl, .int .i64 W.hh, .int .i64 W.ol, .int .i64 W.oh, .int .i64 W.il, .int .i64 W.ih, .bool W.wo], fun _ x => x = .agg #[.int .i64 cl, .int .i64 ch], fun _ x => x = .pointer (some ⟨w.heap.size, 0, none⟩), fun _ x => x = .pointer (some ⟨w.heap.size, 0, none⟩), fun _ x => x = .int .i64 tab, fun _ x => x = .pointer (some ⟨w.heap.size, 0, none⟩), fun _ x => x = .pointer (some ⟨w.heap.size, 6, none⟩), fun _ x => x = .bool R.opn, fun v x => ∃ a b c, x = .agg #[.int .i64 tab, .slice (some ⟨a, 0, none⟩) 4 4, .int .i64 0, .slice (some ⟨b, 0, none⟩) 2 2, .slice (some ⟨c, 0, none⟩) 2 2, .int .i64 0, .bool R.opn] ∧ Zeros U v a b c, fun v x => ∃ a b c, x = .agg #[.int .i64 tab, .slice (some ⟨a, 0, none⟩) 4 4, .int .i64 0, .slice (some ⟨b, 0, none⟩) 2 2, .slice (some ⟨c, 0, none⟩) 2 2, .int .i64 0, .bool R.opn, .int .i64 0, .slice (some ⟨b, 0, none⟩) 2 2, .slice (some ⟨c, 0, none⟩) 2 2] ∧ Zeros U v a b c, fun v x => ∃ a b c, x = .agg #[.int .i64 tab, .slice ra R.pan.length rac, .int .i64 R.hei, .slice rt R.top.length rtc, .slice rb R.bot.length rbc, .int .i64 R.slo, .bool R.opn, .int .i64 R.off, .slice rt R.top.length rtc, .slice rb R.bot.length rbc, .int .i64 W.ll, .int .i64 W.lh, .int .i64 W.wl, .int .i64 W.wh, .int .i64 W.hl, .int .i64 W.hh, .int .i64 W.ol, .int .i64 W.oh, .int .i64 W.il, .int .i64 W.ih, .bool W.wo, .int .i64 cl, .int .i64 ch, .int .i64 tab, .slice (some ⟨a, 0, none⟩) 4 4, .int .i64 0, .slice (some ⟨b, 0, none⟩) 2 2, .slice (some ⟨c, 0, none⟩) 2 2, .int .i64 0, .bool R.opn, .int .i64 0, .slice (some ⟨b, 0, none⟩) 2 2, .slice (some ⟨c, 0, none⟩) 2 2] ∧ Zeros U v a b c, fun v x => ∃ s, x = .pointer (some ⟨s, 0, none⟩) ∧ U.heap.size ≤ s ∧ v.heap[s]? = some (.cells #[.int .i64 0, .slice none 0 0, .int .i64 0, .slice none 0 0, .slice none 0 0, .int .i64 0, .bool false, .int .i64 0, .slice none 0 0, .slice none 0 0, .int .i64 0, .int .i64 0, .int .i64 0, .int .i64 0, .int .i64 0, .int .i64 0, .int .i64 0, .int .i64 0, .int .i64 0, .int .i64 0, .bool false, .int .i64 0, .int .i64 0, .int .i64 0, .slice none 0 0, .int .i64 0, .slice none 0 0, .slice none 0 0, .int .i64 0, .bool false, .int .i64 0, .slice none 0 0, .slice none 0 0] 166)] (by rfl) (by kernel_rfl) (by kernel_rfl) (by kernel_rfl) (stays_cons (Stays.eq _) (stays_cons (Stays.eq _) (stays_cons (Stays.eq _) (stays_cons (Stays.eq _) (stays_cons (Stays.eq _) (stays_cons (Stays.eq _) (stays_cons (Stays.eq _) (stays_cons (Stays.eq _) (stays_cons (Stays.eq _) (stays_cons ((show Stays (fun v x => ∃ a b c, x = .agg #[.int .i64 tab, .slice (some ⟨a, 0, none⟩) 4 4, .int .i64 0, .slice (some ⟨b, 0, none⟩) 2 2, .slice (some ⟨c, 0, none⟩) 2 2, .int .i64 0, .bool R.opn] ∧ Zeros U v a b c) from fun v v' x g ⟨a, b, c, e, z⟩ => ⟨a, b, c, e, z.gr g⟩)) (stays_cons ((show Stays (fun v x => ∃ a b c, x = .agg #[.int .i64 tab, .slice (some ⟨a, 0, none⟩) 4 4, .int .i64 0, .slice (some ⟨b, 0, none⟩) 2 2, .slice (some ⟨c, 0, none⟩) 2 2, .int .i64 0, .bool R.opn, .int .i64 0, .slice (some ⟨b, 0, none⟩) 2 2, .slice (some ⟨c, 0, none⟩) 2 2] ∧ Zeros U v a b c) from fun v v' x g ⟨a, b, c, e, z⟩ => ⟨a, b, c, e, z.gr g⟩)) (stays_cons ((show Stays (fun v x => ∃ a b c, x = .agg #[.int .i64 tab, .slice ra R.pan.length rac, .int .i64 R.hei, .slice rt R.top.length rtc, .slice rb R.bot.length rbc, .int .i64 R.slo, .bool R.opn, .int .i64 R.off, .slice rt R.top.length rtc, .slice rb R.bot.length rbc, .int .i64 W.ll, .int .i64 W.lh, .int .i64 W.wl, .int .i64 W.wh, .int .i64 W.hl, .int .i64 W.hh, .int .i64 W.ol, .int .i64 W.oh, .int .i64 W.il, .int .i64 W.ih, .bool W.wo, .int .i64 cl, .int .i64 ch, .int .i64 tab, .slice (some ⟨a, 0, none⟩) 4 4, .int .i64 0, .slice (some ⟨b, 0, none⟩) 2 2, .slice (some ⟨c, 0, none⟩) 2 2, .int .i64 0, .bool R.opn, .int .i64 0, .slice (some ⟨b, 0, none⟩) 2 2, .slice (some ⟨c, 0, none⟩) 2 2] ∧ Zeros U v a b c) from fun v v' x g ⟨a, b, c, e, z⟩ => ⟨a, b, c, e, z.gr g⟩)) (stays_cons ((show Stays (fun v x => ∃ s, x = .pointer (some ⟨s, 0, none⟩) ∧ U.heap.size ≤ s ∧ v.heap[s]? = some (.cells #[.int .i64 0, .slice none 0 0, .int .i64 0, .slice none 0 0, .slice none 0 0, .int .i64 0, .bool false, .int .i64 0, .slice none 0 0, .slice none 0 0, .int .i64 0, .int .i64 0, .int .i64 0, .int .i64 0, .int .i64 0, .int .i64 0, .int .i64 0, .int .i64 0, .int .i64 0, .int .i64 0, .bool false, .int .i64 0, .int .i64 0, .int .i64 0, .slice none 0 0, .int .i64 0, .slice none 0 0, .slice none 0 0, .int .i64 0, .bool false, .int .i64 0, .slice none 0 0, .slice none 0 0] 166)) from fun v v' x g ⟨s, e, l, o⟩ => ⟨s, e, l, block_gr o g⟩)) stays_nil))))))))))))) ?step1 ?fin1
  case step1 =>
    rintro i hi x v gv hd K hK
    have hi8 : i = 0 ∨ i = 1 ∨ i = 2 ∨ i = 3 ∨ i = 4 ∨ i = 5 ∨ i = 6 ∨ i = 7 ∨ i = 8 ∨ i = 9 ∨ i = 10 ∨ i = 11 ∨ i = 12 := by omega
    rcases hi8 with rfl | rfl | rfl | rfl | rfl | rfl | rfl | rfl | rfl | rfl | rfl | rfl | rfl
    · show wpOp Try.prog _ _ 0 K (⟨#[.agg #[.int .i64 tab, .slice ra R.pan.length rac, .int .i64 R.hei, .slice rt R.top.length rtc, .slice rb R.bot.length rbc, .int .i64 R.slo, .bool R.opn, .int .i64 R.off, .slice rt R.top.length rtc, .slice rb R.bot.length rbc], .agg #[.int .i64 W.ll, .int .i64 W.lh, .int .i64 W.wl, .int .i64 W.wh, .int .i64 W.hl, .int .i64 W.hh, .int .i64 W.ol, .int .i64 W.oh, .int .i64 W.il, .int .i64 W.ih, .bool W.wo], .agg #[.int .i64 cl, .int .i64 ch], .pointer (some ⟨w.heap.size, 0, none⟩), .pointer (some ⟨(w.heap.size + 1), 0, none⟩), .pointer (some ⟨(w.heap.size + 1 + 1), 0, none⟩), .pointer (some ⟨(w.heap.size + 1 + 1 + 1), 0, none⟩), .int .i64 0, x 12, undef, x 0, x 1, x 2, x 3, x 4, x 5, x 6, x 7, x 8, x 9, x 10, x 11, undef, undef, undef, undef, undef, undef, undef, undef, undef, undef, undef, undef, undef, undef, undef, undef, undef, undef, undef, undef, undef, undef, undef, undef, undef, undef, undef, undef, undef, undef], []⟩ : Act) v
      refine wpOp_step rfl (fun K' hK' => ?_)
      rw [if_pos (by rfl)]
      refine wp_load_mid 124 _ rfl w.heap.size 0 (by rfl) [.int .i64 tab, .slice ra R.pan.length rac, .int .i64 R.hei, .slice rt R.top.length rtc, .slice rb R.bot.length rbc, .int .i64 R.slo, .bool R.opn, .int .i64 R.off, .slice rt R.top.length rtc, .slice rb R.bot.length rbc] _ (fun j u hu => by rw [Nat.zero_add]; exact (hX.keep gv).2 j u hu) Try.underlying124 rfl (by kernel_rfl) ?_
      exact hK' _ _ (hK _ _ (Below.refl _ _) (at_of rfl (rfl)))
    · show wpOp Try.prog _ _ 1 K (⟨#[.agg #[.int .i64 tab, .slice ra R.pan.length rac, .int .i64 R.hei, .slice rt R.top.length rtc, .slice rb R.bot.length rbc, .int .i64 R.slo, .bool R.opn, .int .i64 R.off, .slice rt R.top.length rtc, .slice rb R.bot.length rbc], .agg #[.int .i64 W.ll, .int .i64 W.lh, .int .i64 W.wl, .int .i64 W.wh, .int .i64 W.hl, .int .i64 W.hh, .int .i64 W.ol, .int .i64 W.oh, .int .i64 W.il, .int .i64 W.ih, .bool W.wo], .agg #[.int .i64 cl, .int .i64 ch], .pointer (some ⟨w.heap.size, 0, none⟩), .pointer (some ⟨(w.heap.size + 1), 0, none⟩), .pointer (some ⟨(w.heap.size + 1 + 1), 0, none⟩), .pointer (some ⟨(w.heap.size + 1 + 1 + 1), 0, none⟩), .int .i64 0, x 12, undef, x 0, x 1, x 2, x 3, x 4, x 5, x 6, x 7, x 8, x 9, x 10, x 11, undef, undef, undef, undef, undef, undef, undef, undef, undef, undef, undef, undef, undef, undef, undef, undef, undef, undef, undef, undef, undef, undef, undef, undef, undef, undef, undef, undef, undef, undef], []⟩ : Act) v
      refine wpOp_step rfl (fun K' hK' => ?_)
      rw [if_pos (by rfl)]
      refine wp_load_mid 133 _ rfl (w.heap.size + 1) 0 (by rfl) [.int .i64 W.ll, .int .i64 W.lh, .int .i64 W.wl, .int .i64 W.wh, .int .i64 W.hl, .int .i64 W.hh, .int .i64 W.ol, .int .i64 W.oh, .int .i64 W.il, .int .i64 W.ih, .bool W.wo] _ (fun j u hu => by rw [Nat.zero_add]; exact (hWs.keep gv).2 j u hu) Try.underlying133 rfl (by kernel_rfl) ?_
      exact hK' _ _ (hK _ _ (Below.refl _ _) (at_of rfl (rfl)))
    · show wpOp Try.prog _ _ 2 K (⟨#[.agg #[.int .i64 tab, .slice ra R.pan.length rac, .int .i64 R.hei, .slice rt R.top.length rtc, .slice rb R.bot.length rbc, .int .i64 R.slo, .bool R.opn, .int .i64 R.off, .slice rt R.top.length rtc, .slice rb R.bot.length rbc], .agg #[.int .i64 W.ll, .int .i64 W.lh, .int .i64 W.wl, .int .i64 W.wh, .int .i64 W.hl, .int .i64 W.hh, .int .i64 W.ol, .int .i64 W.oh, .int .i64 W.il, .int .i64 W.ih, .bool W.wo], .agg #[.int .i64 cl, .int .i64 ch], .pointer (some ⟨w.heap.size, 0, none⟩), .pointer (some ⟨(w.heap.size + 1), 0, none⟩), .pointer (some ⟨(w.heap.size + 1 + 1), 0, none⟩), .pointer (some ⟨(w.heap.size + 1 + 1 + 1), 0, none⟩), .int .i64 0, x 12, undef, x 0, x 1, x 2, x 3, x 4, x 5, x 6, x 7, x 8, x 9, x 10, x 11, undef, undef, undef, undef, undef, undef, undef, undef, undef, undef, undef, undef, undef, undef, undef, undef, undef, undef, undef, undef, undef, undef, undef, undef, undef, undef, undef, undef, undef, undef], []⟩ : Act) v
      refine wpOp_step rfl (fun K' hK' => ?_)
      rw [if_pos (by rfl)]
      refine wp_load_mid 37 _ rfl (w.heap.size + 1 + 1) 0 (by rfl) [.int .i64 cl, .int .i64 ch] _ (fun j u hu => by rw [Nat.zero_add]; exact (hCs.keep gv).2 j u hu) Try.underlying37 rfl (by kernel_rfl) ?_
      exact hK' _ _ (hK _ _ (Below.refl _ _) (at_of rfl (rfl)))
    · show wpOp Try.prog _ _ 3 K (⟨#[.agg #[.int .i64 tab, .slice ra R.pan.length rac, .int .i64 R.hei, .slice rt R.top.length rtc, .slice rb R.bot.length rbc, .int .i64 R.slo, .bool R.opn, .int .i64 R.off, .slice rt R.top.length rtc, .slice rb R.bot.length rbc], .agg #[.int .i64 W.ll, .int .i64 W.lh, .int .i64 W.wl, .int .i64 W.wh, .int .i64 W.hl, .int .i64 W.hh, .int .i64 W.ol, .int .i64 W.oh, .int .i64 W.il, .int .i64 W.ih, .bool W.wo], .agg #[.int .i64 cl, .int .i64 ch], .pointer (some ⟨w.heap.size, 0, none⟩), .pointer (some ⟨(w.heap.size + 1), 0, none⟩), .pointer (some ⟨(w.heap.size + 1 + 1), 0, none⟩), .pointer (some ⟨(w.heap.size + 1 + 1 + 1), 0, none⟩), .int .i64 0, x 12, undef, x 0, x 1, x 2, x 3, x 4, x 5, x 6, x 7, x 8, x 9, x 10, x 11, undef, undef, undef, undef, undef, undef, undef, undef, undef, undef, undef, undef, undef, undef, undef, undef, undef, undef, undef, undef, undef, undef, undef, undef, undef, undef, undef, undef, undef, undef], []⟩ : Act) v
      refine wpOp_step rfl (fun K' hK' => ?_)
      go_simp
      exact hK' _ _ (hK _ _ (Below.refl _ _) (at_of rfl (rfl)))
    · obtain ⟨x, rfl⟩ := upd_of (show x 3 = .pointer (some ⟨w.heap.size, 0, none⟩) from hd 3 _ (by simp) rfl)
      show wpOp Try.prog _ _ 4 K (⟨#[.agg #[.int .i64 tab, .slice ra R.pan.length rac, .int .i64 R.hei, .slice rt R.top.length rtc, .slice rb R.bot.length rbc, .int .i64 R.slo, .bool R.opn, .int .i64 R.off, .slice rt R.top.length rtc, .slice rb R.bot.length rbc], .agg #[.int .i64 W.ll, .int .i64 W.lh, .int .i64 W.wl, .int .i64 W.wh, .int .i64 W.hl, .int .i64 W.hh, .int .i64 W.ol, .int .i64 W.oh, .int .i64 W.il, .int .i64 W.ih, .bool W.wo], .agg #[.int .i64 cl, .int .i64 ch], .pointer (some ⟨w.heap.size, 0, none⟩), .pointer (some ⟨(w.heap.size + 1), 0, none⟩), .pointer (some ⟨(w.heap.size + 1 + 1), 0, none⟩), .pointer (some ⟨(w.heap.size + 1 + 1 + 1), 0, none⟩), .int .i64 0, x 12, undef, x 0, x 1, x 2, .pointer (some ⟨w.heap.size, 0, none⟩), x 4, x 5, x 6, x 7, x 8, x 9, x 10, x 11, undef, undef, undef, undef, undef, undef, undef, undef, undef, undef, undef, undef, undef, undef, undef, undef, undef, undef, undef, undef, undef, undef, undef, undef, undef, undef, undef, undef, undef, undef], []⟩ : Act) v
      refine wpOp_step rfl (fun K' hK' => ?_)
      go_simp
      exact hK' _ _ (hK _ _ (Below.refl _ _) (at_of rfl (rfl)))
    · obtain ⟨x, rfl⟩ := upd_of (show x 4 = .pointer (some ⟨w.heap.size, 0, none⟩) from hd 4 _ (by simp) rfl)
      show wpOp Try.prog _ _ 5 K (⟨#[.agg #[.int .i64 tab, .slice ra R.pan.length rac, .int .i64 R.hei, .slice rt R.top.length rtc, .slice rb R.bot.length rbc, .int .i64 R.slo, .bool R.opn, .int .i64 R.off, .slice rt R.top.length rtc, .slice rb R.bot.length rbc], .agg #[.int .i64 W.ll, .int .i64 W.lh, .int .i64 W.wl, .int .i64 W.wh, .int .i64 W.hl, .int .i64 W.hh, .int .i64 W.ol, .int .i64 W.oh, .int .i64 W.il, .int .i64 W.ih, .bool W.wo], .agg #[.int .i64 cl, .int .i64 ch], .pointer (some ⟨w.heap.size, 0, none⟩), .pointer (some ⟨(w.heap.size + 1), 0, none⟩), .pointer (some ⟨(w.heap.size + 1 + 1), 0, none⟩), .pointer (some ⟨(w.heap.size + 1 + 1 + 1), 0, none⟩), .int .i64 0, x 12, undef, x 0, x 1, x 2, x 3, .pointer (some ⟨w.heap.size, 0, none⟩), x 5, x 6, x 7, x 8, x 9, x 10, x 11, undef, undef, undef, undef, undef, undef, undef, undef, undef, undef, undef, undef, undef, undef, undef, undef, undef, undef, undef, undef, undef, undef, undef, undef, undef, undef, undef, undef, undef, undef], []⟩ : Act) v
      refine wpOp_step rfl (fun K' hK' => ?_)
      have q := gv.keep (hX.2 0 _ rfl)
      go_simp
      exact hK' _ _ (hK _ _ (Below.refl _ _) (at_of rfl (rfl)))
    · show wpOp Try.prog _ _ 6 K (⟨#[.agg #[.int .i64 tab, .slice ra R.pan.length rac, .int .i64 R.hei, .slice rt R.top.length rtc, .slice rb R.bot.length rbc, .int .i64 R.slo, .bool R.opn, .int .i64 R.off, .slice rt R.top.length rtc, .slice rb R.bot.length rbc], .agg #[.int .i64 W.ll, .int .i64 W.lh, .int .i64 W.wl, .int .i64 W.wh, .int .i64 W.hl, .int .i64 W.hh, .int .i64 W.ol, .int .i64 W.oh, .int .i64 W.il, .int .i64 W.ih, .bool W.wo], .agg #[.int .i64 cl, .int .i64 ch], .pointer (some ⟨w.heap.size, 0, none⟩), .pointer (some ⟨(w.heap.size + 1), 0, none⟩), .pointer (some ⟨(w.heap.size + 1 + 1), 0, none⟩), .pointer (some ⟨(w.heap.size + 1 + 1 + 1), 0, none⟩), .int .i64 0, x 12, undef, x 0, x 1, x 2, x 3, x 4, x 5, x 6, x 7, x 8, x 9, x 10, x 11, undef, undef, undef, undef, undef, undef, undef, undef, undef, undef, undef, undef, undef, undef, undef, undef, undef, undef, undef, undef, undef, undef, undef, undef, undef, undef, undef, undef, undef, undef], []⟩ : Act) v
      refine wpOp_step rfl (fun K' hK' => ?_)
      go_simp
      exact hK' _ _ (hK _ _ (Below.refl _ _) (at_of rfl (rfl)))
    · obtain ⟨x, rfl⟩ := upd_of (show x 6 = .pointer (some ⟨w.heap.size, 0, none⟩) from hd 6 _ (by simp) rfl)
      show wpOp Try.prog _ _ 7 K (⟨#[.agg #[.int .i64 tab, .slice ra R.pan.length rac, .int .i64 R.hei, .slice rt R.top.length rtc, .slice rb R.bot.length rbc, .int .i64 R.slo, .bool R.opn, .int .i64 R.off, .slice rt R.top.length rtc, .slice rb R.bot.length rbc], .agg #[.int .i64 W.ll, .int .i64 W.lh, .int .i64 W.wl, .int .i64 W.wh, .int .i64 W.hl, .int .i64 W.hh, .int .i64 W.ol, .int .i64 W.oh, .int .i64 W.il, .int .i64 W.ih, .bool W.wo], .agg #[.int .i64 cl, .int .i64 ch], .pointer (some ⟨w.heap.size, 0, none⟩), .pointer (some ⟨(w.heap.size + 1), 0, none⟩), .pointer (some ⟨(w.heap.size + 1 + 1), 0, none⟩), .pointer (some ⟨(w.heap.size + 1 + 1 + 1), 0, none⟩), .int .i64 0, x 12, undef, x 0, x 1, x 2, x 3, x 4, x 5, .pointer (some ⟨w.heap.size, 0, none⟩), x 7, x 8, x 9, x 10, x 11, undef, undef, undef, undef, undef, undef, undef, undef, undef, undef, undef, undef, undef, undef, undef, undef, undef, undef, undef, undef, undef, undef, undef, undef, undef, undef, undef, undef, undef, undef], []⟩ : Act) v
      refine wpOp_step rfl (fun K' hK' => ?_)
      go_simp
      exact hK' _ _ (hK _ _ (Below.refl _ _) (at_of rfl (rfl)))
    · obtain ⟨x, rfl⟩ := upd_of (show x 7 = .pointer (some ⟨w.heap.size, 6, none⟩) from hd 7 _ (by simp) rfl)
      show wpOp Try.prog _ _ 8 K (⟨#[.agg #[.int .i64 tab, .slice ra R.pan.length rac, .int .i64 R.hei, .slice rt R.top.length rtc, .slice rb R.bot.length rbc, .int .i64 R.slo, .bool R.opn, .int .i64 R.off, .slice rt R.top.length rtc, .slice rb R.bot.length rbc], .agg #[.int .i64 W.ll, .int .i64 W.lh, .int .i64 W.wl, .int .i64 W.wh, .int .i64 W.hl, .int .i64 W.hh, .int .i64 W.ol, .int .i64 W.oh, .int .i64 W.il, .int .i64 W.ih, .bool W.wo], .agg #[.int .i64 cl, .int .i64 ch], .pointer (some ⟨w.heap.size, 0, none⟩), .pointer (some ⟨(w.heap.size + 1), 0, none⟩), .pointer (some ⟨(w.heap.size + 1 + 1), 0, none⟩), .pointer (some ⟨(w.heap.size + 1 + 1 + 1), 0, none⟩), .int .i64 0, x 12, undef, x 0, x 1, x 2, x 3, x 4, x 5, x 6, .pointer (some ⟨w.heap.size, 6, none⟩), x 8, x 9, x 10, x 11, undef, undef, undef, undef, undef, undef, undef, undef, undef, undef, undef, undef, undef, undef, undef, undef, undef, undef, undef, undef, undef, undef, undef, undef, undef, undef, undef, undef, undef, undef], []⟩ : Act) v
      refine wpOp_step rfl (fun K' hK' => ?_)
      have q := gv.keep (hX.2 6 _ rfl)
      go_simp
      exact hK' _ _ (hK _ _ (Below.refl _ _) (at_of rfl (rfl)))
    · obtain ⟨x, rfl⟩ := upd_of (show x 5 = .int .i64 tab from hd 5 _ (by simp) rfl)
      obtain ⟨x, rfl⟩ := upd_of (show x 8 = .bool R.opn from hd 8 _ (by simp) rfl)
      show wpOp Try.prog _ _ 9 K (⟨#[.agg #[.int .i64 tab, .slice ra R.pan.length rac, .int .i64 R.hei, .slice rt R.top.length rtc, .slice rb R.bot.length rbc, .int .i64 R.slo, .bool R.opn, .int .i64 R.off, .slice rt R.top.length rtc, .slice rb R.bot.length rbc], .agg #[.int .i64 W.ll, .int .i64 W.lh, .int .i64 W.wl, .int .i64 W.wh, .int .i64 W.hl, .int .i64 W.hh, .int .i64 W.ol, .int .i64 W.oh, .int .i64 W.il, .int .i64 W.ih, .bool W.wo], .agg #[.int .i64 cl, .int .i64 ch], .pointer (some ⟨w.heap.size, 0, none⟩), .pointer (some ⟨(w.heap.size + 1), 0, none⟩), .pointer (some ⟨(w.heap.size + 1 + 1), 0, none⟩), .pointer (some ⟨(w.heap.size + 1 + 1 + 1), 0, none⟩), .int .i64 0, x 12, undef, x 0, x 1, x 2, x 3, x 4, .int .i64 tab, x 6, x 7, .bool R.opn, x 9, x 10, x 11, undef, undef, undef, undef, undef, undef, undef, undef, undef, undef, undef, undef, undef, undef, undef, undef, undef, undef, undef, undef, undef, undef, undef, undef, undef, undef, undef, undef, undef, undef], []⟩ : Act) v
      refine wpOp_step rfl (fun K' hK' => ?_)
      go_simp
      refine (empty_any tab R.opn v).mono ?_
      rintro e v' ⟨a, b, c, rfl, hz, hg⟩
      exact hK' _ _ (hK _ _ hg (at_of rfl (⟨a, b, c, rfl, hz.up gv⟩)))
    · obtain ⟨a9, b9, c9, e9, z9⟩ := hd 9 _ (by simp) rfl
      obtain ⟨x, rfl⟩ := upd_of (show x 9 = .agg #[.int .i64 tab, .slice (some ⟨a9, 0, none⟩) 4 4, .int .i64 0, .slice (some ⟨b9, 0, none⟩) 2 2, .slice (some ⟨c9, 0, none⟩) 2 2, .int .i64 0, .bool R.opn] from e9)
      show wpOp Try.prog _ _ 10 K (⟨#[.agg #[.int .i64 tab, .slice ra R.pan.length rac, .int .i64 R.hei, .slice rt R.top.length rtc, .slice rb R.bot.length rbc, .int .i64 R.slo, .bool R.opn, .int .i64 R.off, .slice rt R.top.length rtc, .slice rb R.bot.length rbc], .agg #[.int .i64 W.ll, .int .i64 W.lh, .int .i64 W.wl, .int .i64 W.wh, .int .i64 W.hl, .int .i64 W.hh, .int .i64 W.ol, .int .i64 W.oh, .int .i64 W.il, .int .i64 W.ih, .bool W.wo], .agg #[.int .i64 cl, .int .i64 ch], .pointer (some ⟨w.heap.size, 0, none⟩), .pointer (some ⟨(w.heap.size + 1), 0, none⟩), .pointer (some ⟨(w.heap.size + 1 + 1), 0, none⟩), .pointer (some ⟨(w.heap.size + 1 + 1 + 1), 0, none⟩), .int .i64 0, x 12, undef, x 0, x 1, x 2, x 3, x 4, x 5, x 6, x 7, x 8, .agg #[.int .i64 tab, .slice (some ⟨a9, 0, none⟩) 4 4, .int .i64 0, .slice (some ⟨b9, 0, none⟩) 2 2, .slice (some ⟨c9, 0, none⟩) 2 2, .int .i64 0, .bool R.opn], x 10, x 11, undef, undef, undef, undef, undef, undef, undef, undef, undef, undef, undef, undef, undef, undef, undef, undef, undef, undef, undef, undef, undef, undef, undef, undef, undef, undef, undef, undef, undef, undef], []⟩ : Act) v
      refine wpOp_step rfl (fun K' hK' => ?_)
      go_simp
      refine (layZ tab R.opn a9 b9 c9 v).mono ?_
      rintro e v' ⟨rfl, hg⟩
      exact hK' _ _ (hK _ _ hg (at_of rfl (⟨a9, b9, c9, rfl, z9.gr hg⟩)))
    · obtain ⟨x, rfl⟩ := upd_of (show x 0 = .agg #[.int .i64 tab, .slice ra R.pan.length rac, .int .i64 R.hei, .slice rt R.top.length rtc, .slice rb R.bot.length rbc, .int .i64 R.slo, .bool R.opn, .int .i64 R.off, .slice rt R.top.length rtc, .slice rb R.bot.length rbc] from hd 0 _ (by simp) rfl)
      obtain ⟨x, rfl⟩ := upd_of (show x 1 = .agg #[.int .i64 W.ll, .int .i64 W.lh, .int .i64 W.wl, .int .i64 W.wh, .int .i64 W.hl, .int .i64 W.hh, .int .i64 W.ol, .int .i64 W.oh, .int .i64 W.il, .int .i64 W.ih, .bool W.wo] from hd 1 _ (by simp) rfl)
      obtain ⟨x, rfl⟩ := upd_of (show x 2 = .agg #[.int .i64 cl, .int .i64 ch] from hd 2 _ (by simp) rfl)
      obtain ⟨a10, b10, c10, e10, z10⟩ := hd 10 _ (by simp) rfl
      obtain ⟨x, rfl⟩ := upd_of (show x 10 = .agg #[.int .i64 tab, .slice (some ⟨a10, 0, none⟩) 4 4, .int .i64 0, .slice (some ⟨b10, 0, none⟩) 2 2, .slice (some ⟨c10, 0, none⟩) 2 2, .int .i64 0, .bool R.opn, .int .i64 0, .slice (some ⟨b10, 0, none⟩) 2 2, .slice (some ⟨c10, 0, none⟩) 2 2] from e10)
      show wpOp Try.prog _ _ 11 K (⟨#[.agg #[.int .i64 tab, .slice ra R.pan.length rac, .int .i64 R.hei, .slice rt R.top.length rtc, .slice rb R.bot.length rbc, .int .i64 R.slo, .bool R.opn, .int .i64 R.off, .slice rt R.top.length rtc, .slice rb R.bot.length rbc], .agg #[.int .i64 W.ll, .int .i64 W.lh, .int .i64 W.wl, .int .i64 W.wh, .int .i64 W.hl, .int .i64 W.hh, .int .i64 W.ol, .int .i64 W.oh, .int .i64 W.il, .int .i64 W.ih, .bool W.wo], .agg #[.int .i64 cl, .int .i64 ch], .pointer (some ⟨w.heap.size, 0, none⟩), .pointer (some ⟨(w.heap.size + 1), 0, none⟩), .pointer (some ⟨(w.heap.size + 1 + 1), 0, none⟩), .pointer (some ⟨(w.heap.size + 1 + 1 + 1), 0, none⟩), .int .i64 0, x 12, undef, .agg #[.int .i64 tab, .slice ra R.pan.length rac, .int .i64 R.hei, .slice rt R.top.length rtc, .slice rb R.bot.length rbc, .int .i64 R.slo, .bool R.opn, .int .i64 R.off, .slice rt R.top.length rtc, .slice rb R.bot.length rbc], .agg #[.int .i64 W.ll, .int .i64 W.lh, .int .i64 W.wl, .int .i64 W.wh, .int .i64 W.hl, .int .i64 W.hh, .int .i64 W.ol, .int .i64 W.oh, .int .i64 W.il, .int .i64 W.ih, .bool W.wo], .agg #[.int .i64 cl, .int .i64 ch], x 3, x 4, x 5, x 6, x 7, x 8, x 9, .agg #[.int .i64 tab, .slice (some ⟨a10, 0, none⟩) 4 4, .int .i64 0, .slice (some ⟨b10, 0, none⟩) 2 2, .slice (some ⟨c10, 0, none⟩) 2 2, .int .i64 0, .bool R.opn, .int .i64 0, .slice (some ⟨b10, 0, none⟩) 2 2, .slice (some ⟨c10, 0, none⟩) 2 2], x 11, undef, undef, undef, undef, undef, undef, undef, undef, undef, undef, undef, undef, undef, undef, undef, undef, undef, undef, undef, undef, undef, undef, undef, undef, undef, undef, undef, undef, undef, undef], []⟩ : Act) v
      refine wpOp_step rfl (fun K' hK' => ?_)
      go_simp
      exact hK' _ _ (hK _ _ (Below.refl _ _) (at_of rfl (⟨a10, b10, c10, rfl, z10⟩)))
    · show wpOp Try.prog _ _ 12 K (⟨#[.agg #[.int .i64 tab, .slice ra R.pan.length rac, .int .i64 R.hei, .slice rt R.top.length rtc, .slice rb R.bot.length rbc, .int .i64 R.slo, .bool R.opn, .int .i64 R.off, .slice rt R.top.length rtc, .slice rb R.bot.length rbc], .agg #[.int .i64 W.ll, .int .i64 W.lh, .int .i64 W.wl, .int .i64 W.wh, .int .i64 W.hl, .int .i64 W.hh, .int .i64 W.ol, .int .i64 W.oh, .int .i64 W.il, .int .i64 W.ih, .bool W.wo], .agg #[.int .i64 cl, .int .i64 ch], .pointer (some ⟨w.heap.size, 0, none⟩), .pointer (some ⟨(w.heap.size + 1), 0, none⟩), .pointer (some ⟨(w.heap.size + 1 + 1), 0, none⟩), .pointer (some ⟨(w.heap.size + 1 + 1 + 1), 0, none⟩), .int .i64 0, x 12, undef, x 0, x 1, x 2, x 3, x 4, x 5, x 6, x 7, x 8, x 9, x 10, x 11, undef, undef, undef, undef, undef, undef, undef, undef, undef, undef, undef, undef, undef, undef, undef, undef, undef, undef, undef, undef, undef, undef, undef, undef, undef, undef, undef, undef, undef, undef], []⟩ : Act) v
      refine wpOp_step rfl (fun K' hK' => ?_)
      go_simp
      have hg := Gr.al v (.cells #[.int .i64 0, .slice none 0 0, .int .i64 0, .slice none 0 0, .slice none 0 0, .int .i64 0, .bool false, .int .i64 0, .slice none 0 0, .slice none 0 0, .int .i64 0, .int .i64 0, .int .i64 0, .int .i64 0, .int .i64 0, .int .i64 0, .int .i64 0, .int .i64 0, .int .i64 0, .int .i64 0, .bool false, .int .i64 0, .int .i64 0, .int .i64 0, .slice none 0 0, .int .i64 0, .slice none 0 0, .slice none 0 0, .int .i64 0, .bool false, .int .i64 0, .slice none 0 0, .slice none 0 0] 166)
      exact hK' _ _ (hK _ _ hg (at_of rfl (⟨_, rfl, gv.size, World.alloc_heap_new v _⟩)))
  case fin1 =>
    rintro x v gv hd
    obtain ⟨a11, b11, c11, e11, z11⟩ := hd 11 _ (by omega) rfl
    obtain ⟨x, rfl⟩ := upd_of (show x 11 = .agg #[.int .i64 tab, .slice ra R.pan.length rac, .int .i64 R.hei, .slice rt R.top.length rtc, .slice rb R.bot.length rbc, .int .i64 R.slo, .bool R.opn, .int .i64 R.off, .slice rt R.top.length rtc, .slice rb R.bot.length rbc, .int .i64 W.ll, .int .i64 W.lh, .int .i64 W.wl, .int .i64 W.wh, .int .i64 W.hl, .int .i64 W.hh, .int .i64 W.ol, .int .i64 W.oh, .int .i64 W.il, .int .i64 W.ih, .bool W.wo, .int .i64 cl, .int .i64 ch, .int .i64 tab, .slice (some ⟨a11, 0, none⟩) 4 4, .int .i64 0, .slice (some ⟨b11, 0, none⟩) 2 2, .slice (some ⟨c11, 0, none⟩) 2 2, .int .i64 0, .bool R.opn, .int .i64 0, .slice (some ⟨b11, 0, none⟩) 2 2, .slice (some ⟨c11, 0, none⟩) 2 2] from e11)
    obtain ⟨sb, e12, lsb, hsb⟩ := hd 12 _ (by omega) rfl
    obtain ⟨x, rfl⟩ := upd_of (show x 12 = .pointer (some ⟨sb, 0, none⟩) from e12)
    clear hd
    show wpList Try.prog _ _ (List.drop 13 _) (⟨#[.agg #[.int .i64 tab, .slice ra R.pan.length rac, .int .i64 R.hei, .slice rt R.top.length rtc, .slice rb R.bot.length rbc, .int .i64 R.slo, .bool R.opn, .int .i64 R.off, .slice rt R.top.length rtc, .slice rb R.bot.length rbc], .agg #[.int .i64 W.ll, .int .i64 W.lh, .int .i64 W.wl, .int .i64 W.wh, .int .i64 W.hl, .int .i64 W.hh, .int .i64 W.ol, .int .i64 W.oh, .int .i64 W.il, .int .i64 W.ih, .bool W.wo], .agg #[.int .i64 cl, .int .i64 ch], .pointer (some ⟨w.heap.size, 0, none⟩), .pointer (some ⟨(w.heap.size + 1), 0, none⟩), .pointer (some ⟨(w.heap.size + 1 + 1), 0, none⟩), .pointer (some ⟨(w.heap.size + 1 + 1 + 1), 0, none⟩), .int .i64 0, .pointer (some ⟨sb, 0, none⟩), undef, x 0, x 1, x 2, x 3, x 4, x 5, x 6, x 7, x 8, x 9, x 10, .agg #[.int .i64 tab, .slice ra R.pan.length rac, .int .i64 R.hei, .slice rt R.top.length rtc, .slice rb R.bot.length rbc, .int .i64 R.slo, .bool R.opn, .int .i64 R.off, .slice rt R.top.length rtc, .slice rb R.bot.length rbc, .int .i64 W.ll, .int .i64 W.lh, .int .i64 W.wl, .int .i64 W.wh, .int .i64 W.hl, .int .i64 W.hh, .int .i64 W.ol, .int .i64 W.oh, .int .i64 W.il, .int .i64 W.ih, .bool W.wo, .int .i64 cl, .int .i64 ch, .int .i64 tab, .slice (some ⟨a11, 0, none⟩) 4 4, .int .i64 0, .slice (some ⟨b11, 0, none⟩) 2 2, .slice (some ⟨c11, 0, none⟩) 2 2, .int .i64 0, .bool R.opn, .int .i64 0, .slice (some ⟨b11, 0, none⟩) 2 2, .slice (some ⟨c11, 0, none⟩) 2 2], undef, undef, undef, undef, undef, undef, undef, undef, undef, undef, undef, undef, undef, undef, undef, undef, undef, undef, undef, undef, undef, undef, undef, undef, undef, undef, undef, undef, undef, undef], []⟩ : Act) v
    simp only [List.drop_succ_cons, List.drop_zero]
    have na : sb ≠ a11 := fun e => by rw [e, z11.ha] at hsb; simp at hsb
    have nb : sb ≠ b11 := fun e => by rw [e, z11.hb] at hsb; simp at hsb
    have nc : sb ≠ c11 := fun e => by rw [e, z11.hc] at hsb; simp at hsb
    clear e11 e12
    refine wpList_store_row rfl 166 _ _ rfl sb #[.int .i64 tab, .slice ra R.pan.length rac, .int .i64 R.hei, .slice rt R.top.length rtc, .slice rb R.bot.length rbc, .int .i64 R.slo, .bool R.opn, .int .i64 R.off, .slice rt R.top.length rtc, .slice rb R.bot.length rbc, .int .i64 W.ll, .int .i64 W.lh, .int .i64 W.wl, .int .i64 W.wh, .int .i64 W.hl, .int .i64 W.hh, .int .i64 W.ol, .int .i64 W.oh, .int .i64 W.il, .int .i64 W.ih, .bool W.wo, .int .i64 cl, .int .i64 ch, .int .i64 tab, .slice (some ⟨a11, 0, none⟩) 4 4, .int .i64 0, .slice (some ⟨b11, 0, none⟩) 2 2, .slice (some ⟨c11, 0, none⟩) 2 2, .int .i64 0, .bool R.opn, .int .i64 0, .slice (some ⟨b11, 0, none⟩) 2 2, .slice (some ⟨c11, 0, none⟩) 2 2] rfl rfl 166 #[.int .i64 0, .slice none 0 0, .int .i64 0, .slice none 0 0, .slice none 0 0, .int .i64 0, .bool false, .int .i64 0, .slice none 0 0, .slice none 0 0, .int .i64 0, .int .i64 0, .int .i64 0, .int .i64 0, .int .i64 0, .int .i64 0, .int .i64 0, .int .i64 0, .int .i64 0, .int .i64 0, .bool false, .int .i64 0, .int .i64 0, .int .i64 0, .slice none 0 0, .int .i64 0, .slice none 0 0, .slice none 0 0, .int .i64 0, .bool false, .int .i64 0, .slice none 0 0, .slice none 0 0] hsb (by kernel_rfl) rfl (by simp [Value.oneCell']) ?_
    obtain ⟨X, hXe⟩ : ∃ X : Sx, X = ⟨sb, a11, b11, c11, 4, 2, 2, tab, ra, rt, rb, rac, rtc, rbc, R, W, cl, ch⟩ := ⟨_, rfl⟩
    have hS0 : Se X Dr.zero (v.setRow sb #[.int .i64 tab, .slice ra R.pan.length rac, .int .i64 R.hei, .slice rt R.top.length rtc, .slice rb R.bot.length rbc, .int .i64 R.slo, .bool R.opn, .int .i64 R.off, .slice rt R.top.length rtc, .slice rb R.bot.length rbc, .int .i64 W.ll, .int .i64 W.lh, .int .i64 W.wl, .int .i64 W.wh, .int .i64 W.hl, .int .i64 W.hh, .int .i64 W.ol, .int .i64 W.oh, .int .i64 W.il, .int .i64 W.ih, .bool W.wo, .int .i64 cl, .int .i64 ch, .int .i64 tab, .slice (some ⟨a11, 0, none⟩) 4 4, .int .i64 0, .slice (some ⟨b11, 0, none⟩) 2 2, .slice (some ⟨c11, 0, none⟩) 2 2, .int .i64 0, .bool R.opn, .int .i64 0, .slice (some ⟨b11, 0, none⟩) 2 2, .slice (some ⟨c11, 0, none⟩) 2 2]) := by
      subst hXe
      exact ⟨own_of_block (setRow_heap _ _ _ _ _ _ hsb), own_of_block ((setRow_other _ _ _ _ na.symm).trans z11.ha), own_of_block ((setRow_other _ _ _ _ nb.symm).trans z11.hb), own_of_block ((setRow_other _ _ _ _ nc.symm).trans z11.hc)⟩
    have D : X.Dis := by subst hXe; exact ⟨na, nb, nc, z11.ab, z11.ac, z11.bc⟩
    have hZU : ∀ k, X.Z k → U.heap.size ≤ k := fun k e => by
      subst hXe
      rcases e with rfl | rfl | rfl | rfl
      · exact lsb
      · exact z11.la
      · exact z11.lb
      · exact z11.lc
    have kS : Kx X.Z v (v.setRow sb #[.int .i64 tab, .slice ra R.pan.length rac, .int .i64 R.hei, .slice rt R.top.length rtc, .slice rb R.bot.length rbc, .int .i64 R.slo, .bool R.opn, .int .i64 R.off, .slice rt R.top.length rtc, .slice rb R.bot.length rbc, .int .i64 W.ll, .int .i64 W.lh, .int .i64 W.wl, .int .i64 W.wh, .int .i64 W.hl, .int .i64 W.hh, .int .i64 W.ol, .int .i64 W.oh, .int .i64 W.il, .int .i64 W.ih, .bool W.wo, .int .i64 cl, .int .i64 ch, .int .i64 tab, .slice (some ⟨a11, 0, none⟩) 4 4, .int .i64 0, .slice (some ⟨b11, 0, none⟩) 2 2, .slice (some ⟨c11, 0, none⟩) 2 2, .int .i64 0, .bool R.opn, .int .i64 0, .slice (some ⟨b11, 0, none⟩) 2 2, .slice (some ⟨c11, 0, none⟩) 2 2]) := ⟨rfl, rfl, rfl, by simp [World.setRow], fun k _ hk => setRow_other _ _ _ _ (fun e => hk (by subst hXe; exact .inl e))⟩
    have kU : Kx X.Z U (v.setRow sb #[.int .i64 tab, .slice ra R.pan.length rac, .int .i64 R.hei, .slice rt R.top.length rtc, .slice rb R.bot.length rbc, .int .i64 R.slo, .bool R.opn, .int .i64 R.off, .slice rt R.top.length rtc, .slice rb R.bot.length rbc, .int .i64 W.ll, .int .i64 W.lh, .int .i64 W.wl, .int .i64 W.wh, .int .i64 W.hl, .int .i64 W.hh, .int .i64 W.ol, .int .i64 W.oh, .int .i64 W.il, .int .i64 W.ih, .bool W.wo, .int .i64 cl, .int .i64 ch, .int .i64 tab, .slice (some ⟨a11, 0, none⟩) 4 4, .int .i64 0, .slice (some ⟨b11, 0, none⟩) 2 2, .slice (some ⟨c11, 0, none⟩) 2 2, .int .i64 0, .bool R.opn, .int .i64 0, .slice (some ⟨b11, 0, none⟩) 2 2, .slice (some ⟨c11, 0, none⟩) 2 2]) := (Kx.gr gv).tr kS
    have eS : X.S = sb := by rw [hXe]
    have eP : X.P = a11 ∧ X.T = b11 ∧ X.B = c11 := by rw [hXe]; exact ⟨rfl, rfl, rfl⟩
    have eR : X.R = R ∧ X.W = W ∧ X.cl = cl ∧ X.ch = ch ∧ X.tab = tab ∧ X.pc = 4 ∧ X.tc = 2 ∧ X.bc = 2 := by rw [hXe]; exact ⟨rfl, rfl, rfl, rfl, rfl, rfl, rfl, rfl⟩
    have hrr : RoomRows X U := by
      intro V k
      subst hXe
      have lU := gU.size
      have up : ∀ {a : Option Addr} {l : List Int}, IRow w a l → 0 < l.length → IRow V a l := fun {a l} h hl => (h.grow gU).kx k (fun b off e e' => by have := row_lt h hl b off e; have := hZU b e'; omega)
      exact ⟨up hra (by rw [hR.l4]; omega), up hrt (by rw [hR.t2]; omega), up hrb (by rw [hR.b2]; omega)⟩
    have hXZ : ∀ k, X.Z k → k < (v.setRow sb #[.int .i64 tab, .slice ra R.pan.length rac, .int .i64 R.hei, .slice rt R.top.length rtc, .slice rb R.bot.length rbc, .int .i64 R.slo, .bool R.opn, .int .i64 R.off, .slice rt R.top.length rtc, .slice rb R.bot.length rbc, .int .i64 W.ll, .int .i64 W.lh, .int .i64 W.wl, .int .i64 W.wh, .int .i64 W.hl, .int .i64 W.hh, .int .i64 W.ol, .int .i64 W.oh, .int .i64 W.il, .int .i64 W.ih, .bool W.wo, .int .i64 cl, .int .i64 ch, .int .i64 tab, .slice (some ⟨a11, 0, none⟩) 4 4, .int .i64 0, .slice (some ⟨b11, 0, none⟩) 2 2, .slice (some ⟨c11, 0, none⟩) 2 2, .int .i64 0, .bool R.opn, .int .i64 0, .slice (some ⟨b11, 0, none⟩) 2 2, .slice (some ⟨c11, 0, none⟩) 2 2]).heap.size := fun k e => hS0.lt e
    obtain ⟨eR1, eR2, eR3, eR4, eR5, eR6, eR7, eR8⟩ := eR
    obtain ⟨eP1, eP2, eP3⟩ := eP
    have HXE := Lib.hid hXe
    have lU := gU.size
    have l6 := o6.1.1
    have z6 : ∀ k, X.Z k → k ≠ w.heap.size ∧ k ≠ w.heap.size + 1 + 1 + 1 := fun k e => by have := hZU k e; omega
    have Z6 := Lib.hid z6
    have hRX : RmOk X.R := by rw [eR1]; exact hR
    have hWX : X.W.ok := by rw [eR2]; exact hW
    have hDF : ∀ n, X.Z n → True := fun _ _ => trivial
    have HPAN : Hid (∀ (n : Nat) (d : Dr) (V : World), n < 4 → DrL d → Se X d V → Kx X.Z U V → Calls Try.prog 98 #[.pointer (some ⟨sb, 0, none⟩), .int .i64 n] V fun e w' => e = .returned (.int .i64 ((panelD R W cl ch n d).2 : Int)) ∧ Se X (panelD R W cl ch n d).1 w' ∧ Kx X.Z V w') := by
      subst hXe
      exact Lib.hid fun n d V hn hd hs hk => panelS_any _ D hRX n hn d hd hWX V hs (hrr.kx hk)
    have HHEI : Hid (∀ (d : Dr) (V : World), DrL d → Se X d V → Calls Try.prog 99 #[.pointer (some ⟨sb, 0, none⟩), .int .i64 4, .agg #[.int .i64 R.he.lo, .int .i64 R.he.hi], .pointer (some ⟨sb, 25, none⟩)] V fun e w' => e = .returned (.bool (riseD R W cl ch 4 R.he .hei d).2) ∧ Se X (riseD R W cl ch 4 R.he .hei d).1 w' ∧ Kx X.Z V w') := by
      subst hXe
      have ho := hR.he
      exact Lib.hid fun d V hd hs => rise_any _ d .hei sb 25 (MeAt.hei D) 4 (by omega) R.he ho.r0 ho.r1 ho.r2 hd hWX (fun u u0 u1 => heiK hd (by have := ho.r0; omega) (by have := ho.r2; omega)) (fun u v' huv he => rise_mono (.inr (.inl ⟨rfl, rfl⟩)) hd huv he) V hs
    have HSLO : Hid (∀ (d : Dr) (V : World), DrL d → Se X d V → Calls Try.prog 99 #[.pointer (some ⟨sb, 0, none⟩), .int .i64 9, .agg #[.int .i64 R.sl.lo, .int .i64 R.sl.hi], .pointer (some ⟨sb, 28, none⟩)] V fun e w' => e = .returned (.bool (riseD R W cl ch 9 R.sl .slo d).2) ∧ Se X (riseD R W cl ch 9 R.sl .slo d).1 w' ∧ Kx X.Z V w') := by
      subst hXe
      have ho := hR.sl
      exact Lib.hid fun d V hd hs => rise_any _ d .slo sb 28 (MeAt.slo D) 9 (by omega) R.sl ho.r0 ho.r1 ho.r2 hd hWX (fun u u0 u1 => sloK hd (by have := ho.r0; omega) (by have := ho.r2; omega)) (fun u v' huv he => rise_mono (.inr (.inr ⟨rfl, rfl⟩)) hd huv he) V hs
    have HC : Hid (∀ (d : Dr) (V : World), Se X d V → V.cell? ⟨sb, 23, none⟩ = some (.int .i64 tab) ∧ V.cell? ⟨sb, 24, none⟩ = some (.slice (some ⟨a11, 0, none⟩) 4 4) ∧ V.cell? ⟨sb, 25, none⟩ = some (.int .i64 d.hei) ∧ V.cell? ⟨sb, 26, none⟩ = some (.slice (some ⟨b11, 0, none⟩) 2 2) ∧ V.cell? ⟨sb, 27, none⟩ = some (.slice (some ⟨c11, 0, none⟩) 2 2) ∧ V.cell? ⟨sb, 28, none⟩ = some (.int .i64 d.slo) ∧ V.cell? ⟨sb, 29, none⟩ = some (.bool R.opn)) := by
      subst hXe
      exact Lib.hid fun d V h => ⟨h.s.1.2 23 _ rfl, h.s.1.2 24 _ rfl, h.s.1.2 25 _ rfl, h.s.1.2 26 _ rfl, h.s.1.2 27 _ rfl, h.s.1.2 28 _ rfl, h.s.1.2 29 _ rfl⟩
    have HOW : Hid (∀ (d : Dr) (V : World), Se X d V → Own V a11 (d.p.map encN) ∧ Own V b11 (d.t.map encN) ∧ Own V c11 (d.b.map encN)) := by
      subst hXe
      exact Lib.hid fun d V h => ⟨h.p, h.t, h.b⟩
    have HLA : Hid (U.heap.size ≤ a11 ∧ U.heap.size ≤ b11 ∧ U.heap.size ≤ c11) := Lib.hid ⟨z11.la, z11.lb, z11.lc⟩
    have HSB : Hid (U.heap.size ≤ sb) := Lib.hid lsb
    refine wp_abs_list (fun V => Se X Dr.zero V ∧ Kx X.Z U V) ⟨hS0, kU⟩ ?_
    clear kS kU hS0 hsb z11 hXZ gv hXe lsb na nb nc hDF eS eP1 eP2 eP3 eR1 eR2 eR3 eR4 eR5 eR6 eR7 eR8 hRX hWX hrr z6
    rintro V ⟨hS, kV⟩
    have HZU := Lib.hid hZU
    have HR2 := Lib.hid hR
    clear hZU hR HXE D
    go_upto_region 3 with fail
    refine (show (∀ s : Nat → Value, Code.wp Try.prog _ _ ⟨#[.agg #[.int .i64 tab, .slice ra R.pan.length rac, .int .i64 R.hei, .slice rt R.top.length rtc, .slice rb R.bot.length rbc, .int .i64 R.slo, .bool R.opn, .int .i64 R.off, .slice rt R.top.length rtc, .slice rb R.bot.length rbc], .agg #[.int .i64 W.ll, .int .i64 W.lh, .int .i64 W.wl, .int .i64 W.wh, .int .i64 W.hl, .int .i64 W.hh, .int .i64 W.ol, .int .i64 W.oh, .int .i64 W.il, .int .i64 W.ih, .bool W.wo], .agg #[.int .i64 cl, .int .i64 ch], .pointer (some ⟨w.heap.size, 0, none⟩), .pointer (some ⟨(w.heap.size + 1), 0, none⟩), .pointer (some ⟨(w.heap.size + 1 + 1), 0, none⟩), .pointer (some ⟨(w.heap.size + 1 + 1 + 1), 0, none⟩), .int .i64 10, .pointer (some ⟨sb, 0, none⟩), undef, s 10, s 11, s 12, s 13, s 14, s 15, s 16, s 17, s 18, s 19, s 20, s 21, undef, undef, undef, undef, undef, undef, undef, undef, undef, undef, undef, undef, undef, undef, undef, undef, undef, undef, undef, undef, undef, undef, undef, undef, undef, undef, undef, undef, undef, undef], []⟩ _) → _ from fun h => h ((fun l : List Value => fun i => l.getD i undef) [undef, undef, undef, undef, undef, undef, undef, undef, undef, undef, _, _, _, _, _, _, _, _, _, _, _, _])) ?_
    intro s
    go_wp2
    go_loopw [22, 7] (fun x y wr => Hid (∃ n : Nat, n ≤ 4 ∧ x = .int .i64 n ∧ y = .int .i64 ((panelsD R W cl ch n).2 : Int) ∧ Se X (panelsD R W cl ch n).1 wr ∧ Kx X.Z U wr)) (fun x y wr => 4 - (intOf x).toNat)
    case atStart => exact Lib.hid ⟨0, by omega, rfl, rfl, hS, kV⟩
    case round =>
      obtain ⟨n, hn4, rfl, rfl, hSn, kn⟩ := hrel.out
      clear hrel hS kV
      by_cases hlt : n < 4
      · have hL : DrL (panelsD R W cl ch n).1 := panels_L n
        have hnext : panelsD R W cl ch (n + 1) = ((panelD R W cl ch n (panelsD R W cl ch n).1).1, min (panelsD R W cl ch n).2 (panelD R W cl ch n (panelsD R W cl ch n).1).2) := rfl
        have HN := Lib.hid hnext
        clear hnext
        obtain ⟨⟨dn, fn⟩, hdn⟩ : ∃ r, panelsD R W cl ch n = r := ⟨_, rfl⟩
        have HDN := Lib.hid hdn
        rw [hdn] at hSn hL ⊢
        obtain ⟨⟨dm, fm⟩, hdm⟩ : ∃ r, panelD R W cl ch n dn = r := ⟨_, rfl⟩
        have hp := HPAN.out n dn wr hlt hL hSn kn
        rw [hdm] at hp
        have HNX : Hid (panelsD R W cl ch (n + 1) = (dm, min fn fm)) := Lib.hid (by rw [HN.out, hdn]; dsimp only; rw [hdm])
        clear hdn hdm
        have hmin : min (fn : Int) (fm : Int) = ((min fn fm : Nat) : Int) := min_cast
        dsimp only
        go_wp2_with (go_at_call 98; refine hp.mono ?_; rintro e w3 ⟨rfl, hS3, k3⟩)
        go_roundw
        case rel => exact Lib.hid ⟨n + 1, by omega, by go_num, by rw [HNX.out], by rw [HNX.out]; exact hS3, kn.tr k3⟩
        case measure => simp [intOf]; omega
      · obtain rfl : n = 4 := by omega
        obtain ⟨⟨dn, fn⟩, hdn⟩ : ∃ r, panelsD R W cl ch 4 = r := ⟨_, rfl⟩
        have hL : DrL dn := by have := panels_L (R := R) (W := W) (cl := cl) (ch := ch) 4; rw [hdn] at this; exact this
        rw [hdn] at hSn ⊢
        dsimp only
        have HDN := Lib.hid hdn
        obtain ⟨⟨dh, oh⟩, hdh⟩ : ∃ r, riseD R W cl ch 4 R.he .hei dn = r := ⟨_, rfl⟩
        have hh := fun V hV => HHEI.out dn V hL hV
        rw [hdh] at hh
        have HHEI2 := Lib.hid hh
        clear hh
        have hLh : DrL dh := by
          have e : dh = (riseD R W cl ch 4 R.he .hei dn).1 := by rw [hdh]
          rw [e]
          exact (hL.put .hei _ : DrL (dn.put .hei _))
        obtain ⟨⟨ds, os⟩, hds⟩ : ∃ r, riseD R W cl ch 9 R.sl .slo dh = r := ⟨_, rfl⟩
        have hs := fun V hV => HSLO.out dh V hLh hV
        rw [hds] at hs
        have HRES : Hid ((d0, f0) = (ds, failIf os (failIf oh fn 4) 9)) := Lib.hid (by
          rw [← HR0.out]
          unfold smallD slotD heightD
          rw [hdn]
          dsimp only
          rw [hdh]
          dsimp only
          rw [hds])
        have HS2 := Lib.hid hs
        clear hdn hdh hds hs hn4
        have HX2 := Lib.hid hX
        have H3 := Lib.hid o3
        have H6 := Lib.hid o6
        have hm4 : min (fn : Int) 4 = ((min fn 4 : Nat) : Int) := by omega
        have n36 : ∀ k, X.Z k → k ≠ w.heap.size ∧ k ≠ w.heap.size + 1 + 1 + 1 := fun k e => Z6.out k e
        have N36 := Lib.hid n36
        clear n36 hX o3 o6 hWs hCs o4 o5
        obtain ⟨x0, x1, x2, x3, x4, x5, x6, x7, x8, x9⟩ := ((H3.out.kx kn (fun e => (N36.out _ e).1 rfl)).1).c10
        obtain ⟨a0, a1, a2⟩ := HR2.out.ghei
        have o0 := HR2.out.o0
        have o1 := HR2.out.o1
        obtain ⟨l0, l1⟩ := HR2.out.gslo
        cases oh with
        | true =>
          go_upto_region 10 with (first
            | (go_at_call 100; refine (height_any _ _ _ _ _ _ _ _ _ _ _ _ _ _ a0 a1 o0 o1 _).mono ?_; rintro e wh ⟨rfl, gh⟩)
            | (go_at_call 99; refine (HHEI2.out wh (hSn.gr gh)).mono ?_; rintro e w4 ⟨rfl, hS4, k4⟩))
          clear x0 x1 x2 x3 x4 x5 x6 x7 x8 x9
          obtain ⟨x0, x1, x2, x3, x4, x5, x6, x7, x8, x9⟩ := ((H3.out.kx (kn.tr (Kx.tr (Kx.gr gh) k4)) (fun e => (N36.out _ e).1 rfl)).1).c10
          cases os with
          | true =>
            go_upto_region 12 with (first
              | (go_at_call 101; refine (slot_any _ _ _ _ _ _ _ _ _ _ _ _ _ _ l0 (by omega) o0 o1 _).mono ?_; rintro e wg ⟨rfl, gs⟩)
              | (go_at_call 99; refine (HS2.out wg (hS4.gr gs)).mono ?_; rintro e w5 ⟨rfl, hS5, k5⟩))
            clear x0 x1 x2 x3 x4 x5 x6 x7 x8 x9
            have e4 := H6.out.kx (kn.tr (Kx.tr (Kx.gr gh) (k4.tr (Kx.tr (Kx.gr gs) k5)))) (fun e => (N36.out _ e).2 rfl)
            obtain ⟨c0, c1, c2, c3, c4, c5, c6⟩ := HC.out ds w5 hS5
            have q0 := e4.1.2 0 _ rfl
            have q1 := e4.1.2 1 _ rfl
            have q2 := e4.1.2 2 _ rfl
            have q3 := e4.1.2 3 _ rfl
            have q4 := e4.1.2 4 _ rfl
            have q5 := e4.1.2 5 _ rfl
            have q6 := e4.1.2 6 _ rfl
            have z0 := e4.2 0
            have z1 := e4.2 1
            have z2 := e4.2 2
            have z3 := e4.2 3
            have z4 := e4.2 4
            have z5 := e4.2 5
            have z6 := e4.2 6
            have hsb : ¬ sb = w.heap.size + 1 + 1 + 1 := by have := HSB.out; omega
            have hsb' : ¬ w.heap.size + 1 + 1 + 1 = sb := fun e => hsb e.symm
            go_wp2
            obtain ⟨r1, r2, r3⟩ := HOW.out ds w5 hS5
            obtain ⟨l1', l2', l3'⟩ := HLA.out
            have hres := HRES.out
            simp only [failIf, if_true, if_false, Bool.false_eq_true, Prod.mk.injEq] at hres
            obtain ⟨hr1, hr2⟩ := hres
            have kf : Kx X.Z U w5 := kn.tr (Kx.tr (Kx.gr gh) (k4.tr (Kx.tr (Kx.gr gs) k5)))
            have gf : Gr w w5 := Kx.toGr ((Kx.gr (Z := noBlock) gU).th kf (fun k e => .inr (by have := HZU.out k e; omega)))
            have l6' : w.heap.size + 1 + 1 + 1 < w5.heap.size := e4.1.1
            refine bodyPost_ret (v := .tuple #[.agg #[.int .i64 tab, .slice (some ⟨a11, 0, none⟩) 4 4, .int .i64 ds.hei, .slice (some ⟨b11, 0, none⟩) 2 2, .slice (some ⟨c11, 0, none⟩) 2 2, .int .i64 ds.slo, .bool R.opn], .int .i64 ((fn : Nat) : Int)]) (by simp [results, Try.results75, go_sem, q0, q1, q2, q3, q4, q5, q6]) rfl ⟨a11, b11, c11, by rw [hr1, hr2], by rw [hr1]; exact (((((((r1.other (by omega)).other (by omega)).other (by omega)).other (by omega)).other (by omega)).other (by omega)).other (by omega)), by rw [hr1]; exact (((((((r2.other (by omega)).other (by omega)).other (by omega)).other (by omega)).other (by omega)).other (by omega)).other (by omega)), by rw [hr1]; exact (((((((r3.other (by omega)).other (by omega)).other (by omega)).other (by omega)).other (by omega)).other (by omega)).other (by omega)), by omega, by omega, by omega, ?_⟩
            exact (((((((gf.setCell (p := ⟨w.heap.size + 1 + 1 + 1, 0, none⟩) (by dsimp only; omega) _).setCell (p := ⟨w.heap.size + 1 + 1 + 1, 1, none⟩) (by dsimp only; omega) _).setCell (p := ⟨w.heap.size + 1 + 1 + 1, 2, none⟩) (by dsimp only; omega) _).setCell (p := ⟨w.heap.size + 1 + 1 + 1, 3, none⟩) (by dsimp only; omega) _).setCell (p := ⟨w.heap.size + 1 + 1 + 1, 4, none⟩) (by dsimp only; omega) _).setCell (p := ⟨w.heap.size + 1 + 1 + 1, 5, none⟩) (by dsimp only; omega) _).setCell (p := ⟨w.heap.size + 1 + 1 + 1, 6, none⟩) (by dsimp only; omega) _)
          | false =>
            have hm9 : min ((fn : Nat) : Int) 9 = ((min (fn) 9 : Nat) : Int) := by omega
            go_upto_region 12 with (first
              | (go_at_call 101; refine (slot_any _ _ _ _ _ _ _ _ _ _ _ _ _ _ l0 (by omega) o0 o1 _).mono ?_; rintro e wg ⟨rfl, gs⟩)
              | (go_at_call 99; refine (HS2.out wg (hS4.gr gs)).mono ?_; rintro e w5 ⟨rfl, hS5, k5⟩))
            clear x0 x1 x2 x3 x4 x5 x6 x7 x8 x9
            have e4 := H6.out.kx (kn.tr (Kx.tr (Kx.gr gh) (k4.tr (Kx.tr (Kx.gr gs) k5)))) (fun e => (N36.out _ e).2 rfl)
            obtain ⟨c0, c1, c2, c3, c4, c5, c6⟩ := HC.out ds w5 hS5
            have q0 := e4.1.2 0 _ rfl
            have q1 := e4.1.2 1 _ rfl
            have q2 := e4.1.2 2 _ rfl
            have q3 := e4.1.2 3 _ rfl
            have q4 := e4.1.2 4 _ rfl
            have q5 := e4.1.2 5 _ rfl
            have q6 := e4.1.2 6 _ rfl
            have z0 := e4.2 0
            have z1 := e4.2 1
            have z2 := e4.2 2
            have z3 := e4.2 3
            have z4 := e4.2 4
            have z5 := e4.2 5
            have z6 := e4.2 6
            have hsb : ¬ sb = w.heap.size + 1 + 1 + 1 := by have := HSB.out; omega
            have hsb' : ¬ w.heap.size + 1 + 1 + 1 = sb := fun e => hsb e.symm
            go_wp2
            obtain ⟨r1, r2, r3⟩ := HOW.out ds w5 hS5
            obtain ⟨l1', l2', l3'⟩ := HLA.out
            have hres := HRES.out
            simp only [failIf, if_true, if_false, Bool.false_eq_true, Prod.mk.injEq] at hres
            obtain ⟨hr1, hr2⟩ := hres
            have kf : Kx X.Z U w5 := kn.tr (Kx.tr (Kx.gr gh) (k4.tr (Kx.tr (Kx.gr gs) k5)))
            have gf : Gr w w5 := Kx.toGr ((Kx.gr (Z := noBlock) gU).th kf (fun k e => .inr (by have := HZU.out k e; omega)))
            have l6' : w.heap.size + 1 + 1 + 1 < w5.heap.size := e4.1.1
            refine bodyPost_ret (v := .tuple #[.agg #[.int .i64 tab, .slice (some ⟨a11, 0, none⟩) 4 4, .int .i64 ds.hei, .slice (some ⟨b11, 0, none⟩) 2 2, .slice (some ⟨c11, 0, none⟩) 2 2, .int .i64 ds.slo, .bool R.opn], .int .i64 ((min (fn) 9 : Nat) : Int)]) (by simp [results, Try.results75, go_sem, q0, q1, q2, q3, q4, q5, q6]) rfl ⟨a11, b11, c11, by rw [hr1, hr2], by rw [hr1]; exact (((((((r1.other (by omega)).other (by omega)).other (by omega)).other (by omega)).other (by omega)).other (by omega)).other (by omega)), by rw [hr1]; exact (((((((r2.other (by omega)).other (by omega)).other (by omega)).other (by omega)).other (by omega)).other (by omega)).other (by omega)), by rw [hr1]; exact (((((((r3.other (by omega)).other (by omega)).other (by omega)).other (by omega)).other (by omega)).other (by omega)).other (by omega)), by omega, by omega, by omega, ?_⟩
            exact (((((((gf.setCell (p := ⟨w.heap.size + 1 + 1 + 1, 0, none⟩) (by dsimp only; omega) _).setCell (p := ⟨w.heap.size + 1 + 1 + 1, 1, none⟩) (by dsimp only; omega) _).setCell (p := ⟨w.heap.size + 1 + 1 + 1, 2, none⟩) (by dsimp only; omega) _).setCell (p := ⟨w.heap.size + 1 + 1 + 1, 3, none⟩) (by dsimp only; omega) _).setCell (p := ⟨w.heap.size + 1 + 1 + 1, 4, none⟩) (by dsimp only; omega) _).setCell (p := ⟨w.heap.size + 1 + 1 + 1, 5, none⟩) (by dsimp only; omega) _).setCell (p := ⟨w.heap.size + 1 + 1 + 1, 6, none⟩) (by dsimp only; omega) _)
        | false =>
          go_upto_region 10 with (first
            | (go_at_call 100; refine (height_any _ _ _ _ _ _ _ _ _ _ _ _ _ _ a0 a1 o0 o1 _).mono ?_; rintro e wh ⟨rfl, gh⟩)
            | (go_at_call 99; refine (HHEI2.out wh (hSn.gr gh)).mono ?_; rintro e w4 ⟨rfl, hS4, k4⟩))
          clear x0 x1 x2 x3 x4 x5 x6 x7 x8 x9
          obtain ⟨x0, x1, x2, x3, x4, x5, x6, x7, x8, x9⟩ := ((H3.out.kx (kn.tr (Kx.tr (Kx.gr gh) k4)) (fun e => (N36.out _ e).1 rfl)).1).c10
          cases os with
          | true =>
            go_upto_region 12 with (first
              | (go_at_call 101; refine (slot_any _ _ _ _ _ _ _ _ _ _ _ _ _ _ l0 (by omega) o0 o1 _).mono ?_; rintro e wg ⟨rfl, gs⟩)
              | (go_at_call 99; refine (HS2.out wg (hS4.gr gs)).mono ?_; rintro e w5 ⟨rfl, hS5, k5⟩))
            clear x0 x1 x2 x3 x4 x5 x6 x7 x8 x9
            have e4 := H6.out.kx (kn.tr (Kx.tr (Kx.gr gh) (k4.tr (Kx.tr (Kx.gr gs) k5)))) (fun e => (N36.out _ e).2 rfl)
            obtain ⟨c0, c1, c2, c3, c4, c5, c6⟩ := HC.out ds w5 hS5
            have q0 := e4.1.2 0 _ rfl
            have q1 := e4.1.2 1 _ rfl
            have q2 := e4.1.2 2 _ rfl
            have q3 := e4.1.2 3 _ rfl
            have q4 := e4.1.2 4 _ rfl
            have q5 := e4.1.2 5 _ rfl
            have q6 := e4.1.2 6 _ rfl
            have z0 := e4.2 0
            have z1 := e4.2 1
            have z2 := e4.2 2
            have z3 := e4.2 3
            have z4 := e4.2 4
            have z5 := e4.2 5
            have z6 := e4.2 6
            have hsb : ¬ sb = w.heap.size + 1 + 1 + 1 := by have := HSB.out; omega
            have hsb' : ¬ w.heap.size + 1 + 1 + 1 = sb := fun e => hsb e.symm
            go_wp2
            obtain ⟨r1, r2, r3⟩ := HOW.out ds w5 hS5
            obtain ⟨l1', l2', l3'⟩ := HLA.out
            have hres := HRES.out
            simp only [failIf, if_true, if_false, Bool.false_eq_true, Prod.mk.injEq] at hres
            obtain ⟨hr1, hr2⟩ := hres
            have kf : Kx X.Z U w5 := kn.tr (Kx.tr (Kx.gr gh) (k4.tr (Kx.tr (Kx.gr gs) k5)))
            have gf : Gr w w5 := Kx.toGr ((Kx.gr (Z := noBlock) gU).th kf (fun k e => .inr (by have := HZU.out k e; omega)))
            have l6' : w.heap.size + 1 + 1 + 1 < w5.heap.size := e4.1.1
            refine bodyPost_ret (v := .tuple #[.agg #[.int .i64 tab, .slice (some ⟨a11, 0, none⟩) 4 4, .int .i64 ds.hei, .slice (some ⟨b11, 0, none⟩) 2 2, .slice (some ⟨c11, 0, none⟩) 2 2, .int .i64 ds.slo, .bool R.opn], .int .i64 ((min fn 4 : Nat) : Int)]) (by simp [results, Try.results75, go_sem, q0, q1, q2, q3, q4, q5, q6]) rfl ⟨a11, b11, c11, by rw [hr1, hr2], by rw [hr1]; exact (((((((r1.other (by omega)).other (by omega)).other (by omega)).other (by omega)).other (by omega)).other (by omega)).other (by omega)), by rw [hr1]; exact (((((((r2.other (by omega)).other (by omega)).other (by omega)).other (by omega)).other (by omega)).other (by omega)).other (by omega)), by rw [hr1]; exact (((((((r3.other (by omega)).other (by omega)).other (by omega)).other (by omega)).other (by omega)).other (by omega)).other (by omega)), by omega, by omega, by omega, ?_⟩
            exact (((((((gf.setCell (p := ⟨w.heap.size + 1 + 1 + 1, 0, none⟩) (by dsimp only; omega) _).setCell (p := ⟨w.heap.size + 1 + 1 + 1, 1, none⟩) (by dsimp only; omega) _).setCell (p := ⟨w.heap.size + 1 + 1 + 1, 2, none⟩) (by dsimp only; omega) _).setCell (p := ⟨w.heap.size + 1 + 1 + 1, 3, none⟩) (by dsimp only; omega) _).setCell (p := ⟨w.heap.size + 1 + 1 + 1, 4, none⟩) (by dsimp only; omega) _).setCell (p := ⟨w.heap.size + 1 + 1 + 1, 5, none⟩) (by dsimp only; omega) _).setCell (p := ⟨w.heap.size + 1 + 1 + 1, 6, none⟩) (by dsimp only; omega) _)
          | false =>
            have hm9 : min ((min fn 4 : Nat) : Int) 9 = ((min (min fn 4) 9 : Nat) : Int) := by omega
            go_upto_region 12 with (first
              | (go_at_call 101; refine (slot_any _ _ _ _ _ _ _ _ _ _ _ _ _ _ l0 (by omega) o0 o1 _).mono ?_; rintro e wg ⟨rfl, gs⟩)
              | (go_at_call 99; refine (HS2.out wg (hS4.gr gs)).mono ?_; rintro e w5 ⟨rfl, hS5, k5⟩))
            clear x0 x1 x2 x3 x4 x5 x6 x7 x8 x9
            have e4 := H6.out.kx (kn.tr (Kx.tr (Kx.gr gh) (k4.tr (Kx.tr (Kx.gr gs) k5)))) (fun e => (N36.out _ e).2 rfl)
            obtain ⟨c0, c1, c2, c3, c4, c5, c6⟩ := HC.out ds w5 hS5
            have q0 := e4.1.2 0 _ rfl
            have q1 := e4.1.2 1 _ rfl
            have q2 := e4.1.2 2 _ rfl
            have q3 := e4.1.2 3 _ rfl
            have q4 := e4.1.2 4 _ rfl
            have q5 := e4.1.2 5 _ rfl
            have q6 := e4.1.2 6 _ rfl
            have z0 := e4.2 0
            have z1 := e4.2 1
            have z2 := e4.2 2
            have z3 := e4.2 3
            have z4 := e4.2 4
            have z5 := e4.2 5
            have z6 := e4.2 6
            have hsb : ¬ sb = w.heap.size + 1 + 1 + 1 := by have := HSB.out; omega
            have hsb' : ¬ w.heap.size + 1 + 1 + 1 = sb := fun e => hsb e.symm
            go_wp2
            obtain ⟨r1, r2, r3⟩ := HOW.out ds w5 hS5
            obtain ⟨l1', l2', l3'⟩ := HLA.out
            have hres := HRES.out
            simp only [failIf, if_true, if_false, Bool.false_eq_true, Prod.mk.injEq] at hres
            obtain ⟨hr1, hr2⟩ := hres
            have kf : Kx X.Z U w5 := kn.tr (Kx.tr (Kx.gr gh) (k4.tr (Kx.tr (Kx.gr gs) k5)))
            have gf : Gr w w5 := Kx.toGr ((Kx.gr (Z := noBlock) gU).th kf (fun k e => .inr (by have := HZU.out k e; omega)))
            have l6' : w.heap.size + 1 + 1 + 1 < w5.heap.size := e4.1.1
            refine bodyPost_ret (v := .tuple #[.agg #[.int .i64 tab, .slice (some ⟨a11, 0, none⟩) 4 4, .int .i64 ds.hei, .slice (some ⟨b11, 0, none⟩) 2 2, .slice (some ⟨c11, 0, none⟩) 2 2, .int .i64 ds.slo, .bool R.opn], .int .i64 ((min (min fn 4) 9 : Nat) : Int)]) (by simp [results, Try.results75, go_sem, q0, q1, q2, q3, q4, q5, q6]) rfl ⟨a11, b11, c11, by rw [hr1, hr2], by rw [hr1]; exact (((((((r1.other (by omega)).other (by omega)).other (by omega)).other (by omega)).other (by omega)).other (by omega)).other (by omega)), by rw [hr1]; exact (((((((r2.other (by omega)).other (by omega)).other (by omega)).other (by omega)).other (by omega)).other (by omega)).other (by omega)), by rw [hr1]; exact (((((((r3.other (by omega)).other (by omega)).other (by omega)).other (by omega)).other (by omega)).other (by omega)).other (by omega)), by omega, by omega, by omega, ?_⟩
            exact (((((((gf.setCell (p := ⟨w.heap.size + 1 + 1 + 1, 0, none⟩) (by dsimp only; omega) _).setCell (p := ⟨w.heap.size + 1 + 1 + 1, 1, none⟩) (by dsimp only; omega) _).setCell (p := ⟨w.heap.size + 1 + 1 + 1, 2, none⟩) (by dsimp only; omega) _).setCell (p := ⟨w.heap.size + 1 + 1 + 1, 3, none⟩) (by dsimp only; omega) _).setCell (p := ⟨w.heap.size + 1 + 1 + 1, 4, none⟩) (by dsimp only; omega) _).setCell (p := ⟨w.heap.size + 1 + 1 + 1, 5, none⟩) (by dsimp only; omega) _).setCell (p := ⟨w.heap.size + 1 + 1 + 1, 6, none⟩) (by dsimp only; omega) _)

end Go.Proofs.Ytafkoococfnakaa

namespace Go.Proofs.Ytafkoococfnakaa
set_option linter.unusedVariables false
set_option linter.unusedSimpArgs false
open Go.RowKit Go.Shelf

/-- The error of a wish. -/
def Wi.err (W : Wi) : Int := wishE W.ll W.lh W.wl W.wh W.hl W.hh W.ol W.oh W.il W.ih

theorem Wi.ok_of {W : Wi} (h : W.err = 0) : W.ok := goodW_of h

theorem wiErr_any (W : Wi) (w : World) : Calls Try.prog 73 #[.agg #[.int .i64 W.ll, .int .i64 W.lh, .int .i64 W.wl, .int .i64 W.wh, .int .i64 W.hl, .int .i64 W.hh, .int .i64 W.ol, .int .i64 W.oh, .int .i64 W.il, .int .i64 W.ih, .bool W.wo]] w fun e w' => e = .returned (.int .i64 W.err) ∧ Gr w w' := wishes_any W.ll W.lh W.wl W.wh W.hl W.hh W.ol W.oh W.il W.ih W.wo w

/-- The sheet of which nothing is known. -/
def wholeR (wo : Bool) : Rm := ⟨3000, 0, 0, [0, 0, 0, 0], [0, 0], [0, 0], wo⟩

theorem wholeR_ok (wo : Bool) : RmOk (wholeR wo) := ⟨rfl, rfl, rfl, rfl, by simp [wholeR], by simp [wholeR], rfl, rfl, by simp [wholeR], by simp [wholeR], by simp [wholeR]⟩

theorem layW (tab : Int) (wo : Bool) (a b c : Nat) (w : World) :
    Calls Try.prog 68 #[.agg #[.int .i64 tab, .slice (some ⟨a, 0, none⟩) 4 4, .int .i64 0, .slice (some ⟨b, 0, none⟩) 2 2, .slice (some ⟨c, 0, none⟩) 2 2, .int .i64 0, .bool wo], .int .i64 3000] w fun e w' =>
      e = .returned (.agg #[.int .i64 tab, .slice (some ⟨a, 0, none⟩) 4 4, .int .i64 0, .slice (some ⟨b, 0, none⟩) 2 2, .slice (some ⟨c, 0, none⟩) 2 2, .int .i64 0, .bool wo, .int .i64 3000, .slice (some ⟨b, 0, none⟩) 2 2, .slice (some ⟨c, 0, none⟩) 2 2]) ∧ Gr w w' :=
  layS_any tab 0 0 3000 [0, 0, 0, 0] [0, 0] [0, 0] (some ⟨a, 0, none⟩) (some ⟨b, 0, none⟩) (some ⟨c, 0, none⟩) 4 2 2 wo w

theorem smallW (tab : Int) (W : Wi) (cl ch : Int) (hW : W.ok) (a b c : Nat) (w0 w : World) (hz : Zeros w0 w a b c) :
    Calls Try.prog 75 #[.agg #[.int .i64 tab, .slice (some ⟨a, 0, none⟩) 4 4, .int .i64 0, .slice (some ⟨b, 0, none⟩) 2 2, .slice (some ⟨c, 0, none⟩) 2 2, .int .i64 0, .bool W.wo, .int .i64 3000, .slice (some ⟨b, 0, none⟩) 2 2, .slice (some ⟨c, 0, none⟩) 2 2], .agg #[.int .i64 W.ll, .int .i64 W.lh, .int .i64 W.wl, .int .i64 W.wh, .int .i64 W.hl, .int .i64 W.hh, .int .i64 W.ol, .int .i64 W.oh, .int .i64 W.il, .int .i64 W.ih, .bool W.wo], .agg #[.int .i64 cl, .int .i64 ch]] w fun e w' =>
      ∃ P T B, e = .returned (.tuple #[.agg #[.int .i64 tab, .slice (some ⟨P, 0, none⟩) 4 4, .int .i64 (smallD (wholeR W.wo) W cl ch).1.hei, .slice (some ⟨T, 0, none⟩) 2 2, .slice (some ⟨B, 0, none⟩) 2 2, .int .i64 (smallD (wholeR W.wo) W cl ch).1.slo, .bool W.wo], .int .i64 ((smallD (wholeR W.wo) W cl ch).2 : Int)]) ∧
        Own w' P ((smallD (wholeR W.wo) W cl ch).1.p.map encN) ∧ Own w' T ((smallD (wholeR W.wo) W cl ch).1.t.map encN) ∧ Own w' B ((smallD (wholeR W.wo) W cl ch).1.b.map encN) ∧ w.heap.size ≤ P ∧ w.heap.size ≤ T ∧ w.heap.size ≤ B ∧ Gr w w' :=
  smallest_any tab (some ⟨a, 0, none⟩) (some ⟨b, 0, none⟩) (some ⟨c, 0, none⟩) 4 2 2 (wholeR W.wo) W cl ch (wholeR_ok W.wo) hW w
    (Own.irow (l := [0, 0, 0, 0]) (own_of_block hz.ha) (by decide)) (Own.irow (l := [0, 0]) (own_of_block hz.hb) (by decide)) (Own.irow (l := [0, 0]) (own_of_block hz.hc) (by decide))

/-- What Blank returns: a blank, or no blank. -/
def SBlankPost (W : Wi) (cl ch tab : Int) (w : World) (e : Ending) (w' : World) : Prop :=
  Gr w w' ∧ ((firstE [W.err, measE [⟨cl, ch⟩]] ≠ 0 ∧ e = .returned (.tuple #[.agg #[.int .i64 0, .slice none 0 0, .int .i64 0, .slice none 0 0, .slice none 0 0, .int .i64 0, .bool false], .int .i64 0, .int .i64 (firstE [W.err, measE [⟨cl, ch⟩]])])) ∨
    (firstE [W.err, measE [⟨cl, ch⟩]] = 0 ∧ inB 0 100 [tab] = false ∧ e = .returned (.tuple #[.agg #[.int .i64 0, .slice none 0 0, .int .i64 0, .slice none 0 0, .slice none 0 0, .int .i64 0, .bool false], .int .i64 0, .int .i64 5])) ∨
    (firstE [W.err, measE [⟨cl, ch⟩]] = 0 ∧ inB 0 100 [tab] = true ∧ (smallD (wholeR W.wo) W cl ch).2 < 10 ∧ e = .returned (.tuple #[.agg #[.int .i64 0, .slice none 0 0, .int .i64 0, .slice none 0 0, .slice none 0 0, .int .i64 0, .bool false], .int .i64 ((smallD (wholeR W.wo) W cl ch).2 : Int), .int .i64 9])) ∨
    (firstE [W.err, measE [⟨cl, ch⟩]] = 0 ∧ inB 0 100 [tab] = true ∧ ¬ (smallD (wholeR W.wo) W cl ch).2 < 10 ∧ ∃ P T B, e = .returned (.tuple #[.agg #[.int .i64 tab, .slice (some ⟨P, 0, none⟩) 4 4, .int .i64 (smallD (wholeR W.wo) W cl ch).1.hei, .slice (some ⟨T, 0, none⟩) 2 2, .slice (some ⟨B, 0, none⟩) 2 2, .int .i64 (smallD (wholeR W.wo) W cl ch).1.slo, .bool W.wo], .int .i64 0, .int .i64 0]) ∧
        IRow w' (some ⟨P, 0, none⟩) (smallD (wholeR W.wo) W cl ch).1.p ∧ IRow w' (some ⟨T, 0, none⟩) (smallD (wholeR W.wo) W cl ch).1.t ∧ IRow w' (some ⟨B, 0, none⟩) (smallD (wholeR W.wo) W cl ch).1.b))

theorem firstE_0 {l : List Int} (h : firstE l = 0) : ∀ x ∈ l, x = 0 := by
  induction l with
  | nil => intro x hx; cases hx
  | cons y l ih =>
    unfold firstE at h
    split at h
    · intro x hx
      rcases List.mem_cons.1 hx with rfl | hx
      · assumption
      · exact ih h x hx
    · exact absurd h (by assumption)

theorem small_L (R : Rm) (W : Wi) (cl ch : Int) : DrL (smallD R W cl ch).1 :=
  (DrL.put (DrL.put (panels_L 4) .hei _) .slo _ : _)

set_option maxRecDepth 100000 in
set_option maxHeartbeats 8000000 in
theorem blankF_any (W : Wi) (cl ch tab : Int) (w : World) :
    Calls Try.prog 29 #[.agg #[.int .i64 W.ll, .int .i64 W.lh, .int .i64 W.wl, .int .i64 W.wh, .int .i64 W.hl, .int .i64 W.hh, .int .i64 W.ol, .int .i64 W.oh, .int .i64 W.il, .int .i64 W.ih, .bool W.wo], .agg #[.int .i64 cl, .int .i64 ch], .int .i64 tab] w (SBlankPost W cl ch tab w) := by
  have gg := ((Gr.al w (.cells #[.int .i64 W.ll, .int .i64 W.lh, .int .i64 W.wl, .int .i64 W.wh, .int .i64 W.hl, .int .i64 W.hh, .int .i64 W.ol, .int .i64 W.oh, .int .i64 W.il, .int .i64 W.ih, .bool W.wo] 48)).tr (Gr.al _ (.cells #[.int .i64 cl, .int .i64 ch] 37))).tr (Gr.al _ (.cells #[.int .i64 0, .slice none 0 0, .int .i64 0, .slice none 0 0, .slice none 0 0, .int .i64 0, .bool false] 24))
  have hWs := (Box.new w [.int .i64 W.ll, .int .i64 W.lh, .int .i64 W.wl, .int .i64 W.wh, .int .i64 W.hl, .int .i64 W.hh, .int .i64 W.ol, .int .i64 W.oh, .int .i64 W.il, .int .i64 W.ih, .bool W.wo] 48 w.heap.size rfl).keep ((Gr.al _ (.cells #[.int .i64 cl, .int .i64 ch] 37)).tr (Gr.al _ (.cells #[.int .i64 0, .slice none 0 0, .int .i64 0, .slice none 0 0, .slice none 0 0, .int .i64 0, .bool false] 24)))
  have hCs := (Box.new (w.alloc (.cells #[.int .i64 W.ll, .int .i64 W.lh, .int .i64 W.wl, .int .i64 W.wh, .int .i64 W.hl, .int .i64 W.hh, .int .i64 W.ol, .int .i64 W.oh, .int .i64 W.il, .int .i64 W.ih, .bool W.wo] 48)) [.int .i64 cl, .int .i64 ch] 37 (w.heap.size + 1) (by simp)).keep (Gr.al _ (.cells #[.int .i64 0, .slice none 0 0, .int .i64 0, .slice none 0 0, .slice none 0 0, .int .i64 0, .bool false] 24))
  have o6 := Own.new ((w.alloc (.cells #[.int .i64 W.ll, .int .i64 W.lh, .int .i64 W.wl, .int .i64 W.wh, .int .i64 W.hl, .int .i64 W.hh, .int .i64 W.ol, .int .i64 W.oh, .int .i64 W.il, .int .i64 W.ih, .bool W.wo] 48)).alloc (.cells #[.int .i64 cl, .int .i64 ch] 37)) [.int .i64 0, .slice none 0 0, .int .i64 0, .slice none 0 0, .slice none 0 0, .int .i64 0, .bool false] 24 (w.heap.size + 1 + 1) (by simp)
  obtain ⟨eW, heW⟩ : ∃ e, W.err = e := ⟨_, rfl⟩
  obtain ⟨eM, heM⟩ : ∃ e, measE [⟨cl, ch⟩] = e := ⟨_, rfl⟩
  obtain ⟨E, heE⟩ : ∃ e, firstE [eW, eM] = e := ⟨_, rfl⟩
  have HPost : Hid (∀ e w', (SBlankPost W cl ch tab w e w' ↔ Gr w w' ∧ ((E ≠ 0 ∧ e = .returned (.tuple #[.agg #[.int .i64 0, .slice none 0 0, .int .i64 0, .slice none 0 0, .slice none 0 0, .int .i64 0, .bool false], .int .i64 0, .int .i64 E])) ∨
    (E = 0 ∧ inB 0 100 [tab] = false ∧ e = .returned (.tuple #[.agg #[.int .i64 0, .slice none 0 0, .int .i64 0, .slice none 0 0, .slice none 0 0, .int .i64 0, .bool false], .int .i64 0, .int .i64 5])) ∨
    (E = 0 ∧ inB 0 100 [tab] = true ∧ (smallD (wholeR W.wo) W cl ch).2 < 10 ∧ e = .returned (.tuple #[.agg #[.int .i64 0, .slice none 0 0, .int .i64 0, .slice none 0 0, .slice none 0 0, .int .i64 0, .bool false], .int .i64 ((smallD (wholeR W.wo) W cl ch).2 : Int), .int .i64 9])) ∨
    (E = 0 ∧ inB 0 100 [tab] = true ∧ ¬ (smallD (wholeR W.wo) W cl ch).2 < 10 ∧ ∃ P T B, e = .returned (.tuple #[.agg #[.int .i64 tab, .slice (some ⟨P, 0, none⟩) 4 4, .int .i64 (smallD (wholeR W.wo) W cl ch).1.hei, .slice (some ⟨T, 0, none⟩) 2 2, .slice (some ⟨B, 0, none⟩) 2 2, .int .i64 (smallD (wholeR W.wo) W cl ch).1.slo, .bool W.wo], .int .i64 0, .int .i64 0]) ∧
        IRow w' (some ⟨P, 0, none⟩) (smallD (wholeR W.wo) W cl ch).1.p ∧ IRow w' (some ⟨T, 0, none⟩) (smallD (wholeR W.wo) W cl ch).1.t ∧ IRow w' (some ⟨B, 0, none⟩) (smallD (wholeR W.wo) W cl ch).1.b)))) := Lib.hid (by
    intro e w'
    unfold SBlankPost
    rw [heW, heM, heE])
  have cW := fun v => wiErr_any W v
  rw [heW] at cW
  have cM := fun a v (h : SRow v a [⟨cl, ch⟩]) => measured_one cl ch a 1 v h
  rw [heM] at cM
  have cE := fun a v (h : IRow v a [eW, eM]) => first_2 eW eM a 2 v h
  rw [heE] at cE
  have CW := Lib.hid cW
  have CM := Lib.hid cM
  have CE := Lib.hid cE
  have HW0 : Hid (E = 0 → W.ok) := Lib.hid (fun h => Wi.ok_of (heW.trans (firstE_0 (heE.trans h) eW (by simp))))
  clear cW cM cE heW heM heE
  go_enter Try.func29, Try.ntmps29
  go_upto_region 1 with fail
  refine wp_abs (fun U => Gr w U ∧ Box U w.heap.size [.int .i64 W.ll, .int .i64 W.lh, .int .i64 W.wl, .int .i64 W.wh, .int .i64 W.hl, .int .i64 W.hh, .int .i64 W.ol, .int .i64 W.oh, .int .i64 W.il, .int .i64 W.ih, .bool W.wo] ∧ Box U (w.heap.size + 1) [.int .i64 cl, .int .i64 ch] ∧ Own U (w.heap.size + 1 + 1) [.int .i64 0, .slice none 0 0, .int .i64 0, .slice none 0 0, .slice none 0 0, .int .i64 0, .bool false]) ⟨gg, hWs, hCs, o6⟩ ?_
  clear gg hWs hCs o6
  rintro U ⟨gU, hWs, hCs, o6⟩
  refine wp_region_facts 7 [(1, 0), (3, 2), (4, 3), (5, 1), (5, 4), (6, 5)] (fun x => ⟨#[.agg #[.int .i64 W.ll, .int .i64 W.lh, .int .i64 W.wl, .int .i64 W.wh, .int .i64 W.hl, .int .i64 W.hh, .int .i64 W.ol, .int .i64 W.oh, .int .i64 W.il, .int .i64 W.ih, .bool W.wo], .agg #[.int .i64 cl, .int .i64 ch], .int .i64 tab, .pointer (some ⟨w.heap.size, 0, none⟩), .pointer (some ⟨(w.heap.size + 1), 0, none⟩), undef, .pointer (some ⟨(w.heap.size + 1 + 1), 0, none⟩), .int .i64 0, .int .i64 0, undef, undef, x 0, x 1, x 2, x 3, x 4, x 5, x 6, undef, undef, undef, undef, undef, undef, undef, undef, undef, undef, undef, undef, undef, undef, undef, undef, undef, undef, undef, undef, undef, undef, undef, undef, undef, undef, undef], []⟩) (fun _ => undef) [fun _ x => x = .agg #[.int .i64 W.ll, .int .i64 W.lh, .int .i64 W.wl, .int .i64 W.wh, .int .i64 W.hl, .int .i64 W.hh, .int .i64 W.ol, .int .i64 W.oh, .int .i64 W.il, .int .i64 W.ih, .bool W.wo], fun _ x => x = .int .i64 eW, fun _ x => x = .agg #[.int .i64 cl, .int .i64 ch], fun v x => ∃ a, x = .slice a 1 1 ∧ SRow v a [⟨cl, ch⟩], fun _ x => x = .int .i64 eM, fun v x => ∃ a, x = .slice a 2 2 ∧ IRow v a [eW, eM], fun _ x => x = .int .i64 E] (by rfl) (by kernel_rfl) (by kernel_rfl) (by kernel_rfl) (stays_cons (Stays.eq _) (stays_cons (Stays.eq _) (stays_cons (Stays.eq _) (stays_cons ((show Stays (fun v x => ∃ a, x = .slice a 1 1 ∧ SRow v a [⟨cl, ch⟩]) from fun v v' x g ⟨a, e, r⟩ => ⟨a, e, r.grow g⟩)) (stays_cons (Stays.eq _) (stays_cons ((show Stays (fun v x => ∃ a, x = .slice a 2 2 ∧ IRow v a [eW, eM]) from fun v v' x g ⟨a, e, r⟩ => ⟨a, e, r.grow g⟩)) (stays_cons (Stays.eq _) stays_nil))))))) ?step1 ?fin1
  case step1 =>
    rintro i hi x v gv hd K hK
    have hi8 : i = 0 ∨ i = 1 ∨ i = 2 ∨ i = 3 ∨ i = 4 ∨ i = 5 ∨ i = 6 := by omega
    rcases hi8 with rfl | rfl | rfl | rfl | rfl | rfl | rfl
    · show wpOp Try.prog _ _ 0 K (⟨#[.agg #[.int .i64 W.ll, .int .i64 W.lh, .int .i64 W.wl, .int .i64 W.wh, .int .i64 W.hl, .int .i64 W.hh, .int .i64 W.ol, .int .i64 W.oh, .int .i64 W.il, .int .i64 W.ih, .bool W.wo], .agg #[.int .i64 cl, .int .i64 ch], .int .i64 tab, .pointer (some ⟨w.heap.size, 0, none⟩), .pointer (some ⟨(w.heap.size + 1), 0, none⟩), undef, .pointer (some ⟨(w.heap.size + 1 + 1), 0, none⟩), .int .i64 0, .int .i64 0, undef, undef, x 0, x 1, x 2, x 3, x 4, x 5, x 6, undef, undef, undef, undef, undef, undef, undef, undef, undef, undef, undef, undef, undef, undef, undef, undef, undef, undef, undef, undef, undef, undef, undef, undef, undef, undef, undef], []⟩ : Act) v
      refine wpOp_step rfl (fun K' hK' => ?_)
      rw [if_pos (by rfl)]
      refine wp_load_mid 48 _ rfl w.heap.size 0 (by rfl) [.int .i64 W.ll, .int .i64 W.lh, .int .i64 W.wl, .int .i64 W.wh, .int .i64 W.hl, .int .i64 W.hh, .int .i64 W.ol, .int .i64 W.oh, .int .i64 W.il, .int .i64 W.ih, .bool W.wo] _ (fun j u hu => by rw [Nat.zero_add]; exact (hWs.keep gv).2 j u hu) Try.underlying48 rfl (by kernel_rfl) ?_
      exact hK' _ _ (hK _ _ (Below.refl _ _) (at_of rfl (rfl)))
    · obtain ⟨x, rfl⟩ := upd_of (show x 0 = .agg #[.int .i64 W.ll, .int .i64 W.lh, .int .i64 W.wl, .int .i64 W.wh, .int .i64 W.hl, .int .i64 W.hh, .int .i64 W.ol, .int .i64 W.oh, .int .i64 W.il, .int .i64 W.ih, .bool W.wo] from hd 0 _ (by simp) rfl)
      show wpOp Try.prog _ _ 1 K (⟨#[.agg #[.int .i64 W.ll, .int .i64 W.lh, .int .i64 W.wl, .int .i64 W.wh, .int .i64 W.hl, .int .i64 W.hh, .int .i64 W.ol, .int .i64 W.oh, .int .i64 W.il, .int .i64 W.ih, .bool W.wo], .agg #[.int .i64 cl, .int .i64 ch], .int .i64 tab, .pointer (some ⟨w.heap.size, 0, none⟩), .pointer (some ⟨(w.heap.size + 1), 0, none⟩), undef, .pointer (some ⟨(w.heap.size + 1 + 1), 0, none⟩), .int .i64 0, .int .i64 0, undef, undef, .agg #[.int .i64 W.ll, .int .i64 W.lh, .int .i64 W.wl, .int .i64 W.wh, .int .i64 W.hl, .int .i64 W.hh, .int .i64 W.ol, .int .i64 W.oh, .int .i64 W.il, .int .i64 W.ih, .bool W.wo], x 1, x 2, x 3, x 4, x 5, x 6, undef, undef, undef, undef, undef, undef, undef, undef, undef, undef, undef, undef, undef, undef, undef, undef, undef, undef, undef, undef, undef, undef, undef, undef, undef, undef, undef], []⟩ : Act) v
      refine wpOp_step rfl (fun K' hK' => ?_)
      go_simp
      refine (CW.out v).mono ?_
      rintro e v' ⟨rfl, hg⟩
      exact hK' _ _ (hK _ _ hg (at_of rfl (rfl)))
    · show wpOp Try.prog _ _ 2 K (⟨#[.agg #[.int .i64 W.ll, .int .i64 W.lh, .int .i64 W.wl, .int .i64 W.wh, .int .i64 W.hl, .int .i64 W.hh, .int .i64 W.ol, .int .i64 W.oh, .int .i64 W.il, .int .i64 W.ih, .bool W.wo], .agg #[.int .i64 cl, .int .i64 ch], .int .i64 tab, .pointer (some ⟨w.heap.size, 0, none⟩), .pointer (some ⟨(w.heap.size + 1), 0, none⟩), undef, .pointer (some ⟨(w.heap.size + 1 + 1), 0, none⟩), .int .i64 0, .int .i64 0, undef, undef, x 0, x 1, x 2, x 3, x 4, x 5, x 6, undef, undef, undef, undef, undef, undef, undef, undef, undef, undef, undef, undef, undef, undef, undef, undef, undef, undef, undef, undef, undef, undef, undef, undef, undef, undef, undef], []⟩ : Act) v
      refine wpOp_step rfl (fun K' hK' => ?_)
      rw [if_pos (by rfl)]
      refine wp_load_mid 37 _ rfl (w.heap.size + 1) 0 (by rfl) [.int .i64 cl, .int .i64 ch] _ (fun j u hu => by rw [Nat.zero_add]; exact (hCs.keep gv).2 j u hu) Try.underlying37 rfl (by kernel_rfl) ?_
      exact hK' _ _ (hK _ _ (Below.refl _ _) (at_of rfl (rfl)))
    · obtain ⟨x, rfl⟩ := upd_of (show x 2 = .agg #[.int .i64 cl, .int .i64 ch] from hd 2 _ (by simp) rfl)
      show wpOp Try.prog _ _ 3 K (⟨#[.agg #[.int .i64 W.ll, .int .i64 W.lh, .int .i64 W.wl, .int .i64 W.wh, .int .i64 W.hl, .int .i64 W.hh, .int .i64 W.ol, .int .i64 W.oh, .int .i64 W.il, .int .i64 W.ih, .bool W.wo], .agg #[.int .i64 cl, .int .i64 ch], .int .i64 tab, .pointer (some ⟨w.heap.size, 0, none⟩), .pointer (some ⟨(w.heap.size + 1), 0, none⟩), undef, .pointer (some ⟨(w.heap.size + 1 + 1), 0, none⟩), .int .i64 0, .int .i64 0, undef, undef, x 0, x 1, .agg #[.int .i64 cl, .int .i64 ch], x 3, x 4, x 5, x 6, undef, undef, undef, undef, undef, undef, undef, undef, undef, undef, undef, undef, undef, undef, undef, undef, undef, undef, undef, undef, undef, undef, undef, undef, undef, undef, undef], []⟩ : Act) v
      refine wpOp_step rfl (fun K' hK' => ?_)
      go_simp
      have hg := Gr.al v (.cells (List.toArray [.int .i64 cl, .int .i64 ch]) 37)
      exact hK' _ _ (hK _ _ hg (at_of rfl (⟨_, rfl, SRow.new1 v 37 cl ch v.heap.size rfl⟩)))
    · obtain ⟨a3, e3, r3⟩ := hd 3 _ (by simp) rfl
      obtain ⟨x, rfl⟩ := upd_of (show x 3 = .slice a3 1 1 from e3)
      show wpOp Try.prog _ _ 4 K (⟨#[.agg #[.int .i64 W.ll, .int .i64 W.lh, .int .i64 W.wl, .int .i64 W.wh, .int .i64 W.hl, .int .i64 W.hh, .int .i64 W.ol, .int .i64 W.oh, .int .i64 W.il, .int .i64 W.ih, .bool W.wo], .agg #[.int .i64 cl, .int .i64 ch], .int .i64 tab, .pointer (some ⟨w.heap.size, 0, none⟩), .pointer (some ⟨(w.heap.size + 1), 0, none⟩), undef, .pointer (some ⟨(w.heap.size + 1 + 1), 0, none⟩), .int .i64 0, .int .i64 0, undef, undef, x 0, x 1, x 2, .slice a3 1 1, x 4, x 5, x 6, undef, undef, undef, undef, undef, undef, undef, undef, undef, undef, undef, undef, undef, undef, undef, undef, undef, undef, undef, undef, undef, undef, undef, undef, undef, undef, undef], []⟩ : Act) v
      refine wpOp_step rfl (fun K' hK' => ?_)
      go_simp
      refine (CM.out a3 v r3).mono ?_
      rintro e v' ⟨rfl, hg⟩
      exact hK' _ _ (hK _ _ hg (at_of rfl (rfl)))
    · obtain ⟨x, rfl⟩ := upd_of (show x 1 = .int .i64 eW from hd 1 _ (by simp) rfl)
      obtain ⟨x, rfl⟩ := upd_of (show x 4 = .int .i64 eM from hd 4 _ (by simp) rfl)
      show wpOp Try.prog _ _ 5 K (⟨#[.agg #[.int .i64 W.ll, .int .i64 W.lh, .int .i64 W.wl, .int .i64 W.wh, .int .i64 W.hl, .int .i64 W.hh, .int .i64 W.ol, .int .i64 W.oh, .int .i64 W.il, .int .i64 W.ih, .bool W.wo], .agg #[.int .i64 cl, .int .i64 ch], .int .i64 tab, .pointer (some ⟨w.heap.size, 0, none⟩), .pointer (some ⟨(w.heap.size + 1), 0, none⟩), undef, .pointer (some ⟨(w.heap.size + 1 + 1), 0, none⟩), .int .i64 0, .int .i64 0, undef, undef, x 0, .int .i64 eW, x 2, x 3, .int .i64 eM, x 5, x 6, undef, undef, undef, undef, undef, undef, undef, undef, undef, undef, undef, undef, undef, undef, undef, undef, undef, undef, undef, undef, undef, undef, undef, undef, undef, undef, undef], []⟩ : Act) v
      refine wpOp_step rfl (fun K' hK' => ?_)
      go_simp
      have hg := Gr.al v (.cells (List.toArray [.int .i64 eW, .int .i64 eM]) 28)
      exact hK' _ _ (hK _ _ hg (at_of rfl (⟨_, rfl, IRow.new' v 28 [eW, eM] (by simp) v.heap.size rfl _ (by rfl)⟩)))
    · obtain ⟨a5, e5, r5⟩ := hd 5 _ (by simp) rfl
      obtain ⟨x, rfl⟩ := upd_of (show x 5 = .slice a5 2 2 from e5)
      show wpOp Try.prog _ _ 6 K (⟨#[.agg #[.int .i64 W.ll, .int .i64 W.lh, .int .i64 W.wl, .int .i64 W.wh, .int .i64 W.hl, .int .i64 W.hh, .int .i64 W.ol, .int .i64 W.oh, .int .i64 W.il, .int .i64 W.ih, .bool W.wo], .agg #[.int .i64 cl, .int .i64 ch], .int .i64 tab, .pointer (some ⟨w.heap.size, 0, none⟩), .pointer (some ⟨(w.heap.size + 1), 0, none⟩), undef, .pointer (some ⟨(w.heap.size + 1 + 1), 0, none⟩), .int .i64 0, .int .i64 0, undef, undef, x 0, x 1, x 2, x 3, x 4, .slice a5 2 2, x 6, undef, undef, undef, undef, undef, undef, undef, undef, undef, undef, undef, undef, undef, undef, undef, undef, undef, undef, undef, undef, undef, undef, undef, undef, undef, undef, undef], []⟩ : Act) v
      refine wpOp_step rfl (fun K' hK' => ?_)
      go_simp
      refine (CE.out a5 v r5).mono ?_
      rintro e v' ⟨rfl, hg⟩
      exact hK' _ _ (hK _ _ hg (at_of rfl (rfl)))
  case fin1 =>
    rintro x v gv hd
    obtain ⟨x, rfl⟩ := upd_of (show x 6 = .int .i64 E from hd 6 _ (by omega) rfl)
    clear hd
    show wpList Try.prog _ _ (List.drop 7 _) (⟨#[.agg #[.int .i64 W.ll, .int .i64 W.lh, .int .i64 W.wl, .int .i64 W.wh, .int .i64 W.hl, .int .i64 W.hh, .int .i64 W.ol, .int .i64 W.oh, .int .i64 W.il, .int .i64 W.ih, .bool W.wo], .agg #[.int .i64 cl, .int .i64 ch], .int .i64 tab, .pointer (some ⟨w.heap.size, 0, none⟩), .pointer (some ⟨(w.heap.size + 1), 0, none⟩), undef, .pointer (some ⟨(w.heap.size + 1 + 1), 0, none⟩), .int .i64 0, .int .i64 0, undef, undef, x 0, x 1, x 2, x 3, x 4, x 5, .int .i64 E, undef, undef, undef, undef, undef, undef, undef, undef, undef, undef, undef, undef, undef, undef, undef, undef, undef, undef, undef, undef, undef, undef, undef, undef, undef, undef, undef], []⟩ : Act) v
    simp only [List.drop_succ_cons, List.drop_zero]
    have hle6 : w.heap.size ≤ w.heap.size + 1 + 1 := by omega
    have oV := o6.keep gv
    have q0 := oV.1.2 0 _ rfl
    have z0 := oV.2 0
    have q1 := oV.1.2 1 _ rfl
    have z1 := oV.2 1
    have q2 := oV.1.2 2 _ rfl
    have z2 := oV.2 2
    have q3 := oV.1.2 3 _ rfl
    have z3 := oV.2 3
    have q4 := oV.1.2 4 _ rfl
    have z4 := oV.2 4
    have q5 := oV.1.2 5 _ rfl
    have z5 := oV.2 5
    have q6 := oV.1.2 6 _ rfl
    have z6 := oV.2 6
    have gV := gU.tr gv
    by_cases h0 : E = 0
    case neg =>
      have h0' : (E != 0) = true := by rw [bne_iff_ne]; exact h0
      have H0 := Lib.hid h0
      clear h0
      go_wp2
      refine bodyPost_ret (v := .tuple #[.agg #[.int .i64 0, .slice none 0 0, .int .i64 0, .slice none 0 0, .slice none 0 0, .int .i64 0, .bool false], .int .i64 0, .int .i64 E]) (by simp [results, Try.results29, go_sem, q0, q1, q2, q3, q4, q5, q6]) rfl ?_
      exact (HPost.out _ _).2 ⟨(((((((gV.setCell (p := ⟨w.heap.size + 1 + 1, 0, none⟩) hle6 _).setCell (p := ⟨w.heap.size + 1 + 1, 1, none⟩) hle6 _).setCell (p := ⟨w.heap.size + 1 + 1, 2, none⟩) hle6 _).setCell (p := ⟨w.heap.size + 1 + 1, 3, none⟩) hle6 _).setCell (p := ⟨w.heap.size + 1 + 1, 4, none⟩) hle6 _).setCell (p := ⟨w.heap.size + 1 + 1, 5, none⟩) hle6 _).setCell (p := ⟨w.heap.size + 1 + 1, 6, none⟩) hle6 _), .inl ⟨H0.out, rfl⟩⟩
    subst h0
    have hW := HW0.out rfl
    obtain ⟨bt, hbt⟩ : ∃ b, inB 0 100 [tab] = b := ⟨_, rfl⟩
    have HBT := Lib.hid hbt
    have hwn := fun (u : World) => within_any 0 100 [tab] bt hbt (some ⟨u.heap.size, 0, none⟩) 1 _ (IRow.new' u 3 [tab] (by simp) u.heap.size rfl #[.int .i64 tab] (by simp))
    have HWN := Lib.hid hwn
    clear hbt hwn
    cases bt with
    | false =>
      go_wp2_with (go_at_call 63; refine (HWN.out _).mono ?_; rintro e w3 ⟨rfl, g3⟩; clear q0 z0 q1 z1 q2 z2 q3 z3 q4 z4 q5 z5 q6 z6; have oV := oV.keep ((Gr.al _ _).tr g3); have q0 := oV.1.2 0 _ rfl; have q1 := oV.1.2 1 _ rfl; have q2 := oV.1.2 2 _ rfl; have q3 := oV.1.2 3 _ rfl; have q4 := oV.1.2 4 _ rfl; have q5 := oV.1.2 5 _ rfl; have q6 := oV.1.2 6 _ rfl; have z0 := oV.2 0; have z1 := oV.2 1; have z2 := oV.2 2; have z3 := oV.2 3; have z4 := oV.2 4; have z5 := oV.2 5; have z6 := oV.2 6)
      refine bodyPost_ret (v := .tuple #[.agg #[.int .i64 0, .slice none 0 0, .int .i64 0, .slice none 0 0, .slice none 0 0, .int .i64 0, .bool false], .int .i64 0, .int .i64 5]) (by simp [results, Try.results29, go_sem, q0, q1, q2, q3, q4, q5, q6]) rfl ?_
      have gV3 := gV.tr ((Gr.al _ _).tr g3)
      exact (HPost.out _ _).2 ⟨(((((((gV3.setCell (p := ⟨w.heap.size + 1 + 1, 0, none⟩) hle6 _).setCell (p := ⟨w.heap.size + 1 + 1, 1, none⟩) hle6 _).setCell (p := ⟨w.heap.size + 1 + 1, 2, none⟩) hle6 _).setCell (p := ⟨w.heap.size + 1 + 1, 3, none⟩) hle6 _).setCell (p := ⟨w.heap.size + 1 + 1, 4, none⟩) hle6 _).setCell (p := ⟨w.heap.size + 1 + 1, 5, none⟩) hle6 _).setCell (p := ⟨w.heap.size + 1 + 1, 6, none⟩) hle6 _), .inr (.inl ⟨by trivial, HBT.out, rfl⟩)⟩
    | true =>
      have hb5 := hWs.keep gv
      have hc5 := hCs.keep gv
      go_upto_region 6 with (go_at_call 63; refine (HWN.out _).mono ?_; rintro e w3 ⟨rfl, g3⟩)
      have g3' := (Gr.al v (.cells #[.int .i64 tab] 3)).tr g3
      clear q0 z0 q1 z1 q2 z2 q3 z3 q4 z4 q5 z5 q6 z6
      refine wp_abs (fun V => Gr w V ∧ Box V w.heap.size [.int .i64 W.ll, .int .i64 W.lh, .int .i64 W.wl, .int .i64 W.wh, .int .i64 W.hl, .int .i64 W.hh, .int .i64 W.ol, .int .i64 W.oh, .int .i64 W.il, .int .i64 W.ih, .bool W.wo] ∧ Box V (w.heap.size + 1) [.int .i64 cl, .int .i64 ch] ∧ Own V (w.heap.size + 1 + 1) [.int .i64 0, .slice none 0 0, .int .i64 0, .slice none 0 0, .slice none 0 0, .int .i64 0, .bool false]) ⟨gV.tr g3', hb5.keep g3', hc5.keep g3', oV.keep g3'⟩ ?_
      clear gV hb5 hc5 oV g3 g3' gv hWs hCs o6 gU
      rintro V ⟨gV, hWs, hCs, oV⟩
      have wo5 := hWs.2 10 _ rfl
      go_upto_region 7 with (first
        | (go_at_call 74; refine (empty_any tab W.wo _).mono ?_; rintro e w4 ⟨a, b, c, rfl, hz, g4⟩)
        | (go_at_call 68; refine (layW tab W.wo a b c _).mono ?_; rintro e w5 ⟨rfl, g5⟩))
      have hz5 := hz.gr (g5.tr (Gr.al w5 (.cells #[.int .i64 tab, .slice (some ⟨a, 0, none⟩) 4 4, .int .i64 0, .slice (some ⟨b, 0, none⟩) 2 2, .slice (some ⟨c, 0, none⟩) 2 2, .int .i64 0, .bool W.wo, .int .i64 3000, .slice (some ⟨b, 0, none⟩) 2 2, .slice (some ⟨c, 0, none⟩) 2 2] 124)))
      have gA := (g4.tr g5).tr (Gr.al w5 (.cells #[.int .i64 tab, .slice (some ⟨a, 0, none⟩) 4 4, .int .i64 0, .slice (some ⟨b, 0, none⟩) 2 2, .slice (some ⟨c, 0, none⟩) 2 2, .int .i64 0, .bool W.wo, .int .i64 3000, .slice (some ⟨b, 0, none⟩) 2 2, .slice (some ⟨c, 0, none⟩) 2 2] 124))
      have bL := Box.new w5 [.int .i64 tab, .slice (some ⟨a, 0, none⟩) 4 4, .int .i64 0, .slice (some ⟨b, 0, none⟩) 2 2, .slice (some ⟨c, 0, none⟩) 2 2, .int .i64 0, .bool W.wo, .int .i64 3000, .slice (some ⟨b, 0, none⟩) 2 2, .slice (some ⟨c, 0, none⟩) 2 2] 124 w5.heap.size rfl
      refine wp_abs (fun Y => Gr w Y ∧ Box Y w.heap.size [.int .i64 W.ll, .int .i64 W.lh, .int .i64 W.wl, .int .i64 W.wh, .int .i64 W.hl, .int .i64 W.hh, .int .i64 W.ol, .int .i64 W.oh, .int .i64 W.il, .int .i64 W.ih, .bool W.wo] ∧ Box Y (w.heap.size + 1) [.int .i64 cl, .int .i64 ch] ∧ Own Y (w.heap.size + 1 + 1) [.int .i64 0, .slice none 0 0, .int .i64 0, .slice none 0 0, .slice none 0 0, .int .i64 0, .bool false] ∧ Box Y w5.heap.size [.int .i64 tab, .slice (some ⟨a, 0, none⟩) 4 4, .int .i64 0, .slice (some ⟨b, 0, none⟩) 2 2, .slice (some ⟨c, 0, none⟩) 2 2, .int .i64 0, .bool W.wo, .int .i64 3000, .slice (some ⟨b, 0, none⟩) 2 2, .slice (some ⟨c, 0, none⟩) 2 2] ∧ Zeros V Y a b c) ⟨gV.tr gA, hWs.keep gA, hCs.keep gA, oV.keep gA, bL, hz5⟩ ?_
      clear wo5 gA hz5 bL hz gV hWs hCs oV
      rintro Y ⟨gV, hWs, hCs, oV, bL, hz⟩
      obtain ⟨y0, y1, y2, y3, y4, y5, y6, y7, y8, y9⟩ := bL.c10
      have p0 := hWs.2 0 _ rfl
      have p1 := hWs.2 1 _ rfl
      have p2 := hWs.2 2 _ rfl
      have p3 := hWs.2 3 _ rfl
      have p4 := hWs.2 4 _ rfl
      have p5 := hWs.2 5 _ rfl
      have p6 := hWs.2 6 _ rfl
      have p7 := hWs.2 7 _ rfl
      have p8 := hWs.2 8 _ rfl
      have p9 := hWs.2 9 _ rfl
      have p10 := hWs.2 10 _ rfl
      obtain ⟨c0, c1⟩ := hCs.c2
      have HSM := Lib.hid (smallW tab W cl ch hW a b c V Y hz)
      have HLL := Lib.hid (small_L (wholeR W.wo) W cl ch)
      obtain ⟨⟨d0, f0⟩, hd0⟩ : ∃ r, smallD (wholeR W.wo) W cl ch = r := ⟨_, rfl⟩
      rw [hd0] at HSM HPost HLL
      clear hd0
      have l6 := oV.1.1
      go_upto_region 8 with (go_at_call 75; refine HSM.out.mono ?_; rintro e w8 ⟨P, T, B, rfl, oP, oT, oB, lP, lT, lB, g8⟩; clear p0 p1 p2 p3 p4 p5 p6 p7 p8 p9 p10 y0 y1 y2 y3 y4 y5 y6 y7 y8 y9 c0 c1; have oV := oV.keep g8; have q0 := oV.1.2 0 _ rfl; have q1 := oV.1.2 1 _ rfl; have q2 := oV.1.2 2 _ rfl; have q3 := oV.1.2 3 _ rfl; have q4 := oV.1.2 4 _ rfl; have q5 := oV.1.2 5 _ rfl; have q6 := oV.1.2 6 _ rfl; have z0 := oV.2 0; have z1 := oV.2 1; have z2 := oV.2 2; have z3 := oV.2 3; have z4 := oV.2 4; have z5 := oV.2 5; have z6 := oV.2 6; have LP := Lib.hid lP; have LT := Lib.hid lT; have LB := Lib.hid lB; clear lP lT lB; have OP := Lib.hid oP; have OT := Lib.hid oT; have OB := Lib.hid oB; clear oP oT oB)
      have gV8 := gV.tr g8
      have lP := LP.out
      have lT := LT.out
      have lB := LB.out
      have nP6 : P ≠ w.heap.size + 1 + 1 := by omega
      have nT6 : T ≠ w.heap.size + 1 + 1 := by omega
      have nB6 : B ≠ w.heap.size + 1 + 1 := by omega
      refine wp_abs (fun Z => Gr w Z ∧ Own Z (w.heap.size + 1 + 1) [.int .i64 tab, .slice (some ⟨P, 0, none⟩) 4 4, .int .i64 d0.hei, .slice (some ⟨T, 0, none⟩) 2 2, .slice (some ⟨B, 0, none⟩) 2 2, .int .i64 d0.slo, .bool W.wo] ∧ Own Z P (d0.p.map encN) ∧ Own Z T (d0.t.map encN) ∧ Own Z B (d0.b.map encN)) ⟨(((((((gV8.setCell (p := ⟨w.heap.size + 1 + 1, 0, none⟩) hle6 _).setCell (p := ⟨w.heap.size + 1 + 1, 1, none⟩) hle6 _).setCell (p := ⟨w.heap.size + 1 + 1, 2, none⟩) hle6 _).setCell (p := ⟨w.heap.size + 1 + 1, 3, none⟩) hle6 _).setCell (p := ⟨w.heap.size + 1 + 1, 4, none⟩) hle6 _).setCell (p := ⟨w.heap.size + 1 + 1, 5, none⟩) hle6 _).setCell (p := ⟨w.heap.size + 1 + 1, 6, none⟩) hle6 _), (((((((oV.set (i := 0) (v := .int .i64 tab) (by simp)).set (i := 1) (v := .slice (some ⟨P, 0, none⟩) 4 4) (by simp)).set (i := 2) (v := .int .i64 d0.hei) (by simp)).set (i := 3) (v := .slice (some ⟨T, 0, none⟩) 2 2) (by simp)).set (i := 4) (v := .slice (some ⟨B, 0, none⟩) 2 2) (by simp)).set (i := 5) (v := .int .i64 d0.slo) (by simp)).set (i := 6) (v := .bool W.wo) (by simp)), (((((((OP.out.other nP6).other nP6).other nP6).other nP6).other nP6).other nP6).other nP6), (((((((OT.out.other nT6).other nT6).other nT6).other nT6).other nT6).other nT6).other nT6), (((((((OB.out.other nB6).other nB6).other nB6).other nB6).other nB6).other nB6).other nB6)⟩ ?_
      clear lP lT lB gV8 gV q0 z0 q1 z1 q2 z2 q3 z3 q4 z4 q5 z5 q6 z6 oV g8 OP OT OB LP LT LB hz bL hWs hCs
      rintro Z ⟨gZ, oZ, oP, oT, oB⟩
      have q0 := oZ.1.2 0 _ rfl
      have q1 := oZ.1.2 1 _ rfl
      have q2 := oZ.1.2 2 _ rfl
      have q3 := oZ.1.2 3 _ rfl
      have q4 := oZ.1.2 4 _ rfl
      have q5 := oZ.1.2 5 _ rfl
      have q6 := oZ.1.2 6 _ rfl
      have z0 := oZ.2 0
      have z1 := oZ.2 1
      have z2 := oZ.2 2
      have z3 := oZ.2 3
      have z4 := oZ.2 4
      have z5 := oZ.2 5
      have z6 := oZ.2 6
      by_cases hf : f0 < 10
      · have hf' : (f0 : Int) < 10 := by omega
        have HF := Lib.hid hf
        clear hf
        go_wp2
        refine bodyPost_ret (v := .tuple #[.agg #[.int .i64 0, .slice none 0 0, .int .i64 0, .slice none 0 0, .slice none 0 0, .int .i64 0, .bool false], .int .i64 (f0 : Int), .int .i64 9]) (by simp [results, Try.results29, go_sem, q0, q1, q2, q3, q4, q5, q6]) rfl ?_
        exact (HPost.out _ _).2 ⟨(((((((gZ.setCell (p := ⟨w.heap.size + 1 + 1, 0, none⟩) hle6 _).setCell (p := ⟨w.heap.size + 1 + 1, 1, none⟩) hle6 _).setCell (p := ⟨w.heap.size + 1 + 1, 2, none⟩) hle6 _).setCell (p := ⟨w.heap.size + 1 + 1, 3, none⟩) hle6 _).setCell (p := ⟨w.heap.size + 1 + 1, 4, none⟩) hle6 _).setCell (p := ⟨w.heap.size + 1 + 1, 5, none⟩) hle6 _).setCell (p := ⟨w.heap.size + 1 + 1, 6, none⟩) hle6 _), .inr (.inr (.inl ⟨by trivial, HBT.out, HF.out, rfl⟩))⟩
      · have hf' : ¬ (f0 : Int) < 10 := by omega
        have HF := Lib.hid hf
        clear hf
        have HP := Lib.hid oP
        have HT := Lib.hid oT
        have HB := Lib.hid oB
        clear oP oT oB
        go_wp2
        refine bodyPost_ret (v := .tuple #[.agg #[.int .i64 tab, .slice (some ⟨P, 0, none⟩) 4 4, .int .i64 d0.hei, .slice (some ⟨T, 0, none⟩) 2 2, .slice (some ⟨B, 0, none⟩) 2 2, .int .i64 d0.slo, .bool W.wo], .int .i64 0, .int .i64 0]) (by simp [results, Try.results29, go_sem, q0, q1, q2, q3, q4, q5, q6]) rfl ?_
        refine (HPost.out _ _).2 ⟨(((((((gZ.setCell (p := ⟨w.heap.size + 1 + 1, 0, none⟩) hle6 _).setCell (p := ⟨w.heap.size + 1 + 1, 1, none⟩) hle6 _).setCell (p := ⟨w.heap.size + 1 + 1, 2, none⟩) hle6 _).setCell (p := ⟨w.heap.size + 1 + 1, 3, none⟩) hle6 _).setCell (p := ⟨w.heap.size + 1 + 1, 4, none⟩) hle6 _).setCell (p := ⟨w.heap.size + 1 + 1, 5, none⟩) hle6 _).setCell (p := ⟨w.heap.size + 1 + 1, 6, none⟩) hle6 _), .inr (.inr (.inr ⟨by trivial, HBT.out, HF.out, P, T, B, rfl, ?_, ?_, ?_⟩))⟩
        · exact Own.irow ((((((((HP.out.other nP6).other nP6).other nP6).other nP6).other nP6).other nP6).other nP6)) (by rw [HLL.out.p]; decide)
        · exact Own.irow ((((((((HT.out.other nT6).other nT6).other nT6).other nT6).other nT6).other nT6).other nT6)) (by rw [HLL.out.t]; decide)
        · exact Own.irow ((((((((HB.out.other nB6).other nB6).other nB6).other nB6).other nB6).other nB6).other nB6)) (by rw [HLL.out.b]; decide)

end Go.Proofs.Ytafkoococfnakaa

namespace Go.Proofs.Ytafkoococfnakaa
set_option linter.unusedVariables false
set_option linter.unusedSimpArgs false
open Go.RowKit Go.Shelf
attribute [local go_sem] Oper.semAt_some

/-- A blank's sheet, if the blank has no error. -/
theorem RmOk.of {tab : Int} {R : Rm} (G : GoodB tab R.hei R.slo R.pan R.top R.bot R.opn) (ho : inB 0 5 [R.off] = true) : RmOk R := by
  obtain ⟨o0, o1⟩ := in_one ho
  obtain ⟨h0, h1⟩ := in_one G.ghei
  obtain ⟨s0, s1⟩ := in_one G.gslo
  refine ⟨G.l4, G.t2, G.b2, inB_mono G.gpan (by omega) (by omega), fun v hv => ?_, ⟨by omega, by omega, by omega⟩, G.gtop, G.gbot, ⟨s0, s1⟩, o0, by omega⟩
  obtain ⟨k, hk⟩ := List.getElem?_of_mem hv
  have := in_at G.gpan hk
  omega

/-- Whether the blank can close with a caliper. -/
def mayB (R : Rm) (W : Wi) (c : Int) : Bool := decide ((smallD R W c c).2 = 10)

theorem small_10 (R : Rm) (W : Wi) (c : Int) : ((((smallD R W c c).2 : Nat) : Int) == 10) = mayB R W c := by
  unfold mayB
  by_cases h : (smallD R W c c).2 = 10
  · rw [decide_eq_true h, beq_iff_eq]; omega
  · rw [decide_eq_false h, beq_eq_false_iff_ne]; omega

/-- What May returns. -/
def MayPost (R : Rm) (W : Wi) (cl ch tab : Int) (w : World) (e : Ending) (w' : World) : Prop :=
  Gr w w' ∧ ((firstE [checkE tab R.hei R.slo R.pan R.top R.bot R.opn, W.err, measE [⟨cl, ch⟩], if inB 0 5 [R.off] = true then 0 else 7] ≠ 0 ∧ e = .returned (.tuple #[.int .i64 0, .int .i64 (firstE [checkE tab R.hei R.slo R.pan R.top R.bot R.opn, W.err, measE [⟨cl, ch⟩], if inB 0 5 [R.off] = true then 0 else 7])])) ∨
    (firstE [checkE tab R.hei R.slo R.pan R.top R.bot R.opn, W.err, measE [⟨cl, ch⟩], if inB 0 5 [R.off] = true then 0 else 7] = 0 ∧ ∃ k, startAt cl k ≤ ch ∧ (∀ j, j < k → mayB R W (startAt cl j) = false) ∧ mayB R W (startAt cl k) = true ∧ e = .returned (.tuple #[.int .i64 (startAt cl k), .int .i64 0])) ∨
    (firstE [checkE tab R.hei R.slo R.pan R.top R.bot R.opn, W.err, measE [⟨cl, ch⟩], if inB 0 5 [R.off] = true then 0 else 7] = 0 ∧ (∃ k, ch < startAt cl k ∧ ∀ j, j < k → mayB R W (startAt cl j) = false) ∧ e = .returned (.tuple #[.int .i64 0, .int .i64 9])))

/-- Between the rounds: none that came can close. -/
def MInv (R : Rm) (W : Wi) (X0 : Nat → Prop) (W4 : World) (pre : List Int) (X' Y : Nat → Prop) (V : World) : Prop :=
  X' = X0 ∧ (∀ k, Y k → W4.heap.size ≤ k) ∧ Gr W4 V ∧ ∀ y ∈ pre, mayB R W y = false

theorem MInv.ab {R : Rm} {W : Wi} {X0 : Nat → Prop} {W4 : World} (pre : List Int) (X' : Nat → Prop) : Ab (MInv R W X0 W4 pre X') := by
  rintro Y Y' A B ⟨h1, h2, h3, h4⟩ hk hy
  have hs := h3.size
  refine ⟨h1, fun i e => ?_, Kx.toGr ((Kx.gr (Z := noBlock) h3).th hk fun i e => .inr (h2 i e)), h4⟩
  rcases hy i e with e | e
  · exact h2 i e
  · omega

/-- One that came can. -/
def MFnd (R : Rm) (W : Wi) (X0 : Nat → Prop) (W4 : World) (b8 b9 : Nat) (c : Code) (pre : List Int) (Y : Nat → Prop) (V : World) : Prop :=
  c = .ret ∧ (∀ k, Y k → W4.heap.size ≤ k) ∧ Kx X0 W4 V ∧ ∃ pre' x, pre = pre' ++ [x] ∧ (∀ y ∈ pre', mayB R W y = false) ∧ mayB R W x = true ∧ Own V b8 [.int .i64 x] ∧ Own V b9 [.int .i64 0]

theorem MFnd.ab {R : Rm} {W : Wi} {X0 : Nat → Prop} {W4 : World} {b8 b9 : Nat} (l8 : b8 < W4.heap.size) (l9 : b9 < W4.heap.size) (c : Code) (pre : List Int) : Ab (MFnd R W X0 W4 b8 b9 c pre) := by
  rintro Y Y' A B ⟨h1, h2, h3, pre', x, h4, h5, h6, h7, h8⟩ hk hy
  have hs := h3.size
  refine ⟨h1, fun i e => ?_, h3.th hk fun i e => .inr (h2 i e), pre', x, h4, h5, h6, h7.kx hk fun e => ?_, h8.kx hk fun e => ?_⟩
  · rcases hy i e with e | e
    · exact h2 i e
    · omega
  · have := h2 _ e; omega
  · have := h2 _ e; omega

theorem comeTo_at {f : Nat → Int} {k : Nat} {pre : List Int} {x : Int} (h : pre ++ [x] = comeTo f k) : ∃ n, n + 1 = k ∧ x = f n ∧ pre = comeTo f n := by
  have hl : pre.length + 1 = k := by
    have := congrArg List.length h
    rw [comeTo_len] at this
    simpa using this
  refine ⟨pre.length, hl, ?_⟩
  rw [← hl, comeTo_succ] at h
  have := List.append_inj h (by rw [comeTo_len])
  exact ⟨by simpa using this.2, this.1⟩

theorem comeTo_mem {f : Nat → Int} {k j : Nat} (h : j < k) : f j ∈ comeTo f k := List.mem_map.2 ⟨j, List.mem_range.2 h, rfl⟩

set_option maxRecDepth 100000 in
set_option maxHeartbeats 8000000 in
theorem may_any (R : Rm) (W : Wi) (cl ch tab : Int) (pa ta ba : Option Addr) (pc tc bc : Nat) (w : World) (hp : IRow w pa R.pan) (ht : IRow w ta R.top) (hb : IRow w ba R.bot) :
    Calls Try.prog 48 #[.agg #[.int .i64 tab, .slice pa R.pan.length pc, .int .i64 R.hei, .slice ta R.top.length tc, .slice ba R.bot.length bc, .int .i64 R.slo, .bool R.opn], .agg #[.int .i64 W.ll, .int .i64 W.lh, .int .i64 W.wl, .int .i64 W.wh, .int .i64 W.hl, .int .i64 W.hh, .int .i64 W.ol, .int .i64 W.oh, .int .i64 W.il, .int .i64 W.ih, .bool W.wo], .agg #[.int .i64 cl, .int .i64 ch], .int .i64 R.off] w (MayPost R W cl ch tab w) := by
  refine (callsIn_wide (n := 20)).1 ?_
  have gg := (((Gr.al w (.cells #[.int .i64 tab, .slice pa R.pan.length pc, .int .i64 R.hei, .slice ta R.top.length tc, .slice ba R.bot.length bc, .int .i64 R.slo, .bool R.opn] 24)).tr (Gr.al _ (.cells #[.int .i64 W.ll, .int .i64 W.lh, .int .i64 W.wl, .int .i64 W.wh, .int .i64 W.hl, .int .i64 W.hh, .int .i64 W.ol, .int .i64 W.oh, .int .i64 W.il, .int .i64 W.ih, .bool W.wo] 48))).tr (Gr.al _ (.cells #[.int .i64 cl, .int .i64 ch] 37))).tr ((Gr.al _ (.cells #[.int .i64 0] 3)).tr (Gr.al _ (.cells #[.int .i64 0] 28)))
  have g3 := (Gr.al (((w.alloc (.cells #[.int .i64 tab, .slice pa R.pan.length pc, .int .i64 R.hei, .slice ta R.top.length tc, .slice ba R.bot.length bc, .int .i64 R.slo, .bool R.opn] 24)).alloc (.cells #[.int .i64 W.ll, .int .i64 W.lh, .int .i64 W.wl, .int .i64 W.wh, .int .i64 W.hl, .int .i64 W.hh, .int .i64 W.ol, .int .i64 W.oh, .int .i64 W.il, .int .i64 W.ih, .bool W.wo] 48)).alloc (.cells #[.int .i64 cl, .int .i64 ch] 37)) (.cells #[.int .i64 0] 3)).tr (Gr.al _ (.cells #[.int .i64 0] 28))
  have hBs := (Box.new w [.int .i64 tab, .slice pa R.pan.length pc, .int .i64 R.hei, .slice ta R.top.length tc, .slice ba R.bot.length bc, .int .i64 R.slo, .bool R.opn] 24 w.heap.size rfl).keep ((Gr.al _ (.cells #[.int .i64 W.ll, .int .i64 W.lh, .int .i64 W.wl, .int .i64 W.wh, .int .i64 W.hl, .int .i64 W.hh, .int .i64 W.ol, .int .i64 W.oh, .int .i64 W.il, .int .i64 W.ih, .bool W.wo] 48)).tr ((Gr.al _ (.cells #[.int .i64 cl, .int .i64 ch] 37)).tr g3))
  have hWs := (Box.new (w.alloc (.cells #[.int .i64 tab, .slice pa R.pan.length pc, .int .i64 R.hei, .slice ta R.top.length tc, .slice ba R.bot.length bc, .int .i64 R.slo, .bool R.opn] 24)) [.int .i64 W.ll, .int .i64 W.lh, .int .i64 W.wl, .int .i64 W.wh, .int .i64 W.hl, .int .i64 W.hh, .int .i64 W.ol, .int .i64 W.oh, .int .i64 W.il, .int .i64 W.ih, .bool W.wo] 48 (w.heap.size + 1) (by simp)).keep ((Gr.al _ (.cells #[.int .i64 cl, .int .i64 ch] 37)).tr g3)
  have hCs := (Box.new ((w.alloc (.cells #[.int .i64 tab, .slice pa R.pan.length pc, .int .i64 R.hei, .slice ta R.top.length tc, .slice ba R.bot.length bc, .int .i64 R.slo, .bool R.opn] 24)).alloc (.cells #[.int .i64 W.ll, .int .i64 W.lh, .int .i64 W.wl, .int .i64 W.wh, .int .i64 W.hl, .int .i64 W.hh, .int .i64 W.ol, .int .i64 W.oh, .int .i64 W.il, .int .i64 W.ih, .bool W.wo] 48)) [.int .i64 cl, .int .i64 ch] 37 (w.heap.size + 1 + 1) (by simp)).keep g3
  have o8 := (Own.new (((w.alloc (.cells #[.int .i64 tab, .slice pa R.pan.length pc, .int .i64 R.hei, .slice ta R.top.length tc, .slice ba R.bot.length bc, .int .i64 R.slo, .bool R.opn] 24)).alloc (.cells #[.int .i64 W.ll, .int .i64 W.lh, .int .i64 W.wl, .int .i64 W.wh, .int .i64 W.hl, .int .i64 W.hh, .int .i64 W.ol, .int .i64 W.oh, .int .i64 W.il, .int .i64 W.ih, .bool W.wo] 48)).alloc (.cells #[.int .i64 cl, .int .i64 ch] 37)) [.int .i64 0] 3 (w.heap.size + 1 + 1 + 1) (by simp)).keep (Gr.al _ (.cells #[.int .i64 0] 28))
  have o9 := Own.new ((((w.alloc (.cells #[.int .i64 tab, .slice pa R.pan.length pc, .int .i64 R.hei, .slice ta R.top.length tc, .slice ba R.bot.length bc, .int .i64 R.slo, .bool R.opn] 24)).alloc (.cells #[.int .i64 W.ll, .int .i64 W.lh, .int .i64 W.wl, .int .i64 W.wh, .int .i64 W.hl, .int .i64 W.hh, .int .i64 W.ol, .int .i64 W.oh, .int .i64 W.il, .int .i64 W.ih, .bool W.wo] 48)).alloc (.cells #[.int .i64 cl, .int .i64 ch] 37)).alloc (.cells #[.int .i64 0] 3)) [.int .i64 0] 28 (w.heap.size + 1 + 1 + 1 + 1) (by simp)
  obtain ⟨eB, heB⟩ : ∃ e, checkE tab R.hei R.slo R.pan R.top R.bot R.opn = e := ⟨_, rfl⟩
  obtain ⟨eW, heW⟩ : ∃ e, W.err = e := ⟨_, rfl⟩
  obtain ⟨eM, heM⟩ : ∃ e, measE [⟨cl, ch⟩] = e := ⟨_, rfl⟩
  obtain ⟨eK, heK⟩ : ∃ e, (if inB 0 5 [R.off] = true then 0 else 7 : Int) = e := ⟨_, rfl⟩
  obtain ⟨E, heE⟩ : ∃ e, firstE [eB, eW, eM, eK] = e := ⟨_, rfl⟩
  have HPost : Hid (∀ e w', (MayPost R W cl ch tab w e w' ↔ Gr w w' ∧ ((E ≠ 0 ∧ e = .returned (.tuple #[.int .i64 0, .int .i64 E])) ∨
    (E = 0 ∧ ∃ k, startAt cl k ≤ ch ∧ (∀ j, j < k → mayB R W (startAt cl j) = false) ∧ mayB R W (startAt cl k) = true ∧ e = .returned (.tuple #[.int .i64 (startAt cl k), .int .i64 0])) ∨
    (E = 0 ∧ (∃ k, ch < startAt cl k ∧ ∀ j, j < k → mayB R W (startAt cl j) = false) ∧ e = .returned (.tuple #[.int .i64 0, .int .i64 9]))))) := Lib.hid (by
    intro e w'
    unfold MayPost
    rw [heB, heW, heM, heK, heE])
  have cB := fun v (h1 : IRow v pa R.pan) (h2 : IRow v ta R.top) (h3 : IRow v ba R.bot) => blank_any tab R.hei R.slo R.pan R.top R.bot pa ta ba pc tc bc R.opn v h1 h2 h3
  rw [heB] at cB
  have cW := fun v => wiErr_any W v
  rw [heW] at cW
  have cM := fun a v (h : SRow v a [⟨cl, ch⟩]) => measured_one cl ch a 1 v h
  rw [heM] at cM
  have cK := fun v => known2_any R.off v
  rw [heK] at cK
  have cE := fun a v (h : IRow v a [eB, eW, eM, eK]) => first_4 eB eW eM eK a 4 v h
  rw [heE] at cE
  have CB := Lib.hid cB
  have CW := Lib.hid cW
  have CM := Lib.hid cM
  have CK := Lib.hid cK
  have CE := Lib.hid cE
  have HG0 : Hid (E = 0 → W.ok ∧ RmOk R ∧ 1 ≤ cl ∧ ch ≤ 10000) := Lib.hid (fun h => by
    have hz := firstE_0 (heE.trans h)
    have hK : inB 0 5 [R.off] = true := by
      have := heK.trans (hz eK (by simp))
      split at this
      · assumption
      · cases this
    have hM := heM.trans (hz eM (by simp))
    unfold measE at hM
    split at hM
    case isFalse => cases hM
    rename_i hm
    simp only [List.all_cons, List.all_nil, Bool.and_true, okSp, okSpan, inB, in1, Bool.and_eq_true, decide_eq_true_eq] at hm
    exact ⟨Wi.ok_of (heW.trans (hz eW (by simp))), RmOk.of (good_of (heB.trans (hz eB (by simp)))) hK, by omega, by omega⟩)
  have HP := Lib.hid hp
  have HT := Lib.hid ht
  have HB := Lib.hid hb
  clear cB cW cM cK cE heB heW heM heK heE hp ht hb
  refine callsIn_of_wp_marks Try.func48 rfl trivial ?_ rfl
  simp only [Try.ntmps48, List.size_toArray, List.length_cons, List.length_nil, Nat.reduceAdd, Nat.reduceSub, Array.replicate_succ, Array.replicate_zero, List.push_toArray, List.append_toArray, List.nil_append, List.cons_append]
  refine wpIn_wide.2 ?_
  go_upto_region 1 with fail
  refine wp_abs (fun U => Gr w U ∧ Box U w.heap.size [.int .i64 tab, .slice pa R.pan.length pc, .int .i64 R.hei, .slice ta R.top.length tc, .slice ba R.bot.length bc, .int .i64 R.slo, .bool R.opn] ∧ Box U (w.heap.size + 1) [.int .i64 W.ll, .int .i64 W.lh, .int .i64 W.wl, .int .i64 W.wh, .int .i64 W.hl, .int .i64 W.hh, .int .i64 W.ol, .int .i64 W.oh, .int .i64 W.il, .int .i64 W.ih, .bool W.wo] ∧ Box U (w.heap.size + 1 + 1) [.int .i64 cl, .int .i64 ch] ∧ Own U (w.heap.size + 1 + 1 + 1) [.int .i64 0] ∧ Own U (w.heap.size + 1 + 1 + 1 + 1) [.int .i64 0]) ⟨gg, hBs, hWs, hCs, o8, o9⟩ ?_
  clear gg g3 hBs hWs hCs o8 o9
  rintro U ⟨gU, hBs, hWs, hCs, o8, o9⟩
  refine wp_region_facts 11 [(1, 0), (3, 2), (5, 4), (6, 5), (8, 7), (9, 1), (9, 3), (9, 6), (9, 8), (10, 9)] (fun x => ⟨#[.agg #[.int .i64 tab, .slice pa R.pan.length pc, .int .i64 R.hei, .slice ta R.top.length tc, .slice ba R.bot.length bc, .int .i64 R.slo, .bool R.opn], .agg #[.int .i64 W.ll, .int .i64 W.lh, .int .i64 W.wl, .int .i64 W.wh, .int .i64 W.hl, .int .i64 W.hh, .int .i64 W.ol, .int .i64 W.oh, .int .i64 W.il, .int .i64 W.ih, .bool W.wo], .agg #[.int .i64 cl, .int .i64 ch], .int .i64 R.off, .pointer (some ⟨w.heap.size, 0, none⟩), .pointer (some ⟨(w.heap.size + 1), 0, none⟩), .pointer (some ⟨(w.heap.size + 1 + 1), 0, none⟩), undef, .pointer (some ⟨(w.heap.size + 1 + 1 + 1), 0, none⟩), .pointer (some ⟨(w.heap.size + 1 + 1 + 1 + 1), 0, none⟩), undef, undef, undef, undef, undef, x 0, x 1, x 2, x 3, x 4, x 5, x 6, x 7, x 8, x 9, x 10, undef, undef, undef, undef, undef, undef, undef, undef, undef, undef, undef, undef, undef, undef, undef, undef, undef, undef, undef, undef, undef, undef], []⟩) (fun _ => undef) [fun _ x => x = .agg #[.int .i64 tab, .slice pa R.pan.length pc, .int .i64 R.hei, .slice ta R.top.length tc, .slice ba R.bot.length bc, .int .i64 R.slo, .bool R.opn], fun _ x => x = .int .i64 eB, fun _ x => x = .agg #[.int .i64 W.ll, .int .i64 W.lh, .int .i64 W.wl, .int .i64 W.wh, .int .i64 W.hl, .int .i64 W.hh, .int .i64 W.ol, .int .i64 W.oh, .int .i64 W.il, .int .i64 W.ih, .bool W.wo], fun _ x => x = .int .i64 eW, fun _ x => x = .agg #[.int .i64 cl, .int .i64 ch], fun v x => ∃ a, x = .slice a 1 1 ∧ SRow v a [⟨cl, ch⟩], fun _ x => x = .int .i64 eM, fun _ x => x = .int .i64 R.off, fun _ x => x = .int .i64 eK, fun v x => ∃ a, x = .slice a 4 4 ∧ IRow v a [eB, eW, eM, eK], fun _ x => x = .int .i64 E] (by rfl) (by kernel_rfl) (by kernel_rfl) (by kernel_rfl) (stays_cons (Stays.eq _) (stays_cons (Stays.eq _) (stays_cons (Stays.eq _) (stays_cons (Stays.eq _) (stays_cons (Stays.eq _) (stays_cons ((show Stays (fun v x => ∃ a, x = .slice a 1 1 ∧ SRow v a [⟨cl, ch⟩]) from fun v v' x g ⟨a, e, r⟩ => ⟨a, e, r.grow g⟩)) (stays_cons (Stays.eq _) (stays_cons (Stays.eq _) (stays_cons (Stays.eq _) (stays_cons ((show Stays (fun v x => ∃ a, x = .slice a 4 4 ∧ IRow v a [eB, eW, eM, eK]) from fun v v' x g ⟨a, e, r⟩ => ⟨a, e, r.grow g⟩)) (stays_cons (Stays.eq _) stays_nil))))))))))) ?step1 ?fin1
  case step1 =>
    rintro i hi x v gv hd K hK
    have hi8 : i = 0 ∨ i = 1 ∨ i = 2 ∨ i = 3 ∨ i = 4 ∨ i = 5 ∨ i = 6 ∨ i = 7 ∨ i = 8 ∨ i = 9 ∨ i = 10 := by omega
    rcases hi8 with rfl | rfl | rfl | rfl | rfl | rfl | rfl | rfl | rfl | rfl | rfl
    · show wpOp Try.prog _ _ 0 K (⟨#[.agg #[.int .i64 tab, .slice pa R.pan.length pc, .int .i64 R.hei, .slice ta R.top.length tc, .slice ba R.bot.length bc, .int .i64 R.slo, .bool R.opn], .agg #[.int .i64 W.ll, .int .i64 W.lh, .int .i64 W.wl, .int .i64 W.wh, .int .i64 W.hl, .int .i64 W.hh, .int .i64 W.ol, .int .i64 W.oh, .int .i64 W.il, .int .i64 W.ih, .bool W.wo], .agg #[.int .i64 cl, .int .i64 ch], .int .i64 R.off, .pointer (some ⟨w.heap.size, 0, none⟩), .pointer (some ⟨(w.heap.size + 1), 0, none⟩), .pointer (some ⟨(w.heap.size + 1 + 1), 0, none⟩), undef, .pointer (some ⟨(w.heap.size + 1 + 1 + 1), 0, none⟩), .pointer (some ⟨(w.heap.size + 1 + 1 + 1 + 1), 0, none⟩), undef, undef, undef, undef, undef, x 0, x 1, x 2, x 3, x 4, x 5, x 6, x 7, x 8, x 9, x 10, undef, undef, undef, undef, undef, undef, undef, undef, undef, undef, undef, undef, undef, undef, undef, undef, undef, undef, undef, undef, undef, undef], []⟩ : Act) v
      refine wpOp_step rfl (fun K' hK' => ?_)
      rw [if_pos (by rfl)]
      refine wp_load_mid 24 _ rfl w.heap.size 0 (by rfl) [.int .i64 tab, .slice pa R.pan.length pc, .int .i64 R.hei, .slice ta R.top.length tc, .slice ba R.bot.length bc, .int .i64 R.slo, .bool R.opn] _ (fun j u hu => by rw [Nat.zero_add]; exact (hBs.keep gv).2 j u hu) Try.underlying24 rfl (by kernel_rfl) ?_
      exact hK' _ _ (hK _ _ (Below.refl _ _) (at_of rfl (rfl)))
    · obtain ⟨x, rfl⟩ := upd_of (show x 0 = .agg #[.int .i64 tab, .slice pa R.pan.length pc, .int .i64 R.hei, .slice ta R.top.length tc, .slice ba R.bot.length bc, .int .i64 R.slo, .bool R.opn] from hd 0 _ (by simp) rfl)
      show wpOp Try.prog _ _ 1 K (⟨#[.agg #[.int .i64 tab, .slice pa R.pan.length pc, .int .i64 R.hei, .slice ta R.top.length tc, .slice ba R.bot.length bc, .int .i64 R.slo, .bool R.opn], .agg #[.int .i64 W.ll, .int .i64 W.lh, .int .i64 W.wl, .int .i64 W.wh, .int .i64 W.hl, .int .i64 W.hh, .int .i64 W.ol, .int .i64 W.oh, .int .i64 W.il, .int .i64 W.ih, .bool W.wo], .agg #[.int .i64 cl, .int .i64 ch], .int .i64 R.off, .pointer (some ⟨w.heap.size, 0, none⟩), .pointer (some ⟨(w.heap.size + 1), 0, none⟩), .pointer (some ⟨(w.heap.size + 1 + 1), 0, none⟩), undef, .pointer (some ⟨(w.heap.size + 1 + 1 + 1), 0, none⟩), .pointer (some ⟨(w.heap.size + 1 + 1 + 1 + 1), 0, none⟩), undef, undef, undef, undef, undef, .agg #[.int .i64 tab, .slice pa R.pan.length pc, .int .i64 R.hei, .slice ta R.top.length tc, .slice ba R.bot.length bc, .int .i64 R.slo, .bool R.opn], x 1, x 2, x 3, x 4, x 5, x 6, x 7, x 8, x 9, x 10, undef, undef, undef, undef, undef, undef, undef, undef, undef, undef, undef, undef, undef, undef, undef, undef, undef, undef, undef, undef, undef, undef], []⟩ : Act) v
      refine wpOp_step rfl (fun K' hK' => ?_)
      go_simp
      refine (CB.out v (HP.out.grow (gU.tr gv)) (HT.out.grow (gU.tr gv)) (HB.out.grow (gU.tr gv))).mono ?_
      rintro e v' ⟨rfl, hg⟩
      exact hK' _ _ (hK _ _ hg (at_of rfl (rfl)))
    · show wpOp Try.prog _ _ 2 K (⟨#[.agg #[.int .i64 tab, .slice pa R.pan.length pc, .int .i64 R.hei, .slice ta R.top.length tc, .slice ba R.bot.length bc, .int .i64 R.slo, .bool R.opn], .agg #[.int .i64 W.ll, .int .i64 W.lh, .int .i64 W.wl, .int .i64 W.wh, .int .i64 W.hl, .int .i64 W.hh, .int .i64 W.ol, .int .i64 W.oh, .int .i64 W.il, .int .i64 W.ih, .bool W.wo], .agg #[.int .i64 cl, .int .i64 ch], .int .i64 R.off, .pointer (some ⟨w.heap.size, 0, none⟩), .pointer (some ⟨(w.heap.size + 1), 0, none⟩), .pointer (some ⟨(w.heap.size + 1 + 1), 0, none⟩), undef, .pointer (some ⟨(w.heap.size + 1 + 1 + 1), 0, none⟩), .pointer (some ⟨(w.heap.size + 1 + 1 + 1 + 1), 0, none⟩), undef, undef, undef, undef, undef, x 0, x 1, x 2, x 3, x 4, x 5, x 6, x 7, x 8, x 9, x 10, undef, undef, undef, undef, undef, undef, undef, undef, undef, undef, undef, undef, undef, undef, undef, undef, undef, undef, undef, undef, undef, undef], []⟩ : Act) v
      refine wpOp_step rfl (fun K' hK' => ?_)
      rw [if_pos (by rfl)]
      refine wp_load_mid 48 _ rfl (w.heap.size + 1) 0 (by rfl) [.int .i64 W.ll, .int .i64 W.lh, .int .i64 W.wl, .int .i64 W.wh, .int .i64 W.hl, .int .i64 W.hh, .int .i64 W.ol, .int .i64 W.oh, .int .i64 W.il, .int .i64 W.ih, .bool W.wo] _ (fun j u hu => by rw [Nat.zero_add]; exact (hWs.keep gv).2 j u hu) Try.underlying48 rfl (by kernel_rfl) ?_
      exact hK' _ _ (hK _ _ (Below.refl _ _) (at_of rfl (rfl)))
    · obtain ⟨x, rfl⟩ := upd_of (show x 2 = .agg #[.int .i64 W.ll, .int .i64 W.lh, .int .i64 W.wl, .int .i64 W.wh, .int .i64 W.hl, .int .i64 W.hh, .int .i64 W.ol, .int .i64 W.oh, .int .i64 W.il, .int .i64 W.ih, .bool W.wo] from hd 2 _ (by simp) rfl)
      show wpOp Try.prog _ _ 3 K (⟨#[.agg #[.int .i64 tab, .slice pa R.pan.length pc, .int .i64 R.hei, .slice ta R.top.length tc, .slice ba R.bot.length bc, .int .i64 R.slo, .bool R.opn], .agg #[.int .i64 W.ll, .int .i64 W.lh, .int .i64 W.wl, .int .i64 W.wh, .int .i64 W.hl, .int .i64 W.hh, .int .i64 W.ol, .int .i64 W.oh, .int .i64 W.il, .int .i64 W.ih, .bool W.wo], .agg #[.int .i64 cl, .int .i64 ch], .int .i64 R.off, .pointer (some ⟨w.heap.size, 0, none⟩), .pointer (some ⟨(w.heap.size + 1), 0, none⟩), .pointer (some ⟨(w.heap.size + 1 + 1), 0, none⟩), undef, .pointer (some ⟨(w.heap.size + 1 + 1 + 1), 0, none⟩), .pointer (some ⟨(w.heap.size + 1 + 1 + 1 + 1), 0, none⟩), undef, undef, undef, undef, undef, x 0, x 1, .agg #[.int .i64 W.ll, .int .i64 W.lh, .int .i64 W.wl, .int .i64 W.wh, .int .i64 W.hl, .int .i64 W.hh, .int .i64 W.ol, .int .i64 W.oh, .int .i64 W.il, .int .i64 W.ih, .bool W.wo], x 3, x 4, x 5, x 6, x 7, x 8, x 9, x 10, undef, undef, undef, undef, undef, undef, undef, undef, undef, undef, undef, undef, undef, undef, undef, undef, undef, undef, undef, undef, undef, undef], []⟩ : Act) v
      refine wpOp_step rfl (fun K' hK' => ?_)
      go_simp
      refine (CW.out v).mono ?_
      rintro e v' ⟨rfl, hg⟩
      exact hK' _ _ (hK _ _ hg (at_of rfl (rfl)))
    · show wpOp Try.prog _ _ 4 K (⟨#[.agg #[.int .i64 tab, .slice pa R.pan.length pc, .int .i64 R.hei, .slice ta R.top.length tc, .slice ba R.bot.length bc, .int .i64 R.slo, .bool R.opn], .agg #[.int .i64 W.ll, .int .i64 W.lh, .int .i64 W.wl, .int .i64 W.wh, .int .i64 W.hl, .int .i64 W.hh, .int .i64 W.ol, .int .i64 W.oh, .int .i64 W.il, .int .i64 W.ih, .bool W.wo], .agg #[.int .i64 cl, .int .i64 ch], .int .i64 R.off, .pointer (some ⟨w.heap.size, 0, none⟩), .pointer (some ⟨(w.heap.size + 1), 0, none⟩), .pointer (some ⟨(w.heap.size + 1 + 1), 0, none⟩), undef, .pointer (some ⟨(w.heap.size + 1 + 1 + 1), 0, none⟩), .pointer (some ⟨(w.heap.size + 1 + 1 + 1 + 1), 0, none⟩), undef, undef, undef, undef, undef, x 0, x 1, x 2, x 3, x 4, x 5, x 6, x 7, x 8, x 9, x 10, undef, undef, undef, undef, undef, undef, undef, undef, undef, undef, undef, undef, undef, undef, undef, undef, undef, undef, undef, undef, undef, undef], []⟩ : Act) v
      refine wpOp_step rfl (fun K' hK' => ?_)
      rw [if_pos (by rfl)]
      refine wp_load_mid 37 _ rfl (w.heap.size + 1 + 1) 0 (by rfl) [.int .i64 cl, .int .i64 ch] _ (fun j u hu => by rw [Nat.zero_add]; exact (hCs.keep gv).2 j u hu) Try.underlying37 rfl (by kernel_rfl) ?_
      exact hK' _ _ (hK _ _ (Below.refl _ _) (at_of rfl (rfl)))
    · obtain ⟨x, rfl⟩ := upd_of (show x 4 = .agg #[.int .i64 cl, .int .i64 ch] from hd 4 _ (by simp) rfl)
      show wpOp Try.prog _ _ 5 K (⟨#[.agg #[.int .i64 tab, .slice pa R.pan.length pc, .int .i64 R.hei, .slice ta R.top.length tc, .slice ba R.bot.length bc, .int .i64 R.slo, .bool R.opn], .agg #[.int .i64 W.ll, .int .i64 W.lh, .int .i64 W.wl, .int .i64 W.wh, .int .i64 W.hl, .int .i64 W.hh, .int .i64 W.ol, .int .i64 W.oh, .int .i64 W.il, .int .i64 W.ih, .bool W.wo], .agg #[.int .i64 cl, .int .i64 ch], .int .i64 R.off, .pointer (some ⟨w.heap.size, 0, none⟩), .pointer (some ⟨(w.heap.size + 1), 0, none⟩), .pointer (some ⟨(w.heap.size + 1 + 1), 0, none⟩), undef, .pointer (some ⟨(w.heap.size + 1 + 1 + 1), 0, none⟩), .pointer (some ⟨(w.heap.size + 1 + 1 + 1 + 1), 0, none⟩), undef, undef, undef, undef, undef, x 0, x 1, x 2, x 3, .agg #[.int .i64 cl, .int .i64 ch], x 5, x 6, x 7, x 8, x 9, x 10, undef, undef, undef, undef, undef, undef, undef, undef, undef, undef, undef, undef, undef, undef, undef, undef, undef, undef, undef, undef, undef, undef], []⟩ : Act) v
      refine wpOp_step rfl (fun K' hK' => ?_)
      go_simp
      have hg := Gr.al v (.cells (List.toArray [.int .i64 cl, .int .i64 ch]) 37)
      exact hK' _ _ (hK _ _ hg (at_of rfl (⟨_, rfl, SRow.new1 v 37 cl ch v.heap.size rfl⟩)))
    · obtain ⟨a5, e5, r5⟩ := hd 5 _ (by simp) rfl
      obtain ⟨x, rfl⟩ := upd_of (show x 5 = .slice a5 1 1 from e5)
      show wpOp Try.prog _ _ 6 K (⟨#[.agg #[.int .i64 tab, .slice pa R.pan.length pc, .int .i64 R.hei, .slice ta R.top.length tc, .slice ba R.bot.length bc, .int .i64 R.slo, .bool R.opn], .agg #[.int .i64 W.ll, .int .i64 W.lh, .int .i64 W.wl, .int .i64 W.wh, .int .i64 W.hl, .int .i64 W.hh, .int .i64 W.ol, .int .i64 W.oh, .int .i64 W.il, .int .i64 W.ih, .bool W.wo], .agg #[.int .i64 cl, .int .i64 ch], .int .i64 R.off, .pointer (some ⟨w.heap.size, 0, none⟩), .pointer (some ⟨(w.heap.size + 1), 0, none⟩), .pointer (some ⟨(w.heap.size + 1 + 1), 0, none⟩), undef, .pointer (some ⟨(w.heap.size + 1 + 1 + 1), 0, none⟩), .pointer (some ⟨(w.heap.size + 1 + 1 + 1 + 1), 0, none⟩), undef, undef, undef, undef, undef, x 0, x 1, x 2, x 3, x 4, .slice a5 1 1, x 6, x 7, x 8, x 9, x 10, undef, undef, undef, undef, undef, undef, undef, undef, undef, undef, undef, undef, undef, undef, undef, undef, undef, undef, undef, undef, undef, undef], []⟩ : Act) v
      refine wpOp_step rfl (fun K' hK' => ?_)
      go_simp
      refine (CM.out a5 v r5).mono ?_
      rintro e v' ⟨rfl, hg⟩
      exact hK' _ _ (hK _ _ hg (at_of rfl (rfl)))
    · show wpOp Try.prog _ _ 7 K (⟨#[.agg #[.int .i64 tab, .slice pa R.pan.length pc, .int .i64 R.hei, .slice ta R.top.length tc, .slice ba R.bot.length bc, .int .i64 R.slo, .bool R.opn], .agg #[.int .i64 W.ll, .int .i64 W.lh, .int .i64 W.wl, .int .i64 W.wh, .int .i64 W.hl, .int .i64 W.hh, .int .i64 W.ol, .int .i64 W.oh, .int .i64 W.il, .int .i64 W.ih, .bool W.wo], .agg #[.int .i64 cl, .int .i64 ch], .int .i64 R.off, .pointer (some ⟨w.heap.size, 0, none⟩), .pointer (some ⟨(w.heap.size + 1), 0, none⟩), .pointer (some ⟨(w.heap.size + 1 + 1), 0, none⟩), undef, .pointer (some ⟨(w.heap.size + 1 + 1 + 1), 0, none⟩), .pointer (some ⟨(w.heap.size + 1 + 1 + 1 + 1), 0, none⟩), undef, undef, undef, undef, undef, x 0, x 1, x 2, x 3, x 4, x 5, x 6, x 7, x 8, x 9, x 10, undef, undef, undef, undef, undef, undef, undef, undef, undef, undef, undef, undef, undef, undef, undef, undef, undef, undef, undef, undef, undef, undef], []⟩ : Act) v
      refine wpOp_step rfl (fun K' hK' => ?_)
      go_simp
      exact hK' _ _ (hK _ _ (Below.refl _ _) (at_of rfl (rfl)))
    · obtain ⟨x, rfl⟩ := upd_of (show x 7 = .int .i64 R.off from hd 7 _ (by simp) rfl)
      show wpOp Try.prog _ _ 8 K (⟨#[.agg #[.int .i64 tab, .slice pa R.pan.length pc, .int .i64 R.hei, .slice ta R.top.length tc, .slice ba R.bot.length bc, .int .i64 R.slo, .bool R.opn], .agg #[.int .i64 W.ll, .int .i64 W.lh, .int .i64 W.wl, .int .i64 W.wh, .int .i64 W.hl, .int .i64 W.hh, .int .i64 W.ol, .int .i64 W.oh, .int .i64 W.il, .int .i64 W.ih, .bool W.wo], .agg #[.int .i64 cl, .int .i64 ch], .int .i64 R.off, .pointer (some ⟨w.heap.size, 0, none⟩), .pointer (some ⟨(w.heap.size + 1), 0, none⟩), .pointer (some ⟨(w.heap.size + 1 + 1), 0, none⟩), undef, .pointer (some ⟨(w.heap.size + 1 + 1 + 1), 0, none⟩), .pointer (some ⟨(w.heap.size + 1 + 1 + 1 + 1), 0, none⟩), undef, undef, undef, undef, undef, x 0, x 1, x 2, x 3, x 4, x 5, x 6, .int .i64 R.off, x 8, x 9, x 10, undef, undef, undef, undef, undef, undef, undef, undef, undef, undef, undef, undef, undef, undef, undef, undef, undef, undef, undef, undef, undef, undef], []⟩ : Act) v
      refine wpOp_step rfl (fun K' hK' => ?_)
      go_simp
      refine (CK.out v).mono ?_
      rintro e v' ⟨rfl, hg⟩
      exact hK' _ _ (hK _ _ hg (at_of rfl (rfl)))
    · obtain ⟨x, rfl⟩ := upd_of (show x 1 = .int .i64 eB from hd 1 _ (by simp) rfl)
      obtain ⟨x, rfl⟩ := upd_of (show x 3 = .int .i64 eW from hd 3 _ (by simp) rfl)
      obtain ⟨x, rfl⟩ := upd_of (show x 6 = .int .i64 eM from hd 6 _ (by simp) rfl)
      obtain ⟨x, rfl⟩ := upd_of (show x 8 = .int .i64 eK from hd 8 _ (by simp) rfl)
      show wpOp Try.prog _ _ 9 K (⟨#[.agg #[.int .i64 tab, .slice pa R.pan.length pc, .int .i64 R.hei, .slice ta R.top.length tc, .slice ba R.bot.length bc, .int .i64 R.slo, .bool R.opn], .agg #[.int .i64 W.ll, .int .i64 W.lh, .int .i64 W.wl, .int .i64 W.wh, .int .i64 W.hl, .int .i64 W.hh, .int .i64 W.ol, .int .i64 W.oh, .int .i64 W.il, .int .i64 W.ih, .bool W.wo], .agg #[.int .i64 cl, .int .i64 ch], .int .i64 R.off, .pointer (some ⟨w.heap.size, 0, none⟩), .pointer (some ⟨(w.heap.size + 1), 0, none⟩), .pointer (some ⟨(w.heap.size + 1 + 1), 0, none⟩), undef, .pointer (some ⟨(w.heap.size + 1 + 1 + 1), 0, none⟩), .pointer (some ⟨(w.heap.size + 1 + 1 + 1 + 1), 0, none⟩), undef, undef, undef, undef, undef, x 0, .int .i64 eB, x 2, .int .i64 eW, x 4, x 5, .int .i64 eM, x 7, .int .i64 eK, x 9, x 10, undef, undef, undef, undef, undef, undef, undef, undef, undef, undef, undef, undef, undef, undef, undef, undef, undef, undef, undef, undef, undef, undef], []⟩ : Act) v
      refine wpOp_step rfl (fun K' hK' => ?_)
      go_simp
      have hg := Gr.al v (.cells (List.toArray [.int .i64 eB, .int .i64 eW, .int .i64 eM, .int .i64 eK]) 28)
      exact hK' _ _ (hK _ _ hg (at_of rfl (⟨_, rfl, IRow.new' v 28 [eB, eW, eM, eK] (by simp) v.heap.size rfl _ (by rfl)⟩)))
    · obtain ⟨a9, e9, r9⟩ := hd 9 _ (by simp) rfl
      obtain ⟨x, rfl⟩ := upd_of (show x 9 = .slice a9 4 4 from e9)
      show wpOp Try.prog _ _ 10 K (⟨#[.agg #[.int .i64 tab, .slice pa R.pan.length pc, .int .i64 R.hei, .slice ta R.top.length tc, .slice ba R.bot.length bc, .int .i64 R.slo, .bool R.opn], .agg #[.int .i64 W.ll, .int .i64 W.lh, .int .i64 W.wl, .int .i64 W.wh, .int .i64 W.hl, .int .i64 W.hh, .int .i64 W.ol, .int .i64 W.oh, .int .i64 W.il, .int .i64 W.ih, .bool W.wo], .agg #[.int .i64 cl, .int .i64 ch], .int .i64 R.off, .pointer (some ⟨w.heap.size, 0, none⟩), .pointer (some ⟨(w.heap.size + 1), 0, none⟩), .pointer (some ⟨(w.heap.size + 1 + 1), 0, none⟩), undef, .pointer (some ⟨(w.heap.size + 1 + 1 + 1), 0, none⟩), .pointer (some ⟨(w.heap.size + 1 + 1 + 1 + 1), 0, none⟩), undef, undef, undef, undef, undef, x 0, x 1, x 2, x 3, x 4, x 5, x 6, x 7, x 8, .slice a9 4 4, x 10, undef, undef, undef, undef, undef, undef, undef, undef, undef, undef, undef, undef, undef, undef, undef, undef, undef, undef, undef, undef, undef, undef], []⟩ : Act) v
      refine wpOp_step rfl (fun K' hK' => ?_)
      go_simp
      refine (CE.out a9 v r9).mono ?_
      rintro e v' ⟨rfl, hg⟩
      exact hK' _ _ (hK _ _ hg (at_of rfl (rfl)))
  case fin1 =>
    rintro x v gv hd
    obtain ⟨x, rfl⟩ := upd_of (show x 10 = .int .i64 E from hd 10 _ (by omega) rfl)
    clear hd
    show wpList Try.prog _ _ (List.drop 11 _) (⟨#[.agg #[.int .i64 tab, .slice pa R.pan.length pc, .int .i64 R.hei, .slice ta R.top.length tc, .slice ba R.bot.length bc, .int .i64 R.slo, .bool R.opn], .agg #[.int .i64 W.ll, .int .i64 W.lh, .int .i64 W.wl, .int .i64 W.wh, .int .i64 W.hl, .int .i64 W.hh, .int .i64 W.ol, .int .i64 W.oh, .int .i64 W.il, .int .i64 W.ih, .bool W.wo], .agg #[.int .i64 cl, .int .i64 ch], .int .i64 R.off, .pointer (some ⟨w.heap.size, 0, none⟩), .pointer (some ⟨(w.heap.size + 1), 0, none⟩), .pointer (some ⟨(w.heap.size + 1 + 1), 0, none⟩), undef, .pointer (some ⟨(w.heap.size + 1 + 1 + 1), 0, none⟩), .pointer (some ⟨(w.heap.size + 1 + 1 + 1 + 1), 0, none⟩), undef, undef, undef, undef, undef, x 0, x 1, x 2, x 3, x 4, x 5, x 6, x 7, x 8, x 9, .int .i64 E, undef, undef, undef, undef, undef, undef, undef, undef, undef, undef, undef, undef, undef, undef, undef, undef, undef, undef, undef, undef, undef, undef], []⟩ : Act) v
    simp only [List.drop_succ_cons, List.drop_zero]
    have hle : w.heap.size ≤ w.heap.size + 1 + 1 + 1 := by omega
    have hle' : w.heap.size ≤ w.heap.size + 1 + 1 + 1 + 1 := by omega
    have n89 : w.heap.size + 1 + 1 + 1 ≠ w.heap.size + 1 + 1 + 1 + 1 := by omega
    have n98 : w.heap.size + 1 + 1 + 1 + 1 ≠ w.heap.size + 1 + 1 + 1 := by omega
    have gV := gU.tr gv
    have p8 := o8.keep gv
    have p9 := o9.keep gv
    have hBs := hBs.keep gv
    have hWs := hWs.keep gv
    have hCs := hCs.keep gv
    by_cases h0 : E = 0
    case neg =>
      have h0' : (E != 0) = true := by rw [bne_iff_ne]; exact h0
      have H0 := Lib.hid h0
      clear h0
      have q8 := p8.1.c1
      have q9 := p9.1.c1
      have z8 := p8.2 0
      have z9 := p9.2 0
      go_wp2
      have oz := (p8.set (i := 0) (v := .int .i64 0) (by simp)).other (i := 0) (v := .int .i64 E) n89
      have oy := (p9.other (i := 0) (v := .int .i64 0) n98).set (i := 0) (v := .int .i64 E) (by simp)
      have gz := (gV.setCell (p := ⟨w.heap.size + 1 + 1 + 1, 0, none⟩) hle (.int .i64 0)).setCell (p := ⟨w.heap.size + 1 + 1 + 1 + 1, 0, none⟩) hle' (.int .i64 E)
      refine leaves_markS [] _ (by simp) (by simp) fun w' hk => ?_
      have r8 := (oz.kx hk (by simp)).1.c1
      have r9 := (oy.kx hk (by simp)).1.c1
      refine ⟨.tuple #[.int .i64 0, .int .i64 E], by simp [results, Try.results48, go_sem, r8, r9], ?_⟩
      exact (HPost.out _ _).2 ⟨Gr.tr gz (Kx.toGr (hk.mono (by simp))), .inl ⟨H0.out, rfl⟩⟩
    subst h0
    obtain ⟨hW, hR, l1, h10⟩ := HG0.out rfl
    clear HG0
    obtain ⟨b0, b1, b2, b3, b4, b5, b6⟩ := hBs.c7
    obtain ⟨s0, s1⟩ := hCs.c2
    go_upto_region 5 with (go_at_call 68; refine (layS_any tab R.hei R.slo R.off R.pan R.top R.bot pa ta ba pc tc bc R.opn _).mono ?_; rintro e w4 ⟨rfl, g4⟩)
    clear b0 b1 b2 b3 b4 b5 b6 s0 s1
    have gA := g4.tr (Gr.al w4 (.cells #[.int .i64 tab, .slice pa R.pan.length pc, .int .i64 R.hei, .slice ta R.top.length tc, .slice ba R.bot.length bc, .int .i64 R.slo, .bool R.opn, .int .i64 R.off, .slice ta R.top.length tc, .slice ba R.bot.length bc] 124))
    have bX := Box.new w4 [.int .i64 tab, .slice pa R.pan.length pc, .int .i64 R.hei, .slice ta R.top.length tc, .slice ba R.bot.length bc, .int .i64 R.slo, .bool R.opn, .int .i64 R.off, .slice ta R.top.length tc, .slice ba R.bot.length bc] 124 w4.heap.size rfl
    have l44 : w.heap.size + 1 + 1 + 1 + 1 < w4.heap.size := by have := p9.1.1; have := g4.size; omega
    refine wp_abs (fun V => Gr w V ∧ Box V (w.heap.size + 1) [.int .i64 W.ll, .int .i64 W.lh, .int .i64 W.wl, .int .i64 W.wh, .int .i64 W.hl, .int .i64 W.hh, .int .i64 W.ol, .int .i64 W.oh, .int .i64 W.il, .int .i64 W.ih, .bool W.wo] ∧ Box V (w.heap.size + 1 + 1) [.int .i64 cl, .int .i64 ch] ∧ Own V (w.heap.size + 1 + 1 + 1) [.int .i64 0] ∧ Own V (w.heap.size + 1 + 1 + 1 + 1) [.int .i64 0] ∧ Box V w4.heap.size [.int .i64 tab, .slice pa R.pan.length pc, .int .i64 R.hei, .slice ta R.top.length tc, .slice ba R.bot.length bc, .int .i64 R.slo, .bool R.opn, .int .i64 R.off, .slice ta R.top.length tc, .slice ba R.bot.length bc]) ⟨gV.tr gA, hWs.keep gA, hCs.keep gA, p8.keep gA, p9.keep gA, bX⟩ ?_
    clear gV hBs hWs hCs p8 p9 gA bX g4 gv o8 o9 gU
    rintro V ⟨gV, hWs, hCs, o8, o9, bX⟩
    obtain ⟨s0, s1⟩ := hCs.c2
    go_wp2_with (go_at_call 86; refine (starts_any cl ch _).mono ?_; rintro e W6 ⟨b, rfl, hb, hO, g6⟩)
    refine (show (∀ s : Nat → Value, Code.wp Try.prog _ _ ⟨#[.agg #[.int .i64 tab, .slice pa R.pan.length pc, .int .i64 R.hei, .slice ta R.top.length tc, .slice ba R.bot.length bc, .int .i64 R.slo, .bool R.opn], .agg #[.int .i64 W.ll, .int .i64 W.lh, .int .i64 W.wl, .int .i64 W.wh, .int .i64 W.hl, .int .i64 W.hh, .int .i64 W.ol, .int .i64 W.oh, .int .i64 W.il, .int .i64 W.ih, .bool W.wo], .agg #[.int .i64 cl, .int .i64 ch], .int .i64 R.off, .pointer (some ⟨w.heap.size, 0, none⟩), .pointer (some ⟨(w.heap.size + 1), 0, none⟩), .pointer (some ⟨(w.heap.size + 1 + 1), 0, none⟩), undef, .pointer (some ⟨(w.heap.size + 1 + 1 + 1), 0, none⟩), .pointer (some ⟨(w.heap.size + 1 + 1 + 1 + 1), 0, none⟩), s 10, .pointer (some ⟨w4.heap.size, 0, none⟩), undef, undef, undef, s 15, s 16, s 17, s 18, s 19, s 20, s 21, s 22, s 23, s 24, s 25, s 26, s 27, s 28, s 29, s 30, s 31, s 32, .func (.func 112) #[] #[.pointer (some ⟨b, 0, none⟩)], undef, undef, undef, undef, undef, undef, undef, undef, undef, undef, undef, undef, undef, undef], []⟩ _) → _ from fun h => h ((fun l : List Value => fun i => l.getD i undef) [undef, undef, undef, undef, undef, undef, undef, undef, undef, undef, _, undef, undef, undef, undef, _, _, _, _, _, _, _, _, _, _, _, _, _, _, _, _, _, _])) ?_
    intro s
    refine (wpIn_wide (n := 20)).1 ?_
    clear s0 s1
    have l6 : w.heap.size + 1 + 1 + 1 + 1 < W6.heap.size := by have := o9.1.1; have := g6.size; omega
    have hbV : w.heap.size + 1 + 1 + 1 + 1 < b := by have := o9.1.1; omega
    obtain ⟨X0, hX0⟩ : ∃ X0 : Nat → Prop, X0 = fun k => k = w.heap.size + 1 + 1 + 1 ∨ k = w.heap.size + 1 + 1 + 1 + 1 := ⟨_, rfl⟩
    have x0 : ∀ k, X0 k → k = w.heap.size + 1 + 1 + 1 ∨ k = w.heap.size + 1 + 1 + 1 + 1 := fun k e => by rw [hX0] at e; exact e
    have x8 : X0 (w.heap.size + 1 + 1 + 1) := by rw [hX0]; exact .inl rfl
    have x9 : X0 (w.heap.size + 1 + 1 + 1 + 1) := by rw [hX0]; exact .inr rfl
    clear hX0
    have nb : ¬ X0 b := fun e => by rcases x0 _ e with e | e <;> omega
    have HWs := Lib.hid (hWs.keep g6)
    have HXs := Lib.hid (bX.keep g6)
    have O8 := Lib.hid (o8.keep g6)
    have O9 := Lib.hid (o9.keep g6)
    have GW := Lib.hid (gV.tr g6)
    have HOst : Hid (St X0 (fun V => Own V b [.int .i64 cl, .int .i64 ch]) W6) := Lib.hid (hO.st nb)
    clear hWs hCs o8 o9 bX gV g6 hO
    refine wpIn_rangeX (F := Fence.wide) rfl (by omega) (gf := 112) (lb := #[.pointer (some ⟨b, 0, none⟩)]) rfl trivial (enters_of Try.func112 (by kernel_rfl) rfl)
      (starts_seq 19 (by omega) b cl ch l1 (by omega) X0 W6 HOst.out) (Kx.refl _ _) (fun _ => rfl) X0 (fun k e => ⟨by rcases x0 _ e with e | e <;> omega, .inl e⟩)
      (MInv R W X0 W6) (MFnd R W X0 W6 (w.heap.size + 1 + 1 + 1) (w.heap.size + 1 + 1 + 1 + 1)) (fun s' X' => MInv.ab s' X') (fun c s' => MFnd.ab (by omega) l6 c s') ?start
      (fun pre x a' X' Y W' => MInv R W X0 W6 pre X' Y W' ∧ x = startAt cl pre.length ∧ x ≤ ch ∧ a' = ⟨#[.agg #[.int .i64 tab, .slice pa R.pan.length pc, .int .i64 R.hei, .slice ta R.top.length tc, .slice ba R.bot.length bc, .int .i64 R.slo, .bool R.opn], .agg #[.int .i64 W.ll, .int .i64 W.lh, .int .i64 W.wl, .int .i64 W.wh, .int .i64 W.hl, .int .i64 W.hh, .int .i64 W.ol, .int .i64 W.oh, .int .i64 W.il, .int .i64 W.ih, .bool W.wo], .agg #[.int .i64 cl, .int .i64 ch], .int .i64 R.off, .pointer (some ⟨w.heap.size, 0, none⟩), .pointer (some ⟨(w.heap.size + 1), 0, none⟩), .pointer (some ⟨(w.heap.size + 1 + 1), 0, none⟩), undef, .pointer (some ⟨(w.heap.size + 1 + 1 + 1), 0, none⟩), .pointer (some ⟨(w.heap.size + 1 + 1 + 1 + 1), 0, none⟩), s 10, .pointer (some ⟨w4.heap.size, 0, none⟩), .int .i64 x, undef, undef, s 15, s 16, s 17, s 18, s 19, s 20, s 21, s 22, s 23, s 24, s 25, s 26, s 27, s 28, s 29, s 30, s 31, s 32, .func (.func 112) #[] #[.pointer (some ⟨b, 0, none⟩)], .int .i64 x, undef, undef, undef, undef, undef, undef, undef, undef, undef, undef, undef, undef, undef], []⟩) ?abA ?assign ?body ?done ?stop
    case start => exact ⟨rfl, fun k e => e.elim, Below.refl _ _, fun y hy => by cases hy⟩
    case abA =>
      rintro s' x a' X' Y Y' A B ⟨h1, h2, h3, h4⟩ hk hy
      exact ⟨MInv.ab _ _ _ _ _ _ h1 hk hy, h2, h3, h4⟩
    case assign =>
      rintro l1' pre x X' Y W' K hI hG hDj hK
      have HK := Lib.hid hK
      have HI := Lib.hid hI
      have HG := Lib.hid hG
      clear hK hI hG
      dsimp only [encE]
      gi_wp2
      exact HK.out _ X' _ ⟨HI.out, HG.out.1, HG.out.2, rfl⟩ (Kx.refl _ _) (fun k e => ⟨hDj.x _ e, .inl e⟩)
    case body =>
      rintro l0 pre x a' X' Y W' ⟨⟨hXe, hY, h3, hpre⟩, hx, hle2, rfl⟩ hDj hYl hrec
      obtain rfl := hXe.symm
      have HY := Lib.hid hY
      have H3 := Lib.hid h3
      have HPR := Lib.hid hpre
      have bX := HXs.out.keep h3
      have bW := HWs.out.keep h3
      have hsm := fun v (h : Gr w v) => smallest_any tab pa ta ba pc tc bc R W x x hR hW v (HP.out.grow h) (HT.out.grow h) (HB.out.grow h)
      have h10' := small_10 R W x
      have HSM := Lib.hid hsm
      clear hY h3 hpre hx hDj hYl hrec hsm
      obtain ⟨y0, y1, y2, y3, y4, y5, y6, y7, y8, y9⟩ := bX.c10
      have p0 := bW.2 0 _ rfl
      have p1 := bW.2 1 _ rfl
      have p2 := bW.2 2 _ rfl
      have p3 := bW.2 3 _ rfl
      have p4 := bW.2 4 _ rfl
      have p5 := bW.2 5 _ rfl
      have p6 := bW.2 6 _ rfl
      have p7 := bW.2 7 _ rfl
      have p8 := bW.2 8 _ rfl
      have p9 := bW.2 9 _ rfl
      have p10 := bW.2 10 _ rfl
      obtain ⟨⟨d0, f0⟩, hd0⟩ : ∃ r, smallD R W x x = r := ⟨_, rfl⟩
      rw [hd0] at h10' HSM
      clear hd0
      gi_upto_region 8 with (refine ⟨trivial, ?_⟩; gi_at_call 75; refine (CallsIn.inRound l0 (callsIn_wide.2 (HSM.out W' (GW.out.tr H3.out)))).mono ?_; rintro e w8 ⟨P, T, B, rfl, oP, oT, oB, lP, lT, lB, g8⟩; clear oP oT oB)
      have hl8 : W'.heap.size ≤ w8.heap.size := g8.size
      refine wpIn_abs (fun Z => Gr W' Z) (g8.tr (Gr.al _ _)) ?_
      clear y0 y1 y2 y3 y4 y5 y6 y7 y8 y9 p0 p1 p2 p3 p4 p5 p6 p7 p8 p9 p10
      rintro Z gZ
      obtain ⟨mb, hmb⟩ : ∃ mb, mayB R W x = mb := ⟨_, rfl⟩
      rw [hmb] at h10'
      have HMB := Lib.hid hmb
      clear hmb
      have z8 := O8.out.keep (H3.out.tr gZ)
      have z9 := O9.out.keep (H3.out.tr gZ)
      cases mb with
      | false =>
        gi_wp2
        refine ⟨Kx.gr gZ, X0, ⟨rfl, HY.out, H3.out.tr gZ, fun y hy => ?_⟩, fun k e => ⟨?_, .inl e⟩⟩
        · rcases List.mem_append.1 hy with hy | hy
          · exact HPR.out y hy
          · simp only [List.mem_singleton] at hy
            rw [hy]
            exact HMB.out
        · have h1 := gZ.size
          have h2 := H3.out.size
          rcases x0 _ e with e | e <;> omega
      | true =>
        have q8 := z8.1.c1
        have q9 := z9.1.c1
        have f8 := z8.2 0
        have f9 := z9.2 0
        gi_wp2
        have kk : Kx X0 W' ((Z.setCell ⟨w.heap.size + 1 + 1 + 1, 0, none⟩ (.int .i64 x)).setCell ⟨w.heap.size + 1 + 1 + 1 + 1, 0, none⟩ (.int .i64 0)) :=
          (Kx.gr gZ).tr ((Kx.set (Z := X0) (p := ⟨w.heap.size + 1 + 1 + 1, 0, none⟩) x8 _).tr (Kx.set (Z := X0) (p := ⟨w.heap.size + 1 + 1 + 1 + 1, 0, none⟩) x9 _))
        refine ⟨kk, rfl, HY.out, (Kx.gr H3.out).tr kk, pre, x, rfl, HPR.out, HMB.out, ?_, ?_⟩
        · exact (z8.set (i := 0) (v := .int .i64 x) (by simp)).other n89
        · exact (z9.other n98).set (i := 0) (v := .int .i64 0) (by simp)

    case done =>
      rintro Dd xs X' Y W' hDd ⟨k, rfl, hk1, hk2⟩ ⟨hXe, hY, h3, hpre⟩ hYD hKD
      have z8 := O8.out.keep h3
      have z9 := O9.out.keep h3
      have q8 := z8.1.c1
      have q9 := z9.1.c1
      have f8 := z8.2 0
      have f9 := z9.2 0
      have gW := GW.out.tr h3
      have hs3 := h3.size
      have HK := Lib.hid hKD
      have HPR := Lib.hid hpre
      have HK1 := Lib.hid hk1
      clear hKD hpre hk1 hk2 hY hYD hXe
      go_wp2
      have oz := (z8.set (i := 0) (v := .int .i64 0) (by simp)).other (i := 0) (v := .int .i64 9) n89
      have oy := (z9.other (i := 0) (v := .int .i64 0) n98).set (i := 0) (v := .int .i64 9) (by simp)
      have gz := (gW.setCell (p := ⟨w.heap.size + 1 + 1 + 1, 0, none⟩) hle (.int .i64 0)).setCell (p := ⟨w.heap.size + 1 + 1 + 1 + 1, 0, none⟩) hle' (.int .i64 9)
      refine leaves_markS [Dd] _ (fun E hE => ?_) (by simp) fun w' hk => ?_
      · simp only [List.mem_singleton] at hE
        subst hE
        exact (Below.heap_setCell _ _ _ _ (by dsimp only; omega)).trans ((Below.heap_setCell _ _ _ _ (by dsimp only; omega)).trans HK.out)
      · have r8 := (oz.kx hk (fun e => by simp only [List.mem_singleton] at e; omega)).1.c1
        have r9 := (oy.kx hk (fun e => by simp only [List.mem_singleton] at e; omega)).1.c1
        refine ⟨.tuple #[.int .i64 0, .int .i64 9], by simp [results, Try.results48, go_sem, r8, r9], ?_⟩
        refine (HPost.out _ _).2 ⟨Kx.toGr ((Kx.gr (Z := noBlock) gz).th hk fun i e => .inr (by simp only [List.mem_singleton] at e; omega)), .inr (.inr ⟨by trivial, ⟨k, HK1.out, fun j hj => HPR.out _ (comeTo_mem hj)⟩, rfl⟩)⟩
    case stop =>
      rintro Dd c pre Y W' hDd ⟨k, hpk, hk2⟩ ⟨rfl, hY, h3, pre', x, hpe, hpre, hmx, z8, z9⟩ hYD hKD
      have hs3 := h3.size
      obtain ⟨n, hn, hxn, hpn⟩ := comeTo_at (hpe.symm.trans hpk)
      have hle3 := hk2 n (by omega)
      have HXN := Lib.hid hxn
      have HPN := Lib.hid hpn
      have HL3 := Lib.hid hle3
      have HPR := Lib.hid hpre
      have HMX := Lib.hid hmx
      clear hxn hpn hle3 hpre hmx hpe hpk hk2 hn
      refine wpIn_wide.2 ?_
      go_wp2
      refine leaves_markS [Dd] _ (fun E hE => ?_) (by simp) fun w' hk => ?_
      · simp only [List.mem_singleton] at hE
        subst hE
        exact hKD
      · have r8 := (z8.kx hk (fun e => by simp only [List.mem_singleton] at e; omega)).1.c1
        have r9 := (z9.kx hk (fun e => by simp only [List.mem_singleton] at e; omega)).1.c1
        refine ⟨.tuple #[.int .i64 x, .int .i64 0], by simp [results, Try.results48, go_sem, r8, r9], ?_⟩
        refine (HPost.out _ _).2 ⟨Kx.toGr (((Kx.gr (Z := noBlock) GW.out).th h3 fun i e => .inr (by rcases x0 _ e with e | e <;> omega)).th hk fun i e => .inr (by simp only [List.mem_singleton] at e; omega)), .inr (.inl ⟨by trivial, n, HL3.out, fun j hj => ?_, ?_, ?_⟩)⟩
        · exact HPR.out _ (by rw [HPN.out]; exact comeTo_mem hj)
        · rw [← HXN.out]; exact HMX.out
        · rw [← HXN.out]

end Go.Proofs.Ytafkoococfnakaa

namespace Go.Proofs.Ytafkoococfnakaa
set_option linter.unusedVariables false
set_option linter.unusedSimpArgs false
open Go.RowKit

theorem span02_any (a b : Int) (w : World) :
    Calls Try.prog 26 #[.int .i64 a, .int .i64 b] w fun e w' => e = .returned (.agg #[.int .i64 a, .int .i64 b]) ∧ Gr w w' := by
  go_enter Try.func26, Try.ntmps26
  go_wp2
  refine bodyPost_ret (v := .agg #[.int .i64 a, .int .i64 b]) (by simp [results, Try.results26, go_sem]) rfl ⟨rfl, Gr.al _ _⟩

def exW : Wi := ⟨300, 301, 200, 201, 200, 202, -3, 0, 0, 200, false⟩

set_option maxRecDepth 100000 in
set_option maxHeartbeats 2000000 in
theorem wish02_any (w : World) :
    Calls Try.prog 61 #[] w fun e w' => e = .returned (.agg #[.int .i64 300, .int .i64 301, .int .i64 200, .int .i64 201, .int .i64 200, .int .i64 202, .int .i64 (-3), .int .i64 0, .int .i64 0, .int .i64 200, .bool false]) ∧ Gr w w' := by
  have gg := Gr.al w (.cells #[.int .i64 0, .int .i64 0, .int .i64 0, .int .i64 0, .int .i64 0, .int .i64 0, .int .i64 0, .int .i64 0, .int .i64 0, .int .i64 0, .bool false] 48)
  have oW := Own.new w [.int .i64 0, .int .i64 0, .int .i64 0, .int .i64 0, .int .i64 0, .int .i64 0, .int .i64 0, .int .i64 0, .int .i64 0, .int .i64 0, .bool false] 48 w.heap.size rfl
  have hle : w.heap.size ≤ w.heap.size := Nat.le_refl _
  go_enter Try.func61, Try.ntmps61
  go_upto_region 1 with fail
  refine wp_abs (fun U => Gr w U ∧ Own U w.heap.size [.int .i64 0, .int .i64 0, .int .i64 0, .int .i64 0, .int .i64 0, .int .i64 0, .int .i64 0, .int .i64 0, .int .i64 0, .int .i64 0, .bool false]) ⟨gg, oW⟩ ?_
  clear gg oW
  rintro U ⟨gg, oW⟩
  have tok0 : True := trivial
  have tok1 : True := trivial
  have tok2 : True := trivial
  have tok3 : True := trivial
  go_wp2_with (first
    | (have _t := tok0; clear tok0 _t; go_at_call 26; refine (span02_any 300 301 _).mono ?_; rintro e w1 ⟨rfl, g1⟩; replace gg := gg.tr g1; replace oW := oW.keep g1)
    | (have _t := tok1; clear tok1 _t; go_at_call 26; refine (span02_any 200 201 _).mono ?_; rintro e w2 ⟨rfl, g2⟩; replace gg := gg.tr g2; replace oW := oW.keep g2)
    | (have _t := tok2; clear tok2 _t; go_at_call 26; refine (span02_any 200 202 _).mono ?_; rintro e w3 ⟨rfl, g3⟩; replace gg := gg.tr g3; replace oW := oW.keep g3)
    | (have _t := tok3; clear tok3 _t; go_at_call 26; refine (span02_any (-3) 0 _).mono ?_; rintro e w4 ⟨rfl, g4⟩; replace gg := gg.tr g4; replace oW := oW.keep g4)
    | (go_at_call 26; refine (span02_any 0 200 _).mono ?_; rintro e w5 ⟨rfl, g5⟩; replace gg := gg.tr g5; replace oW := oW.keep g5; have q0 := oW.1.2 0 _ rfl; have z0 := oW.2 0; have q1 := oW.1.2 1 _ rfl; have z1 := oW.2 1; have q2 := oW.1.2 2 _ rfl; have z2 := oW.2 2; have q3 := oW.1.2 3 _ rfl; have z3 := oW.2 3; have q4 := oW.1.2 4 _ rfl; have z4 := oW.2 4; have q5 := oW.1.2 5 _ rfl; have z5 := oW.2 5; have q6 := oW.1.2 6 _ rfl; have z6 := oW.2 6; have q7 := oW.1.2 7 _ rfl; have z7 := oW.2 7; have q8 := oW.1.2 8 _ rfl; have z8 := oW.2 8; have q9 := oW.1.2 9 _ rfl; have z9 := oW.2 9; have q10 := oW.1.2 10 _ rfl; have z10 := oW.2 10))
  refine bodyPost_ret (v := .agg #[.int .i64 300, .int .i64 301, .int .i64 200, .int .i64 201, .int .i64 200, .int .i64 202, .int .i64 (-3), .int .i64 0, .int .i64 0, .int .i64 200, .bool false]) (by simp [results, Try.results61, go_sem, q0, q1, q2, q3, q4, q5, q6, q7, q8, q9, q10]) rfl ⟨rfl, ?_⟩
  exact (((((((((((gg.setCell (p := ⟨w.heap.size, 0, none⟩) hle _).setCell (p := ⟨w.heap.size, 1, none⟩) hle _).setCell (p := ⟨w.heap.size, 2, none⟩) hle _).setCell (p := ⟨w.heap.size, 3, none⟩) hle _).setCell (p := ⟨w.heap.size, 4, none⟩) hle _).setCell (p := ⟨w.heap.size, 5, none⟩) hle _).setCell (p := ⟨w.heap.size, 6, none⟩) hle _).setCell (p := ⟨w.heap.size, 7, none⟩) hle _).setCell (p := ⟨w.heap.size, 8, none⟩) hle _).setCell (p := ⟨w.heap.size, 9, none⟩) hle _).setCell (p := ⟨w.heap.size, 10, none⟩) hle _)

set_option maxRecDepth 100000 in
set_option maxHeartbeats 2000000 in
theorem box02_any (x y : Int) (w : World) :
    Calls Try.prog 60 #[.int .i64 x, .int .i64 y] w fun e w' => ∃ a b c, e = .returned (.agg #[.int .i64 35, .slice (some ⟨a, 0, none⟩) 4 4, .int .i64 208, .slice (some ⟨b, 0, none⟩) 2 2, .slice (some ⟨c, 0, none⟩) 2 2, .int .i64 6, .bool false]) ∧ IRow w' (some ⟨a, 0, none⟩) [x, y, x, y] ∧ IRow w' (some ⟨b, 0, none⟩) [101, 101] ∧ IRow w' (some ⟨c, 0, none⟩) [101, 101] ∧ Gr w w' := by
  have gg := Gr.al w (.cells #[.int .i64 0, .slice none 0 0, .int .i64 0, .slice none 0 0, .slice none 0 0, .int .i64 0, .bool false] 24)
  have oW := Own.new w [.int .i64 0, .slice none 0 0, .int .i64 0, .slice none 0 0, .slice none 0 0, .int .i64 0, .bool false] 24 w.heap.size rfl
  have hle : w.heap.size ≤ w.heap.size := Nat.le_refl _
  go_enter Try.func60, Try.ntmps60
  go_upto_region 1 with fail
  refine wp_abs (fun U => Gr w U ∧ Own U w.heap.size [.int .i64 0, .slice none 0 0, .int .i64 0, .slice none 0 0, .slice none 0 0, .int .i64 0, .bool false]) ⟨gg, oW⟩ ?_
  clear gg oW
  rintro U ⟨gg, oW⟩
  have lU := oW.1.1
  have g3 := ((Gr.al U (.cells #[.int .i64 x, .int .i64 y, .int .i64 x, .int .i64 y] 3)).tr (Gr.al _ (.cells #[.int .i64 101, .int .i64 101] 3))).tr (Gr.al _ (.cells #[.int .i64 101, .int .i64 101] 3))
  have r1 := (IRow.new' U 3 [x, y, x, y] (by simp) U.heap.size rfl _ (by rfl)).grow ((Gr.al _ (.cells #[.int .i64 101, .int .i64 101] 3)).tr (Gr.al _ (.cells #[.int .i64 101, .int .i64 101] 3)))
  have r2 := (IRow.new' (U.alloc (.cells #[.int .i64 x, .int .i64 y, .int .i64 x, .int .i64 y] 3)) 3 [101, 101] (by simp) (U.heap.size + 1) (by simp) _ (by rfl)).grow (Gr.al _ (.cells #[.int .i64 101, .int .i64 101] 3))
  have r3 := IRow.new' ((U.alloc (.cells #[.int .i64 x, .int .i64 y, .int .i64 x, .int .i64 y] 3)).alloc (.cells #[.int .i64 101, .int .i64 101] 3)) 3 [101, 101] (by simp) (U.heap.size + 1 + 1) (by simp) _ (by rfl)
  have oW := oW.keep g3
  have q0 := oW.1.2 0 _ rfl
  have z0 := oW.2 0
  have q1 := oW.1.2 1 _ rfl
  have z1 := oW.2 1
  have q2 := oW.1.2 2 _ rfl
  have z2 := oW.2 2
  have q3 := oW.1.2 3 _ rfl
  have z3 := oW.2 3
  have q4 := oW.1.2 4 _ rfl
  have z4 := oW.2 4
  have q5 := oW.1.2 5 _ rfl
  have z5 := oW.2 5
  have q6 := oW.1.2 6 _ rfl
  have z6 := oW.2 6
  have R1 := Lib.hid r1
  have R2 := Lib.hid r2
  have R3 := Lib.hid r3
  have G3 := Lib.hid (gg.tr g3)
  clear r1 r2 r3 g3 gg
  go_wp2
  refine bodyPost_ret (v := .agg #[.int .i64 35, .slice (some ⟨U.heap.size, 0, none⟩) 4 4, .int .i64 208, .slice (some ⟨U.heap.size + 1, 0, none⟩) 2 2, .slice (some ⟨U.heap.size + 1 + 1, 0, none⟩) 2 2, .int .i64 6, .bool false]) (by simp [results, Try.results60, go_sem, q0, q1, q2, q3, q4, q5, q6]) rfl ⟨_, _, _, rfl, ?_, ?_, ?_, ?_⟩
  · exact (RowOf.kx R1.out (((((((((Kx.refl _ _).tr (Kx.set (Z := fun j => j = w.heap.size) (p := ⟨w.heap.size, 0, none⟩) rfl _)).tr (Kx.set (Z := fun j => j = w.heap.size) (p := ⟨w.heap.size, 1, none⟩) rfl _)).tr (Kx.set (Z := fun j => j = w.heap.size) (p := ⟨w.heap.size, 2, none⟩) rfl _)).tr (Kx.set (Z := fun j => j = w.heap.size) (p := ⟨w.heap.size, 3, none⟩) rfl _)).tr (Kx.set (Z := fun j => j = w.heap.size) (p := ⟨w.heap.size, 4, none⟩) rfl _)).tr (Kx.set (Z := fun j => j = w.heap.size) (p := ⟨w.heap.size, 5, none⟩) rfl _)).tr (Kx.set (Z := fun j => j = w.heap.size) (p := ⟨w.heap.size, 6, none⟩) rfl _))) (fun b off e e2 => by injection e with e; injection e with e _; omega))
  · exact (RowOf.kx R2.out (((((((((Kx.refl _ _).tr (Kx.set (Z := fun j => j = w.heap.size) (p := ⟨w.heap.size, 0, none⟩) rfl _)).tr (Kx.set (Z := fun j => j = w.heap.size) (p := ⟨w.heap.size, 1, none⟩) rfl _)).tr (Kx.set (Z := fun j => j = w.heap.size) (p := ⟨w.heap.size, 2, none⟩) rfl _)).tr (Kx.set (Z := fun j => j = w.heap.size) (p := ⟨w.heap.size, 3, none⟩) rfl _)).tr (Kx.set (Z := fun j => j = w.heap.size) (p := ⟨w.heap.size, 4, none⟩) rfl _)).tr (Kx.set (Z := fun j => j = w.heap.size) (p := ⟨w.heap.size, 5, none⟩) rfl _)).tr (Kx.set (Z := fun j => j = w.heap.size) (p := ⟨w.heap.size, 6, none⟩) rfl _))) (fun b off e e2 => by injection e with e; injection e with e _; omega))
  · exact (RowOf.kx R3.out (((((((((Kx.refl _ _).tr (Kx.set (Z := fun j => j = w.heap.size) (p := ⟨w.heap.size, 0, none⟩) rfl _)).tr (Kx.set (Z := fun j => j = w.heap.size) (p := ⟨w.heap.size, 1, none⟩) rfl _)).tr (Kx.set (Z := fun j => j = w.heap.size) (p := ⟨w.heap.size, 2, none⟩) rfl _)).tr (Kx.set (Z := fun j => j = w.heap.size) (p := ⟨w.heap.size, 3, none⟩) rfl _)).tr (Kx.set (Z := fun j => j = w.heap.size) (p := ⟨w.heap.size, 4, none⟩) rfl _)).tr (Kx.set (Z := fun j => j = w.heap.size) (p := ⟨w.heap.size, 5, none⟩) rfl _)).tr (Kx.set (Z := fun j => j = w.heap.size) (p := ⟨w.heap.size, 6, none⟩) rfl _))) (fun b off e e2 => by injection e with e; injection e with e _; omega))
  · have gg := G3.out
    exact (((((((gg.setCell (p := ⟨w.heap.size, 0, none⟩) hle _).setCell (p := ⟨w.heap.size, 1, none⟩) hle _).setCell (p := ⟨w.heap.size, 2, none⟩) hle _).setCell (p := ⟨w.heap.size, 3, none⟩) hle _).setCell (p := ⟨w.heap.size, 4, none⟩) hle _).setCell (p := ⟨w.heap.size, 5, none⟩) hle _).setCell (p := ⟨w.heap.size, 6, none⟩) hle _)

set_option maxRecDepth 100000 in
set_option maxHeartbeats 1000000 in
theorem ints02_any (l m : List Int) (a b : Option Addr) (c d : Nat) (w : World) (hl : IRow w a l) (hm : IRow w b m) :
    Calls Try.prog 22 #[.slice a l.length c, .slice b m.length d] w fun e w' => e = .returned (.bool (decide (l = m))) ∧ Gr w w' := by
  have hl0 := hl.1
  have hm0 := hm.1
  by_cases hlen : l.length = m.length
  · have hb : ((l.length : Int) != (m.length : Int)) = false := by rw [bne_eq_false_iff_eq]; omega
    go_enter Try.func22, Try.ntmps22
    go_wp2
    go_loopw [5] (fun t wr => Hid (∃ k : Nat, k ≤ l.length ∧ t = .int .i64 k ∧ Gr w wr ∧ l.take k = m.take k)) (fun t _ => l.length - (intOf t).toNat)
    case atStart => exact Lib.hid ⟨0, Nat.zero_le _, rfl, Below.refl _ _, by simp⟩
    case round =>
      obtain ⟨k, hk, rfl, gW, ht⟩ := hrel.out
      clear hrel
      by_cases hlt : k < l.length
      · obtain ⟨x, hx⟩ : ∃ x, l[k]? = some x := ⟨l[k], by simp [hlt]⟩
        obtain ⟨y, hy⟩ : ∃ y, m[k]? = some y := ⟨m[k], by simp [show k < m.length by omega]⟩
        obtain ⟨b1, o1, rfl, h1, c1⟩ := IRow.get (hl.grow gW) hx
        obtain ⟨b2, o2, rfl, h2, c2⟩ := IRow.get (hm.grow gW) hy
        have hlt2 : k < m.length := by omega
        by_cases hxy : x = y
        · have hne : (x != y) = false := by simpa using hxy
          have ht' : l.take (k + 1) = m.take (k + 1) := by rw [List.take_add_one, List.take_add_one, hx, hy, ht, hxy]
          have HT := Lib.hid ht'
          clear ht ht' hx hy hxy
          go_upto_region 6 with fail
          go_quiet (fail)
          go_wp2
          go_roundw
          case rel => exact Lib.hid ⟨k + 1, by omega, by go_num, Gr.drewN gW _, HT.out⟩
          case measure => simp [intOf]; omega
        · have hne : (x != y) = true := by simpa using hxy
          have hD : decide (l = m) = false := by
            rw [decide_eq_false_iff_not]
            intro e
            subst e
            rw [hx] at hy
            cases hy
            exact hxy rfl
          have HD := Lib.hid hD
          clear ht hx hy hxy hD
          go_upto_region 6 with fail
          go_quiet (fail)
          go_wp2
          go_ret
          exact ⟨ret_bool HD.out.symm, Gr.drewN gW _⟩
      · obtain rfl : k = l.length := by omega
        rw [List.take_length, hlen, List.take_length] at ht
        have hD : decide (l = m) = true := by simpa using ht
        have HD := Lib.hid hD
        clear ht hD
        go_wp2
        go_ret
        exact ⟨ret_bool HD.out.symm, gW⟩
  · have hb : ((l.length : Int) != (m.length : Int)) = true := by rw [bne_iff_ne]; omega
    have hD : decide (l = m) = false := by
      rw [decide_eq_false_iff_not]
      intro e
      exact hlen (by rw [e])
    have HD := Lib.hid hD
    clear hD
    go_enter Try.func22, Try.ntmps22
    go_wp2
    go_ret
    exact ⟨ret_bool HD.out.symm, Below.refl _ _⟩


/-- A blank: its numbers, where its rows lie. -/
structure Bl where
  tab : Int
  pan : List Int
  hei : Int
  top : List Int
  bot : List Int
  slo : Int
  opn : Bool

def Bl.cells (b : Bl) (pa ta ba : Option Addr) (pc tc bc : Nat) : List Value := [.int .i64 b.tab, .slice pa b.pan.length pc, .int .i64 b.hei, .slice ta b.top.length tc, .slice ba b.bot.length bc, .int .i64 b.slo, .bool b.opn]

/-- The rows of a blank. -/
structure BlAt (b : Bl) (pa ta ba : Option Addr) (w : World) : Prop where
  p : IRow w pa b.pan
  t : IRow w ta b.top
  b : IRow w ba b.bot

theorem BlAt.gr {b : Bl} {pa ta ba : Option Addr} {w w' : World} (h : BlAt b pa ta ba w) (g : Gr w w') : BlAt b pa ta ba w' := ⟨h.p.grow g, h.t.grow g, h.b.grow g⟩

def sameB (x y : Bl) : Bool := (x.tab == y.tab) && (decide (x.pan = y.pan) && ((x.hei == y.hei) && (decide (x.top = y.top) && (decide (x.bot = y.bot) && ((x.slo == y.slo) && (x.opn == y.opn))))))

theorem sameB_iff (x y : Bl) : sameB x y = true ↔ x = y := by
  obtain ⟨a1, a2, a3, a4, a5, a6, a7⟩ := x
  obtain ⟨b1, b2, b3, b4, b5, b6, b7⟩ := y
  simp [sameB]


set_option maxRecDepth 100000 in
set_option maxHeartbeats 4000000 in
theorem same02_any (x y : Bl) (pa ta ba pa2 ta2 ba2 : Option Addr) (pc tc bc pc2 tc2 bc2 : Nat) (w : World) (hx : BlAt x pa ta ba w) (hy : BlAt y pa2 ta2 ba2 w) :
    Calls Try.prog 20 #[.agg #[.int .i64 x.tab, .slice pa x.pan.length pc, .int .i64 x.hei, .slice ta x.top.length tc, .slice ba x.bot.length bc, .int .i64 x.slo, .bool x.opn], .agg #[.int .i64 y.tab, .slice pa2 y.pan.length pc2, .int .i64 y.hei, .slice ta2 y.top.length tc2, .slice ba2 y.bot.length bc2, .int .i64 y.slo, .bool y.opn]] w fun e w' => e = .returned (.bool (sameB x y)) ∧ Gr w w' := by
  have gg := (Gr.al w (.cells #[.int .i64 x.tab, .slice pa x.pan.length pc, .int .i64 x.hei, .slice ta x.top.length tc, .slice ba x.bot.length bc, .int .i64 x.slo, .bool x.opn] 24)).tr (Gr.al _ (.cells #[.int .i64 y.tab, .slice pa2 y.pan.length pc2, .int .i64 y.hei, .slice ta2 y.top.length tc2, .slice ba2 y.bot.length bc2, .int .i64 y.slo, .bool y.opn] 24))
  have bx := (Box.new w [.int .i64 x.tab, .slice pa x.pan.length pc, .int .i64 x.hei, .slice ta x.top.length tc, .slice ba x.bot.length bc, .int .i64 x.slo, .bool x.opn] 24 w.heap.size rfl).keep (Gr.al _ (.cells #[.int .i64 y.tab, .slice pa2 y.pan.length pc2, .int .i64 y.hei, .slice ta2 y.top.length tc2, .slice ba2 y.bot.length bc2, .int .i64 y.slo, .bool y.opn] 24))
  have bY := Box.new (w.alloc (.cells #[.int .i64 x.tab, .slice pa x.pan.length pc, .int .i64 x.hei, .slice ta x.top.length tc, .slice ba x.bot.length bc, .int .i64 x.slo, .bool x.opn] 24)) [.int .i64 y.tab, .slice pa2 y.pan.length pc2, .int .i64 y.hei, .slice ta2 y.top.length tc2, .slice ba2 y.bot.length bc2, .int .i64 y.slo, .bool y.opn] 24 (w.heap.size + 1) (by simp)
  obtain ⟨r, hr⟩ : ∃ r, sameB x y = r := ⟨_, rfl⟩
  rw [hr]
  have HR := Lib.hid hr
  clear hr
  obtain ⟨d1, e1⟩ : ∃ d, (x.tab == y.tab) = d := ⟨_, rfl⟩
  obtain ⟨d2, e2⟩ : ∃ d, decide (x.pan = y.pan) = d := ⟨_, rfl⟩
  obtain ⟨d3, e3⟩ : ∃ d, (x.hei == y.hei) = d := ⟨_, rfl⟩
  obtain ⟨d4, e4⟩ : ∃ d, decide (x.top = y.top) = d := ⟨_, rfl⟩
  obtain ⟨d5, e5⟩ : ∃ d, decide (x.bot = y.bot) = d := ⟨_, rfl⟩
  obtain ⟨d6, e6⟩ : ∃ d, (x.slo == y.slo) = d := ⟨_, rfl⟩
  obtain ⟨d7, e7⟩ : ∃ d, (x.opn == y.opn) = d := ⟨_, rfl⟩
  have HD : Hid (r = (d1 && (d2 && (d3 && (d4 && (d5 && (d6 && d7))))))) := Lib.hid (by rw [← HR.out]; unfold sameB; rw [e1, e2, e3, e4, e5, e6, e7])
  have c1 := fun (v : World) (h1 : IRow v pa x.pan) (h2 : IRow v pa2 y.pan) => ints02_any x.pan y.pan pa pa2 pc pc2 v h1 h2
  have c2 := fun (v : World) (h1 : IRow v ta x.top) (h2 : IRow v ta2 y.top) => ints02_any x.top y.top ta ta2 tc tc2 v h1 h2
  have c3 := fun (v : World) (h1 : IRow v ba x.bot) (h2 : IRow v ba2 y.bot) => ints02_any x.bot y.bot ba ba2 bc bc2 v h1 h2
  rw [e2] at c1
  rw [e4] at c2
  rw [e5] at c3
  have C1 := Lib.hid c1
  have C2 := Lib.hid c2
  have C3 := Lib.hid c3
  have HX := Lib.hid hx
  have HY := Lib.hid hy
  clear e2 e4 e5 c1 c2 c3 HR hx hy
  go_enter Try.func20, Try.ntmps20
  go_upto_region 1 with fail
  refine wp_abs (fun U => Gr w U ∧ Box U w.heap.size [.int .i64 x.tab, .slice pa x.pan.length pc, .int .i64 x.hei, .slice ta x.top.length tc, .slice ba x.bot.length bc, .int .i64 x.slo, .bool x.opn] ∧ Box U (w.heap.size + 1) [.int .i64 y.tab, .slice pa2 y.pan.length pc2, .int .i64 y.hei, .slice ta2 y.top.length tc2, .slice ba2 y.bot.length bc2, .int .i64 y.slo, .bool y.opn]) ⟨gg, bx, bY⟩ ?_
  clear gg bx bY
  rintro U ⟨gU, bx, bY⟩
  obtain ⟨p0, p1, p2, p3, p4, p5, p6⟩ := bx.c7
  obtain ⟨q0, q1, q2, q3, q4, q5, q6⟩ := bY.c7
  cases d1 with
  | false =>
    go_wp2
    go_ret
    exact ⟨ret_bool (by rw [HD.out]; simp), gU⟩
  | true =>
    cases d2 with
    | false =>
      go_wp2_with (go_at_call 22; refine (C1.out U (HX.out.p.grow gU) (HY.out.p.grow gU)).mono ?_; rintro e w1 ⟨rfl, g1⟩; (obtain ⟨p0, p1, p2, p3, p4, p5, p6⟩ := (bx.keep g1).c7); (obtain ⟨q0, q1, q2, q3, q4, q5, q6⟩ := (bY.keep g1).c7))
      go_ret
      exact ⟨ret_bool (by rw [HD.out]; simp), (gU.tr g1)⟩
    | true =>
      cases d3 with
      | false =>
        go_wp2_with (go_at_call 22; refine (C1.out U (HX.out.p.grow gU) (HY.out.p.grow gU)).mono ?_; rintro e w1 ⟨rfl, g1⟩; (obtain ⟨p0, p1, p2, p3, p4, p5, p6⟩ := (bx.keep g1).c7); (obtain ⟨q0, q1, q2, q3, q4, q5, q6⟩ := (bY.keep g1).c7))
        go_ret
        exact ⟨ret_bool (by rw [HD.out]; simp), (gU.tr g1)⟩
      | true =>
        cases d4 with
        | false =>
          have tok0 : True := trivial
          go_wp2_with (first
            | (have _t := tok0; clear tok0 _t; go_at_call 22; refine (C1.out U (HX.out.p.grow gU) (HY.out.p.grow gU)).mono ?_; rintro e w1 ⟨rfl, g1⟩; (obtain ⟨p0, p1, p2, p3, p4, p5, p6⟩ := (bx.keep g1).c7); (obtain ⟨q0, q1, q2, q3, q4, q5, q6⟩ := (bY.keep g1).c7))
            | (go_at_call 22; refine (C2.out w1 (HX.out.t.grow (gU.tr g1)) (HY.out.t.grow (gU.tr g1))).mono ?_; rintro e w2 ⟨rfl, g2⟩; (obtain ⟨p0, p1, p2, p3, p4, p5, p6⟩ := (bx.keep (g1.tr g2)).c7); (obtain ⟨q0, q1, q2, q3, q4, q5, q6⟩ := (bY.keep (g1.tr g2)).c7)))
          go_ret
          exact ⟨ret_bool (by rw [HD.out]; simp), ((gU.tr g1).tr g2)⟩
        | true =>
          cases d5 with
          | false =>
            have tok0 : True := trivial
            have tok1 : True := trivial
            go_wp2_with (first
              | (have _t := tok0; clear tok0 _t; go_at_call 22; refine (C1.out U (HX.out.p.grow gU) (HY.out.p.grow gU)).mono ?_; rintro e w1 ⟨rfl, g1⟩; (obtain ⟨p0, p1, p2, p3, p4, p5, p6⟩ := (bx.keep g1).c7); (obtain ⟨q0, q1, q2, q3, q4, q5, q6⟩ := (bY.keep g1).c7))
              | (have _t := tok1; clear tok1 _t; go_at_call 22; refine (C2.out w1 (HX.out.t.grow (gU.tr g1)) (HY.out.t.grow (gU.tr g1))).mono ?_; rintro e w2 ⟨rfl, g2⟩; (obtain ⟨p0, p1, p2, p3, p4, p5, p6⟩ := (bx.keep (g1.tr g2)).c7); (obtain ⟨q0, q1, q2, q3, q4, q5, q6⟩ := (bY.keep (g1.tr g2)).c7))
              | (go_at_call 22; refine (C3.out w2 (HX.out.b.grow ((gU.tr g1).tr g2)) (HY.out.b.grow ((gU.tr g1).tr g2))).mono ?_; rintro e w3 ⟨rfl, g3⟩; (obtain ⟨p0, p1, p2, p3, p4, p5, p6⟩ := (bx.keep ((g1.tr g2).tr g3)).c7); (obtain ⟨q0, q1, q2, q3, q4, q5, q6⟩ := (bY.keep ((g1.tr g2).tr g3)).c7)))
            go_ret
            exact ⟨ret_bool (by rw [HD.out]; simp), (((gU.tr g1).tr g2).tr g3)⟩
          | true =>
            cases d6 with
            | false =>
              have tok0 : True := trivial
              have tok1 : True := trivial
              go_wp2_with (first
                | (have _t := tok0; clear tok0 _t; go_at_call 22; refine (C1.out U (HX.out.p.grow gU) (HY.out.p.grow gU)).mono ?_; rintro e w1 ⟨rfl, g1⟩; (obtain ⟨p0, p1, p2, p3, p4, p5, p6⟩ := (bx.keep g1).c7); (obtain ⟨q0, q1, q2, q3, q4, q5, q6⟩ := (bY.keep g1).c7))
                | (have _t := tok1; clear tok1 _t; go_at_call 22; refine (C2.out w1 (HX.out.t.grow (gU.tr g1)) (HY.out.t.grow (gU.tr g1))).mono ?_; rintro e w2 ⟨rfl, g2⟩; (obtain ⟨p0, p1, p2, p3, p4, p5, p6⟩ := (bx.keep (g1.tr g2)).c7); (obtain ⟨q0, q1, q2, q3, q4, q5, q6⟩ := (bY.keep (g1.tr g2)).c7))
                | (go_at_call 22; refine (C3.out w2 (HX.out.b.grow ((gU.tr g1).tr g2)) (HY.out.b.grow ((gU.tr g1).tr g2))).mono ?_; rintro e w3 ⟨rfl, g3⟩; (obtain ⟨p0, p1, p2, p3, p4, p5, p6⟩ := (bx.keep ((g1.tr g2).tr g3)).c7); (obtain ⟨q0, q1, q2, q3, q4, q5, q6⟩ := (bY.keep ((g1.tr g2).tr g3)).c7)))
              go_ret
              exact ⟨ret_bool (by rw [HD.out]; simp), (((gU.tr g1).tr g2).tr g3)⟩
            | true =>
              cases d7 with
              | false =>
                have tok0 : True := trivial
                have tok1 : True := trivial
                go_wp2_with (first
                  | (have _t := tok0; clear tok0 _t; go_at_call 22; refine (C1.out U (HX.out.p.grow gU) (HY.out.p.grow gU)).mono ?_; rintro e w1 ⟨rfl, g1⟩; (obtain ⟨p0, p1, p2, p3, p4, p5, p6⟩ := (bx.keep g1).c7); (obtain ⟨q0, q1, q2, q3, q4, q5, q6⟩ := (bY.keep g1).c7))
                  | (have _t := tok1; clear tok1 _t; go_at_call 22; refine (C2.out w1 (HX.out.t.grow (gU.tr g1)) (HY.out.t.grow (gU.tr g1))).mono ?_; rintro e w2 ⟨rfl, g2⟩; (obtain ⟨p0, p1, p2, p3, p4, p5, p6⟩ := (bx.keep (g1.tr g2)).c7); (obtain ⟨q0, q1, q2, q3, q4, q5, q6⟩ := (bY.keep (g1.tr g2)).c7))
                  | (go_at_call 22; refine (C3.out w2 (HX.out.b.grow ((gU.tr g1).tr g2)) (HY.out.b.grow ((gU.tr g1).tr g2))).mono ?_; rintro e w3 ⟨rfl, g3⟩; (obtain ⟨p0, p1, p2, p3, p4, p5, p6⟩ := (bx.keep ((g1.tr g2).tr g3)).c7); (obtain ⟨q0, q1, q2, q3, q4, q5, q6⟩ := (bY.keep ((g1.tr g2).tr g3)).c7)))
                go_ret
                exact ⟨ret_bool (by rw [HD.out]; simp), (((gU.tr g1).tr g2).tr g3)⟩
              | true =>
                have tok0 : True := trivial
                have tok1 : True := trivial
                go_wp2_with (first
                  | (have _t := tok0; clear tok0 _t; go_at_call 22; refine (C1.out U (HX.out.p.grow gU) (HY.out.p.grow gU)).mono ?_; rintro e w1 ⟨rfl, g1⟩; (obtain ⟨p0, p1, p2, p3, p4, p5, p6⟩ := (bx.keep g1).c7); (obtain ⟨q0, q1, q2, q3, q4, q5, q6⟩ := (bY.keep g1).c7))
                  | (have _t := tok1; clear tok1 _t; go_at_call 22; refine (C2.out w1 (HX.out.t.grow (gU.tr g1)) (HY.out.t.grow (gU.tr g1))).mono ?_; rintro e w2 ⟨rfl, g2⟩; (obtain ⟨p0, p1, p2, p3, p4, p5, p6⟩ := (bx.keep (g1.tr g2)).c7); (obtain ⟨q0, q1, q2, q3, q4, q5, q6⟩ := (bY.keep (g1.tr g2)).c7))
                  | (go_at_call 22; refine (C3.out w2 (HX.out.b.grow ((gU.tr g1).tr g2)) (HY.out.b.grow ((gU.tr g1).tr g2))).mono ?_; rintro e w3 ⟨rfl, g3⟩; (obtain ⟨p0, p1, p2, p3, p4, p5, p6⟩ := (bx.keep ((g1.tr g2).tr g3)).c7); (obtain ⟨q0, q1, q2, q3, q4, q5, q6⟩ := (bY.keep ((g1.tr g2).tr g3)).c7)))
                go_ret
                exact ⟨ret_bool (by rw [HD.out]; simp), (((gU.tr g1).tr g2).tr g3)⟩

end Go.Proofs.Ytafkoococfnakaa

namespace Go.Proofs.Ytafkoococfnakaa
set_option linter.unusedVariables false
set_option linter.unusedSimpArgs false
open Go.RowKit

theorem mul_bdS {a b A B : Int} (a0 : 0 ≤ a) (a1 : a ≤ A) (b0 : 0 ≤ b) (b1 : b ≤ B) : 0 ≤ a * b ∧ a * b ≤ A * B :=
  ⟨Int.mul_nonneg a0 b0, Int.mul_le_mul a1 b1 b0 (by omega)⟩

def maxTo (l : List Int) (k : Nat) : Int := (l.take k).foldl max (l.getD 0 0)

def maxL (l : List Int) : Int := maxTo l l.length

theorem maxTo_succ {l : List Int} {k : Nat} {x : Int} (hx : l[k]? = some x) : maxTo l (k + 1) = max (maxTo l k) x := by
  unfold maxTo
  rw [List.take_add_one, hx]
  simp

theorem maxTo_one {l : List Int} {x : Int} (hx : l[0]? = some x) : maxTo l 1 = x := by
  rw [maxTo_succ hx]
  simp [maxTo, hx]

set_option maxHeartbeats 1000000 in
theorem max_any (l : List Int) (h0 : 0 < l.length) (a : Option Addr) (cap : Nat) (w : World) (hr : IRow w a l) :
    Calls Try.prog 64 #[.slice a l.length cap] w fun e w' => e = .returned (.int .i64 (maxL l)) ∧ w = w' := by
  have hm := hr.1
  obtain ⟨x0, hx0⟩ := get_of_lt h0
  obtain ⟨b0, off, rfl, hb, hc⟩ := hr.get hx0
  have H1 := Lib.hid (maxTo_one hx0)
  have HM := Lib.hid (show maxL l = maxTo l l.length from rfl)
  have hl1 : decide ((l.length : Int) < 1) = false := by simp; omega
  have hl2 : (0 : Int) < l.length := by omega
  clear hx0
  simp only [Nat.add_zero] at hc
  go_enter Try.func64, Try.ntmps64
  go_wp2
  clear hl1
  go_loop [3, 4] (fun m i => ∃ k : Nat, 1 ≤ k ∧ k ≤ l.length ∧ i = .int .i64 k ∧ m = .int .i64 (maxTo l k)) (fun m i => l.length - (intOf i).toNat)
  case atStart => exact ⟨1, Nat.le_refl _, h0, rfl, by rw [H1.out]⟩
  case round =>
    obtain ⟨k, hk1, hk, rfl, rfl⟩ := hrel
    by_cases hlt : k < l.length
    · obtain ⟨x, hx⟩ := get_of_lt hlt
      obtain ⟨b1, off1, he, hb1, hc1⟩ := hr.get hx
      injection he with he
      injection he with he1 he2
      subst he1
      subst he2
      have HS := Lib.hid (maxTo_succ hx)
      clear hx
      by_cases hm2 : maxTo l k < x
      · go_wp2
        all_goals
          go_round
          case rel => exact ⟨k + 1, by omega, by omega, by go_num, by rw [HS.out] <;> (congr 1 <;> omega)⟩
          case measure => simp [intOf]; omega
      · go_wp2
        all_goals
          go_round
          case rel => exact ⟨k + 1, by omega, by omega, by go_num, by rw [HS.out] <;> (congr 1 <;> omega)⟩
          case measure => simp [intOf]; omega
    · obtain rfl : k = l.length := by omega
      go_wp2
      go_ret
      exact ⟨ret_int HM.out.symm, rfl⟩

theorem maxTo_bd {l : List Int} (h : inB 0 3000 l = true) : ∀ k, 1 ≤ k → k ≤ l.length → 0 ≤ maxTo l k ∧ maxTo l k ≤ 3000
  | 0, h1, _ => absurd h1 (by decide)
  | 1, _, hk => by
    obtain ⟨x, hx⟩ := get_of_lt (show 0 < l.length by omega)
    rw [maxTo_one hx]
    exact in_at h hx
  | k + 2, _, hk => by
    obtain ⟨x, hx⟩ := get_of_lt (show k + 1 < l.length by omega)
    obtain ⟨a, b⟩ := maxTo_bd h (k + 1) (by omega) (by omega)
    obtain ⟨c, d⟩ := in_at h hx
    rw [maxTo_succ hx]
    omega

theorem maxL_bd {l : List Int} (h : inB 0 3000 l = true) (h0 : 0 < l.length) : 0 ≤ maxL l ∧ maxL l ≤ 3000 := maxTo_bd h _ h0 (Nat.le_refl _)

def sumTo (s : Int) (l : List Int) (k : Nat) : Int := (l.take k).foldl (· + ·) s

theorem sumTo_succ {s : Int} {l : List Int} {k : Nat} {x : Int} (hx : l[k]? = some x) : sumTo s l (k + 1) = sumTo s l k + x := by
  unfold sumTo
  rw [List.take_add_one, hx]
  simp

theorem sumTo_bd {s : Int} {l : List Int} (hs : 0 ≤ s ∧ s ≤ 100) (h : inB 1 3000 l = true) : ∀ k : Nat, k ≤ l.length → 0 ≤ sumTo s l k ∧ sumTo s l k ≤ 100 + 3000 * k
  | 0, _ => by simpa [sumTo] using hs
  | k + 1, hk => by
    obtain ⟨x, hx⟩ := get_of_lt (show k < l.length by omega)
    obtain ⟨a, b⟩ := sumTo_bd hs h k (by omega)
    obtain ⟨c, d⟩ := in_at h hx
    rw [sumTo_succ hx]
    omega

def acrossL (tab : Int) (pan : List Int) : Int := sumTo tab pan pan.length

def alongL (hei : Int) (top bot : List Int) : Int := maxL top + hei + maxL bot

set_option maxRecDepth 100000 in
set_option maxHeartbeats 2000000 in
theorem size_ok (tab hei slo : Int) (pan top bot : List Int) (pa ta ba : Option Addr) (pc tc bc : Nat) (opn : Bool) (G : GoodB tab hei slo pan top bot opn) (w : World) (hp : IRow w pa pan) (ht : IRow w ta top) (hb : IRow w ba bot) :
    Calls Try.prog 18 #[.agg #[.int .i64 tab, .slice pa pan.length pc, .int .i64 hei, .slice ta top.length tc, .slice ba bot.length bc, .int .i64 slo, .bool opn]] w fun e w' => e = .returned (.tuple #[.int .i64 (acrossL tab pan), .int .i64 (alongL hei top bot), .int .i64 (acrossL tab pan * alongL hei top bot), .int .i64 0]) ∧ Gr w w' := by
  have gg := Gr.al w (.cells #[.int .i64 tab, .slice pa pan.length pc, .int .i64 hei, .slice ta top.length tc, .slice ba bot.length bc, .int .i64 slo, .bool opn] 24)
  have hB := Box.new w [.int .i64 tab, .slice pa pan.length pc, .int .i64 hei, .slice ta top.length tc, .slice ba bot.length bc, .int .i64 slo, .bool opn] 24 w.heap.size rfl
  have HG := Lib.hid G
  have hs := in_one G.gtab
  have hh := in_one G.ghei
  obtain ⟨hh0, hh1⟩ := hh
  have HB := Lib.hid (sumTo_bd hs G.gpan)
  have l4 := G.l4
  have hl4 : pan.length ≤ 4 := by omega
  obtain ⟨m0, m1⟩ := maxL_bd G.gtop (by rw [G.t2]; omega)
  obtain ⟨m2, m3⟩ := maxL_bd G.gbot (by rw [G.b2]; omega)
  clear l4 hs G
  have hp1 := hp.grow gg
  have ht1 := ht.grow gg
  have hb1 := hb.grow gg
  go_enter Try.func18, Try.ntmps18
  go_wp2_with fail
  refine (checkB_ok _ _ _ _ _ _ _ _ _ _ _ _ _ HG.out _ hp1 ht1 hb1).mono ?_
  rintro e w1 ⟨rfl, hx⟩
  have g1 := gg.tr hx
  have B1 := hB.keep hx
  clear hp1 ht1 hb1 hx gg hB
  obtain ⟨e0, e1, e2, e3, e4, e5, e6⟩ := B1.c7
  have hp1 := hp.grow g1
  go_wp2
  go_loop [19, 2] (fun i s => ∃ k : Nat, k ≤ pan.length ∧ i = .int .i64 k ∧ s = .int .i64 (sumTo tab pan k)) (fun i s => pan.length - (intOf i).toNat)
  case atStart => exact ⟨0, Nat.zero_le _, rfl, rfl⟩
  case round =>
    obtain ⟨k, hk, rfl, rfl⟩ := hrel
    obtain ⟨s0, s1⟩ := HB.out k hk
    by_cases hlt : k < pan.length
    · obtain ⟨x, hx⟩ := get_of_lt hlt
      obtain ⟨c0, c1⟩ := in_at HG.out.gpan hx
      obtain ⟨b0, off0, rfl, hb0, r0⟩ := IRow.get hp1 hx
      have HS := Lib.hid (sumTo_succ (s := tab) hx)
      clear hx
      go_wp2
      go_round
      case rel => exact ⟨k + 1, by omega, by go_num, by rw [HS.out]⟩
      case measure => simp [intOf]; omega
    · obtain rfl : k = pan.length := by omega
      have hw1 : IntKind.i64.wrap (maxL top + hei) = maxL top + hei := IntWalk.i64_in _ (by omega)
      have hw2 : IntKind.i64.wrap (maxL top + hei + maxL bot) = maxL top + hei + maxL bot := IntWalk.i64_in _ (by omega)
      have ht1 := ht.grow g1
      have hb1 := hb.grow g1
      have H1 := Lib.hid (fun n => (max_any top (by rw [HG.out.t2]; omega) ta tc (w1.drewN n) (ht1.grow (Gr.drewN (Below.refl _ _) n))).mono fun _ _ h => (⟨h.1, h.2.symm⟩ : _ ∧ _ = w1.drewN n))
      have H2 := Lib.hid (fun n => (max_any bot (by rw [HG.out.b2]; omega) ba bc (w1.drewN n) (hb1.grow (Gr.drewN (Below.refl _ _) n))).mono fun _ _ h => (⟨h.1, h.2.symm⟩ : _ ∧ _ = w1.drewN n))
      clear ht1 hb1
      go_wp2
      go_quiet ((first | (go_at_call 64; (with_reducible exact Calls.quiet_of_same (H1.out _))) | (go_at_call 64; (with_reducible exact Calls.quiet_of_same (H2.out _)))))
      clear hw1 hw2
      obtain ⟨p0, p1⟩ := mul_bdS (show 0 ≤ sumTo tab pan pan.length by omega) (show sumTo tab pan pan.length ≤ 12100 by omega) (show 0 ≤ maxL top + hei + maxL bot by omega) (show maxL top + hei + maxL bot ≤ 9000 by omega)
      go_wp2
      refine bodyPost_ret (v := .tuple #[.int .i64 (acrossL tab pan), .int .i64 (alongL hei top bot), .int .i64 (acrossL tab pan * alongL hei top bot), .int .i64 0]) (by simp [results, Try.results18, go_sem, acrossL, alongL]) rfl ⟨rfl, g1.drewN _⟩

end Go.Proofs.Ytafkoococfnakaa

namespace Go.Proofs.Ytafkoococfnakaa
set_option linter.unusedVariables false
set_option linter.unusedSimpArgs false
open Go.RowKit

/-- The worlds of which F holds. -/
structure AtW (F : World → Prop) where
  val : World
  property : F val

theorem sem_value {P : Program} {w w' : World} {m : Sem Value} {n : Next} (h : (m >>= fun x => pure (Next.value x) : Sem Next).run P w = .ok n w') : ∃ v, n = .value v := by
  cases hm : m.run P w with
  | ok x w1 =>
    simp [hm, go_sem] at h
    exact ⟨_, h.1.symm⟩
  | halt x w1 => simp [hm, go_sem] at h

def plainB (o : Oper) : Bool := match o.op with
  | .move _ | .assign _ | .build _ _ | .load _ _ | .binOp _ _ _ _ _ | .unOp _ _ _ | .convert _ _ _ | .fieldAddr _ _ _ | .field _ _ _ | .indexAddr _ _ _ | .index _ _ _ | .extract _ _ => true
  | _ => false

theorem plain_value {P : Program} {ρ : Operand → Value} {o : Oper} (hp : plainB o = true) {w w' : World} {n : Next} (h : (execOp ρ o).run P w = .ok n w') : ∃ v, n = .value v := by
  unfold plainB at hp
  unfold execOp at h
  split at hp <;> rename_i e <;> try (rw [e] at h; exact sem_value h)
  · rw [e] at h
    simp [go_sem] at h
    exact ⟨_, h.1.symm⟩
  · rw [e] at h
    simp [go_sem] at h
    exact ⟨_, h.1.symm⟩
  · cases hp

section
variable {P : Program} {ops : Array Oper} {Q : Exit → Act → World → Prop} {S : World → Prop}

theorem ord_of_quiet {L : Act → World → Prop} {Q0 : Act → Prop} {r : List (Nat × Bool)} (hQ : ∀ d v c a w, Q (.panic c) (Act.put a d v) w → Q (.panic c) a w) (w : World) :
    ∀ (l : List Oper) (j : Nat) (a : Act), (∀ k o, l[k]? = some o → ops[j + k]? = some o) → l.all plainB = true → wpQuiet P ops S Q0 l a → (∀ a', Q0 a' → wpOrd P ops Q S L r a' w) →
      wpOrd P ops Q S L ((List.range' j l.length).map (fun i => (i, true)) ++ r) a w
  | [], j, a, _, _, h, hr => hr a h
  | o :: rest, j, a, hl, hp, h, hr => by
    simp only [List.all_cons, Bool.and_eq_true] at hp
    have ho : ops[j]? = some o := hl 0 o rfl
    have hl' : ∀ k o', rest[k]? = some o' → ops[j + 1 + k]? = some o' := fun k o' hk => by
      have := hl (k + 1) o' (by simpa using hk)
      rwa [show j + (k + 1) = j + 1 + k by omega] at this
    show ∃ o v, ops[j]? = some o ∧ YieldsIf P ops S o v a ∧ _ ∧ wpOrd P ops Q S L ((List.range' (j + 1) rest.length).map (fun i => (i, true)) ++ r) (a.put o.dst v) w
    unfold wpQuiet at h
    by_cases hw : Region.wanted o (yielded ops a.tmps) = true
    · rw [if_pos hw] at h
      obtain ⟨v, h1, h2⟩ := h
      refine ⟨o, v, ho, Or.inl ⟨hw, fun w1 hS => ?_⟩, fun c a w => hQ _ _ c a w, ord_of_quiet hQ w rest (j + 1) _ hl' hp.2 h2 hr⟩
      have h3 := h1 w1 hS
      unfold Oper.quietAt at h3
      cases hrun : (execOp a.eval o).run P w1 with
      | halt x w2 => rw [hrun] at h3; exact h3.elim
      | ok n w2 =>
        obtain ⟨u, rfl⟩ := plain_value hp.1 hrun
        rw [hrun] at h3
        obtain ⟨rfl, rfl⟩ := h3
        rfl
    · rw [if_neg hw] at h
      exact ⟨o, undef, ho, Or.inr ⟨by simpa using hw, rfl⟩, fun c a w => hQ _ _ c a w, ord_of_quiet hQ w rest (j + 1) _ hl' hp.2 h hr⟩

/-- A stretch of reads, walked as a quiet region is. -/
theorem ord_seg {lst : List Oper} {L : Act → World → Prop} {r : List (Nat × Bool)} {w : World} {a : Act} (j m : Nat) (hp : (decide (j + m ≤ lst.length) && ((lst.drop j).take m).all plainB) = true)
    (hQ : ∀ d v c a w, Q (.panic c) (Act.put a d v) w → Q (.panic c) a w) (h : wpQuiet P lst.toArray S (fun a' => wpOrd P lst.toArray Q S L r a' w) ((lst.drop j).take m) a) :
    wpOrd P lst.toArray Q S L ((List.range' j m).map (fun i => (i, true)) ++ r) a w := by
  simp only [Bool.and_eq_true, decide_eq_true_eq] at hp
  have hl : ((lst.drop j).take m).length = m := by simp; omega
  have := ord_of_quiet (Q := Q) (L := L) (r := r) hQ w ((lst.drop j).take m) j a (fun k o hk => by
    have hk' : k < m := by
      have := (List.getElem?_eq_some_iff.1 hk).1
      omega
    rw [List.getElem?_take_of_lt hk', List.getElem?_drop] at hk
    simpa using hk) hp.2 h (fun a' h' => h')
  rwa [hl] at this

theorem wp_region_reads {id : Nat} {a : Act} {w : World} {l : List Oper} (S : World → Prop) (n : Nat) (hm : P.follows .mixedOrders = true)
    (hB : (Region.noSelect l.toArray && decide (n + 1 < l.toArray.size) && Region.sinkB .any l.toArray (n + 1) && Region.chainB .any l.toArray (n + 1) && (l.take n).all plainB && ordB .any l.toArray (n + 1) ((List.range' 0 n).map (fun i => (i, true)) ++ [(n, false)]) (Array.replicate l.toArray.size false)) = true)
    (hQ : ∀ d v c a w, Q (.panic c) (Act.put a d v) w → Q (.panic c) a w)
    (hS : S w.drew) (h : wpQuiet P l.toArray S (fun a' => wpOp P l.toArray Q n (fun a' w' => S w' ∧ wpList P l.toArray Q (l.drop (n + 1)) a' w') a' w.drew) (l.take n) a) : (Code.region id l.toArray true).wp P Q a w := by
  simp only [Bool.and_eq_true, decide_eq_true_eq] at hB
  obtain ⟨⟨⟨⟨⟨hsel, hn⟩, hs⟩, hc⟩, hpl⟩, hord⟩ := hB
  have hn' : n + 1 < l.length := by simpa using hn
  have hlen : (l.take n).length = n := by simp; omega
  refine wp_region_ord S (n + 1) ((List.range' 0 n).map (fun i => (i, true)) ++ [(n, false)]) hm (by simp only [Bool.and_eq_true, decide_eq_true_eq]; exact ⟨⟨⟨⟨⟨hsel, hn⟩, hs⟩, hc⟩, by simp⟩, hord⟩) hS ?_
  have := ord_of_quiet (Q := Q) (L := fun a' w' => wpList P l.toArray Q (l.drop (n + 1)) a' w') (r := [(n, false)]) hQ w.drew (l.take n) 0 a (fun k o hk => by
    rw [Nat.zero_add]
    have hk' : k < n := by
      have := (List.getElem?_eq_some_iff.1 hk).1
      omega
    simpa [List.getElem?_take, hk'] using hk) hpl h (fun a' h' => h')
  rwa [hlen] at this

end

end Go.Proofs.Ytafkoococfnakaa
