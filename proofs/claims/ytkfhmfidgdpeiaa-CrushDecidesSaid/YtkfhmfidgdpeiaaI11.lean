/- crush: whether a lot passes at an end of its truths. (Made by gen_i11.py.) -/
import Derived.Test.YtkfhmfidgdpeiaaQj
import Derived.Test.YtkfhmfidgdpeiaaI5
namespace Go.Proofs.Ytkfhmfidgdpeiaa
set_option linter.unusedVariables false
set_option linter.unusedSimpArgs false
open Go.RowKit Go.Shelf
attribute [local go_sem] Oper.semAt_some

def sumS (hi : Bool) : List (Int × Int) → Int
  | [] => 0
  | x :: l => (if hi then x.2 else x.1) + sumS hi l

def badS (hi : Bool) (low : Int) : List (Int × Int) → Int
  | [] => 0
  | x :: l => (if (if hi then x.2 else x.1) < low then 1 else 0) + badS hi low l

theorem sumS_app (hi : Bool) (x : Int × Int) : ∀ l, sumS hi (l ++ [x]) = sumS hi l + (if hi then x.2 else x.1)
  | [] => by simp [sumS]
  | y :: l => by simp only [List.cons_append, sumS, sumS_app hi x l]; omega

theorem badS_app (hi : Bool) (low : Int) (x : Int × Int) : ∀ l, badS hi low (l ++ [x]) = badS hi low l + (if (if hi then x.2 else x.1) < low then 1 else 0)
  | [] => by simp [badS]
  | y :: l => by simp only [List.cons_append, badS, badS_app hi low x l]; omega

theorem badS_0 (hi : Bool) (low : Int) : ∀ l, 0 ≤ badS hi low l
  | [] => by simp [badS]
  | y :: l => by
    have := badS_0 hi low l
    simp only [badS]
    split <;> split <;> omega

theorem badS_le (hi : Bool) (low : Int) : ∀ a b, badS hi low a ≤ badS hi low (a ++ b)
  | [], b => by simpa [badS] using badS_0 hi low b
  | y :: l, b => by
    have := badS_le hi low l b
    simp only [List.cons_append, badS]
    omega

theorem sumS_bd (hi : Bool) : ∀ l, (∀ x ∈ l, TrB x) → 0 ≤ sumS hi l ∧ sumS hi l ≤ 100000 * (l.length : Int)
  | [], _ => by simp [sumS]
  | y :: l, h => by
    obtain ⟨a, b⟩ := sumS_bd hi l (fun x hx => h x (List.mem_cons_of_mem _ hx))
    obtain ⟨p, q, r, s⟩ := h y List.mem_cons_self
    simp only [sumS, List.length_cons]
    split <;> omega

/-- Whether a lot passes. -/
def passB (hi : Bool) (te me low ba : Int) (l : List (Int × Int)) : Bool := decide (badS hi low l ≤ ba) && decide (te * me ≤ sumS hi l)

theorem wrap_add (a b : Int) : IntKind.i64.wrap (IntKind.i64.wrap a + b) = IntKind.i64.wrap (a + b) := by
  rw [IntKind.wrap_i64, IntKind.wrap_i64, IntKind.wrap_i64]
  omega

/-- While passes counts. -/
def InvP (hi : Bool) (low ba : Int) (b6 b7 b8 : Nat) (X0 : Nat → Prop) (w4 : World) (pre : List (Int × Int)) (X Y : Nat → Prop) (W : World) : Prop :=
  X = X0 ∧ (∀ i, Y i → w4.heap.size ≤ i) ∧ Kx X0 w4 W ∧ Own W b6 [.bool false] ∧ Own W b7 [.int .i64 (IntKind.i64.wrap (sumS hi pre))] ∧ Own W b8 [.int .i64 (badS hi low pre)] ∧ badS hi low pre ≤ ba

theorem InvP.ab {hi : Bool} {low ba : Int} {b6 b7 b8 : Nat} {X0 : Nat → Prop} {w4 : World} (h6' : b6 < w4.heap.size) (h7 : b7 < w4.heap.size) (h8 : b8 < w4.heap.size) (s : List (Int × Int)) (X : Nat → Prop) : Ab (InvP hi low ba b6 b7 b8 X0 w4 s X) := by
  rintro Y Y' A B ⟨h1, h2, h3, h0, h4, h5, h6⟩ hk hy
  have hs := h3.size
  refine ⟨h1, fun i e => ?_, h3.th hk fun i e => .inr (h2 i e), h0.kx hk fun e => ?_, h4.kx hk fun e => ?_, h5.kx hk fun e => ?_, h6⟩
  · rcases hy i e with e | e
    · exact h2 i e
    · omega
  · have := h2 _ e; omega
  · have := h2 _ e; omega
  · have := h2 _ e; omega

def FndP (hi : Bool) (low ba : Int) (b6 : Nat) (X0 : Nat → Prop) (w4 : World) (c : Code) (pre : List (Int × Int)) (Y : Nat → Prop) (W : World) : Prop :=
  c = .ret ∧ (∀ i, Y i → w4.heap.size ≤ i) ∧ Kx X0 w4 W ∧ Own W b6 [.bool false] ∧ ba < badS hi low pre

theorem end_lo (x : Int × Int) (w : World) : Calls Try.prog 91 #[.agg #[.int .i64 x.1, .int .i64 x.2]] w fun e w' => e = .returned (.int .i64 x.1) ∧ Gr w w' := by
  have hb := Box.new w [.int .i64 x.1, .int .i64 x.2] 45 w.heap.size rfl
  obtain ⟨q0, q1⟩ := hb.c2
  have gg := Gr.al w (.cells #[.int .i64 x.1, .int .i64 x.2] 45)
  go_enter Try.func91, Try.ntmps91
  go_wp2
  go_ret
  exact ⟨rfl, gg⟩

set_option maxRecDepth 100000 in
set_option maxHeartbeats 4000000 in
theorem passes_lo (te : Nat) (me low ba off : Int) (rl ml : List Int) (ra ma : Option Addr) (rc mc : Nat) (t1 : te ≤ 1000) (m0 : 0 ≤ me) (m1 : me ≤ 100000) (o0 : 0 ≤ off) (o1 : off ≤ 1000) (a0 : 0 ≤ ba) (a1 : ba ≤ 1000) (hB : ∀ r ∈ rl ++ ml, 0 ≤ r ∧ r ≤ 100000) (hl : (rl ++ ml).length ≤ 100000) (w : World) (hr : IRow w ra rl) (hrn : ra = none → rc = 0) (hm : IRow w ma ml) (hmn : ma = none → mc = 0) :
    Calls Try.prog 90 #[.agg #[.int .i64 (te : Int), .int .i64 me, .int .i64 low, .int .i64 ba, .int .i64 off, .slice ra rl.length rc], .func (.func 91) #[] #[], .slice ma ml.length mc] w fun e w' => e = .returned (.bool (passB false (te : Int) me low ba (truthsL te off (rl ++ ml)))) ∧ Gr w w' := by
  refine (callsIn_wide (n := 20)).1 ?_
  have gg := (Gr.al w (.cells #[.int .i64 (te : Int), .int .i64 me, .int .i64 low, .int .i64 ba, .int .i64 off, .slice ra rl.length rc] 123)).tr ((Gr.al _ (.cells #[.func (.func 91) #[] #[]] 151)).tr ((Gr.al _ (.cells #[.bool false] 4)).tr ((Gr.al _ (.cells #[.int .i64 0] 3)).tr (Gr.al _ (.cells #[.int .i64 0] 3)))))
  have o3 := (Own.new w [.int .i64 (te : Int), .int .i64 me, .int .i64 low, .int .i64 ba, .int .i64 off, .slice ra rl.length rc] 123 w.heap.size rfl).keep ((Gr.al _ (.cells #[.func (.func 91) #[] #[]] 151)).tr ((Gr.al _ (.cells #[.bool false] 4)).tr ((Gr.al _ (.cells #[.int .i64 0] 3)).tr (Gr.al _ (.cells #[.int .i64 0] 3)))))
  have o4 := (Own.new (w.alloc (.cells #[.int .i64 (te : Int), .int .i64 me, .int .i64 low, .int .i64 ba, .int .i64 off, .slice ra rl.length rc] 123)) [.func (.func 91) #[] #[]] 151 (w.heap.size + 1) (by simp)).keep ((Gr.al _ (.cells #[.bool false] 4)).tr ((Gr.al _ (.cells #[.int .i64 0] 3)).tr (Gr.al _ (.cells #[.int .i64 0] 3))))
  have o6 := (Own.new ((w.alloc (.cells #[.int .i64 (te : Int), .int .i64 me, .int .i64 low, .int .i64 ba, .int .i64 off, .slice ra rl.length rc] 123)).alloc (.cells #[.func (.func 91) #[] #[]] 151)) [.bool false] 4 (w.heap.size + 1 + 1) (by simp)).keep ((Gr.al _ (.cells #[.int .i64 0] 3)).tr (Gr.al _ (.cells #[.int .i64 0] 3)))
  have o7 := (Own.new (((w.alloc (.cells #[.int .i64 (te : Int), .int .i64 me, .int .i64 low, .int .i64 ba, .int .i64 off, .slice ra rl.length rc] 123)).alloc (.cells #[.func (.func 91) #[] #[]] 151)).alloc (.cells #[.bool false] 4)) [.int .i64 0] 3 (w.heap.size + 1 + 1 + 1) (by simp)).keep (Gr.al _ (.cells #[.int .i64 0] 3))
  have o8 := Own.new ((((w.alloc (.cells #[.int .i64 (te : Int), .int .i64 me, .int .i64 low, .int .i64 ba, .int .i64 off, .slice ra rl.length rc] 123)).alloc (.cells #[.func (.func 91) #[] #[]] 151)).alloc (.cells #[.bool false] 4)).alloc (.cells #[.int .i64 0] 3)) [.int .i64 0] 3 (w.heap.size + 1 + 1 + 1 + 1) (by simp)
  have q3 := fun j v h => o3.1.2 j v h
  refine callsIn_of_wp_marks Try.func90 rfl trivial ?_ rfl
  simp only [Try.ntmps90, List.size_toArray, List.length_cons, List.length_nil, Nat.reduceAdd, Nat.reduceSub, Array.replicate_succ, Array.replicate_zero, List.push_toArray, List.append_toArray, List.nil_append, List.cons_append]
  gi_wp2_with (refine ⟨trivial, ?_⟩; gi_at_call 109; refine (callsIn_wide.2 (truths_any (te : Int) me low ba off rl ml ra ma rc mc hl _ (hr.grow gg) hrn (hm.grow gg) hmn)).mono ?_; rintro e w4 ⟨b1, b2, a, cap, rfl, hb1, hb2, h1, h2, h3, h5, h4⟩; have H1 := Lib.hid h1; have H2 := Lib.hid h2; have H3 := Lib.hid h3; have H5 := Lib.hid h5; have O3 := Lib.hid (o3.keep h4); have O4 := Lib.hid (o4.keep h4); have O6 := Lib.hid (o6.keep h4); have O7 := Lib.hid (o7.keep h4); have O8 := Lib.hid (o8.keep h4); have G4 := Lib.hid (gg.tr h4); clear h1 h2 h3 h5 h4)
  have hb1' : w.heap.size + 5 ≤ b1 := by simpa using hb1
  have hb2' : w.heap.size + 5 ≤ b2 := by simpa using hb2
  have s4 : w.heap.size + 5 ≤ w4.heap.size := by have := O8.out.1.1; omega
  have HN5 := Lib.hid (H5.out.le (show w.heap.size + 5 ≤ _ by simp))
  clear hb1 hb2 gg o3 o4 o6 o7 o8 q3 H5
  obtain ⟨X0, hX0⟩ : ∃ X0 : Nat → Prop, X0 = fun i => i = w.heap.size + 1 + 1 ∨ i = w.heap.size + 1 + 1 + 1 ∨ i = w.heap.size + 1 + 1 + 1 + 1 := ⟨_, rfl⟩
  have x0 : ∀ i, X0 i → i < w.heap.size + 5 ∧ w.heap.size + 2 ≤ i := fun i e => by rw [hX0] at e; rcases e with e | e | e <;> omega
  have x6 : X0 (w.heap.size + 1 + 1) := by rw [hX0]; exact .inl rfl
  have x7 : X0 (w.heap.size + 1 + 1 + 1) := by rw [hX0]; exact .inr (.inl rfl)
  have x8 : X0 (w.heap.size + 1 + 1 + 1 + 1) := by rw [hX0]; exact .inr (.inr rfl)
  have hst : St X0 (fun V => Own V b1 [.int .i64 (te : Int), .int .i64 me, .int .i64 low, .int .i64 ba, .int .i64 off, .slice ra rl.length rc] ∧ Own V b2 [.slice a (rl ++ ml).length cap] ∧ IRow V a (rl ++ ml)) w4 := fun B hB => by
    refine ⟨H1.out.kx hB fun e => by have := x0 _ e; omega, H2.out.kx hB fun e => by have := x0 _ e; omega, H3.out.kx hB fun b' off' e e' => ?_⟩
    have := x0 _ e'
    have := HN5.out b' off' none e
    omega
  have Hx0 := Lib.hid x0
  have Hst := Lib.hid hst
  have HB := Lib.hid hB
  clear hX0 x0 hst hB
  refine wpIn_rangeX (F := Fence.wide) rfl (by omega) (gf := 118) (lb := #[.pointer (some ⟨b1, 0, none⟩), .pointer (some ⟨b2, 0, none⟩)]) rfl trivial (enters_of Try.func118 (by kernel_rfl) rfl)
    (truths_seq 19 (by omega) b1 b2 te me low ba off (.slice ra rl.length rc) a cap (rl ++ ml) (by omega) o0 o1 HB.out X0 w4 Hst.out) (Kx.refl _ _) (fun _ => rfl) X0 (fun i e => ⟨by have := Hx0.out i e; omega, .inl e⟩)
    (InvP false low ba (w.heap.size + 1 + 1) (w.heap.size + 1 + 1 + 1) (w.heap.size + 1 + 1 + 1 + 1) X0 w4) (FndP false low ba (w.heap.size + 1 + 1) X0 w4) (fun s X => InvP.ab (by omega) (by omega) (by omega) s X) ?abX ?start
    (fun pre x a' X Y W => InvP false low ba (w.heap.size + 1 + 1) (w.heap.size + 1 + 1 + 1) (w.heap.size + 1 + 1 + 1 + 1) X0 w4 pre X Y W ∧ TrB x ∧ ∃ B9, Own W B9 [.int .i64 x.1, .int .i64 x.2] ∧ ¬ X B9 ∧ ¬ Y B9 ∧ w4.heap.size ≤ B9 ∧ a' = ⟨#[.agg #[.int .i64 (te : Int), .int .i64 me, .int .i64 low, .int .i64 ba, .int .i64 off, .slice ra rl.length rc], .func (.func 91) #[] #[], .slice ma ml.length mc, .pointer (some ⟨w.heap.size, 0, none⟩), .pointer (some ⟨w.heap.size + 1, 0, none⟩), undef, .pointer (some ⟨w.heap.size + 1 + 1, 0, none⟩), .pointer (some ⟨w.heap.size + 1 + 1 + 1, 0, none⟩), .pointer (some ⟨w.heap.size + 1 + 1 + 1 + 1, 0, none⟩), .pointer (some ⟨B9, 0, none⟩), undef, .agg #[.int .i64 (te : Int), .int .i64 me, .int .i64 low, .int .i64 ba, .int .i64 off, .slice ra rl.length rc], .slice ma ml.length mc, .func (.func 118) #[] #[.pointer (some ⟨b1, 0, none⟩), .pointer (some ⟨b2, 0, none⟩)], .agg #[.int .i64 x.1, .int .i64 x.2], undef, undef, undef, undef, undef, undef, undef, undef, undef, undef, undef, undef, undef, undef, undef, undef, undef, undef, undef, undef, undef, undef, undef, undef, undef, undef, undef], []⟩)
    ?abA ?assign ?body ?done ?stop
  case start =>
    refine ⟨rfl, fun i e => e.elim, Kx.refl _ _, O6.out, O7.out, O8.out, ?_⟩
    simpa [badS] using a0
  case abX =>
    rintro c s Y Y' A B ⟨h1, h2, h3, h4, h5⟩ hk hy
    have hs := h3.size
    refine ⟨h1, fun i e => ?_, h3.th hk fun i e => .inr (h2 i e), h4.kx hk fun e => ?_, h5⟩
    · rcases hy i e with e | e
      · exact h2 i e
      · omega
    · have := h2 _ e; omega
  case abA =>
    rintro s x a' X Y Y' A B ⟨h1, hm, B9, h3, h4, h5, h6, h7⟩ hk hy
    refine ⟨InvP.ab (by omega) (by omega) (by omega) _ _ _ _ _ _ h1 hk hy, hm, B9, h3.kx hk h5, h4, fun e => ?_, h6, h7⟩
    rcases hy _ e with e | e
    · exact h5 e
    · have := h3.1.1; omega
  case assign =>
    rintro l1 pre x X Y W K hI hG hD hK
    have HK := Lib.hid hK
    have false := Lib.hid hI
    have HG := Lib.hid hG
    clear hK hI hG
    dsimp only [encTr]
    gi_wp2
    refine HK.out _ X _ ⟨InvP.ab (by omega) (by omega) (by omega) _ _ _ _ _ _ false.out (Kx.al _ _ _) (fun i e => .inl e), HG.out, W.heap.size, Own.new _ [_, _] 45 _ rfl, fun e => ?_, fun e => ?_, false.out.2.2.1.size, rfl⟩ (Kx.al _ _ _) (fun i e => ⟨?_, .inl e⟩)
    · have := hD.x _ e; omega
    · have := hD.y _ e; omega
    · have := hD.x _ e; simp; omega
  case body =>
    rintro l1 pre x a' X Y W ⟨⟨rfl, hY, hk, h6, h7, h8, hba⟩, hT, B9, h9, hn1, hn2, hn3, rfl⟩ hD hYl hrec
    obtain ⟨T1, T2, T3, T4⟩ := hT
    have f3 := O3.out.kx hk (fun e => by have := Hx0.out _ e; omega)
    have f4 := O4.out.kx hk (fun e => by have := Hx0.out _ e; omega)
    have q4 := f4.1.c1
    obtain ⟨j0, j1⟩ := h9.1.c2
    have hsum : sumS false (pre ++ [x]) = sumS false pre + x.1 := by simp [sumS_app]
    have v0 : IntKind.i64.wrap (IntKind.i64.wrap (sumS false pre) + x.1) = IntKind.i64.wrap (sumS false (pre ++ [x])) := by rw [hsum, wrap_add]
    have hbad : badS false low (pre ++ [x]) = badS false low pre + (if x.1 < low then 1 else 0) := by simp [badS_app]
    have hb0 := badS_0 false low pre
    obtain ⟨Bd, hBd⟩ : ∃ Bd, badS false low pre = Bd := ⟨_, rfl⟩
    rw [hBd] at h8 hba hbad hb0
    have v1 : IntKind.i64.wrap (Bd + 1) = Bd + 1 := IntWalk.i64_in _ (by omega)
    have n1 : ¬ w.heap.size = w.heap.size + 1 + 1 + 1 := by omega
    have n2 : ¬ w.heap.size = w.heap.size + 1 + 1 + 1 + 1 := by omega
    have n3 : ¬ w.heap.size + 1 + 1 + 1 + 1 = w.heap.size + 1 + 1 + 1 := by omega
    have n4 : ¬ w.heap.size + 1 + 1 + 1 = w.heap.size + 1 + 1 + 1 + 1 := by omega
    have n5 : ¬ w.heap.size + 1 + 1 = w.heap.size + 1 + 1 + 1 := by omega
    have n6 : ¬ w.heap.size + 1 + 1 = w.heap.size + 1 + 1 + 1 + 1 := by omega
    have n7 : ¬ w.heap.size + 1 + 1 + 1 = w.heap.size + 1 + 1 := by omega
    have n8 : ¬ w.heap.size + 1 + 1 + 1 + 1 = w.heap.size + 1 + 1 := by omega
    obtain ⟨S', hS'⟩ : ∃ S', IntKind.i64.wrap (sumS false (pre ++ [x])) = S' := ⟨_, rfl⟩
    rw [hS'] at v0
    obtain ⟨Pv, hPv⟩ : ∃ Pv, IntKind.i64.wrap (sumS false pre) = Pv := ⟨_, rfl⟩
    rw [hPv] at v0 h7
    clear hPv
    have d1 : decide (ba < Bd) = false := by simp; omega
    have H6 := Lib.hid h6
    have H7 := Lib.hid h7
    have H8 := Lib.hid h8
    have HF := Lib.hid f3
    have HK := Lib.hid hk
    have HY := Lib.hid hY
    have HBD := Lib.hid hbad
    have HSS := Lib.hid hS'
    have X6 := Lib.hid x6
    have X7 := Lib.hid x7
    have X8 := Lib.hid x8
    have HBa := Lib.hid hba
    clear h6 h7 h8 f3 f4 hk hY hbad hS' hsum h9 hn1 hn2 hD hYl hrec hBd T1 T2 T3 T4 x6 x7 x8 hba
    cases hb : decide (x.1 < low) with
    | false =>
      have hb' : ¬ x.1 < low := by simpa using hb
      have eB := HBD.out
      rw [if_neg hb'] at eB
      have EB := Lib.hid eB
      clear eB hb'
      gi_wp2_with (refine ⟨trivial, ?_⟩; gi_at_call 91; refine (CallsIn.inRound l1 (callsIn_wide.2 (end_lo x _))).mono ?_; rintro e w6 ⟨rfl, g6⟩; have D6 := Lib.hid (H6.out.keep g6); have D7 := Lib.hid (H7.out.keep g6); have D8 := Lib.hid (H8.out.keep g6); have e32 := (HF.out.keep g6).1.2 2 _ rfl; have e33 := (HF.out.keep g6).1.2 3 _ rfl; have c7 := D7.out.1.c1; have z7 := D7.out.2 0; have c8 := D8.out.1.c1; have z8 := D8.out.2 0; have c6 := D6.out.1.c1; have z6 := D6.out.2 0; have G6 := Lib.hid g6; clear g6)
      have kk : Kx X W (w6.setCell ⟨w.heap.size + 1 + 1 + 1, 0, none⟩ (.int .i64 S')) := (Kx.gr G6.out).tr (Kx.set (Z := X) (p := ⟨w.heap.size + 1 + 1 + 1, 0, none⟩) X7.out _)
      refine ⟨kk, X, ⟨rfl, HY.out, HK.out.tr kk, D6.out.other n5, ?_, ?_, ?_⟩, fun i e => ⟨by have := Hx0.out i e; have := HK.out.size; have := kk.size; omega, .inl e⟩⟩
      · rw [HSS.out]
        exact D7.out.set (i := 0) (v := .int .i64 S') (by simp)
      · rw [EB.out, Int.add_zero]
        exact D8.out.other n3
      · rw [EB.out, Int.add_zero]
        exact HBa.out
    | true =>
      have hb' : x.1 < low := by simpa using hb
      have eB := HBD.out
      rw [if_pos hb'] at eB
      have EB := Lib.hid eB
      clear eB hb'
      cases hc : decide (ba < Bd + 1) with
      | false =>
        gi_wp2_with (refine ⟨trivial, ?_⟩; gi_at_call 91; refine (CallsIn.inRound l1 (callsIn_wide.2 (end_lo x _))).mono ?_; rintro e w6 ⟨rfl, g6⟩; have D6 := Lib.hid (H6.out.keep g6); have D7 := Lib.hid (H7.out.keep g6); have D8 := Lib.hid (H8.out.keep g6); have e32 := (HF.out.keep g6).1.2 2 _ rfl; have e33 := (HF.out.keep g6).1.2 3 _ rfl; have c7 := D7.out.1.c1; have z7 := D7.out.2 0; have c8 := D8.out.1.c1; have z8 := D8.out.2 0; have c6 := D6.out.1.c1; have z6 := D6.out.2 0; have G6 := Lib.hid g6; clear g6)
        have kk : Kx X W ((w6.setCell ⟨w.heap.size + 1 + 1 + 1, 0, none⟩ (.int .i64 S')).setCell ⟨w.heap.size + 1 + 1 + 1 + 1, 0, none⟩ (.int .i64 (Bd + 1))) := (Kx.gr G6.out).tr ((Kx.set (Z := X) (p := ⟨w.heap.size + 1 + 1 + 1, 0, none⟩) X7.out _).tr (Kx.set (Z := X) (p := ⟨w.heap.size + 1 + 1 + 1 + 1, 0, none⟩) X8.out _))
        refine ⟨kk, X, ⟨rfl, HY.out, HK.out.tr kk, (D6.out.other n5).other n6, ?_, ?_, ?_⟩, fun i e => ⟨by have := Hx0.out i e; have := HK.out.size; have := kk.size; omega, .inl e⟩⟩
        · rw [HSS.out]
          exact (D7.out.set (i := 0) (v := .int .i64 S') (by simp)).other n4
        · rw [EB.out]
          exact (D8.out.other n3).set (i := 0) (v := .int .i64 (Bd + 1)) (by simp)
        · rw [EB.out]
          simp only [decide_eq_false_iff_not] at hc
          omega
      | true =>
        gi_wp2_with (refine ⟨trivial, ?_⟩; gi_at_call 91; refine (CallsIn.inRound l1 (callsIn_wide.2 (end_lo x _))).mono ?_; rintro e w6 ⟨rfl, g6⟩; have D6 := Lib.hid (H6.out.keep g6); have D7 := Lib.hid (H7.out.keep g6); have D8 := Lib.hid (H8.out.keep g6); have e32 := (HF.out.keep g6).1.2 2 _ rfl; have e33 := (HF.out.keep g6).1.2 3 _ rfl; have c7 := D7.out.1.c1; have z7 := D7.out.2 0; have c8 := D8.out.1.c1; have z8 := D8.out.2 0; have c6 := D6.out.1.c1; have z6 := D6.out.2 0; have G6 := Lib.hid g6; clear g6)
        have kk : Kx X W (((w6.setCell ⟨w.heap.size + 1 + 1 + 1, 0, none⟩ (.int .i64 S')).setCell ⟨w.heap.size + 1 + 1 + 1 + 1, 0, none⟩ (.int .i64 (Bd + 1))).setCell ⟨w.heap.size + 1 + 1, 0, none⟩ (.bool false)) := (Kx.gr G6.out).tr ((Kx.set (Z := X) (p := ⟨w.heap.size + 1 + 1 + 1, 0, none⟩) X7.out _).tr ((Kx.set (Z := X) (p := ⟨w.heap.size + 1 + 1 + 1 + 1, 0, none⟩) X8.out _).tr (Kx.set (Z := X) (p := ⟨w.heap.size + 1 + 1, 0, none⟩) X6.out _)))
        refine ⟨kk, rfl, HY.out, HK.out.tr kk, ((D6.out.other n5).other n6).set (i := 0) (v := .bool false) (by simp), ?_⟩
        rw [EB.out]
        simpa using hc
  case done =>
    rintro D xs X Y W hD rfl ⟨rfl, hY, hk, h6, h7, h8, hba⟩ hYD hK
    have f3 := O3.out.kx hk (fun e => by have := Hx0.out _ e; omega)
    have hall : ∀ x ∈ truthsL te off (rl ++ ml), TrB x := fun x hx => by
      obtain ⟨k, _, rfl⟩ := List.mem_map.1 hx
      exact truthAt_bd o0 o1 HB.out k
    obtain ⟨s0, s1⟩ := sumS_bd false _ hall
    have hlen : ((truthsL te off (rl ++ ml)).length : Int) ≤ 1000 := by simp [truthsL]; omega
    obtain ⟨S, hS⟩ : ∃ S, sumS false (truthsL te off (rl ++ ml)) = S := ⟨_, rfl⟩
    rw [hS] at h7 s0 s1
    rw [IntWalk.i64_in S (by omega)] at h7
    have hm0 : 0 ≤ (te : Int) * me := Int.mul_nonneg (by omega) m0
    have hm1 : (te : Int) * me ≤ 1000 * 100000 := Int.mul_le_mul (by omega) m1 m0 (by omega)
    have v0 : IntKind.i64.wrap ((te : Int) * me) = (te : Int) * me := IntWalk.i64_in _ (by omega)
    have e30 := f3.1.2 0 _ rfl
    have e31 := f3.1.2 1 _ rfl
    have c7 := h7.1.c1
    have c6 := h6.1.c1
    have z6 := h6.2 0
    have D6 := Lib.hid h6
    have HKK := Lib.hid hk
    have HS := Lib.hid hS
    have HBa := Lib.hid hba
    have X6 := Lib.hid x6
    clear h6 h7 h8 f3 hk hall hY x6 x7 x8 hba hS s0 s1 hm0 hm1
    gi_wp2
    have oz := D6.out.set (i := 0) (v := .bool (decide ((te : Int) * me ≤ S))) (by simp)
    have kk := HKK.out.tr (Kx.set (Z := X) (w := W) (p := ⟨w.heap.size + 1 + 1, 0, none⟩) X6.out (.bool (decide ((te : Int) * me ≤ S))))
    refine leaves_marks [D] _ (fun E hE => ?_) (by simp) fun w' hk' => ?_
    · simp only [List.mem_singleton] at hE
      subst hE
      exact (Below.heap_setCell _ _ _ _ (by dsimp only; omega)).trans hK
    · have p0 := (oz.kx hk' (fun e => by simp only [List.mem_singleton] at e; omega)).1.c1
      refine ⟨.bool (decide ((te : Int) * me ≤ S)), by simp [results, Try.results90, go_sem, p0], ?_, Kx.toGr (((Kx.gr (Z := noBlock) G4.out).th kk fun i e => ?_).th hk' fun i e => ?_)⟩
      · have e1 : decide (badS false low (truthsL te off (rl ++ ml)) ≤ ba) = true := by simpa using HBa.out
        unfold passB
        rw [e1, HS.out, Bool.true_and]
      · have := Hx0.out i e
        exact .inr (by omega)
      · simp only [List.mem_singleton] at e
        exact .inr (by omega)
  case stop =>
    rintro D c pre Y W hD ⟨m, hm, hpm⟩ ⟨rfl, hY, hk, h6, hbad⟩ hYD hK
    gi_wp2
    refine leaves_marks [D] _ (fun E hE => ?_) (by simp) fun w' hk' => ?_
    · simp only [List.mem_singleton] at hE
      subst hE
      exact hK
    · have p0 := (h6.kx hk' (fun e => by simp only [List.mem_singleton] at e; omega)).1.c1
      refine ⟨.bool false, by simp [results, Try.results90, go_sem, p0], ?_, Kx.toGr (((Kx.gr (Z := noBlock) G4.out).th hk fun i e => ?_).th hk' fun i e => ?_)⟩
      · have h1 := badS_le false low pre ((truthsL te off (rl ++ ml)).drop m)
        rw [hpm, List.take_append_drop, ← hpm] at h1
        have e1 : decide (badS false low (truthsL te off (rl ++ ml)) ≤ ba) = false := by simp; omega
        unfold passB
        rw [e1, Bool.false_and]
      · have := Hx0.out i e
        exact .inr (by omega)
      · simp only [List.mem_singleton] at e
        exact .inr (by omega)

theorem end_hi (x : Int × Int) (w : World) : Calls Try.prog 92 #[.agg #[.int .i64 x.1, .int .i64 x.2]] w fun e w' => e = .returned (.int .i64 x.2) ∧ Gr w w' := by
  have hb := Box.new w [.int .i64 x.1, .int .i64 x.2] 45 w.heap.size rfl
  obtain ⟨q0, q1⟩ := hb.c2
  have gg := Gr.al w (.cells #[.int .i64 x.1, .int .i64 x.2] 45)
  go_enter Try.func92, Try.ntmps92
  go_wp2
  go_ret
  exact ⟨rfl, gg⟩

set_option maxRecDepth 100000 in
set_option maxHeartbeats 4000000 in
theorem passes_hi (te : Nat) (me low ba off : Int) (rl ml : List Int) (ra ma : Option Addr) (rc mc : Nat) (t1 : te ≤ 1000) (m0 : 0 ≤ me) (m1 : me ≤ 100000) (o0 : 0 ≤ off) (o1 : off ≤ 1000) (a0 : 0 ≤ ba) (a1 : ba ≤ 1000) (hB : ∀ r ∈ rl ++ ml, 0 ≤ r ∧ r ≤ 100000) (hl : (rl ++ ml).length ≤ 100000) (w : World) (hr : IRow w ra rl) (hrn : ra = none → rc = 0) (hm : IRow w ma ml) (hmn : ma = none → mc = 0) :
    Calls Try.prog 90 #[.agg #[.int .i64 (te : Int), .int .i64 me, .int .i64 low, .int .i64 ba, .int .i64 off, .slice ra rl.length rc], .func (.func 92) #[] #[], .slice ma ml.length mc] w fun e w' => e = .returned (.bool (passB true (te : Int) me low ba (truthsL te off (rl ++ ml)))) ∧ Gr w w' := by
  refine (callsIn_wide (n := 20)).1 ?_
  have gg := (Gr.al w (.cells #[.int .i64 (te : Int), .int .i64 me, .int .i64 low, .int .i64 ba, .int .i64 off, .slice ra rl.length rc] 123)).tr ((Gr.al _ (.cells #[.func (.func 92) #[] #[]] 151)).tr ((Gr.al _ (.cells #[.bool false] 4)).tr ((Gr.al _ (.cells #[.int .i64 0] 3)).tr (Gr.al _ (.cells #[.int .i64 0] 3)))))
  have o3 := (Own.new w [.int .i64 (te : Int), .int .i64 me, .int .i64 low, .int .i64 ba, .int .i64 off, .slice ra rl.length rc] 123 w.heap.size rfl).keep ((Gr.al _ (.cells #[.func (.func 92) #[] #[]] 151)).tr ((Gr.al _ (.cells #[.bool false] 4)).tr ((Gr.al _ (.cells #[.int .i64 0] 3)).tr (Gr.al _ (.cells #[.int .i64 0] 3)))))
  have o4 := (Own.new (w.alloc (.cells #[.int .i64 (te : Int), .int .i64 me, .int .i64 low, .int .i64 ba, .int .i64 off, .slice ra rl.length rc] 123)) [.func (.func 92) #[] #[]] 151 (w.heap.size + 1) (by simp)).keep ((Gr.al _ (.cells #[.bool false] 4)).tr ((Gr.al _ (.cells #[.int .i64 0] 3)).tr (Gr.al _ (.cells #[.int .i64 0] 3))))
  have o6 := (Own.new ((w.alloc (.cells #[.int .i64 (te : Int), .int .i64 me, .int .i64 low, .int .i64 ba, .int .i64 off, .slice ra rl.length rc] 123)).alloc (.cells #[.func (.func 92) #[] #[]] 151)) [.bool false] 4 (w.heap.size + 1 + 1) (by simp)).keep ((Gr.al _ (.cells #[.int .i64 0] 3)).tr (Gr.al _ (.cells #[.int .i64 0] 3)))
  have o7 := (Own.new (((w.alloc (.cells #[.int .i64 (te : Int), .int .i64 me, .int .i64 low, .int .i64 ba, .int .i64 off, .slice ra rl.length rc] 123)).alloc (.cells #[.func (.func 92) #[] #[]] 151)).alloc (.cells #[.bool false] 4)) [.int .i64 0] 3 (w.heap.size + 1 + 1 + 1) (by simp)).keep (Gr.al _ (.cells #[.int .i64 0] 3))
  have o8 := Own.new ((((w.alloc (.cells #[.int .i64 (te : Int), .int .i64 me, .int .i64 low, .int .i64 ba, .int .i64 off, .slice ra rl.length rc] 123)).alloc (.cells #[.func (.func 92) #[] #[]] 151)).alloc (.cells #[.bool false] 4)).alloc (.cells #[.int .i64 0] 3)) [.int .i64 0] 3 (w.heap.size + 1 + 1 + 1 + 1) (by simp)
  have q3 := fun j v h => o3.1.2 j v h
  refine callsIn_of_wp_marks Try.func90 rfl trivial ?_ rfl
  simp only [Try.ntmps90, List.size_toArray, List.length_cons, List.length_nil, Nat.reduceAdd, Nat.reduceSub, Array.replicate_succ, Array.replicate_zero, List.push_toArray, List.append_toArray, List.nil_append, List.cons_append]
  gi_wp2_with (refine ⟨trivial, ?_⟩; gi_at_call 109; refine (callsIn_wide.2 (truths_any (te : Int) me low ba off rl ml ra ma rc mc hl _ (hr.grow gg) hrn (hm.grow gg) hmn)).mono ?_; rintro e w4 ⟨b1, b2, a, cap, rfl, hb1, hb2, h1, h2, h3, h5, h4⟩; have H1 := Lib.hid h1; have H2 := Lib.hid h2; have H3 := Lib.hid h3; have H5 := Lib.hid h5; have O3 := Lib.hid (o3.keep h4); have O4 := Lib.hid (o4.keep h4); have O6 := Lib.hid (o6.keep h4); have O7 := Lib.hid (o7.keep h4); have O8 := Lib.hid (o8.keep h4); have G4 := Lib.hid (gg.tr h4); clear h1 h2 h3 h5 h4)
  have hb1' : w.heap.size + 5 ≤ b1 := by simpa using hb1
  have hb2' : w.heap.size + 5 ≤ b2 := by simpa using hb2
  have s4 : w.heap.size + 5 ≤ w4.heap.size := by have := O8.out.1.1; omega
  have HN5 := Lib.hid (H5.out.le (show w.heap.size + 5 ≤ _ by simp))
  clear hb1 hb2 gg o3 o4 o6 o7 o8 q3 H5
  obtain ⟨X0, hX0⟩ : ∃ X0 : Nat → Prop, X0 = fun i => i = w.heap.size + 1 + 1 ∨ i = w.heap.size + 1 + 1 + 1 ∨ i = w.heap.size + 1 + 1 + 1 + 1 := ⟨_, rfl⟩
  have x0 : ∀ i, X0 i → i < w.heap.size + 5 ∧ w.heap.size + 2 ≤ i := fun i e => by rw [hX0] at e; rcases e with e | e | e <;> omega
  have x6 : X0 (w.heap.size + 1 + 1) := by rw [hX0]; exact .inl rfl
  have x7 : X0 (w.heap.size + 1 + 1 + 1) := by rw [hX0]; exact .inr (.inl rfl)
  have x8 : X0 (w.heap.size + 1 + 1 + 1 + 1) := by rw [hX0]; exact .inr (.inr rfl)
  have hst : St X0 (fun V => Own V b1 [.int .i64 (te : Int), .int .i64 me, .int .i64 low, .int .i64 ba, .int .i64 off, .slice ra rl.length rc] ∧ Own V b2 [.slice a (rl ++ ml).length cap] ∧ IRow V a (rl ++ ml)) w4 := fun B hB => by
    refine ⟨H1.out.kx hB fun e => by have := x0 _ e; omega, H2.out.kx hB fun e => by have := x0 _ e; omega, H3.out.kx hB fun b' off' e e' => ?_⟩
    have := x0 _ e'
    have := HN5.out b' off' none e
    omega
  have Hx0 := Lib.hid x0
  have Hst := Lib.hid hst
  have HB := Lib.hid hB
  clear hX0 x0 hst hB
  refine wpIn_rangeX (F := Fence.wide) rfl (by omega) (gf := 118) (lb := #[.pointer (some ⟨b1, 0, none⟩), .pointer (some ⟨b2, 0, none⟩)]) rfl trivial (enters_of Try.func118 (by kernel_rfl) rfl)
    (truths_seq 19 (by omega) b1 b2 te me low ba off (.slice ra rl.length rc) a cap (rl ++ ml) (by omega) o0 o1 HB.out X0 w4 Hst.out) (Kx.refl _ _) (fun _ => rfl) X0 (fun i e => ⟨by have := Hx0.out i e; omega, .inl e⟩)
    (InvP true low ba (w.heap.size + 1 + 1) (w.heap.size + 1 + 1 + 1) (w.heap.size + 1 + 1 + 1 + 1) X0 w4) (FndP true low ba (w.heap.size + 1 + 1) X0 w4) (fun s X => InvP.ab (by omega) (by omega) (by omega) s X) ?abX ?start
    (fun pre x a' X Y W => InvP true low ba (w.heap.size + 1 + 1) (w.heap.size + 1 + 1 + 1) (w.heap.size + 1 + 1 + 1 + 1) X0 w4 pre X Y W ∧ TrB x ∧ ∃ B9, Own W B9 [.int .i64 x.1, .int .i64 x.2] ∧ ¬ X B9 ∧ ¬ Y B9 ∧ w4.heap.size ≤ B9 ∧ a' = ⟨#[.agg #[.int .i64 (te : Int), .int .i64 me, .int .i64 low, .int .i64 ba, .int .i64 off, .slice ra rl.length rc], .func (.func 92) #[] #[], .slice ma ml.length mc, .pointer (some ⟨w.heap.size, 0, none⟩), .pointer (some ⟨w.heap.size + 1, 0, none⟩), undef, .pointer (some ⟨w.heap.size + 1 + 1, 0, none⟩), .pointer (some ⟨w.heap.size + 1 + 1 + 1, 0, none⟩), .pointer (some ⟨w.heap.size + 1 + 1 + 1 + 1, 0, none⟩), .pointer (some ⟨B9, 0, none⟩), undef, .agg #[.int .i64 (te : Int), .int .i64 me, .int .i64 low, .int .i64 ba, .int .i64 off, .slice ra rl.length rc], .slice ma ml.length mc, .func (.func 118) #[] #[.pointer (some ⟨b1, 0, none⟩), .pointer (some ⟨b2, 0, none⟩)], .agg #[.int .i64 x.1, .int .i64 x.2], undef, undef, undef, undef, undef, undef, undef, undef, undef, undef, undef, undef, undef, undef, undef, undef, undef, undef, undef, undef, undef, undef, undef, undef, undef, undef, undef], []⟩)
    ?abA ?assign ?body ?done ?stop
  case start =>
    refine ⟨rfl, fun i e => e.elim, Kx.refl _ _, O6.out, O7.out, O8.out, ?_⟩
    simpa [badS] using a0
  case abX =>
    rintro c s Y Y' A B ⟨h1, h2, h3, h4, h5⟩ hk hy
    have hs := h3.size
    refine ⟨h1, fun i e => ?_, h3.th hk fun i e => .inr (h2 i e), h4.kx hk fun e => ?_, h5⟩
    · rcases hy i e with e | e
      · exact h2 i e
      · omega
    · have := h2 _ e; omega
  case abA =>
    rintro s x a' X Y Y' A B ⟨h1, hm, B9, h3, h4, h5, h6, h7⟩ hk hy
    refine ⟨InvP.ab (by omega) (by omega) (by omega) _ _ _ _ _ _ h1 hk hy, hm, B9, h3.kx hk h5, h4, fun e => ?_, h6, h7⟩
    rcases hy _ e with e | e
    · exact h5 e
    · have := h3.1.1; omega
  case assign =>
    rintro l1 pre x X Y W K hI hG hD hK
    have HK := Lib.hid hK
    have true := Lib.hid hI
    have HG := Lib.hid hG
    clear hK hI hG
    dsimp only [encTr]
    gi_wp2
    refine HK.out _ X _ ⟨InvP.ab (by omega) (by omega) (by omega) _ _ _ _ _ _ true.out (Kx.al _ _ _) (fun i e => .inl e), HG.out, W.heap.size, Own.new _ [_, _] 45 _ rfl, fun e => ?_, fun e => ?_, true.out.2.2.1.size, rfl⟩ (Kx.al _ _ _) (fun i e => ⟨?_, .inl e⟩)
    · have := hD.x _ e; omega
    · have := hD.y _ e; omega
    · have := hD.x _ e; simp; omega
  case body =>
    rintro l1 pre x a' X Y W ⟨⟨rfl, hY, hk, h6, h7, h8, hba⟩, hT, B9, h9, hn1, hn2, hn3, rfl⟩ hD hYl hrec
    obtain ⟨T1, T2, T3, T4⟩ := hT
    have f3 := O3.out.kx hk (fun e => by have := Hx0.out _ e; omega)
    have f4 := O4.out.kx hk (fun e => by have := Hx0.out _ e; omega)
    have q4 := f4.1.c1
    obtain ⟨j0, j1⟩ := h9.1.c2
    have hsum : sumS true (pre ++ [x]) = sumS true pre + x.2 := by simp [sumS_app]
    have v0 : IntKind.i64.wrap (IntKind.i64.wrap (sumS true pre) + x.2) = IntKind.i64.wrap (sumS true (pre ++ [x])) := by rw [hsum, wrap_add]
    have hbad : badS true low (pre ++ [x]) = badS true low pre + (if x.2 < low then 1 else 0) := by simp [badS_app]
    have hb0 := badS_0 true low pre
    obtain ⟨Bd, hBd⟩ : ∃ Bd, badS true low pre = Bd := ⟨_, rfl⟩
    rw [hBd] at h8 hba hbad hb0
    have v1 : IntKind.i64.wrap (Bd + 1) = Bd + 1 := IntWalk.i64_in _ (by omega)
    have n1 : ¬ w.heap.size = w.heap.size + 1 + 1 + 1 := by omega
    have n2 : ¬ w.heap.size = w.heap.size + 1 + 1 + 1 + 1 := by omega
    have n3 : ¬ w.heap.size + 1 + 1 + 1 + 1 = w.heap.size + 1 + 1 + 1 := by omega
    have n4 : ¬ w.heap.size + 1 + 1 + 1 = w.heap.size + 1 + 1 + 1 + 1 := by omega
    have n5 : ¬ w.heap.size + 1 + 1 = w.heap.size + 1 + 1 + 1 := by omega
    have n6 : ¬ w.heap.size + 1 + 1 = w.heap.size + 1 + 1 + 1 + 1 := by omega
    have n7 : ¬ w.heap.size + 1 + 1 + 1 = w.heap.size + 1 + 1 := by omega
    have n8 : ¬ w.heap.size + 1 + 1 + 1 + 1 = w.heap.size + 1 + 1 := by omega
    obtain ⟨S', hS'⟩ : ∃ S', IntKind.i64.wrap (sumS true (pre ++ [x])) = S' := ⟨_, rfl⟩
    rw [hS'] at v0
    obtain ⟨Pv, hPv⟩ : ∃ Pv, IntKind.i64.wrap (sumS true pre) = Pv := ⟨_, rfl⟩
    rw [hPv] at v0 h7
    clear hPv
    have d1 : decide (ba < Bd) = false := by simp; omega
    have H6 := Lib.hid h6
    have H7 := Lib.hid h7
    have H8 := Lib.hid h8
    have HF := Lib.hid f3
    have HK := Lib.hid hk
    have HY := Lib.hid hY
    have HBD := Lib.hid hbad
    have HSS := Lib.hid hS'
    have X6 := Lib.hid x6
    have X7 := Lib.hid x7
    have X8 := Lib.hid x8
    have HBa := Lib.hid hba
    clear h6 h7 h8 f3 f4 hk hY hbad hS' hsum h9 hn1 hn2 hD hYl hrec hBd T1 T2 T3 T4 x6 x7 x8 hba
    cases hb : decide (x.2 < low) with
    | false =>
      have hb' : ¬ x.2 < low := by simpa using hb
      have eB := HBD.out
      rw [if_neg hb'] at eB
      have EB := Lib.hid eB
      clear eB hb'
      gi_wp2_with (refine ⟨trivial, ?_⟩; gi_at_call 92; refine (CallsIn.inRound l1 (callsIn_wide.2 (end_hi x _))).mono ?_; rintro e w6 ⟨rfl, g6⟩; have D6 := Lib.hid (H6.out.keep g6); have D7 := Lib.hid (H7.out.keep g6); have D8 := Lib.hid (H8.out.keep g6); have e32 := (HF.out.keep g6).1.2 2 _ rfl; have e33 := (HF.out.keep g6).1.2 3 _ rfl; have c7 := D7.out.1.c1; have z7 := D7.out.2 0; have c8 := D8.out.1.c1; have z8 := D8.out.2 0; have c6 := D6.out.1.c1; have z6 := D6.out.2 0; have G6 := Lib.hid g6; clear g6)
      have kk : Kx X W (w6.setCell ⟨w.heap.size + 1 + 1 + 1, 0, none⟩ (.int .i64 S')) := (Kx.gr G6.out).tr (Kx.set (Z := X) (p := ⟨w.heap.size + 1 + 1 + 1, 0, none⟩) X7.out _)
      refine ⟨kk, X, ⟨rfl, HY.out, HK.out.tr kk, D6.out.other n5, ?_, ?_, ?_⟩, fun i e => ⟨by have := Hx0.out i e; have := HK.out.size; have := kk.size; omega, .inl e⟩⟩
      · rw [HSS.out]
        exact D7.out.set (i := 0) (v := .int .i64 S') (by simp)
      · rw [EB.out, Int.add_zero]
        exact D8.out.other n3
      · rw [EB.out, Int.add_zero]
        exact HBa.out
    | true =>
      have hb' : x.2 < low := by simpa using hb
      have eB := HBD.out
      rw [if_pos hb'] at eB
      have EB := Lib.hid eB
      clear eB hb'
      cases hc : decide (ba < Bd + 1) with
      | false =>
        gi_wp2_with (refine ⟨trivial, ?_⟩; gi_at_call 92; refine (CallsIn.inRound l1 (callsIn_wide.2 (end_hi x _))).mono ?_; rintro e w6 ⟨rfl, g6⟩; have D6 := Lib.hid (H6.out.keep g6); have D7 := Lib.hid (H7.out.keep g6); have D8 := Lib.hid (H8.out.keep g6); have e32 := (HF.out.keep g6).1.2 2 _ rfl; have e33 := (HF.out.keep g6).1.2 3 _ rfl; have c7 := D7.out.1.c1; have z7 := D7.out.2 0; have c8 := D8.out.1.c1; have z8 := D8.out.2 0; have c6 := D6.out.1.c1; have z6 := D6.out.2 0; have G6 := Lib.hid g6; clear g6)
        have kk : Kx X W ((w6.setCell ⟨w.heap.size + 1 + 1 + 1, 0, none⟩ (.int .i64 S')).setCell ⟨w.heap.size + 1 + 1 + 1 + 1, 0, none⟩ (.int .i64 (Bd + 1))) := (Kx.gr G6.out).tr ((Kx.set (Z := X) (p := ⟨w.heap.size + 1 + 1 + 1, 0, none⟩) X7.out _).tr (Kx.set (Z := X) (p := ⟨w.heap.size + 1 + 1 + 1 + 1, 0, none⟩) X8.out _))
        refine ⟨kk, X, ⟨rfl, HY.out, HK.out.tr kk, (D6.out.other n5).other n6, ?_, ?_, ?_⟩, fun i e => ⟨by have := Hx0.out i e; have := HK.out.size; have := kk.size; omega, .inl e⟩⟩
        · rw [HSS.out]
          exact (D7.out.set (i := 0) (v := .int .i64 S') (by simp)).other n4
        · rw [EB.out]
          exact (D8.out.other n3).set (i := 0) (v := .int .i64 (Bd + 1)) (by simp)
        · rw [EB.out]
          simp only [decide_eq_false_iff_not] at hc
          omega
      | true =>
        gi_wp2_with (refine ⟨trivial, ?_⟩; gi_at_call 92; refine (CallsIn.inRound l1 (callsIn_wide.2 (end_hi x _))).mono ?_; rintro e w6 ⟨rfl, g6⟩; have D6 := Lib.hid (H6.out.keep g6); have D7 := Lib.hid (H7.out.keep g6); have D8 := Lib.hid (H8.out.keep g6); have e32 := (HF.out.keep g6).1.2 2 _ rfl; have e33 := (HF.out.keep g6).1.2 3 _ rfl; have c7 := D7.out.1.c1; have z7 := D7.out.2 0; have c8 := D8.out.1.c1; have z8 := D8.out.2 0; have c6 := D6.out.1.c1; have z6 := D6.out.2 0; have G6 := Lib.hid g6; clear g6)
        have kk : Kx X W (((w6.setCell ⟨w.heap.size + 1 + 1 + 1, 0, none⟩ (.int .i64 S')).setCell ⟨w.heap.size + 1 + 1 + 1 + 1, 0, none⟩ (.int .i64 (Bd + 1))).setCell ⟨w.heap.size + 1 + 1, 0, none⟩ (.bool false)) := (Kx.gr G6.out).tr ((Kx.set (Z := X) (p := ⟨w.heap.size + 1 + 1 + 1, 0, none⟩) X7.out _).tr ((Kx.set (Z := X) (p := ⟨w.heap.size + 1 + 1 + 1 + 1, 0, none⟩) X8.out _).tr (Kx.set (Z := X) (p := ⟨w.heap.size + 1 + 1, 0, none⟩) X6.out _)))
        refine ⟨kk, rfl, HY.out, HK.out.tr kk, ((D6.out.other n5).other n6).set (i := 0) (v := .bool false) (by simp), ?_⟩
        rw [EB.out]
        simpa using hc
  case done =>
    rintro D xs X Y W hD rfl ⟨rfl, hY, hk, h6, h7, h8, hba⟩ hYD hK
    have f3 := O3.out.kx hk (fun e => by have := Hx0.out _ e; omega)
    have hall : ∀ x ∈ truthsL te off (rl ++ ml), TrB x := fun x hx => by
      obtain ⟨k, _, rfl⟩ := List.mem_map.1 hx
      exact truthAt_bd o0 o1 HB.out k
    obtain ⟨s0, s1⟩ := sumS_bd true _ hall
    have hlen : ((truthsL te off (rl ++ ml)).length : Int) ≤ 1000 := by simp [truthsL]; omega
    obtain ⟨S, hS⟩ : ∃ S, sumS true (truthsL te off (rl ++ ml)) = S := ⟨_, rfl⟩
    rw [hS] at h7 s0 s1
    rw [IntWalk.i64_in S (by omega)] at h7
    have hm0 : 0 ≤ (te : Int) * me := Int.mul_nonneg (by omega) m0
    have hm1 : (te : Int) * me ≤ 1000 * 100000 := Int.mul_le_mul (by omega) m1 m0 (by omega)
    have v0 : IntKind.i64.wrap ((te : Int) * me) = (te : Int) * me := IntWalk.i64_in _ (by omega)
    have e30 := f3.1.2 0 _ rfl
    have e31 := f3.1.2 1 _ rfl
    have c7 := h7.1.c1
    have c6 := h6.1.c1
    have z6 := h6.2 0
    have D6 := Lib.hid h6
    have HKK := Lib.hid hk
    have HS := Lib.hid hS
    have HBa := Lib.hid hba
    have X6 := Lib.hid x6
    clear h6 h7 h8 f3 hk hall hY x6 x7 x8 hba hS s0 s1 hm0 hm1
    gi_wp2
    have oz := D6.out.set (i := 0) (v := .bool (decide ((te : Int) * me ≤ S))) (by simp)
    have kk := HKK.out.tr (Kx.set (Z := X) (w := W) (p := ⟨w.heap.size + 1 + 1, 0, none⟩) X6.out (.bool (decide ((te : Int) * me ≤ S))))
    refine leaves_marks [D] _ (fun E hE => ?_) (by simp) fun w' hk' => ?_
    · simp only [List.mem_singleton] at hE
      subst hE
      exact (Below.heap_setCell _ _ _ _ (by dsimp only; omega)).trans hK
    · have p0 := (oz.kx hk' (fun e => by simp only [List.mem_singleton] at e; omega)).1.c1
      refine ⟨.bool (decide ((te : Int) * me ≤ S)), by simp [results, Try.results90, go_sem, p0], ?_, Kx.toGr (((Kx.gr (Z := noBlock) G4.out).th kk fun i e => ?_).th hk' fun i e => ?_)⟩
      · have e1 : decide (badS true low (truthsL te off (rl ++ ml)) ≤ ba) = true := by simpa using HBa.out
        unfold passB
        rw [e1, HS.out, Bool.true_and]
      · have := Hx0.out i e
        exact .inr (by omega)
      · simp only [List.mem_singleton] at e
        exact .inr (by omega)
  case stop =>
    rintro D c pre Y W hD ⟨m, hm, hpm⟩ ⟨rfl, hY, hk, h6, hbad⟩ hYD hK
    gi_wp2
    refine leaves_marks [D] _ (fun E hE => ?_) (by simp) fun w' hk' => ?_
    · simp only [List.mem_singleton] at hE
      subst hE
      exact hK
    · have p0 := (h6.kx hk' (fun e => by simp only [List.mem_singleton] at e; omega)).1.c1
      refine ⟨.bool false, by simp [results, Try.results90, go_sem, p0], ?_, Kx.toGr (((Kx.gr (Z := noBlock) G4.out).th hk fun i e => ?_).th hk' fun i e => ?_)⟩
      · have h1 := badS_le true low pre ((truthsL te off (rl ++ ml)).drop m)
        rw [hpm, List.take_append_drop, ← hpm] at h1
        have e1 : decide (badS true low (truthsL te off (rl ++ ml)) ≤ ba) = false := by simp; omega
        unfold passB
        rw [e1, Bool.false_and]
      · have := Hx0.out i e
        exact .inr (by omega)
      · simp only [List.mem_singleton] at e
        exact .inr (by omega)

end Go.Proofs.Ytkfhmfidgdpeiaa
