/- crush.Loads. -/
import Derived.Test.YtkfhmfidgdpeiaaI26
import Derived.Test.YtkfhmfidgdpeiaaI18
import Derived.Laws.MakeOwn
namespace Go.Proofs.Ytkfhmfidgdpeiaa
set_option linter.unusedVariables false
set_option linter.unusedSimpArgs false
open Go.RowKit Go.Shelf
attribute [local go_sem] Oper.semAt_some

theorem infoSp29 : (Try.prog.info? 45).map (fun i => (i.zero, i.size, i.bytes)) = some (some (.agg #[.int .i64 0, .int .i64 0]), 2, 16) := by kernel_rfl

def spanO (x : Nat × Int × Int) : Sp := ⟨x.2.1, x.2.2⟩

/-- The loads of a stack. -/
def spansL (l : List Ld) : List Sp := (loadsL l).map spanO

theorem spansL_len (l : List Ld) : (spansL l).length = l.length := by simp [spansL, loadsL]

/-- While the loads are collected into a slice in cell b2. -/
def InvD (b2 : Nat) (X0 : Nat → Prop) (w4 : World) (pre : List (Nat × Int × Int)) (X Y : Nat → Prop) (W : World) : Prop :=
  ∃ vv, (∀ i, X i ↔ (i = b2 ∨ vv.ownBlock = some i)) ∧ (∀ i, Y i → w4.heap.size ≤ i) ∧ Kx X0 w4 W ∧ Own W b2 [vv] ∧ W.ownsRow 0 45 2 vv pre.length ((pre.map spanO).flatMap encS) ∧ ∀ r, vv.ownBlock = some r → (X0 r ∨ w4.heap.size ≤ r) ∧ r ≠ b2 ∧ r < W.heap.size ∧ ¬ Y r

theorem InvD.ab {b2 : Nat} {X0 : Nat → Prop} {w4 : World} (h2 : b2 < w4.heap.size) (s : List (Nat × Int × Int)) (X : Nat → Prop) : Ab (InvD b2 X0 w4 s X) := by
  rintro Y Y' A B ⟨vv, hX, hY, hk, o2, hown, hr⟩ k hy
  have hs := hk.size
  have hY' : ∀ i, Y' i → w4.heap.size ≤ i := fun i e => by
    rcases hy i e with e | e
    · exact hY i e
    · omega
  have hr' : ∀ r, vv.ownBlock = some r → (X0 r ∨ w4.heap.size ≤ r) ∧ r ≠ b2 ∧ r < B.heap.size ∧ ¬ Y' r := fun r e => by
    obtain ⟨h0, h1, h2, h3⟩ := hr r e
    have := k.size
    refine ⟨h0, h1, by omega, fun e' => ?_⟩
    rcases hy r e' with e' | e'
    · exact h3 e'
    · omega
  exact ⟨vv, hX, hY', hk.th k fun i e => .inr (hY i e), o2.kx k fun e => by have := hY _ e; omega, owns_kx hown k fun r e => (hr r e).2.2.2, hr'⟩

set_option maxRecDepth 100000 in
set_option maxHeartbeats 4000000 in
theorem loads_ok (l : List Ld) (hs : boxedL 50 l = 0) (a : Option Addr) (cap : Nat) (w : World) (hr : LRow w a l) :
    Calls Try.prog 35 #[.slice a l.length cap] w fun e w' => ∃ b c, e = .returned (.tuple #[.slice b (spansL l).length c, .int .i64 0]) ∧ SRow w' b (spansL l) ∧ Gr w w' := by
  obtain ⟨l50, hl⟩ := boxed_parts hs
  refine (callsIn_wide (n := 20)).1 ?_
  obtain ⟨i0, hi, hz0, hz1, hz2⟩ := info_parts infoSp29
  have cS : ∀ W, LRow W a l → Calls Try.prog 73 #[.slice a l.length cap, .int .i64 50] W fun e w' => e = .returned (.int .i64 0) ∧ Gr W w' := fun W g1 => by
    have h := boxed_any 50 l a cap W g1
    rw [hs] at h
    exact h
  have CS := Lib.hid cS
  have HL := Lib.hid hl
  clear cS hs hl
  refine callsIn_of_wp_marks Try.func35 rfl trivial ?_ rfl
  simp only [Try.ntmps35, List.size_toArray, List.length_cons, List.length_nil, Nat.reduceAdd, Nat.reduceSub, Array.replicate_succ, Array.replicate_zero, List.push_toArray, List.append_toArray, List.nil_append, List.cons_append]
  gi_wp2_with (first
    | (refine ⟨trivial, ?_⟩; gi_at_call 73; refine (callsIn_wide.2 (CS.out _ hr)).mono ?_; rintro e w1 ⟨rfl, g1⟩; obtain ⟨w2, hmk, hown, hgrow⟩ := run_make_own (P := Try.prog) w1 0 57 45 i0 (.agg #[.int .i64 0, .int .i64 0]) 2 Try.underlying57 hi hz0 hz1 .i64 .i64 l.length (by rw [hz2]; omega) (by unfold maxLen; omega) (Nat.zero_le _))
    | (refine ⟨trivial, ?_⟩; gi_at_call 74; refine (callsIn_wide.2 (loads_any' l a cap _)).mono ?_; rintro e w4 ⟨b, rfl, hb, hO, h4⟩))
  have g2 : Gr w1 w2 := Kx.toGr (Kx.grown (Z := noBlock) hgrow (fun r e => by cases e))
  have gg := g1.tr g2
  have hg0 := (hown.lt w1.heap.size rfl).2
  have o2 := (Own.new w2 [.slice (some ⟨w1.heap.size, 0, none⟩) 0 l.length] 57 w2.heap.size rfl).keep h4
  have hown4 := owns_keep (owns_keep hown (Gr.al w2 (.cells #[.slice (some ⟨w1.heap.size, 0, none⟩) 0 l.length] 57))) h4
  have g4 := gg.tr ((Gr.al w2 (.cells #[.slice (some ⟨w1.heap.size, 0, none⟩) 0 l.length] 57)).tr h4)
  have hw1 := g1.size
  have hb3 : w2.heap.size + 1 ≤ b := by simpa using hb
  have s4 : w2.heap.size + 1 ≤ w4.heap.size := by have := o2.1.1; omega
  obtain ⟨G, hG⟩ : ∃ G, w1.heap.size = G := ⟨_, rfl⟩
  obtain ⟨D0, hD0⟩ : ∃ D0, w2.heap.size = D0 := ⟨_, rfl⟩
  rw [hG] at o2 hown4 hg0 hw1 ⊢
  rw [hD0] at o2 hb3 s4 hg0 ⊢
  have HO := Lib.hid hO
  have O2 := Lib.hid o2
  have HW := Lib.hid hown4
  have G4 := Lib.hid g4
  clear hb hO h4 hown hgrow hmk g2 gg o2 hown4 g4 hG hD0 g1
  obtain ⟨X0, hX0⟩ : ∃ X0 : Nat → Prop, X0 = fun i => i = D0 ∨ i = G := ⟨_, rfl⟩
  have x0 : ∀ i, X0 i → i < b ∧ i < w4.heap.size ∧ w.heap.size ≤ i := fun i e => by rw [hX0] at e; rcases e with e | e <;> omega
  have hst : St X0 (fun V => Own V b [.slice a l.length cap] ∧ LRow V a l) w4 := fun B hB => by
    refine ⟨HO.out.kx hB fun e => by have := x0 _ e; omega, ?_⟩
    by_cases h0 : 0 < l.length
    · obtain ⟨b2, off2, e2, hb2, _⟩ := hr.2 0 l[0] (by simp)
      refine RowOf.kx (hr.grow G4.out) hB fun b' off e e' => ?_
      have := x0 _ e'
      rw [e] at e2
      injection e2 with e2
      injection e2 with e2 _
      omega
    · obtain rfl : l = [] := by simpa using h0
      exact RowOf.nil
  have hXD : X0 D0 := by rw [hX0]; exact .inl rfl
  have hXG : X0 G := by rw [hX0]; exact .inr rfl
  have HX0 := Lib.hid hX0
  have Hx0 := Lib.hid x0
  have Hst := Lib.hid hst
  have HXD := Lib.hid hXD
  have HXG := Lib.hid hXG
  clear hX0 x0 hst hXD hXG hr
  refine wpIn_rangeX (F := Fence.wide) rfl (by omega) (gf := 100) (lb := #[.pointer (some ⟨b, 0, none⟩)]) rfl trivial (enters_of Try.func100 (by kernel_rfl) rfl)
    (loads_seq Fence.wide 19 trivial rfl (by omega) b a cap l (by omega) (fun x hx => (HL.out x hx).1.1) X0 w4 Hst.out) (Kx.refl _ _) (fun _ => rfl) X0 (fun i e => ⟨by have := Hx0.out i e; omega, .inl e⟩)
    (InvD D0 X0 w4) (fun _ _ _ _ => False) (fun s X => InvD.ab (by omega) s X) ?abX ?start
    (fun pre x a' X Y W => InvD D0 X0 w4 pre X Y W ∧ pre.length < l.length ∧ ∃ B7, Own W B7 [.int .i64 x.2.1, .int .i64 x.2.2] ∧ ¬ X B7 ∧ ¬ Y B7 ∧ w4.heap.size ≤ B7 ∧ a' = ⟨#[.slice a l.length cap, undef, .slice none 0 0, .int .i64 0, .int .i64 0, .pointer (some ⟨D0, 0, none⟩), undef, .pointer (some ⟨B7, 0, none⟩), .slice a l.length cap, .int .i64 0, .int .i64 0, .bool false, undef, .slice a l.length cap, .int .i64 (l.length : Int), .slice (some ⟨G, 0, none⟩) 0 l.length, .slice a l.length cap, .func (.func 100) #[] #[.pointer (some ⟨b, 0, none⟩)], .int .i64 (x.1 : Int), .agg #[.int .i64 x.2.1, .int .i64 x.2.2], undef, undef, undef, undef, undef], []⟩)
    ?abA ?assign ?body ?done ?stop
  case start =>
    refine ⟨.slice (some ⟨G, 0, none⟩) 0 l.length, fun i => by rw [HX0.out]; simp [Value.ownBlock, eq_comm], fun i e => e.elim, Kx.refl _ _, O2.out, HW.out, fun r e => ?_⟩
    have e2 : G = r := by simpa [Value.ownBlock] using e
    subst e2
    exact ⟨.inl HXG.out, by omega, by omega, fun e => e.elim⟩
  case abX => rintro c s Y Y' A B h _ _; exact h
  case abA =>
    rintro s' x a' X Y Y' A B ⟨h1, hm, B7, h3, h4, h5, h6, h7⟩ hk hy
    refine ⟨InvD.ab (by omega) _ _ _ _ _ _ h1 hk hy, hm, B7, h3.kx hk h5, h4, fun e => ?_, h6, h7⟩
    rcases hy _ e with e | e
    · exact h5 e
    · have := h3.1.1; omega
  case assign =>
    rintro l1 pre x X Y W K hI hG hD hK
    have HK := Lib.hid hK
    have HI := Lib.hid hI
    have HG := Lib.hid hG
    clear hK hI hG
    dsimp only [encO]
    gi_wp2
    have hsz : w4.heap.size ≤ W.heap.size := by obtain ⟨vv, _, _, hk, _⟩ := HI.out; exact hk.size
    refine HK.out _ X _ ⟨InvD.ab (by omega) _ _ _ _ _ _ HI.out (Kx.al _ _ _) (fun i e => .inl e), HG.out.2, W.heap.size, Own.new W [_, _] 45 _ rfl, fun e => ?_, fun e => ?_, hsz, rfl⟩ (Kx.al _ _ _) (fun i e => ⟨?_, .inl e⟩)
    · have := hD.x _ e; omega
    · have := hD.y _ e; omega
    · have := hD.x _ e; simp; omega
  case body =>
    rintro l1 pre ⟨kx, lo, tp⟩ a' X Y W ⟨⟨vv, hX, hY, hk, o2, hown, hr⟩, hlen, B7, h7, hn1, hn2, hn3, rfl⟩ hD hYl hrec
    dsimp only at h7
    dsimp only
    have c2 := o2.1.c1
    obtain ⟨j0, j1⟩ := h7.1.c2
    have hk1 : pre.length + 1 ≤ maxLen := by unfold maxLen; omega
    have hk2 : (pre.length + 1) * 16 ≤ 140737488355328 := by omega
    have gA := Gr.al W (.cells #[.int .i64 lo, .int .i64 tp] 45)
    have HX := Lib.hid hX
    have HY := Lib.hid hY
    have HK := Lib.hid hk
    have HO2' := Lib.hid o2
    have HR := Lib.hid hr
    have HD := Lib.hid hD
    have GA := Lib.hid gA
    clear hX hY hk o2 hr hD hYl hrec gA h7 hn1 hn2
    gi_wp2_with (gi_at_builtin; refine wpListIn_append_base _ rfl _ _ 57 rfl 0 45 i0 (.agg #[.int .i64 0, .int .i64 0]) 2 16 Try.underlying57 hi hz0 hz1 hz2 rfl (by decide) vv _ _ rfl (owns_keep hown GA.out) ⟨W.heap.size, 0, none⟩ 1 1 ([lo, tp].map (fun n => Value.int .i64 n)) rfl rfl (cell_news _ _ _) (ints_one _) hk1 hk2 (Nat.zero_le _) ?_; intro v' w6 hown' hgrow hnew; obtain ⟨g', cap', rfl⟩ := ownsRow_succ hown'; have kg : Kx (fun i => vv.ownBlock = some i) (W.alloc (.cells #[.int .i64 lo, .int .i64 tp] 45)) w6 := Kx.grown hgrow (fun r e => .inl e); have d2 := (HO2'.out.keep GA.out).kx kg (fun e => (HR.out _ e).2.1 rfl); have e2 := d2.1.c1; have z2 := d2.2 0; have D2 := Lib.hid d2; have HN := Lib.hid hnew; have KG := Lib.hid kg; clear d2 hnew kg)
    have kk : Kx X W (w6.setCell ⟨D0, 0, none⟩ (Value.slice (some ⟨g', 0, none⟩) (pre.length + 1) cap')) := (Kx.al X W _).tr ((KG.out.mono (fun r e => .inl ((HX.out r).2 (.inr e)))).tr (Kx.set (Z := X) (p := ⟨D0, 0, none⟩) ((HX.out _).2 (.inl rfl)) _))
    have hb2 : D0 < W.heap.size := HO2'.out.1.1
    have hne : ∀ r, (Value.slice (some ⟨g', 0, none⟩) (pre.length + 1) cap').ownBlock = some r → r ≠ D0 := fun r e => by
      rcases (HN.out r e).2 with h | h
      · exact (HR.out r h).2.1
      · simp at h
        omega
    refine ⟨kk, fun i => i = D0 ∨ (Value.slice (some ⟨g', 0, none⟩) (pre.length + 1) cap').ownBlock = some i, ⟨(Value.slice (some ⟨g', 0, none⟩) (pre.length + 1) cap'), fun i => Iff.rfl, HY.out, HK.out.th kk (fun i e => ?_), ?_, ?_, fun r e => ?_⟩, fun i e => ?_⟩
    · rcases (HX.out i).1 e with e | e
      · exact .inl (e ▸ HXD.out)
      · exact (HR.out i e).1
    · exact D2.out.set (i := 0) (v := (Value.slice (some ⟨g', 0, none⟩) (pre.length + 1) cap')) (by simp)
    · have := owns_kx hown' (Kx.set (Z := fun i => i = D0) (p := ⟨D0, 0, none⟩) rfl (Value.slice (some ⟨g', 0, none⟩) (pre.length + 1) cap')) (fun r e e' => hne r e e')
      rw [List.length_append, List.map_append, List.flatMap_append]
      exact this
    · obtain ⟨n1, n2⟩ := HN.out r e
      have hks := HK.out.size
      refine ⟨?_, hne r e, by simpa using n1, fun e' => ?_⟩
      · rcases n2 with h | h
        · exact (HR.out r h).1
        · simp at h
          exact .inr (by omega)
      · rcases n2 with h | h
        · exact (HR.out r h).2.2.2 e'
        · have := HD.out.y r e'
          simp at h
          omega
    · rcases e with rfl | e
      · exact ⟨by have := kk.size; omega, .inl ((HX.out _).2 (.inl rfl))⟩
      · obtain ⟨n1, n2⟩ := HN.out i e
        refine ⟨by simpa using n1, ?_⟩
        rcases n2 with h | h
        · exact .inl ((HX.out _).2 (.inr h))
        · simp at h
          exact .inr (by omega)
  case done =>
    rintro D xs X Y W hD rfl ⟨vv, hX, hY, hk, o2, hown, hr⟩ hYD hK
    have hl1 := spansL_len l
    have hl2 : (loadsL l).length = l.length := by simp [loadsL]
    obtain ⟨b3, c3, hv, hrow⟩ := owns_row (enc := encS) (l := spansL l) (fun _ => rfl) (by rw [hl1]; omega) (by rw [hl1, ← hl2]; exact hown)
    subst hv
    have c2 := o2.1.c1
    have HR := Lib.hid hrow
    have HKK := Lib.hid hk
    have HRR := Lib.hid hr
    clear o2 hown hX hY hk hrow hr hl1 hl2
    gi_wp2
    refine leaves_marks [D] _ (fun E hE => ?_) (by simp) fun w' hk' => ?_
    · simp only [List.mem_singleton] at hE
      subst hE
      exact hK
    · refine ⟨.tuple #[.slice b3 (spansL l).length c3, .int .i64 0], by simp [results, Try.results35, go_sem], b3, c3, rfl, ?_, Kx.toGr (((Kx.gr (Z := noBlock) G4.out).th HKK.out fun i e => ?_).th hk' fun i e => ?_)⟩
      · refine RowOf.kx HR.out hk' fun b' off e e' => ?_
        simp only [List.mem_singleton] at e'
        subst e'
        exact (HRR.out b' (by rw [e]; rfl)).2.2.2 hYD
      · have := Hx0.out i e
        exact .inr (by omega)
      · simp only [List.mem_singleton] at e
        exact .inr (by omega)
  case stop =>
    rintro D c pre Y W hD _ hF
    exact hF.elim

end Go.Proofs.Ytkfhmfidgdpeiaa
