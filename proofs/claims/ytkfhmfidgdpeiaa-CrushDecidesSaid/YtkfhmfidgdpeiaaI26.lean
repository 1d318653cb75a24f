/- The list of a set's numbers: slices.Collect of crush's members. -/
import Derived.Test.YtkfhmfidgdpeiaaI25
import Derived.OwnWalkIn
namespace Go.Proofs.Ytkfhmfidgdpeiaa
set_option linter.unusedVariables false
set_option linter.unusedSimpArgs false
open Go.RowKit Go.Shelf
attribute [local go_sem] Oper.semAt_some

theorem owns_kx {Z : Nat → Prop} {w w' : World} {base : Nat} {e : TypeId} {sz : Nat} {v : Value} {n : Nat} {xs : List Value} (h : w.ownsRow base e sz v n xs) (k : Kx Z w w') (hz : ∀ r, v.ownBlock = some r → ¬ Z r) : w'.ownsRow base e sz v n xs := by
  obtain ⟨h1, h2⟩ := h
  refine ⟨h1, ?_⟩
  rcases h2 with h2 | ⟨b, cap, cur, hv, hb, hh, r⟩
  · exact .inl h2
  · exact .inr ⟨b, cap, cur, hv, hb, k.keepO hh (hz b (by rw [hv]; rfl)), r⟩

theorem wpListIn_append_base {F : Fence} {n : Nat} {P : Program} (w : World) {ops : Array Oper} {rest : List Oper} {o : Oper} {a : Act} {Q : Exit → Act → World → Prop}
    (hg : o.guard = none) (s x : Operand) (t : TypeId) (hop : o.op = Op.call { callee := Callee.builtin Builtin.append, args := #[s, x], argTypes := #[t, t] }) (base : Nat)
    (e : TypeId) (i : TypeInfo) (z : Value) (size bytes : Nat) (h1 : P.underlying t = some (.slice e)) (h2 : P.info? e = some i) (h3 : i.zero = some z) (h4 : i.size = size) (h5 : i.bytes = bytes) (h6 : z.cells.size = size) (h7 : 0 < size)
    (v : Value) (k : Nat) (xs : List Value) (hs : a.eval s = v) (hown : w.ownsRow base e size v k xs) (ad : Addr) (m c : Nat) (news : List Value) (hx : a.eval x = .slice (some ad) m c) (hn : news.length = m * size)
    (hc : ∀ j u, news[j]? = some u → w.cell? (ad.add j) = some u) (h1c : ∀ u ∈ news, u.oneCell' = true) (b1 : k + m ≤ maxLen) (b2 : (k + m) * bytes ≤ 140737488355328) (hb : base ≤ w.heap.size)
    (hK : ∀ v' w', w'.ownsRow base e size v' (k + m) (xs ++ news) → w.grownBy w' v.ownBlock → (∀ b, v'.ownBlock = some b → b < w'.heap.size ∧ (v.ownBlock = some b ∨ w.heap.size ≤ b)) → wpListIn F n P ops Q rest (a.put o.dst v') w') :
    wpListIn F n P ops Q (o :: rest) a w := by
  refine wpListIn_append_new w hg s x t hop e i z size bytes h1 h2 h3 h4 h5 h6 h7 v k xs hs (owns_base hown (Nat.zero_le _)) ad m c news hx hn hc h1c b1 b2 (fun v' w' r1 r2 r3 => hK v' w' ?_ r2 r3)
  obtain ⟨q1, q2⟩ := r1
  refine ⟨q1, ?_⟩
  rcases q2 with q2 | ⟨g, cap, cur, hv, hg0, hh, r⟩
  · exact .inl q2
  · refine .inr ⟨g, cap, cur, hv, ?_, hh, r⟩
    rcases (r3 g (by rw [hv]; rfl)).2 with h | h
    · exact (hown.lt g h).1
    · omega

/-- While a list is collected into a slice in cell b2. -/
def InvC (b2 : Nat) (w4 : World) (pre : List Nat) (X Y : Nat → Prop) (W : World) : Prop :=
  ∃ vv, (∀ i, X i ↔ (i = b2 ∨ vv.ownBlock = some i)) ∧ (∀ i, Y i → w4.heap.size ≤ i) ∧ Kx (fun i => i = b2) w4 W ∧ Own W b2 [vv] ∧ W.ownsRow w4.heap.size 3 1 vv pre.length ((intsN pre).flatMap encI) ∧ ∀ r, vv.ownBlock = some r → r < W.heap.size ∧ ¬ Y r

theorem InvC.ab {b2 : Nat} {w4 : World} (h2 : b2 < w4.heap.size) (s : List Nat) (X : Nat → Prop) : Ab (InvC b2 w4 s X) := by
  rintro Y Y' A B ⟨vv, hX, hY, hk, o2, hown, hr⟩ k hy
  have hs := hk.size
  have hY' : ∀ i, Y' i → w4.heap.size ≤ i := fun i e => by
    rcases hy i e with e | e
    · exact hY i e
    · omega
  have hr' : ∀ r, vv.ownBlock = some r → r < B.heap.size ∧ ¬ Y' r := fun r e => by
    obtain ⟨h1, h2⟩ := hr r e
    have := k.size
    refine ⟨by omega, fun e' => ?_⟩
    rcases hy r e' with e' | e'
    · exact h2 e'
    · omega
  exact ⟨vv, hX, hY', hk.th k fun i e => .inr (hY i e), o2.kx k fun e => by have := hY _ e; omega, owns_kx hown k fun r e => (hr r e).2, hr'⟩

set_option maxRecDepth 100000 in
set_option maxHeartbeats 4000000 in
theorem appendSeq_members (s : Nat) (hs : s < 1024) (b : Nat) (w : World) (hO : Own w b [.int .i64 (s : Int)]) :
    Calls Try.prog 115 #[.slice none 0 0, .func (.func 116) #[] #[.pointer (some ⟨b, 0, none⟩)]] w fun e w' => ∃ a c, e = .returned (.slice a (intsN (membL s)).length c) ∧ IRow w' a (intsN (membL s)) ∧ Gr w w' := by
  refine (callsIn_wide (n := 20)).1 ?_
  obtain ⟨i0, hi, hz0, hz1, hz2⟩ := info_parts infoInt
  have g0 := Gr.al w (.cells #[.slice none 0 0] 24)
  have o2 := Own.new w [.slice none 0 0] 24 w.heap.size rfl
  have hbl := hO.1.1
  have oB := hO.keep g0
  refine callsIn_of_wp_marks Try.func115 rfl trivial ?_ rfl
  simp only [Try.ntmps115, List.size_toArray, List.length_cons, List.length_nil, Nat.reduceAdd, Nat.reduceSub, Array.replicate_succ, Array.replicate_zero, List.push_toArray, List.append_toArray, List.nil_append, List.cons_append]
  gi_wp2
  obtain ⟨w4, hw4⟩ : ∃ w4, w4 = w.alloc (.cells #[.slice none 0 0] 24) := ⟨_, rfl⟩
  rw [← hw4] at g0 o2 oB ⊢
  have hs4 : w4.heap.size = w.heap.size + 1 := by rw [hw4]; simp
  clear hw4
  obtain ⟨X0, hX0⟩ : ∃ X0 : Nat → Prop, X0 = fun i => i = w.heap.size := ⟨_, rfl⟩
  have hst : St X0 (fun V => Own V b [.int .i64 (s : Int)]) w4 := fun B hB => oB.kx hB fun e => by rw [hX0] at e; omega
  have HX0 := Lib.hid hX0
  have Hst := Lib.hid hst
  have HO2 := Lib.hid o2
  have G0 := Lib.hid g0
  clear hX0 hst o2 oB hO g0
  refine wpIn_rangeX (F := Fence.wide) rfl (by omega) (gf := 116) (lb := #[.pointer (some ⟨b, 0, none⟩)]) rfl trivial (enters_of Try.func116 (by kernel_rfl) rfl)
    (members_seq 19 (by omega) b s hs X0 w4 Hst.out) (Kx.refl _ _) (fun _ => rfl) X0 (fun i e => ⟨by rw [HX0.out] at e; omega, .inl e⟩)
    (InvC w.heap.size w4) (fun _ _ _ _ => False) (fun s X => InvC.ab (by omega) s X) ?abX ?start
    (fun pre x a' X Y W => InvC w.heap.size w4 pre X Y W ∧ pre.length < 10 ∧ a' = ⟨#[.slice none 0 0, .func (.func 116) #[] #[.pointer (some ⟨b, 0, none⟩)], .pointer (some ⟨w.heap.size, 0, none⟩), undef, .slice none 0 0, .int .i64 (x : Int), .func (.func 116) #[] #[.pointer (some ⟨b, 0, none⟩)], .int .i64 (x : Int), undef, undef, undef, undef, undef], []⟩)
    ?abA ?assign ?body ?done ?stop
  case start =>
    refine ⟨.slice none 0 0, fun i => by rw [HX0.out]; simp [Value.ownBlock], fun i e => e.elim, Kx.refl _ _, HO2.out, World.ownsRow_nil _ _ _ _, fun r e => by simp [Value.ownBlock] at e⟩
  case abX => rintro c s Y Y' A B h _ _; exact h
  case abA =>
    rintro s' x a' X Y Y' A B ⟨h1, hm, h7⟩ hk hy
    exact ⟨InvC.ab (by omega) _ _ _ _ _ _ h1 hk hy, hm, h7⟩
  case assign =>
    rintro l1 pre x X Y W K hI hG hD hK
    dsimp only [encM]
    gi_wp2
    exact hK _ X _ ⟨hI, by omega, rfl⟩ (Kx.refl _ _) (fun i e => ⟨by have := hD.x _ e; omega, .inl e⟩)
  case body =>
    rintro l1 pre x a' X Y W ⟨⟨vv, hX, hY, hk, o2, hown, hr⟩, hlen, rfl⟩ hD hYl hrec
    have c2 := o2.1.c1
    have hk1 : pre.length + 1 ≤ maxLen := by unfold maxLen; omega
    have hk2 : (pre.length + 1) * 8 ≤ 140737488355328 := by omega
    have gA := Gr.al W (.cells #[.int .i64 (x : Int)] 3)
    have hlt : ∀ r, vv.ownBlock = some r → w4.heap.size ≤ r := fun r e => (hown.lt r e).1
    have hsz : w4.heap.size ≤ (W.alloc (.cells #[.int .i64 (x : Int)] 3)).heap.size := by have := hk.size; simp; omega
    have HX := Lib.hid hX
    have HY := Lib.hid hY
    have HK := Lib.hid hk
    have HO2' := Lib.hid o2
    have HR := Lib.hid hr
    have HD := Lib.hid hD
    have HL := Lib.hid hlt
    have GA := Lib.hid gA
    clear hX hY hk o2 hr hD hlt hYl hrec gA
    gi_wp2_with (gi_at_builtin; refine wpListIn_append_base _ rfl _ _ 24 rfl w4.heap.size 3 i0 (.int .i64 0) 1 8 Try.underlying24 hi hz0 hz1 hz2 rfl (by decide) vv _ _ rfl (owns_keep hown GA.out) ⟨W.heap.size, 0, none⟩ 1 1 ([(x : Int)].map (fun n => Value.int .i64 n)) rfl rfl (cell_news _ _ _) (ints_one _) hk1 hk2 hsz ?_; intro v' w6 hown' hgrow hnew; obtain ⟨g', cap', rfl⟩ := ownsRow_succ hown'; have kg : Kx (fun i => vv.ownBlock = some i) (W.alloc (.cells #[.int .i64 (x : Int)] 3)) w6 := Kx.grown hgrow (fun r e => .inl e); have d2 := (HO2'.out.keep GA.out).kx kg (fun e => by have := HL.out _ e; omega); have e2 := d2.1.c1; have z2 := d2.2 0; have D2 := Lib.hid d2; have HN := Lib.hid hnew; have KG := Lib.hid kg; clear d2 hnew kg)
    have kk : Kx X W (w6.setCell ⟨w.heap.size, 0, none⟩ (.slice (some ⟨g', 0, none⟩) (pre.length + 1) cap')) := (Kx.al X W _).tr ((KG.out.mono (fun r e => .inl ((HX.out r).2 (.inr e)))).tr (Kx.set (Z := X) (p := ⟨w.heap.size, 0, none⟩) ((HX.out _).2 (.inl rfl)) _))
    have hlt' : ∀ r, (Value.slice (some ⟨g', 0, none⟩) (pre.length + 1) cap').ownBlock = some r → w4.heap.size ≤ r := fun r e => (hown'.lt r e).1
    refine ⟨kk, fun i => i = w.heap.size ∨ (Value.slice (some ⟨g', 0, none⟩) (pre.length + 1) cap').ownBlock = some i, ⟨(.slice (some ⟨g', 0, none⟩) (pre.length + 1) cap'), fun i => Iff.rfl, HY.out, HK.out.th kk (fun i e => ?_), ?_, ?_, fun r e => ?_⟩, fun i e => ?_⟩
    · rcases (HX.out i).1 e with e | e
      · exact .inl e
      · exact .inr (HL.out i e)
    · exact D2.out.set (i := 0) (v := (.slice (some ⟨g', 0, none⟩) (pre.length + 1) cap')) (by simp)
    · have := owns_kx hown' (Kx.set (Z := fun i => i = w.heap.size) (p := ⟨w.heap.size, 0, none⟩) rfl (.slice (some ⟨g', 0, none⟩) (pre.length + 1) cap')) (fun r e e' => by have := hlt' r e; omega)
      rw [List.length_append]
      unfold intsN
      rw [List.map_append, List.flatMap_append]
      exact this
    · obtain ⟨n1, n2⟩ := HN.out r e
      refine ⟨by simpa using n1, fun e' => ?_⟩
      rcases n2 with h | h
      · exact (HR.out r h).2 e'
      · have := HD.out.y r e'
        simp at h
        omega
    · rcases e with rfl | e
      · exact ⟨by have := HO2'.out.1.1; have := kk.size; omega, .inl ((HX.out _).2 (.inl rfl))⟩
      · obtain ⟨n1, n2⟩ := HN.out i e
        refine ⟨by simpa using n1, ?_⟩
        rcases n2 with h | h
        · exact .inl ((HX.out _).2 (.inr h))
        · simp at h
          exact .inr (by omega)
  case done =>
    rintro D xs X Y W hD rfl ⟨vv, hX, hY, hk, o2, hown, hr⟩ hYD hK
    have hl1 := intsN_len (membL s)
    have hl2 : (membL s).length ≤ 10 := membTo_len s 10
    obtain ⟨a, c, hv, hrow⟩ := owns_row (enc := encI) (l := intsN (membL s)) (fun _ => rfl) (by rw [hl1]; omega) (by rw [hl1]; exact hown)
    subst hv
    have c2 := o2.1.c1
    have HR := Lib.hid hrow
    have HKK := Lib.hid hk
    have HRR := Lib.hid hr
    clear o2 hown hX hY hk hrow hr hl1 hl2
    gi_wp2
    refine leaves_marks [D] _ (fun E hE => ?_) (by simp) fun w' hk' => ?_
    · simp only [List.mem_singleton] at hE
      subst hE
      exact hK
    · refine ⟨.slice a (intsN (membL s)).length c, by simp [results, Try.results115, go_sem], a, ⟨c, rfl⟩, ?_, Kx.toGr (((Kx.gr (Z := noBlock) G0.out).th HKK.out fun i e => ?_).th hk' fun i e => ?_)⟩
      · refine RowOf.kx HR.out hk' fun b' off e e' => ?_
        simp only [List.mem_singleton] at e'
        subst e'
        exact (HRR.out b' (by rw [e]; rfl)).2 hYD
      · exact .inr (by omega)
      · simp only [List.mem_singleton] at e
        exact .inr (by omega)
  case stop =>
    rintro D c pre Y W hD _ hF
    exact hF.elim

set_option maxRecDepth 100000 in
theorem collect_members (s : Nat) (hs : s < 1024) (b : Nat) (w : World) (hO : Own w b [.int .i64 (s : Int)]) :
    Calls Try.prog 107 #[.func (.func 116) #[] #[.pointer (some ⟨b, 0, none⟩)]] w fun e w' => ∃ a c, e = .returned (.slice a (intsN (membL s)).length c) ∧ IRow w' a (intsN (membL s)) ∧ Gr w w' := by
  go_enter Try.func107, Try.ntmps107
  go_wp2_with (go_at_call 115; refine (appendSeq_members s hs b _ hO).mono ?_; rintro e w3 ⟨a, c, rfl, hr, g3⟩)
  go_ret
  exact ⟨a, c, rfl, hr, g3⟩

end Go.Proofs.Ytkfhmfidgdpeiaa
