/- The contract of crush.Rule. (Made by gen_k4.py.) Contracts of crush's truth and bears. Rows of steps and of loads; crush's until and last (begun). The contract of crush's boxed. The contract of crush's goodTable. The contract of crush's stored. crush's loads and members: the iterators' values. -/
import Derived.Test.YtkfhmfidgdpeiaaK3
import Derived.Lib.MinMax
import Derived.BigQuiet
namespace Go.Proofs.Ytkfhmfidgdpeiaa
set_option linter.unusedVariables false
set_option linter.unusedSimpArgs false
open Go.RowKit

/-- The error of a rule, readings, and a gauge. -/
def ruleL (te me lo ba off : Int) (l : List Int) : Int :=
  if ruleOk te me lo ba = false then 2 else if inB 0 1000 [off] = false then 3 else if te < (l.length : Int) then 5 else if inB 0 100000 l = false then 4 else 0

set_option maxRecDepth 100000 in
set_option maxHeartbeats 2000000 in
theorem rule_any (te me lo ba off : Int) (l : List Int) (a : Option Addr) (cap : Nat) (w : World) (hr : IRow w a l) :
    Calls Try.prog 18 #[.agg #[.int .i64 te, .int .i64 me, .int .i64 lo, .int .i64 ba], .slice a l.length cap, .int .i64 off] w fun e w' => e = .returned (.int .i64 (ruleL te me lo ba off l)) ∧ Gr w w' := by
  have gg := Gr.al w (.cells #[.int .i64 te, .int .i64 me, .int .i64 lo, .int .i64 ba] 23)
  have hb := Box.new w [.int .i64 te, .int .i64 me, .int .i64 lo, .int .i64 ba] 23 w.heap.size rfl
  have r1 := hr.grow gg
  obtain ⟨q0, q1, q2, q3⟩ := hb.c4'
  cases c0 : ruleOk te me lo ba with
  | false =>
    have E : ruleL te me lo ba off l = 2 := by simp [ruleL, c0]
    rw [E]
    go_enter Try.func18, Try.ntmps18
    go_wp2_with (first | (go_at_call 59; refine (goodRule_any te me lo ba _).mono ?_; rintro e w1 ⟨rfl, hx⟩; rw [c0]; replace gg := gg.tr hx; replace hb := hb.keep hx; replace r1 := r1.grow hx; clear hx q0 q1 q2 q3; obtain ⟨q0, q1, q2, q3⟩ := hb.c4') | (go_at_call 60; refine (goodOff_any off _ c1 _).mono ?_; rintro e w1 ⟨rfl, hx⟩; replace gg := gg.tr hx; replace hb := hb.keep hx; replace r1 := r1.grow hx; clear hx q0 q1 q2 q3; obtain ⟨q0, q1, q2, q3⟩ := hb.c4') | (go_at_call 61; refine (goodReadings_any l _ c3 _ _ _ r1).mono ?_; rintro e w1 ⟨rfl, hx⟩; replace gg := gg.tr hx; replace hb := hb.keep hx; replace r1 := r1.grow hx; clear hx q0 q1 q2 q3; obtain ⟨q0, q1, q2, q3⟩ := hb.c4'))
    go_ret
    exact ⟨rfl, gg⟩
  | true =>
    cases c1 : inB 0 1000 [off] with
    | false =>
      have E : ruleL te me lo ba off l = 3 := by simp [ruleL, c0, c1]
      rw [E]
      go_enter Try.func18, Try.ntmps18
      go_wp2_with (first | (go_at_call 59; refine (goodRule_any te me lo ba _).mono ?_; rintro e w1 ⟨rfl, hx⟩; rw [c0]; replace gg := gg.tr hx; replace hb := hb.keep hx; replace r1 := r1.grow hx; clear hx q0 q1 q2 q3; obtain ⟨q0, q1, q2, q3⟩ := hb.c4') | (go_at_call 60; refine (goodOff_any off _ c1 _).mono ?_; rintro e w1 ⟨rfl, hx⟩; replace gg := gg.tr hx; replace hb := hb.keep hx; replace r1 := r1.grow hx; clear hx q0 q1 q2 q3; obtain ⟨q0, q1, q2, q3⟩ := hb.c4') | (go_at_call 61; refine (goodReadings_any l _ c3 _ _ _ r1).mono ?_; rintro e w1 ⟨rfl, hx⟩; replace gg := gg.tr hx; replace hb := hb.keep hx; replace r1 := r1.grow hx; clear hx q0 q1 q2 q3; obtain ⟨q0, q1, q2, q3⟩ := hb.c4'))
      go_ret
      exact ⟨rfl, gg⟩
    | true =>
      by_cases c2 : te < (l.length : Int)
      · have c2d : decide (te < (l.length : Int)) = true := by simpa using c2
        have E : ruleL te me lo ba off l = 5 := by simp [ruleL, c0, c1, c2]
        rw [E]
        go_enter Try.func18, Try.ntmps18
        go_wp2_with (first | (go_at_call 59; refine (goodRule_any te me lo ba _).mono ?_; rintro e w1 ⟨rfl, hx⟩; rw [c0]; replace gg := gg.tr hx; replace hb := hb.keep hx; replace r1 := r1.grow hx; clear hx q0 q1 q2 q3; obtain ⟨q0, q1, q2, q3⟩ := hb.c4') | (go_at_call 60; refine (goodOff_any off _ c1 _).mono ?_; rintro e w1 ⟨rfl, hx⟩; replace gg := gg.tr hx; replace hb := hb.keep hx; replace r1 := r1.grow hx; clear hx q0 q1 q2 q3; obtain ⟨q0, q1, q2, q3⟩ := hb.c4') | (go_at_call 61; refine (goodReadings_any l _ c3 _ _ _ r1).mono ?_; rintro e w1 ⟨rfl, hx⟩; replace gg := gg.tr hx; replace hb := hb.keep hx; replace r1 := r1.grow hx; clear hx q0 q1 q2 q3; obtain ⟨q0, q1, q2, q3⟩ := hb.c4'))
        go_ret
        exact ⟨rfl, gg⟩
      · have c2d : decide (te < (l.length : Int)) = false := by simpa using c2
        cases c3 : inB 0 100000 l with
        | false =>
          have E : ruleL te me lo ba off l = 4 := by simp [ruleL, c0, c1, c2, c3]
          rw [E]
          go_enter Try.func18, Try.ntmps18
          go_wp2_with (first | (go_at_call 59; refine (goodRule_any te me lo ba _).mono ?_; rintro e w1 ⟨rfl, hx⟩; rw [c0]; replace gg := gg.tr hx; replace hb := hb.keep hx; replace r1 := r1.grow hx; clear hx q0 q1 q2 q3; obtain ⟨q0, q1, q2, q3⟩ := hb.c4') | (go_at_call 60; refine (goodOff_any off _ c1 _).mono ?_; rintro e w1 ⟨rfl, hx⟩; replace gg := gg.tr hx; replace hb := hb.keep hx; replace r1 := r1.grow hx; clear hx q0 q1 q2 q3; obtain ⟨q0, q1, q2, q3⟩ := hb.c4') | (go_at_call 61; refine (goodReadings_any l _ c3 _ _ _ r1).mono ?_; rintro e w1 ⟨rfl, hx⟩; replace gg := gg.tr hx; replace hb := hb.keep hx; replace r1 := r1.grow hx; clear hx q0 q1 q2 q3; obtain ⟨q0, q1, q2, q3⟩ := hb.c4'))
          go_ret
          exact ⟨rfl, gg⟩
        | true =>
          have E : ruleL te me lo ba off l = 0 := by simp [ruleL, c0, c1, c2, c3]
          rw [E]
          go_enter Try.func18, Try.ntmps18
          go_wp2_with (first | (go_at_call 59; refine (goodRule_any te me lo ba _).mono ?_; rintro e w1 ⟨rfl, hx⟩; rw [c0]; replace gg := gg.tr hx; replace hb := hb.keep hx; replace r1 := r1.grow hx; clear hx q0 q1 q2 q3; obtain ⟨q0, q1, q2, q3⟩ := hb.c4') | (go_at_call 60; refine (goodOff_any off _ c1 _).mono ?_; rintro e w1 ⟨rfl, hx⟩; replace gg := gg.tr hx; replace hb := hb.keep hx; replace r1 := r1.grow hx; clear hx q0 q1 q2 q3; obtain ⟨q0, q1, q2, q3⟩ := hb.c4') | (go_at_call 61; refine (goodReadings_any l _ c3 _ _ _ r1).mono ?_; rintro e w1 ⟨rfl, hx⟩; replace gg := gg.tr hx; replace hb := hb.keep hx; replace r1 := r1.grow hx; clear hx q0 q1 q2 q3; obtain ⟨q0, q1, q2, q3⟩ := hb.c4'))
          go_ret
          exact ⟨rfl, gg⟩

end Go.Proofs.Ytkfhmfidgdpeiaa

namespace Go.Proofs.Ytkfhmfidgdpeiaa
set_option linter.unusedVariables false
set_option linter.unusedSimpArgs false
open Go.RowKit

set_option maxRecDepth 100000 in
set_option maxHeartbeats 2000000 in
theorem truth_any (off x : Int) (o0 : 0 ≤ off) (o1 : off ≤ 1000) (x0 : 0 ≤ x) (x1 : x ≤ 100000) (w : World) :
    Calls Try.prog 94 #[.agg #[.int .i64 off], .int .i64 x] w fun e w' => e = .returned (.agg #[.int .i64 (max 0 (x - off)), .int .i64 (min 100000 (x + off))]) ∧ Gr w w' := by
  have v0 : IntKind.i64.wrap (x - off) = x - off := IntWalk.i64_in _ (by omega)
  have v1 : IntKind.i64.wrap (x + off) = x + off := IntWalk.i64_in _ (by omega)
  have gg := (Gr.al w (.cells #[.int .i64 off] 121)).tr (Gr.al _ (.cells #[.int .i64 0, .int .i64 0] 45))
  have hb := (Box.new w [.int .i64 off] 121 w.heap.size rfl).keep (Gr.al _ (.cells #[.int .i64 0, .int .i64 0] 45))
  have ob := Own.new (w.alloc (.cells #[.int .i64 off] 121)) [.int .i64 0, .int .i64 0] 45 (w.heap.size + 1) (by simp)
  have q0 := hb.c1
  obtain ⟨u0, u1⟩ := ob.1.c2
  have z0 := ob.2 0
  have z1 := ob.2 1
  go_enter Try.func94, Try.ntmps94
  go_wp2
  have o1 := ((ob.set (i := 0) (v := .int .i64 (max 0 (x - off))) (by simp)).set (i := 1) (v := .int .i64 (min 100000 (x + off))) (by simp)).1.c2
  obtain ⟨o10, o11⟩ := o1
  refine bodyPost_ret (v := .agg #[.int .i64 (max 0 (x - off)), .int .i64 (min 100000 (x + off))]) (by simp [results, Try.results94, go_sem, o10, o11]) rfl ⟨rfl, ?_⟩
  exact (Gr.al _ _).tr (Gr.al _ _)

set_option maxRecDepth 100000 in
set_option maxHeartbeats 2000000 in
theorem bears_any (sl sh wl wh keep : Int) (s0 : 0 ≤ sl) (s1 : sl ≤ 20000000) (k0 : 0 ≤ keep) (k1 : keep ≤ 1000) (w : World) :
    Calls Try.prog 103 #[.agg #[.int .i64 sl, .int .i64 sh, .int .i64 wl, .int .i64 wh], .int .i64 keep] w fun e w' => e = .returned (.int .i64 (sl * keep / 1000)) ∧ Gr w w' := by
  have m0 : 0 ≤ sl * keep := Int.mul_nonneg s0 k0
  have m1 : sl * keep ≤ 20000000 * 1000 := Int.mul_le_mul s1 k1 k0 (by omega)
  have v0 : IntKind.i64.wrap (sl * keep) = sl * keep := IntWalk.i64_in _ (by omega)
  have hd : (sl * keep).tdiv 1000 = sl * keep / 1000 := Int.tdiv_eq_ediv_of_nonneg m0
  have v1 : IntKind.i64.wrap (sl * keep / 1000) = sl * keep / 1000 := IntWalk.i64_in _ (by omega)
  have gg := Gr.al w (.cells #[.int .i64 sl, .int .i64 sh, .int .i64 wl, .int .i64 wh] 70)
  have hb := Box.new w [.int .i64 sl, .int .i64 sh, .int .i64 wl, .int .i64 wh] 70 w.heap.size rfl
  obtain ⟨q0, q1, q2, q3⟩ := hb.c4'
  go_enter Try.func103, Try.ntmps103
  go_wp2
  go_ret
  exact ⟨rfl, gg⟩

end Go.Proofs.Ytkfhmfidgdpeiaa

namespace Go.Proofs.Ytkfhmfidgdpeiaa
set_option linter.unusedVariables false
set_option linter.unusedSimpArgs false
open Go.RowKit

/-- A step of a table. -/
structure Stp where
  day : Int
  keep : Int

def encT (s : Stp) : List Value := [.int .i64 s.day, .int .i64 s.keep]

abbrev TRow := RowOf 2 encT

theorem TRow.get {w : World} {a : Option Addr} {l : List Stp} (h : TRow w a l) {j : Nat} {x : Stp} (hx : l[j]? = some x) :
    ∃ b off, a = some ⟨b, off, none⟩ ∧ b < w.heap.size ∧ w.cell? ⟨b, off + j * 2, none⟩ = some (.int .i64 x.day) ∧ w.cell? ⟨b, off + j * 2 + 1, none⟩ = some (.int .i64 x.keep) := by
  obtain ⟨b, off, ha, hb, hc⟩ := h.2 j x hx
  exact ⟨b, off, ha, hb, hc 0 _ rfl, hc 1 _ rfl⟩

/-- A box with its load. -/
structure Ld where
  sl : Int
  sh : Int
  wl : Int
  wh : Int

def encL (s : Ld) : List Value := [.int .i64 s.sl, .int .i64 s.sh, .int .i64 s.wl, .int .i64 s.wh]

abbrev LRow := RowOf 4 encL

theorem LRow.get {w : World} {a : Option Addr} {l : List Ld} (h : LRow w a l) {j : Nat} {x : Ld} (hx : l[j]? = some x) :
    ∃ b off, a = some ⟨b, off, none⟩ ∧ b < w.heap.size ∧ w.cell? ⟨b, off + j * 4, none⟩ = some (.int .i64 x.sl) ∧ w.cell? ⟨b, off + j * 4 + 1, none⟩ = some (.int .i64 x.sh) ∧ w.cell? ⟨b, off + j * 4 + 2, none⟩ = some (.int .i64 x.wl) ∧ w.cell? ⟨b, off + j * 4 + 3, none⟩ = some (.int .i64 x.wh) := by
  obtain ⟨b, off, ha, hb, hc⟩ := h.2 j x hx
  exact ⟨b, off, ha, hb, hc 0 _ rfl, hc 1 _ rfl, hc 2 _ rfl, hc 3 _ rfl⟩

theorem callUntil (args : Array Value) (W : World) : (callFunc 102 args).run Try.prog W = .ok (.enter 102 args) W := by kernel_rfl

/-- Whether the step at a place comes after a day. -/
def later (l : List Stp) (days i : Int) : Bool := match l[i.toNat]? with
  | some s => decide (days < s.day)
  | none => true

set_option maxRecDepth 100000 in
set_option maxHeartbeats 1000000 in
theorem untilClosure (l : List Stp) (days i : Int) (i0 : 0 ≤ i) (i1 : i < (l.length : Int)) (a : Option Addr) (cap b c : Nat) (W : World) (hr : TRow W a l) (hb : W.cell? ⟨b, 0, none⟩ = some (.slice a l.length cap)) (hc : W.cell? ⟨c, 0, none⟩ = some (.int .i64 days)) :
    Calls Try.prog 102 #[.int .i64 i, .pointer (some ⟨b, 0, none⟩), .pointer (some ⟨c, 0, none⟩)] W fun e W' => e = .returned (.bool (later l days i)) ∧ Gr W W' := by
  obtain ⟨j, rfl⟩ : ∃ j : Nat, i = (j : Int) := ⟨i.toNat, by omega⟩
  have hj : j < l.length := by omega
  obtain ⟨s, hs⟩ : ∃ s, l[j]? = some s := ⟨l[j], by simp [hj]⟩
  obtain ⟨d, off, rfl, hd, h0, h1⟩ := TRow.get hr hs
  have E : later l days (j : Int) = decide (days < s.day) := by simp [later, hs]
  rw [E]
  clear E hr
  go_enter Try.func102, Try.ntmps102
  go_upto_region 1 with fail
  go_quiet (fail)
  go_wp2
  go_ret
  exact ⟨rfl, Below.trans (Below.refl _ _) ⟨rfl, rfl, rfl, Nat.le_refl _, fun _ _ => rfl⟩⟩

/-- The steps of a table up to a day. -/
def untilL (l : List Stp) (days : Int) : List Stp := l.takeWhile (fun s => decide (s.day ≤ days))

theorem untilL_is (l : List Stp) (days : Int) : ∀ r : Nat, r ≤ l.length → (∀ i s, i < r → l[i]? = some s → s.day ≤ days) → (∀ i s, r ≤ i → l[i]? = some s → days < s.day) → (untilL l days).length = r := by
  induction l with
  | nil => intro r h _ _; simp at h; simp [untilL, h]
  | cons x t ih =>
    intro r h h1 h2
    cases r with
    | zero =>
      have := h2 0 x (Nat.le_refl _) rfl
      simp [untilL, this, show ¬ x.day ≤ days by omega]
    | succ r =>
      have h0 := h1 0 x (by omega) rfl
      have := ih r (by simpa using h) (fun i s hi hs => h1 (i + 1) s (by omega) (by simpa using hs)) (fun i s hi hs => h2 (i + 1) s (by omega) (by simpa using hs))
      simp only [untilL] at this
      simp [untilL, h0, this]

theorem slice_head (a : Option Addr) (c s : Nat) : (if c = 0 then a else a.map (·.add (0 * s))) = a := by
  split
  · rfl
  · cases a <;> simp [Addr.add]

set_option maxRecDepth 100000 in
set_option maxHeartbeats 1000000 in
theorem until_any (l : List Stp) (days : Int) (hn : l.length ≤ 1000000) (hs : l.Pairwise (fun x y => x.day ≤ y.day)) (a : Option Addr) (cap : Nat) (hc : l.length ≤ cap) (w : World) (hr : TRow w a l) :
    Calls Try.prog 76 #[.slice a l.length cap, .int .i64 days] w fun e w' => e = .returned (.slice a (untilL l days).length cap) ∧ Gr w w' := by
  have g1 := Gr.al w (.cells #[.slice a l.length cap] 54)
  have g2 := Gr.al (w.alloc (.cells #[.slice a l.length cap] 54)) (.cells #[.int .i64 days] 3)
  have gg := g1.tr g2
  have hb := (Box.new w [.slice a l.length cap] 54 w.heap.size rfl).keep g2
  have hd := Box.new (w.alloc (.cells #[.slice a l.length cap] 54)) [.int .i64 days] 3 (w.heap.size + 1) (by simp)
  have r1 := hr.grow gg
  have hm : ∀ x y, 0 ≤ x → x ≤ y → y < (l.length : Int) → later l days x = true → later l days y = true := by
    intro x y x0 xy yn h
    have hx : x.toNat < l.length := by omega
    have hy : y.toNat < l.length := by omega
    simp only [later, List.getElem?_eq_getElem hx, List.getElem?_eq_getElem hy, decide_eq_true_eq] at h ⊢
    rcases Nat.lt_or_ge x.toNat y.toNat with h1 | h1
    · have := List.pairwise_iff_getElem.1 hs x.toNat y.toNat hx hy h1
      omega
    · have e : x.toNat = y.toNat := by omega
      simp only [e] at h
      exact h
  have HR := Lib.hid r1
  have HM := Lib.hid hm
  clear r1 hm hr hs
  go_enter Try.func76, Try.ntmps76
  go_upto_region 1 with fail
  refine wp_abs (fun W => Gr w W ∧ Box W w.heap.size [.slice a l.length cap] ∧ Box W (w.heap.size + 1) [.int .i64 days] ∧ TRow W a l) ⟨gg, hb, hd, HR.out⟩ ?_
  clear gg hb hd g1 g2 HR
  rintro W ⟨gg, hb, hd, hr⟩
  have HR := Lib.hid hr
  have gX := Gr.dr W
  have q0 := (hb.keep gX).c1
  clear hr
  go_region_held3 (fun w' => w'.cell? ⟨w.heap.size, 0, none⟩ = some (.slice a l.length cap)) (first | exact q0 | go_keep) (first
    | (go_at_call 83; (refine (search2 (l.length : Int) (by omega) (by omega) (later l days) HM.out 102 (.pointer (some ⟨w.heap.size, 0, none⟩)) (.pointer (some ⟨w.heap.size + 1, 0, none⟩)) _ callUntil (fun h V hV h0 h1 => untilClosure l days h h0 h1 a cap _ _ V (HR.out.grow (gX.tr hV)) (hb.keep (gX.tr hV)).c1 (hd.keep (gX.tr hV)).c1)).mono ?_); rintro e w2 ⟨r, rfl, r0, r1, hlo, hhi, hy⟩; (have rc : r ≤ (cap : Int) := by omega); replace gX := gX.tr hy; have q0 := (hb.keep gX).c1))
  all_goals
    clear q0
    go_wp2
    have er : (untilL l days).length = r.toNat := by
      refine untilL_is l days r.toNat (by omega) (fun i s hi hs => ?_) (fun i s hi hs => ?_)
      · have := hlo (i : Int) (by omega) (by omega)
        simp [later, hs] at this
        omega
      · have hl : i < l.length := by
          rcases Nat.lt_or_ge i l.length with h | h
          · exact h
          · rw [List.getElem?_eq_none h] at hs
            simp at hs
        have := hhi (i : Int) (by omega) (by omega)
        simp [later, hs] at this
        omega
    rw [er]
    go_ret
    exact ⟨rfl, gg.tr gX⟩

/-- What boxes keep on a day. -/
def lastL (l : List Stp) (days : Int) : Int := match l[(untilL l days).length - 1]? with
  | some s => s.keep
  | none => 0

set_option maxRecDepth 100000 in
set_option maxHeartbeats 1000000 in
theorem last_any (l : List Stp) (days : Int) (hn : l.length ≤ 1000000) (hs : l.Pairwise (fun x y => x.day ≤ y.day)) (h0 : 0 < (untilL l days).length) (h1 : (untilL l days).length ≤ l.length) (a : Option Addr) (cap : Nat) (hc : l.length ≤ cap) (w : World) (hr : TRow w a l) :
    Calls Try.prog 82 #[.slice a l.length cap, .int .i64 days] w fun e w' => e = .returned (.int .i64 (lastL l days)) ∧ Gr w w' := by
  obtain ⟨n, en⟩ : ∃ n, (untilL l days).length = n + 1 := ⟨(untilL l days).length - 1, by omega⟩
  obtain ⟨s, hs1⟩ : ∃ s, l[n]? = some s := ⟨l[n], by simp⟩
  have E : lastL l days = s.keep := by simp [lastL, en, hs1]
  rw [E]
  have U := Lib.hid (fun W hW => until_any l days hn hs a cap hc W hW)
  clear hs E
  go_enter Try.func82, Try.ntmps82
  go_wp2_with fail
  refine (U.out _ hr).mono ?_
  rintro e w1 ⟨rfl, hx⟩
  rw [en]
  obtain ⟨d, off, rfl, hd, q0, q1⟩ := TRow.get (hr.grow hx) hs1
  have wr : IntKind.i64.wrap (((n + 1 : Nat) : Int) - 1) = (n : Int) := by
    rw [IntWalk.i64_in _ (by omega)]
    omega
  go_wp2
  go_ret
  exact ⟨rfl, hx⟩

end Go.Proofs.Ytkfhmfidgdpeiaa

namespace Go.Proofs.Ytkfhmfidgdpeiaa
set_option linter.unusedVariables false
set_option linter.unusedSimpArgs false
open Go.RowKit

def okLd (x : Ld) : Bool := okSpan 0 20000000 x.sl x.sh && okSpan 0 100000 x.wl x.wh

def boxedL (most : Int) (l : List Ld) : Int := if most < (l.length : Int) then 5 else if l.all okLd = false then 2 else 0

set_option maxRecDepth 100000 in
set_option maxHeartbeats 2000000 in
theorem boxed_any (most : Int) (l : List Ld) (a : Option Addr) (cap : Nat) (w : World) (hr : LRow w a l) :
    Calls Try.prog 73 #[.slice a l.length cap, .int .i64 most] w fun e w' => e = .returned (.int .i64 (boxedL most l)) ∧ Gr w w' := by
  have hm := hr.1
  by_cases h5 : most < (l.length : Int)
  · have E : boxedL most l = 5 := by simp [boxedL, h5]
    have h5d : decide (most < (l.length : Int)) = true := by simpa using h5
    rw [E]
    go_enter Try.func73, Try.ntmps73
    go_wp2
    go_ret
    exact ⟨rfl, Below.refl _ _⟩
  have h5d : decide (most < (l.length : Int)) = false := by simpa using h5
  have HE := Lib.hid (show boxedL most l = if l.all okLd = false then 2 else 0 by simp [boxedL, h5])
  go_enter Try.func73, Try.ntmps73
  go_wp2
  go_loopw [13] (fun i wr => ∃ k : Nat, k ≤ l.length ∧ i = .int .i64 k ∧ (l.take k).all okLd = true ∧ Gr w wr) (fun i wr => l.length - (intOf i).toNat)
  case atStart => exact ⟨0, Nat.zero_le _, rfl, rfl, Below.refl _ _⟩
  case round =>
    obtain ⟨k, hk, rfl, hall, hG⟩ := hrel
    have Hall := Lib.hid hall
    clear hall h5 h5d
    by_cases hlt : k < l.length
    · obtain ⟨x, hx⟩ := get_of_lt hlt
      obtain ⟨b0, off, rfl, hb, hc0, hc1, hc2, hc3⟩ := LRow.get (hr.grow hG) hx
      have Hx := Lib.hid hx
      clear hx
      obtain ⟨sl, sh, wl, wh⟩ := x
      simp only at hc0 hc1 hc2 hc3
      have gg := Gr.al wr (.cells #[.int .i64 sl, .int .i64 sh, .int .i64 wl, .int .i64 wh] 70)
      have hb := Box.new wr [.int .i64 sl, .int .i64 sh, .int .i64 wl, .int .i64 wh] 70 wr.heap.size rfl
      cases c0 : okSpan 0 20000000 sl sh with
      | false =>
        have E : boxedL most l = 2 := by rw [HE.out, if_pos (not_all_of _ Hx.out (by simp [okLd, c0]))]
        have HX := Lib.hid E
        clear E
        have tok0 : True := trivial
        go_wp2_with (have _t := tok0; clear tok0 _t; go_at_call 98; refine (valid_any 0 20000000 sl sh _ c0 _ _ _ (SRow.new1 _ 45 _ _ _ (by simp))).mono ?_; rintro e w1 ⟨rfl, hg⟩; have hg2 := Gr.tr (Gr.al _ _) hg; replace gg := gg.tr hg2; clear hg hg2)
        go_ret
        exact ⟨ret_int HX.out.symm, hG.tr gg⟩
      | true =>
        cases c1 : okSpan 0 100000 wl wh with
        | false =>
          have E : boxedL most l = 2 := by rw [HE.out, if_pos (not_all_of _ Hx.out (by simp [okLd, c0, c1]))]
          have HX := Lib.hid E
          clear E
          have tok0 : True := trivial
          go_wp2_with (first | (have _t := tok0; clear tok0 _t; go_at_call 98; refine (valid_any 0 20000000 sl sh _ c0 _ _ _ (SRow.new1 _ 45 _ _ _ (by simp))).mono ?_; rintro e w1 ⟨rfl, hg⟩; have hg2 := Gr.tr (Gr.al _ _) hg; replace gg := gg.tr hg2; replace hb := hb.keep hg2; obtain ⟨q0, q1, q2, q3⟩ := hb.c4'; clear hg hg2) | (go_at_call 98; refine (valid_any 0 100000 wl wh _ c1 _ _ _ (SRow.new1 _ 45 _ _ _ (by simp))).mono ?_; rintro e w1 ⟨rfl, hg⟩; have hg2 := Gr.tr (Gr.al _ _) hg; replace gg := gg.tr hg2; clear hg hg2))
          go_ret
          exact ⟨ret_int HX.out.symm, hG.tr gg⟩
        | true =>
          have hp : okLd ⟨sl, sh, wl, wh⟩ = true := by simp [okLd, c0, c1]
          have Hp := Lib.hid hp
          clear hp
          have tok0 : True := trivial
          go_wp2_with (first | (have _t := tok0; clear tok0 _t; go_at_call 98; refine (valid_any 0 20000000 sl sh _ c0 _ _ _ (SRow.new1 _ 45 _ _ _ (by simp))).mono ?_; rintro e w1 ⟨rfl, hg⟩; have hg2 := Gr.tr (Gr.al _ _) hg; replace gg := gg.tr hg2; replace hb := hb.keep hg2; obtain ⟨q0, q1, q2, q3⟩ := hb.c4'; clear hg hg2) | (go_at_call 98; refine (valid_any 0 100000 wl wh _ c1 _ _ _ (SRow.new1 _ 45 _ _ _ (by simp))).mono ?_; rintro e w1 ⟨rfl, hg⟩; have hg2 := Gr.tr (Gr.al _ _) hg; replace gg := gg.tr hg2; clear hg hg2))
          go_roundw
          case rel => exact ⟨k + 1, by omega, by go_num, all_take_succ _ Hx.out Hall.out Hp.out, hG.tr gg⟩
          case measure => simp [intOf]; omega
    · have hf : boxedL most l = 0 := by
        have h := Hall.out
        rw [List.take_of_length_le (by omega)] at h
        rw [HE.out, h]
        rfl
      have Hf := Lib.hid hf
      clear hf
      go_wp2
      go_ret
      exact ⟨ret_int Hf.out.symm, hG⟩

end Go.Proofs.Ytkfhmfidgdpeiaa

namespace Go.Proofs.Ytkfhmfidgdpeiaa
set_option linter.unusedVariables false
set_option linter.unusedSimpArgs false
open Go.RowKit

/-- The steps of a table from one on, behind a step of (d, k). -/
def chainL (d k : Int) : List Stp → Bool
  | [] => true
  | s :: t => inB (d + 1) 10000 [s.day] && inB 0 k [s.keep] && chainL s.day s.keep t

def tableL (l : List Stp) : Bool := inB 1 10 [(l.length : Int)] && (match l with
  | [] => false
  | s :: _ => s.day == 0) && chainL (-1) 1000 l

set_option maxRecDepth 100000 in
set_option maxHeartbeats 2000000 in
theorem goodTable_any (l : List Stp) (a : Option Addr) (cap : Nat) (w : World) (hr : TRow w a l) :
    Calls Try.prog 101 #[.slice a l.length cap] w fun e w' => e = .returned (.bool (tableL l)) ∧ Gr w w' := by
  have hm := hr.1
  cases hn : inB 1 10 [(l.length : Int)] with
  | false =>
    have E : tableL l = false := by simp [tableL, hn]
    rw [E]
    go_enter Try.func101, Try.ntmps101
    go_wp2_with (go_at_call 66; refine (within_any 1 10 [(l.length : Int)] _ hn _ _ _ (IRow.new' _ 3 [(l.length : Int)] (by simp) _ (by simp) _ (by simp))).mono ?_; rintro e w1 ⟨rfl, hg⟩)
    go_ret
    exact ⟨rfl, (Gr.al _ _).tr hg⟩
  | true =>
    obtain ⟨s0, t0, rfl⟩ : ∃ s t, l = s :: t := by
      cases l with
      | nil => simp [inB, in1] at hn
      | cons s t => exact ⟨s, t, rfl⟩
    have ln : ((s0 :: t0).length : Int) ≤ 10 := by
      simp [inB, in1] at hn ⊢
      omega
    obtain ⟨l, el⟩ : ∃ l, l = s0 :: t0 := ⟨_, rfl⟩
    have h00 : l[0]? = some s0 := by rw [el]; rfl
    by_cases hz : s0.day = 0
    · have E0 : tableL l = chainL (-1) 1000 l := by rw [el]; simp only [tableL, hn, hz, beq_self_eq_true, Bool.true_and, Bool.and_true]
      have HE := Lib.hid E0
      rw [← el] at hr hn hm ln ⊢
      have l1 : 0 < l.length := by rw [el]; simp
      clear el E0
      obtain ⟨b0, off, rfl, hb, hc0, hc1⟩ := TRow.get hr h00
      rw [hz] at hc0
      simp only [Nat.zero_mul, Nat.add_zero] at hc0
      go_enter Try.func101, Try.ntmps101
      go_wp2_with (go_at_call 66; refine (within_any 1 10 [(l.length : Int)] _ hn _ _ _ (IRow.new' _ 3 [(l.length : Int)] (by simp) _ (by simp) _ (by simp))).mono ?_; rintro e w1 ⟨rfl, hg⟩; have g1 := Gr.tr (Gr.al _ _) hg; have hc9 := g1.keep hc0; clear hg)
      have sz := g1.size
      go_loopw [21] (fun i wr => ∃ k : Nat, ∃ d kk : Int, k ≤ l.length ∧ i = .int .i64 k ∧ Hid (chainL (-1) 1000 l = chainL d kk (l.drop k)) ∧ -1 ≤ d ∧ d ≤ 10000 ∧ Own wr w1.heap.size [.int .i64 d, .int .i64 kk] ∧ Gr w wr) (fun i wr => l.length - (intOf i).toNat)
      case atStart => exact ⟨0, -1, 1000, Nat.zero_le _, rfl, Lib.hid rfl, by omega, by omega, Own.new w1 _ 136 _ rfl, g1.tr (Gr.al _ _)⟩
      case round =>
        obtain ⟨k, d, kk, hk, rfl, Hch, d0, d1, ob, hG⟩ := hrel
        clear hc9
        by_cases hlt : k < l.length
        · obtain ⟨x, hx⟩ := get_of_lt hlt
          obtain ⟨b1, off1, e1, hb1, hx0, hx1⟩ := TRow.get (hr.grow hG) hx
          obtain ⟨rfl, rfl⟩ : b0 = b1 ∧ off = off1 := by simpa using e1
          have hdr : l.drop k = x :: l.drop (k + 1) := by
            rw [List.drop_eq_getElem_cons hlt]
            rw [List.getElem?_eq_getElem hlt] at hx
            simp at hx
            rw [hx]
          have Hd := Lib.hid hdr
          clear hx hdr e1
          obtain ⟨day, keep⟩ := x
          simp only at hx0 hx1
          have v0 : IntKind.i64.wrap (d + 1) = d + 1 := IntWalk.i64_in _ (by omega)
          have gg := Gr.al wr (.cells #[.int .i64 day, .int .i64 keep] 136)
          have hb := Box.new wr [.int .i64 day, .int .i64 keep] 136 wr.heap.size rfl
          have ob := ob.keep gg
          obtain ⟨q0, q1⟩ := hb.c2
          obtain ⟨u0, u1⟩ := ob.1.c2
          cases c0 : inB (d + 1) 10000 [day] with
          | false =>
            have E : tableL l = false := by rw [HE.out, Hch.out, Hd.out]; simp [chainL, c0]
            have HX := Lib.hid E
            clear E
            go_wp2_with (go_at_call 66; refine (within_any (d + 1) 10000 [day] _ c0 _ _ _ (IRow.new' _ 3 [day] (by simp) _ (by simp) _ (by simp))).mono ?_; rintro e w2 ⟨rfl, hg⟩; have hg2 := Gr.tr (Gr.al _ _) hg; replace gg := gg.tr hg2; clear hg hg2)
            go_ret
            exact ⟨ret_bool HX.out.symm, hG.tr gg⟩
          | true =>
            cases c1 : inB 0 kk [keep] with
            | false =>
              have E : tableL l = false := by rw [HE.out, Hch.out, Hd.out]; simp [chainL, c0, c1]
              have HX := Lib.hid E
              clear E
              have tok0 : True := trivial
              go_wp2_with (first | (have _t := tok0; clear tok0 _t; go_at_call 66; refine (within_any (d + 1) 10000 [day] _ c0 _ _ _ (IRow.new' _ 3 [day] (by simp) _ (by simp) _ (by simp))).mono ?_; rintro e w2 ⟨rfl, hg⟩; have hg2 := Gr.tr (Gr.al _ _) hg; replace gg := gg.tr hg2; replace hb := hb.keep hg2; replace ob := ob.keep hg2; clear hg hg2 q0 q1 u0 u1; obtain ⟨q0, q1⟩ := hb.c2; obtain ⟨u0, u1⟩ := ob.1.c2) | (go_at_call 66; refine (within_any 0 kk [keep] _ c1 _ _ _ (IRow.new' _ 3 [keep] (by simp) _ (by simp) _ (by simp))).mono ?_; rintro e w3 ⟨rfl, hg⟩; have hg2 := Gr.tr (Gr.al _ _) hg; replace gg := gg.tr hg2; clear hg hg2))
              go_ret
              exact ⟨ret_bool HX.out.symm, hG.tr gg⟩
            | true =>
              have dd : -1 ≤ day ∧ day ≤ 10000 := by
                simp [inB, in1] at c0
                omega
              have HN := Lib.hid (show chainL (-1) 1000 l = chainL day keep (l.drop (k + 1)) by rw [Hch.out, Hd.out]; simp [chainL, c0, c1])
              have tok0 : True := trivial
              go_wp2_with (first | (have _t := tok0; clear tok0 _t; go_at_call 66; refine (within_any (d + 1) 10000 [day] _ c0 _ _ _ (IRow.new' _ 3 [day] (by simp) _ (by simp) _ (by simp))).mono ?_; rintro e w2 ⟨rfl, hg⟩; have hg2 := Gr.tr (Gr.al _ _) hg; replace gg := gg.tr hg2; replace hb := hb.keep hg2; replace ob := ob.keep hg2; clear hg hg2 q0 q1 u0 u1; obtain ⟨q0, q1⟩ := hb.c2; obtain ⟨u0, u1⟩ := ob.1.c2) | (go_at_call 66; refine (within_any 0 kk [keep] _ c1 _ _ _ (IRow.new' _ 3 [keep] (by simp) _ (by simp) _ (by simp))).mono ?_; rintro e w3 ⟨rfl, hg⟩; have hg2 := Gr.tr (Gr.al _ _) hg; replace gg := gg.tr hg2; replace hb := hb.keep hg2; replace ob := ob.keep hg2; clear hg hg2 q0 q1 u0 u1; obtain ⟨q0, q1⟩ := hb.c2; obtain ⟨u0, u1⟩ := ob.1.c2; have z0 := ob.2 0; have z1 := ob.2 1))
              go_roundw
              case rel => exact ⟨k + 1, day, keep, by omega, by go_num, HN, dd.1, dd.2, (ob.set (i := 0) (by simp)).set (i := 1) (by simp), ((hG.tr gg).setCell (by omega) _).setCell (by omega) _⟩
              case measure => simp [intOf]; omega
        · have hf : tableL l = true := by
            rw [HE.out, Hch.out, List.drop_of_length_le (by omega)]
            rfl
          have Hf := Lib.hid hf
          clear hf
          go_wp2
          go_ret
          exact ⟨ret_bool Hf.out.symm, hG⟩
    · have E0 : tableL l = false := by rw [el]; simp [tableL, hz]
      rw [← el] at hr hn hm ⊢
      rw [E0]
      obtain ⟨b0, off, rfl, hb, hc0, hc1⟩ := TRow.get hr h00
      simp only [Nat.zero_mul, Nat.add_zero] at hc0
      have l1 : 0 < l.length := by rw [el]; simp
      clear el
      have hz2 : (s0.day != 0) = true := by simpa using hz
      go_enter Try.func101, Try.ntmps101
      go_wp2_with (go_at_call 66; refine (within_any 1 10 [(l.length : Int)] _ hn _ _ _ (IRow.new' _ 3 [(l.length : Int)] (by simp) _ (by simp) _ (by simp))).mono ?_; rintro e w1 ⟨rfl, hg⟩; have g1 := Gr.tr (Gr.al _ _) hg; have hc9 := g1.keep hc0; clear hg)
      go_ret
      exact ⟨rfl, g1⟩

end Go.Proofs.Ytkfhmfidgdpeiaa

namespace Go.Proofs.Ytkfhmfidgdpeiaa
set_option linter.unusedVariables false
set_option linter.unusedSimpArgs false
open Go.RowKit

def storedL (most : Int) (l : List Ld) (t : List Stp) (days : Int) : Int :=
  if boxedL most l = 0 then (if tableL t = false then 4 else if inB 0 10000 [days] = false then 3 else 0) else boxedL most l

set_option maxRecDepth 100000 in
set_option maxHeartbeats 2000000 in
theorem stored_any (most : Int) (l : List Ld) (t : List Stp) (days : Int) (a c : Option Addr) (cap cc : Nat) (w : World) (hr : LRow w a l) (ht : TRow w c t) :
    Calls Try.prog 75 #[.slice a l.length cap, .int .i64 most, .slice c t.length cc, .int .i64 days] w fun e w' => e = .returned (.int .i64 (storedL most l t days)) ∧ Gr w w' := by
  by_cases b0 : boxedL most l = 0
  · cases t0 : tableL t with
    | false =>
      have E : storedL most l t days = 4 := by simp [storedL, b0, t0]
      rw [E]
      go_enter Try.func75, Try.ntmps75
      go_wp2_with fail
      refine (boxed_any most l _ _ _ hr).mono ?_
      rintro e w1 ⟨rfl, h1⟩
      rw [b0]
      go_wp2_with fail
      refine (goodTable_any t _ _ _ (ht.grow h1)).mono ?_
      rintro e w2 ⟨rfl, h2⟩
      rw [t0]
      go_wp2
      go_ret
      exact ⟨rfl, h1.tr h2⟩
    | true =>
      cases d0 : inB 0 10000 [days] with
      | false =>
        have E : storedL most l t days = 3 := by simp [storedL, b0, t0, d0]
        rw [E]
        go_enter Try.func75, Try.ntmps75
        go_wp2_with fail
        refine (boxed_any most l _ _ _ hr).mono ?_
        rintro e w1 ⟨rfl, h1⟩
        rw [b0]
        go_wp2_with fail
        refine (goodTable_any t _ _ _ (ht.grow h1)).mono ?_
        rintro e w2 ⟨rfl, h2⟩
        rw [t0]
        go_wp2_with (go_at_call 66; refine (within_any 0 10000 [days] _ d0 _ _ _ (IRow.new' _ 3 [days] (by simp) _ (by simp) _ (by simp))).mono ?_; rintro e w3 ⟨rfl, hg⟩; have h3 := Gr.tr (Gr.al _ _) hg)
        go_ret
        exact ⟨rfl, h1.tr (h2.tr h3)⟩
      | true =>
        have E : storedL most l t days = 0 := by simp [storedL, b0, t0, d0]
        rw [E]
        go_enter Try.func75, Try.ntmps75
        go_wp2_with fail
        refine (boxed_any most l _ _ _ hr).mono ?_
        rintro e w1 ⟨rfl, h1⟩
        rw [b0]
        go_wp2_with fail
        refine (goodTable_any t _ _ _ (ht.grow h1)).mono ?_
        rintro e w2 ⟨rfl, h2⟩
        rw [t0]
        go_wp2_with (go_at_call 66; refine (within_any 0 10000 [days] _ d0 _ _ _ (IRow.new' _ 3 [days] (by simp) _ (by simp) _ (by simp))).mono ?_; rintro e w3 ⟨rfl, hg⟩; have h3 := Gr.tr (Gr.al _ _) hg)
        go_ret
        exact ⟨rfl, h1.tr (h2.tr h3)⟩
  · have E : storedL most l t days = boxedL most l := by simp [storedL, b0]
    rw [E]
    have b1 : (boxedL most l != 0) = true := by simpa using b0
    go_enter Try.func75, Try.ntmps75
    go_wp2_with fail
    refine (boxed_any most l _ _ _ hr).mono ?_
    rintro e w1 ⟨rfl, h1⟩
    go_wp2
    go_ret
    exact ⟨rfl, h1⟩

end Go.Proofs.Ytkfhmfidgdpeiaa

namespace Go.Proofs.Ytkfhmfidgdpeiaa
set_option linter.unusedVariables false
set_option linter.unusedSimpArgs false
open Go.RowKit

set_option maxRecDepth 100000 in
theorem loads_any (l : List Ld) (a : Option Addr) (cap : Nat) (w : World) :
    Calls Try.prog 74 #[.slice a l.length cap] w fun e w' => e = .returned (.func (.func 100) #[] #[.pointer (some ⟨w.heap.size, 0, none⟩)]) ∧ Own w' w.heap.size [.slice a l.length cap] ∧ Gr w w' := by
  have ob := Own.new w [.slice a l.length cap] 53 w.heap.size rfl
  have gg := Gr.al w (.cells #[.slice a l.length cap] 53)
  go_enter Try.func74, Try.ntmps74
  go_wp2
  go_ret
  exact ⟨rfl, ob, gg⟩

set_option maxRecDepth 100000 in
theorem members_any (set : Int) (w : World) :
    Calls Try.prog 108 #[.int .i64 set] w fun e w' => e = .returned (.func (.func 116) #[] #[.pointer (some ⟨w.heap.size, 0, none⟩)]) ∧ Own w' w.heap.size [.int .i64 set] ∧ Gr w w' := by
  have ob := Own.new w [.int .i64 set] 3 w.heap.size rfl
  have gg := Gr.al w (.cells #[.int .i64 set] 3)
  go_enter Try.func108, Try.ntmps108
  go_wp2
  go_ret
  exact ⟨rfl, ob, gg⟩

end Go.Proofs.Ytkfhmfidgdpeiaa
