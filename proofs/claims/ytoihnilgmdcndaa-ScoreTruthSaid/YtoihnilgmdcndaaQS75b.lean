/- May finds no caliper that is greater than one with which a blank of the room closes; a true blank's inner measures lie in the room's (chapter 2, without memory). By how much a measure is wrong: the closure of ScoreTruth (chapter 2). A blank whose measures are changed one after another (ScoreTruth). A region that draws its order, in which one variable is made and written once; what comes up behind the write knows only what is known of values. wp_region_own, with two variables that are written while other operations, which read the old world only, are still to come. ScoreTruth's body. (Made by gen_s74.py.) A law's end: it returned true and the world only grew. And: what an argument is that is made of integers of one kind. What an argument is that is a slice of small arrays of integers; a struct of three slices; the pieces of a struct. A sheet that comes in (chapter 2). (Made by gen_s65.py.) What the bytes of a sheet say (chapter 2). (Made by gen_s68.py.) -/
import Derived.Test.YtoihnilgmdcndaaQS75a
import Derived.Test.YtoihnilgmdcndaaQS32d
import Derived.BigQuiet
import Derived.Test.YtoihnilgmdcndaaQS32c
import Derived.Test.YtoihnilgmdcndaaQS32a
import Derived.ProofKit
import Derived.OpenShut
import Derived.ChangeSame
import Derived.Carry
namespace Go.Proofs.Ytoihnilgmdcndaa
set_option linter.unusedVariables false
set_option linter.unusedSimpArgs false
open Go.RowKit

theorem fl_1000 (opn : Bool) (d : Dr) {k : Nat} (hk : k < 10) : ∃ y, FL opn d k = 1000 * y := by
  by_cases h4 : k < 4
  · exact ⟨_, FL_pan opn d h4⟩
  by_cases e4 : k = 4
  · subst e4; exact ⟨_, FL_hei opn d⟩
  by_cases e9 : k = 9
  · subst e9
    unfold FL flatS
    rw [if_pos rfl]
    exact ⟨_, rfl⟩
  · have h := FL_gap opn d (k := k) (by omega) (by omega)
    generalize (if k < 7 ∧ opn = true then 0 else min 3000 (d.flap k)) = z at h
    generalize max 1 (d.p.getD (1 - (k - 5) % 2) 0) = y at h
    exact ⟨y - 2 * z, by omega⟩

theorem in_1000 (ll lh wl wh hl hh ol oh il ih : Int) (k : Nat) : ∃ y, (inS ll lh wl wh hl hh ol oh il ih k).hi = 1000 * y := by
  unfold inS
  repeat' split
  all_goals first | exact ⟨_, rfl⟩ | exact ⟨20, rfl⟩

theorem tdiv_500 {x l : Int} (hl : l = 1 ∨ l = 2) : ∃ y, (1000 * x).tdiv l = 500 * y := by
  rcases hl with rfl | rfl
  · exact ⟨2 * x, by rw [Int.tdiv_one]; omega⟩
  · refine ⟨x, ?_⟩
    rw [show (1000 : Int) * x = 2 * (500 * x) by omega, Int.mul_tdiv_cancel_left _ (by decide)]

theorem hold_low (opn : Bool) (W : Wi) (d : Dr) {k : Nat} (hk : k < 10) : (hL opn W d k).lo = 0 ∨ (hL opn W d k).lo = 1 ∨ ∃ y, (hL opn W d k).lo = 500 * y := by
  rw [hL_M]
  unfold holdM
  obtain ⟨y, hy⟩ := fl_1000 opn d hk
  obtain ⟨z, hz⟩ := in_1000 W.ll W.lh W.wl W.wh W.hl W.hh W.ol W.oh W.il W.ih k
  rw [hy, hz]
  split
  · split
    · exact .inl rfl
    · exact .inr (.inl rfl)
  · obtain ⟨q, hq⟩ := tdiv_500 (x := y - z) (lostL_12 k opn)
    rw [show 1000 * y - 1000 * z = 1000 * (y - z) by omega, hq]
    by_cases h : 1 ≤ 500 * q
    · exact .inr (.inr ⟨q, by simp only; omega⟩)
    · exact .inr (.inl (by simp only; omega))

theorem start_low {lo c s : Int} (h : lo = 0 ∨ lo = 1 ∨ ∃ y, lo = 500 * y) (h1 : 1 ≤ s) (h3 : c / 500 * 500 ≤ s) (hc : lo ≤ c) : lo ≤ s := by
  rcases h with rfl | rfl | ⟨y, rfl⟩ <;> omega

/-- What closes with a caliper closes with the last start below it. -/
theorem Fea.start {R : Rm} {W : Wi} {c s : Int} {x : Dr} (F : Fea R W c c x) (h1 : 1 ≤ s) (h2 : s ≤ c) (h3 : c / 500 * 500 ≤ s) : Fea R W s s x :=
  ⟨F.pan, F.flap, F.hei, F.slo, fun k hk => by
    have h := (okAll_iff (Int.le_refl c)).1 (F.ok k hk)
    exact (okAll_iff (Int.le_refl s)).2 ⟨start_low (hold_low R.opn W x hk) h1 h3 h.1, by omega⟩⟩

theorem may_fea {R : Rm} {W : Wi} {c : Int} {x : Dr} (hx : DrL x) (F : Fea R W c c x) : mayB R W c = true := decide_eq_true (small_least (Int.le_refl c) hx F).1

theorem may_start {R : Rm} {W : Wi} {c s : Int} (h : mayB R W c = true) (h1 : 1 ≤ s) (h2 : s ≤ c) (h3 : c / 500 * 500 ≤ s) : mayB R W s = true := by
  obtain ⟨hx, F⟩ := small_closes (of_decide_eq_true h)
  exact may_fea hx (F.start h1 h2 h3)

theorem start_of {lo c : Int} (h : lo ≤ c) : ∃ j, startAt lo j ≤ c ∧ c < startAt lo (j + 1) := by
  have far : ∀ n : Nat, lo + (n : Int) ≤ startAt lo n := by
    intro n
    induction n with
    | zero => show lo + 0 ≤ lo; omega
    | succ n ih => have := start_up lo n; omega
  have step : ∀ n : Nat, startAt lo n ≤ c ∨ ∃ j, startAt lo j ≤ c ∧ c < startAt lo (j + 1) := by
    intro n
    induction n with
    | zero => exact .inl h
    | succ n ih =>
      rcases ih with ih | ih
      · by_cases h1 : startAt lo (n + 1) ≤ c
        · exact .inl h1
        · exact .inr ⟨n, ih, by omega⟩
      · exact .inr ih
  rcases step ((c - lo).toNat + 1) with h1 | h1
  · have := far ((c - lo).toNat + 1); omega
  · exact h1

theorem start_mono {lo : Int} {i j : Nat} (h : i ≤ j) : startAt lo i ≤ startAt lo j := by
  induction h with
  | refl => exact Int.le_refl _
  | step _ ih => have := start_up lo; exact Int.le_trans ih (Int.le_of_lt (this _))

/-- What May returns if some blank of the room closes with a caliper. -/
theorem MayPost.found {R : Rm} {W : Wi} {cl ch tab : Int} {w w' : World} {e : Ending} (h : MayPost R W cl ch tab w e w') (h0 : firstE [checkE tab R.hei R.slo R.pan R.top R.bot R.opn, W.err, measE [⟨cl, ch⟩], if inB 0 5 [R.off] = true then 0 else 7] = 0) {c : Int} (c0 : 1 ≤ cl) (c1 : cl ≤ c) (c2 : c ≤ ch) (hm : mayB R W c = true) :
    ∃ n : Int, e = .returned (.tuple #[.int .i64 n, .int .i64 0]) ∧ (cl ≤ n ∧ n ≤ c) ∧ Gr w w' := by
  obtain ⟨j, j0, j1⟩ := start_of c1
  have hs : mayB R W (startAt cl j) = true := may_start hm (by have := start_ge cl j; omega) j0 (by
    have : startAt cl (j + 1) = (startAt cl j / 500 + 1) * 500 := rfl
    omega)
  obtain ⟨g, h | h | h⟩ := h
  · exact absurd h0 h.1
  · obtain ⟨_, k, k0, k1, k2, he⟩ := h
    have hk : k ≤ j := by
      rcases Nat.lt_or_ge j k with q | q
      · rw [k1 j q] at hs; cases hs
      · exact q
    have := start_mono (lo := cl) hk
    exact ⟨_, he, ⟨start_ge cl k, by omega⟩, g⟩
  · obtain ⟨_, ⟨k, k0, k1⟩, he⟩ := h
    exfalso
    have hk : j < k := by
      rcases Nat.lt_or_ge j k with q | q
      · exact q
      · have := start_mono (lo := cl) q; omega
    rw [k1 j hk] at hs
    cases hs

/-- A measure that is wrong by at most off. -/
def Near (off a b : Int) : Prop := a - off ≤ b ∧ b ≤ a + off

/-- A blank as it is seen, and as it truly is. -/
def Seen (off P0 P1 P2 P3 T0 T1 B0 B1 H p0 p1 p2 p3 t0 t1 s0 s1 hei : Int) (o : Bool) : Prop :=
  0 ≤ off ∧ Near off P0 p0 ∧ Near off P1 p1 ∧ Near off P2 p2 ∧ Near off P3 p3 ∧ (o = false → Near off T0 t0 ∧ Near off T1 t1) ∧ Near off B0 s0 ∧ Near off B1 s1 ∧ Near off H hei

theorem seen_fea {off P0 P1 P2 P3 T0 T1 B0 B1 H p0 p1 p2 p3 t0 t1 s0 s1 hei : Int} {o : Bool} (h : Seen off P0 P1 P2 P3 T0 T1 B0 B1 H p0 p1 p2 p3 t0 t1 s0 s1 hei o) {W : Wi} {cl ch : Int} (F : Fea (wholeR o) W cl ch (drOf p0 p1 p2 p3 t0 t1 s0 s1 hei 9)) :
    Fea ⟨off, H, 9, [P0, P1, P2, P3], [T0, T1], [B0, B1], o⟩ W cl ch (drOf p0 p1 p2 p3 t0 t1 s0 s1 hei 9) := by
  obtain ⟨n0, n1, n2, n3, n4, n5, n6, n7, n8, n9, n10⟩ := num_of F
  obtain ⟨h0, a0, a1, a2, a3, a4, a5, a6, a7⟩ := h
  unfold Near at a0 a1 a2 a3 a4 a5 a6 a7
  refine ⟨fun i hi => ?_, fun k h5 h8 => ?_, ?_, ?_, F.ok⟩
  · match i, hi with
    | 0, _ => show max 1 (P0 - off) ≤ p0 ∧ p0 ≤ min 3000 (P0 + off); omega
    | 1, _ => show max 1 (P1 - off) ≤ p1 ∧ p1 ≤ min 3000 (P1 + off); omega
    | 2, _ => show max 1 (P2 - off) ≤ p2 ∧ p2 ≤ min 3000 (P2 + off); omega
    | 3, _ => show max 1 (P3 - off) ≤ p3 ∧ p3 ≤ min 3000 (P3 + off); omega
  · have hk : k = 5 ∨ k = 6 ∨ k = 7 ∨ k = 8 := by omega
    rcases hk with rfl | rfl | rfl | rfl
    · cases o with
      | true => obtain ⟨rfl, rfl⟩ := n10 rfl; exact ⟨Int.le_refl _, Int.le_refl _⟩
      | false => obtain ⟨q0, q1⟩ := a4 rfl; show max 0 (T0 - off) ≤ t0 ∧ t0 ≤ min 3000 (T0 + off); omega
    · cases o with
      | true => obtain ⟨rfl, rfl⟩ := n10 rfl; exact ⟨Int.le_refl _, Int.le_refl _⟩
      | false => obtain ⟨q0, q1⟩ := a4 rfl; show max 0 (T1 - off) ≤ t1 ∧ t1 ≤ min 3000 (T1 + off); omega
    · show max 0 (B0 - off) ≤ s0 ∧ s0 ≤ min 3000 (B0 + off); omega
    · show max 0 (B1 - off) ≤ s1 ∧ s1 ≤ min 3000 (B1 + off); omega
  · show max 1 (H - off) ≤ hei ∧ hei ≤ min 3000 (H + off); omega
  · show max 0 (9 - off) ≤ 9 ∧ 9 ≤ min 20 (9 + off); omega

/-- Each inner measure and gap lies in Inner. -/
theorem seen_inner {off P0 P1 P2 P3 T0 T1 B0 B1 H p0 p1 p2 p3 t0 t1 s0 s1 hei : Int} {o : Bool} (h : Seen off P0 P1 P2 P3 T0 T1 B0 B1 H p0 p1 p2 p3 t0 t1 s0 s1 hei o) (B : Blank4 p0 p1 p2 p3 t0 t1 s0 s1 hei o) {cl ch c : Int} (c0 : cl ≤ c) (c1 : c ≤ ch) {k : Nat} (hk : k < 9) :
    (innerAt off H [P0, P1, P2, P3] [T0, T1] [B0, B1] o cl ch k).lo ≤ micN p0 p1 p2 p3 t0 t1 s0 s1 hei o c k ∧ micN p0 p1 p2 p3 t0 t1 s0 s1 hei o c k ≤ (innerAt off H [P0, P1, P2, P3] [T0, T1] [B0, B1] o cl ch k).hi := by
  obtain ⟨n0, n1, n2, n3, n4, n5, n6, n7, n8, n9⟩ := B
  obtain ⟨h0, a0, a1, a2, a3, a4, a5, a6, a7⟩ := h
  unfold Near at a0 a1 a2 a3 a4 a5 a6 a7
  unfold micN innerAt insideS
  have e4 : ∀ j : Nat, j ≠ 4 → lostL (j : Int) o = 1 := fun j hj => by unfold lostL; rw [if_neg (by omega)]
  match k, hk with
  | 0, _ => rw [e4 0 (by decide)]; simp [flatAt, flatN, nearL]; omega
  | 1, _ => rw [e4 1 (by decide)]; simp [flatAt, flatN, nearL]; omega
  | 2, _ => rw [e4 2 (by decide)]; simp [flatAt, flatN, nearL]; omega
  | 3, _ => rw [e4 3 (by decide)]; simp [flatAt, flatN, nearL]; omega
  | 4, _ =>
    rcases lostL_12 4 o with e | e
    · rw [show ((4 : Nat) : Int) = 4 from rfl, e]; simp [flatAt, flatN, nearL]; omega
    · rw [show ((4 : Nat) : Int) = 4 from rfl, e]; simp [flatAt, flatN, nearL]; omega
  | 5, _ =>
    rw [e4 5 (by decide)]
    cases o with
    | true => obtain ⟨rfl, rfl⟩ := n9 rfl; simp [flatAt, flatN, nearL, gapS, flapS]; omega
    | false => obtain ⟨q0, q1⟩ := a4 rfl; simp [flatAt, flatN, nearL, gapS, flapS]; omega
  | 6, _ =>
    rw [e4 6 (by decide)]
    cases o with
    | true => obtain ⟨rfl, rfl⟩ := n9 rfl; simp [flatAt, flatN, nearL, gapS, flapS]; omega
    | false => obtain ⟨q0, q1⟩ := a4 rfl; simp [flatAt, flatN, nearL, gapS, flapS]; omega
  | 7, _ => rw [e4 7 (by decide)]; simp [flatAt, flatN, nearL, gapS, flapS]; omega
  | 8, _ => rw [e4 8 (by decide)]; simp [flatAt, flatN, nearL, gapS, flapS]; omega

/-- May of a blank of four panels that may close with the caliper m. -/
theorem may4_any (off P0 P1 P2 P3 T0 T1 B0 B1 H : Int) (o : Bool) (W : Wi) (cl ch m : Int) (B : Blank4 P0 P1 P2 P3 T0 T1 B0 B1 H o) (HW : W.ok) (c : Cal2 cl ch) (hoff : inB 0 5 [off] = true) (m0 : cl ≤ m) (m1 : m ≤ ch) (hm : mayB ⟨off, H, 9, [P0, P1, P2, P3], [T0, T1], [B0, B1], o⟩ W m = true) (pa ta ba : Option Addr) (pc tc bc : Nat) (w : World) (hp : IRow w pa [P0, P1, P2, P3]) (ht : IRow w ta [T0, T1]) (hb : IRow w ba [B0, B1]) :
    Calls Try.prog 48 #[.agg #[.int .i64 30, .slice pa 4 pc, .int .i64 H, .slice ta 2 tc, .slice ba 2 bc, .int .i64 9, .bool o], .agg #[.int .i64 W.ll, .int .i64 W.lh, .int .i64 W.wl, .int .i64 W.wh, .int .i64 W.hl, .int .i64 W.hh, .int .i64 W.ol, .int .i64 W.oh, .int .i64 W.il, .int .i64 W.ih, .bool W.wo], .agg #[.int .i64 cl, .int .i64 ch], .int .i64 off] w fun e w' => ∃ n : Int, e = .returned (.tuple #[.int .i64 n, .int .i64 0]) ∧ (cl ≤ n ∧ n ≤ m) ∧ Gr w w' := by
  refine (may_any ⟨off, H, 9, [P0, P1, P2, P3], [T0, T1], [B0, B1], o⟩ W cl ch 30 pa ta ba pc tc bc w hp ht hb).mono fun e w' h => h.found ?_ c.1 m0 m1 hm
  have hM : measE [⟨cl, ch⟩] = 0 := by
    have := c.ok
    simp [measE, okSp, this]
  show firstE [checkE 30 H 9 [P0, P1, P2, P3] [T0, T1] [B0, B1] o, W.err, measE [⟨cl, ch⟩], if inB 0 5 [off] = true then 0 else 7] = 0
  rw [of_good B.good, show W.err = 0 from of_goodW HW, hM, if_pos hoff]
  rfl

end Go.Proofs.Ytoihnilgmdcndaa

namespace Go.Proofs.Ytoihnilgmdcndaa
set_option linter.unusedVariables false
set_option linter.unusedSimpArgs false
open Go.RowKit

/-- Nine spans are handed back, in a row that lies somewhere. -/
def InnerFound (L : Nat → Sp) (w : World) (e : Ending) (w' : World) : Prop :=
  ∃ b off cap, e = .returned (.tuple #[.slice (some ⟨b, off, none⟩) 9 cap, .int .i64 0]) ∧ Gr w w' ∧ SRow w' (some ⟨b, off, none⟩) ((List.range 9).map L)

set_option maxRecDepth 100000 in
theorem by_any (j off d : Int) (k : Nat) (hk : k < 9) (hj : -128 ≤ j ∧ j ≤ 127) (ho : 0 ≤ off ∧ off ≤ 5) (hd : j.tmod (off + 1) = d) (bw bo : Nat) (w : World) (lw : bw < w.heap.size) (cw : w.cell? ⟨bw, k, none⟩ = some (.int .i8 j)) (hb : Box w bo [.int .i64 off]) :
    Calls Try.prog 47 #[.int .i64 k, .pointer (some ⟨bw, 0, none⟩), .pointer (some ⟨bo, 0, none⟩)] w fun e w' => e = .returned (.int .i64 d) ∧ Gr w w' := by
  obtain ⟨hj0, hj1⟩ := hj
  obtain ⟨ho0, ho1⟩ := ho
  have w0 : IntKind.i64.wrap j = j := IntWalk.i64_in _ (by omega)
  have w1 : IntKind.i64.wrap (off + 1) = off + 1 := IntWalk.i64_in _ (by omega)
  have n0 : ¬ off + 1 = 0 := by omega
  have hd1 : -100 ≤ d ∧ d ≤ 100 := by
    have h1 := Int.tmod_lt_of_pos j (show 0 < off + 1 by omega)
    have h2 := Int.tmod_lt_of_pos (-j) (show 0 < off + 1 by omega)
    rw [Int.neg_tmod] at h2
    omega
  have w2 : IntKind.i64.wrap d = d := IntWalk.i64_in _ (by omega)
  have q := hb.2 0 _ rfl
  have hk9 : (k : Int) < 9 := by omega
  go_enter Try.func47, Try.ntmps47
  go_wp2
  go_quiet (fail)
  go_wp2
  go_ret
  exact ⟨rfl, Gr.drewN (Below.refl _ _) _⟩

end Go.Proofs.Ytoihnilgmdcndaa

namespace Go.Proofs.Ytoihnilgmdcndaa
set_option linter.unusedVariables false
set_option linter.unusedSimpArgs false
open Go.RowKit

/-- The blocks of a blank of one's own: B its cells, r, s, t its rows; all new, and apart. -/
def SeenD (Y : World) (B r s t : Nat) : Prop := (Y.heap.size ≤ B ∧ Y.heap.size ≤ r ∧ Y.heap.size ≤ s ∧ Y.heap.size ≤ t) ∧ B ≠ r ∧ B ≠ s ∧ B ≠ t ∧ r ≠ s ∧ r ≠ t ∧ s ≠ t

/-- What the blank holds. -/
def SeenW (Y : World) (B r cr s cs t ct : Nat) (o : Bool) (p0 p1 p2 p3 t0 t1 s0 s1 h : Int) (w : World) : Prop :=
  Gr Y w ∧ Own w B [.int .i64 30, .slice (some ⟨r, 0, none⟩) 4 cr, .int .i64 h, .slice (some ⟨s, 0, none⟩) 2 cs, .slice (some ⟨t, 0, none⟩) 2 ct, .int .i64 9, .bool o] ∧ Own w r [.int .i64 p0, .int .i64 p1, .int .i64 p2, .int .i64 p3] ∧ Own w s [.int .i64 t0, .int .i64 t1] ∧ Own w t [.int .i64 s0, .int .i64 s1]

theorem SeenW.keep {Y : World} {B r cr s cs t ct : Nat} {o : Bool} {p0 p1 p2 p3 t0 t1 s0 s1 h : Int} {w w' : World} (H : SeenW Y B r cr s cs t ct o p0 p1 p2 p3 t0 t1 s0 s1 h w) (g : Gr w w') : SeenW Y B r cr s cs t ct o p0 p1 p2 p3 t0 t1 s0 s1 h w' :=
  ⟨H.1.tr g, H.2.1.keep g, H.2.2.1.keep g, H.2.2.2.1.keep g, H.2.2.2.2.keep g⟩

theorem SeenW.rows {Y : World} {B r cr s cs t ct : Nat} {o : Bool} {p0 p1 p2 p3 t0 t1 s0 s1 h : Int} {w : World} (H : SeenW Y B r cr s cs t ct o p0 p1 p2 p3 t0 t1 s0 s1 h w) : IRow w (some ⟨r, 0, none⟩) [p0, p1, p2, p3] ∧ IRow w (some ⟨s, 0, none⟩) [t0, t1] ∧ IRow w (some ⟨t, 0, none⟩) [s0, s1] :=
  ⟨Own.row (l := [p0, p1, p2, p3]) H.2.2.1 (by simp), Own.row (l := [t0, t1]) H.2.2.2.1 (by simp), Own.row (l := [s0, s1]) H.2.2.2.2 (by simp)⟩

theorem SeenW.set_p0 {Y : World} {B r cr s cs t ct : Nat} {o : Bool} {p0 p1 p2 p3 t0 t1 s0 s1 h : Int} {w : World} (H : SeenW Y B r cr s cs t ct o p0 p1 p2 p3 t0 t1 s0 s1 h w) (D : SeenD Y B r s t) (z : Int) : SeenW Y B r cr s cs t ct o z p1 p2 p3 t0 t1 s0 s1 h (w.setCell ⟨r, 0, none⟩ (.int .i64 z)) :=
  ⟨H.1.setCell (p := ⟨r, 0, none⟩) (by obtain ⟨⟨a, b, c, d⟩, _⟩ := D; first | exact a | exact b | exact c | exact d) _, H.2.1.other (by obtain ⟨_, a, b, c, d, e, f⟩ := D; omega), H.2.2.1.set (i := 0) (by simp), H.2.2.2.1.other (by obtain ⟨_, a, b, c, d, e, f⟩ := D; omega), H.2.2.2.2.other (by obtain ⟨_, a, b, c, d, e, f⟩ := D; omega)⟩

theorem SeenW.set_p1 {Y : World} {B r cr s cs t ct : Nat} {o : Bool} {p0 p1 p2 p3 t0 t1 s0 s1 h : Int} {w : World} (H : SeenW Y B r cr s cs t ct o p0 p1 p2 p3 t0 t1 s0 s1 h w) (D : SeenD Y B r s t) (z : Int) : SeenW Y B r cr s cs t ct o p0 z p2 p3 t0 t1 s0 s1 h (w.setCell ⟨r, 1, none⟩ (.int .i64 z)) :=
  ⟨H.1.setCell (p := ⟨r, 1, none⟩) (by obtain ⟨⟨a, b, c, d⟩, _⟩ := D; first | exact a | exact b | exact c | exact d) _, H.2.1.other (by obtain ⟨_, a, b, c, d, e, f⟩ := D; omega), H.2.2.1.set (i := 1) (by simp), H.2.2.2.1.other (by obtain ⟨_, a, b, c, d, e, f⟩ := D; omega), H.2.2.2.2.other (by obtain ⟨_, a, b, c, d, e, f⟩ := D; omega)⟩

theorem SeenW.set_p2 {Y : World} {B r cr s cs t ct : Nat} {o : Bool} {p0 p1 p2 p3 t0 t1 s0 s1 h : Int} {w : World} (H : SeenW Y B r cr s cs t ct o p0 p1 p2 p3 t0 t1 s0 s1 h w) (D : SeenD Y B r s t) (z : Int) : SeenW Y B r cr s cs t ct o p0 p1 z p3 t0 t1 s0 s1 h (w.setCell ⟨r, 2, none⟩ (.int .i64 z)) :=
  ⟨H.1.setCell (p := ⟨r, 2, none⟩) (by obtain ⟨⟨a, b, c, d⟩, _⟩ := D; first | exact a | exact b | exact c | exact d) _, H.2.1.other (by obtain ⟨_, a, b, c, d, e, f⟩ := D; omega), H.2.2.1.set (i := 2) (by simp), H.2.2.2.1.other (by obtain ⟨_, a, b, c, d, e, f⟩ := D; omega), H.2.2.2.2.other (by obtain ⟨_, a, b, c, d, e, f⟩ := D; omega)⟩

theorem SeenW.set_p3 {Y : World} {B r cr s cs t ct : Nat} {o : Bool} {p0 p1 p2 p3 t0 t1 s0 s1 h : Int} {w : World} (H : SeenW Y B r cr s cs t ct o p0 p1 p2 p3 t0 t1 s0 s1 h w) (D : SeenD Y B r s t) (z : Int) : SeenW Y B r cr s cs t ct o p0 p1 p2 z t0 t1 s0 s1 h (w.setCell ⟨r, 3, none⟩ (.int .i64 z)) :=
  ⟨H.1.setCell (p := ⟨r, 3, none⟩) (by obtain ⟨⟨a, b, c, d⟩, _⟩ := D; first | exact a | exact b | exact c | exact d) _, H.2.1.other (by obtain ⟨_, a, b, c, d, e, f⟩ := D; omega), H.2.2.1.set (i := 3) (by simp), H.2.2.2.1.other (by obtain ⟨_, a, b, c, d, e, f⟩ := D; omega), H.2.2.2.2.other (by obtain ⟨_, a, b, c, d, e, f⟩ := D; omega)⟩

theorem SeenW.set_t0 {Y : World} {B r cr s cs t ct : Nat} {o : Bool} {p0 p1 p2 p3 t0 t1 s0 s1 h : Int} {w : World} (H : SeenW Y B r cr s cs t ct o p0 p1 p2 p3 t0 t1 s0 s1 h w) (D : SeenD Y B r s t) (z : Int) : SeenW Y B r cr s cs t ct o p0 p1 p2 p3 z t1 s0 s1 h (w.setCell ⟨s, 0, none⟩ (.int .i64 z)) :=
  ⟨H.1.setCell (p := ⟨s, 0, none⟩) (by obtain ⟨⟨a, b, c, d⟩, _⟩ := D; first | exact a | exact b | exact c | exact d) _, H.2.1.other (by obtain ⟨_, a, b, c, d, e, f⟩ := D; omega), H.2.2.1.other (by obtain ⟨_, a, b, c, d, e, f⟩ := D; omega), H.2.2.2.1.set (i := 0) (by simp), H.2.2.2.2.other (by obtain ⟨_, a, b, c, d, e, f⟩ := D; omega)⟩

theorem SeenW.set_t1 {Y : World} {B r cr s cs t ct : Nat} {o : Bool} {p0 p1 p2 p3 t0 t1 s0 s1 h : Int} {w : World} (H : SeenW Y B r cr s cs t ct o p0 p1 p2 p3 t0 t1 s0 s1 h w) (D : SeenD Y B r s t) (z : Int) : SeenW Y B r cr s cs t ct o p0 p1 p2 p3 t0 z s0 s1 h (w.setCell ⟨s, 1, none⟩ (.int .i64 z)) :=
  ⟨H.1.setCell (p := ⟨s, 1, none⟩) (by obtain ⟨⟨a, b, c, d⟩, _⟩ := D; first | exact a | exact b | exact c | exact d) _, H.2.1.other (by obtain ⟨_, a, b, c, d, e, f⟩ := D; omega), H.2.2.1.other (by obtain ⟨_, a, b, c, d, e, f⟩ := D; omega), H.2.2.2.1.set (i := 1) (by simp), H.2.2.2.2.other (by obtain ⟨_, a, b, c, d, e, f⟩ := D; omega)⟩

theorem SeenW.set_s0 {Y : World} {B r cr s cs t ct : Nat} {o : Bool} {p0 p1 p2 p3 t0 t1 s0 s1 h : Int} {w : World} (H : SeenW Y B r cr s cs t ct o p0 p1 p2 p3 t0 t1 s0 s1 h w) (D : SeenD Y B r s t) (z : Int) : SeenW Y B r cr s cs t ct o p0 p1 p2 p3 t0 t1 z s1 h (w.setCell ⟨t, 0, none⟩ (.int .i64 z)) :=
  ⟨H.1.setCell (p := ⟨t, 0, none⟩) (by obtain ⟨⟨a, b, c, d⟩, _⟩ := D; first | exact a | exact b | exact c | exact d) _, H.2.1.other (by obtain ⟨_, a, b, c, d, e, f⟩ := D; omega), H.2.2.1.other (by obtain ⟨_, a, b, c, d, e, f⟩ := D; omega), H.2.2.2.1.other (by obtain ⟨_, a, b, c, d, e, f⟩ := D; omega), H.2.2.2.2.set (i := 0) (by simp)⟩

theorem SeenW.set_s1 {Y : World} {B r cr s cs t ct : Nat} {o : Bool} {p0 p1 p2 p3 t0 t1 s0 s1 h : Int} {w : World} (H : SeenW Y B r cr s cs t ct o p0 p1 p2 p3 t0 t1 s0 s1 h w) (D : SeenD Y B r s t) (z : Int) : SeenW Y B r cr s cs t ct o p0 p1 p2 p3 t0 t1 s0 z h (w.setCell ⟨t, 1, none⟩ (.int .i64 z)) :=
  ⟨H.1.setCell (p := ⟨t, 1, none⟩) (by obtain ⟨⟨a, b, c, d⟩, _⟩ := D; first | exact a | exact b | exact c | exact d) _, H.2.1.other (by obtain ⟨_, a, b, c, d, e, f⟩ := D; omega), H.2.2.1.other (by obtain ⟨_, a, b, c, d, e, f⟩ := D; omega), H.2.2.2.1.other (by obtain ⟨_, a, b, c, d, e, f⟩ := D; omega), H.2.2.2.2.set (i := 1) (by simp)⟩

theorem SeenW.set_h {Y : World} {B r cr s cs t ct : Nat} {o : Bool} {p0 p1 p2 p3 t0 t1 s0 s1 h : Int} {w : World} (H : SeenW Y B r cr s cs t ct o p0 p1 p2 p3 t0 t1 s0 s1 h w) (D : SeenD Y B r s t) (z : Int) : SeenW Y B r cr s cs t ct o p0 p1 p2 p3 t0 t1 s0 s1 z (w.setCell ⟨B, 2, none⟩ (.int .i64 z)) :=
  ⟨H.1.setCell (p := ⟨B, 2, none⟩) (by obtain ⟨⟨a, b, c, d⟩, _⟩ := D; first | exact a | exact b | exact c | exact d) _, H.2.1.set (i := 2) (by simp), H.2.2.1.other (by obtain ⟨_, a, b, c, d, e, f⟩ := D; omega), H.2.2.2.1.other (by obtain ⟨_, a, b, c, d, e, f⟩ := D; omega), H.2.2.2.2.other (by obtain ⟨_, a, b, c, d, e, f⟩ := D; omega)⟩

theorem nine_cell {w : World} {b : Nat} {f : Nat → Int} (h : Box w b [.int .i64 (f 0), .int .i64 (f 1), .int .i64 (f 2), .int .i64 (f 3), .int .i64 (f 4), .int .i64 (f 5), .int .i64 (f 6), .int .i64 (f 7), .int .i64 (f 8)]) {i : Nat} (hi : i < 9) : w.cell? ⟨b, i, none⟩ = some (.int .i64 (f i)) := by
  match i, hi with
  | 0, _ => exact h.2 0 _ rfl
  | 1, _ => exact h.2 1 _ rfl
  | 2, _ => exact h.2 2 _ rfl
  | 3, _ => exact h.2 3 _ rfl
  | 4, _ => exact h.2 4 _ rfl
  | 5, _ => exact h.2 5 _ rfl
  | 6, _ => exact h.2 6 _ rfl
  | 7, _ => exact h.2 7 _ rfl
  | 8, _ => exact h.2 8 _ rfl

end Go.Proofs.Ytoihnilgmdcndaa

namespace Go.Proofs.Ytoihnilgmdcndaa
set_option linter.unusedVariables false
set_option linter.unusedSimpArgs false
open Go.RowKit

theorem wp_region_late {P : Program} {Q : Exit → Act → World → Prop} {id : Nat} {W : World} {l : List Oper} (n p q : Nat) (late : List Nat) (c d : List Value) (t : TypeId) (ds : List (Nat × Nat)) (fr : (Nat → Value) → Act) (x0 : Nat → Value) (Fs : List (World → Value → Prop)) {a : Act} (ha : a = fr x0) (hm : P.follows .mixedOrders = true)
  (hB : (decide (n < l.toArray.size) && Region.sinkB .any l.toArray n && Region.chainB .any l.toArray n && minB .any l.toArray n && Region.seqB .any l.toArray (l.toArray.size - n) n (Array.replicate n true ++ Array.replicate (l.toArray.size - n) false)) = true)
  (hD : depB .any l.toArray ds = true)
  (hst : ∀ (i : Nat) (F : World → Value → Prop), Fs[i]? = some F → Stays F)
  (hpq : p < n ∧ q < n ∧ p ≠ q ∧ p ∉ late ∧ q ∉ late) (hall : ((List.range n).all fun i => i == q || late.contains i || ds.contains (q, i)) = true)
  (hstep : ∀ i, i < n → i ≠ p → i ≠ q → i ∉ late → ∀ x v, Gr W v → (∀ (j : Nat) (F : World → Value → Prop), (i, j) ∈ ds → j ≠ p → j ≠ q → Fs[j]? = some F → F v (x j)) → ∀ K : Act → World → Prop, (∀ u v', Gr v v' → (∀ F : World → Value → Prop, Fs[i]? = some F → F v' u) → K (fr (upd x i u)) v') → wpOp P l.toArray Q i K (fr x) v)
  (hp : ∀ x v, Gr W v → ∀ K : Act → World → Prop, K (fr (upd x p (.pointer (some ⟨v.heap.size, 0, none⟩)))) (v.alloc (.cells c.toArray t)) → wpOp P l.toArray Q p K (fr x) v)
  (hq : ∀ x v b, Gr W v → W.heap.size ≤ b → x p = .pointer (some ⟨b, 0, none⟩) → Own v b c → (∀ (j : Nat) (F : World → Value → Prop), (q, j) ∈ ds → j ≠ p → Fs[j]? = some F → F v (x j)) → ∀ K : Act → World → Prop, (∀ v', Gr W v' → Own v' b d → K (fr x) v') → wpOp P l.toArray Q q K (fr x) v)
  (hl : ∀ i, i < n → i ∈ late → ∀ x v, Gr W v → (∀ (j : Nat) (F : World → Value → Prop), (i, j) ∈ ds → j ≠ p → j ≠ q → Fs[j]? = some F → ∃ v0, F v0 (x j)) → ∀ K : Act → World → Prop, (∀ u, (∀ F : World → Value → Prop, Fs[i]? = some F → ∀ v0, F v0 u) → K (fr (upd x i u)) v) → wpOp P l.toArray Q i K (fr x) v)
  (hend : ∀ x v b, Gr W v → W.heap.size ≤ b → x p = .pointer (some ⟨b, 0, none⟩) → Own v b d → (∀ (j : Nat) (F : World → Value → Prop), j < n → j ≠ p → j ≠ q → Fs[j]? = some F → ∃ v0, F v0 (x j)) → wpList P l.toArray Q (l.drop n) (fr x) v) : (Code.region id l.toArray true).wp P Q a W := by
 subst ha
 obtain ⟨hpn, hqn, hne, hpl, hql⟩ := hpq
 have hqd : ∀ i, i < n → i ≠ q → i ∉ late → (q, i) ∈ ds := fun i hi h1 h2 => by
  have := List.all_eq_true.1 hall i (List.mem_range.2 hi)
  simpa [h1, h2] using this
 refine wp_region_inv' n ds (fun _ listed a v => ∃ x, a = fr x ∧ Gr W v ∧ (listed.getD p false = true → ∃ b, x p = .pointer (some ⟨b, 0, none⟩) ∧ W.heap.size ≤ b ∧ Own v b (if listed.getD q false = true then d else c)) ∧
   (∀ (j : Nat) (F : World → Value → Prop), j ≠ p → j ≠ q → Fs[j]? = some F → listed.getD j false = true → (if listed.getD q false = true then ∃ v0, F v0 (x j) else F v (x j))) ∧ (listed.getD q false = true → ∀ i, (q, i) ∈ ds → listed.getD i false = true)) hm hB hD
  ⟨x0, rfl, Gr.dr W, fun h => (by rw [getD_replicate_false] at h; cases h), fun j F _ _ _ h => (by rw [getD_replicate_false] at h; cases h), fun h => (by rw [getD_replicate_false] at h; cases h)⟩ ?_ ?_
 ·rintro i hi listed a v hun hdep ⟨x, rfl, gv, hv, hf, hqa⟩
  obtain ⟨hif, hit⟩ := getD_hun hun
  by_cases e1 : i = p
  ·subst e1
   have hqf : listed.getD q false = false := by
    cases hb : listed.getD q false with
    | false => rfl
    | true => rw [hqa hb i (hqd i hi hne hpl)] at hif; cases hif
   refine hp x v gv _ ⟨_, rfl, gv.tr (Gr.al v _), fun _ => ⟨_, upd_at _ _ _, gv.size, ?_⟩, fun j F h1 h2 hF hl => ?_, fun hl => ?_⟩
   ·rw [getD_set_ne false hne, hqf]
    exact Own.new v c t _ rfl
   ·have := hf j F h1 h2 hF (by rwa [getD_set_ne false (fun e => h1 e.symm)] at hl)
    rw [getD_set_ne false hne]
    rw [hqf] at this ⊢
    rw [upd_ne x _ h1]
    exact hst j F hF _ _ _ (Gr.al v _) this
   ·rw [getD_set_ne false hne, hqf] at hl
    cases hl
  ·by_cases e2 : i = q
   ·subst e2
    have hpt : listed.getD p false = true := hdep p (hqd p hpn hne hpl)
    obtain ⟨b, b1, b2, b3⟩ := hv hpt
    rw [hif] at b3
    refine hq x v b gv b2 b1 b3 (fun j F hj h1 hF => ?_) _ (fun v' hg ho => ⟨x, rfl, hg, fun _ => ⟨b, b1, b2, ?_⟩, fun j F h1 h2 hF hl => ?_, fun _ j hj => ?_⟩)
    ·by_cases e : j = i
     ·subst e
      have := hdep j hj
      rw [hif] at this
      cases this
     ·have := hf j F h1 e hF (hdep j hj)
      rw [hif] at this
      exact this
    ·rw [hit]; exact ho
    ·have := hf j F h1 h2 hF (by rwa [getD_set_ne false (fun e => h2 e.symm)] at hl)
     rw [hif] at this
     rw [hit]
     exact ⟨v, this⟩
    ·by_cases e : i = j
     ·subst e; exact hit
     ·rw [getD_set_ne false e]; exact hdep j hj
   ·by_cases e3 : i ∈ late
    ·refine hl i hi e3 x v gv (fun j F hj h1 h2 hF => ?_) _ (fun u hu => ⟨upd x i u, rfl, gv, fun hl => ?_, fun j F h1 h2 hF hl => ?_, fun hl j hj => ?_⟩)
     ·have := hf j F h1 h2 hF (hdep j hj)
      split at this
      ·exact this
      ·exact ⟨v, this⟩
     ·rw [getD_set_ne false e1] at hl
      rw [upd_ne x u (fun e => e1 e.symm), getD_set_ne false e2]
      exact hv hl
     ·rw [getD_set_ne false e2]
      by_cases e : j = i
      ·subst e
       rw [upd_at]
       split
       ·exact ⟨v, hu F hF v⟩
       ·exact hu F hF v
      ·rw [upd_ne x u e]
       exact hf j F h1 h2 hF (by rwa [getD_set_ne false (fun e' => e e'.symm)] at hl)
     ·rw [getD_set_ne false e2] at hl
      by_cases e : i = j
      ·subst e; exact hit
      ·rw [getD_set_ne false e]; exact hqa hl j hj
    ·have hqf : listed.getD q false = false := by
      cases hb : listed.getD q false with
      | false => rfl
      | true => rw [hqa hb i (hqd i hi e2 e3)] at hif; cases hif
     refine hstep i hi e1 e2 e3 x v gv (fun j F hj h1 h2 hF => ?_) _ (fun u v' hg hu => ⟨upd x i u, rfl, gv.tr hg, fun hl => ?_, fun j F h1 h2 hF hl => ?_, fun hl => ?_⟩)
     ·have := hf j F h1 h2 hF (hdep j hj)
      rw [hqf] at this
      exact this
     ·rw [getD_set_ne false e1] at hl
      obtain ⟨b, b1, b2, b3⟩ := hv hl
      refine ⟨b, by rw [upd_ne x u (fun e => e1 e.symm)]; exact b1, b2, ?_⟩
      rw [getD_set_ne false e2]
      exact b3.keep hg
     ·rw [getD_set_ne false e2, hqf]
      by_cases e : j = i
      ·subst e
       rw [upd_at]
       exact hu F hF
      ·rw [upd_ne x u e]
       have := hf j F h1 h2 hF (by rwa [getD_set_ne false (fun e' => e e'.symm)] at hl)
       rw [hqf] at this
       exact hst j F hF _ _ _ hg this
     ·rw [getD_set_ne false e2, hqf] at hl
      cases hl
 ·rintro listed a v hs hall' ⟨x, rfl, gv, hv, hf, hqa⟩
  have hl1 : ∀ j, j < n → listed.getD j false = true := fun j hj => by
   have h1 := hall' j hj
   have hl : j < listed.size := by omega
   simp [hl] at h1 ⊢
   exact h1
  obtain ⟨b, b1, b2, b3⟩ := hv (hl1 p hpn)
  rw [hl1 q hqn] at b3
  exact hend x v b gv b2 b1 b3 (fun j F hj h1 h2 hF => by
   have := hf j F h1 h2 hF (hl1 j hj)
   rw [hl1 q hqn] at this
   exact this)

/-- A load's and a store's fact: what held at some time. -/
theorem late_of {F : World → Value → Prop} {y : Value} {u : Value} (h : ∃ v0, F v0 y) (hF : ∀ v0, F v0 y → y = u) : y = u := by
 obtain ⟨v0, h⟩ := h
 exact hF v0 h

end Go.Proofs.Ytoihnilgmdcndaa

namespace Go.Proofs.Ytoihnilgmdcndaa
set_option linter.unusedVariables false
set_option linter.unusedSimpArgs false
open Go.RowKit

/-- D: values that lead to new blocks, or to those of such a value that came before; E: variables; p and q: the writes, one after the other, behind all others but the late ones; late: operations whose values do not hang on the world. -/
theorem wp_region_ownlate {P : Program} {Q : Exit → Act → World → Prop} {id : Nat} {W : World} {l : List Oper} (n p q : Nat) (late : List Nat) (ds : List (Nat × Nat)) (D E : List Nat) (hDE : ∀ j ∈ D, j ∉ E) (S1 S2 : (Nat → Value) → World → World → Prop) (fr : (Nat → Value) → Act) (x0 : Nat → Value) (Fs : List (World → Value → Prop)) {a : Act} (ha : a = fr x0) (hm : P.follows .mixedOrders = true)
    (hB : (decide (n < l.toArray.size) && Region.sinkB .any l.toArray n && Region.chainB .any l.toArray n && minB .any l.toArray n && Region.seqB .any l.toArray (l.toArray.size - n) n (Array.replicate n true ++ Array.replicate (l.toArray.size - n) false)) = true)
    (hD : depB .any l.toArray ds = true)
    (hst : ∀ (i : Nat) (F : World → Value → Prop), Fs[i]? = some F → Stays F)
    (hpq : p < n ∧ q < n ∧ p ≠ q ∧ p ∉ late ∧ q ∉ late ∧ (q, p) ∈ ds) (hlt : ∀ i ∈ late, i ∉ D ∧ i ∉ E) (hpd : (p ∉ D ∧ p ∉ E) ∧ q ∉ D ∧ q ∉ E) (hdn : ∀ e ∈ ds, e.2 < n) (hld : ∀ e ∈ ds, e.1 ∈ late → e.2 ≠ p ∧ e.2 ≠ q) (hall : ((List.range n).all fun i => i == p || i == q || late.contains i || ds.contains (p, i) || ds.any fun e => e.2 == i && ds.contains (p, e.1)) = true)
    (hS : ∀ x i u v0 v, i ∈ late → (S1 x v0 v → S1 (upd x i u) v0 v) ∧ (S2 x v0 v → S2 (upd x i u) v0 v))
    (hstep : ∀ i, i < n → i ≠ p → i ≠ q → i ∉ late → ∀ x v, Gr W v → (∀ (j : Nat) (F : World → Value → Prop), (i, j) ∈ ds → Fs[j]? = some F → F v (x j)) → ∀ K : Act → World → Prop, (∀ u v', Gr v v' → (∀ F : World → Value → Prop, Fs[i]? = some F → F v' u) → (i ∈ D ∨ i ∈ E → ∀ b, hasB u b → (v.heap.size ≤ b ∧ b < v'.heap.size) ∨ (i ∈ D ∧ ∃ j ∈ D, (i, j) ∈ ds ∧ hasB (x j) b)) → K (fr (upd x i u)) v') → wpOp P l.toArray Q i K (fr x) v)
    (hl : ∀ i, i < n → i ∈ late → ∀ x v, Gr W v → (∀ (j : Nat) (F : World → Value → Prop), (i, j) ∈ ds → Fs[j]? = some F → ∃ v0, F v0 (x j)) → ∀ K : Act → World → Prop, (∀ u, (∀ F : World → Value → Prop, Fs[i]? = some F → ∀ v0, F v0 u) → K (fr (upd x i u)) v) → wpOp P l.toArray Q i K (fr x) v)
    (hp : ∀ x v, Gr W v → (∀ (j : Nat) (F : World → Value → Prop), j < n → j ≠ p → j ≠ q → j ∉ late → Fs[j]? = some F → F v (x j)) → (∀ i j, (i ∈ D ∨ i ∈ E) → j ∈ E → i ≠ j → i < n → j < n → ∀ b, hasB (x i) b → ¬ hasB (x j) b) → ∀ K : Act → World → Prop, (∀ v', Gr W v' → S1 x v v' → K (fr x) v') → wpOp P l.toArray Q p K (fr x) v)
    (hq : ∀ x v0 v, Gr W v0 → Gr W v → (∀ (j : Nat) (F : World → Value → Prop), j < n → j ≠ p → j ≠ q → j ∉ late → Fs[j]? = some F → F v0 (x j)) → (∀ i j, (i ∈ D ∨ i ∈ E) → j ∈ E → i ≠ j → i < n → j < n → ∀ b, hasB (x i) b → ¬ hasB (x j) b) → S1 x v0 v → ∀ K : Act → World → Prop, (∀ v', Gr W v' → S2 x v0 v' → K (fr x) v') → wpOp P l.toArray Q q K (fr x) v)
    (hend : ∀ x v0 v, Gr W v0 → Gr W v → (∀ (j : Nat) (F : World → Value → Prop), j < n → j ≠ p → j ≠ q → j ∉ late → Fs[j]? = some F → F v0 (x j)) → (∀ (j : Nat) (F : World → Value → Prop), j < n → j ∈ late → Fs[j]? = some F → ∃ v1, F v1 (x j)) → (∀ i j, (i ∈ D ∨ i ∈ E) → j ∈ E → i ≠ j → i < n → j < n → ∀ b, hasB (x i) b → ¬ hasB (x j) b) → S2 x v0 v → wpList P l.toArray Q (l.drop n) (fr x) v) : (Code.region id l.toArray true).wp P Q a W := by
  subst ha
  obtain ⟨hpn, hqn, hne, hpl, hql, hqp⟩ := hpq
  obtain ⟨⟨hpD, hpE⟩, hqD, hqE⟩ := hpd
  have hcd : ∀ i, i < n → i ≠ p → i ≠ q → i ∉ late → (p, i) ∈ ds ∨ ∃ e ∈ ds, e.2 = i ∧ (p, e.1) ∈ ds := fun i hi h1 h2 h3 => by
    have := List.all_eq_true.1 hall i (List.mem_range.2 hi)
    simp only [beq_eq_false_iff_ne.2 h1, beq_eq_false_iff_ne.2 h2, Bool.false_or, Bool.or_eq_true, List.contains_iff_mem, h3, List.any_eq_true, Bool.and_eq_true, beq_iff_eq, false_or] at this
    rcases this with h | ⟨e, he, h4, h5⟩
    · exact .inl h
    · exact .inr ⟨e, he, h4, h5⟩
  refine wp_region_inv' n ds (fun _ listed a v => ∃ x, a = fr x ∧ Gr W v ∧
      (listed.getD p false = false → (∀ (j : Nat) (F : World → Value → Prop), Fs[j]? = some F → j ≠ p → j ≠ q → listed.getD j false = true → F v (x j)) ∧ (∀ j, (j ∈ D ∨ j ∈ E) → listed.getD j false = true → ∀ b, hasB (x j) b → b < v.heap.size) ∧
        (∀ i j, (i ∈ D ∨ i ∈ E) → j ∈ E → i ≠ j → listed.getD i false = true → listed.getD j false = true → ∀ b, hasB (x i) b → ¬ hasB (x j) b)) ∧
      (listed.getD p false = true → (∀ i, i < n → i ≠ p → i ≠ q → i ∉ late → listed.getD i false = true) ∧ ∃ v0, Gr W v0 ∧ (∀ (j : Nat) (F : World → Value → Prop), j < n → j ≠ p → j ≠ q → j ∉ late → Fs[j]? = some F → F v0 (x j)) ∧ (∀ (j : Nat) (F : World → Value → Prop), j < n → j ∈ late → listed.getD j false = true → Fs[j]? = some F → ∃ v1, F v1 (x j)) ∧
        (∀ i j, (i ∈ D ∨ i ∈ E) → j ∈ E → i ≠ j → i < n → j < n → ∀ b, hasB (x i) b → ¬ hasB (x j) b) ∧ (listed.getD q false = false → S1 x v0 v) ∧ (listed.getD q false = true → S2 x v0 v)) ∧
      (listed.getD q false = true → listed.getD p false = true) ∧ (∀ e ∈ ds, listed.getD e.1 false = true → listed.getD e.2 false = true)) hm hB hD
    ⟨x0, rfl, Gr.dr W, fun _ => ⟨fun j F _ _ _ h => (by rw [getD_replicate_false] at h; cases h), fun j _ h => (by rw [getD_replicate_false] at h; cases h), fun i j _ _ _ h => (by rw [getD_replicate_false] at h; cases h)⟩, fun h => (by rw [getD_replicate_false] at h; cases h), fun h => (by rw [getD_replicate_false] at h; cases h), fun e _ h => (by rw [getD_replicate_false] at h; cases h)⟩ ?_ ?_
  · rintro i hi listed a v hun hdep ⟨x, rfl, gv, hA, hC, hqq, hT⟩
    obtain ⟨hif, hit⟩ := getD_hun hun
    have hT2 : ∀ e ∈ ds, (listed.setIfInBounds i true).getD e.1 false = true → (listed.setIfInBounds i true).getD e.2 false = true := fun e he h => by
      have h2 : listed.getD e.2 false = true := by
        by_cases h1 : i = e.1
        · exact hdep e.2 (by rw [h1]; exact he)
        · rw [getD_set_ne false h1] at h; exact hT e he h
      by_cases h1 : i = e.2
      · rw [← h1]; exact hit
      · rw [getD_set_ne false h1]; exact h2
    by_cases e1 : i = p
    · subst e1
      obtain ⟨hf, hb, hap⟩ := hA hif
      have lc : ∀ j, j < n → j ≠ i → j ≠ q → j ∉ late → listed.getD j false = true := fun j h1 h2 h3 h4 => by
        rcases hcd j h1 h2 h3 h4 with h | ⟨e, he, h5, h6⟩
        · exact hdep j h
        · rw [← h5]; exact hT e he (hdep e.1 h6)
      have hqf : listed.getD q false = false := by
        cases hb2 : listed.getD q false with
        | false => rfl
        | true => rw [hqq hb2] at hif; cases hif
      have F1 : ∀ (j : Nat) (F : World → Value → Prop), j < n → j ≠ i → j ≠ q → j ∉ late → Fs[j]? = some F → F v (x j) := fun j F hj h1 h2 h3 hF => hf j F hF h1 h2 (lc j hj h1 h2 h3)
      have ls : ∀ j, (j ∈ D ∨ j ∈ E) → j < n → listed.getD j false = true := fun j hj hjn =>
        lc j hjn (fun e => by subst e; rcases hj with h | h <;> contradiction) (fun e => by subst e; rcases hj with h | h <;> contradiction) (fun h => by obtain ⟨h1, h2⟩ := hlt j h; rcases hj with h | h <;> contradiction)
      have A1 : ∀ i j, (i ∈ D ∨ i ∈ E) → j ∈ E → i ≠ j → i < n → j < n → ∀ b, hasB (x i) b → ¬ hasB (x j) b := fun k j hk hj hkj hkn hjn => hap k j hk hj hkj (ls k hk hkn) (ls j (.inr hj) hjn)
      refine hp x v gv F1 A1 _ (fun v' gv' hs => ⟨x, rfl, gv', fun h => ?_, fun _ => ⟨fun j hj h1 h2 h3 => ?_, v, gv, F1, fun j F hj h1 hlj hF => ?_, A1, fun _ => hs, fun h => ?_⟩, fun _ => hit, hT2⟩)
      · rw [hit] at h; cases h
      · rw [getD_set_ne false (fun e => h1 e.symm)]; exact lc j hj h1 h2 h3
      · have h2 : j ≠ i := fun e => hpl (e ▸ h1)
        have h3 : j ≠ q := fun e => hql (e ▸ h1)
        exact ⟨v, hf j F hF h2 h3 (by rwa [getD_set_ne false (fun e => h2 e.symm)] at hlj)⟩
      · rw [getD_set_ne false hne, hqf] at h; cases h
    · by_cases e2 : i = q
      · subst e2
        have hpt : listed.getD p false = true := hdep p hqp
        obtain ⟨c1, v0, g0, c2, c3, c4, c5, _⟩ := hC hpt
        refine hq x v0 v g0 gv c2 c4 (c5 hif) _ (fun v' gv' hs => ⟨x, rfl, gv', fun h => ?_, fun _ => ⟨fun j hj h1 h2 h3 => ?_, v0, g0, c2, fun j F hj h1 hlj hF => ?_, c4, fun h => ?_, fun _ => hs⟩, fun _ => ?_, hT2⟩)
        · rw [getD_set_ne false (fun e => hne e.symm), hpt] at h; cases h
        · rw [getD_set_ne false (fun e => h2 e.symm)]; exact c1 j hj h1 h2 h3
        · exact c3 j F hj h1 (by rwa [getD_set_ne false (show i ≠ j from fun e => hql (by rw [e]; exact h1))] at hlj) hF
        · rw [hit] at h; cases h
        · rw [getD_set_ne false (fun e => hne e.symm)]; exact hpt
      · by_cases e3 : i ∈ late
        · refine hl i hi e3 x v gv (fun j F hj hF => ?_) _ (fun u hu => ⟨upd x i u, rfl, gv, fun h => ?_, fun h => ?_, fun h => ?_, hT2⟩)
          · have hjn : j < n := hdn _ hj
            obtain ⟨h1, h2⟩ := hld _ hj e3
            cases hb : listed.getD p false with
            | false => exact ⟨v, (hA hb).1 j F hF h1 h2 (hdep j hj)⟩
            | true =>
              obtain ⟨c1, v0, g0, c2, c3, c4, c5, c6⟩ := hC hb
              by_cases hjl : j ∈ late
              · exact c3 j F hjn hjl (hdep j hj) hF
              · exact ⟨v0, c2 j F hjn h1 h2 hjl hF⟩
          · rw [getD_set_ne false e1] at h
            obtain ⟨hf, hb, hap⟩ := hA h
            have hi2 := hlt i e3
            refine ⟨fun j F hF h1 h2 hlj => ?_, fun j hj hlj b hbb => ?_, fun j k hj hk hjk hl1 hl2 b hb1 hb2 => ?_⟩
            · by_cases e : j = i
              · subst e; rw [upd_at]; exact hu F hF v
              · rw [upd_ne x u e]; exact hf j F hF h1 h2 (by rwa [getD_set_ne false (fun e' => e e'.symm)] at hlj)
            · have e : j ≠ i := fun e => by subst e; rcases hj with h | h; exact hi2.1 h; exact hi2.2 h
              rw [upd_ne x u e] at hbb
              exact hb j hj (by rwa [getD_set_ne false (fun e' => e e'.symm)] at hlj) b hbb
            · have e : j ≠ i := fun e => by subst e; rcases hj with h | h; exact hi2.1 h; exact hi2.2 h
              have e' : k ≠ i := fun e => by subst e; exact hi2.2 hk
              rw [upd_ne x u e] at hb1
              rw [upd_ne x u e'] at hb2
              exact hap j k hj hk hjk (by rwa [getD_set_ne false (fun z => e z.symm)] at hl1) (by rwa [getD_set_ne false (fun z => e' z.symm)] at hl2) b hb1 hb2
          · rw [getD_set_ne false e1] at h
            obtain ⟨c1, v0, g0, c2, c3, c4, c5, c6⟩ := hC h
            have hi2 := hlt i e3
            refine ⟨fun j hj h1 h2 h3 => ?_, v0, g0, fun j F hj h1 h2 h3 hF => ?_, fun j F hj h1 hlj hF => ?_, fun j k hj hk hjk hjn hkn b hb1 hb2 => ?_, fun h4 => (hS x i u v0 v e3).1 (c5 (by rwa [getD_set_ne false e2] at h4)), fun h4 => (hS x i u v0 v e3).2 (c6 (by rwa [getD_set_ne false e2] at h4))⟩
            · rw [getD_set_ne false (show i ≠ j from fun e => h3 (by rw [← e]; exact e3))]; exact c1 j hj h1 h2 h3
            · rw [upd_ne x u (show j ≠ i from fun e => h3 (by rw [e]; exact e3))]; exact c2 j F hj h1 h2 h3 hF
            · by_cases e : j = i
              · subst e; rw [upd_at]; exact ⟨v, hu F hF v⟩
              · rw [upd_ne x u e]; exact c3 j F hj h1 (by rwa [getD_set_ne false (fun e' => e e'.symm)] at hlj) hF
            · have e : j ≠ i := fun e => by subst e; rcases hj with h | h; exact hi2.1 h; exact hi2.2 h
              have e' : k ≠ i := fun e => by subst e; exact hi2.2 hk
              rw [upd_ne x u e] at hb1
              rw [upd_ne x u e'] at hb2
              exact c4 j k hj hk hjk hjn hkn b hb1 hb2
          · rw [getD_set_ne false e2] at h
            rw [getD_set_ne false e1]
            exact hqq h
        · have hpf : listed.getD p false = false := by
            cases hb : listed.getD p false with
            | false => rfl
            | true => rw [(hC hb).1 i hi e1 e2 e3] at hif; cases hif
          have hqf : listed.getD q false = false := by
            cases hb2 : listed.getD q false with
            | false => rfl
            | true => rw [hqq hb2] at hpf; cases hpf
          obtain ⟨hf, hb, hap⟩ := hA hpf
          refine hstep i hi e1 e2 e3 x v gv (fun j F hj hF => hf j F hF (fun e => ?_) (fun e => ?_) (hdep j hj)) _ (fun u v' hg hu hn => ⟨upd x i u, rfl, gv.tr hg, fun _ => ⟨fun j F hF h1 h2 hlj => ?_, fun j hj hlj b hbb => ?_, fun j k hj hk hjk hl1 hl2 b hb1 hb2 => ?_⟩, fun h => ?_, fun h => ?_, hT2⟩)
          · subst e; rw [hdep j hj] at hpf; cases hpf
          · subst e; rw [hdep j hj] at hqf; cases hqf
          · by_cases e : j = i
            · subst e
              rw [upd_at]
              exact hu F hF
            · rw [upd_ne x u e]
              exact hst j F hF v v' _ hg (hf j F hF h1 h2 (by rwa [getD_set_ne false (fun e' => e e'.symm)] at hlj))
          · by_cases e : j = i
            · subst e
              rw [upd_at] at hbb
              rcases hn hj b hbb with h | ⟨_, k, hk, hkd, hkb⟩
              · exact h.2
              · exact Nat.lt_of_lt_of_le (hb k (.inl hk) (hdep k hkd) b hkb) hg.size
            · rw [upd_ne x u e] at hbb
              exact Nat.lt_of_lt_of_le (hb j hj (by rwa [getD_set_ne false (fun e' => e e'.symm)] at hlj) b hbb) hg.size
          · by_cases e4 : j = i
            · subst e4
              have e5 : ¬ k = j := fun e => hjk e.symm
              rw [upd_at] at hb1
              rw [upd_ne x u e5] at hb2
              have hl3 : listed.getD k false = true := by rwa [getD_set_ne false (fun e' => e5 e'.symm)] at hl2
              have h2 := hb k (.inr hk) hl3 b hb2
              rcases hn hj b hb1 with h | ⟨_, m, hm', hmd, hmb⟩
              · omega
              · exact hap m k (.inl hm') hk (fun e => hDE m hm' (e ▸ hk)) (hdep m hmd) hl3 b hmb hb2
            · rw [upd_ne x u e4] at hb1
              have h3 : listed.getD j false = true := by rwa [getD_set_ne false (fun e' => e4 e'.symm)] at hl1
              by_cases e5 : k = i
              · subst e5
                rw [upd_at] at hb2
                rcases hn (.inr hk) b hb2 with h | ⟨hd, _⟩
                · have h2 := hb j hj h3 b hb1
                  omega
                · exact absurd hk (hDE k hd)
              · rw [upd_ne x u e5] at hb2
                exact hap j k hj hk hjk h3 (by rwa [getD_set_ne false (fun e' => e5 e'.symm)] at hl2) b hb1 hb2
          · rw [getD_set_ne false e1, hpf] at h; cases h
          · rw [getD_set_ne false e2, hqf] at h; cases h
  · rintro listed a v hs hall' ⟨x, rfl, gv, hA, hC, hqq, hT⟩
    have hl1 : ∀ j, j < n → listed.getD j false = true := fun j hj => by
      have h1 := hall' j hj
      have hl : j < listed.size := by omega
      simp [hl] at h1 ⊢
      exact h1
    obtain ⟨c1, v0, g0, c2, c3, c4, c5, c6⟩ := hC (hl1 p hpn)
    exact hend x v0 v g0 gv c2 (fun j F hj h1 hF => c3 j F hj h1 (hl1 j hj) hF) c4 (c6 (hl1 q hqn))

end Go.Proofs.Ytoihnilgmdcndaa

namespace Go.Proofs.Ytoihnilgmdcndaa
set_option linter.unusedVariables false
set_option linter.unusedSimpArgs false
open Go.RowKit

set_option maxRecDepth 100000 in
set_option maxHeartbeats 16000000 in
theorem truth_core (x0 x1 x2 x3 x4 x5 x6 x7 x8 x9 x10 x11 x12 x13 x14 x15 x16 : Value) (j0 j1 j2 j3 j4 j5 j6 j7 j8 d0 d1 d2 d3 d4 d5 d6 d7 d8 : Int) (y0 y1 : Int) (hy0 : By y0) (hy1 : By y1) (off : Int) (hoff : y0 % 6 = off) (a0 a1 a2 a3 g0 g1 t0 t1 s0 s1 hei : Int) (o : Bool) (P0 P1 P2 P3 T0 T1 B0 B1 H : Int) (cl ch cp : Int) (W : Wi) (L : Nat → Sp)
  (HS : Hid (Sheet4 a0 a1 a0 a1 t0 t1 s0 s1 hei o)) (HK : Hid (Cal4 cl ch)) (HC : Hid (cl + y1 * (ch - cl) / 255 = cp ∧ cl ≤ cp ∧ cp ≤ ch))
  (BY : Hid (∀ bw bo v, Box v bw [.int .i8 j0, .int .i8 j1, .int .i8 j2, .int .i8 j3, .int .i8 j4, .int .i8 j5, .int .i8 j6, .int .i8 j7, .int .i8 j8] → Box v bo [.int .i64 off] → Calls Try.prog 47 #[.int .i64 0, .pointer (some ⟨bw, 0, none⟩), .pointer (some ⟨bo, 0, none⟩)] v (fun e w' => e = .returned (.int .i64 d0) ∧ Gr v w') ∧ Calls Try.prog 47 #[.int .i64 1, .pointer (some ⟨bw, 0, none⟩), .pointer (some ⟨bo, 0, none⟩)] v (fun e w' => e = .returned (.int .i64 d1) ∧ Gr v w') ∧ Calls Try.prog 47 #[.int .i64 2, .pointer (some ⟨bw, 0, none⟩), .pointer (some ⟨bo, 0, none⟩)] v (fun e w' => e = .returned (.int .i64 d2) ∧ Gr v w') ∧ Calls Try.prog 47 #[.int .i64 3, .pointer (some ⟨bw, 0, none⟩), .pointer (some ⟨bo, 0, none⟩)] v (fun e w' => e = .returned (.int .i64 d3) ∧ Gr v w') ∧ Calls Try.prog 47 #[.int .i64 4, .pointer (some ⟨bw, 0, none⟩), .pointer (some ⟨bo, 0, none⟩)] v (fun e w' => e = .returned (.int .i64 d4) ∧ Gr v w') ∧ Calls Try.prog 47 #[.int .i64 5, .pointer (some ⟨bw, 0, none⟩), .pointer (some ⟨bo, 0, none⟩)] v (fun e w' => e = .returned (.int .i64 d5) ∧ Gr v w') ∧ Calls Try.prog 47 #[.int .i64 6, .pointer (some ⟨bw, 0, none⟩), .pointer (some ⟨bo, 0, none⟩)] v (fun e w' => e = .returned (.int .i64 d6) ∧ Gr v w') ∧ Calls Try.prog 47 #[.int .i64 7, .pointer (some ⟨bw, 0, none⟩), .pointer (some ⟨bo, 0, none⟩)] v (fun e w' => e = .returned (.int .i64 d7) ∧ Gr v w') ∧ Calls Try.prog 47 #[.int .i64 8, .pointer (some ⟨bw, 0, none⟩), .pointer (some ⟨bo, 0, none⟩)] v (fun e w' => e = .returned (.int .i64 d8) ∧ Gr v w')))
  (HP : Hid ((a0 + d0 = P0 ∧ a1 + d1 = P1 ∧ a0 + d2 = P2 ∧ a1 + d3 = P3) ∧ (max 0 (s0 + d4) = B0 ∧ max 0 (s1 + d5) = B1) ∧ (o = false → max 0 (t0 + d6) = T0 ∧ max 0 (t1 + d7) = T1) ∧ (o = true → T0 = t0 ∧ T1 = t1) ∧ hei + d8 = H))
  (HD : Hid (∀ d, d ∈ [d0, d1, d2, d3, d4, d5, d6, d7, d8] → -5 ≤ d ∧ d ≤ 5))
  (SB : Hid (∀ v, Calls Try.prog 39 #[.agg #[x0, x1, x2, x3, x4, x5, x6, x7, x8, x9, x10, x11, x12, x13, x14, x15, x16]] v (BlankNew a0 a1 a2 a3 g0 g1 s0 s1 hei o v)))
  (TW : Hid (∀ pa ta ba pc tc bc v, IRow v pa [a0, a1, a2, a3] → IRow v ta [g0, g1] → IRow v ba [s0, s1] → Calls Try.prog 38 #[.agg #[.int .i64 30, .slice pa 4 pc, .int .i64 hei, .slice ta 2 tc, .slice ba 2 bc, .int .i64 9, .bool o]] v (TwinAt a0 a1 t0 t1 hei o ba bc v)))
  (SC : Hid (∀ v, Calls Try.prog 40 #[.agg #[x0, x1, x2, x3, x4, x5, x6, x7, x8, x9, x10, x11, x12, x13, x14, x15, x16]] v fun e w' => e = .returned (.agg #[.int .i64 cl, .int .i64 ch]) ∧ Gr v w'))
  (WI : Hid (∀ pa ta ba pc tc bc v, IRow v pa [a0, a1, a0, a1] → IRow v ta [t0, t1] → IRow v ba [s0, s1] → Calls Try.prog 41 #[.agg #[x0, x1, x2, x3, x4, x5, x6, x7, x8, x9, x10, x11, x12, x13, x14, x15, x16], .agg #[.int .i64 30, .slice pa 4 pc, .int .i64 hei, .slice ta 2 tc, .slice ba 2 bc, .int .i64 9, .bool o], .agg #[.int .i64 cl, .int .i64 ch]] v fun e w' => e = .returned (.agg #[.int .i64 W.ll, .int .i64 W.lh, .int .i64 W.wl, .int .i64 W.wh, .int .i64 W.hl, .int .i64 W.hh, .int .i64 W.ol, .int .i64 W.oh, .int .i64 W.il, .int .i64 W.ih, .bool W.wo]) ∧ Gr v w'))
  (IN : Hid (∀ pa ta ba pc tc bc v, IRow v pa [P0, P1, P2, P3] → IRow v ta [T0, T1] → IRow v ba [B0, B1] → Calls Try.prog 23 #[.agg #[.int .i64 30, .slice pa 4 pc, .int .i64 H, .slice ta 2 tc, .slice ba 2 bc, .int .i64 9, .bool o], .agg #[.int .i64 cl, .int .i64 ch], .int .i64 off] v (InnerFound L v)))
  (IM : Hid (∀ k, k < 9 → (L k).lo ≤ micN a0 a1 a0 a1 t0 t1 s0 s1 hei o cp k ∧ micN a0 a1 a0 a1 t0 t1 s0 s1 hei o cp k ≤ (L k).hi))
  (MI : Hid (∀ pa ta ba pc tc bc v, IRow v pa [a0, a1, a0, a1] → IRow v ta [t0, t1] → IRow v ba [s0, s1] → Calls Try.prog 44 #[.agg #[.int .i64 30, .slice pa 4 pc, .int .i64 hei, .slice ta 2 tc, .slice ba 2 bc, .int .i64 9, .bool o], .int .i64 cp] v fun e w' => e = .returned (.agg #[.int .i64 (micN a0 a1 a0 a1 t0 t1 s0 s1 hei o cp 0), .int .i64 (micN a0 a1 a0 a1 t0 t1 s0 s1 hei o cp 1), .int .i64 (micN a0 a1 a0 a1 t0 t1 s0 s1 hei o cp 2), .int .i64 (micN a0 a1 a0 a1 t0 t1 s0 s1 hei o cp 3), .int .i64 (micN a0 a1 a0 a1 t0 t1 s0 s1 hei o cp 4), .int .i64 (micN a0 a1 a0 a1 t0 t1 s0 s1 hei o cp 5), .int .i64 (micN a0 a1 a0 a1 t0 t1 s0 s1 hei o cp 6), .int .i64 (micN a0 a1 a0 a1 t0 t1 s0 s1 hei o cp 7), .int .i64 (micN a0 a1 a0 a1 t0 t1 s0 s1 hei o cp 8)]) ∧ Gr v w'))
  (MA : Hid (∀ pa ta ba pc tc bc v, IRow v pa [P0, P1, P2, P3] → IRow v ta [T0, T1] → IRow v ba [B0, B1] → Calls Try.prog 48 #[.agg #[.int .i64 30, .slice pa 4 pc, .int .i64 H, .slice ta 2 tc, .slice ba 2 bc, .int .i64 9, .bool o], .agg #[.int .i64 W.ll, .int .i64 W.lh, .int .i64 W.wl, .int .i64 W.wh, .int .i64 W.hl, .int .i64 W.hh, .int .i64 W.ol, .int .i64 W.oh, .int .i64 W.il, .int .i64 W.ih, .bool W.wo], .agg #[.int .i64 cl, .int .i64 ch], .int .i64 off] v fun e w' => ∃ n : Int, e = .returned (.tuple #[.int .i64 n, .int .i64 0]) ∧ (cl ≤ n ∧ n ≤ cp) ∧ Gr v w'))
  (MB : Hid (∀ pa ta ba pc tc bc v, IRow v pa [a0, a1, a0, a1] → IRow v ta [t0, t1] → IRow v ba [s0, s1] → Calls Try.prog 48 #[.agg #[.int .i64 30, .slice pa 4 pc, .int .i64 hei, .slice ta 2 tc, .slice ba 2 bc, .int .i64 9, .bool o], .agg #[.int .i64 W.ll, .int .i64 W.lh, .int .i64 W.wl, .int .i64 W.wh, .int .i64 W.hl, .int .i64 W.hh, .int .i64 W.ol, .int .i64 W.oh, .int .i64 W.il, .int .i64 W.ih, .bool W.wo], .agg #[.int .i64 cp, .int .i64 ch], .int .i64 0] v fun e w' => e = .returned (.tuple #[.int .i64 cp, .int .i64 0]) ∧ Gr v w'))
  (cm cx : Int) (HL : Hid (cm ≤ cl ∧ ch ≤ cx))
  (CA : Hid (∀ pa ta ba pc tc bc v, IRow v pa [a0, a1, a0, a1] → IRow v ta [t0, t1] → IRow v ba [s0, s1] → Calls Try.prog 43 #[.agg #[.int .i64 30, .slice pa 4 pc, .int .i64 hei, .slice ta 2 tc, .slice ba 2 bc, .int .i64 9, .bool o], .agg #[.int .i64 W.ll, .int .i64 W.lh, .int .i64 W.wl, .int .i64 W.wh, .int .i64 W.hl, .int .i64 W.hh, .int .i64 W.ol, .int .i64 W.oh, .int .i64 W.il, .int .i64 W.ih, .bool W.wo]] v fun e w' => e = .returned (.tuple #[.agg #[.int .i64 cm, .int .i64 cx], .int .i64 0]) ∧ Gr v w')) (w : World) :
  Calls Try.prog 11 #[.agg #[x0, x1, x2, x3, x4, x5, x6, x7, x8, x9, x10, x11, x12, x13, x14, x15, x16], .agg #[.int .i8 j0, .int .i8 j1, .int .i8 j2, .int .i8 j3, .int .i8 j4, .int .i8 j5, .int .i8 j6, .int .i8 j7, .int .i8 j8], .agg #[.int .u8 y0, .int .u8 y1]] w fun e w' => e = .returned (.bool true) ∧ Gr w w' := by
 have gg := ((Gr.al w (.cells #[x0, x1, x2, x3, x4, x5, x6, x7, x8, x9, x10, x11, x12, x13, x14, x15, x16] 69)).tr (Gr.al _ (.cells #[.int .i8 j0, .int .i8 j1, .int .i8 j2, .int .i8 j3, .int .i8 j4, .int .i8 j5, .int .i8 j6, .int .i8 j7, .int .i8 j8] 89))).tr (Gr.al _ (.cells #[.int .u8 y0, .int .u8 y1] 66))
 have h3 := (Box.new w [x0, x1, x2, x3, x4, x5, x6, x7, x8, x9, x10, x11, x12, x13, x14, x15, x16] 69 w.heap.size rfl).keep ((Gr.al _ (.cells #[.int .i8 j0, .int .i8 j1, .int .i8 j2, .int .i8 j3, .int .i8 j4, .int .i8 j5, .int .i8 j6, .int .i8 j7, .int .i8 j8] 89)).tr (Gr.al _ (.cells #[.int .u8 y0, .int .u8 y1] 66)))
 have h4 := (Box.new (w.alloc (.cells #[x0, x1, x2, x3, x4, x5, x6, x7, x8, x9, x10, x11, x12, x13, x14, x15, x16] 69)) [.int .i8 j0, .int .i8 j1, .int .i8 j2, .int .i8 j3, .int .i8 j4, .int .i8 j5, .int .i8 j6, .int .i8 j7, .int .i8 j8] 89 (w.heap.size + 1) (by simp)).keep (Gr.al _ (.cells #[.int .u8 y0, .int .u8 y1] 66))
 have h5 := Box.new ((w.alloc (.cells #[x0, x1, x2, x3, x4, x5, x6, x7, x8, x9, x10, x11, x12, x13, x14, x15, x16] 69)).alloc (.cells #[.int .i8 j0, .int .i8 j1, .int .i8 j2, .int .i8 j3, .int .i8 j4, .int .i8 j5, .int .i8 j6, .int .i8 j7, .int .i8 j8] 89)) [.int .u8 y0, .int .u8 y1] 66 (w.heap.size + 1 + 1) (by simp)
 go_enter Try.func11, Try.ntmps11
 go_upto_region 1 with fail
 refine wp_abs (fun U => Gr w U ∧ Box U w.heap.size [x0, x1, x2, x3, x4, x5, x6, x7, x8, x9, x10, x11, x12, x13, x14, x15, x16] ∧ Box U (w.heap.size + 1) [.int .i8 j0, .int .i8 j1, .int .i8 j2, .int .i8 j3, .int .i8 j4, .int .i8 j5, .int .i8 j6, .int .i8 j7, .int .i8 j8] ∧ Box U (w.heap.size + 1 + 1) [.int .u8 y0, .int .u8 y1]) ⟨gg, h3, h4, h5⟩ ?_
 clear gg h3 h4 h5
 rintro U ⟨gU, h3, h4, h5⟩
 obtain ⟨hy00, hy01⟩ := hy0
 obtain ⟨hy10, hy11⟩ := hy1
 have u0 : IntKind.i64.wrap y0 = y0 := IntWalk.i64_in _ (by omega)
 have u1 : y0.tmod 6 = off := by rw [Int.tmod_eq_emod_of_nonneg (by omega)]; exact hoff
 have ho5 : 0 ≤ off ∧ off ≤ 5 := by omega
 have u2 : IntKind.i64.wrap off = off := IntWalk.i64_in _ (by omega)
 refine wp_region_ownlate 14 12 13 [5, 6, 7, 8] [(1, 0), (2, 1), (4, 3), (6, 5), (7, 6), (8, 7), (12, 0), (12, 1), (12, 2), (12, 4), (12, 9), (12, 10), (12, 11), (13, 12)] [1, 2] [9, 10, 11] (by decide) (fun x v0 v => ∃ b, x 9 = .pointer (some ⟨b, 0, none⟩) ∧ Own v b (x 2).cells.toList ∧ Kx (fun k => k = b) v0 v) (fun x v0 v => ∃ b c, x 9 = .pointer (some ⟨b, 0, none⟩) ∧ x 10 = .pointer (some ⟨c, 0, none⟩) ∧ Own v b (x 2).cells.toList ∧ Own v c (x 4).cells.toList ∧ Kx (fun k => k = b ∨ k = c) v0 v) (fun x => ⟨#[.agg #[x0, x1, x2, x3, x4, x5, x6, x7, x8, x9, x10, x11, x12, x13, x14, x15, x16], .agg #[.int .i8 j0, .int .i8 j1, .int .i8 j2, .int .i8 j3, .int .i8 j4, .int .i8 j5, .int .i8 j6, .int .i8 j7, .int .i8 j8], .agg #[.int .u8 y0, .int .u8 y1], .pointer (some ⟨w.heap.size, 0, none⟩), .pointer (some ⟨(w.heap.size + 1), 0, none⟩), .pointer (some ⟨(w.heap.size + 1 + 1), 0, none⟩), .bool false, x 9, x 10, x 11, undef, undef, undef, undef, undef, undef, undef, undef, undef, undef, undef, undef, undef, undef, undef, undef, x 0, x 1, x 2, x 3, x 4, x 5, x 6, x 7, x 8, undef, undef, undef, undef, undef, undef, undef, undef, undef, undef, undef, undef, undef, undef, undef, undef, undef, undef, undef, undef, undef, undef, undef, undef, undef, undef, undef, undef, undef, undef, undef, undef, undef, undef, undef, undef, undef, undef, undef, undef, undef, undef, undef, undef, undef, undef, undef, undef, undef, undef, undef, undef, undef, undef, undef, undef, undef, undef, undef, undef, undef, undef, undef, undef, undef, undef, undef, undef, undef, undef, undef, undef, undef, undef, undef, undef, undef, undef, undef, undef, undef, undef, undef, undef, undef, undef, undef, undef, undef, undef, undef, undef, undef, undef, undef, undef, undef, undef, undef, undef, undef, undef, undef, undef, undef, undef, undef, undef, undef, undef, undef, undef, undef, undef, undef, undef, undef, undef, undef, undef, undef, undef, undef, undef, undef, undef, undef, undef, undef, undef, undef, undef, undef, undef, undef, undef, undef, undef, undef, undef, undef, undef, undef, undef, undef, undef, undef, undef, undef, undef, undef, undef, undef, undef, undef, undef, undef, undef, undef, undef, undef, undef, undef, undef, undef, undef, undef, undef, undef, undef, undef, undef, undef, undef, undef, undef, undef, undef, undef, undef, undef, undef, undef, undef, undef, undef, undef], []⟩) (fun _ => undef) [fun _ x => x = .agg #[x0, x1, x2, x3, x4, x5, x6, x7, x8, x9, x10, x11, x12, x13, x14, x15, x16], fun v x => ∃ ka3 kc3 ka7 kc7 ka11 kc11, x = .agg #[.int .i64 30, .slice ka3 4 kc3, .int .i64 hei, .slice ka7 2 kc7, .slice ka11 2 kc11, .int .i64 9, .bool o] ∧ (IRow v ka3 [a0, a1, a2, a3] ∧ IRow v ka7 [g0, g1] ∧ IRow v ka11 [s0, s1]), fun v x => ∃ P T tc ba bc, x = .agg #[.int .i64 30, .slice (some ⟨P, 0, none⟩) 4 4, .int .i64 hei, .slice (some ⟨T, 0, none⟩) 2 tc, .slice ba 2 bc, .int .i64 9, .bool o] ∧ IRow v (some ⟨P, 0, none⟩) [a0, a1, a0, a1] ∧ IRow v (some ⟨T, 0, none⟩) [t0, t1] ∧ IRow v ba [s0, s1], fun _ x => x = .agg #[x0, x1, x2, x3, x4, x5, x6, x7, x8, x9, x10, x11, x12, x13, x14, x15, x16], fun _ x => x = .agg #[.int .i64 cl, .int .i64 ch], fun _ x => x = .pointer (some ⟨(w.heap.size + 1 + 1), 0, none⟩), fun _ x => x = .int .u8 y0, fun _ x => x = .int .i64 y0, fun _ x => x = .int .i64 off, fun v x => ∃ b, x = .pointer (some ⟨b, 0, none⟩) ∧ U.heap.size ≤ b ∧ Own v b [.int .i64 0, .slice none 0 0, .int .i64 0, .slice none 0 0, .slice none 0 0, .int .i64 0, .bool false], fun v x => ∃ b, x = .pointer (some ⟨b, 0, none⟩) ∧ U.heap.size ≤ b ∧ Own v b [.int .i64 0, .int .i64 0], fun v x => ∃ b, x = .pointer (some ⟨b, 0, none⟩) ∧ U.heap.size ≤ b ∧ Own v b [.int .i64 0], fun _ _ => True, fun _ _ => True] (by rfl) (by kernel_rfl) (by kernel_rfl) (by kernel_rfl) (stays_cons (Stays.eq _) (stays_cons ((show Stays (fun v x => ∃ ka3 kc3 ka7 kc7 ka11 kc11, x = .agg #[.int .i64 30, .slice ka3 4 kc3, .int .i64 hei, .slice ka7 2 kc7, .slice ka11 2 kc11, .int .i64 9, .bool o] ∧ (IRow v ka3 [a0, a1, a2, a3] ∧ IRow v ka7 [g0, g1] ∧ IRow v ka11 [s0, s1])) from fun v v' x g ⟨a, b, c, d, e, f, h, r1, r2, r3⟩ => ⟨a, b, c, d, e, f, h, r1.grow g, r2.grow g, r3.grow g⟩)) (stays_cons ((show Stays (fun v x => ∃ P T tc ba bc, x = .agg #[.int .i64 30, .slice (some ⟨P, 0, none⟩) 4 4, .int .i64 hei, .slice (some ⟨T, 0, none⟩) 2 tc, .slice ba 2 bc, .int .i64 9, .bool o] ∧ IRow v (some ⟨P, 0, none⟩) [a0, a1, a0, a1] ∧ IRow v (some ⟨T, 0, none⟩) [t0, t1] ∧ IRow v ba [s0, s1]) from fun v v' x g ⟨P, T, t, b, c, h, r1, r2, r3⟩ => ⟨P, T, t, b, c, h, r1.grow g, r2.grow g, r3.grow g⟩)) (stays_cons (Stays.eq _) (stays_cons (Stays.eq _) (stays_cons (Stays.eq _) (stays_cons (Stays.eq _) (stays_cons (Stays.eq _) (stays_cons (Stays.eq _) (stays_cons ((show Stays (fun v x => ∃ b, x = .pointer (some ⟨b, 0, none⟩) ∧ U.heap.size ≤ b ∧ Own v b [.int .i64 0, .slice none 0 0, .int .i64 0, .slice none 0 0, .slice none 0 0, .int .i64 0, .bool false]) from fun v v' x g ⟨b, h, l, o⟩ => ⟨b, h, l, o.keep g⟩)) (stays_cons ((show Stays (fun v x => ∃ b, x = .pointer (some ⟨b, 0, none⟩) ∧ U.heap.size ≤ b ∧ Own v b [.int .i64 0, .int .i64 0]) from fun v v' x g ⟨b, h, l, o⟩ => ⟨b, h, l, o.keep g⟩)) (stays_cons ((show Stays (fun v x => ∃ b, x = .pointer (some ⟨b, 0, none⟩) ∧ U.heap.size ≤ b ∧ Own v b [.int .i64 0]) from fun v v' x g ⟨b, h, l, o⟩ => ⟨b, h, l, o.keep g⟩)) (stays_cons (Stays.tr) (stays_cons (Stays.tr) stays_nil)))))))))))))) (by decide) (by decide) (by decide) (by decide) (by decide) (by decide) ?hs1 ?step1 ?late1 ?pa1 ?qa1 ?fin1
 case hs1 =>
  intro x i u v0 v hi
  simp only [List.mem_cons, List.not_mem_nil, or_false] at hi
  rcases hi with rfl | rfl | rfl | rfl <;> exact ⟨fun h => h, fun h => h⟩
 case step1 => as_aux_lemma =>
  rintro i hi z1_ z2_ z3_ x v gv hd K hK
  have hi8 : i = 0 ∨ i = 1 ∨ i = 2 ∨ i = 3 ∨ i = 4 ∨ i = 9 ∨ i = 10 ∨ i = 11 := by
   simp only [List.mem_cons, List.not_mem_nil, or_false, not_or] at z3_
   omega
  rcases hi8 with rfl | rfl | rfl | rfl | rfl | rfl | rfl | rfl
  ·try dsimp only [upd, Nat.reduceBEq, cond_true, cond_false]
   refine wpOp_step rfl (fun K' hK' => ?_)
   rw [if_pos (by rfl)]
   refine wp_load_mid 69 _ rfl w.heap.size 0 (by rfl) [x0, x1, x2, x3, x4, x5, x6, x7, x8, x9, x10, x11, x12, x13, x14, x15, x16] _ (fun j u hu => by rw [Nat.zero_add]; exact (h3.keep gv).2 j u hu) Try.underlying69 rfl (by kernel_rfl) ?_
   exact hK' _ _ (hK _ _ (Below.refl _ _) (at_of rfl (rfl)) (fun h => absurd h (by simp)))
  ·obtain ⟨x, rfl⟩ := upd_of (show x 0 = .agg #[x0, x1, x2, x3, x4, x5, x6, x7, x8, x9, x10, x11, x12, x13, x14, x15, x16] from hd 0 _ (by simp) rfl)
   try dsimp only [upd, Nat.reduceBEq, cond_true, cond_false]
   refine wpOp_step rfl (fun K' hK' => ?_)
   go_simp
   refine (SB.out v).mono ?_
   rintro e v' ⟨w3, b3, w7, b7, w11, b11, rfl, hg, r1, k3, k7, k11⟩
   exact hK' _ _ (hK _ _ hg (at_of rfl (⟨_, _, _, _, _, _, rfl, r1⟩)) (fun _ b hb => .inl (agg_new k3 k7 k11 b hb)))
  ·obtain ⟨ka3, kc3, ka7, kc7, ka11, kc11, e1, r1⟩ := hd 1 _ (by simp) rfl
   obtain ⟨x, rfl⟩ := upd_of (show x 1 = .agg #[.int .i64 30, .slice ka3 4 kc3, .int .i64 hei, .slice ka7 2 kc7, .slice ka11 2 kc11, .int .i64 9, .bool o] from e1)
   try dsimp only [upd, Nat.reduceBEq, cond_true, cond_false]
   refine wpOp_step rfl (fun K' hK' => ?_)
   go_simp
   refine (TW.out _ _ _ _ _ _ v r1.1 r1.2.1 r1.2.2).mono ?_
   rintro e v' ⟨P, T, tc, rfl, hg, rP, rT, lP, lT⟩
   exact hK' _ _ (hK _ _ hg (at_of rfl (⟨_, _, _, _, _, rfl, rP, rT, r1.2.2.grow hg⟩)) (fun _ b hb => (twin_own lP lT hb).imp id (fun h => ⟨by simp, 1, by simp, by simp, three_agg (.inr (.inr h))⟩)))
  ·try dsimp only [upd, Nat.reduceBEq, cond_true, cond_false]
   refine wpOp_step rfl (fun K' hK' => ?_)
   rw [if_pos (by rfl)]
   refine wp_load_mid 69 _ rfl w.heap.size 0 (by rfl) [x0, x1, x2, x3, x4, x5, x6, x7, x8, x9, x10, x11, x12, x13, x14, x15, x16] _ (fun j u hu => by rw [Nat.zero_add]; exact (h3.keep gv).2 j u hu) Try.underlying69 rfl (by kernel_rfl) ?_
   exact hK' _ _ (hK _ _ (Below.refl _ _) (at_of rfl (rfl)) (fun h => absurd h (by simp)))
  ·obtain ⟨x, rfl⟩ := upd_of (show x 3 = .agg #[x0, x1, x2, x3, x4, x5, x6, x7, x8, x9, x10, x11, x12, x13, x14, x15, x16] from hd 3 _ (by simp) rfl)
   try dsimp only [upd, Nat.reduceBEq, cond_true, cond_false]
   refine wpOp_step rfl (fun K' hK' => ?_)
   go_simp
   refine (SC.out v).mono ?_
   rintro e v' ⟨rfl, hg⟩
   exact hK' _ _ (hK _ _ hg (at_of rfl (rfl)) (fun h => absurd h (by simp)))
  ·try dsimp only [upd, Nat.reduceBEq, cond_true, cond_false]
   refine wpOp_step rfl (fun K' hK' => ?_)
   go_simp
   have hg := Gr.al v (.cells #[.int .i64 0, .slice none 0 0, .int .i64 0, .slice none 0 0, .slice none 0 0, .int .i64 0, .bool false] 24)
   exact hK' _ _ (hK _ _ hg (at_of rfl (⟨_, rfl, gv.size, Own.new v [.int .i64 0, .slice none 0 0, .int .i64 0, .slice none 0 0, .slice none 0 0, .int .i64 0, .bool false] 24 v.heap.size rfl⟩)) (fun _ b hb => .inl (by simp [hasB, blkOf] at hb; subst hb; simp)))
  ·try dsimp only [upd, Nat.reduceBEq, cond_true, cond_false]
   refine wpOp_step rfl (fun K' hK' => ?_)
   go_simp
   have hg := Gr.al v (.cells #[.int .i64 0, .int .i64 0] 37)
   exact hK' _ _ (hK _ _ hg (at_of rfl (⟨_, rfl, gv.size, Own.new v [.int .i64 0, .int .i64 0] 37 v.heap.size rfl⟩)) (fun _ b hb => .inl (by simp [hasB, blkOf] at hb; subst hb; simp)))
  ·try dsimp only [upd, Nat.reduceBEq, cond_true, cond_false]
   refine wpOp_step rfl (fun K' hK' => ?_)
   go_simp
   have hg := Gr.al v (.cells #[.int .i64 0] 3)
   exact hK' _ _ (hK _ _ hg (at_of rfl (⟨_, rfl, gv.size, Own.new v [.int .i64 0] 3 v.heap.size rfl⟩)) (fun _ b hb => .inl (by simp [hasB, blkOf] at hb; subst hb; simp)))
 case late1 => as_aux_lemma =>
  rintro i hi hm x v gv hd K hK
  simp only [List.mem_cons, List.not_mem_nil, or_false] at hm
  rcases hm with rfl | rfl | rfl | rfl
  ·show wpOp Try.prog _ _ 5 K (⟨#[_, _, _, _, _, _, _, x 9, x 10, x 11, _, _, _, _, _, _, _, _, _, _, _, _, _, _, _, _, x 0, x 1, x 2, x 3, x 4, x 5, x 6, x 7, x 8, _, _, _, _, _, _, _, _, _, _, _, _, _, _, _, _, _, _, _, _, _, _, _, _, _, _, _, _, _, _, _, _, _, _, _, _, _, _, _, _, _, _, _, _, _, _, _, _, _, _, _, _, _, _, _, _, _, _, _, _, _, _, _, _, _, _, _, _, _, _, _, _, _, _, _, _, _, _, _, _, _, _, _, _, _, _, _, _, _, _, _, _, _, _, _, _, _, _, _, _, _, _, _, _, _, _, _, _, _, _, _, _, _, _, _, _, _, _, _, _, _, _, _, _, _, _, _, _, _, _, _, _, _, _, _, _, _, _, _, _, _, _, _, _, _, _, _, _, _, _, _, _, _, _, _, _, _, _, _, _, _, _, _, _, _, _, _, _, _, _, _, _, _, _, _, _, _, _, _, _, _, _, _, _, _, _, _], []⟩ : Act) v
   refine wpOp_step rfl (fun K' hK' => ?_)
   go_simp
   exact hK' _ _ (hK _ (fun F hF v0 => at_of (v := v0) rfl (rfl) F hF))
  ·obtain ⟨x, rfl⟩ := upd_of (show x 5 = .pointer (some ⟨(w.heap.size + 1 + 1), 0, none⟩) from late_of (hd 5 _ (by simp) rfl) (fun _ h => h))
   show wpOp Try.prog _ _ 6 K (⟨#[_, _, _, _, _, _, _, x 9, x 10, x 11, _, _, _, _, _, _, _, _, _, _, _, _, _, _, _, _, x 0, x 1, x 2, x 3, x 4, .pointer (some ⟨(w.heap.size + 1 + 1), 0, none⟩), x 6, x 7, x 8, _, _, _, _, _, _, _, _, _, _, _, _, _, _, _, _, _, _, _, _, _, _, _, _, _, _, _, _, _, _, _, _, _, _, _, _, _, _, _, _, _, _, _, _, _, _, _, _, _, _, _, _, _, _, _, _, _, _, _, _, _, _, _, _, _, _, _, _, _, _, _, _, _, _, _, _, _, _, _, _, _, _, _, _, _, _, _, _, _, _, _, _, _, _, _, _, _, _, _, _, _, _, _, _, _, _, _, _, _, _, _, _, _, _, _, _, _, _, _, _, _, _, _, _, _, _, _, _, _, _, _, _, _, _, _, _, _, _, _, _, _, _, _, _, _, _, _, _, _, _, _, _, _, _, _, _, _, _, _, _, _, _, _, _, _, _, _, _, _, _, _, _, _, _, _, _, _, _, _, _, _, _, _, _, _, _, _], []⟩ : Act) v
   refine wpOp_step rfl (fun K' hK' => ?_)
   have q := (h5.keep gv).2 0 _ rfl
   go_simp
   exact hK' _ _ (hK _ (fun F hF v0 => at_of (v := v0) rfl (rfl) F hF))
  ·obtain ⟨x, rfl⟩ := upd_of (show x 6 = .int .u8 y0 from late_of (hd 6 _ (by simp) rfl) (fun _ h => h))
   show wpOp Try.prog _ _ 7 K (⟨#[_, _, _, _, _, _, _, x 9, x 10, x 11, _, _, _, _, _, _, _, _, _, _, _, _, _, _, _, _, x 0, x 1, x 2, x 3, x 4, x 5, .int .u8 y0, x 7, x 8, _, _, _, _, _, _, _, _, _, _, _, _, _, _, _, _, _, _, _, _, _, _, _, _, _, _, _, _, _, _, _, _, _, _, _, _, _, _, _, _, _, _, _, _, _, _, _, _, _, _, _, _, _, _, _, _, _, _, _, _, _, _, _, _, _, _, _, _, _, _, _, _, _, _, _, _, _, _, _, _, _, _, _, _, _, _, _, _, _, _, _, _, _, _, _, _, _, _, _, _, _, _, _, _, _, _, _, _, _, _, _, _, _, _, _, _, _, _, _, _, _, _, _, _, _, _, _, _, _, _, _, _, _, _, _, _, _, _, _, _, _, _, _, _, _, _, _, _, _, _, _, _, _, _, _, _, _, _, _, _, _, _, _, _, _, _, _, _, _, _, _, _, _, _, _, _, _, _, _, _, _, _, _, _, _, _, _], []⟩ : Act) v
   refine wpOp_step rfl (fun K' hK' => ?_)
   go_simp
   exact hK' _ _ (hK _ (fun F hF v0 => at_of (v := v0) rfl (rfl) F hF))
  ·obtain ⟨x, rfl⟩ := upd_of (show x 7 = .int .i64 y0 from late_of (hd 7 _ (by simp) rfl) (fun _ h => h))
   show wpOp Try.prog _ _ 8 K (⟨#[_, _, _, _, _, _, _, x 9, x 10, x 11, _, _, _, _, _, _, _, _, _, _, _, _, _, _, _, _, x 0, x 1, x 2, x 3, x 4, x 5, x 6, .int .i64 y0, x 8, _, _, _, _, _, _, _, _, _, _, _, _, _, _, _, _, _, _, _, _, _, _, _, _, _, _, _, _, _, _, _, _, _, _, _, _, _, _, _, _, _, _, _, _, _, _, _, _, _, _, _, _, _, _, _, _, _, _, _, _, _, _, _, _, _, _, _, _, _, _, _, _, _, _, _, _, _, _, _, _, _, _, _, _, _, _, _, _, _, _, _, _, _, _, _, _, _, _, _, _, _, _, _, _, _, _, _, _, _, _, _, _, _, _, _, _, _, _, _, _, _, _, _, _, _, _, _, _, _, _, _, _, _, _, _, _, _, _, _, _, _, _, _, _, _, _, _, _, _, _, _, _, _, _, _, _, _, _, _, _, _, _, _, _, _, _, _, _, _, _, _, _, _, _, _, _, _, _, _, _, _, _, _, _, _, _, _], []⟩ : Act) v
   refine wpOp_step rfl (fun K' hK' => ?_)
   go_simp
   exact hK' _ _ (hK _ (fun F hF v0 => at_of (v := v0) rfl (rfl) F hF))
 case pa1 => as_aux_lemma =>
  rintro x v gv hd hap K hK
  obtain ⟨P, T, tc, ba, bc, e2, r2, r3, r4⟩ := hd 2 _ (by omega) (by decide) (by decide) (by decide) rfl
  obtain ⟨x, rfl⟩ := upd_of (show x 2 = .agg #[.int .i64 30, .slice (some ⟨P, 0, none⟩) 4 4, .int .i64 hei, .slice (some ⟨T, 0, none⟩) 2 tc, .slice ba 2 bc, .int .i64 9, .bool o] from e2)
  obtain ⟨v9, e9, l9, o9⟩ := hd 9 _ (by omega) (by decide) (by decide) (by decide) rfl
  obtain ⟨x, rfl⟩ := upd_of (show x 9 = .pointer (some ⟨v9, 0, none⟩) from e9)
  clear hd hap
  show wpOp Try.prog _ _ 12 K (⟨#[_, _, _, _, _, _, _, .pointer (some ⟨v9, 0, none⟩), x 10, x 11, _, _, _, _, _, _, _, _, _, _, _, _, _, _, _, _, x 0, x 1, .agg #[.int .i64 30, .slice (some ⟨P, 0, none⟩) 4 4, .int .i64 hei, .slice (some ⟨T, 0, none⟩) 2 tc, .slice ba 2 bc, .int .i64 9, .bool o], x 3, x 4, x 5, x 6, x 7, x 8, _, _, _, _, _, _, _, _, _, _, _, _, _, _, _, _, _, _, _, _, _, _, _, _, _, _, _, _, _, _, _, _, _, _, _, _, _, _, _, _, _, _, _, _, _, _, _, _, _, _, _, _, _, _, _, _, _, _, _, _, _, _, _, _, _, _, _, _, _, _, _, _, _, _, _, _, _, _, _, _, _, _, _, _, _, _, _, _, _, _, _, _, _, _, _, _, _, _, _, _, _, _, _, _, _, _, _, _, _, _, _, _, _, _, _, _, _, _, _, _, _, _, _, _, _, _, _, _, _, _, _, _, _, _, _, _, _, _, _, _, _, _, _, _, _, _, _, _, _, _, _, _, _, _, _, _, _, _, _, _, _, _, _, _, _, _, _, _, _, _, _, _, _, _, _, _, _, _, _, _, _, _, _, _, _, _, _], []⟩ : Act) v
  have t0_ := o9.1.2 0 _ rfl
  have f0_ := o9.2 0
  have t1_ := o9.1.2 1 _ rfl
  have f1_ := o9.2 1
  have t2_ := o9.1.2 2 _ rfl
  have f2_ := o9.2 2
  have t3_ := o9.1.2 3 _ rfl
  have f3_ := o9.2 3
  have t4_ := o9.1.2 4 _ rfl
  have f4_ := o9.2 4
  have t5_ := o9.1.2 5 _ rfl
  have f5_ := o9.2 5
  have t6_ := o9.1.2 6 _ rfl
  have f6_ := o9.2 6
  refine wpOp_step rfl (fun K' hK' => ?_)
  go_simp
  exact hK' _ _ (hK _ (((((((gv.setCell (p := ⟨v9, 0, none⟩) l9 _).setCell (p := ⟨v9, 1, none⟩) l9 _).setCell (p := ⟨v9, 2, none⟩) l9 _).setCell (p := ⟨v9, 3, none⟩) l9 _).setCell (p := ⟨v9, 4, none⟩) l9 _).setCell (p := ⟨v9, 5, none⟩) l9 _).setCell (p := ⟨v9, 6, none⟩) l9 _) ⟨_, rfl, (((((((o9.set (i := 0) (by simp)).set (i := 1) (by simp)).set (i := 2) (by simp)).set (i := 3) (by simp)).set (i := 4) (by simp)).set (i := 5) (by simp)).set (i := 6) (by simp)), ((((((((Kx.refl _ _).tr (Kx.set (Z := fun k => k = v9) (p := ⟨v9, 0, none⟩) rfl _)).tr (Kx.set (Z := fun k => k = v9) (p := ⟨v9, 1, none⟩) rfl _)).tr (Kx.set (Z := fun k => k = v9) (p := ⟨v9, 2, none⟩) rfl _)).tr (Kx.set (Z := fun k => k = v9) (p := ⟨v9, 3, none⟩) rfl _)).tr (Kx.set (Z := fun k => k = v9) (p := ⟨v9, 4, none⟩) rfl _)).tr (Kx.set (Z := fun k => k = v9) (p := ⟨v9, 5, none⟩) rfl _)).tr (Kx.set (Z := fun k => k = v9) (p := ⟨v9, 6, none⟩) rfl _))⟩)
 case qa1 => as_aux_lemma =>
  rintro x v0 v gz gv hd hap hs K hK
  obtain ⟨x, rfl⟩ := upd_of (show x 4 = .agg #[.int .i64 cl, .int .i64 ch] from hd 4 _ (by omega) (by decide) (by decide) (by decide) rfl)
  obtain ⟨v9, e9, l9, o9⟩ := hd 9 _ (by omega) (by decide) (by decide) (by decide) rfl
  obtain ⟨x, rfl⟩ := upd_of (show x 9 = .pointer (some ⟨v9, 0, none⟩) from e9)
  obtain ⟨v10, e10, l10, o10⟩ := hd 10 _ (by omega) (by decide) (by decide) (by decide) rfl
  obtain ⟨x, rfl⟩ := upd_of (show x 10 = .pointer (some ⟨v10, 0, none⟩) from e10)
  obtain ⟨bb, hb, ob, kx⟩ := hs
  rw [e9] at hb
  cases hb
  have dd : v9 ≠ v10 := fun e => hap 9 10 (.inr (by simp)) (by simp) (by simp) (by omega) (by omega) v10 (by rw [e9, e]; simp [hasB, blkOf]) (by rw [e10]; simp [hasB, blkOf])
  replace o10 := o10.kx kx (fun e => dd e.symm)
  clear hd hap
  show wpOp Try.prog _ _ 13 K (⟨#[_, _, _, _, _, _, _, .pointer (some ⟨v9, 0, none⟩), .pointer (some ⟨v10, 0, none⟩), x 11, _, _, _, _, _, _, _, _, _, _, _, _, _, _, _, _, x 0, x 1, x 2, x 3, .agg #[.int .i64 cl, .int .i64 ch], x 5, x 6, x 7, x 8, _, _, _, _, _, _, _, _, _, _, _, _, _, _, _, _, _, _, _, _, _, _, _, _, _, _, _, _, _, _, _, _, _, _, _, _, _, _, _, _, _, _, _, _, _, _, _, _, _, _, _, _, _, _, _, _, _, _, _, _, _, _, _, _, _, _, _, _, _, _, _, _, _, _, _, _, _, _, _, _, _, _, _, _, _, _, _, _, _, _, _, _, _, _, _, _, _, _, _, _, _, _, _, _, _, _, _, _, _, _, _, _, _, _, _, _, _, _, _, _, _, _, _, _, _, _, _, _, _, _, _, _, _, _, _, _, _, _, _, _, _, _, _, _, _, _, _, _, _, _, _, _, _, _, _, _, _, _, _, _, _, _, _, _, _, _, _, _, _, _, _, _, _, _, _, _, _, _, _, _, _, _, _, _, _, _, _], []⟩ : Act) v
  have t0_ := o10.1.2 0 _ rfl
  have f0_ := o10.2 0
  have t1_ := o10.1.2 1 _ rfl
  have f1_ := o10.2 1
  refine wpOp_step rfl (fun K' hK' => ?_)
  go_simp
  exact hK' _ _ (hK _ ((gv.setCell (p := ⟨v10, 0, none⟩) l10 _).setCell (p := ⟨v10, 1, none⟩) l10 _) ⟨_, _, rfl, rfl, ((ob.other dd).other dd), ((o10.set (i := 0) (by simp)).set (i := 1) (by simp)), (((kx.mono (fun k h => .inl (.inl h))).tr (Kx.set (Z := fun k => k = v9 ∨ k = v10) (p := ⟨v10, 0, none⟩) (.inr rfl) _)).tr (Kx.set (Z := fun k => k = v9 ∨ k = v10) (p := ⟨v10, 1, none⟩) (.inr rfl) _))⟩)
 case fin1 =>
  rintro x v0 v gz gv hd hl hap hs
  obtain ⟨P, T, tc, ba, bc, e2, r2, r3, r4⟩ := hd 2 _ (by omega) (by decide) (by decide) (by decide) rfl
  obtain ⟨x, rfl⟩ := upd_of (show x 2 = .agg #[.int .i64 30, .slice (some ⟨P, 0, none⟩) 4 4, .int .i64 hei, .slice (some ⟨T, 0, none⟩) 2 tc, .slice ba 2 bc, .int .i64 9, .bool o] from e2)
  obtain ⟨x, rfl⟩ := upd_of (show x 4 = .agg #[.int .i64 cl, .int .i64 ch] from hd 4 _ (by omega) (by decide) (by decide) (by decide) rfl)
  obtain ⟨v9, e9, l9, o9⟩ := hd 9 _ (by omega) (by decide) (by decide) (by decide) rfl
  obtain ⟨x, rfl⟩ := upd_of (show x 9 = .pointer (some ⟨v9, 0, none⟩) from e9)
  obtain ⟨v10, e10, l10, o10⟩ := hd 10 _ (by omega) (by decide) (by decide) (by decide) rfl
  obtain ⟨x, rfl⟩ := upd_of (show x 10 = .pointer (some ⟨v10, 0, none⟩) from e10)
  obtain ⟨v11, e11, l11, o11⟩ := hd 11 _ (by omega) (by decide) (by decide) (by decide) rfl
  obtain ⟨x, rfl⟩ := upd_of (show x 11 = .pointer (some ⟨v11, 0, none⟩) from e11)
  obtain ⟨x, rfl⟩ := upd_of (show x 8 = .int .i64 off from late_of (hl 8 _ (by omega) (by decide) rfl) (fun _ h => h))
  clear hd hl
  obtain ⟨bb, cc, hb, hc, ob, oc, KX⟩ := hs
  rw [e9] at hb
  rw [e10] at hc
  cases hb
  cases hc
  replace ob : Own v v9 [.int .i64 30, .slice (some ⟨P, 0, none⟩) 4 4, .int .i64 hei, .slice (some ⟨T, 0, none⟩) 2 tc, .slice ba 2 bc, .int .i64 9, .bool o] := ob
  replace oc : Own v v10 [.int .i64 cl, .int .i64 ch] := oc
  show wpList Try.prog _ _ (List.drop 14 _) (⟨#[_, _, _, _, _, _, _, .pointer (some ⟨v9, 0, none⟩), .pointer (some ⟨v10, 0, none⟩), .pointer (some ⟨v11, 0, none⟩), _, _, _, _, _, _, _, _, _, _, _, _, _, _, _, _, x 0, x 1, .agg #[.int .i64 30, .slice (some ⟨P, 0, none⟩) 4 4, .int .i64 hei, .slice (some ⟨T, 0, none⟩) 2 tc, .slice ba 2 bc, .int .i64 9, .bool o], x 3, .agg #[.int .i64 cl, .int .i64 ch], x 5, x 6, x 7, .int .i64 off, _, _, _, _, _, _, _, _, _, _, _, _, _, _, _, _, _, _, _, _, _, _, _, _, _, _, _, _, _, _, _, _, _, _, _, _, _, _, _, _, _, _, _, _, _, _, _, _, _, _, _, _, _, _, _, _, _, _, _, _, _, _, _, _, _, _, _, _, _, _, _, _, _, _, _, _, _, _, _, _, _, _, _, _, _, _, _, _, _, _, _, _, _, _, _, _, _, _, _, _, _, _, _, _, _, _, _, _, _, _, _, _, _, _, _, _, _, _, _, _, _, _, _, _, _, _, _, _, _, _, _, _, _, _, _, _, _, _, _, _, _, _, _, _, _, _, _, _, _, _, _, _, _, _, _, _, _, _, _, _, _, _, _, _, _, _, _, _, _, _, _, _, _, _, _, _, _, _, _, _, _, _, _, _, _, _, _], []⟩ : Act) v
  simp only [List.drop_succ_cons, List.drop_zero]
  have d119 : v11 ≠ v9 := fun e => hap 11 9 (.inr (by simp)) (by simp) (by simp) (by omega) (by omega) v9 (by rw [e11, e]; simp [hasB, blkOf]) (by rw [e9]; simp [hasB, blkOf])
  have d1110 : v11 ≠ v10 := fun e => hap 11 10 (.inr (by simp)) (by simp) (by simp) (by omega) (by omega) v10 (by rw [e11, e]; simp [hasB, blkOf]) (by rw [e10]; simp [hasB, blkOf])
  have NA := Lib.hid (show ∀ r, hasB (.agg #[.int .i64 30, .slice (some ⟨P, 0, none⟩) 4 4, .int .i64 hei, .slice (some ⟨T, 0, none⟩) 2 tc, .slice ba 2 bc, .int .i64 9, .bool o]) r → r ≠ v9 ∧ r ≠ v10 ∧ r ≠ v11 from fun r h => ⟨fun e => hap 2 9 (.inl (by simp)) (by simp) (by simp) (by omega) (by omega) r (by rw [e2]; exact h) (by rw [e9, e]; simp [hasB, blkOf]), fun e => hap 2 10 (.inl (by simp)) (by simp) (by simp) (by omega) (by omega) r (by rw [e2]; exact h) (by rw [e10, e]; simp [hasB, blkOf]), fun e => hap 2 11 (.inl (by simp)) (by simp) (by simp) (by omega) (by omega) r (by rw [e2]; exact h) (by rw [e11, e]; simp [hasB, blkOf])⟩)
  clear hap e2 e9 e10 e11
  have od := o11.kx KX (fun e => by rcases e with e | e; exact d119 e; exact d1110 e)
  have s0_ := od.1.2 0 _ rfl
  have z0_ := od.2 0
  go_upto_region 2 with fail
  refine wp_abs (fun Z => Gr U Z ∧ Own Z v9 [.int .i64 30, .slice (some ⟨P, 0, none⟩) 4 4, .int .i64 hei, .slice (some ⟨T, 0, none⟩) 2 tc, .slice ba 2 bc, .int .i64 9, .bool o] ∧ Own Z v10 [.int .i64 cl, .int .i64 ch] ∧ Own Z v11 [.int .i64 off] ∧ Kx (fun k => (k = v9 ∨ k = v10) ∨ k = v11) v0 Z) ⟨gv.setCell (p := ⟨v11, 0, none⟩) l11 _, ob.other (Ne.symm d119), oc.other (Ne.symm d1110), od.set (i := 0) (by simp), (KX.mono (fun k h => .inl (.inl h))).tr (Kx.set (Z := fun k => (k = v9 ∨ k = v10) ∨ k = v11) (p := ⟨v11, 0, none⟩) (.inr rfl) _)⟩ ?_
  clear gv ob oc od KX o9 o10 o11 s0_ z0_
  rintro Z ⟨gZ, oL, oA, oO, KX⟩
  have KX := Lib.hid KX
  have ne3 : ∀ b off, (some ⟨P, 0, none⟩ : Option Addr) = some ⟨b, off, none⟩ → ¬ ((b = v9 ∨ b = v10) ∨ b = v11) := fun b off e e2 => by cases e; have h8 := NA.out P (three_agg (.inl rfl)); omega
  have ne7 : ∀ b off, (some ⟨T, 0, none⟩ : Option Addr) = some ⟨b, off, none⟩ → ¬ ((b = v9 ∨ b = v10) ∨ b = v11) := fun b off e e2 => by cases e; have h8 := NA.out T (three_agg (.inr (.inl rfl))); omega
  have ne11 : ∀ b off, ba = some ⟨b, off, none⟩ → ¬ ((b = v9 ∨ b = v10) ∨ b = v11) := fun b off e e2 => by have h8 := NA.out b (three_agg (.inr (.inr (by rw [e]; rfl)))); omega
  replace r2 := RowOf.kx r2 KX.out ne3
  replace r3 := RowOf.kx r3 KX.out ne7
  replace r4 := RowOf.kx r4 KX.out ne11
  clear KX NA ne3 ne7 ne11 gz
  replace h3 := h3.keep gZ
  replace h4 := h4.keep gZ
  replace h5 := h5.keep gZ
  replace gU := gU.tr gZ
  clear gZ d119 d1110 l9 l10 l11 u0 u1 u2
  replace oL := oL.1
  replace oA := oA.1
  replace oO := oO.1
  have q0 := h3.2 0 _ rfl
  have q1 := h3.2 1 _ rfl
  have q2 := h3.2 2 _ rfl
  have q3 := h3.2 3 _ rfl
  have q4 := h3.2 4 _ rfl
  have q5 := h3.2 5 _ rfl
  have q6 := h3.2 6 _ rfl
  have q7 := h3.2 7 _ rfl
  have q8 := h3.2 8 _ rfl
  have q9 := h3.2 9 _ rfl
  have q10 := h3.2 10 _ rfl
  have q11 := h3.2 11 _ rfl
  have q12 := h3.2 12 _ rfl
  have q13 := h3.2 13 _ rfl
  have q14 := h3.2 14 _ rfl
  have q15 := h3.2 15 _ rfl
  have q16 := h3.2 16 _ rfl
  obtain ⟨b0, b1, b2, b3, b4, b5, b6⟩ := oL.c7
  obtain ⟨c0, c1⟩ := oA.c2
  go_upto_region 3 with (go_at_call 41; refine (WI.out _ _ _ _ _ _ _ r2 r3 r4).mono ?_; rintro e wW ⟨rfl, gW⟩)
  clear b0 b1 b2 b3 b4 b5 b6 c0 c1 q0 q1 q2 q3 q4 q5 q6 q7 q8 q9 q10 q11 q12 q13 q14 q15 q16
  obtain ⟨D, hD⟩ : ∃ D, D = wW.heap.size := ⟨_, rfl⟩
  have oW := Box.new wW [.int .i64 W.ll, .int .i64 W.lh, .int .i64 W.wl, .int .i64 W.wh, .int .i64 W.hl, .int .i64 W.hh, .int .i64 W.ol, .int .i64 W.oh, .int .i64 W.il, .int .i64 W.ih, .bool W.wo] 48 D hD
  rw [← hD]
  refine wp_abs (fun X => Gr Z X ∧ Box X D [.int .i64 W.ll, .int .i64 W.lh, .int .i64 W.wl, .int .i64 W.wh, .int .i64 W.hl, .int .i64 W.hh, .int .i64 W.ol, .int .i64 W.oh, .int .i64 W.il, .int .i64 W.ih, .bool W.wo]) ⟨gW.tr (Gr.al _ _), oW⟩ ?_
  clear gW oW hD h3
  rintro Y ⟨gY, oW⟩
  replace gU := gU.tr gY
  replace oL := oL.keep gY
  replace oA := oA.keep gY
  replace oO := oO.keep gY
  replace r2 := r2.grow gY
  replace r3 := r3.grow gY
  replace r4 := r4.grow gY
  replace h4 := h4.keep gY
  replace h5 := h5.keep gY
  clear gY
  obtain ⟨b0, b1, b2, b3, b4, b5, b6⟩ := oL.c7
  go_upto_region 4 with (go_at_call 16; refine (ownAll_any a0 a1 a0 a1 t0 t1 s0 s1 hei o _ _ _ _ _ _ _ r2 r3 r4).mono ?_; rintro e wL ⟨w3, lc3, w7, lc7, w11, lc11, rfl, gL, ⟨oK, o7', o11'⟩, ⟨lk3, lk7, lk11⟩, n37, n311, n711⟩)
  clear b0 b1 b2 b3 b4 b5 b6
  obtain ⟨B, hB⟩ : ∃ B, B = wL.heap.size := ⟨_, rfl⟩
  have oV := Own.new wL [.int .i64 30, .slice (some ⟨w3, 0, none⟩) 4 lc3, .int .i64 hei, .slice (some ⟨w7, 0, none⟩) 2 lc7, .slice (some ⟨w11, 0, none⟩) 2 lc11, .int .i64 9, .bool o] 24 B hB
  have SD : SeenD Y B w3 w7 w11 := ⟨⟨by rw [hB]; exact gL.size, lk3, lk7, lk11⟩, by have := oK.1.1; omega, by have := o7'.1.1; omega, by have := o11'.1.1; omega, n37, n311, n711⟩
  rw [← hB]
  refine wp_abs (fun X => SeenW Y B w3 lc3 w7 lc7 w11 lc11 o a0 a1 a0 a1 t0 t1 s0 s1 hei X) ⟨gL.tr (Gr.al _ _), oV, oK.keep (Gr.al _ _), o7'.keep (Gr.al _ _), o11'.keep (Gr.al _ _)⟩ ?_
  clear gL oV oK o7' o11' hB lk3 lk7 lk11 n37 n311 n711
  rintro V0 SW
  go_wp2
  refine (show (∀ sa : Nat → Value, Code.wp Try.prog _ _ ⟨#[sa 0, sa 1, sa 2, sa 3, .pointer (some ⟨(w.heap.size + 1), 0, none⟩), .pointer (some ⟨(w.heap.size + 1 + 1), 0, none⟩), .bool false, .pointer (some ⟨v9, 0, none⟩), .pointer (some ⟨v10, 0, none⟩), .pointer (some ⟨v11, 0, none⟩), .pointer (some ⟨D, 0, none⟩), .pointer (some ⟨B, 0, none⟩), .func (.func 47) #[] #[.pointer (some ⟨(w.heap.size + 1), 0, none⟩), .pointer (some ⟨v11, 0, none⟩)], .int .i64 0, undef, undef, undef, undef, undef, undef, undef, undef, undef, undef, undef, undef, sa 26, sa 27, sa 28, sa 29, sa 30, sa 31, sa 32, sa 33, sa 34, sa 35, sa 36, sa 37, sa 38, sa 39, sa 40, sa 41, undef, undef, undef, undef, undef, undef, undef, undef, undef, undef, undef, undef, undef, undef, undef, undef, undef, undef, undef, undef, undef, undef, undef, undef, undef, undef, undef, undef, undef, undef, undef, undef, undef, undef, undef, undef, undef, undef, undef, undef, undef, undef, undef, undef, undef, undef, undef, undef, undef, undef, undef, undef, undef, undef, undef, undef, undef, undef, undef, undef, undef, undef, undef, undef, undef, undef, undef, undef, undef, undef, undef, undef, undef, undef, undef, undef, undef, undef, undef, undef, undef, undef, undef, undef, undef, undef, undef, undef, undef, undef, undef, undef, undef, undef, undef, undef, undef, undef, undef, undef, undef, undef, undef, undef, undef, undef, undef, undef, undef, undef, undef, undef, undef, undef, undef, undef, undef, undef, undef, undef, undef, undef, undef, undef, undef, undef, undef, undef, undef, undef, undef, undef, undef, undef, undef, undef, undef, undef, undef, undef, undef, undef, undef, undef, undef, undef, undef, undef, undef, undef, undef, undef, undef, undef, undef, undef, undef, undef, undef, undef, undef, undef, undef, undef, undef, undef, undef, undef, undef, undef, undef, undef, undef, undef, undef, undef, undef, undef, undef, undef], []⟩ _) → _ from fun h => h ((fun l : List Value => fun i => l.getD i undef) [_, _, _, _, undef, undef, undef, undef, undef, undef, undef, undef, undef, undef, undef, undef, undef, undef, undef, undef, undef, undef, undef, undef, undef, undef, _, _, _, _, _, _, _, _, _, _, _, _, _, _, _, _])) ?_
  intro sa
  dsimp only
  go_loopw [13] (fun x wr => Hid ((x = .int .i64 0 ∧ SeenW Y B w3 lc3 w7 lc7 w11 lc11 o a0 a1 a0 a1 t0 t1 s0 s1 hei wr) ∨ (x = .int .i64 1 ∧ SeenW Y B w3 lc3 w7 lc7 w11 lc11 o P0 a1 a0 a1 t0 t1 s0 s1 hei wr) ∨ (x = .int .i64 2 ∧ SeenW Y B w3 lc3 w7 lc7 w11 lc11 o P0 P1 a0 a1 t0 t1 s0 s1 hei wr) ∨ (x = .int .i64 3 ∧ SeenW Y B w3 lc3 w7 lc7 w11 lc11 o P0 P1 P2 a1 t0 t1 s0 s1 hei wr) ∨ (x = .int .i64 4 ∧ SeenW Y B w3 lc3 w7 lc7 w11 lc11 o P0 P1 P2 P3 t0 t1 s0 s1 hei wr))) (fun x wr => 4 - (intOf x).toNat)
  case atStart => exact Lib.hid (.inl ⟨rfl, SW⟩)
  case round =>
   clear SW
   have h := hrel.out
   clear hrel
   rcases h with ⟨rfl, SW⟩ | ⟨rfl, SW⟩ | ⟨rfl, SW⟩ | ⟨rfl, SW⟩ | ⟨rfl, SW⟩
   ·as_aux_lemma =>
    refine wp_abs (fun Z => SeenW Y B w3 lc3 w7 lc7 w11 lc11 o a0 a1 a0 a1 t0 t1 s0 s1 hei Z) SW ?_
    clear SW
    rintro wz SW
    have h4z := h4.keep SW.1
    have oOz := oO.keep SW.1
    go_upto_region 8 with fail
    have hd := HD.out d0 (by simp)
    have hs := HS.out
    have hp := HP.out.1
    have wk : IntKind.i64.wrap (a0 + d0) = P0 := by rw [IntWalk.i64_in _ (by obtain ⟨q0, q1, _⟩ := hs; omega)]; omega
    clear hd hs hp
    have oVb := SW.2.1.1
    have oKb := SW.2.2.1.1
    refine (show (∀ sb : Nat → Value, Code.wp Try.prog _ _ ⟨#[sa 0, sa 1, sa 2, sa 3, .pointer (some ⟨(w.heap.size + 1), 0, none⟩), .pointer (some ⟨(w.heap.size + 1 + 1), 0, none⟩), .bool false, .pointer (some ⟨v9, 0, none⟩), .pointer (some ⟨v10, 0, none⟩), .pointer (some ⟨v11, 0, none⟩), .pointer (some ⟨D, 0, none⟩), .pointer (some ⟨B, 0, none⟩), .func (.func 47) #[] #[.pointer (some ⟨(w.heap.size + 1), 0, none⟩), .pointer (some ⟨v11, 0, none⟩)], .int .i64 0, undef, undef, undef, undef, undef, undef, undef, undef, undef, undef, undef, undef, sa 26, sa 27, sa 28, sa 29, sa 30, sa 31, sa 32, sa 33, sa 34, sa 35, sa 36, sa 37, sa 38, sa 39, sa 40, sa 41, sb 42, sb 43, sb 44, sb 45, sb 46, sb 47, sb 48, sb 49, sb 50, sb 51, sb 52, sb 53, sb 54, sb 55, undef, undef, undef, undef, undef, undef, undef, undef, undef, undef, undef, undef, undef, undef, undef, undef, undef, undef, undef, undef, undef, undef, undef, undef, undef, undef, undef, undef, undef, undef, undef, undef, undef, undef, undef, undef, undef, undef, undef, undef, undef, undef, undef, undef, undef, undef, undef, undef, undef, undef, undef, undef, undef, undef, undef, undef, undef, undef, undef, undef, undef, undef, undef, undef, undef, undef, undef, undef, undef, undef, undef, undef, undef, undef, undef, undef, undef, undef, undef, undef, undef, undef, undef, undef, undef, undef, undef, undef, undef, undef, undef, undef, undef, undef, undef, undef, undef, undef, undef, undef, undef, undef, undef, undef, undef, undef, undef, undef, undef, undef, undef, undef, undef, undef, undef, undef, undef, undef, undef, undef, undef, undef, undef, undef, undef, undef, undef, undef, undef, undef, undef, undef, undef, undef, undef, undef, undef, undef, undef, undef, undef, undef, undef, undef, undef, undef, undef, undef, undef, undef, undef, undef, undef, undef, undef, undef, undef, undef, undef, undef, undef, undef, undef, undef, undef, undef], []⟩ _) → _ from fun h => h ((fun l : List Value => fun i => l.getD i undef) [undef, undef, undef, undef, undef, undef, undef, undef, undef, undef, undef, undef, undef, undef, undef, undef, undef, undef, undef, undef, undef, undef, undef, undef, undef, undef, undef, undef, undef, undef, undef, undef, undef, undef, undef, undef, undef, undef, undef, undef, undef, undef, _, _, _, _, _, _, _, _, _, _, _, _, _, _])) ?_
    intro sb
    dsimp only
    refine wp_region_facts 9 [(1, 0), (3, 1), (3, 2), (4, 3), (7, 5), (7, 6), (8, 4), (8, 7)] (fun x => ⟨#[sa 0, sa 1, sa 2, sa 3, .pointer (some ⟨(w.heap.size + 1), 0, none⟩), .pointer (some ⟨(w.heap.size + 1 + 1), 0, none⟩), .bool false, .pointer (some ⟨v9, 0, none⟩), .pointer (some ⟨v10, 0, none⟩), .pointer (some ⟨v11, 0, none⟩), .pointer (some ⟨D, 0, none⟩), .pointer (some ⟨B, 0, none⟩), .func (.func 47) #[] #[.pointer (some ⟨(w.heap.size + 1), 0, none⟩), .pointer (some ⟨v11, 0, none⟩)], .int .i64 0, undef, undef, undef, undef, undef, undef, undef, undef, undef, undef, undef, undef, sa 26, sa 27, sa 28, sa 29, sa 30, sa 31, sa 32, sa 33, sa 34, sa 35, sa 36, sa 37, sa 38, sa 39, sa 40, sa 41, sb 42, sb 43, sb 44, sb 45, x 0, x 1, x 2, x 3, x 4, x 5, x 6, x 7, x 8, sb 55, undef, undef, undef, undef, undef, undef, undef, undef, undef, undef, undef, undef, undef, undef, undef, undef, undef, undef, undef, undef, undef, undef, undef, undef, undef, undef, undef, undef, undef, undef, undef, undef, undef, undef, undef, undef, undef, undef, undef, undef, undef, undef, undef, undef, undef, undef, undef, undef, undef, undef, undef, undef, undef, undef, undef, undef, undef, undef, undef, undef, undef, undef, undef, undef, undef, undef, undef, undef, undef, undef, undef, undef, undef, undef, undef, undef, undef, undef, undef, undef, undef, undef, undef, undef, undef, undef, undef, undef, undef, undef, undef, undef, undef, undef, undef, undef, undef, undef, undef, undef, undef, undef, undef, undef, undef, undef, undef, undef, undef, undef, undef, undef, undef, undef, undef, undef, undef, undef, undef, undef, undef, undef, undef, undef, undef, undef, undef, undef, undef, undef, undef, undef, undef, undef, undef, undef, undef, undef, undef, undef, undef, undef, undef, undef, undef, undef, undef, undef, undef, undef, undef, undef, undef, undef, undef, undef, undef, undef, undef, undef, undef, undef, undef, undef, undef, undef], []⟩) (fun i => [sb 46, sb 47, sb 48, sb 49, sb 50, sb 51, sb 52, sb 53, sb 54].getD i undef) [fun _ x => x = .pointer (some ⟨B, 1, none⟩), fun _ x => x = .slice (some ⟨w3, 0, none⟩) 4 lc3, fun _ x => x = .int .i64 0, fun _ x => x = .pointer (some ⟨w3, 0, none⟩), fun _ x => x = .int .i64 a0, fun _ x => x = .func (.func 47) #[] #[.pointer (some ⟨(w.heap.size + 1), 0, none⟩), .pointer (some ⟨v11, 0, none⟩)], fun _ x => x = .int .i64 0, fun _ x => x = .int .i64 d0, fun _ x => x = .int .i64 P0] (by rfl) (by kernel_rfl) (by kernel_rfl) (by kernel_rfl) (stays_cons (Stays.eq _) (stays_cons (Stays.eq _) (stays_cons (Stays.eq _) (stays_cons (Stays.eq _) (stays_cons (Stays.eq _) (stays_cons (Stays.eq _) (stays_cons (Stays.eq _) (stays_cons (Stays.eq _) (stays_cons (Stays.eq _) stays_nil))))))))) ?step8_0 ?fin8_0
    case step8_0 => as_aux_lemma =>
     rintro i hi x v gv hd K hK
     have hi8 : i = 0 ∨ i = 1 ∨ i = 2 ∨ i = 3 ∨ i = 4 ∨ i = 5 ∨ i = 6 ∨ i = 7 ∨ i = 8 := by omega
     rcases hi8 with rfl | rfl | rfl | rfl | rfl | rfl | rfl | rfl | rfl
     ·try dsimp only [upd, Nat.reduceBEq, cond_true, cond_false]
      refine wpOp_step rfl (fun K' hK' => ?_)
      go_simp
      exact hK' _ _ (hK _ _ (Below.refl _ _) (at_of rfl (rfl)))
     ·obtain ⟨x, rfl⟩ := upd_of (show x 0 = .pointer (some ⟨B, 1, none⟩) from hd 0 _ (by simp) rfl)
      try dsimp only [upd, Nat.reduceBEq, cond_true, cond_false]
      refine wpOp_step rfl (fun K' hK' => ?_)
      have q := (oVb.keep gv).2 1 _ rfl
      go_simp
      exact hK' _ _ (hK _ _ (Below.refl _ _) (at_of rfl (rfl)))
     ·try dsimp only [upd, Nat.reduceBEq, cond_true, cond_false]
      refine wpOp_step rfl (fun K' hK' => ?_)
      go_simp
      exact hK' _ _ (hK _ _ (Below.refl _ _) (at_of rfl (rfl)))
     ·obtain ⟨x, rfl⟩ := upd_of (show x 1 = .slice (some ⟨w3, 0, none⟩) 4 lc3 from hd 1 _ (by simp) rfl)
      obtain ⟨x, rfl⟩ := upd_of (show x 2 = .int .i64 0 from hd 2 _ (by simp) rfl)
      try dsimp only [upd, Nat.reduceBEq, cond_true, cond_false]
      refine wpOp_step rfl (fun K' hK' => ?_)
      go_simp
      exact hK' _ _ (hK _ _ (Below.refl _ _) (at_of rfl (rfl)))
     ·obtain ⟨x, rfl⟩ := upd_of (show x 3 = .pointer (some ⟨w3, 0, none⟩) from hd 3 _ (by simp) rfl)
      try dsimp only [upd, Nat.reduceBEq, cond_true, cond_false]
      refine wpOp_step rfl (fun K' hK' => ?_)
      have q := (oKb.keep gv).2 0 _ rfl
      go_simp
      exact hK' _ _ (hK _ _ (Below.refl _ _) (at_of rfl (rfl)))
     ·try dsimp only [upd, Nat.reduceBEq, cond_true, cond_false]
      refine wpOp_step rfl (fun K' hK' => ?_)
      go_simp
      exact hK' _ _ (hK _ _ (Below.refl _ _) (at_of rfl (rfl)))
     ·try dsimp only [upd, Nat.reduceBEq, cond_true, cond_false]
      refine wpOp_step rfl (fun K' hK' => ?_)
      go_simp
      exact hK' _ _ (hK _ _ (Below.refl _ _) (at_of rfl (rfl)))
     ·obtain ⟨x, rfl⟩ := upd_of (show x 5 = .func (.func 47) #[] #[.pointer (some ⟨(w.heap.size + 1), 0, none⟩), .pointer (some ⟨v11, 0, none⟩)] from hd 5 _ (by simp) rfl)
      obtain ⟨x, rfl⟩ := upd_of (show x 6 = .int .i64 0 from hd 6 _ (by simp) rfl)
      try dsimp only [upd, Nat.reduceBEq, cond_true, cond_false]
      refine wpOp_step rfl (fun K' hK' => ?_)
      go_simp
      refine ((BY.out _ _ v (h4z.keep gv) (oOz.keep gv)).1).mono ?_
      rintro e v' ⟨rfl, hg⟩
      exact hK' _ _ (hK _ _ hg (at_of rfl (rfl)))
     ·obtain ⟨x, rfl⟩ := upd_of (show x 4 = .int .i64 a0 from hd 4 _ (by simp) rfl)
      obtain ⟨x, rfl⟩ := upd_of (show x 7 = .int .i64 d0 from hd 7 _ (by simp) rfl)
      try dsimp only [upd, Nat.reduceBEq, cond_true, cond_false]
      refine wpOp_step rfl (fun K' hK' => ?_)
      go_simp
      exact hK' _ _ (hK _ _ (Below.refl _ _) (at_of rfl (rfl)))
    case fin8_0 =>
     rintro x v gv hd
     obtain ⟨x, rfl⟩ := upd_of (show x 1 = .slice (some ⟨w3, 0, none⟩) 4 lc3 from hd 1 _ (by omega) rfl)
     obtain ⟨x, rfl⟩ := upd_of (show x 2 = .int .i64 0 from hd 2 _ (by omega) rfl)
     obtain ⟨x, rfl⟩ := upd_of (show x 8 = .int .i64 P0 from hd 8 _ (by omega) rfl)
     clear hd
     show wpList Try.prog _ _ (List.drop 9 _) (⟨#[_, _, _, _, _, _, _, _, _, _, _, _, _, _, _, _, _, _, _, _, _, _, _, _, _, _, _, _, _, _, _, _, _, _, _, _, _, _, _, _, _, _, _, _, _, _, x 0, .slice (some ⟨w3, 0, none⟩) 4 lc3, .int .i64 0, x 3, x 4, x 5, x 6, x 7, .int .i64 P0, _, _, _, _, _, _, _, _, _, _, _, _, _, _, _, _, _, _, _, _, _, _, _, _, _, _, _, _, _, _, _, _, _, _, _, _, _, _, _, _, _, _, _, _, _, _, _, _, _, _, _, _, _, _, _, _, _, _, _, _, _, _, _, _, _, _, _, _, _, _, _, _, _, _, _, _, _, _, _, _, _, _, _, _, _, _, _, _, _, _, _, _, _, _, _, _, _, _, _, _, _, _, _, _, _, _, _, _, _, _, _, _, _, _, _, _, _, _, _, _, _, _, _, _, _, _, _, _, _, _, _, _, _, _, _, _, _, _, _, _, _, _, _, _, _, _, _, _, _, _, _, _, _, _, _, _, _, _, _, _, _, _, _, _, _, _, _], []⟩ : Act) v
     simp only [List.drop_succ_cons, List.drop_zero]
     have e_ := (SW.keep gv).2.2.1.1.2 0 _ rfl
     have z_ := (SW.keep gv).2.2.1.2 0
     go_wp2
     go_roundw
     case rel => exact Lib.hid (.inr (.inl ⟨rfl, (SW.keep gv).set_p0 SD P0⟩))
     case measure => simp [intOf]
   ·as_aux_lemma =>
    refine wp_abs (fun Z => SeenW Y B w3 lc3 w7 lc7 w11 lc11 o P0 a1 a0 a1 t0 t1 s0 s1 hei Z) SW ?_
    clear SW
    rintro wz SW
    have h4z := h4.keep SW.1
    have oOz := oO.keep SW.1
    go_upto_region 8 with fail
    have hd := HD.out d1 (by simp)
    have hs := HS.out
    have hp := HP.out.1
    have wk : IntKind.i64.wrap (a1 + d1) = P1 := by rw [IntWalk.i64_in _ (by obtain ⟨q0, q1, _⟩ := hs; omega)]; omega
    clear hd hs hp
    have oVb := SW.2.1.1
    have oKb := SW.2.2.1.1
    refine (show (∀ sb : Nat → Value, Code.wp Try.prog _ _ ⟨#[sa 0, sa 1, sa 2, sa 3, .pointer (some ⟨(w.heap.size + 1), 0, none⟩), .pointer (some ⟨(w.heap.size + 1 + 1), 0, none⟩), .bool false, .pointer (some ⟨v9, 0, none⟩), .pointer (some ⟨v10, 0, none⟩), .pointer (some ⟨v11, 0, none⟩), .pointer (some ⟨D, 0, none⟩), .pointer (some ⟨B, 0, none⟩), .func (.func 47) #[] #[.pointer (some ⟨(w.heap.size + 1), 0, none⟩), .pointer (some ⟨v11, 0, none⟩)], .int .i64 1, undef, undef, undef, undef, undef, undef, undef, undef, undef, undef, undef, undef, sa 26, sa 27, sa 28, sa 29, sa 30, sa 31, sa 32, sa 33, sa 34, sa 35, sa 36, sa 37, sa 38, sa 39, sa 40, sa 41, sb 42, sb 43, sb 44, sb 45, sb 46, sb 47, sb 48, sb 49, sb 50, sb 51, sb 52, sb 53, sb 54, sb 55, undef, undef, undef, undef, undef, undef, undef, undef, undef, undef, undef, undef, undef, undef, undef, undef, undef, undef, undef, undef, undef, undef, undef, undef, undef, undef, undef, undef, undef, undef, undef, undef, undef, undef, undef, undef, undef, undef, undef, undef, undef, undef, undef, undef, undef, undef, undef, undef, undef, undef, undef, undef, undef, undef, undef, undef, undef, undef, undef, undef, undef, undef, undef, undef, undef, undef, undef, undef, undef, undef, undef, undef, undef, undef, undef, undef, undef, undef, undef, undef, undef, undef, undef, undef, undef, undef, undef, undef, undef, undef, undef, undef, undef, undef, undef, undef, undef, undef, undef, undef, undef, undef, undef, undef, undef, undef, undef, undef, undef, undef, undef, undef, undef, undef, undef, undef, undef, undef, undef, undef, undef, undef, undef, undef, undef, undef, undef, undef, undef, undef, undef, undef, undef, undef, undef, undef, undef, undef, undef, undef, undef, undef, undef, undef, undef, undef, undef, undef, undef, undef, undef, undef, undef, undef, undef, undef, undef, undef, undef, undef, undef, undef, undef, undef, undef, undef], []⟩ _) → _ from fun h => h ((fun l : List Value => fun i => l.getD i undef) [undef, undef, undef, undef, undef, undef, undef, undef, undef, undef, undef, undef, undef, undef, undef, undef, undef, undef, undef, undef, undef, undef, undef, undef, undef, undef, undef, undef, undef, undef, undef, undef, undef, undef, undef, undef, undef, undef, undef, undef, undef, undef, _, _, _, _, _, _, _, _, _, _, _, _, _, _])) ?_
    intro sb
    dsimp only
    refine wp_region_facts 9 [(1, 0), (3, 1), (3, 2), (4, 3), (7, 5), (7, 6), (8, 4), (8, 7)] (fun x => ⟨#[sa 0, sa 1, sa 2, sa 3, .pointer (some ⟨(w.heap.size + 1), 0, none⟩), .pointer (some ⟨(w.heap.size + 1 + 1), 0, none⟩), .bool false, .pointer (some ⟨v9, 0, none⟩), .pointer (some ⟨v10, 0, none⟩), .pointer (some ⟨v11, 0, none⟩), .pointer (some ⟨D, 0, none⟩), .pointer (some ⟨B, 0, none⟩), .func (.func 47) #[] #[.pointer (some ⟨(w.heap.size + 1), 0, none⟩), .pointer (some ⟨v11, 0, none⟩)], .int .i64 1, undef, undef, undef, undef, undef, undef, undef, undef, undef, undef, undef, undef, sa 26, sa 27, sa 28, sa 29, sa 30, sa 31, sa 32, sa 33, sa 34, sa 35, sa 36, sa 37, sa 38, sa 39, sa 40, sa 41, sb 42, sb 43, sb 44, sb 45, x 0, x 1, x 2, x 3, x 4, x 5, x 6, x 7, x 8, sb 55, undef, undef, undef, undef, undef, undef, undef, undef, undef, undef, undef, undef, undef, undef, undef, undef, undef, undef, undef, undef, undef, undef, undef, undef, undef, undef, undef, undef, undef, undef, undef, undef, undef, undef, undef, undef, undef, undef, undef, undef, undef, undef, undef, undef, undef, undef, undef, undef, undef, undef, undef, undef, undef, undef, undef, undef, undef, undef, undef, undef, undef, undef, undef, undef, undef, undef, undef, undef, undef, undef, undef, undef, undef, undef, undef, undef, undef, undef, undef, undef, undef, undef, undef, undef, undef, undef, undef, undef, undef, undef, undef, undef, undef, undef, undef, undef, undef, undef, undef, undef, undef, undef, undef, undef, undef, undef, undef, undef, undef, undef, undef, undef, undef, undef, undef, undef, undef, undef, undef, undef, undef, undef, undef, undef, undef, undef, undef, undef, undef, undef, undef, undef, undef, undef, undef, undef, undef, undef, undef, undef, undef, undef, undef, undef, undef, undef, undef, undef, undef, undef, undef, undef, undef, undef, undef, undef, undef, undef, undef, undef, undef, undef, undef, undef, undef, undef], []⟩) (fun i => [sb 46, sb 47, sb 48, sb 49, sb 50, sb 51, sb 52, sb 53, sb 54].getD i undef) [fun _ x => x = .pointer (some ⟨B, 1, none⟩), fun _ x => x = .slice (some ⟨w3, 0, none⟩) 4 lc3, fun _ x => x = .int .i64 1, fun _ x => x = .pointer (some ⟨w3, 1, none⟩), fun _ x => x = .int .i64 a1, fun _ x => x = .func (.func 47) #[] #[.pointer (some ⟨(w.heap.size + 1), 0, none⟩), .pointer (some ⟨v11, 0, none⟩)], fun _ x => x = .int .i64 1, fun _ x => x = .int .i64 d1, fun _ x => x = .int .i64 P1] (by rfl) (by kernel_rfl) (by kernel_rfl) (by kernel_rfl) (stays_cons (Stays.eq _) (stays_cons (Stays.eq _) (stays_cons (Stays.eq _) (stays_cons (Stays.eq _) (stays_cons (Stays.eq _) (stays_cons (Stays.eq _) (stays_cons (Stays.eq _) (stays_cons (Stays.eq _) (stays_cons (Stays.eq _) stays_nil))))))))) ?step8_1 ?fin8_1
    case step8_1 => as_aux_lemma =>
     rintro i hi x v gv hd K hK
     have hi8 : i = 0 ∨ i = 1 ∨ i = 2 ∨ i = 3 ∨ i = 4 ∨ i = 5 ∨ i = 6 ∨ i = 7 ∨ i = 8 := by omega
     rcases hi8 with rfl | rfl | rfl | rfl | rfl | rfl | rfl | rfl | rfl
     ·try dsimp only [upd, Nat.reduceBEq, cond_true, cond_false]
      refine wpOp_step rfl (fun K' hK' => ?_)
      go_simp
      exact hK' _ _ (hK _ _ (Below.refl _ _) (at_of rfl (rfl)))
     ·obtain ⟨x, rfl⟩ := upd_of (show x 0 = .pointer (some ⟨B, 1, none⟩) from hd 0 _ (by simp) rfl)
      try dsimp only [upd, Nat.reduceBEq, cond_true, cond_false]
      refine wpOp_step rfl (fun K' hK' => ?_)
      have q := (oVb.keep gv).2 1 _ rfl
      go_simp
      exact hK' _ _ (hK _ _ (Below.refl _ _) (at_of rfl (rfl)))
     ·try dsimp only [upd, Nat.reduceBEq, cond_true, cond_false]
      refine wpOp_step rfl (fun K' hK' => ?_)
      go_simp
      exact hK' _ _ (hK _ _ (Below.refl _ _) (at_of rfl (rfl)))
     ·obtain ⟨x, rfl⟩ := upd_of (show x 1 = .slice (some ⟨w3, 0, none⟩) 4 lc3 from hd 1 _ (by simp) rfl)
      obtain ⟨x, rfl⟩ := upd_of (show x 2 = .int .i64 1 from hd 2 _ (by simp) rfl)
      try dsimp only [upd, Nat.reduceBEq, cond_true, cond_false]
      refine wpOp_step rfl (fun K' hK' => ?_)
      go_simp
      exact hK' _ _ (hK _ _ (Below.refl _ _) (at_of rfl (rfl)))
     ·obtain ⟨x, rfl⟩ := upd_of (show x 3 = .pointer (some ⟨w3, 1, none⟩) from hd 3 _ (by simp) rfl)
      try dsimp only [upd, Nat.reduceBEq, cond_true, cond_false]
      refine wpOp_step rfl (fun K' hK' => ?_)
      have q := (oKb.keep gv).2 1 _ rfl
      go_simp
      exact hK' _ _ (hK _ _ (Below.refl _ _) (at_of rfl (rfl)))
     ·try dsimp only [upd, Nat.reduceBEq, cond_true, cond_false]
      refine wpOp_step rfl (fun K' hK' => ?_)
      go_simp
      exact hK' _ _ (hK _ _ (Below.refl _ _) (at_of rfl (rfl)))
     ·try dsimp only [upd, Nat.reduceBEq, cond_true, cond_false]
      refine wpOp_step rfl (fun K' hK' => ?_)
      go_simp
      exact hK' _ _ (hK _ _ (Below.refl _ _) (at_of rfl (rfl)))
     ·obtain ⟨x, rfl⟩ := upd_of (show x 5 = .func (.func 47) #[] #[.pointer (some ⟨(w.heap.size + 1), 0, none⟩), .pointer (some ⟨v11, 0, none⟩)] from hd 5 _ (by simp) rfl)
      obtain ⟨x, rfl⟩ := upd_of (show x 6 = .int .i64 1 from hd 6 _ (by simp) rfl)
      try dsimp only [upd, Nat.reduceBEq, cond_true, cond_false]
      refine wpOp_step rfl (fun K' hK' => ?_)
      go_simp
      refine ((BY.out _ _ v (h4z.keep gv) (oOz.keep gv)).2.1).mono ?_
      rintro e v' ⟨rfl, hg⟩
      exact hK' _ _ (hK _ _ hg (at_of rfl (rfl)))
     ·obtain ⟨x, rfl⟩ := upd_of (show x 4 = .int .i64 a1 from hd 4 _ (by simp) rfl)
      obtain ⟨x, rfl⟩ := upd_of (show x 7 = .int .i64 d1 from hd 7 _ (by simp) rfl)
      try dsimp only [upd, Nat.reduceBEq, cond_true, cond_false]
      refine wpOp_step rfl (fun K' hK' => ?_)
      go_simp
      exact hK' _ _ (hK _ _ (Below.refl _ _) (at_of rfl (rfl)))
    case fin8_1 =>
     rintro x v gv hd
     obtain ⟨x, rfl⟩ := upd_of (show x 1 = .slice (some ⟨w3, 0, none⟩) 4 lc3 from hd 1 _ (by omega) rfl)
     obtain ⟨x, rfl⟩ := upd_of (show x 2 = .int .i64 1 from hd 2 _ (by omega) rfl)
     obtain ⟨x, rfl⟩ := upd_of (show x 8 = .int .i64 P1 from hd 8 _ (by omega) rfl)
     clear hd
     show wpList Try.prog _ _ (List.drop 9 _) (⟨#[_, _, _, _, _, _, _, _, _, _, _, _, _, _, _, _, _, _, _, _, _, _, _, _, _, _, _, _, _, _, _, _, _, _, _, _, _, _, _, _, _, _, _, _, _, _, x 0, .slice (some ⟨w3, 0, none⟩) 4 lc3, .int .i64 1, x 3, x 4, x 5, x 6, x 7, .int .i64 P1, _, _, _, _, _, _, _, _, _, _, _, _, _, _, _, _, _, _, _, _, _, _, _, _, _, _, _, _, _, _, _, _, _, _, _, _, _, _, _, _, _, _, _, _, _, _, _, _, _, _, _, _, _, _, _, _, _, _, _, _, _, _, _, _, _, _, _, _, _, _, _, _, _, _, _, _, _, _, _, _, _, _, _, _, _, _, _, _, _, _, _, _, _, _, _, _, _, _, _, _, _, _, _, _, _, _, _, _, _, _, _, _, _, _, _, _, _, _, _, _, _, _, _, _, _, _, _, _, _, _, _, _, _, _, _, _, _, _, _, _, _, _, _, _, _, _, _, _, _, _, _, _, _, _, _, _, _, _, _, _, _, _, _, _, _, _, _], []⟩ : Act) v
     simp only [List.drop_succ_cons, List.drop_zero]
     have e_ := (SW.keep gv).2.2.1.1.2 1 _ rfl
     have z_ := (SW.keep gv).2.2.1.2 1
     go_wp2
     go_roundw
     case rel => exact Lib.hid (.inr (.inr (.inl ⟨rfl, (SW.keep gv).set_p1 SD P1⟩)))
     case measure => simp [intOf]
   ·as_aux_lemma =>
    refine wp_abs (fun Z => SeenW Y B w3 lc3 w7 lc7 w11 lc11 o P0 P1 a0 a1 t0 t1 s0 s1 hei Z) SW ?_
    clear SW
    rintro wz SW
    have h4z := h4.keep SW.1
    have oOz := oO.keep SW.1
    go_upto_region 8 with fail
    have hd := HD.out d2 (by simp)
    have hs := HS.out
    have hp := HP.out.1
    have wk : IntKind.i64.wrap (a0 + d2) = P2 := by rw [IntWalk.i64_in _ (by obtain ⟨q0, q1, _⟩ := hs; omega)]; omega
    clear hd hs hp
    have oVb := SW.2.1.1
    have oKb := SW.2.2.1.1
    refine (show (∀ sb : Nat → Value, Code.wp Try.prog _ _ ⟨#[sa 0, sa 1, sa 2, sa 3, .pointer (some ⟨(w.heap.size + 1), 0, none⟩), .pointer (some ⟨(w.heap.size + 1 + 1), 0, none⟩), .bool false, .pointer (some ⟨v9, 0, none⟩), .pointer (some ⟨v10, 0, none⟩), .pointer (some ⟨v11, 0, none⟩), .pointer (some ⟨D, 0, none⟩), .pointer (some ⟨B, 0, none⟩), .func (.func 47) #[] #[.pointer (some ⟨(w.heap.size + 1), 0, none⟩), .pointer (some ⟨v11, 0, none⟩)], .int .i64 2, undef, undef, undef, undef, undef, undef, undef, undef, undef, undef, undef, undef, sa 26, sa 27, sa 28, sa 29, sa 30, sa 31, sa 32, sa 33, sa 34, sa 35, sa 36, sa 37, sa 38, sa 39, sa 40, sa 41, sb 42, sb 43, sb 44, sb 45, sb 46, sb 47, sb 48, sb 49, sb 50, sb 51, sb 52, sb 53, sb 54, sb 55, undef, undef, undef, undef, undef, undef, undef, undef, undef, undef, undef, undef, undef, undef, undef, undef, undef, undef, undef, undef, undef, undef, undef, undef, undef, undef, undef, undef, undef, undef, undef, undef, undef, undef, undef, undef, undef, undef, undef, undef, undef, undef, undef, undef, undef, undef, undef, undef, undef, undef, undef, undef, undef, undef, undef, undef, undef, undef, undef, undef, undef, undef, undef, undef, undef, undef, undef, undef, undef, undef, undef, undef, undef, undef, undef, undef, undef, undef, undef, undef, undef, undef, undef, undef, undef, undef, undef, undef, undef, undef, undef, undef, undef, undef, undef, undef, undef, undef, undef, undef, undef, undef, undef, undef, undef, undef, undef, undef, undef, undef, undef, undef, undef, undef, undef, undef, undef, undef, undef, undef, undef, undef, undef, undef, undef, undef, undef, undef, undef, undef, undef, undef, undef, undef, undef, undef, undef, undef, undef, undef, undef, undef, undef, undef, undef, undef, undef, undef, undef, undef, undef, undef, undef, undef, undef, undef, undef, undef, undef, undef, undef, undef, undef, undef, undef, undef], []⟩ _) → _ from fun h => h ((fun l : List Value => fun i => l.getD i undef) [undef, undef, undef, undef, undef, undef, undef, undef, undef, undef, undef, undef, undef, undef, undef, undef, undef, undef, undef, undef, undef, undef, undef, undef, undef, undef, undef, undef, undef, undef, undef, undef, undef, undef, undef, undef, undef, undef, undef, undef, undef, undef, _, _, _, _, _, _, _, _, _, _, _, _, _, _])) ?_
    intro sb
    dsimp only
    refine wp_region_facts 9 [(1, 0), (3, 1), (3, 2), (4, 3), (7, 5), (7, 6), (8, 4), (8, 7)] (fun x => ⟨#[sa 0, sa 1, sa 2, sa 3, .pointer (some ⟨(w.heap.size + 1), 0, none⟩), .pointer (some ⟨(w.heap.size + 1 + 1), 0, none⟩), .bool false, .pointer (some ⟨v9, 0, none⟩), .pointer (some ⟨v10, 0, none⟩), .pointer (some ⟨v11, 0, none⟩), .pointer (some ⟨D, 0, none⟩), .pointer (some ⟨B, 0, none⟩), .func (.func 47) #[] #[.pointer (some ⟨(w.heap.size + 1), 0, none⟩), .pointer (some ⟨v11, 0, none⟩)], .int .i64 2, undef, undef, undef, undef, undef, undef, undef, undef, undef, undef, undef, undef, sa 26, sa 27, sa 28, sa 29, sa 30, sa 31, sa 32, sa 33, sa 34, sa 35, sa 36, sa 37, sa 38, sa 39, sa 40, sa 41, sb 42, sb 43, sb 44, sb 45, x 0, x 1, x 2, x 3, x 4, x 5, x 6, x 7, x 8, sb 55, undef, undef, undef, undef, undef, undef, undef, undef, undef, undef, undef, undef, undef, undef, undef, undef, undef, undef, undef, undef, undef, undef, undef, undef, undef, undef, undef, undef, undef, undef, undef, undef, undef, undef, undef, undef, undef, undef, undef, undef, undef, undef, undef, undef, undef, undef, undef, undef, undef, undef, undef, undef, undef, undef, undef, undef, undef, undef, undef, undef, undef, undef, undef, undef, undef, undef, undef, undef, undef, undef, undef, undef, undef, undef, undef, undef, undef, undef, undef, undef, undef, undef, undef, undef, undef, undef, undef, undef, undef, undef, undef, undef, undef, undef, undef, undef, undef, undef, undef, undef, undef, undef, undef, undef, undef, undef, undef, undef, undef, undef, undef, undef, undef, undef, undef, undef, undef, undef, undef, undef, undef, undef, undef, undef, undef, undef, undef, undef, undef, undef, undef, undef, undef, undef, undef, undef, undef, undef, undef, undef, undef, undef, undef, undef, undef, undef, undef, undef, undef, undef, undef, undef, undef, undef, undef, undef, undef, undef, undef, undef, undef, undef, undef, undef, undef, undef], []⟩) (fun i => [sb 46, sb 47, sb 48, sb 49, sb 50, sb 51, sb 52, sb 53, sb 54].getD i undef) [fun _ x => x = .pointer (some ⟨B, 1, none⟩), fun _ x => x = .slice (some ⟨w3, 0, none⟩) 4 lc3, fun _ x => x = .int .i64 2, fun _ x => x = .pointer (some ⟨w3, 2, none⟩), fun _ x => x = .int .i64 a0, fun _ x => x = .func (.func 47) #[] #[.pointer (some ⟨(w.heap.size + 1), 0, none⟩), .pointer (some ⟨v11, 0, none⟩)], fun _ x => x = .int .i64 2, fun _ x => x = .int .i64 d2, fun _ x => x = .int .i64 P2] (by rfl) (by kernel_rfl) (by kernel_rfl) (by kernel_rfl) (stays_cons (Stays.eq _) (stays_cons (Stays.eq _) (stays_cons (Stays.eq _) (stays_cons (Stays.eq _) (stays_cons (Stays.eq _) (stays_cons (Stays.eq _) (stays_cons (Stays.eq _) (stays_cons (Stays.eq _) (stays_cons (Stays.eq _) stays_nil))))))))) ?step8_2 ?fin8_2
    case step8_2 => as_aux_lemma =>
     rintro i hi x v gv hd K hK
     have hi8 : i = 0 ∨ i = 1 ∨ i = 2 ∨ i = 3 ∨ i = 4 ∨ i = 5 ∨ i = 6 ∨ i = 7 ∨ i = 8 := by omega
     rcases hi8 with rfl | rfl | rfl | rfl | rfl | rfl | rfl | rfl | rfl
     ·try dsimp only [upd, Nat.reduceBEq, cond_true, cond_false]
      refine wpOp_step rfl (fun K' hK' => ?_)
      go_simp
      exact hK' _ _ (hK _ _ (Below.refl _ _) (at_of rfl (rfl)))
     ·obtain ⟨x, rfl⟩ := upd_of (show x 0 = .pointer (some ⟨B, 1, none⟩) from hd 0 _ (by simp) rfl)
      try dsimp only [upd, Nat.reduceBEq, cond_true, cond_false]
      refine wpOp_step rfl (fun K' hK' => ?_)
      have q := (oVb.keep gv).2 1 _ rfl
      go_simp
      exact hK' _ _ (hK _ _ (Below.refl _ _) (at_of rfl (rfl)))
     ·try dsimp only [upd, Nat.reduceBEq, cond_true, cond_false]
      refine wpOp_step rfl (fun K' hK' => ?_)
      go_simp
      exact hK' _ _ (hK _ _ (Below.refl _ _) (at_of rfl (rfl)))
     ·obtain ⟨x, rfl⟩ := upd_of (show x 1 = .slice (some ⟨w3, 0, none⟩) 4 lc3 from hd 1 _ (by simp) rfl)
      obtain ⟨x, rfl⟩ := upd_of (show x 2 = .int .i64 2 from hd 2 _ (by simp) rfl)
      try dsimp only [upd, Nat.reduceBEq, cond_true, cond_false]
      refine wpOp_step rfl (fun K' hK' => ?_)
      go_simp
      exact hK' _ _ (hK _ _ (Below.refl _ _) (at_of rfl (rfl)))
     ·obtain ⟨x, rfl⟩ := upd_of (show x 3 = .pointer (some ⟨w3, 2, none⟩) from hd 3 _ (by simp) rfl)
      try dsimp only [upd, Nat.reduceBEq, cond_true, cond_false]
      refine wpOp_step rfl (fun K' hK' => ?_)
      have q := (oKb.keep gv).2 2 _ rfl
      go_simp
      exact hK' _ _ (hK _ _ (Below.refl _ _) (at_of rfl (rfl)))
     ·try dsimp only [upd, Nat.reduceBEq, cond_true, cond_false]
      refine wpOp_step rfl (fun K' hK' => ?_)
      go_simp
      exact hK' _ _ (hK _ _ (Below.refl _ _) (at_of rfl (rfl)))
     ·try dsimp only [upd, Nat.reduceBEq, cond_true, cond_false]
      refine wpOp_step rfl (fun K' hK' => ?_)
      go_simp
      exact hK' _ _ (hK _ _ (Below.refl _ _) (at_of rfl (rfl)))
     ·obtain ⟨x, rfl⟩ := upd_of (show x 5 = .func (.func 47) #[] #[.pointer (some ⟨(w.heap.size + 1), 0, none⟩), .pointer (some ⟨v11, 0, none⟩)] from hd 5 _ (by simp) rfl)
      obtain ⟨x, rfl⟩ := upd_of (show x 6 = .int .i64 2 from hd 6 _ (by simp) rfl)
      try dsimp only [upd, Nat.reduceBEq, cond_true, cond_false]
      refine wpOp_step rfl (fun K' hK' => ?_)
      go_simp
      refine ((BY.out _ _ v (h4z.keep gv) (oOz.keep gv)).2.2.1).mono ?_
      rintro e v' ⟨rfl, hg⟩
      exact hK' _ _ (hK _ _ hg (at_of rfl (rfl)))
     ·obtain ⟨x, rfl⟩ := upd_of (show x 4 = .int .i64 a0 from hd 4 _ (by simp) rfl)
      obtain ⟨x, rfl⟩ := upd_of (show x 7 = .int .i64 d2 from hd 7 _ (by simp) rfl)
      try dsimp only [upd, Nat.reduceBEq, cond_true, cond_false]
      refine wpOp_step rfl (fun K' hK' => ?_)
      go_simp
      exact hK' _ _ (hK _ _ (Below.refl _ _) (at_of rfl (rfl)))
    case fin8_2 =>
     rintro x v gv hd
     obtain ⟨x, rfl⟩ := upd_of (show x 1 = .slice (some ⟨w3, 0, none⟩) 4 lc3 from hd 1 _ (by omega) rfl)
     obtain ⟨x, rfl⟩ := upd_of (show x 2 = .int .i64 2 from hd 2 _ (by omega) rfl)
     obtain ⟨x, rfl⟩ := upd_of (show x 8 = .int .i64 P2 from hd 8 _ (by omega) rfl)
     clear hd
     show wpList Try.prog _ _ (List.drop 9 _) (⟨#[_, _, _, _, _, _, _, _, _, _, _, _, _, _, _, _, _, _, _, _, _, _, _, _, _, _, _, _, _, _, _, _, _, _, _, _, _, _, _, _, _, _, _, _, _, _, x 0, .slice (some ⟨w3, 0, none⟩) 4 lc3, .int .i64 2, x 3, x 4, x 5, x 6, x 7, .int .i64 P2, _, _, _, _, _, _, _, _, _, _, _, _, _, _, _, _, _, _, _, _, _, _, _, _, _, _, _, _, _, _, _, _, _, _, _, _, _, _, _, _, _, _, _, _, _, _, _, _, _, _, _, _, _, _, _, _, _, _, _, _, _, _, _, _, _, _, _, _, _, _, _, _, _, _, _, _, _, _, _, _, _, _, _, _, _, _, _, _, _, _, _, _, _, _, _, _, _, _, _, _, _, _, _, _, _, _, _, _, _, _, _, _, _, _, _, _, _, _, _, _, _, _, _, _, _, _, _, _, _, _, _, _, _, _, _, _, _, _, _, _, _, _, _, _, _, _, _, _, _, _, _, _, _, _, _, _, _, _, _, _, _, _, _, _, _, _, _], []⟩ : Act) v
     simp only [List.drop_succ_cons, List.drop_zero]
     have e_ := (SW.keep gv).2.2.1.1.2 2 _ rfl
     have z_ := (SW.keep gv).2.2.1.2 2
     go_wp2
     go_roundw
     case rel => exact Lib.hid (.inr (.inr (.inr (.inl ⟨rfl, (SW.keep gv).set_p2 SD P2⟩))))
     case measure => simp [intOf]
   ·as_aux_lemma =>
    refine wp_abs (fun Z => SeenW Y B w3 lc3 w7 lc7 w11 lc11 o P0 P1 P2 a1 t0 t1 s0 s1 hei Z) SW ?_
    clear SW
    rintro wz SW
    have h4z := h4.keep SW.1
    have oOz := oO.keep SW.1
    go_upto_region 8 with fail
    have hd := HD.out d3 (by simp)
    have hs := HS.out
    have hp := HP.out.1
    have wk : IntKind.i64.wrap (a1 + d3) = P3 := by rw [IntWalk.i64_in _ (by obtain ⟨q0, q1, _⟩ := hs; omega)]; omega
    clear hd hs hp
    have oVb := SW.2.1.1
    have oKb := SW.2.2.1.1
    refine (show (∀ sb : Nat → Value, Code.wp Try.prog _ _ ⟨#[sa 0, sa 1, sa 2, sa 3, .pointer (some ⟨(w.heap.size + 1), 0, none⟩), .pointer (some ⟨(w.heap.size + 1 + 1), 0, none⟩), .bool false, .pointer (some ⟨v9, 0, none⟩), .pointer (some ⟨v10, 0, none⟩), .pointer (some ⟨v11, 0, none⟩), .pointer (some ⟨D, 0, none⟩), .pointer (some ⟨B, 0, none⟩), .func (.func 47) #[] #[.pointer (some ⟨(w.heap.size + 1), 0, none⟩), .pointer (some ⟨v11, 0, none⟩)], .int .i64 3, undef, undef, undef, undef, undef, undef, undef, undef, undef, undef, undef, undef, sa 26, sa 27, sa 28, sa 29, sa 30, sa 31, sa 32, sa 33, sa 34, sa 35, sa 36, sa 37, sa 38, sa 39, sa 40, sa 41, sb 42, sb 43, sb 44, sb 45, sb 46, sb 47, sb 48, sb 49, sb 50, sb 51, sb 52, sb 53, sb 54, sb 55, undef, undef, undef, undef, undef, undef, undef, undef, undef, undef, undef, undef, undef, undef, undef, undef, undef, undef, undef, undef, undef, undef, undef, undef, undef, undef, undef, undef, undef, undef, undef, undef, undef, undef, undef, undef, undef, undef, undef, undef, undef, undef, undef, undef, undef, undef, undef, undef, undef, undef, undef, undef, undef, undef, undef, undef, undef, undef, undef, undef, undef, undef, undef, undef, undef, undef, undef, undef, undef, undef, undef, undef, undef, undef, undef, undef, undef, undef, undef, undef, undef, undef, undef, undef, undef, undef, undef, undef, undef, undef, undef, undef, undef, undef, undef, undef, undef, undef, undef, undef, undef, undef, undef, undef, undef, undef, undef, undef, undef, undef, undef, undef, undef, undef, undef, undef, undef, undef, undef, undef, undef, undef, undef, undef, undef, undef, undef, undef, undef, undef, undef, undef, undef, undef, undef, undef, undef, undef, undef, undef, undef, undef, undef, undef, undef, undef, undef, undef, undef, undef, undef, undef, undef, undef, undef, undef, undef, undef, undef, undef, undef, undef, undef, undef, undef, undef], []⟩ _) → _ from fun h => h ((fun l : List Value => fun i => l.getD i undef) [undef, undef, undef, undef, undef, undef, undef, undef, undef, undef, undef, undef, undef, undef, undef, undef, undef, undef, undef, undef, undef, undef, undef, undef, undef, undef, undef, undef, undef, undef, undef, undef, undef, undef, undef, undef, undef, undef, undef, undef, undef, undef, _, _, _, _, _, _, _, _, _, _, _, _, _, _])) ?_
    intro sb
    dsimp only
    refine wp_region_facts 9 [(1, 0), (3, 1), (3, 2), (4, 3), (7, 5), (7, 6), (8, 4), (8, 7)] (fun x => ⟨#[sa 0, sa 1, sa 2, sa 3, .pointer (some ⟨(w.heap.size + 1), 0, none⟩), .pointer (some ⟨(w.heap.size + 1 + 1), 0, none⟩), .bool false, .pointer (some ⟨v9, 0, none⟩), .pointer (some ⟨v10, 0, none⟩), .pointer (some ⟨v11, 0, none⟩), .pointer (some ⟨D, 0, none⟩), .pointer (some ⟨B, 0, none⟩), .func (.func 47) #[] #[.pointer (some ⟨(w.heap.size + 1), 0, none⟩), .pointer (some ⟨v11, 0, none⟩)], .int .i64 3, undef, undef, undef, undef, undef, undef, undef, undef, undef, undef, undef, undef, sa 26, sa 27, sa 28, sa 29, sa 30, sa 31, sa 32, sa 33, sa 34, sa 35, sa 36, sa 37, sa 38, sa 39, sa 40, sa 41, sb 42, sb 43, sb 44, sb 45, x 0, x 1, x 2, x 3, x 4, x 5, x 6, x 7, x 8, sb 55, undef, undef, undef, undef, undef, undef, undef, undef, undef, undef, undef, undef, undef, undef, undef, undef, undef, undef, undef, undef, undef, undef, undef, undef, undef, undef, undef, undef, undef, undef, undef, undef, undef, undef, undef, undef, undef, undef, undef, undef, undef, undef, undef, undef, undef, undef, undef, undef, undef, undef, undef, undef, undef, undef, undef, undef, undef, undef, undef, undef, undef, undef, undef, undef, undef, undef, undef, undef, undef, undef, undef, undef, undef, undef, undef, undef, undef, undef, undef, undef, undef, undef, undef, undef, undef, undef, undef, undef, undef, undef, undef, undef, undef, undef, undef, undef, undef, undef, undef, undef, undef, undef, undef, undef, undef, undef, undef, undef, undef, undef, undef, undef, undef, undef, undef, undef, undef, undef, undef, undef, undef, undef, undef, undef, undef, undef, undef, undef, undef, undef, undef, undef, undef, undef, undef, undef, undef, undef, undef, undef, undef, undef, undef, undef, undef, undef, undef, undef, undef, undef, undef, undef, undef, undef, undef, undef, undef, undef, undef, undef, undef, undef, undef, undef, undef, undef], []⟩) (fun i => [sb 46, sb 47, sb 48, sb 49, sb 50, sb 51, sb 52, sb 53, sb 54].getD i undef) [fun _ x => x = .pointer (some ⟨B, 1, none⟩), fun _ x => x = .slice (some ⟨w3, 0, none⟩) 4 lc3, fun _ x => x = .int .i64 3, fun _ x => x = .pointer (some ⟨w3, 3, none⟩), fun _ x => x = .int .i64 a1, fun _ x => x = .func (.func 47) #[] #[.pointer (some ⟨(w.heap.size + 1), 0, none⟩), .pointer (some ⟨v11, 0, none⟩)], fun _ x => x = .int .i64 3, fun _ x => x = .int .i64 d3, fun _ x => x = .int .i64 P3] (by rfl) (by kernel_rfl) (by kernel_rfl) (by kernel_rfl) (stays_cons (Stays.eq _) (stays_cons (Stays.eq _) (stays_cons (Stays.eq _) (stays_cons (Stays.eq _) (stays_cons (Stays.eq _) (stays_cons (Stays.eq _) (stays_cons (Stays.eq _) (stays_cons (Stays.eq _) (stays_cons (Stays.eq _) stays_nil))))))))) ?step8_3 ?fin8_3
    case step8_3 => as_aux_lemma =>
     rintro i hi x v gv hd K hK
     have hi8 : i = 0 ∨ i = 1 ∨ i = 2 ∨ i = 3 ∨ i = 4 ∨ i = 5 ∨ i = 6 ∨ i = 7 ∨ i = 8 := by omega
     rcases hi8 with rfl | rfl | rfl | rfl | rfl | rfl | rfl | rfl | rfl
     ·try dsimp only [upd, Nat.reduceBEq, cond_true, cond_false]
      refine wpOp_step rfl (fun K' hK' => ?_)
      go_simp
      exact hK' _ _ (hK _ _ (Below.refl _ _) (at_of rfl (rfl)))
     ·obtain ⟨x, rfl⟩ := upd_of (show x 0 = .pointer (some ⟨B, 1, none⟩) from hd 0 _ (by simp) rfl)
      try dsimp only [upd, Nat.reduceBEq, cond_true, cond_false]
      refine wpOp_step rfl (fun K' hK' => ?_)
      have q := (oVb.keep gv).2 1 _ rfl
      go_simp
      exact hK' _ _ (hK _ _ (Below.refl _ _) (at_of rfl (rfl)))
     ·try dsimp only [upd, Nat.reduceBEq, cond_true, cond_false]
      refine wpOp_step rfl (fun K' hK' => ?_)
      go_simp
      exact hK' _ _ (hK _ _ (Below.refl _ _) (at_of rfl (rfl)))
     ·obtain ⟨x, rfl⟩ := upd_of (show x 1 = .slice (some ⟨w3, 0, none⟩) 4 lc3 from hd 1 _ (by simp) rfl)
      obtain ⟨x, rfl⟩ := upd_of (show x 2 = .int .i64 3 from hd 2 _ (by simp) rfl)
      try dsimp only [upd, Nat.reduceBEq, cond_true, cond_false]
      refine wpOp_step rfl (fun K' hK' => ?_)
      go_simp
      exact hK' _ _ (hK _ _ (Below.refl _ _) (at_of rfl (rfl)))
     ·obtain ⟨x, rfl⟩ := upd_of (show x 3 = .pointer (some ⟨w3, 3, none⟩) from hd 3 _ (by simp) rfl)
      try dsimp only [upd, Nat.reduceBEq, cond_true, cond_false]
      refine wpOp_step rfl (fun K' hK' => ?_)
      have q := (oKb.keep gv).2 3 _ rfl
      go_simp
      exact hK' _ _ (hK _ _ (Below.refl _ _) (at_of rfl (rfl)))
     ·try dsimp only [upd, Nat.reduceBEq, cond_true, cond_false]
      refine wpOp_step rfl (fun K' hK' => ?_)
      go_simp
      exact hK' _ _ (hK _ _ (Below.refl _ _) (at_of rfl (rfl)))
     ·try dsimp only [upd, Nat.reduceBEq, cond_true, cond_false]
      refine wpOp_step rfl (fun K' hK' => ?_)
      go_simp
      exact hK' _ _ (hK _ _ (Below.refl _ _) (at_of rfl (rfl)))
     ·obtain ⟨x, rfl⟩ := upd_of (show x 5 = .func (.func 47) #[] #[.pointer (some ⟨(w.heap.size + 1), 0, none⟩), .pointer (some ⟨v11, 0, none⟩)] from hd 5 _ (by simp) rfl)
      obtain ⟨x, rfl⟩ := upd_of (show x 6 = .int .i64 3 from hd 6 _ (by simp) rfl)
      try dsimp only [upd, Nat.reduceBEq, cond_true, cond_false]
      refine wpOp_step rfl (fun K' hK' => ?_)
      go_simp
      refine ((BY.out _ _ v (h4z.keep gv) (oOz.keep gv)).2.2.2.1).mono ?_
      rintro e v' ⟨rfl, hg⟩
      exact hK' _ _ (hK _ _ hg (at_of rfl (rfl)))
     ·obtain ⟨x, rfl⟩ := upd_of (show x 4 = .int .i64 a1 from hd 4 _ (by simp) rfl)
      obtain ⟨x, rfl⟩ := upd_of (show x 7 = .int .i64 d3 from hd 7 _ (by simp) rfl)
      try dsimp only [upd, Nat.reduceBEq, cond_true, cond_false]
      refine wpOp_step rfl (fun K' hK' => ?_)
      go_simp
      exact hK' _ _ (hK _ _ (Below.refl _ _) (at_of rfl (rfl)))
    case fin8_3 =>
     rintro x v gv hd
     obtain ⟨x, rfl⟩ := upd_of (show x 1 = .slice (some ⟨w3, 0, none⟩) 4 lc3 from hd 1 _ (by omega) rfl)
     obtain ⟨x, rfl⟩ := upd_of (show x 2 = .int .i64 3 from hd 2 _ (by omega) rfl)
     obtain ⟨x, rfl⟩ := upd_of (show x 8 = .int .i64 P3 from hd 8 _ (by omega) rfl)
     clear hd
     show wpList Try.prog _ _ (List.drop 9 _) (⟨#[_, _, _, _, _, _, _, _, _, _, _, _, _, _, _, _, _, _, _, _, _, _, _, _, _, _, _, _, _, _, _, _, _, _, _, _, _, _, _, _, _, _, _, _, _, _, x 0, .slice (some ⟨w3, 0, none⟩) 4 lc3, .int .i64 3, x 3, x 4, x 5, x 6, x 7, .int .i64 P3, _, _, _, _, _, _, _, _, _, _, _, _, _, _, _, _, _, _, _, _, _, _, _, _, _, _, _, _, _, _, _, _, _, _, _, _, _, _, _, _, _, _, _, _, _, _, _, _, _, _, _, _, _, _, _, _, _, _, _, _, _, _, _, _, _, _, _, _, _, _, _, _, _, _, _, _, _, _, _, _, _, _, _, _, _, _, _, _, _, _, _, _, _, _, _, _, _, _, _, _, _, _, _, _, _, _, _, _, _, _, _, _, _, _, _, _, _, _, _, _, _, _, _, _, _, _, _, _, _, _, _, _, _, _, _, _, _, _, _, _, _, _, _, _, _, _, _, _, _, _, _, _, _, _, _, _, _, _, _, _, _, _, _, _, _, _, _], []⟩ : Act) v
     simp only [List.drop_succ_cons, List.drop_zero]
     have e_ := (SW.keep gv).2.2.1.1.2 3 _ rfl
     have z_ := (SW.keep gv).2.2.1.2 3
     go_wp2
     go_roundw
     case rel => exact Lib.hid (.inr (.inr (.inr (.inr (⟨rfl, (SW.keep gv).set_p3 SD P3⟩)))))
     case measure => simp [intOf]
   ·refine wp_abs (fun Z => SeenW Y B w3 lc3 w7 lc7 w11 lc11 o P0 P1 P2 P3 t0 t1 s0 s1 hei Z) SW ?_
    clear SW
    rintro wy SW
    go_wp2
    refine (show (∀ sc : Nat → Value, Code.wp Try.prog _ _ ⟨#[sa 0, sa 1, sa 2, sa 3, .pointer (some ⟨(w.heap.size + 1), 0, none⟩), .pointer (some ⟨(w.heap.size + 1 + 1), 0, none⟩), .bool false, .pointer (some ⟨v9, 0, none⟩), .pointer (some ⟨v10, 0, none⟩), .pointer (some ⟨v11, 0, none⟩), .pointer (some ⟨D, 0, none⟩), .pointer (some ⟨B, 0, none⟩), .func (.func 47) #[] #[.pointer (some ⟨(w.heap.size + 1), 0, none⟩), .pointer (some ⟨v11, 0, none⟩)], .int .i64 4, .int .i64 0, undef, undef, undef, undef, undef, undef, undef, undef, undef, undef, undef, sa 26, sa 27, sa 28, sa 29, sa 30, sa 31, sa 32, sa 33, sa 34, sa 35, sa 36, sa 37, sa 38, sa 39, sa 40, sa 41, sc 42, sc 43, sc 44, sc 45, sc 46, sc 47, sc 48, sc 49, sc 50, sc 51, sc 52, sc 53, sc 54, sc 55, sc 56, sc 57, sc 58, sc 59, sc 60, sc 61, sc 62, sc 63, sc 64, sc 65, sc 66, sc 67, sc 68, sc 69, sc 70, sc 71, sc 72, sc 73, sc 74, sc 75, sc 76, sc 77, sc 78, sc 79, sc 80, sc 81, sc 82, sc 83, sc 84, sc 85, sc 86, sc 87, sc 88, sc 89, sc 90, sc 91, sc 92, undef, undef, undef, undef, undef, undef, undef, undef, undef, undef, undef, undef, undef, undef, undef, undef, undef, undef, undef, undef, undef, undef, undef, undef, undef, undef, undef, undef, undef, undef, undef, undef, undef, undef, undef, undef, undef, undef, undef, undef, undef, undef, undef, undef, undef, undef, undef, undef, undef, undef, undef, undef, undef, undef, undef, undef, undef, undef, undef, undef, undef, undef, undef, undef, undef, undef, undef, undef, undef, undef, undef, undef, undef, undef, undef, undef, undef, undef, undef, undef, undef, undef, undef, undef, undef, undef, undef, undef, undef, undef, undef, undef, undef, undef, undef, undef, undef, undef, undef, undef, undef, undef, undef, undef, undef, undef, undef, undef, undef, undef, undef, undef, undef, undef, undef, undef, undef, undef, undef, undef, undef, undef, undef, undef, undef, undef, undef, undef, undef], []⟩ _) → _ from fun h => h ((fun l : List Value => fun i => l.getD i undef) [undef, undef, undef, undef, undef, undef, undef, undef, undef, undef, undef, undef, undef, undef, undef, undef, undef, undef, undef, undef, undef, undef, undef, undef, undef, undef, undef, undef, undef, undef, undef, undef, undef, undef, undef, undef, undef, undef, undef, undef, undef, undef, _, _, _, _, _, _, _, _, _, _, _, _, _, _, _, _, _, _, _, _, _, _, _, _, _, _, _, _, _, _, _, _, _, _, _, _, _, _, _, _, _, _, _, _, _, _, _, _, _, _, _])) ?_
    intro sc
    dsimp only
    go_loopw [14] (fun x wr => Hid ((x = .int .i64 0 ∧ SeenW Y B w3 lc3 w7 lc7 w11 lc11 o P0 P1 P2 P3 t0 t1 s0 s1 hei wr) ∨ (x = .int .i64 1 ∧ SeenW Y B w3 lc3 w7 lc7 w11 lc11 o P0 P1 P2 P3 T0 t1 B0 s1 hei wr) ∨ (x = .int .i64 2 ∧ SeenW Y B w3 lc3 w7 lc7 w11 lc11 o P0 P1 P2 P3 T0 T1 B0 B1 hei wr))) (fun x wr => 2 - (intOf x).toNat)
    case atStart => exact Lib.hid (.inl ⟨rfl, SW⟩)
    case round =>
     clear SW
     have h := hrel.out
     clear hrel
     rcases h with ⟨rfl, SW⟩ | ⟨rfl, SW⟩ | ⟨rfl, SW⟩
     ·as_aux_lemma =>
      refine wp_abs (fun Z => SeenW Y B w3 lc3 w7 lc7 w11 lc11 o P0 P1 P2 P3 t0 t1 s0 s1 hei Z) SW ?_
      clear SW
      rintro wz SW
      have h4z := h4.keep SW.1
      have oOz := oO.keep SW.1
      go_upto_region 12 with fail
      have hd := HD.out d4 (by simp)
      have hs := HS.out
      have hmx : max 0 (s0 + d4) = B0 := HP.out.2.1.1
      have wk : IntKind.i64.wrap (s0 + d4) = s0 + d4 := IntWalk.i64_in _ (by obtain ⟨_, _, _, _, _, _, q6, q7, _⟩ := hs; omega)
      clear hd hs
      have oVb := SW.2.1.1
      have oKb := SW.2.2.2.2.1
      refine (show (∀ sd : Nat → Value, Code.wp Try.prog _ _ ⟨#[sa 0, sa 1, sa 2, sa 3, .pointer (some ⟨(w.heap.size + 1), 0, none⟩), .pointer (some ⟨(w.heap.size + 1 + 1), 0, none⟩), .bool false, .pointer (some ⟨v9, 0, none⟩), .pointer (some ⟨v10, 0, none⟩), .pointer (some ⟨v11, 0, none⟩), .pointer (some ⟨D, 0, none⟩), .pointer (some ⟨B, 0, none⟩), .func (.func 47) #[] #[.pointer (some ⟨(w.heap.size + 1), 0, none⟩), .pointer (some ⟨v11, 0, none⟩)], .int .i64 4, .int .i64 0, undef, undef, undef, undef, undef, undef, undef, undef, undef, undef, undef, sa 26, sa 27, sa 28, sa 29, sa 30, sa 31, sa 32, sa 33, sa 34, sa 35, sa 36, sa 37, sa 38, sa 39, sa 40, sa 41, sc 42, sc 43, sc 44, sc 45, sc 46, sc 47, sc 48, sc 49, sc 50, sc 51, sc 52, sc 53, sc 54, sc 55, sd 56, sd 57, sd 58, sd 59, sd 60, sd 61, sd 62, sd 63, sd 64, sd 65, sd 66, sd 67, sd 68, sd 69, sd 70, sd 71, sd 72, sd 73, sd 74, sd 75, sd 76, sd 77, sd 78, sd 79, sd 80, sd 81, sd 82, sd 83, sd 84, sd 85, sd 86, sd 87, sd 88, sd 89, sd 90, sd 91, sd 92, undef, undef, undef, undef, undef, undef, undef, undef, undef, undef, undef, undef, undef, undef, undef, undef, undef, undef, undef, undef, undef, undef, undef, undef, undef, undef, undef, undef, undef, undef, undef, undef, undef, undef, undef, undef, undef, undef, undef, undef, undef, undef, undef, undef, undef, undef, undef, undef, undef, undef, undef, undef, undef, undef, undef, undef, undef, undef, undef, undef, undef, undef, undef, undef, undef, undef, undef, undef, undef, undef, undef, undef, undef, undef, undef, undef, undef, undef, undef, undef, undef, undef, undef, undef, undef, undef, undef, undef, undef, undef, undef, undef, undef, undef, undef, undef, undef, undef, undef, undef, undef, undef, undef, undef, undef, undef, undef, undef, undef, undef, undef, undef, undef, undef, undef, undef, undef, undef, undef, undef, undef, undef, undef, undef, undef, undef, undef, undef, undef], []⟩ _) → _ from fun h => h ((fun l : List Value => fun i => l.getD i undef) [undef, undef, undef, undef, undef, undef, undef, undef, undef, undef, undef, undef, undef, undef, undef, undef, undef, undef, undef, undef, undef, undef, undef, undef, undef, undef, undef, undef, undef, undef, undef, undef, undef, undef, undef, undef, undef, undef, undef, undef, undef, undef, undef, undef, undef, undef, undef, undef, undef, undef, undef, undef, undef, undef, undef, undef, _, _, _, _, _, _, _, _, _, _, _, _, _, _, _, _, _, _, _, _, _, _, _, _, _, _, _, _, _, _, _, _, _, _, _, _, _])) ?_
      intro sd
      dsimp only
      refine wp_region_facts 14 [(1, 0), (4, 3), (6, 4), (6, 5), (7, 6), (10, 9), (11, 8), (11, 10), (12, 7), (12, 11), (13, 12)] (fun x => ⟨#[sa 0, sa 1, sa 2, sa 3, .pointer (some ⟨(w.heap.size + 1), 0, none⟩), .pointer (some ⟨(w.heap.size + 1 + 1), 0, none⟩), .bool false, .pointer (some ⟨v9, 0, none⟩), .pointer (some ⟨v10, 0, none⟩), .pointer (some ⟨v11, 0, none⟩), .pointer (some ⟨D, 0, none⟩), .pointer (some ⟨B, 0, none⟩), .func (.func 47) #[] #[.pointer (some ⟨(w.heap.size + 1), 0, none⟩), .pointer (some ⟨v11, 0, none⟩)], .int .i64 4, .int .i64 0, undef, undef, undef, undef, undef, undef, undef, undef, undef, undef, undef, sa 26, sa 27, sa 28, sa 29, sa 30, sa 31, sa 32, sa 33, sa 34, sa 35, sa 36, sa 37, sa 38, sa 39, sa 40, sa 41, sc 42, sc 43, sc 44, sc 45, sc 46, sc 47, sc 48, sc 49, sc 50, sc 51, sc 52, sc 53, sc 54, sc 55, sd 56, sd 57, sd 58, sd 59, x 0, x 1, x 2, x 3, x 4, x 5, x 6, x 7, x 8, x 9, x 10, x 11, x 12, x 13, sd 74, sd 75, sd 76, sd 77, sd 78, sd 79, sd 80, sd 81, sd 82, sd 83, sd 84, sd 85, sd 86, sd 87, sd 88, sd 89, sd 90, sd 91, sd 92, undef, undef, undef, undef, undef, undef, undef, undef, undef, undef, undef, undef, undef, undef, undef, undef, undef, undef, undef, undef, undef, undef, undef, undef, undef, undef, undef, undef, undef, undef, undef, undef, undef, undef, undef, undef, undef, undef, undef, undef, undef, undef, undef, undef, undef, undef, undef, undef, undef, undef, undef, undef, undef, undef, undef, undef, undef, undef, undef, undef, undef, undef, undef, undef, undef, undef, undef, undef, undef, undef, undef, undef, undef, undef, undef, undef, undef, undef, undef, undef, undef, undef, undef, undef, undef, undef, undef, undef, undef, undef, undef, undef, undef, undef, undef, undef, undef, undef, undef, undef, undef, undef, undef, undef, undef, undef, undef, undef, undef, undef, undef, undef, undef, undef, undef, undef, undef, undef, undef, undef, undef, undef, undef, undef, undef, undef, undef, undef, undef], []⟩) (fun i => [sd 60, sd 61, sd 62, sd 63, sd 64, sd 65, sd 66, sd 67, sd 68, sd 69, sd 70, sd 71, sd 72, sd 73].getD i undef) [fun _ x => x = .pointer (some ⟨B, 4, none⟩), fun _ x => x = .slice (some ⟨w11, 0, none⟩) 2 lc11, fun _ x => x = .int .i64 0, fun _ x => x = .pointer (some ⟨B, 4, none⟩), fun _ x => x = .slice (some ⟨w11, 0, none⟩) 2 lc11, fun _ x => x = .int .i64 0, fun _ x => x = .pointer (some ⟨w11, 0, none⟩), fun _ x => x = .int .i64 s0, fun _ x => x = .func (.func 47) #[] #[.pointer (some ⟨(w.heap.size + 1), 0, none⟩), .pointer (some ⟨v11, 0, none⟩)], fun _ x => x = .int .i64 0, fun _ x => x = .int .i64 4, fun _ x => x = .int .i64 d4, fun _ x => x = .int .i64 (s0 + d4), fun _ x => x = .int .i64 B0] (by rfl) (by kernel_rfl) (by kernel_rfl) (by kernel_rfl) (stays_cons (Stays.eq _) (stays_cons (Stays.eq _) (stays_cons (Stays.eq _) (stays_cons (Stays.eq _) (stays_cons (Stays.eq _) (stays_cons (Stays.eq _) (stays_cons (Stays.eq _) (stays_cons (Stays.eq _) (stays_cons (Stays.eq _) (stays_cons (Stays.eq _) (stays_cons (Stays.eq _) (stays_cons (Stays.eq _) (stays_cons (Stays.eq _) (stays_cons (Stays.eq _) stays_nil)))))))))))))) ?step12_0 ?fin12_0
      case step12_0 => as_aux_lemma =>
       rintro i hi x v gv hd K hK
       have hi8 : i = 0 ∨ i = 1 ∨ i = 2 ∨ i = 3 ∨ i = 4 ∨ i = 5 ∨ i = 6 ∨ i = 7 ∨ i = 8 ∨ i = 9 ∨ i = 10 ∨ i = 11 ∨ i = 12 ∨ i = 13 := by omega
       rcases hi8 with rfl | rfl | rfl | rfl | rfl | rfl | rfl | rfl | rfl | rfl | rfl | rfl | rfl | rfl
       ·try dsimp only [upd, Nat.reduceBEq, cond_true, cond_false]
        refine wpOp_step rfl (fun K' hK' => ?_)
        go_simp
        exact hK' _ _ (hK _ _ (Below.refl _ _) (at_of rfl (rfl)))
       ·obtain ⟨x, rfl⟩ := upd_of (show x 0 = .pointer (some ⟨B, 4, none⟩) from hd 0 _ (by simp) rfl)
        try dsimp only [upd, Nat.reduceBEq, cond_true, cond_false]
        refine wpOp_step rfl (fun K' hK' => ?_)
        have q := (oVb.keep gv).2 4 _ rfl
        go_simp
        exact hK' _ _ (hK _ _ (Below.refl _ _) (at_of rfl (rfl)))
       ·try dsimp only [upd, Nat.reduceBEq, cond_true, cond_false]
        refine wpOp_step rfl (fun K' hK' => ?_)
        go_simp
        exact hK' _ _ (hK _ _ (Below.refl _ _) (at_of rfl (rfl)))
       ·try dsimp only [upd, Nat.reduceBEq, cond_true, cond_false]
        refine wpOp_step rfl (fun K' hK' => ?_)
        go_simp
        exact hK' _ _ (hK _ _ (Below.refl _ _) (at_of rfl (rfl)))
       ·obtain ⟨x, rfl⟩ := upd_of (show x 3 = .pointer (some ⟨B, 4, none⟩) from hd 3 _ (by simp) rfl)
        try dsimp only [upd, Nat.reduceBEq, cond_true, cond_false]
        refine wpOp_step rfl (fun K' hK' => ?_)
        have q := (oVb.keep gv).2 4 _ rfl
        go_simp
        exact hK' _ _ (hK _ _ (Below.refl _ _) (at_of rfl (rfl)))
       ·try dsimp only [upd, Nat.reduceBEq, cond_true, cond_false]
        refine wpOp_step rfl (fun K' hK' => ?_)
        go_simp
        exact hK' _ _ (hK _ _ (Below.refl _ _) (at_of rfl (rfl)))
       ·obtain ⟨x, rfl⟩ := upd_of (show x 4 = .slice (some ⟨w11, 0, none⟩) 2 lc11 from hd 4 _ (by simp) rfl)
        obtain ⟨x, rfl⟩ := upd_of (show x 5 = .int .i64 0 from hd 5 _ (by simp) rfl)
        try dsimp only [upd, Nat.reduceBEq, cond_true, cond_false]
        refine wpOp_step rfl (fun K' hK' => ?_)
        go_simp
        exact hK' _ _ (hK _ _ (Below.refl _ _) (at_of rfl (rfl)))
       ·obtain ⟨x, rfl⟩ := upd_of (show x 6 = .pointer (some ⟨w11, 0, none⟩) from hd 6 _ (by simp) rfl)
        try dsimp only [upd, Nat.reduceBEq, cond_true, cond_false]
        refine wpOp_step rfl (fun K' hK' => ?_)
        have q := (oKb.keep gv).2 0 _ rfl
        go_simp
        exact hK' _ _ (hK _ _ (Below.refl _ _) (at_of rfl (rfl)))
       ·try dsimp only [upd, Nat.reduceBEq, cond_true, cond_false]
        refine wpOp_step rfl (fun K' hK' => ?_)
        go_simp
        exact hK' _ _ (hK _ _ (Below.refl _ _) (at_of rfl (rfl)))
       ·try dsimp only [upd, Nat.reduceBEq, cond_true, cond_false]
        refine wpOp_step rfl (fun K' hK' => ?_)
        go_simp
        exact hK' _ _ (hK _ _ (Below.refl _ _) (at_of rfl (rfl)))
       ·obtain ⟨x, rfl⟩ := upd_of (show x 9 = .int .i64 0 from hd 9 _ (by simp) rfl)
        try dsimp only [upd, Nat.reduceBEq, cond_true, cond_false]
        refine wpOp_step rfl (fun K' hK' => ?_)
        go_simp
        exact hK' _ _ (hK _ _ (Below.refl _ _) (at_of rfl (rfl)))
       ·obtain ⟨x, rfl⟩ := upd_of (show x 8 = .func (.func 47) #[] #[.pointer (some ⟨(w.heap.size + 1), 0, none⟩), .pointer (some ⟨v11, 0, none⟩)] from hd 8 _ (by simp) rfl)
        obtain ⟨x, rfl⟩ := upd_of (show x 10 = .int .i64 4 from hd 10 _ (by simp) rfl)
        try dsimp only [upd, Nat.reduceBEq, cond_true, cond_false]
        refine wpOp_step rfl (fun K' hK' => ?_)
        go_simp
        refine ((BY.out _ _ v (h4z.keep gv) (oOz.keep gv)).2.2.2.2.1).mono ?_
        rintro e v' ⟨rfl, hg⟩
        exact hK' _ _ (hK _ _ hg (at_of rfl (rfl)))
       ·obtain ⟨x, rfl⟩ := upd_of (show x 7 = .int .i64 s0 from hd 7 _ (by simp) rfl)
        obtain ⟨x, rfl⟩ := upd_of (show x 11 = .int .i64 d4 from hd 11 _ (by simp) rfl)
        try dsimp only [upd, Nat.reduceBEq, cond_true, cond_false]
        refine wpOp_step rfl (fun K' hK' => ?_)
        go_simp
        exact hK' _ _ (hK _ _ (Below.refl _ _) (at_of rfl (rfl)))
       ·obtain ⟨x, rfl⟩ := upd_of (show x 12 = .int .i64 (s0 + d4) from hd 12 _ (by simp) rfl)
        try dsimp only [upd, Nat.reduceBEq, cond_true, cond_false]
        refine wpOp_step rfl (fun K' hK' => ?_)
        go_simp
        exact hK' _ _ (hK _ _ (Below.refl _ _) (at_of rfl ((by first | rfl | exact congrArg (Value.int .i64) hmx))))
      case fin12_0 =>
       rintro x v gv hd
       obtain ⟨x, rfl⟩ := upd_of (show x 1 = .slice (some ⟨w11, 0, none⟩) 2 lc11 from hd 1 _ (by omega) rfl)
       obtain ⟨x, rfl⟩ := upd_of (show x 2 = .int .i64 0 from hd 2 _ (by omega) rfl)
       obtain ⟨x, rfl⟩ := upd_of (show x 13 = .int .i64 B0 from hd 13 _ (by omega) rfl)
       clear hd
       show wpList Try.prog _ _ (List.drop 14 _) (⟨#[_, _, _, _, _, _, _, _, _, _, _, _, _, _, _, _, _, _, _, _, _, _, _, _, _, _, _, _, _, _, _, _, _, _, _, _, _, _, _, _, _, _, _, _, _, _, _, _, _, _, _, _, _, _, _, _, _, _, _, _, x 0, .slice (some ⟨w11, 0, none⟩) 2 lc11, .int .i64 0, x 3, x 4, x 5, x 6, x 7, x 8, x 9, x 10, x 11, x 12, .int .i64 B0, _, _, _, _, _, _, _, _, _, _, _, _, _, _, _, _, _, _, _, _, _, _, _, _, _, _, _, _, _, _, _, _, _, _, _, _, _, _, _, _, _, _, _, _, _, _, _, _, _, _, _, _, _, _, _, _, _, _, _, _, _, _, _, _, _, _, _, _, _, _, _, _, _, _, _, _, _, _, _, _, _, _, _, _, _, _, _, _, _, _, _, _, _, _, _, _, _, _, _, _, _, _, _, _, _, _, _, _, _, _, _, _, _, _, _, _, _, _, _, _, _, _, _, _, _, _, _, _, _, _, _, _, _, _, _, _, _, _, _, _, _, _, _, _, _, _, _, _], []⟩ : Act) v
       simp only [List.drop_succ_cons, List.drop_zero]
       have e_ := (SW.keep gv).2.2.2.2.1.2 0 _ rfl
       have z_ := (SW.keep gv).2.2.2.2.2 0
       go_upto_region 13 with fail
       refine wp_abs (fun Z => SeenW Y B w3 lc3 w7 lc7 w11 lc11 o P0 P1 P2 P3 t0 t1 B0 s1 hei Z) ((SW.keep gv).set_s0 SD B0) ?_
       clear SW gv oVb oKb e_ z_ wk hmx h4z oOz
       rintro wa SW
       have oLa := (oL.keep SW.1).2 6 _ rfl
       have ho : o = true ∨ o = false := by cases o <;> simp
       rcases ho with ho | ho
       ·have hno : (!o) = false := by rw [ho]; rfl
        have ht : T0 = t0 := (HP.out.2.2.2.1 ho).1
        go_wp2
        go_roundw
        case rel => exact Lib.hid (.inr (.inl ⟨rfl, by rw [ht]; exact SW⟩))
        case measure => simp [intOf]
       ·have hno : (!o) = true := by rw [ho]; rfl
        have hmx : max 0 (t0 + d6) = T0 := (HP.out.2.2.1 ho).1
        have h4z := h4.keep SW.1
        have oOz := oO.keep SW.1
        go_upto_region 14 with fail
        have hd := HD.out d6 (by simp)
        have hs := HS.out
        have wk : IntKind.i64.wrap (t0 + d6) = t0 + d6 := IntWalk.i64_in _ (by obtain ⟨_, _, _, _, q6, q7, _⟩ := hs; omega)
        clear hd hs
        have oVb := SW.2.1.1
        have oKb := SW.2.2.2.1.1
        refine (show (∀ se : Nat → Value, Code.wp Try.prog _ _ ⟨#[sa 0, sa 1, sa 2, sa 3, .pointer (some ⟨(w.heap.size + 1), 0, none⟩), .pointer (some ⟨(w.heap.size + 1 + 1), 0, none⟩), .bool false, .pointer (some ⟨v9, 0, none⟩), .pointer (some ⟨v10, 0, none⟩), .pointer (some ⟨v11, 0, none⟩), .pointer (some ⟨D, 0, none⟩), .pointer (some ⟨B, 0, none⟩), .func (.func 47) #[] #[.pointer (some ⟨(w.heap.size + 1), 0, none⟩), .pointer (some ⟨v11, 0, none⟩)], .int .i64 4, .int .i64 0, undef, undef, undef, undef, undef, undef, undef, undef, undef, undef, undef, sa 26, sa 27, sa 28, sa 29, sa 30, sa 31, sa 32, sa 33, sa 34, sa 35, sa 36, sa 37, sa 38, sa 39, sa 40, sa 41, sc 42, sc 43, sc 44, sc 45, sc 46, sc 47, sc 48, sc 49, sc 50, sc 51, sc 52, sc 53, sc 54, sc 55, se 56, se 57, se 58, se 59, se 60, se 61, se 62, se 63, se 64, se 65, se 66, se 67, se 68, se 69, se 70, se 71, se 72, se 73, se 74, se 75, se 76, se 77, se 78, se 79, se 80, se 81, se 82, se 83, se 84, se 85, se 86, se 87, se 88, se 89, se 90, se 91, se 92, undef, undef, undef, undef, undef, undef, undef, undef, undef, undef, undef, undef, undef, undef, undef, undef, undef, undef, undef, undef, undef, undef, undef, undef, undef, undef, undef, undef, undef, undef, undef, undef, undef, undef, undef, undef, undef, undef, undef, undef, undef, undef, undef, undef, undef, undef, undef, undef, undef, undef, undef, undef, undef, undef, undef, undef, undef, undef, undef, undef, undef, undef, undef, undef, undef, undef, undef, undef, undef, undef, undef, undef, undef, undef, undef, undef, undef, undef, undef, undef, undef, undef, undef, undef, undef, undef, undef, undef, undef, undef, undef, undef, undef, undef, undef, undef, undef, undef, undef, undef, undef, undef, undef, undef, undef, undef, undef, undef, undef, undef, undef, undef, undef, undef, undef, undef, undef, undef, undef, undef, undef, undef, undef, undef, undef, undef, undef, undef, undef], []⟩ _) → _ from fun h => h ((fun l : List Value => fun i => l.getD i undef) [undef, undef, undef, undef, undef, undef, undef, undef, undef, undef, undef, undef, undef, undef, undef, undef, undef, undef, undef, undef, undef, undef, undef, undef, undef, undef, undef, undef, undef, undef, undef, undef, undef, undef, undef, undef, undef, undef, undef, undef, undef, undef, undef, undef, undef, undef, undef, undef, undef, undef, undef, undef, undef, undef, undef, undef, _, _, _, _, _, _, _, _, _, _, _, _, _, _, _, _, _, _, _, _, _, _, _, _, _, _, _, _, _, _, _, _, _, _, _, _, _])) ?_
        intro se
        dsimp only
        refine wp_region_facts 14 [(1, 0), (4, 3), (6, 4), (6, 5), (7, 6), (10, 9), (11, 8), (11, 10), (12, 7), (12, 11), (13, 12)] (fun x => ⟨#[sa 0, sa 1, sa 2, sa 3, .pointer (some ⟨(w.heap.size + 1), 0, none⟩), .pointer (some ⟨(w.heap.size + 1 + 1), 0, none⟩), .bool false, .pointer (some ⟨v9, 0, none⟩), .pointer (some ⟨v10, 0, none⟩), .pointer (some ⟨v11, 0, none⟩), .pointer (some ⟨D, 0, none⟩), .pointer (some ⟨B, 0, none⟩), .func (.func 47) #[] #[.pointer (some ⟨(w.heap.size + 1), 0, none⟩), .pointer (some ⟨v11, 0, none⟩)], .int .i64 4, .int .i64 0, undef, undef, undef, undef, undef, undef, undef, undef, undef, undef, undef, sa 26, sa 27, sa 28, sa 29, sa 30, sa 31, sa 32, sa 33, sa 34, sa 35, sa 36, sa 37, sa 38, sa 39, sa 40, sa 41, sc 42, sc 43, sc 44, sc 45, sc 46, sc 47, sc 48, sc 49, sc 50, sc 51, sc 52, sc 53, sc 54, sc 55, se 56, se 57, se 58, se 59, se 60, se 61, se 62, se 63, se 64, se 65, se 66, se 67, se 68, se 69, se 70, se 71, se 72, se 73, se 74, se 75, se 76, se 77, x 0, x 1, x 2, x 3, x 4, x 5, x 6, x 7, x 8, x 9, x 10, x 11, x 12, x 13, se 92, undef, undef, undef, undef, undef, undef, undef, undef, undef, undef, undef, undef, undef, undef, undef, undef, undef, undef, undef, undef, undef, undef, undef, undef, undef, undef, undef, undef, undef, undef, undef, undef, undef, undef, undef, undef, undef, undef, undef, undef, undef, undef, undef, undef, undef, undef, undef, undef, undef, undef, undef, undef, undef, undef, undef, undef, undef, undef, undef, undef, undef, undef, undef, undef, undef, undef, undef, undef, undef, undef, undef, undef, undef, undef, undef, undef, undef, undef, undef, undef, undef, undef, undef, undef, undef, undef, undef, undef, undef, undef, undef, undef, undef, undef, undef, undef, undef, undef, undef, undef, undef, undef, undef, undef, undef, undef, undef, undef, undef, undef, undef, undef, undef, undef, undef, undef, undef, undef, undef, undef, undef, undef, undef, undef, undef, undef, undef, undef, undef], []⟩) (fun i => [se 78, se 79, se 80, se 81, se 82, se 83, se 84, se 85, se 86, se 87, se 88, se 89, se 90, se 91].getD i undef) [fun _ x => x = .pointer (some ⟨B, 3, none⟩), fun _ x => x = .slice (some ⟨w7, 0, none⟩) 2 lc7, fun _ x => x = .int .i64 0, fun _ x => x = .pointer (some ⟨B, 3, none⟩), fun _ x => x = .slice (some ⟨w7, 0, none⟩) 2 lc7, fun _ x => x = .int .i64 0, fun _ x => x = .pointer (some ⟨w7, 0, none⟩), fun _ x => x = .int .i64 t0, fun _ x => x = .func (.func 47) #[] #[.pointer (some ⟨(w.heap.size + 1), 0, none⟩), .pointer (some ⟨v11, 0, none⟩)], fun _ x => x = .int .i64 0, fun _ x => x = .int .i64 6, fun _ x => x = .int .i64 d6, fun _ x => x = .int .i64 (t0 + d6), fun _ x => x = .int .i64 T0] (by rfl) (by kernel_rfl) (by kernel_rfl) (by kernel_rfl) (stays_cons (Stays.eq _) (stays_cons (Stays.eq _) (stays_cons (Stays.eq _) (stays_cons (Stays.eq _) (stays_cons (Stays.eq _) (stays_cons (Stays.eq _) (stays_cons (Stays.eq _) (stays_cons (Stays.eq _) (stays_cons (Stays.eq _) (stays_cons (Stays.eq _) (stays_cons (Stays.eq _) (stays_cons (Stays.eq _) (stays_cons (Stays.eq _) (stays_cons (Stays.eq _) stays_nil)))))))))))))) ?step14_0 ?fin14_0
        case step14_0 => as_aux_lemma =>
         rintro i hi x v gv hd K hK
         have hi8 : i = 0 ∨ i = 1 ∨ i = 2 ∨ i = 3 ∨ i = 4 ∨ i = 5 ∨ i = 6 ∨ i = 7 ∨ i = 8 ∨ i = 9 ∨ i = 10 ∨ i = 11 ∨ i = 12 ∨ i = 13 := by omega
         rcases hi8 with rfl | rfl | rfl | rfl | rfl | rfl | rfl | rfl | rfl | rfl | rfl | rfl | rfl | rfl
         ·try dsimp only [upd, Nat.reduceBEq, cond_true, cond_false]
          refine wpOp_step rfl (fun K' hK' => ?_)
          go_simp
          exact hK' _ _ (hK _ _ (Below.refl _ _) (at_of rfl (rfl)))
         ·obtain ⟨x, rfl⟩ := upd_of (show x 0 = .pointer (some ⟨B, 3, none⟩) from hd 0 _ (by simp) rfl)
          try dsimp only [upd, Nat.reduceBEq, cond_true, cond_false]
          refine wpOp_step rfl (fun K' hK' => ?_)
          have q := (oVb.keep gv).2 3 _ rfl
          go_simp
          exact hK' _ _ (hK _ _ (Below.refl _ _) (at_of rfl (rfl)))
         ·try dsimp only [upd, Nat.reduceBEq, cond_true, cond_false]
          refine wpOp_step rfl (fun K' hK' => ?_)
          go_simp
          exact hK' _ _ (hK _ _ (Below.refl _ _) (at_of rfl (rfl)))
         ·try dsimp only [upd, Nat.reduceBEq, cond_true, cond_false]
          refine wpOp_step rfl (fun K' hK' => ?_)
          go_simp
          exact hK' _ _ (hK _ _ (Below.refl _ _) (at_of rfl (rfl)))
         ·obtain ⟨x, rfl⟩ := upd_of (show x 3 = .pointer (some ⟨B, 3, none⟩) from hd 3 _ (by simp) rfl)
          try dsimp only [upd, Nat.reduceBEq, cond_true, cond_false]
          refine wpOp_step rfl (fun K' hK' => ?_)
          have q := (oVb.keep gv).2 3 _ rfl
          go_simp
          exact hK' _ _ (hK _ _ (Below.refl _ _) (at_of rfl (rfl)))
         ·try dsimp only [upd, Nat.reduceBEq, cond_true, cond_false]
          refine wpOp_step rfl (fun K' hK' => ?_)
          go_simp
          exact hK' _ _ (hK _ _ (Below.refl _ _) (at_of rfl (rfl)))
         ·obtain ⟨x, rfl⟩ := upd_of (show x 4 = .slice (some ⟨w7, 0, none⟩) 2 lc7 from hd 4 _ (by simp) rfl)
          obtain ⟨x, rfl⟩ := upd_of (show x 5 = .int .i64 0 from hd 5 _ (by simp) rfl)
          try dsimp only [upd, Nat.reduceBEq, cond_true, cond_false]
          refine wpOp_step rfl (fun K' hK' => ?_)
          go_simp
          exact hK' _ _ (hK _ _ (Below.refl _ _) (at_of rfl (rfl)))
         ·obtain ⟨x, rfl⟩ := upd_of (show x 6 = .pointer (some ⟨w7, 0, none⟩) from hd 6 _ (by simp) rfl)
          try dsimp only [upd, Nat.reduceBEq, cond_true, cond_false]
          refine wpOp_step rfl (fun K' hK' => ?_)
          have q := (oKb.keep gv).2 0 _ rfl
          go_simp
          exact hK' _ _ (hK _ _ (Below.refl _ _) (at_of rfl (rfl)))
         ·try dsimp only [upd, Nat.reduceBEq, cond_true, cond_false]
          refine wpOp_step rfl (fun K' hK' => ?_)
          go_simp
          exact hK' _ _ (hK _ _ (Below.refl _ _) (at_of rfl (rfl)))
         ·try dsimp only [upd, Nat.reduceBEq, cond_true, cond_false]
          refine wpOp_step rfl (fun K' hK' => ?_)
          go_simp
          exact hK' _ _ (hK _ _ (Below.refl _ _) (at_of rfl (rfl)))
         ·obtain ⟨x, rfl⟩ := upd_of (show x 9 = .int .i64 0 from hd 9 _ (by simp) rfl)
          try dsimp only [upd, Nat.reduceBEq, cond_true, cond_false]
          refine wpOp_step rfl (fun K' hK' => ?_)
          go_simp
          exact hK' _ _ (hK _ _ (Below.refl _ _) (at_of rfl (rfl)))
         ·obtain ⟨x, rfl⟩ := upd_of (show x 8 = .func (.func 47) #[] #[.pointer (some ⟨(w.heap.size + 1), 0, none⟩), .pointer (some ⟨v11, 0, none⟩)] from hd 8 _ (by simp) rfl)
          obtain ⟨x, rfl⟩ := upd_of (show x 10 = .int .i64 6 from hd 10 _ (by simp) rfl)
          try dsimp only [upd, Nat.reduceBEq, cond_true, cond_false]
          refine wpOp_step rfl (fun K' hK' => ?_)
          go_simp
          refine ((BY.out _ _ v (h4z.keep gv) (oOz.keep gv)).2.2.2.2.2.2.1).mono ?_
          rintro e v' ⟨rfl, hg⟩
          exact hK' _ _ (hK _ _ hg (at_of rfl (rfl)))
         ·obtain ⟨x, rfl⟩ := upd_of (show x 7 = .int .i64 t0 from hd 7 _ (by simp) rfl)
          obtain ⟨x, rfl⟩ := upd_of (show x 11 = .int .i64 d6 from hd 11 _ (by simp) rfl)
          try dsimp only [upd, Nat.reduceBEq, cond_true, cond_false]
          refine wpOp_step rfl (fun K' hK' => ?_)
          go_simp
          exact hK' _ _ (hK _ _ (Below.refl _ _) (at_of rfl (rfl)))
         ·obtain ⟨x, rfl⟩ := upd_of (show x 12 = .int .i64 (t0 + d6) from hd 12 _ (by simp) rfl)
          try dsimp only [upd, Nat.reduceBEq, cond_true, cond_false]
          refine wpOp_step rfl (fun K' hK' => ?_)
          go_simp
          exact hK' _ _ (hK _ _ (Below.refl _ _) (at_of rfl ((by first | rfl | exact congrArg (Value.int .i64) hmx))))
        case fin14_0 =>
         rintro x v gv hd
         obtain ⟨x, rfl⟩ := upd_of (show x 1 = .slice (some ⟨w7, 0, none⟩) 2 lc7 from hd 1 _ (by omega) rfl)
         obtain ⟨x, rfl⟩ := upd_of (show x 2 = .int .i64 0 from hd 2 _ (by omega) rfl)
         obtain ⟨x, rfl⟩ := upd_of (show x 13 = .int .i64 T0 from hd 13 _ (by omega) rfl)
         clear hd
         show wpList Try.prog _ _ (List.drop 14 _) (⟨#[_, _, _, _, _, _, _, _, _, _, _, _, _, _, _, _, _, _, _, _, _, _, _, _, _, _, _, _, _, _, _, _, _, _, _, _, _, _, _, _, _, _, _, _, _, _, _, _, _, _, _, _, _, _, _, _, _, _, _, _, _, _, _, _, _, _, _, _, _, _, _, _, _, _, _, _, _, _, x 0, .slice (some ⟨w7, 0, none⟩) 2 lc7, .int .i64 0, x 3, x 4, x 5, x 6, x 7, x 8, x 9, x 10, x 11, x 12, .int .i64 T0, _, _, _, _, _, _, _, _, _, _, _, _, _, _, _, _, _, _, _, _, _, _, _, _, _, _, _, _, _, _, _, _, _, _, _, _, _, _, _, _, _, _, _, _, _, _, _, _, _, _, _, _, _, _, _, _, _, _, _, _, _, _, _, _, _, _, _, _, _, _, _, _, _, _, _, _, _, _, _, _, _, _, _, _, _, _, _, _, _, _, _, _, _, _, _, _, _, _, _, _, _, _, _, _, _, _, _, _, _, _, _, _, _, _, _, _, _, _, _, _, _, _, _, _, _, _, _, _, _, _], []⟩ : Act) v
         simp only [List.drop_succ_cons, List.drop_zero]
         have e_ := (SW.keep gv).2.2.2.1.1.2 0 _ rfl
         have z_ := (SW.keep gv).2.2.2.1.2 0
         go_wp2
         go_roundw
         case rel => exact Lib.hid (.inr (.inl ⟨rfl, (SW.keep gv).set_t0 SD T0⟩))
         case measure => simp [intOf]
     ·as_aux_lemma =>
      refine wp_abs (fun Z => SeenW Y B w3 lc3 w7 lc7 w11 lc11 o P0 P1 P2 P3 T0 t1 B0 s1 hei Z) SW ?_
      clear SW
      rintro wz SW
      have h4z := h4.keep SW.1
      have oOz := oO.keep SW.1
      go_upto_region 12 with fail
      have hd := HD.out d5 (by simp)
      have hs := HS.out
      have hmx : max 0 (s1 + d5) = B1 := HP.out.2.1.2
      have wk : IntKind.i64.wrap (s1 + d5) = s1 + d5 := IntWalk.i64_in _ (by obtain ⟨_, _, _, _, _, _, q6, q7, _⟩ := hs; omega)
      clear hd hs
      have oVb := SW.2.1.1
      have oKb := SW.2.2.2.2.1
      refine (show (∀ sd : Nat → Value, Code.wp Try.prog _ _ ⟨#[sa 0, sa 1, sa 2, sa 3, .pointer (some ⟨(w.heap.size + 1), 0, none⟩), .pointer (some ⟨(w.heap.size + 1 + 1), 0, none⟩), .bool false, .pointer (some ⟨v9, 0, none⟩), .pointer (some ⟨v10, 0, none⟩), .pointer (some ⟨v11, 0, none⟩), .pointer (some ⟨D, 0, none⟩), .pointer (some ⟨B, 0, none⟩), .func (.func 47) #[] #[.pointer (some ⟨(w.heap.size + 1), 0, none⟩), .pointer (some ⟨v11, 0, none⟩)], .int .i64 4, .int .i64 1, undef, undef, undef, undef, undef, undef, undef, undef, undef, undef, undef, sa 26, sa 27, sa 28, sa 29, sa 30, sa 31, sa 32, sa 33, sa 34, sa 35, sa 36, sa 37, sa 38, sa 39, sa 40, sa 41, sc 42, sc 43, sc 44, sc 45, sc 46, sc 47, sc 48, sc 49, sc 50, sc 51, sc 52, sc 53, sc 54, sc 55, sd 56, sd 57, sd 58, sd 59, sd 60, sd 61, sd 62, sd 63, sd 64, sd 65, sd 66, sd 67, sd 68, sd 69, sd 70, sd 71, sd 72, sd 73, sd 74, sd 75, sd 76, sd 77, sd 78, sd 79, sd 80, sd 81, sd 82, sd 83, sd 84, sd 85, sd 86, sd 87, sd 88, sd 89, sd 90, sd 91, sd 92, undef, undef, undef, undef, undef, undef, undef, undef, undef, undef, undef, undef, undef, undef, undef, undef, undef, undef, undef, undef, undef, undef, undef, undef, undef, undef, undef, undef, undef, undef, undef, undef, undef, undef, undef, undef, undef, undef, undef, undef, undef, undef, undef, undef, undef, undef, undef, undef, undef, undef, undef, undef, undef, undef, undef, undef, undef, undef, undef, undef, undef, undef, undef, undef, undef, undef, undef, undef, undef, undef, undef, undef, undef, undef, undef, undef, undef, undef, undef, undef, undef, undef, undef, undef, undef, undef, undef, undef, undef, undef, undef, undef, undef, undef, undef, undef, undef, undef, undef, undef, undef, undef, undef, undef, undef, undef, undef, undef, undef, undef, undef, undef, undef, undef, undef, undef, undef, undef, undef, undef, undef, undef, undef, undef, undef, undef, undef, undef, undef], []⟩ _) → _ from fun h => h ((fun l : List Value => fun i => l.getD i undef) [undef, undef, undef, undef, undef, undef, undef, undef, undef, undef, undef, undef, undef, undef, undef, undef, undef, undef, undef, undef, undef, undef, undef, undef, undef, undef, undef, undef, undef, undef, undef, undef, undef, undef, undef, undef, undef, undef, undef, undef, undef, undef, undef, undef, undef, undef, undef, undef, undef, undef, undef, undef, undef, undef, undef, undef, _, _, _, _, _, _, _, _, _, _, _, _, _, _, _, _, _, _, _, _, _, _, _, _, _, _, _, _, _, _, _, _, _, _, _, _, _])) ?_
      intro sd
      dsimp only
      refine wp_region_facts 14 [(1, 0), (4, 3), (6, 4), (6, 5), (7, 6), (10, 9), (11, 8), (11, 10), (12, 7), (12, 11), (13, 12)] (fun x => ⟨#[sa 0, sa 1, sa 2, sa 3, .pointer (some ⟨(w.heap.size + 1), 0, none⟩), .pointer (some ⟨(w.heap.size + 1 + 1), 0, none⟩), .bool false, .pointer (some ⟨v9, 0, none⟩), .pointer (some ⟨v10, 0, none⟩), .pointer (some ⟨v11, 0, none⟩), .pointer (some ⟨D, 0, none⟩), .pointer (some ⟨B, 0, none⟩), .func (.func 47) #[] #[.pointer (some ⟨(w.heap.size + 1), 0, none⟩), .pointer (some ⟨v11, 0, none⟩)], .int .i64 4, .int .i64 1, undef, undef, undef, undef, undef, undef, undef, undef, undef, undef, undef, sa 26, sa 27, sa 28, sa 29, sa 30, sa 31, sa 32, sa 33, sa 34, sa 35, sa 36, sa 37, sa 38, sa 39, sa 40, sa 41, sc 42, sc 43, sc 44, sc 45, sc 46, sc 47, sc 48, sc 49, sc 50, sc 51, sc 52, sc 53, sc 54, sc 55, sd 56, sd 57, sd 58, sd 59, x 0, x 1, x 2, x 3, x 4, x 5, x 6, x 7, x 8, x 9, x 10, x 11, x 12, x 13, sd 74, sd 75, sd 76, sd 77, sd 78, sd 79, sd 80, sd 81, sd 82, sd 83, sd 84, sd 85, sd 86, sd 87, sd 88, sd 89, sd 90, sd 91, sd 92, undef, undef, undef, undef, undef, undef, undef, undef, undef, undef, undef, undef, undef, undef, undef, undef, undef, undef, undef, undef, undef, undef, undef, undef, undef, undef, undef, undef, undef, undef, undef, undef, undef, undef, undef, undef, undef, undef, undef, undef, undef, undef, undef, undef, undef, undef, undef, undef, undef, undef, undef, undef, undef, undef, undef, undef, undef, undef, undef, undef, undef, undef, undef, undef, undef, undef, undef, undef, undef, undef, undef, undef, undef, undef, undef, undef, undef, undef, undef, undef, undef, undef, undef, undef, undef, undef, undef, undef, undef, undef, undef, undef, undef, undef, undef, undef, undef, undef, undef, undef, undef, undef, undef, undef, undef, undef, undef, undef, undef, undef, undef, undef, undef, undef, undef, undef, undef, undef, undef, undef, undef, undef, undef, undef, undef, undef, undef, undef, undef], []⟩) (fun i => [sd 60, sd 61, sd 62, sd 63, sd 64, sd 65, sd 66, sd 67, sd 68, sd 69, sd 70, sd 71, sd 72, sd 73].getD i undef) [fun _ x => x = .pointer (some ⟨B, 4, none⟩), fun _ x => x = .slice (some ⟨w11, 0, none⟩) 2 lc11, fun _ x => x = .int .i64 1, fun _ x => x = .pointer (some ⟨B, 4, none⟩), fun _ x => x = .slice (some ⟨w11, 0, none⟩) 2 lc11, fun _ x => x = .int .i64 1, fun _ x => x = .pointer (some ⟨w11, 1, none⟩), fun _ x => x = .int .i64 s1, fun _ x => x = .func (.func 47) #[] #[.pointer (some ⟨(w.heap.size + 1), 0, none⟩), .pointer (some ⟨v11, 0, none⟩)], fun _ x => x = .int .i64 1, fun _ x => x = .int .i64 5, fun _ x => x = .int .i64 d5, fun _ x => x = .int .i64 (s1 + d5), fun _ x => x = .int .i64 B1] (by rfl) (by kernel_rfl) (by kernel_rfl) (by kernel_rfl) (stays_cons (Stays.eq _) (stays_cons (Stays.eq _) (stays_cons (Stays.eq _) (stays_cons (Stays.eq _) (stays_cons (Stays.eq _) (stays_cons (Stays.eq _) (stays_cons (Stays.eq _) (stays_cons (Stays.eq _) (stays_cons (Stays.eq _) (stays_cons (Stays.eq _) (stays_cons (Stays.eq _) (stays_cons (Stays.eq _) (stays_cons (Stays.eq _) (stays_cons (Stays.eq _) stays_nil)))))))))))))) ?step12_1 ?fin12_1
      case step12_1 => as_aux_lemma =>
       rintro i hi x v gv hd K hK
       have hi8 : i = 0 ∨ i = 1 ∨ i = 2 ∨ i = 3 ∨ i = 4 ∨ i = 5 ∨ i = 6 ∨ i = 7 ∨ i = 8 ∨ i = 9 ∨ i = 10 ∨ i = 11 ∨ i = 12 ∨ i = 13 := by omega
       rcases hi8 with rfl | rfl | rfl | rfl | rfl | rfl | rfl | rfl | rfl | rfl | rfl | rfl | rfl | rfl
       ·try dsimp only [upd, Nat.reduceBEq, cond_true, cond_false]
        refine wpOp_step rfl (fun K' hK' => ?_)
        go_simp
        exact hK' _ _ (hK _ _ (Below.refl _ _) (at_of rfl (rfl)))
       ·obtain ⟨x, rfl⟩ := upd_of (show x 0 = .pointer (some ⟨B, 4, none⟩) from hd 0 _ (by simp) rfl)
        try dsimp only [upd, Nat.reduceBEq, cond_true, cond_false]
        refine wpOp_step rfl (fun K' hK' => ?_)
        have q := (oVb.keep gv).2 4 _ rfl
        go_simp
        exact hK' _ _ (hK _ _ (Below.refl _ _) (at_of rfl (rfl)))
       ·try dsimp only [upd, Nat.reduceBEq, cond_true, cond_false]
        refine wpOp_step rfl (fun K' hK' => ?_)
        go_simp
        exact hK' _ _ (hK _ _ (Below.refl _ _) (at_of rfl (rfl)))
       ·try dsimp only [upd, Nat.reduceBEq, cond_true, cond_false]
        refine wpOp_step rfl (fun K' hK' => ?_)
        go_simp
        exact hK' _ _ (hK _ _ (Below.refl _ _) (at_of rfl (rfl)))
       ·obtain ⟨x, rfl⟩ := upd_of (show x 3 = .pointer (some ⟨B, 4, none⟩) from hd 3 _ (by simp) rfl)
        try dsimp only [upd, Nat.reduceBEq, cond_true, cond_false]
        refine wpOp_step rfl (fun K' hK' => ?_)
        have q := (oVb.keep gv).2 4 _ rfl
        go_simp
        exact hK' _ _ (hK _ _ (Below.refl _ _) (at_of rfl (rfl)))
       ·try dsimp only [upd, Nat.reduceBEq, cond_true, cond_false]
        refine wpOp_step rfl (fun K' hK' => ?_)
        go_simp
        exact hK' _ _ (hK _ _ (Below.refl _ _) (at_of rfl (rfl)))
       ·obtain ⟨x, rfl⟩ := upd_of (show x 4 = .slice (some ⟨w11, 0, none⟩) 2 lc11 from hd 4 _ (by simp) rfl)
        obtain ⟨x, rfl⟩ := upd_of (show x 5 = .int .i64 1 from hd 5 _ (by simp) rfl)
        try dsimp only [upd, Nat.reduceBEq, cond_true, cond_false]
        refine wpOp_step rfl (fun K' hK' => ?_)
        go_simp
        exact hK' _ _ (hK _ _ (Below.refl _ _) (at_of rfl (rfl)))
       ·obtain ⟨x, rfl⟩ := upd_of (show x 6 = .pointer (some ⟨w11, 1, none⟩) from hd 6 _ (by simp) rfl)
        try dsimp only [upd, Nat.reduceBEq, cond_true, cond_false]
        refine wpOp_step rfl (fun K' hK' => ?_)
        have q := (oKb.keep gv).2 1 _ rfl
        go_simp
        exact hK' _ _ (hK _ _ (Below.refl _ _) (at_of rfl (rfl)))
       ·try dsimp only [upd, Nat.reduceBEq, cond_true, cond_false]
        refine wpOp_step rfl (fun K' hK' => ?_)
        go_simp
        exact hK' _ _ (hK _ _ (Below.refl _ _) (at_of rfl (rfl)))
       ·try dsimp only [upd, Nat.reduceBEq, cond_true, cond_false]
        refine wpOp_step rfl (fun K' hK' => ?_)
        go_simp
        exact hK' _ _ (hK _ _ (Below.refl _ _) (at_of rfl (rfl)))
       ·obtain ⟨x, rfl⟩ := upd_of (show x 9 = .int .i64 1 from hd 9 _ (by simp) rfl)
        try dsimp only [upd, Nat.reduceBEq, cond_true, cond_false]
        refine wpOp_step rfl (fun K' hK' => ?_)
        go_simp
        exact hK' _ _ (hK _ _ (Below.refl _ _) (at_of rfl (rfl)))
       ·obtain ⟨x, rfl⟩ := upd_of (show x 8 = .func (.func 47) #[] #[.pointer (some ⟨(w.heap.size + 1), 0, none⟩), .pointer (some ⟨v11, 0, none⟩)] from hd 8 _ (by simp) rfl)
        obtain ⟨x, rfl⟩ := upd_of (show x 10 = .int .i64 5 from hd 10 _ (by simp) rfl)
        try dsimp only [upd, Nat.reduceBEq, cond_true, cond_false]
        refine wpOp_step rfl (fun K' hK' => ?_)
        go_simp
        refine ((BY.out _ _ v (h4z.keep gv) (oOz.keep gv)).2.2.2.2.2.1).mono ?_
        rintro e v' ⟨rfl, hg⟩
        exact hK' _ _ (hK _ _ hg (at_of rfl (rfl)))
       ·obtain ⟨x, rfl⟩ := upd_of (show x 7 = .int .i64 s1 from hd 7 _ (by simp) rfl)
        obtain ⟨x, rfl⟩ := upd_of (show x 11 = .int .i64 d5 from hd 11 _ (by simp) rfl)
        try dsimp only [upd, Nat.reduceBEq, cond_true, cond_false]
        refine wpOp_step rfl (fun K' hK' => ?_)
        go_simp
        exact hK' _ _ (hK _ _ (Below.refl _ _) (at_of rfl (rfl)))
       ·obtain ⟨x, rfl⟩ := upd_of (show x 12 = .int .i64 (s1 + d5) from hd 12 _ (by simp) rfl)
        try dsimp only [upd, Nat.reduceBEq, cond_true, cond_false]
        refine wpOp_step rfl (fun K' hK' => ?_)
        go_simp
        exact hK' _ _ (hK _ _ (Below.refl _ _) (at_of rfl ((by first | rfl | exact congrArg (Value.int .i64) hmx))))
      case fin12_1 =>
       rintro x v gv hd
       obtain ⟨x, rfl⟩ := upd_of (show x 1 = .slice (some ⟨w11, 0, none⟩) 2 lc11 from hd 1 _ (by omega) rfl)
       obtain ⟨x, rfl⟩ := upd_of (show x 2 = .int .i64 1 from hd 2 _ (by omega) rfl)
       obtain ⟨x, rfl⟩ := upd_of (show x 13 = .int .i64 B1 from hd 13 _ (by omega) rfl)
       clear hd
       show wpList Try.prog _ _ (List.drop 14 _) (⟨#[_, _, _, _, _, _, _, _, _, _, _, _, _, _, _, _, _, _, _, _, _, _, _, _, _, _, _, _, _, _, _, _, _, _, _, _, _, _, _, _, _, _, _, _, _, _, _, _, _, _, _, _, _, _, _, _, _, _, _, _, x 0, .slice (some ⟨w11, 0, none⟩) 2 lc11, .int .i64 1, x 3, x 4, x 5, x 6, x 7, x 8, x 9, x 10, x 11, x 12, .int .i64 B1, _, _, _, _, _, _, _, _, _, _, _, _, _, _, _, _, _, _, _, _, _, _, _, _, _, _, _, _, _, _, _, _, _, _, _, _, _, _, _, _, _, _, _, _, _, _, _, _, _, _, _, _, _, _, _, _, _, _, _, _, _, _, _, _, _, _, _, _, _, _, _, _, _, _, _, _, _, _, _, _, _, _, _, _, _, _, _, _, _, _, _, _, _, _, _, _, _, _, _, _, _, _, _, _, _, _, _, _, _, _, _, _, _, _, _, _, _, _, _, _, _, _, _, _, _, _, _, _, _, _, _, _, _, _, _, _, _, _, _, _, _, _, _, _, _, _, _, _], []⟩ : Act) v
       simp only [List.drop_succ_cons, List.drop_zero]
       have e_ := (SW.keep gv).2.2.2.2.1.2 1 _ rfl
       have z_ := (SW.keep gv).2.2.2.2.2 1
       go_upto_region 13 with fail
       refine wp_abs (fun Z => SeenW Y B w3 lc3 w7 lc7 w11 lc11 o P0 P1 P2 P3 T0 t1 B0 B1 hei Z) ((SW.keep gv).set_s1 SD B1) ?_
       clear SW gv oVb oKb e_ z_ wk hmx h4z oOz
       rintro wa SW
       have oLa := (oL.keep SW.1).2 6 _ rfl
       have ho : o = true ∨ o = false := by cases o <;> simp
       rcases ho with ho | ho
       ·have hno : (!o) = false := by rw [ho]; rfl
        have ht : T1 = t1 := (HP.out.2.2.2.1 ho).2
        go_wp2
        go_roundw
        case rel => exact Lib.hid (.inr (.inr (⟨rfl, by rw [ht]; exact SW⟩)))
        case measure => simp [intOf]
       ·have hno : (!o) = true := by rw [ho]; rfl
        have hmx : max 0 (t1 + d7) = T1 := (HP.out.2.2.1 ho).2
        have h4z := h4.keep SW.1
        have oOz := oO.keep SW.1
        go_upto_region 14 with fail
        have hd := HD.out d7 (by simp)
        have hs := HS.out
        have wk : IntKind.i64.wrap (t1 + d7) = t1 + d7 := IntWalk.i64_in _ (by obtain ⟨_, _, _, _, q6, q7, _⟩ := hs; omega)
        clear hd hs
        have oVb := SW.2.1.1
        have oKb := SW.2.2.2.1.1
        refine (show (∀ se : Nat → Value, Code.wp Try.prog _ _ ⟨#[sa 0, sa 1, sa 2, sa 3, .pointer (some ⟨(w.heap.size + 1), 0, none⟩), .pointer (some ⟨(w.heap.size + 1 + 1), 0, none⟩), .bool false, .pointer (some ⟨v9, 0, none⟩), .pointer (some ⟨v10, 0, none⟩), .pointer (some ⟨v11, 0, none⟩), .pointer (some ⟨D, 0, none⟩), .pointer (some ⟨B, 0, none⟩), .func (.func 47) #[] #[.pointer (some ⟨(w.heap.size + 1), 0, none⟩), .pointer (some ⟨v11, 0, none⟩)], .int .i64 4, .int .i64 1, undef, undef, undef, undef, undef, undef, undef, undef, undef, undef, undef, sa 26, sa 27, sa 28, sa 29, sa 30, sa 31, sa 32, sa 33, sa 34, sa 35, sa 36, sa 37, sa 38, sa 39, sa 40, sa 41, sc 42, sc 43, sc 44, sc 45, sc 46, sc 47, sc 48, sc 49, sc 50, sc 51, sc 52, sc 53, sc 54, sc 55, se 56, se 57, se 58, se 59, se 60, se 61, se 62, se 63, se 64, se 65, se 66, se 67, se 68, se 69, se 70, se 71, se 72, se 73, se 74, se 75, se 76, se 77, se 78, se 79, se 80, se 81, se 82, se 83, se 84, se 85, se 86, se 87, se 88, se 89, se 90, se 91, se 92, undef, undef, undef, undef, undef, undef, undef, undef, undef, undef, undef, undef, undef, undef, undef, undef, undef, undef, undef, undef, undef, undef, undef, undef, undef, undef, undef, undef, undef, undef, undef, undef, undef, undef, undef, undef, undef, undef, undef, undef, undef, undef, undef, undef, undef, undef, undef, undef, undef, undef, undef, undef, undef, undef, undef, undef, undef, undef, undef, undef, undef, undef, undef, undef, undef, undef, undef, undef, undef, undef, undef, undef, undef, undef, undef, undef, undef, undef, undef, undef, undef, undef, undef, undef, undef, undef, undef, undef, undef, undef, undef, undef, undef, undef, undef, undef, undef, undef, undef, undef, undef, undef, undef, undef, undef, undef, undef, undef, undef, undef, undef, undef, undef, undef, undef, undef, undef, undef, undef, undef, undef, undef, undef, undef, undef, undef, undef, undef, undef], []⟩ _) → _ from fun h => h ((fun l : List Value => fun i => l.getD i undef) [undef, undef, undef, undef, undef, undef, undef, undef, undef, undef, undef, undef, undef, undef, undef, undef, undef, undef, undef, undef, undef, undef, undef, undef, undef, undef, undef, undef, undef, undef, undef, undef, undef, undef, undef, undef, undef, undef, undef, undef, undef, undef, undef, undef, undef, undef, undef, undef, undef, undef, undef, undef, undef, undef, undef, undef, _, _, _, _, _, _, _, _, _, _, _, _, _, _, _, _, _, _, _, _, _, _, _, _, _, _, _, _, _, _, _, _, _, _, _, _, _])) ?_
        intro se
        dsimp only
        refine wp_region_facts 14 [(1, 0), (4, 3), (6, 4), (6, 5), (7, 6), (10, 9), (11, 8), (11, 10), (12, 7), (12, 11), (13, 12)] (fun x => ⟨#[sa 0, sa 1, sa 2, sa 3, .pointer (some ⟨(w.heap.size + 1), 0, none⟩), .pointer (some ⟨(w.heap.size + 1 + 1), 0, none⟩), .bool false, .pointer (some ⟨v9, 0, none⟩), .pointer (some ⟨v10, 0, none⟩), .pointer (some ⟨v11, 0, none⟩), .pointer (some ⟨D, 0, none⟩), .pointer (some ⟨B, 0, none⟩), .func (.func 47) #[] #[.pointer (some ⟨(w.heap.size + 1), 0, none⟩), .pointer (some ⟨v11, 0, none⟩)], .int .i64 4, .int .i64 1, undef, undef, undef, undef, undef, undef, undef, undef, undef, undef, undef, sa 26, sa 27, sa 28, sa 29, sa 30, sa 31, sa 32, sa 33, sa 34, sa 35, sa 36, sa 37, sa 38, sa 39, sa 40, sa 41, sc 42, sc 43, sc 44, sc 45, sc 46, sc 47, sc 48, sc 49, sc 50, sc 51, sc 52, sc 53, sc 54, sc 55, se 56, se 57, se 58, se 59, se 60, se 61, se 62, se 63, se 64, se 65, se 66, se 67, se 68, se 69, se 70, se 71, se 72, se 73, se 74, se 75, se 76, se 77, x 0, x 1, x 2, x 3, x 4, x 5, x 6, x 7, x 8, x 9, x 10, x 11, x 12, x 13, se 92, undef, undef, undef, undef, undef, undef, undef, undef, undef, undef, undef, undef, undef, undef, undef, undef, undef, undef, undef, undef, undef, undef, undef, undef, undef, undef, undef, undef, undef, undef, undef, undef, undef, undef, undef, undef, undef, undef, undef, undef, undef, undef, undef, undef, undef, undef, undef, undef, undef, undef, undef, undef, undef, undef, undef, undef, undef, undef, undef, undef, undef, undef, undef, undef, undef, undef, undef, undef, undef, undef, undef, undef, undef, undef, undef, undef, undef, undef, undef, undef, undef, undef, undef, undef, undef, undef, undef, undef, undef, undef, undef, undef, undef, undef, undef, undef, undef, undef, undef, undef, undef, undef, undef, undef, undef, undef, undef, undef, undef, undef, undef, undef, undef, undef, undef, undef, undef, undef, undef, undef, undef, undef, undef, undef, undef, undef, undef, undef, undef], []⟩) (fun i => [se 78, se 79, se 80, se 81, se 82, se 83, se 84, se 85, se 86, se 87, se 88, se 89, se 90, se 91].getD i undef) [fun _ x => x = .pointer (some ⟨B, 3, none⟩), fun _ x => x = .slice (some ⟨w7, 0, none⟩) 2 lc7, fun _ x => x = .int .i64 1, fun _ x => x = .pointer (some ⟨B, 3, none⟩), fun _ x => x = .slice (some ⟨w7, 0, none⟩) 2 lc7, fun _ x => x = .int .i64 1, fun _ x => x = .pointer (some ⟨w7, 1, none⟩), fun _ x => x = .int .i64 t1, fun _ x => x = .func (.func 47) #[] #[.pointer (some ⟨(w.heap.size + 1), 0, none⟩), .pointer (some ⟨v11, 0, none⟩)], fun _ x => x = .int .i64 1, fun _ x => x = .int .i64 7, fun _ x => x = .int .i64 d7, fun _ x => x = .int .i64 (t1 + d7), fun _ x => x = .int .i64 T1] (by rfl) (by kernel_rfl) (by kernel_rfl) (by kernel_rfl) (stays_cons (Stays.eq _) (stays_cons (Stays.eq _) (stays_cons (Stays.eq _) (stays_cons (Stays.eq _) (stays_cons (Stays.eq _) (stays_cons (Stays.eq _) (stays_cons (Stays.eq _) (stays_cons (Stays.eq _) (stays_cons (Stays.eq _) (stays_cons (Stays.eq _) (stays_cons (Stays.eq _) (stays_cons (Stays.eq _) (stays_cons (Stays.eq _) (stays_cons (Stays.eq _) stays_nil)))))))))))))) ?step14_1 ?fin14_1
        case step14_1 => as_aux_lemma =>
         rintro i hi x v gv hd K hK
         have hi8 : i = 0 ∨ i = 1 ∨ i = 2 ∨ i = 3 ∨ i = 4 ∨ i = 5 ∨ i = 6 ∨ i = 7 ∨ i = 8 ∨ i = 9 ∨ i = 10 ∨ i = 11 ∨ i = 12 ∨ i = 13 := by omega
         rcases hi8 with rfl | rfl | rfl | rfl | rfl | rfl | rfl | rfl | rfl | rfl | rfl | rfl | rfl | rfl
         ·try dsimp only [upd, Nat.reduceBEq, cond_true, cond_false]
          refine wpOp_step rfl (fun K' hK' => ?_)
          go_simp
          exact hK' _ _ (hK _ _ (Below.refl _ _) (at_of rfl (rfl)))
         ·obtain ⟨x, rfl⟩ := upd_of (show x 0 = .pointer (some ⟨B, 3, none⟩) from hd 0 _ (by simp) rfl)
          try dsimp only [upd, Nat.reduceBEq, cond_true, cond_false]
          refine wpOp_step rfl (fun K' hK' => ?_)
          have q := (oVb.keep gv).2 3 _ rfl
          go_simp
          exact hK' _ _ (hK _ _ (Below.refl _ _) (at_of rfl (rfl)))
         ·try dsimp only [upd, Nat.reduceBEq, cond_true, cond_false]
          refine wpOp_step rfl (fun K' hK' => ?_)
          go_simp
          exact hK' _ _ (hK _ _ (Below.refl _ _) (at_of rfl (rfl)))
         ·try dsimp only [upd, Nat.reduceBEq, cond_true, cond_false]
          refine wpOp_step rfl (fun K' hK' => ?_)
          go_simp
          exact hK' _ _ (hK _ _ (Below.refl _ _) (at_of rfl (rfl)))
         ·obtain ⟨x, rfl⟩ := upd_of (show x 3 = .pointer (some ⟨B, 3, none⟩) from hd 3 _ (by simp) rfl)
          try dsimp only [upd, Nat.reduceBEq, cond_true, cond_false]
          refine wpOp_step rfl (fun K' hK' => ?_)
          have q := (oVb.keep gv).2 3 _ rfl
          go_simp
          exact hK' _ _ (hK _ _ (Below.refl _ _) (at_of rfl (rfl)))
         ·try dsimp only [upd, Nat.reduceBEq, cond_true, cond_false]
          refine wpOp_step rfl (fun K' hK' => ?_)
          go_simp
          exact hK' _ _ (hK _ _ (Below.refl _ _) (at_of rfl (rfl)))
         ·obtain ⟨x, rfl⟩ := upd_of (show x 4 = .slice (some ⟨w7, 0, none⟩) 2 lc7 from hd 4 _ (by simp) rfl)
          obtain ⟨x, rfl⟩ := upd_of (show x 5 = .int .i64 1 from hd 5 _ (by simp) rfl)
          try dsimp only [upd, Nat.reduceBEq, cond_true, cond_false]
          refine wpOp_step rfl (fun K' hK' => ?_)
          go_simp
          exact hK' _ _ (hK _ _ (Below.refl _ _) (at_of rfl (rfl)))
         ·obtain ⟨x, rfl⟩ := upd_of (show x 6 = .pointer (some ⟨w7, 1, none⟩) from hd 6 _ (by simp) rfl)
          try dsimp only [upd, Nat.reduceBEq, cond_true, cond_false]
          refine wpOp_step rfl (fun K' hK' => ?_)
          have q := (oKb.keep gv).2 1 _ rfl
          go_simp
          exact hK' _ _ (hK _ _ (Below.refl _ _) (at_of rfl (rfl)))
         ·try dsimp only [upd, Nat.reduceBEq, cond_true, cond_false]
          refine wpOp_step rfl (fun K' hK' => ?_)
          go_simp
          exact hK' _ _ (hK _ _ (Below.refl _ _) (at_of rfl (rfl)))
         ·try dsimp only [upd, Nat.reduceBEq, cond_true, cond_false]
          refine wpOp_step rfl (fun K' hK' => ?_)
          go_simp
          exact hK' _ _ (hK _ _ (Below.refl _ _) (at_of rfl (rfl)))
         ·obtain ⟨x, rfl⟩ := upd_of (show x 9 = .int .i64 1 from hd 9 _ (by simp) rfl)
          try dsimp only [upd, Nat.reduceBEq, cond_true, cond_false]
          refine wpOp_step rfl (fun K' hK' => ?_)
          go_simp
          exact hK' _ _ (hK _ _ (Below.refl _ _) (at_of rfl (rfl)))
         ·obtain ⟨x, rfl⟩ := upd_of (show x 8 = .func (.func 47) #[] #[.pointer (some ⟨(w.heap.size + 1), 0, none⟩), .pointer (some ⟨v11, 0, none⟩)] from hd 8 _ (by simp) rfl)
          obtain ⟨x, rfl⟩ := upd_of (show x 10 = .int .i64 7 from hd 10 _ (by simp) rfl)
          try dsimp only [upd, Nat.reduceBEq, cond_true, cond_false]
          refine wpOp_step rfl (fun K' hK' => ?_)
          go_simp
          refine ((BY.out _ _ v (h4z.keep gv) (oOz.keep gv)).2.2.2.2.2.2.2.1).mono ?_
          rintro e v' ⟨rfl, hg⟩
          exact hK' _ _ (hK _ _ hg (at_of rfl (rfl)))
         ·obtain ⟨x, rfl⟩ := upd_of (show x 7 = .int .i64 t1 from hd 7 _ (by simp) rfl)
          obtain ⟨x, rfl⟩ := upd_of (show x 11 = .int .i64 d7 from hd 11 _ (by simp) rfl)
          try dsimp only [upd, Nat.reduceBEq, cond_true, cond_false]
          refine wpOp_step rfl (fun K' hK' => ?_)
          go_simp
          exact hK' _ _ (hK _ _ (Below.refl _ _) (at_of rfl (rfl)))
         ·obtain ⟨x, rfl⟩ := upd_of (show x 12 = .int .i64 (t1 + d7) from hd 12 _ (by simp) rfl)
          try dsimp only [upd, Nat.reduceBEq, cond_true, cond_false]
          refine wpOp_step rfl (fun K' hK' => ?_)
          go_simp
          exact hK' _ _ (hK _ _ (Below.refl _ _) (at_of rfl ((by first | rfl | exact congrArg (Value.int .i64) hmx))))
        case fin14_1 =>
         rintro x v gv hd
         obtain ⟨x, rfl⟩ := upd_of (show x 1 = .slice (some ⟨w7, 0, none⟩) 2 lc7 from hd 1 _ (by omega) rfl)
         obtain ⟨x, rfl⟩ := upd_of (show x 2 = .int .i64 1 from hd 2 _ (by omega) rfl)
         obtain ⟨x, rfl⟩ := upd_of (show x 13 = .int .i64 T1 from hd 13 _ (by omega) rfl)
         clear hd
         show wpList Try.prog _ _ (List.drop 14 _) (⟨#[_, _, _, _, _, _, _, _, _, _, _, _, _, _, _, _, _, _, _, _, _, _, _, _, _, _, _, _, _, _, _, _, _, _, _, _, _, _, _, _, _, _, _, _, _, _, _, _, _, _, _, _, _, _, _, _, _, _, _, _, _, _, _, _, _, _, _, _, _, _, _, _, _, _, _, _, _, _, x 0, .slice (some ⟨w7, 0, none⟩) 2 lc7, .int .i64 1, x 3, x 4, x 5, x 6, x 7, x 8, x 9, x 10, x 11, x 12, .int .i64 T1, _, _, _, _, _, _, _, _, _, _, _, _, _, _, _, _, _, _, _, _, _, _, _, _, _, _, _, _, _, _, _, _, _, _, _, _, _, _, _, _, _, _, _, _, _, _, _, _, _, _, _, _, _, _, _, _, _, _, _, _, _, _, _, _, _, _, _, _, _, _, _, _, _, _, _, _, _, _, _, _, _, _, _, _, _, _, _, _, _, _, _, _, _, _, _, _, _, _, _, _, _, _, _, _, _, _, _, _, _, _, _, _, _, _, _, _, _, _, _, _, _, _, _, _, _, _, _, _, _, _], []⟩ : Act) v
         simp only [List.drop_succ_cons, List.drop_zero]
         have e_ := (SW.keep gv).2.2.2.1.1.2 1 _ rfl
         have z_ := (SW.keep gv).2.2.2.1.2 1
         go_wp2
         go_roundw
         case rel => exact Lib.hid (.inr (.inr (⟨rfl, (SW.keep gv).set_t1 SD T1⟩)))
         case measure => simp [intOf]
     ·refine wp_abs (fun Z => SeenW Y B w3 lc3 w7 lc7 w11 lc11 o P0 P1 P2 P3 T0 T1 B0 B1 hei Z) SW ?_
      clear SW
      rintro wx SW
      have h4z := h4.keep SW.1
      have oOz := oO.keep SW.1
      go_upto_region 15 with fail
      have hd := HD.out d8 (by simp)
      have hs := HS.out
      have hp : hei + d8 = H := HP.out.2.2.2.2
      have wk : IntKind.i64.wrap (hei + d8) = H := by rw [IntWalk.i64_in _ (by obtain ⟨_, _, _, _, _, _, _, _, q8, _⟩ := hs; omega)]; omega
      clear hd hs hp
      have oVb := SW.2.1.1
      refine (show (∀ sf : Nat → Value, Code.wp Try.prog _ _ ⟨#[sf 0, sf 1, sf 2, sf 3, .pointer (some ⟨(w.heap.size + 1), 0, none⟩), .pointer (some ⟨(w.heap.size + 1 + 1), 0, none⟩), .bool false, .pointer (some ⟨v9, 0, none⟩), .pointer (some ⟨v10, 0, none⟩), .pointer (some ⟨v11, 0, none⟩), .pointer (some ⟨D, 0, none⟩), .pointer (some ⟨B, 0, none⟩), .func (.func 47) #[] #[.pointer (some ⟨(w.heap.size + 1), 0, none⟩), .pointer (some ⟨v11, 0, none⟩)], sf 13, sf 14, undef, undef, undef, undef, undef, undef, undef, undef, undef, undef, undef, sf 26, sf 27, sf 28, sf 29, sf 30, sf 31, sf 32, sf 33, sf 34, sf 35, sf 36, sf 37, sf 38, sf 39, sf 40, sf 41, sf 42, sf 43, sf 44, sf 45, sf 46, sf 47, sf 48, sf 49, sf 50, sf 51, sf 52, sf 53, sf 54, sf 55, sf 56, sf 57, sf 58, sf 59, sf 60, sf 61, sf 62, sf 63, sf 64, sf 65, sf 66, sf 67, sf 68, sf 69, sf 70, sf 71, sf 72, sf 73, sf 74, sf 75, sf 76, sf 77, sf 78, sf 79, sf 80, sf 81, sf 82, sf 83, sf 84, sf 85, sf 86, sf 87, sf 88, sf 89, sf 90, sf 91, sf 92, undef, undef, undef, undef, undef, undef, undef, undef, undef, undef, undef, undef, undef, undef, undef, undef, undef, undef, undef, undef, undef, undef, undef, undef, undef, undef, undef, undef, undef, undef, undef, undef, undef, undef, undef, undef, undef, undef, undef, undef, undef, undef, undef, undef, undef, undef, undef, undef, undef, undef, undef, undef, undef, undef, undef, undef, undef, undef, undef, undef, undef, undef, undef, undef, undef, undef, undef, undef, undef, undef, undef, undef, undef, undef, undef, undef, undef, undef, undef, undef, undef, undef, undef, undef, undef, undef, undef, undef, undef, undef, undef, undef, undef, undef, undef, undef, undef, undef, undef, undef, undef, undef, undef, undef, undef, undef, undef, undef, undef, undef, undef, undef, undef, undef, undef, undef, undef, undef, undef, undef, undef, undef, undef, undef, undef, undef, undef, undef, undef], []⟩ _) → _ from fun h => h ((fun l : List Value => fun i => l.getD i undef) [_, _, _, _, undef, undef, undef, undef, undef, undef, undef, undef, undef, _, _, undef, undef, undef, undef, undef, undef, undef, undef, undef, undef, undef, _, _, _, _, _, _, _, _, _, _, _, _, _, _, _, _, _, _, _, _, _, _, _, _, _, _, _, _, _, _, _, _, _, _, _, _, _, _, _, _, _, _, _, _, _, _, _, _, _, _, _, _, _, _, _, _, _, _, _, _, _, _, _, _, _, _, _])) ?_
      intro sf
      dsimp only
      refine wp_region_facts 5 [(1, 0), (3, 2), (4, 1), (4, 3)] (fun x => ⟨#[sf 0, sf 1, sf 2, sf 3, .pointer (some ⟨(w.heap.size + 1), 0, none⟩), .pointer (some ⟨(w.heap.size + 1 + 1), 0, none⟩), .bool false, .pointer (some ⟨v9, 0, none⟩), .pointer (some ⟨v10, 0, none⟩), .pointer (some ⟨v11, 0, none⟩), .pointer (some ⟨D, 0, none⟩), .pointer (some ⟨B, 0, none⟩), .func (.func 47) #[] #[.pointer (some ⟨(w.heap.size + 1), 0, none⟩), .pointer (some ⟨v11, 0, none⟩)], sf 13, sf 14, undef, undef, undef, undef, undef, undef, undef, undef, undef, undef, undef, sf 26, sf 27, sf 28, sf 29, sf 30, sf 31, sf 32, sf 33, sf 34, sf 35, sf 36, sf 37, sf 38, sf 39, sf 40, sf 41, sf 42, sf 43, sf 44, sf 45, sf 46, sf 47, sf 48, sf 49, sf 50, sf 51, sf 52, sf 53, sf 54, sf 55, sf 56, sf 57, sf 58, sf 59, sf 60, sf 61, sf 62, sf 63, sf 64, sf 65, sf 66, sf 67, sf 68, sf 69, sf 70, sf 71, sf 72, sf 73, sf 74, sf 75, sf 76, sf 77, sf 78, sf 79, sf 80, sf 81, sf 82, sf 83, sf 84, sf 85, sf 86, sf 87, sf 88, sf 89, sf 90, sf 91, sf 92, x 0, x 1, x 2, x 3, x 4, undef, undef, undef, undef, undef, undef, undef, undef, undef, undef, undef, undef, undef, undef, undef, undef, undef, undef, undef, undef, undef, undef, undef, undef, undef, undef, undef, undef, undef, undef, undef, undef, undef, undef, undef, undef, undef, undef, undef, undef, undef, undef, undef, undef, undef, undef, undef, undef, undef, undef, undef, undef, undef, undef, undef, undef, undef, undef, undef, undef, undef, undef, undef, undef, undef, undef, undef, undef, undef, undef, undef, undef, undef, undef, undef, undef, undef, undef, undef, undef, undef, undef, undef, undef, undef, undef, undef, undef, undef, undef, undef, undef, undef, undef, undef, undef, undef, undef, undef, undef, undef, undef, undef, undef, undef, undef, undef, undef, undef, undef, undef, undef, undef, undef, undef, undef, undef, undef, undef, undef, undef, undef, undef, undef], []⟩) (fun _ => undef) [fun _ x => x = .pointer (some ⟨B, 2, none⟩), fun _ x => x = .int .i64 hei, fun _ x => x = .func (.func 47) #[] #[.pointer (some ⟨(w.heap.size + 1), 0, none⟩), .pointer (some ⟨v11, 0, none⟩)], fun _ x => x = .int .i64 d8, fun _ x => x = .int .i64 H] (by rfl) (by kernel_rfl) (by kernel_rfl) (by kernel_rfl) (stays_cons (Stays.eq _) (stays_cons (Stays.eq _) (stays_cons (Stays.eq _) (stays_cons (Stays.eq _) (stays_cons (Stays.eq _) stays_nil))))) ?step15 ?fin15
      case step15 => as_aux_lemma =>
       rintro i hi x v gv hd K hK
       have hi8 : i = 0 ∨ i = 1 ∨ i = 2 ∨ i = 3 ∨ i = 4 := by omega
       rcases hi8 with rfl | rfl | rfl | rfl | rfl
       ·try dsimp only [upd, Nat.reduceBEq, cond_true, cond_false]
        refine wpOp_step rfl (fun K' hK' => ?_)
        go_simp
        exact hK' _ _ (hK _ _ (Below.refl _ _) (at_of rfl (rfl)))
       ·obtain ⟨x, rfl⟩ := upd_of (show x 0 = .pointer (some ⟨B, 2, none⟩) from hd 0 _ (by simp) rfl)
        try dsimp only [upd, Nat.reduceBEq, cond_true, cond_false]
        refine wpOp_step rfl (fun K' hK' => ?_)
        have q := (oVb.keep gv).2 2 _ rfl
        go_simp
        exact hK' _ _ (hK _ _ (Below.refl _ _) (at_of rfl (rfl)))
       ·try dsimp only [upd, Nat.reduceBEq, cond_true, cond_false]
        refine wpOp_step rfl (fun K' hK' => ?_)
        go_simp
        exact hK' _ _ (hK _ _ (Below.refl _ _) (at_of rfl (rfl)))
       ·obtain ⟨x, rfl⟩ := upd_of (show x 2 = .func (.func 47) #[] #[.pointer (some ⟨(w.heap.size + 1), 0, none⟩), .pointer (some ⟨v11, 0, none⟩)] from hd 2 _ (by simp) rfl)
        try dsimp only [upd, Nat.reduceBEq, cond_true, cond_false]
        refine wpOp_step rfl (fun K' hK' => ?_)
        go_simp
        refine ((BY.out _ _ v (h4z.keep gv) (oOz.keep gv)).2.2.2.2.2.2.2.2).mono ?_
        rintro e v' ⟨rfl, hg⟩
        exact hK' _ _ (hK _ _ hg (at_of rfl (rfl)))
       ·obtain ⟨x, rfl⟩ := upd_of (show x 1 = .int .i64 hei from hd 1 _ (by simp) rfl)
        obtain ⟨x, rfl⟩ := upd_of (show x 3 = .int .i64 d8 from hd 3 _ (by simp) rfl)
        try dsimp only [upd, Nat.reduceBEq, cond_true, cond_false]
        refine wpOp_step rfl (fun K' hK' => ?_)
        go_simp
        exact hK' _ _ (hK _ _ (Below.refl _ _) (at_of rfl (rfl)))
      case fin15 =>
       rintro x v gv hd
       obtain ⟨x, rfl⟩ := upd_of (show x 4 = .int .i64 H from hd 4 _ (by omega) rfl)
       clear hd
       show wpList Try.prog _ _ (List.drop 5 _) (⟨#[_, _, _, _, _, _, _, _, _, _, _, _, _, _, _, _, _, _, _, _, _, _, _, _, _, _, _, _, _, _, _, _, _, _, _, _, _, _, _, _, _, _, _, _, _, _, _, _, _, _, _, _, _, _, _, _, _, _, _, _, _, _, _, _, _, _, _, _, _, _, _, _, _, _, _, _, _, _, _, _, _, _, _, _, _, _, _, _, _, _, _, _, _, x 0, x 1, x 2, x 3, .int .i64 H, _, _, _, _, _, _, _, _, _, _, _, _, _, _, _, _, _, _, _, _, _, _, _, _, _, _, _, _, _, _, _, _, _, _, _, _, _, _, _, _, _, _, _, _, _, _, _, _, _, _, _, _, _, _, _, _, _, _, _, _, _, _, _, _, _, _, _, _, _, _, _, _, _, _, _, _, _, _, _, _, _, _, _, _, _, _, _, _, _, _, _, _, _, _, _, _, _, _, _, _, _, _, _, _, _, _, _, _, _, _, _, _, _, _, _, _, _, _, _, _, _, _, _, _], []⟩ : Act) v
       simp only [List.drop_succ_cons, List.drop_zero]
       have e_ := (SW.keep gv).2.1.1.2 2 _ rfl
       have z_ := (SW.keep gv).2.1.2 2
       go_upto_region 16 with fail
       refine wp_abs (fun Z => SeenW Y B w3 lc3 w7 lc7 w11 lc11 o P0 P1 P2 P3 T0 T1 B0 B1 H Z) ((SW.keep gv).set_h SD H) ?_
       clear SW gv oVb e_ z_ wk h4z oOz
       rintro wb SW
       have gR := SW.1
       replace gU := gU.tr gR
       replace oL := oL.keep gR
       replace oA := oA.keep gR
       replace oO := oO.keep gR
       replace r2 := r2.grow gR
       replace r3 := r3.grow gR
       replace r4 := r4.grow gR
       replace h4 := h4.keep gR
       replace h5 := h5.keep gR
       replace oW := oW.keep gR
       clear gR h4 BY HP HD
       obtain ⟨k3, k7, k11⟩ := SW.rows
       have oV := SW.2.1.1
       clear SW SD
       obtain ⟨hcp, hcp0, hcp1⟩ := HC.out
       obtain ⟨hk0, hk1, hk2⟩ := HK.out
       obtain ⟨q1, hq1⟩ : ∃ z, ch - cl = z := ⟨_, rfl⟩
       have q1a : 0 ≤ q1 ∧ q1 ≤ 5610 := by omega
       obtain ⟨q2, hq2⟩ : ∃ z, y1 * q1 = z := ⟨_, rfl⟩
       have q2a : 0 ≤ q2 ∧ q2 ≤ 255 * 5610 := by
        rw [← hq2]
        exact ⟨Int.mul_nonneg hy10 q1a.1, Int.mul_le_mul hy11 q1a.2 q1a.1 (by decide)⟩
       obtain ⟨q3, hq3⟩ : ∃ z, q2 / 255 = z := ⟨_, rfl⟩
       rw [hq1, hq2, hq3] at hcp
       have u0 : IntKind.i64.wrap y1 = y1 := IntWalk.i64_in _ (by omega)
       have u1 : IntKind.i64.wrap (ch - cl) = q1 := by rw [IntWalk.i64_in _ (by omega)]; exact hq1
       have u2 : IntKind.i64.wrap (y1 * q1) = q2 := by rw [hq2]; exact IntWalk.i64_in _ (by omega)
       have u3 : q2.tdiv 255 = q3 := by rw [Int.tdiv_eq_ediv_of_nonneg q2a.1]; exact hq3
       have u4 : IntKind.i64.wrap q3 = q3 := IntWalk.i64_in _ (by omega)
       have u5 : IntKind.i64.wrap (cl + q3) = cp := by rw [IntWalk.i64_in _ (by omega)]; exact hcp
       have hv := h5.2 1 _ rfl
       obtain ⟨c0, c1⟩ := oA.c2
       clear hcp hcp0 hcp1 hk0 hk1 hk2 hq1 q1a hq2 q2a hq3
       go_upto_region 17 with fail
       clear u0 u1 u2 u3 u4 u5 hv c0 c1 h5 hy10 hy11
       refine wp_abs (fun Q => Gr wb Q) (Below.refl _ _) ?_
       rintro wc gQ
       replace gU := gU.tr gQ
       replace oL := oL.keep gQ
       replace oA := oA.keep gQ
       replace oO := oO.keep gQ
       replace r2 := r2.grow gQ
       replace r3 := r3.grow gQ
       replace r4 := r4.grow gQ
       replace oW := oW.keep gQ
       replace oV := oV.keep gQ
       replace k3 := k3.grow gQ
       replace k7 := k7.grow gQ
       replace k11 := k11.grow gQ
       clear gQ
       refine (show (∀ sg : Nat → Value, Code.wp Try.prog _ _ ⟨#[sg 0, sg 1, sg 2, sg 3, sg 4, sg 5, .bool false, .pointer (some ⟨v9, 0, none⟩), .pointer (some ⟨v10, 0, none⟩), .pointer (some ⟨v11, 0, none⟩), .pointer (some ⟨D, 0, none⟩), .pointer (some ⟨B, 0, none⟩), sg 12, sg 13, sg 14, .int .i64 cp, undef, undef, undef, undef, undef, undef, undef, undef, undef, undef, sg 26, sg 27, sg 28, sg 29, sg 30, sg 31, sg 32, sg 33, sg 34, sg 35, sg 36, sg 37, sg 38, sg 39, sg 40, sg 41, sg 42, sg 43, sg 44, sg 45, sg 46, sg 47, sg 48, sg 49, sg 50, sg 51, sg 52, sg 53, sg 54, sg 55, sg 56, sg 57, sg 58, sg 59, sg 60, sg 61, sg 62, sg 63, sg 64, sg 65, sg 66, sg 67, sg 68, sg 69, sg 70, sg 71, sg 72, sg 73, sg 74, sg 75, sg 76, sg 77, sg 78, sg 79, sg 80, sg 81, sg 82, sg 83, sg 84, sg 85, sg 86, sg 87, sg 88, sg 89, sg 90, sg 91, sg 92, sg 93, sg 94, sg 95, sg 96, sg 97, sg 98, sg 99, sg 100, sg 101, sg 102, sg 103, sg 104, sg 105, sg 106, sg 107, sg 108, sg 109, sg 110, sg 111, undef, undef, undef, undef, undef, undef, undef, undef, undef, undef, undef, undef, undef, undef, undef, undef, undef, undef, undef, undef, undef, undef, undef, undef, undef, undef, undef, undef, undef, undef, undef, undef, undef, undef, undef, undef, undef, undef, undef, undef, undef, undef, undef, undef, undef, undef, undef, undef, undef, undef, undef, undef, undef, undef, undef, undef, undef, undef, undef, undef, undef, undef, undef, undef, undef, undef, undef, undef, undef, undef, undef, undef, undef, undef, undef, undef, undef, undef, undef, undef, undef, undef, undef, undef, undef, undef, undef, undef, undef, undef, undef, undef, undef, undef, undef, undef, undef, undef, undef, undef, undef, undef, undef, undef, undef, undef, undef, undef, undef, undef], []⟩ _) → _ from fun h => h ((fun l : List Value => fun i => l.getD i undef) [_, _, _, _, _, _, undef, undef, undef, undef, undef, undef, _, _, _, undef, undef, undef, undef, undef, undef, undef, undef, undef, undef, undef, _, _, _, _, _, _, _, _, _, _, _, _, _, _, _, _, _, _, _, _, _, _, _, _, _, _, _, _, _, _, _, _, _, _, _, _, _, _, _, _, _, _, _, _, _, _, _, _, _, _, _, _, _, _, _, _, _, _, _, _, _, _, _, _, _, _, _, _, _, _, _, _, _, _, _, _, _, _, _, _, _, _, _, _, _, _])) ?_
       intro sg
       dsimp only
       refine wp_region_facts 9 [(1, 0), (4, 1), (4, 2), (4, 3), (5, 4), (6, 5), (7, 5), (8, 6)] (fun x => ⟨#[sg 0, sg 1, sg 2, sg 3, sg 4, sg 5, .bool false, .pointer (some ⟨v9, 0, none⟩), .pointer (some ⟨v10, 0, none⟩), .pointer (some ⟨v11, 0, none⟩), .pointer (some ⟨D, 0, none⟩), .pointer (some ⟨B, 0, none⟩), sg 12, sg 13, sg 14, .int .i64 cp, x 8, undef, undef, undef, undef, undef, undef, undef, undef, undef, sg 26, sg 27, sg 28, sg 29, sg 30, sg 31, sg 32, sg 33, sg 34, sg 35, sg 36, sg 37, sg 38, sg 39, sg 40, sg 41, sg 42, sg 43, sg 44, sg 45, sg 46, sg 47, sg 48, sg 49, sg 50, sg 51, sg 52, sg 53, sg 54, sg 55, sg 56, sg 57, sg 58, sg 59, sg 60, sg 61, sg 62, sg 63, sg 64, sg 65, sg 66, sg 67, sg 68, sg 69, sg 70, sg 71, sg 72, sg 73, sg 74, sg 75, sg 76, sg 77, sg 78, sg 79, sg 80, sg 81, sg 82, sg 83, sg 84, sg 85, sg 86, sg 87, sg 88, sg 89, sg 90, sg 91, sg 92, sg 93, sg 94, sg 95, sg 96, sg 97, sg 98, sg 99, sg 100, sg 101, sg 102, sg 103, sg 104, sg 105, sg 106, sg 107, sg 108, sg 109, sg 110, sg 111, x 5, x 0, x 1, x 2, x 3, x 4, x 6, x 7, undef, undef, undef, undef, undef, undef, undef, undef, undef, undef, undef, undef, undef, undef, undef, undef, undef, undef, undef, undef, undef, undef, undef, undef, undef, undef, undef, undef, undef, undef, undef, undef, undef, undef, undef, undef, undef, undef, undef, undef, undef, undef, undef, undef, undef, undef, undef, undef, undef, undef, undef, undef, undef, undef, undef, undef, undef, undef, undef, undef, undef, undef, undef, undef, undef, undef, undef, undef, undef, undef, undef, undef, undef, undef, undef, undef, undef, undef, undef, undef, undef, undef, undef, undef, undef, undef, undef, undef, undef, undef, undef, undef, undef, undef, undef, undef, undef, undef, undef, undef, undef, undef], []⟩) (fun _ => undef) [fun _ x => x = .agg #[.int .i64 30, .slice (some ⟨w3, 0, none⟩) 4 lc3, .int .i64 H, .slice (some ⟨w7, 0, none⟩) 2 lc7, .slice (some ⟨w11, 0, none⟩) 2 lc11, .int .i64 9, .bool o], fun v x => ∃ naa3 nac3 naa7 nac7 naa11 nac11, x = .agg #[.int .i64 30, .slice naa3 4 nac3, .int .i64 H, .slice naa7 2 nac7, .slice naa11 2 nac11, .int .i64 9, .bool o] ∧ (IRow v naa3 [P0, P1, P2, P3] ∧ IRow v naa7 [T0, T1] ∧ IRow v naa11 [B0, B1]), fun _ x => x = .agg #[.int .i64 cl, .int .i64 ch], fun _ x => x = .int .i64 off, fun v x => ∃ ib4 if4 ic4, x = .tuple #[.slice (some ⟨ib4, if4, none⟩) 9 ic4, .int .i64 0] ∧ SRow v (some ⟨ib4, if4, none⟩) ((List.range 9).map L), fun v x => ∃ ib5 if5 ic5, x = .tuple #[.slice (some ⟨ib5, if5, none⟩) 9 ic5, .int .i64 0] ∧ SRow v (some ⟨ib5, if5, none⟩) ((List.range 9).map L), fun v x => ∃ ib6 if6 ic6, x = .slice (some ⟨ib6, if6, none⟩) 9 ic6 ∧ SRow v (some ⟨ib6, if6, none⟩) ((List.range 9).map L), fun _ x => x = .int .i64 0, fun v x => ∃ ib8 if8 ic8, x = .slice (some ⟨ib8, if8, none⟩) 9 ic8 ∧ SRow v (some ⟨ib8, if8, none⟩) ((List.range 9).map L)] (by rfl) (by kernel_rfl) (by kernel_rfl) (by kernel_rfl) (stays_cons (Stays.eq _) (stays_cons ((show Stays (fun v x => ∃ naa3 nac3 naa7 nac7 naa11 nac11, x = .agg #[.int .i64 30, .slice naa3 4 nac3, .int .i64 H, .slice naa7 2 nac7, .slice naa11 2 nac11, .int .i64 9, .bool o] ∧ (IRow v naa3 [P0, P1, P2, P3] ∧ IRow v naa7 [T0, T1] ∧ IRow v naa11 [B0, B1])) from fun v v' x g ⟨a, b, c, d, e, f, h, r1, r2, r3⟩ => ⟨a, b, c, d, e, f, h, r1.grow g, r2.grow g, r3.grow g⟩)) (stays_cons (Stays.eq _) (stays_cons (Stays.eq _) (stays_cons ((show Stays (fun v x => ∃ ib4 if4 ic4, x = .tuple #[.slice (some ⟨ib4, if4, none⟩) 9 ic4, .int .i64 0] ∧ SRow v (some ⟨ib4, if4, none⟩) ((List.range 9).map L)) from fun v v' x g ⟨a, b, c, h, r⟩ => ⟨a, b, c, h, r.grow g⟩)) (stays_cons ((show Stays (fun v x => ∃ ib5 if5 ic5, x = .tuple #[.slice (some ⟨ib5, if5, none⟩) 9 ic5, .int .i64 0] ∧ SRow v (some ⟨ib5, if5, none⟩) ((List.range 9).map L)) from fun v v' x g ⟨a, b, c, h, r⟩ => ⟨a, b, c, h, r.grow g⟩)) (stays_cons ((show Stays (fun v x => ∃ ib6 if6 ic6, x = .slice (some ⟨ib6, if6, none⟩) 9 ic6 ∧ SRow v (some ⟨ib6, if6, none⟩) ((List.range 9).map L)) from fun v v' x g ⟨a, b, c, h, r⟩ => ⟨a, b, c, h, r.grow g⟩)) (stays_cons (Stays.eq _) (stays_cons ((show Stays (fun v x => ∃ ib8 if8 ic8, x = .slice (some ⟨ib8, if8, none⟩) 9 ic8 ∧ SRow v (some ⟨ib8, if8, none⟩) ((List.range 9).map L)) from fun v v' x g ⟨a, b, c, h, r⟩ => ⟨a, b, c, h, r.grow g⟩)) stays_nil))))))))) ?step17 ?fin17
       case step17 => as_aux_lemma =>
        rintro i hi x v gv hd K hK
        have hi8 : i = 0 ∨ i = 1 ∨ i = 2 ∨ i = 3 ∨ i = 4 ∨ i = 5 ∨ i = 6 ∨ i = 7 ∨ i = 8 := by omega
        rcases hi8 with rfl | rfl | rfl | rfl | rfl | rfl | rfl | rfl | rfl
        ·try dsimp only [upd, Nat.reduceBEq, cond_true, cond_false]
         refine wpOp_step rfl (fun K' hK' => ?_)
         rw [if_pos (by rfl)]
         refine wp_load_mid 24 _ rfl B 0 (by rfl) [.int .i64 30, .slice (some ⟨w3, 0, none⟩) 4 lc3, .int .i64 H, .slice (some ⟨w7, 0, none⟩) 2 lc7, .slice (some ⟨w11, 0, none⟩) 2 lc11, .int .i64 9, .bool o] _ (fun j u hu => by rw [Nat.zero_add]; exact (oV.keep gv).2 j u hu) Try.underlying24 rfl (by kernel_rfl) ?_
         exact hK' _ _ (hK _ _ (Below.refl _ _) (at_of rfl (rfl)))
        ·obtain ⟨x, rfl⟩ := upd_of (show x 0 = .agg #[.int .i64 30, .slice (some ⟨w3, 0, none⟩) 4 lc3, .int .i64 H, .slice (some ⟨w7, 0, none⟩) 2 lc7, .slice (some ⟨w11, 0, none⟩) 2 lc11, .int .i64 9, .bool o] from hd 0 _ (by simp) rfl)
         try dsimp only [upd, Nat.reduceBEq, cond_true, cond_false]
         refine wpOp_step rfl (fun K' hK' => ?_)
         go_simp
         refine (own4_any P0 P1 P2 P3 T0 T1 B0 B1 H o _ _ _ _ _ _ v (k3.grow gv) (k7.grow gv) (k11.grow gv)).mono ?_
         rintro e v' ⟨w3, b3, w7, b7, w11, b11, rfl, hg, r1, r2, r3⟩
         exact hK' _ _ (hK _ _ hg (at_of rfl (⟨_, _, _, _, _, _, rfl, r1, r2, r3⟩)))
        ·try dsimp only [upd, Nat.reduceBEq, cond_true, cond_false]
         refine wpOp_step rfl (fun K' hK' => ?_)
         rw [if_pos (by rfl)]
         refine wp_load_mid 37 _ rfl v10 0 (by rfl) [.int .i64 cl, .int .i64 ch] _ (fun j u hu => by rw [Nat.zero_add]; exact (oA.keep gv).2 j u hu) Try.underlying37 rfl (by kernel_rfl) ?_
         exact hK' _ _ (hK _ _ (Below.refl _ _) (at_of rfl (rfl)))
        ·try dsimp only [upd, Nat.reduceBEq, cond_true, cond_false]
         refine wpOp_step rfl (fun K' hK' => ?_)
         have q := (oO.keep gv).2 0 _ rfl
         go_simp
         exact hK' _ _ (hK _ _ (Below.refl _ _) (at_of rfl (rfl)))
        ·obtain ⟨naa3, nac3, naa7, nac7, naa11, nac11, e1, ro1⟩ := hd 1 _ (by simp) rfl
         obtain ⟨x, rfl⟩ := upd_of (show x 1 = .agg #[.int .i64 30, .slice naa3 4 nac3, .int .i64 H, .slice naa7 2 nac7, .slice naa11 2 nac11, .int .i64 9, .bool o] from e1)
         obtain ⟨x, rfl⟩ := upd_of (show x 2 = .agg #[.int .i64 cl, .int .i64 ch] from hd 2 _ (by simp) rfl)
         obtain ⟨x, rfl⟩ := upd_of (show x 3 = .int .i64 off from hd 3 _ (by simp) rfl)
         try dsimp only [upd, Nat.reduceBEq, cond_true, cond_false]
         refine wpOp_step rfl (fun K' hK' => ?_)
         go_simp
         refine (IN.out _ _ _ _ _ _ v ro1.1 ro1.2.1 ro1.2.2).mono ?_
         rintro e v' ⟨b9, f9, c9, rfl, hg, r⟩
         exact hK' _ _ (hK _ _ hg (at_of rfl (⟨_, _, _, rfl, r⟩)))
        ·obtain ⟨ib4, if4, ic4, e4, rs4⟩ := hd 4 _ (by simp) rfl
         obtain ⟨x, rfl⟩ := upd_of (show x 4 = .tuple #[.slice (some ⟨ib4, if4, none⟩) 9 ic4, .int .i64 0] from e4)
         try dsimp only [upd, Nat.reduceBEq, cond_true, cond_false]
         refine wpOp_step rfl (fun K' hK' => ?_)
         go_simp
         exact hK' _ _ (hK _ _ (Below.refl _ _) (at_of rfl (⟨_, _, _, rfl, rs4⟩)))
        ·obtain ⟨ib5, if5, ic5, e5, rs5⟩ := hd 5 _ (by simp) rfl
         obtain ⟨x, rfl⟩ := upd_of (show x 5 = .tuple #[.slice (some ⟨ib5, if5, none⟩) 9 ic5, .int .i64 0] from e5)
         try dsimp only [upd, Nat.reduceBEq, cond_true, cond_false]
         refine wpOp_step rfl (fun K' hK' => ?_)
         go_simp
         exact hK' _ _ (hK _ _ (Below.refl _ _) (at_of rfl (⟨_, _, _, rfl, rs5⟩)))
        ·obtain ⟨ib5, if5, ic5, e5, rs5⟩ := hd 5 _ (by simp) rfl
         obtain ⟨x, rfl⟩ := upd_of (show x 5 = .tuple #[.slice (some ⟨ib5, if5, none⟩) 9 ic5, .int .i64 0] from e5)
         try dsimp only [upd, Nat.reduceBEq, cond_true, cond_false]
         refine wpOp_step rfl (fun K' hK' => ?_)
         go_simp
         exact hK' _ _ (hK _ _ (Below.refl _ _) (at_of rfl (rfl)))
        ·obtain ⟨ib6, if6, ic6, e6, rs6⟩ := hd 6 _ (by simp) rfl
         obtain ⟨x, rfl⟩ := upd_of (show x 6 = .slice (some ⟨ib6, if6, none⟩) 9 ic6 from e6)
         try dsimp only [upd, Nat.reduceBEq, cond_true, cond_false]
         refine wpOp_step rfl (fun K' hK' => ?_)
         go_simp
         exact hK' _ _ (hK _ _ (Below.refl _ _) (at_of rfl (⟨_, _, _, rfl, rs6⟩)))
       case fin17 =>
        rintro x v gv hd
        obtain ⟨x, rfl⟩ := upd_of (show x 7 = .int .i64 0 from hd 7 _ (by omega) rfl)
        obtain ⟨ib8, if8, ic8, e8, rs8⟩ := hd 8 _ (by omega) rfl
        obtain ⟨x, rfl⟩ := upd_of (show x 8 = .slice (some ⟨ib8, if8, none⟩) 9 ic8 from e8)
        clear hd
        show wpList Try.prog _ _ (List.drop 9 _) (⟨#[_, _, _, _, _, _, _, _, _, _, _, _, _, _, _, _, .slice (some ⟨ib8, if8, none⟩) 9 ic8, _, _, _, _, _, _, _, _, _, _, _, _, _, _, _, _, _, _, _, _, _, _, _, _, _, _, _, _, _, _, _, _, _, _, _, _, _, _, _, _, _, _, _, _, _, _, _, _, _, _, _, _, _, _, _, _, _, _, _, _, _, _, _, _, _, _, _, _, _, _, _, _, _, _, _, _, _, _, _, _, _, _, _, _, _, _, _, _, _, _, _, _, _, _, _, x 5, x 0, x 1, x 2, x 3, x 4, x 6, .int .i64 0, _, _, _, _, _, _, _, _, _, _, _, _, _, _, _, _, _, _, _, _, _, _, _, _, _, _, _, _, _, _, _, _, _, _, _, _, _, _, _, _, _, _, _, _, _, _, _, _, _, _, _, _, _, _, _, _, _, _, _, _, _, _, _, _, _, _, _, _, _, _, _, _, _, _, _, _, _, _, _, _, _, _, _, _, _, _, _, _, _, _, _, _, _, _, _, _, _, _, _, _, _, _], []⟩ : Act) v
        simp only [List.drop_succ_cons, List.drop_zero]
        replace gU := gU.tr gv
        replace oL := oL.keep gv
        replace oA := oA.keep gv
        replace oO := oO.keep gv
        replace r2 := r2.grow gv
        replace r3 := r3.grow gv
        replace r4 := r4.grow gv
        replace oW := oW.keep gv
        replace oV := oV.keep gv
        replace k3 := k3.grow gv
        replace k7 := k7.grow gv
        replace k11 := k11.grow gv
        have rI := rs8
        clear gv e8 rs8 IN
        obtain ⟨b0, b1, b2, b3, b4, b5, b6⟩ := oL.c7
        go_upto_region 21 with (go_at_call 44; refine (MI.out _ _ _ _ _ _ _ r2 r3 r4).mono ?_; rintro e wm ⟨rfl, gM⟩)
        clear b0 b1 b2 b3 b4 b5 b6 MI
        obtain ⟨E, hE⟩ : ∃ E, E = wm.heap.size := ⟨_, rfl⟩
        have oM := Box.new wm [.int .i64 (micN a0 a1 a0 a1 t0 t1 s0 s1 hei o cp 0), .int .i64 (micN a0 a1 a0 a1 t0 t1 s0 s1 hei o cp 1), .int .i64 (micN a0 a1 a0 a1 t0 t1 s0 s1 hei o cp 2), .int .i64 (micN a0 a1 a0 a1 t0 t1 s0 s1 hei o cp 3), .int .i64 (micN a0 a1 a0 a1 t0 t1 s0 s1 hei o cp 4), .int .i64 (micN a0 a1 a0 a1 t0 t1 s0 s1 hei o cp 5), .int .i64 (micN a0 a1 a0 a1 t0 t1 s0 s1 hei o cp 6), .int .i64 (micN a0 a1 a0 a1 t0 t1 s0 s1 hei o cp 7), .int .i64 (micN a0 a1 a0 a1 t0 t1 s0 s1 hei o cp 8)] 78 E hE
        rw [← hE]
        refine wp_abs (fun X => Gr v X ∧ Box X E [.int .i64 (micN a0 a1 a0 a1 t0 t1 s0 s1 hei o cp 0), .int .i64 (micN a0 a1 a0 a1 t0 t1 s0 s1 hei o cp 1), .int .i64 (micN a0 a1 a0 a1 t0 t1 s0 s1 hei o cp 2), .int .i64 (micN a0 a1 a0 a1 t0 t1 s0 s1 hei o cp 3), .int .i64 (micN a0 a1 a0 a1 t0 t1 s0 s1 hei o cp 4), .int .i64 (micN a0 a1 a0 a1 t0 t1 s0 s1 hei o cp 5), .int .i64 (micN a0 a1 a0 a1 t0 t1 s0 s1 hei o cp 6), .int .i64 (micN a0 a1 a0 a1 t0 t1 s0 s1 hei o cp 7), .int .i64 (micN a0 a1 a0 a1 t0 t1 s0 s1 hei o cp 8)]) ⟨gM.tr (Gr.al _ _), oM⟩ ?_
        clear gM oM hE
        rintro wd ⟨gQ, oM⟩
        replace gU := gU.tr gQ
        replace oL := oL.keep gQ
        replace oA := oA.keep gQ
        replace oO := oO.keep gQ
        replace r2 := r2.grow gQ
        replace r3 := r3.grow gQ
        replace r4 := r4.grow gQ
        replace oW := oW.keep gQ
        replace oV := oV.keep gQ
        replace k3 := k3.grow gQ
        replace k7 := k7.grow gQ
        replace k11 := k11.grow gQ
        replace rI := rI.grow gQ
        clear gQ
        go_wp2
        refine (show (∀ sh : Nat → Value, Code.wp Try.prog _ _ ⟨#[sh 0, sh 1, sh 2, sh 3, sh 4, sh 5, .bool false, .pointer (some ⟨v9, 0, none⟩), .pointer (some ⟨v10, 0, none⟩), .pointer (some ⟨v11, 0, none⟩), .pointer (some ⟨D, 0, none⟩), .pointer (some ⟨B, 0, none⟩), sh 12, sh 13, sh 14, .int .i64 cp, .slice (some ⟨ib8, if8, none⟩) 9 ic8, sh 17, .pointer (some ⟨E, 0, none⟩), .int .i64 0, undef, undef, undef, undef, undef, undef, sh 26, sh 27, sh 28, sh 29, sh 30, sh 31, sh 32, sh 33, sh 34, sh 35, sh 36, sh 37, sh 38, sh 39, sh 40, sh 41, sh 42, sh 43, sh 44, sh 45, sh 46, sh 47, sh 48, sh 49, sh 50, sh 51, sh 52, sh 53, sh 54, sh 55, sh 56, sh 57, sh 58, sh 59, sh 60, sh 61, sh 62, sh 63, sh 64, sh 65, sh 66, sh 67, sh 68, sh 69, sh 70, sh 71, sh 72, sh 73, sh 74, sh 75, sh 76, sh 77, sh 78, sh 79, sh 80, sh 81, sh 82, sh 83, sh 84, sh 85, sh 86, sh 87, sh 88, sh 89, sh 90, sh 91, sh 92, sh 93, sh 94, sh 95, sh 96, sh 97, sh 98, sh 99, sh 100, sh 101, sh 102, sh 103, sh 104, sh 105, sh 106, sh 107, sh 108, sh 109, sh 110, sh 111, sh 112, sh 113, sh 114, sh 115, sh 116, sh 117, sh 118, sh 119, sh 120, sh 121, sh 122, sh 123, sh 124, sh 125, sh 126, sh 127, sh 128, sh 129, undef, undef, undef, undef, undef, undef, undef, undef, undef, undef, undef, undef, undef, undef, undef, undef, undef, undef, undef, undef, undef, undef, undef, undef, undef, undef, undef, undef, undef, undef, undef, undef, undef, undef, undef, undef, undef, undef, undef, undef, undef, undef, undef, undef, undef, undef, undef, undef, undef, undef, undef, undef, undef, undef, undef, undef, undef, undef, undef, undef, undef, undef, undef, undef, undef, undef, undef, undef, undef, undef, undef, undef, undef, undef, undef, undef, undef, undef, undef, undef, undef, undef, undef, undef, undef, undef, undef, undef, undef, undef, undef, undef], []⟩ _) → _ from fun h => h ((fun l : List Value => fun i => l.getD i undef) [_, _, _, _, _, _, undef, undef, undef, undef, undef, undef, _, _, _, undef, undef, _, undef, undef, undef, undef, undef, undef, undef, undef, _, _, _, _, _, _, _, _, _, _, _, _, _, _, _, _, _, _, _, _, _, _, _, _, _, _, _, _, _, _, _, _, _, _, _, _, _, _, _, _, _, _, _, _, _, _, _, _, _, _, _, _, _, _, _, _, _, _, _, _, _, _, _, _, _, _, _, _, _, _, _, _, _, _, _, _, _, _, _, _, _, _, _, _, _, _, _, _, _, _, _, _, _, _, _, _, _, _, _, _, _, _, _, _])) ?_
        intro sh
        dsimp only
        go_loopw [19] (fun x wr => Hid (∃ i : Nat, i ≤ 9 ∧ x = .int .i64 i ∧ Gr wd wr)) (fun x wr => 9 - (intOf x).toNat)
        case atStart => exact Lib.hid ⟨0, by omega, rfl, Below.refl _ _⟩
        case round =>
         obtain ⟨i, hi, rfl, gV⟩ := hrel.out
         clear hrel
         refine wp_abs (fun Z => Gr wd Z) gV ?_
         clear gV
         rintro wi gV
         by_cases hlt : i < 9
         case pos =>
          have cM := nine_cell (f := micN a0 a1 a0 a1 t0 t1 s0 s1 hei o cp) (oM.keep gV) hlt
          obtain ⟨_, _, hla, _, i0, i1⟩ := SRow.get (rI.grow gV) (show ((List.range 9).map L)[i]? = some (L i) from by rw [List.getElem?_map, List.getElem?_range hlt]; rfl)
          cases hla
          obtain ⟨zA, hA⟩ : ∃ z, (L i).lo = z := ⟨_, rfl⟩
          obtain ⟨zB, hB⟩ : ∃ z, (L i).hi = z := ⟨_, rfl⟩
          obtain ⟨zM, hM⟩ : ∃ z, micN a0 a1 a0 a1 t0 t1 s0 s1 hei o cp i = z := ⟨_, rfl⟩
          have him := IM.out i hlt
          simp only [hA, hB, hM] at cM i0 i1 him
          obtain ⟨him0, him1⟩ := him
          have n1 : ¬ zM < zA := by omega
          have n2 : ¬ zM > zB := by omega
          clear hA hB hM him0 him1
          go_upto_region 24 with fail
          go_quiet (fail)
          clear n1 n2 cM i0 i1
          go_wp2
          go_roundw
          case rel => exact Lib.hid ⟨i + 1, by omega, by go_num, (gV.drewN _)⟩
          case measure => simp [intOf]; omega
         case neg =>
          obtain rfl : i = 9 := by omega
          clear hlt hi rI oM
          replace gU := gU.tr gV
          replace oL := oL.keep gV
          replace oA := oA.keep gV
          replace oO := oO.keep gV
          replace r2 := r2.grow gV
          replace r3 := r3.grow gV
          replace r4 := r4.grow gV
          replace oW := oW.keep gV
          replace oV := oV.keep gV
          replace k3 := k3.grow gV
          replace k7 := k7.grow gV
          replace k11 := k11.grow gV
          clear gV IM
          go_upto_region 26 with fail
          refine (show (∀ si : Nat → Value, Code.wp Try.prog _ _ ⟨#[si 0, si 1, si 2, si 3, si 4, si 5, si 6, .pointer (some ⟨v9, 0, none⟩), .pointer (some ⟨v10, 0, none⟩), .pointer (some ⟨v11, 0, none⟩), .pointer (some ⟨D, 0, none⟩), .pointer (some ⟨B, 0, none⟩), si 12, si 13, si 14, .int .i64 cp, si 16, si 17, si 18, si 19, undef, undef, undef, undef, undef, undef, si 26, si 27, si 28, si 29, si 30, si 31, si 32, si 33, si 34, si 35, si 36, si 37, si 38, si 39, si 40, si 41, si 42, si 43, si 44, si 45, si 46, si 47, si 48, si 49, si 50, si 51, si 52, si 53, si 54, si 55, si 56, si 57, si 58, si 59, si 60, si 61, si 62, si 63, si 64, si 65, si 66, si 67, si 68, si 69, si 70, si 71, si 72, si 73, si 74, si 75, si 76, si 77, si 78, si 79, si 80, si 81, si 82, si 83, si 84, si 85, si 86, si 87, si 88, si 89, si 90, si 91, si 92, si 93, si 94, si 95, si 96, si 97, si 98, si 99, si 100, si 101, si 102, si 103, si 104, si 105, si 106, si 107, si 108, si 109, si 110, si 111, si 112, si 113, si 114, si 115, si 116, si 117, si 118, si 119, si 120, si 121, si 122, si 123, si 124, si 125, si 126, si 127, si 128, si 129, si 130, si 131, si 132, si 133, si 134, si 135, si 136, si 137, si 138, si 139, si 140, si 141, si 142, si 143, si 144, si 145, si 146, si 147, si 148, si 149, si 150, si 151, si 152, si 153, undef, undef, undef, undef, undef, undef, undef, undef, undef, undef, undef, undef, undef, undef, undef, undef, undef, undef, undef, undef, undef, undef, undef, undef, undef, undef, undef, undef, undef, undef, undef, undef, undef, undef, undef, undef, undef, undef, undef, undef, undef, undef, undef, undef, undef, undef, undef, undef, undef, undef, undef, undef, undef, undef, undef, undef, undef, undef, undef, undef, undef, undef, undef, undef, undef, undef, undef, undef], []⟩ _) → _ from fun h => h ((fun l : List Value => fun i => l.getD i undef) [_, _, _, _, _, _, _, undef, undef, undef, undef, undef, _, _, _, undef, _, _, _, _, undef, undef, undef, undef, undef, undef, _, _, _, _, _, _, _, _, _, _, _, _, _, _, _, _, _, _, _, _, _, _, _, _, _, _, _, _, _, _, _, _, _, _, _, _, _, _, _, _, _, _, _, _, _, _, _, _, _, _, _, _, _, _, _, _, _, _, _, _, _, _, _, _, _, _, _, _, _, _, _, _, _, _, _, _, _, _, _, _, _, _, _, _, _, _, _, _, _, _, _, _, _, _, _, _, _, _, _, _, _, _, _, _, _, _, _, _, _, _, _, _, _, _, _, _, _, _, _, _, _, _, _, _, _, _, _, _])) ?_
          intro si
          dsimp only
          refine wp_region_facts 10 [(1, 0), (5, 1), (5, 2), (5, 3), (5, 4), (6, 5), (7, 6), (8, 6), (9, 7)] (fun x => ⟨#[si 0, si 1, si 2, si 3, si 4, si 5, si 6, .pointer (some ⟨v9, 0, none⟩), .pointer (some ⟨v10, 0, none⟩), .pointer (some ⟨v11, 0, none⟩), .pointer (some ⟨D, 0, none⟩), .pointer (some ⟨B, 0, none⟩), si 12, si 13, si 14, .int .i64 cp, si 16, si 17, si 18, si 19, x 9, undef, undef, undef, undef, undef, si 26, si 27, si 28, si 29, si 30, si 31, si 32, si 33, si 34, si 35, si 36, si 37, si 38, si 39, si 40, si 41, si 42, si 43, si 44, si 45, si 46, si 47, si 48, si 49, si 50, si 51, si 52, si 53, si 54, si 55, si 56, si 57, si 58, si 59, si 60, si 61, si 62, si 63, si 64, si 65, si 66, si 67, si 68, si 69, si 70, si 71, si 72, si 73, si 74, si 75, si 76, si 77, si 78, si 79, si 80, si 81, si 82, si 83, si 84, si 85, si 86, si 87, si 88, si 89, si 90, si 91, si 92, si 93, si 94, si 95, si 96, si 97, si 98, si 99, si 100, si 101, si 102, si 103, si 104, si 105, si 106, si 107, si 108, si 109, si 110, si 111, si 112, si 113, si 114, si 115, si 116, si 117, si 118, si 119, si 120, si 121, si 122, si 123, si 124, si 125, si 126, si 127, si 128, si 129, si 130, si 131, si 132, si 133, si 134, si 135, si 136, si 137, si 138, si 139, si 140, si 141, si 142, si 143, si 144, si 145, si 146, si 147, si 148, si 149, si 150, si 151, si 152, si 153, x 6, x 0, x 1, x 2, x 3, x 4, x 5, x 7, x 8, undef, undef, undef, undef, undef, undef, undef, undef, undef, undef, undef, undef, undef, undef, undef, undef, undef, undef, undef, undef, undef, undef, undef, undef, undef, undef, undef, undef, undef, undef, undef, undef, undef, undef, undef, undef, undef, undef, undef, undef, undef, undef, undef, undef, undef, undef, undef, undef, undef, undef, undef, undef, undef, undef, undef, undef, undef, undef, undef], []⟩) (fun _ => undef) [fun _ x => x = .agg #[.int .i64 30, .slice (some ⟨w3, 0, none⟩) 4 lc3, .int .i64 H, .slice (some ⟨w7, 0, none⟩) 2 lc7, .slice (some ⟨w11, 0, none⟩) 2 lc11, .int .i64 9, .bool o], fun v x => ∃ naa3 nac3 naa7 nac7 naa11 nac11, x = .agg #[.int .i64 30, .slice naa3 4 nac3, .int .i64 H, .slice naa7 2 nac7, .slice naa11 2 nac11, .int .i64 9, .bool o] ∧ (IRow v naa3 [P0, P1, P2, P3] ∧ IRow v naa7 [T0, T1] ∧ IRow v naa11 [B0, B1]), fun _ x => x = .agg #[.int .i64 W.ll, .int .i64 W.lh, .int .i64 W.wl, .int .i64 W.wh, .int .i64 W.hl, .int .i64 W.hh, .int .i64 W.ol, .int .i64 W.oh, .int .i64 W.il, .int .i64 W.ih, .bool W.wo], fun _ x => x = .agg #[.int .i64 cl, .int .i64 ch], fun _ x => x = .int .i64 off, fun v x => ∃ n5, x = .tuple #[.int .i64 n5, .int .i64 0] ∧ (cl ≤ n5 ∧ n5 ≤ cp), fun v x => ∃ n6, x = .tuple #[.int .i64 n6, .int .i64 0] ∧ (cl ≤ n6 ∧ n6 ≤ cp), fun v x => ∃ n7, x = .int .i64 n7 ∧ (cl ≤ n7 ∧ n7 ≤ cp), fun _ x => x = .int .i64 0, fun v x => ∃ n9, x = .int .i64 n9 ∧ (cl ≤ n9 ∧ n9 ≤ cp)] (by rfl) (by kernel_rfl) (by kernel_rfl) (by kernel_rfl) (stays_cons (Stays.eq _) (stays_cons ((show Stays (fun v x => ∃ naa3 nac3 naa7 nac7 naa11 nac11, x = .agg #[.int .i64 30, .slice naa3 4 nac3, .int .i64 H, .slice naa7 2 nac7, .slice naa11 2 nac11, .int .i64 9, .bool o] ∧ (IRow v naa3 [P0, P1, P2, P3] ∧ IRow v naa7 [T0, T1] ∧ IRow v naa11 [B0, B1])) from fun v v' x g ⟨a, b, c, d, e, f, h, r1, r2, r3⟩ => ⟨a, b, c, d, e, f, h, r1.grow g, r2.grow g, r3.grow g⟩)) (stays_cons (Stays.eq _) (stays_cons (Stays.eq _) (stays_cons (Stays.eq _) (stays_cons ((show Stays (fun v x => ∃ n5, x = .tuple #[.int .i64 n5, .int .i64 0] ∧ (cl ≤ n5 ∧ n5 ≤ cp)) from fun v v' x g h => h)) (stays_cons ((show Stays (fun v x => ∃ n6, x = .tuple #[.int .i64 n6, .int .i64 0] ∧ (cl ≤ n6 ∧ n6 ≤ cp)) from fun v v' x g h => h)) (stays_cons ((show Stays (fun v x => ∃ n7, x = .int .i64 n7 ∧ (cl ≤ n7 ∧ n7 ≤ cp)) from fun v v' x g h => h)) (stays_cons (Stays.eq _) (stays_cons ((show Stays (fun v x => ∃ n9, x = .int .i64 n9 ∧ (cl ≤ n9 ∧ n9 ≤ cp)) from fun v v' x g h => h)) stays_nil)))))))))) ?step26 ?fin26
          case step26 => as_aux_lemma =>
           rintro i hi x v gv hd K hK
           have hi8 : i = 0 ∨ i = 1 ∨ i = 2 ∨ i = 3 ∨ i = 4 ∨ i = 5 ∨ i = 6 ∨ i = 7 ∨ i = 8 ∨ i = 9 := by omega
           rcases hi8 with rfl | rfl | rfl | rfl | rfl | rfl | rfl | rfl | rfl | rfl
           ·try dsimp only [upd, Nat.reduceBEq, cond_true, cond_false]
            refine wpOp_step rfl (fun K' hK' => ?_)
            rw [if_pos (by rfl)]
            refine wp_load_mid 24 _ rfl B 0 (by rfl) [.int .i64 30, .slice (some ⟨w3, 0, none⟩) 4 lc3, .int .i64 H, .slice (some ⟨w7, 0, none⟩) 2 lc7, .slice (some ⟨w11, 0, none⟩) 2 lc11, .int .i64 9, .bool o] _ (fun j u hu => by rw [Nat.zero_add]; exact (oV.keep gv).2 j u hu) Try.underlying24 rfl (by kernel_rfl) ?_
            exact hK' _ _ (hK _ _ (Below.refl _ _) (at_of rfl (rfl)))
           ·obtain ⟨x, rfl⟩ := upd_of (show x 0 = .agg #[.int .i64 30, .slice (some ⟨w3, 0, none⟩) 4 lc3, .int .i64 H, .slice (some ⟨w7, 0, none⟩) 2 lc7, .slice (some ⟨w11, 0, none⟩) 2 lc11, .int .i64 9, .bool o] from hd 0 _ (by simp) rfl)
            try dsimp only [upd, Nat.reduceBEq, cond_true, cond_false]
            refine wpOp_step rfl (fun K' hK' => ?_)
            go_simp
            refine (own4_any P0 P1 P2 P3 T0 T1 B0 B1 H o _ _ _ _ _ _ v (k3.grow gv) (k7.grow gv) (k11.grow gv)).mono ?_
            rintro e v' ⟨w3, b3, w7, b7, w11, b11, rfl, hg, r1, r2, r3⟩
            exact hK' _ _ (hK _ _ hg (at_of rfl (⟨_, _, _, _, _, _, rfl, r1, r2, r3⟩)))
           ·try dsimp only [upd, Nat.reduceBEq, cond_true, cond_false]
            refine wpOp_step rfl (fun K' hK' => ?_)
            rw [if_pos (by rfl)]
            refine wp_load_mid 48 _ rfl D 0 (by rfl) [.int .i64 W.ll, .int .i64 W.lh, .int .i64 W.wl, .int .i64 W.wh, .int .i64 W.hl, .int .i64 W.hh, .int .i64 W.ol, .int .i64 W.oh, .int .i64 W.il, .int .i64 W.ih, .bool W.wo] _ (fun j u hu => by rw [Nat.zero_add]; exact (oW.keep gv).2 j u hu) Try.underlying48 rfl (by kernel_rfl) ?_
            exact hK' _ _ (hK _ _ (Below.refl _ _) (at_of rfl (rfl)))
           ·try dsimp only [upd, Nat.reduceBEq, cond_true, cond_false]
            refine wpOp_step rfl (fun K' hK' => ?_)
            rw [if_pos (by rfl)]
            refine wp_load_mid 37 _ rfl v10 0 (by rfl) [.int .i64 cl, .int .i64 ch] _ (fun j u hu => by rw [Nat.zero_add]; exact (oA.keep gv).2 j u hu) Try.underlying37 rfl (by kernel_rfl) ?_
            exact hK' _ _ (hK _ _ (Below.refl _ _) (at_of rfl (rfl)))
           ·try dsimp only [upd, Nat.reduceBEq, cond_true, cond_false]
            refine wpOp_step rfl (fun K' hK' => ?_)
            have q := (oO.keep gv).2 0 _ rfl
            go_simp
            exact hK' _ _ (hK _ _ (Below.refl _ _) (at_of rfl (rfl)))
           ·obtain ⟨naa3, nac3, naa7, nac7, naa11, nac11, e1, ro1⟩ := hd 1 _ (by simp) rfl
            obtain ⟨x, rfl⟩ := upd_of (show x 1 = .agg #[.int .i64 30, .slice naa3 4 nac3, .int .i64 H, .slice naa7 2 nac7, .slice naa11 2 nac11, .int .i64 9, .bool o] from e1)
            obtain ⟨x, rfl⟩ := upd_of (show x 2 = .agg #[.int .i64 W.ll, .int .i64 W.lh, .int .i64 W.wl, .int .i64 W.wh, .int .i64 W.hl, .int .i64 W.hh, .int .i64 W.ol, .int .i64 W.oh, .int .i64 W.il, .int .i64 W.ih, .bool W.wo] from hd 2 _ (by simp) rfl)
            obtain ⟨x, rfl⟩ := upd_of (show x 3 = .agg #[.int .i64 cl, .int .i64 ch] from hd 3 _ (by simp) rfl)
            obtain ⟨x, rfl⟩ := upd_of (show x 4 = .int .i64 off from hd 4 _ (by simp) rfl)
            try dsimp only [upd, Nat.reduceBEq, cond_true, cond_false]
            refine wpOp_step rfl (fun K' hK' => ?_)
            go_simp
            refine (MA.out _ _ _ _ _ _ v ro1.1 ro1.2.1 ro1.2.2).mono ?_
            rintro e v' ⟨n, rfl, hn, hg⟩
            exact hK' _ _ (hK _ _ hg (at_of rfl (⟨_, rfl, hn⟩)))
           ·obtain ⟨n5, e5, rs5⟩ := hd 5 _ (by simp) rfl
            obtain ⟨x, rfl⟩ := upd_of (show x 5 = .tuple #[.int .i64 n5, .int .i64 0] from e5)
            try dsimp only [upd, Nat.reduceBEq, cond_true, cond_false]
            refine wpOp_step rfl (fun K' hK' => ?_)
            go_simp
            exact hK' _ _ (hK _ _ (Below.refl _ _) (at_of rfl (⟨_, rfl, rs5⟩)))
           ·obtain ⟨n6, e6, rs6⟩ := hd 6 _ (by simp) rfl
            obtain ⟨x, rfl⟩ := upd_of (show x 6 = .tuple #[.int .i64 n6, .int .i64 0] from e6)
            try dsimp only [upd, Nat.reduceBEq, cond_true, cond_false]
            refine wpOp_step rfl (fun K' hK' => ?_)
            go_simp
            exact hK' _ _ (hK _ _ (Below.refl _ _) (at_of rfl (⟨_, rfl, rs6⟩)))
           ·obtain ⟨n6, e6, rs6⟩ := hd 6 _ (by simp) rfl
            obtain ⟨x, rfl⟩ := upd_of (show x 6 = .tuple #[.int .i64 n6, .int .i64 0] from e6)
            try dsimp only [upd, Nat.reduceBEq, cond_true, cond_false]
            refine wpOp_step rfl (fun K' hK' => ?_)
            go_simp
            exact hK' _ _ (hK _ _ (Below.refl _ _) (at_of rfl (rfl)))
           ·obtain ⟨n7, e7, rs7⟩ := hd 7 _ (by simp) rfl
            obtain ⟨x, rfl⟩ := upd_of (show x 7 = .int .i64 n7 from e7)
            try dsimp only [upd, Nat.reduceBEq, cond_true, cond_false]
            refine wpOp_step rfl (fun K' hK' => ?_)
            go_simp
            exact hK' _ _ (hK _ _ (Below.refl _ _) (at_of rfl (⟨_, rfl, rs7⟩)))
          case fin26 =>
           rintro x v gv hd
           obtain ⟨x, rfl⟩ := upd_of (show x 8 = .int .i64 0 from hd 8 _ (by omega) rfl)
           obtain ⟨n9, e9, rs9⟩ := hd 9 _ (by omega) rfl
           obtain ⟨x, rfl⟩ := upd_of (show x 9 = .int .i64 n9 from e9)
           clear hd
           show wpList Try.prog _ _ (List.drop 10 _) (⟨#[_, _, _, _, _, _, _, _, _, _, _, _, _, _, _, _, _, _, _, _, .int .i64 n9, _, _, _, _, _, _, _, _, _, _, _, _, _, _, _, _, _, _, _, _, _, _, _, _, _, _, _, _, _, _, _, _, _, _, _, _, _, _, _, _, _, _, _, _, _, _, _, _, _, _, _, _, _, _, _, _, _, _, _, _, _, _, _, _, _, _, _, _, _, _, _, _, _, _, _, _, _, _, _, _, _, _, _, _, _, _, _, _, _, _, _, _, _, _, _, _, _, _, _, _, _, _, _, _, _, _, _, _, _, _, _, _, _, _, _, _, _, _, _, _, _, _, _, _, _, _, _, _, _, _, _, _, _, x 6, x 0, x 1, x 2, x 3, x 4, x 5, x 7, .int .i64 0, _, _, _, _, _, _, _, _, _, _, _, _, _, _, _, _, _, _, _, _, _, _, _, _, _, _, _, _, _, _, _, _, _, _, _, _, _, _, _, _, _, _, _, _, _, _, _, _, _, _, _, _, _, _, _, _, _, _, _], []⟩ : Act) v
           simp only [List.drop_succ_cons, List.drop_zero]
           replace gU := gU.tr gv
           replace oL := oL.keep gv
           replace oA := oA.keep gv
           replace oO := oO.keep gv
           replace r2 := r2.grow gv
           replace r3 := r3.grow gv
           replace r4 := r4.grow gv
           replace oW := oW.keep gv
           replace oV := oV.keep gv
           replace k3 := k3.grow gv
           replace k7 := k7.grow gv
           replace k11 := k11.grow gv
           clear gv e9 MA
           obtain ⟨ra, rb⟩ := rs9
           have n1 : ¬ n9 < cl := by omega
           have n2 : ¬ n9 > cp := by omega
           clear ra rb
           obtain ⟨c0, c1⟩ := oA.c2
           go_upto_region 29 with fail
           clear n1 n2 c0 c1 oV k3 k7 k11
           refine wp_abs (fun Q => Gr v Q) (Below.refl _ _) ?_
           rintro wj gQ
           replace gU := gU.tr gQ
           replace oL := oL.keep gQ
           replace oA := oA.keep gQ
           replace oO := oO.keep gQ
           replace r2 := r2.grow gQ
           replace r3 := r3.grow gQ
           replace r4 := r4.grow gQ
           replace oW := oW.keep gQ
           clear gQ
           refine (show (∀ sj : Nat → Value, Code.wp Try.prog _ _ ⟨#[sj 0, sj 1, sj 2, sj 3, sj 4, sj 5, sj 6, .pointer (some ⟨v9, 0, none⟩), .pointer (some ⟨v10, 0, none⟩), sj 9, .pointer (some ⟨D, 0, none⟩), sj 11, sj 12, sj 13, sj 14, .int .i64 cp, sj 16, sj 17, sj 18, sj 19, sj 20, sj 21, undef, undef, undef, undef, sj 26, sj 27, sj 28, sj 29, sj 30, sj 31, sj 32, sj 33, sj 34, sj 35, sj 36, sj 37, sj 38, sj 39, sj 40, sj 41, sj 42, sj 43, sj 44, sj 45, sj 46, sj 47, sj 48, sj 49, sj 50, sj 51, sj 52, sj 53, sj 54, sj 55, sj 56, sj 57, sj 58, sj 59, sj 60, sj 61, sj 62, sj 63, sj 64, sj 65, sj 66, sj 67, sj 68, sj 69, sj 70, sj 71, sj 72, sj 73, sj 74, sj 75, sj 76, sj 77, sj 78, sj 79, sj 80, sj 81, sj 82, sj 83, sj 84, sj 85, sj 86, sj 87, sj 88, sj 89, sj 90, sj 91, sj 92, sj 93, sj 94, sj 95, sj 96, sj 97, sj 98, sj 99, sj 100, sj 101, sj 102, sj 103, sj 104, sj 105, sj 106, sj 107, sj 108, sj 109, sj 110, sj 111, sj 112, sj 113, sj 114, sj 115, sj 116, sj 117, sj 118, sj 119, sj 120, sj 121, sj 122, sj 123, sj 124, sj 125, sj 126, sj 127, sj 128, sj 129, sj 130, sj 131, sj 132, sj 133, sj 134, sj 135, sj 136, sj 137, sj 138, sj 139, sj 140, sj 141, sj 142, sj 143, sj 144, sj 145, sj 146, sj 147, sj 148, sj 149, sj 150, sj 151, sj 152, sj 153, sj 154, sj 155, sj 156, sj 157, sj 158, sj 159, sj 160, sj 161, sj 162, sj 163, sj 164, sj 165, sj 166, sj 167, sj 168, sj 169, sj 170, sj 171, sj 172, sj 173, sj 174, sj 175, undef, undef, undef, undef, undef, undef, undef, undef, undef, undef, undef, undef, undef, undef, undef, undef, undef, undef, undef, undef, undef, undef, undef, undef, undef, undef, undef, undef, undef, undef, undef, undef, undef, undef, undef, undef, undef, undef, undef, undef, undef, undef, undef, undef, undef, undef], []⟩ _) → _ from fun h => h ((fun l : List Value => fun i => l.getD i undef) [_, _, _, _, _, _, _, undef, undef, _, undef, _, _, _, _, undef, _, _, _, _, _, _, undef, undef, undef, undef, _, _, _, _, _, _, _, _, _, _, _, _, _, _, _, _, _, _, _, _, _, _, _, _, _, _, _, _, _, _, _, _, _, _, _, _, _, _, _, _, _, _, _, _, _, _, _, _, _, _, _, _, _, _, _, _, _, _, _, _, _, _, _, _, _, _, _, _, _, _, _, _, _, _, _, _, _, _, _, _, _, _, _, _, _, _, _, _, _, _, _, _, _, _, _, _, _, _, _, _, _, _, _, _, _, _, _, _, _, _, _, _, _, _, _, _, _, _, _, _, _, _, _, _, _, _, _, _, _, _, _, _, _, _, _, _, _, _, _, _, _, _, _, _, _, _, _, _, _, _])) ?_
           intro sj
           dsimp only
           refine wp_region_facts 12 [(1, 0), (5, 4), (6, 3), (6, 5), (7, 1), (7, 2), (7, 6), (8, 7), (9, 8), (10, 8), (11, 9)] (fun x => ⟨#[sj 0, sj 1, sj 2, sj 3, sj 4, sj 5, sj 6, .pointer (some ⟨v9, 0, none⟩), .pointer (some ⟨v10, 0, none⟩), sj 9, .pointer (some ⟨D, 0, none⟩), sj 11, sj 12, sj 13, sj 14, .int .i64 cp, sj 16, sj 17, sj 18, sj 19, sj 20, sj 21, x 11, undef, undef, undef, sj 26, sj 27, sj 28, sj 29, sj 30, sj 31, sj 32, sj 33, sj 34, sj 35, sj 36, sj 37, sj 38, sj 39, sj 40, sj 41, sj 42, sj 43, sj 44, sj 45, sj 46, sj 47, sj 48, sj 49, sj 50, sj 51, sj 52, sj 53, sj 54, sj 55, sj 56, sj 57, sj 58, sj 59, sj 60, sj 61, sj 62, sj 63, sj 64, sj 65, sj 66, sj 67, sj 68, sj 69, sj 70, sj 71, sj 72, sj 73, sj 74, sj 75, sj 76, sj 77, sj 78, sj 79, sj 80, sj 81, sj 82, sj 83, sj 84, sj 85, sj 86, sj 87, sj 88, sj 89, sj 90, sj 91, sj 92, sj 93, sj 94, sj 95, sj 96, sj 97, sj 98, sj 99, sj 100, sj 101, sj 102, sj 103, sj 104, sj 105, sj 106, sj 107, sj 108, sj 109, sj 110, sj 111, sj 112, sj 113, sj 114, sj 115, sj 116, sj 117, sj 118, sj 119, sj 120, sj 121, sj 122, sj 123, sj 124, sj 125, sj 126, sj 127, sj 128, sj 129, sj 130, sj 131, sj 132, sj 133, sj 134, sj 135, sj 136, sj 137, sj 138, sj 139, sj 140, sj 141, sj 142, sj 143, sj 144, sj 145, sj 146, sj 147, sj 148, sj 149, sj 150, sj 151, sj 152, sj 153, sj 154, sj 155, sj 156, sj 157, sj 158, sj 159, sj 160, sj 161, sj 162, sj 163, sj 164, sj 165, sj 166, sj 167, sj 168, sj 169, sj 170, sj 171, sj 172, sj 173, sj 174, sj 175, x 8, x 0, x 1, x 2, x 3, x 4, x 5, x 6, x 7, x 9, x 10, undef, undef, undef, undef, undef, undef, undef, undef, undef, undef, undef, undef, undef, undef, undef, undef, undef, undef, undef, undef, undef, undef, undef, undef, undef, undef, undef, undef, undef, undef, undef, undef, undef, undef, undef], []⟩) (fun _ => undef) [fun _ x => x = .agg #[.int .i64 30, .slice (some ⟨P, 0, none⟩) 4 4, .int .i64 hei, .slice (some ⟨T, 0, none⟩) 2 tc, .slice ba 2 bc, .int .i64 9, .bool o], fun v x => ∃ naa3 nac3 naa7 nac7 naa11 nac11, x = .agg #[.int .i64 30, .slice naa3 4 nac3, .int .i64 hei, .slice naa7 2 nac7, .slice naa11 2 nac11, .int .i64 9, .bool o] ∧ (IRow v naa3 [a0, a1, a0, a1] ∧ IRow v naa7 [t0, t1] ∧ IRow v naa11 [s0, s1]), fun _ x => x = .agg #[.int .i64 W.ll, .int .i64 W.lh, .int .i64 W.wl, .int .i64 W.wh, .int .i64 W.hl, .int .i64 W.hh, .int .i64 W.ol, .int .i64 W.oh, .int .i64 W.il, .int .i64 W.ih, .bool W.wo], fun _ x => x = .int .i64 cp, fun _ x => x = .pointer (some ⟨v10, 1, none⟩), fun _ x => x = .int .i64 ch, fun _ x => x = .agg #[.int .i64 cp, .int .i64 ch], fun _ x => x = .tuple #[.int .i64 cp, .int .i64 0], fun _ x => x = .tuple #[.int .i64 cp, .int .i64 0], fun _ x => x = .int .i64 cp, fun _ x => x = .int .i64 0, fun _ x => x = .int .i64 cp] (by rfl) (by kernel_rfl) (by kernel_rfl) (by kernel_rfl) (stays_cons (Stays.eq _) (stays_cons ((show Stays (fun v x => ∃ naa3 nac3 naa7 nac7 naa11 nac11, x = .agg #[.int .i64 30, .slice naa3 4 nac3, .int .i64 hei, .slice naa7 2 nac7, .slice naa11 2 nac11, .int .i64 9, .bool o] ∧ (IRow v naa3 [a0, a1, a0, a1] ∧ IRow v naa7 [t0, t1] ∧ IRow v naa11 [s0, s1])) from fun v v' x g ⟨a, b, c, d, e, f, h, r1, r2, r3⟩ => ⟨a, b, c, d, e, f, h, r1.grow g, r2.grow g, r3.grow g⟩)) (stays_cons (Stays.eq _) (stays_cons (Stays.eq _) (stays_cons (Stays.eq _) (stays_cons (Stays.eq _) (stays_cons (Stays.eq _) (stays_cons (Stays.eq _) (stays_cons (Stays.eq _) (stays_cons (Stays.eq _) (stays_cons (Stays.eq _) (stays_cons (Stays.eq _) stays_nil)))))))))))) ?step29 ?fin29
           case step29 => as_aux_lemma =>
            rintro i hi x v gv hd K hK
            have hi8 : i = 0 ∨ i = 1 ∨ i = 2 ∨ i = 3 ∨ i = 4 ∨ i = 5 ∨ i = 6 ∨ i = 7 ∨ i = 8 ∨ i = 9 ∨ i = 10 ∨ i = 11 := by omega
            rcases hi8 with rfl | rfl | rfl | rfl | rfl | rfl | rfl | rfl | rfl | rfl | rfl | rfl
            ·try dsimp only [upd, Nat.reduceBEq, cond_true, cond_false]
             refine wpOp_step rfl (fun K' hK' => ?_)
             rw [if_pos (by rfl)]
             refine wp_load_mid 24 _ rfl v9 0 (by rfl) [.int .i64 30, .slice (some ⟨P, 0, none⟩) 4 4, .int .i64 hei, .slice (some ⟨T, 0, none⟩) 2 tc, .slice ba 2 bc, .int .i64 9, .bool o] _ (fun j u hu => by rw [Nat.zero_add]; exact (oL.keep gv).2 j u hu) Try.underlying24 rfl (by kernel_rfl) ?_
             exact hK' _ _ (hK _ _ (Below.refl _ _) (at_of rfl (rfl)))
            ·obtain ⟨x, rfl⟩ := upd_of (show x 0 = .agg #[.int .i64 30, .slice (some ⟨P, 0, none⟩) 4 4, .int .i64 hei, .slice (some ⟨T, 0, none⟩) 2 tc, .slice ba 2 bc, .int .i64 9, .bool o] from hd 0 _ (by simp) rfl)
             try dsimp only [upd, Nat.reduceBEq, cond_true, cond_false]
             refine wpOp_step rfl (fun K' hK' => ?_)
             go_simp
             refine (own4_any a0 a1 a0 a1 t0 t1 s0 s1 hei o _ _ _ _ _ _ v (r2.grow gv) (r3.grow gv) (r4.grow gv)).mono ?_
             rintro e v' ⟨w3, b3, w7, b7, w11, b11, rfl, hg, r1, r2, r3⟩
             exact hK' _ _ (hK _ _ hg (at_of rfl (⟨_, _, _, _, _, _, rfl, r1, r2, r3⟩)))
            ·try dsimp only [upd, Nat.reduceBEq, cond_true, cond_false]
             refine wpOp_step rfl (fun K' hK' => ?_)
             rw [if_pos (by rfl)]
             refine wp_load_mid 48 _ rfl D 0 (by rfl) [.int .i64 W.ll, .int .i64 W.lh, .int .i64 W.wl, .int .i64 W.wh, .int .i64 W.hl, .int .i64 W.hh, .int .i64 W.ol, .int .i64 W.oh, .int .i64 W.il, .int .i64 W.ih, .bool W.wo] _ (fun j u hu => by rw [Nat.zero_add]; exact (oW.keep gv).2 j u hu) Try.underlying48 rfl (by kernel_rfl) ?_
             exact hK' _ _ (hK _ _ (Below.refl _ _) (at_of rfl (rfl)))
            ·try dsimp only [upd, Nat.reduceBEq, cond_true, cond_false]
             refine wpOp_step rfl (fun K' hK' => ?_)
             go_simp
             exact hK' _ _ (hK _ _ (Below.refl _ _) (at_of rfl (rfl)))
            ·try dsimp only [upd, Nat.reduceBEq, cond_true, cond_false]
             refine wpOp_step rfl (fun K' hK' => ?_)
             go_simp
             exact hK' _ _ (hK _ _ (Below.refl _ _) (at_of rfl (rfl)))
            ·obtain ⟨x, rfl⟩ := upd_of (show x 4 = .pointer (some ⟨v10, 1, none⟩) from hd 4 _ (by simp) rfl)
             try dsimp only [upd, Nat.reduceBEq, cond_true, cond_false]
             refine wpOp_step rfl (fun K' hK' => ?_)
             have q := (oA.keep gv).2 1 _ rfl
             go_simp
             exact hK' _ _ (hK _ _ (Below.refl _ _) (at_of rfl (rfl)))
            ·obtain ⟨x, rfl⟩ := upd_of (show x 3 = .int .i64 cp from hd 3 _ (by simp) rfl)
             obtain ⟨x, rfl⟩ := upd_of (show x 5 = .int .i64 ch from hd 5 _ (by simp) rfl)
             try dsimp only [upd, Nat.reduceBEq, cond_true, cond_false]
             refine wpOp_step rfl (fun K' hK' => ?_)
             go_simp
             refine (span02_any cp ch v).mono ?_
             rintro e v' ⟨rfl, hg⟩
             exact hK' _ _ (hK _ _ hg (at_of rfl (rfl)))
            ·obtain ⟨naa3, nac3, naa7, nac7, naa11, nac11, e1, ro1⟩ := hd 1 _ (by simp) rfl
             obtain ⟨x, rfl⟩ := upd_of (show x 1 = .agg #[.int .i64 30, .slice naa3 4 nac3, .int .i64 hei, .slice naa7 2 nac7, .slice naa11 2 nac11, .int .i64 9, .bool o] from e1)
             obtain ⟨x, rfl⟩ := upd_of (show x 2 = .agg #[.int .i64 W.ll, .int .i64 W.lh, .int .i64 W.wl, .int .i64 W.wh, .int .i64 W.hl, .int .i64 W.hh, .int .i64 W.ol, .int .i64 W.oh, .int .i64 W.il, .int .i64 W.ih, .bool W.wo] from hd 2 _ (by simp) rfl)
             obtain ⟨x, rfl⟩ := upd_of (show x 6 = .agg #[.int .i64 cp, .int .i64 ch] from hd 6 _ (by simp) rfl)
             try dsimp only [upd, Nat.reduceBEq, cond_true, cond_false]
             refine wpOp_step rfl (fun K' hK' => ?_)
             go_simp
             refine (MB.out _ _ _ _ _ _ v ro1.1 ro1.2.1 ro1.2.2).mono ?_
             rintro e v' ⟨rfl, hg⟩
             exact hK' _ _ (hK _ _ hg (at_of rfl (rfl)))
            ·obtain ⟨x, rfl⟩ := upd_of (show x 7 = .tuple #[.int .i64 cp, .int .i64 0] from hd 7 _ (by simp) rfl)
             try dsimp only [upd, Nat.reduceBEq, cond_true, cond_false]
             refine wpOp_step rfl (fun K' hK' => ?_)
             go_simp
             exact hK' _ _ (hK _ _ (Below.refl _ _) (at_of rfl (rfl)))
            ·obtain ⟨x, rfl⟩ := upd_of (show x 8 = .tuple #[.int .i64 cp, .int .i64 0] from hd 8 _ (by simp) rfl)
             try dsimp only [upd, Nat.reduceBEq, cond_true, cond_false]
             refine wpOp_step rfl (fun K' hK' => ?_)
             go_simp
             exact hK' _ _ (hK _ _ (Below.refl _ _) (at_of rfl (rfl)))
            ·obtain ⟨x, rfl⟩ := upd_of (show x 8 = .tuple #[.int .i64 cp, .int .i64 0] from hd 8 _ (by simp) rfl)
             try dsimp only [upd, Nat.reduceBEq, cond_true, cond_false]
             refine wpOp_step rfl (fun K' hK' => ?_)
             go_simp
             exact hK' _ _ (hK _ _ (Below.refl _ _) (at_of rfl (rfl)))
            ·obtain ⟨x, rfl⟩ := upd_of (show x 9 = .int .i64 cp from hd 9 _ (by simp) rfl)
             try dsimp only [upd, Nat.reduceBEq, cond_true, cond_false]
             refine wpOp_step rfl (fun K' hK' => ?_)
             go_simp
             exact hK' _ _ (hK _ _ (Below.refl _ _) (at_of rfl (rfl)))
           case fin29 =>
            rintro x v gv hd
            obtain ⟨x, rfl⟩ := upd_of (show x 10 = .int .i64 0 from hd 10 _ (by omega) rfl)
            obtain ⟨x, rfl⟩ := upd_of (show x 11 = .int .i64 cp from hd 11 _ (by omega) rfl)
            clear hd
            show wpList Try.prog _ _ (List.drop 12 _) (⟨#[_, _, _, _, _, _, _, _, _, _, _, _, _, _, _, _, _, _, _, _, _, _, .int .i64 cp, _, _, _, _, _, _, _, _, _, _, _, _, _, _, _, _, _, _, _, _, _, _, _, _, _, _, _, _, _, _, _, _, _, _, _, _, _, _, _, _, _, _, _, _, _, _, _, _, _, _, _, _, _, _, _, _, _, _, _, _, _, _, _, _, _, _, _, _, _, _, _, _, _, _, _, _, _, _, _, _, _, _, _, _, _, _, _, _, _, _, _, _, _, _, _, _, _, _, _, _, _, _, _, _, _, _, _, _, _, _, _, _, _, _, _, _, _, _, _, _, _, _, _, _, _, _, _, _, _, _, _, _, _, _, _, _, _, _, _, _, _, _, _, _, _, _, _, _, _, _, _, _, _, x 8, x 0, x 1, x 2, x 3, x 4, x 5, x 6, x 7, x 9, .int .i64 0, _, _, _, _, _, _, _, _, _, _, _, _, _, _, _, _, _, _, _, _, _, _, _, _, _, _, _, _, _, _, _, _, _, _, _], []⟩ : Act) v
            simp only [List.drop_succ_cons, List.drop_zero]
            replace gU := gU.tr gv
            replace oL := oL.keep gv
            replace oA := oA.keep gv
            replace oO := oO.keep gv
            replace r2 := r2.grow gv
            replace r3 := r3.grow gv
            replace r4 := r4.grow gv
            replace oW := oW.keep gv
            clear gv MB
            go_upto_region 30 with fail
            refine wp_abs (fun Q => Gr v Q) (Below.refl _ _) ?_
            rintro wk gQ
            replace gU := gU.tr gQ
            replace oL := oL.keep gQ
            replace oA := oA.keep gQ
            replace oO := oO.keep gQ
            replace r2 := r2.grow gQ
            replace r3 := r3.grow gQ
            replace r4 := r4.grow gQ
            replace oW := oW.keep gQ
            clear gQ
            refine (show (∀ sk : Nat → Value, Code.wp Try.prog _ _ ⟨#[sk 0, sk 1, sk 2, sk 3, sk 4, sk 5, sk 6, .pointer (some ⟨v9, 0, none⟩), .pointer (some ⟨v10, 0, none⟩), sk 9, .pointer (some ⟨D, 0, none⟩), sk 11, sk 12, sk 13, sk 14, .int .i64 cp, sk 16, sk 17, sk 18, sk 19, sk 20, sk 21, .int .i64 cp, .int .i64 0, undef, undef, sk 26, sk 27, sk 28, sk 29, sk 30, sk 31, sk 32, sk 33, sk 34, sk 35, sk 36, sk 37, sk 38, sk 39, sk 40, sk 41, sk 42, sk 43, sk 44, sk 45, sk 46, sk 47, sk 48, sk 49, sk 50, sk 51, sk 52, sk 53, sk 54, sk 55, sk 56, sk 57, sk 58, sk 59, sk 60, sk 61, sk 62, sk 63, sk 64, sk 65, sk 66, sk 67, sk 68, sk 69, sk 70, sk 71, sk 72, sk 73, sk 74, sk 75, sk 76, sk 77, sk 78, sk 79, sk 80, sk 81, sk 82, sk 83, sk 84, sk 85, sk 86, sk 87, sk 88, sk 89, sk 90, sk 91, sk 92, sk 93, sk 94, sk 95, sk 96, sk 97, sk 98, sk 99, sk 100, sk 101, sk 102, sk 103, sk 104, sk 105, sk 106, sk 107, sk 108, sk 109, sk 110, sk 111, sk 112, sk 113, sk 114, sk 115, sk 116, sk 117, sk 118, sk 119, sk 120, sk 121, sk 122, sk 123, sk 124, sk 125, sk 126, sk 127, sk 128, sk 129, sk 130, sk 131, sk 132, sk 133, sk 134, sk 135, sk 136, sk 137, sk 138, sk 139, sk 140, sk 141, sk 142, sk 143, sk 144, sk 145, sk 146, sk 147, sk 148, sk 149, sk 150, sk 151, sk 152, sk 153, sk 154, sk 155, sk 156, sk 157, sk 158, sk 159, sk 160, sk 161, sk 162, sk 163, sk 164, sk 165, sk 166, sk 167, sk 168, sk 169, sk 170, sk 171, sk 172, sk 173, sk 174, sk 175, sk 176, sk 177, sk 178, sk 179, sk 180, sk 181, sk 182, sk 183, sk 184, sk 185, sk 186, undef, undef, undef, undef, undef, undef, undef, undef, undef, undef, undef, undef, undef, undef, undef, undef, undef, undef, undef, undef, undef, undef, undef, undef, undef, undef, undef, undef, undef, undef, undef, undef, undef, undef, undef], []⟩ _) → _ from fun h => h ((fun l : List Value => fun i => l.getD i undef) [_, _, _, _, _, _, _, undef, undef, _, undef, _, _, _, _, undef, _, _, _, _, _, _, undef, undef, undef, undef, _, _, _, _, _, _, _, _, _, _, _, _, _, _, _, _, _, _, _, _, _, _, _, _, _, _, _, _, _, _, _, _, _, _, _, _, _, _, _, _, _, _, _, _, _, _, _, _, _, _, _, _, _, _, _, _, _, _, _, _, _, _, _, _, _, _, _, _, _, _, _, _, _, _, _, _, _, _, _, _, _, _, _, _, _, _, _, _, _, _, _, _, _, _, _, _, _, _, _, _, _, _, _, _, _, _, _, _, _, _, _, _, _, _, _, _, _, _, _, _, _, _, _, _, _, _, _, _, _, _, _, _, _, _, _, _, _, _, _, _, _, _, _, _, _, _, _, _, _, _, _, _, _, _, _, _, _, _, _, _, _])) ?_
            intro sk
            dsimp only
            refine wp_region_late 9 7 8 [6] [.int .i64 0, .int .i64 0] [.int .i64 cm, .int .i64 cx] 37 [(1, 0), (3, 1), (3, 2), (4, 3), (5, 4), (6, 4), (8, 0), (8, 1), (8, 2), (8, 3), (8, 4), (8, 5), (8, 7)] (fun x => ⟨#[sk 0, sk 1, sk 2, sk 3, sk 4, sk 5, sk 6, .pointer (some ⟨v9, 0, none⟩), .pointer (some ⟨v10, 0, none⟩), sk 9, .pointer (some ⟨D, 0, none⟩), sk 11, sk 12, sk 13, sk 14, .int .i64 cp, sk 16, sk 17, sk 18, sk 19, sk 20, sk 21, .int .i64 cp, .int .i64 0, x 7, undef, sk 26, sk 27, sk 28, sk 29, sk 30, sk 31, sk 32, sk 33, sk 34, sk 35, sk 36, sk 37, sk 38, sk 39, sk 40, sk 41, sk 42, sk 43, sk 44, sk 45, sk 46, sk 47, sk 48, sk 49, sk 50, sk 51, sk 52, sk 53, sk 54, sk 55, sk 56, sk 57, sk 58, sk 59, sk 60, sk 61, sk 62, sk 63, sk 64, sk 65, sk 66, sk 67, sk 68, sk 69, sk 70, sk 71, sk 72, sk 73, sk 74, sk 75, sk 76, sk 77, sk 78, sk 79, sk 80, sk 81, sk 82, sk 83, sk 84, sk 85, sk 86, sk 87, sk 88, sk 89, sk 90, sk 91, sk 92, sk 93, sk 94, sk 95, sk 96, sk 97, sk 98, sk 99, sk 100, sk 101, sk 102, sk 103, sk 104, sk 105, sk 106, sk 107, sk 108, sk 109, sk 110, sk 111, sk 112, sk 113, sk 114, sk 115, sk 116, sk 117, sk 118, sk 119, sk 120, sk 121, sk 122, sk 123, sk 124, sk 125, sk 126, sk 127, sk 128, sk 129, sk 130, sk 131, sk 132, sk 133, sk 134, sk 135, sk 136, sk 137, sk 138, sk 139, sk 140, sk 141, sk 142, sk 143, sk 144, sk 145, sk 146, sk 147, sk 148, sk 149, sk 150, sk 151, sk 152, sk 153, sk 154, sk 155, sk 156, sk 157, sk 158, sk 159, sk 160, sk 161, sk 162, sk 163, sk 164, sk 165, sk 166, sk 167, sk 168, sk 169, sk 170, sk 171, sk 172, sk 173, sk 174, sk 175, sk 176, sk 177, sk 178, sk 179, sk 180, sk 181, sk 182, sk 183, sk 184, sk 185, sk 186, x 4, x 0, x 1, x 2, x 3, x 5, x 6, undef, undef, undef, undef, undef, undef, undef, undef, undef, undef, undef, undef, undef, undef, undef, undef, undef, undef, undef, undef, undef, undef, undef, undef, undef, undef, undef, undef], []⟩) (fun _ => undef) [fun _ x => x = .agg #[.int .i64 30, .slice (some ⟨P, 0, none⟩) 4 4, .int .i64 hei, .slice (some ⟨T, 0, none⟩) 2 tc, .slice ba 2 bc, .int .i64 9, .bool o], fun v x => ∃ naa3 nac3 naa7 nac7 naa11 nac11, x = .agg #[.int .i64 30, .slice naa3 4 nac3, .int .i64 hei, .slice naa7 2 nac7, .slice naa11 2 nac11, .int .i64 9, .bool o] ∧ (IRow v naa3 [a0, a1, a0, a1] ∧ IRow v naa7 [t0, t1] ∧ IRow v naa11 [s0, s1]), fun _ x => x = .agg #[.int .i64 W.ll, .int .i64 W.lh, .int .i64 W.wl, .int .i64 W.wh, .int .i64 W.hl, .int .i64 W.hh, .int .i64 W.ol, .int .i64 W.oh, .int .i64 W.il, .int .i64 W.ih, .bool W.wo], fun _ x => x = .tuple #[.agg #[.int .i64 cm, .int .i64 cx], .int .i64 0], fun _ x => x = .tuple #[.agg #[.int .i64 cm, .int .i64 cx], .int .i64 0], fun _ x => x = .agg #[.int .i64 cm, .int .i64 cx], fun _ x => x = .int .i64 0, fun _ _ => True, fun _ _ => True] (by rfl) (by kernel_rfl) (by kernel_rfl) (by kernel_rfl) (stays_cons (Stays.eq _) (stays_cons ((show Stays (fun v x => ∃ naa3 nac3 naa7 nac7 naa11 nac11, x = .agg #[.int .i64 30, .slice naa3 4 nac3, .int .i64 hei, .slice naa7 2 nac7, .slice naa11 2 nac11, .int .i64 9, .bool o] ∧ (IRow v naa3 [a0, a1, a0, a1] ∧ IRow v naa7 [t0, t1] ∧ IRow v naa11 [s0, s1])) from fun v v' x g ⟨a, b, c, d, e, f, h, r1, r2, r3⟩ => ⟨a, b, c, d, e, f, h, r1.grow g, r2.grow g, r3.grow g⟩)) (stays_cons (Stays.eq _) (stays_cons (Stays.eq _) (stays_cons (Stays.eq _) (stays_cons (Stays.eq _) (stays_cons (Stays.eq _) (stays_cons (Stays.tr) (stays_cons (Stays.tr) stays_nil))))))))) (by decide) (by decide) ?step30 ?pa30 ?qa30 ?late30 ?fin30
            case step30 => as_aux_lemma =>
             rintro i hi h1 h2 h3 x v gv hd K hK
             have hi8 : i = 0 ∨ i = 1 ∨ i = 2 ∨ i = 3 ∨ i = 4 ∨ i = 5 := by
              simp only [List.mem_cons, List.not_mem_nil, or_false, not_or] at h3
              omega
             rcases hi8 with rfl | rfl | rfl | rfl | rfl | rfl
             ·try dsimp only [upd, Nat.reduceBEq, cond_true, cond_false]
              refine wpOp_step rfl (fun K' hK' => ?_)
              rw [if_pos (by rfl)]
              refine wp_load_mid 24 _ rfl v9 0 (by rfl) [.int .i64 30, .slice (some ⟨P, 0, none⟩) 4 4, .int .i64 hei, .slice (some ⟨T, 0, none⟩) 2 tc, .slice ba 2 bc, .int .i64 9, .bool o] _ (fun j u hu => by rw [Nat.zero_add]; exact (oL.keep gv).2 j u hu) Try.underlying24 rfl (by kernel_rfl) ?_
              exact hK' _ _ (hK _ _ (Below.refl _ _) (at_of rfl (rfl)))
             ·obtain ⟨x, rfl⟩ := upd_of (show x 0 = .agg #[.int .i64 30, .slice (some ⟨P, 0, none⟩) 4 4, .int .i64 hei, .slice (some ⟨T, 0, none⟩) 2 tc, .slice ba 2 bc, .int .i64 9, .bool o] from hd 0 _ (by simp) (by decide) (by decide) rfl)
              try dsimp only [upd, Nat.reduceBEq, cond_true, cond_false]
              refine wpOp_step rfl (fun K' hK' => ?_)
              go_simp
              refine (own4_any a0 a1 a0 a1 t0 t1 s0 s1 hei o _ _ _ _ _ _ v (r2.grow gv) (r3.grow gv) (r4.grow gv)).mono ?_
              rintro e v' ⟨w3, b3, w7, b7, w11, b11, rfl, hg, r1, r2, r3⟩
              exact hK' _ _ (hK _ _ hg (at_of rfl (⟨_, _, _, _, _, _, rfl, r1, r2, r3⟩)))
             ·try dsimp only [upd, Nat.reduceBEq, cond_true, cond_false]
              refine wpOp_step rfl (fun K' hK' => ?_)
              rw [if_pos (by rfl)]
              refine wp_load_mid 48 _ rfl D 0 (by rfl) [.int .i64 W.ll, .int .i64 W.lh, .int .i64 W.wl, .int .i64 W.wh, .int .i64 W.hl, .int .i64 W.hh, .int .i64 W.ol, .int .i64 W.oh, .int .i64 W.il, .int .i64 W.ih, .bool W.wo] _ (fun j u hu => by rw [Nat.zero_add]; exact (oW.keep gv).2 j u hu) Try.underlying48 rfl (by kernel_rfl) ?_
              exact hK' _ _ (hK _ _ (Below.refl _ _) (at_of rfl (rfl)))
             ·obtain ⟨naa3, nac3, naa7, nac7, naa11, nac11, e1, ro1⟩ := hd 1 _ (by simp) (by decide) (by decide) rfl
              obtain ⟨x, rfl⟩ := upd_of (show x 1 = .agg #[.int .i64 30, .slice naa3 4 nac3, .int .i64 hei, .slice naa7 2 nac7, .slice naa11 2 nac11, .int .i64 9, .bool o] from e1)
              obtain ⟨x, rfl⟩ := upd_of (show x 2 = .agg #[.int .i64 W.ll, .int .i64 W.lh, .int .i64 W.wl, .int .i64 W.wh, .int .i64 W.hl, .int .i64 W.hh, .int .i64 W.ol, .int .i64 W.oh, .int .i64 W.il, .int .i64 W.ih, .bool W.wo] from hd 2 _ (by simp) (by decide) (by decide) rfl)
              try dsimp only [upd, Nat.reduceBEq, cond_true, cond_false]
              refine wpOp_step rfl (fun K' hK' => ?_)
              go_simp
              refine (CA.out _ _ _ _ _ _ v ro1.1 ro1.2.1 ro1.2.2).mono ?_
              rintro e v' ⟨rfl, hg⟩
              exact hK' _ _ (hK _ _ hg (at_of rfl (rfl)))
             ·obtain ⟨x, rfl⟩ := upd_of (show x 3 = .tuple #[.agg #[.int .i64 cm, .int .i64 cx], .int .i64 0] from hd 3 _ (by simp) (by decide) (by decide) rfl)
              try dsimp only [upd, Nat.reduceBEq, cond_true, cond_false]
              refine wpOp_step rfl (fun K' hK' => ?_)
              go_simp
              exact hK' _ _ (hK _ _ (Below.refl _ _) (at_of rfl (rfl)))
             ·obtain ⟨x, rfl⟩ := upd_of (show x 4 = .tuple #[.agg #[.int .i64 cm, .int .i64 cx], .int .i64 0] from hd 4 _ (by simp) (by decide) (by decide) rfl)
              try dsimp only [upd, Nat.reduceBEq, cond_true, cond_false]
              refine wpOp_step rfl (fun K' hK' => ?_)
              go_simp
              exact hK' _ _ (hK _ _ (Below.refl _ _) (at_of rfl (rfl)))
            case pa30 => as_aux_lemma =>
             rintro x v gv K hK
             show wpOp Try.prog _ _ 7 K (⟨#[_, _, _, _, _, _, _, _, _, _, _, _, _, _, _, _, _, _, _, _, _, _, _, _, x 7, _, _, _, _, _, _, _, _, _, _, _, _, _, _, _, _, _, _, _, _, _, _, _, _, _, _, _, _, _, _, _, _, _, _, _, _, _, _, _, _, _, _, _, _, _, _, _, _, _, _, _, _, _, _, _, _, _, _, _, _, _, _, _, _, _, _, _, _, _, _, _, _, _, _, _, _, _, _, _, _, _, _, _, _, _, _, _, _, _, _, _, _, _, _, _, _, _, _, _, _, _, _, _, _, _, _, _, _, _, _, _, _, _, _, _, _, _, _, _, _, _, _, _, _, _, _, _, _, _, _, _, _, _, _, _, _, _, _, _, _, _, _, _, _, _, _, _, _, _, _, _, _, _, _, _, _, _, _, _, _, _, _, x 4, x 0, x 1, x 2, x 3, x 5, x 6, _, _, _, _, _, _, _, _, _, _, _, _, _, _, _, _, _, _, _, _, _, _, _, _, _, _, _, _], []⟩ : Act) v
             refine wpOp_step rfl (fun K' hK' => ?_)
             go_simp
             exact hK' _ _ hK
            case qa30 => as_aux_lemma =>
             rintro x v bb gv hbb e ho hd K hK
             obtain ⟨x, rfl⟩ := upd_of (show x 5 = .agg #[.int .i64 cm, .int .i64 cx] from hd 5 _ (by simp) (by decide) rfl)
             obtain ⟨x, rfl⟩ := upd_of (show x 7 = .pointer (some ⟨bb, 0, none⟩) from by simpa [upd] using e)
             try dsimp only [upd, Nat.reduceBEq, cond_true, cond_false]
             have t0_ := ho.1.2 0 _ rfl
             have f0_ := ho.2 0
             have t1_ := ho.1.2 1 _ rfl
             have f1_ := ho.2 1
             refine wpOp_step rfl (fun K' hK' => ?_)
             go_simp
             exact hK' _ _ (hK _ ((gv.setCell (p := ⟨bb, 0, none⟩) hbb _).setCell (p := ⟨bb, 1, none⟩) hbb _) ((ho.set (i := 0) (by simp)).set (i := 1) (by simp)))
            case late30 => as_aux_lemma =>
             rintro i hi hm x v gv hd K hK
             simp only [List.mem_cons, List.not_mem_nil, or_false] at hm
             rcases hm with rfl
             ·obtain ⟨x, rfl⟩ := upd_of (show x 4 = .tuple #[.agg #[.int .i64 cm, .int .i64 cx], .int .i64 0] from late_of (hd 4 _ (by simp) (by decide) (by decide) rfl) (fun _ h => h))
              try dsimp only [upd, Nat.reduceBEq, cond_true, cond_false]
              refine wpOp_step rfl (fun K' hK' => ?_)
              go_simp
              exact hK' _ _ (hK _ (fun F hF v0 => at_of (v := v0) rfl (rfl) F hF))
            case fin30 =>
             rintro x v v24 gv l_v24 e ho_v24 hd
             obtain ⟨x, rfl⟩ := upd_of (show x 6 = .int .i64 0 from late_of (hd 6 _ (by omega) (by decide) (by decide) rfl) (fun _ h => h))
             obtain ⟨x, rfl⟩ := upd_of (show x 7 = .pointer (some ⟨v24, 0, none⟩) from by simpa [upd] using e)
             clear hd e
             show wpList Try.prog _ _ (List.drop 9 _) (⟨#[_, _, _, _, _, _, _, _, _, _, _, _, _, _, _, _, _, _, _, _, _, _, _, _, .pointer (some ⟨v24, 0, none⟩), _, _, _, _, _, _, _, _, _, _, _, _, _, _, _, _, _, _, _, _, _, _, _, _, _, _, _, _, _, _, _, _, _, _, _, _, _, _, _, _, _, _, _, _, _, _, _, _, _, _, _, _, _, _, _, _, _, _, _, _, _, _, _, _, _, _, _, _, _, _, _, _, _, _, _, _, _, _, _, _, _, _, _, _, _, _, _, _, _, _, _, _, _, _, _, _, _, _, _, _, _, _, _, _, _, _, _, _, _, _, _, _, _, _, _, _, _, _, _, _, _, _, _, _, _, _, _, _, _, _, _, _, _, _, _, _, _, _, _, _, _, _, _, _, _, _, _, _, _, _, _, _, _, _, _, _, _, _, _, _, _, _, x 4, x 0, x 1, x 2, x 3, x 5, .int .i64 0, _, _, _, _, _, _, _, _, _, _, _, _, _, _, _, _, _, _, _, _, _, _, _, _, _, _, _, _], []⟩ : Act) v
             simp only [List.drop_succ_cons, List.drop_zero]
             replace gU := gU.tr gv
             replace oL := oL.keep gv
             replace oA := oA.keep gv
             replace oO := oO.keep gv
             replace r2 := r2.grow gv
             replace r3 := r3.grow gv
             replace r4 := r4.grow gv
             replace oW := oW.keep gv
             have oS := ho_v24.1
             clear gv ho_v24 l_v24 CA
             obtain ⟨hl0, hl1⟩ := HL.out
             have gl2 : cx ≥ ch := hl1
             obtain ⟨c0, c1⟩ := oA.c2
             obtain ⟨e0_, e1_⟩ := oS.c2
             go_upto_region 31 with fail
             go_wp2_with (first | (go_at_call 15; refine (known_any _).mono ?_; rintro e w10 ⟨rfl, g10⟩; replace gU := gU.tr g10))
             go_ret
             exact ⟨rfl, gU⟩

end Go.Proofs.Ytoihnilgmdcndaa

namespace Go.Proofs.Ytoihnilgmdcndaa
set_option linter.unusedVariables false
set_option linter.unusedSimpArgs false
open Go.RowKit Go.ChangeShapes

section
variable {H : Type} {enc : TypeId × Value → H} {P : Program} {W W' : World}

theorem trodAll_stays (hl : laidOutB P = true) (g : Gr W W') {sp : Nat → Bool} : ∀ (ts : List TypeId) (vs : List Value) (ds : List (DataW H)) (ps : List MemPlace), (∀ t ∈ ts, P.readableRec t = true ∧ t < P.types.size) →
  DataW.TrodAll enc P W 0 (fun _ => true) true ts vs ds ps → (∀ p ∈ ps, p.block < W.heap.size) → (∀ p ∈ ps, sp p.block = true) → DataW.TrodAll enc P W' 0 sp true ts vs ds ps
 | [], [], [], _, _, h, _, _ => h
 | t :: ts, v :: vs, d :: ds, ps, ht, h, hlt, hsp => by
  obtain ⟨p, q, h1, h2, rfl⟩ := h
  exact ⟨p, q, WideElems.Trod_stays hl (ht t (by simp)).1 (ht t (by simp)).2 h1 (fun x hx => g.same (hlt x (by simp [hx]))) (fun x hx => hsp x (by simp [hx])),
   trodAll_stays hl g ts vs ds q (fun u hu => ht u (by simp [hu])) h2 (fun x hx => hlt x (by simp [hx])) (fun x hx => hsp x (by simp [hx])), rfl⟩

/-- A law that returned true in a world that only grew, its arguments as they were. -/
theorem law_true {f : Func} {s : ChangeSpec} {bt : TypeId} {args : Array Value} {ds : List (DataW H)} {p : List MemPlace}
  (hl : laidOutB P = true) (hpt : ∀ t ∈ f.params.toList, P.readableRec t = true ∧ t < P.types.size) (hbt : P.underlying bt = some .bool) (hrt : f.resultTypes = #[bt]) (hsv : s.vars = [])
  (hs : s.fn H ds = { results := [.lit (.bool true)], args := ds })
  (hW : DataW.Whole enc P f.params.toList s.vars false W args.toList ds [] p) (g : Gr W W') :
  s.post enc P f false true false false W args (.bool true) W' := by
 have hW0 := hW
 obtain ⟨pa, pv, hA, hV, hp, hfz, hnd⟩ := hW0
 rw [hsv] at hV
 have hpv : pv = [] := hV
 subst hpv
 rw [List.append_nil] at hp
 subst hp
 have hold : ∀ x ∈ p, x.block < W.heap.size := fun x hx => hW.lt x hx
 have hargs : ∀ sp : Nat → Bool, (∀ x ∈ p, sp x.block = true) → DataW.TrodAll enc P W' 0 sp true f.params.toList args.toList ds p := fun sp hsp => trodAll_stays hl g _ _ _ _ hpt hA hold hsp
 have hres : ∀ (b : Nat) (sp : Nat → Bool) (hd : Bool), DataW.TrodAll enc P W' b sp hd f.resultTypes.toList ((Value.bool true).resultList f.resultTypes.size) [.lit (.bool true)] [] := fun b sp hd => by
  rw [hrt]
  exact trodAll_cons_mk (shut_bool hbt _) trodAll_mk0
 have hok : ∀ (j : Nat) (t : TypeId) (r : Value), f.resultTypes[j]? = some t → ((Value.bool true).resultList f.resultTypes.size)[j]? = some r → Value.okWide P W' .any 0 t r := ok_one hrt rfl (okWide_bool_mk hbt _)
 have es : s.fn H (ds ++ []) = { results := [.lit (.bool true)], args := ds } := by rw [List.append_nil]; exact hs
 have hsp0 : ∀ x ∈ p, (fun b => decide (b < W.heap.size)) x.block = true := fun x hx => by simpa using hold x hx
 refine ⟨ds, [], p, [], p, [], hW, ?_, ?_, ?_, World.keptBut_mono (fun x hx => hx.elim) (g.frame (fun _ => False)), fun _ => ?_⟩
 ·rw [es]; exact hres _ _ _
 ·rw [es]; exact hargs _ hsp0
 ·rw [es, hsv]; rfl
 ·refine ⟨hok, [.lit (.bool true)] ++ ds, [], ([] ++ p) ++ [], ⟨[] ++ p, [], trodAll_append (hargs (fun _ => true) (fun _ _ => rfl)) (hres _ _ _), ?_, rfl, ?_, ?_⟩, ?_⟩
  ·rw [hsv]; rfl
  ·intro b off hx
   have hx' : MemPlace.cell b off ∈ p := by simpa using hx
   have hb : b < W.heap.size := hold _ hx'
   rw [g.frozen (p := ⟨b, off, none⟩) hb]
   exact hfz b off hx'
  ·intro ha
   cases ha
  ·intro x hx _
   simpa using hx

/-- Made of integers of kind k alone, cell by cell: by looking. -/
def allK (P : Program) (k : IntKind) : Nat → TypeId → Bool
 | 0, _ => false
 | f + 1, t => match P.underlying t with
  | some (.int k') => decide (k' = k) && decide (P.cellsOf t = 1)
  | some (.struct fs) => fs.toList.all (fun x => allK P k f x.type) && (List.range (P.cellsOf t)).all fun i => fs.toList.any fun x => decide (x.offset ≤ i) && decide (i < x.offset + P.cellsOf x.type)
  | some (.array n e) => allK P k f e && (List.range (P.cellsOf t)).all fun i => (List.range n).any fun j => decide (j * P.cellsOf e ≤ i) && decide (i < j * P.cellsOf e + P.cellsOf e)
  | _ => false

theorem piece {cs : List Value} {o n i : Nat} (h1 : o ≤ i) (h2 : i < o + n) : ((cs.drop o).take n)[i - o]? = cs[i]? := by
 rw [List.getElem?_take_of_lt (by omega), List.getElem?_drop, show o + (i - o) = i by omega]

theorem mapM_at {α β : Type} {f : α → Option β} : ∀ (l : List α) (ys : List β), l.mapM f = some ys → ∀ a ∈ l, ∃ y, f a = some y
 | [], _, _, a, ha => by cases ha
 | b :: l, ys, h, a, ha => by
  rw [List.mapM_cons] at h
  cases h1 : f b with
  | none => simp [h1] at h
  | some y =>
   cases h2 : l.mapM f with
   | none => simp [h1, h2] at h
   | some zs =>
    rcases List.mem_cons.1 ha with rfl | ha
    ·exact ⟨y, h1⟩
    ·exact mapM_at l zs h2 a ha

theorem int_open {k : IntKind} {base : Nat} {sp : Nat → Bool} {held : Bool} {t : TypeId} (hu : P.underlying t = some (.int k)) {fuel : Nat} {cs : List Value} {x : DataW H × List MemPlace} (hx : DataW.trod enc P W base sp held fuel t cs = some x) :
  ∃ n, cs = [.int k n] ∧ (Lit.int k n).wf = true := by
 obtain ⟨n, e, _, hw⟩ := DataW.trod_int hu hx
 exact ⟨n, e, hw⟩

theorem allK_open {k : IntKind} {base : Nat} {sp : Nat → Bool} {held : Bool} : ∀ (f : Nat) (t : TypeId), allK P k f t = true → ∀ (fuel : Nat) (cs : List Value) (x : DataW H × List MemPlace), DataW.trod enc P W base sp held fuel t cs = some x →
  cs.length = P.cellsOf t ∧ ∀ i, i < cs.length → ∃ n, cs[i]? = some (.int k n) ∧ (Lit.int k n).wf = true
 | 0, _, h, _, _, _, _ => by simp [allK] at h
 | f + 1, t, h, 0, cs, x, hx => by simp [DataW.trod] at hx
 | f + 1, t, h, fuel + 1, cs, x, hx => by
  unfold allK at h
  split at h
  ·rename_i k' hu
   simp only [Bool.and_eq_true, decide_eq_true_eq] at h
   obtain ⟨rfl, hc⟩ := h
   obtain ⟨n, rfl, hw⟩ := int_open hu hx
   refine ⟨by rw [hc]; rfl, fun i hi => ?_⟩
   obtain rfl : i = 0 := by simpa using hi
   exact ⟨n, rfl, hw⟩
  ·rename_i fs hu
   simp only [Bool.and_eq_true] at h
   obtain ⟨ha, hcov⟩ := h
   unfold DataW.trod at hx
   rw [hu] at hx
   simp only at hx
   split at hx
   case isFalse => cases hx
   rename_i hl
   refine ⟨hl, fun i hi => ?_⟩
   obtain ⟨xs, hxs, _⟩ := Option.map_eq_some_iff.1 hx
   have hci := List.all_eq_true.1 hcov i (by simp; omega)
   obtain ⟨fd, hfd, hin⟩ := List.any_eq_true.1 hci
   simp only [Bool.and_eq_true, decide_eq_true_eq] at hin
   obtain ⟨y, hy⟩ := mapM_at _ _ hxs fd hfd
   obtain ⟨hl', hat⟩ := allK_open f fd.type (List.all_eq_true.1 ha fd hfd) fuel _ y hy
   obtain ⟨n, hn, hw⟩ := hat (i - fd.offset) (by rw [hl']; omega)
   rw [piece hin.1 hin.2] at hn
   exact ⟨n, hn, hw⟩
  ·rename_i m e hu
   simp only [Bool.and_eq_true] at h
   obtain ⟨ha, hcov⟩ := h
   unfold DataW.trod at hx
   rw [hu] at hx
   simp only at hx
   split at hx
   case isFalse => cases hx
   rename_i hl
   refine ⟨hl, fun i hi => ?_⟩
   obtain ⟨xs, hxs, _⟩ := Option.map_eq_some_iff.1 hx
   have hci := List.all_eq_true.1 hcov i (by simp; omega)
   obtain ⟨j, hj, hin⟩ := List.any_eq_true.1 hci
   simp only [Bool.and_eq_true, decide_eq_true_eq] at hin
   obtain ⟨y, hy⟩ := mapM_at _ _ hxs j hj
   obtain ⟨hl', hat⟩ := allK_open f e ha fuel _ y hy
   obtain ⟨n, hn, hw⟩ := hat (i - j * P.cellsOf e) (by rw [hl']; omega)
   rw [piece hin.1 hin.2] at hn
   exact ⟨n, hn, hw⟩
  ·cases h

theorem ints_of {k : IntKind} : ∀ (cs : List Value), (∀ i, i < cs.length → ∃ n, cs[i]? = some (.int k n) ∧ (Lit.int k n).wf = true) → ∃ l : List Int, cs = l.map (Value.int k) ∧ ∀ n ∈ l, (Lit.int k n).wf = true
 | [], _ => ⟨[], rfl, by simp⟩
 | c :: cs, h => by
  obtain ⟨n, hn, hw⟩ := h 0 (by simp)
  obtain ⟨l, rfl, hl⟩ := ints_of cs (fun i hi => by simpa using h (i + 1) (by simpa using hi))
  simp only [List.getElem?_cons_zero, Option.some.injEq] at hn
  subst hn
  refine ⟨n :: l, rfl, fun m hm => ?_⟩
  rcases List.mem_cons.1 hm with rfl | hm
  ·exact hw
  ·exact hl m hm

/-- A struct or array by value, of integers of one kind: its integers. -/
theorem agg_ints {k : IntKind} {base : Nat} {sp : Nat → Bool} {held : Bool} {f : Nat} {t : TypeId} (ha : allK P k f t = true) (hc : P.cellsOf t ≠ 1) {v : Value} {d : DataW H} {ps : List MemPlace} (h : DataW.Trod enc P W base sp held t v d ps) :
  ∃ l : List Int, v = .agg (l.map (Value.int k)).toArray ∧ l.length = P.cellsOf t ∧ ∀ n ∈ l, (Lit.int k n).wf = true := by
 obtain ⟨fuel, hf⟩ := h
 obtain ⟨hl, hat⟩ := allK_open f t ha fuel _ _ hf
 obtain ⟨l, hcs, hw⟩ := ints_of _ hat
 have hlen : l.length = P.cellsOf t := by rw [← hl, hcs]; simp
 refine ⟨l, ?_, hlen, hw⟩
 unfold Value.cells at hcs hl
 split at hcs
 ·rename_i cs
  rw [← hcs]
 ·rename_i hna
  exfalso
  apply hc
  rw [← hlen]
  have := congrArg List.length hcs
  simpa using this.symm

end

end Go.Proofs.Ytoihnilgmdcndaa

namespace Go.Proofs.Ytoihnilgmdcndaa
set_option linter.unusedVariables false
set_option linter.unusedSimpArgs false
open Go.RowKit Go.ChangeShapes

section
variable {H : Type} {enc : TypeId × Value → H} {P : Program} {W : World}

end


/-- The pieces of a struct. -/
theorem struct_piece {H : Type} {enc : TypeId × Value → H} {P : Program} {W : World} {t : TypeId} {fs : Array Field} {fuel : Nat} {cs : List Value} {x : DataW H × List MemPlace} (hu : P.underlying t = some (.struct fs))
    (hx : DataW.trod enc P W 0 (fun _ => true) true fuel t cs = some x) :
    cs.length = P.cellsOf t ∧ ∃ n, ∀ g ∈ fs.toList, ∃ y, DataW.trod enc P W 0 (fun _ => true) true n g.type ((cs.drop g.offset).take (P.cellsOf g.type)) = some y := by
  cases fuel with
  | zero => simp [DataW.trod] at hx
  | succ n =>
    unfold DataW.trod at hx
    rw [hu] at hx
    simp only at hx
    split at hx
    case isFalse => cases hx
    rename_i hl
    obtain ⟨xs, hxs, _⟩ := Option.map_eq_some_iff.1 hx
    exact ⟨hl, n, fun g hg => mapM_at _ _ hxs g hg⟩

end Go.Proofs.Ytoihnilgmdcndaa

namespace Go.Proofs.Ytoihnilgmdcndaa
set_option linter.unusedVariables false
set_option linter.unusedSimpArgs false
open Go.RowKit Go.ChangeShapes

set_option maxRecDepth 100000 in
theorem sheet_open {H : Type} {enc : TypeId × Value → H} {W : World} {fuel : Nat} {cs : List Value} {x : DataW H × List MemPlace} (hx : DataW.trod enc Try.prog W 0 (fun _ => true) true fuel 69 cs = some x) :
    ∃ (p0 p1 p2 p3 h f0 f1 f2 f3 : Int) (o : Bool) (c0 c1 w0 w1 w2 w3 w4 : Int), cs = [.int .u8 p0, .int .u8 p1, .int .u8 p2, .int .u8 p3, .int .u8 h, .int .u8 f0, .int .u8 f1, .int .u8 f2, .int .u8 f3, .bool o, .int .u8 c0, .int .u8 c1, .int .u8 w0, .int .u8 w1, .int .u8 w2, .int .u8 w3, .int .u8 w4] ∧ By p0 ∧ By p1 ∧ By p2 ∧ By p3 ∧ By h ∧ By f0 ∧ By f1 ∧ By f2 ∧ By f3 ∧ By c0 ∧ By c1 ∧ By w0 ∧ By w1 ∧ By w2 ∧ By w3 ∧ By w4 := by
  obtain ⟨hl, n, hp⟩ := struct_piece Try.underlying69 hx
  rw [show Try.prog.cellsOf 69 = 17 from by kernel_rfl] at hl
  obtain ⟨d0, d1, d2, d3, d4, d5, d6, d7, d8, d9, d10, d11, d12, d13, d14, d15, d16, rfl⟩ : ∃ d0 d1 d2 d3 d4 d5 d6 d7 d8 d9 d10 d11 d12 d13 d14 d15 d16, cs = [d0, d1, d2, d3, d4, d5, d6, d7, d8, d9, d10, d11, d12, d13, d14, d15, d16] := by
    match cs, hl with
    | [d0, d1, d2, d3, d4, d5, d6, d7, d8, d9, d10, d11, d12, d13, d14, d15, d16], _ => exact ⟨d0, d1, d2, d3, d4, d5, d6, d7, d8, d9, d10, d11, d12, d13, d14, d15, d16, rfl⟩
  obtain ⟨y0, h0⟩ := hp _ List.mem_cons_self
  obtain ⟨y1, h1⟩ := hp _ (List.mem_cons_of_mem _ List.mem_cons_self)
  obtain ⟨y2, h2⟩ := hp _ (List.mem_cons_of_mem _ (List.mem_cons_of_mem _ List.mem_cons_self))
  obtain ⟨y3, h3⟩ := hp _ (List.mem_cons_of_mem _ (List.mem_cons_of_mem _ (List.mem_cons_of_mem _ List.mem_cons_self)))
  obtain ⟨y4, h4⟩ := hp _ (List.mem_cons_of_mem _ (List.mem_cons_of_mem _ (List.mem_cons_of_mem _ (List.mem_cons_of_mem _ List.mem_cons_self))))
  obtain ⟨y5, h5⟩ := hp _ (List.mem_cons_of_mem _ (List.mem_cons_of_mem _ (List.mem_cons_of_mem _ (List.mem_cons_of_mem _ (List.mem_cons_of_mem _ List.mem_cons_self)))))
  have g0 : DataW.trod enc Try.prog W 0 (fun _ => true) true n 65 [d0, d1, d2, d3] = some y0 := by
    have e : Try.prog.cellsOf 65 = 4 := by kernel_rfl
    simpa only [List.drop_succ_cons, List.drop_zero, e, List.take_succ_cons, List.take_zero] using h0
  have g1 : DataW.trod enc Try.prog W 0 (fun _ => true) true n 5 [d4] = some y1 := by
    have e : Try.prog.cellsOf 5 = 1 := by kernel_rfl
    simpa only [List.drop_succ_cons, List.drop_zero, e, List.take_succ_cons, List.take_zero] using h1
  have g2 : DataW.trod enc Try.prog W 0 (fun _ => true) true n 65 [d5, d6, d7, d8] = some y2 := by
    have e : Try.prog.cellsOf 65 = 4 := by kernel_rfl
    simpa only [List.drop_succ_cons, List.drop_zero, e, List.take_succ_cons, List.take_zero] using h2
  have g3 : DataW.trod enc Try.prog W 0 (fun _ => true) true n 4 [d9] = some y3 := by
    have e : Try.prog.cellsOf 4 = 1 := by kernel_rfl
    simpa only [List.drop_succ_cons, List.drop_zero, e, List.take_succ_cons, List.take_zero] using h3
  have g4 : DataW.trod enc Try.prog W 0 (fun _ => true) true n 66 [d10, d11] = some y4 := by
    have e : Try.prog.cellsOf 66 = 2 := by kernel_rfl
    simpa only [List.drop_succ_cons, List.drop_zero, e, List.take_succ_cons, List.take_zero] using h4
  have g5 : DataW.trod enc Try.prog W 0 (fun _ => true) true n 67 [d12, d13, d14, d15, d16] = some y5 := by
    have e : Try.prog.cellsOf 67 = 5 := by kernel_rfl
    simpa only [List.drop_succ_cons, List.drop_zero, e, List.take_succ_cons, List.take_zero] using h5
  obtain ⟨_, hat0⟩ := allK_open (k := .u8) 5 65 (by kernel_rfl) _ _ _ g0
  obtain ⟨l0, e0, b0⟩ := ints_of _ hat0
  obtain ⟨p0, p1, p2, p3, rfl⟩ : ∃ p0 p1 p2 p3, l0 = [p0, p1, p2, p3] := by
    have hl4 : l0.length = 4 := by
      have := congrArg List.length e0
      simpa using this.symm
    match l0, hl4 with
    | [p0, p1, p2, p3], _ => exact ⟨p0, p1, p2, p3, rfl⟩
  obtain ⟨h, e1, b1⟩ := int_open Try.underlying5 g1
  obtain ⟨_, hat2⟩ := allK_open (k := .u8) 5 65 (by kernel_rfl) _ _ _ g2
  obtain ⟨l2, e2, b2⟩ := ints_of _ hat2
  obtain ⟨f0, f1, f2, f3, rfl⟩ : ∃ f0 f1 f2 f3, l2 = [f0, f1, f2, f3] := by
    have hl4 : l2.length = 4 := by
      have := congrArg List.length e2
      simpa using this.symm
    match l2, hl4 with
    | [f0, f1, f2, f3], _ => exact ⟨f0, f1, f2, f3, rfl⟩
  obtain ⟨o, e3, _⟩ := DataW.trod_bool Try.underlying4 g3
  obtain ⟨_, hat4⟩ := allK_open (k := .u8) 5 66 (by kernel_rfl) _ _ _ g4
  obtain ⟨l4, e4, b4⟩ := ints_of _ hat4
  obtain ⟨c0, c1, rfl⟩ : ∃ c0 c1, l4 = [c0, c1] := by
    have hl4 : l4.length = 2 := by
      have := congrArg List.length e4
      simpa using this.symm
    match l4, hl4 with
    | [c0, c1], _ => exact ⟨c0, c1, rfl⟩
  obtain ⟨_, hat5⟩ := allK_open (k := .u8) 5 67 (by kernel_rfl) _ _ _ g5
  obtain ⟨l5, e5, b5⟩ := ints_of _ hat5
  obtain ⟨w0, w1, w2, w3, w4, rfl⟩ : ∃ w0 w1 w2 w3 w4, l5 = [w0, w1, w2, w3, w4] := by
    have hl4 : l5.length = 5 := by
      have := congrArg List.length e5
      simpa using this.symm
    match l5, hl4 with
    | [w0, w1, w2, w3, w4], _ => exact ⟨w0, w1, w2, w3, w4, rfl⟩
  simp only [List.map_cons, List.map_nil, List.cons.injEq, and_true] at e0 e1 e2 e3 e4 e5
  obtain ⟨rfl, rfl, rfl, rfl⟩ := e0
  subst e1
  obtain ⟨rfl, rfl, rfl, rfl⟩ := e2
  subst e3
  obtain ⟨rfl, rfl⟩ := e4
  obtain ⟨rfl, rfl, rfl, rfl, rfl⟩ := e5
  exact ⟨p0, p1, p2, p3, h, f0, f1, f2, f3, o, c0, c1, w0, w1, w2, w3, w4, rfl, bounds_u8 (b0 p0 (by simp)), bounds_u8 (b0 p1 (by simp)), bounds_u8 (b0 p2 (by simp)), bounds_u8 (b0 p3 (by simp)), bounds_u8 b1, bounds_u8 (b2 f0 (by simp)), bounds_u8 (b2 f1 (by simp)), bounds_u8 (b2 f2 (by simp)), bounds_u8 (b2 f3 (by simp)), bounds_u8 (b4 c0 (by simp)), bounds_u8 (b4 c1 (by simp)), bounds_u8 (b5 w0 (by simp)), bounds_u8 (b5 w1 (by simp)), bounds_u8 (b5 w2 (by simp)), bounds_u8 (b5 w3 (by simp)), bounds_u8 (b5 w4 (by simp))⟩

end Go.Proofs.Ytoihnilgmdcndaa

namespace Go.Proofs.Ytoihnilgmdcndaa
set_option linter.unusedVariables false
set_option linter.unusedSimpArgs false
open Go.RowKit

theorem topOf_two (o : Bool) (f0 f1 : Int) (h0 : By f0) (h1 : By f1) : ∃ t0 t1, topOf o f0 f1 = [t0, t1] ∧ (0 ≤ t0 ∧ t0 ≤ 255) ∧ (0 ≤ t1 ∧ t1 ≤ 255) ∧ (o = true → t0 = 0 ∧ t1 = 0) ∧ (o = true ∨ (t0 = f0 ∧ t1 = f1)) := by
  cases o with
  | false => exact ⟨f0, f1, rfl, h0, h1, (fun h => by cases h), .inr ⟨rfl, rfl⟩⟩
  | true => exact ⟨0, 0, rfl, by omega, by omega, fun _ => ⟨rfl, rfl⟩, .inl rfl⟩

theorem wide_of {w0 w1 w2 w3 w4 : Int} (h0 : By w0) (h1 : By w1) (h2 : By w2) (h3 : By w3) (h4 : By w4) : Wide (w0 % 4) (w1 % 4) (w2 % 4) (w3 % 6) (w4 % 6) := by
  refine ⟨⟨?_, ?_⟩, ⟨?_, ?_⟩, ⟨?_, ?_⟩, ⟨?_, ?_⟩, ⟨?_, ?_⟩⟩ <;> omega

end Go.Proofs.Ytoihnilgmdcndaa
