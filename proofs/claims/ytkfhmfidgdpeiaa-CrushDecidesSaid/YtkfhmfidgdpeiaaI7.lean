/- crush.High. (Made by gen_i7.py.) -/
import Derived.Test.YtkfhmfidgdpeiaaI6
import Derived.Test.YtkfhmfidgdpeiaaK1
namespace Go.Proofs.Ytkfhmfidgdpeiaa
set_option linter.unusedVariables false
set_option linter.unusedSimpArgs false
open Go.RowKit

theorem sumHi_rep (x : Ld) : ∀ n : Nat, sumHi (List.replicate n x) = x.wh * (n : Int)
  | 0 => by simp [sumHi]
  | n + 1 => by
    rw [List.replicate_succ, sumHi, sumHi_rep x n]
    rw [show ((n + 1 : Nat) : Int) = (n : Int) + 1 by omega, Int.mul_add, Int.mul_one]
    omega

theorem weakAt_rep {x : Ld} {keep : Int} {n k : Nat} (hk : k < n) : weakAt (List.replicate n x) keep k = decide (x.sl * keep / 1000 < x.wh * ((n - 1 - k : Nat) : Int)) := by
  have e : (List.replicate n x)[k]? = some x := by simp [hk]
  unfold weakAt
  rw [e]
  simp only [List.drop_replicate]
  rw [sumHi_rep, show n - (k + 1) = n - 1 - k by omega]

/-- A stack of equal boxes is weak where the others are too heavy for the lowest one. -/
theorem weak_rep {x : Ld} {keep : Int} (h0 : 0 ≤ x.wh) (n : Nat) : weakV (List.replicate (n + 1) x) keep = .tuple #[.int .i64 0, .bool (decide (x.sl * keep / 1000 < x.wh * (n : Int)))] := by
  unfold weakV
  cases hd : decide (x.sl * keep / 1000 < x.wh * (n : Int)) with
  | true =>
    rw [weakO_some (k := 0) (by simp) (by rw [weakAt_rep (by omega)]; simpa using hd) (fun j hj => by omega)]
    rfl
  | false =>
    rw [weakO_none (fun k hk => by
      have hk' : k < n + 1 := by simpa using hk
      rw [weakAt_rep hk']
      have h1 : x.wh * ((n + 1 - 1 - k : Nat) : Int) ≤ x.wh * (n : Int) := Int.mul_le_mul_of_nonneg_left (by omega) h0
      simp only [decide_eq_false_iff_not] at hd ⊢
      omega)]

theorem callHigh (args : Array Value) (W : World) : (callFunc 84 args).run Try.prog W = .ok (.enter 84 args) W := by kernel_rfl

set_option maxRecDepth 100000 in
set_option maxHeartbeats 2000000 in
theorem highClosure (X : Ld) (hx : LdOk X) (keep : Int) (k0 : 0 ≤ keep) (k1 : keep ≤ 1000) (h : Nat) (hh : h < 1000 - 1) (b1 b2 : Nat) (a : Option Addr) (cap : Nat) (W : World) (q1 : W.cell? ⟨b1, 0, none⟩ = some (.slice a 1 cap)) (q2 : W.cell? ⟨b2, 0, none⟩ = some (.int .i64 keep)) (hr : LRow W a [X]) :
    Calls Try.prog 84 #[.int .i64 (h : Int), .pointer (some ⟨b1, 0, none⟩), .pointer (some ⟨b2, 0, none⟩)] W fun e W' => e = .returned (.bool (decide (X.sl * keep / 1000 < X.wh * (h : Int)))) ∧ Gr W W' := by
  have hw0 : 0 ≤ X.wh := hx.1.2.2.1
  obtain ⟨d, hd⟩ : ∃ d, decide (X.sl * keep / 1000 < X.wh * (h : Int)) = d := ⟨_, rfl⟩
  have hwk : weakV (List.replicate (h + 1) X) keep = .tuple #[.int .i64 0, .bool d] := by rw [weak_rep hw0, hd]
  have hall : ∀ y ∈ List.replicate (h + 1) X, LdOk y := fun y hy => by rw [(List.mem_replicate.1 hy).2]; exact hx
  have hlen : (List.replicate (h + 1) X).length = h + 1 := by simp
  have e0 : IntKind.i64.wrap ((h : Int) + 1) = ((h + 1 : Nat) : Int) := by rw [IntWalk.i64_in _ (by omega)]; omega
  rw [hd]
  clear hd
  go_enter Try.func84, Try.ntmps84
  go_upto_region 1 with fail
  refine wp_region_facts 10 [(2, 1), (3, 0), (3, 2), (5, 3), (5, 4), (6, 5), (7, 6), (8, 6), (9, 7)] (fun x => ⟨#[.int .i64 (h : Int), .pointer (some ⟨b1, 0, none⟩), .pointer (some ⟨b2, 0, none⟩), undef, .bool false, x 9, undef, x 6, x 0, x 1, x 2, x 3, x 4, x 5, x 7, x 8, undef], []⟩) (fun _ => undef) [fun _ x => x = .slice a 1 cap, fun _ x => x = .int .i64 (h : Int), fun _ x => x = .int .i64 ((h + 1 : Nat) : Int), fun v x => ∃ a, x = .slice a (h + 1) (h + 1) ∧ LRow v a (List.replicate (h + 1) X), fun _ x => x = .int .i64 keep, fun _ x => x = .tuple #[.int .i64 0, .bool d], fun _ x => x = .tuple #[.int .i64 0, .bool d], fun _ x => x = .int .i64 0, fun _ x => x = .bool d, fun _ x => x = .int .i64 0] (by rfl) (by kernel_rfl) (by kernel_rfl) (by kernel_rfl) (stays_cons (Stays.eq _) (stays_cons (Stays.eq _) (stays_cons (Stays.eq _) (stays_cons ((show Stays (fun v x => ∃ a, x = .slice a (h + 1) (h + 1) ∧ LRow v a (List.replicate (h + 1) X)) from fun v v' x g ⟨a, h, r⟩ => ⟨a, h, r.grow g⟩)) (stays_cons (Stays.eq _) (stays_cons (Stays.eq _) (stays_cons (Stays.eq _) (stays_cons (Stays.eq _) (stays_cons (Stays.eq _) (stays_cons (Stays.eq _) stays_nil)))))))))) ?step1 ?fin1
  case step1 =>
    rintro i hi x v gv hd K hK
    have hi8 : i = 0 ∨ i = 1 ∨ i = 2 ∨ i = 3 ∨ i = 4 ∨ i = 5 ∨ i = 6 ∨ i = 7 ∨ i = 8 ∨ i = 9 := by omega
    rcases hi8 with rfl | rfl | rfl | rfl | rfl | rfl | rfl | rfl | rfl | rfl
    · show wpOp Try.prog _ _ 0 K (⟨#[.int .i64 (h : Int), .pointer (some ⟨b1, 0, none⟩), .pointer (some ⟨b2, 0, none⟩), undef, .bool false, x 9, undef, x 6, x 0, x 1, x 2, x 3, x 4, x 5, x 7, x 8, undef], []⟩ : Act) v
      refine wpOp_step rfl (fun K' hK' => ?_)
      have q := gv.keep q1
      go_simp
      exact hK' _ _ (hK _ _ (Below.refl _ _) (at_of rfl (rfl)))
    · show wpOp Try.prog _ _ 1 K (⟨#[.int .i64 (h : Int), .pointer (some ⟨b1, 0, none⟩), .pointer (some ⟨b2, 0, none⟩), undef, .bool false, x 9, undef, x 6, x 0, x 1, x 2, x 3, x 4, x 5, x 7, x 8, undef], []⟩ : Act) v
      refine wpOp_step rfl (fun K' hK' => ?_)
      go_simp
      exact hK' _ _ (hK _ _ (Below.refl _ _) (at_of rfl (rfl)))
    · obtain ⟨x, rfl⟩ := upd_of (show x 1 = .int .i64 (h : Int) from hd 1 _ (by simp) rfl)
      show wpOp Try.prog _ _ 2 K (⟨#[.int .i64 (h : Int), .pointer (some ⟨b1, 0, none⟩), .pointer (some ⟨b2, 0, none⟩), undef, .bool false, x 9, undef, x 6, x 0, .int .i64 (h : Int), x 2, x 3, x 4, x 5, x 7, x 8, undef], []⟩ : Act) v
      refine wpOp_step rfl (fun K' hK' => ?_)
      go_simp
      exact hK' _ _ (hK _ _ (Below.refl _ _) (at_of rfl (rfl)))
    · obtain ⟨x, rfl⟩ := upd_of (show x 0 = .slice a 1 cap from hd 0 _ (by simp) rfl)
      obtain ⟨x, rfl⟩ := upd_of (show x 2 = .int .i64 ((h + 1 : Nat) : Int) from hd 2 _ (by simp) rfl)
      show wpOp Try.prog _ _ 3 K (⟨#[.int .i64 (h : Int), .pointer (some ⟨b1, 0, none⟩), .pointer (some ⟨b2, 0, none⟩), undef, .bool false, x 9, undef, x 6, .slice a 1 cap, x 1, .int .i64 ((h + 1 : Nat) : Int), x 3, x 4, x 5, x 7, x 8, undef], []⟩ : Act) v
      refine wpOp_step rfl (fun K' hK' => ?_)
      go_simp
      refine (repeat_one X (h + 1) (by omega) (by omega) a cap v (hr.grow gv)).mono ?_
      rintro e v' ⟨a3, rfl, hr3, hg⟩
      exact hK' _ _ (hK _ _ hg (at_of rfl (⟨_, rfl, hr3⟩)))
    · show wpOp Try.prog _ _ 4 K (⟨#[.int .i64 (h : Int), .pointer (some ⟨b1, 0, none⟩), .pointer (some ⟨b2, 0, none⟩), undef, .bool false, x 9, undef, x 6, x 0, x 1, x 2, x 3, x 4, x 5, x 7, x 8, undef], []⟩ : Act) v
      refine wpOp_step rfl (fun K' hK' => ?_)
      have q := gv.keep q2
      go_simp
      exact hK' _ _ (hK _ _ (Below.refl _ _) (at_of rfl (rfl)))
    · obtain ⟨a3, e3, r3⟩ := hd 3 _ (by simp) rfl
      obtain ⟨x, rfl⟩ := upd_of (show x 3 = .slice a3 (h + 1) (h + 1) from e3)
      obtain ⟨x, rfl⟩ := upd_of (show x 4 = .int .i64 keep from hd 4 _ (by simp) rfl)
      show wpOp Try.prog _ _ 5 K (⟨#[.int .i64 (h : Int), .pointer (some ⟨b1, 0, none⟩), .pointer (some ⟨b2, 0, none⟩), undef, .bool false, x 9, undef, x 6, x 0, x 1, x 2, .slice a3 (h + 1) (h + 1), .int .i64 keep, x 5, x 7, x 8, undef], []⟩ : Act) v
      refine wpOp_step rfl (fun K' hK' => ?_)
      go_simp
      have c := weak_any (List.replicate (h + 1) X) (by rw [hlen]; omega) hall keep k0 k1 a3 (h + 1) v r3
      rw [hlen, hwk] at c
      refine c.mono ?_
      rintro e v' ⟨rfl, hg⟩
      exact hK' _ _ (hK _ _ hg (at_of rfl (rfl)))
    · obtain ⟨x, rfl⟩ := upd_of (show x 5 = .tuple #[.int .i64 0, .bool d] from hd 5 _ (by simp) rfl)
      show wpOp Try.prog _ _ 6 K (⟨#[.int .i64 (h : Int), .pointer (some ⟨b1, 0, none⟩), .pointer (some ⟨b2, 0, none⟩), undef, .bool false, x 9, undef, x 6, x 0, x 1, x 2, x 3, x 4, .tuple #[.int .i64 0, .bool d], x 7, x 8, undef], []⟩ : Act) v
      refine wpOp_step rfl (fun K' hK' => ?_)
      go_simp
      exact hK' _ _ (hK _ _ (Below.refl _ _) (at_of rfl (rfl)))
    · obtain ⟨x, rfl⟩ := upd_of (show x 6 = .tuple #[.int .i64 0, .bool d] from hd 6 _ (by simp) rfl)
      show wpOp Try.prog _ _ 7 K (⟨#[.int .i64 (h : Int), .pointer (some ⟨b1, 0, none⟩), .pointer (some ⟨b2, 0, none⟩), undef, .bool false, x 9, undef, .tuple #[.int .i64 0, .bool d], x 0, x 1, x 2, x 3, x 4, x 5, x 7, x 8, undef], []⟩ : Act) v
      refine wpOp_step rfl (fun K' hK' => ?_)
      go_simp
      exact hK' _ _ (hK _ _ (Below.refl _ _) (at_of rfl (rfl)))
    · obtain ⟨x, rfl⟩ := upd_of (show x 6 = .tuple #[.int .i64 0, .bool d] from hd 6 _ (by simp) rfl)
      show wpOp Try.prog _ _ 8 K (⟨#[.int .i64 (h : Int), .pointer (some ⟨b1, 0, none⟩), .pointer (some ⟨b2, 0, none⟩), undef, .bool false, x 9, undef, .tuple #[.int .i64 0, .bool d], x 0, x 1, x 2, x 3, x 4, x 5, x 7, x 8, undef], []⟩ : Act) v
      refine wpOp_step rfl (fun K' hK' => ?_)
      go_simp
      exact hK' _ _ (hK _ _ (Below.refl _ _) (at_of rfl (rfl)))
    · obtain ⟨x, rfl⟩ := upd_of (show x 7 = .int .i64 0 from hd 7 _ (by simp) rfl)
      show wpOp Try.prog _ _ 9 K (⟨#[.int .i64 (h : Int), .pointer (some ⟨b1, 0, none⟩), .pointer (some ⟨b2, 0, none⟩), undef, .bool false, x 9, undef, x 6, x 0, x 1, x 2, x 3, x 4, x 5, .int .i64 0, x 8, undef], []⟩ : Act) v
      refine wpOp_step rfl (fun K' hK' => ?_)
      go_simp
      exact hK' _ _ (hK _ _ (Below.refl _ _) (at_of rfl (rfl)))
  case fin1 =>
    rintro x v gv hd
    obtain ⟨x, rfl⟩ := upd_of (show x 8 = .bool d from hd 8 _ (by omega) rfl)
    clear hd
    show wpList Try.prog _ _ (List.drop 10 _) (⟨#[.int .i64 (h : Int), .pointer (some ⟨b1, 0, none⟩), .pointer (some ⟨b2, 0, none⟩), undef, .bool false, x 9, undef, x 6, x 0, x 1, x 2, x 3, x 4, x 5, x 7, .bool d, undef], []⟩ : Act) v
    simp only [List.drop_succ_cons, List.drop_zero]
    go_wp2
    go_ret
    exact ⟨rfl, gv⟩

theorem mono_high {s h : Int} (h0 : 0 ≤ h) : ∀ a b : Int, 0 ≤ a → a ≤ b → b < 50 → decide (s < h * a) = true → decide (s < h * b) = true := fun a b ha hab _ hd => by
  have := Int.mul_le_mul_of_nonneg_left hab h0
  simp only [decide_eq_true_eq] at hd ⊢
  omega

theorem high_calls {x : Ld} (HX : Hid (LdOk x)) {B8 Bb : Nat} {keep : Int} {U W1 W2 : World} (O8 : Hid (Own U B8 [.slice (some ⟨Bb, 0, none⟩) 1 1])) (RB : Hid (LRow U (some ⟨Bb, 0, none⟩) [x])) (G1 : Hid (Gr U W1)) (G2 : Hid (Gr W1 W2)) (k0 : 0 ≤ keep) (k1 : keep ≤ 1000) :
    ∀ (h : Int) (W : World), Gr (W2.alloc (.cells #[.int .i64 keep] 3)) W → 0 ≤ h → h < 50 → Calls Try.prog 84 #[.int .i64 h, .pointer (some ⟨B8, 0, none⟩), .pointer (some ⟨W2.heap.size, 0, none⟩)] W fun e W' => e = .returned (.bool (decide (x.sl * keep / 1000 < x.wh * h))) ∧ Gr W W' := by
  intro h W g h0 h1
  obtain ⟨k, rfl⟩ : ∃ k : Nat, h = (k : Int) := ⟨h.toNat, by omega⟩
  have gg : Gr U W := ((G1.out.tr G2.out).tr (Gr.al _ _)).tr g
  exact highClosure x HX.out keep k0 k1 k (by omega) B8 W2.heap.size _ 1 W ((O8.out.keep gg).1.c1) (((Own.new W2 [.int .i64 keep] 3 _ rfl).keep g).1.c1) (RB.out.grow gg)

set_option maxRecDepth 100000 in
set_option maxHeartbeats 2000000 in
/-- High of what is valid: how many stand. -/
theorem high_ok (x : Ld) (hx : LdOk x) (t : List Stp) (days : Int) (hs : storedL 1 [x] t days = 0) (hn : t.length ≤ 1000000) (hp : t.Pairwise (fun x y => x.day ≤ y.day)) (h0 : 0 < (untilL t days).length) (h1 : (untilL t days).length ≤ t.length) (k0 : 0 ≤ lastL t days) (k1 : lastL t days ≤ 1000)
    (c : Option Addr) (cc : Nat) (hcc : t.length ≤ cc) (w : World) (ht : TRow w c t) :
    Calls Try.prog 43 #[.agg #[.int .i64 x.sl, .int .i64 x.sh, .int .i64 x.wl, .int .i64 x.wh], .slice c t.length cc, .int .i64 days] w fun e w' => ∃ r, e = .returned (.tuple #[.int .i64 r, .int .i64 0]) ∧ 0 ≤ r ∧ r ≤ 50 ∧ (∀ a, 0 ≤ a → a < r → decide (x.sl * lastL t days / 1000 < x.wh * a) = false) ∧ (∀ a, r ≤ a → a < 50 → decide (x.sl * lastL t days / 1000 < x.wh * a) = true) ∧ Gr w w' := by
  have hw0 : 0 ≤ x.wh := hx.1.2.2.1
  have HS := Lib.hid hs
  have HP := Lib.hid hp
  have HX := Lib.hid hx
  clear hs hp hx
  go_enter Try.func43, Try.ntmps43
  go_upto_region 2 with fail
  have gU := (Gr.al w (.cells #[.int .i64 x.sl, .int .i64 x.sh, .int .i64 x.wl, .int .i64 x.wh] 70)).tr ((Gr.al _ (.cells #[.int .i64 x.sl, .int .i64 x.sh, .int .i64 x.wl, .int .i64 x.wh] 70)).tr (Gr.al _ (.cells #[.slice (some ⟨w.heap.size + 1, 0, none⟩) 1 1] 53)))
  have oB := (Own.new (w.alloc (.cells #[.int .i64 x.sl, .int .i64 x.sh, .int .i64 x.wl, .int .i64 x.wh] 70)) [.int .i64 x.sl, .int .i64 x.sh, .int .i64 x.wl, .int .i64 x.wh] 70 (w.heap.size + 1) (by simp)).keep (Gr.al _ (.cells #[.slice (some ⟨w.heap.size + 1, 0, none⟩) 1 1] 53))
  have o8 := Own.new ((w.alloc (.cells #[.int .i64 x.sl, .int .i64 x.sh, .int .i64 x.wl, .int .i64 x.wh] 70)).alloc (.cells #[.int .i64 x.sl, .int .i64 x.sh, .int .i64 x.wl, .int .i64 x.wh] 70)) [.slice (some ⟨w.heap.size + 1, 0, none⟩) 1 1] 53 (w.heap.size + 1 + 1) (by simp)
  refine wp_abs (fun U => Gr w U ∧ Own U (w.heap.size + 1) [.int .i64 x.sl, .int .i64 x.sh, .int .i64 x.wl, .int .i64 x.wh] ∧ Own U (w.heap.size + 1 + 1) [.slice (some ⟨w.heap.size + 1, 0, none⟩) 1 1]) ⟨gU, oB, o8⟩ ?_
  clear gU oB o8
  rintro U ⟨gU, oB, o8⟩
  have rB : LRow U (some ⟨w.heap.size + 1, 0, none⟩) [x] := by
    refine ⟨by simp, fun j y hy => ?_⟩
    have hj : j = 0 := by
      have := (List.getElem?_eq_some_iff.1 hy).1
      simpa using this
    subst hj
    have ey : x = y := by simpa using hy
    subst ey
    exact ⟨_, _, rfl, oB.1.1, fun i v hv => by simpa using oB.1.2 i v hv⟩
  have q8 := o8.1.c1
  have RB := Lib.hid rB
  have O8 := Lib.hid o8
  have GU := Lib.hid gU
  clear oB o8 rB gU
  have cS : ∀ W, Gr U W → Calls Try.prog 75 #[.slice (some ⟨w.heap.size + 1, 0, none⟩) 1 1, .int .i64 1, .slice c t.length cc, .int .i64 days] W fun e w' => e = .returned (.int .i64 0) ∧ Gr W w' := fun W g => by
    have h := stored_any 1 [x] t days (some ⟨w.heap.size + 1, 0, none⟩) c 1 cc W (RB.out.grow g) (ht.grow (GU.out.tr g))
    rw [HS.out] at h
    exact h
  have CS := Lib.hid cS
  clear cS
  go_wp2_with (first
    | (go_at_call 75; refine (CS.out _ (Below.refl _ _)).mono ?_; rintro e w1 ⟨rfl, g1⟩; have G1 := Lib.hid g1; clear g1)
    | (go_at_call 82; refine (last_any t days hn HP.out h0 h1 c cc hcc _ (ht.grow (GU.out.tr G1.out))).mono ?_; rintro e w2 ⟨rfl, g2⟩; have G2 := Lib.hid g2; clear g2)
    | (go_at_call 83; refine (search2 50 (by omega) (by omega) (fun a => decide (x.sl * lastL t days / 1000 < x.wh * a)) (mono_high hw0) 84 (.pointer (some ⟨w.heap.size + 1 + 1, 0, none⟩)) (.pointer (some ⟨w2.heap.size, 0, none⟩)) _ callHigh (high_calls HX O8 RB G1 G2 k0 k1)).mono ?_; rintro e w3 ⟨r, rfl, r0, r1, hlo, hhi, g3⟩))
  go_ret2
  exact ⟨r, rfl, r0, r1, hlo, hhi, ((GU.out.tr (G1.out.tr G2.out)).tr (Gr.al _ _)).tr g3⟩

end Go.Proofs.Ytkfhmfidgdpeiaa
