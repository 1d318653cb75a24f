/- crush.High. (Made by gen_i7.py.) armSpan. The contract of armCrush: the document's examples of chapter 3. The helpers of chapter 3's statements, and what the document's examples say. The document's examples of chapter 3, call by call. The document's examples of chapter 3: known returns true. (Made by gen_i33.py.) -/
import Derived.Test.YtjdeojpapdphoaaQI33b
import Derived.Test.YtjdeojpapdphoaaQI33a
import Derived.BigQuiet
import Derived.Deep.CutRange
import Derived.Deep.MidRow
namespace Go.Proofs.Ytjdeojpapdphoaa
set_option linter.unusedVariables false
set_option linter.unusedSimpArgs false
open Go.RowKit

theorem sumHi_rep (x : Ld) : ∀ n : Nat, sumHi (List.replicate n x) = x.wh * (n : Int)
  | 0 => by simp [sumHi]
  | n + 1 => by
    rw [List.replicate_succ, sumHi, sumHi_rep x n]
    rw [show ((n + 1 : Nat) : Int) = (n : Int) + 1 by omega, Int.mul_add, Int.mul_one]
    omega

theorem weakAt_rep {x : Ld} {keep : Int} {n k : Nat} (hk : k < n) : weakAt (List.replicate n x) keep k = decide (x.sl * keep / 1000 < x.wh * ((n - 1 - k : Nat) : Int)) := by
  have e : (List.replicate n x)[k]? = some x := by simp [hk]
  unfold weakAt
  rw [e]
  simp only [List.drop_replicate]
  rw [sumHi_rep, show n - (k + 1) = n - 1 - k by omega]

/-- A stack of equal boxes is weak where the others are too heavy for the lowest one. -/
theorem weak_rep {x : Ld} {keep : Int} (h0 : 0 ≤ x.wh) (n : Nat) : weakV (List.replicate (n + 1) x) keep = .tuple #[.int .i64 0, .bool (decide (x.sl * keep / 1000 < x.wh * (n : Int)))] := by
  unfold weakV
  cases hd : decide (x.sl * keep / 1000 < x.wh * (n : Int)) with
  | true =>
    rw [weakO_some (k := 0) (by simp) (by rw [weakAt_rep (by omega)]; simpa using hd) (fun j hj => by omega)]
    rfl
  | false =>
    rw [weakO_none (fun k hk => by
      have hk' : k < n + 1 := by simpa using hk
      rw [weakAt_rep hk']
      have h1 : x.wh * ((n + 1 - 1 - k : Nat) : Int) ≤ x.wh * (n : Int) := Int.mul_le_mul_of_nonneg_left (by omega) h0
      simp only [decide_eq_false_iff_not] at hd ⊢
      omega)]

theorem callHigh (args : Array Value) (W : World) : (callFunc 84 args).run Try.prog W = .ok (.enter 84 args) W := by kernel_rfl

set_option maxRecDepth 100000 in
set_option maxHeartbeats 2000000 in
theorem highClosure (X : Ld) (hx : LdOk X) (keep : Int) (k0 : 0 ≤ keep) (k1 : keep ≤ 1000) (h : Nat) (hh : h < 1000 - 1) (b1 b2 : Nat) (a : Option Addr) (cap : Nat) (W : World) (q1 : W.cell? ⟨b1, 0, none⟩ = some (.slice a 1 cap)) (q2 : W.cell? ⟨b2, 0, none⟩ = some (.int .i64 keep)) (hr : LRow W a [X]) :
    Calls Try.prog 84 #[.int .i64 (h : Int), .pointer (some ⟨b1, 0, none⟩), .pointer (some ⟨b2, 0, none⟩)] W fun e W' => e = .returned (.bool (decide (X.sl * keep / 1000 < X.wh * (h : Int)))) ∧ Gr W W' := by
  have hw0 : 0 ≤ X.wh := hx.1.2.2.1
  obtain ⟨d, hd⟩ : ∃ d, decide (X.sl * keep / 1000 < X.wh * (h : Int)) = d := ⟨_, rfl⟩
  have hwk : weakV (List.replicate (h + 1) X) keep = .tuple #[.int .i64 0, .bool d] := by rw [weak_rep hw0, hd]
  have hall : ∀ y ∈ List.replicate (h + 1) X, LdOk y := fun y hy => by rw [(List.mem_replicate.1 hy).2]; exact hx
  have hlen : (List.replicate (h + 1) X).length = h + 1 := by simp
  have e0 : IntKind.i64.wrap ((h : Int) + 1) = ((h + 1 : Nat) : Int) := by rw [IntWalk.i64_in _ (by omega)]; omega
  rw [hd]
  clear hd
  go_enter Try.func84, Try.ntmps84
  go_upto_region 1 with fail
  refine wp_region_facts 10 [(2, 1), (3, 0), (3, 2), (5, 3), (5, 4), (6, 5), (7, 6), (8, 6), (9, 7)] (fun x => ⟨#[.int .i64 (h : Int), .pointer (some ⟨b1, 0, none⟩), .pointer (some ⟨b2, 0, none⟩), undef, .bool false, x 9, undef, x 6, x 0, x 1, x 2, x 3, x 4, x 5, x 7, x 8, undef], []⟩) (fun _ => undef) [fun _ x => x = .slice a 1 cap, fun _ x => x = .int .i64 (h : Int), fun _ x => x = .int .i64 ((h + 1 : Nat) : Int), fun v x => ∃ a, x = .slice a (h + 1) (h + 1) ∧ LRow v a (List.replicate (h + 1) X), fun _ x => x = .int .i64 keep, fun _ x => x = .tuple #[.int .i64 0, .bool d], fun _ x => x = .tuple #[.int .i64 0, .bool d], fun _ x => x = .int .i64 0, fun _ x => x = .bool d, fun _ x => x = .int .i64 0] (by rfl) (by kernel_rfl) (by kernel_rfl) (by kernel_rfl) (stays_cons (Stays.eq _) (stays_cons (Stays.eq _) (stays_cons (Stays.eq _) (stays_cons ((show Stays (fun v x => ∃ a, x = .slice a (h + 1) (h + 1) ∧ LRow v a (List.replicate (h + 1) X)) from fun v v' x g ⟨a, h, r⟩ => ⟨a, h, r.grow g⟩)) (stays_cons (Stays.eq _) (stays_cons (Stays.eq _) (stays_cons (Stays.eq _) (stays_cons (Stays.eq _) (stays_cons (Stays.eq _) (stays_cons (Stays.eq _) stays_nil)))))))))) ?step1 ?fin1
  case step1 =>
    rintro i hi x v gv hd K hK
    have hi8 : i = 0 ∨ i = 1 ∨ i = 2 ∨ i = 3 ∨ i = 4 ∨ i = 5 ∨ i = 6 ∨ i = 7 ∨ i = 8 ∨ i = 9 := by omega
    rcases hi8 with rfl | rfl | rfl | rfl | rfl | rfl | rfl | rfl | rfl | rfl
    · show wpOp Try.prog _ _ 0 K (⟨#[.int .i64 (h : Int), .pointer (some ⟨b1, 0, none⟩), .pointer (some ⟨b2, 0, none⟩), undef, .bool false, x 9, undef, x 6, x 0, x 1, x 2, x 3, x 4, x 5, x 7, x 8, undef], []⟩ : Act) v
      refine wpOp_step rfl (fun K' hK' => ?_)
      have q := gv.keep q1
      go_simp
      exact hK' _ _ (hK _ _ (Below.refl _ _) (at_of rfl (rfl)))
    · show wpOp Try.prog _ _ 1 K (⟨#[.int .i64 (h : Int), .pointer (some ⟨b1, 0, none⟩), .pointer (some ⟨b2, 0, none⟩), undef, .bool false, x 9, undef, x 6, x 0, x 1, x 2, x 3, x 4, x 5, x 7, x 8, undef], []⟩ : Act) v
      refine wpOp_step rfl (fun K' hK' => ?_)
      go_simp
      exact hK' _ _ (hK _ _ (Below.refl _ _) (at_of rfl (rfl)))
    · obtain ⟨x, rfl⟩ := upd_of (show x 1 = .int .i64 (h : Int) from hd 1 _ (by simp) rfl)
      show wpOp Try.prog _ _ 2 K (⟨#[.int .i64 (h : Int), .pointer (some ⟨b1, 0, none⟩), .pointer (some ⟨b2, 0, none⟩), undef, .bool false, x 9, undef, x 6, x 0, .int .i64 (h : Int), x 2, x 3, x 4, x 5, x 7, x 8, undef], []⟩ : Act) v
      refine wpOp_step rfl (fun K' hK' => ?_)
      go_simp
      exact hK' _ _ (hK _ _ (Below.refl _ _) (at_of rfl (rfl)))
    · obtain ⟨x, rfl⟩ := upd_of (show x 0 = .slice a 1 cap from hd 0 _ (by simp) rfl)
      obtain ⟨x, rfl⟩ := upd_of (show x 2 = .int .i64 ((h + 1 : Nat) : Int) from hd 2 _ (by simp) rfl)
      show wpOp Try.prog _ _ 3 K (⟨#[.int .i64 (h : Int), .pointer (some ⟨b1, 0, none⟩), .pointer (some ⟨b2, 0, none⟩), undef, .bool false, x 9, undef, x 6, .slice a 1 cap, x 1, .int .i64 ((h + 1 : Nat) : Int), x 3, x 4, x 5, x 7, x 8, undef], []⟩ : Act) v
      refine wpOp_step rfl (fun K' hK' => ?_)
      go_simp
      refine (repeat_one X (h + 1) (by omega) (by omega) a cap v (hr.grow gv)).mono ?_
      rintro e v' ⟨a3, rfl, hr3, hg⟩
      exact hK' _ _ (hK _ _ hg (at_of rfl (⟨_, rfl, hr3⟩)))
    · show wpOp Try.prog _ _ 4 K (⟨#[.int .i64 (h : Int), .pointer (some ⟨b1, 0, none⟩), .pointer (some ⟨b2, 0, none⟩), undef, .bool false, x 9, undef, x 6, x 0, x 1, x 2, x 3, x 4, x 5, x 7, x 8, undef], []⟩ : Act) v
      refine wpOp_step rfl (fun K' hK' => ?_)
      have q := gv.keep q2
      go_simp
      exact hK' _ _ (hK _ _ (Below.refl _ _) (at_of rfl (rfl)))
    · obtain ⟨a3, e3, r3⟩ := hd 3 _ (by simp) rfl
      obtain ⟨x, rfl⟩ := upd_of (show x 3 = .slice a3 (h + 1) (h + 1) from e3)
      obtain ⟨x, rfl⟩ := upd_of (show x 4 = .int .i64 keep from hd 4 _ (by simp) rfl)
      show wpOp Try.prog _ _ 5 K (⟨#[.int .i64 (h : Int), .pointer (some ⟨b1, 0, none⟩), .pointer (some ⟨b2, 0, none⟩), undef, .bool false, x 9, undef, x 6, x 0, x 1, x 2, .slice a3 (h + 1) (h + 1), .int .i64 keep, x 5, x 7, x 8, undef], []⟩ : Act) v
      refine wpOp_step rfl (fun K' hK' => ?_)
      go_simp
      have c := weak_any (List.replicate (h + 1) X) (by rw [hlen]; omega) hall keep k0 k1 a3 (h + 1) v r3
      rw [hlen, hwk] at c
      refine c.mono ?_
      rintro e v' ⟨rfl, hg⟩
      exact hK' _ _ (hK _ _ hg (at_of rfl (rfl)))
    · obtain ⟨x, rfl⟩ := upd_of (show x 5 = .tuple #[.int .i64 0, .bool d] from hd 5 _ (by simp) rfl)
      show wpOp Try.prog _ _ 6 K (⟨#[.int .i64 (h : Int), .pointer (some ⟨b1, 0, none⟩), .pointer (some ⟨b2, 0, none⟩), undef, .bool false, x 9, undef, x 6, x 0, x 1, x 2, x 3, x 4, .tuple #[.int .i64 0, .bool d], x 7, x 8, undef], []⟩ : Act) v
      refine wpOp_step rfl (fun K' hK' => ?_)
      go_simp
      exact hK' _ _ (hK _ _ (Below.refl _ _) (at_of rfl (rfl)))
    · obtain ⟨x, rfl⟩ := upd_of (show x 6 = .tuple #[.int .i64 0, .bool d] from hd 6 _ (by simp) rfl)
      show wpOp Try.prog _ _ 7 K (⟨#[.int .i64 (h : Int), .pointer (some ⟨b1, 0, none⟩), .pointer (some ⟨b2, 0, none⟩), undef, .bool false, x 9, undef, .tuple #[.int .i64 0, .bool d], x 0, x 1, x 2, x 3, x 4, x 5, x 7, x 8, undef], []⟩ : Act) v
      refine wpOp_step rfl (fun K' hK' => ?_)
      go_simp
      exact hK' _ _ (hK _ _ (Below.refl _ _) (at_of rfl (rfl)))
    · obtain ⟨x, rfl⟩ := upd_of (show x 6 = .tuple #[.int .i64 0, .bool d] from hd 6 _ (by simp) rfl)
      show wpOp Try.prog _ _ 8 K (⟨#[.int .i64 (h : Int), .pointer (some ⟨b1, 0, none⟩), .pointer (some ⟨b2, 0, none⟩), undef, .bool false, x 9, undef, .tuple #[.int .i64 0, .bool d], x 0, x 1, x 2, x 3, x 4, x 5, x 7, x 8, undef], []⟩ : Act) v
      refine wpOp_step rfl (fun K' hK' => ?_)
      go_simp
      exact hK' _ _ (hK _ _ (Below.refl _ _) (at_of rfl (rfl)))
    · obtain ⟨x, rfl⟩ := upd_of (show x 7 = .int .i64 0 from hd 7 _ (by simp) rfl)
      show wpOp Try.prog _ _ 9 K (⟨#[.int .i64 (h : Int), .pointer (some ⟨b1, 0, none⟩), .pointer (some ⟨b2, 0, none⟩), undef, .bool false, x 9, undef, x 6, x 0, x 1, x 2, x 3, x 4, x 5, .int .i64 0, x 8, undef], []⟩ : Act) v
      refine wpOp_step rfl (fun K' hK' => ?_)
      go_simp
      exact hK' _ _ (hK _ _ (Below.refl _ _) (at_of rfl (rfl)))
  case fin1 =>
    rintro x v gv hd
    obtain ⟨x, rfl⟩ := upd_of (show x 8 = .bool d from hd 8 _ (by omega) rfl)
    clear hd
    show wpList Try.prog _ _ (List.drop 10 _) (⟨#[.int .i64 (h : Int), .pointer (some ⟨b1, 0, none⟩), .pointer (some ⟨b2, 0, none⟩), undef, .bool false, x 9, undef, x 6, x 0, x 1, x 2, x 3, x 4, x 5, x 7, .bool d, undef], []⟩ : Act) v
    simp only [List.drop_succ_cons, List.drop_zero]
    go_wp2
    go_ret
    exact ⟨rfl, gv⟩

theorem mono_high {s h : Int} (h0 : 0 ≤ h) : ∀ a b : Int, 0 ≤ a → a ≤ b → b < 50 → decide (s < h * a) = true → decide (s < h * b) = true := fun a b ha hab _ hd => by
  have := Int.mul_le_mul_of_nonneg_left hab h0
  simp only [decide_eq_true_eq] at hd ⊢
  omega

theorem high_calls {x : Ld} (HX : Hid (LdOk x)) {B8 Bb : Nat} {keep : Int} {U W1 W2 : World} (O8 : Hid (Own U B8 [.slice (some ⟨Bb, 0, none⟩) 1 1])) (RB : Hid (LRow U (some ⟨Bb, 0, none⟩) [x])) (G1 : Hid (Gr U W1)) (G2 : Hid (Gr W1 W2)) (k0 : 0 ≤ keep) (k1 : keep ≤ 1000) :
    ∀ (h : Int) (W : World), Gr (W2.alloc (.cells #[.int .i64 keep] 3)) W → 0 ≤ h → h < 50 → Calls Try.prog 84 #[.int .i64 h, .pointer (some ⟨B8, 0, none⟩), .pointer (some ⟨W2.heap.size, 0, none⟩)] W fun e W' => e = .returned (.bool (decide (x.sl * keep / 1000 < x.wh * h))) ∧ Gr W W' := by
  intro h W g h0 h1
  obtain ⟨k, rfl⟩ : ∃ k : Nat, h = (k : Int) := ⟨h.toNat, by omega⟩
  have gg : Gr U W := ((G1.out.tr G2.out).tr (Gr.al _ _)).tr g
  exact highClosure x HX.out keep k0 k1 k (by omega) B8 W2.heap.size _ 1 W ((O8.out.keep gg).1.c1) (((Own.new W2 [.int .i64 keep] 3 _ rfl).keep g).1.c1) (RB.out.grow gg)

set_option maxRecDepth 100000 in
set_option maxHeartbeats 2000000 in
/-- High of what is valid: how many stand. -/
theorem high_ok (x : Ld) (hx : LdOk x) (t : List Stp) (days : Int) (hs : storedL 1 [x] t days = 0) (hn : t.length ≤ 1000000) (hp : t.Pairwise (fun x y => x.day ≤ y.day)) (h0 : 0 < (untilL t days).length) (h1 : (untilL t days).length ≤ t.length) (k0 : 0 ≤ lastL t days) (k1 : lastL t days ≤ 1000)
    (c : Option Addr) (cc : Nat) (hcc : t.length ≤ cc) (w : World) (ht : TRow w c t) :
    Calls Try.prog 43 #[.agg #[.int .i64 x.sl, .int .i64 x.sh, .int .i64 x.wl, .int .i64 x.wh], .slice c t.length cc, .int .i64 days] w fun e w' => ∃ r, e = .returned (.tuple #[.int .i64 r, .int .i64 0]) ∧ 0 ≤ r ∧ r ≤ 50 ∧ (∀ a, 0 ≤ a → a < r → decide (x.sl * lastL t days / 1000 < x.wh * a) = false) ∧ (∀ a, r ≤ a → a < 50 → decide (x.sl * lastL t days / 1000 < x.wh * a) = true) ∧ Gr w w' := by
  have hw0 : 0 ≤ x.wh := hx.1.2.2.1
  have HS := Lib.hid hs
  have HP := Lib.hid hp
  have HX := Lib.hid hx
  clear hs hp hx
  go_enter Try.func43, Try.ntmps43
  go_upto_region 2 with fail
  have gU := (Gr.al w (.cells #[.int .i64 x.sl, .int .i64 x.sh, .int .i64 x.wl, .int .i64 x.wh] 70)).tr ((Gr.al _ (.cells #[.int .i64 x.sl, .int .i64 x.sh, .int .i64 x.wl, .int .i64 x.wh] 70)).tr (Gr.al _ (.cells #[.slice (some ⟨w.heap.size + 1, 0, none⟩) 1 1] 53)))
  have oB := (Own.new (w.alloc (.cells #[.int .i64 x.sl, .int .i64 x.sh, .int .i64 x.wl, .int .i64 x.wh] 70)) [.int .i64 x.sl, .int .i64 x.sh, .int .i64 x.wl, .int .i64 x.wh] 70 (w.heap.size + 1) (by simp)).keep (Gr.al _ (.cells #[.slice (some ⟨w.heap.size + 1, 0, none⟩) 1 1] 53))
  have o8 := Own.new ((w.alloc (.cells #[.int .i64 x.sl, .int .i64 x.sh, .int .i64 x.wl, .int .i64 x.wh] 70)).alloc (.cells #[.int .i64 x.sl, .int .i64 x.sh, .int .i64 x.wl, .int .i64 x.wh] 70)) [.slice (some ⟨w.heap.size + 1, 0, none⟩) 1 1] 53 (w.heap.size + 1 + 1) (by simp)
  refine wp_abs (fun U => Gr w U ∧ Own U (w.heap.size + 1) [.int .i64 x.sl, .int .i64 x.sh, .int .i64 x.wl, .int .i64 x.wh] ∧ Own U (w.heap.size + 1 + 1) [.slice (some ⟨w.heap.size + 1, 0, none⟩) 1 1]) ⟨gU, oB, o8⟩ ?_
  clear gU oB o8
  rintro U ⟨gU, oB, o8⟩
  have rB : LRow U (some ⟨w.heap.size + 1, 0, none⟩) [x] := by
    refine ⟨by simp, fun j y hy => ?_⟩
    have hj : j = 0 := by
      have := (List.getElem?_eq_some_iff.1 hy).1
      simpa using this
    subst hj
    have ey : x = y := by simpa using hy
    subst ey
    exact ⟨_, _, rfl, oB.1.1, fun i v hv => by simpa using oB.1.2 i v hv⟩
  have q8 := o8.1.c1
  have RB := Lib.hid rB
  have O8 := Lib.hid o8
  have GU := Lib.hid gU
  clear oB o8 rB gU
  have cS : ∀ W, Gr U W → Calls Try.prog 75 #[.slice (some ⟨w.heap.size + 1, 0, none⟩) 1 1, .int .i64 1, .slice c t.length cc, .int .i64 days] W fun e w' => e = .returned (.int .i64 0) ∧ Gr W w' := fun W g => by
    have h := stored_any 1 [x] t days (some ⟨w.heap.size + 1, 0, none⟩) c 1 cc W (RB.out.grow g) (ht.grow (GU.out.tr g))
    rw [HS.out] at h
    exact h
  have CS := Lib.hid cS
  clear cS
  go_wp2_with (first
    | (go_at_call 75; refine (CS.out _ (Below.refl _ _)).mono ?_; rintro e w1 ⟨rfl, g1⟩; have G1 := Lib.hid g1; clear g1)
    | (go_at_call 82; refine (last_any t days hn HP.out h0 h1 c cc hcc _ (ht.grow (GU.out.tr G1.out))).mono ?_; rintro e w2 ⟨rfl, g2⟩; have G2 := Lib.hid g2; clear g2)
    | (go_at_call 83; refine (search2 50 (by omega) (by omega) (fun a => decide (x.sl * lastL t days / 1000 < x.wh * a)) (mono_high hw0) 84 (.pointer (some ⟨w.heap.size + 1 + 1, 0, none⟩)) (.pointer (some ⟨w2.heap.size, 0, none⟩)) _ callHigh (high_calls HX O8 RB G1 G2 k0 k1)).mono ?_; rintro e w3 ⟨r, rfl, r0, r1, hlo, hhi, g3⟩))
  go_ret2
  exact ⟨r, rfl, r0, r1, hlo, hhi, ((GU.out.tr (G1.out.tr G2.out)).tr (Gr.al _ _)).tr g3⟩

end Go.Proofs.Ytjdeojpapdphoaa

namespace Go.Proofs.Ytjdeojpapdphoaa
set_option linter.unusedVariables false
set_option linter.unusedSimpArgs false
open Go.RowKit

theorem armSpan_any (a b : Int) (w : World) :
    Calls Try.prog 31 #[.int .i64 a, .int .i64 b] w fun e w' => e = .returned (.agg #[.int .i64 a, .int .i64 b]) ∧ Gr w w' := by
  go_enter Try.func31, Try.ntmps31
  go_wp2
  exact bodyPost_ret (v := .agg #[.int .i64 a, .int .i64 b]) (by simp [results, Try.results31, go_sem]) rfl ⟨rfl, Gr.al _ _⟩

end Go.Proofs.Ytjdeojpapdphoaa

namespace Go.Proofs.Ytjdeojpapdphoaa
set_option linter.unusedVariables false
set_option linter.unusedSimpArgs false
open Go.RowKit

theorem strong_lo : strongB 1600 587 5000 4000 = 74226 := by
  unfold strongB
  rw [show (4000 : Int) * 1600 = 6400000 from rfl, rootL_is (n := 6400000) (r := 2529) (by omega) (by omega) (by omega) (by omega)]
  rfl

theorem strong_hi : strongB 1600 587 6000 4200 = 91290 := by
  unfold strongB
  rw [show (4200 : Int) * 1600 = 6720000 from rfl, rootL_is (n := 6720000) (r := 2592) (by omega) (by omega) (by omega) (by omega)]
  rfl

theorem crush1 (w : World) : Calls Try.prog 29 #[.agg #[.int .i64 5000, .int .i64 6000, .int .i64 4000, .int .i64 4200, .int .i64 1600, .int .i64 587]] w fun e w' => e = .returned (.tuple #[.agg #[.int .i64 74226, .int .i64 91290], .int .i64 0]) ∧ Gr w w' := by
  have h := crushStrength_ok 5000 6000 4000 4200 1600 587 (by decide +kernel) w
  rw [strong_lo, strong_hi] at h
  exact h

def ld0 : Ld := ⟨300, 320, 100, 110⟩

def ts0 : List Stp := [⟨0, 1000⟩, ⟨10, 800⟩, ⟨30, 600⟩]

theorem stored0 : storedL 1 [ld0] ts0 10 = 0 := by decide +kernel

theorem until0 : (untilL ts0 10).length = 2 := by decide +kernel

theorem last0 : lastL ts0 10 = 800 := by decide +kernel

theorem high1 (c : Option Addr) (w : World) (ht : TRow w c ts0) : Calls Try.prog 43 #[.agg #[.int .i64 300, .int .i64 320, .int .i64 100, .int .i64 110], .slice c 3 3, .int .i64 10] w fun e w' => e = .returned (.tuple #[.int .i64 3, .int .i64 0]) ∧ Gr w w' := by
  have h := high_ok ld0 (by simp [LdOk, LdB, ld0]) ts0 10 stored0 (by simp [ts0]) (by simp [ts0]) (by rw [until0]; omega) (by rw [until0]; simp [ts0]) (by rw [last0]; omega) (by rw [last0]; omega) c 3 (by simp [ts0]) w ht
  rw [last0] at h
  refine h.mono ?_
  rintro e w' ⟨r, rfl, r0, r1, hlo, hhi, g⟩
  obtain rfl : r = 3 := by
    rcases Int.lt_trichotomy r 3 with h | h | h
    · have := hhi 2 (by omega) (by omega)
      simp [ld0] at this
    · exact h
    · have := hlo 3 (by omega) h
      simp [ld0] at this
  exact ⟨rfl, g⟩

end Go.Proofs.Ytjdeojpapdphoaa

namespace Go.Proofs.Ytjdeojpapdphoaa
set_option linter.unusedVariables false
set_option linter.unusedSimpArgs false
open Go.RowKit

theorem RowOf.lit31 {α : Type} {enc : α → List Value} {sz : Nat} (he : ∀ x, (enc x).length = sz) (w : World) (t : TypeId) (l : List α) (hl : l.length ≤ 9223372036854775807) (cs : Array Value) (hcs : cs = (l.flatMap enc).toArray) (n : Nat) (hn : n = w.heap.size) : RowOf sz enc (w.alloc (.cells cs t)) (some ⟨n, 0, none⟩) l := by
  subst hn hcs
  refine ⟨hl, fun j x hx => ⟨w.heap.size, 0, rfl, by simp, fun i v hv => ?_⟩⟩
  have hf := flat_get he l j i x v hx hv
  refine new_cell w _ t ?_
  simpa using hf

theorem RowOf.take31 {α : Type} {enc : α → List Value} {sz : Nat} {w : World} {a : Option Addr} {l : List α} (h : RowOf sz enc w a l) (n : Nat) : RowOf sz enc w a (l.take n) :=
  ⟨by have := h.1; rw [List.length_take]; omega, fun j x hx => h.2 j x (by
    rw [List.getElem?_take] at hx
    split at hx
    · exact hx
    · cases hx)⟩

set_option maxRecDepth 100000 in
theorem load_any (a b c d : Int) (w : World) :
    Calls Try.prog 57 #[.int .i64 a, .int .i64 b, .int .i64 c, .int .i64 d] w fun e w' => e = .returned (.agg #[.int .i64 a, .int .i64 b, .int .i64 c, .int .i64 d]) ∧ Gr w w' := by
  have o8 := Own.new w [.int .i64 0, .int .i64 0, .int .i64 0, .int .i64 0] 70 w.heap.size rfl
  have gg := Gr.al w (.cells #[.int .i64 0, .int .i64 0, .int .i64 0, .int .i64 0] 70)
  have tok0 : True := trivial
  go_enter Try.func57, Try.ntmps57
  go_wp2_with (first
    | (have _t := tok0; clear tok0 _t; go_at_call 31; refine (armSpan_any a b _).mono ?_; rintro e w1 ⟨rfl, g1⟩)
    | (go_at_call 31; refine (armSpan_any c d _).mono ?_; rintro e w2 ⟨rfl, g2⟩; have oX := o8.keep (g1.tr g2); (obtain ⟨q0, q1, q2, q3⟩ := oX.1.c4'); have z0 := oX.2 0; have z1 := oX.2 1; have z2 := oX.2 2; have z3 := oX.2 3))
  have oZ := (((oX.set (i := 0) (v := .int .i64 a) (by simp)).set (i := 1) (v := .int .i64 b) (by simp)).set (i := 2) (v := .int .i64 c) (by simp)).set (i := 3) (v := .int .i64 d) (by simp)
  obtain ⟨y0, y1, y2, y3⟩ := oZ.1.c4'
  exact bodyPost_ret (v := .agg #[.int .i64 a, .int .i64 b, .int .i64 c, .int .i64 d]) (by simp [results, Try.results57, go_sem, y0, y1, y2, y3]) rfl ⟨rfl, (((((gg.tr (g1.tr g2)).setCell (Nat.le_refl _) _).setCell (Nat.le_refl _) _).setCell (Nat.le_refl _) _).setCell (Nat.le_refl _) _)⟩

set_option maxRecDepth 100000 in
theorem table_any (w : World) :
    Calls Try.prog 58 #[] w fun e w' => ∃ a, e = .returned (.slice a 3 3) ∧ TRow w' a ts0 ∧ Gr w w' := by
  have r1 : TRow _ _ ts0 := RowOf.lit31 (enc := encT) (sz := 2) (fun _ => rfl) w 136 ts0 (by simp [ts0]) #[.int .i64 0, .int .i64 1000, .int .i64 10, .int .i64 800, .int .i64 30, .int .i64 600] (by rfl) w.heap.size rfl
  go_enter Try.func58, Try.ntmps58
  go_wp2
  go_ret
  exact ⟨_, rfl, r1, Gr.al _ _⟩

set_option maxRecDepth 100000 in
set_option maxHeartbeats 1000000 in
theorem same_any (l m : List Int) (a b : Option Addr) (c d : Nat) (w : World) (hl : IRow w a l) (hm : IRow w b m) :
    Calls Try.prog 22 #[.slice a l.length c, .slice b m.length d] w fun e w' => e = .returned (.bool (decide (l = m))) ∧ Gr w w' := by
  have hl0 := hl.1
  have hm0 := hm.1
  by_cases hlen : l.length = m.length
  · have hb : ((l.length : Int) != (m.length : Int)) = false := by rw [bne_eq_false_iff_eq]; omega
    go_enter Try.func22, Try.ntmps22
    go_wp2
    go_loopw [5] (fun t wr => Hid (∃ k : Nat, k ≤ l.length ∧ t = .int .i64 k ∧ Gr w wr ∧ l.take k = m.take k)) (fun t _ => l.length - (intOf t).toNat)
    case atStart => exact Lib.hid ⟨0, Nat.zero_le _, rfl, Below.refl _ _, by simp⟩
    case round =>
      obtain ⟨k, hk, rfl, gW, ht⟩ := hrel.out
      clear hrel
      by_cases hlt : k < l.length
      · obtain ⟨x, hx⟩ : ∃ x, l[k]? = some x := ⟨l[k], by simp [hlt]⟩
        obtain ⟨y, hy⟩ : ∃ y, m[k]? = some y := ⟨m[k], by simp [show k < m.length by omega]⟩
        obtain ⟨b1, o1, rfl, h1, c1⟩ := IRow.get (hl.grow gW) hx
        obtain ⟨b2, o2, rfl, h2, c2⟩ := IRow.get (hm.grow gW) hy
        have hlt2 : k < m.length := by omega
        by_cases hxy : x = y
        · have hne : (x != y) = false := by simpa using hxy
          have ht' : l.take (k + 1) = m.take (k + 1) := by rw [List.take_add_one, List.take_add_one, hx, hy, ht, hxy]
          have HT := Lib.hid ht'
          clear ht ht' hx hy hxy
          go_upto_region 6 with fail
          go_quiet (fail)
          go_wp2
          go_roundw
          case rel => exact Lib.hid ⟨k + 1, by omega, by go_num, Gr.drewN gW _, HT.out⟩
          case measure => simp [intOf]; omega
        · have hne : (x != y) = true := by simpa using hxy
          have hD : decide (l = m) = false := by
            rw [decide_eq_false_iff_not]
            intro e
            subst e
            rw [hx] at hy
            cases hy
            exact hxy rfl
          have HD := Lib.hid hD
          clear ht hx hy hxy hD
          go_upto_region 6 with fail
          go_quiet (fail)
          go_wp2
          go_ret
          exact ⟨ret_bool HD.out.symm, Gr.drewN gW _⟩
      · obtain rfl : k = l.length := by omega
        rw [List.take_length, hlen, List.take_length] at ht
        have hD : decide (l = m) = true := by simpa using ht
        have HD := Lib.hid hD
        clear ht hD
        go_wp2
        go_ret
        exact ⟨ret_bool HD.out.symm, gW⟩
  · have hb : ((l.length : Int) != (m.length : Int)) = true := by rw [bne_iff_ne]; omega
    have hD : decide (l = m) = false := by
      rw [decide_eq_false_iff_not]
      intro e
      exact hlen (by rw [e])
    have HD := Lib.hid hD
    clear hD
    go_enter Try.func22, Try.ntmps22
    go_wp2
    go_ret
    exact ⟨ret_bool HD.out.symm, Below.refl _ _⟩

end Go.Proofs.Ytjdeojpapdphoaa

namespace Go.Proofs.Ytjdeojpapdphoaa
set_option linter.unusedVariables false
set_option linter.unusedSimpArgs false
open Go.RowKit

def rd1 : List Int := [120, 110, 90]

def rd2 : List Int := [120, 110, 70, 60]

def rd3 : List Int := [100, 130, 104, 98]

def st3 : List Ld := [ld0, ld0, ld0]

def or3 : List Ld := [⟨100, 100, 50, 50⟩, ⟨200, 200, 100, 100⟩, ⟨40, 40, 60, 60⟩]

def mo3 : List Ld := [⟨100, 100, 50, 50⟩, ⟨40, 40, 60, 60⟩, ⟨50, 50, 60, 60⟩]

def ts1 : List Stp := [⟨0, 1000⟩]

theorem ex_dec1 (b o c : Nat) (w : World) (hr : IRow w (some ⟨b, o, none⟩) rd1) : Calls Try.prog 19 #[.agg #[.int .i64 5, .int .i64 100, .int .i64 80, .int .i64 1], .slice (some ⟨b, o, none⟩) 3 c, .int .i64 5] w fun e w' => e = .returned (.tuple #[.int .i64 3, .int .i64 0]) ∧ Gr w w' := by
  have h := decide_ok 5 100 80 1 5 rd1 (by decide +kernel) (some ⟨b, o, none⟩) c w hr (fun e => by cases e)
  rw [show stateL 5 100 80 1 (truthsL (Int.toNat 5) 5 rd1) = 3 from by decide +kernel] at h
  exact h

theorem ex_dec2 (b o c : Nat) (w : World) (hr : IRow w (some ⟨b, o, none⟩) rd2) : Calls Try.prog 19 #[.agg #[.int .i64 5, .int .i64 100, .int .i64 80, .int .i64 1], .slice (some ⟨b, o, none⟩) 4 c, .int .i64 5] w fun e w' => e = .returned (.tuple #[.int .i64 2, .int .i64 0]) ∧ Gr w w' := by
  have h := decide_ok 5 100 80 1 5 rd2 (by decide +kernel) (some ⟨b, o, none⟩) c w hr (fun e => by cases e)
  rw [show stateL 5 100 80 1 (truthsL (Int.toNat 5) 5 rd2) = 2 from by decide +kernel] at h
  exact h

theorem ex_need (b o c : Nat) (w : World) (hr : IRow w (some ⟨b, o, none⟩) rd1) : Calls Try.prog 20 #[.agg #[.int .i64 5, .int .i64 100, .int .i64 80, .int .i64 1], .slice (some ⟨b, o, none⟩) 3 c, .int .i64 5] w fun e w' => e = .returned (.tuple #[.int .i64 1, .int .i64 2, .int .i64 0]) ∧ Gr w w' := by
  have h := needF_ok 5 100 80 1 5 rd1 (by decide +kernel) (some ⟨b, o, none⟩) c w hr (fun e => by cases e)
  rw [show needL (Int.toNat 5) 100 80 1 5 rd1 1 100000 = 1 from by decide +kernel, show needL (Int.toNat 5) 100 80 1 5 rd1 2 0 = 2 from by decide +kernel] at h
  exact h

theorem ex_odd (b o c : Nat) (w : World) (hr : IRow w (some ⟨b, o, none⟩) rd3) : Calls Try.prog 27 #[.slice (some ⟨b, o, none⟩) 4 c, .int .i64 5, .int .i64 10] w fun e w' => ∃ a d, e = .returned (.tuple #[.slice a 1 d, .int .i64 0]) ∧ IRow w' a [1] ∧ Gr w w' := by
  have h := oddF_ok 5 10 rd3 (by decide) (by decide +kernel) (by decide +kernel) (by decide +kernel) (some ⟨b, o, none⟩) c w hr
  rw [show oddTo 5 10 rd3 rd3.length = [1] from by decide +kernel] at h
  exact h

theorem ex_loads (b o c : Nat) (w : World) (hr : LRow w (some ⟨b, o, none⟩) st3) : Calls Try.prog 35 #[.slice (some ⟨b, o, none⟩) 3 c] w fun e w' => ∃ a d, e = .returned (.tuple #[.slice a 3 d, .int .i64 0]) ∧ SRow w' a [⟨200, 220⟩, ⟨100, 110⟩, ⟨0, 0⟩] ∧ Gr w w' := by
  have h := loads_ok st3 (by decide +kernel) (some ⟨b, o, none⟩) c w hr
  rw [show spansL st3 = [⟨200, 220⟩, ⟨100, 110⟩, ⟨0, 0⟩] from rfl] at h
  exact h

theorem ex_fall1 (b o c : Nat) (a : Option Addr) (w : World) (hr : LRow w (some ⟨b, o, none⟩) st3) (ht : TRow w a ts0) : Calls Try.prog 36 #[.slice (some ⟨b, o, none⟩) 3 c, .slice a 3 3, .int .i64 40] w fun e w' => e = .returned (.tuple #[.int .i64 30, .int .i64 0, .int .i64 0]) ∧ Gr w w' := by
  have h := fall_ok st3 ts0 40 (by decide +kernel) (some ⟨b, o, none⟩) a c 3 (by decide) w hr ht
  rw [show fallV st3 ts0 40 = .tuple #[.int .i64 30, .int .i64 0, .int .i64 0] from by kernel_rfl] at h
  exact h

theorem ex_fall2 (b o c : Nat) (a : Option Addr) (w : World) (hr : LRow w (some ⟨b, o, none⟩) st3) (ht : TRow w a ts0) : Calls Try.prog 36 #[.slice (some ⟨b, o, none⟩) 3 c, .slice a 3 3, .int .i64 29] w fun e w' => e = .returned (.tuple #[.int .i64 0, .int .i64 0, .int .i64 7]) ∧ Gr w w' := by
  have h := fall_ok st3 ts0 29 (by decide +kernel) (some ⟨b, o, none⟩) a c 3 (by decide) w hr ht
  rw [show fallV st3 ts0 29 = .tuple #[.int .i64 0, .int .i64 0, .int .i64 7] from by kernel_rfl] at h
  exact h

theorem ex_order (b o c : Nat) (a : Option Addr) (w : World) (hr : LRow w (some ⟨b, o, none⟩) or3) (ht : TRow w a ts1) : Calls Try.prog 45 #[.slice (some ⟨b, o, none⟩) 3 c, .slice a 1 1, .int .i64 0] w fun e w' => ∃ d n, e = .returned (.tuple #[.slice d 3 n, .int .i64 0]) ∧ IRow w' d [1, 0, 2] ∧ Gr w w' := by
  have h := order_some or3 ts1 0 (by decide +kernel) (by decide +kernel) (some ⟨b, o, none⟩) a c 1 (by decide) w hr ht
  rw [show orderL or3 (lastL ts1 0) (setsL or3 ts1 0) (allN or3) = [1, 0, 2] from by decide +kernel] at h
  exact h

theorem ex_most (b o c : Nat) (a : Option Addr) (w : World) (hr : LRow w (some ⟨b, o, none⟩) mo3) (ht : TRow w a ts1) : Calls Try.prog 46 #[.slice (some ⟨b, o, none⟩) 3 c, .slice a 1 1, .int .i64 0] w fun e w' => ∃ d n, e = .returned (.tuple #[.slice d 2 n, .int .i64 0]) ∧ IRow w' d [0, 1] ∧ Gr w w' := by
  have h := most_ok mo3 ts1 0 (by decide +kernel) (some ⟨b, o, none⟩) a c 1 (by decide) w hr ht
  rw [show mostTo (setsL mo3 ts1 0) (allN mo3 + 1) = [0, 1] from by decide +kernel] at h
  exact h

end Go.Proofs.Ytjdeojpapdphoaa

namespace Go.Proofs.Ytjdeojpapdphoaa
set_option linter.unusedVariables false
set_option linter.unusedSimpArgs false
open Go.RowKit


set_option maxRecDepth 100000 in
set_option maxHeartbeats 8000000 in
theorem known_any (w : World) : Calls Try.prog 16 #[] w fun e w' => e = .returned (.bool true) ∧ Gr w w' := by
  go_enter Try.func16, Try.ntmps16
  go_upto_region 2 with (go_at_call 57; refine (load_any 300 320 100 110 _).mono ?_; rintro e w1 ⟨rfl, g1⟩)
  obtain ⟨B1, hB1⟩ : ∃ B1, B1 = w1.heap.size := ⟨_, rfl⟩
  have b1 := (Box.new w1 [.int .i64 5, .int .i64 100, .int .i64 80, .int .i64 1] 23 B1 hB1).keep (Gr.al _ (.cells #[.int .i64 300, .int .i64 320, .int .i64 100, .int .i64 110] 70))
  have b2 := Box.new (w1.alloc (.cells #[.int .i64 5, .int .i64 100, .int .i64 80, .int .i64 1] 23)) [.int .i64 300, .int .i64 320, .int .i64 100, .int .i64 110] 70 (B1 + 1) (by simp [hB1])
  have gX := g1.tr ((Gr.al w1 (.cells #[.int .i64 5, .int .i64 100, .int .i64 80, .int .i64 1] 23)).tr (Gr.al _ (.cells #[.int .i64 300, .int .i64 320, .int .i64 100, .int .i64 110] 70)))
  rw [← hB1]
  refine wp_abs (fun X => Gr w X ∧ Box X B1 [.int .i64 5, .int .i64 100, .int .i64 80, .int .i64 1] ∧ Box X (B1 + 1) [.int .i64 300, .int .i64 320, .int .i64 100, .int .i64 110]) ⟨gX, b1, b2⟩ ?_
  clear gX b1 b2 hB1 g1
  rintro X ⟨gX, b1, b2⟩
  obtain ⟨q0, q1, q2, q3⟩ := b1.c4'
  go_upto_region 3 with (go_at_call 19; refine (ex_dec1 _ _ _ _ (IRow.new' X 3 rd1 (by decide) _ (by rfl) _ (by rfl))).mono ?_; rintro e w2 ⟨rfl, g⟩)
  replace g := (Gr.al X (.cells #[.int .i64 120, .int .i64 110, .int .i64 90] 3)).tr g
  replace gX := gX.tr g
  replace b1 := b1.keep g
  replace b2 := b2.keep g
  clear q0 q1 q2 q3 g
  obtain ⟨q0, q1, q2, q3⟩ := b1.c4'
  go_upto_region 4 with (go_at_call 19; refine (ex_dec2 _ _ _ _ (IRow.new' w2 3 rd2 (by decide) _ (by rfl) _ (by rfl))).mono ?_; rintro e w3 ⟨rfl, g⟩)
  replace g := (Gr.al w2 (.cells #[.int .i64 120, .int .i64 110, .int .i64 70, .int .i64 60] 3)).tr g
  replace gX := gX.tr g
  replace b1 := b1.keep g
  replace b2 := b2.keep g
  clear q0 q1 q2 q3 g
  obtain ⟨q0, q1, q2, q3⟩ := b1.c4'
  go_upto_region 5 with (go_at_call 20; refine (ex_need _ _ _ _ (IRow.new' w3 3 rd1 (by decide) _ (by rfl) _ (by rfl))).mono ?_; rintro e w4 ⟨rfl, g⟩)
  replace g := (Gr.al w3 (.cells #[.int .i64 120, .int .i64 110, .int .i64 90] 3)).tr g
  replace gX := gX.tr g
  replace b1 := b1.keep g
  replace b2 := b2.keep g
  clear q0 q1 q2 q3 g
  go_upto_region 6 with (go_at_call 27; refine (ex_odd _ _ _ _ (IRow.new' w4 3 rd3 (by decide) _ (by rfl) _ (by rfl))).mono ?_; rintro e w5 ⟨a10, d10, rfl, r10, g⟩)
  replace g := (Gr.al w4 (.cells #[.int .i64 100, .int .i64 130, .int .i64 104, .int .i64 98] 3)).tr g
  replace gX := gX.tr g
  replace b1 := b1.keep g
  replace b2 := b2.keep g
  clear g
  obtain ⟨A10, O10, rfl, _⟩ := r10.addr (by decide)
  have tok0 : True := trivial
  go_upto_region 7 with (first
    | (have _t := tok0; clear tok0 _t; go_at_call 31; refine (armSpan_any 5000 6000 _).mono ?_; rintro e w6 ⟨rfl, g6⟩)
    | (go_at_call 31; refine (armSpan_any 4000 4200 _).mono ?_; rintro e w7 ⟨rfl, g7⟩)
    | (go_at_call 29; refine (crush1 _).mono ?_; rintro e w8 ⟨rfl, g8⟩))
  obtain ⟨B12, hB12⟩ : ∃ B12, B12 = w8.heap.size := ⟨_, rfl⟩
  have b12 := Box.new w8 [.int .i64 74226, .int .i64 91290] 45 B12 hB12
  have g := (g6.tr (g7.tr g8)).tr (Gr.al w8 (.cells #[.int .i64 74226, .int .i64 91290] 45))
  rw [← hB12]
  refine wp_abs (fun Y => Gr w Y ∧ Box Y B1 [.int .i64 5, .int .i64 100, .int .i64 80, .int .i64 1] ∧ Box Y (B1 + 1) [.int .i64 300, .int .i64 320, .int .i64 100, .int .i64 110] ∧ IRow Y (some ⟨A10, O10, none⟩) [1] ∧ Box Y B12 [.int .i64 74226, .int .i64 91290]) ⟨gX.tr g, b1.keep g, b2.keep g, r10.grow g, b12⟩ ?_
  clear gX b1 b2 r10 b12 g g6 g7 g8 hB12
  rintro Y ⟨gX, b1, b2, r10, b12⟩
  obtain ⟨p0, p1, p2, p3⟩ := b2.c4'
  go_upto_region 8 with (go_at_call 35; refine (ex_loads _ _ _ _ (RowOf.lit31 (enc := encL) (sz := 4) (fun _ => rfl) Y 70 st3 (by decide) #[.int .i64 300, .int .i64 320, .int .i64 100, .int .i64 110, .int .i64 300, .int .i64 320, .int .i64 100, .int .i64 110, .int .i64 300, .int .i64 320, .int .i64 100, .int .i64 110] (by rfl) _ rfl)).mono ?_; rintro e w9 ⟨a14, d14, rfl, r14, g⟩)
  replace g := (Gr.al Y (.cells #[.int .i64 300, .int .i64 320, .int .i64 100, .int .i64 110, .int .i64 300, .int .i64 320, .int .i64 100, .int .i64 110, .int .i64 300, .int .i64 320, .int .i64 100, .int .i64 110] 70)).tr g
  replace gX := gX.tr g
  replace b2 := b2.keep g
  replace r10 := r10.grow g
  replace b12 := b12.keep g
  clear g b1 p0 p1 p2 p3
  obtain ⟨A14, O14, rfl, _⟩ := r14.addr (by decide)
  refine (show (∀ s : Nat → Value, Code.wp Try.prog _ _ ⟨#[.bool false, .pointer (some ⟨B1, 0, none⟩), .pointer (some ⟨(B1 + 1), 0, none⟩), .int .i64 3, .int .i64 0, .int .i64 2, .int .i64 0, .int .i64 1, .int .i64 2, .int .i64 0, .slice (some ⟨A10, O10, none⟩) 1 d10, .int .i64 0, .pointer (some ⟨B12, 0, none⟩), .int .i64 0, .slice (some ⟨A14, O14, none⟩) 3 d14, .int .i64 0, undef, undef, undef, undef, undef, undef, undef, undef, undef, undef, undef, undef, s 28, s 29, s 30, s 31, s 32, s 33, s 34, s 35, s 36, s 37, s 38, s 39, s 40, s 41, s 42, s 43, s 44, s 45, s 46, s 47, s 48, s 49, s 50, s 51, s 52, s 53, s 54, s 55, s 56, s 57, s 58, s 59, s 60, s 61, s 62, s 63, s 64, s 65, s 66, s 67, s 68, undef, undef, undef, undef, undef, undef, undef, undef, undef, undef, undef, undef, undef, undef, undef, undef, undef, undef, undef, undef, undef, undef, undef, undef, undef, undef, undef, undef, undef, undef, undef, undef, undef, undef, undef, undef, undef, undef, undef, undef, undef, undef, undef, undef, undef, undef, undef, undef, undef, undef, undef, undef, undef, undef, undef, undef, undef, undef, undef, undef, undef, undef, undef, undef, undef, undef, undef, undef, undef, undef, undef, undef, undef, undef, undef, undef, undef, undef, undef, undef, undef, undef, undef, undef, undef, undef, undef, undef, undef, undef, undef, undef, undef, undef, undef, undef, undef, undef, undef, undef, undef, undef, undef, undef, undef, undef, undef, undef, undef, undef, undef, undef, undef, undef, undef, undef, undef, undef, undef, undef, undef, undef, undef, undef, undef, undef, undef, undef, undef, undef, undef, undef, undef, undef, undef, undef, undef, undef, undef, undef, undef, undef, undef, undef, undef, undef, undef, undef, undef, undef, undef, undef, undef], []⟩ _) → _ from fun h => h ((fun l : List Value => fun i => l.getD i undef) [undef, undef, undef, undef, undef, undef, undef, undef, undef, undef, undef, undef, undef, undef, undef, undef, undef, undef, undef, undef, undef, undef, undef, undef, undef, undef, undef, undef, _, _, _, _, _, _, _, _, _, _, _, _, _, _, _, _, _, _, _, _, _, _, _, _, _, _, _, _, _, _, _, _, _, _, _, _, _, _, _, _, _])) ?_
  intro s
  dsimp only
  refine wp_region_facts 12 [(3, 0), (3, 1), (3, 2), (5, 3), (5, 4), (6, 5), (7, 6), (8, 6), (9, 6), (10, 7), (11, 8)] (fun x => ⟨#[.bool false, .pointer (some ⟨B1, 0, none⟩), .pointer (some ⟨(B1 + 1), 0, none⟩), .int .i64 3, .int .i64 0, .int .i64 2, .int .i64 0, .int .i64 1, .int .i64 2, .int .i64 0, .slice (some ⟨A10, O10, none⟩) 1 d10, .int .i64 0, .pointer (some ⟨B12, 0, none⟩), .int .i64 0, .slice (some ⟨A14, O14, none⟩) 3 d14, .int .i64 0, x 10, x 11, undef, undef, undef, undef, undef, undef, undef, undef, undef, undef, s 28, s 29, s 30, s 31, s 32, s 33, s 34, s 35, s 36, s 37, s 38, s 39, s 40, s 41, s 42, s 43, s 44, s 45, s 46, s 47, s 48, s 49, s 50, s 51, s 52, s 53, s 54, s 55, s 56, s 57, s 58, s 59, s 60, s 61, s 62, s 63, s 64, s 65, s 66, s 67, s 68, x 6, x 0, x 1, x 2, x 3, x 4, x 5, x 7, x 8, x 9, undef, undef, undef, undef, undef, undef, undef, undef, undef, undef, undef, undef, undef, undef, undef, undef, undef, undef, undef, undef, undef, undef, undef, undef, undef, undef, undef, undef, undef, undef, undef, undef, undef, undef, undef, undef, undef, undef, undef, undef, undef, undef, undef, undef, undef, undef, undef, undef, undef, undef, undef, undef, undef, undef, undef, undef, undef, undef, undef, undef, undef, undef, undef, undef, undef, undef, undef, undef, undef, undef, undef, undef, undef, undef, undef, undef, undef, undef, undef, undef, undef, undef, undef, undef, undef, undef, undef, undef, undef, undef, undef, undef, undef, undef, undef, undef, undef, undef, undef, undef, undef, undef, undef, undef, undef, undef, undef, undef, undef, undef, undef, undef, undef, undef, undef, undef, undef, undef, undef, undef, undef, undef, undef, undef, undef, undef, undef, undef, undef, undef, undef, undef, undef, undef, undef, undef, undef, undef, undef, undef, undef, undef, undef], []⟩) (fun _ => undef) [fun _ x => x = .agg #[.int .i64 300, .int .i64 320, .int .i64 100, .int .i64 110], fun _ x => x = .agg #[.int .i64 300, .int .i64 320, .int .i64 100, .int .i64 110], fun _ x => x = .agg #[.int .i64 300, .int .i64 320, .int .i64 100, .int .i64 110], fun v x => ∃ b, x = .slice (some ⟨b, 0, none⟩) 3 3 ∧ LRow v (some ⟨b, 0, none⟩) st3, fun v x => ∃ a, x = .slice a 3 3 ∧ TRow v a ts0, fun _ x => x = .tuple #[.int .i64 30, .int .i64 0, .int .i64 0], fun _ x => x = .tuple #[.int .i64 30, .int .i64 0, .int .i64 0], fun _ x => x = .int .i64 30, fun _ x => x = .int .i64 0, fun _ x => x = .int .i64 0, fun _ x => x = .int .i64 30, fun _ x => x = .int .i64 0] (by rfl) (by kernel_rfl) (by kernel_rfl) (by kernel_rfl) (stays_cons (Stays.eq _) (stays_cons (Stays.eq _) (stays_cons (Stays.eq _) (stays_cons ((show Stays (fun v x => ∃ b, x = .slice (some ⟨b, 0, none⟩) 3 3 ∧ LRow v (some ⟨b, 0, none⟩) st3) from fun v v' x g ⟨b, h, r⟩ => ⟨b, h, r.grow g⟩)) (stays_cons ((show Stays (fun v x => ∃ a, x = .slice a 3 3 ∧ TRow v a ts0) from fun v v' x g ⟨b, h, r⟩ => ⟨b, h, r.grow g⟩)) (stays_cons (Stays.eq _) (stays_cons (Stays.eq _) (stays_cons (Stays.eq _) (stays_cons (Stays.eq _) (stays_cons (Stays.eq _) (stays_cons (Stays.eq _) (stays_cons (Stays.eq _) stays_nil)))))))))))) ?step8 ?fin8
  case step8 =>
    rintro i hi x v gv hd K hK
    have hi8 : i = 0 ∨ i = 1 ∨ i = 2 ∨ i = 3 ∨ i = 4 ∨ i = 5 ∨ i = 6 ∨ i = 7 ∨ i = 8 ∨ i = 9 ∨ i = 10 ∨ i = 11 := by omega
    rcases hi8 with rfl | rfl | rfl | rfl | rfl | rfl | rfl | rfl | rfl | rfl | rfl | rfl
    · show wpOp Try.prog _ _ 0 K (⟨#[.bool false, .pointer (some ⟨B1, 0, none⟩), .pointer (some ⟨(B1 + 1), 0, none⟩), .int .i64 3, .int .i64 0, .int .i64 2, .int .i64 0, .int .i64 1, .int .i64 2, .int .i64 0, .slice (some ⟨A10, O10, none⟩) 1 d10, .int .i64 0, .pointer (some ⟨B12, 0, none⟩), .int .i64 0, .slice (some ⟨A14, O14, none⟩) 3 d14, .int .i64 0, x 10, x 11, undef, undef, undef, undef, undef, undef, undef, undef, undef, undef, s 28, s 29, s 30, s 31, s 32, s 33, s 34, s 35, s 36, s 37, s 38, s 39, s 40, s 41, s 42, s 43, s 44, s 45, s 46, s 47, s 48, s 49, s 50, s 51, s 52, s 53, s 54, s 55, s 56, s 57, s 58, s 59, s 60, s 61, s 62, s 63, s 64, s 65, s 66, s 67, s 68, x 6, x 0, x 1, x 2, x 3, x 4, x 5, x 7, x 8, x 9, undef, undef, undef, undef, undef, undef, undef, undef, undef, undef, undef, undef, undef, undef, undef, undef, undef, undef, undef, undef, undef, undef, undef, undef, undef, undef, undef, undef, undef, undef, undef, undef, undef, undef, undef, undef, undef, undef, undef, undef, undef, undef, undef, undef, undef, undef, undef, undef, undef, undef, undef, undef, undef, undef, undef, undef, undef, undef, undef, undef, undef, undef, undef, undef, undef, undef, undef, undef, undef, undef, undef, undef, undef, undef, undef, undef, undef, undef, undef, undef, undef, undef, undef, undef, undef, undef, undef, undef, undef, undef, undef, undef, undef, undef, undef, undef, undef, undef, undef, undef, undef, undef, undef, undef, undef, undef, undef, undef, undef, undef, undef, undef, undef, undef, undef, undef, undef, undef, undef, undef, undef, undef, undef, undef, undef, undef, undef, undef, undef, undef, undef, undef, undef, undef, undef, undef, undef, undef, undef, undef, undef, undef, undef], []⟩ : Act) v
      refine wpOp_step rfl (fun K' hK' => ?_)
      rw [if_pos (by rfl)]
      refine wp_load_mid 70 _ rfl (B1 + 1) 0 (by rfl) [.int .i64 300, .int .i64 320, .int .i64 100, .int .i64 110] _ (fun j u hu => by rw [Nat.zero_add]; exact (b2.keep gv).2 j u hu) Try.underlying70 rfl (by kernel_rfl) ?_
      exact hK' _ _ (hK _ _ (Below.refl _ _) (at_of rfl (rfl)))
    · show wpOp Try.prog _ _ 1 K (⟨#[.bool false, .pointer (some ⟨B1, 0, none⟩), .pointer (some ⟨(B1 + 1), 0, none⟩), .int .i64 3, .int .i64 0, .int .i64 2, .int .i64 0, .int .i64 1, .int .i64 2, .int .i64 0, .slice (some ⟨A10, O10, none⟩) 1 d10, .int .i64 0, .pointer (some ⟨B12, 0, none⟩), .int .i64 0, .slice (some ⟨A14, O14, none⟩) 3 d14, .int .i64 0, x 10, x 11, undef, undef, undef, undef, undef, undef, undef, undef, undef, undef, s 28, s 29, s 30, s 31, s 32, s 33, s 34, s 35, s 36, s 37, s 38, s 39, s 40, s 41, s 42, s 43, s 44, s 45, s 46, s 47, s 48, s 49, s 50, s 51, s 52, s 53, s 54, s 55, s 56, s 57, s 58, s 59, s 60, s 61, s 62, s 63, s 64, s 65, s 66, s 67, s 68, x 6, x 0, x 1, x 2, x 3, x 4, x 5, x 7, x 8, x 9, undef, undef, undef, undef, undef, undef, undef, undef, undef, undef, undef, undef, undef, undef, undef, undef, undef, undef, undef, undef, undef, undef, undef, undef, undef, undef, undef, undef, undef, undef, undef, undef, undef, undef, undef, undef, undef, undef, undef, undef, undef, undef, undef, undef, undef, undef, undef, undef, undef, undef, undef, undef, undef, undef, undef, undef, undef, undef, undef, undef, undef, undef, undef, undef, undef, undef, undef, undef, undef, undef, undef, undef, undef, undef, undef, undef, undef, undef, undef, undef, undef, undef, undef, undef, undef, undef, undef, undef, undef, undef, undef, undef, undef, undef, undef, undef, undef, undef, undef, undef, undef, undef, undef, undef, undef, undef, undef, undef, undef, undef, undef, undef, undef, undef, undef, undef, undef, undef, undef, undef, undef, undef, undef, undef, undef, undef, undef, undef, undef, undef, undef, undef, undef, undef, undef, undef, undef, undef, undef, undef, undef, undef, undef], []⟩ : Act) v
      refine wpOp_step rfl (fun K' hK' => ?_)
      rw [if_pos (by rfl)]
      refine wp_load_mid 70 _ rfl (B1 + 1) 0 (by rfl) [.int .i64 300, .int .i64 320, .int .i64 100, .int .i64 110] _ (fun j u hu => by rw [Nat.zero_add]; exact (b2.keep gv).2 j u hu) Try.underlying70 rfl (by kernel_rfl) ?_
      exact hK' _ _ (hK _ _ (Below.refl _ _) (at_of rfl (rfl)))
    · show wpOp Try.prog _ _ 2 K (⟨#[.bool false, .pointer (some ⟨B1, 0, none⟩), .pointer (some ⟨(B1 + 1), 0, none⟩), .int .i64 3, .int .i64 0, .int .i64 2, .int .i64 0, .int .i64 1, .int .i64 2, .int .i64 0, .slice (some ⟨A10, O10, none⟩) 1 d10, .int .i64 0, .pointer (some ⟨B12, 0, none⟩), .int .i64 0, .slice (some ⟨A14, O14, none⟩) 3 d14, .int .i64 0, x 10, x 11, undef, undef, undef, undef, undef, undef, undef, undef, undef, undef, s 28, s 29, s 30, s 31, s 32, s 33, s 34, s 35, s 36, s 37, s 38, s 39, s 40, s 41, s 42, s 43, s 44, s 45, s 46, s 47, s 48, s 49, s 50, s 51, s 52, s 53, s 54, s 55, s 56, s 57, s 58, s 59, s 60, s 61, s 62, s 63, s 64, s 65, s 66, s 67, s 68, x 6, x 0, x 1, x 2, x 3, x 4, x 5, x 7, x 8, x 9, undef, undef, undef, undef, undef, undef, undef, undef, undef, undef, undef, undef, undef, undef, undef, undef, undef, undef, undef, undef, undef, undef, undef, undef, undef, undef, undef, undef, undef, undef, undef, undef, undef, undef, undef, undef, undef, undef, undef, undef, undef, undef, undef, undef, undef, undef, undef, undef, undef, undef, undef, undef, undef, undef, undef, undef, undef, undef, undef, undef, undef, undef, undef, undef, undef, undef, undef, undef, undef, undef, undef, undef, undef, undef, undef, undef, undef, undef, undef, undef, undef, undef, undef, undef, undef, undef, undef, undef, undef, undef, undef, undef, undef, undef, undef, undef, undef, undef, undef, undef, undef, undef, undef, undef, undef, undef, undef, undef, undef, undef, undef, undef, undef, undef, undef, undef, undef, undef, undef, undef, undef, undef, undef, undef, undef, undef, undef, undef, undef, undef, undef, undef, undef, undef, undef, undef, undef, undef, undef, undef, undef, undef, undef], []⟩ : Act) v
      refine wpOp_step rfl (fun K' hK' => ?_)
      rw [if_pos (by rfl)]
      refine wp_load_mid 70 _ rfl (B1 + 1) 0 (by rfl) [.int .i64 300, .int .i64 320, .int .i64 100, .int .i64 110] _ (fun j u hu => by rw [Nat.zero_add]; exact (b2.keep gv).2 j u hu) Try.underlying70 rfl (by kernel_rfl) ?_
      exact hK' _ _ (hK _ _ (Below.refl _ _) (at_of rfl (rfl)))
    · obtain ⟨x, rfl⟩ := upd_of (show x 0 = .agg #[.int .i64 300, .int .i64 320, .int .i64 100, .int .i64 110] from hd 0 _ (by simp) rfl)
      obtain ⟨x, rfl⟩ := upd_of (show x 1 = .agg #[.int .i64 300, .int .i64 320, .int .i64 100, .int .i64 110] from hd 1 _ (by simp) rfl)
      obtain ⟨x, rfl⟩ := upd_of (show x 2 = .agg #[.int .i64 300, .int .i64 320, .int .i64 100, .int .i64 110] from hd 2 _ (by simp) rfl)
      show wpOp Try.prog _ _ 3 K (⟨#[.bool false, .pointer (some ⟨B1, 0, none⟩), .pointer (some ⟨(B1 + 1), 0, none⟩), .int .i64 3, .int .i64 0, .int .i64 2, .int .i64 0, .int .i64 1, .int .i64 2, .int .i64 0, .slice (some ⟨A10, O10, none⟩) 1 d10, .int .i64 0, .pointer (some ⟨B12, 0, none⟩), .int .i64 0, .slice (some ⟨A14, O14, none⟩) 3 d14, .int .i64 0, x 10, x 11, undef, undef, undef, undef, undef, undef, undef, undef, undef, undef, s 28, s 29, s 30, s 31, s 32, s 33, s 34, s 35, s 36, s 37, s 38, s 39, s 40, s 41, s 42, s 43, s 44, s 45, s 46, s 47, s 48, s 49, s 50, s 51, s 52, s 53, s 54, s 55, s 56, s 57, s 58, s 59, s 60, s 61, s 62, s 63, s 64, s 65, s 66, s 67, s 68, x 6, .agg #[.int .i64 300, .int .i64 320, .int .i64 100, .int .i64 110], .agg #[.int .i64 300, .int .i64 320, .int .i64 100, .int .i64 110], .agg #[.int .i64 300, .int .i64 320, .int .i64 100, .int .i64 110], x 3, x 4, x 5, x 7, x 8, x 9, undef, undef, undef, undef, undef, undef, undef, undef, undef, undef, undef, undef, undef, undef, undef, undef, undef, undef, undef, undef, undef, undef, undef, undef, undef, undef, undef, undef, undef, undef, undef, undef, undef, undef, undef, undef, undef, undef, undef, undef, undef, undef, undef, undef, undef, undef, undef, undef, undef, undef, undef, undef, undef, undef, undef, undef, undef, undef, undef, undef, undef, undef, undef, undef, undef, undef, undef, undef, undef, undef, undef, undef, undef, undef, undef, undef, undef, undef, undef, undef, undef, undef, undef, undef, undef, undef, undef, undef, undef, undef, undef, undef, undef, undef, undef, undef, undef, undef, undef, undef, undef, undef, undef, undef, undef, undef, undef, undef, undef, undef, undef, undef, undef, undef, undef, undef, undef, undef, undef, undef, undef, undef, undef, undef, undef, undef, undef, undef, undef, undef, undef, undef, undef, undef, undef, undef, undef, undef, undef, undef, undef, undef, undef], []⟩ : Act) v
      refine wpOp_step rfl (fun K' hK' => ?_)
      go_simp
      have hg := Gr.al v (.cells #[.int .i64 300, .int .i64 320, .int .i64 100, .int .i64 110, .int .i64 300, .int .i64 320, .int .i64 100, .int .i64 110, .int .i64 300, .int .i64 320, .int .i64 100, .int .i64 110] 70)
      exact hK' _ _ (hK _ _ hg (at_of rfl (⟨_, rfl, RowOf.lit31 (enc := encL) (sz := 4) (fun _ => rfl) v 70 st3 (by decide) #[.int .i64 300, .int .i64 320, .int .i64 100, .int .i64 110, .int .i64 300, .int .i64 320, .int .i64 100, .int .i64 110, .int .i64 300, .int .i64 320, .int .i64 100, .int .i64 110] (by rfl) _ rfl⟩)))
    · show wpOp Try.prog _ _ 4 K (⟨#[.bool false, .pointer (some ⟨B1, 0, none⟩), .pointer (some ⟨(B1 + 1), 0, none⟩), .int .i64 3, .int .i64 0, .int .i64 2, .int .i64 0, .int .i64 1, .int .i64 2, .int .i64 0, .slice (some ⟨A10, O10, none⟩) 1 d10, .int .i64 0, .pointer (some ⟨B12, 0, none⟩), .int .i64 0, .slice (some ⟨A14, O14, none⟩) 3 d14, .int .i64 0, x 10, x 11, undef, undef, undef, undef, undef, undef, undef, undef, undef, undef, s 28, s 29, s 30, s 31, s 32, s 33, s 34, s 35, s 36, s 37, s 38, s 39, s 40, s 41, s 42, s 43, s 44, s 45, s 46, s 47, s 48, s 49, s 50, s 51, s 52, s 53, s 54, s 55, s 56, s 57, s 58, s 59, s 60, s 61, s 62, s 63, s 64, s 65, s 66, s 67, s 68, x 6, x 0, x 1, x 2, x 3, x 4, x 5, x 7, x 8, x 9, undef, undef, undef, undef, undef, undef, undef, undef, undef, undef, undef, undef, undef, undef, undef, undef, undef, undef, undef, undef, undef, undef, undef, undef, undef, undef, undef, undef, undef, undef, undef, undef, undef, undef, undef, undef, undef, undef, undef, undef, undef, undef, undef, undef, undef, undef, undef, undef, undef, undef, undef, undef, undef, undef, undef, undef, undef, undef, undef, undef, undef, undef, undef, undef, undef, undef, undef, undef, undef, undef, undef, undef, undef, undef, undef, undef, undef, undef, undef, undef, undef, undef, undef, undef, undef, undef, undef, undef, undef, undef, undef, undef, undef, undef, undef, undef, undef, undef, undef, undef, undef, undef, undef, undef, undef, undef, undef, undef, undef, undef, undef, undef, undef, undef, undef, undef, undef, undef, undef, undef, undef, undef, undef, undef, undef, undef, undef, undef, undef, undef, undef, undef, undef, undef, undef, undef, undef, undef, undef, undef, undef, undef, undef], []⟩ : Act) v
      refine wpOp_step rfl (fun K' hK' => ?_)
      go_simp
      refine (table_any v).mono ?_
      rintro e v' ⟨a, rfl, hr, hg⟩
      exact hK' _ _ (hK _ _ hg (at_of rfl (⟨_, rfl, hr⟩)))
    · obtain ⟨f3, e3, r3⟩ := hd 3 _ (by simp) rfl
      obtain ⟨x, rfl⟩ := upd_of (show x 3 = .slice (some ⟨f3, 0, none⟩) 3 3 from e3)
      obtain ⟨t4, e4, r4⟩ := hd 4 _ (by simp) rfl
      obtain ⟨x, rfl⟩ := upd_of (show x 4 = .slice t4 3 3 from e4)
      show wpOp Try.prog _ _ 5 K (⟨#[.bool false, .pointer (some ⟨B1, 0, none⟩), .pointer (some ⟨(B1 + 1), 0, none⟩), .int .i64 3, .int .i64 0, .int .i64 2, .int .i64 0, .int .i64 1, .int .i64 2, .int .i64 0, .slice (some ⟨A10, O10, none⟩) 1 d10, .int .i64 0, .pointer (some ⟨B12, 0, none⟩), .int .i64 0, .slice (some ⟨A14, O14, none⟩) 3 d14, .int .i64 0, x 10, x 11, undef, undef, undef, undef, undef, undef, undef, undef, undef, undef, s 28, s 29, s 30, s 31, s 32, s 33, s 34, s 35, s 36, s 37, s 38, s 39, s 40, s 41, s 42, s 43, s 44, s 45, s 46, s 47, s 48, s 49, s 50, s 51, s 52, s 53, s 54, s 55, s 56, s 57, s 58, s 59, s 60, s 61, s 62, s 63, s 64, s 65, s 66, s 67, s 68, x 6, x 0, x 1, x 2, .slice (some ⟨f3, 0, none⟩) 3 3, .slice t4 3 3, x 5, x 7, x 8, x 9, undef, undef, undef, undef, undef, undef, undef, undef, undef, undef, undef, undef, undef, undef, undef, undef, undef, undef, undef, undef, undef, undef, undef, undef, undef, undef, undef, undef, undef, undef, undef, undef, undef, undef, undef, undef, undef, undef, undef, undef, undef, undef, undef, undef, undef, undef, undef, undef, undef, undef, undef, undef, undef, undef, undef, undef, undef, undef, undef, undef, undef, undef, undef, undef, undef, undef, undef, undef, undef, undef, undef, undef, undef, undef, undef, undef, undef, undef, undef, undef, undef, undef, undef, undef, undef, undef, undef, undef, undef, undef, undef, undef, undef, undef, undef, undef, undef, undef, undef, undef, undef, undef, undef, undef, undef, undef, undef, undef, undef, undef, undef, undef, undef, undef, undef, undef, undef, undef, undef, undef, undef, undef, undef, undef, undef, undef, undef, undef, undef, undef, undef, undef, undef, undef, undef, undef, undef, undef, undef, undef, undef, undef, undef], []⟩ : Act) v
      refine wpOp_step rfl (fun K' hK' => ?_)
      go_simp
      refine (ex_fall1 f3 0 3 t4 v r3 r4).mono ?_
      rintro e v' ⟨rfl, hg⟩
      exact hK' _ _ (hK _ _ hg (at_of rfl (rfl)))
    · obtain ⟨x, rfl⟩ := upd_of (show x 5 = .tuple #[.int .i64 30, .int .i64 0, .int .i64 0] from hd 5 _ (by simp) rfl)
      show wpOp Try.prog _ _ 6 K (⟨#[.bool false, .pointer (some ⟨B1, 0, none⟩), .pointer (some ⟨(B1 + 1), 0, none⟩), .int .i64 3, .int .i64 0, .int .i64 2, .int .i64 0, .int .i64 1, .int .i64 2, .int .i64 0, .slice (some ⟨A10, O10, none⟩) 1 d10, .int .i64 0, .pointer (some ⟨B12, 0, none⟩), .int .i64 0, .slice (some ⟨A14, O14, none⟩) 3 d14, .int .i64 0, x 10, x 11, undef, undef, undef, undef, undef, undef, undef, undef, undef, undef, s 28, s 29, s 30, s 31, s 32, s 33, s 34, s 35, s 36, s 37, s 38, s 39, s 40, s 41, s 42, s 43, s 44, s 45, s 46, s 47, s 48, s 49, s 50, s 51, s 52, s 53, s 54, s 55, s 56, s 57, s 58, s 59, s 60, s 61, s 62, s 63, s 64, s 65, s 66, s 67, s 68, x 6, x 0, x 1, x 2, x 3, x 4, .tuple #[.int .i64 30, .int .i64 0, .int .i64 0], x 7, x 8, x 9, undef, undef, undef, undef, undef, undef, undef, undef, undef, undef, undef, undef, undef, undef, undef, undef, undef, undef, undef, undef, undef, undef, undef, undef, undef, undef, undef, undef, undef, undef, undef, undef, undef, undef, undef, undef, undef, undef, undef, undef, undef, undef, undef, undef, undef, undef, undef, undef, undef, undef, undef, undef, undef, undef, undef, undef, undef, undef, undef, undef, undef, undef, undef, undef, undef, undef, undef, undef, undef, undef, undef, undef, undef, undef, undef, undef, undef, undef, undef, undef, undef, undef, undef, undef, undef, undef, undef, undef, undef, undef, undef, undef, undef, undef, undef, undef, undef, undef, undef, undef, undef, undef, undef, undef, undef, undef, undef, undef, undef, undef, undef, undef, undef, undef, undef, undef, undef, undef, undef, undef, undef, undef, undef, undef, undef, undef, undef, undef, undef, undef, undef, undef, undef, undef, undef, undef, undef, undef, undef, undef, undef, undef, undef], []⟩ : Act) v
      refine wpOp_step rfl (fun K' hK' => ?_)
      go_simp
      exact hK' _ _ (hK _ _ (Below.refl _ _) (at_of rfl (rfl)))
    · obtain ⟨x, rfl⟩ := upd_of (show x 6 = .tuple #[.int .i64 30, .int .i64 0, .int .i64 0] from hd 6 _ (by simp) rfl)
      show wpOp Try.prog _ _ 7 K (⟨#[.bool false, .pointer (some ⟨B1, 0, none⟩), .pointer (some ⟨(B1 + 1), 0, none⟩), .int .i64 3, .int .i64 0, .int .i64 2, .int .i64 0, .int .i64 1, .int .i64 2, .int .i64 0, .slice (some ⟨A10, O10, none⟩) 1 d10, .int .i64 0, .pointer (some ⟨B12, 0, none⟩), .int .i64 0, .slice (some ⟨A14, O14, none⟩) 3 d14, .int .i64 0, x 10, x 11, undef, undef, undef, undef, undef, undef, undef, undef, undef, undef, s 28, s 29, s 30, s 31, s 32, s 33, s 34, s 35, s 36, s 37, s 38, s 39, s 40, s 41, s 42, s 43, s 44, s 45, s 46, s 47, s 48, s 49, s 50, s 51, s 52, s 53, s 54, s 55, s 56, s 57, s 58, s 59, s 60, s 61, s 62, s 63, s 64, s 65, s 66, s 67, s 68, .tuple #[.int .i64 30, .int .i64 0, .int .i64 0], x 0, x 1, x 2, x 3, x 4, x 5, x 7, x 8, x 9, undef, undef, undef, undef, undef, undef, undef, undef, undef, undef, undef, undef, undef, undef, undef, undef, undef, undef, undef, undef, undef, undef, undef, undef, undef, undef, undef, undef, undef, undef, undef, undef, undef, undef, undef, undef, undef, undef, undef, undef, undef, undef, undef, undef, undef, undef, undef, undef, undef, undef, undef, undef, undef, undef, undef, undef, undef, undef, undef, undef, undef, undef, undef, undef, undef, undef, undef, undef, undef, undef, undef, undef, undef, undef, undef, undef, undef, undef, undef, undef, undef, undef, undef, undef, undef, undef, undef, undef, undef, undef, undef, undef, undef, undef, undef, undef, undef, undef, undef, undef, undef, undef, undef, undef, undef, undef, undef, undef, undef, undef, undef, undef, undef, undef, undef, undef, undef, undef, undef, undef, undef, undef, undef, undef, undef, undef, undef, undef, undef, undef, undef, undef, undef, undef, undef, undef, undef, undef, undef, undef, undef, undef, undef], []⟩ : Act) v
      refine wpOp_step rfl (fun K' hK' => ?_)
      go_simp
      exact hK' _ _ (hK _ _ (Below.refl _ _) (at_of rfl (rfl)))
    · obtain ⟨x, rfl⟩ := upd_of (show x 6 = .tuple #[.int .i64 30, .int .i64 0, .int .i64 0] from hd 6 _ (by simp) rfl)
      show wpOp Try.prog _ _ 8 K (⟨#[.bool false, .pointer (some ⟨B1, 0, none⟩), .pointer (some ⟨(B1 + 1), 0, none⟩), .int .i64 3, .int .i64 0, .int .i64 2, .int .i64 0, .int .i64 1, .int .i64 2, .int .i64 0, .slice (some ⟨A10, O10, none⟩) 1 d10, .int .i64 0, .pointer (some ⟨B12, 0, none⟩), .int .i64 0, .slice (some ⟨A14, O14, none⟩) 3 d14, .int .i64 0, x 10, x 11, undef, undef, undef, undef, undef, undef, undef, undef, undef, undef, s 28, s 29, s 30, s 31, s 32, s 33, s 34, s 35, s 36, s 37, s 38, s 39, s 40, s 41, s 42, s 43, s 44, s 45, s 46, s 47, s 48, s 49, s 50, s 51, s 52, s 53, s 54, s 55, s 56, s 57, s 58, s 59, s 60, s 61, s 62, s 63, s 64, s 65, s 66, s 67, s 68, .tuple #[.int .i64 30, .int .i64 0, .int .i64 0], x 0, x 1, x 2, x 3, x 4, x 5, x 7, x 8, x 9, undef, undef, undef, undef, undef, undef, undef, undef, undef, undef, undef, undef, undef, undef, undef, undef, undef, undef, undef, undef, undef, undef, undef, undef, undef, undef, undef, undef, undef, undef, undef, undef, undef, undef, undef, undef, undef, undef, undef, undef, undef, undef, undef, undef, undef, undef, undef, undef, undef, undef, undef, undef, undef, undef, undef, undef, undef, undef, undef, undef, undef, undef, undef, undef, undef, undef, undef, undef, undef, undef, undef, undef, undef, undef, undef, undef, undef, undef, undef, undef, undef, undef, undef, undef, undef, undef, undef, undef, undef, undef, undef, undef, undef, undef, undef, undef, undef, undef, undef, undef, undef, undef, undef, undef, undef, undef, undef, undef, undef, undef, undef, undef, undef, undef, undef, undef, undef, undef, undef, undef, undef, undef, undef, undef, undef, undef, undef, undef, undef, undef, undef, undef, undef, undef, undef, undef, undef, undef, undef, undef, undef, undef, undef], []⟩ : Act) v
      refine wpOp_step rfl (fun K' hK' => ?_)
      go_simp
      exact hK' _ _ (hK _ _ (Below.refl _ _) (at_of rfl (rfl)))
    · obtain ⟨x, rfl⟩ := upd_of (show x 6 = .tuple #[.int .i64 30, .int .i64 0, .int .i64 0] from hd 6 _ (by simp) rfl)
      show wpOp Try.prog _ _ 9 K (⟨#[.bool false, .pointer (some ⟨B1, 0, none⟩), .pointer (some ⟨(B1 + 1), 0, none⟩), .int .i64 3, .int .i64 0, .int .i64 2, .int .i64 0, .int .i64 1, .int .i64 2, .int .i64 0, .slice (some ⟨A10, O10, none⟩) 1 d10, .int .i64 0, .pointer (some ⟨B12, 0, none⟩), .int .i64 0, .slice (some ⟨A14, O14, none⟩) 3 d14, .int .i64 0, x 10, x 11, undef, undef, undef, undef, undef, undef, undef, undef, undef, undef, s 28, s 29, s 30, s 31, s 32, s 33, s 34, s 35, s 36, s 37, s 38, s 39, s 40, s 41, s 42, s 43, s 44, s 45, s 46, s 47, s 48, s 49, s 50, s 51, s 52, s 53, s 54, s 55, s 56, s 57, s 58, s 59, s 60, s 61, s 62, s 63, s 64, s 65, s 66, s 67, s 68, .tuple #[.int .i64 30, .int .i64 0, .int .i64 0], x 0, x 1, x 2, x 3, x 4, x 5, x 7, x 8, x 9, undef, undef, undef, undef, undef, undef, undef, undef, undef, undef, undef, undef, undef, undef, undef, undef, undef, undef, undef, undef, undef, undef, undef, undef, undef, undef, undef, undef, undef, undef, undef, undef, undef, undef, undef, undef, undef, undef, undef, undef, undef, undef, undef, undef, undef, undef, undef, undef, undef, undef, undef, undef, undef, undef, undef, undef, undef, undef, undef, undef, undef, undef, undef, undef, undef, undef, undef, undef, undef, undef, undef, undef, undef, undef, undef, undef, undef, undef, undef, undef, undef, undef, undef, undef, undef, undef, undef, undef, undef, undef, undef, undef, undef, undef, undef, undef, undef, undef, undef, undef, undef, undef, undef, undef, undef, undef, undef, undef, undef, undef, undef, undef, undef, undef, undef, undef, undef, undef, undef, undef, undef, undef, undef, undef, undef, undef, undef, undef, undef, undef, undef, undef, undef, undef, undef, undef, undef, undef, undef, undef, undef, undef, undef], []⟩ : Act) v
      refine wpOp_step rfl (fun K' hK' => ?_)
      go_simp
      exact hK' _ _ (hK _ _ (Below.refl _ _) (at_of rfl (rfl)))
    · obtain ⟨x, rfl⟩ := upd_of (show x 7 = .int .i64 30 from hd 7 _ (by simp) rfl)
      show wpOp Try.prog _ _ 10 K (⟨#[.bool false, .pointer (some ⟨B1, 0, none⟩), .pointer (some ⟨(B1 + 1), 0, none⟩), .int .i64 3, .int .i64 0, .int .i64 2, .int .i64 0, .int .i64 1, .int .i64 2, .int .i64 0, .slice (some ⟨A10, O10, none⟩) 1 d10, .int .i64 0, .pointer (some ⟨B12, 0, none⟩), .int .i64 0, .slice (some ⟨A14, O14, none⟩) 3 d14, .int .i64 0, x 10, x 11, undef, undef, undef, undef, undef, undef, undef, undef, undef, undef, s 28, s 29, s 30, s 31, s 32, s 33, s 34, s 35, s 36, s 37, s 38, s 39, s 40, s 41, s 42, s 43, s 44, s 45, s 46, s 47, s 48, s 49, s 50, s 51, s 52, s 53, s 54, s 55, s 56, s 57, s 58, s 59, s 60, s 61, s 62, s 63, s 64, s 65, s 66, s 67, s 68, x 6, x 0, x 1, x 2, x 3, x 4, x 5, .int .i64 30, x 8, x 9, undef, undef, undef, undef, undef, undef, undef, undef, undef, undef, undef, undef, undef, undef, undef, undef, undef, undef, undef, undef, undef, undef, undef, undef, undef, undef, undef, undef, undef, undef, undef, undef, undef, undef, undef, undef, undef, undef, undef, undef, undef, undef, undef, undef, undef, undef, undef, undef, undef, undef, undef, undef, undef, undef, undef, undef, undef, undef, undef, undef, undef, undef, undef, undef, undef, undef, undef, undef, undef, undef, undef, undef, undef, undef, undef, undef, undef, undef, undef, undef, undef, undef, undef, undef, undef, undef, undef, undef, undef, undef, undef, undef, undef, undef, undef, undef, undef, undef, undef, undef, undef, undef, undef, undef, undef, undef, undef, undef, undef, undef, undef, undef, undef, undef, undef, undef, undef, undef, undef, undef, undef, undef, undef, undef, undef, undef, undef, undef, undef, undef, undef, undef, undef, undef, undef, undef, undef, undef, undef, undef, undef, undef, undef], []⟩ : Act) v
      refine wpOp_step rfl (fun K' hK' => ?_)
      go_simp
      exact hK' _ _ (hK _ _ (Below.refl _ _) (at_of rfl (rfl)))
    · obtain ⟨x, rfl⟩ := upd_of (show x 8 = .int .i64 0 from hd 8 _ (by simp) rfl)
      show wpOp Try.prog _ _ 11 K (⟨#[.bool false, .pointer (some ⟨B1, 0, none⟩), .pointer (some ⟨(B1 + 1), 0, none⟩), .int .i64 3, .int .i64 0, .int .i64 2, .int .i64 0, .int .i64 1, .int .i64 2, .int .i64 0, .slice (some ⟨A10, O10, none⟩) 1 d10, .int .i64 0, .pointer (some ⟨B12, 0, none⟩), .int .i64 0, .slice (some ⟨A14, O14, none⟩) 3 d14, .int .i64 0, x 10, x 11, undef, undef, undef, undef, undef, undef, undef, undef, undef, undef, s 28, s 29, s 30, s 31, s 32, s 33, s 34, s 35, s 36, s 37, s 38, s 39, s 40, s 41, s 42, s 43, s 44, s 45, s 46, s 47, s 48, s 49, s 50, s 51, s 52, s 53, s 54, s 55, s 56, s 57, s 58, s 59, s 60, s 61, s 62, s 63, s 64, s 65, s 66, s 67, s 68, x 6, x 0, x 1, x 2, x 3, x 4, x 5, x 7, .int .i64 0, x 9, undef, undef, undef, undef, undef, undef, undef, undef, undef, undef, undef, undef, undef, undef, undef, undef, undef, undef, undef, undef, undef, undef, undef, undef, undef, undef, undef, undef, undef, undef, undef, undef, undef, undef, undef, undef, undef, undef, undef, undef, undef, undef, undef, undef, undef, undef, undef, undef, undef, undef, undef, undef, undef, undef, undef, undef, undef, undef, undef, undef, undef, undef, undef, undef, undef, undef, undef, undef, undef, undef, undef, undef, undef, undef, undef, undef, undef, undef, undef, undef, undef, undef, undef, undef, undef, undef, undef, undef, undef, undef, undef, undef, undef, undef, undef, undef, undef, undef, undef, undef, undef, undef, undef, undef, undef, undef, undef, undef, undef, undef, undef, undef, undef, undef, undef, undef, undef, undef, undef, undef, undef, undef, undef, undef, undef, undef, undef, undef, undef, undef, undef, undef, undef, undef, undef, undef, undef, undef, undef, undef, undef, undef, undef], []⟩ : Act) v
      refine wpOp_step rfl (fun K' hK' => ?_)
      go_simp
      exact hK' _ _ (hK _ _ (Below.refl _ _) (at_of rfl (rfl)))
  case fin8 =>
    rintro x v gv hd
    obtain ⟨x, rfl⟩ := upd_of (show x 9 = .int .i64 0 from hd 9 _ (by omega) rfl)
    obtain ⟨x, rfl⟩ := upd_of (show x 10 = .int .i64 30 from hd 10 _ (by omega) rfl)
    obtain ⟨x, rfl⟩ := upd_of (show x 11 = .int .i64 0 from hd 11 _ (by omega) rfl)
    clear hd
    show wpList Try.prog _ _ (List.drop 12 _) (⟨#[.bool false, .pointer (some ⟨B1, 0, none⟩), .pointer (some ⟨(B1 + 1), 0, none⟩), .int .i64 3, .int .i64 0, .int .i64 2, .int .i64 0, .int .i64 1, .int .i64 2, .int .i64 0, .slice (some ⟨A10, O10, none⟩) 1 d10, .int .i64 0, .pointer (some ⟨B12, 0, none⟩), .int .i64 0, .slice (some ⟨A14, O14, none⟩) 3 d14, .int .i64 0, .int .i64 30, .int .i64 0, undef, undef, undef, undef, undef, undef, undef, undef, undef, undef, s 28, s 29, s 30, s 31, s 32, s 33, s 34, s 35, s 36, s 37, s 38, s 39, s 40, s 41, s 42, s 43, s 44, s 45, s 46, s 47, s 48, s 49, s 50, s 51, s 52, s 53, s 54, s 55, s 56, s 57, s 58, s 59, s 60, s 61, s 62, s 63, s 64, s 65, s 66, s 67, s 68, x 6, x 0, x 1, x 2, x 3, x 4, x 5, x 7, x 8, .int .i64 0, undef, undef, undef, undef, undef, undef, undef, undef, undef, undef, undef, undef, undef, undef, undef, undef, undef, undef, undef, undef, undef, undef, undef, undef, undef, undef, undef, undef, undef, undef, undef, undef, undef, undef, undef, undef, undef, undef, undef, undef, undef, undef, undef, undef, undef, undef, undef, undef, undef, undef, undef, undef, undef, undef, undef, undef, undef, undef, undef, undef, undef, undef, undef, undef, undef, undef, undef, undef, undef, undef, undef, undef, undef, undef, undef, undef, undef, undef, undef, undef, undef, undef, undef, undef, undef, undef, undef, undef, undef, undef, undef, undef, undef, undef, undef, undef, undef, undef, undef, undef, undef, undef, undef, undef, undef, undef, undef, undef, undef, undef, undef, undef, undef, undef, undef, undef, undef, undef, undef, undef, undef, undef, undef, undef, undef, undef, undef, undef, undef, undef, undef, undef, undef, undef, undef, undef, undef, undef, undef, undef, undef, undef, undef], []⟩ : Act) v
    simp only [List.drop_succ_cons, List.drop_zero]
    replace gX := gX.tr gv
    replace b2 := b2.keep gv
    replace r10 := r10.grow gv
    replace b12 := b12.keep gv
    replace r14 := r14.grow gv
    clear gv
    go_upto_region 9 with fail
    refine (show (∀ y : Nat → Value, Code.wp Try.prog _ _ ⟨#[.bool false, .pointer (some ⟨B1, 0, none⟩), .pointer (some ⟨(B1 + 1), 0, none⟩), .int .i64 3, .int .i64 0, .int .i64 2, .int .i64 0, .int .i64 1, .int .i64 2, .int .i64 0, .slice (some ⟨A10, O10, none⟩) 1 d10, .int .i64 0, .pointer (some ⟨B12, 0, none⟩), .int .i64 0, .slice (some ⟨A14, O14, none⟩) 3 d14, .int .i64 0, .int .i64 30, .int .i64 0, .int .i64 0, undef, undef, undef, undef, undef, undef, undef, undef, undef, y 28, y 29, y 30, y 31, y 32, y 33, y 34, y 35, y 36, y 37, y 38, y 39, y 40, y 41, y 42, y 43, y 44, y 45, y 46, y 47, y 48, y 49, y 50, y 51, y 52, y 53, y 54, y 55, y 56, y 57, y 58, y 59, y 60, y 61, y 62, y 63, y 64, y 65, y 66, y 67, y 68, y 69, y 70, y 71, y 72, y 73, y 74, y 75, y 76, y 77, y 78, undef, undef, undef, undef, undef, undef, undef, undef, undef, undef, undef, undef, undef, undef, undef, undef, undef, undef, undef, undef, undef, undef, undef, undef, undef, undef, undef, undef, undef, undef, undef, undef, undef, undef, undef, undef, undef, undef, undef, undef, undef, undef, undef, undef, undef, undef, undef, undef, undef, undef, undef, undef, undef, undef, undef, undef, undef, undef, undef, undef, undef, undef, undef, undef, undef, undef, undef, undef, undef, undef, undef, undef, undef, undef, undef, undef, undef, undef, undef, undef, undef, undef, undef, undef, undef, undef, undef, undef, undef, undef, undef, undef, undef, undef, undef, undef, undef, undef, undef, undef, undef, undef, undef, undef, undef, undef, undef, undef, undef, undef, undef, undef, undef, undef, undef, undef, undef, undef, undef, undef, undef, undef, undef, undef, undef, undef, undef, undef, undef, undef, undef, undef, undef, undef, undef, undef, undef, undef, undef, undef, undef, undef, undef], []⟩ _) → _ from fun h => h ((fun l : List Value => fun i => l.getD i undef) [undef, undef, undef, undef, undef, undef, undef, undef, undef, undef, undef, undef, undef, undef, undef, undef, undef, undef, undef, undef, undef, undef, undef, undef, undef, undef, undef, undef, _, _, _, _, _, _, _, _, _, _, _, _, _, _, _, _, _, _, _, _, _, _, _, _, _, _, _, _, _, _, _, _, _, _, _, _, _, _, _, _, _, _, _, _, _, _, _, _, _, _, _])) ?_
    intro y
    dsimp only
    refine wp_region_facts 12 [(3, 0), (3, 1), (3, 2), (5, 3), (5, 4), (6, 5), (7, 6), (8, 6), (9, 6), (10, 7), (11, 8)] (fun x => ⟨#[.bool false, .pointer (some ⟨B1, 0, none⟩), .pointer (some ⟨(B1 + 1), 0, none⟩), .int .i64 3, .int .i64 0, .int .i64 2, .int .i64 0, .int .i64 1, .int .i64 2, .int .i64 0, .slice (some ⟨A10, O10, none⟩) 1 d10, .int .i64 0, .pointer (some ⟨B12, 0, none⟩), .int .i64 0, .slice (some ⟨A14, O14, none⟩) 3 d14, .int .i64 0, .int .i64 30, .int .i64 0, .int .i64 0, x 10, x 11, undef, undef, undef, undef, undef, undef, undef, y 28, y 29, y 30, y 31, y 32, y 33, y 34, y 35, y 36, y 37, y 38, y 39, y 40, y 41, y 42, y 43, y 44, y 45, y 46, y 47, y 48, y 49, y 50, y 51, y 52, y 53, y 54, y 55, y 56, y 57, y 58, y 59, y 60, y 61, y 62, y 63, y 64, y 65, y 66, y 67, y 68, y 69, y 70, y 71, y 72, y 73, y 74, y 75, y 76, y 77, y 78, x 6, x 0, x 1, x 2, x 3, x 4, x 5, x 7, x 8, x 9, undef, undef, undef, undef, undef, undef, undef, undef, undef, undef, undef, undef, undef, undef, undef, undef, undef, undef, undef, undef, undef, undef, undef, undef, undef, undef, undef, undef, undef, undef, undef, undef, undef, undef, undef, undef, undef, undef, undef, undef, undef, undef, undef, undef, undef, undef, undef, undef, undef, undef, undef, undef, undef, undef, undef, undef, undef, undef, undef, undef, undef, undef, undef, undef, undef, undef, undef, undef, undef, undef, undef, undef, undef, undef, undef, undef, undef, undef, undef, undef, undef, undef, undef, undef, undef, undef, undef, undef, undef, undef, undef, undef, undef, undef, undef, undef, undef, undef, undef, undef, undef, undef, undef, undef, undef, undef, undef, undef, undef, undef, undef, undef, undef, undef, undef, undef, undef, undef, undef, undef, undef, undef, undef, undef, undef, undef, undef, undef, undef, undef, undef, undef, undef], []⟩) (fun _ => undef) [fun _ x => x = .agg #[.int .i64 300, .int .i64 320, .int .i64 100, .int .i64 110], fun _ x => x = .agg #[.int .i64 300, .int .i64 320, .int .i64 100, .int .i64 110], fun _ x => x = .agg #[.int .i64 300, .int .i64 320, .int .i64 100, .int .i64 110], fun v x => ∃ b, x = .slice (some ⟨b, 0, none⟩) 3 3 ∧ LRow v (some ⟨b, 0, none⟩) st3, fun v x => ∃ a, x = .slice a 3 3 ∧ TRow v a ts0, fun _ x => x = .tuple #[.int .i64 0, .int .i64 0, .int .i64 7], fun _ x => x = .tuple #[.int .i64 0, .int .i64 0, .int .i64 7], fun _ x => x = .int .i64 0, fun _ x => x = .int .i64 0, fun _ x => x = .int .i64 7, fun _ x => x = .int .i64 0, fun _ x => x = .int .i64 0] (by rfl) (by kernel_rfl) (by kernel_rfl) (by kernel_rfl) (stays_cons (Stays.eq _) (stays_cons (Stays.eq _) (stays_cons (Stays.eq _) (stays_cons ((show Stays (fun v x => ∃ b, x = .slice (some ⟨b, 0, none⟩) 3 3 ∧ LRow v (some ⟨b, 0, none⟩) st3) from fun v v' x g ⟨b, h, r⟩ => ⟨b, h, r.grow g⟩)) (stays_cons ((show Stays (fun v x => ∃ a, x = .slice a 3 3 ∧ TRow v a ts0) from fun v v' x g ⟨b, h, r⟩ => ⟨b, h, r.grow g⟩)) (stays_cons (Stays.eq _) (stays_cons (Stays.eq _) (stays_cons (Stays.eq _) (stays_cons (Stays.eq _) (stays_cons (Stays.eq _) (stays_cons (Stays.eq _) (stays_cons (Stays.eq _) stays_nil)))))))))))) ?step9 ?fin9
    case step9 =>
      rintro i hi x v gv hd K hK
      have hi8 : i = 0 ∨ i = 1 ∨ i = 2 ∨ i = 3 ∨ i = 4 ∨ i = 5 ∨ i = 6 ∨ i = 7 ∨ i = 8 ∨ i = 9 ∨ i = 10 ∨ i = 11 := by omega
      rcases hi8 with rfl | rfl | rfl | rfl | rfl | rfl | rfl | rfl | rfl | rfl | rfl | rfl
      · show wpOp Try.prog _ _ 0 K (⟨#[.bool false, .pointer (some ⟨B1, 0, none⟩), .pointer (some ⟨(B1 + 1), 0, none⟩), .int .i64 3, .int .i64 0, .int .i64 2, .int .i64 0, .int .i64 1, .int .i64 2, .int .i64 0, .slice (some ⟨A10, O10, none⟩) 1 d10, .int .i64 0, .pointer (some ⟨B12, 0, none⟩), .int .i64 0, .slice (some ⟨A14, O14, none⟩) 3 d14, .int .i64 0, .int .i64 30, .int .i64 0, .int .i64 0, x 10, x 11, undef, undef, undef, undef, undef, undef, undef, y 28, y 29, y 30, y 31, y 32, y 33, y 34, y 35, y 36, y 37, y 38, y 39, y 40, y 41, y 42, y 43, y 44, y 45, y 46, y 47, y 48, y 49, y 50, y 51, y 52, y 53, y 54, y 55, y 56, y 57, y 58, y 59, y 60, y 61, y 62, y 63, y 64, y 65, y 66, y 67, y 68, y 69, y 70, y 71, y 72, y 73, y 74, y 75, y 76, y 77, y 78, x 6, x 0, x 1, x 2, x 3, x 4, x 5, x 7, x 8, x 9, undef, undef, undef, undef, undef, undef, undef, undef, undef, undef, undef, undef, undef, undef, undef, undef, undef, undef, undef, undef, undef, undef, undef, undef, undef, undef, undef, undef, undef, undef, undef, undef, undef, undef, undef, undef, undef, undef, undef, undef, undef, undef, undef, undef, undef, undef, undef, undef, undef, undef, undef, undef, undef, undef, undef, undef, undef, undef, undef, undef, undef, undef, undef, undef, undef, undef, undef, undef, undef, undef, undef, undef, undef, undef, undef, undef, undef, undef, undef, undef, undef, undef, undef, undef, undef, undef, undef, undef, undef, undef, undef, undef, undef, undef, undef, undef, undef, undef, undef, undef, undef, undef, undef, undef, undef, undef, undef, undef, undef, undef, undef, undef, undef, undef, undef, undef, undef, undef, undef, undef, undef, undef, undef, undef, undef, undef, undef, undef, undef, undef, undef, undef, undef], []⟩ : Act) v
        refine wpOp_step rfl (fun K' hK' => ?_)
        rw [if_pos (by rfl)]
        refine wp_load_mid 70 _ rfl (B1 + 1) 0 (by rfl) [.int .i64 300, .int .i64 320, .int .i64 100, .int .i64 110] _ (fun j u hu => by rw [Nat.zero_add]; exact (b2.keep gv).2 j u hu) Try.underlying70 rfl (by kernel_rfl) ?_
        exact hK' _ _ (hK _ _ (Below.refl _ _) (at_of rfl (rfl)))
      · show wpOp Try.prog _ _ 1 K (⟨#[.bool false, .pointer (some ⟨B1, 0, none⟩), .pointer (some ⟨(B1 + 1), 0, none⟩), .int .i64 3, .int .i64 0, .int .i64 2, .int .i64 0, .int .i64 1, .int .i64 2, .int .i64 0, .slice (some ⟨A10, O10, none⟩) 1 d10, .int .i64 0, .pointer (some ⟨B12, 0, none⟩), .int .i64 0, .slice (some ⟨A14, O14, none⟩) 3 d14, .int .i64 0, .int .i64 30, .int .i64 0, .int .i64 0, x 10, x 11, undef, undef, undef, undef, undef, undef, undef, y 28, y 29, y 30, y 31, y 32, y 33, y 34, y 35, y 36, y 37, y 38, y 39, y 40, y 41, y 42, y 43, y 44, y 45, y 46, y 47, y 48, y 49, y 50, y 51, y 52, y 53, y 54, y 55, y 56, y 57, y 58, y 59, y 60, y 61, y 62, y 63, y 64, y 65, y 66, y 67, y 68, y 69, y 70, y 71, y 72, y 73, y 74, y 75, y 76, y 77, y 78, x 6, x 0, x 1, x 2, x 3, x 4, x 5, x 7, x 8, x 9, undef, undef, undef, undef, undef, undef, undef, undef, undef, undef, undef, undef, undef, undef, undef, undef, undef, undef, undef, undef, undef, undef, undef, undef, undef, undef, undef, undef, undef, undef, undef, undef, undef, undef, undef, undef, undef, undef, undef, undef, undef, undef, undef, undef, undef, undef, undef, undef, undef, undef, undef, undef, undef, undef, undef, undef, undef, undef, undef, undef, undef, undef, undef, undef, undef, undef, undef, undef, undef, undef, undef, undef, undef, undef, undef, undef, undef, undef, undef, undef, undef, undef, undef, undef, undef, undef, undef, undef, undef, undef, undef, undef, undef, undef, undef, undef, undef, undef, undef, undef, undef, undef, undef, undef, undef, undef, undef, undef, undef, undef, undef, undef, undef, undef, undef, undef, undef, undef, undef, undef, undef, undef, undef, undef, undef, undef, undef, undef, undef, undef, undef, undef, undef], []⟩ : Act) v
        refine wpOp_step rfl (fun K' hK' => ?_)
        rw [if_pos (by rfl)]
        refine wp_load_mid 70 _ rfl (B1 + 1) 0 (by rfl) [.int .i64 300, .int .i64 320, .int .i64 100, .int .i64 110] _ (fun j u hu => by rw [Nat.zero_add]; exact (b2.keep gv).2 j u hu) Try.underlying70 rfl (by kernel_rfl) ?_
        exact hK' _ _ (hK _ _ (Below.refl _ _) (at_of rfl (rfl)))
      · show wpOp Try.prog _ _ 2 K (⟨#[.bool false, .pointer (some ⟨B1, 0, none⟩), .pointer (some ⟨(B1 + 1), 0, none⟩), .int .i64 3, .int .i64 0, .int .i64 2, .int .i64 0, .int .i64 1, .int .i64 2, .int .i64 0, .slice (some ⟨A10, O10, none⟩) 1 d10, .int .i64 0, .pointer (some ⟨B12, 0, none⟩), .int .i64 0, .slice (some ⟨A14, O14, none⟩) 3 d14, .int .i64 0, .int .i64 30, .int .i64 0, .int .i64 0, x 10, x 11, undef, undef, undef, undef, undef, undef, undef, y 28, y 29, y 30, y 31, y 32, y 33, y 34, y 35, y 36, y 37, y 38, y 39, y 40, y 41, y 42, y 43, y 44, y 45, y 46, y 47, y 48, y 49, y 50, y 51, y 52, y 53, y 54, y 55, y 56, y 57, y 58, y 59, y 60, y 61, y 62, y 63, y 64, y 65, y 66, y 67, y 68, y 69, y 70, y 71, y 72, y 73, y 74, y 75, y 76, y 77, y 78, x 6, x 0, x 1, x 2, x 3, x 4, x 5, x 7, x 8, x 9, undef, undef, undef, undef, undef, undef, undef, undef, undef, undef, undef, undef, undef, undef, undef, undef, undef, undef, undef, undef, undef, undef, undef, undef, undef, undef, undef, undef, undef, undef, undef, undef, undef, undef, undef, undef, undef, undef, undef, undef, undef, undef, undef, undef, undef, undef, undef, undef, undef, undef, undef, undef, undef, undef, undef, undef, undef, undef, undef, undef, undef, undef, undef, undef, undef, undef, undef, undef, undef, undef, undef, undef, undef, undef, undef, undef, undef, undef, undef, undef, undef, undef, undef, undef, undef, undef, undef, undef, undef, undef, undef, undef, undef, undef, undef, undef, undef, undef, undef, undef, undef, undef, undef, undef, undef, undef, undef, undef, undef, undef, undef, undef, undef, undef, undef, undef, undef, undef, undef, undef, undef, undef, undef, undef, undef, undef, undef, undef, undef, undef, undef, undef, undef], []⟩ : Act) v
        refine wpOp_step rfl (fun K' hK' => ?_)
        rw [if_pos (by rfl)]
        refine wp_load_mid 70 _ rfl (B1 + 1) 0 (by rfl) [.int .i64 300, .int .i64 320, .int .i64 100, .int .i64 110] _ (fun j u hu => by rw [Nat.zero_add]; exact (b2.keep gv).2 j u hu) Try.underlying70 rfl (by kernel_rfl) ?_
        exact hK' _ _ (hK _ _ (Below.refl _ _) (at_of rfl (rfl)))
      · obtain ⟨x, rfl⟩ := upd_of (show x 0 = .agg #[.int .i64 300, .int .i64 320, .int .i64 100, .int .i64 110] from hd 0 _ (by simp) rfl)
        obtain ⟨x, rfl⟩ := upd_of (show x 1 = .agg #[.int .i64 300, .int .i64 320, .int .i64 100, .int .i64 110] from hd 1 _ (by simp) rfl)
        obtain ⟨x, rfl⟩ := upd_of (show x 2 = .agg #[.int .i64 300, .int .i64 320, .int .i64 100, .int .i64 110] from hd 2 _ (by simp) rfl)
        show wpOp Try.prog _ _ 3 K (⟨#[.bool false, .pointer (some ⟨B1, 0, none⟩), .pointer (some ⟨(B1 + 1), 0, none⟩), .int .i64 3, .int .i64 0, .int .i64 2, .int .i64 0, .int .i64 1, .int .i64 2, .int .i64 0, .slice (some ⟨A10, O10, none⟩) 1 d10, .int .i64 0, .pointer (some ⟨B12, 0, none⟩), .int .i64 0, .slice (some ⟨A14, O14, none⟩) 3 d14, .int .i64 0, .int .i64 30, .int .i64 0, .int .i64 0, x 10, x 11, undef, undef, undef, undef, undef, undef, undef, y 28, y 29, y 30, y 31, y 32, y 33, y 34, y 35, y 36, y 37, y 38, y 39, y 40, y 41, y 42, y 43, y 44, y 45, y 46, y 47, y 48, y 49, y 50, y 51, y 52, y 53, y 54, y 55, y 56, y 57, y 58, y 59, y 60, y 61, y 62, y 63, y 64, y 65, y 66, y 67, y 68, y 69, y 70, y 71, y 72, y 73, y 74, y 75, y 76, y 77, y 78, x 6, .agg #[.int .i64 300, .int .i64 320, .int .i64 100, .int .i64 110], .agg #[.int .i64 300, .int .i64 320, .int .i64 100, .int .i64 110], .agg #[.int .i64 300, .int .i64 320, .int .i64 100, .int .i64 110], x 3, x 4, x 5, x 7, x 8, x 9, undef, undef, undef, undef, undef, undef, undef, undef, undef, undef, undef, undef, undef, undef, undef, undef, undef, undef, undef, undef, undef, undef, undef, undef, undef, undef, undef, undef, undef, undef, undef, undef, undef, undef, undef, undef, undef, undef, undef, undef, undef, undef, undef, undef, undef, undef, undef, undef, undef, undef, undef, undef, undef, undef, undef, undef, undef, undef, undef, undef, undef, undef, undef, undef, undef, undef, undef, undef, undef, undef, undef, undef, undef, undef, undef, undef, undef, undef, undef, undef, undef, undef, undef, undef, undef, undef, undef, undef, undef, undef, undef, undef, undef, undef, undef, undef, undef, undef, undef, undef, undef, undef, undef, undef, undef, undef, undef, undef, undef, undef, undef, undef, undef, undef, undef, undef, undef, undef, undef, undef, undef, undef, undef, undef, undef, undef, undef, undef, undef, undef, undef, undef, undef], []⟩ : Act) v
        refine wpOp_step rfl (fun K' hK' => ?_)
        go_simp
        have hg := Gr.al v (.cells #[.int .i64 300, .int .i64 320, .int .i64 100, .int .i64 110, .int .i64 300, .int .i64 320, .int .i64 100, .int .i64 110, .int .i64 300, .int .i64 320, .int .i64 100, .int .i64 110] 70)
        exact hK' _ _ (hK _ _ hg (at_of rfl (⟨_, rfl, RowOf.lit31 (enc := encL) (sz := 4) (fun _ => rfl) v 70 st3 (by decide) #[.int .i64 300, .int .i64 320, .int .i64 100, .int .i64 110, .int .i64 300, .int .i64 320, .int .i64 100, .int .i64 110, .int .i64 300, .int .i64 320, .int .i64 100, .int .i64 110] (by rfl) _ rfl⟩)))
      · show wpOp Try.prog _ _ 4 K (⟨#[.bool false, .pointer (some ⟨B1, 0, none⟩), .pointer (some ⟨(B1 + 1), 0, none⟩), .int .i64 3, .int .i64 0, .int .i64 2, .int .i64 0, .int .i64 1, .int .i64 2, .int .i64 0, .slice (some ⟨A10, O10, none⟩) 1 d10, .int .i64 0, .pointer (some ⟨B12, 0, none⟩), .int .i64 0, .slice (some ⟨A14, O14, none⟩) 3 d14, .int .i64 0, .int .i64 30, .int .i64 0, .int .i64 0, x 10, x 11, undef, undef, undef, undef, undef, undef, undef, y 28, y 29, y 30, y 31, y 32, y 33, y 34, y 35, y 36, y 37, y 38, y 39, y 40, y 41, y 42, y 43, y 44, y 45, y 46, y 47, y 48, y 49, y 50, y 51, y 52, y 53, y 54, y 55, y 56, y 57, y 58, y 59, y 60, y 61, y 62, y 63, y 64, y 65, y 66, y 67, y 68, y 69, y 70, y 71, y 72, y 73, y 74, y 75, y 76, y 77, y 78, x 6, x 0, x 1, x 2, x 3, x 4, x 5, x 7, x 8, x 9, undef, undef, undef, undef, undef, undef, undef, undef, undef, undef, undef, undef, undef, undef, undef, undef, undef, undef, undef, undef, undef, undef, undef, undef, undef, undef, undef, undef, undef, undef, undef, undef, undef, undef, undef, undef, undef, undef, undef, undef, undef, undef, undef, undef, undef, undef, undef, undef, undef, undef, undef, undef, undef, undef, undef, undef, undef, undef, undef, undef, undef, undef, undef, undef, undef, undef, undef, undef, undef, undef, undef, undef, undef, undef, undef, undef, undef, undef, undef, undef, undef, undef, undef, undef, undef, undef, undef, undef, undef, undef, undef, undef, undef, undef, undef, undef, undef, undef, undef, undef, undef, undef, undef, undef, undef, undef, undef, undef, undef, undef, undef, undef, undef, undef, undef, undef, undef, undef, undef, undef, undef, undef, undef, undef, undef, undef, undef, undef, undef, undef, undef, undef, undef], []⟩ : Act) v
        refine wpOp_step rfl (fun K' hK' => ?_)
        go_simp
        refine (table_any v).mono ?_
        rintro e v' ⟨a, rfl, hr, hg⟩
        exact hK' _ _ (hK _ _ hg (at_of rfl (⟨_, rfl, hr⟩)))
      · obtain ⟨f3, e3, r3⟩ := hd 3 _ (by simp) rfl
        obtain ⟨x, rfl⟩ := upd_of (show x 3 = .slice (some ⟨f3, 0, none⟩) 3 3 from e3)
        obtain ⟨t4, e4, r4⟩ := hd 4 _ (by simp) rfl
        obtain ⟨x, rfl⟩ := upd_of (show x 4 = .slice t4 3 3 from e4)
        show wpOp Try.prog _ _ 5 K (⟨#[.bool false, .pointer (some ⟨B1, 0, none⟩), .pointer (some ⟨(B1 + 1), 0, none⟩), .int .i64 3, .int .i64 0, .int .i64 2, .int .i64 0, .int .i64 1, .int .i64 2, .int .i64 0, .slice (some ⟨A10, O10, none⟩) 1 d10, .int .i64 0, .pointer (some ⟨B12, 0, none⟩), .int .i64 0, .slice (some ⟨A14, O14, none⟩) 3 d14, .int .i64 0, .int .i64 30, .int .i64 0, .int .i64 0, x 10, x 11, undef, undef, undef, undef, undef, undef, undef, y 28, y 29, y 30, y 31, y 32, y 33, y 34, y 35, y 36, y 37, y 38, y 39, y 40, y 41, y 42, y 43, y 44, y 45, y 46, y 47, y 48, y 49, y 50, y 51, y 52, y 53, y 54, y 55, y 56, y 57, y 58, y 59, y 60, y 61, y 62, y 63, y 64, y 65, y 66, y 67, y 68, y 69, y 70, y 71, y 72, y 73, y 74, y 75, y 76, y 77, y 78, x 6, x 0, x 1, x 2, .slice (some ⟨f3, 0, none⟩) 3 3, .slice t4 3 3, x 5, x 7, x 8, x 9, undef, undef, undef, undef, undef, undef, undef, undef, undef, undef, undef, undef, undef, undef, undef, undef, undef, undef, undef, undef, undef, undef, undef, undef, undef, undef, undef, undef, undef, undef, undef, undef, undef, undef, undef, undef, undef, undef, undef, undef, undef, undef, undef, undef, undef, undef, undef, undef, undef, undef, undef, undef, undef, undef, undef, undef, undef, undef, undef, undef, undef, undef, undef, undef, undef, undef, undef, undef, undef, undef, undef, undef, undef, undef, undef, undef, undef, undef, undef, undef, undef, undef, undef, undef, undef, undef, undef, undef, undef, undef, undef, undef, undef, undef, undef, undef, undef, undef, undef, undef, undef, undef, undef, undef, undef, undef, undef, undef, undef, undef, undef, undef, undef, undef, undef, undef, undef, undef, undef, undef, undef, undef, undef, undef, undef, undef, undef, undef, undef, undef, undef, undef, undef], []⟩ : Act) v
        refine wpOp_step rfl (fun K' hK' => ?_)
        go_simp
        refine (ex_fall2 f3 0 3 t4 v r3 r4).mono ?_
        rintro e v' ⟨rfl, hg⟩
        exact hK' _ _ (hK _ _ hg (at_of rfl (rfl)))
      · obtain ⟨x, rfl⟩ := upd_of (show x 5 = .tuple #[.int .i64 0, .int .i64 0, .int .i64 7] from hd 5 _ (by simp) rfl)
        show wpOp Try.prog _ _ 6 K (⟨#[.bool false, .pointer (some ⟨B1, 0, none⟩), .pointer (some ⟨(B1 + 1), 0, none⟩), .int .i64 3, .int .i64 0, .int .i64 2, .int .i64 0, .int .i64 1, .int .i64 2, .int .i64 0, .slice (some ⟨A10, O10, none⟩) 1 d10, .int .i64 0, .pointer (some ⟨B12, 0, none⟩), .int .i64 0, .slice (some ⟨A14, O14, none⟩) 3 d14, .int .i64 0, .int .i64 30, .int .i64 0, .int .i64 0, x 10, x 11, undef, undef, undef, undef, undef, undef, undef, y 28, y 29, y 30, y 31, y 32, y 33, y 34, y 35, y 36, y 37, y 38, y 39, y 40, y 41, y 42, y 43, y 44, y 45, y 46, y 47, y 48, y 49, y 50, y 51, y 52, y 53, y 54, y 55, y 56, y 57, y 58, y 59, y 60, y 61, y 62, y 63, y 64, y 65, y 66, y 67, y 68, y 69, y 70, y 71, y 72, y 73, y 74, y 75, y 76, y 77, y 78, x 6, x 0, x 1, x 2, x 3, x 4, .tuple #[.int .i64 0, .int .i64 0, .int .i64 7], x 7, x 8, x 9, undef, undef, undef, undef, undef, undef, undef, undef, undef, undef, undef, undef, undef, undef, undef, undef, undef, undef, undef, undef, undef, undef, undef, undef, undef, undef, undef, undef, undef, undef, undef, undef, undef, undef, undef, undef, undef, undef, undef, undef, undef, undef, undef, undef, undef, undef, undef, undef, undef, undef, undef, undef, undef, undef, undef, undef, undef, undef, undef, undef, undef, undef, undef, undef, undef, undef, undef, undef, undef, undef, undef, undef, undef, undef, undef, undef, undef, undef, undef, undef, undef, undef, undef, undef, undef, undef, undef, undef, undef, undef, undef, undef, undef, undef, undef, undef, undef, undef, undef, undef, undef, undef, undef, undef, undef, undef, undef, undef, undef, undef, undef, undef, undef, undef, undef, undef, undef, undef, undef, undef, undef, undef, undef, undef, undef, undef, undef, undef, undef, undef, undef, undef, undef], []⟩ : Act) v
        refine wpOp_step rfl (fun K' hK' => ?_)
        go_simp
        exact hK' _ _ (hK _ _ (Below.refl _ _) (at_of rfl (rfl)))
      · obtain ⟨x, rfl⟩ := upd_of (show x 6 = .tuple #[.int .i64 0, .int .i64 0, .int .i64 7] from hd 6 _ (by simp) rfl)
        show wpOp Try.prog _ _ 7 K (⟨#[.bool false, .pointer (some ⟨B1, 0, none⟩), .pointer (some ⟨(B1 + 1), 0, none⟩), .int .i64 3, .int .i64 0, .int .i64 2, .int .i64 0, .int .i64 1, .int .i64 2, .int .i64 0, .slice (some ⟨A10, O10, none⟩) 1 d10, .int .i64 0, .pointer (some ⟨B12, 0, none⟩), .int .i64 0, .slice (some ⟨A14, O14, none⟩) 3 d14, .int .i64 0, .int .i64 30, .int .i64 0, .int .i64 0, x 10, x 11, undef, undef, undef, undef, undef, undef, undef, y 28, y 29, y 30, y 31, y 32, y 33, y 34, y 35, y 36, y 37, y 38, y 39, y 40, y 41, y 42, y 43, y 44, y 45, y 46, y 47, y 48, y 49, y 50, y 51, y 52, y 53, y 54, y 55, y 56, y 57, y 58, y 59, y 60, y 61, y 62, y 63, y 64, y 65, y 66, y 67, y 68, y 69, y 70, y 71, y 72, y 73, y 74, y 75, y 76, y 77, y 78, .tuple #[.int .i64 0, .int .i64 0, .int .i64 7], x 0, x 1, x 2, x 3, x 4, x 5, x 7, x 8, x 9, undef, undef, undef, undef, undef, undef, undef, undef, undef, undef, undef, undef, undef, undef, undef, undef, undef, undef, undef, undef, undef, undef, undef, undef, undef, undef, undef, undef, undef, undef, undef, undef, undef, undef, undef, undef, undef, undef, undef, undef, undef, undef, undef, undef, undef, undef, undef, undef, undef, undef, undef, undef, undef, undef, undef, undef, undef, undef, undef, undef, undef, undef, undef, undef, undef, undef, undef, undef, undef, undef, undef, undef, undef, undef, undef, undef, undef, undef, undef, undef, undef, undef, undef, undef, undef, undef, undef, undef, undef, undef, undef, undef, undef, undef, undef, undef, undef, undef, undef, undef, undef, undef, undef, undef, undef, undef, undef, undef, undef, undef, undef, undef, undef, undef, undef, undef, undef, undef, undef, undef, undef, undef, undef, undef, undef, undef, undef, undef, undef, undef, undef, undef, undef], []⟩ : Act) v
        refine wpOp_step rfl (fun K' hK' => ?_)
        go_simp
        exact hK' _ _ (hK _ _ (Below.refl _ _) (at_of rfl (rfl)))
      · obtain ⟨x, rfl⟩ := upd_of (show x 6 = .tuple #[.int .i64 0, .int .i64 0, .int .i64 7] from hd 6 _ (by simp) rfl)
        show wpOp Try.prog _ _ 8 K (⟨#[.bool false, .pointer (some ⟨B1, 0, none⟩), .pointer (some ⟨(B1 + 1), 0, none⟩), .int .i64 3, .int .i64 0, .int .i64 2, .int .i64 0, .int .i64 1, .int .i64 2, .int .i64 0, .slice (some ⟨A10, O10, none⟩) 1 d10, .int .i64 0, .pointer (some ⟨B12, 0, none⟩), .int .i64 0, .slice (some ⟨A14, O14, none⟩) 3 d14, .int .i64 0, .int .i64 30, .int .i64 0, .int .i64 0, x 10, x 11, undef, undef, undef, undef, undef, undef, undef, y 28, y 29, y 30, y 31, y 32, y 33, y 34, y 35, y 36, y 37, y 38, y 39, y 40, y 41, y 42, y 43, y 44, y 45, y 46, y 47, y 48, y 49, y 50, y 51, y 52, y 53, y 54, y 55, y 56, y 57, y 58, y 59, y 60, y 61, y 62, y 63, y 64, y 65, y 66, y 67, y 68, y 69, y 70, y 71, y 72, y 73, y 74, y 75, y 76, y 77, y 78, .tuple #[.int .i64 0, .int .i64 0, .int .i64 7], x 0, x 1, x 2, x 3, x 4, x 5, x 7, x 8, x 9, undef, undef, undef, undef, undef, undef, undef, undef, undef, undef, undef, undef, undef, undef, undef, undef, undef, undef, undef, undef, undef, undef, undef, undef, undef, undef, undef, undef, undef, undef, undef, undef, undef, undef, undef, undef, undef, undef, undef, undef, undef, undef, undef, undef, undef, undef, undef, undef, undef, undef, undef, undef, undef, undef, undef, undef, undef, undef, undef, undef, undef, undef, undef, undef, undef, undef, undef, undef, undef, undef, undef, undef, undef, undef, undef, undef, undef, undef, undef, undef, undef, undef, undef, undef, undef, undef, undef, undef, undef, undef, undef, undef, undef, undef, undef, undef, undef, undef, undef, undef, undef, undef, undef, undef, undef, undef, undef, undef, undef, undef, undef, undef, undef, undef, undef, undef, undef, undef, undef, undef, undef, undef, undef, undef, undef, undef, undef, undef, undef, undef, undef, undef, undef], []⟩ : Act) v
        refine wpOp_step rfl (fun K' hK' => ?_)
        go_simp
        exact hK' _ _ (hK _ _ (Below.refl _ _) (at_of rfl (rfl)))
      · obtain ⟨x, rfl⟩ := upd_of (show x 6 = .tuple #[.int .i64 0, .int .i64 0, .int .i64 7] from hd 6 _ (by simp) rfl)
        show wpOp Try.prog _ _ 9 K (⟨#[.bool false, .pointer (some ⟨B1, 0, none⟩), .pointer (some ⟨(B1 + 1), 0, none⟩), .int .i64 3, .int .i64 0, .int .i64 2, .int .i64 0, .int .i64 1, .int .i64 2, .int .i64 0, .slice (some ⟨A10, O10, none⟩) 1 d10, .int .i64 0, .pointer (some ⟨B12, 0, none⟩), .int .i64 0, .slice (some ⟨A14, O14, none⟩) 3 d14, .int .i64 0, .int .i64 30, .int .i64 0, .int .i64 0, x 10, x 11, undef, undef, undef, undef, undef, undef, undef, y 28, y 29, y 30, y 31, y 32, y 33, y 34, y 35, y 36, y 37, y 38, y 39, y 40, y 41, y 42, y 43, y 44, y 45, y 46, y 47, y 48, y 49, y 50, y 51, y 52, y 53, y 54, y 55, y 56, y 57, y 58, y 59, y 60, y 61, y 62, y 63, y 64, y 65, y 66, y 67, y 68, y 69, y 70, y 71, y 72, y 73, y 74, y 75, y 76, y 77, y 78, .tuple #[.int .i64 0, .int .i64 0, .int .i64 7], x 0, x 1, x 2, x 3, x 4, x 5, x 7, x 8, x 9, undef, undef, undef, undef, undef, undef, undef, undef, undef, undef, undef, undef, undef, undef, undef, undef, undef, undef, undef, undef, undef, undef, undef, undef, undef, undef, undef, undef, undef, undef, undef, undef, undef, undef, undef, undef, undef, undef, undef, undef, undef, undef, undef, undef, undef, undef, undef, undef, undef, undef, undef, undef, undef, undef, undef, undef, undef, undef, undef, undef, undef, undef, undef, undef, undef, undef, undef, undef, undef, undef, undef, undef, undef, undef, undef, undef, undef, undef, undef, undef, undef, undef, undef, undef, undef, undef, undef, undef, undef, undef, undef, undef, undef, undef, undef, undef, undef, undef, undef, undef, undef, undef, undef, undef, undef, undef, undef, undef, undef, undef, undef, undef, undef, undef, undef, undef, undef, undef, undef, undef, undef, undef, undef, undef, undef, undef, undef, undef, undef, undef, undef, undef, undef], []⟩ : Act) v
        refine wpOp_step rfl (fun K' hK' => ?_)
        go_simp
        exact hK' _ _ (hK _ _ (Below.refl _ _) (at_of rfl (rfl)))
      · obtain ⟨x, rfl⟩ := upd_of (show x 7 = .int .i64 0 from hd 7 _ (by simp) rfl)
        show wpOp Try.prog _ _ 10 K (⟨#[.bool false, .pointer (some ⟨B1, 0, none⟩), .pointer (some ⟨(B1 + 1), 0, none⟩), .int .i64 3, .int .i64 0, .int .i64 2, .int .i64 0, .int .i64 1, .int .i64 2, .int .i64 0, .slice (some ⟨A10, O10, none⟩) 1 d10, .int .i64 0, .pointer (some ⟨B12, 0, none⟩), .int .i64 0, .slice (some ⟨A14, O14, none⟩) 3 d14, .int .i64 0, .int .i64 30, .int .i64 0, .int .i64 0, x 10, x 11, undef, undef, undef, undef, undef, undef, undef, y 28, y 29, y 30, y 31, y 32, y 33, y 34, y 35, y 36, y 37, y 38, y 39, y 40, y 41, y 42, y 43, y 44, y 45, y 46, y 47, y 48, y 49, y 50, y 51, y 52, y 53, y 54, y 55, y 56, y 57, y 58, y 59, y 60, y 61, y 62, y 63, y 64, y 65, y 66, y 67, y 68, y 69, y 70, y 71, y 72, y 73, y 74, y 75, y 76, y 77, y 78, x 6, x 0, x 1, x 2, x 3, x 4, x 5, .int .i64 0, x 8, x 9, undef, undef, undef, undef, undef, undef, undef, undef, undef, undef, undef, undef, undef, undef, undef, undef, undef, undef, undef, undef, undef, undef, undef, undef, undef, undef, undef, undef, undef, undef, undef, undef, undef, undef, undef, undef, undef, undef, undef, undef, undef, undef, undef, undef, undef, undef, undef, undef, undef, undef, undef, undef, undef, undef, undef, undef, undef, undef, undef, undef, undef, undef, undef, undef, undef, undef, undef, undef, undef, undef, undef, undef, undef, undef, undef, undef, undef, undef, undef, undef, undef, undef, undef, undef, undef, undef, undef, undef, undef, undef, undef, undef, undef, undef, undef, undef, undef, undef, undef, undef, undef, undef, undef, undef, undef, undef, undef, undef, undef, undef, undef, undef, undef, undef, undef, undef, undef, undef, undef, undef, undef, undef, undef, undef, undef, undef, undef, undef, undef, undef, undef, undef, undef], []⟩ : Act) v
        refine wpOp_step rfl (fun K' hK' => ?_)
        go_simp
        exact hK' _ _ (hK _ _ (Below.refl _ _) (at_of rfl (rfl)))
      · obtain ⟨x, rfl⟩ := upd_of (show x 8 = .int .i64 0 from hd 8 _ (by simp) rfl)
        show wpOp Try.prog _ _ 11 K (⟨#[.bool false, .pointer (some ⟨B1, 0, none⟩), .pointer (some ⟨(B1 + 1), 0, none⟩), .int .i64 3, .int .i64 0, .int .i64 2, .int .i64 0, .int .i64 1, .int .i64 2, .int .i64 0, .slice (some ⟨A10, O10, none⟩) 1 d10, .int .i64 0, .pointer (some ⟨B12, 0, none⟩), .int .i64 0, .slice (some ⟨A14, O14, none⟩) 3 d14, .int .i64 0, .int .i64 30, .int .i64 0, .int .i64 0, x 10, x 11, undef, undef, undef, undef, undef, undef, undef, y 28, y 29, y 30, y 31, y 32, y 33, y 34, y 35, y 36, y 37, y 38, y 39, y 40, y 41, y 42, y 43, y 44, y 45, y 46, y 47, y 48, y 49, y 50, y 51, y 52, y 53, y 54, y 55, y 56, y 57, y 58, y 59, y 60, y 61, y 62, y 63, y 64, y 65, y 66, y 67, y 68, y 69, y 70, y 71, y 72, y 73, y 74, y 75, y 76, y 77, y 78, x 6, x 0, x 1, x 2, x 3, x 4, x 5, x 7, .int .i64 0, x 9, undef, undef, undef, undef, undef, undef, undef, undef, undef, undef, undef, undef, undef, undef, undef, undef, undef, undef, undef, undef, undef, undef, undef, undef, undef, undef, undef, undef, undef, undef, undef, undef, undef, undef, undef, undef, undef, undef, undef, undef, undef, undef, undef, undef, undef, undef, undef, undef, undef, undef, undef, undef, undef, undef, undef, undef, undef, undef, undef, undef, undef, undef, undef, undef, undef, undef, undef, undef, undef, undef, undef, undef, undef, undef, undef, undef, undef, undef, undef, undef, undef, undef, undef, undef, undef, undef, undef, undef, undef, undef, undef, undef, undef, undef, undef, undef, undef, undef, undef, undef, undef, undef, undef, undef, undef, undef, undef, undef, undef, undef, undef, undef, undef, undef, undef, undef, undef, undef, undef, undef, undef, undef, undef, undef, undef, undef, undef, undef, undef, undef, undef, undef, undef], []⟩ : Act) v
        refine wpOp_step rfl (fun K' hK' => ?_)
        go_simp
        exact hK' _ _ (hK _ _ (Below.refl _ _) (at_of rfl (rfl)))
    case fin9 =>
      rintro x v gv hd
      obtain ⟨x, rfl⟩ := upd_of (show x 9 = .int .i64 7 from hd 9 _ (by omega) rfl)
      obtain ⟨x, rfl⟩ := upd_of (show x 10 = .int .i64 0 from hd 10 _ (by omega) rfl)
      obtain ⟨x, rfl⟩ := upd_of (show x 11 = .int .i64 0 from hd 11 _ (by omega) rfl)
      clear hd
      show wpList Try.prog _ _ (List.drop 12 _) (⟨#[.bool false, .pointer (some ⟨B1, 0, none⟩), .pointer (some ⟨(B1 + 1), 0, none⟩), .int .i64 3, .int .i64 0, .int .i64 2, .int .i64 0, .int .i64 1, .int .i64 2, .int .i64 0, .slice (some ⟨A10, O10, none⟩) 1 d10, .int .i64 0, .pointer (some ⟨B12, 0, none⟩), .int .i64 0, .slice (some ⟨A14, O14, none⟩) 3 d14, .int .i64 0, .int .i64 30, .int .i64 0, .int .i64 0, .int .i64 0, .int .i64 0, undef, undef, undef, undef, undef, undef, undef, y 28, y 29, y 30, y 31, y 32, y 33, y 34, y 35, y 36, y 37, y 38, y 39, y 40, y 41, y 42, y 43, y 44, y 45, y 46, y 47, y 48, y 49, y 50, y 51, y 52, y 53, y 54, y 55, y 56, y 57, y 58, y 59, y 60, y 61, y 62, y 63, y 64, y 65, y 66, y 67, y 68, y 69, y 70, y 71, y 72, y 73, y 74, y 75, y 76, y 77, y 78, x 6, x 0, x 1, x 2, x 3, x 4, x 5, x 7, x 8, .int .i64 7, undef, undef, undef, undef, undef, undef, undef, undef, undef, undef, undef, undef, undef, undef, undef, undef, undef, undef, undef, undef, undef, undef, undef, undef, undef, undef, undef, undef, undef, undef, undef, undef, undef, undef, undef, undef, undef, undef, undef, undef, undef, undef, undef, undef, undef, undef, undef, undef, undef, undef, undef, undef, undef, undef, undef, undef, undef, undef, undef, undef, undef, undef, undef, undef, undef, undef, undef, undef, undef, undef, undef, undef, undef, undef, undef, undef, undef, undef, undef, undef, undef, undef, undef, undef, undef, undef, undef, undef, undef, undef, undef, undef, undef, undef, undef, undef, undef, undef, undef, undef, undef, undef, undef, undef, undef, undef, undef, undef, undef, undef, undef, undef, undef, undef, undef, undef, undef, undef, undef, undef, undef, undef, undef, undef, undef, undef, undef, undef, undef, undef, undef, undef, undef], []⟩ : Act) v
      simp only [List.drop_succ_cons, List.drop_zero]
      replace gX := gX.tr gv
      replace b2 := b2.keep gv
      replace r10 := r10.grow gv
      replace b12 := b12.keep gv
      replace r14 := r14.grow gv
      clear gv
      go_upto_region 10 with fail
      refine (show (∀ z : Nat → Value, Code.wp Try.prog _ _ ⟨#[.bool false, .pointer (some ⟨B1, 0, none⟩), .pointer (some ⟨(B1 + 1), 0, none⟩), .int .i64 3, .int .i64 0, .int .i64 2, .int .i64 0, .int .i64 1, .int .i64 2, .int .i64 0, .slice (some ⟨A10, O10, none⟩) 1 d10, .int .i64 0, .pointer (some ⟨B12, 0, none⟩), .int .i64 0, .slice (some ⟨A14, O14, none⟩) 3 d14, .int .i64 0, .int .i64 30, .int .i64 0, .int .i64 0, .int .i64 0, .int .i64 0, .int .i64 7, undef, undef, undef, undef, undef, undef, z 28, z 29, z 30, z 31, z 32, z 33, z 34, z 35, z 36, z 37, z 38, z 39, z 40, z 41, z 42, z 43, z 44, z 45, z 46, z 47, z 48, z 49, z 50, z 51, z 52, z 53, z 54, z 55, z 56, z 57, z 58, z 59, z 60, z 61, z 62, z 63, z 64, z 65, z 66, z 67, z 68, z 69, z 70, z 71, z 72, z 73, z 74, z 75, z 76, z 77, z 78, z 79, z 80, z 81, z 82, z 83, z 84, z 85, z 86, z 87, z 88, undef, undef, undef, undef, undef, undef, undef, undef, undef, undef, undef, undef, undef, undef, undef, undef, undef, undef, undef, undef, undef, undef, undef, undef, undef, undef, undef, undef, undef, undef, undef, undef, undef, undef, undef, undef, undef, undef, undef, undef, undef, undef, undef, undef, undef, undef, undef, undef, undef, undef, undef, undef, undef, undef, undef, undef, undef, undef, undef, undef, undef, undef, undef, undef, undef, undef, undef, undef, undef, undef, undef, undef, undef, undef, undef, undef, undef, undef, undef, undef, undef, undef, undef, undef, undef, undef, undef, undef, undef, undef, undef, undef, undef, undef, undef, undef, undef, undef, undef, undef, undef, undef, undef, undef, undef, undef, undef, undef, undef, undef, undef, undef, undef, undef, undef, undef, undef, undef, undef, undef, undef, undef, undef, undef, undef, undef, undef, undef, undef, undef, undef, undef, undef], []⟩ _) → _ from fun h => h ((fun l : List Value => fun i => l.getD i undef) [undef, undef, undef, undef, undef, undef, undef, undef, undef, undef, undef, undef, undef, undef, undef, undef, undef, undef, undef, undef, undef, undef, undef, undef, undef, undef, undef, undef, _, _, _, _, _, _, _, _, _, _, _, _, _, _, _, _, _, _, _, _, _, _, _, _, _, _, _, _, _, _, _, _, _, _, _, _, _, _, _, _, _, _, _, _, _, _, _, _, _, _, _, _, _, _, _, _, _, _, _, _, _])) ?_
      intro z
      dsimp only
      refine wp_region_facts 7 [(2, 0), (2, 1), (3, 2), (4, 3), (5, 3), (6, 4)] (fun x => ⟨#[.bool false, .pointer (some ⟨B1, 0, none⟩), .pointer (some ⟨(B1 + 1), 0, none⟩), .int .i64 3, .int .i64 0, .int .i64 2, .int .i64 0, .int .i64 1, .int .i64 2, .int .i64 0, .slice (some ⟨A10, O10, none⟩) 1 d10, .int .i64 0, .pointer (some ⟨B12, 0, none⟩), .int .i64 0, .slice (some ⟨A14, O14, none⟩) 3 d14, .int .i64 0, .int .i64 30, .int .i64 0, .int .i64 0, .int .i64 0, .int .i64 0, .int .i64 7, x 6, undef, undef, undef, undef, undef, z 28, z 29, z 30, z 31, z 32, z 33, z 34, z 35, z 36, z 37, z 38, z 39, z 40, z 41, z 42, z 43, z 44, z 45, z 46, z 47, z 48, z 49, z 50, z 51, z 52, z 53, z 54, z 55, z 56, z 57, z 58, z 59, z 60, z 61, z 62, z 63, z 64, z 65, z 66, z 67, z 68, z 69, z 70, z 71, z 72, z 73, z 74, z 75, z 76, z 77, z 78, z 79, z 80, z 81, z 82, z 83, z 84, z 85, z 86, z 87, z 88, x 3, x 0, x 1, x 2, x 4, x 5, undef, undef, undef, undef, undef, undef, undef, undef, undef, undef, undef, undef, undef, undef, undef, undef, undef, undef, undef, undef, undef, undef, undef, undef, undef, undef, undef, undef, undef, undef, undef, undef, undef, undef, undef, undef, undef, undef, undef, undef, undef, undef, undef, undef, undef, undef, undef, undef, undef, undef, undef, undef, undef, undef, undef, undef, undef, undef, undef, undef, undef, undef, undef, undef, undef, undef, undef, undef, undef, undef, undef, undef, undef, undef, undef, undef, undef, undef, undef, undef, undef, undef, undef, undef, undef, undef, undef, undef, undef, undef, undef, undef, undef, undef, undef, undef, undef, undef, undef, undef, undef, undef, undef, undef, undef, undef, undef, undef, undef, undef, undef, undef, undef, undef, undef, undef, undef, undef, undef, undef, undef, undef, undef, undef, undef, undef, undef], []⟩) (fun _ => undef) [fun _ x => x = .agg #[.int .i64 300, .int .i64 320, .int .i64 100, .int .i64 110], fun v x => ∃ a, x = .slice a 3 3 ∧ TRow v a ts0, fun _ x => x = .tuple #[.int .i64 3, .int .i64 0], fun _ x => x = .tuple #[.int .i64 3, .int .i64 0], fun _ x => x = .int .i64 3, fun _ x => x = .int .i64 0, fun _ x => x = .int .i64 3] (by rfl) (by kernel_rfl) (by kernel_rfl) (by kernel_rfl) (stays_cons (Stays.eq _) (stays_cons ((show Stays (fun v x => ∃ a, x = .slice a 3 3 ∧ TRow v a ts0) from fun v v' x g ⟨b, h, r⟩ => ⟨b, h, r.grow g⟩)) (stays_cons (Stays.eq _) (stays_cons (Stays.eq _) (stays_cons (Stays.eq _) (stays_cons (Stays.eq _) (stays_cons (Stays.eq _) stays_nil))))))) ?step10 ?fin10
      case step10 =>
        rintro i hi x v gv hd K hK
        have hi8 : i = 0 ∨ i = 1 ∨ i = 2 ∨ i = 3 ∨ i = 4 ∨ i = 5 ∨ i = 6 := by omega
        rcases hi8 with rfl | rfl | rfl | rfl | rfl | rfl | rfl
        · show wpOp Try.prog _ _ 0 K (⟨#[.bool false, .pointer (some ⟨B1, 0, none⟩), .pointer (some ⟨(B1 + 1), 0, none⟩), .int .i64 3, .int .i64 0, .int .i64 2, .int .i64 0, .int .i64 1, .int .i64 2, .int .i64 0, .slice (some ⟨A10, O10, none⟩) 1 d10, .int .i64 0, .pointer (some ⟨B12, 0, none⟩), .int .i64 0, .slice (some ⟨A14, O14, none⟩) 3 d14, .int .i64 0, .int .i64 30, .int .i64 0, .int .i64 0, .int .i64 0, .int .i64 0, .int .i64 7, x 6, undef, undef, undef, undef, undef, z 28, z 29, z 30, z 31, z 32, z 33, z 34, z 35, z 36, z 37, z 38, z 39, z 40, z 41, z 42, z 43, z 44, z 45, z 46, z 47, z 48, z 49, z 50, z 51, z 52, z 53, z 54, z 55, z 56, z 57, z 58, z 59, z 60, z 61, z 62, z 63, z 64, z 65, z 66, z 67, z 68, z 69, z 70, z 71, z 72, z 73, z 74, z 75, z 76, z 77, z 78, z 79, z 80, z 81, z 82, z 83, z 84, z 85, z 86, z 87, z 88, x 3, x 0, x 1, x 2, x 4, x 5, undef, undef, undef, undef, undef, undef, undef, undef, undef, undef, undef, undef, undef, undef, undef, undef, undef, undef, undef, undef, undef, undef, undef, undef, undef, undef, undef, undef, undef, undef, undef, undef, undef, undef, undef, undef, undef, undef, undef, undef, undef, undef, undef, undef, undef, undef, undef, undef, undef, undef, undef, undef, undef, undef, undef, undef, undef, undef, undef, undef, undef, undef, undef, undef, undef, undef, undef, undef, undef, undef, undef, undef, undef, undef, undef, undef, undef, undef, undef, undef, undef, undef, undef, undef, undef, undef, undef, undef, undef, undef, undef, undef, undef, undef, undef, undef, undef, undef, undef, undef, undef, undef, undef, undef, undef, undef, undef, undef, undef, undef, undef, undef, undef, undef, undef, undef, undef, undef, undef, undef, undef, undef, undef, undef, undef, undef, undef], []⟩ : Act) v
          refine wpOp_step rfl (fun K' hK' => ?_)
          rw [if_pos (by rfl)]
          refine wp_load_mid 70 _ rfl (B1 + 1) 0 (by rfl) [.int .i64 300, .int .i64 320, .int .i64 100, .int .i64 110] _ (fun j u hu => by rw [Nat.zero_add]; exact (b2.keep gv).2 j u hu) Try.underlying70 rfl (by kernel_rfl) ?_
          exact hK' _ _ (hK _ _ (Below.refl _ _) (at_of rfl (rfl)))
        · show wpOp Try.prog _ _ 1 K (⟨#[.bool false, .pointer (some ⟨B1, 0, none⟩), .pointer (some ⟨(B1 + 1), 0, none⟩), .int .i64 3, .int .i64 0, .int .i64 2, .int .i64 0, .int .i64 1, .int .i64 2, .int .i64 0, .slice (some ⟨A10, O10, none⟩) 1 d10, .int .i64 0, .pointer (some ⟨B12, 0, none⟩), .int .i64 0, .slice (some ⟨A14, O14, none⟩) 3 d14, .int .i64 0, .int .i64 30, .int .i64 0, .int .i64 0, .int .i64 0, .int .i64 0, .int .i64 7, x 6, undef, undef, undef, undef, undef, z 28, z 29, z 30, z 31, z 32, z 33, z 34, z 35, z 36, z 37, z 38, z 39, z 40, z 41, z 42, z 43, z 44, z 45, z 46, z 47, z 48, z 49, z 50, z 51, z 52, z 53, z 54, z 55, z 56, z 57, z 58, z 59, z 60, z 61, z 62, z 63, z 64, z 65, z 66, z 67, z 68, z 69, z 70, z 71, z 72, z 73, z 74, z 75, z 76, z 77, z 78, z 79, z 80, z 81, z 82, z 83, z 84, z 85, z 86, z 87, z 88, x 3, x 0, x 1, x 2, x 4, x 5, undef, undef, undef, undef, undef, undef, undef, undef, undef, undef, undef, undef, undef, undef, undef, undef, undef, undef, undef, undef, undef, undef, undef, undef, undef, undef, undef, undef, undef, undef, undef, undef, undef, undef, undef, undef, undef, undef, undef, undef, undef, undef, undef, undef, undef, undef, undef, undef, undef, undef, undef, undef, undef, undef, undef, undef, undef, undef, undef, undef, undef, undef, undef, undef, undef, undef, undef, undef, undef, undef, undef, undef, undef, undef, undef, undef, undef, undef, undef, undef, undef, undef, undef, undef, undef, undef, undef, undef, undef, undef, undef, undef, undef, undef, undef, undef, undef, undef, undef, undef, undef, undef, undef, undef, undef, undef, undef, undef, undef, undef, undef, undef, undef, undef, undef, undef, undef, undef, undef, undef, undef, undef, undef, undef, undef, undef, undef], []⟩ : Act) v
          refine wpOp_step rfl (fun K' hK' => ?_)
          go_simp
          refine (table_any v).mono ?_
          rintro e v' ⟨a, rfl, hr, hg⟩
          exact hK' _ _ (hK _ _ hg (at_of rfl (⟨_, rfl, hr⟩)))
        · obtain ⟨x, rfl⟩ := upd_of (show x 0 = .agg #[.int .i64 300, .int .i64 320, .int .i64 100, .int .i64 110] from hd 0 _ (by simp) rfl)
          obtain ⟨t1, e1, r1⟩ := hd 1 _ (by simp) rfl
          obtain ⟨x, rfl⟩ := upd_of (show x 1 = .slice t1 3 3 from e1)
          show wpOp Try.prog _ _ 2 K (⟨#[.bool false, .pointer (some ⟨B1, 0, none⟩), .pointer (some ⟨(B1 + 1), 0, none⟩), .int .i64 3, .int .i64 0, .int .i64 2, .int .i64 0, .int .i64 1, .int .i64 2, .int .i64 0, .slice (some ⟨A10, O10, none⟩) 1 d10, .int .i64 0, .pointer (some ⟨B12, 0, none⟩), .int .i64 0, .slice (some ⟨A14, O14, none⟩) 3 d14, .int .i64 0, .int .i64 30, .int .i64 0, .int .i64 0, .int .i64 0, .int .i64 0, .int .i64 7, x 6, undef, undef, undef, undef, undef, z 28, z 29, z 30, z 31, z 32, z 33, z 34, z 35, z 36, z 37, z 38, z 39, z 40, z 41, z 42, z 43, z 44, z 45, z 46, z 47, z 48, z 49, z 50, z 51, z 52, z 53, z 54, z 55, z 56, z 57, z 58, z 59, z 60, z 61, z 62, z 63, z 64, z 65, z 66, z 67, z 68, z 69, z 70, z 71, z 72, z 73, z 74, z 75, z 76, z 77, z 78, z 79, z 80, z 81, z 82, z 83, z 84, z 85, z 86, z 87, z 88, x 3, .agg #[.int .i64 300, .int .i64 320, .int .i64 100, .int .i64 110], .slice t1 3 3, x 2, x 4, x 5, undef, undef, undef, undef, undef, undef, undef, undef, undef, undef, undef, undef, undef, undef, undef, undef, undef, undef, undef, undef, undef, undef, undef, undef, undef, undef, undef, undef, undef, undef, undef, undef, undef, undef, undef, undef, undef, undef, undef, undef, undef, undef, undef, undef, undef, undef, undef, undef, undef, undef, undef, undef, undef, undef, undef, undef, undef, undef, undef, undef, undef, undef, undef, undef, undef, undef, undef, undef, undef, undef, undef, undef, undef, undef, undef, undef, undef, undef, undef, undef, undef, undef, undef, undef, undef, undef, undef, undef, undef, undef, undef, undef, undef, undef, undef, undef, undef, undef, undef, undef, undef, undef, undef, undef, undef, undef, undef, undef, undef, undef, undef, undef, undef, undef, undef, undef, undef, undef, undef, undef, undef, undef, undef, undef, undef, undef, undef], []⟩ : Act) v
          refine wpOp_step rfl (fun K' hK' => ?_)
          go_simp
          refine (high1 t1 v r1).mono ?_
          rintro e v' ⟨rfl, hg⟩
          exact hK' _ _ (hK _ _ hg (at_of rfl (rfl)))
        · obtain ⟨x, rfl⟩ := upd_of (show x 2 = .tuple #[.int .i64 3, .int .i64 0] from hd 2 _ (by simp) rfl)
          show wpOp Try.prog _ _ 3 K (⟨#[.bool false, .pointer (some ⟨B1, 0, none⟩), .pointer (some ⟨(B1 + 1), 0, none⟩), .int .i64 3, .int .i64 0, .int .i64 2, .int .i64 0, .int .i64 1, .int .i64 2, .int .i64 0, .slice (some ⟨A10, O10, none⟩) 1 d10, .int .i64 0, .pointer (some ⟨B12, 0, none⟩), .int .i64 0, .slice (some ⟨A14, O14, none⟩) 3 d14, .int .i64 0, .int .i64 30, .int .i64 0, .int .i64 0, .int .i64 0, .int .i64 0, .int .i64 7, x 6, undef, undef, undef, undef, undef, z 28, z 29, z 30, z 31, z 32, z 33, z 34, z 35, z 36, z 37, z 38, z 39, z 40, z 41, z 42, z 43, z 44, z 45, z 46, z 47, z 48, z 49, z 50, z 51, z 52, z 53, z 54, z 55, z 56, z 57, z 58, z 59, z 60, z 61, z 62, z 63, z 64, z 65, z 66, z 67, z 68, z 69, z 70, z 71, z 72, z 73, z 74, z 75, z 76, z 77, z 78, z 79, z 80, z 81, z 82, z 83, z 84, z 85, z 86, z 87, z 88, x 3, x 0, x 1, .tuple #[.int .i64 3, .int .i64 0], x 4, x 5, undef, undef, undef, undef, undef, undef, undef, undef, undef, undef, undef, undef, undef, undef, undef, undef, undef, undef, undef, undef, undef, undef, undef, undef, undef, undef, undef, undef, undef, undef, undef, undef, undef, undef, undef, undef, undef, undef, undef, undef, undef, undef, undef, undef, undef, undef, undef, undef, undef, undef, undef, undef, undef, undef, undef, undef, undef, undef, undef, undef, undef, undef, undef, undef, undef, undef, undef, undef, undef, undef, undef, undef, undef, undef, undef, undef, undef, undef, undef, undef, undef, undef, undef, undef, undef, undef, undef, undef, undef, undef, undef, undef, undef, undef, undef, undef, undef, undef, undef, undef, undef, undef, undef, undef, undef, undef, undef, undef, undef, undef, undef, undef, undef, undef, undef, undef, undef, undef, undef, undef, undef, undef, undef, undef, undef, undef, undef], []⟩ : Act) v
          refine wpOp_step rfl (fun K' hK' => ?_)
          go_simp
          exact hK' _ _ (hK _ _ (Below.refl _ _) (at_of rfl (rfl)))
        · obtain ⟨x, rfl⟩ := upd_of (show x 3 = .tuple #[.int .i64 3, .int .i64 0] from hd 3 _ (by simp) rfl)
          show wpOp Try.prog _ _ 4 K (⟨#[.bool false, .pointer (some ⟨B1, 0, none⟩), .pointer (some ⟨(B1 + 1), 0, none⟩), .int .i64 3, .int .i64 0, .int .i64 2, .int .i64 0, .int .i64 1, .int .i64 2, .int .i64 0, .slice (some ⟨A10, O10, none⟩) 1 d10, .int .i64 0, .pointer (some ⟨B12, 0, none⟩), .int .i64 0, .slice (some ⟨A14, O14, none⟩) 3 d14, .int .i64 0, .int .i64 30, .int .i64 0, .int .i64 0, .int .i64 0, .int .i64 0, .int .i64 7, x 6, undef, undef, undef, undef, undef, z 28, z 29, z 30, z 31, z 32, z 33, z 34, z 35, z 36, z 37, z 38, z 39, z 40, z 41, z 42, z 43, z 44, z 45, z 46, z 47, z 48, z 49, z 50, z 51, z 52, z 53, z 54, z 55, z 56, z 57, z 58, z 59, z 60, z 61, z 62, z 63, z 64, z 65, z 66, z 67, z 68, z 69, z 70, z 71, z 72, z 73, z 74, z 75, z 76, z 77, z 78, z 79, z 80, z 81, z 82, z 83, z 84, z 85, z 86, z 87, z 88, .tuple #[.int .i64 3, .int .i64 0], x 0, x 1, x 2, x 4, x 5, undef, undef, undef, undef, undef, undef, undef, undef, undef, undef, undef, undef, undef, undef, undef, undef, undef, undef, undef, undef, undef, undef, undef, undef, undef, undef, undef, undef, undef, undef, undef, undef, undef, undef, undef, undef, undef, undef, undef, undef, undef, undef, undef, undef, undef, undef, undef, undef, undef, undef, undef, undef, undef, undef, undef, undef, undef, undef, undef, undef, undef, undef, undef, undef, undef, undef, undef, undef, undef, undef, undef, undef, undef, undef, undef, undef, undef, undef, undef, undef, undef, undef, undef, undef, undef, undef, undef, undef, undef, undef, undef, undef, undef, undef, undef, undef, undef, undef, undef, undef, undef, undef, undef, undef, undef, undef, undef, undef, undef, undef, undef, undef, undef, undef, undef, undef, undef, undef, undef, undef, undef, undef, undef, undef, undef, undef, undef], []⟩ : Act) v
          refine wpOp_step rfl (fun K' hK' => ?_)
          go_simp
          exact hK' _ _ (hK _ _ (Below.refl _ _) (at_of rfl (rfl)))
        · obtain ⟨x, rfl⟩ := upd_of (show x 3 = .tuple #[.int .i64 3, .int .i64 0] from hd 3 _ (by simp) rfl)
          show wpOp Try.prog _ _ 5 K (⟨#[.bool false, .pointer (some ⟨B1, 0, none⟩), .pointer (some ⟨(B1 + 1), 0, none⟩), .int .i64 3, .int .i64 0, .int .i64 2, .int .i64 0, .int .i64 1, .int .i64 2, .int .i64 0, .slice (some ⟨A10, O10, none⟩) 1 d10, .int .i64 0, .pointer (some ⟨B12, 0, none⟩), .int .i64 0, .slice (some ⟨A14, O14, none⟩) 3 d14, .int .i64 0, .int .i64 30, .int .i64 0, .int .i64 0, .int .i64 0, .int .i64 0, .int .i64 7, x 6, undef, undef, undef, undef, undef, z 28, z 29, z 30, z 31, z 32, z 33, z 34, z 35, z 36, z 37, z 38, z 39, z 40, z 41, z 42, z 43, z 44, z 45, z 46, z 47, z 48, z 49, z 50, z 51, z 52, z 53, z 54, z 55, z 56, z 57, z 58, z 59, z 60, z 61, z 62, z 63, z 64, z 65, z 66, z 67, z 68, z 69, z 70, z 71, z 72, z 73, z 74, z 75, z 76, z 77, z 78, z 79, z 80, z 81, z 82, z 83, z 84, z 85, z 86, z 87, z 88, .tuple #[.int .i64 3, .int .i64 0], x 0, x 1, x 2, x 4, x 5, undef, undef, undef, undef, undef, undef, undef, undef, undef, undef, undef, undef, undef, undef, undef, undef, undef, undef, undef, undef, undef, undef, undef, undef, undef, undef, undef, undef, undef, undef, undef, undef, undef, undef, undef, undef, undef, undef, undef, undef, undef, undef, undef, undef, undef, undef, undef, undef, undef, undef, undef, undef, undef, undef, undef, undef, undef, undef, undef, undef, undef, undef, undef, undef, undef, undef, undef, undef, undef, undef, undef, undef, undef, undef, undef, undef, undef, undef, undef, undef, undef, undef, undef, undef, undef, undef, undef, undef, undef, undef, undef, undef, undef, undef, undef, undef, undef, undef, undef, undef, undef, undef, undef, undef, undef, undef, undef, undef, undef, undef, undef, undef, undef, undef, undef, undef, undef, undef, undef, undef, undef, undef, undef, undef, undef, undef, undef], []⟩ : Act) v
          refine wpOp_step rfl (fun K' hK' => ?_)
          go_simp
          exact hK' _ _ (hK _ _ (Below.refl _ _) (at_of rfl (rfl)))
        · obtain ⟨x, rfl⟩ := upd_of (show x 4 = .int .i64 3 from hd 4 _ (by simp) rfl)
          show wpOp Try.prog _ _ 6 K (⟨#[.bool false, .pointer (some ⟨B1, 0, none⟩), .pointer (some ⟨(B1 + 1), 0, none⟩), .int .i64 3, .int .i64 0, .int .i64 2, .int .i64 0, .int .i64 1, .int .i64 2, .int .i64 0, .slice (some ⟨A10, O10, none⟩) 1 d10, .int .i64 0, .pointer (some ⟨B12, 0, none⟩), .int .i64 0, .slice (some ⟨A14, O14, none⟩) 3 d14, .int .i64 0, .int .i64 30, .int .i64 0, .int .i64 0, .int .i64 0, .int .i64 0, .int .i64 7, x 6, undef, undef, undef, undef, undef, z 28, z 29, z 30, z 31, z 32, z 33, z 34, z 35, z 36, z 37, z 38, z 39, z 40, z 41, z 42, z 43, z 44, z 45, z 46, z 47, z 48, z 49, z 50, z 51, z 52, z 53, z 54, z 55, z 56, z 57, z 58, z 59, z 60, z 61, z 62, z 63, z 64, z 65, z 66, z 67, z 68, z 69, z 70, z 71, z 72, z 73, z 74, z 75, z 76, z 77, z 78, z 79, z 80, z 81, z 82, z 83, z 84, z 85, z 86, z 87, z 88, x 3, x 0, x 1, x 2, .int .i64 3, x 5, undef, undef, undef, undef, undef, undef, undef, undef, undef, undef, undef, undef, undef, undef, undef, undef, undef, undef, undef, undef, undef, undef, undef, undef, undef, undef, undef, undef, undef, undef, undef, undef, undef, undef, undef, undef, undef, undef, undef, undef, undef, undef, undef, undef, undef, undef, undef, undef, undef, undef, undef, undef, undef, undef, undef, undef, undef, undef, undef, undef, undef, undef, undef, undef, undef, undef, undef, undef, undef, undef, undef, undef, undef, undef, undef, undef, undef, undef, undef, undef, undef, undef, undef, undef, undef, undef, undef, undef, undef, undef, undef, undef, undef, undef, undef, undef, undef, undef, undef, undef, undef, undef, undef, undef, undef, undef, undef, undef, undef, undef, undef, undef, undef, undef, undef, undef, undef, undef, undef, undef, undef, undef, undef, undef, undef, undef, undef], []⟩ : Act) v
          refine wpOp_step rfl (fun K' hK' => ?_)
          go_simp
          exact hK' _ _ (hK _ _ (Below.refl _ _) (at_of rfl (rfl)))
      case fin10 =>
        rintro x v gv hd
        obtain ⟨x, rfl⟩ := upd_of (show x 5 = .int .i64 0 from hd 5 _ (by omega) rfl)
        obtain ⟨x, rfl⟩ := upd_of (show x 6 = .int .i64 3 from hd 6 _ (by omega) rfl)
        clear hd
        show wpList Try.prog _ _ (List.drop 7 _) (⟨#[.bool false, .pointer (some ⟨B1, 0, none⟩), .pointer (some ⟨(B1 + 1), 0, none⟩), .int .i64 3, .int .i64 0, .int .i64 2, .int .i64 0, .int .i64 1, .int .i64 2, .int .i64 0, .slice (some ⟨A10, O10, none⟩) 1 d10, .int .i64 0, .pointer (some ⟨B12, 0, none⟩), .int .i64 0, .slice (some ⟨A14, O14, none⟩) 3 d14, .int .i64 0, .int .i64 30, .int .i64 0, .int .i64 0, .int .i64 0, .int .i64 0, .int .i64 7, .int .i64 3, undef, undef, undef, undef, undef, z 28, z 29, z 30, z 31, z 32, z 33, z 34, z 35, z 36, z 37, z 38, z 39, z 40, z 41, z 42, z 43, z 44, z 45, z 46, z 47, z 48, z 49, z 50, z 51, z 52, z 53, z 54, z 55, z 56, z 57, z 58, z 59, z 60, z 61, z 62, z 63, z 64, z 65, z 66, z 67, z 68, z 69, z 70, z 71, z 72, z 73, z 74, z 75, z 76, z 77, z 78, z 79, z 80, z 81, z 82, z 83, z 84, z 85, z 86, z 87, z 88, x 3, x 0, x 1, x 2, x 4, .int .i64 0, undef, undef, undef, undef, undef, undef, undef, undef, undef, undef, undef, undef, undef, undef, undef, undef, undef, undef, undef, undef, undef, undef, undef, undef, undef, undef, undef, undef, undef, undef, undef, undef, undef, undef, undef, undef, undef, undef, undef, undef, undef, undef, undef, undef, undef, undef, undef, undef, undef, undef, undef, undef, undef, undef, undef, undef, undef, undef, undef, undef, undef, undef, undef, undef, undef, undef, undef, undef, undef, undef, undef, undef, undef, undef, undef, undef, undef, undef, undef, undef, undef, undef, undef, undef, undef, undef, undef, undef, undef, undef, undef, undef, undef, undef, undef, undef, undef, undef, undef, undef, undef, undef, undef, undef, undef, undef, undef, undef, undef, undef, undef, undef, undef, undef, undef, undef, undef, undef, undef, undef, undef, undef, undef, undef, undef, undef, undef], []⟩ : Act) v
        simp only [List.drop_succ_cons, List.drop_zero]
        replace gX := gX.tr gv
        replace r10 := r10.grow gv
        replace b12 := b12.keep gv
        replace r14 := r14.grow gv
        clear gv b2
        go_upto_region 11 with fail
        have tok0 : True := trivial
        have tok1 : True := trivial
        go_upto_region 12 with (first
          | (have _t := tok0; clear tok0 _t; go_at_call 57; refine (load_any 100 100 50 50 _).mono ?_; rintro e u0 ⟨rfl, h0⟩)
          | (have _t := tok1; clear tok1 _t; go_at_call 57; refine (load_any 200 200 100 100 _).mono ?_; rintro e u1 ⟨rfl, h1⟩)
          | (go_at_call 57; refine (load_any 40 40 60 60 _).mono ?_; rintro e u2 ⟨rfl, h2⟩)
          | (go_at_call 58; refine (table_any _).mono ?_; rintro e u3 ⟨t3, rfl, rt, h3⟩; obtain ⟨TB, TO, rfl, _⟩ := rt.addr (by decide))
          | (go_at_call 45; refine (ex_order _ _ _ _ _ ((RowOf.lit31 (enc := encL) (sz := 4) (fun _ => rfl) u2 70 or3 (by decide) #[.int .i64 100, .int .i64 100, .int .i64 50, .int .i64 50, .int .i64 200, .int .i64 200, .int .i64 100, .int .i64 100, .int .i64 40, .int .i64 40, .int .i64 60, .int .i64 60] (by rfl) _ rfl).grow h3) (RowOf.take31 rt 1)).mono ?_; rintro e u4 ⟨a24, d24, rfl, r24, h4⟩))
        have g := (h0.tr (h1.tr h2)).tr ((Gr.al u2 (.cells #[.int .i64 100, .int .i64 100, .int .i64 50, .int .i64 50, .int .i64 200, .int .i64 200, .int .i64 100, .int .i64 100, .int .i64 40, .int .i64 40, .int .i64 60, .int .i64 60] 70)).tr (h3.tr h4))
        replace gX := gX.tr g
        replace r10 := r10.grow g
        replace b12 := b12.keep g
        replace r14 := r14.grow g
        clear g h0 h1 h2 h3 h4 rt
        obtain ⟨A24, O24, rfl, _⟩ := r24.addr (by decide)
        have tok0 : True := trivial
        have tok1 : True := trivial
        go_upto_region 13 with (first
          | (have _t := tok0; clear tok0 _t; go_at_call 57; refine (load_any 100 100 50 50 _).mono ?_; rintro e u0 ⟨rfl, h0⟩)
          | (have _t := tok1; clear tok1 _t; go_at_call 57; refine (load_any 40 40 60 60 _).mono ?_; rintro e u1 ⟨rfl, h1⟩)
          | (go_at_call 57; refine (load_any 50 50 60 60 _).mono ?_; rintro e u2 ⟨rfl, h2⟩)
          | (go_at_call 58; refine (table_any _).mono ?_; rintro e u3 ⟨t3, rfl, rt, h3⟩; obtain ⟨TB, TO, rfl, _⟩ := rt.addr (by decide))
          | (go_at_call 46; refine (ex_most _ _ _ _ _ ((RowOf.lit31 (enc := encL) (sz := 4) (fun _ => rfl) u2 70 mo3 (by decide) #[.int .i64 100, .int .i64 100, .int .i64 50, .int .i64 50, .int .i64 40, .int .i64 40, .int .i64 60, .int .i64 60, .int .i64 50, .int .i64 50, .int .i64 60, .int .i64 60] (by rfl) _ rfl).grow h3) (RowOf.take31 rt 1)).mono ?_; rintro e u4 ⟨a26, d26, rfl, r26, h4⟩))
        have g := (h0.tr (h1.tr h2)).tr ((Gr.al u2 (.cells #[.int .i64 100, .int .i64 100, .int .i64 50, .int .i64 50, .int .i64 40, .int .i64 40, .int .i64 60, .int .i64 60, .int .i64 50, .int .i64 50, .int .i64 60, .int .i64 60] 70)).tr (h3.tr h4))
        replace gX := gX.tr g
        replace r10 := r10.grow g
        replace b12 := b12.keep g
        replace r14 := r14.grow g
        replace r24 := r24.grow g
        clear g h0 h1 h2 h3 h4 rt
        obtain ⟨A26, O26, rfl, _⟩ := r26.addr (by decide)
        go_upto_region 15 with fail
        refine (show (∀ n : Nat → Value, Code.wp Try.prog _ _ ⟨#[.bool false, .pointer (some ⟨B1, 0, none⟩), .pointer (some ⟨(B1 + 1), 0, none⟩), .int .i64 3, .int .i64 0, .int .i64 2, .int .i64 0, .int .i64 1, .int .i64 2, .int .i64 0, .slice (some ⟨A10, O10, none⟩) 1 d10, .int .i64 0, .pointer (some ⟨B12, 0, none⟩), .int .i64 0, .slice (some ⟨A14, O14, none⟩) 3 d14, .int .i64 0, .int .i64 30, .int .i64 0, .int .i64 0, .int .i64 0, .int .i64 0, .int .i64 7, .int .i64 3, .int .i64 0, .slice (some ⟨A24, O24, none⟩) 3 d24, .int .i64 0, .slice (some ⟨A26, O26, none⟩) 2 d26, .int .i64 0, n 28, n 29, n 30, n 31, n 32, n 33, n 34, n 35, n 36, n 37, n 38, n 39, n 40, n 41, n 42, n 43, n 44, n 45, n 46, n 47, n 48, n 49, n 50, n 51, n 52, n 53, n 54, n 55, n 56, n 57, n 58, n 59, n 60, n 61, n 62, n 63, n 64, n 65, n 66, n 67, n 68, n 69, n 70, n 71, n 72, n 73, n 74, n 75, n 76, n 77, n 78, n 79, n 80, n 81, n 82, n 83, n 84, n 85, n 86, n 87, n 88, n 89, n 90, n 91, n 92, n 93, n 94, n 95, n 96, n 97, n 98, n 99, n 100, n 101, n 102, n 103, n 104, n 105, n 106, n 107, n 108, n 109, n 110, n 111, n 112, n 113, n 114, n 115, n 116, n 117, n 118, n 119, n 120, n 121, n 122, n 123, n 124, n 125, n 126, n 127, n 128, n 129, n 130, n 131, n 132, n 133, n 134, n 135, n 136, n 137, n 138, n 139, n 140, n 141, n 142, n 143, n 144, n 145, n 146, n 147, n 148, n 149, n 150, n 151, n 152, n 153, n 154, n 155, n 156, n 157, n 158, n 159, n 160, n 161, undef, undef, undef, undef, undef, undef, undef, undef, undef, undef, undef, undef, undef, undef, undef, undef, undef, undef, undef, undef, undef, undef, undef, undef, undef, undef, undef, undef, undef, undef, undef, undef, undef, undef, undef, undef, undef, undef, undef, undef, undef, undef, undef, undef, undef, undef, undef, undef, undef, undef, undef, undef, undef, undef, undef, undef, undef, undef, undef, undef], []⟩ _) → _ from fun h => h ((fun l : List Value => fun i => l.getD i undef) [undef, undef, undef, undef, undef, undef, undef, undef, undef, undef, undef, undef, undef, undef, undef, undef, undef, undef, undef, undef, undef, undef, undef, undef, undef, undef, undef, undef, _, _, _, _, _, _, _, _, _, _, _, _, _, _, _, _, _, _, _, _, _, _, _, _, _, _, _, _, _, _, _, _, _, _, _, _, _, _, _, _, _, _, _, _, _, _, _, _, _, _, _, _, _, _, _, _, _, _, _, _, _, _, _, _, _, _, _, _, _, _, _, _, _, _, _, _, _, _, _, _, _, _, _, _, _, _, _, _, _, _, _, _, _, _, _, _, _, _, _, _, _, _, _, _, _, _, _, _, _, _, _, _, _, _, _, _, _, _, _, _, _, _, _, _, _, _, _, _, _, _, _, _, _, _])) ?_
        intro n
        dsimp only
        obtain ⟨c12a, c12b⟩ := b12.c2
        obtain ⟨_, _, he0, _, e0, e1⟩ := SRow.get r14 (j := 0) (x := ⟨200, 220⟩) rfl
        obtain ⟨_, _, he2, _, e4, e5⟩ := SRow.get r14 (j := 2) (x := ⟨0, 0⟩) rfl
        cases he0
        cases he2
        simp only [Nat.zero_mul, Nat.add_zero, Nat.reduceMul] at e0 e1 e4 e5
        have gv := Gr.dr u4
        obtain ⟨x0, x1⟩ := (b12.keep gv).c2
        have x2 := gv.keep e0
        have x3 := gv.keep e1
        have x4 := gv.keep e4
        have x5 := gv.keep e5
        have tk0 : True := trivial
        have tk1 : True := trivial
        have ts0' : True := trivial
        have ts1' : True := trivial
        go_region_held3 (fun w' => w'.cell? ⟨B12, 0, none⟩ = some (.int .i64 74226) ∧ w'.cell? ⟨B12, 1, none⟩ = some (.int .i64 91290) ∧ w'.cell? ⟨A14, O14, none⟩ = some (.int .i64 200) ∧ w'.cell? ⟨A14, O14 + 1, none⟩ = some (.int .i64 220) ∧ w'.cell? ⟨A14, O14 + 4, none⟩ = some (.int .i64 0) ∧ w'.cell? ⟨A14, O14 + 4 + 1, none⟩ = some (.int .i64 0)) (first | exact ⟨x0, x1, x2, x3, x4, x5⟩ | go_keep) (first
          | (have _t := ts0'; clear ts0' _t; go_at_call 22; (refine (same_any [1] [1] (some ⟨A10, O10, none⟩) _ d10 _ _ (r10.grow (gv.tr (Gr.al _ _))) (IRow.new' _ 3 [1] (by decide) _ rfl _ (by rfl))).mono ?_); rintro e wq ⟨rfl, hy⟩; replace gv := (gv.tr (Gr.al _ _)).tr hy; (obtain ⟨x0, x1⟩ := (b12.keep gv).c2); have x2 := gv.keep e0; have x3 := gv.keep e1; have x4 := gv.keep e4; have x5 := gv.keep e5)
          | (have _t := ts1'; clear ts1' _t; go_at_call 22; (refine (same_any [1, 0, 2] [1, 0, 2] (some ⟨A24, O24, none⟩) _ d24 _ _ (r24.grow (gv.tr (Gr.al _ _))) (IRow.new' _ 3 [1, 0, 2] (by decide) _ rfl _ (by rfl))).mono ?_); rintro e wq ⟨rfl, hy⟩; replace gv := (gv.tr (Gr.al _ _)).tr hy; (obtain ⟨x0, x1⟩ := (b12.keep gv).c2); have x2 := gv.keep e0; have x3 := gv.keep e1; have x4 := gv.keep e4; have x5 := gv.keep e5)
          | (go_at_call 22; (refine (same_any [0, 1] [0, 1] (some ⟨A26, O26, none⟩) _ d26 _ _ (r26.grow (gv.tr (Gr.al _ _))) (IRow.new' _ 3 [0, 1] (by decide) _ rfl _ (by rfl))).mono ?_); rintro e wq ⟨rfl, hy⟩; replace gv := (gv.tr (Gr.al _ _)).tr hy; (obtain ⟨x0, x1⟩ := (b12.keep gv).c2); have x2 := gv.keep e0; have x3 := gv.keep e1; have x4 := gv.keep e4; have x5 := gv.keep e5)
          | (have _t := tk0; clear tk0 _t; go_at_call 31; (refine (armSpan_any 74226 91290 _).mono ?_); rintro e wq ⟨rfl, hy⟩; replace gv := gv.tr hy; (obtain ⟨x0, x1⟩ := (b12.keep gv).c2); have x2 := gv.keep e0; have x3 := gv.keep e1; have x4 := gv.keep e4; have x5 := gv.keep e5)
          | (have _t := tk1; clear tk1 _t; go_at_call 31; (refine (armSpan_any 200 220 _).mono ?_); rintro e wq ⟨rfl, hy⟩; replace gv := gv.tr hy; (obtain ⟨x0, x1⟩ := (b12.keep gv).c2); have x2 := gv.keep e0; have x3 := gv.keep e1; have x4 := gv.keep e4; have x5 := gv.keep e5)
          | (go_at_call 31; (refine (armSpan_any 0 0 _).mono ?_); rintro e wq ⟨rfl, hy⟩; replace gv := gv.tr hy; (obtain ⟨x0, x1⟩ := (b12.keep gv).c2); have x2 := gv.keep e0; have x3 := gv.keep e1; have x4 := gv.keep e4; have x5 := gv.keep e5))
        all_goals
          go_wp2
          go_ret
          exact ⟨rfl, gX.tr gv⟩

end Go.Proofs.Ytjdeojpapdphoaa
