/- Contracts of the closures of a sheet, and of lowest. -/
import Derived.Test.YtbohjmogpiaejaaB8
namespace Go.Proofs.Ytbohjmogpiaejaa
set_option linter.unusedVariables false
set_option linter.unusedSimpArgs false
open Go.RowKit

theorem call109 (args : Array Value) (W : World) : (callFunc 72 args).run Try.prog W = .ok (.enter 72 args) W := by kernel_rfl
theorem call133 (args : Array Value) (W : World) : (callFunc 70 args).run Try.prog W = .ok (.enter 70 args) W := by kernel_rfl
theorem call110 (args : Array Value) (W : World) : (callFunc 46 args).run Try.prog W = .ok (.enter 46 args) W := by kernel_rfl
theorem call111 (args : Array Value) (W : World) : (callFunc 47 args).run Try.prog W = .ok (.enter 47 args) W := by kernel_rfl

theorem f109_any (p : Paper) (w : World) :
    Calls Try.prog 72 #[.agg #[.int .i64 p.kind, .int .i64 p.weight, .int .i64 p.tlo, .int .i64 p.thi, .int .i64 p.mlo, .int .i64 p.mhi, .int .i64 p.price, .int .i64 p.strong]] w fun e w' => e = .returned (.int .i64 p.weight) ∧ Gr w w' := by
  have gg := Gr.al w (.cells #[.int .i64 p.kind, .int .i64 p.weight, .int .i64 p.tlo, .int .i64 p.thi, .int .i64 p.mlo, .int .i64 p.mhi, .int .i64 p.price, .int .i64 p.strong] 68)
  go_enter Try.func72, Try.ntmps72
  go_wp2
  go_ret
  exact ⟨rfl, gg⟩

theorem f110_any (a b : Int) (w : World) :
    Calls Try.prog 46 #[.agg #[.int .i64 a, .int .i64 b]] w fun e w' => e = .returned (.int .i64 a) ∧ Gr w w' := by
  have gg := Gr.al w (.cells #[.int .i64 a, .int .i64 b] 43)
  go_enter Try.func46, Try.ntmps46
  go_wp2
  go_ret
  exact ⟨rfl, gg⟩

theorem f111_any (a b : Int) (w : World) :
    Calls Try.prog 47 #[.agg #[.int .i64 a, .int .i64 b]] w fun e w' => e = .returned (.int .i64 b) ∧ Gr w w' := by
  have gg := Gr.al w (.cells #[.int .i64 a, .int .i64 b] 43)
  go_enter Try.func47, Try.ntmps47
  go_wp2
  go_ret
  exact ⟨rfl, gg⟩

/-- One end of a span: the least number, or the greatest. -/
def endOf (up : Bool) (a b : Int) : Int := if up then b else a
def endFn (up : Bool) : FuncId := if up then 47 else 46

theorem callEnd (up : Bool) (args : Array Value) (W : World) : (callFunc (endFn up) args).run Try.prog W = .ok (.enter (endFn up) args) W := by
  cases up
  · exact call110 args W
  · exact call111 args W

theorem end_any (up : Bool) (a b : Int) (w : World) :
    Calls Try.prog (endFn up) #[.agg #[.int .i64 a, .int .i64 b]] w fun e w' => e = .returned (.int .i64 (endOf up a b)) ∧ Gr w w' := by
  cases up
  · exact f110_any a b w
  · exact f111_any a b w

set_option maxRecDepth 100000 in
set_option maxHeartbeats 1000000 in
theorem f133_any (up : Bool) (p : Paper) (h : goodP p = true) (b : Nat) (w : World) (hb : w.cell? ⟨b, 0, none⟩ = some (.func (.func (endFn up)) #[] #[])) :
    Calls Try.prog 70 #[.agg #[.int .i64 p.kind, .int .i64 p.weight, .int .i64 p.tlo, .int .i64 p.thi, .int .i64 p.mlo, .int .i64 p.mhi, .int .i64 p.price, .int .i64 p.strong], .pointer (some ⟨b, 0, none⟩)] w fun e w' =>
      e = .returned (.int .i64 (p.weight * (1000 + endOf up p.mlo p.mhi))) ∧ Gr w w' := by
  have gg := Gr.al w (.cells #[.int .i64 p.kind, .int .i64 p.weight, .int .i64 p.tlo, .int .i64 p.thi, .int .i64 p.mlo, .int .i64 p.mhi, .int .i64 p.price, .int .i64 p.strong] 68)
  have ob := Box.new w [.int .i64 p.kind, .int .i64 p.weight, .int .i64 p.tlo, .int .i64 p.thi, .int .i64 p.mlo, .int .i64 p.mhi, .int .i64 p.price, .int .i64 p.strong] 68 w.heap.size rfl
  obtain ⟨_, h1, h2, _, _, _, h3, h4, h5, _⟩ := goodP_iff h
  have he : 0 ≤ endOf up p.mlo p.mhi ∧ endOf up p.mlo p.mhi ≤ 200 := by
    unfold endOf
    split <;> omega
  obtain ⟨he0, he1⟩ := he
  obtain ⟨m0, m1⟩ := mul_bd (show 0 ≤ p.weight by omega) h2 (show 0 ≤ 1000 + endOf up p.mlo p.mhi by omega) (show 1000 + endOf up p.mlo p.mhi ≤ 1200 by omega)
  have hcall := callEnd up
  go_enter Try.func70, Try.ntmps70
  go_wp2
  refine wp_abs (fun W => Gr w W ∧ Box W w.heap.size [.int .i64 p.kind, .int .i64 p.weight, .int .i64 p.tlo, .int .i64 p.thi, .int .i64 p.mlo, .int .i64 p.mhi, .int .i64 p.price, .int .i64 p.strong]) ⟨gg, ob⟩ ?_
  clear gg ob
  rintro W ⟨gg, ob⟩
  have gd := gg.tr (Gr.dr _)
  obtain ⟨d0, d1, d2, d3, d4, d5, d6, d7⟩ := (ob.keep (Gr.dr _)).c8
  have d8 := gd.keep hb
  have hw1 : IntKind.i64.wrap (1000 + endOf up p.mlo p.mhi) = 1000 + endOf up p.mlo p.mhi := IntWalk.i64_in _ (by omega)
  have hw2 : IntKind.i64.wrap (p.weight * (1000 + endOf up p.mlo p.mhi)) = p.weight * (1000 + endOf up p.mlo p.mhi) := IntWalk.i64_in _ (by omega)
  clear he0 he1 m0 m1 h1 h2 h3 h4 h5
  go_region_held3 (fun w' => w'.cell? ⟨w.heap.size, 1, none⟩ = some (.int .i64 p.weight) ∧ w'.cell? ⟨w.heap.size, 4, none⟩ = some (.int .i64 p.mlo) ∧ w'.cell? ⟨w.heap.size, 5, none⟩ = some (.int .i64 p.mhi) ∧ w'.cell? ⟨b, 0, none⟩ = some (.func (.func (endFn up)) #[] #[])) (first | exact ⟨d1, d4, d5, d8⟩ | exact ⟨e1, e4, e5, e8⟩) (first | ((refine (end_any up _ _ _).mono ?_); rintro e w2 ⟨rfl, hx⟩; (obtain ⟨e0, e1, e2, e3, e4, e5, e6, e7⟩ := (ob.keep ((Gr.dr _).tr hx)).c8); have e8 := (gd.tr hx).keep hb))
  all_goals
    go_wp2
    go_ret
    exact ⟨rfl, gd.tr hx⟩

/-- The greatest number that divides both. -/
def gcdI (num den : Int) : Int := (Nat.gcd num.toNat den.toNat : Nat)

theorem gcdI_pos {num den : Int} (hd : 1 ≤ den) : 1 ≤ gcdI num den := by
  have : 0 < Nat.gcd num.toNat den.toNat := Nat.gcd_pos_of_pos_right _ (by omega)
  unfold gcdI
  omega

set_option maxRecDepth 100000 in
set_option maxHeartbeats 1000000 in
theorem lowest_any (num den : Int) (hn : 0 ≤ num) (hn1 : num ≤ 9223372036854775807) (hd : 1 ≤ den) (hd1 : den ≤ 9223372036854775807) (w : World) :
    Calls Try.prog 71 #[.int .i64 num, .int .i64 den] w fun e w' => e = .returned (.agg #[.int .i64 (num / gcdI num den), .int .i64 (den / gcdI num den)]) ∧ Gr w w' := by
  obtain ⟨n, rfl⟩ := Int.eq_ofNat_of_zero_le hn
  obtain ⟨d, rfl⟩ := Int.eq_ofNat_of_zero_le (show 0 ≤ den by omega)
  have gg := Gr.al w (.cells #[.int .i64 0, .int .i64 0] 90)
  have ob := Own.new w [.int .i64 0, .int .i64 0] 90 w.heap.size rfl
  go_enter Try.func71, Try.ntmps71
  go_wp2
  refine wp_abs (fun W => Gr w W ∧ Own W w.heap.size [.int .i64 0, .int .i64 0]) ⟨gg, ob⟩ ?_
  clear gg ob
  rintro W ⟨gg, ob⟩
  go_loopw [5, 6] (fun x y wr => ∃ a b : Nat, x = .int .i64 a ∧ y = .int .i64 b ∧ a ≤ 9223372036854775807 ∧ b ≤ 9223372036854775807 ∧ Nat.gcd a b = Nat.gcd n d ∧ Gr w wr ∧ Own wr w.heap.size [.int .i64 0, .int .i64 0]) (fun x y wr => (intOf y).toNat)
  case atStart => exact ⟨n, d, rfl, rfl, by omega, by omega, rfl, gg, ob⟩
  case round =>
    clear gg ob
    obtain ⟨a, b, rfl, rfl, ha, hb, hab, gg, ob⟩ := hrel
    have Hab := Lib.hid hab
    clear hab
    by_cases h0 : 1 ≤ b
    · have hne : ((b : Int) != 0) = true := by rw [bne_iff_ne]; omega
      have hlt := Nat.mod_lt a (show 0 < b by omega)
      go_wp2
      go_quiet (fail)
      go_wp2
      refine ⟨⟨b, a % b, rfl, by simp, hb, by omega, ?_, gg.drewN _, ob.keep (Gr.drewN (Below.refl _ _) _)⟩, ?_⟩
      · rw [← Hab.out, Nat.gcd_comm a b, Nat.gcd_rec b a, Nat.gcd_comm]
      · simp [intOf]; omega
    · obtain rfl : b = 0 := by omega
      have hga : a = Nat.gcd n d := by rw [← Hab.out]; simp
      have hpos : 0 < Nat.gcd n d := Nat.gcd_pos_of_pos_right _ (by omega)
      have Hga := Lib.hid hga
      have ha1 : 1 ≤ a := by omega
      have hq1 : 0 ≤ (n : Int) / (a : Int) ∧ (n : Int) / (a : Int) ≤ n := ⟨Int.ediv_nonneg (by omega) (by omega), Int.ediv_le_self _ (by omega)⟩
      have hq2 : 0 ≤ (d : Int) / (a : Int) ∧ (d : Int) / (a : Int) ≤ d := ⟨Int.ediv_nonneg (by omega) (by omega), Int.ediv_le_self _ (by omega)⟩
      obtain ⟨hq1, hq3⟩ := hq1
      obtain ⟨hq2, hq4⟩ := hq2
      clear hga hpos
      obtain ⟨t0, t1⟩ := ob.1.c2
      have f0 := ob.2 0
      have f1 := ob.2 1
      have hz : ((a : Int) == 0) = false := by rw [beq_eq_false_iff_ne]; omega
      go_wp2
      have hz2 : ¬ (a : Int) = 0 := by omega
      have hz3 : ¬ a = 0 := by omega
      have hd1 : ((n : Int).tdiv (a : Int)) = (n : Int) / (a : Int) := Int.tdiv_eq_ediv_of_nonneg (by omega)
      have hd2 : ((d : Int).tdiv (a : Int)) = (d : Int) / (a : Int) := Int.tdiv_eq_ediv_of_nonneg (by omega)
      have hw1 : IntKind.i64.wrap ((n : Int) / (a : Int)) = (n : Int) / (a : Int) := IntWalk.i64_in _ (by omega)
      have hw2 : IntKind.i64.wrap ((d : Int) / (a : Int)) = (d : Int) / (a : Int) := IntWalk.i64_in _ (by omega)
      go_region_held3 (fun _ => True) (exact trivial) (fail)
      clear hw1 hw2 hd1 hd2 hz2 hz3
      go_wp2
      refine bodyPost_ret (v := .agg #[.int .i64 ((n : Int) / (a : Int)), .int .i64 ((d : Int) / (a : Int))]) (by simp [results, Try.results71, go_sem, t0, t1]) rfl ⟨?_, ?_⟩
      · unfold gcdI
        rw [Int.toNat_natCast, Int.toNat_natCast, ← Hga.out]
      · exact ((gg.drew).setCell (Nat.le_refl _) _).setCell (Nat.le_refl _) _

end Go.Proofs.Ytbohjmogpiaejaa
