/- Contracts of slices.Max and of Size. -/
import Derived.Test.YtaommdjekddgiaaS8
namespace Go.Proofs.Ytaommdjekddgiaa
set_option linter.unusedVariables false
set_option linter.unusedSimpArgs false
open Go.RowKit

theorem mul_bdS {a b A B : Int} (a0 : 0 ≤ a) (a1 : a ≤ A) (b0 : 0 ≤ b) (b1 : b ≤ B) : 0 ≤ a * b ∧ a * b ≤ A * B :=
  ⟨Int.mul_nonneg a0 b0, Int.mul_le_mul a1 b1 b0 (by omega)⟩

def maxTo (l : List Int) (k : Nat) : Int := (l.take k).foldl max (l.getD 0 0)

def maxL (l : List Int) : Int := maxTo l l.length

theorem maxTo_succ {l : List Int} {k : Nat} {x : Int} (hx : l[k]? = some x) : maxTo l (k + 1) = max (maxTo l k) x := by
  unfold maxTo
  rw [List.take_add_one, hx]
  simp

theorem maxTo_one {l : List Int} {x : Int} (hx : l[0]? = some x) : maxTo l 1 = x := by
  rw [maxTo_succ hx]
  simp [maxTo, hx]

set_option maxHeartbeats 1000000 in
theorem max_any (l : List Int) (h0 : 0 < l.length) (a : Option Addr) (cap : Nat) (w : World) (hr : IRow w a l) :
    Calls Try.prog 88 #[.slice a l.length cap] w fun e w' => e = .returned (.int .i64 (maxL l)) ∧ w = w' := by
  have hm := hr.1
  obtain ⟨x0, hx0⟩ := get_of_lt h0
  obtain ⟨b0, off, rfl, hb, hc⟩ := hr.get hx0
  have H1 := Lib.hid (maxTo_one hx0)
  have HM := Lib.hid (show maxL l = maxTo l l.length from rfl)
  have hl1 : decide ((l.length : Int) < 1) = false := by simp; omega
  have hl2 : (0 : Int) < l.length := by omega
  clear hx0
  simp only [Nat.add_zero] at hc
  go_enter Try.func88, Try.ntmps88
  go_wp2
  clear hl1
  go_loop [3, 4] (fun m i => ∃ k : Nat, 1 ≤ k ∧ k ≤ l.length ∧ i = .int .i64 k ∧ m = .int .i64 (maxTo l k)) (fun m i => l.length - (intOf i).toNat)
  case atStart => exact ⟨1, Nat.le_refl _, h0, rfl, by rw [H1.out]⟩
  case round =>
    obtain ⟨k, hk1, hk, rfl, rfl⟩ := hrel
    by_cases hlt : k < l.length
    · obtain ⟨x, hx⟩ := get_of_lt hlt
      obtain ⟨b1, off1, he, hb1, hc1⟩ := hr.get hx
      injection he with he
      injection he with he1 he2
      subst he1
      subst he2
      have HS := Lib.hid (maxTo_succ hx)
      clear hx
      by_cases hm2 : maxTo l k < x
      · go_wp2
        all_goals
          go_round
          case rel => exact ⟨k + 1, by omega, by omega, by go_num, by rw [HS.out]; congr 1; omega⟩
          case measure => simp [intOf]; omega
      · go_wp2
        all_goals
          go_round
          case rel => exact ⟨k + 1, by omega, by omega, by go_num, by rw [HS.out]; congr 1; omega⟩
          case measure => simp [intOf]; omega
    · obtain rfl : k = l.length := by omega
      go_wp2
      go_ret
      exact ⟨ret_int HM.out.symm, rfl⟩

theorem maxTo_bd {l : List Int} (h : inB 0 3000 l = true) : ∀ k, 1 ≤ k → k ≤ l.length → 0 ≤ maxTo l k ∧ maxTo l k ≤ 3000
  | 0, h1, _ => absurd h1 (by decide)
  | 1, _, hk => by
    obtain ⟨x, hx⟩ := get_of_lt (show 0 < l.length by omega)
    rw [maxTo_one hx]
    exact in_at h hx
  | k + 2, _, hk => by
    obtain ⟨x, hx⟩ := get_of_lt (show k + 1 < l.length by omega)
    obtain ⟨a, b⟩ := maxTo_bd h (k + 1) (by omega) (by omega)
    obtain ⟨c, d⟩ := in_at h hx
    rw [maxTo_succ hx]
    omega

theorem maxL_bd {l : List Int} (h : inB 0 3000 l = true) (h0 : 0 < l.length) : 0 ≤ maxL l ∧ maxL l ≤ 3000 := maxTo_bd h _ h0 (Nat.le_refl _)

def sumTo (s : Int) (l : List Int) (k : Nat) : Int := (l.take k).foldl (· + ·) s

theorem sumTo_succ {s : Int} {l : List Int} {k : Nat} {x : Int} (hx : l[k]? = some x) : sumTo s l (k + 1) = sumTo s l k + x := by
  unfold sumTo
  rw [List.take_add_one, hx]
  simp

theorem sumTo_bd {s : Int} {l : List Int} (hs : 0 ≤ s ∧ s ≤ 100) (h : inB 1 3000 l = true) : ∀ k : Nat, k ≤ l.length → 0 ≤ sumTo s l k ∧ sumTo s l k ≤ 100 + 3000 * k
  | 0, _ => by simpa [sumTo] using hs
  | k + 1, hk => by
    obtain ⟨x, hx⟩ := get_of_lt (show k < l.length by omega)
    obtain ⟨a, b⟩ := sumTo_bd hs h k (by omega)
    obtain ⟨c, d⟩ := in_at h hx
    rw [sumTo_succ hx]
    omega

def acrossL (tab : Int) (pan : List Int) : Int := sumTo tab pan pan.length

def alongL (hei : Int) (top bot : List Int) : Int := maxL top + hei + maxL bot

set_option maxRecDepth 100000 in
set_option maxHeartbeats 2000000 in
theorem size_ok (tab hei slo : Int) (pan top bot : List Int) (pa ta ba : Option Addr) (pc tc bc : Nat) (opn : Bool) (G : GoodB tab hei slo pan top bot opn) (w : World) (hp : IRow w pa pan) (ht : IRow w ta top) (hb : IRow w ba bot) :
    Calls Try.prog 43 #[.agg #[.int .i64 tab, .slice pa pan.length pc, .int .i64 hei, .slice ta top.length tc, .slice ba bot.length bc, .int .i64 slo, .bool opn]] w fun e w' => e = .returned (.tuple #[.int .i64 (acrossL tab pan), .int .i64 (alongL hei top bot), .int .i64 (acrossL tab pan * alongL hei top bot), .int .i64 0]) ∧ Gr w w' := by
  have gg := Gr.al w (.cells #[.int .i64 tab, .slice pa pan.length pc, .int .i64 hei, .slice ta top.length tc, .slice ba bot.length bc, .int .i64 slo, .bool opn] 58)
  have hB := Box.new w [.int .i64 tab, .slice pa pan.length pc, .int .i64 hei, .slice ta top.length tc, .slice ba bot.length bc, .int .i64 slo, .bool opn] 58 w.heap.size rfl
  have HG := Lib.hid G
  have hs := in_one G.gtab
  have hh := in_one G.ghei
  obtain ⟨hh0, hh1⟩ := hh
  have HB := Lib.hid (sumTo_bd hs G.gpan)
  have l4 := G.l4
  have hl4 : pan.length ≤ 4 := by omega
  obtain ⟨m0, m1⟩ := maxL_bd G.gtop (by rw [G.t2]; omega)
  obtain ⟨m2, m3⟩ := maxL_bd G.gbot (by rw [G.b2]; omega)
  clear l4 hs G
  have hp1 := hp.grow gg
  have ht1 := ht.grow gg
  have hb1 := hb.grow gg
  go_enter Try.func43, Try.ntmps43
  go_wp2_with fail
  refine (checkB_ok _ _ _ _ _ _ _ _ _ _ _ _ _ HG.out _ hp1 ht1 hb1).mono ?_
  rintro e w1 ⟨rfl, hx⟩
  have g1 := gg.tr hx
  have B1 := hB.keep hx
  clear hp1 ht1 hb1 hx gg hB
  obtain ⟨e0, e1, e2, e3, e4, e5, e6⟩ := B1.c7
  have hp1 := hp.grow g1
  go_wp2
  go_loop [19, 2] (fun i s => ∃ k : Nat, k ≤ pan.length ∧ i = .int .i64 k ∧ s = .int .i64 (sumTo tab pan k)) (fun i s => pan.length - (intOf i).toNat)
  case atStart => exact ⟨0, Nat.zero_le _, rfl, rfl⟩
  case round =>
    obtain ⟨k, hk, rfl, rfl⟩ := hrel
    obtain ⟨s0, s1⟩ := HB.out k hk
    by_cases hlt : k < pan.length
    · obtain ⟨x, hx⟩ := get_of_lt hlt
      obtain ⟨c0, c1⟩ := in_at HG.out.gpan hx
      obtain ⟨b0, off0, rfl, hb0, r0⟩ := IRow.get hp1 hx
      have HS := Lib.hid (sumTo_succ (s := tab) hx)
      clear hx
      go_wp2
      go_round
      case rel => exact ⟨k + 1, by omega, by go_num, by rw [HS.out]⟩
      case measure => simp [intOf]; omega
    · obtain rfl : k = pan.length := by omega
      have hw1 : IntKind.i64.wrap (maxL top + hei) = maxL top + hei := IntWalk.i64_in _ (by omega)
      have hw2 : IntKind.i64.wrap (maxL top + hei + maxL bot) = maxL top + hei + maxL bot := IntWalk.i64_in _ (by omega)
      have ht1 := ht.grow g1
      have hb1 := hb.grow g1
      have H1 := Lib.hid (fun n => (max_any top (by rw [HG.out.t2]; omega) ta tc (w1.drewN n) (ht1.grow (Gr.drewN (Below.refl _ _) n))).mono fun _ _ h => (⟨h.1, h.2.symm⟩ : _ ∧ _ = w1.drewN n))
      have H2 := Lib.hid (fun n => (max_any bot (by rw [HG.out.b2]; omega) ba bc (w1.drewN n) (hb1.grow (Gr.drewN (Below.refl _ _) n))).mono fun _ _ h => (⟨h.1, h.2.symm⟩ : _ ∧ _ = w1.drewN n))
      clear ht1 hb1
      go_wp2
      go_quiet ((first | (go_at_call 88; (with_reducible exact Calls.quiet_of_same (H1.out _))) | (go_at_call 88; (with_reducible exact Calls.quiet_of_same (H2.out _)))))
      clear hw1 hw2
      obtain ⟨p0, p1⟩ := mul_bdS (show 0 ≤ sumTo tab pan pan.length by omega) (show sumTo tab pan pan.length ≤ 12100 by omega) (show 0 ≤ maxL top + hei + maxL bot by omega) (show maxL top + hei + maxL bot ≤ 9000 by omega)
      go_wp2
      refine bodyPost_ret (v := .tuple #[.int .i64 (acrossL tab pan), .int .i64 (alongL hei top bot), .int .i64 (acrossL tab pan * alongL hei top bot), .int .i64 0]) (by simp [results, Try.results43, go_sem, acrossL, alongL]) rfl ⟨rfl, g1.drewN _⟩

end Go.Proofs.Ytaommdjekddgiaa
