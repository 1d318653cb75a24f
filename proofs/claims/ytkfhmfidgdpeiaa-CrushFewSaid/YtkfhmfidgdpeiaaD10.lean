/- CrushFew's own body. (Made by gen_d10.py.) -/
import Derived.Test.YtkfhmfidgdpeiaaQd
import Derived.Test.YtkfhmfidgdpeiaaI33
import Derived.Test.YtkfhmfidgdpeiaaR5
import Derived.Lib.MinMax
import Derived.Deep.CutRange
import Derived.Deep.MidRow
import Derived.BigQuiet
namespace Go.Proofs.Ytkfhmfidgdpeiaa
set_option linter.unusedVariables false
set_option linter.unusedSimpArgs false
open Go.RowKit

theorem ixI0 (a b : Value) (w : World) : (Instr.index 89 (.agg #[a, b]) (.int .i64 0)).run Try.prog w = .ok a w := by kernel_rfl

theorem ixI1 (a b : Value) (w : World) : (Instr.index 89 (.agg #[a, b]) (.int .i64 1)).run Try.prog w = .ok b w := by kernel_rfl

theorem ixS0 (a b : Value) (w : World) : (Instr.index 90 (.agg #[a, b]) (.int .i64 0)).run Try.prog w = .ok a w := by kernel_rfl

theorem ixS1 (a b : Value) (w : World) : (Instr.index 90 (.agg #[a, b]) (.int .i64 1)).run Try.prog w = .ok b w := by kernel_rfl
attribute [local go_sem] ixI0 ixI1 ixS0 ixS1

set_option maxRecDepth 100000 in
set_option maxHeartbeats 16000000 in
theorem crushFew_any (r0 r1 r2 r3 of made : Int) (T : List V2) (Q : List Int) (hT : ∀ v ∈ T, B2 v) (hQ : ∀ x ∈ Q, 0 ≤ x ∧ x ≤ 65535) (h0 : 0 ≤ r0 ∧ r0 ≤ 255) (h1 : 0 ≤ r1 ∧ r1 ≤ 255) (h2 : 0 ≤ r2 ∧ r2 ≤ 255) (h3 : 0 ≤ r3 ∧ r3 ≤ 255) (h4 : 0 ≤ of ∧ of ≤ 255) (h5 : 0 ≤ made ∧ made ≤ 255) (ta : Option Addr) (tc : Nat) (qa : Option Addr) (qc : Nat) (w : World) (rt : Row2 w ta T) (rq : HRow w qa Q) :
    Calls Try.prog 10 #[.agg #[.int .u8 r0, .int .u8 r1, .int .u8 r2, .int .u8 r3, .int .u8 of, .slice ta T.length tc], .int .u8 made, .slice qa Q.length qc] w fun e w' => e = .returned (.bool true) ∧ Gr w w' := by
  obtain ⟨n, hn⟩ : ∃ n : Nat, 1 + r0 % 8 = (n : Int) := ⟨(1 + r0 % 8).toNat, by omega⟩
  obtain ⟨ba, hba⟩ : ∃ ba, r3 % ((n : Int) + 1) = ba := ⟨_, rfl⟩
  obtain ⟨off, hoff⟩ : ∃ off, of % 40 = off := ⟨_, rfl⟩
  have n1 : 1 ≤ n := by omega
  have n2 : n ≤ 8 := by omega
  have o0 : 0 ≤ off := by omega
  have o1 : off ≤ 39 := by omega
  have b0 : 0 ≤ ba := by rw [← hba]; exact Int.emod_nonneg _ (by omega)
  have b1 : ba ≤ (n : Int) := by have : ba < (n : Int) + 1 := by (rw [← hba]; exact Int.emod_lt_of_pos _ (by omega))
                                 omega
  obtain ⟨m, hm⟩ : ∃ m : Nat, made % ((n : Int) + 1) = (m : Int) := ⟨(made % ((n : Int) + 1)).toNat, by have := Int.emod_nonneg made (b := (n : Int) + 1) (by omega); omega⟩
  have hmn : m ≤ n := by have := Int.emod_lt_of_pos made (b := (n : Int) + 1) (by omega); omega
  have gg := Gr.al w (.cells #[.int .u8 r0, .int .u8 r1, .int .u8 r2, .int .u8 r3, .int .u8 of, .slice ta T.length tc] 83)
  have hx := Box.new w [.int .u8 r0, .int .u8 r1, .int .u8 r2, .int .u8 r3, .int .u8 of, .slice ta T.length tc] 83 w.heap.size rfl
  have HT := Lib.hid hT
  have HQ := Lib.hid hQ
  clear hT hQ
  go_enter Try.func10, Try.ntmps10
  go_upto_region 1 with fail
  refine wp_abs (fun U => Gr w U ∧ Box U w.heap.size [.int .u8 r0, .int .u8 r1, .int .u8 r2, .int .u8 r3, .int .u8 of, .slice ta T.length tc]) ⟨gg, hx⟩ ?_
  clear gg hx
  rintro U ⟨gg, hx⟩
  obtain ⟨q0, q1, q2, q3, q4, q5⟩ := hx.c6
  go_upto_region 2 with (go_at_call 49; refine (lot_any r0 r1 r2 r3 of T HT.out h0 h1 h2 h3 h4 n hn ba hba off hoff ta tc _ (rt.grow gg)).mono ?_; rintro e w1 ⟨A, Ao, R, Ro, c, d, rfl, rA, rR, hc, hd, g1⟩)
  clear q0 q1 q2 q3 q4 q5 hx
  obtain ⟨D, hD⟩ : ∃ D, D = w1.heap.size := ⟨_, rfl⟩
  have gX := (gg.tr g1).tr (Gr.al w1 (.cells #[.int .i64 (n : Int), .int .i64 r1, .int .i64 r2, .int .i64 ba] 23))
  have hr := Box.new w1 [.int .i64 (n : Int), .int .i64 r1, .int .i64 r2, .int .i64 ba] 23 D hD
  rw [← hD]
  refine wp_abs (fun X => Gr w X ∧ Box X D [.int .i64 (n : Int), .int .i64 r1, .int .i64 r2, .int .i64 ba] ∧ IRow X (some ⟨R, Ro, none⟩) (lotRea T off n)) ⟨gX, hr, rR.grow (Gr.al _ _)⟩ ?_
  clear gX hr rA rR hD gg g1 h0 h3 h4 hn hba hoff rt hc
  rintro X ⟨gX, hr, rR⟩
  have hlR := lotRea_len T off n
  have hmd : m ≤ d := by omega
  have z0 : IntKind.i64.wrap made = made := IntWalk.i64_in _ (by omega)
  have z1 : IntKind.i64.wrap ((n : Int) + 1) = (n : Int) + 1 := IntWalk.i64_in _ (by omega)
  have z2 : ¬ ((n : Int) + 1 = 0) := by omega
  have z3 : made.tmod ((n : Int) + 1) = (m : Int) := by rw [Int.tmod_eq_emod_of_nonneg h5.1]; exact hm
  have z4 : IntKind.i64.wrap (m : Int) = (m : Int) := IntWalk.i64_in _ (by omega)
  obtain ⟨q0, q1, q2, q3⟩ := hr.c4'
  go_upto_region 3 with fail
  clear z0 z1 z2 z3 z4 q0 q1 q2 q3 h5 hm
  refine (show (∀ s : Nat → Value, Code.wp Try.prog _ _ ⟨#[s 0, s 1, .slice qa Q.length qc, .pointer (some ⟨w.heap.size, 0, none⟩), s 4, s 5, .bool false, .pointer (some ⟨D, 0, none⟩), .int .i64 off, s 9, .slice (some ⟨R, Ro, none⟩) m d, undef, undef, undef, undef, undef, undef, undef, undef, undef, undef, undef, undef, undef, undef, undef, undef, undef, undef, s 29, s 30, s 31, s 32, s 33, s 34, s 35, s 36, s 37, s 38, s 39, s 40, s 41, s 42, s 43, undef, undef, undef, undef, undef, undef, undef, undef, undef, undef, undef, undef, undef, undef, undef, undef, undef, undef, undef, undef, undef, undef, undef, undef, undef, undef, undef, undef, undef, undef, undef, undef, undef, undef, undef, undef, undef, undef, undef, undef, undef, undef, undef, undef, undef, undef, undef, undef, undef, undef, undef, undef, undef, undef, undef, undef, undef, undef, undef, undef, undef, undef, undef, undef, undef, undef, undef, undef, undef, undef, undef, undef, undef, undef, undef, undef, undef, undef, undef, undef, undef, undef, undef, undef, undef, undef, undef, undef, undef, undef, undef, undef, undef, undef, undef, undef, undef, undef, undef, undef, undef, undef, undef, undef, undef, undef, undef, undef, undef, undef, undef, undef, undef, undef, undef, undef, undef, undef, undef, undef, undef, undef, undef, undef, undef, undef, undef, undef, undef, undef, undef, undef, undef], []⟩ _) → _ from fun h => h ((fun l : List Value => fun i => l.getD i undef) [_, _, undef, undef, _, _, undef, undef, undef, _, undef, undef, undef, undef, undef, undef, undef, undef, undef, undef, undef, undef, undef, undef, undef, undef, undef, undef, undef, _, _, _, _, _, _, _, _, _, _, _, _, _, _, _])) ?_
  intro s
  dsimp only
  obtain ⟨L, hL⟩ : ∃ L, L = (lotRea T off n).take m := ⟨_, rfl⟩
  have hLm : L.length = m := by rw [hL, List.length_take, hlR, Nat.min_eq_left hmn]
  have hLB : ∀ r ∈ L, 0 ≤ r ∧ r ≤ 100000 := fun r hr' => by rw [hL] at hr'; have := lotRea_mem HT.out o0 o1 (List.mem_of_mem_take hr'); omega
  obtain ⟨N1, hN1⟩ : ∃ N, needL n r1 r2 ba off L 1 100000 = N := ⟨_, rfl⟩
  obtain ⟨N2, hN2⟩ : ∃ N, needL n r1 r2 ba off L 2 0 = N := ⟨_, rfl⟩
  have HNE : Hid (∀ (a : Option Addr) (cap : Nat) (W : World), IRow W a L → (a = none → cap = 0) → Calls Try.prog 20 #[.agg #[.int .i64 (n : Int), .int .i64 r1, .int .i64 r2, .int .i64 ba], .slice a m cap, .int .i64 off] W fun e w' => e = .returned (.tuple #[.int .i64 N1, .int .i64 N2, .int .i64 0]) ∧ Gr W w') := Lib.hid (fun a cap W hr' hn' => by
    rw [← hN1, ← hN2, hL]
    rw [hL] at hr'
    exact need_at T HT.out n n1 n2 r1 r2 ba off h1.1 h1.2 h2.1 h2.2 b0 b1 o0 o1 m hmn a cap W hr' hn')
  refine wp_region_facts 11 [(2, 1), (4, 0), (4, 2), (4, 3), (5, 4), (6, 5), (7, 5), (8, 5), (9, 6), (10, 7)] (fun x => ⟨#[s 0, s 1, .slice qa Q.length qc, .pointer (some ⟨w.heap.size, 0, none⟩), s 4, s 5, .bool false, .pointer (some ⟨D, 0, none⟩), .int .i64 off, s 9, .slice (some ⟨R, Ro, none⟩) m d, x 9, x 10, undef, undef, undef, undef, undef, undef, undef, undef, undef, undef, undef, undef, undef, undef, undef, undef, s 29, s 30, s 31, s 32, s 33, s 34, s 35, s 36, s 37, s 38, s 39, s 40, s 41, s 42, s 43, x 5, x 0, x 1, x 2, x 3, x 4, x 6, x 7, x 8, undef, undef, undef, undef, undef, undef, undef, undef, undef, undef, undef, undef, undef, undef, undef, undef, undef, undef, undef, undef, undef, undef, undef, undef, undef, undef, undef, undef, undef, undef, undef, undef, undef, undef, undef, undef, undef, undef, undef, undef, undef, undef, undef, undef, undef, undef, undef, undef, undef, undef, undef, undef, undef, undef, undef, undef, undef, undef, undef, undef, undef, undef, undef, undef, undef, undef, undef, undef, undef, undef, undef, undef, undef, undef, undef, undef, undef, undef, undef, undef, undef, undef, undef, undef, undef, undef, undef, undef, undef, undef, undef, undef, undef, undef, undef, undef, undef, undef, undef, undef, undef, undef, undef, undef, undef, undef, undef, undef, undef, undef, undef, undef, undef, undef, undef, undef, undef, undef, undef, undef, undef, undef, undef, undef], []⟩) (fun _ => undef) [fun _ x => x = .agg #[.int .i64 (n : Int), .int .i64 r1, .int .i64 r2, .int .i64 ba], fun _ x => x = .slice (some ⟨R, Ro, none⟩) m d, fun v x => ∃ a c, x = .slice a m c ∧ IRow v a L ∧ (a = none → c = 0), fun _ x => x = .int .i64 off, fun _ x => x = .tuple #[.int .i64 N1, .int .i64 N2, .int .i64 0], fun _ x => x = .tuple #[.int .i64 N1, .int .i64 N2, .int .i64 0], fun _ x => x = .int .i64 N1, fun _ x => x = .int .i64 N2, fun _ x => x = .int .i64 0, fun _ x => x = .int .i64 N1, fun _ x => x = .int .i64 N2] (by rfl) (by kernel_rfl) (by kernel_rfl) (by kernel_rfl) (stays_cons (Stays.eq _) (stays_cons (Stays.eq _) (stays_cons ((show Stays (fun v x => ∃ a c, x = .slice a m c ∧ IRow v a L ∧ (a = none → c = 0)) from fun v v' x g ⟨a, c, h, r, k⟩ => ⟨a, c, h, r.grow g, k⟩)) (stays_cons (Stays.eq _) (stays_cons (Stays.eq _) (stays_cons (Stays.eq _) (stays_cons (Stays.eq _) (stays_cons (Stays.eq _) (stays_cons (Stays.eq _) (stays_cons (Stays.eq _) (stays_cons (Stays.eq _) stays_nil))))))))))) ?step3 ?fin3
  case step3 =>
    rintro i hi x v gv hd K hK
    have hi8 : i = 0 ∨ i = 1 ∨ i = 2 ∨ i = 3 ∨ i = 4 ∨ i = 5 ∨ i = 6 ∨ i = 7 ∨ i = 8 ∨ i = 9 ∨ i = 10 := by omega
    rcases hi8 with rfl | rfl | rfl | rfl | rfl | rfl | rfl | rfl | rfl | rfl | rfl
    · show wpOp Try.prog _ _ 0 K (⟨#[s 0, s 1, .slice qa Q.length qc, .pointer (some ⟨w.heap.size, 0, none⟩), s 4, s 5, .bool false, .pointer (some ⟨D, 0, none⟩), .int .i64 off, s 9, .slice (some ⟨R, Ro, none⟩) m d, x 9, x 10, undef, undef, undef, undef, undef, undef, undef, undef, undef, undef, undef, undef, undef, undef, undef, undef, s 29, s 30, s 31, s 32, s 33, s 34, s 35, s 36, s 37, s 38, s 39, s 40, s 41, s 42, s 43, x 5, x 0, x 1, x 2, x 3, x 4, x 6, x 7, x 8, undef, undef, undef, undef, undef, undef, undef, undef, undef, undef, undef, undef, undef, undef, undef, undef, undef, undef, undef, undef, undef, undef, undef, undef, undef, undef, undef, undef, undef, undef, undef, undef, undef, undef, undef, undef, undef, undef, undef, undef, undef, undef, undef, undef, undef, undef, undef, undef, undef, undef, undef, undef, undef, undef, undef, undef, undef, undef, undef, undef, undef, undef, undef, undef, undef, undef, undef, undef, undef, undef, undef, undef, undef, undef, undef, undef, undef, undef, undef, undef, undef, undef, undef, undef, undef, undef, undef, undef, undef, undef, undef, undef, undef, undef, undef, undef, undef, undef, undef, undef, undef, undef, undef, undef, undef, undef, undef, undef, undef, undef, undef, undef, undef, undef, undef, undef, undef, undef, undef, undef, undef, undef, undef, undef], []⟩ : Act) v
      refine wpOp_step rfl (fun K' hK' => ?_)
      rw [if_pos (by rfl)]
      refine wp_load_mid 23 _ rfl D 0 (by rfl) [.int .i64 (n : Int), .int .i64 r1, .int .i64 r2, .int .i64 ba] _ (fun j u hu => by rw [Nat.zero_add]; exact (hr.keep gv).2 j u hu) Try.underlying23 rfl (by kernel_rfl) ?_
      exact hK' _ _ (hK _ _ (Below.refl _ _) (at_of rfl (rfl)))
    · show wpOp Try.prog _ _ 1 K (⟨#[s 0, s 1, .slice qa Q.length qc, .pointer (some ⟨w.heap.size, 0, none⟩), s 4, s 5, .bool false, .pointer (some ⟨D, 0, none⟩), .int .i64 off, s 9, .slice (some ⟨R, Ro, none⟩) m d, x 9, x 10, undef, undef, undef, undef, undef, undef, undef, undef, undef, undef, undef, undef, undef, undef, undef, undef, s 29, s 30, s 31, s 32, s 33, s 34, s 35, s 36, s 37, s 38, s 39, s 40, s 41, s 42, s 43, x 5, x 0, x 1, x 2, x 3, x 4, x 6, x 7, x 8, undef, undef, undef, undef, undef, undef, undef, undef, undef, undef, undef, undef, undef, undef, undef, undef, undef, undef, undef, undef, undef, undef, undef, undef, undef, undef, undef, undef, undef, undef, undef, undef, undef, undef, undef, undef, undef, undef, undef, undef, undef, undef, undef, undef, undef, undef, undef, undef, undef, undef, undef, undef, undef, undef, undef, undef, undef, undef, undef, undef, undef, undef, undef, undef, undef, undef, undef, undef, undef, undef, undef, undef, undef, undef, undef, undef, undef, undef, undef, undef, undef, undef, undef, undef, undef, undef, undef, undef, undef, undef, undef, undef, undef, undef, undef, undef, undef, undef, undef, undef, undef, undef, undef, undef, undef, undef, undef, undef, undef, undef, undef, undef, undef, undef, undef, undef, undef, undef, undef, undef, undef, undef, undef, undef], []⟩ : Act) v
      refine wpOp_step rfl (fun K' hK' => ?_)
      go_simp
      exact hK' _ _ (hK _ _ (Below.refl _ _) (at_of rfl (rfl)))
    · obtain ⟨x, rfl⟩ := upd_of (show x 1 = .slice (some ⟨R, Ro, none⟩) m d from hd 1 _ (by simp) rfl)
      show wpOp Try.prog _ _ 2 K (⟨#[s 0, s 1, .slice qa Q.length qc, .pointer (some ⟨w.heap.size, 0, none⟩), s 4, s 5, .bool false, .pointer (some ⟨D, 0, none⟩), .int .i64 off, s 9, .slice (some ⟨R, Ro, none⟩) m d, x 9, x 10, undef, undef, undef, undef, undef, undef, undef, undef, undef, undef, undef, undef, undef, undef, undef, undef, s 29, s 30, s 31, s 32, s 33, s 34, s 35, s 36, s 37, s 38, s 39, s 40, s 41, s 42, s 43, x 5, x 0, .slice (some ⟨R, Ro, none⟩) m d, x 2, x 3, x 4, x 6, x 7, x 8, undef, undef, undef, undef, undef, undef, undef, undef, undef, undef, undef, undef, undef, undef, undef, undef, undef, undef, undef, undef, undef, undef, undef, undef, undef, undef, undef, undef, undef, undef, undef, undef, undef, undef, undef, undef, undef, undef, undef, undef, undef, undef, undef, undef, undef, undef, undef, undef, undef, undef, undef, undef, undef, undef, undef, undef, undef, undef, undef, undef, undef, undef, undef, undef, undef, undef, undef, undef, undef, undef, undef, undef, undef, undef, undef, undef, undef, undef, undef, undef, undef, undef, undef, undef, undef, undef, undef, undef, undef, undef, undef, undef, undef, undef, undef, undef, undef, undef, undef, undef, undef, undef, undef, undef, undef, undef, undef, undef, undef, undef, undef, undef, undef, undef, undef, undef, undef, undef, undef, undef, undef, undef, undef, undef], []⟩ : Act) v
      refine wpOp_step rfl (fun K' hK' => ?_)
      go_simp
      refine (lints_at (lotRea T off n) m (by omega) (by omega) R Ro d v (rR.grow gv)).mono ?_
      rintro e v' ⟨a, c, rfl, hr2, hn2, _, hg⟩
      rw [← hL] at hr2
      exact hK' _ _ (hK _ _ hg (at_of rfl (⟨_, _, rfl, hr2, hn2⟩)))
    · show wpOp Try.prog _ _ 3 K (⟨#[s 0, s 1, .slice qa Q.length qc, .pointer (some ⟨w.heap.size, 0, none⟩), s 4, s 5, .bool false, .pointer (some ⟨D, 0, none⟩), .int .i64 off, s 9, .slice (some ⟨R, Ro, none⟩) m d, x 9, x 10, undef, undef, undef, undef, undef, undef, undef, undef, undef, undef, undef, undef, undef, undef, undef, undef, s 29, s 30, s 31, s 32, s 33, s 34, s 35, s 36, s 37, s 38, s 39, s 40, s 41, s 42, s 43, x 5, x 0, x 1, x 2, x 3, x 4, x 6, x 7, x 8, undef, undef, undef, undef, undef, undef, undef, undef, undef, undef, undef, undef, undef, undef, undef, undef, undef, undef, undef, undef, undef, undef, undef, undef, undef, undef, undef, undef, undef, undef, undef, undef, undef, undef, undef, undef, undef, undef, undef, undef, undef, undef, undef, undef, undef, undef, undef, undef, undef, undef, undef, undef, undef, undef, undef, undef, undef, undef, undef, undef, undef, undef, undef, undef, undef, undef, undef, undef, undef, undef, undef, undef, undef, undef, undef, undef, undef, undef, undef, undef, undef, undef, undef, undef, undef, undef, undef, undef, undef, undef, undef, undef, undef, undef, undef, undef, undef, undef, undef, undef, undef, undef, undef, undef, undef, undef, undef, undef, undef, undef, undef, undef, undef, undef, undef, undef, undef, undef, undef, undef, undef, undef, undef, undef], []⟩ : Act) v
      refine wpOp_step rfl (fun K' hK' => ?_)
      go_simp
      exact hK' _ _ (hK _ _ (Below.refl _ _) (at_of rfl (rfl)))
    · obtain ⟨x, rfl⟩ := upd_of (show x 0 = .agg #[.int .i64 (n : Int), .int .i64 r1, .int .i64 r2, .int .i64 ba] from hd 0 _ (by simp) rfl)
      obtain ⟨a2, c2, e2, rr2, m2⟩ := hd 2 _ (by simp) rfl
      obtain ⟨x, rfl⟩ := upd_of (show x 2 = .slice a2 m c2 from e2)
      obtain ⟨x, rfl⟩ := upd_of (show x 3 = .int .i64 off from hd 3 _ (by simp) rfl)
      show wpOp Try.prog _ _ 4 K (⟨#[s 0, s 1, .slice qa Q.length qc, .pointer (some ⟨w.heap.size, 0, none⟩), s 4, s 5, .bool false, .pointer (some ⟨D, 0, none⟩), .int .i64 off, s 9, .slice (some ⟨R, Ro, none⟩) m d, x 9, x 10, undef, undef, undef, undef, undef, undef, undef, undef, undef, undef, undef, undef, undef, undef, undef, undef, s 29, s 30, s 31, s 32, s 33, s 34, s 35, s 36, s 37, s 38, s 39, s 40, s 41, s 42, s 43, x 5, .agg #[.int .i64 (n : Int), .int .i64 r1, .int .i64 r2, .int .i64 ba], x 1, .slice a2 m c2, .int .i64 off, x 4, x 6, x 7, x 8, undef, undef, undef, undef, undef, undef, undef, undef, undef, undef, undef, undef, undef, undef, undef, undef, undef, undef, undef, undef, undef, undef, undef, undef, undef, undef, undef, undef, undef, undef, undef, undef, undef, undef, undef, undef, undef, undef, undef, undef, undef, undef, undef, undef, undef, undef, undef, undef, undef, undef, undef, undef, undef, undef, undef, undef, undef, undef, undef, undef, undef, undef, undef, undef, undef, undef, undef, undef, undef, undef, undef, undef, undef, undef, undef, undef, undef, undef, undef, undef, undef, undef, undef, undef, undef, undef, undef, undef, undef, undef, undef, undef, undef, undef, undef, undef, undef, undef, undef, undef, undef, undef, undef, undef, undef, undef, undef, undef, undef, undef, undef, undef, undef, undef, undef, undef, undef, undef, undef, undef, undef, undef, undef, undef], []⟩ : Act) v
      refine wpOp_step rfl (fun K' hK' => ?_)
      go_simp
      refine (HNE.out a2 c2 v rr2 m2).mono ?_
      rintro e v' ⟨rfl, hg⟩
      exact hK' _ _ (hK _ _ hg (at_of rfl (rfl)))
    · obtain ⟨x, rfl⟩ := upd_of (show x 4 = .tuple #[.int .i64 N1, .int .i64 N2, .int .i64 0] from hd 4 _ (by simp) rfl)
      show wpOp Try.prog _ _ 5 K (⟨#[s 0, s 1, .slice qa Q.length qc, .pointer (some ⟨w.heap.size, 0, none⟩), s 4, s 5, .bool false, .pointer (some ⟨D, 0, none⟩), .int .i64 off, s 9, .slice (some ⟨R, Ro, none⟩) m d, x 9, x 10, undef, undef, undef, undef, undef, undef, undef, undef, undef, undef, undef, undef, undef, undef, undef, undef, s 29, s 30, s 31, s 32, s 33, s 34, s 35, s 36, s 37, s 38, s 39, s 40, s 41, s 42, s 43, x 5, x 0, x 1, x 2, x 3, .tuple #[.int .i64 N1, .int .i64 N2, .int .i64 0], x 6, x 7, x 8, undef, undef, undef, undef, undef, undef, undef, undef, undef, undef, undef, undef, undef, undef, undef, undef, undef, undef, undef, undef, undef, undef, undef, undef, undef, undef, undef, undef, undef, undef, undef, undef, undef, undef, undef, undef, undef, undef, undef, undef, undef, undef, undef, undef, undef, undef, undef, undef, undef, undef, undef, undef, undef, undef, undef, undef, undef, undef, undef, undef, undef, undef, undef, undef, undef, undef, undef, undef, undef, undef, undef, undef, undef, undef, undef, undef, undef, undef, undef, undef, undef, undef, undef, undef, undef, undef, undef, undef, undef, undef, undef, undef, undef, undef, undef, undef, undef, undef, undef, undef, undef, undef, undef, undef, undef, undef, undef, undef, undef, undef, undef, undef, undef, undef, undef, undef, undef, undef, undef, undef, undef, undef, undef, undef], []⟩ : Act) v
      refine wpOp_step rfl (fun K' hK' => ?_)
      go_simp
      exact hK' _ _ (hK _ _ (Below.refl _ _) (at_of rfl (rfl)))
    · obtain ⟨x, rfl⟩ := upd_of (show x 5 = .tuple #[.int .i64 N1, .int .i64 N2, .int .i64 0] from hd 5 _ (by simp) rfl)
      show wpOp Try.prog _ _ 6 K (⟨#[s 0, s 1, .slice qa Q.length qc, .pointer (some ⟨w.heap.size, 0, none⟩), s 4, s 5, .bool false, .pointer (some ⟨D, 0, none⟩), .int .i64 off, s 9, .slice (some ⟨R, Ro, none⟩) m d, x 9, x 10, undef, undef, undef, undef, undef, undef, undef, undef, undef, undef, undef, undef, undef, undef, undef, undef, s 29, s 30, s 31, s 32, s 33, s 34, s 35, s 36, s 37, s 38, s 39, s 40, s 41, s 42, s 43, .tuple #[.int .i64 N1, .int .i64 N2, .int .i64 0], x 0, x 1, x 2, x 3, x 4, x 6, x 7, x 8, undef, undef, undef, undef, undef, undef, undef, undef, undef, undef, undef, undef, undef, undef, undef, undef, undef, undef, undef, undef, undef, undef, undef, undef, undef, undef, undef, undef, undef, undef, undef, undef, undef, undef, undef, undef, undef, undef, undef, undef, undef, undef, undef, undef, undef, undef, undef, undef, undef, undef, undef, undef, undef, undef, undef, undef, undef, undef, undef, undef, undef, undef, undef, undef, undef, undef, undef, undef, undef, undef, undef, undef, undef, undef, undef, undef, undef, undef, undef, undef, undef, undef, undef, undef, undef, undef, undef, undef, undef, undef, undef, undef, undef, undef, undef, undef, undef, undef, undef, undef, undef, undef, undef, undef, undef, undef, undef, undef, undef, undef, undef, undef, undef, undef, undef, undef, undef, undef, undef, undef, undef, undef, undef, undef], []⟩ : Act) v
      refine wpOp_step rfl (fun K' hK' => ?_)
      go_simp
      exact hK' _ _ (hK _ _ (Below.refl _ _) (at_of rfl (rfl)))
    · obtain ⟨x, rfl⟩ := upd_of (show x 5 = .tuple #[.int .i64 N1, .int .i64 N2, .int .i64 0] from hd 5 _ (by simp) rfl)
      show wpOp Try.prog _ _ 7 K (⟨#[s 0, s 1, .slice qa Q.length qc, .pointer (some ⟨w.heap.size, 0, none⟩), s 4, s 5, .bool false, .pointer (some ⟨D, 0, none⟩), .int .i64 off, s 9, .slice (some ⟨R, Ro, none⟩) m d, x 9, x 10, undef, undef, undef, undef, undef, undef, undef, undef, undef, undef, undef, undef, undef, undef, undef, undef, s 29, s 30, s 31, s 32, s 33, s 34, s 35, s 36, s 37, s 38, s 39, s 40, s 41, s 42, s 43, .tuple #[.int .i64 N1, .int .i64 N2, .int .i64 0], x 0, x 1, x 2, x 3, x 4, x 6, x 7, x 8, undef, undef, undef, undef, undef, undef, undef, undef, undef, undef, undef, undef, undef, undef, undef, undef, undef, undef, undef, undef, undef, undef, undef, undef, undef, undef, undef, undef, undef, undef, undef, undef, undef, undef, undef, undef, undef, undef, undef, undef, undef, undef, undef, undef, undef, undef, undef, undef, undef, undef, undef, undef, undef, undef, undef, undef, undef, undef, undef, undef, undef, undef, undef, undef, undef, undef, undef, undef, undef, undef, undef, undef, undef, undef, undef, undef, undef, undef, undef, undef, undef, undef, undef, undef, undef, undef, undef, undef, undef, undef, undef, undef, undef, undef, undef, undef, undef, undef, undef, undef, undef, undef, undef, undef, undef, undef, undef, undef, undef, undef, undef, undef, undef, undef, undef, undef, undef, undef, undef, undef, undef, undef, undef, undef], []⟩ : Act) v
      refine wpOp_step rfl (fun K' hK' => ?_)
      go_simp
      exact hK' _ _ (hK _ _ (Below.refl _ _) (at_of rfl (rfl)))
    · obtain ⟨x, rfl⟩ := upd_of (show x 5 = .tuple #[.int .i64 N1, .int .i64 N2, .int .i64 0] from hd 5 _ (by simp) rfl)
      show wpOp Try.prog _ _ 8 K (⟨#[s 0, s 1, .slice qa Q.length qc, .pointer (some ⟨w.heap.size, 0, none⟩), s 4, s 5, .bool false, .pointer (some ⟨D, 0, none⟩), .int .i64 off, s 9, .slice (some ⟨R, Ro, none⟩) m d, x 9, x 10, undef, undef, undef, undef, undef, undef, undef, undef, undef, undef, undef, undef, undef, undef, undef, undef, s 29, s 30, s 31, s 32, s 33, s 34, s 35, s 36, s 37, s 38, s 39, s 40, s 41, s 42, s 43, .tuple #[.int .i64 N1, .int .i64 N2, .int .i64 0], x 0, x 1, x 2, x 3, x 4, x 6, x 7, x 8, undef, undef, undef, undef, undef, undef, undef, undef, undef, undef, undef, undef, undef, undef, undef, undef, undef, undef, undef, undef, undef, undef, undef, undef, undef, undef, undef, undef, undef, undef, undef, undef, undef, undef, undef, undef, undef, undef, undef, undef, undef, undef, undef, undef, undef, undef, undef, undef, undef, undef, undef, undef, undef, undef, undef, undef, undef, undef, undef, undef, undef, undef, undef, undef, undef, undef, undef, undef, undef, undef, undef, undef, undef, undef, undef, undef, undef, undef, undef, undef, undef, undef, undef, undef, undef, undef, undef, undef, undef, undef, undef, undef, undef, undef, undef, undef, undef, undef, undef, undef, undef, undef, undef, undef, undef, undef, undef, undef, undef, undef, undef, undef, undef, undef, undef, undef, undef, undef, undef, undef, undef, undef, undef, undef], []⟩ : Act) v
      refine wpOp_step rfl (fun K' hK' => ?_)
      go_simp
      exact hK' _ _ (hK _ _ (Below.refl _ _) (at_of rfl (rfl)))
    · obtain ⟨x, rfl⟩ := upd_of (show x 6 = .int .i64 N1 from hd 6 _ (by simp) rfl)
      show wpOp Try.prog _ _ 9 K (⟨#[s 0, s 1, .slice qa Q.length qc, .pointer (some ⟨w.heap.size, 0, none⟩), s 4, s 5, .bool false, .pointer (some ⟨D, 0, none⟩), .int .i64 off, s 9, .slice (some ⟨R, Ro, none⟩) m d, x 9, x 10, undef, undef, undef, undef, undef, undef, undef, undef, undef, undef, undef, undef, undef, undef, undef, undef, s 29, s 30, s 31, s 32, s 33, s 34, s 35, s 36, s 37, s 38, s 39, s 40, s 41, s 42, s 43, x 5, x 0, x 1, x 2, x 3, x 4, .int .i64 N1, x 7, x 8, undef, undef, undef, undef, undef, undef, undef, undef, undef, undef, undef, undef, undef, undef, undef, undef, undef, undef, undef, undef, undef, undef, undef, undef, undef, undef, undef, undef, undef, undef, undef, undef, undef, undef, undef, undef, undef, undef, undef, undef, undef, undef, undef, undef, undef, undef, undef, undef, undef, undef, undef, undef, undef, undef, undef, undef, undef, undef, undef, undef, undef, undef, undef, undef, undef, undef, undef, undef, undef, undef, undef, undef, undef, undef, undef, undef, undef, undef, undef, undef, undef, undef, undef, undef, undef, undef, undef, undef, undef, undef, undef, undef, undef, undef, undef, undef, undef, undef, undef, undef, undef, undef, undef, undef, undef, undef, undef, undef, undef, undef, undef, undef, undef, undef, undef, undef, undef, undef, undef, undef, undef, undef, undef, undef], []⟩ : Act) v
      refine wpOp_step rfl (fun K' hK' => ?_)
      go_simp
      exact hK' _ _ (hK _ _ (Below.refl _ _) (at_of rfl (rfl)))
    · obtain ⟨x, rfl⟩ := upd_of (show x 7 = .int .i64 N2 from hd 7 _ (by simp) rfl)
      show wpOp Try.prog _ _ 10 K (⟨#[s 0, s 1, .slice qa Q.length qc, .pointer (some ⟨w.heap.size, 0, none⟩), s 4, s 5, .bool false, .pointer (some ⟨D, 0, none⟩), .int .i64 off, s 9, .slice (some ⟨R, Ro, none⟩) m d, x 9, x 10, undef, undef, undef, undef, undef, undef, undef, undef, undef, undef, undef, undef, undef, undef, undef, undef, s 29, s 30, s 31, s 32, s 33, s 34, s 35, s 36, s 37, s 38, s 39, s 40, s 41, s 42, s 43, x 5, x 0, x 1, x 2, x 3, x 4, x 6, .int .i64 N2, x 8, undef, undef, undef, undef, undef, undef, undef, undef, undef, undef, undef, undef, undef, undef, undef, undef, undef, undef, undef, undef, undef, undef, undef, undef, undef, undef, undef, undef, undef, undef, undef, undef, undef, undef, undef, undef, undef, undef, undef, undef, undef, undef, undef, undef, undef, undef, undef, undef, undef, undef, undef, undef, undef, undef, undef, undef, undef, undef, undef, undef, undef, undef, undef, undef, undef, undef, undef, undef, undef, undef, undef, undef, undef, undef, undef, undef, undef, undef, undef, undef, undef, undef, undef, undef, undef, undef, undef, undef, undef, undef, undef, undef, undef, undef, undef, undef, undef, undef, undef, undef, undef, undef, undef, undef, undef, undef, undef, undef, undef, undef, undef, undef, undef, undef, undef, undef, undef, undef, undef, undef, undef, undef, undef, undef], []⟩ : Act) v
      refine wpOp_step rfl (fun K' hK' => ?_)
      go_simp
      exact hK' _ _ (hK _ _ (Below.refl _ _) (at_of rfl (rfl)))
  case fin3 =>
    rintro x v gv hd
    obtain ⟨x, rfl⟩ := upd_of (show x 8 = .int .i64 0 from hd 8 _ (by omega) rfl)
    obtain ⟨x, rfl⟩ := upd_of (show x 9 = .int .i64 N1 from hd 9 _ (by omega) rfl)
    obtain ⟨x, rfl⟩ := upd_of (show x 10 = .int .i64 N2 from hd 10 _ (by omega) rfl)
    clear hd
    show wpList Try.prog _ _ (List.drop 11 _) (⟨#[s 0, s 1, .slice qa Q.length qc, .pointer (some ⟨w.heap.size, 0, none⟩), s 4, s 5, .bool false, .pointer (some ⟨D, 0, none⟩), .int .i64 off, s 9, .slice (some ⟨R, Ro, none⟩) m d, .int .i64 N1, .int .i64 N2, undef, undef, undef, undef, undef, undef, undef, undef, undef, undef, undef, undef, undef, undef, undef, undef, s 29, s 30, s 31, s 32, s 33, s 34, s 35, s 36, s 37, s 38, s 39, s 40, s 41, s 42, s 43, x 5, x 0, x 1, x 2, x 3, x 4, x 6, x 7, .int .i64 0, undef, undef, undef, undef, undef, undef, undef, undef, undef, undef, undef, undef, undef, undef, undef, undef, undef, undef, undef, undef, undef, undef, undef, undef, undef, undef, undef, undef, undef, undef, undef, undef, undef, undef, undef, undef, undef, undef, undef, undef, undef, undef, undef, undef, undef, undef, undef, undef, undef, undef, undef, undef, undef, undef, undef, undef, undef, undef, undef, undef, undef, undef, undef, undef, undef, undef, undef, undef, undef, undef, undef, undef, undef, undef, undef, undef, undef, undef, undef, undef, undef, undef, undef, undef, undef, undef, undef, undef, undef, undef, undef, undef, undef, undef, undef, undef, undef, undef, undef, undef, undef, undef, undef, undef, undef, undef, undef, undef, undef, undef, undef, undef, undef, undef, undef, undef, undef, undef, undef, undef, undef, undef, undef, undef], []⟩ : Act) v
    simp only [List.drop_succ_cons, List.drop_zero]
    have gV := gX.tr gv
    have hb := hr.keep gv
    have rL := rR.grow gv
    have rQ := rq.grow gV
    clear gv hr rR rq gX HNE
    obtain ⟨S1, P1, J1⟩ := need_spec (by omega) hN1
    obtain ⟨S2, P2, J2⟩ := need_spec (by omega) hN2
    rw [hLm] at S1 J1 S2 J2
    have hnz : ¬ (N1 = 0 ∧ N2 = 0) := by
      rintro ⟨e1, e2⟩
      have p1 := P1 (by omega)
      have p2 := P2 (by omega)
      rw [e1] at p1
      rw [e2] at p2
      unfold stAt at p1 p2
      simp only [Int.toNat_zero, List.replicate_zero] at p1 p2
      omega
    have HN1 := Lib.hid (And.intro P1 J1)
    have HN2 := Lib.hid (And.intro P2 J2)
    clear P1 J1 P2 J2 hN1 hN2
    obtain ⟨q0, q1, q2, q3⟩ := hb.c4'
    have z0 : IntKind.i64.wrap ((n : Int) - (m : Int)) = (n : Int) - (m : Int) := IntWalk.i64_in _ (by omega)
    have e1 : decide (N1 < -1) = false := by simp; omega
    have e2 : decide ((n : Int) - (m : Int) < N1) = false := by simp; omega
    have e3 : decide (N2 < -1) = false := by simp; omega
    have e4 : decide ((n : Int) - (m : Int) < N2) = false := by simp; omega
    have HL := Lib.hid hL
    have HLB := Lib.hid hLB
    obtain ⟨i0, hi, hz0, hz1, hz2⟩ := info_parts infoInt
    clear hL hLB
    by_cases hz : N1 = 0
    · have e5 : (N1 == 0) = true := by simpa using hz
      have e6 : (N2 == 0) = false := by simp; omega
      clear hz hnz
      go_upto_region 7 with fail
      clear e5 e6
      clear e1 e2 e3 e4 z0 q0 q1 q2 q3
      refine wp_abs (fun Y => Gr w Y ∧ Box Y D [.int .i64 (n : Int), .int .i64 r1, .int .i64 r2, .int .i64 ba] ∧ IRow Y (some ⟨R, Ro, none⟩) (lotRea T off n) ∧ HRow Y qa Q) ⟨gV, hb, rL, rQ⟩ ?_
      clear gV hb rL rQ
      rintro Y ⟨gV, hb, rL, rQ⟩
      go_wp2
      go_loopw [15] (fun i wr => Hid (∃ k : Int, (k = 0 ∨ k = 1 ∨ k = 2) ∧ i = .int .i64 k ∧ Gr Y wr)) (fun i wr => 2 - (intOf i).toNat)
      case atStart => exact Lib.hid ⟨0, .inl rfl, rfl, Below.refl _ _⟩
      case round =>
        obtain ⟨k, hk, rfl, gW⟩ := hrel.out
        clear hrel
        rcases hk with rfl | rfl | rfl
        · -- round 0
          go_upto_region 10 with fail
          go_quiet (fail)
          go_upto_region 11 with fail
          refine wp_abs (fun V => Gr wr V) (Gr.drewN (Below.refl _ _) _) ?_
          intro V gQ
          have gT := gW.tr gQ
          have rA := rL.grow gT
          obtain ⟨B0, hB0⟩ : ∃ B0, B0 = V.heap.size := ⟨_, rfl⟩
          obtain ⟨M, hM⟩ : ∃ M : Nat, N1.toNat = M := ⟨_, rfl⟩
          have tok0 : True := trivial
          go_upto_region 12 with (first
            | (have _t := tok0; clear tok0 _t; go_at_call 17; refine (lints_own_at (lotRea T off n) m (by omega) (by omega) R Ro d V rA).mono ?_; rintro e wa ⟨va, rfl, oA, ga⟩)
            | (go_at_call 17; refine (lints_own_at (lotRea T off n) m (by omega) (by omega) R Ro d wa (rA.grow ga)).mono ?_; rintro e wb ⟨vb, rfl, oB, gb⟩))
          have hap : Apart va vb := fun b hb1 hb2 => by
            have h1 := oA.lt b hb1
            have h2 := oB.lt b hb2
            omega
          rw [← HL.out, ← hB0] at oA
          rw [← HL.out] at oB
          have oA1 := owns_keep oA gb
          have oB1 := owns_base oB (show B0 ≤ wa.heap.size by have := ga.size; omega)
          have gU := ga.tr gb
          clear oA oB ga gb
          refine wp_abs (fun U => Gr V U ∧ U.ownsRow B0 3 1 va m (L.flatMap encI) ∧ U.ownsRow B0 3 1 vb m (L.flatMap encI)) ⟨gU, oA1, oB1⟩ ?_
          clear gU oA1 oB1
          rintro U ⟨gU, oA, oB⟩
          go_wp2
          go_loopw [21, 19] (fun i s wq => Hid (∃ j : Nat, j ≤ M ∧ i = .int .i64 j ∧ Gr V wq ∧ wq.ownsRow B0 3 1 s (m + j) ((L ++ List.replicate j 100000).flatMap encI) ∧ wq.ownsRow B0 3 1 vb m (L.flatMap encI) ∧ Apart s vb)) (fun i s wq => M - (intOf i).toNat)
          case atStart => exact Lib.hid ⟨0, Nat.zero_le _, rfl, gU, (by simpa using oA), oB, hap⟩
          case round =>
            clear gU oA oB hap
            obtain ⟨j, hj, rfl, gJ, oA, oB, hap⟩ := hrel.out
            clear hrel
            by_cases hlt : (j : Int) < N1
            · have k1 : m + j + 1 ≤ maxLen := by unfold maxLen; omega
              have k2 : (m + j + 1) * 8 ≤ 140737488355328 := by omega
              have kb : B0 ≤ (wr.alloc (.cells #[.int .i64 100000] 3)).heap.size := by have := (gJ.tr (Gr.al wr (.cells #[.int .i64 100000] 3))).size; omega
              go_wp2_with (at_builtin; refine wpList_append_sep _ rfl _ _ 24 rfl B0 3 i0 (.int .i64 0) 1 8 Try.underlying24 hi hz0 hz1 hz2 rfl (by decide) _ _ _ rfl (owns_keep oA (Gr.al wr (.cells #[.int .i64 100000] 3))) ⟨wr.heap.size, 0, none⟩ 1 1 ([(100000 : Int)].map (fun n => Value.int .i64 n)) rfl rfl (cell_news _ _ _) (ints_one _) k1 k2 kb _ _ _ (owns_keep oB (Gr.al wr (.cells #[.int .i64 100000] 3))) hap ?_; intro sv Z hA2 hgr hR2 hap2)
              go_roundw
              case rel =>
                have gZ := (gJ.tr (Gr.al wr (.cells #[.int .i64 100000] 3))).grown' (owns_keep oA (Gr.al wr _)) (by omega) hgr
                refine Lib.hid ⟨j + 1, by omega, by go_num, gZ, ?_, hR2, hap2⟩
                rw [List.replicate_succ', ← List.append_assoc, flat_snoc]
                exact hA2
              case measure => simp [intOf]; omega
            · obtain rfl : M = j := by omega
              clear hlt hj
              have hGl : (L ++ List.replicate M 100000).length = m + M := by rw [List.length_append, List.length_replicate, hLm]
              have hGB : Hid (∀ r ∈ L ++ List.replicate M 100000, 0 ≤ r ∧ r ≤ 100000) := Lib.hid (fun r hr' => by
                rcases List.mem_append.1 hr' with h | h
                · exact HLB.out r h
                · obtain ⟨_, rfl⟩ := List.mem_replicate.1 h
                  omega)
              obtain ⟨sg, hsg⟩ : ∃ s, stateL (n : Int) r1 r2 ba (truthsL n off (L ++ List.replicate M 100000)) = s := ⟨_, rfl⟩
              have hPg : 0 ≤ N1 → sg = 1 := fun h => by rw [← hsg, ← hM]; exact HN1.out.1 h
              have HSG := Lib.hid hsg
              clear hsg
              by_cases hneg : N1 < 0
              · obtain ⟨F, hF⟩ : ∃ F : Nat, n - m = F := ⟨_, rfl⟩
                have y1 : decide (N1 < 0) = true := by simpa using hneg
                have y2 : IntKind.i64.wrap (N1 - 1) = N1 - 1 := IntWalk.i64_in _ (by omega)
                go_wp2
                clear y1 y2
                go_loopw [23, 20] (fun i s wq => Hid (∃ j : Nat, j ≤ F ∧ i = .int .i64 j ∧ Gr V wq ∧ wq.ownsRow B0 3 1 s (m + j) ((L ++ anyL Q 100000 j).flatMap encI) ∧ wq.ownsRow B0 3 1 u19 (m + M) ((L ++ List.replicate M 100000).flatMap encI) ∧ Apart s u19)) (fun i s wq => F - (intOf i).toNat)
                case atStart => exact Lib.hid ⟨0, Nat.zero_le _, rfl, gJ, (by simpa [anyL] using oB), oA, hap.symm⟩
                case round =>
                  clear gJ oA oB hap
                  obtain ⟨j, hj, rfl, gJ, oB, oA, hap⟩ := hrel.out
                  clear hrel
                  by_cases hlt : (j : Int) < ((n : Int) - (m : Int))
                  · have k1 : m + j + 1 ≤ maxLen := by unfold maxLen; omega
                    have k2 : (m + j + 1) * 8 ≤ 140737488355328 := by omega
                    have kb : ∀ z : Int, B0 ≤ (wr.alloc (.cells #[.int .i64 z] 3)).heap.size := fun z => by have := (gJ.tr (Gr.al wr (.cells #[.int .i64 z] 3))).size; omega
                    by_cases hq : j < Q.length
                    · obtain ⟨x, hx⟩ : ∃ x, Q[j]? = some x := ⟨Q[j], by simp [hq]⟩
                      have hx1 := HQ.out x (List.mem_of_getElem? hx)
                      obtain ⟨qb, qo, rfl, hqb, cq⟩ := HRow.get (rQ.grow (gT.tr gJ)) hx
                      have HAT := Lib.hid (show anyAt Q 100000 j = x by unfold anyAt; rw [hx])
                      have y1 : IntKind.i64.wrap x = x := IntWalk.i64_in _ (by omega)
                      clear hx
                      go_wp2_with (at_builtin; refine wpList_append_sep _ rfl _ _ 24 rfl B0 3 i0 (.int .i64 0) 1 8 Try.underlying24 hi hz0 hz1 hz2 rfl (by decide) _ _ _ rfl (owns_keep oB (Gr.al wr (.cells #[.int .i64 x] 3))) ⟨wr.heap.size, 0, none⟩ 1 1 ([(x : Int)].map (fun n => Value.int .i64 n)) rfl rfl (cell_news _ _ _) (ints_one _) k1 k2 (kb x) _ _ _ (owns_keep oA (Gr.al wr (.cells #[.int .i64 x] 3))) hap ?_; intro sv Z hA2 hgr hR2 hap2)
                      go_roundw
                      case rel =>
                        have gZ := (gJ.tr (Gr.al wr (.cells #[.int .i64 x] 3))).grown' (owns_keep oB (Gr.al wr _)) (by omega) hgr
                        have hA3 : Z.ownsRow B0 3 1 sv (m + (j + 1)) ((L ++ anyL Q 100000 (j + 1)).flatMap encI) := by
                          rw [anyL_succ, ← List.append_assoc, flat_snoc, HAT.out]
                          exact hA2
                        exact Lib.hid ⟨j + 1, by omega, by go_num, gZ, hA3, hR2, hap2⟩
                      case measure => simp [intOf]; omega
                    · have HAT := Lib.hid (show anyAt Q 100000 j = 100000 by unfold anyAt; rw [List.getElem?_eq_none (by omega)])
                      go_wp2_with (at_builtin; refine wpList_append_sep _ rfl _ _ 24 rfl B0 3 i0 (.int .i64 0) 1 8 Try.underlying24 hi hz0 hz1 hz2 rfl (by decide) _ _ _ rfl (owns_keep oB (Gr.al wr (.cells #[.int .i64 100000] 3))) ⟨wr.heap.size, 0, none⟩ 1 1 ([(100000 : Int)].map (fun n => Value.int .i64 n)) rfl rfl (cell_news _ _ _) (ints_one _) k1 k2 (kb 100000) _ _ _ (owns_keep oA (Gr.al wr (.cells #[.int .i64 100000] 3))) hap ?_; intro sv Z hA2 hgr hR2 hap2)
                      go_roundw
                      case rel =>
                        have gZ := (gJ.tr (Gr.al wr (.cells #[.int .i64 100000] 3))).grown' (owns_keep oB (Gr.al wr _)) (by omega) hgr
                        have hA3 : Z.ownsRow B0 3 1 sv (m + (j + 1)) ((L ++ anyL Q 100000 (j + 1)).flatMap encI) := by
                          rw [anyL_succ, ← List.append_assoc, flat_snoc, HAT.out]
                          exact hA2
                        exact Lib.hid ⟨j + 1, by omega, by go_num, gZ, hA3, hR2, hap2⟩
                      case measure => simp [intOf]; omega
                  · obtain rfl : j = F := by omega
                    have hAl : (L ++ anyL Q 100000 j).length = m + j := by rw [List.length_append, anyL_len, hLm]
                    have hAB : Hid (∀ r ∈ L ++ anyL Q 100000 j, 0 ≤ r ∧ r ≤ 100000) := Lib.hid (fun r hr' => by
                      rcases List.mem_append.1 hr' with h | h
                      · exact HLB.out r h
                      · exact anyL_bd HQ.out (by omega) (by omega) h)
                    obtain ⟨sa, hsa⟩ : ∃ s, stateL (n : Int) r1 r2 ba (truthsL n off (L ++ anyL Q 100000 j)) = s := ⟨_, rfl⟩
                    have hPa : N1 ≠ 0 → sa ≠ 1 := fun h0 he => by
                      rw [he] at hsa
                      have h := few_sure (rd := 100000) (by omega) (fun x hx => anyL_bd HQ.out (by omega) (by omega) hx) hsa
                      rw [anyL_len] at h
                      exact HN1.out.2 j (by omega) h
                    have HSA := Lib.hid hsa
                    clear hsa
                    obtain ⟨ga, gc, hvg, rG, hgn, _⟩ := owns_row_cap (enc := encI) (l := L ++ List.replicate M 100000) (fun _ => rfl) (by omega) (by rw [hGl]; exact oA)
                    obtain ⟨aa, ac, hva, rA2, han, _⟩ := owns_row_cap (enc := encI) (l := L ++ anyL Q 100000 j) (fun _ => rfl) (by omega) (by rw [hAl]; exact oB)
                    rw [hGl] at hvg
                    rw [hAl] at hva
                    subst hvg
                    subst hva
                    have RG := Lib.hid rG
                    have RA := Lib.hid rA2
                    have HGN := Lib.hid hgn
                    have HAN := Lib.hid han
                    have HGL := Lib.hid hGl
                    have HAL := Lib.hid hAl
                    have hbw := hb.keep (gT.tr gJ)
                    obtain ⟨q0, q1, q2, q3⟩ := hbw.c4'
                    clear oA oB hap rG rA2 hgn han hGl hAl hlt
                    have tok0 : True := trivial
                    have kF : m + j ≤ n := by omega
                    have kG : m + M ≤ n := by omega
                    have k3 : decide (0 ≤ N1) = false := by simp; omega
                    have k4 : (N1 != 0) = true := by simp; omega
                    have k5 : (sa == 1) = false := by
                      have := hPa (by omega)
                      simpa using this
                    clear hPa hPg hneg
                    go_wp2_with (first
                      | (have _t := tok0; clear tok0 _t; go_at_call 19; refine (decide_more (L ++ List.replicate M 100000) n n1 n2 r1 r2 ba off h1.1 h1.2 h2.1 h2.2 b0 b1 o0 o1 (m + M) HGL.out kG hGB.out sg HSG.out ga gc wr RG.out HGN.out).mono ?_; rintro e wc ⟨rfl, gc1⟩; (obtain ⟨p0, p1, p2, p3⟩ := (hbw.keep gc1).c4'))
                      | (go_at_call 19; refine (decide_more (L ++ anyL Q 100000 j) n n1 n2 r1 r2 ba off h1.1 h1.2 h2.1 h2.2 b0 b1 o0 o1 (m + j) HAL.out kF hAB.out sa HSA.out aa ac wc (RA.out.grow gc1) HAN.out).mono ?_; rintro e wd ⟨rfl, gc2⟩))
                    go_roundw
                    case rel => exact Lib.hid ⟨1, .inr (.inl rfl), by go_num, (gT.tr gJ).tr (gc1.tr gc2)⟩
                    case measure => simp [intOf]
              · obtain ⟨F, hF⟩ : ∃ F : Nat, M - 1 = F := ⟨_, rfl⟩
                have y1 : decide (N1 < 0) = false := by simpa using hneg
                have y2 : IntKind.i64.wrap (N1 - 1) = N1 - 1 := IntWalk.i64_in _ (by omega)
                go_wp2
                clear y1 y2
                go_loopw [23, 20] (fun i s wq => Hid (∃ j : Nat, j ≤ F ∧ i = .int .i64 j ∧ Gr V wq ∧ wq.ownsRow B0 3 1 s (m + j) ((L ++ anyL Q 100000 j).flatMap encI) ∧ wq.ownsRow B0 3 1 u19 (m + M) ((L ++ List.replicate M 100000).flatMap encI) ∧ Apart s u19)) (fun i s wq => F - (intOf i).toNat)
                case atStart => exact Lib.hid ⟨0, Nat.zero_le _, rfl, gJ, (by simpa [anyL] using oB), oA, hap.symm⟩
                case round =>
                  clear gJ oA oB hap
                  obtain ⟨j, hj, rfl, gJ, oB, oA, hap⟩ := hrel.out
                  clear hrel
                  by_cases hlt : (j : Int) < (N1 - 1)
                  · have k1 : m + j + 1 ≤ maxLen := by unfold maxLen; omega
                    have k2 : (m + j + 1) * 8 ≤ 140737488355328 := by omega
                    have kb : ∀ z : Int, B0 ≤ (wr.alloc (.cells #[.int .i64 z] 3)).heap.size := fun z => by have := (gJ.tr (Gr.al wr (.cells #[.int .i64 z] 3))).size; omega
                    by_cases hq : j < Q.length
                    · obtain ⟨x, hx⟩ : ∃ x, Q[j]? = some x := ⟨Q[j], by simp [hq]⟩
                      have hx1 := HQ.out x (List.mem_of_getElem? hx)
                      obtain ⟨qb, qo, rfl, hqb, cq⟩ := HRow.get (rQ.grow (gT.tr gJ)) hx
                      have HAT := Lib.hid (show anyAt Q 100000 j = x by unfold anyAt; rw [hx])
                      have y1 : IntKind.i64.wrap x = x := IntWalk.i64_in _ (by omega)
                      clear hx
                      go_wp2_with (at_builtin; refine wpList_append_sep _ rfl _ _ 24 rfl B0 3 i0 (.int .i64 0) 1 8 Try.underlying24 hi hz0 hz1 hz2 rfl (by decide) _ _ _ rfl (owns_keep oB (Gr.al wr (.cells #[.int .i64 x] 3))) ⟨wr.heap.size, 0, none⟩ 1 1 ([(x : Int)].map (fun n => Value.int .i64 n)) rfl rfl (cell_news _ _ _) (ints_one _) k1 k2 (kb x) _ _ _ (owns_keep oA (Gr.al wr (.cells #[.int .i64 x] 3))) hap ?_; intro sv Z hA2 hgr hR2 hap2)
                      go_roundw
                      case rel =>
                        have gZ := (gJ.tr (Gr.al wr (.cells #[.int .i64 x] 3))).grown' (owns_keep oB (Gr.al wr _)) (by omega) hgr
                        have hA3 : Z.ownsRow B0 3 1 sv (m + (j + 1)) ((L ++ anyL Q 100000 (j + 1)).flatMap encI) := by
                          rw [anyL_succ, ← List.append_assoc, flat_snoc, HAT.out]
                          exact hA2
                        exact Lib.hid ⟨j + 1, by omega, by go_num, gZ, hA3, hR2, hap2⟩
                      case measure => simp [intOf]; omega
                    · have HAT := Lib.hid (show anyAt Q 100000 j = 100000 by unfold anyAt; rw [List.getElem?_eq_none (by omega)])
                      go_wp2_with (at_builtin; refine wpList_append_sep _ rfl _ _ 24 rfl B0 3 i0 (.int .i64 0) 1 8 Try.underlying24 hi hz0 hz1 hz2 rfl (by decide) _ _ _ rfl (owns_keep oB (Gr.al wr (.cells #[.int .i64 100000] 3))) ⟨wr.heap.size, 0, none⟩ 1 1 ([(100000 : Int)].map (fun n => Value.int .i64 n)) rfl rfl (cell_news _ _ _) (ints_one _) k1 k2 (kb 100000) _ _ _ (owns_keep oA (Gr.al wr (.cells #[.int .i64 100000] 3))) hap ?_; intro sv Z hA2 hgr hR2 hap2)
                      go_roundw
                      case rel =>
                        have gZ := (gJ.tr (Gr.al wr (.cells #[.int .i64 100000] 3))).grown' (owns_keep oB (Gr.al wr _)) (by omega) hgr
                        have hA3 : Z.ownsRow B0 3 1 sv (m + (j + 1)) ((L ++ anyL Q 100000 (j + 1)).flatMap encI) := by
                          rw [anyL_succ, ← List.append_assoc, flat_snoc, HAT.out]
                          exact hA2
                        exact Lib.hid ⟨j + 1, by omega, by go_num, gZ, hA3, hR2, hap2⟩
                      case measure => simp [intOf]; omega
                  · obtain rfl : j = F := by omega
                    have hAl : (L ++ anyL Q 100000 j).length = m + j := by rw [List.length_append, anyL_len, hLm]
                    have hAB : Hid (∀ r ∈ L ++ anyL Q 100000 j, 0 ≤ r ∧ r ≤ 100000) := Lib.hid (fun r hr' => by
                      rcases List.mem_append.1 hr' with h | h
                      · exact HLB.out r h
                      · exact anyL_bd HQ.out (by omega) (by omega) h)
                    obtain ⟨sa, hsa⟩ : ∃ s, stateL (n : Int) r1 r2 ba (truthsL n off (L ++ anyL Q 100000 j)) = s := ⟨_, rfl⟩
                    have hPa : N1 ≠ 0 → sa ≠ 1 := fun h0 he => by
                      rw [he] at hsa
                      have h := few_sure (rd := 100000) (by omega) (fun x hx => anyL_bd HQ.out (by omega) (by omega) hx) hsa
                      rw [anyL_len] at h
                      exact HN1.out.2 j (by omega) h
                    have HSA := Lib.hid hsa
                    clear hsa
                    obtain ⟨ga, gc, hvg, rG, hgn, _⟩ := owns_row_cap (enc := encI) (l := L ++ List.replicate M 100000) (fun _ => rfl) (by omega) (by rw [hGl]; exact oA)
                    obtain ⟨aa, ac, hva, rA2, han, _⟩ := owns_row_cap (enc := encI) (l := L ++ anyL Q 100000 j) (fun _ => rfl) (by omega) (by rw [hAl]; exact oB)
                    rw [hGl] at hvg
                    rw [hAl] at hva
                    subst hvg
                    subst hva
                    have RG := Lib.hid rG
                    have RA := Lib.hid rA2
                    have HGN := Lib.hid hgn
                    have HAN := Lib.hid han
                    have HGL := Lib.hid hGl
                    have HAL := Lib.hid hAl
                    have hbw := hb.keep (gT.tr gJ)
                    obtain ⟨q0, q1, q2, q3⟩ := hbw.c4'
                    clear oA oB hap rG rA2 hgn han hGl hAl hlt
                    have tok0 : True := trivial
                    have kF : m + j ≤ n := by omega
                    have kG : m + M ≤ n := by omega
                    have k3 : decide (0 ≤ N1) = true := by simp; omega
                    obtain rfl : sg = 1 := hPg (by omega)
                    by_cases h00 : N1 = 0
                    · have k4 : (N1 != 0) = false := by simpa using h00
                      clear hPa hPg hneg h00
                      go_wp2_with (first
                        | (have _t := tok0; clear tok0 _t; go_at_call 19; refine (decide_more (L ++ List.replicate M 100000) n n1 n2 r1 r2 ba off h1.1 h1.2 h2.1 h2.2 b0 b1 o0 o1 (m + M) HGL.out kG hGB.out 1 HSG.out ga gc wr RG.out HGN.out).mono ?_; rintro e wc ⟨rfl, gc1⟩; (obtain ⟨p0, p1, p2, p3⟩ := (hbw.keep gc1).c4'))
                        | (go_at_call 19; refine (decide_more (L ++ anyL Q 100000 j) n n1 n2 r1 r2 ba off h1.1 h1.2 h2.1 h2.2 b0 b1 o0 o1 (m + j) HAL.out kF hAB.out sa HSA.out aa ac wc (RA.out.grow gc1) HAN.out).mono ?_; rintro e wd ⟨rfl, gc2⟩))
                      go_roundw
                      case rel => exact Lib.hid ⟨1, .inr (.inl rfl), by go_num, (gT.tr gJ).tr (gc1.tr gc2)⟩
                      case measure => simp [intOf]
                    · have k4 : (N1 != 0) = true := by simpa using h00
                      have k5 : (sa == 1) = false := by
                        have := hPa (by omega)
                        simpa using this
                      clear hPa hPg hneg h00
                      go_wp2_with (first
                        | (have _t := tok0; clear tok0 _t; go_at_call 19; refine (decide_more (L ++ List.replicate M 100000) n n1 n2 r1 r2 ba off h1.1 h1.2 h2.1 h2.2 b0 b1 o0 o1 (m + M) HGL.out kG hGB.out 1 HSG.out ga gc wr RG.out HGN.out).mono ?_; rintro e wc ⟨rfl, gc1⟩; (obtain ⟨p0, p1, p2, p3⟩ := (hbw.keep gc1).c4'))
                        | (go_at_call 19; refine (decide_more (L ++ anyL Q 100000 j) n n1 n2 r1 r2 ba off h1.1 h1.2 h2.1 h2.2 b0 b1 o0 o1 (m + j) HAL.out kF hAB.out sa HSA.out aa ac wc (RA.out.grow gc1) HAN.out).mono ?_; rintro e wd ⟨rfl, gc2⟩))
                      go_roundw
                      case rel => exact Lib.hid ⟨1, .inr (.inl rfl), by go_num, (gT.tr gJ).tr (gc1.tr gc2)⟩
                      case measure => simp [intOf]
        · -- round 1
          go_upto_region 10 with fail
          go_quiet (fail)
          go_upto_region 11 with fail
          refine wp_abs (fun V => Gr wr V) (Gr.drewN (Below.refl _ _) _) ?_
          intro V gQ
          have gT := gW.tr gQ
          have rA := rL.grow gT
          obtain ⟨B0, hB0⟩ : ∃ B0, B0 = V.heap.size := ⟨_, rfl⟩
          obtain ⟨M, hM⟩ : ∃ M : Nat, N2.toNat = M := ⟨_, rfl⟩
          have tok0 : True := trivial
          go_upto_region 12 with (first
            | (have _t := tok0; clear tok0 _t; go_at_call 17; refine (lints_own_at (lotRea T off n) m (by omega) (by omega) R Ro d V rA).mono ?_; rintro e wa ⟨va, rfl, oA, ga⟩)
            | (go_at_call 17; refine (lints_own_at (lotRea T off n) m (by omega) (by omega) R Ro d wa (rA.grow ga)).mono ?_; rintro e wb ⟨vb, rfl, oB, gb⟩))
          have hap : Apart va vb := fun b hb1 hb2 => by
            have h1 := oA.lt b hb1
            have h2 := oB.lt b hb2
            omega
          rw [← HL.out, ← hB0] at oA
          rw [← HL.out] at oB
          have oA1 := owns_keep oA gb
          have oB1 := owns_base oB (show B0 ≤ wa.heap.size by have := ga.size; omega)
          have gU := ga.tr gb
          clear oA oB ga gb
          refine wp_abs (fun U => Gr V U ∧ U.ownsRow B0 3 1 va m (L.flatMap encI) ∧ U.ownsRow B0 3 1 vb m (L.flatMap encI)) ⟨gU, oA1, oB1⟩ ?_
          clear gU oA1 oB1
          rintro U ⟨gU, oA, oB⟩
          go_wp2
          go_loopw [21, 19] (fun i s wq => Hid (∃ j : Nat, j ≤ M ∧ i = .int .i64 j ∧ Gr V wq ∧ wq.ownsRow B0 3 1 s (m + j) ((L ++ List.replicate j 0).flatMap encI) ∧ wq.ownsRow B0 3 1 vb m (L.flatMap encI) ∧ Apart s vb)) (fun i s wq => M - (intOf i).toNat)
          case atStart => exact Lib.hid ⟨0, Nat.zero_le _, rfl, gU, (by simpa using oA), oB, hap⟩
          case round =>
            clear gU oA oB hap
            obtain ⟨j, hj, rfl, gJ, oA, oB, hap⟩ := hrel.out
            clear hrel
            by_cases hlt : (j : Int) < N2
            · have k1 : m + j + 1 ≤ maxLen := by unfold maxLen; omega
              have k2 : (m + j + 1) * 8 ≤ 140737488355328 := by omega
              have kb : B0 ≤ (wr.alloc (.cells #[.int .i64 0] 3)).heap.size := by have := (gJ.tr (Gr.al wr (.cells #[.int .i64 0] 3))).size; omega
              go_wp2_with (at_builtin; refine wpList_append_sep _ rfl _ _ 24 rfl B0 3 i0 (.int .i64 0) 1 8 Try.underlying24 hi hz0 hz1 hz2 rfl (by decide) _ _ _ rfl (owns_keep oA (Gr.al wr (.cells #[.int .i64 0] 3))) ⟨wr.heap.size, 0, none⟩ 1 1 ([(0 : Int)].map (fun n => Value.int .i64 n)) rfl rfl (cell_news _ _ _) (ints_one _) k1 k2 kb _ _ _ (owns_keep oB (Gr.al wr (.cells #[.int .i64 0] 3))) hap ?_; intro sv Z hA2 hgr hR2 hap2)
              go_roundw
              case rel =>
                have gZ := (gJ.tr (Gr.al wr (.cells #[.int .i64 0] 3))).grown' (owns_keep oA (Gr.al wr _)) (by omega) hgr
                refine Lib.hid ⟨j + 1, by omega, by go_num, gZ, ?_, hR2, hap2⟩
                rw [List.replicate_succ', ← List.append_assoc, flat_snoc]
                exact hA2
              case measure => simp [intOf]; omega
            · obtain rfl : M = j := by omega
              clear hlt hj
              have hGl : (L ++ List.replicate M 0).length = m + M := by rw [List.length_append, List.length_replicate, hLm]
              have hGB : Hid (∀ r ∈ L ++ List.replicate M 0, 0 ≤ r ∧ r ≤ 100000) := Lib.hid (fun r hr' => by
                rcases List.mem_append.1 hr' with h | h
                · exact HLB.out r h
                · obtain ⟨_, rfl⟩ := List.mem_replicate.1 h
                  omega)
              obtain ⟨sg, hsg⟩ : ∃ s, stateL (n : Int) r1 r2 ba (truthsL n off (L ++ List.replicate M 0)) = s := ⟨_, rfl⟩
              have hPg : 0 ≤ N2 → sg = 2 := fun h => by rw [← hsg, ← hM]; exact HN2.out.1 h
              have HSG := Lib.hid hsg
              clear hsg
              by_cases hneg : N2 < 0
              · obtain ⟨F, hF⟩ : ∃ F : Nat, n - m = F := ⟨_, rfl⟩
                have y1 : decide (N2 < 0) = true := by simpa using hneg
                have y2 : IntKind.i64.wrap (N2 - 1) = N2 - 1 := IntWalk.i64_in _ (by omega)
                go_wp2
                clear y1 y2
                go_loopw [23, 20] (fun i s wq => Hid (∃ j : Nat, j ≤ F ∧ i = .int .i64 j ∧ Gr V wq ∧ wq.ownsRow B0 3 1 s (m + j) ((L ++ anyL Q 0 j).flatMap encI) ∧ wq.ownsRow B0 3 1 u19 (m + M) ((L ++ List.replicate M 0).flatMap encI) ∧ Apart s u19)) (fun i s wq => F - (intOf i).toNat)
                case atStart => exact Lib.hid ⟨0, Nat.zero_le _, rfl, gJ, (by simpa [anyL] using oB), oA, hap.symm⟩
                case round =>
                  clear gJ oA oB hap
                  obtain ⟨j, hj, rfl, gJ, oB, oA, hap⟩ := hrel.out
                  clear hrel
                  by_cases hlt : (j : Int) < ((n : Int) - (m : Int))
                  · have k1 : m + j + 1 ≤ maxLen := by unfold maxLen; omega
                    have k2 : (m + j + 1) * 8 ≤ 140737488355328 := by omega
                    have kb : ∀ z : Int, B0 ≤ (wr.alloc (.cells #[.int .i64 z] 3)).heap.size := fun z => by have := (gJ.tr (Gr.al wr (.cells #[.int .i64 z] 3))).size; omega
                    by_cases hq : j < Q.length
                    · obtain ⟨x, hx⟩ : ∃ x, Q[j]? = some x := ⟨Q[j], by simp [hq]⟩
                      have hx1 := HQ.out x (List.mem_of_getElem? hx)
                      obtain ⟨qb, qo, rfl, hqb, cq⟩ := HRow.get (rQ.grow (gT.tr gJ)) hx
                      have HAT := Lib.hid (show anyAt Q 0 j = x by unfold anyAt; rw [hx])
                      have y1 : IntKind.i64.wrap x = x := IntWalk.i64_in _ (by omega)
                      clear hx
                      go_wp2_with (at_builtin; refine wpList_append_sep _ rfl _ _ 24 rfl B0 3 i0 (.int .i64 0) 1 8 Try.underlying24 hi hz0 hz1 hz2 rfl (by decide) _ _ _ rfl (owns_keep oB (Gr.al wr (.cells #[.int .i64 x] 3))) ⟨wr.heap.size, 0, none⟩ 1 1 ([(x : Int)].map (fun n => Value.int .i64 n)) rfl rfl (cell_news _ _ _) (ints_one _) k1 k2 (kb x) _ _ _ (owns_keep oA (Gr.al wr (.cells #[.int .i64 x] 3))) hap ?_; intro sv Z hA2 hgr hR2 hap2)
                      go_roundw
                      case rel =>
                        have gZ := (gJ.tr (Gr.al wr (.cells #[.int .i64 x] 3))).grown' (owns_keep oB (Gr.al wr _)) (by omega) hgr
                        have hA3 : Z.ownsRow B0 3 1 sv (m + (j + 1)) ((L ++ anyL Q 0 (j + 1)).flatMap encI) := by
                          rw [anyL_succ, ← List.append_assoc, flat_snoc, HAT.out]
                          exact hA2
                        exact Lib.hid ⟨j + 1, by omega, by go_num, gZ, hA3, hR2, hap2⟩
                      case measure => simp [intOf]; omega
                    · have HAT := Lib.hid (show anyAt Q 0 j = 0 by unfold anyAt; rw [List.getElem?_eq_none (by omega)])
                      go_wp2_with (at_builtin; refine wpList_append_sep _ rfl _ _ 24 rfl B0 3 i0 (.int .i64 0) 1 8 Try.underlying24 hi hz0 hz1 hz2 rfl (by decide) _ _ _ rfl (owns_keep oB (Gr.al wr (.cells #[.int .i64 0] 3))) ⟨wr.heap.size, 0, none⟩ 1 1 ([(0 : Int)].map (fun n => Value.int .i64 n)) rfl rfl (cell_news _ _ _) (ints_one _) k1 k2 (kb 0) _ _ _ (owns_keep oA (Gr.al wr (.cells #[.int .i64 0] 3))) hap ?_; intro sv Z hA2 hgr hR2 hap2)
                      go_roundw
                      case rel =>
                        have gZ := (gJ.tr (Gr.al wr (.cells #[.int .i64 0] 3))).grown' (owns_keep oB (Gr.al wr _)) (by omega) hgr
                        have hA3 : Z.ownsRow B0 3 1 sv (m + (j + 1)) ((L ++ anyL Q 0 (j + 1)).flatMap encI) := by
                          rw [anyL_succ, ← List.append_assoc, flat_snoc, HAT.out]
                          exact hA2
                        exact Lib.hid ⟨j + 1, by omega, by go_num, gZ, hA3, hR2, hap2⟩
                      case measure => simp [intOf]; omega
                  · obtain rfl : j = F := by omega
                    have hAl : (L ++ anyL Q 0 j).length = m + j := by rw [List.length_append, anyL_len, hLm]
                    have hAB : Hid (∀ r ∈ L ++ anyL Q 0 j, 0 ≤ r ∧ r ≤ 100000) := Lib.hid (fun r hr' => by
                      rcases List.mem_append.1 hr' with h | h
                      · exact HLB.out r h
                      · exact anyL_bd HQ.out (by omega) (by omega) h)
                    obtain ⟨sa, hsa⟩ : ∃ s, stateL (n : Int) r1 r2 ba (truthsL n off (L ++ anyL Q 0 j)) = s := ⟨_, rfl⟩
                    have hPa : N2 ≠ 0 → sa ≠ 2 := fun h0 he => by
                      rw [he] at hsa
                      have h := few_sure (rd := 0) (by omega) (fun x hx => anyL_bd HQ.out (by omega) (by omega) hx) hsa
                      rw [anyL_len] at h
                      exact HN2.out.2 j (by omega) h
                    have HSA := Lib.hid hsa
                    clear hsa
                    obtain ⟨ga, gc, hvg, rG, hgn, _⟩ := owns_row_cap (enc := encI) (l := L ++ List.replicate M 0) (fun _ => rfl) (by omega) (by rw [hGl]; exact oA)
                    obtain ⟨aa, ac, hva, rA2, han, _⟩ := owns_row_cap (enc := encI) (l := L ++ anyL Q 0 j) (fun _ => rfl) (by omega) (by rw [hAl]; exact oB)
                    rw [hGl] at hvg
                    rw [hAl] at hva
                    subst hvg
                    subst hva
                    have RG := Lib.hid rG
                    have RA := Lib.hid rA2
                    have HGN := Lib.hid hgn
                    have HAN := Lib.hid han
                    have HGL := Lib.hid hGl
                    have HAL := Lib.hid hAl
                    have hbw := hb.keep (gT.tr gJ)
                    obtain ⟨q0, q1, q2, q3⟩ := hbw.c4'
                    clear oA oB hap rG rA2 hgn han hGl hAl hlt
                    have tok0 : True := trivial
                    have kF : m + j ≤ n := by omega
                    have kG : m + M ≤ n := by omega
                    have k3 : decide (0 ≤ N2) = false := by simp; omega
                    have k4 : (N2 != 0) = true := by simp; omega
                    have k5 : (sa == 2) = false := by
                      have := hPa (by omega)
                      simpa using this
                    clear hPa hPg hneg
                    go_wp2_with (first
                      | (have _t := tok0; clear tok0 _t; go_at_call 19; refine (decide_more (L ++ List.replicate M 0) n n1 n2 r1 r2 ba off h1.1 h1.2 h2.1 h2.2 b0 b1 o0 o1 (m + M) HGL.out kG hGB.out sg HSG.out ga gc wr RG.out HGN.out).mono ?_; rintro e wc ⟨rfl, gc1⟩; (obtain ⟨p0, p1, p2, p3⟩ := (hbw.keep gc1).c4'))
                      | (go_at_call 19; refine (decide_more (L ++ anyL Q 0 j) n n1 n2 r1 r2 ba off h1.1 h1.2 h2.1 h2.2 b0 b1 o0 o1 (m + j) HAL.out kF hAB.out sa HSA.out aa ac wc (RA.out.grow gc1) HAN.out).mono ?_; rintro e wd ⟨rfl, gc2⟩))
                    go_roundw
                    case rel => exact Lib.hid ⟨2, .inr (.inr rfl), by go_num, (gT.tr gJ).tr (gc1.tr gc2)⟩
                    case measure => simp [intOf]
              · obtain ⟨F, hF⟩ : ∃ F : Nat, M - 1 = F := ⟨_, rfl⟩
                have y1 : decide (N2 < 0) = false := by simpa using hneg
                have y2 : IntKind.i64.wrap (N2 - 1) = N2 - 1 := IntWalk.i64_in _ (by omega)
                go_wp2
                clear y1 y2
                go_loopw [23, 20] (fun i s wq => Hid (∃ j : Nat, j ≤ F ∧ i = .int .i64 j ∧ Gr V wq ∧ wq.ownsRow B0 3 1 s (m + j) ((L ++ anyL Q 0 j).flatMap encI) ∧ wq.ownsRow B0 3 1 u19 (m + M) ((L ++ List.replicate M 0).flatMap encI) ∧ Apart s u19)) (fun i s wq => F - (intOf i).toNat)
                case atStart => exact Lib.hid ⟨0, Nat.zero_le _, rfl, gJ, (by simpa [anyL] using oB), oA, hap.symm⟩
                case round =>
                  clear gJ oA oB hap
                  obtain ⟨j, hj, rfl, gJ, oB, oA, hap⟩ := hrel.out
                  clear hrel
                  by_cases hlt : (j : Int) < (N2 - 1)
                  · have k1 : m + j + 1 ≤ maxLen := by unfold maxLen; omega
                    have k2 : (m + j + 1) * 8 ≤ 140737488355328 := by omega
                    have kb : ∀ z : Int, B0 ≤ (wr.alloc (.cells #[.int .i64 z] 3)).heap.size := fun z => by have := (gJ.tr (Gr.al wr (.cells #[.int .i64 z] 3))).size; omega
                    by_cases hq : j < Q.length
                    · obtain ⟨x, hx⟩ : ∃ x, Q[j]? = some x := ⟨Q[j], by simp [hq]⟩
                      have hx1 := HQ.out x (List.mem_of_getElem? hx)
                      obtain ⟨qb, qo, rfl, hqb, cq⟩ := HRow.get (rQ.grow (gT.tr gJ)) hx
                      have HAT := Lib.hid (show anyAt Q 0 j = x by unfold anyAt; rw [hx])
                      have y1 : IntKind.i64.wrap x = x := IntWalk.i64_in _ (by omega)
                      clear hx
                      go_wp2_with (at_builtin; refine wpList_append_sep _ rfl _ _ 24 rfl B0 3 i0 (.int .i64 0) 1 8 Try.underlying24 hi hz0 hz1 hz2 rfl (by decide) _ _ _ rfl (owns_keep oB (Gr.al wr (.cells #[.int .i64 x] 3))) ⟨wr.heap.size, 0, none⟩ 1 1 ([(x : Int)].map (fun n => Value.int .i64 n)) rfl rfl (cell_news _ _ _) (ints_one _) k1 k2 (kb x) _ _ _ (owns_keep oA (Gr.al wr (.cells #[.int .i64 x] 3))) hap ?_; intro sv Z hA2 hgr hR2 hap2)
                      go_roundw
                      case rel =>
                        have gZ := (gJ.tr (Gr.al wr (.cells #[.int .i64 x] 3))).grown' (owns_keep oB (Gr.al wr _)) (by omega) hgr
                        have hA3 : Z.ownsRow B0 3 1 sv (m + (j + 1)) ((L ++ anyL Q 0 (j + 1)).flatMap encI) := by
                          rw [anyL_succ, ← List.append_assoc, flat_snoc, HAT.out]
                          exact hA2
                        exact Lib.hid ⟨j + 1, by omega, by go_num, gZ, hA3, hR2, hap2⟩
                      case measure => simp [intOf]; omega
                    · have HAT := Lib.hid (show anyAt Q 0 j = 0 by unfold anyAt; rw [List.getElem?_eq_none (by omega)])
                      go_wp2_with (at_builtin; refine wpList_append_sep _ rfl _ _ 24 rfl B0 3 i0 (.int .i64 0) 1 8 Try.underlying24 hi hz0 hz1 hz2 rfl (by decide) _ _ _ rfl (owns_keep oB (Gr.al wr (.cells #[.int .i64 0] 3))) ⟨wr.heap.size, 0, none⟩ 1 1 ([(0 : Int)].map (fun n => Value.int .i64 n)) rfl rfl (cell_news _ _ _) (ints_one _) k1 k2 (kb 0) _ _ _ (owns_keep oA (Gr.al wr (.cells #[.int .i64 0] 3))) hap ?_; intro sv Z hA2 hgr hR2 hap2)
                      go_roundw
                      case rel =>
                        have gZ := (gJ.tr (Gr.al wr (.cells #[.int .i64 0] 3))).grown' (owns_keep oB (Gr.al wr _)) (by omega) hgr
                        have hA3 : Z.ownsRow B0 3 1 sv (m + (j + 1)) ((L ++ anyL Q 0 (j + 1)).flatMap encI) := by
                          rw [anyL_succ, ← List.append_assoc, flat_snoc, HAT.out]
                          exact hA2
                        exact Lib.hid ⟨j + 1, by omega, by go_num, gZ, hA3, hR2, hap2⟩
                      case measure => simp [intOf]; omega
                  · obtain rfl : j = F := by omega
                    have hAl : (L ++ anyL Q 0 j).length = m + j := by rw [List.length_append, anyL_len, hLm]
                    have hAB : Hid (∀ r ∈ L ++ anyL Q 0 j, 0 ≤ r ∧ r ≤ 100000) := Lib.hid (fun r hr' => by
                      rcases List.mem_append.1 hr' with h | h
                      · exact HLB.out r h
                      · exact anyL_bd HQ.out (by omega) (by omega) h)
                    obtain ⟨sa, hsa⟩ : ∃ s, stateL (n : Int) r1 r2 ba (truthsL n off (L ++ anyL Q 0 j)) = s := ⟨_, rfl⟩
                    have hPa : N2 ≠ 0 → sa ≠ 2 := fun h0 he => by
                      rw [he] at hsa
                      have h := few_sure (rd := 0) (by omega) (fun x hx => anyL_bd HQ.out (by omega) (by omega) hx) hsa
                      rw [anyL_len] at h
                      exact HN2.out.2 j (by omega) h
                    have HSA := Lib.hid hsa
                    clear hsa
                    obtain ⟨ga, gc, hvg, rG, hgn, _⟩ := owns_row_cap (enc := encI) (l := L ++ List.replicate M 0) (fun _ => rfl) (by omega) (by rw [hGl]; exact oA)
                    obtain ⟨aa, ac, hva, rA2, han, _⟩ := owns_row_cap (enc := encI) (l := L ++ anyL Q 0 j) (fun _ => rfl) (by omega) (by rw [hAl]; exact oB)
                    rw [hGl] at hvg
                    rw [hAl] at hva
                    subst hvg
                    subst hva
                    have RG := Lib.hid rG
                    have RA := Lib.hid rA2
                    have HGN := Lib.hid hgn
                    have HAN := Lib.hid han
                    have HGL := Lib.hid hGl
                    have HAL := Lib.hid hAl
                    have hbw := hb.keep (gT.tr gJ)
                    obtain ⟨q0, q1, q2, q3⟩ := hbw.c4'
                    clear oA oB hap rG rA2 hgn han hGl hAl hlt
                    have tok0 : True := trivial
                    have kF : m + j ≤ n := by omega
                    have kG : m + M ≤ n := by omega
                    have k3 : decide (0 ≤ N2) = true := by simp; omega
                    obtain rfl : sg = 2 := hPg (by omega)
                    by_cases h00 : N2 = 0
                    · have k4 : (N2 != 0) = false := by simpa using h00
                      clear hPa hPg hneg h00
                      go_wp2_with (first
                        | (have _t := tok0; clear tok0 _t; go_at_call 19; refine (decide_more (L ++ List.replicate M 0) n n1 n2 r1 r2 ba off h1.1 h1.2 h2.1 h2.2 b0 b1 o0 o1 (m + M) HGL.out kG hGB.out 2 HSG.out ga gc wr RG.out HGN.out).mono ?_; rintro e wc ⟨rfl, gc1⟩; (obtain ⟨p0, p1, p2, p3⟩ := (hbw.keep gc1).c4'))
                        | (go_at_call 19; refine (decide_more (L ++ anyL Q 0 j) n n1 n2 r1 r2 ba off h1.1 h1.2 h2.1 h2.2 b0 b1 o0 o1 (m + j) HAL.out kF hAB.out sa HSA.out aa ac wc (RA.out.grow gc1) HAN.out).mono ?_; rintro e wd ⟨rfl, gc2⟩))
                      go_roundw
                      case rel => exact Lib.hid ⟨2, .inr (.inr rfl), by go_num, (gT.tr gJ).tr (gc1.tr gc2)⟩
                      case measure => simp [intOf]
                    · have k4 : (N2 != 0) = true := by simpa using h00
                      have k5 : (sa == 2) = false := by
                        have := hPa (by omega)
                        simpa using this
                      clear hPa hPg hneg h00
                      go_wp2_with (first
                        | (have _t := tok0; clear tok0 _t; go_at_call 19; refine (decide_more (L ++ List.replicate M 0) n n1 n2 r1 r2 ba off h1.1 h1.2 h2.1 h2.2 b0 b1 o0 o1 (m + M) HGL.out kG hGB.out 2 HSG.out ga gc wr RG.out HGN.out).mono ?_; rintro e wc ⟨rfl, gc1⟩; (obtain ⟨p0, p1, p2, p3⟩ := (hbw.keep gc1).c4'))
                        | (go_at_call 19; refine (decide_more (L ++ anyL Q 0 j) n n1 n2 r1 r2 ba off h1.1 h1.2 h2.1 h2.2 b0 b1 o0 o1 (m + j) HAL.out kF hAB.out sa HSA.out aa ac wc (RA.out.grow gc1) HAN.out).mono ?_; rintro e wd ⟨rfl, gc2⟩))
                      go_roundw
                      case rel => exact Lib.hid ⟨2, .inr (.inr rfl), by go_num, (gT.tr gJ).tr (gc1.tr gc2)⟩
                      case measure => simp [intOf]
        · go_wp2_with (go_at_call 16; refine (known_any _).mono ?_; rintro e w6 ⟨rfl, g6⟩)
          go_ret
          exact ⟨rfl, (gV.tr gW).tr g6⟩
    · have e5 : (N1 == 0) = false := by simpa using hz
      clear hz hnz
      go_upto_region 7 with fail
      clear e5
      clear e1 e2 e3 e4 z0 q0 q1 q2 q3
      refine wp_abs (fun Y => Gr w Y ∧ Box Y D [.int .i64 (n : Int), .int .i64 r1, .int .i64 r2, .int .i64 ba] ∧ IRow Y (some ⟨R, Ro, none⟩) (lotRea T off n) ∧ HRow Y qa Q) ⟨gV, hb, rL, rQ⟩ ?_
      clear gV hb rL rQ
      rintro Y ⟨gV, hb, rL, rQ⟩
      go_wp2
      go_loopw [15] (fun i wr => Hid (∃ k : Int, (k = 0 ∨ k = 1 ∨ k = 2) ∧ i = .int .i64 k ∧ Gr Y wr)) (fun i wr => 2 - (intOf i).toNat)
      case atStart => exact Lib.hid ⟨0, .inl rfl, rfl, Below.refl _ _⟩
      case round =>
        obtain ⟨k, hk, rfl, gW⟩ := hrel.out
        clear hrel
        rcases hk with rfl | rfl | rfl
        · -- round 0
          go_upto_region 10 with fail
          go_quiet (fail)
          go_upto_region 11 with fail
          refine wp_abs (fun V => Gr wr V) (Gr.drewN (Below.refl _ _) _) ?_
          intro V gQ
          have gT := gW.tr gQ
          have rA := rL.grow gT
          obtain ⟨B0, hB0⟩ : ∃ B0, B0 = V.heap.size := ⟨_, rfl⟩
          obtain ⟨M, hM⟩ : ∃ M : Nat, N1.toNat = M := ⟨_, rfl⟩
          have tok0 : True := trivial
          go_upto_region 12 with (first
            | (have _t := tok0; clear tok0 _t; go_at_call 17; refine (lints_own_at (lotRea T off n) m (by omega) (by omega) R Ro d V rA).mono ?_; rintro e wa ⟨va, rfl, oA, ga⟩)
            | (go_at_call 17; refine (lints_own_at (lotRea T off n) m (by omega) (by omega) R Ro d wa (rA.grow ga)).mono ?_; rintro e wb ⟨vb, rfl, oB, gb⟩))
          have hap : Apart va vb := fun b hb1 hb2 => by
            have h1 := oA.lt b hb1
            have h2 := oB.lt b hb2
            omega
          rw [← HL.out, ← hB0] at oA
          rw [← HL.out] at oB
          have oA1 := owns_keep oA gb
          have oB1 := owns_base oB (show B0 ≤ wa.heap.size by have := ga.size; omega)
          have gU := ga.tr gb
          clear oA oB ga gb
          refine wp_abs (fun U => Gr V U ∧ U.ownsRow B0 3 1 va m (L.flatMap encI) ∧ U.ownsRow B0 3 1 vb m (L.flatMap encI)) ⟨gU, oA1, oB1⟩ ?_
          clear gU oA1 oB1
          rintro U ⟨gU, oA, oB⟩
          go_wp2
          go_loopw [21, 19] (fun i s wq => Hid (∃ j : Nat, j ≤ M ∧ i = .int .i64 j ∧ Gr V wq ∧ wq.ownsRow B0 3 1 s (m + j) ((L ++ List.replicate j 100000).flatMap encI) ∧ wq.ownsRow B0 3 1 vb m (L.flatMap encI) ∧ Apart s vb)) (fun i s wq => M - (intOf i).toNat)
          case atStart => exact Lib.hid ⟨0, Nat.zero_le _, rfl, gU, (by simpa using oA), oB, hap⟩
          case round =>
            clear gU oA oB hap
            obtain ⟨j, hj, rfl, gJ, oA, oB, hap⟩ := hrel.out
            clear hrel
            by_cases hlt : (j : Int) < N1
            · have k1 : m + j + 1 ≤ maxLen := by unfold maxLen; omega
              have k2 : (m + j + 1) * 8 ≤ 140737488355328 := by omega
              have kb : B0 ≤ (wr.alloc (.cells #[.int .i64 100000] 3)).heap.size := by have := (gJ.tr (Gr.al wr (.cells #[.int .i64 100000] 3))).size; omega
              go_wp2_with (at_builtin; refine wpList_append_sep _ rfl _ _ 24 rfl B0 3 i0 (.int .i64 0) 1 8 Try.underlying24 hi hz0 hz1 hz2 rfl (by decide) _ _ _ rfl (owns_keep oA (Gr.al wr (.cells #[.int .i64 100000] 3))) ⟨wr.heap.size, 0, none⟩ 1 1 ([(100000 : Int)].map (fun n => Value.int .i64 n)) rfl rfl (cell_news _ _ _) (ints_one _) k1 k2 kb _ _ _ (owns_keep oB (Gr.al wr (.cells #[.int .i64 100000] 3))) hap ?_; intro sv Z hA2 hgr hR2 hap2)
              go_roundw
              case rel =>
                have gZ := (gJ.tr (Gr.al wr (.cells #[.int .i64 100000] 3))).grown' (owns_keep oA (Gr.al wr _)) (by omega) hgr
                refine Lib.hid ⟨j + 1, by omega, by go_num, gZ, ?_, hR2, hap2⟩
                rw [List.replicate_succ', ← List.append_assoc, flat_snoc]
                exact hA2
              case measure => simp [intOf]; omega
            · obtain rfl : M = j := by omega
              clear hlt hj
              have hGl : (L ++ List.replicate M 100000).length = m + M := by rw [List.length_append, List.length_replicate, hLm]
              have hGB : Hid (∀ r ∈ L ++ List.replicate M 100000, 0 ≤ r ∧ r ≤ 100000) := Lib.hid (fun r hr' => by
                rcases List.mem_append.1 hr' with h | h
                · exact HLB.out r h
                · obtain ⟨_, rfl⟩ := List.mem_replicate.1 h
                  omega)
              obtain ⟨sg, hsg⟩ : ∃ s, stateL (n : Int) r1 r2 ba (truthsL n off (L ++ List.replicate M 100000)) = s := ⟨_, rfl⟩
              have hPg : 0 ≤ N1 → sg = 1 := fun h => by rw [← hsg, ← hM]; exact HN1.out.1 h
              have HSG := Lib.hid hsg
              clear hsg
              by_cases hneg : N1 < 0
              · obtain ⟨F, hF⟩ : ∃ F : Nat, n - m = F := ⟨_, rfl⟩
                have y1 : decide (N1 < 0) = true := by simpa using hneg
                have y2 : IntKind.i64.wrap (N1 - 1) = N1 - 1 := IntWalk.i64_in _ (by omega)
                go_wp2
                clear y1 y2
                go_loopw [23, 20] (fun i s wq => Hid (∃ j : Nat, j ≤ F ∧ i = .int .i64 j ∧ Gr V wq ∧ wq.ownsRow B0 3 1 s (m + j) ((L ++ anyL Q 100000 j).flatMap encI) ∧ wq.ownsRow B0 3 1 u19 (m + M) ((L ++ List.replicate M 100000).flatMap encI) ∧ Apart s u19)) (fun i s wq => F - (intOf i).toNat)
                case atStart => exact Lib.hid ⟨0, Nat.zero_le _, rfl, gJ, (by simpa [anyL] using oB), oA, hap.symm⟩
                case round =>
                  clear gJ oA oB hap
                  obtain ⟨j, hj, rfl, gJ, oB, oA, hap⟩ := hrel.out
                  clear hrel
                  by_cases hlt : (j : Int) < ((n : Int) - (m : Int))
                  · have k1 : m + j + 1 ≤ maxLen := by unfold maxLen; omega
                    have k2 : (m + j + 1) * 8 ≤ 140737488355328 := by omega
                    have kb : ∀ z : Int, B0 ≤ (wr.alloc (.cells #[.int .i64 z] 3)).heap.size := fun z => by have := (gJ.tr (Gr.al wr (.cells #[.int .i64 z] 3))).size; omega
                    by_cases hq : j < Q.length
                    · obtain ⟨x, hx⟩ : ∃ x, Q[j]? = some x := ⟨Q[j], by simp [hq]⟩
                      have hx1 := HQ.out x (List.mem_of_getElem? hx)
                      obtain ⟨qb, qo, rfl, hqb, cq⟩ := HRow.get (rQ.grow (gT.tr gJ)) hx
                      have HAT := Lib.hid (show anyAt Q 100000 j = x by unfold anyAt; rw [hx])
                      have y1 : IntKind.i64.wrap x = x := IntWalk.i64_in _ (by omega)
                      clear hx
                      go_wp2_with (at_builtin; refine wpList_append_sep _ rfl _ _ 24 rfl B0 3 i0 (.int .i64 0) 1 8 Try.underlying24 hi hz0 hz1 hz2 rfl (by decide) _ _ _ rfl (owns_keep oB (Gr.al wr (.cells #[.int .i64 x] 3))) ⟨wr.heap.size, 0, none⟩ 1 1 ([(x : Int)].map (fun n => Value.int .i64 n)) rfl rfl (cell_news _ _ _) (ints_one _) k1 k2 (kb x) _ _ _ (owns_keep oA (Gr.al wr (.cells #[.int .i64 x] 3))) hap ?_; intro sv Z hA2 hgr hR2 hap2)
                      go_roundw
                      case rel =>
                        have gZ := (gJ.tr (Gr.al wr (.cells #[.int .i64 x] 3))).grown' (owns_keep oB (Gr.al wr _)) (by omega) hgr
                        have hA3 : Z.ownsRow B0 3 1 sv (m + (j + 1)) ((L ++ anyL Q 100000 (j + 1)).flatMap encI) := by
                          rw [anyL_succ, ← List.append_assoc, flat_snoc, HAT.out]
                          exact hA2
                        exact Lib.hid ⟨j + 1, by omega, by go_num, gZ, hA3, hR2, hap2⟩
                      case measure => simp [intOf]; omega
                    · have HAT := Lib.hid (show anyAt Q 100000 j = 100000 by unfold anyAt; rw [List.getElem?_eq_none (by omega)])
                      go_wp2_with (at_builtin; refine wpList_append_sep _ rfl _ _ 24 rfl B0 3 i0 (.int .i64 0) 1 8 Try.underlying24 hi hz0 hz1 hz2 rfl (by decide) _ _ _ rfl (owns_keep oB (Gr.al wr (.cells #[.int .i64 100000] 3))) ⟨wr.heap.size, 0, none⟩ 1 1 ([(100000 : Int)].map (fun n => Value.int .i64 n)) rfl rfl (cell_news _ _ _) (ints_one _) k1 k2 (kb 100000) _ _ _ (owns_keep oA (Gr.al wr (.cells #[.int .i64 100000] 3))) hap ?_; intro sv Z hA2 hgr hR2 hap2)
                      go_roundw
                      case rel =>
                        have gZ := (gJ.tr (Gr.al wr (.cells #[.int .i64 100000] 3))).grown' (owns_keep oB (Gr.al wr _)) (by omega) hgr
                        have hA3 : Z.ownsRow B0 3 1 sv (m + (j + 1)) ((L ++ anyL Q 100000 (j + 1)).flatMap encI) := by
                          rw [anyL_succ, ← List.append_assoc, flat_snoc, HAT.out]
                          exact hA2
                        exact Lib.hid ⟨j + 1, by omega, by go_num, gZ, hA3, hR2, hap2⟩
                      case measure => simp [intOf]; omega
                  · obtain rfl : j = F := by omega
                    have hAl : (L ++ anyL Q 100000 j).length = m + j := by rw [List.length_append, anyL_len, hLm]
                    have hAB : Hid (∀ r ∈ L ++ anyL Q 100000 j, 0 ≤ r ∧ r ≤ 100000) := Lib.hid (fun r hr' => by
                      rcases List.mem_append.1 hr' with h | h
                      · exact HLB.out r h
                      · exact anyL_bd HQ.out (by omega) (by omega) h)
                    obtain ⟨sa, hsa⟩ : ∃ s, stateL (n : Int) r1 r2 ba (truthsL n off (L ++ anyL Q 100000 j)) = s := ⟨_, rfl⟩
                    have hPa : N1 ≠ 0 → sa ≠ 1 := fun h0 he => by
                      rw [he] at hsa
                      have h := few_sure (rd := 100000) (by omega) (fun x hx => anyL_bd HQ.out (by omega) (by omega) hx) hsa
                      rw [anyL_len] at h
                      exact HN1.out.2 j (by omega) h
                    have HSA := Lib.hid hsa
                    clear hsa
                    obtain ⟨ga, gc, hvg, rG, hgn, _⟩ := owns_row_cap (enc := encI) (l := L ++ List.replicate M 100000) (fun _ => rfl) (by omega) (by rw [hGl]; exact oA)
                    obtain ⟨aa, ac, hva, rA2, han, _⟩ := owns_row_cap (enc := encI) (l := L ++ anyL Q 100000 j) (fun _ => rfl) (by omega) (by rw [hAl]; exact oB)
                    rw [hGl] at hvg
                    rw [hAl] at hva
                    subst hvg
                    subst hva
                    have RG := Lib.hid rG
                    have RA := Lib.hid rA2
                    have HGN := Lib.hid hgn
                    have HAN := Lib.hid han
                    have HGL := Lib.hid hGl
                    have HAL := Lib.hid hAl
                    have hbw := hb.keep (gT.tr gJ)
                    obtain ⟨q0, q1, q2, q3⟩ := hbw.c4'
                    clear oA oB hap rG rA2 hgn han hGl hAl hlt
                    have tok0 : True := trivial
                    have kF : m + j ≤ n := by omega
                    have kG : m + M ≤ n := by omega
                    have k3 : decide (0 ≤ N1) = false := by simp; omega
                    have k4 : (N1 != 0) = true := by simp; omega
                    have k5 : (sa == 1) = false := by
                      have := hPa (by omega)
                      simpa using this
                    clear hPa hPg hneg
                    go_wp2_with (first
                      | (have _t := tok0; clear tok0 _t; go_at_call 19; refine (decide_more (L ++ List.replicate M 100000) n n1 n2 r1 r2 ba off h1.1 h1.2 h2.1 h2.2 b0 b1 o0 o1 (m + M) HGL.out kG hGB.out sg HSG.out ga gc wr RG.out HGN.out).mono ?_; rintro e wc ⟨rfl, gc1⟩; (obtain ⟨p0, p1, p2, p3⟩ := (hbw.keep gc1).c4'))
                      | (go_at_call 19; refine (decide_more (L ++ anyL Q 100000 j) n n1 n2 r1 r2 ba off h1.1 h1.2 h2.1 h2.2 b0 b1 o0 o1 (m + j) HAL.out kF hAB.out sa HSA.out aa ac wc (RA.out.grow gc1) HAN.out).mono ?_; rintro e wd ⟨rfl, gc2⟩))
                    go_roundw
                    case rel => exact Lib.hid ⟨1, .inr (.inl rfl), by go_num, (gT.tr gJ).tr (gc1.tr gc2)⟩
                    case measure => simp [intOf]
              · obtain ⟨F, hF⟩ : ∃ F : Nat, M - 1 = F := ⟨_, rfl⟩
                have y1 : decide (N1 < 0) = false := by simpa using hneg
                have y2 : IntKind.i64.wrap (N1 - 1) = N1 - 1 := IntWalk.i64_in _ (by omega)
                go_wp2
                clear y1 y2
                go_loopw [23, 20] (fun i s wq => Hid (∃ j : Nat, j ≤ F ∧ i = .int .i64 j ∧ Gr V wq ∧ wq.ownsRow B0 3 1 s (m + j) ((L ++ anyL Q 100000 j).flatMap encI) ∧ wq.ownsRow B0 3 1 u19 (m + M) ((L ++ List.replicate M 100000).flatMap encI) ∧ Apart s u19)) (fun i s wq => F - (intOf i).toNat)
                case atStart => exact Lib.hid ⟨0, Nat.zero_le _, rfl, gJ, (by simpa [anyL] using oB), oA, hap.symm⟩
                case round =>
                  clear gJ oA oB hap
                  obtain ⟨j, hj, rfl, gJ, oB, oA, hap⟩ := hrel.out
                  clear hrel
                  by_cases hlt : (j : Int) < (N1 - 1)
                  · have k1 : m + j + 1 ≤ maxLen := by unfold maxLen; omega
                    have k2 : (m + j + 1) * 8 ≤ 140737488355328 := by omega
                    have kb : ∀ z : Int, B0 ≤ (wr.alloc (.cells #[.int .i64 z] 3)).heap.size := fun z => by have := (gJ.tr (Gr.al wr (.cells #[.int .i64 z] 3))).size; omega
                    by_cases hq : j < Q.length
                    · obtain ⟨x, hx⟩ : ∃ x, Q[j]? = some x := ⟨Q[j], by simp [hq]⟩
                      have hx1 := HQ.out x (List.mem_of_getElem? hx)
                      obtain ⟨qb, qo, rfl, hqb, cq⟩ := HRow.get (rQ.grow (gT.tr gJ)) hx
                      have HAT := Lib.hid (show anyAt Q 100000 j = x by unfold anyAt; rw [hx])
                      have y1 : IntKind.i64.wrap x = x := IntWalk.i64_in _ (by omega)
                      clear hx
                      go_wp2_with (at_builtin; refine wpList_append_sep _ rfl _ _ 24 rfl B0 3 i0 (.int .i64 0) 1 8 Try.underlying24 hi hz0 hz1 hz2 rfl (by decide) _ _ _ rfl (owns_keep oB (Gr.al wr (.cells #[.int .i64 x] 3))) ⟨wr.heap.size, 0, none⟩ 1 1 ([(x : Int)].map (fun n => Value.int .i64 n)) rfl rfl (cell_news _ _ _) (ints_one _) k1 k2 (kb x) _ _ _ (owns_keep oA (Gr.al wr (.cells #[.int .i64 x] 3))) hap ?_; intro sv Z hA2 hgr hR2 hap2)
                      go_roundw
                      case rel =>
                        have gZ := (gJ.tr (Gr.al wr (.cells #[.int .i64 x] 3))).grown' (owns_keep oB (Gr.al wr _)) (by omega) hgr
                        have hA3 : Z.ownsRow B0 3 1 sv (m + (j + 1)) ((L ++ anyL Q 100000 (j + 1)).flatMap encI) := by
                          rw [anyL_succ, ← List.append_assoc, flat_snoc, HAT.out]
                          exact hA2
                        exact Lib.hid ⟨j + 1, by omega, by go_num, gZ, hA3, hR2, hap2⟩
                      case measure => simp [intOf]; omega
                    · have HAT := Lib.hid (show anyAt Q 100000 j = 100000 by unfold anyAt; rw [List.getElem?_eq_none (by omega)])
                      go_wp2_with (at_builtin; refine wpList_append_sep _ rfl _ _ 24 rfl B0 3 i0 (.int .i64 0) 1 8 Try.underlying24 hi hz0 hz1 hz2 rfl (by decide) _ _ _ rfl (owns_keep oB (Gr.al wr (.cells #[.int .i64 100000] 3))) ⟨wr.heap.size, 0, none⟩ 1 1 ([(100000 : Int)].map (fun n => Value.int .i64 n)) rfl rfl (cell_news _ _ _) (ints_one _) k1 k2 (kb 100000) _ _ _ (owns_keep oA (Gr.al wr (.cells #[.int .i64 100000] 3))) hap ?_; intro sv Z hA2 hgr hR2 hap2)
                      go_roundw
                      case rel =>
                        have gZ := (gJ.tr (Gr.al wr (.cells #[.int .i64 100000] 3))).grown' (owns_keep oB (Gr.al wr _)) (by omega) hgr
                        have hA3 : Z.ownsRow B0 3 1 sv (m + (j + 1)) ((L ++ anyL Q 100000 (j + 1)).flatMap encI) := by
                          rw [anyL_succ, ← List.append_assoc, flat_snoc, HAT.out]
                          exact hA2
                        exact Lib.hid ⟨j + 1, by omega, by go_num, gZ, hA3, hR2, hap2⟩
                      case measure => simp [intOf]; omega
                  · obtain rfl : j = F := by omega
                    have hAl : (L ++ anyL Q 100000 j).length = m + j := by rw [List.length_append, anyL_len, hLm]
                    have hAB : Hid (∀ r ∈ L ++ anyL Q 100000 j, 0 ≤ r ∧ r ≤ 100000) := Lib.hid (fun r hr' => by
                      rcases List.mem_append.1 hr' with h | h
                      · exact HLB.out r h
                      · exact anyL_bd HQ.out (by omega) (by omega) h)
                    obtain ⟨sa, hsa⟩ : ∃ s, stateL (n : Int) r1 r2 ba (truthsL n off (L ++ anyL Q 100000 j)) = s := ⟨_, rfl⟩
                    have hPa : N1 ≠ 0 → sa ≠ 1 := fun h0 he => by
                      rw [he] at hsa
                      have h := few_sure (rd := 100000) (by omega) (fun x hx => anyL_bd HQ.out (by omega) (by omega) hx) hsa
                      rw [anyL_len] at h
                      exact HN1.out.2 j (by omega) h
                    have HSA := Lib.hid hsa
                    clear hsa
                    obtain ⟨ga, gc, hvg, rG, hgn, _⟩ := owns_row_cap (enc := encI) (l := L ++ List.replicate M 100000) (fun _ => rfl) (by omega) (by rw [hGl]; exact oA)
                    obtain ⟨aa, ac, hva, rA2, han, _⟩ := owns_row_cap (enc := encI) (l := L ++ anyL Q 100000 j) (fun _ => rfl) (by omega) (by rw [hAl]; exact oB)
                    rw [hGl] at hvg
                    rw [hAl] at hva
                    subst hvg
                    subst hva
                    have RG := Lib.hid rG
                    have RA := Lib.hid rA2
                    have HGN := Lib.hid hgn
                    have HAN := Lib.hid han
                    have HGL := Lib.hid hGl
                    have HAL := Lib.hid hAl
                    have hbw := hb.keep (gT.tr gJ)
                    obtain ⟨q0, q1, q2, q3⟩ := hbw.c4'
                    clear oA oB hap rG rA2 hgn han hGl hAl hlt
                    have tok0 : True := trivial
                    have kF : m + j ≤ n := by omega
                    have kG : m + M ≤ n := by omega
                    have k3 : decide (0 ≤ N1) = true := by simp; omega
                    obtain rfl : sg = 1 := hPg (by omega)
                    by_cases h00 : N1 = 0
                    · have k4 : (N1 != 0) = false := by simpa using h00
                      clear hPa hPg hneg h00
                      go_wp2_with (first
                        | (have _t := tok0; clear tok0 _t; go_at_call 19; refine (decide_more (L ++ List.replicate M 100000) n n1 n2 r1 r2 ba off h1.1 h1.2 h2.1 h2.2 b0 b1 o0 o1 (m + M) HGL.out kG hGB.out 1 HSG.out ga gc wr RG.out HGN.out).mono ?_; rintro e wc ⟨rfl, gc1⟩; (obtain ⟨p0, p1, p2, p3⟩ := (hbw.keep gc1).c4'))
                        | (go_at_call 19; refine (decide_more (L ++ anyL Q 100000 j) n n1 n2 r1 r2 ba off h1.1 h1.2 h2.1 h2.2 b0 b1 o0 o1 (m + j) HAL.out kF hAB.out sa HSA.out aa ac wc (RA.out.grow gc1) HAN.out).mono ?_; rintro e wd ⟨rfl, gc2⟩))
                      go_roundw
                      case rel => exact Lib.hid ⟨1, .inr (.inl rfl), by go_num, (gT.tr gJ).tr (gc1.tr gc2)⟩
                      case measure => simp [intOf]
                    · have k4 : (N1 != 0) = true := by simpa using h00
                      have k5 : (sa == 1) = false := by
                        have := hPa (by omega)
                        simpa using this
                      clear hPa hPg hneg h00
                      go_wp2_with (first
                        | (have _t := tok0; clear tok0 _t; go_at_call 19; refine (decide_more (L ++ List.replicate M 100000) n n1 n2 r1 r2 ba off h1.1 h1.2 h2.1 h2.2 b0 b1 o0 o1 (m + M) HGL.out kG hGB.out 1 HSG.out ga gc wr RG.out HGN.out).mono ?_; rintro e wc ⟨rfl, gc1⟩; (obtain ⟨p0, p1, p2, p3⟩ := (hbw.keep gc1).c4'))
                        | (go_at_call 19; refine (decide_more (L ++ anyL Q 100000 j) n n1 n2 r1 r2 ba off h1.1 h1.2 h2.1 h2.2 b0 b1 o0 o1 (m + j) HAL.out kF hAB.out sa HSA.out aa ac wc (RA.out.grow gc1) HAN.out).mono ?_; rintro e wd ⟨rfl, gc2⟩))
                      go_roundw
                      case rel => exact Lib.hid ⟨1, .inr (.inl rfl), by go_num, (gT.tr gJ).tr (gc1.tr gc2)⟩
                      case measure => simp [intOf]
        · -- round 1
          go_upto_region 10 with fail
          go_quiet (fail)
          go_upto_region 11 with fail
          refine wp_abs (fun V => Gr wr V) (Gr.drewN (Below.refl _ _) _) ?_
          intro V gQ
          have gT := gW.tr gQ
          have rA := rL.grow gT
          obtain ⟨B0, hB0⟩ : ∃ B0, B0 = V.heap.size := ⟨_, rfl⟩
          obtain ⟨M, hM⟩ : ∃ M : Nat, N2.toNat = M := ⟨_, rfl⟩
          have tok0 : True := trivial
          go_upto_region 12 with (first
            | (have _t := tok0; clear tok0 _t; go_at_call 17; refine (lints_own_at (lotRea T off n) m (by omega) (by omega) R Ro d V rA).mono ?_; rintro e wa ⟨va, rfl, oA, ga⟩)
            | (go_at_call 17; refine (lints_own_at (lotRea T off n) m (by omega) (by omega) R Ro d wa (rA.grow ga)).mono ?_; rintro e wb ⟨vb, rfl, oB, gb⟩))
          have hap : Apart va vb := fun b hb1 hb2 => by
            have h1 := oA.lt b hb1
            have h2 := oB.lt b hb2
            omega
          rw [← HL.out, ← hB0] at oA
          rw [← HL.out] at oB
          have oA1 := owns_keep oA gb
          have oB1 := owns_base oB (show B0 ≤ wa.heap.size by have := ga.size; omega)
          have gU := ga.tr gb
          clear oA oB ga gb
          refine wp_abs (fun U => Gr V U ∧ U.ownsRow B0 3 1 va m (L.flatMap encI) ∧ U.ownsRow B0 3 1 vb m (L.flatMap encI)) ⟨gU, oA1, oB1⟩ ?_
          clear gU oA1 oB1
          rintro U ⟨gU, oA, oB⟩
          go_wp2
          go_loopw [21, 19] (fun i s wq => Hid (∃ j : Nat, j ≤ M ∧ i = .int .i64 j ∧ Gr V wq ∧ wq.ownsRow B0 3 1 s (m + j) ((L ++ List.replicate j 0).flatMap encI) ∧ wq.ownsRow B0 3 1 vb m (L.flatMap encI) ∧ Apart s vb)) (fun i s wq => M - (intOf i).toNat)
          case atStart => exact Lib.hid ⟨0, Nat.zero_le _, rfl, gU, (by simpa using oA), oB, hap⟩
          case round =>
            clear gU oA oB hap
            obtain ⟨j, hj, rfl, gJ, oA, oB, hap⟩ := hrel.out
            clear hrel
            by_cases hlt : (j : Int) < N2
            · have k1 : m + j + 1 ≤ maxLen := by unfold maxLen; omega
              have k2 : (m + j + 1) * 8 ≤ 140737488355328 := by omega
              have kb : B0 ≤ (wr.alloc (.cells #[.int .i64 0] 3)).heap.size := by have := (gJ.tr (Gr.al wr (.cells #[.int .i64 0] 3))).size; omega
              go_wp2_with (at_builtin; refine wpList_append_sep _ rfl _ _ 24 rfl B0 3 i0 (.int .i64 0) 1 8 Try.underlying24 hi hz0 hz1 hz2 rfl (by decide) _ _ _ rfl (owns_keep oA (Gr.al wr (.cells #[.int .i64 0] 3))) ⟨wr.heap.size, 0, none⟩ 1 1 ([(0 : Int)].map (fun n => Value.int .i64 n)) rfl rfl (cell_news _ _ _) (ints_one _) k1 k2 kb _ _ _ (owns_keep oB (Gr.al wr (.cells #[.int .i64 0] 3))) hap ?_; intro sv Z hA2 hgr hR2 hap2)
              go_roundw
              case rel =>
                have gZ := (gJ.tr (Gr.al wr (.cells #[.int .i64 0] 3))).grown' (owns_keep oA (Gr.al wr _)) (by omega) hgr
                refine Lib.hid ⟨j + 1, by omega, by go_num, gZ, ?_, hR2, hap2⟩
                rw [List.replicate_succ', ← List.append_assoc, flat_snoc]
                exact hA2
              case measure => simp [intOf]; omega
            · obtain rfl : M = j := by omega
              clear hlt hj
              have hGl : (L ++ List.replicate M 0).length = m + M := by rw [List.length_append, List.length_replicate, hLm]
              have hGB : Hid (∀ r ∈ L ++ List.replicate M 0, 0 ≤ r ∧ r ≤ 100000) := Lib.hid (fun r hr' => by
                rcases List.mem_append.1 hr' with h | h
                · exact HLB.out r h
                · obtain ⟨_, rfl⟩ := List.mem_replicate.1 h
                  omega)
              obtain ⟨sg, hsg⟩ : ∃ s, stateL (n : Int) r1 r2 ba (truthsL n off (L ++ List.replicate M 0)) = s := ⟨_, rfl⟩
              have hPg : 0 ≤ N2 → sg = 2 := fun h => by rw [← hsg, ← hM]; exact HN2.out.1 h
              have HSG := Lib.hid hsg
              clear hsg
              by_cases hneg : N2 < 0
              · obtain ⟨F, hF⟩ : ∃ F : Nat, n - m = F := ⟨_, rfl⟩
                have y1 : decide (N2 < 0) = true := by simpa using hneg
                have y2 : IntKind.i64.wrap (N2 - 1) = N2 - 1 := IntWalk.i64_in _ (by omega)
                go_wp2
                clear y1 y2
                go_loopw [23, 20] (fun i s wq => Hid (∃ j : Nat, j ≤ F ∧ i = .int .i64 j ∧ Gr V wq ∧ wq.ownsRow B0 3 1 s (m + j) ((L ++ anyL Q 0 j).flatMap encI) ∧ wq.ownsRow B0 3 1 u19 (m + M) ((L ++ List.replicate M 0).flatMap encI) ∧ Apart s u19)) (fun i s wq => F - (intOf i).toNat)
                case atStart => exact Lib.hid ⟨0, Nat.zero_le _, rfl, gJ, (by simpa [anyL] using oB), oA, hap.symm⟩
                case round =>
                  clear gJ oA oB hap
                  obtain ⟨j, hj, rfl, gJ, oB, oA, hap⟩ := hrel.out
                  clear hrel
                  by_cases hlt : (j : Int) < ((n : Int) - (m : Int))
                  · have k1 : m + j + 1 ≤ maxLen := by unfold maxLen; omega
                    have k2 : (m + j + 1) * 8 ≤ 140737488355328 := by omega
                    have kb : ∀ z : Int, B0 ≤ (wr.alloc (.cells #[.int .i64 z] 3)).heap.size := fun z => by have := (gJ.tr (Gr.al wr (.cells #[.int .i64 z] 3))).size; omega
                    by_cases hq : j < Q.length
                    · obtain ⟨x, hx⟩ : ∃ x, Q[j]? = some x := ⟨Q[j], by simp [hq]⟩
                      have hx1 := HQ.out x (List.mem_of_getElem? hx)
                      obtain ⟨qb, qo, rfl, hqb, cq⟩ := HRow.get (rQ.grow (gT.tr gJ)) hx
                      have HAT := Lib.hid (show anyAt Q 0 j = x by unfold anyAt; rw [hx])
                      have y1 : IntKind.i64.wrap x = x := IntWalk.i64_in _ (by omega)
                      clear hx
                      go_wp2_with (at_builtin; refine wpList_append_sep _ rfl _ _ 24 rfl B0 3 i0 (.int .i64 0) 1 8 Try.underlying24 hi hz0 hz1 hz2 rfl (by decide) _ _ _ rfl (owns_keep oB (Gr.al wr (.cells #[.int .i64 x] 3))) ⟨wr.heap.size, 0, none⟩ 1 1 ([(x : Int)].map (fun n => Value.int .i64 n)) rfl rfl (cell_news _ _ _) (ints_one _) k1 k2 (kb x) _ _ _ (owns_keep oA (Gr.al wr (.cells #[.int .i64 x] 3))) hap ?_; intro sv Z hA2 hgr hR2 hap2)
                      go_roundw
                      case rel =>
                        have gZ := (gJ.tr (Gr.al wr (.cells #[.int .i64 x] 3))).grown' (owns_keep oB (Gr.al wr _)) (by omega) hgr
                        have hA3 : Z.ownsRow B0 3 1 sv (m + (j + 1)) ((L ++ anyL Q 0 (j + 1)).flatMap encI) := by
                          rw [anyL_succ, ← List.append_assoc, flat_snoc, HAT.out]
                          exact hA2
                        exact Lib.hid ⟨j + 1, by omega, by go_num, gZ, hA3, hR2, hap2⟩
                      case measure => simp [intOf]; omega
                    · have HAT := Lib.hid (show anyAt Q 0 j = 0 by unfold anyAt; rw [List.getElem?_eq_none (by omega)])
                      go_wp2_with (at_builtin; refine wpList_append_sep _ rfl _ _ 24 rfl B0 3 i0 (.int .i64 0) 1 8 Try.underlying24 hi hz0 hz1 hz2 rfl (by decide) _ _ _ rfl (owns_keep oB (Gr.al wr (.cells #[.int .i64 0] 3))) ⟨wr.heap.size, 0, none⟩ 1 1 ([(0 : Int)].map (fun n => Value.int .i64 n)) rfl rfl (cell_news _ _ _) (ints_one _) k1 k2 (kb 0) _ _ _ (owns_keep oA (Gr.al wr (.cells #[.int .i64 0] 3))) hap ?_; intro sv Z hA2 hgr hR2 hap2)
                      go_roundw
                      case rel =>
                        have gZ := (gJ.tr (Gr.al wr (.cells #[.int .i64 0] 3))).grown' (owns_keep oB (Gr.al wr _)) (by omega) hgr
                        have hA3 : Z.ownsRow B0 3 1 sv (m + (j + 1)) ((L ++ anyL Q 0 (j + 1)).flatMap encI) := by
                          rw [anyL_succ, ← List.append_assoc, flat_snoc, HAT.out]
                          exact hA2
                        exact Lib.hid ⟨j + 1, by omega, by go_num, gZ, hA3, hR2, hap2⟩
                      case measure => simp [intOf]; omega
                  · obtain rfl : j = F := by omega
                    have hAl : (L ++ anyL Q 0 j).length = m + j := by rw [List.length_append, anyL_len, hLm]
                    have hAB : Hid (∀ r ∈ L ++ anyL Q 0 j, 0 ≤ r ∧ r ≤ 100000) := Lib.hid (fun r hr' => by
                      rcases List.mem_append.1 hr' with h | h
                      · exact HLB.out r h
                      · exact anyL_bd HQ.out (by omega) (by omega) h)
                    obtain ⟨sa, hsa⟩ : ∃ s, stateL (n : Int) r1 r2 ba (truthsL n off (L ++ anyL Q 0 j)) = s := ⟨_, rfl⟩
                    have hPa : N2 ≠ 0 → sa ≠ 2 := fun h0 he => by
                      rw [he] at hsa
                      have h := few_sure (rd := 0) (by omega) (fun x hx => anyL_bd HQ.out (by omega) (by omega) hx) hsa
                      rw [anyL_len] at h
                      exact HN2.out.2 j (by omega) h
                    have HSA := Lib.hid hsa
                    clear hsa
                    obtain ⟨ga, gc, hvg, rG, hgn, _⟩ := owns_row_cap (enc := encI) (l := L ++ List.replicate M 0) (fun _ => rfl) (by omega) (by rw [hGl]; exact oA)
                    obtain ⟨aa, ac, hva, rA2, han, _⟩ := owns_row_cap (enc := encI) (l := L ++ anyL Q 0 j) (fun _ => rfl) (by omega) (by rw [hAl]; exact oB)
                    rw [hGl] at hvg
                    rw [hAl] at hva
                    subst hvg
                    subst hva
                    have RG := Lib.hid rG
                    have RA := Lib.hid rA2
                    have HGN := Lib.hid hgn
                    have HAN := Lib.hid han
                    have HGL := Lib.hid hGl
                    have HAL := Lib.hid hAl
                    have hbw := hb.keep (gT.tr gJ)
                    obtain ⟨q0, q1, q2, q3⟩ := hbw.c4'
                    clear oA oB hap rG rA2 hgn han hGl hAl hlt
                    have tok0 : True := trivial
                    have kF : m + j ≤ n := by omega
                    have kG : m + M ≤ n := by omega
                    have k3 : decide (0 ≤ N2) = false := by simp; omega
                    have k4 : (N2 != 0) = true := by simp; omega
                    have k5 : (sa == 2) = false := by
                      have := hPa (by omega)
                      simpa using this
                    clear hPa hPg hneg
                    go_wp2_with (first
                      | (have _t := tok0; clear tok0 _t; go_at_call 19; refine (decide_more (L ++ List.replicate M 0) n n1 n2 r1 r2 ba off h1.1 h1.2 h2.1 h2.2 b0 b1 o0 o1 (m + M) HGL.out kG hGB.out sg HSG.out ga gc wr RG.out HGN.out).mono ?_; rintro e wc ⟨rfl, gc1⟩; (obtain ⟨p0, p1, p2, p3⟩ := (hbw.keep gc1).c4'))
                      | (go_at_call 19; refine (decide_more (L ++ anyL Q 0 j) n n1 n2 r1 r2 ba off h1.1 h1.2 h2.1 h2.2 b0 b1 o0 o1 (m + j) HAL.out kF hAB.out sa HSA.out aa ac wc (RA.out.grow gc1) HAN.out).mono ?_; rintro e wd ⟨rfl, gc2⟩))
                    go_roundw
                    case rel => exact Lib.hid ⟨2, .inr (.inr rfl), by go_num, (gT.tr gJ).tr (gc1.tr gc2)⟩
                    case measure => simp [intOf]
              · obtain ⟨F, hF⟩ : ∃ F : Nat, M - 1 = F := ⟨_, rfl⟩
                have y1 : decide (N2 < 0) = false := by simpa using hneg
                have y2 : IntKind.i64.wrap (N2 - 1) = N2 - 1 := IntWalk.i64_in _ (by omega)
                go_wp2
                clear y1 y2
                go_loopw [23, 20] (fun i s wq => Hid (∃ j : Nat, j ≤ F ∧ i = .int .i64 j ∧ Gr V wq ∧ wq.ownsRow B0 3 1 s (m + j) ((L ++ anyL Q 0 j).flatMap encI) ∧ wq.ownsRow B0 3 1 u19 (m + M) ((L ++ List.replicate M 0).flatMap encI) ∧ Apart s u19)) (fun i s wq => F - (intOf i).toNat)
                case atStart => exact Lib.hid ⟨0, Nat.zero_le _, rfl, gJ, (by simpa [anyL] using oB), oA, hap.symm⟩
                case round =>
                  clear gJ oA oB hap
                  obtain ⟨j, hj, rfl, gJ, oB, oA, hap⟩ := hrel.out
                  clear hrel
                  by_cases hlt : (j : Int) < (N2 - 1)
                  · have k1 : m + j + 1 ≤ maxLen := by unfold maxLen; omega
                    have k2 : (m + j + 1) * 8 ≤ 140737488355328 := by omega
                    have kb : ∀ z : Int, B0 ≤ (wr.alloc (.cells #[.int .i64 z] 3)).heap.size := fun z => by have := (gJ.tr (Gr.al wr (.cells #[.int .i64 z] 3))).size; omega
                    by_cases hq : j < Q.length
                    · obtain ⟨x, hx⟩ : ∃ x, Q[j]? = some x := ⟨Q[j], by simp [hq]⟩
                      have hx1 := HQ.out x (List.mem_of_getElem? hx)
                      obtain ⟨qb, qo, rfl, hqb, cq⟩ := HRow.get (rQ.grow (gT.tr gJ)) hx
                      have HAT := Lib.hid (show anyAt Q 0 j = x by unfold anyAt; rw [hx])
                      have y1 : IntKind.i64.wrap x = x := IntWalk.i64_in _ (by omega)
                      clear hx
                      go_wp2_with (at_builtin; refine wpList_append_sep _ rfl _ _ 24 rfl B0 3 i0 (.int .i64 0) 1 8 Try.underlying24 hi hz0 hz1 hz2 rfl (by decide) _ _ _ rfl (owns_keep oB (Gr.al wr (.cells #[.int .i64 x] 3))) ⟨wr.heap.size, 0, none⟩ 1 1 ([(x : Int)].map (fun n => Value.int .i64 n)) rfl rfl (cell_news _ _ _) (ints_one _) k1 k2 (kb x) _ _ _ (owns_keep oA (Gr.al wr (.cells #[.int .i64 x] 3))) hap ?_; intro sv Z hA2 hgr hR2 hap2)
                      go_roundw
                      case rel =>
                        have gZ := (gJ.tr (Gr.al wr (.cells #[.int .i64 x] 3))).grown' (owns_keep oB (Gr.al wr _)) (by omega) hgr
                        have hA3 : Z.ownsRow B0 3 1 sv (m + (j + 1)) ((L ++ anyL Q 0 (j + 1)).flatMap encI) := by
                          rw [anyL_succ, ← List.append_assoc, flat_snoc, HAT.out]
                          exact hA2
                        exact Lib.hid ⟨j + 1, by omega, by go_num, gZ, hA3, hR2, hap2⟩
                      case measure => simp [intOf]; omega
                    · have HAT := Lib.hid (show anyAt Q 0 j = 0 by unfold anyAt; rw [List.getElem?_eq_none (by omega)])
                      go_wp2_with (at_builtin; refine wpList_append_sep _ rfl _ _ 24 rfl B0 3 i0 (.int .i64 0) 1 8 Try.underlying24 hi hz0 hz1 hz2 rfl (by decide) _ _ _ rfl (owns_keep oB (Gr.al wr (.cells #[.int .i64 0] 3))) ⟨wr.heap.size, 0, none⟩ 1 1 ([(0 : Int)].map (fun n => Value.int .i64 n)) rfl rfl (cell_news _ _ _) (ints_one _) k1 k2 (kb 0) _ _ _ (owns_keep oA (Gr.al wr (.cells #[.int .i64 0] 3))) hap ?_; intro sv Z hA2 hgr hR2 hap2)
                      go_roundw
                      case rel =>
                        have gZ := (gJ.tr (Gr.al wr (.cells #[.int .i64 0] 3))).grown' (owns_keep oB (Gr.al wr _)) (by omega) hgr
                        have hA3 : Z.ownsRow B0 3 1 sv (m + (j + 1)) ((L ++ anyL Q 0 (j + 1)).flatMap encI) := by
                          rw [anyL_succ, ← List.append_assoc, flat_snoc, HAT.out]
                          exact hA2
                        exact Lib.hid ⟨j + 1, by omega, by go_num, gZ, hA3, hR2, hap2⟩
                      case measure => simp [intOf]; omega
                  · obtain rfl : j = F := by omega
                    have hAl : (L ++ anyL Q 0 j).length = m + j := by rw [List.length_append, anyL_len, hLm]
                    have hAB : Hid (∀ r ∈ L ++ anyL Q 0 j, 0 ≤ r ∧ r ≤ 100000) := Lib.hid (fun r hr' => by
                      rcases List.mem_append.1 hr' with h | h
                      · exact HLB.out r h
                      · exact anyL_bd HQ.out (by omega) (by omega) h)
                    obtain ⟨sa, hsa⟩ : ∃ s, stateL (n : Int) r1 r2 ba (truthsL n off (L ++ anyL Q 0 j)) = s := ⟨_, rfl⟩
                    have hPa : N2 ≠ 0 → sa ≠ 2 := fun h0 he => by
                      rw [he] at hsa
                      have h := few_sure (rd := 0) (by omega) (fun x hx => anyL_bd HQ.out (by omega) (by omega) hx) hsa
                      rw [anyL_len] at h
                      exact HN2.out.2 j (by omega) h
                    have HSA := Lib.hid hsa
                    clear hsa
                    obtain ⟨ga, gc, hvg, rG, hgn, _⟩ := owns_row_cap (enc := encI) (l := L ++ List.replicate M 0) (fun _ => rfl) (by omega) (by rw [hGl]; exact oA)
                    obtain ⟨aa, ac, hva, rA2, han, _⟩ := owns_row_cap (enc := encI) (l := L ++ anyL Q 0 j) (fun _ => rfl) (by omega) (by rw [hAl]; exact oB)
                    rw [hGl] at hvg
                    rw [hAl] at hva
                    subst hvg
                    subst hva
                    have RG := Lib.hid rG
                    have RA := Lib.hid rA2
                    have HGN := Lib.hid hgn
                    have HAN := Lib.hid han
                    have HGL := Lib.hid hGl
                    have HAL := Lib.hid hAl
                    have hbw := hb.keep (gT.tr gJ)
                    obtain ⟨q0, q1, q2, q3⟩ := hbw.c4'
                    clear oA oB hap rG rA2 hgn han hGl hAl hlt
                    have tok0 : True := trivial
                    have kF : m + j ≤ n := by omega
                    have kG : m + M ≤ n := by omega
                    have k3 : decide (0 ≤ N2) = true := by simp; omega
                    obtain rfl : sg = 2 := hPg (by omega)
                    by_cases h00 : N2 = 0
                    · have k4 : (N2 != 0) = false := by simpa using h00
                      clear hPa hPg hneg h00
                      go_wp2_with (first
                        | (have _t := tok0; clear tok0 _t; go_at_call 19; refine (decide_more (L ++ List.replicate M 0) n n1 n2 r1 r2 ba off h1.1 h1.2 h2.1 h2.2 b0 b1 o0 o1 (m + M) HGL.out kG hGB.out 2 HSG.out ga gc wr RG.out HGN.out).mono ?_; rintro e wc ⟨rfl, gc1⟩; (obtain ⟨p0, p1, p2, p3⟩ := (hbw.keep gc1).c4'))
                        | (go_at_call 19; refine (decide_more (L ++ anyL Q 0 j) n n1 n2 r1 r2 ba off h1.1 h1.2 h2.1 h2.2 b0 b1 o0 o1 (m + j) HAL.out kF hAB.out sa HSA.out aa ac wc (RA.out.grow gc1) HAN.out).mono ?_; rintro e wd ⟨rfl, gc2⟩))
                      go_roundw
                      case rel => exact Lib.hid ⟨2, .inr (.inr rfl), by go_num, (gT.tr gJ).tr (gc1.tr gc2)⟩
                      case measure => simp [intOf]
                    · have k4 : (N2 != 0) = true := by simpa using h00
                      have k5 : (sa == 2) = false := by
                        have := hPa (by omega)
                        simpa using this
                      clear hPa hPg hneg h00
                      go_wp2_with (first
                        | (have _t := tok0; clear tok0 _t; go_at_call 19; refine (decide_more (L ++ List.replicate M 0) n n1 n2 r1 r2 ba off h1.1 h1.2 h2.1 h2.2 b0 b1 o0 o1 (m + M) HGL.out kG hGB.out 2 HSG.out ga gc wr RG.out HGN.out).mono ?_; rintro e wc ⟨rfl, gc1⟩; (obtain ⟨p0, p1, p2, p3⟩ := (hbw.keep gc1).c4'))
                        | (go_at_call 19; refine (decide_more (L ++ anyL Q 0 j) n n1 n2 r1 r2 ba off h1.1 h1.2 h2.1 h2.2 b0 b1 o0 o1 (m + j) HAL.out kF hAB.out sa HSA.out aa ac wc (RA.out.grow gc1) HAN.out).mono ?_; rintro e wd ⟨rfl, gc2⟩))
                      go_roundw
                      case rel => exact Lib.hid ⟨2, .inr (.inr rfl), by go_num, (gT.tr gJ).tr (gc1.tr gc2)⟩
                      case measure => simp [intOf]
        · go_wp2_with (go_at_call 16; refine (known_any _).mono ?_; rintro e w6 ⟨rfl, g6⟩)
          go_ret
          exact ⟨rfl, (gV.tr gW).tr g6⟩

end Go.Proofs.Ytkfhmfidgdpeiaa
