/- CrushSure's own body. (Made by gen_d6.py.) -/
import Derived.Test.YtkfhmfidgdpeiaaQd
import Derived.Test.YtkfhmfidgdpeiaaI33
import Derived.Test.YtkfhmfidgdpeiaaR5
import Derived.Lib.MinMax
import Derived.Deep.CutRange
import Derived.Deep.MidRow
namespace Go.Proofs.Ytkfhmfidgdpeiaa
set_option linter.unusedVariables false
set_option linter.unusedSimpArgs false
open Go.RowKit

set_option maxRecDepth 100000 in
set_option maxHeartbeats 8000000 in
theorem crushSure_any (r0 r1 r2 r3 of : Int) (T : List V2) (hT : ∀ v ∈ T, B2 v) (h0 : 0 ≤ r0 ∧ r0 ≤ 255) (h1 : 0 ≤ r1 ∧ r1 ≤ 255) (h2 : 0 ≤ r2 ∧ r2 ≤ 255) (h3 : 0 ≤ r3 ∧ r3 ≤ 255) (h4 : 0 ≤ of ∧ of ≤ 255) (ta : Option Addr) (tc : Nat) (w : World) (rt : Row2 w ta T) :
    Calls Try.prog 9 #[.agg #[.int .u8 r0, .int .u8 r1, .int .u8 r2, .int .u8 r3, .int .u8 of, .slice ta T.length tc]] w fun e w' => e = .returned (.bool true) ∧ Gr w w' := by
  obtain ⟨n, hn⟩ : ∃ n : Nat, 1 + r0 % 8 = (n : Int) := ⟨(1 + r0 % 8).toNat, by omega⟩
  obtain ⟨ba, hba⟩ : ∃ ba, r3 % ((n : Int) + 1) = ba := ⟨_, rfl⟩
  obtain ⟨off, hoff⟩ : ∃ off, of % 40 = off := ⟨_, rfl⟩
  have n1 : 1 ≤ n := by omega
  have n2 : n ≤ 8 := by omega
  have o0 : 0 ≤ off := by omega
  have o1 : off ≤ 39 := by omega
  have b0 : 0 ≤ ba := by rw [← hba]; exact Int.emod_nonneg _ (by omega)
  have b1 : ba ≤ (n : Int) := by have : ba < (n : Int) + 1 := by (rw [← hba]; exact Int.emod_lt_of_pos _ (by omega))
                                 omega
  have gg := Gr.al w (.cells #[.int .u8 r0, .int .u8 r1, .int .u8 r2, .int .u8 r3, .int .u8 of, .slice ta T.length tc] 83)
  have hx := Box.new w [.int .u8 r0, .int .u8 r1, .int .u8 r2, .int .u8 r3, .int .u8 of, .slice ta T.length tc] 83 w.heap.size rfl
  have HT := Lib.hid hT
  have HS := Lib.hid (sure_at T hT n r1 r2 ba off o0 o1)
  clear hT
  go_enter Try.func9, Try.ntmps9
  go_upto_region 1 with fail
  refine wp_abs (fun U => Gr w U ∧ Box U w.heap.size [.int .u8 r0, .int .u8 r1, .int .u8 r2, .int .u8 r3, .int .u8 of, .slice ta T.length tc]) ⟨gg, hx⟩ ?_
  clear gg hx
  rintro U ⟨gg, hx⟩
  obtain ⟨q0, q1, q2, q3, q4, q5⟩ := hx.c6
  go_upto_region 2 with (go_at_call 49; refine (lot_any r0 r1 r2 r3 of T HT.out h0 h1 h2 h3 h4 n hn ba hba off hoff ta tc _ (rt.grow gg)).mono ?_; rintro e w1 ⟨A, Ao, R, Ro, c, d, rfl, rA, rR, hc, hd, g1⟩)
  clear q0 q1 q2 q3 q4 q5 hx
  obtain ⟨D, hD⟩ : ∃ D, D = w1.heap.size := ⟨_, rfl⟩
  have gX := (gg.tr g1).tr (Gr.al w1 (.cells #[.int .i64 (n : Int), .int .i64 r1, .int .i64 r2, .int .i64 ba] 23))
  have hr := Box.new w1 [.int .i64 (n : Int), .int .i64 r1, .int .i64 r2, .int .i64 ba] 23 D hD
  rw [← hD]
  refine wp_abs (fun X => Gr w X ∧ Box X D [.int .i64 (n : Int), .int .i64 r1, .int .i64 r2, .int .i64 ba] ∧ IRow X (some ⟨A, Ao, none⟩) (lotTru T n) ∧ IRow X (some ⟨R, Ro, none⟩) (lotRea T off n)) ⟨gX, hr, rA.grow (Gr.al _ _), rR.grow (Gr.al _ _)⟩ ?_
  clear gX hr rA rR hD gg g1 h0 h3 h4 hn hba hoff
  rintro X ⟨gX, hr, rA, rR⟩
  have hlR := lotRea_len T off n
  have hlA := lotTru_len T n
  go_upto_region 3 with fail
  refine (show (∀ s : Nat → Value, Code.wp Try.prog _ _ ⟨#[s 0, .pointer (some ⟨w.heap.size, 0, none⟩), .bool false, .pointer (some ⟨D, 0, none⟩), .int .i64 off, .slice (some ⟨A, Ao, none⟩) n c, .slice (some ⟨R, Ro, none⟩) n d, .int .i64 3, undef, undef, undef, undef, undef, s 13, s 14, s 15, s 16, s 17, s 18, s 19, undef, undef, undef, undef, undef, undef, undef, undef, undef, undef, undef, undef, undef, undef, undef, undef, undef, undef, undef, undef, undef, undef, undef, undef, undef, undef, undef, undef, undef, undef, undef, undef, undef, undef, undef, undef, undef, undef, undef, undef, undef, undef, undef, undef, undef, undef, undef, undef, undef, undef, undef, undef, undef, undef, undef, undef, undef, undef, undef, undef, undef, undef, undef, undef, undef, undef, undef, undef, undef, undef, undef, undef], []⟩ _) → _ from fun h => h ((fun l : List Value => fun i => l.getD i undef) [_, undef, undef, undef, undef, undef, undef, undef, undef, undef, undef, undef, undef, _, _, _, _, _, _, _])) ?_
  intro s
  dsimp only
  go_wp2
  go_loopw [8, 7] (fun i q wr => Hid (∃ k : Nat, k ≤ n + 1 ∧ i = .int .i64 k ∧ Gr X wr ∧ ∃ u : Int, q = .int .i64 u ∧ (u = 3 ∨ u = stK T n r1 r2 ba off k))) (fun i q wr => n + 1 - (intOf i).toNat)
  case atStart => exact Lib.hid ⟨0, Nat.zero_le _, rfl, Below.refl _ _, 3, rfl, .inl rfl⟩
  case round =>
    obtain ⟨k, hk, rfl, gW, was, rfl, hwas⟩ := hrel.out
    clear hrel
    have hbr := hr.keep gW
    obtain ⟨q0, q1, q2, q3⟩ := hbr.c4'
    by_cases hlt : k ≤ n
    · have hkd : k ≤ d := by omega
      go_upto_region 6 with fail
      refine (show (∀ y : Nat → Value, Code.wp Try.prog _ _ ⟨#[s 0, .pointer (some ⟨w.heap.size, 0, none⟩), y 2, .pointer (some ⟨D, 0, none⟩), .int .i64 off, .slice (some ⟨A, Ao, none⟩) n c, .slice (some ⟨R, Ro, none⟩) n d, .int .i64 was, .int .i64 (k : Int), y 9, y 10, undef, undef, s 13, s 14, s 15, s 16, s 17, s 18, s 19, y 20, y 21, y 22, y 23, y 24, y 25, y 26, y 27, y 28, y 29, y 30, y 31, y 32, y 33, y 34, y 35, y 36, y 37, y 38, y 39, y 40, y 41, y 42, y 43, y 44, y 45, y 46, y 47, y 48, y 49, y 50, y 51, y 52, y 53, y 54, y 55, y 56, y 57, y 58, y 59, y 60, y 61, y 62, y 63, y 64, y 65, y 66, y 67, undef, undef, undef, undef, undef, undef, undef, undef, undef, undef, undef, undef, undef, undef, undef, undef, undef, undef, undef, undef, undef, undef, undef, undef], []⟩ _) → _ from fun h => h ((fun l : List Value => fun i => l.getD i undef) [undef, undef, _, undef, undef, undef, undef, undef, undef, _, _, undef, undef, undef, undef, undef, undef, undef, undef, undef, _, _, _, _, _, _, _, _, _, _, _, _, _, _, _, _, _, _, _, _, _, _, _, _, _, _, _, _, _, _, _, _, _, _, _, _, _, _, _, _, _, _, _, _, _, _, _, _])) ?_
      intro y
      dsimp only
      refine wp_region_facts 11 [(3, 1), (3, 2), (4, 3), (6, 0), (6, 4), (6, 5), (7, 6), (8, 7), (9, 7), (10, 8)] (fun x => ⟨#[s 0, .pointer (some ⟨w.heap.size, 0, none⟩), y 2, .pointer (some ⟨D, 0, none⟩), .int .i64 off, .slice (some ⟨A, Ao, none⟩) n c, .slice (some ⟨R, Ro, none⟩) n d, .int .i64 was, .int .i64 (k : Int), x 10, y 10, undef, undef, s 13, s 14, s 15, s 16, s 17, s 18, s 19, y 20, y 21, y 22, y 23, y 24, y 25, x 7, x 0, x 1, x 2, x 3, x 4, x 5, x 6, x 8, x 9, y 36, y 37, y 38, y 39, y 40, y 41, y 42, y 43, y 44, y 45, y 46, y 47, y 48, y 49, y 50, y 51, y 52, y 53, y 54, y 55, y 56, y 57, y 58, y 59, y 60, y 61, y 62, y 63, y 64, y 65, y 66, y 67, undef, undef, undef, undef, undef, undef, undef, undef, undef, undef, undef, undef, undef, undef, undef, undef, undef, undef, undef, undef, undef, undef, undef, undef], []⟩) (fun i => [y 27, y 28, y 29, y 30, y 31, y 32, y 33, y 26, y 34, y 35, y 9].getD i undef) [fun _ x => x = .agg #[.int .i64 (n : Int), .int .i64 r1, .int .i64 r2, .int .i64 ba], fun _ x => x = .slice (some ⟨R, Ro, none⟩) n d, fun _ x => x = .int .i64 (k : Int), fun _ x => x = .slice (some ⟨R, Ro, none⟩) k d, fun v x => ∃ a c, x = .slice a k c ∧ IRow v a ((lotRea T off n).take k) ∧ (a = none → c = 0), fun _ x => x = .int .i64 off, fun _ x => x = .tuple #[.int .i64 (stK T n r1 r2 ba off k), .int .i64 0], fun _ x => x = .tuple #[.int .i64 (stK T n r1 r2 ba off k), .int .i64 0], fun _ x => x = .int .i64 (stK T n r1 r2 ba off k), fun _ x => x = .int .i64 0, fun _ x => x = .int .i64 (stK T n r1 r2 ba off k)] (by rfl) (by kernel_rfl) (by kernel_rfl) (by kernel_rfl) (stays_cons (Stays.eq _) (stays_cons (Stays.eq _) (stays_cons (Stays.eq _) (stays_cons (Stays.eq _) (stays_cons ((show Stays (fun v x => ∃ a c, x = .slice a k c ∧ IRow v a ((lotRea T off n).take k) ∧ (a = none → c = 0)) from fun v v' x g ⟨a, c, h, r, k⟩ => ⟨a, c, h, r.grow g, k⟩)) (stays_cons (Stays.eq _) (stays_cons (Stays.eq _) (stays_cons (Stays.eq _) (stays_cons (Stays.eq _) (stays_cons (Stays.eq _) (stays_cons (Stays.eq _) stays_nil))))))))))) ?step6 ?fin6
      case step6 =>
        rintro i hi x v gv hd K hK
        have hi8 : i = 0 ∨ i = 1 ∨ i = 2 ∨ i = 3 ∨ i = 4 ∨ i = 5 ∨ i = 6 ∨ i = 7 ∨ i = 8 ∨ i = 9 ∨ i = 10 := by omega
        rcases hi8 with rfl | rfl | rfl | rfl | rfl | rfl | rfl | rfl | rfl | rfl | rfl
        · show wpOp Try.prog _ _ 0 K (⟨#[s 0, .pointer (some ⟨w.heap.size, 0, none⟩), y 2, .pointer (some ⟨D, 0, none⟩), .int .i64 off, .slice (some ⟨A, Ao, none⟩) n c, .slice (some ⟨R, Ro, none⟩) n d, .int .i64 was, .int .i64 (k : Int), x 10, y 10, undef, undef, s 13, s 14, s 15, s 16, s 17, s 18, s 19, y 20, y 21, y 22, y 23, y 24, y 25, x 7, x 0, x 1, x 2, x 3, x 4, x 5, x 6, x 8, x 9, y 36, y 37, y 38, y 39, y 40, y 41, y 42, y 43, y 44, y 45, y 46, y 47, y 48, y 49, y 50, y 51, y 52, y 53, y 54, y 55, y 56, y 57, y 58, y 59, y 60, y 61, y 62, y 63, y 64, y 65, y 66, y 67, undef, undef, undef, undef, undef, undef, undef, undef, undef, undef, undef, undef, undef, undef, undef, undef, undef, undef, undef, undef, undef, undef, undef, undef], []⟩ : Act) v
          refine wpOp_step rfl (fun K' hK' => ?_)
          rw [if_pos (by rfl)]
          refine wp_load_mid 23 _ rfl D 0 (by rfl) [.int .i64 (n : Int), .int .i64 r1, .int .i64 r2, .int .i64 ba] _ (fun j u hu => by rw [Nat.zero_add]; exact (hbr.keep gv).2 j u hu) Try.underlying23 rfl (by kernel_rfl) ?_
          exact hK' _ _ (hK _ _ (Below.refl _ _) (at_of rfl (rfl)))
        · show wpOp Try.prog _ _ 1 K (⟨#[s 0, .pointer (some ⟨w.heap.size, 0, none⟩), y 2, .pointer (some ⟨D, 0, none⟩), .int .i64 off, .slice (some ⟨A, Ao, none⟩) n c, .slice (some ⟨R, Ro, none⟩) n d, .int .i64 was, .int .i64 (k : Int), x 10, y 10, undef, undef, s 13, s 14, s 15, s 16, s 17, s 18, s 19, y 20, y 21, y 22, y 23, y 24, y 25, x 7, x 0, x 1, x 2, x 3, x 4, x 5, x 6, x 8, x 9, y 36, y 37, y 38, y 39, y 40, y 41, y 42, y 43, y 44, y 45, y 46, y 47, y 48, y 49, y 50, y 51, y 52, y 53, y 54, y 55, y 56, y 57, y 58, y 59, y 60, y 61, y 62, y 63, y 64, y 65, y 66, y 67, undef, undef, undef, undef, undef, undef, undef, undef, undef, undef, undef, undef, undef, undef, undef, undef, undef, undef, undef, undef, undef, undef, undef, undef], []⟩ : Act) v
          refine wpOp_step rfl (fun K' hK' => ?_)
          go_simp
          exact hK' _ _ (hK _ _ (Below.refl _ _) (at_of rfl (rfl)))
        · show wpOp Try.prog _ _ 2 K (⟨#[s 0, .pointer (some ⟨w.heap.size, 0, none⟩), y 2, .pointer (some ⟨D, 0, none⟩), .int .i64 off, .slice (some ⟨A, Ao, none⟩) n c, .slice (some ⟨R, Ro, none⟩) n d, .int .i64 was, .int .i64 (k : Int), x 10, y 10, undef, undef, s 13, s 14, s 15, s 16, s 17, s 18, s 19, y 20, y 21, y 22, y 23, y 24, y 25, x 7, x 0, x 1, x 2, x 3, x 4, x 5, x 6, x 8, x 9, y 36, y 37, y 38, y 39, y 40, y 41, y 42, y 43, y 44, y 45, y 46, y 47, y 48, y 49, y 50, y 51, y 52, y 53, y 54, y 55, y 56, y 57, y 58, y 59, y 60, y 61, y 62, y 63, y 64, y 65, y 66, y 67, undef, undef, undef, undef, undef, undef, undef, undef, undef, undef, undef, undef, undef, undef, undef, undef, undef, undef, undef, undef, undef, undef, undef, undef], []⟩ : Act) v
          refine wpOp_step rfl (fun K' hK' => ?_)
          go_simp
          exact hK' _ _ (hK _ _ (Below.refl _ _) (at_of rfl (rfl)))
        · obtain ⟨x, rfl⟩ := upd_of (show x 1 = .slice (some ⟨R, Ro, none⟩) n d from hd 1 _ (by simp) rfl)
          obtain ⟨x, rfl⟩ := upd_of (show x 2 = .int .i64 (k : Int) from hd 2 _ (by simp) rfl)
          show wpOp Try.prog _ _ 3 K (⟨#[s 0, .pointer (some ⟨w.heap.size, 0, none⟩), y 2, .pointer (some ⟨D, 0, none⟩), .int .i64 off, .slice (some ⟨A, Ao, none⟩) n c, .slice (some ⟨R, Ro, none⟩) n d, .int .i64 was, .int .i64 (k : Int), x 10, y 10, undef, undef, s 13, s 14, s 15, s 16, s 17, s 18, s 19, y 20, y 21, y 22, y 23, y 24, y 25, x 7, x 0, .slice (some ⟨R, Ro, none⟩) n d, .int .i64 (k : Int), x 3, x 4, x 5, x 6, x 8, x 9, y 36, y 37, y 38, y 39, y 40, y 41, y 42, y 43, y 44, y 45, y 46, y 47, y 48, y 49, y 50, y 51, y 52, y 53, y 54, y 55, y 56, y 57, y 58, y 59, y 60, y 61, y 62, y 63, y 64, y 65, y 66, y 67, undef, undef, undef, undef, undef, undef, undef, undef, undef, undef, undef, undef, undef, undef, undef, undef, undef, undef, undef, undef, undef, undef, undef, undef], []⟩ : Act) v
          refine wpOp_step rfl (fun K' hK' => ?_)
          go_simp
          exact hK' _ _ (hK _ _ (Below.refl _ _) (at_of rfl (rfl)))
        · obtain ⟨x, rfl⟩ := upd_of (show x 3 = .slice (some ⟨R, Ro, none⟩) k d from hd 3 _ (by simp) rfl)
          show wpOp Try.prog _ _ 4 K (⟨#[s 0, .pointer (some ⟨w.heap.size, 0, none⟩), y 2, .pointer (some ⟨D, 0, none⟩), .int .i64 off, .slice (some ⟨A, Ao, none⟩) n c, .slice (some ⟨R, Ro, none⟩) n d, .int .i64 was, .int .i64 (k : Int), x 10, y 10, undef, undef, s 13, s 14, s 15, s 16, s 17, s 18, s 19, y 20, y 21, y 22, y 23, y 24, y 25, x 7, x 0, x 1, x 2, .slice (some ⟨R, Ro, none⟩) k d, x 4, x 5, x 6, x 8, x 9, y 36, y 37, y 38, y 39, y 40, y 41, y 42, y 43, y 44, y 45, y 46, y 47, y 48, y 49, y 50, y 51, y 52, y 53, y 54, y 55, y 56, y 57, y 58, y 59, y 60, y 61, y 62, y 63, y 64, y 65, y 66, y 67, undef, undef, undef, undef, undef, undef, undef, undef, undef, undef, undef, undef, undef, undef, undef, undef, undef, undef, undef, undef, undef, undef, undef, undef], []⟩ : Act) v
          refine wpOp_step rfl (fun K' hK' => ?_)
          go_simp
          refine (lints_at (lotRea T off n) k (by omega) (by omega) R Ro d v (rR.grow (gW.tr gv))).mono ?_
          rintro e v' ⟨a, c, rfl, hr2, hn2, _, hg⟩
          exact hK' _ _ (hK _ _ hg (at_of rfl (⟨_, _, rfl, hr2, hn2⟩)))
        · show wpOp Try.prog _ _ 5 K (⟨#[s 0, .pointer (some ⟨w.heap.size, 0, none⟩), y 2, .pointer (some ⟨D, 0, none⟩), .int .i64 off, .slice (some ⟨A, Ao, none⟩) n c, .slice (some ⟨R, Ro, none⟩) n d, .int .i64 was, .int .i64 (k : Int), x 10, y 10, undef, undef, s 13, s 14, s 15, s 16, s 17, s 18, s 19, y 20, y 21, y 22, y 23, y 24, y 25, x 7, x 0, x 1, x 2, x 3, x 4, x 5, x 6, x 8, x 9, y 36, y 37, y 38, y 39, y 40, y 41, y 42, y 43, y 44, y 45, y 46, y 47, y 48, y 49, y 50, y 51, y 52, y 53, y 54, y 55, y 56, y 57, y 58, y 59, y 60, y 61, y 62, y 63, y 64, y 65, y 66, y 67, undef, undef, undef, undef, undef, undef, undef, undef, undef, undef, undef, undef, undef, undef, undef, undef, undef, undef, undef, undef, undef, undef, undef, undef], []⟩ : Act) v
          refine wpOp_step rfl (fun K' hK' => ?_)
          go_simp
          exact hK' _ _ (hK _ _ (Below.refl _ _) (at_of rfl (rfl)))
        · obtain ⟨x, rfl⟩ := upd_of (show x 0 = .agg #[.int .i64 (n : Int), .int .i64 r1, .int .i64 r2, .int .i64 ba] from hd 0 _ (by simp) rfl)
          obtain ⟨a2, c2, e4, rr2, m2⟩ := hd 4 _ (by simp) rfl
          obtain ⟨x, rfl⟩ := upd_of (show x 4 = .slice a2 k c2 from e4)
          obtain ⟨x, rfl⟩ := upd_of (show x 5 = .int .i64 off from hd 5 _ (by simp) rfl)
          show wpOp Try.prog _ _ 6 K (⟨#[s 0, .pointer (some ⟨w.heap.size, 0, none⟩), y 2, .pointer (some ⟨D, 0, none⟩), .int .i64 off, .slice (some ⟨A, Ao, none⟩) n c, .slice (some ⟨R, Ro, none⟩) n d, .int .i64 was, .int .i64 (k : Int), x 10, y 10, undef, undef, s 13, s 14, s 15, s 16, s 17, s 18, s 19, y 20, y 21, y 22, y 23, y 24, y 25, x 7, .agg #[.int .i64 (n : Int), .int .i64 r1, .int .i64 r2, .int .i64 ba], x 1, x 2, x 3, .slice a2 k c2, .int .i64 off, x 6, x 8, x 9, y 36, y 37, y 38, y 39, y 40, y 41, y 42, y 43, y 44, y 45, y 46, y 47, y 48, y 49, y 50, y 51, y 52, y 53, y 54, y 55, y 56, y 57, y 58, y 59, y 60, y 61, y 62, y 63, y 64, y 65, y 66, y 67, undef, undef, undef, undef, undef, undef, undef, undef, undef, undef, undef, undef, undef, undef, undef, undef, undef, undef, undef, undef, undef, undef, undef, undef], []⟩ : Act) v
          refine wpOp_step rfl (fun K' hK' => ?_)
          go_simp
          refine (decide_at T HT.out n n1 n2 r1 r2 ba off h1.1 h1.2 h2.1 h2.2 b0 b1 o0 o1 k hlt a2 c2 v rr2 m2).mono ?_
          rintro e v' ⟨rfl, hg⟩
          exact hK' _ _ (hK _ _ hg (at_of rfl (rfl)))
        · obtain ⟨x, rfl⟩ := upd_of (show x 6 = .tuple #[.int .i64 (stK T n r1 r2 ba off k), .int .i64 0] from hd 6 _ (by simp) rfl)
          show wpOp Try.prog _ _ 7 K (⟨#[s 0, .pointer (some ⟨w.heap.size, 0, none⟩), y 2, .pointer (some ⟨D, 0, none⟩), .int .i64 off, .slice (some ⟨A, Ao, none⟩) n c, .slice (some ⟨R, Ro, none⟩) n d, .int .i64 was, .int .i64 (k : Int), x 10, y 10, undef, undef, s 13, s 14, s 15, s 16, s 17, s 18, s 19, y 20, y 21, y 22, y 23, y 24, y 25, x 7, x 0, x 1, x 2, x 3, x 4, x 5, .tuple #[.int .i64 (stK T n r1 r2 ba off k), .int .i64 0], x 8, x 9, y 36, y 37, y 38, y 39, y 40, y 41, y 42, y 43, y 44, y 45, y 46, y 47, y 48, y 49, y 50, y 51, y 52, y 53, y 54, y 55, y 56, y 57, y 58, y 59, y 60, y 61, y 62, y 63, y 64, y 65, y 66, y 67, undef, undef, undef, undef, undef, undef, undef, undef, undef, undef, undef, undef, undef, undef, undef, undef, undef, undef, undef, undef, undef, undef, undef, undef], []⟩ : Act) v
          refine wpOp_step rfl (fun K' hK' => ?_)
          go_simp
          exact hK' _ _ (hK _ _ (Below.refl _ _) (at_of rfl (rfl)))
        · obtain ⟨x, rfl⟩ := upd_of (show x 7 = .tuple #[.int .i64 (stK T n r1 r2 ba off k), .int .i64 0] from hd 7 _ (by simp) rfl)
          show wpOp Try.prog _ _ 8 K (⟨#[s 0, .pointer (some ⟨w.heap.size, 0, none⟩), y 2, .pointer (some ⟨D, 0, none⟩), .int .i64 off, .slice (some ⟨A, Ao, none⟩) n c, .slice (some ⟨R, Ro, none⟩) n d, .int .i64 was, .int .i64 (k : Int), x 10, y 10, undef, undef, s 13, s 14, s 15, s 16, s 17, s 18, s 19, y 20, y 21, y 22, y 23, y 24, y 25, .tuple #[.int .i64 (stK T n r1 r2 ba off k), .int .i64 0], x 0, x 1, x 2, x 3, x 4, x 5, x 6, x 8, x 9, y 36, y 37, y 38, y 39, y 40, y 41, y 42, y 43, y 44, y 45, y 46, y 47, y 48, y 49, y 50, y 51, y 52, y 53, y 54, y 55, y 56, y 57, y 58, y 59, y 60, y 61, y 62, y 63, y 64, y 65, y 66, y 67, undef, undef, undef, undef, undef, undef, undef, undef, undef, undef, undef, undef, undef, undef, undef, undef, undef, undef, undef, undef, undef, undef, undef, undef], []⟩ : Act) v
          refine wpOp_step rfl (fun K' hK' => ?_)
          go_simp
          exact hK' _ _ (hK _ _ (Below.refl _ _) (at_of rfl (rfl)))
        · obtain ⟨x, rfl⟩ := upd_of (show x 7 = .tuple #[.int .i64 (stK T n r1 r2 ba off k), .int .i64 0] from hd 7 _ (by simp) rfl)
          show wpOp Try.prog _ _ 9 K (⟨#[s 0, .pointer (some ⟨w.heap.size, 0, none⟩), y 2, .pointer (some ⟨D, 0, none⟩), .int .i64 off, .slice (some ⟨A, Ao, none⟩) n c, .slice (some ⟨R, Ro, none⟩) n d, .int .i64 was, .int .i64 (k : Int), x 10, y 10, undef, undef, s 13, s 14, s 15, s 16, s 17, s 18, s 19, y 20, y 21, y 22, y 23, y 24, y 25, .tuple #[.int .i64 (stK T n r1 r2 ba off k), .int .i64 0], x 0, x 1, x 2, x 3, x 4, x 5, x 6, x 8, x 9, y 36, y 37, y 38, y 39, y 40, y 41, y 42, y 43, y 44, y 45, y 46, y 47, y 48, y 49, y 50, y 51, y 52, y 53, y 54, y 55, y 56, y 57, y 58, y 59, y 60, y 61, y 62, y 63, y 64, y 65, y 66, y 67, undef, undef, undef, undef, undef, undef, undef, undef, undef, undef, undef, undef, undef, undef, undef, undef, undef, undef, undef, undef, undef, undef, undef, undef], []⟩ : Act) v
          refine wpOp_step rfl (fun K' hK' => ?_)
          go_simp
          exact hK' _ _ (hK _ _ (Below.refl _ _) (at_of rfl (rfl)))
        · obtain ⟨x, rfl⟩ := upd_of (show x 8 = .int .i64 (stK T n r1 r2 ba off k) from hd 8 _ (by simp) rfl)
          show wpOp Try.prog _ _ 10 K (⟨#[s 0, .pointer (some ⟨w.heap.size, 0, none⟩), y 2, .pointer (some ⟨D, 0, none⟩), .int .i64 off, .slice (some ⟨A, Ao, none⟩) n c, .slice (some ⟨R, Ro, none⟩) n d, .int .i64 was, .int .i64 (k : Int), x 10, y 10, undef, undef, s 13, s 14, s 15, s 16, s 17, s 18, s 19, y 20, y 21, y 22, y 23, y 24, y 25, x 7, x 0, x 1, x 2, x 3, x 4, x 5, x 6, .int .i64 (stK T n r1 r2 ba off k), x 9, y 36, y 37, y 38, y 39, y 40, y 41, y 42, y 43, y 44, y 45, y 46, y 47, y 48, y 49, y 50, y 51, y 52, y 53, y 54, y 55, y 56, y 57, y 58, y 59, y 60, y 61, y 62, y 63, y 64, y 65, y 66, y 67, undef, undef, undef, undef, undef, undef, undef, undef, undef, undef, undef, undef, undef, undef, undef, undef, undef, undef, undef, undef, undef, undef, undef, undef], []⟩ : Act) v
          refine wpOp_step rfl (fun K' hK' => ?_)
          go_simp
          exact hK' _ _ (hK _ _ (Below.refl _ _) (at_of rfl (rfl)))
      case fin6 =>
        rintro x v gv hd
        obtain ⟨x, rfl⟩ := upd_of (show x 9 = .int .i64 0 from hd 9 _ (by omega) rfl)
        obtain ⟨x, rfl⟩ := upd_of (show x 10 = .int .i64 (stK T n r1 r2 ba off k) from hd 10 _ (by omega) rfl)
        clear hd
        show wpList Try.prog _ _ (List.drop 11 _) (⟨#[s 0, .pointer (some ⟨w.heap.size, 0, none⟩), y 2, .pointer (some ⟨D, 0, none⟩), .int .i64 off, .slice (some ⟨A, Ao, none⟩) n c, .slice (some ⟨R, Ro, none⟩) n d, .int .i64 was, .int .i64 (k : Int), .int .i64 (stK T n r1 r2 ba off k), y 10, undef, undef, s 13, s 14, s 15, s 16, s 17, s 18, s 19, y 20, y 21, y 22, y 23, y 24, y 25, x 7, x 0, x 1, x 2, x 3, x 4, x 5, x 6, x 8, .int .i64 0, y 36, y 37, y 38, y 39, y 40, y 41, y 42, y 43, y 44, y 45, y 46, y 47, y 48, y 49, y 50, y 51, y 52, y 53, y 54, y 55, y 56, y 57, y 58, y 59, y 60, y 61, y 62, y 63, y 64, y 65, y 66, y 67, undef, undef, undef, undef, undef, undef, undef, undef, undef, undef, undef, undef, undef, undef, undef, undef, undef, undef, undef, undef, undef, undef, undef, undef], []⟩ : Act) v
        simp only [List.drop_succ_cons, List.drop_zero]
        have gV := gW.tr gv
        have hb := hr.keep gV
        have rL := rA.grow gV
        clear gv q0 q1 q2 q3 hbr
        obtain ⟨hst, hup⟩ := HS.out k
        generalize stK T n r1 r2 ba off k = st at *
        obtain ⟨p, hp⟩ : ∃ p, lotP T n r1 r2 ba = p := ⟨_, rfl⟩
        have HP := Lib.hid hp
        rw [hp] at hst
        clear hp
        obtain ⟨q0, q1, q2, q3⟩ := hb.c4'
        rcases hst with rfl | ⟨rfl, rfl⟩ | ⟨rfl, rfl⟩
        · obtain rfl : was = 3 := by omega
          go_wp2_with fail
          go_roundw
          case rel => exact Lib.hid ⟨k + 1, by omega, by go_num, gV, 3, rfl, .inl rfl⟩
          case measure => simp [intOf]; omega
        · rcases hwas with rfl | rfl
          · go_wp2_with fail
            refine (passes_at T HT.out n n2 r1 r2 ba h1.1 h1.2 _ HP.out _ _ _ rL).mono ?_
            rintro e w5 ⟨rfl, g5⟩
            go_wp2
            go_roundw
            case rel => exact Lib.hid ⟨k + 1, by omega, by go_num, gV.tr g5, 1, rfl, by omega⟩
            case measure => simp [intOf]; omega
          · go_wp2_with fail
            refine (passes_at T HT.out n n2 r1 r2 ba h1.1 h1.2 _ HP.out _ _ _ rL).mono ?_
            rintro e w5 ⟨rfl, g5⟩
            go_wp2
            go_roundw
            case rel => exact Lib.hid ⟨k + 1, by omega, by go_num, gV.tr g5, 1, rfl, by omega⟩
            case measure => simp [intOf]; omega
        · rcases hwas with rfl | rfl
          · go_wp2_with fail
            refine (passes_at T HT.out n n2 r1 r2 ba h1.1 h1.2 _ HP.out _ _ _ rL).mono ?_
            rintro e w5 ⟨rfl, g5⟩
            go_wp2
            go_roundw
            case rel => exact Lib.hid ⟨k + 1, by omega, by go_num, gV.tr g5, 2, rfl, by omega⟩
            case measure => simp [intOf]; omega
          · go_wp2_with fail
            refine (passes_at T HT.out n n2 r1 r2 ba h1.1 h1.2 _ HP.out _ _ _ rL).mono ?_
            rintro e w5 ⟨rfl, g5⟩
            go_wp2
            go_roundw
            case rel => exact Lib.hid ⟨k + 1, by omega, by go_num, gV.tr g5, 2, rfl, by omega⟩
            case measure => simp [intOf]; omega
    · obtain rfl : k = n + 1 := by omega
      clear hwas hlt hk
      obtain ⟨p, hp⟩ : ∃ p, lotP T n r1 r2 ba = p := ⟨_, rfl⟩
      have HP := Lib.hid hp
      obtain ⟨st, hst⟩ : ∃ st : Int, (if p = true then 1 else 2) = st := ⟨_, rfl⟩
      have HD : Hid (∀ (a : Option Addr) (cap : Nat) (W : World), IRow W a ((lotTru T n).take n) → (a = none → cap = 0) → Calls Try.prog 19 #[.agg #[.int .i64 (n : Int), .int .i64 r1, .int .i64 r2, .int .i64 ba], .slice a n cap, .int .i64 0] W fun e w' => e = .returned (.tuple #[.int .i64 st, .int .i64 0]) ∧ Gr W w') := Lib.hid (fun a cap W hr hn => by
        rw [← hst, ← hp]
        exact decide_end T HT.out n n1 n2 r1 r2 ba h1.1 h1.2 h2.1 h2.2 b0 b1 a cap W hr hn)
      clear hp
      go_upto_region 10 with fail
      refine (show (∀ z : Nat → Value, Code.wp Try.prog _ _ ⟨#[s 0, .pointer (some ⟨w.heap.size, 0, none⟩), z 2, .pointer (some ⟨D, 0, none⟩), .int .i64 off, .slice (some ⟨A, Ao, none⟩) n c, .slice (some ⟨R, Ro, none⟩) n d, z 7, z 8, z 9, z 10, undef, undef, s 13, s 14, s 15, s 16, s 17, s 18, s 19, z 20, z 21, z 22, z 23, z 24, z 25, z 26, z 27, z 28, z 29, z 30, z 31, z 32, z 33, z 34, z 35, z 36, z 37, z 38, z 39, z 40, z 41, z 42, z 43, z 44, z 45, z 46, z 47, z 48, z 49, z 50, z 51, z 52, z 53, z 54, z 55, z 56, z 57, z 58, z 59, z 60, z 61, z 62, z 63, z 64, z 65, z 66, z 67, undef, undef, undef, undef, undef, undef, undef, undef, undef, undef, undef, undef, undef, undef, undef, undef, undef, undef, undef, undef, undef, undef, undef, undef], []⟩ _) → _ from fun h => h ((fun l : List Value => fun i => l.getD i undef) [undef, undef, _, undef, undef, undef, undef, _, _, _, _, undef, undef, undef, undef, undef, undef, undef, undef, undef, _, _, _, _, _, _, _, _, _, _, _, _, _, _, _, _, _, _, _, _, _, _, _, _, _, _, _, _, _, _, _, _, _, _, _, _, _, _, _, _, _, _, _, _, _, _, _, _])) ?_
      intro z
      dsimp only
      refine wp_region_facts 8 [(2, 1), (3, 0), (3, 2), (4, 3), (5, 4), (6, 4), (7, 5)] (fun x => ⟨#[s 0, .pointer (some ⟨w.heap.size, 0, none⟩), z 2, .pointer (some ⟨D, 0, none⟩), .int .i64 off, .slice (some ⟨A, Ao, none⟩) n c, .slice (some ⟨R, Ro, none⟩) n d, z 7, z 8, z 9, z 10, x 7, undef, s 13, s 14, s 15, s 16, s 17, s 18, s 19, z 20, z 21, z 22, z 23, z 24, z 25, z 26, z 27, z 28, z 29, z 30, z 31, z 32, z 33, z 34, z 35, z 36, z 37, z 38, z 39, z 40, z 41, z 42, z 43, z 44, z 45, z 46, z 47, z 48, z 49, z 50, z 51, z 52, z 53, z 54, z 55, z 56, z 57, z 58, z 59, z 60, z 61, z 62, z 63, z 64, z 65, z 66, z 67, x 4, x 0, x 1, x 2, x 3, x 5, x 6, undef, undef, undef, undef, undef, undef, undef, undef, undef, undef, undef, undef, undef, undef, undef, undef, undef], []⟩) (fun _ => undef) [fun _ x => x = .agg #[.int .i64 (n : Int), .int .i64 r1, .int .i64 r2, .int .i64 ba], fun _ x => x = .slice (some ⟨A, Ao, none⟩) n c, fun v x => ∃ a c, x = .slice a n c ∧ IRow v a ((lotTru T n).take n) ∧ (a = none → c = 0), fun _ x => x = .tuple #[.int .i64 st, .int .i64 0], fun _ x => x = .tuple #[.int .i64 st, .int .i64 0], fun _ x => x = .int .i64 st, fun _ x => x = .int .i64 0, fun _ x => x = .int .i64 st] (by rfl) (by kernel_rfl) (by kernel_rfl) (by kernel_rfl) (stays_cons (Stays.eq _) (stays_cons (Stays.eq _) (stays_cons ((show Stays (fun v x => ∃ a c, x = .slice a n c ∧ IRow v a ((lotTru T n).take n) ∧ (a = none → c = 0)) from fun v v' x g ⟨a, c, h, r, k⟩ => ⟨a, c, h, r.grow g, k⟩)) (stays_cons (Stays.eq _) (stays_cons (Stays.eq _) (stays_cons (Stays.eq _) (stays_cons (Stays.eq _) (stays_cons (Stays.eq _) stays_nil)))))))) ?step10 ?fin10
      case step10 =>
        rintro i hi x v gv hd K hK
        have hi8 : i = 0 ∨ i = 1 ∨ i = 2 ∨ i = 3 ∨ i = 4 ∨ i = 5 ∨ i = 6 ∨ i = 7 := by omega
        rcases hi8 with rfl | rfl | rfl | rfl | rfl | rfl | rfl | rfl
        · show wpOp Try.prog _ _ 0 K (⟨#[s 0, .pointer (some ⟨w.heap.size, 0, none⟩), z 2, .pointer (some ⟨D, 0, none⟩), .int .i64 off, .slice (some ⟨A, Ao, none⟩) n c, .slice (some ⟨R, Ro, none⟩) n d, z 7, z 8, z 9, z 10, x 7, undef, s 13, s 14, s 15, s 16, s 17, s 18, s 19, z 20, z 21, z 22, z 23, z 24, z 25, z 26, z 27, z 28, z 29, z 30, z 31, z 32, z 33, z 34, z 35, z 36, z 37, z 38, z 39, z 40, z 41, z 42, z 43, z 44, z 45, z 46, z 47, z 48, z 49, z 50, z 51, z 52, z 53, z 54, z 55, z 56, z 57, z 58, z 59, z 60, z 61, z 62, z 63, z 64, z 65, z 66, z 67, x 4, x 0, x 1, x 2, x 3, x 5, x 6, undef, undef, undef, undef, undef, undef, undef, undef, undef, undef, undef, undef, undef, undef, undef, undef, undef], []⟩ : Act) v
          refine wpOp_step rfl (fun K' hK' => ?_)
          rw [if_pos (by rfl)]
          refine wp_load_mid 23 _ rfl D 0 (by rfl) [.int .i64 (n : Int), .int .i64 r1, .int .i64 r2, .int .i64 ba] _ (fun j u hu => by rw [Nat.zero_add]; exact (hbr.keep gv).2 j u hu) Try.underlying23 rfl (by kernel_rfl) ?_
          exact hK' _ _ (hK _ _ (Below.refl _ _) (at_of rfl (rfl)))
        · show wpOp Try.prog _ _ 1 K (⟨#[s 0, .pointer (some ⟨w.heap.size, 0, none⟩), z 2, .pointer (some ⟨D, 0, none⟩), .int .i64 off, .slice (some ⟨A, Ao, none⟩) n c, .slice (some ⟨R, Ro, none⟩) n d, z 7, z 8, z 9, z 10, x 7, undef, s 13, s 14, s 15, s 16, s 17, s 18, s 19, z 20, z 21, z 22, z 23, z 24, z 25, z 26, z 27, z 28, z 29, z 30, z 31, z 32, z 33, z 34, z 35, z 36, z 37, z 38, z 39, z 40, z 41, z 42, z 43, z 44, z 45, z 46, z 47, z 48, z 49, z 50, z 51, z 52, z 53, z 54, z 55, z 56, z 57, z 58, z 59, z 60, z 61, z 62, z 63, z 64, z 65, z 66, z 67, x 4, x 0, x 1, x 2, x 3, x 5, x 6, undef, undef, undef, undef, undef, undef, undef, undef, undef, undef, undef, undef, undef, undef, undef, undef, undef], []⟩ : Act) v
          refine wpOp_step rfl (fun K' hK' => ?_)
          go_simp
          exact hK' _ _ (hK _ _ (Below.refl _ _) (at_of rfl (rfl)))
        · obtain ⟨x, rfl⟩ := upd_of (show x 1 = .slice (some ⟨A, Ao, none⟩) n c from hd 1 _ (by simp) rfl)
          show wpOp Try.prog _ _ 2 K (⟨#[s 0, .pointer (some ⟨w.heap.size, 0, none⟩), z 2, .pointer (some ⟨D, 0, none⟩), .int .i64 off, .slice (some ⟨A, Ao, none⟩) n c, .slice (some ⟨R, Ro, none⟩) n d, z 7, z 8, z 9, z 10, x 7, undef, s 13, s 14, s 15, s 16, s 17, s 18, s 19, z 20, z 21, z 22, z 23, z 24, z 25, z 26, z 27, z 28, z 29, z 30, z 31, z 32, z 33, z 34, z 35, z 36, z 37, z 38, z 39, z 40, z 41, z 42, z 43, z 44, z 45, z 46, z 47, z 48, z 49, z 50, z 51, z 52, z 53, z 54, z 55, z 56, z 57, z 58, z 59, z 60, z 61, z 62, z 63, z 64, z 65, z 66, z 67, x 4, x 0, .slice (some ⟨A, Ao, none⟩) n c, x 2, x 3, x 5, x 6, undef, undef, undef, undef, undef, undef, undef, undef, undef, undef, undef, undef, undef, undef, undef, undef, undef], []⟩ : Act) v
          refine wpOp_step rfl (fun K' hK' => ?_)
          go_simp
          refine (lints_at (lotTru T n) n (by omega) (by omega) A Ao c v (rA.grow (gW.tr gv))).mono ?_
          rintro e v' ⟨a, c, rfl, hr2, hn2, _, hg⟩
          exact hK' _ _ (hK _ _ hg (at_of rfl (⟨_, _, rfl, hr2, hn2⟩)))
        · obtain ⟨x, rfl⟩ := upd_of (show x 0 = .agg #[.int .i64 (n : Int), .int .i64 r1, .int .i64 r2, .int .i64 ba] from hd 0 _ (by simp) rfl)
          obtain ⟨a2, c2, e2, rr2, m2⟩ := hd 2 _ (by simp) rfl
          obtain ⟨x, rfl⟩ := upd_of (show x 2 = .slice a2 n c2 from e2)
          show wpOp Try.prog _ _ 3 K (⟨#[s 0, .pointer (some ⟨w.heap.size, 0, none⟩), z 2, .pointer (some ⟨D, 0, none⟩), .int .i64 off, .slice (some ⟨A, Ao, none⟩) n c, .slice (some ⟨R, Ro, none⟩) n d, z 7, z 8, z 9, z 10, x 7, undef, s 13, s 14, s 15, s 16, s 17, s 18, s 19, z 20, z 21, z 22, z 23, z 24, z 25, z 26, z 27, z 28, z 29, z 30, z 31, z 32, z 33, z 34, z 35, z 36, z 37, z 38, z 39, z 40, z 41, z 42, z 43, z 44, z 45, z 46, z 47, z 48, z 49, z 50, z 51, z 52, z 53, z 54, z 55, z 56, z 57, z 58, z 59, z 60, z 61, z 62, z 63, z 64, z 65, z 66, z 67, x 4, .agg #[.int .i64 (n : Int), .int .i64 r1, .int .i64 r2, .int .i64 ba], x 1, .slice a2 n c2, x 3, x 5, x 6, undef, undef, undef, undef, undef, undef, undef, undef, undef, undef, undef, undef, undef, undef, undef, undef, undef], []⟩ : Act) v
          refine wpOp_step rfl (fun K' hK' => ?_)
          go_simp
          refine (HD.out a2 c2 v rr2 m2).mono ?_
          rintro e v' ⟨rfl, hg⟩
          exact hK' _ _ (hK _ _ hg (at_of rfl (rfl)))
        · obtain ⟨x, rfl⟩ := upd_of (show x 3 = .tuple #[.int .i64 st, .int .i64 0] from hd 3 _ (by simp) rfl)
          show wpOp Try.prog _ _ 4 K (⟨#[s 0, .pointer (some ⟨w.heap.size, 0, none⟩), z 2, .pointer (some ⟨D, 0, none⟩), .int .i64 off, .slice (some ⟨A, Ao, none⟩) n c, .slice (some ⟨R, Ro, none⟩) n d, z 7, z 8, z 9, z 10, x 7, undef, s 13, s 14, s 15, s 16, s 17, s 18, s 19, z 20, z 21, z 22, z 23, z 24, z 25, z 26, z 27, z 28, z 29, z 30, z 31, z 32, z 33, z 34, z 35, z 36, z 37, z 38, z 39, z 40, z 41, z 42, z 43, z 44, z 45, z 46, z 47, z 48, z 49, z 50, z 51, z 52, z 53, z 54, z 55, z 56, z 57, z 58, z 59, z 60, z 61, z 62, z 63, z 64, z 65, z 66, z 67, x 4, x 0, x 1, x 2, .tuple #[.int .i64 st, .int .i64 0], x 5, x 6, undef, undef, undef, undef, undef, undef, undef, undef, undef, undef, undef, undef, undef, undef, undef, undef, undef], []⟩ : Act) v
          refine wpOp_step rfl (fun K' hK' => ?_)
          go_simp
          exact hK' _ _ (hK _ _ (Below.refl _ _) (at_of rfl (rfl)))
        · obtain ⟨x, rfl⟩ := upd_of (show x 4 = .tuple #[.int .i64 st, .int .i64 0] from hd 4 _ (by simp) rfl)
          show wpOp Try.prog _ _ 5 K (⟨#[s 0, .pointer (some ⟨w.heap.size, 0, none⟩), z 2, .pointer (some ⟨D, 0, none⟩), .int .i64 off, .slice (some ⟨A, Ao, none⟩) n c, .slice (some ⟨R, Ro, none⟩) n d, z 7, z 8, z 9, z 10, x 7, undef, s 13, s 14, s 15, s 16, s 17, s 18, s 19, z 20, z 21, z 22, z 23, z 24, z 25, z 26, z 27, z 28, z 29, z 30, z 31, z 32, z 33, z 34, z 35, z 36, z 37, z 38, z 39, z 40, z 41, z 42, z 43, z 44, z 45, z 46, z 47, z 48, z 49, z 50, z 51, z 52, z 53, z 54, z 55, z 56, z 57, z 58, z 59, z 60, z 61, z 62, z 63, z 64, z 65, z 66, z 67, .tuple #[.int .i64 st, .int .i64 0], x 0, x 1, x 2, x 3, x 5, x 6, undef, undef, undef, undef, undef, undef, undef, undef, undef, undef, undef, undef, undef, undef, undef, undef, undef], []⟩ : Act) v
          refine wpOp_step rfl (fun K' hK' => ?_)
          go_simp
          exact hK' _ _ (hK _ _ (Below.refl _ _) (at_of rfl (rfl)))
        · obtain ⟨x, rfl⟩ := upd_of (show x 4 = .tuple #[.int .i64 st, .int .i64 0] from hd 4 _ (by simp) rfl)
          show wpOp Try.prog _ _ 6 K (⟨#[s 0, .pointer (some ⟨w.heap.size, 0, none⟩), z 2, .pointer (some ⟨D, 0, none⟩), .int .i64 off, .slice (some ⟨A, Ao, none⟩) n c, .slice (some ⟨R, Ro, none⟩) n d, z 7, z 8, z 9, z 10, x 7, undef, s 13, s 14, s 15, s 16, s 17, s 18, s 19, z 20, z 21, z 22, z 23, z 24, z 25, z 26, z 27, z 28, z 29, z 30, z 31, z 32, z 33, z 34, z 35, z 36, z 37, z 38, z 39, z 40, z 41, z 42, z 43, z 44, z 45, z 46, z 47, z 48, z 49, z 50, z 51, z 52, z 53, z 54, z 55, z 56, z 57, z 58, z 59, z 60, z 61, z 62, z 63, z 64, z 65, z 66, z 67, .tuple #[.int .i64 st, .int .i64 0], x 0, x 1, x 2, x 3, x 5, x 6, undef, undef, undef, undef, undef, undef, undef, undef, undef, undef, undef, undef, undef, undef, undef, undef, undef], []⟩ : Act) v
          refine wpOp_step rfl (fun K' hK' => ?_)
          go_simp
          exact hK' _ _ (hK _ _ (Below.refl _ _) (at_of rfl (rfl)))
        · obtain ⟨x, rfl⟩ := upd_of (show x 5 = .int .i64 st from hd 5 _ (by simp) rfl)
          show wpOp Try.prog _ _ 7 K (⟨#[s 0, .pointer (some ⟨w.heap.size, 0, none⟩), z 2, .pointer (some ⟨D, 0, none⟩), .int .i64 off, .slice (some ⟨A, Ao, none⟩) n c, .slice (some ⟨R, Ro, none⟩) n d, z 7, z 8, z 9, z 10, x 7, undef, s 13, s 14, s 15, s 16, s 17, s 18, s 19, z 20, z 21, z 22, z 23, z 24, z 25, z 26, z 27, z 28, z 29, z 30, z 31, z 32, z 33, z 34, z 35, z 36, z 37, z 38, z 39, z 40, z 41, z 42, z 43, z 44, z 45, z 46, z 47, z 48, z 49, z 50, z 51, z 52, z 53, z 54, z 55, z 56, z 57, z 58, z 59, z 60, z 61, z 62, z 63, z 64, z 65, z 66, z 67, x 4, x 0, x 1, x 2, x 3, .int .i64 st, x 6, undef, undef, undef, undef, undef, undef, undef, undef, undef, undef, undef, undef, undef, undef, undef, undef, undef], []⟩ : Act) v
          refine wpOp_step rfl (fun K' hK' => ?_)
          go_simp
          exact hK' _ _ (hK _ _ (Below.refl _ _) (at_of rfl (rfl)))
      case fin10 =>
        rintro x v gv hd
        obtain ⟨x, rfl⟩ := upd_of (show x 6 = .int .i64 0 from hd 6 _ (by omega) rfl)
        obtain ⟨x, rfl⟩ := upd_of (show x 7 = .int .i64 st from hd 7 _ (by omega) rfl)
        clear hd
        show wpList Try.prog _ _ (List.drop 8 _) (⟨#[s 0, .pointer (some ⟨w.heap.size, 0, none⟩), z 2, .pointer (some ⟨D, 0, none⟩), .int .i64 off, .slice (some ⟨A, Ao, none⟩) n c, .slice (some ⟨R, Ro, none⟩) n d, z 7, z 8, z 9, z 10, .int .i64 st, undef, s 13, s 14, s 15, s 16, s 17, s 18, s 19, z 20, z 21, z 22, z 23, z 24, z 25, z 26, z 27, z 28, z 29, z 30, z 31, z 32, z 33, z 34, z 35, z 36, z 37, z 38, z 39, z 40, z 41, z 42, z 43, z 44, z 45, z 46, z 47, z 48, z 49, z 50, z 51, z 52, z 53, z 54, z 55, z 56, z 57, z 58, z 59, z 60, z 61, z 62, z 63, z 64, z 65, z 66, z 67, x 4, x 0, x 1, x 2, x 3, x 5, .int .i64 0, undef, undef, undef, undef, undef, undef, undef, undef, undef, undef, undef, undef, undef, undef, undef, undef, undef], []⟩ : Act) v
        simp only [List.drop_succ_cons, List.drop_zero]
        have gV := gW.tr gv
        have hb := hr.keep gV
        have rL := rA.grow gV
        clear gv q0 q1 q2 q3 hbr HD
        obtain ⟨q0, q1, q2, q3⟩ := hb.c4'
        cases p with
        | true =>
          rw [if_pos rfl] at hst
          subst hst
          go_wp2_with (first
            | (go_at_call 50; refine (passes_at T HT.out n n2 r1 r2 ba h1.1 h1.2 _ HP.out _ _ _ rL).mono ?_; rintro e w5 ⟨rfl, g5⟩)
            | (go_at_call 16; refine (known_any _).mono ?_; rintro e w6 ⟨rfl, g6⟩))
          go_ret
          exact ⟨rfl, (gX.tr gV).tr (g5.tr g6)⟩
        | false =>
          rw [if_neg (by decide)] at hst
          subst hst
          go_wp2_with (first
            | (go_at_call 50; refine (passes_at T HT.out n n2 r1 r2 ba h1.1 h1.2 _ HP.out _ _ _ rL).mono ?_; rintro e w5 ⟨rfl, g5⟩)
            | (go_at_call 16; refine (known_any _).mono ?_; rintro e w6 ⟨rfl, g6⟩))
          go_ret
          exact ⟨rfl, (gX.tr gV).tr (g5.tr g6)⟩

end Go.Proofs.Ytkfhmfidgdpeiaa
