/- E1 (tops) E2 (tops) The contract of armMake. (Made by gen_arm5.py.) E5 (tops) E10 (tops) How strong a board of a Ware is at most. A region that draws its order, in which two rows are appended to, one after the other: the facts of the other operations stay while blocks of Z alone turn; the rows' state goes from S0 to S1 to S2. A region that draws its order, in which two variables are made and written once each, among reads. -/
import Derived.Test.YtcdilmagcdbogaaQE17a
import Derived.Test.YtcdilmagcdbogaaQE10b
import Derived.Test.YtcdilmagcdbogaaQE10a
import Derived.Deep.CutRange
import Derived.Deep.DeepCutAuto
import Derived.Deep.MidRow
namespace Go.Proofs.Ytcdilmagcdbogaa
set_option linter.unusedVariables false
set_option linter.unusedSimpArgs false
open Go.RowKit

set_option maxRecDepth 100000 in
set_option maxHeartbeats 8000000 in
theorem armStore_any (P : List V6) (F : List V3) (hP : ∀ v ∈ P, B6 v) (hF : ∀ v ∈ F, B3 v) (pa fa ya : Option Addr) (pc fc yc : Nat) (yn : Nat) (w : World) (rp : Row6 w pa P) (rf : Row3 w fa F) :
    Calls Try.prog 60 #[.agg #[.slice pa P.length pc, .slice fa F.length fc, .slice ya yn yc]] w (StorePost (storeWP P) (storeWF F) w) := by
  obtain ⟨ip, hip, hpz0, hpz1, hpz2⟩ := info_parts infoPaper
  obtain ⟨jf, hjf, hfz0, hfz1, hfz2⟩ := info_parts infoFlute
  have gg := ((Gr.al w (.cells #[.slice pa P.length pc, .slice fa F.length fc, .slice ya yn yc] 120)).tr (Gr.al _ (.cells #[.slice none 0 0, .slice none 0 0] 124))).tr (Gr.al _ (.cells #[.slice none 0 0, .slice none 0 0] 124))
  have hx := (Box.new w [.slice pa P.length pc, .slice fa F.length fc, .slice ya yn yc] 120 w.heap.size rfl).keep ((Gr.al _ (.cells #[.slice none 0 0, .slice none 0 0] 124)).tr (Gr.al _ (.cells #[.slice none 0 0, .slice none 0 0] 124)))
  have or := (Own.new (w.alloc (.cells #[.slice pa P.length pc, .slice fa F.length fc, .slice ya yn yc] 120)) [.slice none 0 0, .slice none 0 0] 124 (w.heap.size + 1) (by simp)).keep (Gr.al _ (.cells #[.slice none 0 0, .slice none 0 0] 124))
  have os := Own.new ((w.alloc (.cells #[.slice pa P.length pc, .slice fa F.length fc, .slice ya yn yc] 120)).alloc (.cells #[.slice none 0 0, .slice none 0 0] 124)) [.slice none 0 0, .slice none 0 0] 124 (w.heap.size + 1 + 1) (by simp)
  have HP := Lib.hid hP
  have HF := Lib.hid hF
  obtain ⟨np2, np5⟩ := npW_bd P.length
  obtain ⟨nf1, nf3⟩ := nfW_bd F.length
  clear hP hF
  go_enter Try.func60, Try.ntmps60
  go_wp2
  refine wp_abs (fun W => Gr w W ∧ Box W w.heap.size [.slice pa P.length pc, .slice fa F.length fc, .slice ya yn yc] ∧ Own W (w.heap.size + 1) [.slice none 0 0, .slice none 0 0] ∧ Own W (w.heap.size + 1 + 1) [.slice none 0 0, .slice none 0 0]) ⟨gg, hx, or, os⟩ ?_
  clear gg hx or os
  rintro W ⟨gg, hx, or, os⟩
  refine (show (∀ s : Nat → Value, Code.wp Try.prog _ _ ⟨#[s 0, .pointer (some ⟨w.heap.size, 0, none⟩), .pointer (some ⟨(w.heap.size + 1), 0, none⟩), .pointer (some ⟨(w.heap.size + 1 + 1), 0, none⟩), .int .i64 0, undef, undef, undef, undef, undef, s 10, undef, undef, undef, undef, undef, undef, undef, undef, undef, undef, undef, undef, undef, undef, undef, undef, undef, undef, undef, undef, undef, undef, undef, undef, undef, undef, undef, undef, undef, undef, undef, undef, undef, undef, undef, undef, undef, undef, undef, undef, undef, undef, undef, undef, undef, undef, undef, undef, undef, undef, undef, undef, undef, undef, undef, undef, undef, undef, undef, undef, undef, undef, undef, undef, undef, undef, undef, undef, undef, undef, undef, undef, undef, undef, undef, undef, undef, undef, undef, undef, undef, undef, undef, undef, undef, undef, undef, undef, undef, undef, undef, undef, undef, undef, undef, undef, undef, undef, undef, undef, undef, undef, undef, undef, undef, undef, undef, undef, undef, undef, undef, undef, undef, undef, undef, undef, undef, undef, undef, undef, undef, undef, undef, undef, undef, undef, undef, undef, undef, undef, undef, undef, undef, undef, undef, undef, undef, undef, undef, undef, undef, undef, undef, undef, undef, undef, undef, undef], []⟩ _) → _ from fun h => h ((fun l : List Value => fun i => l.getD i undef) [_, undef, undef, undef, undef, undef, undef, undef, undef, undef, _])) ?_
  intro s
  dsimp only
  go_loopw [4] (fun i wr => Hid (∃ (k : Nat) (pv : Value), k ≤ npW P.length ∧ i = .int .i64 k ∧ Gr w wr ∧ Box wr w.heap.size [.slice pa P.length pc, .slice fa F.length fc, .slice ya yn yc] ∧ Own wr (w.heap.size + 1) [.slice none 0 0, .slice none 0 0] ∧ Own wr (w.heap.size + 1 + 1) [pv, .slice none 0 0] ∧
      wr.ownsRow (w.heap.size + 1 + 1 + 1) 174 8 pv k (((storeWP P).take k).flatMap encP))) (fun i wr => 5 - (intOf i).toNat)
  case atStart => exact Lib.hid ⟨0, .slice none 0 0, by omega, rfl, gg, hx, or, os, World.ownsRow_nil _ _ _ _⟩
  case round =>
    clear gg hx or os
    obtain ⟨k, pv, hk, rfl, gg, hx, or, os, hown⟩ := hrel.out
    clear hrel
    by_cases hlt : k < npW P.length
    · have k5 : k < 5 := by omega
      have hsz : w.heap.size + 1 + 1 < wr.heap.size := os.1.1
      go_upto_region 3 with fail
      go_cut [23] from 11 to 22 (fun s23 wx => s23 = .bool true ∧ wr = wx)
      case first =>
        have q0 := hx.2 0 _ rfl
        by_cases h2 : k < 2
        · have d1 : decide ((k : Int) < 2) = true := by simp; omega
          go_wp2_with fail
          go_meet
          exact ⟨rfl, rfl⟩
        · have d1 : decide ((k : Int) < 2) = false := by simp; omega
          have hl : k < P.length := by unfold npW at hlt; split at hlt <;> (try split at hlt) <;> omega
          have d2 : decide (k < P.length) = true := by simpa using hl
          have d3 : decide ((k : Int) < 5) = true := by simp; omega
          go_wp2_with fail
          go_meet
          exact ⟨rfl, rfl⟩
      case rest =>
        obtain ⟨rfl, rfl⟩ := hcut
        have hw8 := u8_small k5
        have q0 := hx.2 0 _ rfl
        have q0' := (hx.keep (Gr.al wr (.cells #[.int .u8 (k : Int), .int .u8 120, .int .u8 20, .int .u8 7, .int .u8 30, .int .u8 20] 136))).2 0 _ rfl
        go_upto_if 33 with fail
        go_cut [] from 34 to 38 (fun wx => Gr wr wx ∧ Own wx wr.heap.size (encV6 (wareP P k)))
        case first =>
          by_cases hl : k < P.length
          · obtain ⟨v, hv⟩ := get_of_lt hl
            have E : wareP P k = v := by simp [wareP, hv]
            have E' := Lib.hid E
            clear E
            obtain ⟨b0, o0, ha, hb0, hc⟩ := (rp.grow (gg.tr (Gr.al wr (.cells #[.int .u8 (k : Int), .int .u8 120, .int .u8 20, .int .u8 7, .int .u8 30, .int .u8 20] 136)))).2 k v hv
            subst ha
            clear hv
            obtain ⟨v0, v1, v2, v3, v4, v5⟩ := v
            have c0 : (wr.alloc (.cells #[.int .u8 (k : Int), .int .u8 120, .int .u8 20, .int .u8 7, .int .u8 30, .int .u8 20] 136)).cell? ⟨b0, o0 + k * 6, none⟩ = some (.int .u8 v0) := hc 0 _ rfl
            have c1 : (wr.alloc (.cells #[.int .u8 (k : Int), .int .u8 120, .int .u8 20, .int .u8 7, .int .u8 30, .int .u8 20] 136)).cell? ⟨b0, o0 + k * 6 + 1, none⟩ = some (.int .u8 v1) := hc 1 _ rfl
            have c2 : (wr.alloc (.cells #[.int .u8 (k : Int), .int .u8 120, .int .u8 20, .int .u8 7, .int .u8 30, .int .u8 20] 136)).cell? ⟨b0, o0 + k * 6 + 2, none⟩ = some (.int .u8 v2) := hc 2 _ rfl
            have c3 : (wr.alloc (.cells #[.int .u8 (k : Int), .int .u8 120, .int .u8 20, .int .u8 7, .int .u8 30, .int .u8 20] 136)).cell? ⟨b0, o0 + k * 6 + 3, none⟩ = some (.int .u8 v3) := hc 3 _ rfl
            have c4 : (wr.alloc (.cells #[.int .u8 (k : Int), .int .u8 120, .int .u8 20, .int .u8 7, .int .u8 30, .int .u8 20] 136)).cell? ⟨b0, o0 + k * 6 + 4, none⟩ = some (.int .u8 v4) := hc 4 _ rfl
            have c5 : (wr.alloc (.cells #[.int .u8 (k : Int), .int .u8 120, .int .u8 20, .int .u8 7, .int .u8 30, .int .u8 20] 136)).cell? ⟨b0, o0 + k * 6 + 5, none⟩ = some (.int .u8 v5) := hc 5 _ rfl
            clear hc
            have d2 : decide (k < P.length) = true := by simpa using hl
            go_wp2_with fail
            go_meet
            refine ⟨Gr.al _ _, ?_⟩
            rw [E'.out]
            exact Own.new _ [.int .u8 v0, .int .u8 v1, .int .u8 v2, .int .u8 v3, .int .u8 v4, .int .u8 v5] _ _ rfl
          · have E : wareP P k = ⟨k, 120, 20, 7, 30, 20⟩ := by simp [wareP, List.getElem?_eq_none (show P.length ≤ k by omega)]
            have E' := Lib.hid E
            clear E
            have d2 : decide (k < P.length) = false := by simpa using hl
            go_wp2_with fail
            go_meet
            refine ⟨Gr.al _ _, ?_⟩
            rw [E'.out]
            exact Own.new _ [.int .u8 (k : Int), .int .u8 120, .int .u8 20, .int .u8 7, .int .u8 30, .int .u8 20] _ _ rfl
        case rest =>
          obtain ⟨gn, ov⟩ := hcut
          clear q0 q0' hw8
          have hpk := storeWP_at hlt
          obtain ⟨⟨p0, p1⟩, ⟨p2, p3⟩, ⟨p4, p5⟩, ⟨p6, p7⟩, ⟨p8, p9⟩, ⟨p10, p11⟩⟩ := wareP_B HP.out k5
          generalize wareP P k = vv at *
          obtain ⟨y0, y1, y2, y3, y4, y5⟩ := vv
          simp only at p0 p1 p2 p3 p4 p5 p6 p7 p8 p9 p10 p11
          have HPK := Lib.hid hpk
          clear hpk
          go_upto_region 8 with fail
          refine (show (∀ r : Nat → Value, Code.wp Try.prog _ _ ⟨#[s 0, .pointer (some ⟨w.heap.size, 0, none⟩), .pointer (some ⟨(w.heap.size + 1), 0, none⟩), .pointer (some ⟨(w.heap.size + 1 + 1), 0, none⟩), .int .i64 k, .pointer (some ⟨wr.heap.size, 0, none⟩), r 6, undef, undef, undef, s 10, r 11, r 12, r 13, r 14, r 15, r 16, r 17, r 18, r 19, r 20, r 21, r 22, r 23, r 24, r 25, r 26, r 27, r 28, r 29, r 30, r 31, r 32, r 33, r 34, r 35, r 36, r 37, r 38, r 39, r 40, r 41, r 42, r 43, r 44, r 45, r 46, r 47, r 48, r 49, r 50, r 51, r 52, r 53, r 54, r 55, r 56, r 57, r 58, r 59, r 60, r 61, r 62, r 63, r 64, r 65, r 66, r 67, r 68, r 69, r 70, r 71, r 72, r 73, r 74, r 75, r 76, r 77, r 78, r 79, r 80, r 81, r 82, r 83, r 84, r 85, r 86, r 87, r 88, r 89, r 90, r 91, r 92, r 93, r 94, r 95, undef, undef, undef, undef, undef, undef, undef, undef, undef, undef, undef, undef, undef, undef, undef, undef, undef, undef, undef, undef, undef, undef, undef, undef, undef, undef, undef, undef, undef, undef, undef, undef, undef, undef, undef, undef, undef, undef, undef, undef, undef, undef, undef, undef, undef, undef, undef, undef, undef, undef, undef, undef, undef, undef, undef, undef, undef, undef, undef, undef, undef, undef, undef], []⟩ _) → _ from fun h => h ((fun l : List Value => fun i => l.getD i undef) [undef, undef, undef, undef, undef, undef, _, undef, undef, undef, undef, _, _, _, _, _, _, _, _, _, _, _, _, _, _, _, _, _, _, _, _, _, _, _, _, _, _, _, _, _, _, _, _, _, _, _, _, _, _, _, _, _, _, _, _, _, _, _, _, _, _, _, _, _, _, _, _, _, _, _, _, _, _, _, _, _, _, _, _, _, _, _, _, _, _, _, _, _, _, _, _, _, _, _, _, _])) ?_
          intro r
          dsimp only
          have w0 : IntKind.i64.wrap (1 + (k : Int)) = 1 + (k : Int) := IntWalk.i64_in _ (by omega)
          have w1 : IntKind.i64.wrap (y1) = y1 := IntWalk.i64_in _ (by omega)
          have w2 : IntKind.i64.wrap (50 + y1) = 50 + y1 := IntWalk.i64_in _ (by omega)
          have w3 : IntKind.i64.wrap (y2) = y2 := IntWalk.i64_in _ (by omega)
          have w4 : IntKind.i64.wrap (50 + y2) = 50 + y2 := IntWalk.i64_in _ (by omega)
          have w5 : IntKind.i64.wrap (y0) = y0 := IntWalk.i64_in _ (by omega)
          have w6 : y0.tdiv 8 = y0 / 8 := Int.tdiv_eq_ediv_of_nonneg (by omega)
          have w7 : IntKind.i64.wrap (y0 / 8) = y0 / 8 := IntWalk.i64_in _ (by omega)
          have w8 : IntKind.i64.wrap ((50 + y2) + (y0 / 8)) = (50 + y2) + (y0 / 8) := IntWalk.i64_in _ (by omega)
          have w9 : IntKind.i64.wrap (y3) = y3 := IntWalk.i64_in _ (by omega)
          have w10 : y3.tmod 100 = y3 % 100 := Int.tmod_eq_emod_of_nonneg (by omega)
          have w11 : y3.tmod 100 = y3 % 100 := Int.tmod_eq_emod_of_nonneg (by omega)
          have w12 : y3.tdiv 16 = y3 / 16 := Int.tdiv_eq_ediv_of_nonneg (by omega)
          have w13 : IntKind.i64.wrap (y3 / 16) = y3 / 16 := IntWalk.i64_in _ (by omega)
          have w14 : IntKind.i64.wrap ((y3 % 100) + (y3 / 16)) = (y3 % 100) + (y3 / 16) := IntWalk.i64_in _ (by omega)
          have w15 : IntKind.i64.wrap (y4) = y4 := IntWalk.i64_in _ (by omega)
          have w16 : IntKind.i64.wrap (1000 * y4) = 1000 * y4 := IntWalk.i64_in _ (by omega)
          have w17 : IntKind.i64.wrap (y5) = y5 := IntWalk.i64_in _ (by omega)
          have w18 : IntKind.i64.wrap (10 * y5) = 10 * y5 := IntWalk.i64_in _ (by omega)
          refine wp_region_facts 44 [(1, 0), (3, 2), (4, 3), (5, 4), (7, 6), (8, 7), (9, 8), (11, 10), (12, 11), (13, 12), (15, 14), (16, 15), (17, 16), (18, 13), (18, 17), (19, 9), (19, 18), (21, 20), (22, 21), (23, 22), (25, 24), (26, 25), (27, 26), (29, 28), (30, 29), (31, 30), (32, 27), (32, 31), (33, 23), (33, 32), (35, 34), (36, 35), (37, 36), (39, 38), (40, 39), (41, 40), (42, 1), (42, 5), (42, 19), (42, 33), (42, 37), (42, 41)] (fun x => ⟨#[s 0, .pointer (some ⟨w.heap.size, 0, none⟩), .pointer (some ⟨(w.heap.size + 1), 0, none⟩), .pointer (some ⟨(w.heap.size + 1 + 1), 0, none⟩), .int .i64 (k : Int), .pointer (some ⟨wr.heap.size, 0, none⟩), x 43, undef, undef, undef, s 10, r 11, r 12, r 13, r 14, r 15, r 16, r 17, r 18, r 19, r 20, r 21, r 22, r 23, r 24, r 25, r 26, r 27, r 28, r 29, r 30, r 31, r 32, r 33, r 34, r 35, r 36, r 37, r 38, x 0, x 1, x 2, x 3, x 4, x 5, x 6, x 7, x 8, x 9, x 10, x 11, x 12, x 13, x 14, x 15, x 16, x 17, x 18, x 19, x 20, x 21, x 22, x 23, x 24, x 25, x 26, x 27, x 28, x 29, x 30, x 31, x 32, x 33, x 34, x 35, x 36, x 37, x 38, x 39, x 40, x 41, x 42, r 82, r 83, r 84, r 85, r 86, r 87, r 88, r 89, r 90, r 91, r 92, r 93, r 94, r 95, undef, undef, undef, undef, undef, undef, undef, undef, undef, undef, undef, undef, undef, undef, undef, undef, undef, undef, undef, undef, undef, undef, undef, undef, undef, undef, undef, undef, undef, undef, undef, undef, undef, undef, undef, undef, undef, undef, undef, undef, undef, undef, undef, undef, undef, undef, undef, undef, undef, undef, undef, undef, undef, undef, undef, undef, undef, undef, undef, undef, undef, undef, undef], []⟩) (fun i => [r 39, r 40, r 41, r 42, r 43, r 44, r 45, r 46, r 47, r 48, r 49, r 50, r 51, r 52, r 53, r 54, r 55, r 56, r 57, r 58, r 59, r 60, r 61, r 62, r 63, r 64, r 65, r 66, r 67, r 68, r 69, r 70, r 71, r 72, r 73, r 74, r 75, r 76, r 77, r 78, r 79, r 80, r 81, r 6].getD i undef) [fun _ x => x = .int .i64 (k : Int), fun _ x => x = .int .i64 (1 + (k : Int)), fun _ x => x = .pointer (some ⟨wr.heap.size, 1, none⟩), fun _ x => x = .int .u8 y1, fun _ x => x = .int .i64 y1, fun _ x => x = .int .i64 (50 + y1), fun _ x => x = .pointer (some ⟨wr.heap.size, 2, none⟩), fun _ x => x = .int .u8 y2, fun _ x => x = .int .i64 y2, fun _ x => x = .int .i64 (50 + y2), fun _ x => x = .pointer (some ⟨wr.heap.size, 2, none⟩), fun _ x => x = .int .u8 y2, fun _ x => x = .int .i64 y2, fun _ x => x = .int .i64 (50 + y2), fun _ x => x = .pointer (some ⟨wr.heap.size, 0, none⟩), fun _ x => x = .int .u8 y0, fun _ x => x = .int .i64 y0, fun _ x => x = .int .i64 (y0 / 8), fun _ x => x = .int .i64 ((50 + y2) + (y0 / 8)), fun _ x => x = .agg #[.int .i64 (50 + y2), .int .i64 ((50 + y2) + (y0 / 8))], fun _ x => x = .pointer (some ⟨wr.heap.size, 3, none⟩), fun _ x => x = .int .u8 y3, fun _ x => x = .int .i64 y3, fun _ x => x = .int .i64 (y3 % 100), fun _ x => x = .pointer (some ⟨wr.heap.size, 3, none⟩), fun _ x => x = .int .u8 y3, fun _ x => x = .int .i64 y3, fun _ x => x = .int .i64 (y3 % 100), fun _ x => x = .pointer (some ⟨wr.heap.size, 3, none⟩), fun _ x => x = .int .u8 y3, fun _ x => x = .int .i64 y3, fun _ x => x = .int .i64 (y3 / 16), fun _ x => x = .int .i64 ((y3 % 100) + (y3 / 16)), fun _ x => x = .agg #[.int .i64 (y3 % 100), .int .i64 ((y3 % 100) + (y3 / 16))], fun _ x => x = .pointer (some ⟨wr.heap.size, 4, none⟩), fun _ x => x = .int .u8 y4, fun _ x => x = .int .i64 y4, fun _ x => x = .int .i64 (1000 * y4), fun _ x => x = .pointer (some ⟨wr.heap.size, 5, none⟩), fun _ x => x = .int .u8 y5, fun _ x => x = .int .i64 y5, fun _ x => x = .int .i64 (10 * y5), fun _ x => x = .agg #[.int .i64 (1 + (k : Int)), .int .i64 (50 + y1), .int .i64 (50 + y2), .int .i64 ((50 + y2) + (y0 / 8)), .int .i64 (y3 % 100), .int .i64 ((y3 % 100) + (y3 / 16)), .int .i64 (1000 * y4), .int .i64 (10 * y5)], fun v x => ∃ b, x = .pointer (some ⟨b, 0, none⟩) ∧ wc.heap.size ≤ b ∧ Own v b [.int .i64 0, .int .i64 0, .int .i64 0, .int .i64 0, .int .i64 0, .int .i64 0, .int .i64 0, .int .i64 0]] (by rfl) (by kernel_rfl) (by kernel_rfl) (by kernel_rfl) (stays_cons (Stays.eq _) (stays_cons (Stays.eq _) (stays_cons (Stays.eq _) (stays_cons (Stays.eq _) (stays_cons (Stays.eq _) (stays_cons (Stays.eq _) (stays_cons (Stays.eq _) (stays_cons (Stays.eq _) (stays_cons (Stays.eq _) (stays_cons (Stays.eq _) (stays_cons (Stays.eq _) (stays_cons (Stays.eq _) (stays_cons (Stays.eq _) (stays_cons (Stays.eq _) (stays_cons (Stays.eq _) (stays_cons (Stays.eq _) (stays_cons (Stays.eq _) (stays_cons (Stays.eq _) (stays_cons (Stays.eq _) (stays_cons (Stays.eq _) (stays_cons (Stays.eq _) (stays_cons (Stays.eq _) (stays_cons (Stays.eq _) (stays_cons (Stays.eq _) (stays_cons (Stays.eq _) (stays_cons (Stays.eq _) (stays_cons (Stays.eq _) (stays_cons (Stays.eq _) (stays_cons (Stays.eq _) (stays_cons (Stays.eq _) (stays_cons (Stays.eq _) (stays_cons (Stays.eq _) (stays_cons (Stays.eq _) (stays_cons (Stays.eq _) (stays_cons (Stays.eq _) (stays_cons (Stays.eq _) (stays_cons (Stays.eq _) (stays_cons (Stays.eq _) (stays_cons (Stays.eq _) (stays_cons (Stays.eq _) (stays_cons (Stays.eq _) (stays_cons (Stays.eq _) (stays_cons (Stays.eq _) (stays_cons ((show Stays (fun v x => ∃ b, x = .pointer (some ⟨b, 0, none⟩) ∧ wc.heap.size ≤ b ∧ Own v b [.int .i64 0, .int .i64 0, .int .i64 0, .int .i64 0, .int .i64 0, .int .i64 0, .int .i64 0, .int .i64 0]) from fun v v' x g ⟨b, e, h, o⟩ => ⟨b, e, h, o.keep g⟩)) stays_nil)))))))))))))))))))))))))))))))))))))))))))) ?step8 ?fin8
          case step8 =>
            rintro i hi x v gv hd K hK
            have hi8 : i = 0 ∨ i = 1 ∨ i = 2 ∨ i = 3 ∨ i = 4 ∨ i = 5 ∨ i = 6 ∨ i = 7 ∨ i = 8 ∨ i = 9 ∨ i = 10 ∨ i = 11 ∨ i = 12 ∨ i = 13 ∨ i = 14 ∨ i = 15 ∨ i = 16 ∨ i = 17 ∨ i = 18 ∨ i = 19 ∨ i = 20 ∨ i = 21 ∨ i = 22 ∨ i = 23 ∨ i = 24 ∨ i = 25 ∨ i = 26 ∨ i = 27 ∨ i = 28 ∨ i = 29 ∨ i = 30 ∨ i = 31 ∨ i = 32 ∨ i = 33 ∨ i = 34 ∨ i = 35 ∨ i = 36 ∨ i = 37 ∨ i = 38 ∨ i = 39 ∨ i = 40 ∨ i = 41 ∨ i = 42 ∨ i = 43 := by omega
            rcases hi8 with rfl | rfl | rfl | rfl | rfl | rfl | rfl | rfl | rfl | rfl | rfl | rfl | rfl | rfl | rfl | rfl | rfl | rfl | rfl | rfl | rfl | rfl | rfl | rfl | rfl | rfl | rfl | rfl | rfl | rfl | rfl | rfl | rfl | rfl | rfl | rfl | rfl | rfl | rfl | rfl | rfl | rfl | rfl | rfl
            · show wpOp Try.prog _ _ 0 K (⟨#[s 0, .pointer (some ⟨w.heap.size, 0, none⟩), .pointer (some ⟨(w.heap.size + 1), 0, none⟩), .pointer (some ⟨(w.heap.size + 1 + 1), 0, none⟩), .int .i64 (k : Int), .pointer (some ⟨wr.heap.size, 0, none⟩), x 43, undef, undef, undef, s 10, r 11, r 12, r 13, r 14, r 15, r 16, r 17, r 18, r 19, r 20, r 21, r 22, r 23, r 24, r 25, r 26, r 27, r 28, r 29, r 30, r 31, r 32, r 33, r 34, r 35, r 36, r 37, r 38, x 0, x 1, x 2, x 3, x 4, x 5, x 6, x 7, x 8, x 9, x 10, x 11, x 12, x 13, x 14, x 15, x 16, x 17, x 18, x 19, x 20, x 21, x 22, x 23, x 24, x 25, x 26, x 27, x 28, x 29, x 30, x 31, x 32, x 33, x 34, x 35, x 36, x 37, x 38, x 39, x 40, x 41, x 42, r 82, r 83, r 84, r 85, r 86, r 87, r 88, r 89, r 90, r 91, r 92, r 93, r 94, r 95, undef, undef, undef, undef, undef, undef, undef, undef, undef, undef, undef, undef, undef, undef, undef, undef, undef, undef, undef, undef, undef, undef, undef, undef, undef, undef, undef, undef, undef, undef, undef, undef, undef, undef, undef, undef, undef, undef, undef, undef, undef, undef, undef, undef, undef, undef, undef, undef, undef, undef, undef, undef, undef, undef, undef, undef, undef, undef, undef, undef, undef, undef, undef], []⟩ : Act) v
              refine wpOp_step rfl (fun K' hK' => ?_)
              go_simp
              exact hK' _ _ (hK _ _ (Below.refl _ _) (at_of rfl (rfl)))
            · obtain ⟨x, rfl⟩ := upd_of (show x 0 = .int .i64 (k : Int) from hd 0 _ (by simp) rfl)
              show wpOp Try.prog _ _ 1 K (⟨#[s 0, .pointer (some ⟨w.heap.size, 0, none⟩), .pointer (some ⟨(w.heap.size + 1), 0, none⟩), .pointer (some ⟨(w.heap.size + 1 + 1), 0, none⟩), .int .i64 (k : Int), .pointer (some ⟨wr.heap.size, 0, none⟩), x 43, undef, undef, undef, s 10, r 11, r 12, r 13, r 14, r 15, r 16, r 17, r 18, r 19, r 20, r 21, r 22, r 23, r 24, r 25, r 26, r 27, r 28, r 29, r 30, r 31, r 32, r 33, r 34, r 35, r 36, r 37, r 38, .int .i64 (k : Int), x 1, x 2, x 3, x 4, x 5, x 6, x 7, x 8, x 9, x 10, x 11, x 12, x 13, x 14, x 15, x 16, x 17, x 18, x 19, x 20, x 21, x 22, x 23, x 24, x 25, x 26, x 27, x 28, x 29, x 30, x 31, x 32, x 33, x 34, x 35, x 36, x 37, x 38, x 39, x 40, x 41, x 42, r 82, r 83, r 84, r 85, r 86, r 87, r 88, r 89, r 90, r 91, r 92, r 93, r 94, r 95, undef, undef, undef, undef, undef, undef, undef, undef, undef, undef, undef, undef, undef, undef, undef, undef, undef, undef, undef, undef, undef, undef, undef, undef, undef, undef, undef, undef, undef, undef, undef, undef, undef, undef, undef, undef, undef, undef, undef, undef, undef, undef, undef, undef, undef, undef, undef, undef, undef, undef, undef, undef, undef, undef, undef, undef, undef, undef, undef, undef, undef, undef, undef], []⟩ : Act) v
              refine wpOp_step rfl (fun K' hK' => ?_)
              go_simp
              exact hK' _ _ (hK _ _ (Below.refl _ _) (at_of rfl (rfl)))
            · show wpOp Try.prog _ _ 2 K (⟨#[s 0, .pointer (some ⟨w.heap.size, 0, none⟩), .pointer (some ⟨(w.heap.size + 1), 0, none⟩), .pointer (some ⟨(w.heap.size + 1 + 1), 0, none⟩), .int .i64 (k : Int), .pointer (some ⟨wr.heap.size, 0, none⟩), x 43, undef, undef, undef, s 10, r 11, r 12, r 13, r 14, r 15, r 16, r 17, r 18, r 19, r 20, r 21, r 22, r 23, r 24, r 25, r 26, r 27, r 28, r 29, r 30, r 31, r 32, r 33, r 34, r 35, r 36, r 37, r 38, x 0, x 1, x 2, x 3, x 4, x 5, x 6, x 7, x 8, x 9, x 10, x 11, x 12, x 13, x 14, x 15, x 16, x 17, x 18, x 19, x 20, x 21, x 22, x 23, x 24, x 25, x 26, x 27, x 28, x 29, x 30, x 31, x 32, x 33, x 34, x 35, x 36, x 37, x 38, x 39, x 40, x 41, x 42, r 82, r 83, r 84, r 85, r 86, r 87, r 88, r 89, r 90, r 91, r 92, r 93, r 94, r 95, undef, undef, undef, undef, undef, undef, undef, undef, undef, undef, undef, undef, undef, undef, undef, undef, undef, undef, undef, undef, undef, undef, undef, undef, undef, undef, undef, undef, undef, undef, undef, undef, undef, undef, undef, undef, undef, undef, undef, undef, undef, undef, undef, undef, undef, undef, undef, undef, undef, undef, undef, undef, undef, undef, undef, undef, undef, undef, undef, undef, undef, undef, undef], []⟩ : Act) v
              refine wpOp_step rfl (fun K' hK' => ?_)
              go_simp
              exact hK' _ _ (hK _ _ (Below.refl _ _) (at_of rfl (rfl)))
            · obtain ⟨x, rfl⟩ := upd_of (show x 2 = .pointer (some ⟨wr.heap.size, 1, none⟩) from hd 2 _ (by simp) rfl)
              show wpOp Try.prog _ _ 3 K (⟨#[s 0, .pointer (some ⟨w.heap.size, 0, none⟩), .pointer (some ⟨(w.heap.size + 1), 0, none⟩), .pointer (some ⟨(w.heap.size + 1 + 1), 0, none⟩), .int .i64 (k : Int), .pointer (some ⟨wr.heap.size, 0, none⟩), x 43, undef, undef, undef, s 10, r 11, r 12, r 13, r 14, r 15, r 16, r 17, r 18, r 19, r 20, r 21, r 22, r 23, r 24, r 25, r 26, r 27, r 28, r 29, r 30, r 31, r 32, r 33, r 34, r 35, r 36, r 37, r 38, x 0, x 1, .pointer (some ⟨wr.heap.size, 1, none⟩), x 3, x 4, x 5, x 6, x 7, x 8, x 9, x 10, x 11, x 12, x 13, x 14, x 15, x 16, x 17, x 18, x 19, x 20, x 21, x 22, x 23, x 24, x 25, x 26, x 27, x 28, x 29, x 30, x 31, x 32, x 33, x 34, x 35, x 36, x 37, x 38, x 39, x 40, x 41, x 42, r 82, r 83, r 84, r 85, r 86, r 87, r 88, r 89, r 90, r 91, r 92, r 93, r 94, r 95, undef, undef, undef, undef, undef, undef, undef, undef, undef, undef, undef, undef, undef, undef, undef, undef, undef, undef, undef, undef, undef, undef, undef, undef, undef, undef, undef, undef, undef, undef, undef, undef, undef, undef, undef, undef, undef, undef, undef, undef, undef, undef, undef, undef, undef, undef, undef, undef, undef, undef, undef, undef, undef, undef, undef, undef, undef, undef, undef, undef, undef, undef, undef], []⟩ : Act) v
              refine wpOp_step rfl (fun K' hK' => ?_)
              have q := (ov.1.keep gv).2 1 _ rfl
              go_simp
              exact hK' _ _ (hK _ _ (Below.refl _ _) (at_of rfl (rfl)))
            · obtain ⟨x, rfl⟩ := upd_of (show x 3 = .int .u8 y1 from hd 3 _ (by simp) rfl)
              show wpOp Try.prog _ _ 4 K (⟨#[s 0, .pointer (some ⟨w.heap.size, 0, none⟩), .pointer (some ⟨(w.heap.size + 1), 0, none⟩), .pointer (some ⟨(w.heap.size + 1 + 1), 0, none⟩), .int .i64 (k : Int), .pointer (some ⟨wr.heap.size, 0, none⟩), x 43, undef, undef, undef, s 10, r 11, r 12, r 13, r 14, r 15, r 16, r 17, r 18, r 19, r 20, r 21, r 22, r 23, r 24, r 25, r 26, r 27, r 28, r 29, r 30, r 31, r 32, r 33, r 34, r 35, r 36, r 37, r 38, x 0, x 1, x 2, .int .u8 y1, x 4, x 5, x 6, x 7, x 8, x 9, x 10, x 11, x 12, x 13, x 14, x 15, x 16, x 17, x 18, x 19, x 20, x 21, x 22, x 23, x 24, x 25, x 26, x 27, x 28, x 29, x 30, x 31, x 32, x 33, x 34, x 35, x 36, x 37, x 38, x 39, x 40, x 41, x 42, r 82, r 83, r 84, r 85, r 86, r 87, r 88, r 89, r 90, r 91, r 92, r 93, r 94, r 95, undef, undef, undef, undef, undef, undef, undef, undef, undef, undef, undef, undef, undef, undef, undef, undef, undef, undef, undef, undef, undef, undef, undef, undef, undef, undef, undef, undef, undef, undef, undef, undef, undef, undef, undef, undef, undef, undef, undef, undef, undef, undef, undef, undef, undef, undef, undef, undef, undef, undef, undef, undef, undef, undef, undef, undef, undef, undef, undef, undef, undef, undef, undef], []⟩ : Act) v
              refine wpOp_step rfl (fun K' hK' => ?_)
              go_simp
              exact hK' _ _ (hK _ _ (Below.refl _ _) (at_of rfl (rfl)))
            · obtain ⟨x, rfl⟩ := upd_of (show x 4 = .int .i64 y1 from hd 4 _ (by simp) rfl)
              show wpOp Try.prog _ _ 5 K (⟨#[s 0, .pointer (some ⟨w.heap.size, 0, none⟩), .pointer (some ⟨(w.heap.size + 1), 0, none⟩), .pointer (some ⟨(w.heap.size + 1 + 1), 0, none⟩), .int .i64 (k : Int), .pointer (some ⟨wr.heap.size, 0, none⟩), x 43, undef, undef, undef, s 10, r 11, r 12, r 13, r 14, r 15, r 16, r 17, r 18, r 19, r 20, r 21, r 22, r 23, r 24, r 25, r 26, r 27, r 28, r 29, r 30, r 31, r 32, r 33, r 34, r 35, r 36, r 37, r 38, x 0, x 1, x 2, x 3, .int .i64 y1, x 5, x 6, x 7, x 8, x 9, x 10, x 11, x 12, x 13, x 14, x 15, x 16, x 17, x 18, x 19, x 20, x 21, x 22, x 23, x 24, x 25, x 26, x 27, x 28, x 29, x 30, x 31, x 32, x 33, x 34, x 35, x 36, x 37, x 38, x 39, x 40, x 41, x 42, r 82, r 83, r 84, r 85, r 86, r 87, r 88, r 89, r 90, r 91, r 92, r 93, r 94, r 95, undef, undef, undef, undef, undef, undef, undef, undef, undef, undef, undef, undef, undef, undef, undef, undef, undef, undef, undef, undef, undef, undef, undef, undef, undef, undef, undef, undef, undef, undef, undef, undef, undef, undef, undef, undef, undef, undef, undef, undef, undef, undef, undef, undef, undef, undef, undef, undef, undef, undef, undef, undef, undef, undef, undef, undef, undef, undef, undef, undef, undef, undef, undef], []⟩ : Act) v
              refine wpOp_step rfl (fun K' hK' => ?_)
              go_simp
              exact hK' _ _ (hK _ _ (Below.refl _ _) (at_of rfl (rfl)))
            · show wpOp Try.prog _ _ 6 K (⟨#[s 0, .pointer (some ⟨w.heap.size, 0, none⟩), .pointer (some ⟨(w.heap.size + 1), 0, none⟩), .pointer (some ⟨(w.heap.size + 1 + 1), 0, none⟩), .int .i64 (k : Int), .pointer (some ⟨wr.heap.size, 0, none⟩), x 43, undef, undef, undef, s 10, r 11, r 12, r 13, r 14, r 15, r 16, r 17, r 18, r 19, r 20, r 21, r 22, r 23, r 24, r 25, r 26, r 27, r 28, r 29, r 30, r 31, r 32, r 33, r 34, r 35, r 36, r 37, r 38, x 0, x 1, x 2, x 3, x 4, x 5, x 6, x 7, x 8, x 9, x 10, x 11, x 12, x 13, x 14, x 15, x 16, x 17, x 18, x 19, x 20, x 21, x 22, x 23, x 24, x 25, x 26, x 27, x 28, x 29, x 30, x 31, x 32, x 33, x 34, x 35, x 36, x 37, x 38, x 39, x 40, x 41, x 42, r 82, r 83, r 84, r 85, r 86, r 87, r 88, r 89, r 90, r 91, r 92, r 93, r 94, r 95, undef, undef, undef, undef, undef, undef, undef, undef, undef, undef, undef, undef, undef, undef, undef, undef, undef, undef, undef, undef, undef, undef, undef, undef, undef, undef, undef, undef, undef, undef, undef, undef, undef, undef, undef, undef, undef, undef, undef, undef, undef, undef, undef, undef, undef, undef, undef, undef, undef, undef, undef, undef, undef, undef, undef, undef, undef, undef, undef, undef, undef, undef, undef], []⟩ : Act) v
              refine wpOp_step rfl (fun K' hK' => ?_)
              go_simp
              exact hK' _ _ (hK _ _ (Below.refl _ _) (at_of rfl (rfl)))
            · obtain ⟨x, rfl⟩ := upd_of (show x 6 = .pointer (some ⟨wr.heap.size, 2, none⟩) from hd 6 _ (by simp) rfl)
              show wpOp Try.prog _ _ 7 K (⟨#[s 0, .pointer (some ⟨w.heap.size, 0, none⟩), .pointer (some ⟨(w.heap.size + 1), 0, none⟩), .pointer (some ⟨(w.heap.size + 1 + 1), 0, none⟩), .int .i64 (k : Int), .pointer (some ⟨wr.heap.size, 0, none⟩), x 43, undef, undef, undef, s 10, r 11, r 12, r 13, r 14, r 15, r 16, r 17, r 18, r 19, r 20, r 21, r 22, r 23, r 24, r 25, r 26, r 27, r 28, r 29, r 30, r 31, r 32, r 33, r 34, r 35, r 36, r 37, r 38, x 0, x 1, x 2, x 3, x 4, x 5, .pointer (some ⟨wr.heap.size, 2, none⟩), x 7, x 8, x 9, x 10, x 11, x 12, x 13, x 14, x 15, x 16, x 17, x 18, x 19, x 20, x 21, x 22, x 23, x 24, x 25, x 26, x 27, x 28, x 29, x 30, x 31, x 32, x 33, x 34, x 35, x 36, x 37, x 38, x 39, x 40, x 41, x 42, r 82, r 83, r 84, r 85, r 86, r 87, r 88, r 89, r 90, r 91, r 92, r 93, r 94, r 95, undef, undef, undef, undef, undef, undef, undef, undef, undef, undef, undef, undef, undef, undef, undef, undef, undef, undef, undef, undef, undef, undef, undef, undef, undef, undef, undef, undef, undef, undef, undef, undef, undef, undef, undef, undef, undef, undef, undef, undef, undef, undef, undef, undef, undef, undef, undef, undef, undef, undef, undef, undef, undef, undef, undef, undef, undef, undef, undef, undef, undef, undef, undef], []⟩ : Act) v
              refine wpOp_step rfl (fun K' hK' => ?_)
              have q := (ov.1.keep gv).2 2 _ rfl
              go_simp
              exact hK' _ _ (hK _ _ (Below.refl _ _) (at_of rfl (rfl)))
            · obtain ⟨x, rfl⟩ := upd_of (show x 7 = .int .u8 y2 from hd 7 _ (by simp) rfl)
              show wpOp Try.prog _ _ 8 K (⟨#[s 0, .pointer (some ⟨w.heap.size, 0, none⟩), .pointer (some ⟨(w.heap.size + 1), 0, none⟩), .pointer (some ⟨(w.heap.size + 1 + 1), 0, none⟩), .int .i64 (k : Int), .pointer (some ⟨wr.heap.size, 0, none⟩), x 43, undef, undef, undef, s 10, r 11, r 12, r 13, r 14, r 15, r 16, r 17, r 18, r 19, r 20, r 21, r 22, r 23, r 24, r 25, r 26, r 27, r 28, r 29, r 30, r 31, r 32, r 33, r 34, r 35, r 36, r 37, r 38, x 0, x 1, x 2, x 3, x 4, x 5, x 6, .int .u8 y2, x 8, x 9, x 10, x 11, x 12, x 13, x 14, x 15, x 16, x 17, x 18, x 19, x 20, x 21, x 22, x 23, x 24, x 25, x 26, x 27, x 28, x 29, x 30, x 31, x 32, x 33, x 34, x 35, x 36, x 37, x 38, x 39, x 40, x 41, x 42, r 82, r 83, r 84, r 85, r 86, r 87, r 88, r 89, r 90, r 91, r 92, r 93, r 94, r 95, undef, undef, undef, undef, undef, undef, undef, undef, undef, undef, undef, undef, undef, undef, undef, undef, undef, undef, undef, undef, undef, undef, undef, undef, undef, undef, undef, undef, undef, undef, undef, undef, undef, undef, undef, undef, undef, undef, undef, undef, undef, undef, undef, undef, undef, undef, undef, undef, undef, undef, undef, undef, undef, undef, undef, undef, undef, undef, undef, undef, undef, undef, undef], []⟩ : Act) v
              refine wpOp_step rfl (fun K' hK' => ?_)
              go_simp
              exact hK' _ _ (hK _ _ (Below.refl _ _) (at_of rfl (rfl)))
            · obtain ⟨x, rfl⟩ := upd_of (show x 8 = .int .i64 y2 from hd 8 _ (by simp) rfl)
              show wpOp Try.prog _ _ 9 K (⟨#[s 0, .pointer (some ⟨w.heap.size, 0, none⟩), .pointer (some ⟨(w.heap.size + 1), 0, none⟩), .pointer (some ⟨(w.heap.size + 1 + 1), 0, none⟩), .int .i64 (k : Int), .pointer (some ⟨wr.heap.size, 0, none⟩), x 43, undef, undef, undef, s 10, r 11, r 12, r 13, r 14, r 15, r 16, r 17, r 18, r 19, r 20, r 21, r 22, r 23, r 24, r 25, r 26, r 27, r 28, r 29, r 30, r 31, r 32, r 33, r 34, r 35, r 36, r 37, r 38, x 0, x 1, x 2, x 3, x 4, x 5, x 6, x 7, .int .i64 y2, x 9, x 10, x 11, x 12, x 13, x 14, x 15, x 16, x 17, x 18, x 19, x 20, x 21, x 22, x 23, x 24, x 25, x 26, x 27, x 28, x 29, x 30, x 31, x 32, x 33, x 34, x 35, x 36, x 37, x 38, x 39, x 40, x 41, x 42, r 82, r 83, r 84, r 85, r 86, r 87, r 88, r 89, r 90, r 91, r 92, r 93, r 94, r 95, undef, undef, undef, undef, undef, undef, undef, undef, undef, undef, undef, undef, undef, undef, undef, undef, undef, undef, undef, undef, undef, undef, undef, undef, undef, undef, undef, undef, undef, undef, undef, undef, undef, undef, undef, undef, undef, undef, undef, undef, undef, undef, undef, undef, undef, undef, undef, undef, undef, undef, undef, undef, undef, undef, undef, undef, undef, undef, undef, undef, undef, undef, undef], []⟩ : Act) v
              refine wpOp_step rfl (fun K' hK' => ?_)
              go_simp
              exact hK' _ _ (hK _ _ (Below.refl _ _) (at_of rfl (rfl)))
            · show wpOp Try.prog _ _ 10 K (⟨#[s 0, .pointer (some ⟨w.heap.size, 0, none⟩), .pointer (some ⟨(w.heap.size + 1), 0, none⟩), .pointer (some ⟨(w.heap.size + 1 + 1), 0, none⟩), .int .i64 (k : Int), .pointer (some ⟨wr.heap.size, 0, none⟩), x 43, undef, undef, undef, s 10, r 11, r 12, r 13, r 14, r 15, r 16, r 17, r 18, r 19, r 20, r 21, r 22, r 23, r 24, r 25, r 26, r 27, r 28, r 29, r 30, r 31, r 32, r 33, r 34, r 35, r 36, r 37, r 38, x 0, x 1, x 2, x 3, x 4, x 5, x 6, x 7, x 8, x 9, x 10, x 11, x 12, x 13, x 14, x 15, x 16, x 17, x 18, x 19, x 20, x 21, x 22, x 23, x 24, x 25, x 26, x 27, x 28, x 29, x 30, x 31, x 32, x 33, x 34, x 35, x 36, x 37, x 38, x 39, x 40, x 41, x 42, r 82, r 83, r 84, r 85, r 86, r 87, r 88, r 89, r 90, r 91, r 92, r 93, r 94, r 95, undef, undef, undef, undef, undef, undef, undef, undef, undef, undef, undef, undef, undef, undef, undef, undef, undef, undef, undef, undef, undef, undef, undef, undef, undef, undef, undef, undef, undef, undef, undef, undef, undef, undef, undef, undef, undef, undef, undef, undef, undef, undef, undef, undef, undef, undef, undef, undef, undef, undef, undef, undef, undef, undef, undef, undef, undef, undef, undef, undef, undef, undef, undef], []⟩ : Act) v
              refine wpOp_step rfl (fun K' hK' => ?_)
              go_simp
              exact hK' _ _ (hK _ _ (Below.refl _ _) (at_of rfl (rfl)))
            · obtain ⟨x, rfl⟩ := upd_of (show x 10 = .pointer (some ⟨wr.heap.size, 2, none⟩) from hd 10 _ (by simp) rfl)
              show wpOp Try.prog _ _ 11 K (⟨#[s 0, .pointer (some ⟨w.heap.size, 0, none⟩), .pointer (some ⟨(w.heap.size + 1), 0, none⟩), .pointer (some ⟨(w.heap.size + 1 + 1), 0, none⟩), .int .i64 (k : Int), .pointer (some ⟨wr.heap.size, 0, none⟩), x 43, undef, undef, undef, s 10, r 11, r 12, r 13, r 14, r 15, r 16, r 17, r 18, r 19, r 20, r 21, r 22, r 23, r 24, r 25, r 26, r 27, r 28, r 29, r 30, r 31, r 32, r 33, r 34, r 35, r 36, r 37, r 38, x 0, x 1, x 2, x 3, x 4, x 5, x 6, x 7, x 8, x 9, .pointer (some ⟨wr.heap.size, 2, none⟩), x 11, x 12, x 13, x 14, x 15, x 16, x 17, x 18, x 19, x 20, x 21, x 22, x 23, x 24, x 25, x 26, x 27, x 28, x 29, x 30, x 31, x 32, x 33, x 34, x 35, x 36, x 37, x 38, x 39, x 40, x 41, x 42, r 82, r 83, r 84, r 85, r 86, r 87, r 88, r 89, r 90, r 91, r 92, r 93, r 94, r 95, undef, undef, undef, undef, undef, undef, undef, undef, undef, undef, undef, undef, undef, undef, undef, undef, undef, undef, undef, undef, undef, undef, undef, undef, undef, undef, undef, undef, undef, undef, undef, undef, undef, undef, undef, undef, undef, undef, undef, undef, undef, undef, undef, undef, undef, undef, undef, undef, undef, undef, undef, undef, undef, undef, undef, undef, undef, undef, undef, undef, undef, undef, undef], []⟩ : Act) v
              refine wpOp_step rfl (fun K' hK' => ?_)
              have q := (ov.1.keep gv).2 2 _ rfl
              go_simp
              exact hK' _ _ (hK _ _ (Below.refl _ _) (at_of rfl (rfl)))
            · obtain ⟨x, rfl⟩ := upd_of (show x 11 = .int .u8 y2 from hd 11 _ (by simp) rfl)
              show wpOp Try.prog _ _ 12 K (⟨#[s 0, .pointer (some ⟨w.heap.size, 0, none⟩), .pointer (some ⟨(w.heap.size + 1), 0, none⟩), .pointer (some ⟨(w.heap.size + 1 + 1), 0, none⟩), .int .i64 (k : Int), .pointer (some ⟨wr.heap.size, 0, none⟩), x 43, undef, undef, undef, s 10, r 11, r 12, r 13, r 14, r 15, r 16, r 17, r 18, r 19, r 20, r 21, r 22, r 23, r 24, r 25, r 26, r 27, r 28, r 29, r 30, r 31, r 32, r 33, r 34, r 35, r 36, r 37, r 38, x 0, x 1, x 2, x 3, x 4, x 5, x 6, x 7, x 8, x 9, x 10, .int .u8 y2, x 12, x 13, x 14, x 15, x 16, x 17, x 18, x 19, x 20, x 21, x 22, x 23, x 24, x 25, x 26, x 27, x 28, x 29, x 30, x 31, x 32, x 33, x 34, x 35, x 36, x 37, x 38, x 39, x 40, x 41, x 42, r 82, r 83, r 84, r 85, r 86, r 87, r 88, r 89, r 90, r 91, r 92, r 93, r 94, r 95, undef, undef, undef, undef, undef, undef, undef, undef, undef, undef, undef, undef, undef, undef, undef, undef, undef, undef, undef, undef, undef, undef, undef, undef, undef, undef, undef, undef, undef, undef, undef, undef, undef, undef, undef, undef, undef, undef, undef, undef, undef, undef, undef, undef, undef, undef, undef, undef, undef, undef, undef, undef, undef, undef, undef, undef, undef, undef, undef, undef, undef, undef, undef], []⟩ : Act) v
              refine wpOp_step rfl (fun K' hK' => ?_)
              go_simp
              exact hK' _ _ (hK _ _ (Below.refl _ _) (at_of rfl (rfl)))
            · obtain ⟨x, rfl⟩ := upd_of (show x 12 = .int .i64 y2 from hd 12 _ (by simp) rfl)
              show wpOp Try.prog _ _ 13 K (⟨#[s 0, .pointer (some ⟨w.heap.size, 0, none⟩), .pointer (some ⟨(w.heap.size + 1), 0, none⟩), .pointer (some ⟨(w.heap.size + 1 + 1), 0, none⟩), .int .i64 (k : Int), .pointer (some ⟨wr.heap.size, 0, none⟩), x 43, undef, undef, undef, s 10, r 11, r 12, r 13, r 14, r 15, r 16, r 17, r 18, r 19, r 20, r 21, r 22, r 23, r 24, r 25, r 26, r 27, r 28, r 29, r 30, r 31, r 32, r 33, r 34, r 35, r 36, r 37, r 38, x 0, x 1, x 2, x 3, x 4, x 5, x 6, x 7, x 8, x 9, x 10, x 11, .int .i64 y2, x 13, x 14, x 15, x 16, x 17, x 18, x 19, x 20, x 21, x 22, x 23, x 24, x 25, x 26, x 27, x 28, x 29, x 30, x 31, x 32, x 33, x 34, x 35, x 36, x 37, x 38, x 39, x 40, x 41, x 42, r 82, r 83, r 84, r 85, r 86, r 87, r 88, r 89, r 90, r 91, r 92, r 93, r 94, r 95, undef, undef, undef, undef, undef, undef, undef, undef, undef, undef, undef, undef, undef, undef, undef, undef, undef, undef, undef, undef, undef, undef, undef, undef, undef, undef, undef, undef, undef, undef, undef, undef, undef, undef, undef, undef, undef, undef, undef, undef, undef, undef, undef, undef, undef, undef, undef, undef, undef, undef, undef, undef, undef, undef, undef, undef, undef, undef, undef, undef, undef, undef, undef], []⟩ : Act) v
              refine wpOp_step rfl (fun K' hK' => ?_)
              go_simp
              exact hK' _ _ (hK _ _ (Below.refl _ _) (at_of rfl (rfl)))
            · show wpOp Try.prog _ _ 14 K (⟨#[s 0, .pointer (some ⟨w.heap.size, 0, none⟩), .pointer (some ⟨(w.heap.size + 1), 0, none⟩), .pointer (some ⟨(w.heap.size + 1 + 1), 0, none⟩), .int .i64 (k : Int), .pointer (some ⟨wr.heap.size, 0, none⟩), x 43, undef, undef, undef, s 10, r 11, r 12, r 13, r 14, r 15, r 16, r 17, r 18, r 19, r 20, r 21, r 22, r 23, r 24, r 25, r 26, r 27, r 28, r 29, r 30, r 31, r 32, r 33, r 34, r 35, r 36, r 37, r 38, x 0, x 1, x 2, x 3, x 4, x 5, x 6, x 7, x 8, x 9, x 10, x 11, x 12, x 13, x 14, x 15, x 16, x 17, x 18, x 19, x 20, x 21, x 22, x 23, x 24, x 25, x 26, x 27, x 28, x 29, x 30, x 31, x 32, x 33, x 34, x 35, x 36, x 37, x 38, x 39, x 40, x 41, x 42, r 82, r 83, r 84, r 85, r 86, r 87, r 88, r 89, r 90, r 91, r 92, r 93, r 94, r 95, undef, undef, undef, undef, undef, undef, undef, undef, undef, undef, undef, undef, undef, undef, undef, undef, undef, undef, undef, undef, undef, undef, undef, undef, undef, undef, undef, undef, undef, undef, undef, undef, undef, undef, undef, undef, undef, undef, undef, undef, undef, undef, undef, undef, undef, undef, undef, undef, undef, undef, undef, undef, undef, undef, undef, undef, undef, undef, undef, undef, undef, undef, undef], []⟩ : Act) v
              refine wpOp_step rfl (fun K' hK' => ?_)
              go_simp
              exact hK' _ _ (hK _ _ (Below.refl _ _) (at_of rfl (rfl)))
            · obtain ⟨x, rfl⟩ := upd_of (show x 14 = .pointer (some ⟨wr.heap.size, 0, none⟩) from hd 14 _ (by simp) rfl)
              show wpOp Try.prog _ _ 15 K (⟨#[s 0, .pointer (some ⟨w.heap.size, 0, none⟩), .pointer (some ⟨(w.heap.size + 1), 0, none⟩), .pointer (some ⟨(w.heap.size + 1 + 1), 0, none⟩), .int .i64 (k : Int), .pointer (some ⟨wr.heap.size, 0, none⟩), x 43, undef, undef, undef, s 10, r 11, r 12, r 13, r 14, r 15, r 16, r 17, r 18, r 19, r 20, r 21, r 22, r 23, r 24, r 25, r 26, r 27, r 28, r 29, r 30, r 31, r 32, r 33, r 34, r 35, r 36, r 37, r 38, x 0, x 1, x 2, x 3, x 4, x 5, x 6, x 7, x 8, x 9, x 10, x 11, x 12, x 13, .pointer (some ⟨wr.heap.size, 0, none⟩), x 15, x 16, x 17, x 18, x 19, x 20, x 21, x 22, x 23, x 24, x 25, x 26, x 27, x 28, x 29, x 30, x 31, x 32, x 33, x 34, x 35, x 36, x 37, x 38, x 39, x 40, x 41, x 42, r 82, r 83, r 84, r 85, r 86, r 87, r 88, r 89, r 90, r 91, r 92, r 93, r 94, r 95, undef, undef, undef, undef, undef, undef, undef, undef, undef, undef, undef, undef, undef, undef, undef, undef, undef, undef, undef, undef, undef, undef, undef, undef, undef, undef, undef, undef, undef, undef, undef, undef, undef, undef, undef, undef, undef, undef, undef, undef, undef, undef, undef, undef, undef, undef, undef, undef, undef, undef, undef, undef, undef, undef, undef, undef, undef, undef, undef, undef, undef, undef, undef], []⟩ : Act) v
              refine wpOp_step rfl (fun K' hK' => ?_)
              have q := (ov.1.keep gv).2 0 _ rfl
              go_simp
              exact hK' _ _ (hK _ _ (Below.refl _ _) (at_of rfl (rfl)))
            · obtain ⟨x, rfl⟩ := upd_of (show x 15 = .int .u8 y0 from hd 15 _ (by simp) rfl)
              show wpOp Try.prog _ _ 16 K (⟨#[s 0, .pointer (some ⟨w.heap.size, 0, none⟩), .pointer (some ⟨(w.heap.size + 1), 0, none⟩), .pointer (some ⟨(w.heap.size + 1 + 1), 0, none⟩), .int .i64 (k : Int), .pointer (some ⟨wr.heap.size, 0, none⟩), x 43, undef, undef, undef, s 10, r 11, r 12, r 13, r 14, r 15, r 16, r 17, r 18, r 19, r 20, r 21, r 22, r 23, r 24, r 25, r 26, r 27, r 28, r 29, r 30, r 31, r 32, r 33, r 34, r 35, r 36, r 37, r 38, x 0, x 1, x 2, x 3, x 4, x 5, x 6, x 7, x 8, x 9, x 10, x 11, x 12, x 13, x 14, .int .u8 y0, x 16, x 17, x 18, x 19, x 20, x 21, x 22, x 23, x 24, x 25, x 26, x 27, x 28, x 29, x 30, x 31, x 32, x 33, x 34, x 35, x 36, x 37, x 38, x 39, x 40, x 41, x 42, r 82, r 83, r 84, r 85, r 86, r 87, r 88, r 89, r 90, r 91, r 92, r 93, r 94, r 95, undef, undef, undef, undef, undef, undef, undef, undef, undef, undef, undef, undef, undef, undef, undef, undef, undef, undef, undef, undef, undef, undef, undef, undef, undef, undef, undef, undef, undef, undef, undef, undef, undef, undef, undef, undef, undef, undef, undef, undef, undef, undef, undef, undef, undef, undef, undef, undef, undef, undef, undef, undef, undef, undef, undef, undef, undef, undef, undef, undef, undef, undef, undef], []⟩ : Act) v
              refine wpOp_step rfl (fun K' hK' => ?_)
              go_simp
              exact hK' _ _ (hK _ _ (Below.refl _ _) (at_of rfl (rfl)))
            · obtain ⟨x, rfl⟩ := upd_of (show x 16 = .int .i64 y0 from hd 16 _ (by simp) rfl)
              show wpOp Try.prog _ _ 17 K (⟨#[s 0, .pointer (some ⟨w.heap.size, 0, none⟩), .pointer (some ⟨(w.heap.size + 1), 0, none⟩), .pointer (some ⟨(w.heap.size + 1 + 1), 0, none⟩), .int .i64 (k : Int), .pointer (some ⟨wr.heap.size, 0, none⟩), x 43, undef, undef, undef, s 10, r 11, r 12, r 13, r 14, r 15, r 16, r 17, r 18, r 19, r 20, r 21, r 22, r 23, r 24, r 25, r 26, r 27, r 28, r 29, r 30, r 31, r 32, r 33, r 34, r 35, r 36, r 37, r 38, x 0, x 1, x 2, x 3, x 4, x 5, x 6, x 7, x 8, x 9, x 10, x 11, x 12, x 13, x 14, x 15, .int .i64 y0, x 17, x 18, x 19, x 20, x 21, x 22, x 23, x 24, x 25, x 26, x 27, x 28, x 29, x 30, x 31, x 32, x 33, x 34, x 35, x 36, x 37, x 38, x 39, x 40, x 41, x 42, r 82, r 83, r 84, r 85, r 86, r 87, r 88, r 89, r 90, r 91, r 92, r 93, r 94, r 95, undef, undef, undef, undef, undef, undef, undef, undef, undef, undef, undef, undef, undef, undef, undef, undef, undef, undef, undef, undef, undef, undef, undef, undef, undef, undef, undef, undef, undef, undef, undef, undef, undef, undef, undef, undef, undef, undef, undef, undef, undef, undef, undef, undef, undef, undef, undef, undef, undef, undef, undef, undef, undef, undef, undef, undef, undef, undef, undef, undef, undef, undef, undef], []⟩ : Act) v
              refine wpOp_step rfl (fun K' hK' => ?_)
              go_simp
              exact hK' _ _ (hK _ _ (Below.refl _ _) (at_of rfl (rfl)))
            · obtain ⟨x, rfl⟩ := upd_of (show x 13 = .int .i64 (50 + y2) from hd 13 _ (by simp) rfl)
              obtain ⟨x, rfl⟩ := upd_of (show x 17 = .int .i64 (y0 / 8) from hd 17 _ (by simp) rfl)
              show wpOp Try.prog _ _ 18 K (⟨#[s 0, .pointer (some ⟨w.heap.size, 0, none⟩), .pointer (some ⟨(w.heap.size + 1), 0, none⟩), .pointer (some ⟨(w.heap.size + 1 + 1), 0, none⟩), .int .i64 (k : Int), .pointer (some ⟨wr.heap.size, 0, none⟩), x 43, undef, undef, undef, s 10, r 11, r 12, r 13, r 14, r 15, r 16, r 17, r 18, r 19, r 20, r 21, r 22, r 23, r 24, r 25, r 26, r 27, r 28, r 29, r 30, r 31, r 32, r 33, r 34, r 35, r 36, r 37, r 38, x 0, x 1, x 2, x 3, x 4, x 5, x 6, x 7, x 8, x 9, x 10, x 11, x 12, .int .i64 (50 + y2), x 14, x 15, x 16, .int .i64 (y0 / 8), x 18, x 19, x 20, x 21, x 22, x 23, x 24, x 25, x 26, x 27, x 28, x 29, x 30, x 31, x 32, x 33, x 34, x 35, x 36, x 37, x 38, x 39, x 40, x 41, x 42, r 82, r 83, r 84, r 85, r 86, r 87, r 88, r 89, r 90, r 91, r 92, r 93, r 94, r 95, undef, undef, undef, undef, undef, undef, undef, undef, undef, undef, undef, undef, undef, undef, undef, undef, undef, undef, undef, undef, undef, undef, undef, undef, undef, undef, undef, undef, undef, undef, undef, undef, undef, undef, undef, undef, undef, undef, undef, undef, undef, undef, undef, undef, undef, undef, undef, undef, undef, undef, undef, undef, undef, undef, undef, undef, undef, undef, undef, undef, undef, undef, undef], []⟩ : Act) v
              refine wpOp_step rfl (fun K' hK' => ?_)
              go_simp
              exact hK' _ _ (hK _ _ (Below.refl _ _) (at_of rfl (rfl)))
            · obtain ⟨x, rfl⟩ := upd_of (show x 9 = .int .i64 (50 + y2) from hd 9 _ (by simp) rfl)
              obtain ⟨x, rfl⟩ := upd_of (show x 18 = .int .i64 ((50 + y2) + (y0 / 8)) from hd 18 _ (by simp) rfl)
              show wpOp Try.prog _ _ 19 K (⟨#[s 0, .pointer (some ⟨w.heap.size, 0, none⟩), .pointer (some ⟨(w.heap.size + 1), 0, none⟩), .pointer (some ⟨(w.heap.size + 1 + 1), 0, none⟩), .int .i64 (k : Int), .pointer (some ⟨wr.heap.size, 0, none⟩), x 43, undef, undef, undef, s 10, r 11, r 12, r 13, r 14, r 15, r 16, r 17, r 18, r 19, r 20, r 21, r 22, r 23, r 24, r 25, r 26, r 27, r 28, r 29, r 30, r 31, r 32, r 33, r 34, r 35, r 36, r 37, r 38, x 0, x 1, x 2, x 3, x 4, x 5, x 6, x 7, x 8, .int .i64 (50 + y2), x 10, x 11, x 12, x 13, x 14, x 15, x 16, x 17, .int .i64 ((50 + y2) + (y0 / 8)), x 19, x 20, x 21, x 22, x 23, x 24, x 25, x 26, x 27, x 28, x 29, x 30, x 31, x 32, x 33, x 34, x 35, x 36, x 37, x 38, x 39, x 40, x 41, x 42, r 82, r 83, r 84, r 85, r 86, r 87, r 88, r 89, r 90, r 91, r 92, r 93, r 94, r 95, undef, undef, undef, undef, undef, undef, undef, undef, undef, undef, undef, undef, undef, undef, undef, undef, undef, undef, undef, undef, undef, undef, undef, undef, undef, undef, undef, undef, undef, undef, undef, undef, undef, undef, undef, undef, undef, undef, undef, undef, undef, undef, undef, undef, undef, undef, undef, undef, undef, undef, undef, undef, undef, undef, undef, undef, undef, undef, undef, undef, undef, undef, undef], []⟩ : Act) v
              refine wpOp_step rfl (fun K' hK' => ?_)
              go_simp
              refine (armSpan_anyT (50 + y2) ((50 + y2) + (y0 / 8)) v).mono ?_
              rintro e v' ⟨rfl, hg⟩
              exact hK' _ _ (hK _ _ hg (at_of rfl (rfl)))
            · show wpOp Try.prog _ _ 20 K (⟨#[s 0, .pointer (some ⟨w.heap.size, 0, none⟩), .pointer (some ⟨(w.heap.size + 1), 0, none⟩), .pointer (some ⟨(w.heap.size + 1 + 1), 0, none⟩), .int .i64 (k : Int), .pointer (some ⟨wr.heap.size, 0, none⟩), x 43, undef, undef, undef, s 10, r 11, r 12, r 13, r 14, r 15, r 16, r 17, r 18, r 19, r 20, r 21, r 22, r 23, r 24, r 25, r 26, r 27, r 28, r 29, r 30, r 31, r 32, r 33, r 34, r 35, r 36, r 37, r 38, x 0, x 1, x 2, x 3, x 4, x 5, x 6, x 7, x 8, x 9, x 10, x 11, x 12, x 13, x 14, x 15, x 16, x 17, x 18, x 19, x 20, x 21, x 22, x 23, x 24, x 25, x 26, x 27, x 28, x 29, x 30, x 31, x 32, x 33, x 34, x 35, x 36, x 37, x 38, x 39, x 40, x 41, x 42, r 82, r 83, r 84, r 85, r 86, r 87, r 88, r 89, r 90, r 91, r 92, r 93, r 94, r 95, undef, undef, undef, undef, undef, undef, undef, undef, undef, undef, undef, undef, undef, undef, undef, undef, undef, undef, undef, undef, undef, undef, undef, undef, undef, undef, undef, undef, undef, undef, undef, undef, undef, undef, undef, undef, undef, undef, undef, undef, undef, undef, undef, undef, undef, undef, undef, undef, undef, undef, undef, undef, undef, undef, undef, undef, undef, undef, undef, undef, undef, undef, undef], []⟩ : Act) v
              refine wpOp_step rfl (fun K' hK' => ?_)
              go_simp
              exact hK' _ _ (hK _ _ (Below.refl _ _) (at_of rfl (rfl)))
            · obtain ⟨x, rfl⟩ := upd_of (show x 20 = .pointer (some ⟨wr.heap.size, 3, none⟩) from hd 20 _ (by simp) rfl)
              show wpOp Try.prog _ _ 21 K (⟨#[s 0, .pointer (some ⟨w.heap.size, 0, none⟩), .pointer (some ⟨(w.heap.size + 1), 0, none⟩), .pointer (some ⟨(w.heap.size + 1 + 1), 0, none⟩), .int .i64 (k : Int), .pointer (some ⟨wr.heap.size, 0, none⟩), x 43, undef, undef, undef, s 10, r 11, r 12, r 13, r 14, r 15, r 16, r 17, r 18, r 19, r 20, r 21, r 22, r 23, r 24, r 25, r 26, r 27, r 28, r 29, r 30, r 31, r 32, r 33, r 34, r 35, r 36, r 37, r 38, x 0, x 1, x 2, x 3, x 4, x 5, x 6, x 7, x 8, x 9, x 10, x 11, x 12, x 13, x 14, x 15, x 16, x 17, x 18, x 19, .pointer (some ⟨wr.heap.size, 3, none⟩), x 21, x 22, x 23, x 24, x 25, x 26, x 27, x 28, x 29, x 30, x 31, x 32, x 33, x 34, x 35, x 36, x 37, x 38, x 39, x 40, x 41, x 42, r 82, r 83, r 84, r 85, r 86, r 87, r 88, r 89, r 90, r 91, r 92, r 93, r 94, r 95, undef, undef, undef, undef, undef, undef, undef, undef, undef, undef, undef, undef, undef, undef, undef, undef, undef, undef, undef, undef, undef, undef, undef, undef, undef, undef, undef, undef, undef, undef, undef, undef, undef, undef, undef, undef, undef, undef, undef, undef, undef, undef, undef, undef, undef, undef, undef, undef, undef, undef, undef, undef, undef, undef, undef, undef, undef, undef, undef, undef, undef, undef, undef], []⟩ : Act) v
              refine wpOp_step rfl (fun K' hK' => ?_)
              have q := (ov.1.keep gv).2 3 _ rfl
              go_simp
              exact hK' _ _ (hK _ _ (Below.refl _ _) (at_of rfl (rfl)))
            · obtain ⟨x, rfl⟩ := upd_of (show x 21 = .int .u8 y3 from hd 21 _ (by simp) rfl)
              show wpOp Try.prog _ _ 22 K (⟨#[s 0, .pointer (some ⟨w.heap.size, 0, none⟩), .pointer (some ⟨(w.heap.size + 1), 0, none⟩), .pointer (some ⟨(w.heap.size + 1 + 1), 0, none⟩), .int .i64 (k : Int), .pointer (some ⟨wr.heap.size, 0, none⟩), x 43, undef, undef, undef, s 10, r 11, r 12, r 13, r 14, r 15, r 16, r 17, r 18, r 19, r 20, r 21, r 22, r 23, r 24, r 25, r 26, r 27, r 28, r 29, r 30, r 31, r 32, r 33, r 34, r 35, r 36, r 37, r 38, x 0, x 1, x 2, x 3, x 4, x 5, x 6, x 7, x 8, x 9, x 10, x 11, x 12, x 13, x 14, x 15, x 16, x 17, x 18, x 19, x 20, .int .u8 y3, x 22, x 23, x 24, x 25, x 26, x 27, x 28, x 29, x 30, x 31, x 32, x 33, x 34, x 35, x 36, x 37, x 38, x 39, x 40, x 41, x 42, r 82, r 83, r 84, r 85, r 86, r 87, r 88, r 89, r 90, r 91, r 92, r 93, r 94, r 95, undef, undef, undef, undef, undef, undef, undef, undef, undef, undef, undef, undef, undef, undef, undef, undef, undef, undef, undef, undef, undef, undef, undef, undef, undef, undef, undef, undef, undef, undef, undef, undef, undef, undef, undef, undef, undef, undef, undef, undef, undef, undef, undef, undef, undef, undef, undef, undef, undef, undef, undef, undef, undef, undef, undef, undef, undef, undef, undef, undef, undef, undef, undef], []⟩ : Act) v
              refine wpOp_step rfl (fun K' hK' => ?_)
              go_simp
              exact hK' _ _ (hK _ _ (Below.refl _ _) (at_of rfl (rfl)))
            · obtain ⟨x, rfl⟩ := upd_of (show x 22 = .int .i64 y3 from hd 22 _ (by simp) rfl)
              show wpOp Try.prog _ _ 23 K (⟨#[s 0, .pointer (some ⟨w.heap.size, 0, none⟩), .pointer (some ⟨(w.heap.size + 1), 0, none⟩), .pointer (some ⟨(w.heap.size + 1 + 1), 0, none⟩), .int .i64 (k : Int), .pointer (some ⟨wr.heap.size, 0, none⟩), x 43, undef, undef, undef, s 10, r 11, r 12, r 13, r 14, r 15, r 16, r 17, r 18, r 19, r 20, r 21, r 22, r 23, r 24, r 25, r 26, r 27, r 28, r 29, r 30, r 31, r 32, r 33, r 34, r 35, r 36, r 37, r 38, x 0, x 1, x 2, x 3, x 4, x 5, x 6, x 7, x 8, x 9, x 10, x 11, x 12, x 13, x 14, x 15, x 16, x 17, x 18, x 19, x 20, x 21, .int .i64 y3, x 23, x 24, x 25, x 26, x 27, x 28, x 29, x 30, x 31, x 32, x 33, x 34, x 35, x 36, x 37, x 38, x 39, x 40, x 41, x 42, r 82, r 83, r 84, r 85, r 86, r 87, r 88, r 89, r 90, r 91, r 92, r 93, r 94, r 95, undef, undef, undef, undef, undef, undef, undef, undef, undef, undef, undef, undef, undef, undef, undef, undef, undef, undef, undef, undef, undef, undef, undef, undef, undef, undef, undef, undef, undef, undef, undef, undef, undef, undef, undef, undef, undef, undef, undef, undef, undef, undef, undef, undef, undef, undef, undef, undef, undef, undef, undef, undef, undef, undef, undef, undef, undef, undef, undef, undef, undef, undef, undef], []⟩ : Act) v
              refine wpOp_step rfl (fun K' hK' => ?_)
              go_simp
              exact hK' _ _ (hK _ _ (Below.refl _ _) (at_of rfl (rfl)))
            · show wpOp Try.prog _ _ 24 K (⟨#[s 0, .pointer (some ⟨w.heap.size, 0, none⟩), .pointer (some ⟨(w.heap.size + 1), 0, none⟩), .pointer (some ⟨(w.heap.size + 1 + 1), 0, none⟩), .int .i64 (k : Int), .pointer (some ⟨wr.heap.size, 0, none⟩), x 43, undef, undef, undef, s 10, r 11, r 12, r 13, r 14, r 15, r 16, r 17, r 18, r 19, r 20, r 21, r 22, r 23, r 24, r 25, r 26, r 27, r 28, r 29, r 30, r 31, r 32, r 33, r 34, r 35, r 36, r 37, r 38, x 0, x 1, x 2, x 3, x 4, x 5, x 6, x 7, x 8, x 9, x 10, x 11, x 12, x 13, x 14, x 15, x 16, x 17, x 18, x 19, x 20, x 21, x 22, x 23, x 24, x 25, x 26, x 27, x 28, x 29, x 30, x 31, x 32, x 33, x 34, x 35, x 36, x 37, x 38, x 39, x 40, x 41, x 42, r 82, r 83, r 84, r 85, r 86, r 87, r 88, r 89, r 90, r 91, r 92, r 93, r 94, r 95, undef, undef, undef, undef, undef, undef, undef, undef, undef, undef, undef, undef, undef, undef, undef, undef, undef, undef, undef, undef, undef, undef, undef, undef, undef, undef, undef, undef, undef, undef, undef, undef, undef, undef, undef, undef, undef, undef, undef, undef, undef, undef, undef, undef, undef, undef, undef, undef, undef, undef, undef, undef, undef, undef, undef, undef, undef, undef, undef, undef, undef, undef, undef], []⟩ : Act) v
              refine wpOp_step rfl (fun K' hK' => ?_)
              go_simp
              exact hK' _ _ (hK _ _ (Below.refl _ _) (at_of rfl (rfl)))
            · obtain ⟨x, rfl⟩ := upd_of (show x 24 = .pointer (some ⟨wr.heap.size, 3, none⟩) from hd 24 _ (by simp) rfl)
              show wpOp Try.prog _ _ 25 K (⟨#[s 0, .pointer (some ⟨w.heap.size, 0, none⟩), .pointer (some ⟨(w.heap.size + 1), 0, none⟩), .pointer (some ⟨(w.heap.size + 1 + 1), 0, none⟩), .int .i64 (k : Int), .pointer (some ⟨wr.heap.size, 0, none⟩), x 43, undef, undef, undef, s 10, r 11, r 12, r 13, r 14, r 15, r 16, r 17, r 18, r 19, r 20, r 21, r 22, r 23, r 24, r 25, r 26, r 27, r 28, r 29, r 30, r 31, r 32, r 33, r 34, r 35, r 36, r 37, r 38, x 0, x 1, x 2, x 3, x 4, x 5, x 6, x 7, x 8, x 9, x 10, x 11, x 12, x 13, x 14, x 15, x 16, x 17, x 18, x 19, x 20, x 21, x 22, x 23, .pointer (some ⟨wr.heap.size, 3, none⟩), x 25, x 26, x 27, x 28, x 29, x 30, x 31, x 32, x 33, x 34, x 35, x 36, x 37, x 38, x 39, x 40, x 41, x 42, r 82, r 83, r 84, r 85, r 86, r 87, r 88, r 89, r 90, r 91, r 92, r 93, r 94, r 95, undef, undef, undef, undef, undef, undef, undef, undef, undef, undef, undef, undef, undef, undef, undef, undef, undef, undef, undef, undef, undef, undef, undef, undef, undef, undef, undef, undef, undef, undef, undef, undef, undef, undef, undef, undef, undef, undef, undef, undef, undef, undef, undef, undef, undef, undef, undef, undef, undef, undef, undef, undef, undef, undef, undef, undef, undef, undef, undef, undef, undef, undef, undef], []⟩ : Act) v
              refine wpOp_step rfl (fun K' hK' => ?_)
              have q := (ov.1.keep gv).2 3 _ rfl
              go_simp
              exact hK' _ _ (hK _ _ (Below.refl _ _) (at_of rfl (rfl)))
            · obtain ⟨x, rfl⟩ := upd_of (show x 25 = .int .u8 y3 from hd 25 _ (by simp) rfl)
              show wpOp Try.prog _ _ 26 K (⟨#[s 0, .pointer (some ⟨w.heap.size, 0, none⟩), .pointer (some ⟨(w.heap.size + 1), 0, none⟩), .pointer (some ⟨(w.heap.size + 1 + 1), 0, none⟩), .int .i64 (k : Int), .pointer (some ⟨wr.heap.size, 0, none⟩), x 43, undef, undef, undef, s 10, r 11, r 12, r 13, r 14, r 15, r 16, r 17, r 18, r 19, r 20, r 21, r 22, r 23, r 24, r 25, r 26, r 27, r 28, r 29, r 30, r 31, r 32, r 33, r 34, r 35, r 36, r 37, r 38, x 0, x 1, x 2, x 3, x 4, x 5, x 6, x 7, x 8, x 9, x 10, x 11, x 12, x 13, x 14, x 15, x 16, x 17, x 18, x 19, x 20, x 21, x 22, x 23, x 24, .int .u8 y3, x 26, x 27, x 28, x 29, x 30, x 31, x 32, x 33, x 34, x 35, x 36, x 37, x 38, x 39, x 40, x 41, x 42, r 82, r 83, r 84, r 85, r 86, r 87, r 88, r 89, r 90, r 91, r 92, r 93, r 94, r 95, undef, undef, undef, undef, undef, undef, undef, undef, undef, undef, undef, undef, undef, undef, undef, undef, undef, undef, undef, undef, undef, undef, undef, undef, undef, undef, undef, undef, undef, undef, undef, undef, undef, undef, undef, undef, undef, undef, undef, undef, undef, undef, undef, undef, undef, undef, undef, undef, undef, undef, undef, undef, undef, undef, undef, undef, undef, undef, undef, undef, undef, undef, undef], []⟩ : Act) v
              refine wpOp_step rfl (fun K' hK' => ?_)
              go_simp
              exact hK' _ _ (hK _ _ (Below.refl _ _) (at_of rfl (rfl)))
            · obtain ⟨x, rfl⟩ := upd_of (show x 26 = .int .i64 y3 from hd 26 _ (by simp) rfl)
              show wpOp Try.prog _ _ 27 K (⟨#[s 0, .pointer (some ⟨w.heap.size, 0, none⟩), .pointer (some ⟨(w.heap.size + 1), 0, none⟩), .pointer (some ⟨(w.heap.size + 1 + 1), 0, none⟩), .int .i64 (k : Int), .pointer (some ⟨wr.heap.size, 0, none⟩), x 43, undef, undef, undef, s 10, r 11, r 12, r 13, r 14, r 15, r 16, r 17, r 18, r 19, r 20, r 21, r 22, r 23, r 24, r 25, r 26, r 27, r 28, r 29, r 30, r 31, r 32, r 33, r 34, r 35, r 36, r 37, r 38, x 0, x 1, x 2, x 3, x 4, x 5, x 6, x 7, x 8, x 9, x 10, x 11, x 12, x 13, x 14, x 15, x 16, x 17, x 18, x 19, x 20, x 21, x 22, x 23, x 24, x 25, .int .i64 y3, x 27, x 28, x 29, x 30, x 31, x 32, x 33, x 34, x 35, x 36, x 37, x 38, x 39, x 40, x 41, x 42, r 82, r 83, r 84, r 85, r 86, r 87, r 88, r 89, r 90, r 91, r 92, r 93, r 94, r 95, undef, undef, undef, undef, undef, undef, undef, undef, undef, undef, undef, undef, undef, undef, undef, undef, undef, undef, undef, undef, undef, undef, undef, undef, undef, undef, undef, undef, undef, undef, undef, undef, undef, undef, undef, undef, undef, undef, undef, undef, undef, undef, undef, undef, undef, undef, undef, undef, undef, undef, undef, undef, undef, undef, undef, undef, undef, undef, undef, undef, undef, undef, undef], []⟩ : Act) v
              refine wpOp_step rfl (fun K' hK' => ?_)
              go_simp
              exact hK' _ _ (hK _ _ (Below.refl _ _) (at_of rfl (rfl)))
            · show wpOp Try.prog _ _ 28 K (⟨#[s 0, .pointer (some ⟨w.heap.size, 0, none⟩), .pointer (some ⟨(w.heap.size + 1), 0, none⟩), .pointer (some ⟨(w.heap.size + 1 + 1), 0, none⟩), .int .i64 (k : Int), .pointer (some ⟨wr.heap.size, 0, none⟩), x 43, undef, undef, undef, s 10, r 11, r 12, r 13, r 14, r 15, r 16, r 17, r 18, r 19, r 20, r 21, r 22, r 23, r 24, r 25, r 26, r 27, r 28, r 29, r 30, r 31, r 32, r 33, r 34, r 35, r 36, r 37, r 38, x 0, x 1, x 2, x 3, x 4, x 5, x 6, x 7, x 8, x 9, x 10, x 11, x 12, x 13, x 14, x 15, x 16, x 17, x 18, x 19, x 20, x 21, x 22, x 23, x 24, x 25, x 26, x 27, x 28, x 29, x 30, x 31, x 32, x 33, x 34, x 35, x 36, x 37, x 38, x 39, x 40, x 41, x 42, r 82, r 83, r 84, r 85, r 86, r 87, r 88, r 89, r 90, r 91, r 92, r 93, r 94, r 95, undef, undef, undef, undef, undef, undef, undef, undef, undef, undef, undef, undef, undef, undef, undef, undef, undef, undef, undef, undef, undef, undef, undef, undef, undef, undef, undef, undef, undef, undef, undef, undef, undef, undef, undef, undef, undef, undef, undef, undef, undef, undef, undef, undef, undef, undef, undef, undef, undef, undef, undef, undef, undef, undef, undef, undef, undef, undef, undef, undef, undef, undef, undef], []⟩ : Act) v
              refine wpOp_step rfl (fun K' hK' => ?_)
              go_simp
              exact hK' _ _ (hK _ _ (Below.refl _ _) (at_of rfl (rfl)))
            · obtain ⟨x, rfl⟩ := upd_of (show x 28 = .pointer (some ⟨wr.heap.size, 3, none⟩) from hd 28 _ (by simp) rfl)
              show wpOp Try.prog _ _ 29 K (⟨#[s 0, .pointer (some ⟨w.heap.size, 0, none⟩), .pointer (some ⟨(w.heap.size + 1), 0, none⟩), .pointer (some ⟨(w.heap.size + 1 + 1), 0, none⟩), .int .i64 (k : Int), .pointer (some ⟨wr.heap.size, 0, none⟩), x 43, undef, undef, undef, s 10, r 11, r 12, r 13, r 14, r 15, r 16, r 17, r 18, r 19, r 20, r 21, r 22, r 23, r 24, r 25, r 26, r 27, r 28, r 29, r 30, r 31, r 32, r 33, r 34, r 35, r 36, r 37, r 38, x 0, x 1, x 2, x 3, x 4, x 5, x 6, x 7, x 8, x 9, x 10, x 11, x 12, x 13, x 14, x 15, x 16, x 17, x 18, x 19, x 20, x 21, x 22, x 23, x 24, x 25, x 26, x 27, .pointer (some ⟨wr.heap.size, 3, none⟩), x 29, x 30, x 31, x 32, x 33, x 34, x 35, x 36, x 37, x 38, x 39, x 40, x 41, x 42, r 82, r 83, r 84, r 85, r 86, r 87, r 88, r 89, r 90, r 91, r 92, r 93, r 94, r 95, undef, undef, undef, undef, undef, undef, undef, undef, undef, undef, undef, undef, undef, undef, undef, undef, undef, undef, undef, undef, undef, undef, undef, undef, undef, undef, undef, undef, undef, undef, undef, undef, undef, undef, undef, undef, undef, undef, undef, undef, undef, undef, undef, undef, undef, undef, undef, undef, undef, undef, undef, undef, undef, undef, undef, undef, undef, undef, undef, undef, undef, undef, undef], []⟩ : Act) v
              refine wpOp_step rfl (fun K' hK' => ?_)
              have q := (ov.1.keep gv).2 3 _ rfl
              go_simp
              exact hK' _ _ (hK _ _ (Below.refl _ _) (at_of rfl (rfl)))
            · obtain ⟨x, rfl⟩ := upd_of (show x 29 = .int .u8 y3 from hd 29 _ (by simp) rfl)
              show wpOp Try.prog _ _ 30 K (⟨#[s 0, .pointer (some ⟨w.heap.size, 0, none⟩), .pointer (some ⟨(w.heap.size + 1), 0, none⟩), .pointer (some ⟨(w.heap.size + 1 + 1), 0, none⟩), .int .i64 (k : Int), .pointer (some ⟨wr.heap.size, 0, none⟩), x 43, undef, undef, undef, s 10, r 11, r 12, r 13, r 14, r 15, r 16, r 17, r 18, r 19, r 20, r 21, r 22, r 23, r 24, r 25, r 26, r 27, r 28, r 29, r 30, r 31, r 32, r 33, r 34, r 35, r 36, r 37, r 38, x 0, x 1, x 2, x 3, x 4, x 5, x 6, x 7, x 8, x 9, x 10, x 11, x 12, x 13, x 14, x 15, x 16, x 17, x 18, x 19, x 20, x 21, x 22, x 23, x 24, x 25, x 26, x 27, x 28, .int .u8 y3, x 30, x 31, x 32, x 33, x 34, x 35, x 36, x 37, x 38, x 39, x 40, x 41, x 42, r 82, r 83, r 84, r 85, r 86, r 87, r 88, r 89, r 90, r 91, r 92, r 93, r 94, r 95, undef, undef, undef, undef, undef, undef, undef, undef, undef, undef, undef, undef, undef, undef, undef, undef, undef, undef, undef, undef, undef, undef, undef, undef, undef, undef, undef, undef, undef, undef, undef, undef, undef, undef, undef, undef, undef, undef, undef, undef, undef, undef, undef, undef, undef, undef, undef, undef, undef, undef, undef, undef, undef, undef, undef, undef, undef, undef, undef, undef, undef, undef, undef], []⟩ : Act) v
              refine wpOp_step rfl (fun K' hK' => ?_)
              go_simp
              exact hK' _ _ (hK _ _ (Below.refl _ _) (at_of rfl (rfl)))
            · obtain ⟨x, rfl⟩ := upd_of (show x 30 = .int .i64 y3 from hd 30 _ (by simp) rfl)
              show wpOp Try.prog _ _ 31 K (⟨#[s 0, .pointer (some ⟨w.heap.size, 0, none⟩), .pointer (some ⟨(w.heap.size + 1), 0, none⟩), .pointer (some ⟨(w.heap.size + 1 + 1), 0, none⟩), .int .i64 (k : Int), .pointer (some ⟨wr.heap.size, 0, none⟩), x 43, undef, undef, undef, s 10, r 11, r 12, r 13, r 14, r 15, r 16, r 17, r 18, r 19, r 20, r 21, r 22, r 23, r 24, r 25, r 26, r 27, r 28, r 29, r 30, r 31, r 32, r 33, r 34, r 35, r 36, r 37, r 38, x 0, x 1, x 2, x 3, x 4, x 5, x 6, x 7, x 8, x 9, x 10, x 11, x 12, x 13, x 14, x 15, x 16, x 17, x 18, x 19, x 20, x 21, x 22, x 23, x 24, x 25, x 26, x 27, x 28, x 29, .int .i64 y3, x 31, x 32, x 33, x 34, x 35, x 36, x 37, x 38, x 39, x 40, x 41, x 42, r 82, r 83, r 84, r 85, r 86, r 87, r 88, r 89, r 90, r 91, r 92, r 93, r 94, r 95, undef, undef, undef, undef, undef, undef, undef, undef, undef, undef, undef, undef, undef, undef, undef, undef, undef, undef, undef, undef, undef, undef, undef, undef, undef, undef, undef, undef, undef, undef, undef, undef, undef, undef, undef, undef, undef, undef, undef, undef, undef, undef, undef, undef, undef, undef, undef, undef, undef, undef, undef, undef, undef, undef, undef, undef, undef, undef, undef, undef, undef, undef, undef], []⟩ : Act) v
              refine wpOp_step rfl (fun K' hK' => ?_)
              go_simp
              exact hK' _ _ (hK _ _ (Below.refl _ _) (at_of rfl (rfl)))
            · obtain ⟨x, rfl⟩ := upd_of (show x 27 = .int .i64 (y3 % 100) from hd 27 _ (by simp) rfl)
              obtain ⟨x, rfl⟩ := upd_of (show x 31 = .int .i64 (y3 / 16) from hd 31 _ (by simp) rfl)
              show wpOp Try.prog _ _ 32 K (⟨#[s 0, .pointer (some ⟨w.heap.size, 0, none⟩), .pointer (some ⟨(w.heap.size + 1), 0, none⟩), .pointer (some ⟨(w.heap.size + 1 + 1), 0, none⟩), .int .i64 (k : Int), .pointer (some ⟨wr.heap.size, 0, none⟩), x 43, undef, undef, undef, s 10, r 11, r 12, r 13, r 14, r 15, r 16, r 17, r 18, r 19, r 20, r 21, r 22, r 23, r 24, r 25, r 26, r 27, r 28, r 29, r 30, r 31, r 32, r 33, r 34, r 35, r 36, r 37, r 38, x 0, x 1, x 2, x 3, x 4, x 5, x 6, x 7, x 8, x 9, x 10, x 11, x 12, x 13, x 14, x 15, x 16, x 17, x 18, x 19, x 20, x 21, x 22, x 23, x 24, x 25, x 26, .int .i64 (y3 % 100), x 28, x 29, x 30, .int .i64 (y3 / 16), x 32, x 33, x 34, x 35, x 36, x 37, x 38, x 39, x 40, x 41, x 42, r 82, r 83, r 84, r 85, r 86, r 87, r 88, r 89, r 90, r 91, r 92, r 93, r 94, r 95, undef, undef, undef, undef, undef, undef, undef, undef, undef, undef, undef, undef, undef, undef, undef, undef, undef, undef, undef, undef, undef, undef, undef, undef, undef, undef, undef, undef, undef, undef, undef, undef, undef, undef, undef, undef, undef, undef, undef, undef, undef, undef, undef, undef, undef, undef, undef, undef, undef, undef, undef, undef, undef, undef, undef, undef, undef, undef, undef, undef, undef, undef, undef], []⟩ : Act) v
              refine wpOp_step rfl (fun K' hK' => ?_)
              go_simp
              exact hK' _ _ (hK _ _ (Below.refl _ _) (at_of rfl (rfl)))
            · obtain ⟨x, rfl⟩ := upd_of (show x 23 = .int .i64 (y3 % 100) from hd 23 _ (by simp) rfl)
              obtain ⟨x, rfl⟩ := upd_of (show x 32 = .int .i64 ((y3 % 100) + (y3 / 16)) from hd 32 _ (by simp) rfl)
              show wpOp Try.prog _ _ 33 K (⟨#[s 0, .pointer (some ⟨w.heap.size, 0, none⟩), .pointer (some ⟨(w.heap.size + 1), 0, none⟩), .pointer (some ⟨(w.heap.size + 1 + 1), 0, none⟩), .int .i64 (k : Int), .pointer (some ⟨wr.heap.size, 0, none⟩), x 43, undef, undef, undef, s 10, r 11, r 12, r 13, r 14, r 15, r 16, r 17, r 18, r 19, r 20, r 21, r 22, r 23, r 24, r 25, r 26, r 27, r 28, r 29, r 30, r 31, r 32, r 33, r 34, r 35, r 36, r 37, r 38, x 0, x 1, x 2, x 3, x 4, x 5, x 6, x 7, x 8, x 9, x 10, x 11, x 12, x 13, x 14, x 15, x 16, x 17, x 18, x 19, x 20, x 21, x 22, .int .i64 (y3 % 100), x 24, x 25, x 26, x 27, x 28, x 29, x 30, x 31, .int .i64 ((y3 % 100) + (y3 / 16)), x 33, x 34, x 35, x 36, x 37, x 38, x 39, x 40, x 41, x 42, r 82, r 83, r 84, r 85, r 86, r 87, r 88, r 89, r 90, r 91, r 92, r 93, r 94, r 95, undef, undef, undef, undef, undef, undef, undef, undef, undef, undef, undef, undef, undef, undef, undef, undef, undef, undef, undef, undef, undef, undef, undef, undef, undef, undef, undef, undef, undef, undef, undef, undef, undef, undef, undef, undef, undef, undef, undef, undef, undef, undef, undef, undef, undef, undef, undef, undef, undef, undef, undef, undef, undef, undef, undef, undef, undef, undef, undef, undef, undef, undef, undef], []⟩ : Act) v
              refine wpOp_step rfl (fun K' hK' => ?_)
              go_simp
              refine (armSpan_anyT (y3 % 100) ((y3 % 100) + (y3 / 16)) v).mono ?_
              rintro e v' ⟨rfl, hg⟩
              exact hK' _ _ (hK _ _ hg (at_of rfl (rfl)))
            · show wpOp Try.prog _ _ 34 K (⟨#[s 0, .pointer (some ⟨w.heap.size, 0, none⟩), .pointer (some ⟨(w.heap.size + 1), 0, none⟩), .pointer (some ⟨(w.heap.size + 1 + 1), 0, none⟩), .int .i64 (k : Int), .pointer (some ⟨wr.heap.size, 0, none⟩), x 43, undef, undef, undef, s 10, r 11, r 12, r 13, r 14, r 15, r 16, r 17, r 18, r 19, r 20, r 21, r 22, r 23, r 24, r 25, r 26, r 27, r 28, r 29, r 30, r 31, r 32, r 33, r 34, r 35, r 36, r 37, r 38, x 0, x 1, x 2, x 3, x 4, x 5, x 6, x 7, x 8, x 9, x 10, x 11, x 12, x 13, x 14, x 15, x 16, x 17, x 18, x 19, x 20, x 21, x 22, x 23, x 24, x 25, x 26, x 27, x 28, x 29, x 30, x 31, x 32, x 33, x 34, x 35, x 36, x 37, x 38, x 39, x 40, x 41, x 42, r 82, r 83, r 84, r 85, r 86, r 87, r 88, r 89, r 90, r 91, r 92, r 93, r 94, r 95, undef, undef, undef, undef, undef, undef, undef, undef, undef, undef, undef, undef, undef, undef, undef, undef, undef, undef, undef, undef, undef, undef, undef, undef, undef, undef, undef, undef, undef, undef, undef, undef, undef, undef, undef, undef, undef, undef, undef, undef, undef, undef, undef, undef, undef, undef, undef, undef, undef, undef, undef, undef, undef, undef, undef, undef, undef, undef, undef, undef, undef, undef, undef], []⟩ : Act) v
              refine wpOp_step rfl (fun K' hK' => ?_)
              go_simp
              exact hK' _ _ (hK _ _ (Below.refl _ _) (at_of rfl (rfl)))
            · obtain ⟨x, rfl⟩ := upd_of (show x 34 = .pointer (some ⟨wr.heap.size, 4, none⟩) from hd 34 _ (by simp) rfl)
              show wpOp Try.prog _ _ 35 K (⟨#[s 0, .pointer (some ⟨w.heap.size, 0, none⟩), .pointer (some ⟨(w.heap.size + 1), 0, none⟩), .pointer (some ⟨(w.heap.size + 1 + 1), 0, none⟩), .int .i64 (k : Int), .pointer (some ⟨wr.heap.size, 0, none⟩), x 43, undef, undef, undef, s 10, r 11, r 12, r 13, r 14, r 15, r 16, r 17, r 18, r 19, r 20, r 21, r 22, r 23, r 24, r 25, r 26, r 27, r 28, r 29, r 30, r 31, r 32, r 33, r 34, r 35, r 36, r 37, r 38, x 0, x 1, x 2, x 3, x 4, x 5, x 6, x 7, x 8, x 9, x 10, x 11, x 12, x 13, x 14, x 15, x 16, x 17, x 18, x 19, x 20, x 21, x 22, x 23, x 24, x 25, x 26, x 27, x 28, x 29, x 30, x 31, x 32, x 33, .pointer (some ⟨wr.heap.size, 4, none⟩), x 35, x 36, x 37, x 38, x 39, x 40, x 41, x 42, r 82, r 83, r 84, r 85, r 86, r 87, r 88, r 89, r 90, r 91, r 92, r 93, r 94, r 95, undef, undef, undef, undef, undef, undef, undef, undef, undef, undef, undef, undef, undef, undef, undef, undef, undef, undef, undef, undef, undef, undef, undef, undef, undef, undef, undef, undef, undef, undef, undef, undef, undef, undef, undef, undef, undef, undef, undef, undef, undef, undef, undef, undef, undef, undef, undef, undef, undef, undef, undef, undef, undef, undef, undef, undef, undef, undef, undef, undef, undef, undef, undef], []⟩ : Act) v
              refine wpOp_step rfl (fun K' hK' => ?_)
              have q := (ov.1.keep gv).2 4 _ rfl
              go_simp
              exact hK' _ _ (hK _ _ (Below.refl _ _) (at_of rfl (rfl)))
            · obtain ⟨x, rfl⟩ := upd_of (show x 35 = .int .u8 y4 from hd 35 _ (by simp) rfl)
              show wpOp Try.prog _ _ 36 K (⟨#[s 0, .pointer (some ⟨w.heap.size, 0, none⟩), .pointer (some ⟨(w.heap.size + 1), 0, none⟩), .pointer (some ⟨(w.heap.size + 1 + 1), 0, none⟩), .int .i64 (k : Int), .pointer (some ⟨wr.heap.size, 0, none⟩), x 43, undef, undef, undef, s 10, r 11, r 12, r 13, r 14, r 15, r 16, r 17, r 18, r 19, r 20, r 21, r 22, r 23, r 24, r 25, r 26, r 27, r 28, r 29, r 30, r 31, r 32, r 33, r 34, r 35, r 36, r 37, r 38, x 0, x 1, x 2, x 3, x 4, x 5, x 6, x 7, x 8, x 9, x 10, x 11, x 12, x 13, x 14, x 15, x 16, x 17, x 18, x 19, x 20, x 21, x 22, x 23, x 24, x 25, x 26, x 27, x 28, x 29, x 30, x 31, x 32, x 33, x 34, .int .u8 y4, x 36, x 37, x 38, x 39, x 40, x 41, x 42, r 82, r 83, r 84, r 85, r 86, r 87, r 88, r 89, r 90, r 91, r 92, r 93, r 94, r 95, undef, undef, undef, undef, undef, undef, undef, undef, undef, undef, undef, undef, undef, undef, undef, undef, undef, undef, undef, undef, undef, undef, undef, undef, undef, undef, undef, undef, undef, undef, undef, undef, undef, undef, undef, undef, undef, undef, undef, undef, undef, undef, undef, undef, undef, undef, undef, undef, undef, undef, undef, undef, undef, undef, undef, undef, undef, undef, undef, undef, undef, undef, undef], []⟩ : Act) v
              refine wpOp_step rfl (fun K' hK' => ?_)
              go_simp
              exact hK' _ _ (hK _ _ (Below.refl _ _) (at_of rfl (rfl)))
            · obtain ⟨x, rfl⟩ := upd_of (show x 36 = .int .i64 y4 from hd 36 _ (by simp) rfl)
              show wpOp Try.prog _ _ 37 K (⟨#[s 0, .pointer (some ⟨w.heap.size, 0, none⟩), .pointer (some ⟨(w.heap.size + 1), 0, none⟩), .pointer (some ⟨(w.heap.size + 1 + 1), 0, none⟩), .int .i64 (k : Int), .pointer (some ⟨wr.heap.size, 0, none⟩), x 43, undef, undef, undef, s 10, r 11, r 12, r 13, r 14, r 15, r 16, r 17, r 18, r 19, r 20, r 21, r 22, r 23, r 24, r 25, r 26, r 27, r 28, r 29, r 30, r 31, r 32, r 33, r 34, r 35, r 36, r 37, r 38, x 0, x 1, x 2, x 3, x 4, x 5, x 6, x 7, x 8, x 9, x 10, x 11, x 12, x 13, x 14, x 15, x 16, x 17, x 18, x 19, x 20, x 21, x 22, x 23, x 24, x 25, x 26, x 27, x 28, x 29, x 30, x 31, x 32, x 33, x 34, x 35, .int .i64 y4, x 37, x 38, x 39, x 40, x 41, x 42, r 82, r 83, r 84, r 85, r 86, r 87, r 88, r 89, r 90, r 91, r 92, r 93, r 94, r 95, undef, undef, undef, undef, undef, undef, undef, undef, undef, undef, undef, undef, undef, undef, undef, undef, undef, undef, undef, undef, undef, undef, undef, undef, undef, undef, undef, undef, undef, undef, undef, undef, undef, undef, undef, undef, undef, undef, undef, undef, undef, undef, undef, undef, undef, undef, undef, undef, undef, undef, undef, undef, undef, undef, undef, undef, undef, undef, undef, undef, undef, undef, undef], []⟩ : Act) v
              refine wpOp_step rfl (fun K' hK' => ?_)
              go_simp
              exact hK' _ _ (hK _ _ (Below.refl _ _) (at_of rfl (rfl)))
            · show wpOp Try.prog _ _ 38 K (⟨#[s 0, .pointer (some ⟨w.heap.size, 0, none⟩), .pointer (some ⟨(w.heap.size + 1), 0, none⟩), .pointer (some ⟨(w.heap.size + 1 + 1), 0, none⟩), .int .i64 (k : Int), .pointer (some ⟨wr.heap.size, 0, none⟩), x 43, undef, undef, undef, s 10, r 11, r 12, r 13, r 14, r 15, r 16, r 17, r 18, r 19, r 20, r 21, r 22, r 23, r 24, r 25, r 26, r 27, r 28, r 29, r 30, r 31, r 32, r 33, r 34, r 35, r 36, r 37, r 38, x 0, x 1, x 2, x 3, x 4, x 5, x 6, x 7, x 8, x 9, x 10, x 11, x 12, x 13, x 14, x 15, x 16, x 17, x 18, x 19, x 20, x 21, x 22, x 23, x 24, x 25, x 26, x 27, x 28, x 29, x 30, x 31, x 32, x 33, x 34, x 35, x 36, x 37, x 38, x 39, x 40, x 41, x 42, r 82, r 83, r 84, r 85, r 86, r 87, r 88, r 89, r 90, r 91, r 92, r 93, r 94, r 95, undef, undef, undef, undef, undef, undef, undef, undef, undef, undef, undef, undef, undef, undef, undef, undef, undef, undef, undef, undef, undef, undef, undef, undef, undef, undef, undef, undef, undef, undef, undef, undef, undef, undef, undef, undef, undef, undef, undef, undef, undef, undef, undef, undef, undef, undef, undef, undef, undef, undef, undef, undef, undef, undef, undef, undef, undef, undef, undef, undef, undef, undef, undef], []⟩ : Act) v
              refine wpOp_step rfl (fun K' hK' => ?_)
              go_simp
              exact hK' _ _ (hK _ _ (Below.refl _ _) (at_of rfl (rfl)))
            · obtain ⟨x, rfl⟩ := upd_of (show x 38 = .pointer (some ⟨wr.heap.size, 5, none⟩) from hd 38 _ (by simp) rfl)
              show wpOp Try.prog _ _ 39 K (⟨#[s 0, .pointer (some ⟨w.heap.size, 0, none⟩), .pointer (some ⟨(w.heap.size + 1), 0, none⟩), .pointer (some ⟨(w.heap.size + 1 + 1), 0, none⟩), .int .i64 (k : Int), .pointer (some ⟨wr.heap.size, 0, none⟩), x 43, undef, undef, undef, s 10, r 11, r 12, r 13, r 14, r 15, r 16, r 17, r 18, r 19, r 20, r 21, r 22, r 23, r 24, r 25, r 26, r 27, r 28, r 29, r 30, r 31, r 32, r 33, r 34, r 35, r 36, r 37, r 38, x 0, x 1, x 2, x 3, x 4, x 5, x 6, x 7, x 8, x 9, x 10, x 11, x 12, x 13, x 14, x 15, x 16, x 17, x 18, x 19, x 20, x 21, x 22, x 23, x 24, x 25, x 26, x 27, x 28, x 29, x 30, x 31, x 32, x 33, x 34, x 35, x 36, x 37, .pointer (some ⟨wr.heap.size, 5, none⟩), x 39, x 40, x 41, x 42, r 82, r 83, r 84, r 85, r 86, r 87, r 88, r 89, r 90, r 91, r 92, r 93, r 94, r 95, undef, undef, undef, undef, undef, undef, undef, undef, undef, undef, undef, undef, undef, undef, undef, undef, undef, undef, undef, undef, undef, undef, undef, undef, undef, undef, undef, undef, undef, undef, undef, undef, undef, undef, undef, undef, undef, undef, undef, undef, undef, undef, undef, undef, undef, undef, undef, undef, undef, undef, undef, undef, undef, undef, undef, undef, undef, undef, undef, undef, undef, undef, undef], []⟩ : Act) v
              refine wpOp_step rfl (fun K' hK' => ?_)
              have q := (ov.1.keep gv).2 5 _ rfl
              go_simp
              exact hK' _ _ (hK _ _ (Below.refl _ _) (at_of rfl (rfl)))
            · obtain ⟨x, rfl⟩ := upd_of (show x 39 = .int .u8 y5 from hd 39 _ (by simp) rfl)
              show wpOp Try.prog _ _ 40 K (⟨#[s 0, .pointer (some ⟨w.heap.size, 0, none⟩), .pointer (some ⟨(w.heap.size + 1), 0, none⟩), .pointer (some ⟨(w.heap.size + 1 + 1), 0, none⟩), .int .i64 (k : Int), .pointer (some ⟨wr.heap.size, 0, none⟩), x 43, undef, undef, undef, s 10, r 11, r 12, r 13, r 14, r 15, r 16, r 17, r 18, r 19, r 20, r 21, r 22, r 23, r 24, r 25, r 26, r 27, r 28, r 29, r 30, r 31, r 32, r 33, r 34, r 35, r 36, r 37, r 38, x 0, x 1, x 2, x 3, x 4, x 5, x 6, x 7, x 8, x 9, x 10, x 11, x 12, x 13, x 14, x 15, x 16, x 17, x 18, x 19, x 20, x 21, x 22, x 23, x 24, x 25, x 26, x 27, x 28, x 29, x 30, x 31, x 32, x 33, x 34, x 35, x 36, x 37, x 38, .int .u8 y5, x 40, x 41, x 42, r 82, r 83, r 84, r 85, r 86, r 87, r 88, r 89, r 90, r 91, r 92, r 93, r 94, r 95, undef, undef, undef, undef, undef, undef, undef, undef, undef, undef, undef, undef, undef, undef, undef, undef, undef, undef, undef, undef, undef, undef, undef, undef, undef, undef, undef, undef, undef, undef, undef, undef, undef, undef, undef, undef, undef, undef, undef, undef, undef, undef, undef, undef, undef, undef, undef, undef, undef, undef, undef, undef, undef, undef, undef, undef, undef, undef, undef, undef, undef, undef, undef], []⟩ : Act) v
              refine wpOp_step rfl (fun K' hK' => ?_)
              go_simp
              exact hK' _ _ (hK _ _ (Below.refl _ _) (at_of rfl (rfl)))
            · obtain ⟨x, rfl⟩ := upd_of (show x 40 = .int .i64 y5 from hd 40 _ (by simp) rfl)
              show wpOp Try.prog _ _ 41 K (⟨#[s 0, .pointer (some ⟨w.heap.size, 0, none⟩), .pointer (some ⟨(w.heap.size + 1), 0, none⟩), .pointer (some ⟨(w.heap.size + 1 + 1), 0, none⟩), .int .i64 (k : Int), .pointer (some ⟨wr.heap.size, 0, none⟩), x 43, undef, undef, undef, s 10, r 11, r 12, r 13, r 14, r 15, r 16, r 17, r 18, r 19, r 20, r 21, r 22, r 23, r 24, r 25, r 26, r 27, r 28, r 29, r 30, r 31, r 32, r 33, r 34, r 35, r 36, r 37, r 38, x 0, x 1, x 2, x 3, x 4, x 5, x 6, x 7, x 8, x 9, x 10, x 11, x 12, x 13, x 14, x 15, x 16, x 17, x 18, x 19, x 20, x 21, x 22, x 23, x 24, x 25, x 26, x 27, x 28, x 29, x 30, x 31, x 32, x 33, x 34, x 35, x 36, x 37, x 38, x 39, .int .i64 y5, x 41, x 42, r 82, r 83, r 84, r 85, r 86, r 87, r 88, r 89, r 90, r 91, r 92, r 93, r 94, r 95, undef, undef, undef, undef, undef, undef, undef, undef, undef, undef, undef, undef, undef, undef, undef, undef, undef, undef, undef, undef, undef, undef, undef, undef, undef, undef, undef, undef, undef, undef, undef, undef, undef, undef, undef, undef, undef, undef, undef, undef, undef, undef, undef, undef, undef, undef, undef, undef, undef, undef, undef, undef, undef, undef, undef, undef, undef, undef, undef, undef, undef, undef, undef], []⟩ : Act) v
              refine wpOp_step rfl (fun K' hK' => ?_)
              go_simp
              exact hK' _ _ (hK _ _ (Below.refl _ _) (at_of rfl (rfl)))
            · obtain ⟨x, rfl⟩ := upd_of (show x 1 = .int .i64 (1 + (k : Int)) from hd 1 _ (by simp) rfl)
              obtain ⟨x, rfl⟩ := upd_of (show x 5 = .int .i64 (50 + y1) from hd 5 _ (by simp) rfl)
              obtain ⟨x, rfl⟩ := upd_of (show x 19 = .agg #[.int .i64 (50 + y2), .int .i64 ((50 + y2) + (y0 / 8))] from hd 19 _ (by simp) rfl)
              obtain ⟨x, rfl⟩ := upd_of (show x 33 = .agg #[.int .i64 (y3 % 100), .int .i64 ((y3 % 100) + (y3 / 16))] from hd 33 _ (by simp) rfl)
              obtain ⟨x, rfl⟩ := upd_of (show x 37 = .int .i64 (1000 * y4) from hd 37 _ (by simp) rfl)
              obtain ⟨x, rfl⟩ := upd_of (show x 41 = .int .i64 (10 * y5) from hd 41 _ (by simp) rfl)
              show wpOp Try.prog _ _ 42 K (⟨#[s 0, .pointer (some ⟨w.heap.size, 0, none⟩), .pointer (some ⟨(w.heap.size + 1), 0, none⟩), .pointer (some ⟨(w.heap.size + 1 + 1), 0, none⟩), .int .i64 (k : Int), .pointer (some ⟨wr.heap.size, 0, none⟩), x 43, undef, undef, undef, s 10, r 11, r 12, r 13, r 14, r 15, r 16, r 17, r 18, r 19, r 20, r 21, r 22, r 23, r 24, r 25, r 26, r 27, r 28, r 29, r 30, r 31, r 32, r 33, r 34, r 35, r 36, r 37, r 38, x 0, .int .i64 (1 + (k : Int)), x 2, x 3, x 4, .int .i64 (50 + y1), x 6, x 7, x 8, x 9, x 10, x 11, x 12, x 13, x 14, x 15, x 16, x 17, x 18, .agg #[.int .i64 (50 + y2), .int .i64 ((50 + y2) + (y0 / 8))], x 20, x 21, x 22, x 23, x 24, x 25, x 26, x 27, x 28, x 29, x 30, x 31, x 32, .agg #[.int .i64 (y3 % 100), .int .i64 ((y3 % 100) + (y3 / 16))], x 34, x 35, x 36, .int .i64 (1000 * y4), x 38, x 39, x 40, .int .i64 (10 * y5), x 42, r 82, r 83, r 84, r 85, r 86, r 87, r 88, r 89, r 90, r 91, r 92, r 93, r 94, r 95, undef, undef, undef, undef, undef, undef, undef, undef, undef, undef, undef, undef, undef, undef, undef, undef, undef, undef, undef, undef, undef, undef, undef, undef, undef, undef, undef, undef, undef, undef, undef, undef, undef, undef, undef, undef, undef, undef, undef, undef, undef, undef, undef, undef, undef, undef, undef, undef, undef, undef, undef, undef, undef, undef, undef, undef, undef, undef, undef, undef, undef, undef, undef], []⟩ : Act) v
              refine wpOp_step rfl (fun K' hK' => ?_)
              go_simp
              exact hK' _ _ (hK _ _ (Below.refl _ _) (at_of rfl (rfl)))
            · show wpOp Try.prog _ _ 43 K (⟨#[s 0, .pointer (some ⟨w.heap.size, 0, none⟩), .pointer (some ⟨(w.heap.size + 1), 0, none⟩), .pointer (some ⟨(w.heap.size + 1 + 1), 0, none⟩), .int .i64 (k : Int), .pointer (some ⟨wr.heap.size, 0, none⟩), x 43, undef, undef, undef, s 10, r 11, r 12, r 13, r 14, r 15, r 16, r 17, r 18, r 19, r 20, r 21, r 22, r 23, r 24, r 25, r 26, r 27, r 28, r 29, r 30, r 31, r 32, r 33, r 34, r 35, r 36, r 37, r 38, x 0, x 1, x 2, x 3, x 4, x 5, x 6, x 7, x 8, x 9, x 10, x 11, x 12, x 13, x 14, x 15, x 16, x 17, x 18, x 19, x 20, x 21, x 22, x 23, x 24, x 25, x 26, x 27, x 28, x 29, x 30, x 31, x 32, x 33, x 34, x 35, x 36, x 37, x 38, x 39, x 40, x 41, x 42, r 82, r 83, r 84, r 85, r 86, r 87, r 88, r 89, r 90, r 91, r 92, r 93, r 94, r 95, undef, undef, undef, undef, undef, undef, undef, undef, undef, undef, undef, undef, undef, undef, undef, undef, undef, undef, undef, undef, undef, undef, undef, undef, undef, undef, undef, undef, undef, undef, undef, undef, undef, undef, undef, undef, undef, undef, undef, undef, undef, undef, undef, undef, undef, undef, undef, undef, undef, undef, undef, undef, undef, undef, undef, undef, undef, undef, undef, undef, undef, undef, undef], []⟩ : Act) v
              refine wpOp_step rfl (fun K' hK' => ?_)
              go_simp
              have hg := Gr.al v (.cells (List.toArray [.int .i64 0, .int .i64 0, .int .i64 0, .int .i64 0, .int .i64 0, .int .i64 0, .int .i64 0, .int .i64 0]) 174)
              exact hK' _ _ (hK _ _ hg (at_of rfl (⟨v.heap.size, rfl, gv.size, Own.new v [.int .i64 0, .int .i64 0, .int .i64 0, .int .i64 0, .int .i64 0, .int .i64 0, .int .i64 0, .int .i64 0] 174 v.heap.size rfl⟩)))
          case fin8 =>
            rintro x v gv hd
            obtain ⟨x, rfl⟩ := upd_of (show x 42 = .agg #[.int .i64 (1 + (k : Int)), .int .i64 (50 + y1), .int .i64 (50 + y2), .int .i64 ((50 + y2) + (y0 / 8)), .int .i64 (y3 % 100), .int .i64 ((y3 % 100) + (y3 / 16)), .int .i64 (1000 * y4), .int .i64 (10 * y5)] from hd 42 _ (by omega) rfl)
            obtain ⟨b6, e43, hb6, ow6⟩ := hd 43 _ (by omega) rfl
            obtain ⟨x, rfl⟩ := upd_of (show x 43 = .pointer (some ⟨b6, 0, none⟩) from e43)
            clear hd
            show wpList Try.prog _ _ (List.drop 44 _) (⟨#[s 0, .pointer (some ⟨w.heap.size, 0, none⟩), .pointer (some ⟨(w.heap.size + 1), 0, none⟩), .pointer (some ⟨(w.heap.size + 1 + 1), 0, none⟩), .int .i64 (k : Int), .pointer (some ⟨wr.heap.size, 0, none⟩), .pointer (some ⟨b6, 0, none⟩), undef, undef, undef, s 10, r 11, r 12, r 13, r 14, r 15, r 16, r 17, r 18, r 19, r 20, r 21, r 22, r 23, r 24, r 25, r 26, r 27, r 28, r 29, r 30, r 31, r 32, r 33, r 34, r 35, r 36, r 37, r 38, x 0, x 1, x 2, x 3, x 4, x 5, x 6, x 7, x 8, x 9, x 10, x 11, x 12, x 13, x 14, x 15, x 16, x 17, x 18, x 19, x 20, x 21, x 22, x 23, x 24, x 25, x 26, x 27, x 28, x 29, x 30, x 31, x 32, x 33, x 34, x 35, x 36, x 37, x 38, x 39, x 40, x 41, .agg #[.int .i64 (1 + (k : Int)), .int .i64 (50 + y1), .int .i64 (50 + y2), .int .i64 ((50 + y2) + (y0 / 8)), .int .i64 (y3 % 100), .int .i64 ((y3 % 100) + (y3 / 16)), .int .i64 (1000 * y4), .int .i64 (10 * y5)], r 82, r 83, r 84, r 85, r 86, r 87, r 88, r 89, r 90, r 91, r 92, r 93, r 94, r 95, undef, undef, undef, undef, undef, undef, undef, undef, undef, undef, undef, undef, undef, undef, undef, undef, undef, undef, undef, undef, undef, undef, undef, undef, undef, undef, undef, undef, undef, undef, undef, undef, undef, undef, undef, undef, undef, undef, undef, undef, undef, undef, undef, undef, undef, undef, undef, undef, undef, undef, undef, undef, undef, undef, undef, undef, undef, undef, undef, undef, undef, undef, undef], []⟩ : Act) v
            simp only [List.drop_succ_cons, List.drop_zero]
            clear w0 w1 w2 w3 w4 w5 w6 w7 w8 w9 w10 w11 w12 w13 w14 w15 w16 w17 w18
            obtain ⟨u0, u1, u2, u3, u4, u5, u6, u7⟩ := ow6.1.c8
            have z0 := ow6.2 0
            have z1 := ow6.2 1
            have z2 := ow6.2 2
            have z3 := ow6.2 3
            have z4 := ow6.2 4
            have z5 := ow6.2 5
            have z6 := ow6.2 6
            have z7 := ow6.2 7
            have gs := gn.size
            have hov := ov.1.1
            go_upto_region 9 with fail
            refine wp_abs (fun V => Gr wr V ∧ Own V wr.heap.size [.int .u8 y0, .int .u8 y1, .int .u8 y2, .int .u8 y3, .int .u8 y4, .int .u8 y5] ∧ Own V b6 [.int .i64 (1 + (k : Int)), .int .i64 (50 + y1), .int .i64 (50 + y2), .int .i64 ((50 + y2) + (y0 / 8)), .int .i64 (y3 % 100), .int .i64 ((y3 % 100) + (y3 / 16)), .int .i64 (1000 * y4), .int .i64 (10 * y5)]) ⟨(((((((((gn.tr gv).setCell (by simp; omega) _).setCell (by simp; omega) _).setCell (by simp; omega) _).setCell (by simp; omega) _).setCell (by simp; omega) _).setCell (by simp; omega) _).setCell (by simp; omega) _).setCell (by simp; omega) _), ((((((((ov.keep gv).other (by omega)).other (by omega)).other (by omega)).other (by omega)).other (by omega)).other (by omega)).other (by omega)).other (by omega), (((((((ow6.set (i := 0) (by simp)).set (i := 1) (by simp)).set (i := 2) (by simp)).set (i := 3) (by simp)).set (i := 4) (by simp)).set (i := 5) (by simp)).set (i := 6) (by simp)).set (i := 7) (by simp)⟩ ?_
            have hb6w : wr.heap.size < b6 := by omega
            clear u0 u1 u2 u3 u4 u5 u6 u7 z0 z1 z2 z3 z4 z5 z6 z7 ow6 ov gn gv gs hov hb6
            rintro V ⟨gn, ov, ow6⟩
            go_upto_if 83 with fail
            go_cut [] from 84 to 89 (fun wx => Gr wr wx ∧ Own wx b6 (encP (paperW k ⟨y0, y1, y2, y3, y4, y5⟩)))
            case first =>
              by_cases h1 : 1 < k
              · have E : encP (paperW k ⟨y0, y1, y2, y3, y4, y5⟩) = [.int .i64 (1 + y0 % 2), .int .i64 (50 + y1), .int .i64 (50 + y2), .int .i64 ((50 + y2) + (y0 / 8)), .int .i64 (y3 % 100), .int .i64 ((y3 % 100) + (y3 / 16)), .int .i64 (1000 * y4), .int .i64 (10 * y5)] := by simp [encP, paperW, h1]
                have E' := Lib.hid E
                have d1 : decide ((1 : Int) < (k : Int)) = true := by simp; omega
                have q0 := ov.1.2 0 _ rfl
                have u0 := ow6.1.2 0 _ rfl
                have z0 := ow6.2 0
                have v0 : y0.tmod 2 = y0 % 2 := Int.tmod_eq_emod_of_nonneg (by omega)
                have hm2 : y0 % 2 = 0 ∨ y0 % 2 = 1 := by omega
                have v1 : IntKind.u8.wrap (1 + y0 % 2) = 1 + y0 % 2 := by rcases hm2 with e | e <;> rw [e] <;> rfl
                have v2 : IntKind.i64.wrap (1 + y0 % 2) = 1 + y0 % 2 := IntWalk.i64_in _ (by omega)
                clear E hm2
                go_wp2_with fail
                go_meet
                refine ⟨gn.setCell (by simp; omega) _, ?_⟩
                rw [E'.out]
                exact ow6.set (i := 0) (by simp)
              · have E : encP (paperW k ⟨y0, y1, y2, y3, y4, y5⟩) = [.int .i64 (1 + (k : Int)), .int .i64 (50 + y1), .int .i64 (50 + y2), .int .i64 ((50 + y2) + (y0 / 8)), .int .i64 (y3 % 100), .int .i64 ((y3 % 100) + (y3 / 16)), .int .i64 (1000 * y4), .int .i64 (10 * y5)] := by simp [encP, paperW, h1]
                have E' := Lib.hid E
                have d1 : decide ((1 : Int) < (k : Int)) = false := by simp; omega
                clear E
                go_wp2_with fail
                go_meet
                refine ⟨gn, ?_⟩
                rw [E'.out]
                exact ow6
            case rest =>
              clear gn ov ow6
              obtain ⟨gX, oP⟩ := hcut
              generalize paperW k ⟨y0, y1, y2, y3, y4, y5⟩ = pp at *
              clear p0 p1 p2 p3 p4 p5 p6 p7 p8 p9 p10 p11
              have s0 := ((os.keep gX).1.c2).1
              obtain ⟨u0, u1, u2, u3, u4, u5, u6, u7⟩ := (show Box wc b6 [.int .i64 pp.kind, .int .i64 pp.weight, .int .i64 pp.tlo, .int .i64 pp.thi, .int .i64 pp.mlo, .int .i64 pp.mhi, .int .i64 pp.price, .int .i64 pp.strong] from oP.1).c8
              have k1 : k + 1 ≤ maxLen := by unfold maxLen; omega
              have k2 : (k + 1) * 64 ≤ 140737488355328 := by omega
              have gA := gX.tr (Gr.al wc (.cells #[.int .i64 pp.kind, .int .i64 pp.weight, .int .i64 pp.tlo, .int .i64 pp.thi, .int .i64 pp.mlo, .int .i64 pp.mhi, .int .i64 pp.price, .int .i64 pp.strong] 174))
              have hoA := owns_keep hown gA
              have gA0 := gA.size
              have hne4 : ∀ r, pv.ownBlock = some r → w.heap.size + 1 + 1 < r ∧ r < wr.heap.size := (fun r hr => by have := hown.lt r hr; omega)
              have HNE := Lib.hid hne4
              clear hne4
              go_wp2_with (at_builtin; refine wpList_append_own _ rfl _ _ 121 rfl (w.heap.size + 1 + 1 + 1) 174 ip _ 8 64 Try.underlying121 hip hpz0 hpz1 hpz2 rfl (by decide) _ _ _ rfl hoA ⟨wc.heap.size, 0, none⟩ 1 1 ([pp.kind, pp.weight, pp.tlo, pp.thi, pp.mlo, pp.mhi, pp.price, pp.strong].map (fun n => Value.int .i64 n)) rfl rfl (cell_news _ _ _) (ints_one _) k1 k2 (by omega) ?_; intro v' w6 hown4 hgr4 _; obtain ⟨a4, c4, rfl⟩ := owns_val hown4; have os4 := (os.keep gA).grownRow hgr4 (fun r hr => by have := HNE.out r hr; omega); have gY := (gg.tr gA).grown' hoA (by omega) hgr4; have hx4 := (hx.keep gA).grown hgr4 (fun r hr => by have := HNE.out r hr; omega); have or4 := (or.keep gA).grownRow hgr4 (fun r hr => by have := HNE.out r hr; omega); obtain ⟨t0, t1⟩ := os4.1.c2; have y0 := os4.2 0)
              go_roundw
              case rel =>
                refine Lib.hid ⟨k + 1, _, by omega, by go_num, gY.setCell (show w.heap.size ≤ w.heap.size + 1 + 1 by omega) _, ?_, or4.other (by omega), os4.set (i := 0) (by simp), ?_⟩
                · exact hx4.other (by omega)
                · rw [List.take_add_one, HPK.out, Option.toList_some, flat_snoc]
                  exact owns_other hown4 (by omega)
              case measure => simp [intOf]; omega
    · obtain rfl : k = npW P.length := by omega
      have hle : npW P.length = (storeWP P).length := (storeWP_len P).symm
      rw [List.take_of_length_le (by omega)] at hown
      have HLE := Lib.hid hle
      have hB1 := hown.lt
      have HP1 := Lib.hid hB1
      clear hB1 hle
      have hsz : w.heap.size + 1 + 1 < wr.heap.size := os.1.1
      go_upto_region 3 with fail
      go_cut [23] from 11 to 22 (fun s23 wx => s23 = .bool false ∧ wr = wx)
      case first =>
        have q0 := hx.2 0 _ rfl
        have d1 : decide ((npW P.length : Int) < 2) = false := by simp; omega
        by_cases hl : npW P.length < P.length
        · have d2 : decide (npW P.length < P.length) = true := by simpa using hl
          have h5 : npW P.length = 5 := by unfold npW at hl ⊢; split at hl <;> (try split at hl) <;> (try split) <;> omega
          have d3 : decide ((npW P.length : Int) < 5) = false := by simp; omega
          clear h5
          go_wp2_with fail
          go_meet
          exact ⟨rfl, rfl⟩
        · have d2 : decide (npW P.length < P.length) = false := by simpa using hl
          go_wp2_with fail
          go_meet
          exact ⟨rfl, rfl⟩
      case rest =>
        obtain ⟨rfl, rfl⟩ := hcut
        obtain ⟨H1, hH1⟩ : ∃ H1, H1 = wr.heap.size := ⟨_, rfl⟩
        have hsw : w.heap.size + 1 + 1 < H1 := by omega
        have hge : H1 ≤ wr.heap.size := by omega
        have HP2 : Hid (∀ r, pv.ownBlock = some r → r < H1) := Lib.hid (fun r hr => by have := HP1.out r hr; omega)
        clear hH1 HP1
        generalize npW P.length = np at *
        go_wp2
        refine (show (∀ t : Nat → Value, Code.wp Try.prog _ _ ⟨#[t 0, .pointer (some ⟨w.heap.size, 0, none⟩), .pointer (some ⟨(w.heap.size + 1), 0, none⟩), .pointer (some ⟨(w.heap.size + 1 + 1), 0, none⟩), t 4, t 5, t 6, .int .i64 0, undef, undef, t 10, t 11, t 12, t 13, t 14, t 15, t 16, t 17, t 18, t 19, t 20, t 21, t 22, t 23, t 24, t 25, t 26, t 27, t 28, t 29, t 30, t 31, t 32, t 33, t 34, t 35, t 36, t 37, t 38, t 39, t 40, t 41, t 42, t 43, t 44, t 45, t 46, t 47, t 48, t 49, t 50, t 51, t 52, t 53, t 54, t 55, t 56, t 57, t 58, t 59, t 60, t 61, t 62, t 63, t 64, t 65, t 66, t 67, t 68, t 69, t 70, t 71, t 72, t 73, t 74, t 75, t 76, t 77, t 78, t 79, t 80, t 81, t 82, t 83, t 84, t 85, t 86, t 87, t 88, t 89, t 90, t 91, t 92, t 93, t 94, t 95, undef, undef, undef, undef, undef, undef, undef, undef, undef, undef, undef, undef, undef, undef, undef, undef, undef, undef, undef, undef, undef, undef, undef, undef, undef, undef, undef, undef, undef, undef, undef, undef, undef, undef, undef, undef, undef, undef, undef, undef, undef, undef, undef, undef, undef, undef, undef, undef, undef, undef, undef, undef, undef, undef, undef, undef, undef, undef, undef, undef, undef, undef, undef], []⟩ _) → _ from fun h => h ((fun l : List Value => fun i => l.getD i undef) [_, undef, undef, undef, _, _, _, undef, undef, undef, _, _, _, _, _, _, _, _, _, _, _, _, _, _, _, _, _, _, _, _, _, _, _, _, _, _, _, _, _, _, _, _, _, _, _, _, _, _, _, _, _, _, _, _, _, _, _, _, _, _, _, _, _, _, _, _, _, _, _, _, _, _, _, _, _, _, _, _, _, _, _, _, _, _, _, _, _, _, _, _, _, _, _, _, _, _])) ?_
        intro t
        dsimp only
        go_loopw [7] (fun i wq => Hid (∃ (k : Nat) (pv2 : Value), k ≤ nfW F.length ∧ i = .int .i64 k ∧ Gr w wq ∧ H1 ≤ wq.heap.size ∧ Box wq w.heap.size [.slice pa P.length pc, .slice fa F.length fc, .slice ya yn yc] ∧ Own wq (w.heap.size + 1) [.slice none 0 0, .slice none 0 0] ∧ Own wq (w.heap.size + 1 + 1) [pv, pv2] ∧
                wq.ownsRow (w.heap.size + 1 + 1 + 1) 174 8 pv np ((storeWP P).flatMap encP) ∧ wq.ownsRow H1 176 4 pv2 k (((storeWF F).take k).flatMap encF))) (fun i wq => 3 - (intOf i).toNat)
        case atStart => exact Lib.hid ⟨0, .slice none 0 0, by omega, rfl, gg, hge, hx, or, os, hown, World.ownsRow_nil _ _ _ _⟩
        case round =>
          clear gg hx or os hown
          obtain ⟨k, pv2, hk, rfl, gg, hHq, hx, or, os, hPo, hown⟩ := hrel.out
          clear hrel
          by_cases hlt : k < nfW F.length
          · have k5 : k < 3 := by omega
            have hsz : w.heap.size + 1 + 1 < wr.heap.size := os.1.1
            go_upto_region 13 with fail
            go_cut [108] from 96 to 107 (fun s23 wx => s23 = .bool true ∧ wr = wx)
            case first =>
              have q0 := hx.2 1 _ rfl
              by_cases h2 : k = 0
              · subst h2
                go_wp2_with fail
                go_meet
                exact ⟨rfl, rfl⟩
              · have d1 : ((k : Int) == 0) = false := by rw [beq_eq_false_iff_ne]; omega
                have hl : k < F.length := by unfold nfW at hlt; split at hlt <;> (try split at hlt) <;> omega
                have d2 : decide (k < F.length) = true := by simpa using hl
                have d3 : decide ((k : Int) < 3) = true := by simp; omega
                go_wp2_with fail
                go_meet
                exact ⟨rfl, rfl⟩
            case rest =>
              obtain ⟨rfl, rfl⟩ := hcut
              have q0 := hx.2 1 _ rfl
              have q0' := (hx.keep (Gr.al wr (.cells #[.int .u8 80, .int .u8 128, .int .u8 36] 94))).2 1 _ rfl
              go_upto_if 116 with fail
              go_cut [] from 117 to 121 (fun wx => Gr wr wx ∧ Own wx wr.heap.size (encV3 (wareF F k)))
              case first =>
                by_cases hl : k < F.length
                · obtain ⟨v, hv⟩ := get_of_lt hl
                  have E : wareF F k = v := by simp [wareF, hv]
                  have E' := Lib.hid E
                  clear E
                  obtain ⟨b0, o0, ha, hb0, hc⟩ := (rf.grow (gg.tr (Gr.al wr (.cells #[.int .u8 80, .int .u8 128, .int .u8 36] 94)))).2 k v hv
                  subst ha
                  clear hv
                  obtain ⟨v0, v1, v2⟩ := v
                  have c0 : (wr.alloc (.cells #[.int .u8 80, .int .u8 128, .int .u8 36] 94)).cell? ⟨b0, o0 + k * 3, none⟩ = some (.int .u8 v0) := hc 0 _ rfl
                  have c1 : (wr.alloc (.cells #[.int .u8 80, .int .u8 128, .int .u8 36] 94)).cell? ⟨b0, o0 + k * 3 + 1, none⟩ = some (.int .u8 v1) := hc 1 _ rfl
                  have c2 : (wr.alloc (.cells #[.int .u8 80, .int .u8 128, .int .u8 36] 94)).cell? ⟨b0, o0 + k * 3 + 2, none⟩ = some (.int .u8 v2) := hc 2 _ rfl
                  clear hc
                  have d2 : decide (k < F.length) = true := by simpa using hl
                  go_wp2_with fail
                  go_meet
                  refine ⟨Gr.al _ _, ?_⟩
                  rw [E'.out]
                  exact Own.new _ [.int .u8 v0, .int .u8 v1, .int .u8 v2] _ _ rfl
                · have E : wareF F k = ⟨80, 128, 36⟩ := by simp [wareF, List.getElem?_eq_none (show F.length ≤ k by omega)]
                  have E' := Lib.hid E
                  clear E
                  have d2 : decide (k < F.length) = false := by simpa using hl
                  go_wp2_with fail
                  go_meet
                  refine ⟨Gr.al _ _, ?_⟩
                  rw [E'.out]
                  exact Own.new _ [.int .u8 80, .int .u8 128, .int .u8 36] _ _ rfl
              case rest =>
                obtain ⟨gn, ov⟩ := hcut
                clear q0 q0'
                have hpk := storeWF_at hlt
                obtain ⟨⟨p0, p1⟩, ⟨p2, p3⟩, ⟨p4, p5⟩⟩ := wareF_B HF.out k
                generalize wareF F k = vv at *
                obtain ⟨y0, y1, y2⟩ := vv
                simp only at p0 p1 p2 p3 p4 p5
                have HPK := Lib.hid hpk
                clear hpk
                have m0 : 0 ≤ (1000 + 35 * y0) * y1 := Int.mul_nonneg (by omega) p2
                have m1 : (1000 + 35 * y0) * y1 ≤ 9925 * 255 := Int.mul_le_mul (by omega) p3 p2 (by omega)
                have q0 := ov.1.2 0 _ rfl
                have hwa : IntKind.i64.wrap y0 = y0 := IntWalk.i64_in _ (by omega)
                have hwb : IntKind.i64.wrap (35 * y0) = 35 * y0 := IntWalk.i64_in _ (by omega)
                have hwc : IntKind.i64.wrap (1000 + 35 * y0) = 1000 + 35 * y0 := IntWalk.i64_in _ (by omega)
                go_upto_region 19 with fail
                clear q0 hwa hwb hwc
                refine (show (∀ r : Nat → Value, Code.wp Try.prog _ _ ⟨#[t 0, .pointer (some ⟨w.heap.size, 0, none⟩), .pointer (some ⟨(w.heap.size + 1), 0, none⟩), .pointer (some ⟨(w.heap.size + 1 + 1), 0, none⟩), t 4, t 5, t 6, .int .i64 (k : Int), .pointer (some ⟨wr.heap.size, 0, none⟩), .int .i64 (1000 + 35 * y0), t 10, t 11, t 12, t 13, t 14, t 15, t 16, t 17, t 18, t 19, t 20, t 21, t 22, t 23, t 24, t 25, t 26, t 27, t 28, t 29, t 30, t 31, t 32, t 33, t 34, t 35, t 36, t 37, t 38, t 39, t 40, t 41, t 42, t 43, t 44, t 45, t 46, t 47, t 48, t 49, t 50, t 51, t 52, t 53, t 54, t 55, t 56, t 57, t 58, t 59, t 60, t 61, t 62, t 63, t 64, t 65, t 66, t 67, t 68, t 69, t 70, t 71, t 72, t 73, t 74, t 75, t 76, t 77, t 78, t 79, t 80, t 81, t 82, t 83, t 84, t 85, t 86, t 87, t 88, t 89, t 90, t 91, t 92, t 93, t 94, t 95, r 96, r 97, r 98, r 99, r 100, r 101, r 102, r 103, r 104, r 105, r 106, r 107, r 108, r 109, r 110, r 111, r 112, r 113, r 114, r 115, r 116, r 117, r 118, r 119, r 120, r 121, r 122, r 123, r 124, r 125, r 126, r 127, r 128, r 129, r 130, r 131, r 132, r 133, r 134, r 135, r 136, r 137, r 138, r 139, r 140, r 141, r 142, r 143, r 144, r 145, r 146, r 147, r 148, r 149, r 150, r 151, r 152, r 153, r 154, r 155, r 156, r 157, undef], []⟩ _) → _ from fun h => h ((fun l : List Value => fun i => l.getD i undef) [undef, undef, undef, undef, undef, undef, undef, undef, undef, undef, undef, undef, undef, undef, undef, undef, undef, undef, undef, undef, undef, undef, undef, undef, undef, undef, undef, undef, undef, undef, undef, undef, undef, undef, undef, undef, undef, undef, undef, undef, undef, undef, undef, undef, undef, undef, undef, undef, undef, undef, undef, undef, undef, undef, undef, undef, undef, undef, undef, undef, undef, undef, undef, undef, undef, undef, undef, undef, undef, undef, undef, undef, undef, undef, undef, undef, undef, undef, undef, undef, undef, undef, undef, undef, undef, undef, undef, undef, undef, undef, undef, undef, undef, undef, undef, undef, _, _, _, _, _, _, _, _, _, _, _, _, _, _, _, _, _, _, _, _, _, _, _, _, _, _, _, _, _, _, _, _, _, _, _, _, _, _, _, _, _, _, _, _, _, _, _, _, _, _, _, _, _, _, _, _, _, _, _, _, _, _])) ?_
                intro r
                dsimp only
                have osX := os.keep gn
                have w0 : IntKind.i64.wrap (y1) = y1 := IntWalk.i64_in _ (by omega)
                have w1 : IntKind.i64.wrap ((1000 + 35 * y0) * y1) = (1000 + 35 * y0) * y1 := IntWalk.i64_in _ (by omega)
                have w2 : ((1000 + 35 * y0) * y1).tdiv 255 = ((1000 + 35 * y0) * y1) / 255 := Int.tdiv_eq_ediv_of_nonneg (by omega)
                have w3 : IntKind.i64.wrap (((1000 + 35 * y0) * y1) / 255) = ((1000 + 35 * y0) * y1) / 255 := IntWalk.i64_in _ (by omega)
                have w4 : IntKind.i64.wrap ((1000 + 35 * y0) + (((1000 + 35 * y0) * y1) / 255)) = (1000 + 35 * y0) + (((1000 + 35 * y0) * y1) / 255) := IntWalk.i64_in _ (by omega)
                have w5 : IntKind.i64.wrap (y2) = y2 := IntWalk.i64_in _ (by omega)
                have w6 : IntKind.i64.wrap (10 * y2) = 10 * y2 := IntWalk.i64_in _ (by omega)
                have w7 : IntKind.i64.wrap (500 + (10 * y2)) = 500 + (10 * y2) := IntWalk.i64_in _ (by omega)
                have w8 : y1.tmod 90 = y1 % 90 := Int.tmod_eq_emod_of_nonneg (by omega)
                have w9 : IntKind.i64.wrap ((500 + (10 * y2)) + (y1 % 90)) = (500 + (10 * y2)) + (y1 % 90) := IntWalk.i64_in _ (by omega)
                refine wp_region_facts 29 [(1, 0), (6, 5), (7, 6), (8, 4), (8, 7), (9, 8), (10, 3), (10, 9), (12, 11), (13, 12), (14, 13), (15, 14), (17, 16), (18, 17), (19, 18), (20, 19), (22, 21), (23, 22), (24, 23), (25, 20), (25, 24), (26, 15), (26, 25), (27, 2), (27, 10), (27, 26), (28, 27)] (fun x => ⟨#[t 0, .pointer (some ⟨w.heap.size, 0, none⟩), .pointer (some ⟨(w.heap.size + 1), 0, none⟩), .pointer (some ⟨(w.heap.size + 1 + 1), 0, none⟩), t 4, t 5, t 6, .int .i64 (k : Int), .pointer (some ⟨wr.heap.size, 0, none⟩), .int .i64 (1000 + 35 * y0), t 10, t 11, t 12, t 13, t 14, t 15, t 16, t 17, t 18, t 19, t 20, t 21, t 22, t 23, t 24, t 25, t 26, t 27, t 28, t 29, t 30, t 31, t 32, t 33, t 34, t 35, t 36, t 37, t 38, t 39, t 40, t 41, t 42, t 43, t 44, t 45, t 46, t 47, t 48, t 49, t 50, t 51, t 52, t 53, t 54, t 55, t 56, t 57, t 58, t 59, t 60, t 61, t 62, t 63, t 64, t 65, t 66, t 67, t 68, t 69, t 70, t 71, t 72, t 73, t 74, t 75, t 76, t 77, t 78, t 79, t 80, t 81, t 82, t 83, t 84, t 85, t 86, t 87, t 88, t 89, t 90, t 91, t 92, t 93, t 94, t 95, r 96, r 97, r 98, r 99, r 100, r 101, r 102, r 103, r 104, r 105, r 106, r 107, r 108, r 109, r 110, r 111, r 112, r 113, r 114, r 115, r 116, r 117, r 118, r 119, r 120, r 121, r 122, r 123, r 124, r 125, r 126, x 0, x 1, x 2, x 3, x 4, x 5, x 6, x 7, x 8, x 9, x 10, x 11, x 12, x 13, x 14, x 15, x 16, x 17, x 18, x 19, x 20, x 21, x 22, x 23, x 24, x 25, x 26, x 27, x 28, r 156, r 157, undef], []⟩) (fun i => [r 127, r 128, r 129, r 130, r 131, r 132, r 133, r 134, r 135, r 136, r 137, r 138, r 139, r 140, r 141, r 142, r 143, r 144, r 145, r 146, r 147, r 148, r 149, r 150, r 151, r 152, r 153, r 154, r 155].getD i undef) [fun _ x => x = .pointer (some ⟨(w.heap.size + 1 + 1), 1, none⟩), fun _ x => x = pv2, fun _ x => x = .int .i64 (1000 + 35 * y0), fun _ x => x = .int .i64 (1000 + 35 * y0), fun _ x => x = .int .i64 (1000 + 35 * y0), fun _ x => x = .pointer (some ⟨wr.heap.size, 1, none⟩), fun _ x => x = .int .u8 y1, fun _ x => x = .int .i64 y1, fun _ x => x = .int .i64 ((1000 + 35 * y0) * y1), fun _ x => x = .int .i64 (((1000 + 35 * y0) * y1) / 255), fun _ x => x = .int .i64 ((1000 + 35 * y0) + (((1000 + 35 * y0) * y1) / 255)), fun _ x => x = .pointer (some ⟨wr.heap.size, 2, none⟩), fun _ x => x = .int .u8 y2, fun _ x => x = .int .i64 y2, fun _ x => x = .int .i64 (10 * y2), fun _ x => x = .int .i64 (500 + (10 * y2)), fun _ x => x = .pointer (some ⟨wr.heap.size, 2, none⟩), fun _ x => x = .int .u8 y2, fun _ x => x = .int .i64 y2, fun _ x => x = .int .i64 (10 * y2), fun _ x => x = .int .i64 (500 + (10 * y2)), fun _ x => x = .pointer (some ⟨wr.heap.size, 1, none⟩), fun _ x => x = .int .u8 y1, fun _ x => x = .int .i64 y1, fun _ x => x = .int .i64 (y1 % 90), fun _ x => x = .int .i64 ((500 + (10 * y2)) + (y1 % 90)), fun _ x => x = .agg #[.int .i64 (500 + (10 * y2)), .int .i64 ((500 + (10 * y2)) + (y1 % 90))], fun _ x => x = .agg #[.int .i64 (1000 + 35 * y0), .int .i64 ((1000 + 35 * y0) + (((1000 + 35 * y0) * y1) / 255)), .int .i64 (500 + (10 * y2)), .int .i64 ((500 + (10 * y2)) + (y1 % 90))], fun v x => ∃ b, x = .slice (some ⟨b, 0, none⟩) 1 1 ∧ wc.heap.size ≤ b ∧ Own v b [.int .i64 (1000 + 35 * y0), .int .i64 ((1000 + 35 * y0) + (((1000 + 35 * y0) * y1) / 255)), .int .i64 (500 + (10 * y2)), .int .i64 ((500 + (10 * y2)) + (y1 % 90))]] (by rfl) (by kernel_rfl) (by kernel_rfl) (by kernel_rfl) (stays_cons (Stays.eq _) (stays_cons (Stays.eq _) (stays_cons (Stays.eq _) (stays_cons (Stays.eq _) (stays_cons (Stays.eq _) (stays_cons (Stays.eq _) (stays_cons (Stays.eq _) (stays_cons (Stays.eq _) (stays_cons (Stays.eq _) (stays_cons (Stays.eq _) (stays_cons (Stays.eq _) (stays_cons (Stays.eq _) (stays_cons (Stays.eq _) (stays_cons (Stays.eq _) (stays_cons (Stays.eq _) (stays_cons (Stays.eq _) (stays_cons (Stays.eq _) (stays_cons (Stays.eq _) (stays_cons (Stays.eq _) (stays_cons (Stays.eq _) (stays_cons (Stays.eq _) (stays_cons (Stays.eq _) (stays_cons (Stays.eq _) (stays_cons (Stays.eq _) (stays_cons (Stays.eq _) (stays_cons (Stays.eq _) (stays_cons (Stays.eq _) (stays_cons (Stays.eq _) (stays_cons ((show Stays (fun v x => ∃ b, x = .slice (some ⟨b, 0, none⟩) 1 1 ∧ wc.heap.size ≤ b ∧ Own v b [.int .i64 (1000 + 35 * y0), .int .i64 ((1000 + 35 * y0) + (((1000 + 35 * y0) * y1) / 255)), .int .i64 (500 + (10 * y2)), .int .i64 ((500 + (10 * y2)) + (y1 % 90))]) from fun v v' x g ⟨b, e, h, o⟩ => ⟨b, e, h, o.keep g⟩)) stays_nil))))))))))))))))))))))))))))) ?step19 ?fin19
                case step19 =>
                  rintro i hi x v gv hd K hK
                  have hi8 : i = 0 ∨ i = 1 ∨ i = 2 ∨ i = 3 ∨ i = 4 ∨ i = 5 ∨ i = 6 ∨ i = 7 ∨ i = 8 ∨ i = 9 ∨ i = 10 ∨ i = 11 ∨ i = 12 ∨ i = 13 ∨ i = 14 ∨ i = 15 ∨ i = 16 ∨ i = 17 ∨ i = 18 ∨ i = 19 ∨ i = 20 ∨ i = 21 ∨ i = 22 ∨ i = 23 ∨ i = 24 ∨ i = 25 ∨ i = 26 ∨ i = 27 ∨ i = 28 := by omega
                  rcases hi8 with rfl | rfl | rfl | rfl | rfl | rfl | rfl | rfl | rfl | rfl | rfl | rfl | rfl | rfl | rfl | rfl | rfl | rfl | rfl | rfl | rfl | rfl | rfl | rfl | rfl | rfl | rfl | rfl | rfl
                  · show wpOp Try.prog _ _ 0 K (⟨#[t 0, .pointer (some ⟨w.heap.size, 0, none⟩), .pointer (some ⟨(w.heap.size + 1), 0, none⟩), .pointer (some ⟨(w.heap.size + 1 + 1), 0, none⟩), t 4, t 5, t 6, .int .i64 (k : Int), .pointer (some ⟨wr.heap.size, 0, none⟩), .int .i64 (1000 + 35 * y0), t 10, t 11, t 12, t 13, t 14, t 15, t 16, t 17, t 18, t 19, t 20, t 21, t 22, t 23, t 24, t 25, t 26, t 27, t 28, t 29, t 30, t 31, t 32, t 33, t 34, t 35, t 36, t 37, t 38, t 39, t 40, t 41, t 42, t 43, t 44, t 45, t 46, t 47, t 48, t 49, t 50, t 51, t 52, t 53, t 54, t 55, t 56, t 57, t 58, t 59, t 60, t 61, t 62, t 63, t 64, t 65, t 66, t 67, t 68, t 69, t 70, t 71, t 72, t 73, t 74, t 75, t 76, t 77, t 78, t 79, t 80, t 81, t 82, t 83, t 84, t 85, t 86, t 87, t 88, t 89, t 90, t 91, t 92, t 93, t 94, t 95, r 96, r 97, r 98, r 99, r 100, r 101, r 102, r 103, r 104, r 105, r 106, r 107, r 108, r 109, r 110, r 111, r 112, r 113, r 114, r 115, r 116, r 117, r 118, r 119, r 120, r 121, r 122, r 123, r 124, r 125, r 126, x 0, x 1, x 2, x 3, x 4, x 5, x 6, x 7, x 8, x 9, x 10, x 11, x 12, x 13, x 14, x 15, x 16, x 17, x 18, x 19, x 20, x 21, x 22, x 23, x 24, x 25, x 26, x 27, x 28, r 156, r 157, undef], []⟩ : Act) v
                    refine wpOp_step rfl (fun K' hK' => ?_)
                    go_simp
                    exact hK' _ _ (hK _ _ (Below.refl _ _) (at_of rfl (rfl)))
                  · obtain ⟨x, rfl⟩ := upd_of (show x 0 = .pointer (some ⟨(w.heap.size + 1 + 1), 1, none⟩) from hd 0 _ (by simp) rfl)
                    show wpOp Try.prog _ _ 1 K (⟨#[t 0, .pointer (some ⟨w.heap.size, 0, none⟩), .pointer (some ⟨(w.heap.size + 1), 0, none⟩), .pointer (some ⟨(w.heap.size + 1 + 1), 0, none⟩), t 4, t 5, t 6, .int .i64 (k : Int), .pointer (some ⟨wr.heap.size, 0, none⟩), .int .i64 (1000 + 35 * y0), t 10, t 11, t 12, t 13, t 14, t 15, t 16, t 17, t 18, t 19, t 20, t 21, t 22, t 23, t 24, t 25, t 26, t 27, t 28, t 29, t 30, t 31, t 32, t 33, t 34, t 35, t 36, t 37, t 38, t 39, t 40, t 41, t 42, t 43, t 44, t 45, t 46, t 47, t 48, t 49, t 50, t 51, t 52, t 53, t 54, t 55, t 56, t 57, t 58, t 59, t 60, t 61, t 62, t 63, t 64, t 65, t 66, t 67, t 68, t 69, t 70, t 71, t 72, t 73, t 74, t 75, t 76, t 77, t 78, t 79, t 80, t 81, t 82, t 83, t 84, t 85, t 86, t 87, t 88, t 89, t 90, t 91, t 92, t 93, t 94, t 95, r 96, r 97, r 98, r 99, r 100, r 101, r 102, r 103, r 104, r 105, r 106, r 107, r 108, r 109, r 110, r 111, r 112, r 113, r 114, r 115, r 116, r 117, r 118, r 119, r 120, r 121, r 122, r 123, r 124, r 125, r 126, .pointer (some ⟨(w.heap.size + 1 + 1), 1, none⟩), x 1, x 2, x 3, x 4, x 5, x 6, x 7, x 8, x 9, x 10, x 11, x 12, x 13, x 14, x 15, x 16, x 17, x 18, x 19, x 20, x 21, x 22, x 23, x 24, x 25, x 26, x 27, x 28, r 156, r 157, undef], []⟩ : Act) v
                    refine wpOp_step rfl (fun K' hK' => ?_)
                    have q := (osX.1.keep gv).2 1 _ rfl
                    go_simp
                    exact hK' _ _ (hK _ _ (Below.refl _ _) (at_of rfl (rfl)))
                  · show wpOp Try.prog _ _ 2 K (⟨#[t 0, .pointer (some ⟨w.heap.size, 0, none⟩), .pointer (some ⟨(w.heap.size + 1), 0, none⟩), .pointer (some ⟨(w.heap.size + 1 + 1), 0, none⟩), t 4, t 5, t 6, .int .i64 (k : Int), .pointer (some ⟨wr.heap.size, 0, none⟩), .int .i64 (1000 + 35 * y0), t 10, t 11, t 12, t 13, t 14, t 15, t 16, t 17, t 18, t 19, t 20, t 21, t 22, t 23, t 24, t 25, t 26, t 27, t 28, t 29, t 30, t 31, t 32, t 33, t 34, t 35, t 36, t 37, t 38, t 39, t 40, t 41, t 42, t 43, t 44, t 45, t 46, t 47, t 48, t 49, t 50, t 51, t 52, t 53, t 54, t 55, t 56, t 57, t 58, t 59, t 60, t 61, t 62, t 63, t 64, t 65, t 66, t 67, t 68, t 69, t 70, t 71, t 72, t 73, t 74, t 75, t 76, t 77, t 78, t 79, t 80, t 81, t 82, t 83, t 84, t 85, t 86, t 87, t 88, t 89, t 90, t 91, t 92, t 93, t 94, t 95, r 96, r 97, r 98, r 99, r 100, r 101, r 102, r 103, r 104, r 105, r 106, r 107, r 108, r 109, r 110, r 111, r 112, r 113, r 114, r 115, r 116, r 117, r 118, r 119, r 120, r 121, r 122, r 123, r 124, r 125, r 126, x 0, x 1, x 2, x 3, x 4, x 5, x 6, x 7, x 8, x 9, x 10, x 11, x 12, x 13, x 14, x 15, x 16, x 17, x 18, x 19, x 20, x 21, x 22, x 23, x 24, x 25, x 26, x 27, x 28, r 156, r 157, undef], []⟩ : Act) v
                    refine wpOp_step rfl (fun K' hK' => ?_)
                    go_simp
                    exact hK' _ _ (hK _ _ (Below.refl _ _) (at_of rfl (rfl)))
                  · show wpOp Try.prog _ _ 3 K (⟨#[t 0, .pointer (some ⟨w.heap.size, 0, none⟩), .pointer (some ⟨(w.heap.size + 1), 0, none⟩), .pointer (some ⟨(w.heap.size + 1 + 1), 0, none⟩), t 4, t 5, t 6, .int .i64 (k : Int), .pointer (some ⟨wr.heap.size, 0, none⟩), .int .i64 (1000 + 35 * y0), t 10, t 11, t 12, t 13, t 14, t 15, t 16, t 17, t 18, t 19, t 20, t 21, t 22, t 23, t 24, t 25, t 26, t 27, t 28, t 29, t 30, t 31, t 32, t 33, t 34, t 35, t 36, t 37, t 38, t 39, t 40, t 41, t 42, t 43, t 44, t 45, t 46, t 47, t 48, t 49, t 50, t 51, t 52, t 53, t 54, t 55, t 56, t 57, t 58, t 59, t 60, t 61, t 62, t 63, t 64, t 65, t 66, t 67, t 68, t 69, t 70, t 71, t 72, t 73, t 74, t 75, t 76, t 77, t 78, t 79, t 80, t 81, t 82, t 83, t 84, t 85, t 86, t 87, t 88, t 89, t 90, t 91, t 92, t 93, t 94, t 95, r 96, r 97, r 98, r 99, r 100, r 101, r 102, r 103, r 104, r 105, r 106, r 107, r 108, r 109, r 110, r 111, r 112, r 113, r 114, r 115, r 116, r 117, r 118, r 119, r 120, r 121, r 122, r 123, r 124, r 125, r 126, x 0, x 1, x 2, x 3, x 4, x 5, x 6, x 7, x 8, x 9, x 10, x 11, x 12, x 13, x 14, x 15, x 16, x 17, x 18, x 19, x 20, x 21, x 22, x 23, x 24, x 25, x 26, x 27, x 28, r 156, r 157, undef], []⟩ : Act) v
                    refine wpOp_step rfl (fun K' hK' => ?_)
                    go_simp
                    exact hK' _ _ (hK _ _ (Below.refl _ _) (at_of rfl (rfl)))
                  · show wpOp Try.prog _ _ 4 K (⟨#[t 0, .pointer (some ⟨w.heap.size, 0, none⟩), .pointer (some ⟨(w.heap.size + 1), 0, none⟩), .pointer (some ⟨(w.heap.size + 1 + 1), 0, none⟩), t 4, t 5, t 6, .int .i64 (k : Int), .pointer (some ⟨wr.heap.size, 0, none⟩), .int .i64 (1000 + 35 * y0), t 10, t 11, t 12, t 13, t 14, t 15, t 16, t 17, t 18, t 19, t 20, t 21, t 22, t 23, t 24, t 25, t 26, t 27, t 28, t 29, t 30, t 31, t 32, t 33, t 34, t 35, t 36, t 37, t 38, t 39, t 40, t 41, t 42, t 43, t 44, t 45, t 46, t 47, t 48, t 49, t 50, t 51, t 52, t 53, t 54, t 55, t 56, t 57, t 58, t 59, t 60, t 61, t 62, t 63, t 64, t 65, t 66, t 67, t 68, t 69, t 70, t 71, t 72, t 73, t 74, t 75, t 76, t 77, t 78, t 79, t 80, t 81, t 82, t 83, t 84, t 85, t 86, t 87, t 88, t 89, t 90, t 91, t 92, t 93, t 94, t 95, r 96, r 97, r 98, r 99, r 100, r 101, r 102, r 103, r 104, r 105, r 106, r 107, r 108, r 109, r 110, r 111, r 112, r 113, r 114, r 115, r 116, r 117, r 118, r 119, r 120, r 121, r 122, r 123, r 124, r 125, r 126, x 0, x 1, x 2, x 3, x 4, x 5, x 6, x 7, x 8, x 9, x 10, x 11, x 12, x 13, x 14, x 15, x 16, x 17, x 18, x 19, x 20, x 21, x 22, x 23, x 24, x 25, x 26, x 27, x 28, r 156, r 157, undef], []⟩ : Act) v
                    refine wpOp_step rfl (fun K' hK' => ?_)
                    go_simp
                    exact hK' _ _ (hK _ _ (Below.refl _ _) (at_of rfl (rfl)))
                  · show wpOp Try.prog _ _ 5 K (⟨#[t 0, .pointer (some ⟨w.heap.size, 0, none⟩), .pointer (some ⟨(w.heap.size + 1), 0, none⟩), .pointer (some ⟨(w.heap.size + 1 + 1), 0, none⟩), t 4, t 5, t 6, .int .i64 (k : Int), .pointer (some ⟨wr.heap.size, 0, none⟩), .int .i64 (1000 + 35 * y0), t 10, t 11, t 12, t 13, t 14, t 15, t 16, t 17, t 18, t 19, t 20, t 21, t 22, t 23, t 24, t 25, t 26, t 27, t 28, t 29, t 30, t 31, t 32, t 33, t 34, t 35, t 36, t 37, t 38, t 39, t 40, t 41, t 42, t 43, t 44, t 45, t 46, t 47, t 48, t 49, t 50, t 51, t 52, t 53, t 54, t 55, t 56, t 57, t 58, t 59, t 60, t 61, t 62, t 63, t 64, t 65, t 66, t 67, t 68, t 69, t 70, t 71, t 72, t 73, t 74, t 75, t 76, t 77, t 78, t 79, t 80, t 81, t 82, t 83, t 84, t 85, t 86, t 87, t 88, t 89, t 90, t 91, t 92, t 93, t 94, t 95, r 96, r 97, r 98, r 99, r 100, r 101, r 102, r 103, r 104, r 105, r 106, r 107, r 108, r 109, r 110, r 111, r 112, r 113, r 114, r 115, r 116, r 117, r 118, r 119, r 120, r 121, r 122, r 123, r 124, r 125, r 126, x 0, x 1, x 2, x 3, x 4, x 5, x 6, x 7, x 8, x 9, x 10, x 11, x 12, x 13, x 14, x 15, x 16, x 17, x 18, x 19, x 20, x 21, x 22, x 23, x 24, x 25, x 26, x 27, x 28, r 156, r 157, undef], []⟩ : Act) v
                    refine wpOp_step rfl (fun K' hK' => ?_)
                    go_simp
                    exact hK' _ _ (hK _ _ (Below.refl _ _) (at_of rfl (rfl)))
                  · obtain ⟨x, rfl⟩ := upd_of (show x 5 = .pointer (some ⟨wr.heap.size, 1, none⟩) from hd 5 _ (by simp) rfl)
                    show wpOp Try.prog _ _ 6 K (⟨#[t 0, .pointer (some ⟨w.heap.size, 0, none⟩), .pointer (some ⟨(w.heap.size + 1), 0, none⟩), .pointer (some ⟨(w.heap.size + 1 + 1), 0, none⟩), t 4, t 5, t 6, .int .i64 (k : Int), .pointer (some ⟨wr.heap.size, 0, none⟩), .int .i64 (1000 + 35 * y0), t 10, t 11, t 12, t 13, t 14, t 15, t 16, t 17, t 18, t 19, t 20, t 21, t 22, t 23, t 24, t 25, t 26, t 27, t 28, t 29, t 30, t 31, t 32, t 33, t 34, t 35, t 36, t 37, t 38, t 39, t 40, t 41, t 42, t 43, t 44, t 45, t 46, t 47, t 48, t 49, t 50, t 51, t 52, t 53, t 54, t 55, t 56, t 57, t 58, t 59, t 60, t 61, t 62, t 63, t 64, t 65, t 66, t 67, t 68, t 69, t 70, t 71, t 72, t 73, t 74, t 75, t 76, t 77, t 78, t 79, t 80, t 81, t 82, t 83, t 84, t 85, t 86, t 87, t 88, t 89, t 90, t 91, t 92, t 93, t 94, t 95, r 96, r 97, r 98, r 99, r 100, r 101, r 102, r 103, r 104, r 105, r 106, r 107, r 108, r 109, r 110, r 111, r 112, r 113, r 114, r 115, r 116, r 117, r 118, r 119, r 120, r 121, r 122, r 123, r 124, r 125, r 126, x 0, x 1, x 2, x 3, x 4, .pointer (some ⟨wr.heap.size, 1, none⟩), x 6, x 7, x 8, x 9, x 10, x 11, x 12, x 13, x 14, x 15, x 16, x 17, x 18, x 19, x 20, x 21, x 22, x 23, x 24, x 25, x 26, x 27, x 28, r 156, r 157, undef], []⟩ : Act) v
                    refine wpOp_step rfl (fun K' hK' => ?_)
                    have q := (ov.1.keep gv).2 1 _ rfl
                    go_simp
                    exact hK' _ _ (hK _ _ (Below.refl _ _) (at_of rfl (rfl)))
                  · obtain ⟨x, rfl⟩ := upd_of (show x 6 = .int .u8 y1 from hd 6 _ (by simp) rfl)
                    show wpOp Try.prog _ _ 7 K (⟨#[t 0, .pointer (some ⟨w.heap.size, 0, none⟩), .pointer (some ⟨(w.heap.size + 1), 0, none⟩), .pointer (some ⟨(w.heap.size + 1 + 1), 0, none⟩), t 4, t 5, t 6, .int .i64 (k : Int), .pointer (some ⟨wr.heap.size, 0, none⟩), .int .i64 (1000 + 35 * y0), t 10, t 11, t 12, t 13, t 14, t 15, t 16, t 17, t 18, t 19, t 20, t 21, t 22, t 23, t 24, t 25, t 26, t 27, t 28, t 29, t 30, t 31, t 32, t 33, t 34, t 35, t 36, t 37, t 38, t 39, t 40, t 41, t 42, t 43, t 44, t 45, t 46, t 47, t 48, t 49, t 50, t 51, t 52, t 53, t 54, t 55, t 56, t 57, t 58, t 59, t 60, t 61, t 62, t 63, t 64, t 65, t 66, t 67, t 68, t 69, t 70, t 71, t 72, t 73, t 74, t 75, t 76, t 77, t 78, t 79, t 80, t 81, t 82, t 83, t 84, t 85, t 86, t 87, t 88, t 89, t 90, t 91, t 92, t 93, t 94, t 95, r 96, r 97, r 98, r 99, r 100, r 101, r 102, r 103, r 104, r 105, r 106, r 107, r 108, r 109, r 110, r 111, r 112, r 113, r 114, r 115, r 116, r 117, r 118, r 119, r 120, r 121, r 122, r 123, r 124, r 125, r 126, x 0, x 1, x 2, x 3, x 4, x 5, .int .u8 y1, x 7, x 8, x 9, x 10, x 11, x 12, x 13, x 14, x 15, x 16, x 17, x 18, x 19, x 20, x 21, x 22, x 23, x 24, x 25, x 26, x 27, x 28, r 156, r 157, undef], []⟩ : Act) v
                    refine wpOp_step rfl (fun K' hK' => ?_)
                    go_simp
                    exact hK' _ _ (hK _ _ (Below.refl _ _) (at_of rfl (rfl)))
                  · obtain ⟨x, rfl⟩ := upd_of (show x 4 = .int .i64 (1000 + 35 * y0) from hd 4 _ (by simp) rfl)
                    obtain ⟨x, rfl⟩ := upd_of (show x 7 = .int .i64 y1 from hd 7 _ (by simp) rfl)
                    show wpOp Try.prog _ _ 8 K (⟨#[t 0, .pointer (some ⟨w.heap.size, 0, none⟩), .pointer (some ⟨(w.heap.size + 1), 0, none⟩), .pointer (some ⟨(w.heap.size + 1 + 1), 0, none⟩), t 4, t 5, t 6, .int .i64 (k : Int), .pointer (some ⟨wr.heap.size, 0, none⟩), .int .i64 (1000 + 35 * y0), t 10, t 11, t 12, t 13, t 14, t 15, t 16, t 17, t 18, t 19, t 20, t 21, t 22, t 23, t 24, t 25, t 26, t 27, t 28, t 29, t 30, t 31, t 32, t 33, t 34, t 35, t 36, t 37, t 38, t 39, t 40, t 41, t 42, t 43, t 44, t 45, t 46, t 47, t 48, t 49, t 50, t 51, t 52, t 53, t 54, t 55, t 56, t 57, t 58, t 59, t 60, t 61, t 62, t 63, t 64, t 65, t 66, t 67, t 68, t 69, t 70, t 71, t 72, t 73, t 74, t 75, t 76, t 77, t 78, t 79, t 80, t 81, t 82, t 83, t 84, t 85, t 86, t 87, t 88, t 89, t 90, t 91, t 92, t 93, t 94, t 95, r 96, r 97, r 98, r 99, r 100, r 101, r 102, r 103, r 104, r 105, r 106, r 107, r 108, r 109, r 110, r 111, r 112, r 113, r 114, r 115, r 116, r 117, r 118, r 119, r 120, r 121, r 122, r 123, r 124, r 125, r 126, x 0, x 1, x 2, x 3, .int .i64 (1000 + 35 * y0), x 5, x 6, .int .i64 y1, x 8, x 9, x 10, x 11, x 12, x 13, x 14, x 15, x 16, x 17, x 18, x 19, x 20, x 21, x 22, x 23, x 24, x 25, x 26, x 27, x 28, r 156, r 157, undef], []⟩ : Act) v
                    refine wpOp_step rfl (fun K' hK' => ?_)
                    go_simp
                    exact hK' _ _ (hK _ _ (Below.refl _ _) (at_of rfl (rfl)))
                  · obtain ⟨x, rfl⟩ := upd_of (show x 8 = .int .i64 ((1000 + 35 * y0) * y1) from hd 8 _ (by simp) rfl)
                    show wpOp Try.prog _ _ 9 K (⟨#[t 0, .pointer (some ⟨w.heap.size, 0, none⟩), .pointer (some ⟨(w.heap.size + 1), 0, none⟩), .pointer (some ⟨(w.heap.size + 1 + 1), 0, none⟩), t 4, t 5, t 6, .int .i64 (k : Int), .pointer (some ⟨wr.heap.size, 0, none⟩), .int .i64 (1000 + 35 * y0), t 10, t 11, t 12, t 13, t 14, t 15, t 16, t 17, t 18, t 19, t 20, t 21, t 22, t 23, t 24, t 25, t 26, t 27, t 28, t 29, t 30, t 31, t 32, t 33, t 34, t 35, t 36, t 37, t 38, t 39, t 40, t 41, t 42, t 43, t 44, t 45, t 46, t 47, t 48, t 49, t 50, t 51, t 52, t 53, t 54, t 55, t 56, t 57, t 58, t 59, t 60, t 61, t 62, t 63, t 64, t 65, t 66, t 67, t 68, t 69, t 70, t 71, t 72, t 73, t 74, t 75, t 76, t 77, t 78, t 79, t 80, t 81, t 82, t 83, t 84, t 85, t 86, t 87, t 88, t 89, t 90, t 91, t 92, t 93, t 94, t 95, r 96, r 97, r 98, r 99, r 100, r 101, r 102, r 103, r 104, r 105, r 106, r 107, r 108, r 109, r 110, r 111, r 112, r 113, r 114, r 115, r 116, r 117, r 118, r 119, r 120, r 121, r 122, r 123, r 124, r 125, r 126, x 0, x 1, x 2, x 3, x 4, x 5, x 6, x 7, .int .i64 ((1000 + 35 * y0) * y1), x 9, x 10, x 11, x 12, x 13, x 14, x 15, x 16, x 17, x 18, x 19, x 20, x 21, x 22, x 23, x 24, x 25, x 26, x 27, x 28, r 156, r 157, undef], []⟩ : Act) v
                    refine wpOp_step rfl (fun K' hK' => ?_)
                    go_simp
                    exact hK' _ _ (hK _ _ (Below.refl _ _) (at_of rfl (rfl)))
                  · obtain ⟨x, rfl⟩ := upd_of (show x 3 = .int .i64 (1000 + 35 * y0) from hd 3 _ (by simp) rfl)
                    obtain ⟨x, rfl⟩ := upd_of (show x 9 = .int .i64 (((1000 + 35 * y0) * y1) / 255) from hd 9 _ (by simp) rfl)
                    show wpOp Try.prog _ _ 10 K (⟨#[t 0, .pointer (some ⟨w.heap.size, 0, none⟩), .pointer (some ⟨(w.heap.size + 1), 0, none⟩), .pointer (some ⟨(w.heap.size + 1 + 1), 0, none⟩), t 4, t 5, t 6, .int .i64 (k : Int), .pointer (some ⟨wr.heap.size, 0, none⟩), .int .i64 (1000 + 35 * y0), t 10, t 11, t 12, t 13, t 14, t 15, t 16, t 17, t 18, t 19, t 20, t 21, t 22, t 23, t 24, t 25, t 26, t 27, t 28, t 29, t 30, t 31, t 32, t 33, t 34, t 35, t 36, t 37, t 38, t 39, t 40, t 41, t 42, t 43, t 44, t 45, t 46, t 47, t 48, t 49, t 50, t 51, t 52, t 53, t 54, t 55, t 56, t 57, t 58, t 59, t 60, t 61, t 62, t 63, t 64, t 65, t 66, t 67, t 68, t 69, t 70, t 71, t 72, t 73, t 74, t 75, t 76, t 77, t 78, t 79, t 80, t 81, t 82, t 83, t 84, t 85, t 86, t 87, t 88, t 89, t 90, t 91, t 92, t 93, t 94, t 95, r 96, r 97, r 98, r 99, r 100, r 101, r 102, r 103, r 104, r 105, r 106, r 107, r 108, r 109, r 110, r 111, r 112, r 113, r 114, r 115, r 116, r 117, r 118, r 119, r 120, r 121, r 122, r 123, r 124, r 125, r 126, x 0, x 1, x 2, .int .i64 (1000 + 35 * y0), x 4, x 5, x 6, x 7, x 8, .int .i64 (((1000 + 35 * y0) * y1) / 255), x 10, x 11, x 12, x 13, x 14, x 15, x 16, x 17, x 18, x 19, x 20, x 21, x 22, x 23, x 24, x 25, x 26, x 27, x 28, r 156, r 157, undef], []⟩ : Act) v
                    refine wpOp_step rfl (fun K' hK' => ?_)
                    go_simp
                    exact hK' _ _ (hK _ _ (Below.refl _ _) (at_of rfl (rfl)))
                  · show wpOp Try.prog _ _ 11 K (⟨#[t 0, .pointer (some ⟨w.heap.size, 0, none⟩), .pointer (some ⟨(w.heap.size + 1), 0, none⟩), .pointer (some ⟨(w.heap.size + 1 + 1), 0, none⟩), t 4, t 5, t 6, .int .i64 (k : Int), .pointer (some ⟨wr.heap.size, 0, none⟩), .int .i64 (1000 + 35 * y0), t 10, t 11, t 12, t 13, t 14, t 15, t 16, t 17, t 18, t 19, t 20, t 21, t 22, t 23, t 24, t 25, t 26, t 27, t 28, t 29, t 30, t 31, t 32, t 33, t 34, t 35, t 36, t 37, t 38, t 39, t 40, t 41, t 42, t 43, t 44, t 45, t 46, t 47, t 48, t 49, t 50, t 51, t 52, t 53, t 54, t 55, t 56, t 57, t 58, t 59, t 60, t 61, t 62, t 63, t 64, t 65, t 66, t 67, t 68, t 69, t 70, t 71, t 72, t 73, t 74, t 75, t 76, t 77, t 78, t 79, t 80, t 81, t 82, t 83, t 84, t 85, t 86, t 87, t 88, t 89, t 90, t 91, t 92, t 93, t 94, t 95, r 96, r 97, r 98, r 99, r 100, r 101, r 102, r 103, r 104, r 105, r 106, r 107, r 108, r 109, r 110, r 111, r 112, r 113, r 114, r 115, r 116, r 117, r 118, r 119, r 120, r 121, r 122, r 123, r 124, r 125, r 126, x 0, x 1, x 2, x 3, x 4, x 5, x 6, x 7, x 8, x 9, x 10, x 11, x 12, x 13, x 14, x 15, x 16, x 17, x 18, x 19, x 20, x 21, x 22, x 23, x 24, x 25, x 26, x 27, x 28, r 156, r 157, undef], []⟩ : Act) v
                    refine wpOp_step rfl (fun K' hK' => ?_)
                    go_simp
                    exact hK' _ _ (hK _ _ (Below.refl _ _) (at_of rfl (rfl)))
                  · obtain ⟨x, rfl⟩ := upd_of (show x 11 = .pointer (some ⟨wr.heap.size, 2, none⟩) from hd 11 _ (by simp) rfl)
                    show wpOp Try.prog _ _ 12 K (⟨#[t 0, .pointer (some ⟨w.heap.size, 0, none⟩), .pointer (some ⟨(w.heap.size + 1), 0, none⟩), .pointer (some ⟨(w.heap.size + 1 + 1), 0, none⟩), t 4, t 5, t 6, .int .i64 (k : Int), .pointer (some ⟨wr.heap.size, 0, none⟩), .int .i64 (1000 + 35 * y0), t 10, t 11, t 12, t 13, t 14, t 15, t 16, t 17, t 18, t 19, t 20, t 21, t 22, t 23, t 24, t 25, t 26, t 27, t 28, t 29, t 30, t 31, t 32, t 33, t 34, t 35, t 36, t 37, t 38, t 39, t 40, t 41, t 42, t 43, t 44, t 45, t 46, t 47, t 48, t 49, t 50, t 51, t 52, t 53, t 54, t 55, t 56, t 57, t 58, t 59, t 60, t 61, t 62, t 63, t 64, t 65, t 66, t 67, t 68, t 69, t 70, t 71, t 72, t 73, t 74, t 75, t 76, t 77, t 78, t 79, t 80, t 81, t 82, t 83, t 84, t 85, t 86, t 87, t 88, t 89, t 90, t 91, t 92, t 93, t 94, t 95, r 96, r 97, r 98, r 99, r 100, r 101, r 102, r 103, r 104, r 105, r 106, r 107, r 108, r 109, r 110, r 111, r 112, r 113, r 114, r 115, r 116, r 117, r 118, r 119, r 120, r 121, r 122, r 123, r 124, r 125, r 126, x 0, x 1, x 2, x 3, x 4, x 5, x 6, x 7, x 8, x 9, x 10, .pointer (some ⟨wr.heap.size, 2, none⟩), x 12, x 13, x 14, x 15, x 16, x 17, x 18, x 19, x 20, x 21, x 22, x 23, x 24, x 25, x 26, x 27, x 28, r 156, r 157, undef], []⟩ : Act) v
                    refine wpOp_step rfl (fun K' hK' => ?_)
                    have q := (ov.1.keep gv).2 2 _ rfl
                    go_simp
                    exact hK' _ _ (hK _ _ (Below.refl _ _) (at_of rfl (rfl)))
                  · obtain ⟨x, rfl⟩ := upd_of (show x 12 = .int .u8 y2 from hd 12 _ (by simp) rfl)
                    show wpOp Try.prog _ _ 13 K (⟨#[t 0, .pointer (some ⟨w.heap.size, 0, none⟩), .pointer (some ⟨(w.heap.size + 1), 0, none⟩), .pointer (some ⟨(w.heap.size + 1 + 1), 0, none⟩), t 4, t 5, t 6, .int .i64 (k : Int), .pointer (some ⟨wr.heap.size, 0, none⟩), .int .i64 (1000 + 35 * y0), t 10, t 11, t 12, t 13, t 14, t 15, t 16, t 17, t 18, t 19, t 20, t 21, t 22, t 23, t 24, t 25, t 26, t 27, t 28, t 29, t 30, t 31, t 32, t 33, t 34, t 35, t 36, t 37, t 38, t 39, t 40, t 41, t 42, t 43, t 44, t 45, t 46, t 47, t 48, t 49, t 50, t 51, t 52, t 53, t 54, t 55, t 56, t 57, t 58, t 59, t 60, t 61, t 62, t 63, t 64, t 65, t 66, t 67, t 68, t 69, t 70, t 71, t 72, t 73, t 74, t 75, t 76, t 77, t 78, t 79, t 80, t 81, t 82, t 83, t 84, t 85, t 86, t 87, t 88, t 89, t 90, t 91, t 92, t 93, t 94, t 95, r 96, r 97, r 98, r 99, r 100, r 101, r 102, r 103, r 104, r 105, r 106, r 107, r 108, r 109, r 110, r 111, r 112, r 113, r 114, r 115, r 116, r 117, r 118, r 119, r 120, r 121, r 122, r 123, r 124, r 125, r 126, x 0, x 1, x 2, x 3, x 4, x 5, x 6, x 7, x 8, x 9, x 10, x 11, .int .u8 y2, x 13, x 14, x 15, x 16, x 17, x 18, x 19, x 20, x 21, x 22, x 23, x 24, x 25, x 26, x 27, x 28, r 156, r 157, undef], []⟩ : Act) v
                    refine wpOp_step rfl (fun K' hK' => ?_)
                    go_simp
                    exact hK' _ _ (hK _ _ (Below.refl _ _) (at_of rfl (rfl)))
                  · obtain ⟨x, rfl⟩ := upd_of (show x 13 = .int .i64 y2 from hd 13 _ (by simp) rfl)
                    show wpOp Try.prog _ _ 14 K (⟨#[t 0, .pointer (some ⟨w.heap.size, 0, none⟩), .pointer (some ⟨(w.heap.size + 1), 0, none⟩), .pointer (some ⟨(w.heap.size + 1 + 1), 0, none⟩), t 4, t 5, t 6, .int .i64 (k : Int), .pointer (some ⟨wr.heap.size, 0, none⟩), .int .i64 (1000 + 35 * y0), t 10, t 11, t 12, t 13, t 14, t 15, t 16, t 17, t 18, t 19, t 20, t 21, t 22, t 23, t 24, t 25, t 26, t 27, t 28, t 29, t 30, t 31, t 32, t 33, t 34, t 35, t 36, t 37, t 38, t 39, t 40, t 41, t 42, t 43, t 44, t 45, t 46, t 47, t 48, t 49, t 50, t 51, t 52, t 53, t 54, t 55, t 56, t 57, t 58, t 59, t 60, t 61, t 62, t 63, t 64, t 65, t 66, t 67, t 68, t 69, t 70, t 71, t 72, t 73, t 74, t 75, t 76, t 77, t 78, t 79, t 80, t 81, t 82, t 83, t 84, t 85, t 86, t 87, t 88, t 89, t 90, t 91, t 92, t 93, t 94, t 95, r 96, r 97, r 98, r 99, r 100, r 101, r 102, r 103, r 104, r 105, r 106, r 107, r 108, r 109, r 110, r 111, r 112, r 113, r 114, r 115, r 116, r 117, r 118, r 119, r 120, r 121, r 122, r 123, r 124, r 125, r 126, x 0, x 1, x 2, x 3, x 4, x 5, x 6, x 7, x 8, x 9, x 10, x 11, x 12, .int .i64 y2, x 14, x 15, x 16, x 17, x 18, x 19, x 20, x 21, x 22, x 23, x 24, x 25, x 26, x 27, x 28, r 156, r 157, undef], []⟩ : Act) v
                    refine wpOp_step rfl (fun K' hK' => ?_)
                    go_simp
                    exact hK' _ _ (hK _ _ (Below.refl _ _) (at_of rfl (rfl)))
                  · obtain ⟨x, rfl⟩ := upd_of (show x 14 = .int .i64 (10 * y2) from hd 14 _ (by simp) rfl)
                    show wpOp Try.prog _ _ 15 K (⟨#[t 0, .pointer (some ⟨w.heap.size, 0, none⟩), .pointer (some ⟨(w.heap.size + 1), 0, none⟩), .pointer (some ⟨(w.heap.size + 1 + 1), 0, none⟩), t 4, t 5, t 6, .int .i64 (k : Int), .pointer (some ⟨wr.heap.size, 0, none⟩), .int .i64 (1000 + 35 * y0), t 10, t 11, t 12, t 13, t 14, t 15, t 16, t 17, t 18, t 19, t 20, t 21, t 22, t 23, t 24, t 25, t 26, t 27, t 28, t 29, t 30, t 31, t 32, t 33, t 34, t 35, t 36, t 37, t 38, t 39, t 40, t 41, t 42, t 43, t 44, t 45, t 46, t 47, t 48, t 49, t 50, t 51, t 52, t 53, t 54, t 55, t 56, t 57, t 58, t 59, t 60, t 61, t 62, t 63, t 64, t 65, t 66, t 67, t 68, t 69, t 70, t 71, t 72, t 73, t 74, t 75, t 76, t 77, t 78, t 79, t 80, t 81, t 82, t 83, t 84, t 85, t 86, t 87, t 88, t 89, t 90, t 91, t 92, t 93, t 94, t 95, r 96, r 97, r 98, r 99, r 100, r 101, r 102, r 103, r 104, r 105, r 106, r 107, r 108, r 109, r 110, r 111, r 112, r 113, r 114, r 115, r 116, r 117, r 118, r 119, r 120, r 121, r 122, r 123, r 124, r 125, r 126, x 0, x 1, x 2, x 3, x 4, x 5, x 6, x 7, x 8, x 9, x 10, x 11, x 12, x 13, .int .i64 (10 * y2), x 15, x 16, x 17, x 18, x 19, x 20, x 21, x 22, x 23, x 24, x 25, x 26, x 27, x 28, r 156, r 157, undef], []⟩ : Act) v
                    refine wpOp_step rfl (fun K' hK' => ?_)
                    go_simp
                    exact hK' _ _ (hK _ _ (Below.refl _ _) (at_of rfl (rfl)))
                  · show wpOp Try.prog _ _ 16 K (⟨#[t 0, .pointer (some ⟨w.heap.size, 0, none⟩), .pointer (some ⟨(w.heap.size + 1), 0, none⟩), .pointer (some ⟨(w.heap.size + 1 + 1), 0, none⟩), t 4, t 5, t 6, .int .i64 (k : Int), .pointer (some ⟨wr.heap.size, 0, none⟩), .int .i64 (1000 + 35 * y0), t 10, t 11, t 12, t 13, t 14, t 15, t 16, t 17, t 18, t 19, t 20, t 21, t 22, t 23, t 24, t 25, t 26, t 27, t 28, t 29, t 30, t 31, t 32, t 33, t 34, t 35, t 36, t 37, t 38, t 39, t 40, t 41, t 42, t 43, t 44, t 45, t 46, t 47, t 48, t 49, t 50, t 51, t 52, t 53, t 54, t 55, t 56, t 57, t 58, t 59, t 60, t 61, t 62, t 63, t 64, t 65, t 66, t 67, t 68, t 69, t 70, t 71, t 72, t 73, t 74, t 75, t 76, t 77, t 78, t 79, t 80, t 81, t 82, t 83, t 84, t 85, t 86, t 87, t 88, t 89, t 90, t 91, t 92, t 93, t 94, t 95, r 96, r 97, r 98, r 99, r 100, r 101, r 102, r 103, r 104, r 105, r 106, r 107, r 108, r 109, r 110, r 111, r 112, r 113, r 114, r 115, r 116, r 117, r 118, r 119, r 120, r 121, r 122, r 123, r 124, r 125, r 126, x 0, x 1, x 2, x 3, x 4, x 5, x 6, x 7, x 8, x 9, x 10, x 11, x 12, x 13, x 14, x 15, x 16, x 17, x 18, x 19, x 20, x 21, x 22, x 23, x 24, x 25, x 26, x 27, x 28, r 156, r 157, undef], []⟩ : Act) v
                    refine wpOp_step rfl (fun K' hK' => ?_)
                    go_simp
                    exact hK' _ _ (hK _ _ (Below.refl _ _) (at_of rfl (rfl)))
                  · obtain ⟨x, rfl⟩ := upd_of (show x 16 = .pointer (some ⟨wr.heap.size, 2, none⟩) from hd 16 _ (by simp) rfl)
                    show wpOp Try.prog _ _ 17 K (⟨#[t 0, .pointer (some ⟨w.heap.size, 0, none⟩), .pointer (some ⟨(w.heap.size + 1), 0, none⟩), .pointer (some ⟨(w.heap.size + 1 + 1), 0, none⟩), t 4, t 5, t 6, .int .i64 (k : Int), .pointer (some ⟨wr.heap.size, 0, none⟩), .int .i64 (1000 + 35 * y0), t 10, t 11, t 12, t 13, t 14, t 15, t 16, t 17, t 18, t 19, t 20, t 21, t 22, t 23, t 24, t 25, t 26, t 27, t 28, t 29, t 30, t 31, t 32, t 33, t 34, t 35, t 36, t 37, t 38, t 39, t 40, t 41, t 42, t 43, t 44, t 45, t 46, t 47, t 48, t 49, t 50, t 51, t 52, t 53, t 54, t 55, t 56, t 57, t 58, t 59, t 60, t 61, t 62, t 63, t 64, t 65, t 66, t 67, t 68, t 69, t 70, t 71, t 72, t 73, t 74, t 75, t 76, t 77, t 78, t 79, t 80, t 81, t 82, t 83, t 84, t 85, t 86, t 87, t 88, t 89, t 90, t 91, t 92, t 93, t 94, t 95, r 96, r 97, r 98, r 99, r 100, r 101, r 102, r 103, r 104, r 105, r 106, r 107, r 108, r 109, r 110, r 111, r 112, r 113, r 114, r 115, r 116, r 117, r 118, r 119, r 120, r 121, r 122, r 123, r 124, r 125, r 126, x 0, x 1, x 2, x 3, x 4, x 5, x 6, x 7, x 8, x 9, x 10, x 11, x 12, x 13, x 14, x 15, .pointer (some ⟨wr.heap.size, 2, none⟩), x 17, x 18, x 19, x 20, x 21, x 22, x 23, x 24, x 25, x 26, x 27, x 28, r 156, r 157, undef], []⟩ : Act) v
                    refine wpOp_step rfl (fun K' hK' => ?_)
                    have q := (ov.1.keep gv).2 2 _ rfl
                    go_simp
                    exact hK' _ _ (hK _ _ (Below.refl _ _) (at_of rfl (rfl)))
                  · obtain ⟨x, rfl⟩ := upd_of (show x 17 = .int .u8 y2 from hd 17 _ (by simp) rfl)
                    show wpOp Try.prog _ _ 18 K (⟨#[t 0, .pointer (some ⟨w.heap.size, 0, none⟩), .pointer (some ⟨(w.heap.size + 1), 0, none⟩), .pointer (some ⟨(w.heap.size + 1 + 1), 0, none⟩), t 4, t 5, t 6, .int .i64 (k : Int), .pointer (some ⟨wr.heap.size, 0, none⟩), .int .i64 (1000 + 35 * y0), t 10, t 11, t 12, t 13, t 14, t 15, t 16, t 17, t 18, t 19, t 20, t 21, t 22, t 23, t 24, t 25, t 26, t 27, t 28, t 29, t 30, t 31, t 32, t 33, t 34, t 35, t 36, t 37, t 38, t 39, t 40, t 41, t 42, t 43, t 44, t 45, t 46, t 47, t 48, t 49, t 50, t 51, t 52, t 53, t 54, t 55, t 56, t 57, t 58, t 59, t 60, t 61, t 62, t 63, t 64, t 65, t 66, t 67, t 68, t 69, t 70, t 71, t 72, t 73, t 74, t 75, t 76, t 77, t 78, t 79, t 80, t 81, t 82, t 83, t 84, t 85, t 86, t 87, t 88, t 89, t 90, t 91, t 92, t 93, t 94, t 95, r 96, r 97, r 98, r 99, r 100, r 101, r 102, r 103, r 104, r 105, r 106, r 107, r 108, r 109, r 110, r 111, r 112, r 113, r 114, r 115, r 116, r 117, r 118, r 119, r 120, r 121, r 122, r 123, r 124, r 125, r 126, x 0, x 1, x 2, x 3, x 4, x 5, x 6, x 7, x 8, x 9, x 10, x 11, x 12, x 13, x 14, x 15, x 16, .int .u8 y2, x 18, x 19, x 20, x 21, x 22, x 23, x 24, x 25, x 26, x 27, x 28, r 156, r 157, undef], []⟩ : Act) v
                    refine wpOp_step rfl (fun K' hK' => ?_)
                    go_simp
                    exact hK' _ _ (hK _ _ (Below.refl _ _) (at_of rfl (rfl)))
                  · obtain ⟨x, rfl⟩ := upd_of (show x 18 = .int .i64 y2 from hd 18 _ (by simp) rfl)
                    show wpOp Try.prog _ _ 19 K (⟨#[t 0, .pointer (some ⟨w.heap.size, 0, none⟩), .pointer (some ⟨(w.heap.size + 1), 0, none⟩), .pointer (some ⟨(w.heap.size + 1 + 1), 0, none⟩), t 4, t 5, t 6, .int .i64 (k : Int), .pointer (some ⟨wr.heap.size, 0, none⟩), .int .i64 (1000 + 35 * y0), t 10, t 11, t 12, t 13, t 14, t 15, t 16, t 17, t 18, t 19, t 20, t 21, t 22, t 23, t 24, t 25, t 26, t 27, t 28, t 29, t 30, t 31, t 32, t 33, t 34, t 35, t 36, t 37, t 38, t 39, t 40, t 41, t 42, t 43, t 44, t 45, t 46, t 47, t 48, t 49, t 50, t 51, t 52, t 53, t 54, t 55, t 56, t 57, t 58, t 59, t 60, t 61, t 62, t 63, t 64, t 65, t 66, t 67, t 68, t 69, t 70, t 71, t 72, t 73, t 74, t 75, t 76, t 77, t 78, t 79, t 80, t 81, t 82, t 83, t 84, t 85, t 86, t 87, t 88, t 89, t 90, t 91, t 92, t 93, t 94, t 95, r 96, r 97, r 98, r 99, r 100, r 101, r 102, r 103, r 104, r 105, r 106, r 107, r 108, r 109, r 110, r 111, r 112, r 113, r 114, r 115, r 116, r 117, r 118, r 119, r 120, r 121, r 122, r 123, r 124, r 125, r 126, x 0, x 1, x 2, x 3, x 4, x 5, x 6, x 7, x 8, x 9, x 10, x 11, x 12, x 13, x 14, x 15, x 16, x 17, .int .i64 y2, x 19, x 20, x 21, x 22, x 23, x 24, x 25, x 26, x 27, x 28, r 156, r 157, undef], []⟩ : Act) v
                    refine wpOp_step rfl (fun K' hK' => ?_)
                    go_simp
                    exact hK' _ _ (hK _ _ (Below.refl _ _) (at_of rfl (rfl)))
                  · obtain ⟨x, rfl⟩ := upd_of (show x 19 = .int .i64 (10 * y2) from hd 19 _ (by simp) rfl)
                    show wpOp Try.prog _ _ 20 K (⟨#[t 0, .pointer (some ⟨w.heap.size, 0, none⟩), .pointer (some ⟨(w.heap.size + 1), 0, none⟩), .pointer (some ⟨(w.heap.size + 1 + 1), 0, none⟩), t 4, t 5, t 6, .int .i64 (k : Int), .pointer (some ⟨wr.heap.size, 0, none⟩), .int .i64 (1000 + 35 * y0), t 10, t 11, t 12, t 13, t 14, t 15, t 16, t 17, t 18, t 19, t 20, t 21, t 22, t 23, t 24, t 25, t 26, t 27, t 28, t 29, t 30, t 31, t 32, t 33, t 34, t 35, t 36, t 37, t 38, t 39, t 40, t 41, t 42, t 43, t 44, t 45, t 46, t 47, t 48, t 49, t 50, t 51, t 52, t 53, t 54, t 55, t 56, t 57, t 58, t 59, t 60, t 61, t 62, t 63, t 64, t 65, t 66, t 67, t 68, t 69, t 70, t 71, t 72, t 73, t 74, t 75, t 76, t 77, t 78, t 79, t 80, t 81, t 82, t 83, t 84, t 85, t 86, t 87, t 88, t 89, t 90, t 91, t 92, t 93, t 94, t 95, r 96, r 97, r 98, r 99, r 100, r 101, r 102, r 103, r 104, r 105, r 106, r 107, r 108, r 109, r 110, r 111, r 112, r 113, r 114, r 115, r 116, r 117, r 118, r 119, r 120, r 121, r 122, r 123, r 124, r 125, r 126, x 0, x 1, x 2, x 3, x 4, x 5, x 6, x 7, x 8, x 9, x 10, x 11, x 12, x 13, x 14, x 15, x 16, x 17, x 18, .int .i64 (10 * y2), x 20, x 21, x 22, x 23, x 24, x 25, x 26, x 27, x 28, r 156, r 157, undef], []⟩ : Act) v
                    refine wpOp_step rfl (fun K' hK' => ?_)
                    go_simp
                    exact hK' _ _ (hK _ _ (Below.refl _ _) (at_of rfl (rfl)))
                  · show wpOp Try.prog _ _ 21 K (⟨#[t 0, .pointer (some ⟨w.heap.size, 0, none⟩), .pointer (some ⟨(w.heap.size + 1), 0, none⟩), .pointer (some ⟨(w.heap.size + 1 + 1), 0, none⟩), t 4, t 5, t 6, .int .i64 (k : Int), .pointer (some ⟨wr.heap.size, 0, none⟩), .int .i64 (1000 + 35 * y0), t 10, t 11, t 12, t 13, t 14, t 15, t 16, t 17, t 18, t 19, t 20, t 21, t 22, t 23, t 24, t 25, t 26, t 27, t 28, t 29, t 30, t 31, t 32, t 33, t 34, t 35, t 36, t 37, t 38, t 39, t 40, t 41, t 42, t 43, t 44, t 45, t 46, t 47, t 48, t 49, t 50, t 51, t 52, t 53, t 54, t 55, t 56, t 57, t 58, t 59, t 60, t 61, t 62, t 63, t 64, t 65, t 66, t 67, t 68, t 69, t 70, t 71, t 72, t 73, t 74, t 75, t 76, t 77, t 78, t 79, t 80, t 81, t 82, t 83, t 84, t 85, t 86, t 87, t 88, t 89, t 90, t 91, t 92, t 93, t 94, t 95, r 96, r 97, r 98, r 99, r 100, r 101, r 102, r 103, r 104, r 105, r 106, r 107, r 108, r 109, r 110, r 111, r 112, r 113, r 114, r 115, r 116, r 117, r 118, r 119, r 120, r 121, r 122, r 123, r 124, r 125, r 126, x 0, x 1, x 2, x 3, x 4, x 5, x 6, x 7, x 8, x 9, x 10, x 11, x 12, x 13, x 14, x 15, x 16, x 17, x 18, x 19, x 20, x 21, x 22, x 23, x 24, x 25, x 26, x 27, x 28, r 156, r 157, undef], []⟩ : Act) v
                    refine wpOp_step rfl (fun K' hK' => ?_)
                    go_simp
                    exact hK' _ _ (hK _ _ (Below.refl _ _) (at_of rfl (rfl)))
                  · obtain ⟨x, rfl⟩ := upd_of (show x 21 = .pointer (some ⟨wr.heap.size, 1, none⟩) from hd 21 _ (by simp) rfl)
                    show wpOp Try.prog _ _ 22 K (⟨#[t 0, .pointer (some ⟨w.heap.size, 0, none⟩), .pointer (some ⟨(w.heap.size + 1), 0, none⟩), .pointer (some ⟨(w.heap.size + 1 + 1), 0, none⟩), t 4, t 5, t 6, .int .i64 (k : Int), .pointer (some ⟨wr.heap.size, 0, none⟩), .int .i64 (1000 + 35 * y0), t 10, t 11, t 12, t 13, t 14, t 15, t 16, t 17, t 18, t 19, t 20, t 21, t 22, t 23, t 24, t 25, t 26, t 27, t 28, t 29, t 30, t 31, t 32, t 33, t 34, t 35, t 36, t 37, t 38, t 39, t 40, t 41, t 42, t 43, t 44, t 45, t 46, t 47, t 48, t 49, t 50, t 51, t 52, t 53, t 54, t 55, t 56, t 57, t 58, t 59, t 60, t 61, t 62, t 63, t 64, t 65, t 66, t 67, t 68, t 69, t 70, t 71, t 72, t 73, t 74, t 75, t 76, t 77, t 78, t 79, t 80, t 81, t 82, t 83, t 84, t 85, t 86, t 87, t 88, t 89, t 90, t 91, t 92, t 93, t 94, t 95, r 96, r 97, r 98, r 99, r 100, r 101, r 102, r 103, r 104, r 105, r 106, r 107, r 108, r 109, r 110, r 111, r 112, r 113, r 114, r 115, r 116, r 117, r 118, r 119, r 120, r 121, r 122, r 123, r 124, r 125, r 126, x 0, x 1, x 2, x 3, x 4, x 5, x 6, x 7, x 8, x 9, x 10, x 11, x 12, x 13, x 14, x 15, x 16, x 17, x 18, x 19, x 20, .pointer (some ⟨wr.heap.size, 1, none⟩), x 22, x 23, x 24, x 25, x 26, x 27, x 28, r 156, r 157, undef], []⟩ : Act) v
                    refine wpOp_step rfl (fun K' hK' => ?_)
                    have q := (ov.1.keep gv).2 1 _ rfl
                    go_simp
                    exact hK' _ _ (hK _ _ (Below.refl _ _) (at_of rfl (rfl)))
                  · obtain ⟨x, rfl⟩ := upd_of (show x 22 = .int .u8 y1 from hd 22 _ (by simp) rfl)
                    show wpOp Try.prog _ _ 23 K (⟨#[t 0, .pointer (some ⟨w.heap.size, 0, none⟩), .pointer (some ⟨(w.heap.size + 1), 0, none⟩), .pointer (some ⟨(w.heap.size + 1 + 1), 0, none⟩), t 4, t 5, t 6, .int .i64 (k : Int), .pointer (some ⟨wr.heap.size, 0, none⟩), .int .i64 (1000 + 35 * y0), t 10, t 11, t 12, t 13, t 14, t 15, t 16, t 17, t 18, t 19, t 20, t 21, t 22, t 23, t 24, t 25, t 26, t 27, t 28, t 29, t 30, t 31, t 32, t 33, t 34, t 35, t 36, t 37, t 38, t 39, t 40, t 41, t 42, t 43, t 44, t 45, t 46, t 47, t 48, t 49, t 50, t 51, t 52, t 53, t 54, t 55, t 56, t 57, t 58, t 59, t 60, t 61, t 62, t 63, t 64, t 65, t 66, t 67, t 68, t 69, t 70, t 71, t 72, t 73, t 74, t 75, t 76, t 77, t 78, t 79, t 80, t 81, t 82, t 83, t 84, t 85, t 86, t 87, t 88, t 89, t 90, t 91, t 92, t 93, t 94, t 95, r 96, r 97, r 98, r 99, r 100, r 101, r 102, r 103, r 104, r 105, r 106, r 107, r 108, r 109, r 110, r 111, r 112, r 113, r 114, r 115, r 116, r 117, r 118, r 119, r 120, r 121, r 122, r 123, r 124, r 125, r 126, x 0, x 1, x 2, x 3, x 4, x 5, x 6, x 7, x 8, x 9, x 10, x 11, x 12, x 13, x 14, x 15, x 16, x 17, x 18, x 19, x 20, x 21, .int .u8 y1, x 23, x 24, x 25, x 26, x 27, x 28, r 156, r 157, undef], []⟩ : Act) v
                    refine wpOp_step rfl (fun K' hK' => ?_)
                    go_simp
                    exact hK' _ _ (hK _ _ (Below.refl _ _) (at_of rfl (rfl)))
                  · obtain ⟨x, rfl⟩ := upd_of (show x 23 = .int .i64 y1 from hd 23 _ (by simp) rfl)
                    show wpOp Try.prog _ _ 24 K (⟨#[t 0, .pointer (some ⟨w.heap.size, 0, none⟩), .pointer (some ⟨(w.heap.size + 1), 0, none⟩), .pointer (some ⟨(w.heap.size + 1 + 1), 0, none⟩), t 4, t 5, t 6, .int .i64 (k : Int), .pointer (some ⟨wr.heap.size, 0, none⟩), .int .i64 (1000 + 35 * y0), t 10, t 11, t 12, t 13, t 14, t 15, t 16, t 17, t 18, t 19, t 20, t 21, t 22, t 23, t 24, t 25, t 26, t 27, t 28, t 29, t 30, t 31, t 32, t 33, t 34, t 35, t 36, t 37, t 38, t 39, t 40, t 41, t 42, t 43, t 44, t 45, t 46, t 47, t 48, t 49, t 50, t 51, t 52, t 53, t 54, t 55, t 56, t 57, t 58, t 59, t 60, t 61, t 62, t 63, t 64, t 65, t 66, t 67, t 68, t 69, t 70, t 71, t 72, t 73, t 74, t 75, t 76, t 77, t 78, t 79, t 80, t 81, t 82, t 83, t 84, t 85, t 86, t 87, t 88, t 89, t 90, t 91, t 92, t 93, t 94, t 95, r 96, r 97, r 98, r 99, r 100, r 101, r 102, r 103, r 104, r 105, r 106, r 107, r 108, r 109, r 110, r 111, r 112, r 113, r 114, r 115, r 116, r 117, r 118, r 119, r 120, r 121, r 122, r 123, r 124, r 125, r 126, x 0, x 1, x 2, x 3, x 4, x 5, x 6, x 7, x 8, x 9, x 10, x 11, x 12, x 13, x 14, x 15, x 16, x 17, x 18, x 19, x 20, x 21, x 22, .int .i64 y1, x 24, x 25, x 26, x 27, x 28, r 156, r 157, undef], []⟩ : Act) v
                    refine wpOp_step rfl (fun K' hK' => ?_)
                    go_simp
                    exact hK' _ _ (hK _ _ (Below.refl _ _) (at_of rfl (rfl)))
                  · obtain ⟨x, rfl⟩ := upd_of (show x 20 = .int .i64 (500 + (10 * y2)) from hd 20 _ (by simp) rfl)
                    obtain ⟨x, rfl⟩ := upd_of (show x 24 = .int .i64 (y1 % 90) from hd 24 _ (by simp) rfl)
                    show wpOp Try.prog _ _ 25 K (⟨#[t 0, .pointer (some ⟨w.heap.size, 0, none⟩), .pointer (some ⟨(w.heap.size + 1), 0, none⟩), .pointer (some ⟨(w.heap.size + 1 + 1), 0, none⟩), t 4, t 5, t 6, .int .i64 (k : Int), .pointer (some ⟨wr.heap.size, 0, none⟩), .int .i64 (1000 + 35 * y0), t 10, t 11, t 12, t 13, t 14, t 15, t 16, t 17, t 18, t 19, t 20, t 21, t 22, t 23, t 24, t 25, t 26, t 27, t 28, t 29, t 30, t 31, t 32, t 33, t 34, t 35, t 36, t 37, t 38, t 39, t 40, t 41, t 42, t 43, t 44, t 45, t 46, t 47, t 48, t 49, t 50, t 51, t 52, t 53, t 54, t 55, t 56, t 57, t 58, t 59, t 60, t 61, t 62, t 63, t 64, t 65, t 66, t 67, t 68, t 69, t 70, t 71, t 72, t 73, t 74, t 75, t 76, t 77, t 78, t 79, t 80, t 81, t 82, t 83, t 84, t 85, t 86, t 87, t 88, t 89, t 90, t 91, t 92, t 93, t 94, t 95, r 96, r 97, r 98, r 99, r 100, r 101, r 102, r 103, r 104, r 105, r 106, r 107, r 108, r 109, r 110, r 111, r 112, r 113, r 114, r 115, r 116, r 117, r 118, r 119, r 120, r 121, r 122, r 123, r 124, r 125, r 126, x 0, x 1, x 2, x 3, x 4, x 5, x 6, x 7, x 8, x 9, x 10, x 11, x 12, x 13, x 14, x 15, x 16, x 17, x 18, x 19, .int .i64 (500 + (10 * y2)), x 21, x 22, x 23, .int .i64 (y1 % 90), x 25, x 26, x 27, x 28, r 156, r 157, undef], []⟩ : Act) v
                    refine wpOp_step rfl (fun K' hK' => ?_)
                    go_simp
                    exact hK' _ _ (hK _ _ (Below.refl _ _) (at_of rfl (rfl)))
                  · obtain ⟨x, rfl⟩ := upd_of (show x 15 = .int .i64 (500 + (10 * y2)) from hd 15 _ (by simp) rfl)
                    obtain ⟨x, rfl⟩ := upd_of (show x 25 = .int .i64 ((500 + (10 * y2)) + (y1 % 90)) from hd 25 _ (by simp) rfl)
                    show wpOp Try.prog _ _ 26 K (⟨#[t 0, .pointer (some ⟨w.heap.size, 0, none⟩), .pointer (some ⟨(w.heap.size + 1), 0, none⟩), .pointer (some ⟨(w.heap.size + 1 + 1), 0, none⟩), t 4, t 5, t 6, .int .i64 (k : Int), .pointer (some ⟨wr.heap.size, 0, none⟩), .int .i64 (1000 + 35 * y0), t 10, t 11, t 12, t 13, t 14, t 15, t 16, t 17, t 18, t 19, t 20, t 21, t 22, t 23, t 24, t 25, t 26, t 27, t 28, t 29, t 30, t 31, t 32, t 33, t 34, t 35, t 36, t 37, t 38, t 39, t 40, t 41, t 42, t 43, t 44, t 45, t 46, t 47, t 48, t 49, t 50, t 51, t 52, t 53, t 54, t 55, t 56, t 57, t 58, t 59, t 60, t 61, t 62, t 63, t 64, t 65, t 66, t 67, t 68, t 69, t 70, t 71, t 72, t 73, t 74, t 75, t 76, t 77, t 78, t 79, t 80, t 81, t 82, t 83, t 84, t 85, t 86, t 87, t 88, t 89, t 90, t 91, t 92, t 93, t 94, t 95, r 96, r 97, r 98, r 99, r 100, r 101, r 102, r 103, r 104, r 105, r 106, r 107, r 108, r 109, r 110, r 111, r 112, r 113, r 114, r 115, r 116, r 117, r 118, r 119, r 120, r 121, r 122, r 123, r 124, r 125, r 126, x 0, x 1, x 2, x 3, x 4, x 5, x 6, x 7, x 8, x 9, x 10, x 11, x 12, x 13, x 14, .int .i64 (500 + (10 * y2)), x 16, x 17, x 18, x 19, x 20, x 21, x 22, x 23, x 24, .int .i64 ((500 + (10 * y2)) + (y1 % 90)), x 26, x 27, x 28, r 156, r 157, undef], []⟩ : Act) v
                    refine wpOp_step rfl (fun K' hK' => ?_)
                    go_simp
                    refine (armSpan_anyT (500 + (10 * y2)) ((500 + (10 * y2)) + (y1 % 90)) v).mono ?_
                    rintro e v' ⟨rfl, hg⟩
                    exact hK' _ _ (hK _ _ hg (at_of rfl (rfl)))
                  · obtain ⟨x, rfl⟩ := upd_of (show x 2 = .int .i64 (1000 + 35 * y0) from hd 2 _ (by simp) rfl)
                    obtain ⟨x, rfl⟩ := upd_of (show x 10 = .int .i64 ((1000 + 35 * y0) + (((1000 + 35 * y0) * y1) / 255)) from hd 10 _ (by simp) rfl)
                    obtain ⟨x, rfl⟩ := upd_of (show x 26 = .agg #[.int .i64 (500 + (10 * y2)), .int .i64 ((500 + (10 * y2)) + (y1 % 90))] from hd 26 _ (by simp) rfl)
                    show wpOp Try.prog _ _ 27 K (⟨#[t 0, .pointer (some ⟨w.heap.size, 0, none⟩), .pointer (some ⟨(w.heap.size + 1), 0, none⟩), .pointer (some ⟨(w.heap.size + 1 + 1), 0, none⟩), t 4, t 5, t 6, .int .i64 (k : Int), .pointer (some ⟨wr.heap.size, 0, none⟩), .int .i64 (1000 + 35 * y0), t 10, t 11, t 12, t 13, t 14, t 15, t 16, t 17, t 18, t 19, t 20, t 21, t 22, t 23, t 24, t 25, t 26, t 27, t 28, t 29, t 30, t 31, t 32, t 33, t 34, t 35, t 36, t 37, t 38, t 39, t 40, t 41, t 42, t 43, t 44, t 45, t 46, t 47, t 48, t 49, t 50, t 51, t 52, t 53, t 54, t 55, t 56, t 57, t 58, t 59, t 60, t 61, t 62, t 63, t 64, t 65, t 66, t 67, t 68, t 69, t 70, t 71, t 72, t 73, t 74, t 75, t 76, t 77, t 78, t 79, t 80, t 81, t 82, t 83, t 84, t 85, t 86, t 87, t 88, t 89, t 90, t 91, t 92, t 93, t 94, t 95, r 96, r 97, r 98, r 99, r 100, r 101, r 102, r 103, r 104, r 105, r 106, r 107, r 108, r 109, r 110, r 111, r 112, r 113, r 114, r 115, r 116, r 117, r 118, r 119, r 120, r 121, r 122, r 123, r 124, r 125, r 126, x 0, x 1, .int .i64 (1000 + 35 * y0), x 3, x 4, x 5, x 6, x 7, x 8, x 9, .int .i64 ((1000 + 35 * y0) + (((1000 + 35 * y0) * y1) / 255)), x 11, x 12, x 13, x 14, x 15, x 16, x 17, x 18, x 19, x 20, x 21, x 22, x 23, x 24, x 25, .agg #[.int .i64 (500 + (10 * y2)), .int .i64 ((500 + (10 * y2)) + (y1 % 90))], x 27, x 28, r 156, r 157, undef], []⟩ : Act) v
                    refine wpOp_step rfl (fun K' hK' => ?_)
                    go_simp
                    exact hK' _ _ (hK _ _ (Below.refl _ _) (at_of rfl (rfl)))
                  · obtain ⟨x, rfl⟩ := upd_of (show x 27 = .agg #[.int .i64 (1000 + 35 * y0), .int .i64 ((1000 + 35 * y0) + (((1000 + 35 * y0) * y1) / 255)), .int .i64 (500 + (10 * y2)), .int .i64 ((500 + (10 * y2)) + (y1 % 90))] from hd 27 _ (by simp) rfl)
                    show wpOp Try.prog _ _ 28 K (⟨#[t 0, .pointer (some ⟨w.heap.size, 0, none⟩), .pointer (some ⟨(w.heap.size + 1), 0, none⟩), .pointer (some ⟨(w.heap.size + 1 + 1), 0, none⟩), t 4, t 5, t 6, .int .i64 (k : Int), .pointer (some ⟨wr.heap.size, 0, none⟩), .int .i64 (1000 + 35 * y0), t 10, t 11, t 12, t 13, t 14, t 15, t 16, t 17, t 18, t 19, t 20, t 21, t 22, t 23, t 24, t 25, t 26, t 27, t 28, t 29, t 30, t 31, t 32, t 33, t 34, t 35, t 36, t 37, t 38, t 39, t 40, t 41, t 42, t 43, t 44, t 45, t 46, t 47, t 48, t 49, t 50, t 51, t 52, t 53, t 54, t 55, t 56, t 57, t 58, t 59, t 60, t 61, t 62, t 63, t 64, t 65, t 66, t 67, t 68, t 69, t 70, t 71, t 72, t 73, t 74, t 75, t 76, t 77, t 78, t 79, t 80, t 81, t 82, t 83, t 84, t 85, t 86, t 87, t 88, t 89, t 90, t 91, t 92, t 93, t 94, t 95, r 96, r 97, r 98, r 99, r 100, r 101, r 102, r 103, r 104, r 105, r 106, r 107, r 108, r 109, r 110, r 111, r 112, r 113, r 114, r 115, r 116, r 117, r 118, r 119, r 120, r 121, r 122, r 123, r 124, r 125, r 126, x 0, x 1, x 2, x 3, x 4, x 5, x 6, x 7, x 8, x 9, x 10, x 11, x 12, x 13, x 14, x 15, x 16, x 17, x 18, x 19, x 20, x 21, x 22, x 23, x 24, x 25, x 26, .agg #[.int .i64 (1000 + 35 * y0), .int .i64 ((1000 + 35 * y0) + (((1000 + 35 * y0) * y1) / 255)), .int .i64 (500 + (10 * y2)), .int .i64 ((500 + (10 * y2)) + (y1 % 90))], x 28, r 156, r 157, undef], []⟩ : Act) v
                    refine wpOp_step rfl (fun K' hK' => ?_)
                    go_simp
                    have hg := Gr.al v (.cells (List.toArray [.int .i64 (1000 + 35 * y0), .int .i64 ((1000 + 35 * y0) + (((1000 + 35 * y0) * y1) / 255)), .int .i64 (500 + (10 * y2)), .int .i64 ((500 + (10 * y2)) + (y1 % 90))]) 176)
                    exact hK' _ _ (hK _ _ hg (at_of rfl (⟨v.heap.size, rfl, gv.size, Own.new v [.int .i64 (1000 + 35 * y0), .int .i64 ((1000 + 35 * y0) + (((1000 + 35 * y0) * y1) / 255)), .int .i64 (500 + (10 * y2)), .int .i64 ((500 + (10 * y2)) + (y1 % 90))] 176 v.heap.size rfl⟩)))
                case fin19 =>
                  rintro x v gv hd
                  obtain ⟨x, rfl⟩ := upd_of (show x 1 = pv2 from hd 1 _ (by omega) rfl)
                  obtain ⟨b6, e28, hb6, ow6⟩ := hd 28 _ (by omega) rfl
                  obtain ⟨x, rfl⟩ := upd_of (show x 28 = .slice (some ⟨b6, 0, none⟩) 1 1 from e28)
                  clear hd
                  show wpList Try.prog _ _ (List.drop 29 _) (⟨#[t 0, .pointer (some ⟨w.heap.size, 0, none⟩), .pointer (some ⟨(w.heap.size + 1), 0, none⟩), .pointer (some ⟨(w.heap.size + 1 + 1), 0, none⟩), t 4, t 5, t 6, .int .i64 (k : Int), .pointer (some ⟨wr.heap.size, 0, none⟩), .int .i64 (1000 + 35 * y0), t 10, t 11, t 12, t 13, t 14, t 15, t 16, t 17, t 18, t 19, t 20, t 21, t 22, t 23, t 24, t 25, t 26, t 27, t 28, t 29, t 30, t 31, t 32, t 33, t 34, t 35, t 36, t 37, t 38, t 39, t 40, t 41, t 42, t 43, t 44, t 45, t 46, t 47, t 48, t 49, t 50, t 51, t 52, t 53, t 54, t 55, t 56, t 57, t 58, t 59, t 60, t 61, t 62, t 63, t 64, t 65, t 66, t 67, t 68, t 69, t 70, t 71, t 72, t 73, t 74, t 75, t 76, t 77, t 78, t 79, t 80, t 81, t 82, t 83, t 84, t 85, t 86, t 87, t 88, t 89, t 90, t 91, t 92, t 93, t 94, t 95, r 96, r 97, r 98, r 99, r 100, r 101, r 102, r 103, r 104, r 105, r 106, r 107, r 108, r 109, r 110, r 111, r 112, r 113, r 114, r 115, r 116, r 117, r 118, r 119, r 120, r 121, r 122, r 123, r 124, r 125, r 126, x 0, pv2, x 2, x 3, x 4, x 5, x 6, x 7, x 8, x 9, x 10, x 11, x 12, x 13, x 14, x 15, x 16, x 17, x 18, x 19, x 20, x 21, x 22, x 23, x 24, x 25, x 26, x 27, .slice (some ⟨b6, 0, none⟩) 1 1, r 156, r 157, undef], []⟩ : Act) v
                  simp only [List.drop_succ_cons, List.drop_zero]
                  clear w0 w1 w2 w3 w4 w5 w6 w7 w8 w9
                  have gA := gn.tr gv
                  have hoA := owns_keep hown gA
                  have hPA := owns_keep hPo gA
                  have gA0 := gA.size
                  have k1 : k + 1 ≤ maxLen := by unfold maxLen; omega
                  have k2 : (k + 1) * 32 ≤ 140737488355328 := by omega
                  have hne4 : ∀ r, pv2.ownBlock = some r → H1 ≤ r ∧ r < wr.heap.size := (fun r hr => by have := hown.lt r hr; omega)
                  have HNE := Lib.hid hne4
                  clear hne4
                  have hH4 : H1 ≤ v.heap.size := by omega
                  go_wp2_with (at_builtin; refine wpList_append_own _ rfl _ _ 122 rfl H1 176 jf _ 4 32 Try.underlying122 hjf hfz0 hfz1 hfz2 rfl (by decide) _ _ _ rfl hoA ⟨b6, 0, none⟩ 1 1 ([1000 + 35 * y0, (1000 + 35 * y0) + (((1000 + 35 * y0) * y1) / 255), 500 + (10 * y2), (500 + (10 * y2)) + (y1 % 90)].map (fun n => Value.int .i64 n)) rfl rfl ow6.news (ints_one _) k1 k2 hH4 ?_; intro v' w6 hown4 hgr4 _; obtain ⟨a4, c4, rfl⟩ := owns_val hown4; have os4 := (os.keep gA).grownRow hgr4 (fun r hr => by have := HNE.out r hr; omega); have gY := (gg.tr gA).grown' hoA (by omega) hgr4; have hx4 := (hx.keep gA).grown hgr4 (fun r hr => by have := HNE.out r hr; omega); have or4 := (or.keep gA).grownRow hgr4 (fun r hr => by have := HNE.out r hr; omega); have hP4 := hPA.kept hgr4 (by (cases hpo : pv.ownBlock with | none => exact .inl rfl | some r => exact .inr (fun e => by have h1 := HP2.out r hpo; have h2 := HNE.out r e.symm; omega))); have hH6 := Nat.le_trans hH4 hgr4.size; obtain ⟨t0, t1⟩ := os4.1.c2; have z1 := os4.2 1)
                  go_roundw
                  case rel =>
                    refine Lib.hid ⟨k + 1, _, by omega, by go_num, gY.setCell (show w.heap.size ≤ w.heap.size + 1 + 1 by omega) _, by simpa using hH6, hx4.other (by omega), or4.other (by omega), os4.set (i := 1) (by simp), owns_other hP4 (by omega), ?_⟩
                    rw [List.take_add_one, HPK.out, Option.toList_some, flat_snoc]
                    exact owns_other hown4 (by omega)
                  case measure => simp [intOf]; omega
          · obtain rfl : k = nfW F.length := by omega
            have hle : nfW F.length = (storeWF F).length := (storeWF_len F).symm
            rw [List.take_of_length_le (by omega)] at hown
            rw [hle] at hown
            rw [HLE.out] at hPo
            obtain ⟨a1, c1, hv1, r1, n1'⟩ := owns_row_new (enc := encP) (l := storeWP P) (fun _ => rfl) (by have := HLE.out; omega) hPo
            obtain ⟨a2, c2, hv2, r2, n2'⟩ := owns_row_new (enc := encF) (l := storeWF F) (fun _ => rfl) (by omega) hown
            subst hv1
            subst hv2
            have R1 := Lib.hid r1
            have R2 := Lib.hid r2
            have N1 := Lib.hid n1'
            have N2 := Lib.hid (n2'.le (show w.heap.size + 1 + 1 + 1 ≤ H1 by omega))
            have HLE2 := Lib.hid hle
            clear r1 r2 n1' n2' hPo hown hle
            have hsz : w.heap.size + 1 + 1 < wr.heap.size := os.1.1
            go_upto_region 13 with fail
            go_cut [108] from 96 to 107 (fun s23 wx => s23 = .bool false ∧ wr = wx)
            case first =>
              have q0 := hx.2 1 _ rfl
              have d1 : ((nfW F.length : Int) == 0) = false := by rw [beq_eq_false_iff_ne]; omega
              by_cases hl : nfW F.length < F.length
              · have d2 : decide (nfW F.length < F.length) = true := by simpa using hl
                have h5 : nfW F.length = 3 := by unfold nfW at hl ⊢; split at hl <;> (try split at hl) <;> (try split) <;> omega
                have d3 : decide ((nfW F.length : Int) < 3) = false := by simp; omega
                clear h5
                go_wp2_with fail
                go_meet
                exact ⟨rfl, rfl⟩
              · have d2 : decide (nfW F.length < F.length) = false := by simpa using hl
                go_wp2_with fail
                go_meet
                exact ⟨rfl, rfl⟩
            case rest =>
              obtain ⟨rfl, rfl⟩ := hcut
              obtain ⟨s0, s1⟩ := os.1.c2
              obtain ⟨u0, u1⟩ := or.1.c2
              have z0 := or.2 0
              have z1 := or.2 1
              go_wp2
              refine bodyPost_ret (v := .agg #[.slice a1 (storeWP P).length c1, .slice a2 (storeWF F).length c2]) (by simp [results, Try.results60, go_sem, u0, u1]) rfl ⟨a1, c1, a2, c2, rfl, (gg.setCell (by simp) _).setCell (by simp) _, ?_, ?_, N1.out.le (by omega), N2.out.le (by omega)⟩
              · exact (R1.out.other N1.out (by omega)).other N1.out (by omega)
              · exact (R2.out.other N2.out (by omega)).other N2.out (by omega)

end Go.Proofs.Ytcdilmagcdbogaa

namespace Go.Proofs.Ytcdilmagcdbogaa
set_option linter.unusedVariables false
set_option linter.unusedSimpArgs false
open Go.RowKit

set_option maxRecDepth 100000 in
set_option maxHeartbeats 4000000 in
theorem armBoard_any (w : World) : Calls Try.prog 66 #[] w fun e w' => e = .returned (.bool true) ∧ Gr w w' := by
  go_enter Try.func66, Try.ntmps66
  go_wp2_with fail
  refine (armSpan_anyT _ _ _).mono ?_
  rintro e w1 ⟨rfl, h1⟩
  go_wp2_with fail
  refine (armSpan_anyT _ _ _).mono ?_
  rintro e w2 ⟨rfl, h2⟩
  go_wp2_with fail
  refine (armSpan_anyT _ _ _).mono ?_
  rintro e w3 ⟨rfl, h3⟩
  go_wp2_with fail
  refine (armSpan_anyT _ _ _).mono ?_
  rintro e w4 ⟨rfl, h4⟩
  go_wp2_with fail
  refine (armSpan_anyT _ _ _).mono ?_
  rintro e w5 ⟨rfl, h5⟩
  go_upto_region 3 with fail
  refine wp_abs (fun W => Gr w W ∧ PRow W (some ⟨w4.heap.size, 0, none⟩) ps0 ∧ FRow W (some ⟨w5.heap.size, 0, none⟩) fs0 ∧ IRow W (some ⟨w5.heap.size + 1 + 1, 0, none⟩) mp0 ∧ IRow W (some ⟨w5.heap.size + 1 + 1 + 1, 0, none⟩) mf0 ∧
    Box W (w5.heap.size + 1) [.slice (some ⟨w4.heap.size, 0, none⟩) 2 2, .slice (some ⟨w5.heap.size, 0, none⟩) 1 1] ∧ Box W (w5.heap.size + 1 + 1 + 1 + 1) [.slice (some ⟨w5.heap.size + 1 + 1, 0, none⟩) 3 3, .slice (some ⟨w5.heap.size + 1 + 1 + 1, 0, none⟩) 1 1])
    ⟨((((((h1.tr (h2.tr (h3.tr (h4.tr ((Gr.al _ _).tr h5))))).tr (Gr.al _ _)).tr (Gr.al _ _)).tr (Gr.al _ _)).tr (Gr.al _ _)).tr (Gr.al _ _)),
     ((RowOf.lit (enc := encP) (sz := 8) (fun _ => rfl) w4 174 ps0 (by simp [ps0]) _ (by rfl) w4.heap.size rfl).grow h5).grow (((((Gr.al _ _).tr (Gr.al _ _)).tr (Gr.al _ _)).tr (Gr.al _ _)).tr (Gr.al _ _)),
     (RowOf.lit (enc := encF) (sz := 4) (fun _ => rfl) w5 176 fs0 (by simp [fs0]) _ (by rfl) w5.heap.size rfl).grow ((((Gr.al _ _).tr (Gr.al _ _)).tr (Gr.al _ _)).tr (Gr.al _ _)),
     (RowOf.lit (enc := encI) (sz := 1) (fun _ => rfl) _ 3 mp0 (by simp [mp0]) _ (by rfl) (w5.heap.size + 1 + 1) (by simp)).grow ((Gr.al _ _).tr (Gr.al _ _)),
     (RowOf.lit (enc := encI) (sz := 1) (fun _ => rfl) _ 3 mf0 (by simp [mf0]) _ (by rfl) (w5.heap.size + 1 + 1 + 1) (by simp)).grow (Gr.al _ _),
     (Box.new _ [.slice (some ⟨w4.heap.size, 0, none⟩) 2 2, .slice (some ⟨w5.heap.size, 0, none⟩) 1 1] 124 (w5.heap.size + 1) (by simp)).keep (((Gr.al _ _).tr (Gr.al _ _)).tr (Gr.al _ _)),
     Box.new _ [.slice (some ⟨w5.heap.size + 1 + 1, 0, none⟩) 3 3, .slice (some ⟨w5.heap.size + 1 + 1 + 1, 0, none⟩) 1 1] 127 (w5.heap.size + 1 + 1 + 1 + 1) (by simp)⟩ ?_
  rintro W ⟨gW, hp, hf, ha, hg, b1, b2⟩
  clear h1 h2 h3 h4 h5
  obtain ⟨x0, x1⟩ := b1.c2
  obtain ⟨x2, x3⟩ := b2.c2
  go_wp2_with fail
  refine (measure1 _ _ _ _ W hp hf ha hg).mono ?_
  rintro e w6 ⟨rfl, h6⟩
  clear x0 x1 x2 x3
  go_upto_region 4 with fail
  refine wp_abs (fun V => Gr W V ∧ Box V w6.heap.size [.int .i64 616, .int .i64 628] ∧ Box V (w6.heap.size + 1) [.int .i64 4100, .int .i64 4240]) ⟨(h6.tr (Gr.al _ _)).tr (Gr.al _ _), (Box.new _ [.int .i64 616, .int .i64 628] 45 w6.heap.size rfl).keep (Gr.al _ _), Box.new _ [.int .i64 4100, .int .i64 4240] 45 (w6.heap.size + 1) (by simp)⟩ ?_
  rintro V ⟨gV, b3, b3'⟩
  clear h6
  obtain ⟨x0, x1⟩ := (b1.keep gV).c2
  obtain ⟨x2, x3⟩ := (b2.keep gV).c2
  go_wp2_with fail
  refine (strength1 _ _ _ _ V (hp.grow gV) (hf.grow gV) (ha.grow gV) (hg.grow gV)).mono ?_
  rintro e w7 ⟨rfl, h7⟩
  clear x0 x1 x2 x3
  go_upto_region 5 with fail
  refine wp_abs (fun U => Gr W U ∧ Box U w6.heap.size [.int .i64 616, .int .i64 628] ∧ Box U (w6.heap.size + 1) [.int .i64 4100, .int .i64 4240])
    ⟨gV.tr h7, b3.keep h7, b3'.keep h7⟩ ?_
  rintro U ⟨gU, b4, b5⟩
  clear b1 b2 b3 b3' hp hf ha hg h7 gV
  have gX := Gr.dr U
  obtain ⟨x0, x1⟩ := (b4.keep gX).c2
  obtain ⟨x2, x3⟩ := (b5.keep gX).c2
  go_region_held3 (fun w' => w'.cell? ⟨w6.heap.size, 0, none⟩ = some (.int .i64 616) ∧ w'.cell? ⟨w6.heap.size, 1, none⟩ = some (.int .i64 628) ∧ w'.cell? ⟨w6.heap.size + 1, 0, none⟩ = some (.int .i64 4100) ∧ w'.cell? ⟨w6.heap.size + 1, 1, none⟩ = some (.int .i64 4240)) (first | exact ⟨x0, x1, x2, x3⟩ | go_keep) (first
    | (go_at_call 67; (refine (armSpan_anyT _ _ _).mono ?_); rintro e w8 ⟨rfl, hy⟩; replace gX := gX.tr hy; (obtain ⟨x0, x1⟩ := (b4.keep gX).c2); (obtain ⟨x2, x3⟩ := (b5.keep gX).c2)))
  all_goals
    go_wp2
    go_ret
    exact ⟨rfl, gW.tr (gU.tr gX)⟩

end Go.Proofs.Ytcdilmagcdbogaa

namespace Go.Proofs.Ytcdilmagcdbogaa
set_option linter.unusedVariables false
set_option linter.unusedSimpArgs false
open Go.RowKit

end Go.Proofs.Ytcdilmagcdbogaa

namespace Go.Proofs.Ytcdilmagcdbogaa
set_option linter.unusedVariables false
set_option linter.unusedSimpArgs false
open Go.RowKit

set_option maxRecDepth 100000 in
set_option maxHeartbeats 8000000 in
theorem armMake_any (P : List V6) (F : List V3) (Y : List Int) (hP : ∀ v ∈ P, B6 v) (hF : ∀ v ∈ F, B3 v) (hY : Bytes Y) (pa fa ya : Option Addr) (pc fc yc : Nat) (w : World) (rp : Row6 w pa P) (rf : Row3 w fa F) (ry : URow w ya Y) :
    Calls Try.prog 61 #[.agg #[.slice pa P.length pc, .slice fa F.length fc, .slice ya Y.length yc]] w (MadePost (makeWP P Y) (makeWF F Y) w) := by
  obtain ⟨i0, hi, hz0, hz1, hz2⟩ := info_parts infoInt
  have gg := (Gr.al w (.cells #[.slice pa P.length pc, .slice fa F.length fc, .slice ya Y.length yc] 120)).tr (Gr.al _ (.cells #[.slice none 0 0, .slice none 0 0] 127))
  have hx := (Box.new w [.slice pa P.length pc, .slice fa F.length fc, .slice ya Y.length yc] 120 w.heap.size rfl).keep (Gr.al _ (.cells #[.slice none 0 0, .slice none 0 0] 127))
  have or := Own.new (w.alloc (.cells #[.slice pa P.length pc, .slice fa F.length fc, .slice ya Y.length yc] 120)) [.slice none 0 0, .slice none 0 0] 127 (w.heap.size + 1) (by simp)
  have HP := Lib.hid hP
  have HF := Lib.hid hF
  have HY := Lib.hid hY
  obtain ⟨np2, np5⟩ := npW_bd P.length
  obtain ⟨nf1, nf3⟩ := nfW_bd F.length
  have HLP := Lib.hid (storeWP_len P)
  have HLF := Lib.hid (storeWF_len F)
  clear hP hF hY
  obtain ⟨q0, q1, q2⟩ := hx.c3
  go_enter Try.func61, Try.ntmps61
  go_wp2_with fail
  refine (armStore_any P F HP.out HF.out pa fa ya pc fc yc Y.length _ (rp.grow gg) (rf.grow gg)).mono ?_
  rintro e w1 ⟨sa, sc, sg, gc, rfl, hg1, rsp, rsf, _, _⟩
  clear q0 q1 q2
  go_upto_region 3 with fail
  have hw1 := hg1.size
  have gA := (Gr.al w1 (.cells #[.slice sa (storeWP P).length sc, .slice sg (storeWF F).length gc] 124)).tr ((Gr.al _ (.cells #[.slice none 0 0, .slice none 0 0] 127)).tr (Gr.al _ (.cells #[.slice none 0 0, .slice none 0 0] 177)))
  obtain ⟨D, hD⟩ : ∃ D, D = w1.heap.size := ⟨_, rfl⟩
  have hbP : ∀ b off, sa = some ⟨b, off, none⟩ → b < D := by
    rintro b off rfl
    obtain ⟨b', off', e, hb⟩ := rsp.addr (by have := HLP.out; omega)
    cases e
    omega
  have hbF : ∀ b off, sg = some ⟨b, off, none⟩ → b < D := by
    rintro b off rfl
    obtain ⟨b', off', e, hb⟩ := rsf.addr (by have := HLF.out; omega)
    cases e
    omega
  have hMP : MkP w D sa sg := ⟨by simp at hw1; omega, hbP, hbF⟩
  have HMP := Lib.hid hMP
  have hDw := hMP.hD
  have hM : MkS w [.slice pa P.length pc, .slice fa F.length fc, .slice ya Y.length yc] D sa sg (storeWP P) (storeWF F) sc gc (((w1.alloc (.cells #[.slice sa (storeWP P).length sc, .slice sg (storeWF F).length gc] 124)).alloc (.cells #[.slice none 0 0, .slice none 0 0] 127)).alloc (.cells #[.slice none 0 0, .slice none 0 0] 177)) :=
    ⟨(gg.tr hg1).tr gA, (hx.keep hg1).keep gA, (or.keep hg1).keep gA, (Box.new w1 [.slice sa (storeWP P).length sc, .slice sg (storeWF F).length gc] 124 D hD).keep ((Gr.al _ _).tr (Gr.al _ _)), rsp.grow gA, rsf.grow gA⟩
  have o4 := (Own.new (w1.alloc (.cells #[.slice sa (storeWP P).length sc, .slice sg (storeWF F).length gc] 124)) [.slice none 0 0, .slice none 0 0] 127 (D + 1) (by simp [hD])).keep (Gr.al _ (.cells #[.slice none 0 0, .slice none 0 0] 177))
  have o5 := Own.new ((w1.alloc (.cells #[.slice sa (storeWP P).length sc, .slice sg (storeWF F).length gc] 124)).alloc (.cells #[.slice none 0 0, .slice none 0 0] 127)) [.slice none 0 0, .slice none 0 0] 177 (D + 1 + 1) (by simp [hD])
  rw [← hD]
  refine wp_abs (fun W => MkS w [.slice pa P.length pc, .slice fa F.length fc, .slice ya Y.length yc] D sa sg (storeWP P) (storeWF F) sc gc W ∧ Own W (D + 1) [.slice none 0 0, .slice none 0 0] ∧ Own W (D + 1 + 1) [.slice none 0 0, .slice none 0 0]) ⟨hM, o4, o5⟩ ?_
  clear hM o4 o5 gA hbP hbF hMP hD hg1 rsp rsf hx or hw1 gg
  rintro W ⟨hM, o4, o5⟩
  go_wp2
  go_loopw [6] (fun i wr => Hid (∃ (k : Nat) (kv0 kv1 : Value), k ≤ npW P.length ∧ i = .int .i64 k ∧ MkS w [.slice pa P.length pc, .slice fa F.length fc, .slice ya Y.length yc] D sa sg (storeWP P) (storeWF F) sc gc wr ∧ Own wr (D + 1) [.slice none 0 0, .slice none 0 0] ∧ Own wr (D + 1 + 1) [kv0, kv1] ∧
    wr.ownsRow (D + 1 + 1 + 1) 3 1 kv0 (kindsW P 1 k).length ((kindsW P 1 k).flatMap encI) ∧ wr.ownsRow (D + 1 + 1 + 1) 3 1 kv1 (kindsW P 2 k).length ((kindsW P 2 k).flatMap encI) ∧ (∀ r, kv0.ownBlock = some r → kv1.ownBlock ≠ some r))) (fun i wr => 5 - (intOf i).toNat)
  case atStart => exact Lib.hid ⟨0, .slice none 0 0, .slice none 0 0, by omega, rfl, hM, o4, o5, World.ownsRow_nil _ _ _ _, World.ownsRow_nil _ _ _ _, fun r e => by simp [Value.ownBlock] at e⟩
  case round =>
    clear hM o4 o5
    obtain ⟨k, kv0, kv1, hk, rfl, hM, o4, o5, w0, w1', hdis⟩ := hrel.out
    clear hrel
    have s0 := hM.b3.2 0 _ rfl
    have s1 := hM.b3.2 1 _ rfl
    have hlW := HLP.out
    have hsz : D + 1 + 1 < wr.heap.size := o5.1.1
    by_cases hlt : k < npW P.length
    · have dk : decide (k < (storeWP P).length) = true := by simp; omega
      have hkl : k < (storeWP P).length := by omega
      have hpk := storeWP_at hlt
      obtain ⟨b0, o0, ha, hb0, c0, _⟩ := hM.rp.get hpk
      have h12 := kindW_12 HP.out (show k < 5 by omega)
      have l1 := kindsW_len P 1 k
      have l2 := kindsW_len P 2 k
      have HD := Lib.hid hdis
      have HPK := Lib.hid hpk
      clear hpk hlW hdis
      subst ha
      have gA := Gr.al wr (.cells #[.int .i64 (k : Int)] 3)
      have w0A := owns_keep w0 gA
      have w1A := owns_keep w1' gA
      have HL0 := Lib.hid w0.lt
      have HL1 := Lib.hid w1'.lt
      change wr.cell? _ = some (.int .i64 (kindW P k)) at c0
      rcases h12 with hkk | hkk
      · have E1 : kindsW P 1 (k + 1) = kindsW P 1 k ++ [(k : Int)] := by show _ ++ _ = _; rw [if_pos hkk]
        have E2 : kindsW P 2 (k + 1) = kindsW P 2 k := by show _ ++ _ = _; rw [if_neg (by rw [hkk]; decide)]; simp
        have HE1 := Lib.hid E1
        have HE2 := Lib.hid E2
        rw [hkk] at c0
        obtain ⟨t0, t1⟩ := o5.1.c2
        clear E1 E2 hkk
        go_wp2_with (at_builtin; refine wpList_append_lies _ rfl _ _ 24 rfl (D + 1 + 1 + 1) 3 i0 _ 1 8 Try.underlying24 hi hz0 hz1 hz2 rfl (by decide) kv0 _ _ rfl w0A ⟨wr.heap.size, 0, none⟩ 1 1 ([(k : Int)].map (fun n => Value.int .i64 n)) rfl rfl (cell_news _ _ _) (ints_one _) (by decide) (by unfold maxLen; omega) (by omega) (by simp; omega) _ rfl ?_; intro gb cap w6 hown4 hgr4 hat4 hlt4; have hM6 := (hM.keep gA).grown HMP.out hgr4 (fun r e => by have := HL0.out r e; omega); have o46 := (o4.keep gA).grownRow hgr4 (fun r e => by have := HL0.out r e; omega); have o56 := (o5.keep gA).grownRow hgr4 (fun r e => by have := HL0.out r e; omega); have w16 := w1A.kept hgr4 (by (cases hpo : kv1.ownBlock with | none => exact .inl rfl | some r => exact .inr (fun e => HD.out r e.symm hpo))); (obtain ⟨t0, t1⟩ := o56.1.c2); have z0 := o56.2 0; have z1 := o56.2 1)
        go_roundw
        case rel =>
          refine Lib.hid ⟨k + 1, _, _, by omega, by go_num, hM6.set HMP.out (by omega) _ _, o46.other (by omega), o56.set (i := 0) (by simp), ?_, ?_, ?_⟩
          · rw [HE1.out, flat_snoc, List.length_append]
            exact owns_other hown4 (by omega)
          · rw [HE2.out]
            exact owns_other w16 (by omega)
          · intro r e e'
            have e2 : gb = r := by simpa [Value.ownBlock] using e
            subst e2
            rcases hat4 with h | h
            · exact HD.out _ h e'
            · have := HL1.out _ e'
              simp at h
              omega
        case measure => simp [intOf]; omega
      · have E1 : kindsW P 2 (k + 1) = kindsW P 2 k ++ [(k : Int)] := by show _ ++ _ = _; rw [if_pos hkk]
        have E2 : kindsW P 1 (k + 1) = kindsW P 1 k := by show _ ++ _ = _; rw [if_neg (by rw [hkk]; decide)]; simp
        have HE1 := Lib.hid E1
        have HE2 := Lib.hid E2
        rw [hkk] at c0
        obtain ⟨t0, t1⟩ := o5.1.c2
        clear E1 E2 hkk
        go_wp2_with (at_builtin; refine wpList_append_lies _ rfl _ _ 24 rfl (D + 1 + 1 + 1) 3 i0 _ 1 8 Try.underlying24 hi hz0 hz1 hz2 rfl (by decide) kv1 _ _ rfl w1A ⟨wr.heap.size, 0, none⟩ 1 1 ([(k : Int)].map (fun n => Value.int .i64 n)) rfl rfl (cell_news _ _ _) (ints_one _) (by decide) (by unfold maxLen; omega) (by omega) (by simp; omega) _ rfl ?_; intro gb cap w6 hown4 hgr4 hat4 hlt4; have hM6 := (hM.keep gA).grown HMP.out hgr4 (fun r e => by have := HL1.out r e; omega); have o46 := (o4.keep gA).grownRow hgr4 (fun r e => by have := HL1.out r e; omega); have o56 := (o5.keep gA).grownRow hgr4 (fun r e => by have := HL1.out r e; omega); have w16 := w0A.kept hgr4 (by (cases hpo : kv0.ownBlock with | none => exact .inl rfl | some r => exact .inr (fun e => HD.out r hpo e.symm))); (obtain ⟨t0, t1⟩ := o56.1.c2); have z0 := o56.2 0; have z1 := o56.2 1)
        go_roundw
        case rel =>
          refine Lib.hid ⟨k + 1, _, _, by omega, by go_num, hM6.set HMP.out (by omega) _ _, o46.other (by omega), o56.set (i := 1) (by simp), ?_, ?_, ?_⟩
          · rw [HE2.out]
            exact owns_other w16 (by omega)
          · rw [HE1.out, flat_snoc, List.length_append]
            exact owns_other hown4 (by omega)
          · intro r e e'
            have e2 : gb = r := by simpa [Value.ownBlock] using e'
            subst e2
            rcases hat4 with h | h
            · exact HD.out _ e h
            · have := HL0.out _ e
              simp at h
              omega
        case measure => simp [intOf]; omega
    · obtain rfl : k = npW P.length := by omega
      have dk : decide (npW P.length < (storeWP P).length) = false := by simp; omega

      have p1 := kindsW_pos1 P np2
      have p2 := kindsW_pos2 P np2
      have l1 := kindsW_len P 1 (npW P.length)
      have l2 := kindsW_len P 2 (npW P.length)
      obtain ⟨a0, c0, hv0, r0, m0⟩ := owns_row_new (enc := encI) (l := kindsW P 1 (npW P.length)) (fun _ => rfl) (by omega) w0
      obtain ⟨a1, c1, hv1, r1, m1⟩ := owns_row_new (enc := encI) (l := kindsW P 2 (npW P.length)) (fun _ => rfl) (by omega) w1'
      subst hv0
      subst hv1
      have HLW := Lib.hid hlW
      have HA0 : Hid (∀ b off, a0 = some ⟨b, off, none⟩ → D + 1 + 1 + 1 ≤ b ∧ b < wr.heap.size) := Lib.hid (by
        rintro b off rfl
        obtain ⟨b', off', e, hb⟩ := r0.addr p1
        cases e
        exact ⟨m0 _ _ _ rfl, hb⟩)
      have HA1 : Hid (∀ b off, a1 = some ⟨b, off, none⟩ → D + 1 + 1 + 1 ≤ b ∧ b < wr.heap.size) := Lib.hid (by
        rintro b off rfl
        obtain ⟨b', off', e, hb⟩ := r1.addr p2
        cases e
        exact ⟨m1 _ _ _ rfl, hb⟩)
      clear m0 m1 hdis hlW w0 w1'
      obtain ⟨H1, hH1⟩ : ∃ H1, H1 = wr.heap.size := ⟨_, rfl⟩
      rw [← hH1] at HA0 HA1
      have hge : H1 ≤ wr.heap.size := by omega
      have hH1D : D + 1 + 1 < H1 := by omega
      obtain ⟨b00, b01⟩ := byteL_bd HY.out 0
      have hf12 := flW_12 Y
      have hB0 : Calls Try.prog 103 #[.slice ya Y.length yc, .int .i64 0] wr fun e w' => e = .returned (.int .i64 (byteL Y 0)) ∧ wr = w' := pubByte_anyT Y HY.out 0 (by omega) ya yc wr (ry.grow hM.gr)
      have hfl : (1 : Int) + byteL Y 0 % 2 = (flW Y : Int) := by unfold flW; omega
      have HFL := Lib.hid hfl
      have HB0 := Lib.hid hB0
      clear hH1 hfl hB0
      go_upto_region 8 with fail
      clear s0 s1 dk
      go_cut [8] from 37 to 41 (fun s8 wx => s8 = .int .i64 (flW Y : Int) ∧ wr = wx)
      case first =>
        have q2 := hM.hx.2 2 _ rfl
        have ht : (byteL Y 0).tmod 2 = byteL Y 0 % 2 := Int.tmod_eq_emod_of_nonneg b00
        go_wp2_with (go_at_call 103; refine HB0.out.mono ?_; rintro e w' ⟨rfl, rfl⟩)
        go_meet
        exact ⟨by rw [← HFL.out], rfl⟩
      case rest =>
        obtain ⟨rfl, rfl⟩ := hcut
        clear b00 b01 HFL HB0
        go_wp2
        refine (show (∀ t : Nat → Value, Code.wp Try.prog _ _ ⟨#[t 0, .pointer (some ⟨w.heap.size, 0, none⟩), .pointer (some ⟨(w.heap.size + 1), 0, none⟩), .pointer (some ⟨D, 0, none⟩), .pointer (some ⟨(D + 1), 0, none⟩), .pointer (some ⟨(D + 1 + 1), 0, none⟩), t 6, t 7, .int .i64 (flW Y : Int), .int .i64 0, undef, t 11, t 12, t 13, t 14, t 15, t 16, t 17, t 18, t 19, t 20, t 21, t 22, t 23, t 24, t 25, t 26, t 27, t 28, t 29, t 30, t 31, t 32, t 33, t 34, t 35, t 36, t 37, t 38, t 39, t 40, t 41, undef, undef, undef, undef, undef, undef, undef, undef, undef, undef, undef, undef, undef, undef, undef, undef, undef, undef, undef, undef, undef, undef, undef, undef, undef, undef, undef, undef, undef, undef, undef, undef, undef, undef, undef, undef, undef, undef, undef, undef, undef, undef, undef, undef, undef], []⟩ _) → _ from fun h => h ((fun l : List Value => fun i => l.getD i undef) [_, undef, undef, undef, undef, undef, _, _, undef, undef, undef, _, _, _, _, _, _, _, _, _, _, _, _, _, _, _, _, _, _, _, _, _, _, _, _, _, _, _, _, _, _, _])) ?_
        intro t
        dsimp only
        go_loopw [9] (fun i wq => Hid (∃ (k : Nat) (pv qv : Value), k ≤ 2 * flW Y + 1 ∧ i = .int .i64 k ∧ MkS w [.slice pa P.length pc, .slice fa F.length fc, .slice ya Y.length yc] D sa sg (storeWP P) (storeWF F) sc gc wq ∧ H1 ≤ wq.heap.size ∧ Own wq (D + 1) [pv, qv] ∧ Own wq (D + 1 + 1) [.slice a0 (kindsW P 1 (npW P.length)).length c0, .slice a1 (kindsW P 2 (npW P.length)).length c1] ∧ IRow wq a0 (kindsW P 1 (npW P.length)) ∧ IRow wq a1 (kindsW P 2 (npW P.length)) ∧
          wq.ownsRow H1 3 1 pv k (((makeWP P Y).take (k)).flatMap encI) ∧ wq.ownsRow H1 3 1 qv (k / 2) (((makeWF F Y).take (k / 2)).flatMap encI) ∧ (∀ r, pv.ownBlock = some r → qv.ownBlock ≠ some r))) (fun i wq => 5 - (intOf i).toNat)
        case atStart => exact Lib.hid ⟨0, .slice none 0 0, .slice none 0 0, by omega, rfl, hM, hge, o4, o5, r0, r1, World.ownsRow_nil _ _ _ _, World.ownsRow_nil _ _ _ _, fun r e => by simp [Value.ownBlock] at e⟩
        case round =>
          clear hM o4 o5 hge r0 r1
          obtain ⟨k, pv, qv, hk, rfl, hM, hge, o4, o5, r0, r1, wp, wq', hdis⟩ := hrel.out
          clear hrel
          have hsz : D + 1 + 1 < wr.heap.size := o5.1.1
          by_cases hlt : k < 2 * flW Y + 1
          · have dk : decide ((k : Int) < 2 * (flW Y : Int) + 1) = true := by simp; omega
            go_upto_region 12 with fail
            go_cut [10] from 49 to 52 (fun s10 wx => wr = wx ∧ ∃ (la : Option Addr) (lc : Nat) (L : List Int), s10 = .slice la L.length lc ∧ IRow wr la L ∧ 0 < L.length ∧ L.length ≤ 5 ∧ L = kindRow P k)
            case first =>
              obtain ⟨t0, t1⟩ := o5.1.c2
              by_cases he : k % 2 = 0
              · have ht : ((k : Int)).tmod 2 = 0 := by rw [Int.tmod_eq_emod_of_nonneg (by omega)]; omega
                have E := Lib.hid (show kindsW P 1 (npW P.length) = kindRow P k by simp [kindRow, he])
                clear he
                go_wp2_with fail
                go_meet
                exact ⟨rfl, a0, c0, _, rfl, r0, p1, by omega, E.out⟩
              · have ht : ((k : Int)).tmod 2 = 1 := by rw [Int.tmod_eq_emod_of_nonneg (by omega)]; omega
                have E := Lib.hid (show kindsW P 2 (npW P.length) = kindRow P k by simp [kindRow, he])
                clear he
                go_wp2_with fail
                go_meet
                exact ⟨rfl, a1, c1, _, rfl, r1, p2, by omega, E.out⟩
            case rest =>
              obtain ⟨rfl, la, lc, L, rfl, hL, l0, l5, hLE⟩ := hcut
              have hpk := makeWP_at (P := P) hlt
              rw [← hLE] at hpk
              obtain ⟨mb0, mb1⟩ := byteL_bd HY.out (k + 1)
              obtain ⟨m, hm⟩ : ∃ m : Nat, byteL Y (k + 1) = (m : Int) := ⟨_, (Int.toNat_of_nonneg mb0).symm⟩
              have hB : ∀ v, Gr w v → Calls Try.prog 103 #[.slice ya Y.length yc, .int .i64 ((k : Int) + 1)] v fun e v' => e = .returned (.int .i64 (m : Int)) ∧ Gr v v' := fun v g => by
                have h := pubByte_anyT Y HY.out (k + 1) (by omega) ya yc v (ry.grow g)
                rw [show (((k + 1 : Nat)) : Int) = (k : Int) + 1 from by omega, hm] at h
                exact h.mono fun e v' ⟨h1, h2⟩ => ⟨h1, h2 ▸ Below.refl _ _⟩
              rw [hm, Int.toNat_natCast] at hpk
              have hml : m % L.length < L.length := Nat.mod_lt _ l0
              obtain ⟨xv, hxv⟩ := get_of_lt hml
              have ex : pickW L m = xv := by simp [pickW, hxv]
              rw [ex] at hpk
              obtain ⟨lb, lo, rfl, hlb, hcx⟩ := hL.get hxv
              have HPK := Lib.hid hpk
              have HB := Lib.hid hB
              have HD := Lib.hid hdis
              clear hm ex hLE hpk hB hdis hxv mb0 mb1
              have hz : ((L.length : Int) == 0) = false := by rw [beq_eq_false_iff_ne]; omega
              have hz2 : ¬ (L.length : Int) = 0 := by omega
              have hLn : ¬ L = [] := by rintro rfl; simp at l0
              have hi0 : (0 : Int) ≤ (m : Int) % (L.length : Int) := Int.emod_nonneg _ hz2
              have hi1 : (m : Int) % (L.length : Int) < (L.length : Int) := Int.emod_lt_of_pos _ (by omega)
              have htm : ((m : Int)).tmod (L.length : Int) = (m : Int) % (L.length : Int) := Int.tmod_eq_emod_of_nonneg (by omega)
              have hwk : IntKind.i64.wrap ((k : Int) + 1) = (k : Int) + 1 := IntWalk.i64_in _ (by omega)
              go_upto_region 13 with fail
              refine (show (∀ r : Nat → Value, Code.wp Try.prog _ _ ⟨#[t 0, .pointer (some ⟨w.heap.size, 0, none⟩), .pointer (some ⟨(w.heap.size + 1), 0, none⟩), .pointer (some ⟨D, 0, none⟩), .pointer (some ⟨(D + 1), 0, none⟩), .pointer (some ⟨(D + 1 + 1), 0, none⟩), t 6, t 7, .int .i64 (flW Y : Int), .int .i64 (k : Int), .slice (some ⟨lb, lo, none⟩) L.length lc, t 11, t 12, t 13, t 14, t 15, t 16, t 17, t 18, t 19, t 20, t 21, t 22, t 23, t 24, t 25, t 26, t 27, t 28, t 29, t 30, t 31, t 32, t 33, t 34, t 35, t 36, t 37, t 38, t 39, t 40, t 41, r 42, r 43, r 44, r 45, r 46, r 47, r 48, r 49, r 50, r 51, r 52, r 53, r 54, r 55, r 56, r 57, r 58, r 59, r 60, r 61, r 62, r 63, r 64, r 65, r 66, r 67, r 68, r 69, r 70, r 71, r 72, r 73, r 74, r 75, r 76, r 77, r 78, r 79, r 80, r 81, r 82, r 83, r 84, r 85, undef], []⟩ _) → _ from fun h => h ((fun l : List Value => fun i => l.getD i undef) [undef, undef, undef, undef, undef, undef, undef, undef, undef, undef, undef, undef, undef, undef, undef, undef, undef, undef, undef, undef, undef, undef, undef, undef, undef, undef, undef, undef, undef, undef, undef, undef, undef, undef, undef, undef, undef, undef, undef, undef, undef, undef, _, _, _, _, _, _, _, _, _, _, _, _, _, _, _, _, _, _, _, _, _, _, _, _, _, _, _, _, _, _, _, _, _, _, _, _, _, _, _, _, _, _, _, _])) ?_
              intro r
              dsimp only
              refine wp_region_facts 14 [(1, 0), (4, 3), (6, 5), (7, 4), (7, 6), (9, 8), (10, 7), (10, 9), (11, 2), (11, 10), (12, 11), (13, 12)] (fun x => ⟨#[t 0, .pointer (some ⟨w.heap.size, 0, none⟩), .pointer (some ⟨(w.heap.size + 1), 0, none⟩), .pointer (some ⟨D, 0, none⟩), .pointer (some ⟨(D + 1), 0, none⟩), .pointer (some ⟨(D + 1 + 1), 0, none⟩), t 6, t 7, .int .i64 (flW Y : Int), .int .i64 (k : Int), .slice (some ⟨lb, lo, none⟩) L.length lc, t 11, t 12, t 13, t 14, t 15, t 16, t 17, t 18, t 19, t 20, t 21, t 22, t 23, t 24, t 25, t 26, t 27, t 28, t 29, t 30, t 31, t 32, t 33, t 34, t 35, t 36, t 37, t 38, t 39, t 40, t 41, r 42, r 43, r 44, r 45, r 46, r 47, r 48, r 49, r 50, r 51, r 52, x 0, x 1, x 2, x 3, x 4, x 5, x 6, x 7, x 8, x 9, x 10, x 11, x 12, x 13, r 67, r 68, r 69, r 70, r 71, r 72, r 73, r 74, r 75, r 76, r 77, r 78, r 79, r 80, r 81, r 82, r 83, r 84, r 85, undef], []⟩) (fun i => [r 53, r 54, r 55, r 56, r 57, r 58, r 59, r 60, r 61, r 62, r 63, r 64, r 65, r 66].getD i undef) [fun _ x => x = .pointer (some ⟨(D + 1), 0, none⟩), fun _ x => x = pv, fun _ x => x = .slice (some ⟨lb, lo, none⟩) L.length lc, fun _ x => x = .pointer (some ⟨w.heap.size, 2, none⟩), fun _ x => x = .slice ya Y.length yc, fun _ x => x = .int .i64 (k : Int), fun _ x => x = .int .i64 ((k : Int) + 1), fun _ x => x = .int .i64 (m : Int), fun _ x => x = .slice (some ⟨lb, lo, none⟩) L.length lc, fun _ x => x = .int .i64 (L.length : Int), fun _ x => x = .int .i64 ((m : Int) % (L.length : Int)), fun _ x => x = .pointer (some ⟨lb, lo + m % L.length, none⟩), fun _ x => x = .int .i64 xv, fun v x => ∃ b, x = .slice (some ⟨b, 0, none⟩) 1 1 ∧ Own v b [.int .i64 xv]] (by rfl) (by kernel_rfl) (by kernel_rfl) (by kernel_rfl) (stays_cons (Stays.eq _) (stays_cons (Stays.eq _) (stays_cons (Stays.eq _) (stays_cons (Stays.eq _) (stays_cons (Stays.eq _) (stays_cons (Stays.eq _) (stays_cons (Stays.eq _) (stays_cons (Stays.eq _) (stays_cons (Stays.eq _) (stays_cons (Stays.eq _) (stays_cons (Stays.eq _) (stays_cons (Stays.eq _) (stays_cons (Stays.eq _) (stays_cons ((show Stays (fun v x => ∃ b, x = .slice (some ⟨b, 0, none⟩) 1 1 ∧ Own v b [.int .i64 xv]) from fun v v' x g ⟨b, e, o⟩ => ⟨b, e, o.keep g⟩)) stays_nil)))))))))))))) ?step13 ?fin13
              case step13 =>
                rintro i hi x v gv hd K hK
                have hi8 : i = 0 ∨ i = 1 ∨ i = 2 ∨ i = 3 ∨ i = 4 ∨ i = 5 ∨ i = 6 ∨ i = 7 ∨ i = 8 ∨ i = 9 ∨ i = 10 ∨ i = 11 ∨ i = 12 ∨ i = 13 := by omega
                rcases hi8 with rfl | rfl | rfl | rfl | rfl | rfl | rfl | rfl | rfl | rfl | rfl | rfl | rfl | rfl
                · show wpOp Try.prog _ _ 0 K (⟨#[t 0, .pointer (some ⟨w.heap.size, 0, none⟩), .pointer (some ⟨(w.heap.size + 1), 0, none⟩), .pointer (some ⟨D, 0, none⟩), .pointer (some ⟨(D + 1), 0, none⟩), .pointer (some ⟨(D + 1 + 1), 0, none⟩), t 6, t 7, .int .i64 (flW Y : Int), .int .i64 (k : Int), .slice (some ⟨lb, lo, none⟩) L.length lc, t 11, t 12, t 13, t 14, t 15, t 16, t 17, t 18, t 19, t 20, t 21, t 22, t 23, t 24, t 25, t 26, t 27, t 28, t 29, t 30, t 31, t 32, t 33, t 34, t 35, t 36, t 37, t 38, t 39, t 40, t 41, r 42, r 43, r 44, r 45, r 46, r 47, r 48, r 49, r 50, r 51, r 52, x 0, x 1, x 2, x 3, x 4, x 5, x 6, x 7, x 8, x 9, x 10, x 11, x 12, x 13, r 67, r 68, r 69, r 70, r 71, r 72, r 73, r 74, r 75, r 76, r 77, r 78, r 79, r 80, r 81, r 82, r 83, r 84, r 85, undef], []⟩ : Act) v
                  refine wpOp_step rfl (fun K' hK' => ?_)
                  go_simp
                  exact hK' _ _ (hK _ _ (Below.refl _ _) (at_of rfl (rfl)))
                · obtain ⟨x, rfl⟩ := upd_of (show x 0 = .pointer (some ⟨(D + 1), 0, none⟩) from hd 0 _ (by simp) rfl)
                  show wpOp Try.prog _ _ 1 K (⟨#[t 0, .pointer (some ⟨w.heap.size, 0, none⟩), .pointer (some ⟨(w.heap.size + 1), 0, none⟩), .pointer (some ⟨D, 0, none⟩), .pointer (some ⟨(D + 1), 0, none⟩), .pointer (some ⟨(D + 1 + 1), 0, none⟩), t 6, t 7, .int .i64 (flW Y : Int), .int .i64 (k : Int), .slice (some ⟨lb, lo, none⟩) L.length lc, t 11, t 12, t 13, t 14, t 15, t 16, t 17, t 18, t 19, t 20, t 21, t 22, t 23, t 24, t 25, t 26, t 27, t 28, t 29, t 30, t 31, t 32, t 33, t 34, t 35, t 36, t 37, t 38, t 39, t 40, t 41, r 42, r 43, r 44, r 45, r 46, r 47, r 48, r 49, r 50, r 51, r 52, .pointer (some ⟨(D + 1), 0, none⟩), x 1, x 2, x 3, x 4, x 5, x 6, x 7, x 8, x 9, x 10, x 11, x 12, x 13, r 67, r 68, r 69, r 70, r 71, r 72, r 73, r 74, r 75, r 76, r 77, r 78, r 79, r 80, r 81, r 82, r 83, r 84, r 85, undef], []⟩ : Act) v
                  refine wpOp_step rfl (fun K' hK' => ?_)
                  have q := (o4.1.keep gv).2 0 _ rfl
                  go_simp
                  exact hK' _ _ (hK _ _ (Below.refl _ _) (at_of rfl (rfl)))
                · show wpOp Try.prog _ _ 2 K (⟨#[t 0, .pointer (some ⟨w.heap.size, 0, none⟩), .pointer (some ⟨(w.heap.size + 1), 0, none⟩), .pointer (some ⟨D, 0, none⟩), .pointer (some ⟨(D + 1), 0, none⟩), .pointer (some ⟨(D + 1 + 1), 0, none⟩), t 6, t 7, .int .i64 (flW Y : Int), .int .i64 (k : Int), .slice (some ⟨lb, lo, none⟩) L.length lc, t 11, t 12, t 13, t 14, t 15, t 16, t 17, t 18, t 19, t 20, t 21, t 22, t 23, t 24, t 25, t 26, t 27, t 28, t 29, t 30, t 31, t 32, t 33, t 34, t 35, t 36, t 37, t 38, t 39, t 40, t 41, r 42, r 43, r 44, r 45, r 46, r 47, r 48, r 49, r 50, r 51, r 52, x 0, x 1, x 2, x 3, x 4, x 5, x 6, x 7, x 8, x 9, x 10, x 11, x 12, x 13, r 67, r 68, r 69, r 70, r 71, r 72, r 73, r 74, r 75, r 76, r 77, r 78, r 79, r 80, r 81, r 82, r 83, r 84, r 85, undef], []⟩ : Act) v
                  refine wpOp_step rfl (fun K' hK' => ?_)
                  go_simp
                  exact hK' _ _ (hK _ _ (Below.refl _ _) (at_of rfl (rfl)))
                · show wpOp Try.prog _ _ 3 K (⟨#[t 0, .pointer (some ⟨w.heap.size, 0, none⟩), .pointer (some ⟨(w.heap.size + 1), 0, none⟩), .pointer (some ⟨D, 0, none⟩), .pointer (some ⟨(D + 1), 0, none⟩), .pointer (some ⟨(D + 1 + 1), 0, none⟩), t 6, t 7, .int .i64 (flW Y : Int), .int .i64 (k : Int), .slice (some ⟨lb, lo, none⟩) L.length lc, t 11, t 12, t 13, t 14, t 15, t 16, t 17, t 18, t 19, t 20, t 21, t 22, t 23, t 24, t 25, t 26, t 27, t 28, t 29, t 30, t 31, t 32, t 33, t 34, t 35, t 36, t 37, t 38, t 39, t 40, t 41, r 42, r 43, r 44, r 45, r 46, r 47, r 48, r 49, r 50, r 51, r 52, x 0, x 1, x 2, x 3, x 4, x 5, x 6, x 7, x 8, x 9, x 10, x 11, x 12, x 13, r 67, r 68, r 69, r 70, r 71, r 72, r 73, r 74, r 75, r 76, r 77, r 78, r 79, r 80, r 81, r 82, r 83, r 84, r 85, undef], []⟩ : Act) v
                  refine wpOp_step rfl (fun K' hK' => ?_)
                  go_simp
                  exact hK' _ _ (hK _ _ (Below.refl _ _) (at_of rfl (rfl)))
                · obtain ⟨x, rfl⟩ := upd_of (show x 3 = .pointer (some ⟨w.heap.size, 2, none⟩) from hd 3 _ (by simp) rfl)
                  show wpOp Try.prog _ _ 4 K (⟨#[t 0, .pointer (some ⟨w.heap.size, 0, none⟩), .pointer (some ⟨(w.heap.size + 1), 0, none⟩), .pointer (some ⟨D, 0, none⟩), .pointer (some ⟨(D + 1), 0, none⟩), .pointer (some ⟨(D + 1 + 1), 0, none⟩), t 6, t 7, .int .i64 (flW Y : Int), .int .i64 (k : Int), .slice (some ⟨lb, lo, none⟩) L.length lc, t 11, t 12, t 13, t 14, t 15, t 16, t 17, t 18, t 19, t 20, t 21, t 22, t 23, t 24, t 25, t 26, t 27, t 28, t 29, t 30, t 31, t 32, t 33, t 34, t 35, t 36, t 37, t 38, t 39, t 40, t 41, r 42, r 43, r 44, r 45, r 46, r 47, r 48, r 49, r 50, r 51, r 52, x 0, x 1, x 2, .pointer (some ⟨w.heap.size, 2, none⟩), x 4, x 5, x 6, x 7, x 8, x 9, x 10, x 11, x 12, x 13, r 67, r 68, r 69, r 70, r 71, r 72, r 73, r 74, r 75, r 76, r 77, r 78, r 79, r 80, r 81, r 82, r 83, r 84, r 85, undef], []⟩ : Act) v
                  refine wpOp_step rfl (fun K' hK' => ?_)
                  have q := (hM.hx.keep gv).2 2 _ rfl
                  go_simp
                  exact hK' _ _ (hK _ _ (Below.refl _ _) (at_of rfl (rfl)))
                · show wpOp Try.prog _ _ 5 K (⟨#[t 0, .pointer (some ⟨w.heap.size, 0, none⟩), .pointer (some ⟨(w.heap.size + 1), 0, none⟩), .pointer (some ⟨D, 0, none⟩), .pointer (some ⟨(D + 1), 0, none⟩), .pointer (some ⟨(D + 1 + 1), 0, none⟩), t 6, t 7, .int .i64 (flW Y : Int), .int .i64 (k : Int), .slice (some ⟨lb, lo, none⟩) L.length lc, t 11, t 12, t 13, t 14, t 15, t 16, t 17, t 18, t 19, t 20, t 21, t 22, t 23, t 24, t 25, t 26, t 27, t 28, t 29, t 30, t 31, t 32, t 33, t 34, t 35, t 36, t 37, t 38, t 39, t 40, t 41, r 42, r 43, r 44, r 45, r 46, r 47, r 48, r 49, r 50, r 51, r 52, x 0, x 1, x 2, x 3, x 4, x 5, x 6, x 7, x 8, x 9, x 10, x 11, x 12, x 13, r 67, r 68, r 69, r 70, r 71, r 72, r 73, r 74, r 75, r 76, r 77, r 78, r 79, r 80, r 81, r 82, r 83, r 84, r 85, undef], []⟩ : Act) v
                  refine wpOp_step rfl (fun K' hK' => ?_)
                  go_simp
                  exact hK' _ _ (hK _ _ (Below.refl _ _) (at_of rfl (rfl)))
                · obtain ⟨x, rfl⟩ := upd_of (show x 5 = .int .i64 (k : Int) from hd 5 _ (by simp) rfl)
                  show wpOp Try.prog _ _ 6 K (⟨#[t 0, .pointer (some ⟨w.heap.size, 0, none⟩), .pointer (some ⟨(w.heap.size + 1), 0, none⟩), .pointer (some ⟨D, 0, none⟩), .pointer (some ⟨(D + 1), 0, none⟩), .pointer (some ⟨(D + 1 + 1), 0, none⟩), t 6, t 7, .int .i64 (flW Y : Int), .int .i64 (k : Int), .slice (some ⟨lb, lo, none⟩) L.length lc, t 11, t 12, t 13, t 14, t 15, t 16, t 17, t 18, t 19, t 20, t 21, t 22, t 23, t 24, t 25, t 26, t 27, t 28, t 29, t 30, t 31, t 32, t 33, t 34, t 35, t 36, t 37, t 38, t 39, t 40, t 41, r 42, r 43, r 44, r 45, r 46, r 47, r 48, r 49, r 50, r 51, r 52, x 0, x 1, x 2, x 3, x 4, .int .i64 (k : Int), x 6, x 7, x 8, x 9, x 10, x 11, x 12, x 13, r 67, r 68, r 69, r 70, r 71, r 72, r 73, r 74, r 75, r 76, r 77, r 78, r 79, r 80, r 81, r 82, r 83, r 84, r 85, undef], []⟩ : Act) v
                  refine wpOp_step rfl (fun K' hK' => ?_)
                  go_simp
                  exact hK' _ _ (hK _ _ (Below.refl _ _) (at_of rfl (rfl)))
                · obtain ⟨x, rfl⟩ := upd_of (show x 4 = .slice ya Y.length yc from hd 4 _ (by simp) rfl)
                  obtain ⟨x, rfl⟩ := upd_of (show x 6 = .int .i64 ((k : Int) + 1) from hd 6 _ (by simp) rfl)
                  show wpOp Try.prog _ _ 7 K (⟨#[t 0, .pointer (some ⟨w.heap.size, 0, none⟩), .pointer (some ⟨(w.heap.size + 1), 0, none⟩), .pointer (some ⟨D, 0, none⟩), .pointer (some ⟨(D + 1), 0, none⟩), .pointer (some ⟨(D + 1 + 1), 0, none⟩), t 6, t 7, .int .i64 (flW Y : Int), .int .i64 (k : Int), .slice (some ⟨lb, lo, none⟩) L.length lc, t 11, t 12, t 13, t 14, t 15, t 16, t 17, t 18, t 19, t 20, t 21, t 22, t 23, t 24, t 25, t 26, t 27, t 28, t 29, t 30, t 31, t 32, t 33, t 34, t 35, t 36, t 37, t 38, t 39, t 40, t 41, r 42, r 43, r 44, r 45, r 46, r 47, r 48, r 49, r 50, r 51, r 52, x 0, x 1, x 2, x 3, .slice ya Y.length yc, x 5, .int .i64 ((k : Int) + 1), x 7, x 8, x 9, x 10, x 11, x 12, x 13, r 67, r 68, r 69, r 70, r 71, r 72, r 73, r 74, r 75, r 76, r 77, r 78, r 79, r 80, r 81, r 82, r 83, r 84, r 85, undef], []⟩ : Act) v
                  refine wpOp_step rfl (fun K' hK' => ?_)
                  go_simp
                  refine (HB.out v (hM.gr.tr gv)).mono ?_
                  rintro e v' ⟨rfl, hg⟩
                  exact hK' _ _ (hK _ _ hg (at_of rfl (rfl)))
                · show wpOp Try.prog _ _ 8 K (⟨#[t 0, .pointer (some ⟨w.heap.size, 0, none⟩), .pointer (some ⟨(w.heap.size + 1), 0, none⟩), .pointer (some ⟨D, 0, none⟩), .pointer (some ⟨(D + 1), 0, none⟩), .pointer (some ⟨(D + 1 + 1), 0, none⟩), t 6, t 7, .int .i64 (flW Y : Int), .int .i64 (k : Int), .slice (some ⟨lb, lo, none⟩) L.length lc, t 11, t 12, t 13, t 14, t 15, t 16, t 17, t 18, t 19, t 20, t 21, t 22, t 23, t 24, t 25, t 26, t 27, t 28, t 29, t 30, t 31, t 32, t 33, t 34, t 35, t 36, t 37, t 38, t 39, t 40, t 41, r 42, r 43, r 44, r 45, r 46, r 47, r 48, r 49, r 50, r 51, r 52, x 0, x 1, x 2, x 3, x 4, x 5, x 6, x 7, x 8, x 9, x 10, x 11, x 12, x 13, r 67, r 68, r 69, r 70, r 71, r 72, r 73, r 74, r 75, r 76, r 77, r 78, r 79, r 80, r 81, r 82, r 83, r 84, r 85, undef], []⟩ : Act) v
                  refine wpOp_step rfl (fun K' hK' => ?_)
                  go_simp
                  exact hK' _ _ (hK _ _ (Below.refl _ _) (at_of rfl (rfl)))
                · obtain ⟨x, rfl⟩ := upd_of (show x 8 = .slice (some ⟨lb, lo, none⟩) L.length lc from hd 8 _ (by simp) rfl)
                  show wpOp Try.prog _ _ 9 K (⟨#[t 0, .pointer (some ⟨w.heap.size, 0, none⟩), .pointer (some ⟨(w.heap.size + 1), 0, none⟩), .pointer (some ⟨D, 0, none⟩), .pointer (some ⟨(D + 1), 0, none⟩), .pointer (some ⟨(D + 1 + 1), 0, none⟩), t 6, t 7, .int .i64 (flW Y : Int), .int .i64 (k : Int), .slice (some ⟨lb, lo, none⟩) L.length lc, t 11, t 12, t 13, t 14, t 15, t 16, t 17, t 18, t 19, t 20, t 21, t 22, t 23, t 24, t 25, t 26, t 27, t 28, t 29, t 30, t 31, t 32, t 33, t 34, t 35, t 36, t 37, t 38, t 39, t 40, t 41, r 42, r 43, r 44, r 45, r 46, r 47, r 48, r 49, r 50, r 51, r 52, x 0, x 1, x 2, x 3, x 4, x 5, x 6, x 7, .slice (some ⟨lb, lo, none⟩) L.length lc, x 9, x 10, x 11, x 12, x 13, r 67, r 68, r 69, r 70, r 71, r 72, r 73, r 74, r 75, r 76, r 77, r 78, r 79, r 80, r 81, r 82, r 83, r 84, r 85, undef], []⟩ : Act) v
                  refine wpOp_step rfl (fun K' hK' => ?_)
                  go_simp
                  exact hK' _ _ (hK _ _ (Below.refl _ _) (at_of rfl (rfl)))
                · obtain ⟨x, rfl⟩ := upd_of (show x 7 = .int .i64 (m : Int) from hd 7 _ (by simp) rfl)
                  obtain ⟨x, rfl⟩ := upd_of (show x 9 = .int .i64 (L.length : Int) from hd 9 _ (by simp) rfl)
                  show wpOp Try.prog _ _ 10 K (⟨#[t 0, .pointer (some ⟨w.heap.size, 0, none⟩), .pointer (some ⟨(w.heap.size + 1), 0, none⟩), .pointer (some ⟨D, 0, none⟩), .pointer (some ⟨(D + 1), 0, none⟩), .pointer (some ⟨(D + 1 + 1), 0, none⟩), t 6, t 7, .int .i64 (flW Y : Int), .int .i64 (k : Int), .slice (some ⟨lb, lo, none⟩) L.length lc, t 11, t 12, t 13, t 14, t 15, t 16, t 17, t 18, t 19, t 20, t 21, t 22, t 23, t 24, t 25, t 26, t 27, t 28, t 29, t 30, t 31, t 32, t 33, t 34, t 35, t 36, t 37, t 38, t 39, t 40, t 41, r 42, r 43, r 44, r 45, r 46, r 47, r 48, r 49, r 50, r 51, r 52, x 0, x 1, x 2, x 3, x 4, x 5, x 6, .int .i64 (m : Int), x 8, .int .i64 (L.length : Int), x 10, x 11, x 12, x 13, r 67, r 68, r 69, r 70, r 71, r 72, r 73, r 74, r 75, r 76, r 77, r 78, r 79, r 80, r 81, r 82, r 83, r 84, r 85, undef], []⟩ : Act) v
                  refine wpOp_step rfl (fun K' hK' => ?_)
                  go_simp
                  exact hK' _ _ (hK _ _ (Below.refl _ _) (at_of rfl (rfl)))
                · obtain ⟨x, rfl⟩ := upd_of (show x 2 = .slice (some ⟨lb, lo, none⟩) L.length lc from hd 2 _ (by simp) rfl)
                  obtain ⟨x, rfl⟩ := upd_of (show x 10 = .int .i64 ((m : Int) % (L.length : Int)) from hd 10 _ (by simp) rfl)
                  show wpOp Try.prog _ _ 11 K (⟨#[t 0, .pointer (some ⟨w.heap.size, 0, none⟩), .pointer (some ⟨(w.heap.size + 1), 0, none⟩), .pointer (some ⟨D, 0, none⟩), .pointer (some ⟨(D + 1), 0, none⟩), .pointer (some ⟨(D + 1 + 1), 0, none⟩), t 6, t 7, .int .i64 (flW Y : Int), .int .i64 (k : Int), .slice (some ⟨lb, lo, none⟩) L.length lc, t 11, t 12, t 13, t 14, t 15, t 16, t 17, t 18, t 19, t 20, t 21, t 22, t 23, t 24, t 25, t 26, t 27, t 28, t 29, t 30, t 31, t 32, t 33, t 34, t 35, t 36, t 37, t 38, t 39, t 40, t 41, r 42, r 43, r 44, r 45, r 46, r 47, r 48, r 49, r 50, r 51, r 52, x 0, x 1, .slice (some ⟨lb, lo, none⟩) L.length lc, x 3, x 4, x 5, x 6, x 7, x 8, x 9, .int .i64 ((m : Int) % (L.length : Int)), x 11, x 12, x 13, r 67, r 68, r 69, r 70, r 71, r 72, r 73, r 74, r 75, r 76, r 77, r 78, r 79, r 80, r 81, r 82, r 83, r 84, r 85, undef], []⟩ : Act) v
                  refine wpOp_step rfl (fun K' hK' => ?_)
                  go_simp
                  exact hK' _ _ (hK _ _ (Below.refl _ _) (at_of rfl (rfl)))
                · obtain ⟨x, rfl⟩ := upd_of (show x 11 = .pointer (some ⟨lb, lo + m % L.length, none⟩) from hd 11 _ (by simp) rfl)
                  show wpOp Try.prog _ _ 12 K (⟨#[t 0, .pointer (some ⟨w.heap.size, 0, none⟩), .pointer (some ⟨(w.heap.size + 1), 0, none⟩), .pointer (some ⟨D, 0, none⟩), .pointer (some ⟨(D + 1), 0, none⟩), .pointer (some ⟨(D + 1 + 1), 0, none⟩), t 6, t 7, .int .i64 (flW Y : Int), .int .i64 (k : Int), .slice (some ⟨lb, lo, none⟩) L.length lc, t 11, t 12, t 13, t 14, t 15, t 16, t 17, t 18, t 19, t 20, t 21, t 22, t 23, t 24, t 25, t 26, t 27, t 28, t 29, t 30, t 31, t 32, t 33, t 34, t 35, t 36, t 37, t 38, t 39, t 40, t 41, r 42, r 43, r 44, r 45, r 46, r 47, r 48, r 49, r 50, r 51, r 52, x 0, x 1, x 2, x 3, x 4, x 5, x 6, x 7, x 8, x 9, x 10, .pointer (some ⟨lb, lo + m % L.length, none⟩), x 12, x 13, r 67, r 68, r 69, r 70, r 71, r 72, r 73, r 74, r 75, r 76, r 77, r 78, r 79, r 80, r 81, r 82, r 83, r 84, r 85, undef], []⟩ : Act) v
                  refine wpOp_step rfl (fun K' hK' => ?_)
                  have q := gv.keep hcx
                  go_simp
                  exact hK' _ _ (hK _ _ (Below.refl _ _) (at_of rfl (rfl)))
                · obtain ⟨x, rfl⟩ := upd_of (show x 12 = .int .i64 xv from hd 12 _ (by simp) rfl)
                  show wpOp Try.prog _ _ 13 K (⟨#[t 0, .pointer (some ⟨w.heap.size, 0, none⟩), .pointer (some ⟨(w.heap.size + 1), 0, none⟩), .pointer (some ⟨D, 0, none⟩), .pointer (some ⟨(D + 1), 0, none⟩), .pointer (some ⟨(D + 1 + 1), 0, none⟩), t 6, t 7, .int .i64 (flW Y : Int), .int .i64 (k : Int), .slice (some ⟨lb, lo, none⟩) L.length lc, t 11, t 12, t 13, t 14, t 15, t 16, t 17, t 18, t 19, t 20, t 21, t 22, t 23, t 24, t 25, t 26, t 27, t 28, t 29, t 30, t 31, t 32, t 33, t 34, t 35, t 36, t 37, t 38, t 39, t 40, t 41, r 42, r 43, r 44, r 45, r 46, r 47, r 48, r 49, r 50, r 51, r 52, x 0, x 1, x 2, x 3, x 4, x 5, x 6, x 7, x 8, x 9, x 10, x 11, .int .i64 xv, x 13, r 67, r 68, r 69, r 70, r 71, r 72, r 73, r 74, r 75, r 76, r 77, r 78, r 79, r 80, r 81, r 82, r 83, r 84, r 85, undef], []⟩ : Act) v
                  refine wpOp_step rfl (fun K' hK' => ?_)
                  go_simp
                  have hg := Gr.al v (.cells (List.toArray [.int .i64 xv]) 3)
                  exact hK' _ _ (hK _ _ hg (at_of rfl (⟨v.heap.size, rfl, Own.new v [.int .i64 xv] 3 v.heap.size rfl⟩)))
              case fin13 =>
                rintro x v gv hd
                obtain ⟨x, rfl⟩ := upd_of (show x 1 = pv from hd 1 _ (by omega) rfl)
                obtain ⟨b6, e13, ow6⟩ := hd 13 _ (by omega) rfl
                obtain ⟨x, rfl⟩ := upd_of (show x 13 = .slice (some ⟨b6, 0, none⟩) 1 1 from e13)
                clear hd
                show wpList Try.prog _ _ (List.drop 14 _) (⟨#[t 0, .pointer (some ⟨w.heap.size, 0, none⟩), .pointer (some ⟨(w.heap.size + 1), 0, none⟩), .pointer (some ⟨D, 0, none⟩), .pointer (some ⟨(D + 1), 0, none⟩), .pointer (some ⟨(D + 1 + 1), 0, none⟩), t 6, t 7, .int .i64 (flW Y : Int), .int .i64 (k : Int), .slice (some ⟨lb, lo, none⟩) L.length lc, t 11, t 12, t 13, t 14, t 15, t 16, t 17, t 18, t 19, t 20, t 21, t 22, t 23, t 24, t 25, t 26, t 27, t 28, t 29, t 30, t 31, t 32, t 33, t 34, t 35, t 36, t 37, t 38, t 39, t 40, t 41, r 42, r 43, r 44, r 45, r 46, r 47, r 48, r 49, r 50, r 51, r 52, x 0, pv, x 2, x 3, x 4, x 5, x 6, x 7, x 8, x 9, x 10, x 11, x 12, .slice (some ⟨b6, 0, none⟩) 1 1, r 67, r 68, r 69, r 70, r 71, r 72, r 73, r 74, r 75, r 76, r 77, r 78, r 79, r 80, r 81, r 82, r 83, r 84, r 85, undef], []⟩ : Act) v
                simp only [List.drop_succ_cons, List.drop_zero]
                have gvs := gv.size
                have hgv : H1 ≤ v.heap.size := by omega
                have hoA := owns_keep wp gv
                have hoB := owns_keep wq' gv
                have HLo := Lib.hid wp.lt
                have HLq := Lib.hid wq'.lt
                clear hz hz2 hi0 hi1 htm hwk hcx
                go_upto_region 14 with (at_builtin; refine wpList_append_lies _ rfl _ _ 24 rfl H1 3 i0 _ 1 8 Try.underlying24 hi hz0 hz1 hz2 rfl (by decide) pv _ _ rfl hoA ⟨b6, 0, none⟩ 1 1 ([xv].map (fun n => Value.int .i64 n)) rfl rfl ow6.news (ints_one _) (by decide) (by unfold maxLen; omega) (by omega) (by omega) _ rfl ?_; intro gb cap w6 hown4 hgr4 hat4 hlt4; have hM6 := (hM.keep gv).grown HMP.out hgr4 (fun r e => by have := HLo.out r e; omega); have o46 := (o4.keep gv).grownRow hgr4 (fun r e => by have := HLo.out r e; omega); have o56 := (o5.keep gv).grownRow hgr4 (fun r e => by have := HLo.out r e; omega); have r06 := (r0.grow gv).grown hgr4 (fun r b off e ea => by have := HLo.out r e; have := HA0.out b off ea; omega); have r16 := (r1.grow gv).grown hgr4 (fun r b off e ea => by have := HLo.out r e; have := HA1.out b off ea; omega); have wo6 := hoB.kept hgr4 (by (cases hpo : qv.ownBlock with | none => exact .inl rfl | some r => exact .inr (fun e => HD.out r e.symm hpo))); have hge6 := Nat.le_trans hgv hgr4.size; (obtain ⟨t0, t1⟩ := o46.1.c2); have z0 := o46.2 0; have z1 := o46.2 1)
                have hlH : ∀ r, qv.ownBlock = some r → r < v.heap.size := fun r e => by have := HLq.out r e; omega
                have hdis' : ∀ r, (Value.slice (some ⟨gb, 0, none⟩) (k + 1) cap).ownBlock = some r → qv.ownBlock ≠ some r := by
                  intro r e e'
                  have e2 : gb = r := by simpa [Value.ownBlock] using e
                  subst e2
                  rcases hat4 with h | h
                  · exact HD.out _ h e'
                  · have := hlH _ e'
                    omega
                refine wp_abs (fun V => MkS w [.slice pa P.length pc, .slice fa F.length fc, .slice ya Y.length yc] D sa sg (storeWP P) (storeWF F) sc gc V ∧ H1 ≤ V.heap.size ∧ Own V (D + 1) [(Value.slice (some ⟨gb, 0, none⟩) (k + 1) cap), qv] ∧ Own V (D + 1 + 1) [.slice a0 (kindsW P 1 (npW P.length)).length c0, .slice a1 (kindsW P 2 (npW P.length)).length c1] ∧ IRow V a0 (kindsW P 1 (npW P.length)) ∧ IRow V a1 (kindsW P 2 (npW P.length)) ∧
                  V.ownsRow H1 3 1 (Value.slice (some ⟨gb, 0, none⟩) (k + 1) cap) (k + 1) (((makeWP P Y).take ((k + 1))).flatMap encI) ∧ V.ownsRow H1 3 1 qv (k / 2) (((makeWF F Y).take (k / 2)).flatMap encI) ∧ (∀ r, (Value.slice (some ⟨gb, 0, none⟩) (k + 1) cap).ownBlock = some r → qv.ownBlock ≠ some r)) ⟨hM6.set HMP.out (by omega) _ _, by simpa using hge6, o46.set (i := 0) (by simp), o56.other (by omega), r06.setAt (fun b off e => by have := HA0.out b off e; omega) _ _, r16.setAt (fun b off e => by have := HA1.out b off e; omega) _ _, ?_, owns_other wo6 (by omega), hdis'⟩ ?_
                · rw [List.take_add_one, HPK.out, Option.toList_some, flat_snoc]
                  exact owns_other hown4 (by omega)
                clear hM6 hge6 o46 o56 r06 r16 wo6 hown4 hgr4 hat4 hlt4 hlH hdis' t0 t1 z0 z1 hM hge o4 o5 r0 r1 wp wq' hoA hoB HLo HLq HD ow6 hgv
                generalize (Value.slice (some ⟨gb, 0, none⟩) (k + 1) cap) = pv2
                rintro V ⟨hM, hge, o4, o5, r0, r1, wp, wq', hdis⟩
                by_cases he : k % 2 = 0
                · have ht : ((k : Int)).tmod 2 = 0 := by rw [Int.tmod_eq_emod_of_nonneg (by omega)]; omega
                  have hE := Lib.hid (show (k + 1) / 2 = k / 2 by omega)
                  clear he
                  go_wp2
                  go_roundw
                  case rel => exact Lib.hid ⟨k + 1, pv2, qv, by omega, by go_num, hM, hge, o4, o5, r0, r1, wp, by rw [hE.out]; exact wq', hdis⟩
                  case measure => simp [intOf]; omega
                · have ht : ((k : Int)).tmod 2 = 1 := by rw [Int.tmod_eq_emod_of_nonneg (by omega)]; omega
                  have hj : k / 2 < flW Y := by omega
                  have hpk := makeWF_at (F := F) hj
                  rw [show 2 * (k / 2) + 1 + 6 = k + 6 by omega] at hpk
                  obtain ⟨mb0, mb1⟩ := byteL_bd HY.out (k + 6)
                  obtain ⟨m2, hm⟩ : ∃ m2 : Nat, byteL Y (k + 6) = (m2 : Int) := ⟨_, (Int.toNat_of_nonneg mb0).symm⟩
                  have hB : ∀ v, Gr w v → Calls Try.prog 103 #[.slice ya Y.length yc, .int .i64 ((k : Int) + 6)] v fun e v' => e = .returned (.int .i64 (m2 : Int)) ∧ Gr v v' := fun v g => by
                    have h := pubByte_anyT Y HY.out (k + 6) (by omega) ya yc v (ry.grow g)
                    rw [show (((k + 6 : Nat)) : Int) = (k : Int) + 6 from by omega, hm] at h
                    exact h.mono fun e v' ⟨h1, h2⟩ => ⟨h1, h2 ▸ Below.refl _ _⟩
                  rw [hm, Int.toNat_natCast] at hpk
                  have hlF := HLF.out
                  have exv : ((m2 % nfW F.length : Nat) : Int) = (m2 : Int) % ((storeWF F).length : Int) := by rw [hlF]; simp
                  rw [exv] at hpk
                  have HPK2 := Lib.hid hpk
                  have HB2 := Lib.hid hB
                  have HD := Lib.hid hdis
                  have hE := Lib.hid (show (k + 1) / 2 = k / 2 + 1 by omega)
                  have hz : (((storeWF F).length : Int) == 0) = false := by rw [beq_eq_false_iff_ne]; omega
                  have hz2 : ¬ ((storeWF F).length : Int) = 0 := by omega
                  have hLn2 : ¬ storeWF F = [] := by intro e; rw [e] at hlF; simp at hlF; omega
                  clear hm hpk hB hdis mb0 mb1 exv hlF he
                  have htm : ((m2 : Int)).tmod ((storeWF F).length : Int) = (m2 : Int) % ((storeWF F).length : Int) := Int.tmod_eq_emod_of_nonneg (by omega)
                  have hwk : IntKind.i64.wrap ((k : Int) + 6) = (k : Int) + 6 := IntWalk.i64_in _ (by omega)
                  go_upto_region 15 with fail
                  refine (show (∀ r2 : Nat → Value, Code.wp Try.prog _ _ ⟨#[t 0, .pointer (some ⟨w.heap.size, 0, none⟩), .pointer (some ⟨(w.heap.size + 1), 0, none⟩), .pointer (some ⟨D, 0, none⟩), .pointer (some ⟨(D + 1), 0, none⟩), .pointer (some ⟨(D + 1 + 1), 0, none⟩), t 6, t 7, .int .i64 (flW Y : Int), .int .i64 (k : Int), r2 10, t 11, t 12, t 13, t 14, t 15, t 16, t 17, t 18, t 19, t 20, t 21, t 22, t 23, t 24, t 25, t 26, t 27, t 28, t 29, t 30, t 31, t 32, t 33, t 34, t 35, t 36, t 37, t 38, t 39, t 40, t 41, r2 42, r2 43, r2 44, r2 45, r2 46, r2 47, r2 48, r2 49, r2 50, r2 51, r2 52, r2 53, r2 54, r2 55, r2 56, r2 57, r2 58, r2 59, r2 60, r2 61, r2 62, r2 63, r2 64, r2 65, r2 66, r2 67, r2 68, r2 69, r2 70, r2 71, r2 72, r2 73, r2 74, r2 75, r2 76, r2 77, r2 78, r2 79, r2 80, r2 81, r2 82, r2 83, r2 84, r2 85, undef], []⟩ _) → _ from fun h => h ((fun l : List Value => fun i => l.getD i undef) [undef, undef, undef, undef, undef, undef, undef, undef, undef, undef, _, undef, undef, undef, undef, undef, undef, undef, undef, undef, undef, undef, undef, undef, undef, undef, undef, undef, undef, undef, undef, undef, undef, undef, undef, undef, undef, undef, undef, undef, undef, undef, _, _, _, _, _, _, _, _, _, _, _, _, _, _, _, _, _, _, _, _, _, _, _, _, _, _, _, _, _, _, _, _, _, _, _, _, _, _, _, _, _, _, _, _])) ?_
                  intro r2
                  dsimp only
                  refine wp_region_facts 12 [(1, 0), (3, 2), (5, 4), (6, 3), (6, 5), (8, 7), (9, 8), (10, 6), (10, 9), (11, 10)] (fun x => ⟨#[t 0, .pointer (some ⟨w.heap.size, 0, none⟩), .pointer (some ⟨(w.heap.size + 1), 0, none⟩), .pointer (some ⟨D, 0, none⟩), .pointer (some ⟨(D + 1), 0, none⟩), .pointer (some ⟨(D + 1 + 1), 0, none⟩), t 6, t 7, .int .i64 (flW Y : Int), .int .i64 (k : Int), r2 10, t 11, t 12, t 13, t 14, t 15, t 16, t 17, t 18, t 19, t 20, t 21, t 22, t 23, t 24, t 25, t 26, t 27, t 28, t 29, t 30, t 31, t 32, t 33, t 34, t 35, t 36, t 37, t 38, t 39, t 40, t 41, r2 42, r2 43, r2 44, r2 45, r2 46, r2 47, r2 48, r2 49, r2 50, r2 51, r2 52, r2 53, r2 54, r2 55, r2 56, r2 57, r2 58, r2 59, r2 60, r2 61, r2 62, r2 63, r2 64, r2 65, r2 66, r2 67, r2 68, r2 69, r2 70, r2 71, x 0, x 1, x 2, x 3, x 4, x 5, x 6, x 7, x 8, x 9, x 10, x 11, r2 84, r2 85, undef], []⟩) (fun i => [r2 72, r2 73, r2 74, r2 75, r2 76, r2 77, r2 78, r2 79, r2 80, r2 81, r2 82, r2 83].getD i undef) [fun _ x => x = .pointer (some ⟨(D + 1), 1, none⟩), fun _ x => x = qv, fun _ x => x = .pointer (some ⟨w.heap.size, 2, none⟩), fun _ x => x = .slice ya Y.length yc, fun _ x => x = .int .i64 (k : Int), fun _ x => x = .int .i64 ((k : Int) + 6), fun _ x => x = .int .i64 (m2 : Int), fun _ x => x = .pointer (some ⟨D, 1, none⟩), fun _ x => x = .slice sg (storeWF F).length gc, fun _ x => x = .int .i64 ((storeWF F).length : Int), fun _ x => x = .int .i64 ((m2 : Int) % ((storeWF F).length : Int)), fun v x => ∃ b, x = .slice (some ⟨b, 0, none⟩) 1 1 ∧ Own v b [.int .i64 ((m2 : Int) % ((storeWF F).length : Int))]] (by rfl) (by kernel_rfl) (by kernel_rfl) (by kernel_rfl) (stays_cons (Stays.eq _) (stays_cons (Stays.eq _) (stays_cons (Stays.eq _) (stays_cons (Stays.eq _) (stays_cons (Stays.eq _) (stays_cons (Stays.eq _) (stays_cons (Stays.eq _) (stays_cons (Stays.eq _) (stays_cons (Stays.eq _) (stays_cons (Stays.eq _) (stays_cons (Stays.eq _) (stays_cons ((show Stays (fun v x => ∃ b, x = .slice (some ⟨b, 0, none⟩) 1 1 ∧ Own v b [.int .i64 ((m2 : Int) % ((storeWF F).length : Int))]) from fun v v' x g ⟨b, e, o⟩ => ⟨b, e, o.keep g⟩)) stays_nil)))))))))))) ?step15 ?fin15
                  case step15 =>
                    rintro i hi x v gv hd K hK
                    have hi8 : i = 0 ∨ i = 1 ∨ i = 2 ∨ i = 3 ∨ i = 4 ∨ i = 5 ∨ i = 6 ∨ i = 7 ∨ i = 8 ∨ i = 9 ∨ i = 10 ∨ i = 11 := by omega
                    rcases hi8 with rfl | rfl | rfl | rfl | rfl | rfl | rfl | rfl | rfl | rfl | rfl | rfl
                    · show wpOp Try.prog _ _ 0 K (⟨#[t 0, .pointer (some ⟨w.heap.size, 0, none⟩), .pointer (some ⟨(w.heap.size + 1), 0, none⟩), .pointer (some ⟨D, 0, none⟩), .pointer (some ⟨(D + 1), 0, none⟩), .pointer (some ⟨(D + 1 + 1), 0, none⟩), t 6, t 7, .int .i64 (flW Y : Int), .int .i64 (k : Int), r2 10, t 11, t 12, t 13, t 14, t 15, t 16, t 17, t 18, t 19, t 20, t 21, t 22, t 23, t 24, t 25, t 26, t 27, t 28, t 29, t 30, t 31, t 32, t 33, t 34, t 35, t 36, t 37, t 38, t 39, t 40, t 41, r2 42, r2 43, r2 44, r2 45, r2 46, r2 47, r2 48, r2 49, r2 50, r2 51, r2 52, r2 53, r2 54, r2 55, r2 56, r2 57, r2 58, r2 59, r2 60, r2 61, r2 62, r2 63, r2 64, r2 65, r2 66, r2 67, r2 68, r2 69, r2 70, r2 71, x 0, x 1, x 2, x 3, x 4, x 5, x 6, x 7, x 8, x 9, x 10, x 11, r2 84, r2 85, undef], []⟩ : Act) v
                      refine wpOp_step rfl (fun K' hK' => ?_)
                      go_simp
                      exact hK' _ _ (hK _ _ (Below.refl _ _) (at_of rfl (rfl)))
                    · obtain ⟨x, rfl⟩ := upd_of (show x 0 = .pointer (some ⟨(D + 1), 1, none⟩) from hd 0 _ (by simp) rfl)
                      show wpOp Try.prog _ _ 1 K (⟨#[t 0, .pointer (some ⟨w.heap.size, 0, none⟩), .pointer (some ⟨(w.heap.size + 1), 0, none⟩), .pointer (some ⟨D, 0, none⟩), .pointer (some ⟨(D + 1), 0, none⟩), .pointer (some ⟨(D + 1 + 1), 0, none⟩), t 6, t 7, .int .i64 (flW Y : Int), .int .i64 (k : Int), r2 10, t 11, t 12, t 13, t 14, t 15, t 16, t 17, t 18, t 19, t 20, t 21, t 22, t 23, t 24, t 25, t 26, t 27, t 28, t 29, t 30, t 31, t 32, t 33, t 34, t 35, t 36, t 37, t 38, t 39, t 40, t 41, r2 42, r2 43, r2 44, r2 45, r2 46, r2 47, r2 48, r2 49, r2 50, r2 51, r2 52, r2 53, r2 54, r2 55, r2 56, r2 57, r2 58, r2 59, r2 60, r2 61, r2 62, r2 63, r2 64, r2 65, r2 66, r2 67, r2 68, r2 69, r2 70, r2 71, .pointer (some ⟨(D + 1), 1, none⟩), x 1, x 2, x 3, x 4, x 5, x 6, x 7, x 8, x 9, x 10, x 11, r2 84, r2 85, undef], []⟩ : Act) v
                      refine wpOp_step rfl (fun K' hK' => ?_)
                      have q := (o4.1.keep gv).2 1 _ rfl
                      go_simp
                      exact hK' _ _ (hK _ _ (Below.refl _ _) (at_of rfl (rfl)))
                    · show wpOp Try.prog _ _ 2 K (⟨#[t 0, .pointer (some ⟨w.heap.size, 0, none⟩), .pointer (some ⟨(w.heap.size + 1), 0, none⟩), .pointer (some ⟨D, 0, none⟩), .pointer (some ⟨(D + 1), 0, none⟩), .pointer (some ⟨(D + 1 + 1), 0, none⟩), t 6, t 7, .int .i64 (flW Y : Int), .int .i64 (k : Int), r2 10, t 11, t 12, t 13, t 14, t 15, t 16, t 17, t 18, t 19, t 20, t 21, t 22, t 23, t 24, t 25, t 26, t 27, t 28, t 29, t 30, t 31, t 32, t 33, t 34, t 35, t 36, t 37, t 38, t 39, t 40, t 41, r2 42, r2 43, r2 44, r2 45, r2 46, r2 47, r2 48, r2 49, r2 50, r2 51, r2 52, r2 53, r2 54, r2 55, r2 56, r2 57, r2 58, r2 59, r2 60, r2 61, r2 62, r2 63, r2 64, r2 65, r2 66, r2 67, r2 68, r2 69, r2 70, r2 71, x 0, x 1, x 2, x 3, x 4, x 5, x 6, x 7, x 8, x 9, x 10, x 11, r2 84, r2 85, undef], []⟩ : Act) v
                      refine wpOp_step rfl (fun K' hK' => ?_)
                      go_simp
                      exact hK' _ _ (hK _ _ (Below.refl _ _) (at_of rfl (rfl)))
                    · obtain ⟨x, rfl⟩ := upd_of (show x 2 = .pointer (some ⟨w.heap.size, 2, none⟩) from hd 2 _ (by simp) rfl)
                      show wpOp Try.prog _ _ 3 K (⟨#[t 0, .pointer (some ⟨w.heap.size, 0, none⟩), .pointer (some ⟨(w.heap.size + 1), 0, none⟩), .pointer (some ⟨D, 0, none⟩), .pointer (some ⟨(D + 1), 0, none⟩), .pointer (some ⟨(D + 1 + 1), 0, none⟩), t 6, t 7, .int .i64 (flW Y : Int), .int .i64 (k : Int), r2 10, t 11, t 12, t 13, t 14, t 15, t 16, t 17, t 18, t 19, t 20, t 21, t 22, t 23, t 24, t 25, t 26, t 27, t 28, t 29, t 30, t 31, t 32, t 33, t 34, t 35, t 36, t 37, t 38, t 39, t 40, t 41, r2 42, r2 43, r2 44, r2 45, r2 46, r2 47, r2 48, r2 49, r2 50, r2 51, r2 52, r2 53, r2 54, r2 55, r2 56, r2 57, r2 58, r2 59, r2 60, r2 61, r2 62, r2 63, r2 64, r2 65, r2 66, r2 67, r2 68, r2 69, r2 70, r2 71, x 0, x 1, .pointer (some ⟨w.heap.size, 2, none⟩), x 3, x 4, x 5, x 6, x 7, x 8, x 9, x 10, x 11, r2 84, r2 85, undef], []⟩ : Act) v
                      refine wpOp_step rfl (fun K' hK' => ?_)
                      have q := (hM.hx.keep gv).2 2 _ rfl
                      go_simp
                      exact hK' _ _ (hK _ _ (Below.refl _ _) (at_of rfl (rfl)))
                    · show wpOp Try.prog _ _ 4 K (⟨#[t 0, .pointer (some ⟨w.heap.size, 0, none⟩), .pointer (some ⟨(w.heap.size + 1), 0, none⟩), .pointer (some ⟨D, 0, none⟩), .pointer (some ⟨(D + 1), 0, none⟩), .pointer (some ⟨(D + 1 + 1), 0, none⟩), t 6, t 7, .int .i64 (flW Y : Int), .int .i64 (k : Int), r2 10, t 11, t 12, t 13, t 14, t 15, t 16, t 17, t 18, t 19, t 20, t 21, t 22, t 23, t 24, t 25, t 26, t 27, t 28, t 29, t 30, t 31, t 32, t 33, t 34, t 35, t 36, t 37, t 38, t 39, t 40, t 41, r2 42, r2 43, r2 44, r2 45, r2 46, r2 47, r2 48, r2 49, r2 50, r2 51, r2 52, r2 53, r2 54, r2 55, r2 56, r2 57, r2 58, r2 59, r2 60, r2 61, r2 62, r2 63, r2 64, r2 65, r2 66, r2 67, r2 68, r2 69, r2 70, r2 71, x 0, x 1, x 2, x 3, x 4, x 5, x 6, x 7, x 8, x 9, x 10, x 11, r2 84, r2 85, undef], []⟩ : Act) v
                      refine wpOp_step rfl (fun K' hK' => ?_)
                      go_simp
                      exact hK' _ _ (hK _ _ (Below.refl _ _) (at_of rfl (rfl)))
                    · obtain ⟨x, rfl⟩ := upd_of (show x 4 = .int .i64 (k : Int) from hd 4 _ (by simp) rfl)
                      show wpOp Try.prog _ _ 5 K (⟨#[t 0, .pointer (some ⟨w.heap.size, 0, none⟩), .pointer (some ⟨(w.heap.size + 1), 0, none⟩), .pointer (some ⟨D, 0, none⟩), .pointer (some ⟨(D + 1), 0, none⟩), .pointer (some ⟨(D + 1 + 1), 0, none⟩), t 6, t 7, .int .i64 (flW Y : Int), .int .i64 (k : Int), r2 10, t 11, t 12, t 13, t 14, t 15, t 16, t 17, t 18, t 19, t 20, t 21, t 22, t 23, t 24, t 25, t 26, t 27, t 28, t 29, t 30, t 31, t 32, t 33, t 34, t 35, t 36, t 37, t 38, t 39, t 40, t 41, r2 42, r2 43, r2 44, r2 45, r2 46, r2 47, r2 48, r2 49, r2 50, r2 51, r2 52, r2 53, r2 54, r2 55, r2 56, r2 57, r2 58, r2 59, r2 60, r2 61, r2 62, r2 63, r2 64, r2 65, r2 66, r2 67, r2 68, r2 69, r2 70, r2 71, x 0, x 1, x 2, x 3, .int .i64 (k : Int), x 5, x 6, x 7, x 8, x 9, x 10, x 11, r2 84, r2 85, undef], []⟩ : Act) v
                      refine wpOp_step rfl (fun K' hK' => ?_)
                      go_simp
                      exact hK' _ _ (hK _ _ (Below.refl _ _) (at_of rfl (rfl)))
                    · obtain ⟨x, rfl⟩ := upd_of (show x 3 = .slice ya Y.length yc from hd 3 _ (by simp) rfl)
                      obtain ⟨x, rfl⟩ := upd_of (show x 5 = .int .i64 ((k : Int) + 6) from hd 5 _ (by simp) rfl)
                      show wpOp Try.prog _ _ 6 K (⟨#[t 0, .pointer (some ⟨w.heap.size, 0, none⟩), .pointer (some ⟨(w.heap.size + 1), 0, none⟩), .pointer (some ⟨D, 0, none⟩), .pointer (some ⟨(D + 1), 0, none⟩), .pointer (some ⟨(D + 1 + 1), 0, none⟩), t 6, t 7, .int .i64 (flW Y : Int), .int .i64 (k : Int), r2 10, t 11, t 12, t 13, t 14, t 15, t 16, t 17, t 18, t 19, t 20, t 21, t 22, t 23, t 24, t 25, t 26, t 27, t 28, t 29, t 30, t 31, t 32, t 33, t 34, t 35, t 36, t 37, t 38, t 39, t 40, t 41, r2 42, r2 43, r2 44, r2 45, r2 46, r2 47, r2 48, r2 49, r2 50, r2 51, r2 52, r2 53, r2 54, r2 55, r2 56, r2 57, r2 58, r2 59, r2 60, r2 61, r2 62, r2 63, r2 64, r2 65, r2 66, r2 67, r2 68, r2 69, r2 70, r2 71, x 0, x 1, x 2, .slice ya Y.length yc, x 4, .int .i64 ((k : Int) + 6), x 6, x 7, x 8, x 9, x 10, x 11, r2 84, r2 85, undef], []⟩ : Act) v
                      refine wpOp_step rfl (fun K' hK' => ?_)
                      go_simp
                      refine (HB2.out v (hM.gr.tr gv)).mono ?_
                      rintro e v' ⟨rfl, hg⟩
                      exact hK' _ _ (hK _ _ hg (at_of rfl (rfl)))
                    · show wpOp Try.prog _ _ 7 K (⟨#[t 0, .pointer (some ⟨w.heap.size, 0, none⟩), .pointer (some ⟨(w.heap.size + 1), 0, none⟩), .pointer (some ⟨D, 0, none⟩), .pointer (some ⟨(D + 1), 0, none⟩), .pointer (some ⟨(D + 1 + 1), 0, none⟩), t 6, t 7, .int .i64 (flW Y : Int), .int .i64 (k : Int), r2 10, t 11, t 12, t 13, t 14, t 15, t 16, t 17, t 18, t 19, t 20, t 21, t 22, t 23, t 24, t 25, t 26, t 27, t 28, t 29, t 30, t 31, t 32, t 33, t 34, t 35, t 36, t 37, t 38, t 39, t 40, t 41, r2 42, r2 43, r2 44, r2 45, r2 46, r2 47, r2 48, r2 49, r2 50, r2 51, r2 52, r2 53, r2 54, r2 55, r2 56, r2 57, r2 58, r2 59, r2 60, r2 61, r2 62, r2 63, r2 64, r2 65, r2 66, r2 67, r2 68, r2 69, r2 70, r2 71, x 0, x 1, x 2, x 3, x 4, x 5, x 6, x 7, x 8, x 9, x 10, x 11, r2 84, r2 85, undef], []⟩ : Act) v
                      refine wpOp_step rfl (fun K' hK' => ?_)
                      go_simp
                      exact hK' _ _ (hK _ _ (Below.refl _ _) (at_of rfl (rfl)))
                    · obtain ⟨x, rfl⟩ := upd_of (show x 7 = .pointer (some ⟨D, 1, none⟩) from hd 7 _ (by simp) rfl)
                      show wpOp Try.prog _ _ 8 K (⟨#[t 0, .pointer (some ⟨w.heap.size, 0, none⟩), .pointer (some ⟨(w.heap.size + 1), 0, none⟩), .pointer (some ⟨D, 0, none⟩), .pointer (some ⟨(D + 1), 0, none⟩), .pointer (some ⟨(D + 1 + 1), 0, none⟩), t 6, t 7, .int .i64 (flW Y : Int), .int .i64 (k : Int), r2 10, t 11, t 12, t 13, t 14, t 15, t 16, t 17, t 18, t 19, t 20, t 21, t 22, t 23, t 24, t 25, t 26, t 27, t 28, t 29, t 30, t 31, t 32, t 33, t 34, t 35, t 36, t 37, t 38, t 39, t 40, t 41, r2 42, r2 43, r2 44, r2 45, r2 46, r2 47, r2 48, r2 49, r2 50, r2 51, r2 52, r2 53, r2 54, r2 55, r2 56, r2 57, r2 58, r2 59, r2 60, r2 61, r2 62, r2 63, r2 64, r2 65, r2 66, r2 67, r2 68, r2 69, r2 70, r2 71, x 0, x 1, x 2, x 3, x 4, x 5, x 6, .pointer (some ⟨D, 1, none⟩), x 8, x 9, x 10, x 11, r2 84, r2 85, undef], []⟩ : Act) v
                      refine wpOp_step rfl (fun K' hK' => ?_)
                      have q := (hM.b3.keep gv).2 1 _ rfl
                      go_simp
                      exact hK' _ _ (hK _ _ (Below.refl _ _) (at_of rfl (rfl)))
                    · obtain ⟨x, rfl⟩ := upd_of (show x 8 = .slice sg (storeWF F).length gc from hd 8 _ (by simp) rfl)
                      show wpOp Try.prog _ _ 9 K (⟨#[t 0, .pointer (some ⟨w.heap.size, 0, none⟩), .pointer (some ⟨(w.heap.size + 1), 0, none⟩), .pointer (some ⟨D, 0, none⟩), .pointer (some ⟨(D + 1), 0, none⟩), .pointer (some ⟨(D + 1 + 1), 0, none⟩), t 6, t 7, .int .i64 (flW Y : Int), .int .i64 (k : Int), r2 10, t 11, t 12, t 13, t 14, t 15, t 16, t 17, t 18, t 19, t 20, t 21, t 22, t 23, t 24, t 25, t 26, t 27, t 28, t 29, t 30, t 31, t 32, t 33, t 34, t 35, t 36, t 37, t 38, t 39, t 40, t 41, r2 42, r2 43, r2 44, r2 45, r2 46, r2 47, r2 48, r2 49, r2 50, r2 51, r2 52, r2 53, r2 54, r2 55, r2 56, r2 57, r2 58, r2 59, r2 60, r2 61, r2 62, r2 63, r2 64, r2 65, r2 66, r2 67, r2 68, r2 69, r2 70, r2 71, x 0, x 1, x 2, x 3, x 4, x 5, x 6, x 7, .slice sg (storeWF F).length gc, x 9, x 10, x 11, r2 84, r2 85, undef], []⟩ : Act) v
                      refine wpOp_step rfl (fun K' hK' => ?_)
                      go_simp
                      exact hK' _ _ (hK _ _ (Below.refl _ _) (at_of rfl (rfl)))
                    · obtain ⟨x, rfl⟩ := upd_of (show x 6 = .int .i64 (m2 : Int) from hd 6 _ (by simp) rfl)
                      obtain ⟨x, rfl⟩ := upd_of (show x 9 = .int .i64 ((storeWF F).length : Int) from hd 9 _ (by simp) rfl)
                      show wpOp Try.prog _ _ 10 K (⟨#[t 0, .pointer (some ⟨w.heap.size, 0, none⟩), .pointer (some ⟨(w.heap.size + 1), 0, none⟩), .pointer (some ⟨D, 0, none⟩), .pointer (some ⟨(D + 1), 0, none⟩), .pointer (some ⟨(D + 1 + 1), 0, none⟩), t 6, t 7, .int .i64 (flW Y : Int), .int .i64 (k : Int), r2 10, t 11, t 12, t 13, t 14, t 15, t 16, t 17, t 18, t 19, t 20, t 21, t 22, t 23, t 24, t 25, t 26, t 27, t 28, t 29, t 30, t 31, t 32, t 33, t 34, t 35, t 36, t 37, t 38, t 39, t 40, t 41, r2 42, r2 43, r2 44, r2 45, r2 46, r2 47, r2 48, r2 49, r2 50, r2 51, r2 52, r2 53, r2 54, r2 55, r2 56, r2 57, r2 58, r2 59, r2 60, r2 61, r2 62, r2 63, r2 64, r2 65, r2 66, r2 67, r2 68, r2 69, r2 70, r2 71, x 0, x 1, x 2, x 3, x 4, x 5, .int .i64 (m2 : Int), x 7, x 8, .int .i64 ((storeWF F).length : Int), x 10, x 11, r2 84, r2 85, undef], []⟩ : Act) v
                      refine wpOp_step rfl (fun K' hK' => ?_)
                      go_simp
                      exact hK' _ _ (hK _ _ (Below.refl _ _) (at_of rfl (rfl)))
                    · obtain ⟨x, rfl⟩ := upd_of (show x 10 = .int .i64 ((m2 : Int) % ((storeWF F).length : Int)) from hd 10 _ (by simp) rfl)
                      show wpOp Try.prog _ _ 11 K (⟨#[t 0, .pointer (some ⟨w.heap.size, 0, none⟩), .pointer (some ⟨(w.heap.size + 1), 0, none⟩), .pointer (some ⟨D, 0, none⟩), .pointer (some ⟨(D + 1), 0, none⟩), .pointer (some ⟨(D + 1 + 1), 0, none⟩), t 6, t 7, .int .i64 (flW Y : Int), .int .i64 (k : Int), r2 10, t 11, t 12, t 13, t 14, t 15, t 16, t 17, t 18, t 19, t 20, t 21, t 22, t 23, t 24, t 25, t 26, t 27, t 28, t 29, t 30, t 31, t 32, t 33, t 34, t 35, t 36, t 37, t 38, t 39, t 40, t 41, r2 42, r2 43, r2 44, r2 45, r2 46, r2 47, r2 48, r2 49, r2 50, r2 51, r2 52, r2 53, r2 54, r2 55, r2 56, r2 57, r2 58, r2 59, r2 60, r2 61, r2 62, r2 63, r2 64, r2 65, r2 66, r2 67, r2 68, r2 69, r2 70, r2 71, x 0, x 1, x 2, x 3, x 4, x 5, x 6, x 7, x 8, x 9, .int .i64 ((m2 : Int) % ((storeWF F).length : Int)), x 11, r2 84, r2 85, undef], []⟩ : Act) v
                      refine wpOp_step rfl (fun K' hK' => ?_)
                      go_simp
                      have hg := Gr.al v (.cells (List.toArray [.int .i64 ((m2 : Int) % ((storeWF F).length : Int))]) 3)
                      exact hK' _ _ (hK _ _ hg (at_of rfl (⟨v.heap.size, rfl, Own.new v [.int .i64 ((m2 : Int) % ((storeWF F).length : Int))] 3 v.heap.size rfl⟩)))
                  case fin15 =>
                    rintro x v gv hd
                    obtain ⟨x, rfl⟩ := upd_of (show x 1 = qv from hd 1 _ (by omega) rfl)
                    obtain ⟨b7, e11, ow7⟩ := hd 11 _ (by omega) rfl
                    obtain ⟨x, rfl⟩ := upd_of (show x 11 = .slice (some ⟨b7, 0, none⟩) 1 1 from e11)
                    clear hd
                    show wpList Try.prog _ _ (List.drop 12 _) (⟨#[t 0, .pointer (some ⟨w.heap.size, 0, none⟩), .pointer (some ⟨(w.heap.size + 1), 0, none⟩), .pointer (some ⟨D, 0, none⟩), .pointer (some ⟨(D + 1), 0, none⟩), .pointer (some ⟨(D + 1 + 1), 0, none⟩), t 6, t 7, .int .i64 (flW Y : Int), .int .i64 (k : Int), r2 10, t 11, t 12, t 13, t 14, t 15, t 16, t 17, t 18, t 19, t 20, t 21, t 22, t 23, t 24, t 25, t 26, t 27, t 28, t 29, t 30, t 31, t 32, t 33, t 34, t 35, t 36, t 37, t 38, t 39, t 40, t 41, r2 42, r2 43, r2 44, r2 45, r2 46, r2 47, r2 48, r2 49, r2 50, r2 51, r2 52, r2 53, r2 54, r2 55, r2 56, r2 57, r2 58, r2 59, r2 60, r2 61, r2 62, r2 63, r2 64, r2 65, r2 66, r2 67, r2 68, r2 69, r2 70, r2 71, x 0, qv, x 2, x 3, x 4, x 5, x 6, x 7, x 8, x 9, x 10, .slice (some ⟨b7, 0, none⟩) 1 1, r2 84, r2 85, undef], []⟩ : Act) v
                    simp only [List.drop_succ_cons, List.drop_zero]
                    have gvs := gv.size
                    have hgv : H1 ≤ v.heap.size := by omega
                    have hoA := owns_keep wq' gv
                    have hoB := owns_keep wp gv
                    have HLo := Lib.hid wq'.lt
                    have HLq := Lib.hid wp.lt
                    clear hz hz2 htm hwk
                    go_wp2_with (at_builtin; refine wpList_append_lies _ rfl _ _ 24 rfl H1 3 i0 _ 1 8 Try.underlying24 hi hz0 hz1 hz2 rfl (by decide) qv _ _ rfl hoA ⟨b7, 0, none⟩ 1 1 ([(m2 : Int) % ((storeWF F).length : Int)].map (fun n => Value.int .i64 n)) rfl rfl ow7.news (ints_one _) (by decide) (by unfold maxLen; omega) (by omega) (by omega) _ rfl ?_; intro gb cap w6 hown4 hgr4 hat4 hlt4; have hM6 := (hM.keep gv).grown HMP.out hgr4 (fun r e => by have := HLo.out r e; omega); have o46 := (o4.keep gv).grownRow hgr4 (fun r e => by have := HLo.out r e; omega); have o56 := (o5.keep gv).grownRow hgr4 (fun r e => by have := HLo.out r e; omega); have r06 := (r0.grow gv).grown hgr4 (fun r b off e ea => by have := HLo.out r e; have := HA0.out b off ea; omega); have r16 := (r1.grow gv).grown hgr4 (fun r b off e ea => by have := HLo.out r e; have := HA1.out b off ea; omega); have wo6 := hoB.kept hgr4 (by (cases hpo : pv2.ownBlock with | none => exact .inl rfl | some r => exact .inr (fun e => HD.out r hpo e.symm))); have hge6 := Nat.le_trans hgv hgr4.size; (obtain ⟨t0, t1⟩ := o46.1.c2); have z0 := o46.2 0; have z1 := o46.2 1)
                    go_roundw
                    case rel =>
                      refine Lib.hid ⟨k + 1, pv2, _, by omega, by go_num, hM6.set HMP.out (by omega) _ _, by simpa using hge6, o46.set (i := 1) (by simp), o56.other (by omega), r06.setAt (fun b off e => by have := HA0.out b off e; omega) _ _, r16.setAt (fun b off e => by have := HA1.out b off e; omega) _ _, owns_other wo6 (by omega), ?_, ?_⟩
                      · rw [hE.out, List.take_add_one, HPK2.out, Option.toList_some, flat_snoc]
                        exact owns_other hown4 (by omega)
                      · intro r e e'
                        have e2 : gb = r := by simpa [Value.ownBlock] using e'
                        subst e2
                        rcases hat4 with h | h
                        · exact HD.out _ e h
                        · have := HLq.out _ e
                          omega
                    case measure => simp [intOf]; omega
          · obtain rfl : k = 2 * flW Y + 1 := by omega
            have dk : decide (((2 * flW Y + 1 : Nat) : Int) < 2 * (flW Y : Int) + 1) = false := by simp
            have e1 := makeWP_len P Y
            have e2 := makeWF_len F Y
            rw [List.take_of_length_le (by omega), ← e1] at wp
            rw [List.take_of_length_le (by omega), show (2 * flW Y + 1) / 2 = flW Y by omega, ← e2] at wq'
            obtain ⟨a8, c8, hv8, r8, n8⟩ := owns_row_new (enc := encI) (l := makeWP P Y) (fun _ => rfl) (by omega) wp
            obtain ⟨a9, c9, hv9, r9, n9⟩ := owns_row_new (enc := encI) (l := makeWF F Y) (fun _ => rfl) (by omega) wq'
            subst hv8
            subst hv9
            have R8 := Lib.hid r8
            have R9 := Lib.hid r9
            have N8 := Lib.hid (n8.le (show w.heap.size + 1 + 1 ≤ H1 by omega))
            have N9 := Lib.hid (n9.le (show w.heap.size + 1 + 1 ≤ H1 by omega))
            have E1 := Lib.hid e1
            clear r8 r9 n8 n9 wp wq' e1 e2 hdis
            obtain ⟨s0, s1⟩ := o4.1.c2
            obtain ⟨u0, u1⟩ := hM.or.1.c2
            have z0 := hM.or.2 0
            have z1 := hM.or.2 1
            have hgr := hM.gr
            have hor := hM.or
            go_wp2
            refine bodyPost_ret (v := .agg #[.slice a8 (makeWP P Y).length c8, .slice a9 (makeWF F Y).length c9]) (by simp [results, Try.results61, go_sem, u0, u1]) rfl ⟨a8, c8, a9, c9, rfl, (hgr.setCell (by simp) _).setCell (by simp) _, ?_, ?_, N8.out.le (by omega), N9.out.le (by omega)⟩
            · exact (R8.out.other N8.out (by omega)).other N8.out (by omega)
            · exact (R9.out.other N9.out (by omega)).other N9.out (by omega)

end Go.Proofs.Ytcdilmagcdbogaa

namespace Go.Proofs.Ytcdilmagcdbogaa
set_option linter.unusedVariables false
set_option linter.unusedSimpArgs false
open Go.RowKit

set_option maxRecDepth 100000 in
set_option maxHeartbeats 4000000 in
theorem armCrush_any (w : World) : Calls Try.prog 69 #[] w fun e w' => e = .returned (.bool true) ∧ Gr w w' := by
  go_enter Try.func69, Try.ntmps69
  go_wp2_with fail
  refine (armSpan_anyT _ _ _).mono ?_
  rintro e w1 ⟨rfl, h1⟩
  go_wp2_with fail
  refine (armSpan_anyT _ _ _).mono ?_
  rintro e w2 ⟨rfl, h2⟩
  go_wp2_with fail
  refine (crush1 _).mono ?_
  rintro e w3 ⟨rfl, h3⟩
  go_upto_region 2 with fail
  refine wp_abs (fun W => Gr w W ∧ Box W w3.heap.size [.int .i64 74226, .int .i64 91290]) ⟨((h1.tr h2).tr h3).tr (Gr.al _ _), Box.new _ [.int .i64 74226, .int .i64 91290] 45 w3.heap.size rfl⟩ ?_
  rintro W ⟨gW, b1⟩
  clear h1 h2 h3
  go_wp2_with fail
  refine (armSpan_anyT _ _ _).mono ?_
  rintro e w4 ⟨rfl, h4⟩
  go_wp2_with fail
  refine (armSpan_anyT _ _ _).mono ?_
  rintro e w5 ⟨rfl, h5⟩
  go_wp2_with fail
  have bx := Box.new w5 [.int .i64 0, .int .i64 1000, .int .i64 10, .int .i64 800, .int .i64 30, .int .i64 600] 138 w5.heap.size rfl
  have tr : TRow (w5.alloc (.cells #[.int .i64 0, .int .i64 1000, .int .i64 10, .int .i64 800, .int .i64 30, .int .i64 600] 138)) (some ⟨w5.heap.size, 0, none⟩) ts0 := by
    refine ⟨by simp [ts0], fun j y hy => ⟨w5.heap.size, 0, rfl, bx.1, fun i v hv => ?_⟩⟩
    have hj : j = 0 ∨ j = 1 ∨ j = 2 := by
      have := (List.getElem?_eq_some_iff.1 hy).1
      simp [ts0] at this
      omega
    have hi : i = 0 ∨ i = 1 := by
      have := (List.getElem?_eq_some_iff.1 hv).1
      simp [encT] at this
      omega
    rcases hj with rfl | rfl | rfl <;> (simp [ts0] at hy; subst hy; rcases hi with rfl | rfl <;> (simp [encT] at hv; subst hv))
    · exact bx.2 0 _ rfl
    · exact bx.2 1 _ rfl
    · exact bx.2 2 _ rfl
    · exact bx.2 3 _ rfl
    · exact bx.2 4 _ rfl
    · exact bx.2 5 _ rfl
  clear bx
  refine (high1 _ _ tr).mono ?_
  rintro e w6 ⟨rfl, h6⟩
  clear tr
  go_upto_region 3 with fail
  have gZ := (h4.tr h5).tr ((Gr.al _ _).tr h6)
  refine wp_abs (fun U => Gr W U ∧ Box U w3.heap.size [.int .i64 74226, .int .i64 91290]) ⟨gZ, b1.keep gZ⟩ ?_
  clear gZ h4 h5 h6
  rintro U ⟨gU, b4⟩
  have gX := Gr.dr U
  obtain ⟨x0, x1⟩ := (b4.keep gX).c2
  go_region_held3 (fun w' => w'.cell? ⟨w3.heap.size, 0, none⟩ = some (.int .i64 74226) ∧ w'.cell? ⟨w3.heap.size, 1, none⟩ = some (.int .i64 91290)) (first | exact ⟨x0, x1⟩ | go_keep) (first
    | (go_at_call 67; (refine (armSpan_anyT _ _ _).mono ?_); rintro e w8 ⟨rfl, hy⟩; replace gX := gX.tr hy; (obtain ⟨x0, x1⟩ := (b4.keep gX).c2)))
  all_goals
    go_wp2
    go_ret
    exact ⟨rfl, gW.tr (gU.tr gX)⟩

end Go.Proofs.Ytcdilmagcdbogaa

namespace Go.Proofs.Ytcdilmagcdbogaa
set_option linter.unusedVariables false
set_option linter.unusedSimpArgs false
open Go.RowKit

theorem take_two {ps : List Paper} {fs : List Flute} {mp mf : List Int} (F : Fine ps fs mp mf) {k : Nat} (hk : k < mp.length) : takeL fs mf k ≤ 2 * partsL fs mf := by
  obtain ⟨h1, h2⟩ := parts_bd F
  unfold takeL
  cases hk1 : (kindL (k : Int) == 1) with
  | true => simp only [if_true]; omega
  | false =>
    obtain ⟨o1, o2⟩ := kindL_odd hk1
    have hm := F.mpl
    obtain ⟨g1, g2, g3, g4, _⟩ := flute_good F (show k / 2 < mf.length by omega)
    simp only [Bool.false_eq_true, if_false]
    have q0 : 0 ≤ partsL fs mf / (fluteAt fs mf (k / 2)).pitch := Int.ediv_nonneg (by omega) (by omega)
    have q1 := Int.mul_le_mul_of_nonneg_left g4 q0
    have q2 := Int.ediv_mul_le (partsL fs mf) (show (fluteAt fs mf (k / 2)).pitch ≠ 0 by omega)
    have q3 : partsL fs mf / (fluteAt fs mf (k / 2)).pitch * (2 * (fluteAt fs mf (k / 2)).pitch) = 2 * (partsL fs mf / (fluteAt fs mf (k / 2)).pitch * (fluteAt fs mf (k / 2)).pitch) := by
      rw [Int.mul_left_comm]
    omega

/-- What the first k papers of a store have together of the first m places of a board. -/
def sumUsed (fs : List Flute) (mp mf : List Int) (m : Nat) : Nat → Int
  | 0 => 0
  | k + 1 => sumUsed fs mp mf m k + usedTo fs mp mf m k

theorem sumUsed_zero (fs : List Flute) (mp mf : List Int) : ∀ k, sumUsed fs mp mf 0 k = 0
  | 0 => rfl
  | k + 1 => by
    have := sumUsed_zero fs mp mf k
    simp [sumUsed, usedTo, this]

theorem sumUsed_succ {fs : List Flute} (mp : List Int) {mf : List Int} {m : Nat} (ht : 0 ≤ takeL fs mf m) : ∀ k : Nat, sumUsed fs mp mf (m + 1) k ≤ sumUsed fs mp mf m k + takeL fs mf m ∧ ((k : Int) ≤ mp.getD m 0 → sumUsed fs mp mf (m + 1) k ≤ sumUsed fs mp mf m k)
  | 0 => by
    simp only [sumUsed]
    exact ⟨by omega, fun _ => by omega⟩
  | k + 1 => by
    obtain ⟨h1, h2⟩ := sumUsed_succ mp ht k
    simp only [sumUsed]
    have e : usedTo fs mp mf (m + 1) (k : Int) = if (k : Int) = mp.getD m 0 then usedTo fs mp mf m (k : Int) + takeL fs mf m else usedTo fs mp mf m (k : Int) := rfl
    rw [e]
    by_cases hk : (k : Int) = mp.getD m 0
    · rw [if_pos hk]
      have h3 := h2 (by omega)
      exact ⟨by omega, fun h5 => by omega⟩
    · rw [if_neg hk]
      exact ⟨by omega, fun h5 => by have := h2 (by omega); omega⟩

theorem sumUsed_bd {ps : List Paper} {fs : List Flute} {mp mf : List Int} (F : Fine ps fs mp mf) (k : Nat) : ∀ m : Nat, m ≤ mp.length → sumUsed fs mp mf m k ≤ (m : Int) * (2 * partsL fs mf)
  | 0, _ => by rw [sumUsed_zero]; simp
  | m + 1, h => by
    have h1 := sumUsed_bd F k m (by omega)
    obtain ⟨t0, _⟩ := take_bd F (show m < mp.length by omega)
    have t1 := take_two F (show m < mp.length by omega)
    have h2 := (sumUsed_succ (fs := fs) (mf := mf) (m := m) mp (by omega) k).1
    rw [show ((m + 1 : Nat) : Int) = (m : Int) + 1 by omega, Int.add_mul, Int.one_mul]
    omega

theorem totalTo_le {ps : List Paper} {fs : List Flute} {mp mf : List Int} (F : Fine ps fs mp mf) {of : Paper → Int} {S : Int} (hS : ∀ (n : Nat) (p : Paper), ps[n]? = some p → of p ≤ S) : ∀ k, k ≤ ps.length → totalTo ps fs mp mf of k ≤ S * sumUsed fs mp mf mp.length k
  | 0, _ => by simp [totalTo, sumUsed]
  | k + 1, hk => by
    have h1 := totalTo_le F hS k (by omega)
    obtain ⟨p, hp⟩ := get_of_lt (show k < ps.length by omega)
    obtain ⟨u0, _⟩ := used_bd F (k : Int)
    have h2 := Int.mul_le_mul_of_nonneg_right (hS k p hp) u0
    unfold totalTo sumUsed
    rw [paperN_eq hp, Int.mul_add]
    exact Int.add_le_add h1 h2

theorem strong_le {ps : List Paper} {fs : List Flute} {mp mf : List Int} (F : Fine ps fs mp mf) {S : Int} (h0 : 0 ≤ S) (hS : ∀ (n : Nat) (p : Paper), ps[n]? = some p → p.strong ≤ S) : 0 ≤ strongL ps fs mp mf ∧ strongL ps fs mp mf ≤ 10 * S := by
  obtain ⟨p0, p1⟩ := parts_bd F
  obtain ⟨t0, t1⟩ := totals_bd F strongOf_bd
  have h1 : totalL ps fs mp mf strongOf ≤ S * sumUsed fs mp mf mp.length ps.length := totalTo_le F hS ps.length (Nat.le_refl _)
  have h2 := sumUsed_bd F ps.length mp.length (Nat.le_refl _)
  have hm := F.mpl
  have hf := F.f2
  have h3 : (mp.length : Int) * (2 * partsL fs mf) ≤ 5 * (2 * partsL fs mf) := Int.mul_le_mul_of_nonneg_right (by omega) (by omega)
  have h4 : S * sumUsed fs mp mf mp.length ps.length ≤ S * (10 * partsL fs mf) := Int.mul_le_mul_of_nonneg_left (by omega) h0
  refine ⟨Int.ediv_nonneg t0 (by omega), Int.ediv_le_of_le_mul (by omega) ?_⟩
  rw [Int.mul_comm 10 S, Int.mul_assoc]
  omega

/-- The strength of a board of a Ware. -/
theorem ware_strong {P : List V6} {F : List V3} (Y : List Int) (hP : ∀ v ∈ P, B6 v) (hF : ∀ v ∈ F, B3 v) : 0 ≤ strongL (storeWP P) (storeWF F) (makeWP P Y) (makeWF F Y) ∧ strongL (storeWP P) (storeWF F) (makeWP P Y) (makeWF F Y) ≤ 25500 := by
  obtain ⟨np2, np5⟩ := npW_bd P.length
  refine strong_le (S := 2550) (fine_of_made (ware_made Y hP hF)) (by decide) fun n p hp => ?_
  have hn : n < npW P.length := by
    have := (List.getElem?_eq_some_iff.1 hp).1
    rwa [storeWP_len] at this
  rw [storeWP_at hn] at hp
  cases hp
  obtain ⟨_, _, _, _, _, h1, h2⟩ := wareP_B hP (show n < 5 by omega)
  show 10 * (wareP P n).f ≤ 2550
  omega

end Go.Proofs.Ytcdilmagcdbogaa

namespace Go.Proofs.Ytcdilmagcdbogaa
set_option linter.unusedVariables false
set_option linter.unusedSimpArgs false
open Go.RowKit

/-- What is said of a value stays while blocks of Z alone turn. -/
def StaysZ (Z : Nat → Prop) (F : World → Value → Prop) : Prop := ∀ v v' x, Kx Z v v' → F v x → F v' x

theorem StaysZ.eq (Z : Nat → Prop) (u : Value) : StaysZ Z (fun _ x => x = u) := fun _ _ _ _ h => h

theorem staysZ_nil {Z : Nat → Prop} : ∀ (i : Nat) (F : World → Value → Prop), ([] : List (World → Value → Prop))[i]? = some F → StaysZ Z F := fun i F h => by simp at h

theorem staysZ_cons {Z : Nat → Prop} {G : World → Value → Prop} {Fs : List (World → Value → Prop)} (h : StaysZ Z G) (hs : ∀ (i : Nat) (F : World → Value → Prop), Fs[i]? = some F → StaysZ Z F) : ∀ (i : Nat) (F : World → Value → Prop), (G :: Fs)[i]? = some F → StaysZ Z F
  | 0, F, e => by simp at e; subst e; exact h
  | i + 1, F, e => hs i F (by simpa using e)

theorem getD_hun {listed : Array Bool} {i : Nat} (h : listed.getD i true = false) : listed.getD i false = false ∧ (listed.setIfInBounds i true).getD i false = true := by
  by_cases hi : i < listed.size
  · simp [hi] at h ⊢
    exact h
  · simp [hi] at h

theorem wp_region_two {P : Program} {Q : Exit → Act → World → Prop} {id : Nat} {W : World} {l : List Oper} (Z : Nat → Prop) (n p q : Nat) (ds : List (Nat × Nat)) (fr : (Nat → Value) → Act) (x0 : Nat → Value) (Fs : List (World → Value → Prop)) (C : World → Prop) (S0 : World → Prop) (S1 : World → Value → Prop) (S2 : World → Value → Value → Prop) {a : Act} (ha : a = fr x0) (hm : P.follows .mixedOrders = true)
    (hB : (decide (n < l.toArray.size) && Region.sinkB .any l.toArray n && Region.chainB .any l.toArray n && minB .any l.toArray n && Region.seqB .any l.toArray (l.toArray.size - n) n (Array.replicate n true ++ Array.replicate (l.toArray.size - n) false)) = true)
    (hD : depB .any l.toArray ds = true) (hpq : (q, p) ∈ ds) (hne : p ≠ q) (hpn : p < n) (hqn : q < n)
    (hst : ∀ (i : Nat) (F : World → Value → Prop), Fs[i]? = some F → StaysZ Z F) (hC : ∀ v v', Kx Z v v' → C v → C v')
    (h0 : ∀ v v', Gr v v' → S0 v → S0 v') (h1 : ∀ v v' x, Gr v v' → S1 v x → S1 v' x) (h2 : ∀ v v' x y, Gr v v' → S2 v x y → S2 v' x y)
    (hC0 : C W.drew) (hS0 : S0 W.drew)
    (hstep : ∀ i, i < n → i ≠ p → i ≠ q → ∀ x v, C v → (∀ (j : Nat) (F : World → Value → Prop), (i, j) ∈ ds → j ≠ p → j ≠ q → Fs[j]? = some F → F v (x j)) → ∀ K : Act → World → Prop, (∀ u v', Gr v v' → (∀ F : World → Value → Prop, Fs[i]? = some F → F v' u) → K (fr (upd x i u)) v') → wpOp P l.toArray Q i K (fr x) v)
    (hp : ∀ x v, C v → S0 v → (∀ (j : Nat) (F : World → Value → Prop), (p, j) ∈ ds → j ≠ p → j ≠ q → Fs[j]? = some F → F v (x j)) → ∀ K : Act → World → Prop, (∀ u v', Kx Z v v' → S1 v' u → K (fr (upd x p u)) v') → wpOp P l.toArray Q p K (fr x) v)
    (hq : ∀ x v, C v → S1 v (x p) → (∀ (j : Nat) (F : World → Value → Prop), (q, j) ∈ ds → j ≠ p → j ≠ q → Fs[j]? = some F → F v (x j)) → ∀ K : Act → World → Prop, (∀ u v', Kx Z v v' → S2 v' (x p) u → K (fr (upd x q u)) v') → wpOp P l.toArray Q q K (fr x) v)
    (hend : ∀ x v, C v → S2 v (x p) (x q) → (∀ (j : Nat) (F : World → Value → Prop), j < n → j ≠ p → j ≠ q → Fs[j]? = some F → F v (x j)) → wpList P l.toArray Q (l.drop n) (fr x) v) : (Code.region id l.toArray true).wp P Q a W := by
  subst ha
  refine wp_region_inv' n ds (fun _ listed a v => ∃ x, a = fr x ∧ C v ∧ (∀ (j : Nat) (F : World → Value → Prop), j ≠ p → j ≠ q → Fs[j]? = some F → listed.getD j false = true → F v (x j)) ∧ (listed.getD q false = true → listed.getD p false = true ∧ S2 v (x p) (x q)) ∧ (listed.getD q false = false → listed.getD p false = true → S1 v (x p)) ∧ (listed.getD p false = false → S0 v)) hm hB hD ⟨x0, rfl, hC0, fun j F _ _ _ h => (by rw [getD_replicate_false] at h; cases h), fun h => (by rw [getD_replicate_false] at h; cases h), fun _ h => (by rw [getD_replicate_false] at h; cases h), fun _ => hS0⟩ ?_ ?_
  · rintro i hi listed a v hun hdep ⟨x, rfl, hc, hf, a2, a1, a0⟩
    have hdf : ∀ (j : Nat) (F : World → Value → Prop), (i, j) ∈ ds → j ≠ p → j ≠ q → Fs[j]? = some F → F v (x j) := fun j F hj e1 e2 hF => hf j F e1 e2 hF (hdep j hj)
    by_cases ep : i = p
    · subst ep
      have hpf := (getD_hun hun).1
      have hqf : listed.getD q false = false := by
        cases hb : listed.getD q false with
        | false => rfl
        | true =>
          have := (a2 hb).1
          rw [hpf] at this
          cases this
      refine hp x v hc (a0 hpf) hdf _ (fun u v' hg hu => ⟨upd x i u, rfl, hC v v' hg hc, fun j F e1 e2 hF hl => ?_, fun h => ?_, fun _ _ => ?_, fun h => ?_⟩)
      · rw [upd_ne x u e1]
        exact hst j F hF v v' _ hg (hf j F e1 e2 hF (by rwa [getD_set_ne false (fun e' => e1 e'.symm)] at hl))
      · rw [getD_set_ne false hne, hqf] at h
        cases h
      · rw [upd_at]
        exact hu
      · rw [(getD_hun hun).2] at h
        cases h
    · by_cases eq : i = q
      · subst eq
        have hpt := hdep p hpq
        have hqf := (getD_hun hun).1
        refine hq x v hc (a1 hqf hpt) hdf _ (fun u v' hg hu => ⟨upd x i u, rfl, hC v v' hg hc, fun j F e1 e2 hF hl => ?_, fun h => ⟨?_, ?_⟩, fun h => ?_, fun h => ?_⟩)
        · rw [upd_ne x u e2]
          exact hst j F hF v v' _ hg (hf j F e1 e2 hF (by rwa [getD_set_ne false (fun e' => e2 e'.symm)] at hl))
        · rw [getD_set_ne false (fun e => hne e.symm)]
          exact hpt
        · rw [upd_at, upd_ne x u hne]
          exact hu
        · rw [(getD_hun hun).2] at h
          cases h
        · rw [getD_set_ne false (fun e => hne e.symm), hpt] at h
          cases h
      · refine hstep i hi ep eq x v hc hdf _ (fun u v' hg hu => ⟨upd x i u, rfl, hC v v' (Kx.gr hg) hc, fun j F e1 e2 hF hl => ?_, fun h => ?_, fun h h' => ?_, fun h => ?_⟩)
        · by_cases e : j = i
          · subst e
            rw [upd_at]
            exact hu F hF
          · rw [upd_ne x u e]
            exact hst j F hF v v' _ (Kx.gr hg) (hf j F e1 e2 hF (by rwa [getD_set_ne false (fun e' => e e'.symm)] at hl))
        · rw [getD_set_ne false eq] at h
          rw [getD_set_ne false ep, upd_ne x u (fun e => ep e.symm), upd_ne x u (fun e => eq e.symm)]
          exact ⟨(a2 h).1, h2 v v' _ _ hg (a2 h).2⟩
        · rw [getD_set_ne false eq] at h
          rw [getD_set_ne false ep] at h'
          rw [upd_ne x u (fun e => ep e.symm)]
          exact h1 v v' _ hg (a1 h h')
        · rw [getD_set_ne false ep] at h
          exact h0 v v' hg (a0 h)
  · rintro listed a v hs hall ⟨x, rfl, hc, hf, a2, a1, a0⟩
    have hl : ∀ j, j < n → listed.getD j false = true := fun j hj => by
      have e1 := hall j hj
      have hl : j < listed.size := by omega
      simp [hl] at e1 ⊢
      exact e1
    exact hend x v hc (a2 (hl q hqn)).2 (fun j F hj e1 e2 hF => hf j F e1 e2 hF (hl j hj))

end Go.Proofs.Ytcdilmagcdbogaa

namespace Go.Proofs.Ytcdilmagcdbogaa
set_option linter.unusedVariables false
set_option linter.unusedSimpArgs false
open Go.RowKit

/-- A variable that was made holds what it was made with, and once written what was written. -/
def PairHeld (W : World) (x : Nat → Value) (v : World) (l : Array Bool) (p q : Nat) (c c' : List Value) : Prop := l.getD p false = true → ∃ b, x p = .pointer (some ⟨b, 0, none⟩) ∧ W.heap.size ≤ b ∧ Own v b (if l.getD q false = true then c' else c)

theorem PairHeld.gr {W v v' : World} {x : Nat → Value} {l : Array Bool} {p q i : Nat} {c c' : List Value} (h : PairHeld W x v l p q c c') (g : Gr v v') (u : Value) (hp : i ≠ p) (hq : i ≠ q) : PairHeld W (upd x i u) v' (l.setIfInBounds i true) p q c c' := by
  intro e
  rw [getD_set_ne false hp] at e
  obtain ⟨b, h1, h2, h3⟩ := h e
  refine ⟨b, ?_, h2, ?_⟩
  · rw [upd_ne x u (fun e => hp e.symm)]
    exact h1
  · rw [getD_set_ne false hq]
    exact h3.keep g

theorem PairHeld.kx {W v v' : World} {x : Nat → Value} {l : Array Bool} {p q i : Nat} {c c' : List Value} (h : PairHeld W x v l p q c c') {d : Nat} (g : Kx (fun b => b = d) v v') (hne : l.getD p false = true → x p ≠ .pointer (some ⟨d, 0, none⟩)) (hp : i ≠ p) (hq : i ≠ q) : PairHeld W x v' (l.setIfInBounds i true) p q c c' := by
  intro e
  rw [getD_set_ne false hp] at e
  obtain ⟨b, h1, h2, h3⟩ := h e
  refine ⟨b, h1, h2, ?_⟩
  rw [getD_set_ne false hq]
  exact h3.kx g (fun e2 => hne e (by rw [h1, e2]))

theorem wp_region_fresh2 {P : Program} {Q : Exit → Act → World → Prop} {id : Nat} {W : World} {l : List Oper} (n p1 q1 p2 q2 : Nat) (c1 d1 c2 d2 : List Value) (t1 t2 : TypeId) (ds : List (Nat × Nat)) (fr : (Nat → Value) → Act) (x0 : Nat → Value) (Fs : List (World → Value → Prop)) {a : Act} (ha : a = fr x0) (hm : P.follows .mixedOrders = true)
    (hB : (decide (n < l.toArray.size) && Region.sinkB .any l.toArray n && Region.chainB .any l.toArray n && minB .any l.toArray n && Region.seqB .any l.toArray (l.toArray.size - n) n (Array.replicate n true ++ Array.replicate (l.toArray.size - n) false)) = true)
    (hD : depB .any l.toArray ds = true) (hd1 : (q1, p1) ∈ ds) (hd2 : q2 < n → (q2, p2) ∈ ds) (hne : [p1, q1, p2, q2].Nodup) (hn : p1 < n ∧ q1 < n ∧ p2 < n)
    (hst : ∀ (i : Nat) (F : World → Value → Prop), Fs[i]? = some F → StaysZ (fun b => W.heap.size ≤ b) F)
    (hstep : ∀ i, i < n → i ≠ p1 → i ≠ q1 → i ≠ p2 → i ≠ q2 → ∀ x v, Gr W v → (∀ (j : Nat) (F : World → Value → Prop), (i, j) ∈ ds → ¬ j ∈ [p1, q1, p2, q2] → Fs[j]? = some F → F v (x j)) → ∀ K : Act → World → Prop, (∀ u v', Gr v v' → (∀ F : World → Value → Prop, Fs[i]? = some F → F v' u) → K (fr (upd x i u)) v') → wpOp P l.toArray Q i K (fr x) v)
    (hp1 : ∀ x v, Gr W v → ∀ K : Act → World → Prop, K (fr (upd x p1 (.pointer (some ⟨v.heap.size, 0, none⟩)))) (v.alloc (.cells c1.toArray t1)) → wpOp P l.toArray Q p1 K (fr x) v)
    (hp2 : ∀ x v, Gr W v → ∀ K : Act → World → Prop, K (fr (upd x p2 (.pointer (some ⟨v.heap.size, 0, none⟩)))) (v.alloc (.cells c2.toArray t2)) → wpOp P l.toArray Q p2 K (fr x) v)
    (hq1 : ∀ x v b, Gr W v → W.heap.size ≤ b → x p1 = .pointer (some ⟨b, 0, none⟩) → Own v b c1 → (∀ (j : Nat) (F : World → Value → Prop), (q1, j) ∈ ds → ¬ j ∈ [p1, q1, p2, q2] → Fs[j]? = some F → F v (x j)) → ∀ K : Act → World → Prop, (∀ v', Kx (fun k => k = b) v v' → Own v' b d1 → K (fr x) v') → wpOp P l.toArray Q q1 K (fr x) v)
    (hq2 : q2 < n → ∀ x v b, Gr W v → W.heap.size ≤ b → x p2 = .pointer (some ⟨b, 0, none⟩) → Own v b c2 → (∀ (j : Nat) (F : World → Value → Prop), (q2, j) ∈ ds → ¬ j ∈ [p1, q1, p2, q2] → Fs[j]? = some F → F v (x j)) → ∀ K : Act → World → Prop, (∀ v', Kx (fun k => k = b) v v' → Own v' b d2 → K (fr x) v') → wpOp P l.toArray Q q2 K (fr x) v)
    (hend : ∀ x v b1 b2, Gr W v → W.heap.size ≤ b1 → W.heap.size ≤ b2 → b1 ≠ b2 → x p1 = .pointer (some ⟨b1, 0, none⟩) → x p2 = .pointer (some ⟨b2, 0, none⟩) → Own v b1 d1 → Own v b2 (if q2 < n then d2 else c2) → (∀ (j : Nat) (F : World → Value → Prop), j < n → ¬ j ∈ [p1, q1, p2, q2] → Fs[j]? = some F → F v (x j)) → wpList P l.toArray Q (l.drop n) (fr x) v) : (Code.region id l.toArray true).wp P Q a W := by
  subst ha
  obtain ⟨hn1, hn2, hn3⟩ := hn
  simp only [List.nodup_cons, List.mem_cons, List.not_mem_nil, not_or, or_false, not_false_eq_true, List.nodup_nil, and_true] at hne
  obtain ⟨⟨e1, e2, e3⟩, ⟨e4, e5⟩, e6⟩ := hne
  have kz : ∀ {v v' : World}, Gr v v' → Kx (fun b => W.heap.size ≤ b) v v' := fun g => Kx.gr g
  have kb : ∀ {v v' : World} {b : Nat}, W.heap.size ≤ b → Kx (fun k => k = b) v v' → Kx (fun b => W.heap.size ≤ b) v v' := fun hb g => g.mono (fun i e => .inl (by subst e; exact hb))
  have kg : ∀ {v v' : World} {b : Nat}, Gr W v → W.heap.size ≤ b → Kx (fun k => k = b) v v' → Gr W v' := fun hg hb g => Kx.toGr ((Kx.gr (Z := noBlock) hg).th g (fun i e => .inr (by subst e; exact hb)))
  have ptr_lt : ∀ {v : World} {b : Nat} {cs : List Value}, Own v b cs → (Value.pointer (some ⟨b, 0, none⟩)) ≠ .pointer (some ⟨v.heap.size, 0, none⟩) := fun o e => by
    have := o.1.1
    simp only [Value.pointer.injEq, Option.some.injEq, Addr.mk.injEq, and_true] at e
    omega
  refine wp_region_inv' n ds (fun _ listed a v => ∃ x, a = fr x ∧ Gr W v ∧ (∀ (j : Nat) (F : World → Value → Prop), ¬ j ∈ [p1, q1, p2, q2] → Fs[j]? = some F → listed.getD j false = true → F v (x j)) ∧ PairHeld W x v listed p1 q1 c1 d1 ∧ PairHeld W x v listed p2 q2 c2 d2 ∧ (listed.getD p1 false = true → listed.getD p2 false = true → x p1 ≠ x p2) ∧ (listed.getD q1 false = true → listed.getD p1 false = true) ∧ (listed.getD q2 false = true → listed.getD p2 false = true) ∧ (listed.getD q2 false = true → q2 < n)) hm hB hD ⟨x0, rfl, Gr.dr W, fun j F _ _ h => (by rw [getD_replicate_false] at h; cases h), fun h => (by rw [getD_replicate_false] at h; cases h), fun h => (by rw [getD_replicate_false] at h; cases h), fun h => (by rw [getD_replicate_false] at h; cases h), fun h => (by rw [getD_replicate_false] at h; cases h), fun h => (by rw [getD_replicate_false] at h; cases h), fun h => (by rw [getD_replicate_false] at h; cases h)⟩ ?_ ?_
  · rintro i hi listed a v hun hdep ⟨x, rfl, gv, hf, h1, h2, h3, h4, h5, h6⟩
    have hdf : ∀ (j : Nat) (F : World → Value → Prop), (i, j) ∈ ds → ¬ j ∈ [p1, q1, p2, q2] → Fs[j]? = some F → F v (x j) := fun j F hj e1 hF => hf j F e1 hF (hdep j hj)
    have fkeep : ∀ {v' : World} (u : Value), Kx (fun b => W.heap.size ≤ b) v v' → i ∈ [p1, q1, p2, q2] → ∀ (j : Nat) (F : World → Value → Prop), ¬ j ∈ [p1, q1, p2, q2] → Fs[j]? = some F → (listed.setIfInBounds i true).getD j false = true → F v' (upd x i u j) := fun u k hi j F hj hF hl => by
      have hji : j ≠ i := fun e => hj (e ▸ hi)
      rw [upd_ne x u hji]
      exact hst j F hF v _ _ k (hf j F hj hF (by rwa [getD_set_ne false (fun e => hji e.symm)] at hl))
    have fkeep' : ∀ {v' : World}, Kx (fun b => W.heap.size ≤ b) v v' → i ∈ [p1, q1, p2, q2] → ∀ (j : Nat) (F : World → Value → Prop), ¬ j ∈ [p1, q1, p2, q2] → Fs[j]? = some F → (listed.setIfInBounds i true).getD j false = true → F v' (x j) := fun k hi j F hj hF hl => by
      have hji : j ≠ i := fun e => hj (e ▸ hi)
      exact hst j F hF v _ _ k (hf j F hj hF (by rwa [getD_set_ne false (fun e => hji e.symm)] at hl))
    obtain ⟨hif, hit⟩ := getD_hun hun
    by_cases a1 : i = p1
    · subst a1
      have hg := Gr.al v (.cells c1.toArray t1)
      have hqf : listed.getD q1 false = false := by
        cases hb : listed.getD q1 false with
        | false => rfl
        | true =>
          have := h4 hb
          rw [hif] at this
          cases this
      refine hp1 x v gv _ ⟨_, rfl, gv.tr hg, fkeep _ (kz hg) (by simp), fun _ => ⟨_, upd_at _ _ _, gv.size, ?_⟩, h2.gr hg _ e2 e3, fun _ hl => ?_, fun _ => hit, fun hl => ?_, fun hl => ?_⟩
      · rw [getD_set_ne false e1, hqf]
        exact Own.new v c1 t1 _ rfl
      · rw [getD_set_ne false e2] at hl
        obtain ⟨b, g1, g2, g3⟩ := h2 hl
        rw [upd_at, upd_ne x _ (fun e => e2 e.symm), g1]
        exact fun e => ptr_lt g3 e.symm
      · rw [getD_set_ne false e3] at hl
        rw [getD_set_ne false e2]
        exact h5 hl
      · rw [getD_set_ne false e3] at hl
        exact h6 hl
    · by_cases a2 : i = p2
      · subst a2
        have hg := Gr.al v (.cells c2.toArray t2)
        have hqf : listed.getD q2 false = false := by
          cases hb : listed.getD q2 false with
          | false => rfl
          | true =>
            have := h5 hb
            rw [hif] at this
            cases this
        refine hp2 x v gv _ ⟨_, rfl, gv.tr hg, fkeep _ (kz hg) (by simp), h1.gr hg _ a1 (fun e => e4 e.symm), fun _ => ⟨_, upd_at _ _ _, gv.size, ?_⟩, fun hl _ => ?_, fun hl => ?_, fun _ => hit, fun hl => ?_⟩
        · rw [getD_set_ne false e6, hqf]
          exact Own.new v c2 t2 _ rfl
        · rw [getD_set_ne false a1] at hl
          obtain ⟨b, g1, g2, g3⟩ := h1 hl
          rw [upd_at, upd_ne x _ (fun e => a1 e.symm), g1]
          exact fun e => ptr_lt g3 e
        · rw [getD_set_ne false (fun e => e4 e.symm)] at hl
          rw [getD_set_ne false a1]
          exact h4 hl
        · rw [getD_set_ne false e6] at hl
          exact h6 hl
      · by_cases a3 : i = q1
        · subst a3
          have hpt := hdep p1 hd1
          obtain ⟨b, g1, g2, g3⟩ := h1 hpt
          rw [hif] at g3
          refine hq1 x v b gv g2 g1 g3 hdf _ (fun v' k o => ⟨x, rfl, kg gv g2 k, fkeep' (kb g2 k) (by simp), fun _ => ⟨b, g1, g2, ?_⟩, h2.kx k (fun hl e => h3 hpt hl (by rw [g1, e])) e4 e5, fun ha hb => ?_, fun _ => ?_, fun hl => ?_, fun hl => ?_⟩)
          · rw [hit]
            exact o
          · rw [getD_set_ne false (fun e => e1 e.symm)] at ha
            rw [getD_set_ne false e4] at hb
            exact h3 ha hb
          · rw [getD_set_ne false (fun e => e1 e.symm)]
            exact hpt
          · rw [getD_set_ne false e5] at hl
            rw [getD_set_ne false e4]
            exact h5 hl
          · rw [getD_set_ne false e5] at hl
            exact h6 hl
        · by_cases a4 : i = q2
          · subst a4
            have hpt := hdep p2 (hd2 hi)
            obtain ⟨b, g1, g2, g3⟩ := h2 hpt
            rw [hif] at g3
            refine hq2 hi x v b gv g2 g1 g3 hdf _ (fun v' k o => ⟨x, rfl, kg gv g2 k, fkeep' (kb g2 k) (by simp), h1.kx k (fun hl e => h3 hl hpt (by rw [g1, e])) a1 a3, fun _ => ⟨b, g1, g2, ?_⟩, fun ha hb => ?_, fun hl => ?_, fun _ => ?_, fun _ => hi⟩)
            · rw [hit]
              exact o
            · rw [getD_set_ne false a1] at ha
              rw [getD_set_ne false a2] at hb
              exact h3 ha hb
            · rw [getD_set_ne false a3] at hl
              rw [getD_set_ne false a1]
              exact h4 hl
            · rw [getD_set_ne false a2]
              exact hpt
          · refine hstep i hi a1 a3 a2 a4 x v gv hdf _ (fun u v' hg hu => ⟨upd x i u, rfl, gv.tr hg, fun j F hj hF hl => ?_, h1.gr hg u a1 a3, h2.gr hg u a2 a4, fun ha hb => ?_, fun hl => ?_, fun hl => ?_, fun hl => ?_⟩)
            · by_cases e : j = i
              · subst e
                rw [upd_at]
                exact hu F hF
              · rw [upd_ne x u e]
                exact hst j F hF v v' _ (kz hg) (hf j F hj hF (by rwa [getD_set_ne false (fun e' => e e'.symm)] at hl))
            · rw [getD_set_ne false a1] at ha
              rw [getD_set_ne false a2] at hb
              rw [upd_ne x u (fun e => a1 e.symm), upd_ne x u (fun e => a2 e.symm)]
              exact h3 ha hb
            · rw [getD_set_ne false a3] at hl
              rw [getD_set_ne false a1]
              exact h4 hl
            · rw [getD_set_ne false a4] at hl
              rw [getD_set_ne false a2]
              exact h5 hl
            · rw [getD_set_ne false a4] at hl
              exact h6 hl
  · rintro listed a v hs hall ⟨x, rfl, gv, hf, h1, h2, h3, h4, h5, h6⟩
    have hl : ∀ j, j < n → listed.getD j false = true := fun j hj => by
      have e1 := hall j hj
      have hl : j < listed.size := by omega
      simp [hl] at e1 ⊢
      exact e1
    obtain ⟨b1, g1, g2, g3⟩ := h1 (hl _ hn1)
    obtain ⟨b2, g4, g5, g6⟩ := h2 (hl _ hn3)
    rw [hl _ hn2] at g3
    have e7 : (if q2 < n then d2 else c2) = (if listed.getD q2 false = true then d2 else c2) := by
      by_cases e : q2 < n
      · rw [if_pos e, hl _ e, if_pos rfl]
      · rw [if_neg e, if_neg (fun e' => e (h6 e'))]
    rw [← e7] at g6
    exact hend x v b1 b2 gv g2 g5 (fun e => h3 (hl _ hn1) (hl _ hn3) (by rw [g1, g4, e])) g1 g4 g3 g6 (fun j F hj e1 hF => hf j F e1 hF (hl j hj))

/-- Two appends, the second one behind an operation that waits for the first. -/
theorem wp_region_two3 {P : Program} {Q : Exit → Act → World → Prop} {id : Nat} {W : World} {l : List Oper} (Z : Nat → Prop) (n p q m : Nat) (ds : List (Nat × Nat)) (fr : (Nat → Value) → Act) (x0 : Nat → Value) (Fs : List (World → Value → Prop)) (C : World → Prop) (S0 : World → Prop) (S1 : World → Value → Prop) (S2 : World → Value → Value → Prop) {a : Act} (ha : a = fr x0) (hm : P.follows .mixedOrders = true)
    (hB : (decide (n < l.toArray.size) && Region.sinkB .any l.toArray n && Region.chainB .any l.toArray n && minB .any l.toArray n && Region.seqB .any l.toArray (l.toArray.size - n) n (Array.replicate n true ++ Array.replicate (l.toArray.size - n) false)) = true)
    (hD : depB .any l.toArray ds = true) (hqm : (q, m) ∈ ds) (hmp : (m, p) ∈ ds) (hne : p ≠ q) (hpn : p < n) (hqn : q < n)
    (hst : ∀ (i : Nat) (F : World → Value → Prop), Fs[i]? = some F → StaysZ Z F) (hC : ∀ v v', Kx Z v v' → C v → C v')
    (h0 : ∀ v v', Gr v v' → S0 v → S0 v') (h1 : ∀ v v' x, Gr v v' → S1 v x → S1 v' x) (h2 : ∀ v v' x y, Gr v v' → S2 v x y → S2 v' x y)
    (hC0 : C W.drew) (hS0 : S0 W.drew)
    (hstep : ∀ i, i < n → i ≠ p → i ≠ q → ∀ x v, C v → (∀ (j : Nat) (F : World → Value → Prop), (i, j) ∈ ds → j ≠ p → j ≠ q → Fs[j]? = some F → F v (x j)) → ∀ K : Act → World → Prop, (∀ u v', Gr v v' → (∀ F : World → Value → Prop, Fs[i]? = some F → F v' u) → K (fr (upd x i u)) v') → wpOp P l.toArray Q i K (fr x) v)
    (hp : ∀ x v, C v → S0 v → (∀ (j : Nat) (F : World → Value → Prop), (p, j) ∈ ds → j ≠ p → j ≠ q → Fs[j]? = some F → F v (x j)) → ∀ K : Act → World → Prop, (∀ u v', Kx Z v v' → S1 v' u → K (fr (upd x p u)) v') → wpOp P l.toArray Q p K (fr x) v)
    (hq : ∀ x v, C v → S1 v (x p) → (∀ (j : Nat) (F : World → Value → Prop), (q, j) ∈ ds → j ≠ p → j ≠ q → Fs[j]? = some F → F v (x j)) → ∀ K : Act → World → Prop, (∀ u v', Kx Z v v' → S2 v' (x p) u → K (fr (upd x q u)) v') → wpOp P l.toArray Q q K (fr x) v)
    (hend : ∀ x v, C v → S2 v (x p) (x q) → (∀ (j : Nat) (F : World → Value → Prop), j < n → j ≠ p → j ≠ q → Fs[j]? = some F → F v (x j)) → wpList P l.toArray Q (l.drop n) (fr x) v) : (Code.region id l.toArray true).wp P Q a W := by
  subst ha
  refine wp_region_inv' n ds (fun _ listed a v => ∃ x, a = fr x ∧ C v ∧ (∀ (j : Nat) (F : World → Value → Prop), j ≠ p → j ≠ q → Fs[j]? = some F → listed.getD j false = true → F v (x j)) ∧ (listed.getD q false = true → listed.getD p false = true ∧ S2 v (x p) (x q)) ∧ (listed.getD q false = false → listed.getD p false = true → S1 v (x p)) ∧ (listed.getD p false = false → S0 v) ∧ (listed.getD m false = true → listed.getD p false = true)) hm hB hD ⟨x0, rfl, hC0, fun j F _ _ _ h => (by rw [getD_replicate_false] at h; cases h), fun h => (by rw [getD_replicate_false] at h; cases h), fun _ h => (by rw [getD_replicate_false] at h; cases h), fun _ => hS0, fun h => (by rw [getD_replicate_false] at h; cases h)⟩ ?_ ?_
  · rintro i hi listed a v hun hdep ⟨x, rfl, hc, hf, a2, a1, a0, am⟩
    have hup : ∀ k, listed.getD k false = true → (listed.setIfInBounds i true).getD k false = true := fun k hk => by
      by_cases e : i = k
      · subst e
        exact (getD_hun hun).2
      · rw [getD_set_ne false e]
        exact hk
    have hm2 : (listed.setIfInBounds i true).getD m false = true → (listed.setIfInBounds i true).getD p false = true := fun h => by
      by_cases e : i = m
      · subst e
        exact hup p (hdep p hmp)
      · rw [getD_set_ne false e] at h
        exact hup p (am h)
    have hdf : ∀ (j : Nat) (F : World → Value → Prop), (i, j) ∈ ds → j ≠ p → j ≠ q → Fs[j]? = some F → F v (x j) := fun j F hj e1 e2 hF => hf j F e1 e2 hF (hdep j hj)
    by_cases ep : i = p
    · subst ep
      have hpf := (getD_hun hun).1
      have hqf : listed.getD q false = false := by
        cases hb : listed.getD q false with
        | false => rfl
        | true =>
          have := (a2 hb).1
          rw [hpf] at this
          cases this
      refine hp x v hc (a0 hpf) hdf _ (fun u v' hg hu => ⟨upd x i u, rfl, hC v v' hg hc, fun j F e1 e2 hF hl => ?_, fun h => ?_, fun _ _ => ?_, fun h => ?_, hm2⟩)
      · rw [upd_ne x u e1]
        exact hst j F hF v v' _ hg (hf j F e1 e2 hF (by rwa [getD_set_ne false (fun e' => e1 e'.symm)] at hl))
      · rw [getD_set_ne false hne, hqf] at h
        cases h
      · rw [upd_at]
        exact hu
      · rw [(getD_hun hun).2] at h
        cases h
    · by_cases eq : i = q
      · subst eq
        have hpt := am (hdep m hqm)
        have hqf := (getD_hun hun).1
        refine hq x v hc (a1 hqf hpt) hdf _ (fun u v' hg hu => ⟨upd x i u, rfl, hC v v' hg hc, fun j F e1 e2 hF hl => ?_, fun h => ⟨?_, ?_⟩, fun h => ?_, fun h => ?_, hm2⟩)
        · rw [upd_ne x u e2]
          exact hst j F hF v v' _ hg (hf j F e1 e2 hF (by rwa [getD_set_ne false (fun e' => e2 e'.symm)] at hl))
        · rw [getD_set_ne false (fun e => hne e.symm)]
          exact hpt
        · rw [upd_at, upd_ne x u hne]
          exact hu
        · rw [(getD_hun hun).2] at h
          cases h
        · rw [getD_set_ne false (fun e => hne e.symm), hpt] at h
          cases h
      · refine hstep i hi ep eq x v hc hdf _ (fun u v' hg hu => ⟨upd x i u, rfl, hC v v' (Kx.gr hg) hc, fun j F e1 e2 hF hl => ?_, fun h => ?_, fun h h' => ?_, fun h => ?_, hm2⟩)
        · by_cases e : j = i
          · subst e
            rw [upd_at]
            exact hu F hF
          · rw [upd_ne x u e]
            exact hst j F hF v v' _ (Kx.gr hg) (hf j F e1 e2 hF (by rwa [getD_set_ne false (fun e' => e e'.symm)] at hl))
        · rw [getD_set_ne false eq] at h
          rw [getD_set_ne false ep, upd_ne x u (fun e => ep e.symm), upd_ne x u (fun e => eq e.symm)]
          exact ⟨(a2 h).1, h2 v v' _ _ hg (a2 h).2⟩
        · rw [getD_set_ne false eq] at h
          rw [getD_set_ne false ep] at h'
          rw [upd_ne x u (fun e => ep e.symm)]
          exact h1 v v' _ hg (a1 h h')
        · rw [getD_set_ne false ep] at h
          exact h0 v v' hg (a0 h)
  · rintro listed a v hs hall ⟨x, rfl, hc, hf, a2, a1, a0, _⟩
    have hl : ∀ j, j < n → listed.getD j false = true := fun j hj => by
      have e1 := hall j hj
      have hl : j < listed.size := by omega
      simp [hl] at e1 ⊢
      exact e1
    exact hend x v hc (a2 (hl q hqn)).2 (fun j F hj e1 e2 hF => hf j F e1 e2 hF (hl j hj))

end Go.Proofs.Ytcdilmagcdbogaa
