/- The contract of armStore. (Made by gen_arm1.py.) -/
import Derived.Test.YtmioakcbgcgdhaaE0
import Derived.Test.YtmioakcbgcgdhaaQp
import Derived.Test.YtmioakcbgcgdhaaQr
import Derived.Deep.CutRange
import Derived.Deep.DeepCutAuto
import Derived.Deep.MidRow
import Derived.Test.YtmioakcbgcgdhaaS1
import Derived.Test.YtmioakcbgcgdhaaP5
namespace Go.Proofs.Ytmioakcbgcgdhaa
set_option linter.unusedVariables false
set_option linter.unusedSimpArgs false
open Go.RowKit

structure V6 where
  a : Int
  b : Int
  c : Int
  d : Int
  e : Int
  f : Int

structure V3 where
  a : Int
  b : Int
  c : Int

def encV6 (v : V6) : List Value := [.int .u8 v.a, .int .u8 v.b, .int .u8 v.c, .int .u8 v.d, .int .u8 v.e, .int .u8 v.f]

def encV3 (v : V3) : List Value := [.int .u8 v.a, .int .u8 v.b, .int .u8 v.c]

abbrev Row6 := RowOf 6 encV6

abbrev Row3 := RowOf 3 encV3

def isB (n : Int) : Prop := 0 ≤ n ∧ n ≤ 255

def B6 (v : V6) : Prop := isB v.a ∧ isB v.b ∧ isB v.c ∧ isB v.d ∧ isB v.e ∧ isB v.f

def B3 (v : V3) : Prop := isB v.a ∧ isB v.b ∧ isB v.c

def npW (n : Nat) : Nat := if n ≤ 2 then 2 else if n ≤ 5 then n else 5

def nfW (n : Nat) : Nat := if n = 0 then 1 else if n ≤ 3 then n else 3

def wareP (P : List V6) (i : Nat) : V6 := match P[i]? with | some v => v | none => ⟨i, 120, 20, 7, 30, 20⟩

def wareF (F : List V3) (i : Nat) : V3 := match F[i]? with | some v => v | none => ⟨80, 128, 36⟩

def paperW (k : Nat) (v : V6) : Paper := ⟨if 1 < k then 1 + v.a % 2 else 1 + k, 50 + v.b, 50 + v.c, 50 + v.c + v.a / 8, v.d % 100, v.d % 100 + v.d / 16, 1000 * v.e, 10 * v.f⟩

def fluteW (v : V3) : Flute := ⟨1000 + 35 * v.a, 1000 + 35 * v.a + (1000 + 35 * v.a) * v.b / 255, 500 + 10 * v.c, 500 + 10 * v.c + v.b % 90⟩

def storeWP (P : List V6) : List Paper := (List.range (npW P.length)).map fun i => paperW i (wareP P i)

def storeWF (F : List V3) : List Flute := (List.range (nfW F.length)).map fun i => fluteW (wareF F i)

theorem storeWP_len (P : List V6) : (storeWP P).length = npW P.length := by simp [storeWP]

theorem storeWF_len (F : List V3) : (storeWF F).length = nfW F.length := by simp [storeWF]

theorem npW_bd (n : Nat) : 2 ≤ npW n ∧ npW n ≤ 5 := by unfold npW; split <;> (try split) <;> omega

theorem nfW_bd (n : Nat) : 1 ≤ nfW n ∧ nfW n ≤ 3 := by unfold nfW; split <;> (try split) <;> omega

theorem storeWP_at {P : List V6} {k : Nat} (h : k < npW P.length) : (storeWP P)[k]? = some (paperW k (wareP P k)) := by
  unfold storeWP
  rw [List.getElem?_map, List.getElem?_range h]
  rfl

theorem storeWF_at {F : List V3} {k : Nat} (h : k < nfW F.length) : (storeWF F)[k]? = some (fluteW (wareF F k)) := by
  unfold storeWF
  rw [List.getElem?_map, List.getElem?_range h]
  rfl

theorem wareP_B {P : List V6} (hP : ∀ v ∈ P, B6 v) {k : Nat} (hk : k < 5) : B6 (wareP P k) := by
  unfold wareP
  cases h : P[k]? with
  | some v => exact hP v (List.mem_of_getElem? h)
  | none => simp only [B6, isB]; omega

theorem wareF_B {F : List V3} (hF : ∀ v ∈ F, B3 v) (k : Nat) : B3 (wareF F k) := by
  unfold wareF
  cases h : F[k]? with
  | some v => exact hF v (List.mem_of_getElem? h)
  | none => simp only [B3, isB]; omega

theorem u8_small {k : Nat} (h : k < 5) : IntKind.u8.wrap (k : Int) = k := by
  have h5 : k = 0 ∨ k = 1 ∨ k = 2 ∨ k = 3 ∨ k = 4 := by omega
  rcases h5 with rfl | rfl | rfl | rfl | rfl <;> rfl

theorem owns_val {w : World} {base : Nat} {e : TypeId} {sz : Nat} {v : Value} {n : Nat} {xs : List Value} (h : w.ownsRow base e sz v n xs) : ∃ a cap, v = .slice a n cap := by
  obtain ⟨h1, h2⟩ := h
  rcases h2 with ⟨hv, hn⟩ | ⟨b, cap, cur, hv, _⟩
  · exact ⟨none, 0, by rw [hv, hn]⟩
  · exact ⟨some ⟨b, 0, none⟩, cap, hv⟩

theorem Own.news {v : World} {b : Nat} {vs : List Value} (h : Own v b vs) : ∀ (j : Nat) (u : Value), vs[j]? = some u → v.cell? ((⟨b, 0, none⟩ : Addr).add j) = some u := by
  intro j u hu
  have hc := h.1.2 j u hu
  unfold Addr.add
  split
  · rename_i h0
    subst h0
    exact hc
  · simpa using hc

set_option maxRecDepth 100000 in
set_option maxHeartbeats 8000000 in
theorem armStore_any (P : List V6) (F : List V3) (hP : ∀ v ∈ P, B6 v) (hF : ∀ v ∈ F, B3 v) (pa fa ya : Option Addr) (pc fc yc : Nat) (yn : Nat) (w : World) (rp : Row6 w pa P) (rf : Row3 w fa F) :
    Calls Try.prog 8 #[.agg #[.slice pa P.length pc, .slice fa F.length fc, .slice ya yn yc]] w (StorePost (storeWP P) (storeWF F) w) := by
  obtain ⟨ip, hip, hpz0, hpz1, hpz2⟩ := info_parts infoPaper
  obtain ⟨jf, hjf, hfz0, hfz1, hfz2⟩ := info_parts infoFlute
  have gg := ((Gr.al w (.cells #[.slice pa P.length pc, .slice fa F.length fc, .slice ya yn yc] 26)).tr (Gr.al _ (.cells #[.slice none 0 0, .slice none 0 0] 31))).tr (Gr.al _ (.cells #[.slice none 0 0, .slice none 0 0] 31))
  have hx := (Box.new w [.slice pa P.length pc, .slice fa F.length fc, .slice ya yn yc] 26 w.heap.size rfl).keep ((Gr.al _ (.cells #[.slice none 0 0, .slice none 0 0] 31)).tr (Gr.al _ (.cells #[.slice none 0 0, .slice none 0 0] 31)))
  have or := (Own.new (w.alloc (.cells #[.slice pa P.length pc, .slice fa F.length fc, .slice ya yn yc] 26)) [.slice none 0 0, .slice none 0 0] 31 (w.heap.size + 1) (by simp)).keep (Gr.al _ (.cells #[.slice none 0 0, .slice none 0 0] 31))
  have os := Own.new ((w.alloc (.cells #[.slice pa P.length pc, .slice fa F.length fc, .slice ya yn yc] 26)).alloc (.cells #[.slice none 0 0, .slice none 0 0] 31)) [.slice none 0 0, .slice none 0 0] 31 (w.heap.size + 1 + 1) (by simp)
  have HP := Lib.hid hP
  have HF := Lib.hid hF
  obtain ⟨np2, np5⟩ := npW_bd P.length
  obtain ⟨nf1, nf3⟩ := nfW_bd F.length
  clear hP hF
  go_enter Try.func8, Try.ntmps8
  go_wp2
  refine wp_abs (fun W => Gr w W ∧ Box W w.heap.size [.slice pa P.length pc, .slice fa F.length fc, .slice ya yn yc] ∧ Own W (w.heap.size + 1) [.slice none 0 0, .slice none 0 0] ∧ Own W (w.heap.size + 1 + 1) [.slice none 0 0, .slice none 0 0]) ⟨gg, hx, or, os⟩ ?_
  clear gg hx or os
  rintro W ⟨gg, hx, or, os⟩
  refine (show (∀ s : Nat → Value, Code.wp Try.prog _ _ ⟨#[s 0, .pointer (some ⟨w.heap.size, 0, none⟩), .pointer (some ⟨(w.heap.size + 1), 0, none⟩), .pointer (some ⟨(w.heap.size + 1 + 1), 0, none⟩), .int .i64 0, undef, undef, undef, undef, undef, s 10, undef, undef, undef, undef, undef, undef, undef, undef, undef, undef, undef, undef, undef, undef, undef, undef, undef, undef, undef, undef, undef, undef, undef, undef, undef, undef, undef, undef, undef, undef, undef, undef, undef, undef, undef, undef, undef, undef, undef, undef, undef, undef, undef, undef, undef, undef, undef, undef, undef, undef, undef, undef, undef, undef, undef, undef, undef, undef, undef, undef, undef, undef, undef, undef, undef, undef, undef, undef, undef, undef, undef, undef, undef, undef, undef, undef, undef, undef, undef, undef, undef, undef, undef, undef, undef, undef, undef, undef, undef, undef, undef, undef, undef, undef, undef, undef, undef, undef, undef, undef, undef, undef, undef, undef, undef, undef, undef, undef, undef, undef, undef, undef, undef, undef, undef, undef, undef, undef, undef, undef, undef, undef, undef, undef, undef, undef, undef, undef, undef, undef, undef, undef, undef, undef, undef, undef, undef, undef, undef, undef, undef, undef, undef, undef, undef, undef, undef, undef], []⟩ _) → _ from fun h => h ((fun l : List Value => fun i => l.getD i undef) [_, undef, undef, undef, undef, undef, undef, undef, undef, undef, _])) ?_
  intro s
  dsimp only
  go_loopw [4] (fun i wr => Hid (∃ (k : Nat) (pv : Value), k ≤ npW P.length ∧ i = .int .i64 k ∧ Gr w wr ∧ Box wr w.heap.size [.slice pa P.length pc, .slice fa F.length fc, .slice ya yn yc] ∧ Own wr (w.heap.size + 1) [.slice none 0 0, .slice none 0 0] ∧ Own wr (w.heap.size + 1 + 1) [pv, .slice none 0 0] ∧
      wr.ownsRow (w.heap.size + 1 + 1 + 1) 100 8 pv k (((storeWP P).take k).flatMap encP))) (fun i wr => 5 - (intOf i).toNat)
  case atStart => exact Lib.hid ⟨0, .slice none 0 0, by omega, rfl, gg, hx, or, os, World.ownsRow_nil _ _ _ _⟩
  case round =>
    clear gg hx or os
    obtain ⟨k, pv, hk, rfl, gg, hx, or, os, hown⟩ := hrel.out
    clear hrel
    by_cases hlt : k < npW P.length
    · have k5 : k < 5 := by omega
      have hsz : w.heap.size + 1 + 1 < wr.heap.size := os.1.1
      go_upto_region 3 with fail
      go_cut [23] from 11 to 22 (fun s23 wx => s23 = .bool true ∧ wr = wx)
      case first =>
        have q0 := hx.2 0 _ rfl
        by_cases h2 : k < 2
        · have d1 : decide ((k : Int) < 2) = true := by simp; omega
          go_wp2_with fail
          go_meet
          exact ⟨rfl, rfl⟩
        · have d1 : decide ((k : Int) < 2) = false := by simp; omega
          have hl : k < P.length := by unfold npW at hlt; split at hlt <;> (try split at hlt) <;> omega
          have d2 : decide (k < P.length) = true := by simpa using hl
          have d3 : decide ((k : Int) < 5) = true := by simp; omega
          go_wp2_with fail
          go_meet
          exact ⟨rfl, rfl⟩
      case rest =>
        obtain ⟨rfl, rfl⟩ := hcut
        have hw8 := u8_small k5
        have q0 := hx.2 0 _ rfl
        have q0' := (hx.keep (Gr.al wr (.cells #[.int .u8 (k : Int), .int .u8 120, .int .u8 20, .int .u8 7, .int .u8 30, .int .u8 20] 54))).2 0 _ rfl
        go_upto_if 33 with fail
        go_cut [] from 34 to 38 (fun wx => Gr wr wx ∧ Own wx wr.heap.size (encV6 (wareP P k)))
        case first =>
          by_cases hl : k < P.length
          · obtain ⟨v, hv⟩ := get_of_lt hl
            have E : wareP P k = v := by simp [wareP, hv]
            have E' := Lib.hid E
            clear E
            obtain ⟨b0, o0, ha, hb0, hc⟩ := (rp.grow (gg.tr (Gr.al wr (.cells #[.int .u8 (k : Int), .int .u8 120, .int .u8 20, .int .u8 7, .int .u8 30, .int .u8 20] 54)))).2 k v hv
            subst ha
            clear hv
            obtain ⟨v0, v1, v2, v3, v4, v5⟩ := v
            have c0 : (wr.alloc (.cells #[.int .u8 (k : Int), .int .u8 120, .int .u8 20, .int .u8 7, .int .u8 30, .int .u8 20] 54)).cell? ⟨b0, o0 + k * 6, none⟩ = some (.int .u8 v0) := hc 0 _ rfl
            have c1 : (wr.alloc (.cells #[.int .u8 (k : Int), .int .u8 120, .int .u8 20, .int .u8 7, .int .u8 30, .int .u8 20] 54)).cell? ⟨b0, o0 + k * 6 + 1, none⟩ = some (.int .u8 v1) := hc 1 _ rfl
            have c2 : (wr.alloc (.cells #[.int .u8 (k : Int), .int .u8 120, .int .u8 20, .int .u8 7, .int .u8 30, .int .u8 20] 54)).cell? ⟨b0, o0 + k * 6 + 2, none⟩ = some (.int .u8 v2) := hc 2 _ rfl
            have c3 : (wr.alloc (.cells #[.int .u8 (k : Int), .int .u8 120, .int .u8 20, .int .u8 7, .int .u8 30, .int .u8 20] 54)).cell? ⟨b0, o0 + k * 6 + 3, none⟩ = some (.int .u8 v3) := hc 3 _ rfl
            have c4 : (wr.alloc (.cells #[.int .u8 (k : Int), .int .u8 120, .int .u8 20, .int .u8 7, .int .u8 30, .int .u8 20] 54)).cell? ⟨b0, o0 + k * 6 + 4, none⟩ = some (.int .u8 v4) := hc 4 _ rfl
            have c5 : (wr.alloc (.cells #[.int .u8 (k : Int), .int .u8 120, .int .u8 20, .int .u8 7, .int .u8 30, .int .u8 20] 54)).cell? ⟨b0, o0 + k * 6 + 5, none⟩ = some (.int .u8 v5) := hc 5 _ rfl
            clear hc
            have d2 : decide (k < P.length) = true := by simpa using hl
            go_wp2_with fail
            go_meet
            refine ⟨Gr.al _ _, ?_⟩
            rw [E'.out]
            exact Own.new _ [.int .u8 v0, .int .u8 v1, .int .u8 v2, .int .u8 v3, .int .u8 v4, .int .u8 v5] _ _ rfl
          · have E : wareP P k = ⟨k, 120, 20, 7, 30, 20⟩ := by simp [wareP, List.getElem?_eq_none (show P.length ≤ k by omega)]
            have E' := Lib.hid E
            clear E
            have d2 : decide (k < P.length) = false := by simpa using hl
            go_wp2_with fail
            go_meet
            refine ⟨Gr.al _ _, ?_⟩
            rw [E'.out]
            exact Own.new _ [.int .u8 (k : Int), .int .u8 120, .int .u8 20, .int .u8 7, .int .u8 30, .int .u8 20] _ _ rfl
        case rest =>
          obtain ⟨gn, ov⟩ := hcut
          clear q0 q0' hw8
          have hpk := storeWP_at hlt
          obtain ⟨⟨p0, p1⟩, ⟨p2, p3⟩, ⟨p4, p5⟩, ⟨p6, p7⟩, ⟨p8, p9⟩, ⟨p10, p11⟩⟩ := wareP_B HP.out k5
          generalize wareP P k = vv at *
          obtain ⟨y0, y1, y2, y3, y4, y5⟩ := vv
          simp only at p0 p1 p2 p3 p4 p5 p6 p7 p8 p9 p10 p11
          have HPK := Lib.hid hpk
          clear hpk
          go_upto_region 8 with fail
          refine (show (∀ r : Nat → Value, Code.wp Try.prog _ _ ⟨#[s 0, .pointer (some ⟨w.heap.size, 0, none⟩), .pointer (some ⟨(w.heap.size + 1), 0, none⟩), .pointer (some ⟨(w.heap.size + 1 + 1), 0, none⟩), .int .i64 k, .pointer (some ⟨wr.heap.size, 0, none⟩), r 6, undef, undef, undef, s 10, r 11, r 12, r 13, r 14, r 15, r 16, r 17, r 18, r 19, r 20, r 21, r 22, r 23, r 24, r 25, r 26, r 27, r 28, r 29, r 30, r 31, r 32, r 33, r 34, r 35, r 36, r 37, r 38, r 39, r 40, r 41, r 42, r 43, r 44, r 45, r 46, r 47, r 48, r 49, r 50, r 51, r 52, r 53, r 54, r 55, r 56, r 57, r 58, r 59, r 60, r 61, r 62, r 63, r 64, r 65, r 66, r 67, r 68, r 69, r 70, r 71, r 72, r 73, r 74, r 75, r 76, r 77, r 78, r 79, r 80, r 81, r 82, r 83, r 84, r 85, r 86, r 87, r 88, r 89, r 90, r 91, r 92, r 93, r 94, r 95, undef, undef, undef, undef, undef, undef, undef, undef, undef, undef, undef, undef, undef, undef, undef, undef, undef, undef, undef, undef, undef, undef, undef, undef, undef, undef, undef, undef, undef, undef, undef, undef, undef, undef, undef, undef, undef, undef, undef, undef, undef, undef, undef, undef, undef, undef, undef, undef, undef, undef, undef, undef, undef, undef, undef, undef, undef, undef, undef, undef, undef, undef, undef], []⟩ _) → _ from fun h => h ((fun l : List Value => fun i => l.getD i undef) [undef, undef, undef, undef, undef, undef, _, undef, undef, undef, undef, _, _, _, _, _, _, _, _, _, _, _, _, _, _, _, _, _, _, _, _, _, _, _, _, _, _, _, _, _, _, _, _, _, _, _, _, _, _, _, _, _, _, _, _, _, _, _, _, _, _, _, _, _, _, _, _, _, _, _, _, _, _, _, _, _, _, _, _, _, _, _, _, _, _, _, _, _, _, _, _, _, _, _, _, _])) ?_
          intro r
          dsimp only
          have w0 : IntKind.i64.wrap (1 + (k : Int)) = 1 + (k : Int) := IntWalk.i64_in _ (by omega)
          have w1 : IntKind.i64.wrap (y1) = y1 := IntWalk.i64_in _ (by omega)
          have w2 : IntKind.i64.wrap (50 + y1) = 50 + y1 := IntWalk.i64_in _ (by omega)
          have w3 : IntKind.i64.wrap (y2) = y2 := IntWalk.i64_in _ (by omega)
          have w4 : IntKind.i64.wrap (50 + y2) = 50 + y2 := IntWalk.i64_in _ (by omega)
          have w5 : IntKind.i64.wrap (y0) = y0 := IntWalk.i64_in _ (by omega)
          have w6 : y0.tdiv 8 = y0 / 8 := Int.tdiv_eq_ediv_of_nonneg (by omega)
          have w7 : IntKind.i64.wrap (y0 / 8) = y0 / 8 := IntWalk.i64_in _ (by omega)
          have w8 : IntKind.i64.wrap ((50 + y2) + (y0 / 8)) = (50 + y2) + (y0 / 8) := IntWalk.i64_in _ (by omega)
          have w9 : IntKind.i64.wrap (y3) = y3 := IntWalk.i64_in _ (by omega)
          have w10 : y3.tmod 100 = y3 % 100 := Int.tmod_eq_emod_of_nonneg (by omega)
          have w11 : y3.tmod 100 = y3 % 100 := Int.tmod_eq_emod_of_nonneg (by omega)
          have w12 : y3.tdiv 16 = y3 / 16 := Int.tdiv_eq_ediv_of_nonneg (by omega)
          have w13 : IntKind.i64.wrap (y3 / 16) = y3 / 16 := IntWalk.i64_in _ (by omega)
          have w14 : IntKind.i64.wrap ((y3 % 100) + (y3 / 16)) = (y3 % 100) + (y3 / 16) := IntWalk.i64_in _ (by omega)
          have w15 : IntKind.i64.wrap (y4) = y4 := IntWalk.i64_in _ (by omega)
          have w16 : IntKind.i64.wrap (1000 * y4) = 1000 * y4 := IntWalk.i64_in _ (by omega)
          have w17 : IntKind.i64.wrap (y5) = y5 := IntWalk.i64_in _ (by omega)
          have w18 : IntKind.i64.wrap (10 * y5) = 10 * y5 := IntWalk.i64_in _ (by omega)
          refine wp_region_facts 44 [(1, 0), (3, 2), (4, 3), (5, 4), (7, 6), (8, 7), (9, 8), (11, 10), (12, 11), (13, 12), (15, 14), (16, 15), (17, 16), (18, 13), (18, 17), (19, 9), (19, 18), (21, 20), (22, 21), (23, 22), (25, 24), (26, 25), (27, 26), (29, 28), (30, 29), (31, 30), (32, 27), (32, 31), (33, 23), (33, 32), (35, 34), (36, 35), (37, 36), (39, 38), (40, 39), (41, 40), (42, 1), (42, 5), (42, 19), (42, 33), (42, 37), (42, 41)] (fun x => ⟨#[s 0, .pointer (some ⟨w.heap.size, 0, none⟩), .pointer (some ⟨(w.heap.size + 1), 0, none⟩), .pointer (some ⟨(w.heap.size + 1 + 1), 0, none⟩), .int .i64 (k : Int), .pointer (some ⟨wr.heap.size, 0, none⟩), x 43, undef, undef, undef, s 10, r 11, r 12, r 13, r 14, r 15, r 16, r 17, r 18, r 19, r 20, r 21, r 22, r 23, r 24, r 25, r 26, r 27, r 28, r 29, r 30, r 31, r 32, r 33, r 34, r 35, r 36, r 37, r 38, x 0, x 1, x 2, x 3, x 4, x 5, x 6, x 7, x 8, x 9, x 10, x 11, x 12, x 13, x 14, x 15, x 16, x 17, x 18, x 19, x 20, x 21, x 22, x 23, x 24, x 25, x 26, x 27, x 28, x 29, x 30, x 31, x 32, x 33, x 34, x 35, x 36, x 37, x 38, x 39, x 40, x 41, x 42, r 82, r 83, r 84, r 85, r 86, r 87, r 88, r 89, r 90, r 91, r 92, r 93, r 94, r 95, undef, undef, undef, undef, undef, undef, undef, undef, undef, undef, undef, undef, undef, undef, undef, undef, undef, undef, undef, undef, undef, undef, undef, undef, undef, undef, undef, undef, undef, undef, undef, undef, undef, undef, undef, undef, undef, undef, undef, undef, undef, undef, undef, undef, undef, undef, undef, undef, undef, undef, undef, undef, undef, undef, undef, undef, undef, undef, undef, undef, undef, undef, undef], []⟩) (fun i => [r 39, r 40, r 41, r 42, r 43, r 44, r 45, r 46, r 47, r 48, r 49, r 50, r 51, r 52, r 53, r 54, r 55, r 56, r 57, r 58, r 59, r 60, r 61, r 62, r 63, r 64, r 65, r 66, r 67, r 68, r 69, r 70, r 71, r 72, r 73, r 74, r 75, r 76, r 77, r 78, r 79, r 80, r 81, r 6].getD i undef) [fun _ x => x = .int .i64 (k : Int), fun _ x => x = .int .i64 (1 + (k : Int)), fun _ x => x = .pointer (some ⟨wr.heap.size, 1, none⟩), fun _ x => x = .int .u8 y1, fun _ x => x = .int .i64 y1, fun _ x => x = .int .i64 (50 + y1), fun _ x => x = .pointer (some ⟨wr.heap.size, 2, none⟩), fun _ x => x = .int .u8 y2, fun _ x => x = .int .i64 y2, fun _ x => x = .int .i64 (50 + y2), fun _ x => x = .pointer (some ⟨wr.heap.size, 2, none⟩), fun _ x => x = .int .u8 y2, fun _ x => x = .int .i64 y2, fun _ x => x = .int .i64 (50 + y2), fun _ x => x = .pointer (some ⟨wr.heap.size, 0, none⟩), fun _ x => x = .int .u8 y0, fun _ x => x = .int .i64 y0, fun _ x => x = .int .i64 (y0 / 8), fun _ x => x = .int .i64 ((50 + y2) + (y0 / 8)), fun _ x => x = .agg #[.int .i64 (50 + y2), .int .i64 ((50 + y2) + (y0 / 8))], fun _ x => x = .pointer (some ⟨wr.heap.size, 3, none⟩), fun _ x => x = .int .u8 y3, fun _ x => x = .int .i64 y3, fun _ x => x = .int .i64 (y3 % 100), fun _ x => x = .pointer (some ⟨wr.heap.size, 3, none⟩), fun _ x => x = .int .u8 y3, fun _ x => x = .int .i64 y3, fun _ x => x = .int .i64 (y3 % 100), fun _ x => x = .pointer (some ⟨wr.heap.size, 3, none⟩), fun _ x => x = .int .u8 y3, fun _ x => x = .int .i64 y3, fun _ x => x = .int .i64 (y3 / 16), fun _ x => x = .int .i64 ((y3 % 100) + (y3 / 16)), fun _ x => x = .agg #[.int .i64 (y3 % 100), .int .i64 ((y3 % 100) + (y3 / 16))], fun _ x => x = .pointer (some ⟨wr.heap.size, 4, none⟩), fun _ x => x = .int .u8 y4, fun _ x => x = .int .i64 y4, fun _ x => x = .int .i64 (1000 * y4), fun _ x => x = .pointer (some ⟨wr.heap.size, 5, none⟩), fun _ x => x = .int .u8 y5, fun _ x => x = .int .i64 y5, fun _ x => x = .int .i64 (10 * y5), fun _ x => x = .agg #[.int .i64 (1 + (k : Int)), .int .i64 (50 + y1), .int .i64 (50 + y2), .int .i64 ((50 + y2) + (y0 / 8)), .int .i64 (y3 % 100), .int .i64 ((y3 % 100) + (y3 / 16)), .int .i64 (1000 * y4), .int .i64 (10 * y5)], fun v x => ∃ b, x = .pointer (some ⟨b, 0, none⟩) ∧ wc.heap.size ≤ b ∧ Own v b [.int .i64 0, .int .i64 0, .int .i64 0, .int .i64 0, .int .i64 0, .int .i64 0, .int .i64 0, .int .i64 0]] (by rfl) (by kernel_rfl) (by kernel_rfl) (by kernel_rfl) (stays_cons (Stays.eq _) (stays_cons (Stays.eq _) (stays_cons (Stays.eq _) (stays_cons (Stays.eq _) (stays_cons (Stays.eq _) (stays_cons (Stays.eq _) (stays_cons (Stays.eq _) (stays_cons (Stays.eq _) (stays_cons (Stays.eq _) (stays_cons (Stays.eq _) (stays_cons (Stays.eq _) (stays_cons (Stays.eq _) (stays_cons (Stays.eq _) (stays_cons (Stays.eq _) (stays_cons (Stays.eq _) (stays_cons (Stays.eq _) (stays_cons (Stays.eq _) (stays_cons (Stays.eq _) (stays_cons (Stays.eq _) (stays_cons (Stays.eq _) (stays_cons (Stays.eq _) (stays_cons (Stays.eq _) (stays_cons (Stays.eq _) (stays_cons (Stays.eq _) (stays_cons (Stays.eq _) (stays_cons (Stays.eq _) (stays_cons (Stays.eq _) (stays_cons (Stays.eq _) (stays_cons (Stays.eq _) (stays_cons (Stays.eq _) (stays_cons (Stays.eq _) (stays_cons (Stays.eq _) (stays_cons (Stays.eq _) (stays_cons (Stays.eq _) (stays_cons (Stays.eq _) (stays_cons (Stays.eq _) (stays_cons (Stays.eq _) (stays_cons (Stays.eq _) (stays_cons (Stays.eq _) (stays_cons (Stays.eq _) (stays_cons (Stays.eq _) (stays_cons (Stays.eq _) (stays_cons (Stays.eq _) (stays_cons ((show Stays (fun v x => ∃ b, x = .pointer (some ⟨b, 0, none⟩) ∧ wc.heap.size ≤ b ∧ Own v b [.int .i64 0, .int .i64 0, .int .i64 0, .int .i64 0, .int .i64 0, .int .i64 0, .int .i64 0, .int .i64 0]) from fun v v' x g ⟨b, e, h, o⟩ => ⟨b, e, h, o.keep g⟩)) stays_nil)))))))))))))))))))))))))))))))))))))))))))) ?step8 ?fin8
          case step8 =>
            rintro i hi x v gv hd K hK
            have hi8 : i = 0 ∨ i = 1 ∨ i = 2 ∨ i = 3 ∨ i = 4 ∨ i = 5 ∨ i = 6 ∨ i = 7 ∨ i = 8 ∨ i = 9 ∨ i = 10 ∨ i = 11 ∨ i = 12 ∨ i = 13 ∨ i = 14 ∨ i = 15 ∨ i = 16 ∨ i = 17 ∨ i = 18 ∨ i = 19 ∨ i = 20 ∨ i = 21 ∨ i = 22 ∨ i = 23 ∨ i = 24 ∨ i = 25 ∨ i = 26 ∨ i = 27 ∨ i = 28 ∨ i = 29 ∨ i = 30 ∨ i = 31 ∨ i = 32 ∨ i = 33 ∨ i = 34 ∨ i = 35 ∨ i = 36 ∨ i = 37 ∨ i = 38 ∨ i = 39 ∨ i = 40 ∨ i = 41 ∨ i = 42 ∨ i = 43 := by omega
            rcases hi8 with rfl | rfl | rfl | rfl | rfl | rfl | rfl | rfl | rfl | rfl | rfl | rfl | rfl | rfl | rfl | rfl | rfl | rfl | rfl | rfl | rfl | rfl | rfl | rfl | rfl | rfl | rfl | rfl | rfl | rfl | rfl | rfl | rfl | rfl | rfl | rfl | rfl | rfl | rfl | rfl | rfl | rfl | rfl | rfl
            · show wpOp Try.prog _ _ 0 K (⟨#[s 0, .pointer (some ⟨w.heap.size, 0, none⟩), .pointer (some ⟨(w.heap.size + 1), 0, none⟩), .pointer (some ⟨(w.heap.size + 1 + 1), 0, none⟩), .int .i64 (k : Int), .pointer (some ⟨wr.heap.size, 0, none⟩), x 43, undef, undef, undef, s 10, r 11, r 12, r 13, r 14, r 15, r 16, r 17, r 18, r 19, r 20, r 21, r 22, r 23, r 24, r 25, r 26, r 27, r 28, r 29, r 30, r 31, r 32, r 33, r 34, r 35, r 36, r 37, r 38, x 0, x 1, x 2, x 3, x 4, x 5, x 6, x 7, x 8, x 9, x 10, x 11, x 12, x 13, x 14, x 15, x 16, x 17, x 18, x 19, x 20, x 21, x 22, x 23, x 24, x 25, x 26, x 27, x 28, x 29, x 30, x 31, x 32, x 33, x 34, x 35, x 36, x 37, x 38, x 39, x 40, x 41, x 42, r 82, r 83, r 84, r 85, r 86, r 87, r 88, r 89, r 90, r 91, r 92, r 93, r 94, r 95, undef, undef, undef, undef, undef, undef, undef, undef, undef, undef, undef, undef, undef, undef, undef, undef, undef, undef, undef, undef, undef, undef, undef, undef, undef, undef, undef, undef, undef, undef, undef, undef, undef, undef, undef, undef, undef, undef, undef, undef, undef, undef, undef, undef, undef, undef, undef, undef, undef, undef, undef, undef, undef, undef, undef, undef, undef, undef, undef, undef, undef, undef, undef], []⟩ : Act) v
              refine wpOp_step rfl (fun K' hK' => ?_)
              go_simp
              exact hK' _ _ (hK _ _ (Below.refl _ _) (at_of rfl (rfl)))
            · obtain ⟨x, rfl⟩ := upd_of (show x 0 = .int .i64 (k : Int) from hd 0 _ (by simp) rfl)
              show wpOp Try.prog _ _ 1 K (⟨#[s 0, .pointer (some ⟨w.heap.size, 0, none⟩), .pointer (some ⟨(w.heap.size + 1), 0, none⟩), .pointer (some ⟨(w.heap.size + 1 + 1), 0, none⟩), .int .i64 (k : Int), .pointer (some ⟨wr.heap.size, 0, none⟩), x 43, undef, undef, undef, s 10, r 11, r 12, r 13, r 14, r 15, r 16, r 17, r 18, r 19, r 20, r 21, r 22, r 23, r 24, r 25, r 26, r 27, r 28, r 29, r 30, r 31, r 32, r 33, r 34, r 35, r 36, r 37, r 38, .int .i64 (k : Int), x 1, x 2, x 3, x 4, x 5, x 6, x 7, x 8, x 9, x 10, x 11, x 12, x 13, x 14, x 15, x 16, x 17, x 18, x 19, x 20, x 21, x 22, x 23, x 24, x 25, x 26, x 27, x 28, x 29, x 30, x 31, x 32, x 33, x 34, x 35, x 36, x 37, x 38, x 39, x 40, x 41, x 42, r 82, r 83, r 84, r 85, r 86, r 87, r 88, r 89, r 90, r 91, r 92, r 93, r 94, r 95, undef, undef, undef, undef, undef, undef, undef, undef, undef, undef, undef, undef, undef, undef, undef, undef, undef, undef, undef, undef, undef, undef, undef, undef, undef, undef, undef, undef, undef, undef, undef, undef, undef, undef, undef, undef, undef, undef, undef, undef, undef, undef, undef, undef, undef, undef, undef, undef, undef, undef, undef, undef, undef, undef, undef, undef, undef, undef, undef, undef, undef, undef, undef], []⟩ : Act) v
              refine wpOp_step rfl (fun K' hK' => ?_)
              go_simp
              exact hK' _ _ (hK _ _ (Below.refl _ _) (at_of rfl (rfl)))
            · show wpOp Try.prog _ _ 2 K (⟨#[s 0, .pointer (some ⟨w.heap.size, 0, none⟩), .pointer (some ⟨(w.heap.size + 1), 0, none⟩), .pointer (some ⟨(w.heap.size + 1 + 1), 0, none⟩), .int .i64 (k : Int), .pointer (some ⟨wr.heap.size, 0, none⟩), x 43, undef, undef, undef, s 10, r 11, r 12, r 13, r 14, r 15, r 16, r 17, r 18, r 19, r 20, r 21, r 22, r 23, r 24, r 25, r 26, r 27, r 28, r 29, r 30, r 31, r 32, r 33, r 34, r 35, r 36, r 37, r 38, x 0, x 1, x 2, x 3, x 4, x 5, x 6, x 7, x 8, x 9, x 10, x 11, x 12, x 13, x 14, x 15, x 16, x 17, x 18, x 19, x 20, x 21, x 22, x 23, x 24, x 25, x 26, x 27, x 28, x 29, x 30, x 31, x 32, x 33, x 34, x 35, x 36, x 37, x 38, x 39, x 40, x 41, x 42, r 82, r 83, r 84, r 85, r 86, r 87, r 88, r 89, r 90, r 91, r 92, r 93, r 94, r 95, undef, undef, undef, undef, undef, undef, undef, undef, undef, undef, undef, undef, undef, undef, undef, undef, undef, undef, undef, undef, undef, undef, undef, undef, undef, undef, undef, undef, undef, undef, undef, undef, undef, undef, undef, undef, undef, undef, undef, undef, undef, undef, undef, undef, undef, undef, undef, undef, undef, undef, undef, undef, undef, undef, undef, undef, undef, undef, undef, undef, undef, undef, undef], []⟩ : Act) v
              refine wpOp_step rfl (fun K' hK' => ?_)
              go_simp
              exact hK' _ _ (hK _ _ (Below.refl _ _) (at_of rfl (rfl)))
            · obtain ⟨x, rfl⟩ := upd_of (show x 2 = .pointer (some ⟨wr.heap.size, 1, none⟩) from hd 2 _ (by simp) rfl)
              show wpOp Try.prog _ _ 3 K (⟨#[s 0, .pointer (some ⟨w.heap.size, 0, none⟩), .pointer (some ⟨(w.heap.size + 1), 0, none⟩), .pointer (some ⟨(w.heap.size + 1 + 1), 0, none⟩), .int .i64 (k : Int), .pointer (some ⟨wr.heap.size, 0, none⟩), x 43, undef, undef, undef, s 10, r 11, r 12, r 13, r 14, r 15, r 16, r 17, r 18, r 19, r 20, r 21, r 22, r 23, r 24, r 25, r 26, r 27, r 28, r 29, r 30, r 31, r 32, r 33, r 34, r 35, r 36, r 37, r 38, x 0, x 1, .pointer (some ⟨wr.heap.size, 1, none⟩), x 3, x 4, x 5, x 6, x 7, x 8, x 9, x 10, x 11, x 12, x 13, x 14, x 15, x 16, x 17, x 18, x 19, x 20, x 21, x 22, x 23, x 24, x 25, x 26, x 27, x 28, x 29, x 30, x 31, x 32, x 33, x 34, x 35, x 36, x 37, x 38, x 39, x 40, x 41, x 42, r 82, r 83, r 84, r 85, r 86, r 87, r 88, r 89, r 90, r 91, r 92, r 93, r 94, r 95, undef, undef, undef, undef, undef, undef, undef, undef, undef, undef, undef, undef, undef, undef, undef, undef, undef, undef, undef, undef, undef, undef, undef, undef, undef, undef, undef, undef, undef, undef, undef, undef, undef, undef, undef, undef, undef, undef, undef, undef, undef, undef, undef, undef, undef, undef, undef, undef, undef, undef, undef, undef, undef, undef, undef, undef, undef, undef, undef, undef, undef, undef, undef], []⟩ : Act) v
              refine wpOp_step rfl (fun K' hK' => ?_)
              have q := (ov.1.keep gv).2 1 _ rfl
              go_simp
              exact hK' _ _ (hK _ _ (Below.refl _ _) (at_of rfl (rfl)))
            · obtain ⟨x, rfl⟩ := upd_of (show x 3 = .int .u8 y1 from hd 3 _ (by simp) rfl)
              show wpOp Try.prog _ _ 4 K (⟨#[s 0, .pointer (some ⟨w.heap.size, 0, none⟩), .pointer (some ⟨(w.heap.size + 1), 0, none⟩), .pointer (some ⟨(w.heap.size + 1 + 1), 0, none⟩), .int .i64 (k : Int), .pointer (some ⟨wr.heap.size, 0, none⟩), x 43, undef, undef, undef, s 10, r 11, r 12, r 13, r 14, r 15, r 16, r 17, r 18, r 19, r 20, r 21, r 22, r 23, r 24, r 25, r 26, r 27, r 28, r 29, r 30, r 31, r 32, r 33, r 34, r 35, r 36, r 37, r 38, x 0, x 1, x 2, .int .u8 y1, x 4, x 5, x 6, x 7, x 8, x 9, x 10, x 11, x 12, x 13, x 14, x 15, x 16, x 17, x 18, x 19, x 20, x 21, x 22, x 23, x 24, x 25, x 26, x 27, x 28, x 29, x 30, x 31, x 32, x 33, x 34, x 35, x 36, x 37, x 38, x 39, x 40, x 41, x 42, r 82, r 83, r 84, r 85, r 86, r 87, r 88, r 89, r 90, r 91, r 92, r 93, r 94, r 95, undef, undef, undef, undef, undef, undef, undef, undef, undef, undef, undef, undef, undef, undef, undef, undef, undef, undef, undef, undef, undef, undef, undef, undef, undef, undef, undef, undef, undef, undef, undef, undef, undef, undef, undef, undef, undef, undef, undef, undef, undef, undef, undef, undef, undef, undef, undef, undef, undef, undef, undef, undef, undef, undef, undef, undef, undef, undef, undef, undef, undef, undef, undef], []⟩ : Act) v
              refine wpOp_step rfl (fun K' hK' => ?_)
              go_simp
              exact hK' _ _ (hK _ _ (Below.refl _ _) (at_of rfl (rfl)))
            · obtain ⟨x, rfl⟩ := upd_of (show x 4 = .int .i64 y1 from hd 4 _ (by simp) rfl)
              show wpOp Try.prog _ _ 5 K (⟨#[s 0, .pointer (some ⟨w.heap.size, 0, none⟩), .pointer (some ⟨(w.heap.size + 1), 0, none⟩), .pointer (some ⟨(w.heap.size + 1 + 1), 0, none⟩), .int .i64 (k : Int), .pointer (some ⟨wr.heap.size, 0, none⟩), x 43, undef, undef, undef, s 10, r 11, r 12, r 13, r 14, r 15, r 16, r 17, r 18, r 19, r 20, r 21, r 22, r 23, r 24, r 25, r 26, r 27, r 28, r 29, r 30, r 31, r 32, r 33, r 34, r 35, r 36, r 37, r 38, x 0, x 1, x 2, x 3, .int .i64 y1, x 5, x 6, x 7, x 8, x 9, x 10, x 11, x 12, x 13, x 14, x 15, x 16, x 17, x 18, x 19, x 20, x 21, x 22, x 23, x 24, x 25, x 26, x 27, x 28, x 29, x 30, x 31, x 32, x 33, x 34, x 35, x 36, x 37, x 38, x 39, x 40, x 41, x 42, r 82, r 83, r 84, r 85, r 86, r 87, r 88, r 89, r 90, r 91, r 92, r 93, r 94, r 95, undef, undef, undef, undef, undef, undef, undef, undef, undef, undef, undef, undef, undef, undef, undef, undef, undef, undef, undef, undef, undef, undef, undef, undef, undef, undef, undef, undef, undef, undef, undef, undef, undef, undef, undef, undef, undef, undef, undef, undef, undef, undef, undef, undef, undef, undef, undef, undef, undef, undef, undef, undef, undef, undef, undef, undef, undef, undef, undef, undef, undef, undef, undef], []⟩ : Act) v
              refine wpOp_step rfl (fun K' hK' => ?_)
              go_simp
              exact hK' _ _ (hK _ _ (Below.refl _ _) (at_of rfl (rfl)))
            · show wpOp Try.prog _ _ 6 K (⟨#[s 0, .pointer (some ⟨w.heap.size, 0, none⟩), .pointer (some ⟨(w.heap.size + 1), 0, none⟩), .pointer (some ⟨(w.heap.size + 1 + 1), 0, none⟩), .int .i64 (k : Int), .pointer (some ⟨wr.heap.size, 0, none⟩), x 43, undef, undef, undef, s 10, r 11, r 12, r 13, r 14, r 15, r 16, r 17, r 18, r 19, r 20, r 21, r 22, r 23, r 24, r 25, r 26, r 27, r 28, r 29, r 30, r 31, r 32, r 33, r 34, r 35, r 36, r 37, r 38, x 0, x 1, x 2, x 3, x 4, x 5, x 6, x 7, x 8, x 9, x 10, x 11, x 12, x 13, x 14, x 15, x 16, x 17, x 18, x 19, x 20, x 21, x 22, x 23, x 24, x 25, x 26, x 27, x 28, x 29, x 30, x 31, x 32, x 33, x 34, x 35, x 36, x 37, x 38, x 39, x 40, x 41, x 42, r 82, r 83, r 84, r 85, r 86, r 87, r 88, r 89, r 90, r 91, r 92, r 93, r 94, r 95, undef, undef, undef, undef, undef, undef, undef, undef, undef, undef, undef, undef, undef, undef, undef, undef, undef, undef, undef, undef, undef, undef, undef, undef, undef, undef, undef, undef, undef, undef, undef, undef, undef, undef, undef, undef, undef, undef, undef, undef, undef, undef, undef, undef, undef, undef, undef, undef, undef, undef, undef, undef, undef, undef, undef, undef, undef, undef, undef, undef, undef, undef, undef], []⟩ : Act) v
              refine wpOp_step rfl (fun K' hK' => ?_)
              go_simp
              exact hK' _ _ (hK _ _ (Below.refl _ _) (at_of rfl (rfl)))
            · obtain ⟨x, rfl⟩ := upd_of (show x 6 = .pointer (some ⟨wr.heap.size, 2, none⟩) from hd 6 _ (by simp) rfl)
              show wpOp Try.prog _ _ 7 K (⟨#[s 0, .pointer (some ⟨w.heap.size, 0, none⟩), .pointer (some ⟨(w.heap.size + 1), 0, none⟩), .pointer (some ⟨(w.heap.size + 1 + 1), 0, none⟩), .int .i64 (k : Int), .pointer (some ⟨wr.heap.size, 0, none⟩), x 43, undef, undef, undef, s 10, r 11, r 12, r 13, r 14, r 15, r 16, r 17, r 18, r 19, r 20, r 21, r 22, r 23, r 24, r 25, r 26, r 27, r 28, r 29, r 30, r 31, r 32, r 33, r 34, r 35, r 36, r 37, r 38, x 0, x 1, x 2, x 3, x 4, x 5, .pointer (some ⟨wr.heap.size, 2, none⟩), x 7, x 8, x 9, x 10, x 11, x 12, x 13, x 14, x 15, x 16, x 17, x 18, x 19, x 20, x 21, x 22, x 23, x 24, x 25, x 26, x 27, x 28, x 29, x 30, x 31, x 32, x 33, x 34, x 35, x 36, x 37, x 38, x 39, x 40, x 41, x 42, r 82, r 83, r 84, r 85, r 86, r 87, r 88, r 89, r 90, r 91, r 92, r 93, r 94, r 95, undef, undef, undef, undef, undef, undef, undef, undef, undef, undef, undef, undef, undef, undef, undef, undef, undef, undef, undef, undef, undef, undef, undef, undef, undef, undef, undef, undef, undef, undef, undef, undef, undef, undef, undef, undef, undef, undef, undef, undef, undef, undef, undef, undef, undef, undef, undef, undef, undef, undef, undef, undef, undef, undef, undef, undef, undef, undef, undef, undef, undef, undef, undef], []⟩ : Act) v
              refine wpOp_step rfl (fun K' hK' => ?_)
              have q := (ov.1.keep gv).2 2 _ rfl
              go_simp
              exact hK' _ _ (hK _ _ (Below.refl _ _) (at_of rfl (rfl)))
            · obtain ⟨x, rfl⟩ := upd_of (show x 7 = .int .u8 y2 from hd 7 _ (by simp) rfl)
              show wpOp Try.prog _ _ 8 K (⟨#[s 0, .pointer (some ⟨w.heap.size, 0, none⟩), .pointer (some ⟨(w.heap.size + 1), 0, none⟩), .pointer (some ⟨(w.heap.size + 1 + 1), 0, none⟩), .int .i64 (k : Int), .pointer (some ⟨wr.heap.size, 0, none⟩), x 43, undef, undef, undef, s 10, r 11, r 12, r 13, r 14, r 15, r 16, r 17, r 18, r 19, r 20, r 21, r 22, r 23, r 24, r 25, r 26, r 27, r 28, r 29, r 30, r 31, r 32, r 33, r 34, r 35, r 36, r 37, r 38, x 0, x 1, x 2, x 3, x 4, x 5, x 6, .int .u8 y2, x 8, x 9, x 10, x 11, x 12, x 13, x 14, x 15, x 16, x 17, x 18, x 19, x 20, x 21, x 22, x 23, x 24, x 25, x 26, x 27, x 28, x 29, x 30, x 31, x 32, x 33, x 34, x 35, x 36, x 37, x 38, x 39, x 40, x 41, x 42, r 82, r 83, r 84, r 85, r 86, r 87, r 88, r 89, r 90, r 91, r 92, r 93, r 94, r 95, undef, undef, undef, undef, undef, undef, undef, undef, undef, undef, undef, undef, undef, undef, undef, undef, undef, undef, undef, undef, undef, undef, undef, undef, undef, undef, undef, undef, undef, undef, undef, undef, undef, undef, undef, undef, undef, undef, undef, undef, undef, undef, undef, undef, undef, undef, undef, undef, undef, undef, undef, undef, undef, undef, undef, undef, undef, undef, undef, undef, undef, undef, undef], []⟩ : Act) v
              refine wpOp_step rfl (fun K' hK' => ?_)
              go_simp
              exact hK' _ _ (hK _ _ (Below.refl _ _) (at_of rfl (rfl)))
            · obtain ⟨x, rfl⟩ := upd_of (show x 8 = .int .i64 y2 from hd 8 _ (by simp) rfl)
              show wpOp Try.prog _ _ 9 K (⟨#[s 0, .pointer (some ⟨w.heap.size, 0, none⟩), .pointer (some ⟨(w.heap.size + 1), 0, none⟩), .pointer (some ⟨(w.heap.size + 1 + 1), 0, none⟩), .int .i64 (k : Int), .pointer (some ⟨wr.heap.size, 0, none⟩), x 43, undef, undef, undef, s 10, r 11, r 12, r 13, r 14, r 15, r 16, r 17, r 18, r 19, r 20, r 21, r 22, r 23, r 24, r 25, r 26, r 27, r 28, r 29, r 30, r 31, r 32, r 33, r 34, r 35, r 36, r 37, r 38, x 0, x 1, x 2, x 3, x 4, x 5, x 6, x 7, .int .i64 y2, x 9, x 10, x 11, x 12, x 13, x 14, x 15, x 16, x 17, x 18, x 19, x 20, x 21, x 22, x 23, x 24, x 25, x 26, x 27, x 28, x 29, x 30, x 31, x 32, x 33, x 34, x 35, x 36, x 37, x 38, x 39, x 40, x 41, x 42, r 82, r 83, r 84, r 85, r 86, r 87, r 88, r 89, r 90, r 91, r 92, r 93, r 94, r 95, undef, undef, undef, undef, undef, undef, undef, undef, undef, undef, undef, undef, undef, undef, undef, undef, undef, undef, undef, undef, undef, undef, undef, undef, undef, undef, undef, undef, undef, undef, undef, undef, undef, undef, undef, undef, undef, undef, undef, undef, undef, undef, undef, undef, undef, undef, undef, undef, undef, undef, undef, undef, undef, undef, undef, undef, undef, undef, undef, undef, undef, undef, undef], []⟩ : Act) v
              refine wpOp_step rfl (fun K' hK' => ?_)
              go_simp
              exact hK' _ _ (hK _ _ (Below.refl _ _) (at_of rfl (rfl)))
            · show wpOp Try.prog _ _ 10 K (⟨#[s 0, .pointer (some ⟨w.heap.size, 0, none⟩), .pointer (some ⟨(w.heap.size + 1), 0, none⟩), .pointer (some ⟨(w.heap.size + 1 + 1), 0, none⟩), .int .i64 (k : Int), .pointer (some ⟨wr.heap.size, 0, none⟩), x 43, undef, undef, undef, s 10, r 11, r 12, r 13, r 14, r 15, r 16, r 17, r 18, r 19, r 20, r 21, r 22, r 23, r 24, r 25, r 26, r 27, r 28, r 29, r 30, r 31, r 32, r 33, r 34, r 35, r 36, r 37, r 38, x 0, x 1, x 2, x 3, x 4, x 5, x 6, x 7, x 8, x 9, x 10, x 11, x 12, x 13, x 14, x 15, x 16, x 17, x 18, x 19, x 20, x 21, x 22, x 23, x 24, x 25, x 26, x 27, x 28, x 29, x 30, x 31, x 32, x 33, x 34, x 35, x 36, x 37, x 38, x 39, x 40, x 41, x 42, r 82, r 83, r 84, r 85, r 86, r 87, r 88, r 89, r 90, r 91, r 92, r 93, r 94, r 95, undef, undef, undef, undef, undef, undef, undef, undef, undef, undef, undef, undef, undef, undef, undef, undef, undef, undef, undef, undef, undef, undef, undef, undef, undef, undef, undef, undef, undef, undef, undef, undef, undef, undef, undef, undef, undef, undef, undef, undef, undef, undef, undef, undef, undef, undef, undef, undef, undef, undef, undef, undef, undef, undef, undef, undef, undef, undef, undef, undef, undef, undef, undef], []⟩ : Act) v
              refine wpOp_step rfl (fun K' hK' => ?_)
              go_simp
              exact hK' _ _ (hK _ _ (Below.refl _ _) (at_of rfl (rfl)))
            · obtain ⟨x, rfl⟩ := upd_of (show x 10 = .pointer (some ⟨wr.heap.size, 2, none⟩) from hd 10 _ (by simp) rfl)
              show wpOp Try.prog _ _ 11 K (⟨#[s 0, .pointer (some ⟨w.heap.size, 0, none⟩), .pointer (some ⟨(w.heap.size + 1), 0, none⟩), .pointer (some ⟨(w.heap.size + 1 + 1), 0, none⟩), .int .i64 (k : Int), .pointer (some ⟨wr.heap.size, 0, none⟩), x 43, undef, undef, undef, s 10, r 11, r 12, r 13, r 14, r 15, r 16, r 17, r 18, r 19, r 20, r 21, r 22, r 23, r 24, r 25, r 26, r 27, r 28, r 29, r 30, r 31, r 32, r 33, r 34, r 35, r 36, r 37, r 38, x 0, x 1, x 2, x 3, x 4, x 5, x 6, x 7, x 8, x 9, .pointer (some ⟨wr.heap.size, 2, none⟩), x 11, x 12, x 13, x 14, x 15, x 16, x 17, x 18, x 19, x 20, x 21, x 22, x 23, x 24, x 25, x 26, x 27, x 28, x 29, x 30, x 31, x 32, x 33, x 34, x 35, x 36, x 37, x 38, x 39, x 40, x 41, x 42, r 82, r 83, r 84, r 85, r 86, r 87, r 88, r 89, r 90, r 91, r 92, r 93, r 94, r 95, undef, undef, undef, undef, undef, undef, undef, undef, undef, undef, undef, undef, undef, undef, undef, undef, undef, undef, undef, undef, undef, undef, undef, undef, undef, undef, undef, undef, undef, undef, undef, undef, undef, undef, undef, undef, undef, undef, undef, undef, undef, undef, undef, undef, undef, undef, undef, undef, undef, undef, undef, undef, undef, undef, undef, undef, undef, undef, undef, undef, undef, undef, undef], []⟩ : Act) v
              refine wpOp_step rfl (fun K' hK' => ?_)
              have q := (ov.1.keep gv).2 2 _ rfl
              go_simp
              exact hK' _ _ (hK _ _ (Below.refl _ _) (at_of rfl (rfl)))
            · obtain ⟨x, rfl⟩ := upd_of (show x 11 = .int .u8 y2 from hd 11 _ (by simp) rfl)
              show wpOp Try.prog _ _ 12 K (⟨#[s 0, .pointer (some ⟨w.heap.size, 0, none⟩), .pointer (some ⟨(w.heap.size + 1), 0, none⟩), .pointer (some ⟨(w.heap.size + 1 + 1), 0, none⟩), .int .i64 (k : Int), .pointer (some ⟨wr.heap.size, 0, none⟩), x 43, undef, undef, undef, s 10, r 11, r 12, r 13, r 14, r 15, r 16, r 17, r 18, r 19, r 20, r 21, r 22, r 23, r 24, r 25, r 26, r 27, r 28, r 29, r 30, r 31, r 32, r 33, r 34, r 35, r 36, r 37, r 38, x 0, x 1, x 2, x 3, x 4, x 5, x 6, x 7, x 8, x 9, x 10, .int .u8 y2, x 12, x 13, x 14, x 15, x 16, x 17, x 18, x 19, x 20, x 21, x 22, x 23, x 24, x 25, x 26, x 27, x 28, x 29, x 30, x 31, x 32, x 33, x 34, x 35, x 36, x 37, x 38, x 39, x 40, x 41, x 42, r 82, r 83, r 84, r 85, r 86, r 87, r 88, r 89, r 90, r 91, r 92, r 93, r 94, r 95, undef, undef, undef, undef, undef, undef, undef, undef, undef, undef, undef, undef, undef, undef, undef, undef, undef, undef, undef, undef, undef, undef, undef, undef, undef, undef, undef, undef, undef, undef, undef, undef, undef, undef, undef, undef, undef, undef, undef, undef, undef, undef, undef, undef, undef, undef, undef, undef, undef, undef, undef, undef, undef, undef, undef, undef, undef, undef, undef, undef, undef, undef, undef], []⟩ : Act) v
              refine wpOp_step rfl (fun K' hK' => ?_)
              go_simp
              exact hK' _ _ (hK _ _ (Below.refl _ _) (at_of rfl (rfl)))
            · obtain ⟨x, rfl⟩ := upd_of (show x 12 = .int .i64 y2 from hd 12 _ (by simp) rfl)
              show wpOp Try.prog _ _ 13 K (⟨#[s 0, .pointer (some ⟨w.heap.size, 0, none⟩), .pointer (some ⟨(w.heap.size + 1), 0, none⟩), .pointer (some ⟨(w.heap.size + 1 + 1), 0, none⟩), .int .i64 (k : Int), .pointer (some ⟨wr.heap.size, 0, none⟩), x 43, undef, undef, undef, s 10, r 11, r 12, r 13, r 14, r 15, r 16, r 17, r 18, r 19, r 20, r 21, r 22, r 23, r 24, r 25, r 26, r 27, r 28, r 29, r 30, r 31, r 32, r 33, r 34, r 35, r 36, r 37, r 38, x 0, x 1, x 2, x 3, x 4, x 5, x 6, x 7, x 8, x 9, x 10, x 11, .int .i64 y2, x 13, x 14, x 15, x 16, x 17, x 18, x 19, x 20, x 21, x 22, x 23, x 24, x 25, x 26, x 27, x 28, x 29, x 30, x 31, x 32, x 33, x 34, x 35, x 36, x 37, x 38, x 39, x 40, x 41, x 42, r 82, r 83, r 84, r 85, r 86, r 87, r 88, r 89, r 90, r 91, r 92, r 93, r 94, r 95, undef, undef, undef, undef, undef, undef, undef, undef, undef, undef, undef, undef, undef, undef, undef, undef, undef, undef, undef, undef, undef, undef, undef, undef, undef, undef, undef, undef, undef, undef, undef, undef, undef, undef, undef, undef, undef, undef, undef, undef, undef, undef, undef, undef, undef, undef, undef, undef, undef, undef, undef, undef, undef, undef, undef, undef, undef, undef, undef, undef, undef, undef, undef], []⟩ : Act) v
              refine wpOp_step rfl (fun K' hK' => ?_)
              go_simp
              exact hK' _ _ (hK _ _ (Below.refl _ _) (at_of rfl (rfl)))
            · show wpOp Try.prog _ _ 14 K (⟨#[s 0, .pointer (some ⟨w.heap.size, 0, none⟩), .pointer (some ⟨(w.heap.size + 1), 0, none⟩), .pointer (some ⟨(w.heap.size + 1 + 1), 0, none⟩), .int .i64 (k : Int), .pointer (some ⟨wr.heap.size, 0, none⟩), x 43, undef, undef, undef, s 10, r 11, r 12, r 13, r 14, r 15, r 16, r 17, r 18, r 19, r 20, r 21, r 22, r 23, r 24, r 25, r 26, r 27, r 28, r 29, r 30, r 31, r 32, r 33, r 34, r 35, r 36, r 37, r 38, x 0, x 1, x 2, x 3, x 4, x 5, x 6, x 7, x 8, x 9, x 10, x 11, x 12, x 13, x 14, x 15, x 16, x 17, x 18, x 19, x 20, x 21, x 22, x 23, x 24, x 25, x 26, x 27, x 28, x 29, x 30, x 31, x 32, x 33, x 34, x 35, x 36, x 37, x 38, x 39, x 40, x 41, x 42, r 82, r 83, r 84, r 85, r 86, r 87, r 88, r 89, r 90, r 91, r 92, r 93, r 94, r 95, undef, undef, undef, undef, undef, undef, undef, undef, undef, undef, undef, undef, undef, undef, undef, undef, undef, undef, undef, undef, undef, undef, undef, undef, undef, undef, undef, undef, undef, undef, undef, undef, undef, undef, undef, undef, undef, undef, undef, undef, undef, undef, undef, undef, undef, undef, undef, undef, undef, undef, undef, undef, undef, undef, undef, undef, undef, undef, undef, undef, undef, undef, undef], []⟩ : Act) v
              refine wpOp_step rfl (fun K' hK' => ?_)
              go_simp
              exact hK' _ _ (hK _ _ (Below.refl _ _) (at_of rfl (rfl)))
            · obtain ⟨x, rfl⟩ := upd_of (show x 14 = .pointer (some ⟨wr.heap.size, 0, none⟩) from hd 14 _ (by simp) rfl)
              show wpOp Try.prog _ _ 15 K (⟨#[s 0, .pointer (some ⟨w.heap.size, 0, none⟩), .pointer (some ⟨(w.heap.size + 1), 0, none⟩), .pointer (some ⟨(w.heap.size + 1 + 1), 0, none⟩), .int .i64 (k : Int), .pointer (some ⟨wr.heap.size, 0, none⟩), x 43, undef, undef, undef, s 10, r 11, r 12, r 13, r 14, r 15, r 16, r 17, r 18, r 19, r 20, r 21, r 22, r 23, r 24, r 25, r 26, r 27, r 28, r 29, r 30, r 31, r 32, r 33, r 34, r 35, r 36, r 37, r 38, x 0, x 1, x 2, x 3, x 4, x 5, x 6, x 7, x 8, x 9, x 10, x 11, x 12, x 13, .pointer (some ⟨wr.heap.size, 0, none⟩), x 15, x 16, x 17, x 18, x 19, x 20, x 21, x 22, x 23, x 24, x 25, x 26, x 27, x 28, x 29, x 30, x 31, x 32, x 33, x 34, x 35, x 36, x 37, x 38, x 39, x 40, x 41, x 42, r 82, r 83, r 84, r 85, r 86, r 87, r 88, r 89, r 90, r 91, r 92, r 93, r 94, r 95, undef, undef, undef, undef, undef, undef, undef, undef, undef, undef, undef, undef, undef, undef, undef, undef, undef, undef, undef, undef, undef, undef, undef, undef, undef, undef, undef, undef, undef, undef, undef, undef, undef, undef, undef, undef, undef, undef, undef, undef, undef, undef, undef, undef, undef, undef, undef, undef, undef, undef, undef, undef, undef, undef, undef, undef, undef, undef, undef, undef, undef, undef, undef], []⟩ : Act) v
              refine wpOp_step rfl (fun K' hK' => ?_)
              have q := (ov.1.keep gv).2 0 _ rfl
              go_simp
              exact hK' _ _ (hK _ _ (Below.refl _ _) (at_of rfl (rfl)))
            · obtain ⟨x, rfl⟩ := upd_of (show x 15 = .int .u8 y0 from hd 15 _ (by simp) rfl)
              show wpOp Try.prog _ _ 16 K (⟨#[s 0, .pointer (some ⟨w.heap.size, 0, none⟩), .pointer (some ⟨(w.heap.size + 1), 0, none⟩), .pointer (some ⟨(w.heap.size + 1 + 1), 0, none⟩), .int .i64 (k : Int), .pointer (some ⟨wr.heap.size, 0, none⟩), x 43, undef, undef, undef, s 10, r 11, r 12, r 13, r 14, r 15, r 16, r 17, r 18, r 19, r 20, r 21, r 22, r 23, r 24, r 25, r 26, r 27, r 28, r 29, r 30, r 31, r 32, r 33, r 34, r 35, r 36, r 37, r 38, x 0, x 1, x 2, x 3, x 4, x 5, x 6, x 7, x 8, x 9, x 10, x 11, x 12, x 13, x 14, .int .u8 y0, x 16, x 17, x 18, x 19, x 20, x 21, x 22, x 23, x 24, x 25, x 26, x 27, x 28, x 29, x 30, x 31, x 32, x 33, x 34, x 35, x 36, x 37, x 38, x 39, x 40, x 41, x 42, r 82, r 83, r 84, r 85, r 86, r 87, r 88, r 89, r 90, r 91, r 92, r 93, r 94, r 95, undef, undef, undef, undef, undef, undef, undef, undef, undef, undef, undef, undef, undef, undef, undef, undef, undef, undef, undef, undef, undef, undef, undef, undef, undef, undef, undef, undef, undef, undef, undef, undef, undef, undef, undef, undef, undef, undef, undef, undef, undef, undef, undef, undef, undef, undef, undef, undef, undef, undef, undef, undef, undef, undef, undef, undef, undef, undef, undef, undef, undef, undef, undef], []⟩ : Act) v
              refine wpOp_step rfl (fun K' hK' => ?_)
              go_simp
              exact hK' _ _ (hK _ _ (Below.refl _ _) (at_of rfl (rfl)))
            · obtain ⟨x, rfl⟩ := upd_of (show x 16 = .int .i64 y0 from hd 16 _ (by simp) rfl)
              show wpOp Try.prog _ _ 17 K (⟨#[s 0, .pointer (some ⟨w.heap.size, 0, none⟩), .pointer (some ⟨(w.heap.size + 1), 0, none⟩), .pointer (some ⟨(w.heap.size + 1 + 1), 0, none⟩), .int .i64 (k : Int), .pointer (some ⟨wr.heap.size, 0, none⟩), x 43, undef, undef, undef, s 10, r 11, r 12, r 13, r 14, r 15, r 16, r 17, r 18, r 19, r 20, r 21, r 22, r 23, r 24, r 25, r 26, r 27, r 28, r 29, r 30, r 31, r 32, r 33, r 34, r 35, r 36, r 37, r 38, x 0, x 1, x 2, x 3, x 4, x 5, x 6, x 7, x 8, x 9, x 10, x 11, x 12, x 13, x 14, x 15, .int .i64 y0, x 17, x 18, x 19, x 20, x 21, x 22, x 23, x 24, x 25, x 26, x 27, x 28, x 29, x 30, x 31, x 32, x 33, x 34, x 35, x 36, x 37, x 38, x 39, x 40, x 41, x 42, r 82, r 83, r 84, r 85, r 86, r 87, r 88, r 89, r 90, r 91, r 92, r 93, r 94, r 95, undef, undef, undef, undef, undef, undef, undef, undef, undef, undef, undef, undef, undef, undef, undef, undef, undef, undef, undef, undef, undef, undef, undef, undef, undef, undef, undef, undef, undef, undef, undef, undef, undef, undef, undef, undef, undef, undef, undef, undef, undef, undef, undef, undef, undef, undef, undef, undef, undef, undef, undef, undef, undef, undef, undef, undef, undef, undef, undef, undef, undef, undef, undef], []⟩ : Act) v
              refine wpOp_step rfl (fun K' hK' => ?_)
              go_simp
              exact hK' _ _ (hK _ _ (Below.refl _ _) (at_of rfl (rfl)))
            · obtain ⟨x, rfl⟩ := upd_of (show x 13 = .int .i64 (50 + y2) from hd 13 _ (by simp) rfl)
              obtain ⟨x, rfl⟩ := upd_of (show x 17 = .int .i64 (y0 / 8) from hd 17 _ (by simp) rfl)
              show wpOp Try.prog _ _ 18 K (⟨#[s 0, .pointer (some ⟨w.heap.size, 0, none⟩), .pointer (some ⟨(w.heap.size + 1), 0, none⟩), .pointer (some ⟨(w.heap.size + 1 + 1), 0, none⟩), .int .i64 (k : Int), .pointer (some ⟨wr.heap.size, 0, none⟩), x 43, undef, undef, undef, s 10, r 11, r 12, r 13, r 14, r 15, r 16, r 17, r 18, r 19, r 20, r 21, r 22, r 23, r 24, r 25, r 26, r 27, r 28, r 29, r 30, r 31, r 32, r 33, r 34, r 35, r 36, r 37, r 38, x 0, x 1, x 2, x 3, x 4, x 5, x 6, x 7, x 8, x 9, x 10, x 11, x 12, .int .i64 (50 + y2), x 14, x 15, x 16, .int .i64 (y0 / 8), x 18, x 19, x 20, x 21, x 22, x 23, x 24, x 25, x 26, x 27, x 28, x 29, x 30, x 31, x 32, x 33, x 34, x 35, x 36, x 37, x 38, x 39, x 40, x 41, x 42, r 82, r 83, r 84, r 85, r 86, r 87, r 88, r 89, r 90, r 91, r 92, r 93, r 94, r 95, undef, undef, undef, undef, undef, undef, undef, undef, undef, undef, undef, undef, undef, undef, undef, undef, undef, undef, undef, undef, undef, undef, undef, undef, undef, undef, undef, undef, undef, undef, undef, undef, undef, undef, undef, undef, undef, undef, undef, undef, undef, undef, undef, undef, undef, undef, undef, undef, undef, undef, undef, undef, undef, undef, undef, undef, undef, undef, undef, undef, undef, undef, undef], []⟩ : Act) v
              refine wpOp_step rfl (fun K' hK' => ?_)
              go_simp
              exact hK' _ _ (hK _ _ (Below.refl _ _) (at_of rfl (rfl)))
            · obtain ⟨x, rfl⟩ := upd_of (show x 9 = .int .i64 (50 + y2) from hd 9 _ (by simp) rfl)
              obtain ⟨x, rfl⟩ := upd_of (show x 18 = .int .i64 ((50 + y2) + (y0 / 8)) from hd 18 _ (by simp) rfl)
              show wpOp Try.prog _ _ 19 K (⟨#[s 0, .pointer (some ⟨w.heap.size, 0, none⟩), .pointer (some ⟨(w.heap.size + 1), 0, none⟩), .pointer (some ⟨(w.heap.size + 1 + 1), 0, none⟩), .int .i64 (k : Int), .pointer (some ⟨wr.heap.size, 0, none⟩), x 43, undef, undef, undef, s 10, r 11, r 12, r 13, r 14, r 15, r 16, r 17, r 18, r 19, r 20, r 21, r 22, r 23, r 24, r 25, r 26, r 27, r 28, r 29, r 30, r 31, r 32, r 33, r 34, r 35, r 36, r 37, r 38, x 0, x 1, x 2, x 3, x 4, x 5, x 6, x 7, x 8, .int .i64 (50 + y2), x 10, x 11, x 12, x 13, x 14, x 15, x 16, x 17, .int .i64 ((50 + y2) + (y0 / 8)), x 19, x 20, x 21, x 22, x 23, x 24, x 25, x 26, x 27, x 28, x 29, x 30, x 31, x 32, x 33, x 34, x 35, x 36, x 37, x 38, x 39, x 40, x 41, x 42, r 82, r 83, r 84, r 85, r 86, r 87, r 88, r 89, r 90, r 91, r 92, r 93, r 94, r 95, undef, undef, undef, undef, undef, undef, undef, undef, undef, undef, undef, undef, undef, undef, undef, undef, undef, undef, undef, undef, undef, undef, undef, undef, undef, undef, undef, undef, undef, undef, undef, undef, undef, undef, undef, undef, undef, undef, undef, undef, undef, undef, undef, undef, undef, undef, undef, undef, undef, undef, undef, undef, undef, undef, undef, undef, undef, undef, undef, undef, undef, undef, undef], []⟩ : Act) v
              refine wpOp_step rfl (fun K' hK' => ?_)
              go_simp
              refine (armSpan_any (50 + y2) ((50 + y2) + (y0 / 8)) v).mono ?_
              rintro e v' ⟨rfl, hg⟩
              exact hK' _ _ (hK _ _ hg (at_of rfl (rfl)))
            · show wpOp Try.prog _ _ 20 K (⟨#[s 0, .pointer (some ⟨w.heap.size, 0, none⟩), .pointer (some ⟨(w.heap.size + 1), 0, none⟩), .pointer (some ⟨(w.heap.size + 1 + 1), 0, none⟩), .int .i64 (k : Int), .pointer (some ⟨wr.heap.size, 0, none⟩), x 43, undef, undef, undef, s 10, r 11, r 12, r 13, r 14, r 15, r 16, r 17, r 18, r 19, r 20, r 21, r 22, r 23, r 24, r 25, r 26, r 27, r 28, r 29, r 30, r 31, r 32, r 33, r 34, r 35, r 36, r 37, r 38, x 0, x 1, x 2, x 3, x 4, x 5, x 6, x 7, x 8, x 9, x 10, x 11, x 12, x 13, x 14, x 15, x 16, x 17, x 18, x 19, x 20, x 21, x 22, x 23, x 24, x 25, x 26, x 27, x 28, x 29, x 30, x 31, x 32, x 33, x 34, x 35, x 36, x 37, x 38, x 39, x 40, x 41, x 42, r 82, r 83, r 84, r 85, r 86, r 87, r 88, r 89, r 90, r 91, r 92, r 93, r 94, r 95, undef, undef, undef, undef, undef, undef, undef, undef, undef, undef, undef, undef, undef, undef, undef, undef, undef, undef, undef, undef, undef, undef, undef, undef, undef, undef, undef, undef, undef, undef, undef, undef, undef, undef, undef, undef, undef, undef, undef, undef, undef, undef, undef, undef, undef, undef, undef, undef, undef, undef, undef, undef, undef, undef, undef, undef, undef, undef, undef, undef, undef, undef, undef], []⟩ : Act) v
              refine wpOp_step rfl (fun K' hK' => ?_)
              go_simp
              exact hK' _ _ (hK _ _ (Below.refl _ _) (at_of rfl (rfl)))
            · obtain ⟨x, rfl⟩ := upd_of (show x 20 = .pointer (some ⟨wr.heap.size, 3, none⟩) from hd 20 _ (by simp) rfl)
              show wpOp Try.prog _ _ 21 K (⟨#[s 0, .pointer (some ⟨w.heap.size, 0, none⟩), .pointer (some ⟨(w.heap.size + 1), 0, none⟩), .pointer (some ⟨(w.heap.size + 1 + 1), 0, none⟩), .int .i64 (k : Int), .pointer (some ⟨wr.heap.size, 0, none⟩), x 43, undef, undef, undef, s 10, r 11, r 12, r 13, r 14, r 15, r 16, r 17, r 18, r 19, r 20, r 21, r 22, r 23, r 24, r 25, r 26, r 27, r 28, r 29, r 30, r 31, r 32, r 33, r 34, r 35, r 36, r 37, r 38, x 0, x 1, x 2, x 3, x 4, x 5, x 6, x 7, x 8, x 9, x 10, x 11, x 12, x 13, x 14, x 15, x 16, x 17, x 18, x 19, .pointer (some ⟨wr.heap.size, 3, none⟩), x 21, x 22, x 23, x 24, x 25, x 26, x 27, x 28, x 29, x 30, x 31, x 32, x 33, x 34, x 35, x 36, x 37, x 38, x 39, x 40, x 41, x 42, r 82, r 83, r 84, r 85, r 86, r 87, r 88, r 89, r 90, r 91, r 92, r 93, r 94, r 95, undef, undef, undef, undef, undef, undef, undef, undef, undef, undef, undef, undef, undef, undef, undef, undef, undef, undef, undef, undef, undef, undef, undef, undef, undef, undef, undef, undef, undef, undef, undef, undef, undef, undef, undef, undef, undef, undef, undef, undef, undef, undef, undef, undef, undef, undef, undef, undef, undef, undef, undef, undef, undef, undef, undef, undef, undef, undef, undef, undef, undef, undef, undef], []⟩ : Act) v
              refine wpOp_step rfl (fun K' hK' => ?_)
              have q := (ov.1.keep gv).2 3 _ rfl
              go_simp
              exact hK' _ _ (hK _ _ (Below.refl _ _) (at_of rfl (rfl)))
            · obtain ⟨x, rfl⟩ := upd_of (show x 21 = .int .u8 y3 from hd 21 _ (by simp) rfl)
              show wpOp Try.prog _ _ 22 K (⟨#[s 0, .pointer (some ⟨w.heap.size, 0, none⟩), .pointer (some ⟨(w.heap.size + 1), 0, none⟩), .pointer (some ⟨(w.heap.size + 1 + 1), 0, none⟩), .int .i64 (k : Int), .pointer (some ⟨wr.heap.size, 0, none⟩), x 43, undef, undef, undef, s 10, r 11, r 12, r 13, r 14, r 15, r 16, r 17, r 18, r 19, r 20, r 21, r 22, r 23, r 24, r 25, r 26, r 27, r 28, r 29, r 30, r 31, r 32, r 33, r 34, r 35, r 36, r 37, r 38, x 0, x 1, x 2, x 3, x 4, x 5, x 6, x 7, x 8, x 9, x 10, x 11, x 12, x 13, x 14, x 15, x 16, x 17, x 18, x 19, x 20, .int .u8 y3, x 22, x 23, x 24, x 25, x 26, x 27, x 28, x 29, x 30, x 31, x 32, x 33, x 34, x 35, x 36, x 37, x 38, x 39, x 40, x 41, x 42, r 82, r 83, r 84, r 85, r 86, r 87, r 88, r 89, r 90, r 91, r 92, r 93, r 94, r 95, undef, undef, undef, undef, undef, undef, undef, undef, undef, undef, undef, undef, undef, undef, undef, undef, undef, undef, undef, undef, undef, undef, undef, undef, undef, undef, undef, undef, undef, undef, undef, undef, undef, undef, undef, undef, undef, undef, undef, undef, undef, undef, undef, undef, undef, undef, undef, undef, undef, undef, undef, undef, undef, undef, undef, undef, undef, undef, undef, undef, undef, undef, undef], []⟩ : Act) v
              refine wpOp_step rfl (fun K' hK' => ?_)
              go_simp
              exact hK' _ _ (hK _ _ (Below.refl _ _) (at_of rfl (rfl)))
            · obtain ⟨x, rfl⟩ := upd_of (show x 22 = .int .i64 y3 from hd 22 _ (by simp) rfl)
              show wpOp Try.prog _ _ 23 K (⟨#[s 0, .pointer (some ⟨w.heap.size, 0, none⟩), .pointer (some ⟨(w.heap.size + 1), 0, none⟩), .pointer (some ⟨(w.heap.size + 1 + 1), 0, none⟩), .int .i64 (k : Int), .pointer (some ⟨wr.heap.size, 0, none⟩), x 43, undef, undef, undef, s 10, r 11, r 12, r 13, r 14, r 15, r 16, r 17, r 18, r 19, r 20, r 21, r 22, r 23, r 24, r 25, r 26, r 27, r 28, r 29, r 30, r 31, r 32, r 33, r 34, r 35, r 36, r 37, r 38, x 0, x 1, x 2, x 3, x 4, x 5, x 6, x 7, x 8, x 9, x 10, x 11, x 12, x 13, x 14, x 15, x 16, x 17, x 18, x 19, x 20, x 21, .int .i64 y3, x 23, x 24, x 25, x 26, x 27, x 28, x 29, x 30, x 31, x 32, x 33, x 34, x 35, x 36, x 37, x 38, x 39, x 40, x 41, x 42, r 82, r 83, r 84, r 85, r 86, r 87, r 88, r 89, r 90, r 91, r 92, r 93, r 94, r 95, undef, undef, undef, undef, undef, undef, undef, undef, undef, undef, undef, undef, undef, undef, undef, undef, undef, undef, undef, undef, undef, undef, undef, undef, undef, undef, undef, undef, undef, undef, undef, undef, undef, undef, undef, undef, undef, undef, undef, undef, undef, undef, undef, undef, undef, undef, undef, undef, undef, undef, undef, undef, undef, undef, undef, undef, undef, undef, undef, undef, undef, undef, undef], []⟩ : Act) v
              refine wpOp_step rfl (fun K' hK' => ?_)
              go_simp
              exact hK' _ _ (hK _ _ (Below.refl _ _) (at_of rfl (rfl)))
            · show wpOp Try.prog _ _ 24 K (⟨#[s 0, .pointer (some ⟨w.heap.size, 0, none⟩), .pointer (some ⟨(w.heap.size + 1), 0, none⟩), .pointer (some ⟨(w.heap.size + 1 + 1), 0, none⟩), .int .i64 (k : Int), .pointer (some ⟨wr.heap.size, 0, none⟩), x 43, undef, undef, undef, s 10, r 11, r 12, r 13, r 14, r 15, r 16, r 17, r 18, r 19, r 20, r 21, r 22, r 23, r 24, r 25, r 26, r 27, r 28, r 29, r 30, r 31, r 32, r 33, r 34, r 35, r 36, r 37, r 38, x 0, x 1, x 2, x 3, x 4, x 5, x 6, x 7, x 8, x 9, x 10, x 11, x 12, x 13, x 14, x 15, x 16, x 17, x 18, x 19, x 20, x 21, x 22, x 23, x 24, x 25, x 26, x 27, x 28, x 29, x 30, x 31, x 32, x 33, x 34, x 35, x 36, x 37, x 38, x 39, x 40, x 41, x 42, r 82, r 83, r 84, r 85, r 86, r 87, r 88, r 89, r 90, r 91, r 92, r 93, r 94, r 95, undef, undef, undef, undef, undef, undef, undef, undef, undef, undef, undef, undef, undef, undef, undef, undef, undef, undef, undef, undef, undef, undef, undef, undef, undef, undef, undef, undef, undef, undef, undef, undef, undef, undef, undef, undef, undef, undef, undef, undef, undef, undef, undef, undef, undef, undef, undef, undef, undef, undef, undef, undef, undef, undef, undef, undef, undef, undef, undef, undef, undef, undef, undef], []⟩ : Act) v
              refine wpOp_step rfl (fun K' hK' => ?_)
              go_simp
              exact hK' _ _ (hK _ _ (Below.refl _ _) (at_of rfl (rfl)))
            · obtain ⟨x, rfl⟩ := upd_of (show x 24 = .pointer (some ⟨wr.heap.size, 3, none⟩) from hd 24 _ (by simp) rfl)
              show wpOp Try.prog _ _ 25 K (⟨#[s 0, .pointer (some ⟨w.heap.size, 0, none⟩), .pointer (some ⟨(w.heap.size + 1), 0, none⟩), .pointer (some ⟨(w.heap.size + 1 + 1), 0, none⟩), .int .i64 (k : Int), .pointer (some ⟨wr.heap.size, 0, none⟩), x 43, undef, undef, undef, s 10, r 11, r 12, r 13, r 14, r 15, r 16, r 17, r 18, r 19, r 20, r 21, r 22, r 23, r 24, r 25, r 26, r 27, r 28, r 29, r 30, r 31, r 32, r 33, r 34, r 35, r 36, r 37, r 38, x 0, x 1, x 2, x 3, x 4, x 5, x 6, x 7, x 8, x 9, x 10, x 11, x 12, x 13, x 14, x 15, x 16, x 17, x 18, x 19, x 20, x 21, x 22, x 23, .pointer (some ⟨wr.heap.size, 3, none⟩), x 25, x 26, x 27, x 28, x 29, x 30, x 31, x 32, x 33, x 34, x 35, x 36, x 37, x 38, x 39, x 40, x 41, x 42, r 82, r 83, r 84, r 85, r 86, r 87, r 88, r 89, r 90, r 91, r 92, r 93, r 94, r 95, undef, undef, undef, undef, undef, undef, undef, undef, undef, undef, undef, undef, undef, undef, undef, undef, undef, undef, undef, undef, undef, undef, undef, undef, undef, undef, undef, undef, undef, undef, undef, undef, undef, undef, undef, undef, undef, undef, undef, undef, undef, undef, undef, undef, undef, undef, undef, undef, undef, undef, undef, undef, undef, undef, undef, undef, undef, undef, undef, undef, undef, undef, undef], []⟩ : Act) v
              refine wpOp_step rfl (fun K' hK' => ?_)
              have q := (ov.1.keep gv).2 3 _ rfl
              go_simp
              exact hK' _ _ (hK _ _ (Below.refl _ _) (at_of rfl (rfl)))
            · obtain ⟨x, rfl⟩ := upd_of (show x 25 = .int .u8 y3 from hd 25 _ (by simp) rfl)
              show wpOp Try.prog _ _ 26 K (⟨#[s 0, .pointer (some ⟨w.heap.size, 0, none⟩), .pointer (some ⟨(w.heap.size + 1), 0, none⟩), .pointer (some ⟨(w.heap.size + 1 + 1), 0, none⟩), .int .i64 (k : Int), .pointer (some ⟨wr.heap.size, 0, none⟩), x 43, undef, undef, undef, s 10, r 11, r 12, r 13, r 14, r 15, r 16, r 17, r 18, r 19, r 20, r 21, r 22, r 23, r 24, r 25, r 26, r 27, r 28, r 29, r 30, r 31, r 32, r 33, r 34, r 35, r 36, r 37, r 38, x 0, x 1, x 2, x 3, x 4, x 5, x 6, x 7, x 8, x 9, x 10, x 11, x 12, x 13, x 14, x 15, x 16, x 17, x 18, x 19, x 20, x 21, x 22, x 23, x 24, .int .u8 y3, x 26, x 27, x 28, x 29, x 30, x 31, x 32, x 33, x 34, x 35, x 36, x 37, x 38, x 39, x 40, x 41, x 42, r 82, r 83, r 84, r 85, r 86, r 87, r 88, r 89, r 90, r 91, r 92, r 93, r 94, r 95, undef, undef, undef, undef, undef, undef, undef, undef, undef, undef, undef, undef, undef, undef, undef, undef, undef, undef, undef, undef, undef, undef, undef, undef, undef, undef, undef, undef, undef, undef, undef, undef, undef, undef, undef, undef, undef, undef, undef, undef, undef, undef, undef, undef, undef, undef, undef, undef, undef, undef, undef, undef, undef, undef, undef, undef, undef, undef, undef, undef, undef, undef, undef], []⟩ : Act) v
              refine wpOp_step rfl (fun K' hK' => ?_)
              go_simp
              exact hK' _ _ (hK _ _ (Below.refl _ _) (at_of rfl (rfl)))
            · obtain ⟨x, rfl⟩ := upd_of (show x 26 = .int .i64 y3 from hd 26 _ (by simp) rfl)
              show wpOp Try.prog _ _ 27 K (⟨#[s 0, .pointer (some ⟨w.heap.size, 0, none⟩), .pointer (some ⟨(w.heap.size + 1), 0, none⟩), .pointer (some ⟨(w.heap.size + 1 + 1), 0, none⟩), .int .i64 (k : Int), .pointer (some ⟨wr.heap.size, 0, none⟩), x 43, undef, undef, undef, s 10, r 11, r 12, r 13, r 14, r 15, r 16, r 17, r 18, r 19, r 20, r 21, r 22, r 23, r 24, r 25, r 26, r 27, r 28, r 29, r 30, r 31, r 32, r 33, r 34, r 35, r 36, r 37, r 38, x 0, x 1, x 2, x 3, x 4, x 5, x 6, x 7, x 8, x 9, x 10, x 11, x 12, x 13, x 14, x 15, x 16, x 17, x 18, x 19, x 20, x 21, x 22, x 23, x 24, x 25, .int .i64 y3, x 27, x 28, x 29, x 30, x 31, x 32, x 33, x 34, x 35, x 36, x 37, x 38, x 39, x 40, x 41, x 42, r 82, r 83, r 84, r 85, r 86, r 87, r 88, r 89, r 90, r 91, r 92, r 93, r 94, r 95, undef, undef, undef, undef, undef, undef, undef, undef, undef, undef, undef, undef, undef, undef, undef, undef, undef, undef, undef, undef, undef, undef, undef, undef, undef, undef, undef, undef, undef, undef, undef, undef, undef, undef, undef, undef, undef, undef, undef, undef, undef, undef, undef, undef, undef, undef, undef, undef, undef, undef, undef, undef, undef, undef, undef, undef, undef, undef, undef, undef, undef, undef, undef], []⟩ : Act) v
              refine wpOp_step rfl (fun K' hK' => ?_)
              go_simp
              exact hK' _ _ (hK _ _ (Below.refl _ _) (at_of rfl (rfl)))
            · show wpOp Try.prog _ _ 28 K (⟨#[s 0, .pointer (some ⟨w.heap.size, 0, none⟩), .pointer (some ⟨(w.heap.size + 1), 0, none⟩), .pointer (some ⟨(w.heap.size + 1 + 1), 0, none⟩), .int .i64 (k : Int), .pointer (some ⟨wr.heap.size, 0, none⟩), x 43, undef, undef, undef, s 10, r 11, r 12, r 13, r 14, r 15, r 16, r 17, r 18, r 19, r 20, r 21, r 22, r 23, r 24, r 25, r 26, r 27, r 28, r 29, r 30, r 31, r 32, r 33, r 34, r 35, r 36, r 37, r 38, x 0, x 1, x 2, x 3, x 4, x 5, x 6, x 7, x 8, x 9, x 10, x 11, x 12, x 13, x 14, x 15, x 16, x 17, x 18, x 19, x 20, x 21, x 22, x 23, x 24, x 25, x 26, x 27, x 28, x 29, x 30, x 31, x 32, x 33, x 34, x 35, x 36, x 37, x 38, x 39, x 40, x 41, x 42, r 82, r 83, r 84, r 85, r 86, r 87, r 88, r 89, r 90, r 91, r 92, r 93, r 94, r 95, undef, undef, undef, undef, undef, undef, undef, undef, undef, undef, undef, undef, undef, undef, undef, undef, undef, undef, undef, undef, undef, undef, undef, undef, undef, undef, undef, undef, undef, undef, undef, undef, undef, undef, undef, undef, undef, undef, undef, undef, undef, undef, undef, undef, undef, undef, undef, undef, undef, undef, undef, undef, undef, undef, undef, undef, undef, undef, undef, undef, undef, undef, undef], []⟩ : Act) v
              refine wpOp_step rfl (fun K' hK' => ?_)
              go_simp
              exact hK' _ _ (hK _ _ (Below.refl _ _) (at_of rfl (rfl)))
            · obtain ⟨x, rfl⟩ := upd_of (show x 28 = .pointer (some ⟨wr.heap.size, 3, none⟩) from hd 28 _ (by simp) rfl)
              show wpOp Try.prog _ _ 29 K (⟨#[s 0, .pointer (some ⟨w.heap.size, 0, none⟩), .pointer (some ⟨(w.heap.size + 1), 0, none⟩), .pointer (some ⟨(w.heap.size + 1 + 1), 0, none⟩), .int .i64 (k : Int), .pointer (some ⟨wr.heap.size, 0, none⟩), x 43, undef, undef, undef, s 10, r 11, r 12, r 13, r 14, r 15, r 16, r 17, r 18, r 19, r 20, r 21, r 22, r 23, r 24, r 25, r 26, r 27, r 28, r 29, r 30, r 31, r 32, r 33, r 34, r 35, r 36, r 37, r 38, x 0, x 1, x 2, x 3, x 4, x 5, x 6, x 7, x 8, x 9, x 10, x 11, x 12, x 13, x 14, x 15, x 16, x 17, x 18, x 19, x 20, x 21, x 22, x 23, x 24, x 25, x 26, x 27, .pointer (some ⟨wr.heap.size, 3, none⟩), x 29, x 30, x 31, x 32, x 33, x 34, x 35, x 36, x 37, x 38, x 39, x 40, x 41, x 42, r 82, r 83, r 84, r 85, r 86, r 87, r 88, r 89, r 90, r 91, r 92, r 93, r 94, r 95, undef, undef, undef, undef, undef, undef, undef, undef, undef, undef, undef, undef, undef, undef, undef, undef, undef, undef, undef, undef, undef, undef, undef, undef, undef, undef, undef, undef, undef, undef, undef, undef, undef, undef, undef, undef, undef, undef, undef, undef, undef, undef, undef, undef, undef, undef, undef, undef, undef, undef, undef, undef, undef, undef, undef, undef, undef, undef, undef, undef, undef, undef, undef], []⟩ : Act) v
              refine wpOp_step rfl (fun K' hK' => ?_)
              have q := (ov.1.keep gv).2 3 _ rfl
              go_simp
              exact hK' _ _ (hK _ _ (Below.refl _ _) (at_of rfl (rfl)))
            · obtain ⟨x, rfl⟩ := upd_of (show x 29 = .int .u8 y3 from hd 29 _ (by simp) rfl)
              show wpOp Try.prog _ _ 30 K (⟨#[s 0, .pointer (some ⟨w.heap.size, 0, none⟩), .pointer (some ⟨(w.heap.size + 1), 0, none⟩), .pointer (some ⟨(w.heap.size + 1 + 1), 0, none⟩), .int .i64 (k : Int), .pointer (some ⟨wr.heap.size, 0, none⟩), x 43, undef, undef, undef, s 10, r 11, r 12, r 13, r 14, r 15, r 16, r 17, r 18, r 19, r 20, r 21, r 22, r 23, r 24, r 25, r 26, r 27, r 28, r 29, r 30, r 31, r 32, r 33, r 34, r 35, r 36, r 37, r 38, x 0, x 1, x 2, x 3, x 4, x 5, x 6, x 7, x 8, x 9, x 10, x 11, x 12, x 13, x 14, x 15, x 16, x 17, x 18, x 19, x 20, x 21, x 22, x 23, x 24, x 25, x 26, x 27, x 28, .int .u8 y3, x 30, x 31, x 32, x 33, x 34, x 35, x 36, x 37, x 38, x 39, x 40, x 41, x 42, r 82, r 83, r 84, r 85, r 86, r 87, r 88, r 89, r 90, r 91, r 92, r 93, r 94, r 95, undef, undef, undef, undef, undef, undef, undef, undef, undef, undef, undef, undef, undef, undef, undef, undef, undef, undef, undef, undef, undef, undef, undef, undef, undef, undef, undef, undef, undef, undef, undef, undef, undef, undef, undef, undef, undef, undef, undef, undef, undef, undef, undef, undef, undef, undef, undef, undef, undef, undef, undef, undef, undef, undef, undef, undef, undef, undef, undef, undef, undef, undef, undef], []⟩ : Act) v
              refine wpOp_step rfl (fun K' hK' => ?_)
              go_simp
              exact hK' _ _ (hK _ _ (Below.refl _ _) (at_of rfl (rfl)))
            · obtain ⟨x, rfl⟩ := upd_of (show x 30 = .int .i64 y3 from hd 30 _ (by simp) rfl)
              show wpOp Try.prog _ _ 31 K (⟨#[s 0, .pointer (some ⟨w.heap.size, 0, none⟩), .pointer (some ⟨(w.heap.size + 1), 0, none⟩), .pointer (some ⟨(w.heap.size + 1 + 1), 0, none⟩), .int .i64 (k : Int), .pointer (some ⟨wr.heap.size, 0, none⟩), x 43, undef, undef, undef, s 10, r 11, r 12, r 13, r 14, r 15, r 16, r 17, r 18, r 19, r 20, r 21, r 22, r 23, r 24, r 25, r 26, r 27, r 28, r 29, r 30, r 31, r 32, r 33, r 34, r 35, r 36, r 37, r 38, x 0, x 1, x 2, x 3, x 4, x 5, x 6, x 7, x 8, x 9, x 10, x 11, x 12, x 13, x 14, x 15, x 16, x 17, x 18, x 19, x 20, x 21, x 22, x 23, x 24, x 25, x 26, x 27, x 28, x 29, .int .i64 y3, x 31, x 32, x 33, x 34, x 35, x 36, x 37, x 38, x 39, x 40, x 41, x 42, r 82, r 83, r 84, r 85, r 86, r 87, r 88, r 89, r 90, r 91, r 92, r 93, r 94, r 95, undef, undef, undef, undef, undef, undef, undef, undef, undef, undef, undef, undef, undef, undef, undef, undef, undef, undef, undef, undef, undef, undef, undef, undef, undef, undef, undef, undef, undef, undef, undef, undef, undef, undef, undef, undef, undef, undef, undef, undef, undef, undef, undef, undef, undef, undef, undef, undef, undef, undef, undef, undef, undef, undef, undef, undef, undef, undef, undef, undef, undef, undef, undef], []⟩ : Act) v
              refine wpOp_step rfl (fun K' hK' => ?_)
              go_simp
              exact hK' _ _ (hK _ _ (Below.refl _ _) (at_of rfl (rfl)))
            · obtain ⟨x, rfl⟩ := upd_of (show x 27 = .int .i64 (y3 % 100) from hd 27 _ (by simp) rfl)
              obtain ⟨x, rfl⟩ := upd_of (show x 31 = .int .i64 (y3 / 16) from hd 31 _ (by simp) rfl)
              show wpOp Try.prog _ _ 32 K (⟨#[s 0, .pointer (some ⟨w.heap.size, 0, none⟩), .pointer (some ⟨(w.heap.size + 1), 0, none⟩), .pointer (some ⟨(w.heap.size + 1 + 1), 0, none⟩), .int .i64 (k : Int), .pointer (some ⟨wr.heap.size, 0, none⟩), x 43, undef, undef, undef, s 10, r 11, r 12, r 13, r 14, r 15, r 16, r 17, r 18, r 19, r 20, r 21, r 22, r 23, r 24, r 25, r 26, r 27, r 28, r 29, r 30, r 31, r 32, r 33, r 34, r 35, r 36, r 37, r 38, x 0, x 1, x 2, x 3, x 4, x 5, x 6, x 7, x 8, x 9, x 10, x 11, x 12, x 13, x 14, x 15, x 16, x 17, x 18, x 19, x 20, x 21, x 22, x 23, x 24, x 25, x 26, .int .i64 (y3 % 100), x 28, x 29, x 30, .int .i64 (y3 / 16), x 32, x 33, x 34, x 35, x 36, x 37, x 38, x 39, x 40, x 41, x 42, r 82, r 83, r 84, r 85, r 86, r 87, r 88, r 89, r 90, r 91, r 92, r 93, r 94, r 95, undef, undef, undef, undef, undef, undef, undef, undef, undef, undef, undef, undef, undef, undef, undef, undef, undef, undef, undef, undef, undef, undef, undef, undef, undef, undef, undef, undef, undef, undef, undef, undef, undef, undef, undef, undef, undef, undef, undef, undef, undef, undef, undef, undef, undef, undef, undef, undef, undef, undef, undef, undef, undef, undef, undef, undef, undef, undef, undef, undef, undef, undef, undef], []⟩ : Act) v
              refine wpOp_step rfl (fun K' hK' => ?_)
              go_simp
              exact hK' _ _ (hK _ _ (Below.refl _ _) (at_of rfl (rfl)))
            · obtain ⟨x, rfl⟩ := upd_of (show x 23 = .int .i64 (y3 % 100) from hd 23 _ (by simp) rfl)
              obtain ⟨x, rfl⟩ := upd_of (show x 32 = .int .i64 ((y3 % 100) + (y3 / 16)) from hd 32 _ (by simp) rfl)
              show wpOp Try.prog _ _ 33 K (⟨#[s 0, .pointer (some ⟨w.heap.size, 0, none⟩), .pointer (some ⟨(w.heap.size + 1), 0, none⟩), .pointer (some ⟨(w.heap.size + 1 + 1), 0, none⟩), .int .i64 (k : Int), .pointer (some ⟨wr.heap.size, 0, none⟩), x 43, undef, undef, undef, s 10, r 11, r 12, r 13, r 14, r 15, r 16, r 17, r 18, r 19, r 20, r 21, r 22, r 23, r 24, r 25, r 26, r 27, r 28, r 29, r 30, r 31, r 32, r 33, r 34, r 35, r 36, r 37, r 38, x 0, x 1, x 2, x 3, x 4, x 5, x 6, x 7, x 8, x 9, x 10, x 11, x 12, x 13, x 14, x 15, x 16, x 17, x 18, x 19, x 20, x 21, x 22, .int .i64 (y3 % 100), x 24, x 25, x 26, x 27, x 28, x 29, x 30, x 31, .int .i64 ((y3 % 100) + (y3 / 16)), x 33, x 34, x 35, x 36, x 37, x 38, x 39, x 40, x 41, x 42, r 82, r 83, r 84, r 85, r 86, r 87, r 88, r 89, r 90, r 91, r 92, r 93, r 94, r 95, undef, undef, undef, undef, undef, undef, undef, undef, undef, undef, undef, undef, undef, undef, undef, undef, undef, undef, undef, undef, undef, undef, undef, undef, undef, undef, undef, undef, undef, undef, undef, undef, undef, undef, undef, undef, undef, undef, undef, undef, undef, undef, undef, undef, undef, undef, undef, undef, undef, undef, undef, undef, undef, undef, undef, undef, undef, undef, undef, undef, undef, undef, undef], []⟩ : Act) v
              refine wpOp_step rfl (fun K' hK' => ?_)
              go_simp
              refine (armSpan_any (y3 % 100) ((y3 % 100) + (y3 / 16)) v).mono ?_
              rintro e v' ⟨rfl, hg⟩
              exact hK' _ _ (hK _ _ hg (at_of rfl (rfl)))
            · show wpOp Try.prog _ _ 34 K (⟨#[s 0, .pointer (some ⟨w.heap.size, 0, none⟩), .pointer (some ⟨(w.heap.size + 1), 0, none⟩), .pointer (some ⟨(w.heap.size + 1 + 1), 0, none⟩), .int .i64 (k : Int), .pointer (some ⟨wr.heap.size, 0, none⟩), x 43, undef, undef, undef, s 10, r 11, r 12, r 13, r 14, r 15, r 16, r 17, r 18, r 19, r 20, r 21, r 22, r 23, r 24, r 25, r 26, r 27, r 28, r 29, r 30, r 31, r 32, r 33, r 34, r 35, r 36, r 37, r 38, x 0, x 1, x 2, x 3, x 4, x 5, x 6, x 7, x 8, x 9, x 10, x 11, x 12, x 13, x 14, x 15, x 16, x 17, x 18, x 19, x 20, x 21, x 22, x 23, x 24, x 25, x 26, x 27, x 28, x 29, x 30, x 31, x 32, x 33, x 34, x 35, x 36, x 37, x 38, x 39, x 40, x 41, x 42, r 82, r 83, r 84, r 85, r 86, r 87, r 88, r 89, r 90, r 91, r 92, r 93, r 94, r 95, undef, undef, undef, undef, undef, undef, undef, undef, undef, undef, undef, undef, undef, undef, undef, undef, undef, undef, undef, undef, undef, undef, undef, undef, undef, undef, undef, undef, undef, undef, undef, undef, undef, undef, undef, undef, undef, undef, undef, undef, undef, undef, undef, undef, undef, undef, undef, undef, undef, undef, undef, undef, undef, undef, undef, undef, undef, undef, undef, undef, undef, undef, undef], []⟩ : Act) v
              refine wpOp_step rfl (fun K' hK' => ?_)
              go_simp
              exact hK' _ _ (hK _ _ (Below.refl _ _) (at_of rfl (rfl)))
            · obtain ⟨x, rfl⟩ := upd_of (show x 34 = .pointer (some ⟨wr.heap.size, 4, none⟩) from hd 34 _ (by simp) rfl)
              show wpOp Try.prog _ _ 35 K (⟨#[s 0, .pointer (some ⟨w.heap.size, 0, none⟩), .pointer (some ⟨(w.heap.size + 1), 0, none⟩), .pointer (some ⟨(w.heap.size + 1 + 1), 0, none⟩), .int .i64 (k : Int), .pointer (some ⟨wr.heap.size, 0, none⟩), x 43, undef, undef, undef, s 10, r 11, r 12, r 13, r 14, r 15, r 16, r 17, r 18, r 19, r 20, r 21, r 22, r 23, r 24, r 25, r 26, r 27, r 28, r 29, r 30, r 31, r 32, r 33, r 34, r 35, r 36, r 37, r 38, x 0, x 1, x 2, x 3, x 4, x 5, x 6, x 7, x 8, x 9, x 10, x 11, x 12, x 13, x 14, x 15, x 16, x 17, x 18, x 19, x 20, x 21, x 22, x 23, x 24, x 25, x 26, x 27, x 28, x 29, x 30, x 31, x 32, x 33, .pointer (some ⟨wr.heap.size, 4, none⟩), x 35, x 36, x 37, x 38, x 39, x 40, x 41, x 42, r 82, r 83, r 84, r 85, r 86, r 87, r 88, r 89, r 90, r 91, r 92, r 93, r 94, r 95, undef, undef, undef, undef, undef, undef, undef, undef, undef, undef, undef, undef, undef, undef, undef, undef, undef, undef, undef, undef, undef, undef, undef, undef, undef, undef, undef, undef, undef, undef, undef, undef, undef, undef, undef, undef, undef, undef, undef, undef, undef, undef, undef, undef, undef, undef, undef, undef, undef, undef, undef, undef, undef, undef, undef, undef, undef, undef, undef, undef, undef, undef, undef], []⟩ : Act) v
              refine wpOp_step rfl (fun K' hK' => ?_)
              have q := (ov.1.keep gv).2 4 _ rfl
              go_simp
              exact hK' _ _ (hK _ _ (Below.refl _ _) (at_of rfl (rfl)))
            · obtain ⟨x, rfl⟩ := upd_of (show x 35 = .int .u8 y4 from hd 35 _ (by simp) rfl)
              show wpOp Try.prog _ _ 36 K (⟨#[s 0, .pointer (some ⟨w.heap.size, 0, none⟩), .pointer (some ⟨(w.heap.size + 1), 0, none⟩), .pointer (some ⟨(w.heap.size + 1 + 1), 0, none⟩), .int .i64 (k : Int), .pointer (some ⟨wr.heap.size, 0, none⟩), x 43, undef, undef, undef, s 10, r 11, r 12, r 13, r 14, r 15, r 16, r 17, r 18, r 19, r 20, r 21, r 22, r 23, r 24, r 25, r 26, r 27, r 28, r 29, r 30, r 31, r 32, r 33, r 34, r 35, r 36, r 37, r 38, x 0, x 1, x 2, x 3, x 4, x 5, x 6, x 7, x 8, x 9, x 10, x 11, x 12, x 13, x 14, x 15, x 16, x 17, x 18, x 19, x 20, x 21, x 22, x 23, x 24, x 25, x 26, x 27, x 28, x 29, x 30, x 31, x 32, x 33, x 34, .int .u8 y4, x 36, x 37, x 38, x 39, x 40, x 41, x 42, r 82, r 83, r 84, r 85, r 86, r 87, r 88, r 89, r 90, r 91, r 92, r 93, r 94, r 95, undef, undef, undef, undef, undef, undef, undef, undef, undef, undef, undef, undef, undef, undef, undef, undef, undef, undef, undef, undef, undef, undef, undef, undef, undef, undef, undef, undef, undef, undef, undef, undef, undef, undef, undef, undef, undef, undef, undef, undef, undef, undef, undef, undef, undef, undef, undef, undef, undef, undef, undef, undef, undef, undef, undef, undef, undef, undef, undef, undef, undef, undef, undef], []⟩ : Act) v
              refine wpOp_step rfl (fun K' hK' => ?_)
              go_simp
              exact hK' _ _ (hK _ _ (Below.refl _ _) (at_of rfl (rfl)))
            · obtain ⟨x, rfl⟩ := upd_of (show x 36 = .int .i64 y4 from hd 36 _ (by simp) rfl)
              show wpOp Try.prog _ _ 37 K (⟨#[s 0, .pointer (some ⟨w.heap.size, 0, none⟩), .pointer (some ⟨(w.heap.size + 1), 0, none⟩), .pointer (some ⟨(w.heap.size + 1 + 1), 0, none⟩), .int .i64 (k : Int), .pointer (some ⟨wr.heap.size, 0, none⟩), x 43, undef, undef, undef, s 10, r 11, r 12, r 13, r 14, r 15, r 16, r 17, r 18, r 19, r 20, r 21, r 22, r 23, r 24, r 25, r 26, r 27, r 28, r 29, r 30, r 31, r 32, r 33, r 34, r 35, r 36, r 37, r 38, x 0, x 1, x 2, x 3, x 4, x 5, x 6, x 7, x 8, x 9, x 10, x 11, x 12, x 13, x 14, x 15, x 16, x 17, x 18, x 19, x 20, x 21, x 22, x 23, x 24, x 25, x 26, x 27, x 28, x 29, x 30, x 31, x 32, x 33, x 34, x 35, .int .i64 y4, x 37, x 38, x 39, x 40, x 41, x 42, r 82, r 83, r 84, r 85, r 86, r 87, r 88, r 89, r 90, r 91, r 92, r 93, r 94, r 95, undef, undef, undef, undef, undef, undef, undef, undef, undef, undef, undef, undef, undef, undef, undef, undef, undef, undef, undef, undef, undef, undef, undef, undef, undef, undef, undef, undef, undef, undef, undef, undef, undef, undef, undef, undef, undef, undef, undef, undef, undef, undef, undef, undef, undef, undef, undef, undef, undef, undef, undef, undef, undef, undef, undef, undef, undef, undef, undef, undef, undef, undef, undef], []⟩ : Act) v
              refine wpOp_step rfl (fun K' hK' => ?_)
              go_simp
              exact hK' _ _ (hK _ _ (Below.refl _ _) (at_of rfl (rfl)))
            · show wpOp Try.prog _ _ 38 K (⟨#[s 0, .pointer (some ⟨w.heap.size, 0, none⟩), .pointer (some ⟨(w.heap.size + 1), 0, none⟩), .pointer (some ⟨(w.heap.size + 1 + 1), 0, none⟩), .int .i64 (k : Int), .pointer (some ⟨wr.heap.size, 0, none⟩), x 43, undef, undef, undef, s 10, r 11, r 12, r 13, r 14, r 15, r 16, r 17, r 18, r 19, r 20, r 21, r 22, r 23, r 24, r 25, r 26, r 27, r 28, r 29, r 30, r 31, r 32, r 33, r 34, r 35, r 36, r 37, r 38, x 0, x 1, x 2, x 3, x 4, x 5, x 6, x 7, x 8, x 9, x 10, x 11, x 12, x 13, x 14, x 15, x 16, x 17, x 18, x 19, x 20, x 21, x 22, x 23, x 24, x 25, x 26, x 27, x 28, x 29, x 30, x 31, x 32, x 33, x 34, x 35, x 36, x 37, x 38, x 39, x 40, x 41, x 42, r 82, r 83, r 84, r 85, r 86, r 87, r 88, r 89, r 90, r 91, r 92, r 93, r 94, r 95, undef, undef, undef, undef, undef, undef, undef, undef, undef, undef, undef, undef, undef, undef, undef, undef, undef, undef, undef, undef, undef, undef, undef, undef, undef, undef, undef, undef, undef, undef, undef, undef, undef, undef, undef, undef, undef, undef, undef, undef, undef, undef, undef, undef, undef, undef, undef, undef, undef, undef, undef, undef, undef, undef, undef, undef, undef, undef, undef, undef, undef, undef, undef], []⟩ : Act) v
              refine wpOp_step rfl (fun K' hK' => ?_)
              go_simp
              exact hK' _ _ (hK _ _ (Below.refl _ _) (at_of rfl (rfl)))
            · obtain ⟨x, rfl⟩ := upd_of (show x 38 = .pointer (some ⟨wr.heap.size, 5, none⟩) from hd 38 _ (by simp) rfl)
              show wpOp Try.prog _ _ 39 K (⟨#[s 0, .pointer (some ⟨w.heap.size, 0, none⟩), .pointer (some ⟨(w.heap.size + 1), 0, none⟩), .pointer (some ⟨(w.heap.size + 1 + 1), 0, none⟩), .int .i64 (k : Int), .pointer (some ⟨wr.heap.size, 0, none⟩), x 43, undef, undef, undef, s 10, r 11, r 12, r 13, r 14, r 15, r 16, r 17, r 18, r 19, r 20, r 21, r 22, r 23, r 24, r 25, r 26, r 27, r 28, r 29, r 30, r 31, r 32, r 33, r 34, r 35, r 36, r 37, r 38, x 0, x 1, x 2, x 3, x 4, x 5, x 6, x 7, x 8, x 9, x 10, x 11, x 12, x 13, x 14, x 15, x 16, x 17, x 18, x 19, x 20, x 21, x 22, x 23, x 24, x 25, x 26, x 27, x 28, x 29, x 30, x 31, x 32, x 33, x 34, x 35, x 36, x 37, .pointer (some ⟨wr.heap.size, 5, none⟩), x 39, x 40, x 41, x 42, r 82, r 83, r 84, r 85, r 86, r 87, r 88, r 89, r 90, r 91, r 92, r 93, r 94, r 95, undef, undef, undef, undef, undef, undef, undef, undef, undef, undef, undef, undef, undef, undef, undef, undef, undef, undef, undef, undef, undef, undef, undef, undef, undef, undef, undef, undef, undef, undef, undef, undef, undef, undef, undef, undef, undef, undef, undef, undef, undef, undef, undef, undef, undef, undef, undef, undef, undef, undef, undef, undef, undef, undef, undef, undef, undef, undef, undef, undef, undef, undef, undef], []⟩ : Act) v
              refine wpOp_step rfl (fun K' hK' => ?_)
              have q := (ov.1.keep gv).2 5 _ rfl
              go_simp
              exact hK' _ _ (hK _ _ (Below.refl _ _) (at_of rfl (rfl)))
            · obtain ⟨x, rfl⟩ := upd_of (show x 39 = .int .u8 y5 from hd 39 _ (by simp) rfl)
              show wpOp Try.prog _ _ 40 K (⟨#[s 0, .pointer (some ⟨w.heap.size, 0, none⟩), .pointer (some ⟨(w.heap.size + 1), 0, none⟩), .pointer (some ⟨(w.heap.size + 1 + 1), 0, none⟩), .int .i64 (k : Int), .pointer (some ⟨wr.heap.size, 0, none⟩), x 43, undef, undef, undef, s 10, r 11, r 12, r 13, r 14, r 15, r 16, r 17, r 18, r 19, r 20, r 21, r 22, r 23, r 24, r 25, r 26, r 27, r 28, r 29, r 30, r 31, r 32, r 33, r 34, r 35, r 36, r 37, r 38, x 0, x 1, x 2, x 3, x 4, x 5, x 6, x 7, x 8, x 9, x 10, x 11, x 12, x 13, x 14, x 15, x 16, x 17, x 18, x 19, x 20, x 21, x 22, x 23, x 24, x 25, x 26, x 27, x 28, x 29, x 30, x 31, x 32, x 33, x 34, x 35, x 36, x 37, x 38, .int .u8 y5, x 40, x 41, x 42, r 82, r 83, r 84, r 85, r 86, r 87, r 88, r 89, r 90, r 91, r 92, r 93, r 94, r 95, undef, undef, undef, undef, undef, undef, undef, undef, undef, undef, undef, undef, undef, undef, undef, undef, undef, undef, undef, undef, undef, undef, undef, undef, undef, undef, undef, undef, undef, undef, undef, undef, undef, undef, undef, undef, undef, undef, undef, undef, undef, undef, undef, undef, undef, undef, undef, undef, undef, undef, undef, undef, undef, undef, undef, undef, undef, undef, undef, undef, undef, undef, undef], []⟩ : Act) v
              refine wpOp_step rfl (fun K' hK' => ?_)
              go_simp
              exact hK' _ _ (hK _ _ (Below.refl _ _) (at_of rfl (rfl)))
            · obtain ⟨x, rfl⟩ := upd_of (show x 40 = .int .i64 y5 from hd 40 _ (by simp) rfl)
              show wpOp Try.prog _ _ 41 K (⟨#[s 0, .pointer (some ⟨w.heap.size, 0, none⟩), .pointer (some ⟨(w.heap.size + 1), 0, none⟩), .pointer (some ⟨(w.heap.size + 1 + 1), 0, none⟩), .int .i64 (k : Int), .pointer (some ⟨wr.heap.size, 0, none⟩), x 43, undef, undef, undef, s 10, r 11, r 12, r 13, r 14, r 15, r 16, r 17, r 18, r 19, r 20, r 21, r 22, r 23, r 24, r 25, r 26, r 27, r 28, r 29, r 30, r 31, r 32, r 33, r 34, r 35, r 36, r 37, r 38, x 0, x 1, x 2, x 3, x 4, x 5, x 6, x 7, x 8, x 9, x 10, x 11, x 12, x 13, x 14, x 15, x 16, x 17, x 18, x 19, x 20, x 21, x 22, x 23, x 24, x 25, x 26, x 27, x 28, x 29, x 30, x 31, x 32, x 33, x 34, x 35, x 36, x 37, x 38, x 39, .int .i64 y5, x 41, x 42, r 82, r 83, r 84, r 85, r 86, r 87, r 88, r 89, r 90, r 91, r 92, r 93, r 94, r 95, undef, undef, undef, undef, undef, undef, undef, undef, undef, undef, undef, undef, undef, undef, undef, undef, undef, undef, undef, undef, undef, undef, undef, undef, undef, undef, undef, undef, undef, undef, undef, undef, undef, undef, undef, undef, undef, undef, undef, undef, undef, undef, undef, undef, undef, undef, undef, undef, undef, undef, undef, undef, undef, undef, undef, undef, undef, undef, undef, undef, undef, undef, undef], []⟩ : Act) v
              refine wpOp_step rfl (fun K' hK' => ?_)
              go_simp
              exact hK' _ _ (hK _ _ (Below.refl _ _) (at_of rfl (rfl)))
            · obtain ⟨x, rfl⟩ := upd_of (show x 1 = .int .i64 (1 + (k : Int)) from hd 1 _ (by simp) rfl)
              obtain ⟨x, rfl⟩ := upd_of (show x 5 = .int .i64 (50 + y1) from hd 5 _ (by simp) rfl)
              obtain ⟨x, rfl⟩ := upd_of (show x 19 = .agg #[.int .i64 (50 + y2), .int .i64 ((50 + y2) + (y0 / 8))] from hd 19 _ (by simp) rfl)
              obtain ⟨x, rfl⟩ := upd_of (show x 33 = .agg #[.int .i64 (y3 % 100), .int .i64 ((y3 % 100) + (y3 / 16))] from hd 33 _ (by simp) rfl)
              obtain ⟨x, rfl⟩ := upd_of (show x 37 = .int .i64 (1000 * y4) from hd 37 _ (by simp) rfl)
              obtain ⟨x, rfl⟩ := upd_of (show x 41 = .int .i64 (10 * y5) from hd 41 _ (by simp) rfl)
              show wpOp Try.prog _ _ 42 K (⟨#[s 0, .pointer (some ⟨w.heap.size, 0, none⟩), .pointer (some ⟨(w.heap.size + 1), 0, none⟩), .pointer (some ⟨(w.heap.size + 1 + 1), 0, none⟩), .int .i64 (k : Int), .pointer (some ⟨wr.heap.size, 0, none⟩), x 43, undef, undef, undef, s 10, r 11, r 12, r 13, r 14, r 15, r 16, r 17, r 18, r 19, r 20, r 21, r 22, r 23, r 24, r 25, r 26, r 27, r 28, r 29, r 30, r 31, r 32, r 33, r 34, r 35, r 36, r 37, r 38, x 0, .int .i64 (1 + (k : Int)), x 2, x 3, x 4, .int .i64 (50 + y1), x 6, x 7, x 8, x 9, x 10, x 11, x 12, x 13, x 14, x 15, x 16, x 17, x 18, .agg #[.int .i64 (50 + y2), .int .i64 ((50 + y2) + (y0 / 8))], x 20, x 21, x 22, x 23, x 24, x 25, x 26, x 27, x 28, x 29, x 30, x 31, x 32, .agg #[.int .i64 (y3 % 100), .int .i64 ((y3 % 100) + (y3 / 16))], x 34, x 35, x 36, .int .i64 (1000 * y4), x 38, x 39, x 40, .int .i64 (10 * y5), x 42, r 82, r 83, r 84, r 85, r 86, r 87, r 88, r 89, r 90, r 91, r 92, r 93, r 94, r 95, undef, undef, undef, undef, undef, undef, undef, undef, undef, undef, undef, undef, undef, undef, undef, undef, undef, undef, undef, undef, undef, undef, undef, undef, undef, undef, undef, undef, undef, undef, undef, undef, undef, undef, undef, undef, undef, undef, undef, undef, undef, undef, undef, undef, undef, undef, undef, undef, undef, undef, undef, undef, undef, undef, undef, undef, undef, undef, undef, undef, undef, undef, undef], []⟩ : Act) v
              refine wpOp_step rfl (fun K' hK' => ?_)
              go_simp
              exact hK' _ _ (hK _ _ (Below.refl _ _) (at_of rfl (rfl)))
            · show wpOp Try.prog _ _ 43 K (⟨#[s 0, .pointer (some ⟨w.heap.size, 0, none⟩), .pointer (some ⟨(w.heap.size + 1), 0, none⟩), .pointer (some ⟨(w.heap.size + 1 + 1), 0, none⟩), .int .i64 (k : Int), .pointer (some ⟨wr.heap.size, 0, none⟩), x 43, undef, undef, undef, s 10, r 11, r 12, r 13, r 14, r 15, r 16, r 17, r 18, r 19, r 20, r 21, r 22, r 23, r 24, r 25, r 26, r 27, r 28, r 29, r 30, r 31, r 32, r 33, r 34, r 35, r 36, r 37, r 38, x 0, x 1, x 2, x 3, x 4, x 5, x 6, x 7, x 8, x 9, x 10, x 11, x 12, x 13, x 14, x 15, x 16, x 17, x 18, x 19, x 20, x 21, x 22, x 23, x 24, x 25, x 26, x 27, x 28, x 29, x 30, x 31, x 32, x 33, x 34, x 35, x 36, x 37, x 38, x 39, x 40, x 41, x 42, r 82, r 83, r 84, r 85, r 86, r 87, r 88, r 89, r 90, r 91, r 92, r 93, r 94, r 95, undef, undef, undef, undef, undef, undef, undef, undef, undef, undef, undef, undef, undef, undef, undef, undef, undef, undef, undef, undef, undef, undef, undef, undef, undef, undef, undef, undef, undef, undef, undef, undef, undef, undef, undef, undef, undef, undef, undef, undef, undef, undef, undef, undef, undef, undef, undef, undef, undef, undef, undef, undef, undef, undef, undef, undef, undef, undef, undef, undef, undef, undef, undef], []⟩ : Act) v
              refine wpOp_step rfl (fun K' hK' => ?_)
              go_simp
              have hg := Gr.al v (.cells (List.toArray [.int .i64 0, .int .i64 0, .int .i64 0, .int .i64 0, .int .i64 0, .int .i64 0, .int .i64 0, .int .i64 0]) 100)
              exact hK' _ _ (hK _ _ hg (at_of rfl (⟨v.heap.size, rfl, gv.size, Own.new v [.int .i64 0, .int .i64 0, .int .i64 0, .int .i64 0, .int .i64 0, .int .i64 0, .int .i64 0, .int .i64 0] 100 v.heap.size rfl⟩)))
          case fin8 =>
            rintro x v gv hd
            obtain ⟨x, rfl⟩ := upd_of (show x 42 = .agg #[.int .i64 (1 + (k : Int)), .int .i64 (50 + y1), .int .i64 (50 + y2), .int .i64 ((50 + y2) + (y0 / 8)), .int .i64 (y3 % 100), .int .i64 ((y3 % 100) + (y3 / 16)), .int .i64 (1000 * y4), .int .i64 (10 * y5)] from hd 42 _ (by omega) rfl)
            obtain ⟨b6, e43, hb6, ow6⟩ := hd 43 _ (by omega) rfl
            obtain ⟨x, rfl⟩ := upd_of (show x 43 = .pointer (some ⟨b6, 0, none⟩) from e43)
            clear hd
            show wpList Try.prog _ _ (List.drop 44 _) (⟨#[s 0, .pointer (some ⟨w.heap.size, 0, none⟩), .pointer (some ⟨(w.heap.size + 1), 0, none⟩), .pointer (some ⟨(w.heap.size + 1 + 1), 0, none⟩), .int .i64 (k : Int), .pointer (some ⟨wr.heap.size, 0, none⟩), .pointer (some ⟨b6, 0, none⟩), undef, undef, undef, s 10, r 11, r 12, r 13, r 14, r 15, r 16, r 17, r 18, r 19, r 20, r 21, r 22, r 23, r 24, r 25, r 26, r 27, r 28, r 29, r 30, r 31, r 32, r 33, r 34, r 35, r 36, r 37, r 38, x 0, x 1, x 2, x 3, x 4, x 5, x 6, x 7, x 8, x 9, x 10, x 11, x 12, x 13, x 14, x 15, x 16, x 17, x 18, x 19, x 20, x 21, x 22, x 23, x 24, x 25, x 26, x 27, x 28, x 29, x 30, x 31, x 32, x 33, x 34, x 35, x 36, x 37, x 38, x 39, x 40, x 41, .agg #[.int .i64 (1 + (k : Int)), .int .i64 (50 + y1), .int .i64 (50 + y2), .int .i64 ((50 + y2) + (y0 / 8)), .int .i64 (y3 % 100), .int .i64 ((y3 % 100) + (y3 / 16)), .int .i64 (1000 * y4), .int .i64 (10 * y5)], r 82, r 83, r 84, r 85, r 86, r 87, r 88, r 89, r 90, r 91, r 92, r 93, r 94, r 95, undef, undef, undef, undef, undef, undef, undef, undef, undef, undef, undef, undef, undef, undef, undef, undef, undef, undef, undef, undef, undef, undef, undef, undef, undef, undef, undef, undef, undef, undef, undef, undef, undef, undef, undef, undef, undef, undef, undef, undef, undef, undef, undef, undef, undef, undef, undef, undef, undef, undef, undef, undef, undef, undef, undef, undef, undef, undef, undef, undef, undef, undef, undef], []⟩ : Act) v
            simp only [List.drop_succ_cons, List.drop_zero]
            clear w0 w1 w2 w3 w4 w5 w6 w7 w8 w9 w10 w11 w12 w13 w14 w15 w16 w17 w18
            obtain ⟨u0, u1, u2, u3, u4, u5, u6, u7⟩ := ow6.1.c8
            have z0 := ow6.2 0
            have z1 := ow6.2 1
            have z2 := ow6.2 2
            have z3 := ow6.2 3
            have z4 := ow6.2 4
            have z5 := ow6.2 5
            have z6 := ow6.2 6
            have z7 := ow6.2 7
            have gs := gn.size
            have hov := ov.1.1
            go_upto_region 9 with fail
            refine wp_abs (fun V => Gr wr V ∧ Own V wr.heap.size [.int .u8 y0, .int .u8 y1, .int .u8 y2, .int .u8 y3, .int .u8 y4, .int .u8 y5] ∧ Own V b6 [.int .i64 (1 + (k : Int)), .int .i64 (50 + y1), .int .i64 (50 + y2), .int .i64 ((50 + y2) + (y0 / 8)), .int .i64 (y3 % 100), .int .i64 ((y3 % 100) + (y3 / 16)), .int .i64 (1000 * y4), .int .i64 (10 * y5)]) ⟨(((((((((gn.tr gv).setCell (by simp; omega) _).setCell (by simp; omega) _).setCell (by simp; omega) _).setCell (by simp; omega) _).setCell (by simp; omega) _).setCell (by simp; omega) _).setCell (by simp; omega) _).setCell (by simp; omega) _), ((((((((ov.keep gv).other (by omega)).other (by omega)).other (by omega)).other (by omega)).other (by omega)).other (by omega)).other (by omega)).other (by omega), (((((((ow6.set (i := 0) (by simp)).set (i := 1) (by simp)).set (i := 2) (by simp)).set (i := 3) (by simp)).set (i := 4) (by simp)).set (i := 5) (by simp)).set (i := 6) (by simp)).set (i := 7) (by simp)⟩ ?_
            have hb6w : wr.heap.size < b6 := by omega
            clear u0 u1 u2 u3 u4 u5 u6 u7 z0 z1 z2 z3 z4 z5 z6 z7 ow6 ov gn gv gs hov hb6
            rintro V ⟨gn, ov, ow6⟩
            go_upto_if 83 with fail
            go_cut [] from 84 to 89 (fun wx => Gr wr wx ∧ Own wx b6 (encP (paperW k ⟨y0, y1, y2, y3, y4, y5⟩)))
            case first =>
              by_cases h1 : 1 < k
              · have E : encP (paperW k ⟨y0, y1, y2, y3, y4, y5⟩) = [.int .i64 (1 + y0 % 2), .int .i64 (50 + y1), .int .i64 (50 + y2), .int .i64 ((50 + y2) + (y0 / 8)), .int .i64 (y3 % 100), .int .i64 ((y3 % 100) + (y3 / 16)), .int .i64 (1000 * y4), .int .i64 (10 * y5)] := by simp [encP, paperW, h1]
                have E' := Lib.hid E
                have d1 : decide ((1 : Int) < (k : Int)) = true := by simp; omega
                have q0 := ov.1.2 0 _ rfl
                have u0 := ow6.1.2 0 _ rfl
                have z0 := ow6.2 0
                have v0 : y0.tmod 2 = y0 % 2 := Int.tmod_eq_emod_of_nonneg (by omega)
                have hm2 : y0 % 2 = 0 ∨ y0 % 2 = 1 := by omega
                have v1 : IntKind.u8.wrap (1 + y0 % 2) = 1 + y0 % 2 := by rcases hm2 with e | e <;> rw [e] <;> rfl
                have v2 : IntKind.i64.wrap (1 + y0 % 2) = 1 + y0 % 2 := IntWalk.i64_in _ (by omega)
                clear E hm2
                go_wp2_with fail
                go_meet
                refine ⟨gn.setCell (by simp; omega) _, ?_⟩
                rw [E'.out]
                exact ow6.set (i := 0) (by simp)
              · have E : encP (paperW k ⟨y0, y1, y2, y3, y4, y5⟩) = [.int .i64 (1 + (k : Int)), .int .i64 (50 + y1), .int .i64 (50 + y2), .int .i64 ((50 + y2) + (y0 / 8)), .int .i64 (y3 % 100), .int .i64 ((y3 % 100) + (y3 / 16)), .int .i64 (1000 * y4), .int .i64 (10 * y5)] := by simp [encP, paperW, h1]
                have E' := Lib.hid E
                have d1 : decide ((1 : Int) < (k : Int)) = false := by simp; omega
                clear E
                go_wp2_with fail
                go_meet
                refine ⟨gn, ?_⟩
                rw [E'.out]
                exact ow6
            case rest =>
              clear gn ov ow6
              obtain ⟨gX, oP⟩ := hcut
              generalize paperW k ⟨y0, y1, y2, y3, y4, y5⟩ = pp at *
              clear p0 p1 p2 p3 p4 p5 p6 p7 p8 p9 p10 p11
              have s0 := ((os.keep gX).1.c2).1
              obtain ⟨u0, u1, u2, u3, u4, u5, u6, u7⟩ := (show Box wc b6 [.int .i64 pp.kind, .int .i64 pp.weight, .int .i64 pp.tlo, .int .i64 pp.thi, .int .i64 pp.mlo, .int .i64 pp.mhi, .int .i64 pp.price, .int .i64 pp.strong] from oP.1).c8
              have k1 : k + 1 ≤ maxLen := by unfold maxLen; omega
              have k2 : (k + 1) * 64 ≤ 140737488355328 := by omega
              have gA := gX.tr (Gr.al wc (.cells #[.int .i64 pp.kind, .int .i64 pp.weight, .int .i64 pp.tlo, .int .i64 pp.thi, .int .i64 pp.mlo, .int .i64 pp.mhi, .int .i64 pp.price, .int .i64 pp.strong] 100))
              have hoA := owns_keep hown gA
              have gA0 := gA.size
              have hne4 : ∀ r, pv.ownBlock = some r → w.heap.size + 1 + 1 < r ∧ r < wr.heap.size := (fun r hr => by have := hown.lt r hr; omega)
              have HNE := Lib.hid hne4
              clear hne4
              go_wp2_with (at_builtin; refine wpList_append_own _ rfl _ _ 28 rfl (w.heap.size + 1 + 1 + 1) 100 ip _ 8 64 Try.underlying28 hip hpz0 hpz1 hpz2 rfl (by decide) _ _ _ rfl hoA ⟨wc.heap.size, 0, none⟩ 1 1 ([pp.kind, pp.weight, pp.tlo, pp.thi, pp.mlo, pp.mhi, pp.price, pp.strong].map (fun n => Value.int .i64 n)) rfl rfl (cell_news _ _ _) (ints_one _) k1 k2 (by omega) ?_; intro v' w6 hown4 hgr4 _; obtain ⟨a4, c4, rfl⟩ := owns_val hown4; have os4 := (os.keep gA).grownRow hgr4 (fun r hr => by have := HNE.out r hr; omega); have gY := (gg.tr gA).grown' hoA (by omega) hgr4; have hx4 := (hx.keep gA).grown hgr4 (fun r hr => by have := HNE.out r hr; omega); have or4 := (or.keep gA).grownRow hgr4 (fun r hr => by have := HNE.out r hr; omega); obtain ⟨t0, t1⟩ := os4.1.c2; have y0 := os4.2 0)
              go_roundw
              case rel =>
                refine Lib.hid ⟨k + 1, _, by omega, by go_num, gY.setCell (show w.heap.size ≤ w.heap.size + 1 + 1 by omega) _, ?_, or4.other (by omega), os4.set (i := 0) (by simp), ?_⟩
                · exact hx4.other (by omega)
                · rw [List.take_add_one, HPK.out, Option.toList_some, flat_snoc]
                  exact owns_other hown4 (by omega)
              case measure => simp [intOf]; omega
    · obtain rfl : k = npW P.length := by omega
      have hle : npW P.length = (storeWP P).length := (storeWP_len P).symm
      rw [List.take_of_length_le (by omega)] at hown
      have HLE := Lib.hid hle
      have hB1 := hown.lt
      have HP1 := Lib.hid hB1
      clear hB1 hle
      have hsz : w.heap.size + 1 + 1 < wr.heap.size := os.1.1
      go_upto_region 3 with fail
      go_cut [23] from 11 to 22 (fun s23 wx => s23 = .bool false ∧ wr = wx)
      case first =>
        have q0 := hx.2 0 _ rfl
        have d1 : decide ((npW P.length : Int) < 2) = false := by simp; omega
        by_cases hl : npW P.length < P.length
        · have d2 : decide (npW P.length < P.length) = true := by simpa using hl
          have h5 : npW P.length = 5 := by unfold npW at hl ⊢; split at hl <;> (try split at hl) <;> (try split) <;> omega
          have d3 : decide ((npW P.length : Int) < 5) = false := by simp; omega
          clear h5
          go_wp2_with fail
          go_meet
          exact ⟨rfl, rfl⟩
        · have d2 : decide (npW P.length < P.length) = false := by simpa using hl
          go_wp2_with fail
          go_meet
          exact ⟨rfl, rfl⟩
      case rest =>
        obtain ⟨rfl, rfl⟩ := hcut
        obtain ⟨H1, hH1⟩ : ∃ H1, H1 = wr.heap.size := ⟨_, rfl⟩
        have hsw : w.heap.size + 1 + 1 < H1 := by omega
        have hge : H1 ≤ wr.heap.size := by omega
        have HP2 : Hid (∀ r, pv.ownBlock = some r → r < H1) := Lib.hid (fun r hr => by have := HP1.out r hr; omega)
        clear hH1 HP1
        generalize npW P.length = np at *
        go_wp2
        refine (show (∀ t : Nat → Value, Code.wp Try.prog _ _ ⟨#[t 0, .pointer (some ⟨w.heap.size, 0, none⟩), .pointer (some ⟨(w.heap.size + 1), 0, none⟩), .pointer (some ⟨(w.heap.size + 1 + 1), 0, none⟩), t 4, t 5, t 6, .int .i64 0, undef, undef, t 10, t 11, t 12, t 13, t 14, t 15, t 16, t 17, t 18, t 19, t 20, t 21, t 22, t 23, t 24, t 25, t 26, t 27, t 28, t 29, t 30, t 31, t 32, t 33, t 34, t 35, t 36, t 37, t 38, t 39, t 40, t 41, t 42, t 43, t 44, t 45, t 46, t 47, t 48, t 49, t 50, t 51, t 52, t 53, t 54, t 55, t 56, t 57, t 58, t 59, t 60, t 61, t 62, t 63, t 64, t 65, t 66, t 67, t 68, t 69, t 70, t 71, t 72, t 73, t 74, t 75, t 76, t 77, t 78, t 79, t 80, t 81, t 82, t 83, t 84, t 85, t 86, t 87, t 88, t 89, t 90, t 91, t 92, t 93, t 94, t 95, undef, undef, undef, undef, undef, undef, undef, undef, undef, undef, undef, undef, undef, undef, undef, undef, undef, undef, undef, undef, undef, undef, undef, undef, undef, undef, undef, undef, undef, undef, undef, undef, undef, undef, undef, undef, undef, undef, undef, undef, undef, undef, undef, undef, undef, undef, undef, undef, undef, undef, undef, undef, undef, undef, undef, undef, undef, undef, undef, undef, undef, undef, undef], []⟩ _) → _ from fun h => h ((fun l : List Value => fun i => l.getD i undef) [_, undef, undef, undef, _, _, _, undef, undef, undef, _, _, _, _, _, _, _, _, _, _, _, _, _, _, _, _, _, _, _, _, _, _, _, _, _, _, _, _, _, _, _, _, _, _, _, _, _, _, _, _, _, _, _, _, _, _, _, _, _, _, _, _, _, _, _, _, _, _, _, _, _, _, _, _, _, _, _, _, _, _, _, _, _, _, _, _, _, _, _, _, _, _, _, _, _, _])) ?_
        intro t
        dsimp only
        go_loopw [7] (fun i wq => Hid (∃ (k : Nat) (pv2 : Value), k ≤ nfW F.length ∧ i = .int .i64 k ∧ Gr w wq ∧ H1 ≤ wq.heap.size ∧ Box wq w.heap.size [.slice pa P.length pc, .slice fa F.length fc, .slice ya yn yc] ∧ Own wq (w.heap.size + 1) [.slice none 0 0, .slice none 0 0] ∧ Own wq (w.heap.size + 1 + 1) [pv, pv2] ∧
                wq.ownsRow (w.heap.size + 1 + 1 + 1) 100 8 pv np ((storeWP P).flatMap encP) ∧ wq.ownsRow H1 103 4 pv2 k (((storeWF F).take k).flatMap encF))) (fun i wq => 3 - (intOf i).toNat)
        case atStart => exact Lib.hid ⟨0, .slice none 0 0, by omega, rfl, gg, hge, hx, or, os, hown, World.ownsRow_nil _ _ _ _⟩
        case round =>
          clear gg hx or os hown
          obtain ⟨k, pv2, hk, rfl, gg, hHq, hx, or, os, hPo, hown⟩ := hrel.out
          clear hrel
          by_cases hlt : k < nfW F.length
          · have k5 : k < 3 := by omega
            have hsz : w.heap.size + 1 + 1 < wr.heap.size := os.1.1
            go_upto_region 13 with fail
            go_cut [108] from 96 to 107 (fun s23 wx => s23 = .bool true ∧ wr = wx)
            case first =>
              have q0 := hx.2 1 _ rfl
              by_cases h2 : k = 0
              · subst h2
                go_wp2_with fail
                go_meet
                exact ⟨rfl, rfl⟩
              · have d1 : ((k : Int) == 0) = false := by rw [beq_eq_false_iff_ne]; omega
                have hl : k < F.length := by unfold nfW at hlt; split at hlt <;> (try split at hlt) <;> omega
                have d2 : decide (k < F.length) = true := by simpa using hl
                have d3 : decide ((k : Int) < 3) = true := by simp; omega
                go_wp2_with fail
                go_meet
                exact ⟨rfl, rfl⟩
            case rest =>
              obtain ⟨rfl, rfl⟩ := hcut
              have q0 := hx.2 1 _ rfl
              have q0' := (hx.keep (Gr.al wr (.cells #[.int .u8 80, .int .u8 128, .int .u8 36] 101))).2 1 _ rfl
              go_upto_if 116 with fail
              go_cut [] from 117 to 121 (fun wx => Gr wr wx ∧ Own wx wr.heap.size (encV3 (wareF F k)))
              case first =>
                by_cases hl : k < F.length
                · obtain ⟨v, hv⟩ := get_of_lt hl
                  have E : wareF F k = v := by simp [wareF, hv]
                  have E' := Lib.hid E
                  clear E
                  obtain ⟨b0, o0, ha, hb0, hc⟩ := (rf.grow (gg.tr (Gr.al wr (.cells #[.int .u8 80, .int .u8 128, .int .u8 36] 101)))).2 k v hv
                  subst ha
                  clear hv
                  obtain ⟨v0, v1, v2⟩ := v
                  have c0 : (wr.alloc (.cells #[.int .u8 80, .int .u8 128, .int .u8 36] 101)).cell? ⟨b0, o0 + k * 3, none⟩ = some (.int .u8 v0) := hc 0 _ rfl
                  have c1 : (wr.alloc (.cells #[.int .u8 80, .int .u8 128, .int .u8 36] 101)).cell? ⟨b0, o0 + k * 3 + 1, none⟩ = some (.int .u8 v1) := hc 1 _ rfl
                  have c2 : (wr.alloc (.cells #[.int .u8 80, .int .u8 128, .int .u8 36] 101)).cell? ⟨b0, o0 + k * 3 + 2, none⟩ = some (.int .u8 v2) := hc 2 _ rfl
                  clear hc
                  have d2 : decide (k < F.length) = true := by simpa using hl
                  go_wp2_with fail
                  go_meet
                  refine ⟨Gr.al _ _, ?_⟩
                  rw [E'.out]
                  exact Own.new _ [.int .u8 v0, .int .u8 v1, .int .u8 v2] _ _ rfl
                · have E : wareF F k = ⟨80, 128, 36⟩ := by simp [wareF, List.getElem?_eq_none (show F.length ≤ k by omega)]
                  have E' := Lib.hid E
                  clear E
                  have d2 : decide (k < F.length) = false := by simpa using hl
                  go_wp2_with fail
                  go_meet
                  refine ⟨Gr.al _ _, ?_⟩
                  rw [E'.out]
                  exact Own.new _ [.int .u8 80, .int .u8 128, .int .u8 36] _ _ rfl
              case rest =>
                obtain ⟨gn, ov⟩ := hcut
                clear q0 q0'
                have hpk := storeWF_at hlt
                obtain ⟨⟨p0, p1⟩, ⟨p2, p3⟩, ⟨p4, p5⟩⟩ := wareF_B HF.out k
                generalize wareF F k = vv at *
                obtain ⟨y0, y1, y2⟩ := vv
                simp only at p0 p1 p2 p3 p4 p5
                have HPK := Lib.hid hpk
                clear hpk
                have m0 : 0 ≤ (1000 + 35 * y0) * y1 := Int.mul_nonneg (by omega) p2
                have m1 : (1000 + 35 * y0) * y1 ≤ 9925 * 255 := Int.mul_le_mul (by omega) p3 p2 (by omega)
                have q0 := ov.1.2 0 _ rfl
                have hwa : IntKind.i64.wrap y0 = y0 := IntWalk.i64_in _ (by omega)
                have hwb : IntKind.i64.wrap (35 * y0) = 35 * y0 := IntWalk.i64_in _ (by omega)
                have hwc : IntKind.i64.wrap (1000 + 35 * y0) = 1000 + 35 * y0 := IntWalk.i64_in _ (by omega)
                go_upto_region 19 with fail
                clear q0 hwa hwb hwc
                refine (show (∀ r : Nat → Value, Code.wp Try.prog _ _ ⟨#[t 0, .pointer (some ⟨w.heap.size, 0, none⟩), .pointer (some ⟨(w.heap.size + 1), 0, none⟩), .pointer (some ⟨(w.heap.size + 1 + 1), 0, none⟩), t 4, t 5, t 6, .int .i64 (k : Int), .pointer (some ⟨wr.heap.size, 0, none⟩), .int .i64 (1000 + 35 * y0), t 10, t 11, t 12, t 13, t 14, t 15, t 16, t 17, t 18, t 19, t 20, t 21, t 22, t 23, t 24, t 25, t 26, t 27, t 28, t 29, t 30, t 31, t 32, t 33, t 34, t 35, t 36, t 37, t 38, t 39, t 40, t 41, t 42, t 43, t 44, t 45, t 46, t 47, t 48, t 49, t 50, t 51, t 52, t 53, t 54, t 55, t 56, t 57, t 58, t 59, t 60, t 61, t 62, t 63, t 64, t 65, t 66, t 67, t 68, t 69, t 70, t 71, t 72, t 73, t 74, t 75, t 76, t 77, t 78, t 79, t 80, t 81, t 82, t 83, t 84, t 85, t 86, t 87, t 88, t 89, t 90, t 91, t 92, t 93, t 94, t 95, r 96, r 97, r 98, r 99, r 100, r 101, r 102, r 103, r 104, r 105, r 106, r 107, r 108, r 109, r 110, r 111, r 112, r 113, r 114, r 115, r 116, r 117, r 118, r 119, r 120, r 121, r 122, r 123, r 124, r 125, r 126, r 127, r 128, r 129, r 130, r 131, r 132, r 133, r 134, r 135, r 136, r 137, r 138, r 139, r 140, r 141, r 142, r 143, r 144, r 145, r 146, r 147, r 148, r 149, r 150, r 151, r 152, r 153, r 154, r 155, r 156, r 157, undef], []⟩ _) → _ from fun h => h ((fun l : List Value => fun i => l.getD i undef) [undef, undef, undef, undef, undef, undef, undef, undef, undef, undef, undef, undef, undef, undef, undef, undef, undef, undef, undef, undef, undef, undef, undef, undef, undef, undef, undef, undef, undef, undef, undef, undef, undef, undef, undef, undef, undef, undef, undef, undef, undef, undef, undef, undef, undef, undef, undef, undef, undef, undef, undef, undef, undef, undef, undef, undef, undef, undef, undef, undef, undef, undef, undef, undef, undef, undef, undef, undef, undef, undef, undef, undef, undef, undef, undef, undef, undef, undef, undef, undef, undef, undef, undef, undef, undef, undef, undef, undef, undef, undef, undef, undef, undef, undef, undef, undef, _, _, _, _, _, _, _, _, _, _, _, _, _, _, _, _, _, _, _, _, _, _, _, _, _, _, _, _, _, _, _, _, _, _, _, _, _, _, _, _, _, _, _, _, _, _, _, _, _, _, _, _, _, _, _, _, _, _, _, _, _, _])) ?_
                intro r
                dsimp only
                have osX := os.keep gn
                have w0 : IntKind.i64.wrap (y1) = y1 := IntWalk.i64_in _ (by omega)
                have w1 : IntKind.i64.wrap ((1000 + 35 * y0) * y1) = (1000 + 35 * y0) * y1 := IntWalk.i64_in _ (by omega)
                have w2 : ((1000 + 35 * y0) * y1).tdiv 255 = ((1000 + 35 * y0) * y1) / 255 := Int.tdiv_eq_ediv_of_nonneg (by omega)
                have w3 : IntKind.i64.wrap (((1000 + 35 * y0) * y1) / 255) = ((1000 + 35 * y0) * y1) / 255 := IntWalk.i64_in _ (by omega)
                have w4 : IntKind.i64.wrap ((1000 + 35 * y0) + (((1000 + 35 * y0) * y1) / 255)) = (1000 + 35 * y0) + (((1000 + 35 * y0) * y1) / 255) := IntWalk.i64_in _ (by omega)
                have w5 : IntKind.i64.wrap (y2) = y2 := IntWalk.i64_in _ (by omega)
                have w6 : IntKind.i64.wrap (10 * y2) = 10 * y2 := IntWalk.i64_in _ (by omega)
                have w7 : IntKind.i64.wrap (500 + (10 * y2)) = 500 + (10 * y2) := IntWalk.i64_in _ (by omega)
                have w8 : y1.tmod 90 = y1 % 90 := Int.tmod_eq_emod_of_nonneg (by omega)
                have w9 : IntKind.i64.wrap ((500 + (10 * y2)) + (y1 % 90)) = (500 + (10 * y2)) + (y1 % 90) := IntWalk.i64_in _ (by omega)
                refine wp_region_facts 29 [(1, 0), (6, 5), (7, 6), (8, 4), (8, 7), (9, 8), (10, 3), (10, 9), (12, 11), (13, 12), (14, 13), (15, 14), (17, 16), (18, 17), (19, 18), (20, 19), (22, 21), (23, 22), (24, 23), (25, 20), (25, 24), (26, 15), (26, 25), (27, 2), (27, 10), (27, 26), (28, 27)] (fun x => ⟨#[t 0, .pointer (some ⟨w.heap.size, 0, none⟩), .pointer (some ⟨(w.heap.size + 1), 0, none⟩), .pointer (some ⟨(w.heap.size + 1 + 1), 0, none⟩), t 4, t 5, t 6, .int .i64 (k : Int), .pointer (some ⟨wr.heap.size, 0, none⟩), .int .i64 (1000 + 35 * y0), t 10, t 11, t 12, t 13, t 14, t 15, t 16, t 17, t 18, t 19, t 20, t 21, t 22, t 23, t 24, t 25, t 26, t 27, t 28, t 29, t 30, t 31, t 32, t 33, t 34, t 35, t 36, t 37, t 38, t 39, t 40, t 41, t 42, t 43, t 44, t 45, t 46, t 47, t 48, t 49, t 50, t 51, t 52, t 53, t 54, t 55, t 56, t 57, t 58, t 59, t 60, t 61, t 62, t 63, t 64, t 65, t 66, t 67, t 68, t 69, t 70, t 71, t 72, t 73, t 74, t 75, t 76, t 77, t 78, t 79, t 80, t 81, t 82, t 83, t 84, t 85, t 86, t 87, t 88, t 89, t 90, t 91, t 92, t 93, t 94, t 95, r 96, r 97, r 98, r 99, r 100, r 101, r 102, r 103, r 104, r 105, r 106, r 107, r 108, r 109, r 110, r 111, r 112, r 113, r 114, r 115, r 116, r 117, r 118, r 119, r 120, r 121, r 122, r 123, r 124, r 125, r 126, x 0, x 1, x 2, x 3, x 4, x 5, x 6, x 7, x 8, x 9, x 10, x 11, x 12, x 13, x 14, x 15, x 16, x 17, x 18, x 19, x 20, x 21, x 22, x 23, x 24, x 25, x 26, x 27, x 28, r 156, r 157, undef], []⟩) (fun i => [r 127, r 128, r 129, r 130, r 131, r 132, r 133, r 134, r 135, r 136, r 137, r 138, r 139, r 140, r 141, r 142, r 143, r 144, r 145, r 146, r 147, r 148, r 149, r 150, r 151, r 152, r 153, r 154, r 155].getD i undef) [fun _ x => x = .pointer (some ⟨(w.heap.size + 1 + 1), 1, none⟩), fun _ x => x = pv2, fun _ x => x = .int .i64 (1000 + 35 * y0), fun _ x => x = .int .i64 (1000 + 35 * y0), fun _ x => x = .int .i64 (1000 + 35 * y0), fun _ x => x = .pointer (some ⟨wr.heap.size, 1, none⟩), fun _ x => x = .int .u8 y1, fun _ x => x = .int .i64 y1, fun _ x => x = .int .i64 ((1000 + 35 * y0) * y1), fun _ x => x = .int .i64 (((1000 + 35 * y0) * y1) / 255), fun _ x => x = .int .i64 ((1000 + 35 * y0) + (((1000 + 35 * y0) * y1) / 255)), fun _ x => x = .pointer (some ⟨wr.heap.size, 2, none⟩), fun _ x => x = .int .u8 y2, fun _ x => x = .int .i64 y2, fun _ x => x = .int .i64 (10 * y2), fun _ x => x = .int .i64 (500 + (10 * y2)), fun _ x => x = .pointer (some ⟨wr.heap.size, 2, none⟩), fun _ x => x = .int .u8 y2, fun _ x => x = .int .i64 y2, fun _ x => x = .int .i64 (10 * y2), fun _ x => x = .int .i64 (500 + (10 * y2)), fun _ x => x = .pointer (some ⟨wr.heap.size, 1, none⟩), fun _ x => x = .int .u8 y1, fun _ x => x = .int .i64 y1, fun _ x => x = .int .i64 (y1 % 90), fun _ x => x = .int .i64 ((500 + (10 * y2)) + (y1 % 90)), fun _ x => x = .agg #[.int .i64 (500 + (10 * y2)), .int .i64 ((500 + (10 * y2)) + (y1 % 90))], fun _ x => x = .agg #[.int .i64 (1000 + 35 * y0), .int .i64 ((1000 + 35 * y0) + (((1000 + 35 * y0) * y1) / 255)), .int .i64 (500 + (10 * y2)), .int .i64 ((500 + (10 * y2)) + (y1 % 90))], fun v x => ∃ b, x = .slice (some ⟨b, 0, none⟩) 1 1 ∧ wc.heap.size ≤ b ∧ Own v b [.int .i64 (1000 + 35 * y0), .int .i64 ((1000 + 35 * y0) + (((1000 + 35 * y0) * y1) / 255)), .int .i64 (500 + (10 * y2)), .int .i64 ((500 + (10 * y2)) + (y1 % 90))]] (by rfl) (by kernel_rfl) (by kernel_rfl) (by kernel_rfl) (stays_cons (Stays.eq _) (stays_cons (Stays.eq _) (stays_cons (Stays.eq _) (stays_cons (Stays.eq _) (stays_cons (Stays.eq _) (stays_cons (Stays.eq _) (stays_cons (Stays.eq _) (stays_cons (Stays.eq _) (stays_cons (Stays.eq _) (stays_cons (Stays.eq _) (stays_cons (Stays.eq _) (stays_cons (Stays.eq _) (stays_cons (Stays.eq _) (stays_cons (Stays.eq _) (stays_cons (Stays.eq _) (stays_cons (Stays.eq _) (stays_cons (Stays.eq _) (stays_cons (Stays.eq _) (stays_cons (Stays.eq _) (stays_cons (Stays.eq _) (stays_cons (Stays.eq _) (stays_cons (Stays.eq _) (stays_cons (Stays.eq _) (stays_cons (Stays.eq _) (stays_cons (Stays.eq _) (stays_cons (Stays.eq _) (stays_cons (Stays.eq _) (stays_cons (Stays.eq _) (stays_cons ((show Stays (fun v x => ∃ b, x = .slice (some ⟨b, 0, none⟩) 1 1 ∧ wc.heap.size ≤ b ∧ Own v b [.int .i64 (1000 + 35 * y0), .int .i64 ((1000 + 35 * y0) + (((1000 + 35 * y0) * y1) / 255)), .int .i64 (500 + (10 * y2)), .int .i64 ((500 + (10 * y2)) + (y1 % 90))]) from fun v v' x g ⟨b, e, h, o⟩ => ⟨b, e, h, o.keep g⟩)) stays_nil))))))))))))))))))))))))))))) ?step19 ?fin19
                case step19 =>
                  rintro i hi x v gv hd K hK
                  have hi8 : i = 0 ∨ i = 1 ∨ i = 2 ∨ i = 3 ∨ i = 4 ∨ i = 5 ∨ i = 6 ∨ i = 7 ∨ i = 8 ∨ i = 9 ∨ i = 10 ∨ i = 11 ∨ i = 12 ∨ i = 13 ∨ i = 14 ∨ i = 15 ∨ i = 16 ∨ i = 17 ∨ i = 18 ∨ i = 19 ∨ i = 20 ∨ i = 21 ∨ i = 22 ∨ i = 23 ∨ i = 24 ∨ i = 25 ∨ i = 26 ∨ i = 27 ∨ i = 28 := by omega
                  rcases hi8 with rfl | rfl | rfl | rfl | rfl | rfl | rfl | rfl | rfl | rfl | rfl | rfl | rfl | rfl | rfl | rfl | rfl | rfl | rfl | rfl | rfl | rfl | rfl | rfl | rfl | rfl | rfl | rfl | rfl
                  · show wpOp Try.prog _ _ 0 K (⟨#[t 0, .pointer (some ⟨w.heap.size, 0, none⟩), .pointer (some ⟨(w.heap.size + 1), 0, none⟩), .pointer (some ⟨(w.heap.size + 1 + 1), 0, none⟩), t 4, t 5, t 6, .int .i64 (k : Int), .pointer (some ⟨wr.heap.size, 0, none⟩), .int .i64 (1000 + 35 * y0), t 10, t 11, t 12, t 13, t 14, t 15, t 16, t 17, t 18, t 19, t 20, t 21, t 22, t 23, t 24, t 25, t 26, t 27, t 28, t 29, t 30, t 31, t 32, t 33, t 34, t 35, t 36, t 37, t 38, t 39, t 40, t 41, t 42, t 43, t 44, t 45, t 46, t 47, t 48, t 49, t 50, t 51, t 52, t 53, t 54, t 55, t 56, t 57, t 58, t 59, t 60, t 61, t 62, t 63, t 64, t 65, t 66, t 67, t 68, t 69, t 70, t 71, t 72, t 73, t 74, t 75, t 76, t 77, t 78, t 79, t 80, t 81, t 82, t 83, t 84, t 85, t 86, t 87, t 88, t 89, t 90, t 91, t 92, t 93, t 94, t 95, r 96, r 97, r 98, r 99, r 100, r 101, r 102, r 103, r 104, r 105, r 106, r 107, r 108, r 109, r 110, r 111, r 112, r 113, r 114, r 115, r 116, r 117, r 118, r 119, r 120, r 121, r 122, r 123, r 124, r 125, r 126, x 0, x 1, x 2, x 3, x 4, x 5, x 6, x 7, x 8, x 9, x 10, x 11, x 12, x 13, x 14, x 15, x 16, x 17, x 18, x 19, x 20, x 21, x 22, x 23, x 24, x 25, x 26, x 27, x 28, r 156, r 157, undef], []⟩ : Act) v
                    refine wpOp_step rfl (fun K' hK' => ?_)
                    go_simp
                    exact hK' _ _ (hK _ _ (Below.refl _ _) (at_of rfl (rfl)))
                  · obtain ⟨x, rfl⟩ := upd_of (show x 0 = .pointer (some ⟨(w.heap.size + 1 + 1), 1, none⟩) from hd 0 _ (by simp) rfl)
                    show wpOp Try.prog _ _ 1 K (⟨#[t 0, .pointer (some ⟨w.heap.size, 0, none⟩), .pointer (some ⟨(w.heap.size + 1), 0, none⟩), .pointer (some ⟨(w.heap.size + 1 + 1), 0, none⟩), t 4, t 5, t 6, .int .i64 (k : Int), .pointer (some ⟨wr.heap.size, 0, none⟩), .int .i64 (1000 + 35 * y0), t 10, t 11, t 12, t 13, t 14, t 15, t 16, t 17, t 18, t 19, t 20, t 21, t 22, t 23, t 24, t 25, t 26, t 27, t 28, t 29, t 30, t 31, t 32, t 33, t 34, t 35, t 36, t 37, t 38, t 39, t 40, t 41, t 42, t 43, t 44, t 45, t 46, t 47, t 48, t 49, t 50, t 51, t 52, t 53, t 54, t 55, t 56, t 57, t 58, t 59, t 60, t 61, t 62, t 63, t 64, t 65, t 66, t 67, t 68, t 69, t 70, t 71, t 72, t 73, t 74, t 75, t 76, t 77, t 78, t 79, t 80, t 81, t 82, t 83, t 84, t 85, t 86, t 87, t 88, t 89, t 90, t 91, t 92, t 93, t 94, t 95, r 96, r 97, r 98, r 99, r 100, r 101, r 102, r 103, r 104, r 105, r 106, r 107, r 108, r 109, r 110, r 111, r 112, r 113, r 114, r 115, r 116, r 117, r 118, r 119, r 120, r 121, r 122, r 123, r 124, r 125, r 126, .pointer (some ⟨(w.heap.size + 1 + 1), 1, none⟩), x 1, x 2, x 3, x 4, x 5, x 6, x 7, x 8, x 9, x 10, x 11, x 12, x 13, x 14, x 15, x 16, x 17, x 18, x 19, x 20, x 21, x 22, x 23, x 24, x 25, x 26, x 27, x 28, r 156, r 157, undef], []⟩ : Act) v
                    refine wpOp_step rfl (fun K' hK' => ?_)
                    have q := (osX.1.keep gv).2 1 _ rfl
                    go_simp
                    exact hK' _ _ (hK _ _ (Below.refl _ _) (at_of rfl (rfl)))
                  · show wpOp Try.prog _ _ 2 K (⟨#[t 0, .pointer (some ⟨w.heap.size, 0, none⟩), .pointer (some ⟨(w.heap.size + 1), 0, none⟩), .pointer (some ⟨(w.heap.size + 1 + 1), 0, none⟩), t 4, t 5, t 6, .int .i64 (k : Int), .pointer (some ⟨wr.heap.size, 0, none⟩), .int .i64 (1000 + 35 * y0), t 10, t 11, t 12, t 13, t 14, t 15, t 16, t 17, t 18, t 19, t 20, t 21, t 22, t 23, t 24, t 25, t 26, t 27, t 28, t 29, t 30, t 31, t 32, t 33, t 34, t 35, t 36, t 37, t 38, t 39, t 40, t 41, t 42, t 43, t 44, t 45, t 46, t 47, t 48, t 49, t 50, t 51, t 52, t 53, t 54, t 55, t 56, t 57, t 58, t 59, t 60, t 61, t 62, t 63, t 64, t 65, t 66, t 67, t 68, t 69, t 70, t 71, t 72, t 73, t 74, t 75, t 76, t 77, t 78, t 79, t 80, t 81, t 82, t 83, t 84, t 85, t 86, t 87, t 88, t 89, t 90, t 91, t 92, t 93, t 94, t 95, r 96, r 97, r 98, r 99, r 100, r 101, r 102, r 103, r 104, r 105, r 106, r 107, r 108, r 109, r 110, r 111, r 112, r 113, r 114, r 115, r 116, r 117, r 118, r 119, r 120, r 121, r 122, r 123, r 124, r 125, r 126, x 0, x 1, x 2, x 3, x 4, x 5, x 6, x 7, x 8, x 9, x 10, x 11, x 12, x 13, x 14, x 15, x 16, x 17, x 18, x 19, x 20, x 21, x 22, x 23, x 24, x 25, x 26, x 27, x 28, r 156, r 157, undef], []⟩ : Act) v
                    refine wpOp_step rfl (fun K' hK' => ?_)
                    go_simp
                    exact hK' _ _ (hK _ _ (Below.refl _ _) (at_of rfl (rfl)))
                  · show wpOp Try.prog _ _ 3 K (⟨#[t 0, .pointer (some ⟨w.heap.size, 0, none⟩), .pointer (some ⟨(w.heap.size + 1), 0, none⟩), .pointer (some ⟨(w.heap.size + 1 + 1), 0, none⟩), t 4, t 5, t 6, .int .i64 (k : Int), .pointer (some ⟨wr.heap.size, 0, none⟩), .int .i64 (1000 + 35 * y0), t 10, t 11, t 12, t 13, t 14, t 15, t 16, t 17, t 18, t 19, t 20, t 21, t 22, t 23, t 24, t 25, t 26, t 27, t 28, t 29, t 30, t 31, t 32, t 33, t 34, t 35, t 36, t 37, t 38, t 39, t 40, t 41, t 42, t 43, t 44, t 45, t 46, t 47, t 48, t 49, t 50, t 51, t 52, t 53, t 54, t 55, t 56, t 57, t 58, t 59, t 60, t 61, t 62, t 63, t 64, t 65, t 66, t 67, t 68, t 69, t 70, t 71, t 72, t 73, t 74, t 75, t 76, t 77, t 78, t 79, t 80, t 81, t 82, t 83, t 84, t 85, t 86, t 87, t 88, t 89, t 90, t 91, t 92, t 93, t 94, t 95, r 96, r 97, r 98, r 99, r 100, r 101, r 102, r 103, r 104, r 105, r 106, r 107, r 108, r 109, r 110, r 111, r 112, r 113, r 114, r 115, r 116, r 117, r 118, r 119, r 120, r 121, r 122, r 123, r 124, r 125, r 126, x 0, x 1, x 2, x 3, x 4, x 5, x 6, x 7, x 8, x 9, x 10, x 11, x 12, x 13, x 14, x 15, x 16, x 17, x 18, x 19, x 20, x 21, x 22, x 23, x 24, x 25, x 26, x 27, x 28, r 156, r 157, undef], []⟩ : Act) v
                    refine wpOp_step rfl (fun K' hK' => ?_)
                    go_simp
                    exact hK' _ _ (hK _ _ (Below.refl _ _) (at_of rfl (rfl)))
                  · show wpOp Try.prog _ _ 4 K (⟨#[t 0, .pointer (some ⟨w.heap.size, 0, none⟩), .pointer (some ⟨(w.heap.size + 1), 0, none⟩), .pointer (some ⟨(w.heap.size + 1 + 1), 0, none⟩), t 4, t 5, t 6, .int .i64 (k : Int), .pointer (some ⟨wr.heap.size, 0, none⟩), .int .i64 (1000 + 35 * y0), t 10, t 11, t 12, t 13, t 14, t 15, t 16, t 17, t 18, t 19, t 20, t 21, t 22, t 23, t 24, t 25, t 26, t 27, t 28, t 29, t 30, t 31, t 32, t 33, t 34, t 35, t 36, t 37, t 38, t 39, t 40, t 41, t 42, t 43, t 44, t 45, t 46, t 47, t 48, t 49, t 50, t 51, t 52, t 53, t 54, t 55, t 56, t 57, t 58, t 59, t 60, t 61, t 62, t 63, t 64, t 65, t 66, t 67, t 68, t 69, t 70, t 71, t 72, t 73, t 74, t 75, t 76, t 77, t 78, t 79, t 80, t 81, t 82, t 83, t 84, t 85, t 86, t 87, t 88, t 89, t 90, t 91, t 92, t 93, t 94, t 95, r 96, r 97, r 98, r 99, r 100, r 101, r 102, r 103, r 104, r 105, r 106, r 107, r 108, r 109, r 110, r 111, r 112, r 113, r 114, r 115, r 116, r 117, r 118, r 119, r 120, r 121, r 122, r 123, r 124, r 125, r 126, x 0, x 1, x 2, x 3, x 4, x 5, x 6, x 7, x 8, x 9, x 10, x 11, x 12, x 13, x 14, x 15, x 16, x 17, x 18, x 19, x 20, x 21, x 22, x 23, x 24, x 25, x 26, x 27, x 28, r 156, r 157, undef], []⟩ : Act) v
                    refine wpOp_step rfl (fun K' hK' => ?_)
                    go_simp
                    exact hK' _ _ (hK _ _ (Below.refl _ _) (at_of rfl (rfl)))
                  · show wpOp Try.prog _ _ 5 K (⟨#[t 0, .pointer (some ⟨w.heap.size, 0, none⟩), .pointer (some ⟨(w.heap.size + 1), 0, none⟩), .pointer (some ⟨(w.heap.size + 1 + 1), 0, none⟩), t 4, t 5, t 6, .int .i64 (k : Int), .pointer (some ⟨wr.heap.size, 0, none⟩), .int .i64 (1000 + 35 * y0), t 10, t 11, t 12, t 13, t 14, t 15, t 16, t 17, t 18, t 19, t 20, t 21, t 22, t 23, t 24, t 25, t 26, t 27, t 28, t 29, t 30, t 31, t 32, t 33, t 34, t 35, t 36, t 37, t 38, t 39, t 40, t 41, t 42, t 43, t 44, t 45, t 46, t 47, t 48, t 49, t 50, t 51, t 52, t 53, t 54, t 55, t 56, t 57, t 58, t 59, t 60, t 61, t 62, t 63, t 64, t 65, t 66, t 67, t 68, t 69, t 70, t 71, t 72, t 73, t 74, t 75, t 76, t 77, t 78, t 79, t 80, t 81, t 82, t 83, t 84, t 85, t 86, t 87, t 88, t 89, t 90, t 91, t 92, t 93, t 94, t 95, r 96, r 97, r 98, r 99, r 100, r 101, r 102, r 103, r 104, r 105, r 106, r 107, r 108, r 109, r 110, r 111, r 112, r 113, r 114, r 115, r 116, r 117, r 118, r 119, r 120, r 121, r 122, r 123, r 124, r 125, r 126, x 0, x 1, x 2, x 3, x 4, x 5, x 6, x 7, x 8, x 9, x 10, x 11, x 12, x 13, x 14, x 15, x 16, x 17, x 18, x 19, x 20, x 21, x 22, x 23, x 24, x 25, x 26, x 27, x 28, r 156, r 157, undef], []⟩ : Act) v
                    refine wpOp_step rfl (fun K' hK' => ?_)
                    go_simp
                    exact hK' _ _ (hK _ _ (Below.refl _ _) (at_of rfl (rfl)))
                  · obtain ⟨x, rfl⟩ := upd_of (show x 5 = .pointer (some ⟨wr.heap.size, 1, none⟩) from hd 5 _ (by simp) rfl)
                    show wpOp Try.prog _ _ 6 K (⟨#[t 0, .pointer (some ⟨w.heap.size, 0, none⟩), .pointer (some ⟨(w.heap.size + 1), 0, none⟩), .pointer (some ⟨(w.heap.size + 1 + 1), 0, none⟩), t 4, t 5, t 6, .int .i64 (k : Int), .pointer (some ⟨wr.heap.size, 0, none⟩), .int .i64 (1000 + 35 * y0), t 10, t 11, t 12, t 13, t 14, t 15, t 16, t 17, t 18, t 19, t 20, t 21, t 22, t 23, t 24, t 25, t 26, t 27, t 28, t 29, t 30, t 31, t 32, t 33, t 34, t 35, t 36, t 37, t 38, t 39, t 40, t 41, t 42, t 43, t 44, t 45, t 46, t 47, t 48, t 49, t 50, t 51, t 52, t 53, t 54, t 55, t 56, t 57, t 58, t 59, t 60, t 61, t 62, t 63, t 64, t 65, t 66, t 67, t 68, t 69, t 70, t 71, t 72, t 73, t 74, t 75, t 76, t 77, t 78, t 79, t 80, t 81, t 82, t 83, t 84, t 85, t 86, t 87, t 88, t 89, t 90, t 91, t 92, t 93, t 94, t 95, r 96, r 97, r 98, r 99, r 100, r 101, r 102, r 103, r 104, r 105, r 106, r 107, r 108, r 109, r 110, r 111, r 112, r 113, r 114, r 115, r 116, r 117, r 118, r 119, r 120, r 121, r 122, r 123, r 124, r 125, r 126, x 0, x 1, x 2, x 3, x 4, .pointer (some ⟨wr.heap.size, 1, none⟩), x 6, x 7, x 8, x 9, x 10, x 11, x 12, x 13, x 14, x 15, x 16, x 17, x 18, x 19, x 20, x 21, x 22, x 23, x 24, x 25, x 26, x 27, x 28, r 156, r 157, undef], []⟩ : Act) v
                    refine wpOp_step rfl (fun K' hK' => ?_)
                    have q := (ov.1.keep gv).2 1 _ rfl
                    go_simp
                    exact hK' _ _ (hK _ _ (Below.refl _ _) (at_of rfl (rfl)))
                  · obtain ⟨x, rfl⟩ := upd_of (show x 6 = .int .u8 y1 from hd 6 _ (by simp) rfl)
                    show wpOp Try.prog _ _ 7 K (⟨#[t 0, .pointer (some ⟨w.heap.size, 0, none⟩), .pointer (some ⟨(w.heap.size + 1), 0, none⟩), .pointer (some ⟨(w.heap.size + 1 + 1), 0, none⟩), t 4, t 5, t 6, .int .i64 (k : Int), .pointer (some ⟨wr.heap.size, 0, none⟩), .int .i64 (1000 + 35 * y0), t 10, t 11, t 12, t 13, t 14, t 15, t 16, t 17, t 18, t 19, t 20, t 21, t 22, t 23, t 24, t 25, t 26, t 27, t 28, t 29, t 30, t 31, t 32, t 33, t 34, t 35, t 36, t 37, t 38, t 39, t 40, t 41, t 42, t 43, t 44, t 45, t 46, t 47, t 48, t 49, t 50, t 51, t 52, t 53, t 54, t 55, t 56, t 57, t 58, t 59, t 60, t 61, t 62, t 63, t 64, t 65, t 66, t 67, t 68, t 69, t 70, t 71, t 72, t 73, t 74, t 75, t 76, t 77, t 78, t 79, t 80, t 81, t 82, t 83, t 84, t 85, t 86, t 87, t 88, t 89, t 90, t 91, t 92, t 93, t 94, t 95, r 96, r 97, r 98, r 99, r 100, r 101, r 102, r 103, r 104, r 105, r 106, r 107, r 108, r 109, r 110, r 111, r 112, r 113, r 114, r 115, r 116, r 117, r 118, r 119, r 120, r 121, r 122, r 123, r 124, r 125, r 126, x 0, x 1, x 2, x 3, x 4, x 5, .int .u8 y1, x 7, x 8, x 9, x 10, x 11, x 12, x 13, x 14, x 15, x 16, x 17, x 18, x 19, x 20, x 21, x 22, x 23, x 24, x 25, x 26, x 27, x 28, r 156, r 157, undef], []⟩ : Act) v
                    refine wpOp_step rfl (fun K' hK' => ?_)
                    go_simp
                    exact hK' _ _ (hK _ _ (Below.refl _ _) (at_of rfl (rfl)))
                  · obtain ⟨x, rfl⟩ := upd_of (show x 4 = .int .i64 (1000 + 35 * y0) from hd 4 _ (by simp) rfl)
                    obtain ⟨x, rfl⟩ := upd_of (show x 7 = .int .i64 y1 from hd 7 _ (by simp) rfl)
                    show wpOp Try.prog _ _ 8 K (⟨#[t 0, .pointer (some ⟨w.heap.size, 0, none⟩), .pointer (some ⟨(w.heap.size + 1), 0, none⟩), .pointer (some ⟨(w.heap.size + 1 + 1), 0, none⟩), t 4, t 5, t 6, .int .i64 (k : Int), .pointer (some ⟨wr.heap.size, 0, none⟩), .int .i64 (1000 + 35 * y0), t 10, t 11, t 12, t 13, t 14, t 15, t 16, t 17, t 18, t 19, t 20, t 21, t 22, t 23, t 24, t 25, t 26, t 27, t 28, t 29, t 30, t 31, t 32, t 33, t 34, t 35, t 36, t 37, t 38, t 39, t 40, t 41, t 42, t 43, t 44, t 45, t 46, t 47, t 48, t 49, t 50, t 51, t 52, t 53, t 54, t 55, t 56, t 57, t 58, t 59, t 60, t 61, t 62, t 63, t 64, t 65, t 66, t 67, t 68, t 69, t 70, t 71, t 72, t 73, t 74, t 75, t 76, t 77, t 78, t 79, t 80, t 81, t 82, t 83, t 84, t 85, t 86, t 87, t 88, t 89, t 90, t 91, t 92, t 93, t 94, t 95, r 96, r 97, r 98, r 99, r 100, r 101, r 102, r 103, r 104, r 105, r 106, r 107, r 108, r 109, r 110, r 111, r 112, r 113, r 114, r 115, r 116, r 117, r 118, r 119, r 120, r 121, r 122, r 123, r 124, r 125, r 126, x 0, x 1, x 2, x 3, .int .i64 (1000 + 35 * y0), x 5, x 6, .int .i64 y1, x 8, x 9, x 10, x 11, x 12, x 13, x 14, x 15, x 16, x 17, x 18, x 19, x 20, x 21, x 22, x 23, x 24, x 25, x 26, x 27, x 28, r 156, r 157, undef], []⟩ : Act) v
                    refine wpOp_step rfl (fun K' hK' => ?_)
                    go_simp
                    exact hK' _ _ (hK _ _ (Below.refl _ _) (at_of rfl (rfl)))
                  · obtain ⟨x, rfl⟩ := upd_of (show x 8 = .int .i64 ((1000 + 35 * y0) * y1) from hd 8 _ (by simp) rfl)
                    show wpOp Try.prog _ _ 9 K (⟨#[t 0, .pointer (some ⟨w.heap.size, 0, none⟩), .pointer (some ⟨(w.heap.size + 1), 0, none⟩), .pointer (some ⟨(w.heap.size + 1 + 1), 0, none⟩), t 4, t 5, t 6, .int .i64 (k : Int), .pointer (some ⟨wr.heap.size, 0, none⟩), .int .i64 (1000 + 35 * y0), t 10, t 11, t 12, t 13, t 14, t 15, t 16, t 17, t 18, t 19, t 20, t 21, t 22, t 23, t 24, t 25, t 26, t 27, t 28, t 29, t 30, t 31, t 32, t 33, t 34, t 35, t 36, t 37, t 38, t 39, t 40, t 41, t 42, t 43, t 44, t 45, t 46, t 47, t 48, t 49, t 50, t 51, t 52, t 53, t 54, t 55, t 56, t 57, t 58, t 59, t 60, t 61, t 62, t 63, t 64, t 65, t 66, t 67, t 68, t 69, t 70, t 71, t 72, t 73, t 74, t 75, t 76, t 77, t 78, t 79, t 80, t 81, t 82, t 83, t 84, t 85, t 86, t 87, t 88, t 89, t 90, t 91, t 92, t 93, t 94, t 95, r 96, r 97, r 98, r 99, r 100, r 101, r 102, r 103, r 104, r 105, r 106, r 107, r 108, r 109, r 110, r 111, r 112, r 113, r 114, r 115, r 116, r 117, r 118, r 119, r 120, r 121, r 122, r 123, r 124, r 125, r 126, x 0, x 1, x 2, x 3, x 4, x 5, x 6, x 7, .int .i64 ((1000 + 35 * y0) * y1), x 9, x 10, x 11, x 12, x 13, x 14, x 15, x 16, x 17, x 18, x 19, x 20, x 21, x 22, x 23, x 24, x 25, x 26, x 27, x 28, r 156, r 157, undef], []⟩ : Act) v
                    refine wpOp_step rfl (fun K' hK' => ?_)
                    go_simp
                    exact hK' _ _ (hK _ _ (Below.refl _ _) (at_of rfl (rfl)))
                  · obtain ⟨x, rfl⟩ := upd_of (show x 3 = .int .i64 (1000 + 35 * y0) from hd 3 _ (by simp) rfl)
                    obtain ⟨x, rfl⟩ := upd_of (show x 9 = .int .i64 (((1000 + 35 * y0) * y1) / 255) from hd 9 _ (by simp) rfl)
                    show wpOp Try.prog _ _ 10 K (⟨#[t 0, .pointer (some ⟨w.heap.size, 0, none⟩), .pointer (some ⟨(w.heap.size + 1), 0, none⟩), .pointer (some ⟨(w.heap.size + 1 + 1), 0, none⟩), t 4, t 5, t 6, .int .i64 (k : Int), .pointer (some ⟨wr.heap.size, 0, none⟩), .int .i64 (1000 + 35 * y0), t 10, t 11, t 12, t 13, t 14, t 15, t 16, t 17, t 18, t 19, t 20, t 21, t 22, t 23, t 24, t 25, t 26, t 27, t 28, t 29, t 30, t 31, t 32, t 33, t 34, t 35, t 36, t 37, t 38, t 39, t 40, t 41, t 42, t 43, t 44, t 45, t 46, t 47, t 48, t 49, t 50, t 51, t 52, t 53, t 54, t 55, t 56, t 57, t 58, t 59, t 60, t 61, t 62, t 63, t 64, t 65, t 66, t 67, t 68, t 69, t 70, t 71, t 72, t 73, t 74, t 75, t 76, t 77, t 78, t 79, t 80, t 81, t 82, t 83, t 84, t 85, t 86, t 87, t 88, t 89, t 90, t 91, t 92, t 93, t 94, t 95, r 96, r 97, r 98, r 99, r 100, r 101, r 102, r 103, r 104, r 105, r 106, r 107, r 108, r 109, r 110, r 111, r 112, r 113, r 114, r 115, r 116, r 117, r 118, r 119, r 120, r 121, r 122, r 123, r 124, r 125, r 126, x 0, x 1, x 2, .int .i64 (1000 + 35 * y0), x 4, x 5, x 6, x 7, x 8, .int .i64 (((1000 + 35 * y0) * y1) / 255), x 10, x 11, x 12, x 13, x 14, x 15, x 16, x 17, x 18, x 19, x 20, x 21, x 22, x 23, x 24, x 25, x 26, x 27, x 28, r 156, r 157, undef], []⟩ : Act) v
                    refine wpOp_step rfl (fun K' hK' => ?_)
                    go_simp
                    exact hK' _ _ (hK _ _ (Below.refl _ _) (at_of rfl (rfl)))
                  · show wpOp Try.prog _ _ 11 K (⟨#[t 0, .pointer (some ⟨w.heap.size, 0, none⟩), .pointer (some ⟨(w.heap.size + 1), 0, none⟩), .pointer (some ⟨(w.heap.size + 1 + 1), 0, none⟩), t 4, t 5, t 6, .int .i64 (k : Int), .pointer (some ⟨wr.heap.size, 0, none⟩), .int .i64 (1000 + 35 * y0), t 10, t 11, t 12, t 13, t 14, t 15, t 16, t 17, t 18, t 19, t 20, t 21, t 22, t 23, t 24, t 25, t 26, t 27, t 28, t 29, t 30, t 31, t 32, t 33, t 34, t 35, t 36, t 37, t 38, t 39, t 40, t 41, t 42, t 43, t 44, t 45, t 46, t 47, t 48, t 49, t 50, t 51, t 52, t 53, t 54, t 55, t 56, t 57, t 58, t 59, t 60, t 61, t 62, t 63, t 64, t 65, t 66, t 67, t 68, t 69, t 70, t 71, t 72, t 73, t 74, t 75, t 76, t 77, t 78, t 79, t 80, t 81, t 82, t 83, t 84, t 85, t 86, t 87, t 88, t 89, t 90, t 91, t 92, t 93, t 94, t 95, r 96, r 97, r 98, r 99, r 100, r 101, r 102, r 103, r 104, r 105, r 106, r 107, r 108, r 109, r 110, r 111, r 112, r 113, r 114, r 115, r 116, r 117, r 118, r 119, r 120, r 121, r 122, r 123, r 124, r 125, r 126, x 0, x 1, x 2, x 3, x 4, x 5, x 6, x 7, x 8, x 9, x 10, x 11, x 12, x 13, x 14, x 15, x 16, x 17, x 18, x 19, x 20, x 21, x 22, x 23, x 24, x 25, x 26, x 27, x 28, r 156, r 157, undef], []⟩ : Act) v
                    refine wpOp_step rfl (fun K' hK' => ?_)
                    go_simp
                    exact hK' _ _ (hK _ _ (Below.refl _ _) (at_of rfl (rfl)))
                  · obtain ⟨x, rfl⟩ := upd_of (show x 11 = .pointer (some ⟨wr.heap.size, 2, none⟩) from hd 11 _ (by simp) rfl)
                    show wpOp Try.prog _ _ 12 K (⟨#[t 0, .pointer (some ⟨w.heap.size, 0, none⟩), .pointer (some ⟨(w.heap.size + 1), 0, none⟩), .pointer (some ⟨(w.heap.size + 1 + 1), 0, none⟩), t 4, t 5, t 6, .int .i64 (k : Int), .pointer (some ⟨wr.heap.size, 0, none⟩), .int .i64 (1000 + 35 * y0), t 10, t 11, t 12, t 13, t 14, t 15, t 16, t 17, t 18, t 19, t 20, t 21, t 22, t 23, t 24, t 25, t 26, t 27, t 28, t 29, t 30, t 31, t 32, t 33, t 34, t 35, t 36, t 37, t 38, t 39, t 40, t 41, t 42, t 43, t 44, t 45, t 46, t 47, t 48, t 49, t 50, t 51, t 52, t 53, t 54, t 55, t 56, t 57, t 58, t 59, t 60, t 61, t 62, t 63, t 64, t 65, t 66, t 67, t 68, t 69, t 70, t 71, t 72, t 73, t 74, t 75, t 76, t 77, t 78, t 79, t 80, t 81, t 82, t 83, t 84, t 85, t 86, t 87, t 88, t 89, t 90, t 91, t 92, t 93, t 94, t 95, r 96, r 97, r 98, r 99, r 100, r 101, r 102, r 103, r 104, r 105, r 106, r 107, r 108, r 109, r 110, r 111, r 112, r 113, r 114, r 115, r 116, r 117, r 118, r 119, r 120, r 121, r 122, r 123, r 124, r 125, r 126, x 0, x 1, x 2, x 3, x 4, x 5, x 6, x 7, x 8, x 9, x 10, .pointer (some ⟨wr.heap.size, 2, none⟩), x 12, x 13, x 14, x 15, x 16, x 17, x 18, x 19, x 20, x 21, x 22, x 23, x 24, x 25, x 26, x 27, x 28, r 156, r 157, undef], []⟩ : Act) v
                    refine wpOp_step rfl (fun K' hK' => ?_)
                    have q := (ov.1.keep gv).2 2 _ rfl
                    go_simp
                    exact hK' _ _ (hK _ _ (Below.refl _ _) (at_of rfl (rfl)))
                  · obtain ⟨x, rfl⟩ := upd_of (show x 12 = .int .u8 y2 from hd 12 _ (by simp) rfl)
                    show wpOp Try.prog _ _ 13 K (⟨#[t 0, .pointer (some ⟨w.heap.size, 0, none⟩), .pointer (some ⟨(w.heap.size + 1), 0, none⟩), .pointer (some ⟨(w.heap.size + 1 + 1), 0, none⟩), t 4, t 5, t 6, .int .i64 (k : Int), .pointer (some ⟨wr.heap.size, 0, none⟩), .int .i64 (1000 + 35 * y0), t 10, t 11, t 12, t 13, t 14, t 15, t 16, t 17, t 18, t 19, t 20, t 21, t 22, t 23, t 24, t 25, t 26, t 27, t 28, t 29, t 30, t 31, t 32, t 33, t 34, t 35, t 36, t 37, t 38, t 39, t 40, t 41, t 42, t 43, t 44, t 45, t 46, t 47, t 48, t 49, t 50, t 51, t 52, t 53, t 54, t 55, t 56, t 57, t 58, t 59, t 60, t 61, t 62, t 63, t 64, t 65, t 66, t 67, t 68, t 69, t 70, t 71, t 72, t 73, t 74, t 75, t 76, t 77, t 78, t 79, t 80, t 81, t 82, t 83, t 84, t 85, t 86, t 87, t 88, t 89, t 90, t 91, t 92, t 93, t 94, t 95, r 96, r 97, r 98, r 99, r 100, r 101, r 102, r 103, r 104, r 105, r 106, r 107, r 108, r 109, r 110, r 111, r 112, r 113, r 114, r 115, r 116, r 117, r 118, r 119, r 120, r 121, r 122, r 123, r 124, r 125, r 126, x 0, x 1, x 2, x 3, x 4, x 5, x 6, x 7, x 8, x 9, x 10, x 11, .int .u8 y2, x 13, x 14, x 15, x 16, x 17, x 18, x 19, x 20, x 21, x 22, x 23, x 24, x 25, x 26, x 27, x 28, r 156, r 157, undef], []⟩ : Act) v
                    refine wpOp_step rfl (fun K' hK' => ?_)
                    go_simp
                    exact hK' _ _ (hK _ _ (Below.refl _ _) (at_of rfl (rfl)))
                  · obtain ⟨x, rfl⟩ := upd_of (show x 13 = .int .i64 y2 from hd 13 _ (by simp) rfl)
                    show wpOp Try.prog _ _ 14 K (⟨#[t 0, .pointer (some ⟨w.heap.size, 0, none⟩), .pointer (some ⟨(w.heap.size + 1), 0, none⟩), .pointer (some ⟨(w.heap.size + 1 + 1), 0, none⟩), t 4, t 5, t 6, .int .i64 (k : Int), .pointer (some ⟨wr.heap.size, 0, none⟩), .int .i64 (1000 + 35 * y0), t 10, t 11, t 12, t 13, t 14, t 15, t 16, t 17, t 18, t 19, t 20, t 21, t 22, t 23, t 24, t 25, t 26, t 27, t 28, t 29, t 30, t 31, t 32, t 33, t 34, t 35, t 36, t 37, t 38, t 39, t 40, t 41, t 42, t 43, t 44, t 45, t 46, t 47, t 48, t 49, t 50, t 51, t 52, t 53, t 54, t 55, t 56, t 57, t 58, t 59, t 60, t 61, t 62, t 63, t 64, t 65, t 66, t 67, t 68, t 69, t 70, t 71, t 72, t 73, t 74, t 75, t 76, t 77, t 78, t 79, t 80, t 81, t 82, t 83, t 84, t 85, t 86, t 87, t 88, t 89, t 90, t 91, t 92, t 93, t 94, t 95, r 96, r 97, r 98, r 99, r 100, r 101, r 102, r 103, r 104, r 105, r 106, r 107, r 108, r 109, r 110, r 111, r 112, r 113, r 114, r 115, r 116, r 117, r 118, r 119, r 120, r 121, r 122, r 123, r 124, r 125, r 126, x 0, x 1, x 2, x 3, x 4, x 5, x 6, x 7, x 8, x 9, x 10, x 11, x 12, .int .i64 y2, x 14, x 15, x 16, x 17, x 18, x 19, x 20, x 21, x 22, x 23, x 24, x 25, x 26, x 27, x 28, r 156, r 157, undef], []⟩ : Act) v
                    refine wpOp_step rfl (fun K' hK' => ?_)
                    go_simp
                    exact hK' _ _ (hK _ _ (Below.refl _ _) (at_of rfl (rfl)))
                  · obtain ⟨x, rfl⟩ := upd_of (show x 14 = .int .i64 (10 * y2) from hd 14 _ (by simp) rfl)
                    show wpOp Try.prog _ _ 15 K (⟨#[t 0, .pointer (some ⟨w.heap.size, 0, none⟩), .pointer (some ⟨(w.heap.size + 1), 0, none⟩), .pointer (some ⟨(w.heap.size + 1 + 1), 0, none⟩), t 4, t 5, t 6, .int .i64 (k : Int), .pointer (some ⟨wr.heap.size, 0, none⟩), .int .i64 (1000 + 35 * y0), t 10, t 11, t 12, t 13, t 14, t 15, t 16, t 17, t 18, t 19, t 20, t 21, t 22, t 23, t 24, t 25, t 26, t 27, t 28, t 29, t 30, t 31, t 32, t 33, t 34, t 35, t 36, t 37, t 38, t 39, t 40, t 41, t 42, t 43, t 44, t 45, t 46, t 47, t 48, t 49, t 50, t 51, t 52, t 53, t 54, t 55, t 56, t 57, t 58, t 59, t 60, t 61, t 62, t 63, t 64, t 65, t 66, t 67, t 68, t 69, t 70, t 71, t 72, t 73, t 74, t 75, t 76, t 77, t 78, t 79, t 80, t 81, t 82, t 83, t 84, t 85, t 86, t 87, t 88, t 89, t 90, t 91, t 92, t 93, t 94, t 95, r 96, r 97, r 98, r 99, r 100, r 101, r 102, r 103, r 104, r 105, r 106, r 107, r 108, r 109, r 110, r 111, r 112, r 113, r 114, r 115, r 116, r 117, r 118, r 119, r 120, r 121, r 122, r 123, r 124, r 125, r 126, x 0, x 1, x 2, x 3, x 4, x 5, x 6, x 7, x 8, x 9, x 10, x 11, x 12, x 13, .int .i64 (10 * y2), x 15, x 16, x 17, x 18, x 19, x 20, x 21, x 22, x 23, x 24, x 25, x 26, x 27, x 28, r 156, r 157, undef], []⟩ : Act) v
                    refine wpOp_step rfl (fun K' hK' => ?_)
                    go_simp
                    exact hK' _ _ (hK _ _ (Below.refl _ _) (at_of rfl (rfl)))
                  · show wpOp Try.prog _ _ 16 K (⟨#[t 0, .pointer (some ⟨w.heap.size, 0, none⟩), .pointer (some ⟨(w.heap.size + 1), 0, none⟩), .pointer (some ⟨(w.heap.size + 1 + 1), 0, none⟩), t 4, t 5, t 6, .int .i64 (k : Int), .pointer (some ⟨wr.heap.size, 0, none⟩), .int .i64 (1000 + 35 * y0), t 10, t 11, t 12, t 13, t 14, t 15, t 16, t 17, t 18, t 19, t 20, t 21, t 22, t 23, t 24, t 25, t 26, t 27, t 28, t 29, t 30, t 31, t 32, t 33, t 34, t 35, t 36, t 37, t 38, t 39, t 40, t 41, t 42, t 43, t 44, t 45, t 46, t 47, t 48, t 49, t 50, t 51, t 52, t 53, t 54, t 55, t 56, t 57, t 58, t 59, t 60, t 61, t 62, t 63, t 64, t 65, t 66, t 67, t 68, t 69, t 70, t 71, t 72, t 73, t 74, t 75, t 76, t 77, t 78, t 79, t 80, t 81, t 82, t 83, t 84, t 85, t 86, t 87, t 88, t 89, t 90, t 91, t 92, t 93, t 94, t 95, r 96, r 97, r 98, r 99, r 100, r 101, r 102, r 103, r 104, r 105, r 106, r 107, r 108, r 109, r 110, r 111, r 112, r 113, r 114, r 115, r 116, r 117, r 118, r 119, r 120, r 121, r 122, r 123, r 124, r 125, r 126, x 0, x 1, x 2, x 3, x 4, x 5, x 6, x 7, x 8, x 9, x 10, x 11, x 12, x 13, x 14, x 15, x 16, x 17, x 18, x 19, x 20, x 21, x 22, x 23, x 24, x 25, x 26, x 27, x 28, r 156, r 157, undef], []⟩ : Act) v
                    refine wpOp_step rfl (fun K' hK' => ?_)
                    go_simp
                    exact hK' _ _ (hK _ _ (Below.refl _ _) (at_of rfl (rfl)))
                  · obtain ⟨x, rfl⟩ := upd_of (show x 16 = .pointer (some ⟨wr.heap.size, 2, none⟩) from hd 16 _ (by simp) rfl)
                    show wpOp Try.prog _ _ 17 K (⟨#[t 0, .pointer (some ⟨w.heap.size, 0, none⟩), .pointer (some ⟨(w.heap.size + 1), 0, none⟩), .pointer (some ⟨(w.heap.size + 1 + 1), 0, none⟩), t 4, t 5, t 6, .int .i64 (k : Int), .pointer (some ⟨wr.heap.size, 0, none⟩), .int .i64 (1000 + 35 * y0), t 10, t 11, t 12, t 13, t 14, t 15, t 16, t 17, t 18, t 19, t 20, t 21, t 22, t 23, t 24, t 25, t 26, t 27, t 28, t 29, t 30, t 31, t 32, t 33, t 34, t 35, t 36, t 37, t 38, t 39, t 40, t 41, t 42, t 43, t 44, t 45, t 46, t 47, t 48, t 49, t 50, t 51, t 52, t 53, t 54, t 55, t 56, t 57, t 58, t 59, t 60, t 61, t 62, t 63, t 64, t 65, t 66, t 67, t 68, t 69, t 70, t 71, t 72, t 73, t 74, t 75, t 76, t 77, t 78, t 79, t 80, t 81, t 82, t 83, t 84, t 85, t 86, t 87, t 88, t 89, t 90, t 91, t 92, t 93, t 94, t 95, r 96, r 97, r 98, r 99, r 100, r 101, r 102, r 103, r 104, r 105, r 106, r 107, r 108, r 109, r 110, r 111, r 112, r 113, r 114, r 115, r 116, r 117, r 118, r 119, r 120, r 121, r 122, r 123, r 124, r 125, r 126, x 0, x 1, x 2, x 3, x 4, x 5, x 6, x 7, x 8, x 9, x 10, x 11, x 12, x 13, x 14, x 15, .pointer (some ⟨wr.heap.size, 2, none⟩), x 17, x 18, x 19, x 20, x 21, x 22, x 23, x 24, x 25, x 26, x 27, x 28, r 156, r 157, undef], []⟩ : Act) v
                    refine wpOp_step rfl (fun K' hK' => ?_)
                    have q := (ov.1.keep gv).2 2 _ rfl
                    go_simp
                    exact hK' _ _ (hK _ _ (Below.refl _ _) (at_of rfl (rfl)))
                  · obtain ⟨x, rfl⟩ := upd_of (show x 17 = .int .u8 y2 from hd 17 _ (by simp) rfl)
                    show wpOp Try.prog _ _ 18 K (⟨#[t 0, .pointer (some ⟨w.heap.size, 0, none⟩), .pointer (some ⟨(w.heap.size + 1), 0, none⟩), .pointer (some ⟨(w.heap.size + 1 + 1), 0, none⟩), t 4, t 5, t 6, .int .i64 (k : Int), .pointer (some ⟨wr.heap.size, 0, none⟩), .int .i64 (1000 + 35 * y0), t 10, t 11, t 12, t 13, t 14, t 15, t 16, t 17, t 18, t 19, t 20, t 21, t 22, t 23, t 24, t 25, t 26, t 27, t 28, t 29, t 30, t 31, t 32, t 33, t 34, t 35, t 36, t 37, t 38, t 39, t 40, t 41, t 42, t 43, t 44, t 45, t 46, t 47, t 48, t 49, t 50, t 51, t 52, t 53, t 54, t 55, t 56, t 57, t 58, t 59, t 60, t 61, t 62, t 63, t 64, t 65, t 66, t 67, t 68, t 69, t 70, t 71, t 72, t 73, t 74, t 75, t 76, t 77, t 78, t 79, t 80, t 81, t 82, t 83, t 84, t 85, t 86, t 87, t 88, t 89, t 90, t 91, t 92, t 93, t 94, t 95, r 96, r 97, r 98, r 99, r 100, r 101, r 102, r 103, r 104, r 105, r 106, r 107, r 108, r 109, r 110, r 111, r 112, r 113, r 114, r 115, r 116, r 117, r 118, r 119, r 120, r 121, r 122, r 123, r 124, r 125, r 126, x 0, x 1, x 2, x 3, x 4, x 5, x 6, x 7, x 8, x 9, x 10, x 11, x 12, x 13, x 14, x 15, x 16, .int .u8 y2, x 18, x 19, x 20, x 21, x 22, x 23, x 24, x 25, x 26, x 27, x 28, r 156, r 157, undef], []⟩ : Act) v
                    refine wpOp_step rfl (fun K' hK' => ?_)
                    go_simp
                    exact hK' _ _ (hK _ _ (Below.refl _ _) (at_of rfl (rfl)))
                  · obtain ⟨x, rfl⟩ := upd_of (show x 18 = .int .i64 y2 from hd 18 _ (by simp) rfl)
                    show wpOp Try.prog _ _ 19 K (⟨#[t 0, .pointer (some ⟨w.heap.size, 0, none⟩), .pointer (some ⟨(w.heap.size + 1), 0, none⟩), .pointer (some ⟨(w.heap.size + 1 + 1), 0, none⟩), t 4, t 5, t 6, .int .i64 (k : Int), .pointer (some ⟨wr.heap.size, 0, none⟩), .int .i64 (1000 + 35 * y0), t 10, t 11, t 12, t 13, t 14, t 15, t 16, t 17, t 18, t 19, t 20, t 21, t 22, t 23, t 24, t 25, t 26, t 27, t 28, t 29, t 30, t 31, t 32, t 33, t 34, t 35, t 36, t 37, t 38, t 39, t 40, t 41, t 42, t 43, t 44, t 45, t 46, t 47, t 48, t 49, t 50, t 51, t 52, t 53, t 54, t 55, t 56, t 57, t 58, t 59, t 60, t 61, t 62, t 63, t 64, t 65, t 66, t 67, t 68, t 69, t 70, t 71, t 72, t 73, t 74, t 75, t 76, t 77, t 78, t 79, t 80, t 81, t 82, t 83, t 84, t 85, t 86, t 87, t 88, t 89, t 90, t 91, t 92, t 93, t 94, t 95, r 96, r 97, r 98, r 99, r 100, r 101, r 102, r 103, r 104, r 105, r 106, r 107, r 108, r 109, r 110, r 111, r 112, r 113, r 114, r 115, r 116, r 117, r 118, r 119, r 120, r 121, r 122, r 123, r 124, r 125, r 126, x 0, x 1, x 2, x 3, x 4, x 5, x 6, x 7, x 8, x 9, x 10, x 11, x 12, x 13, x 14, x 15, x 16, x 17, .int .i64 y2, x 19, x 20, x 21, x 22, x 23, x 24, x 25, x 26, x 27, x 28, r 156, r 157, undef], []⟩ : Act) v
                    refine wpOp_step rfl (fun K' hK' => ?_)
                    go_simp
                    exact hK' _ _ (hK _ _ (Below.refl _ _) (at_of rfl (rfl)))
                  · obtain ⟨x, rfl⟩ := upd_of (show x 19 = .int .i64 (10 * y2) from hd 19 _ (by simp) rfl)
                    show wpOp Try.prog _ _ 20 K (⟨#[t 0, .pointer (some ⟨w.heap.size, 0, none⟩), .pointer (some ⟨(w.heap.size + 1), 0, none⟩), .pointer (some ⟨(w.heap.size + 1 + 1), 0, none⟩), t 4, t 5, t 6, .int .i64 (k : Int), .pointer (some ⟨wr.heap.size, 0, none⟩), .int .i64 (1000 + 35 * y0), t 10, t 11, t 12, t 13, t 14, t 15, t 16, t 17, t 18, t 19, t 20, t 21, t 22, t 23, t 24, t 25, t 26, t 27, t 28, t 29, t 30, t 31, t 32, t 33, t 34, t 35, t 36, t 37, t 38, t 39, t 40, t 41, t 42, t 43, t 44, t 45, t 46, t 47, t 48, t 49, t 50, t 51, t 52, t 53, t 54, t 55, t 56, t 57, t 58, t 59, t 60, t 61, t 62, t 63, t 64, t 65, t 66, t 67, t 68, t 69, t 70, t 71, t 72, t 73, t 74, t 75, t 76, t 77, t 78, t 79, t 80, t 81, t 82, t 83, t 84, t 85, t 86, t 87, t 88, t 89, t 90, t 91, t 92, t 93, t 94, t 95, r 96, r 97, r 98, r 99, r 100, r 101, r 102, r 103, r 104, r 105, r 106, r 107, r 108, r 109, r 110, r 111, r 112, r 113, r 114, r 115, r 116, r 117, r 118, r 119, r 120, r 121, r 122, r 123, r 124, r 125, r 126, x 0, x 1, x 2, x 3, x 4, x 5, x 6, x 7, x 8, x 9, x 10, x 11, x 12, x 13, x 14, x 15, x 16, x 17, x 18, .int .i64 (10 * y2), x 20, x 21, x 22, x 23, x 24, x 25, x 26, x 27, x 28, r 156, r 157, undef], []⟩ : Act) v
                    refine wpOp_step rfl (fun K' hK' => ?_)
                    go_simp
                    exact hK' _ _ (hK _ _ (Below.refl _ _) (at_of rfl (rfl)))
                  · show wpOp Try.prog _ _ 21 K (⟨#[t 0, .pointer (some ⟨w.heap.size, 0, none⟩), .pointer (some ⟨(w.heap.size + 1), 0, none⟩), .pointer (some ⟨(w.heap.size + 1 + 1), 0, none⟩), t 4, t 5, t 6, .int .i64 (k : Int), .pointer (some ⟨wr.heap.size, 0, none⟩), .int .i64 (1000 + 35 * y0), t 10, t 11, t 12, t 13, t 14, t 15, t 16, t 17, t 18, t 19, t 20, t 21, t 22, t 23, t 24, t 25, t 26, t 27, t 28, t 29, t 30, t 31, t 32, t 33, t 34, t 35, t 36, t 37, t 38, t 39, t 40, t 41, t 42, t 43, t 44, t 45, t 46, t 47, t 48, t 49, t 50, t 51, t 52, t 53, t 54, t 55, t 56, t 57, t 58, t 59, t 60, t 61, t 62, t 63, t 64, t 65, t 66, t 67, t 68, t 69, t 70, t 71, t 72, t 73, t 74, t 75, t 76, t 77, t 78, t 79, t 80, t 81, t 82, t 83, t 84, t 85, t 86, t 87, t 88, t 89, t 90, t 91, t 92, t 93, t 94, t 95, r 96, r 97, r 98, r 99, r 100, r 101, r 102, r 103, r 104, r 105, r 106, r 107, r 108, r 109, r 110, r 111, r 112, r 113, r 114, r 115, r 116, r 117, r 118, r 119, r 120, r 121, r 122, r 123, r 124, r 125, r 126, x 0, x 1, x 2, x 3, x 4, x 5, x 6, x 7, x 8, x 9, x 10, x 11, x 12, x 13, x 14, x 15, x 16, x 17, x 18, x 19, x 20, x 21, x 22, x 23, x 24, x 25, x 26, x 27, x 28, r 156, r 157, undef], []⟩ : Act) v
                    refine wpOp_step rfl (fun K' hK' => ?_)
                    go_simp
                    exact hK' _ _ (hK _ _ (Below.refl _ _) (at_of rfl (rfl)))
                  · obtain ⟨x, rfl⟩ := upd_of (show x 21 = .pointer (some ⟨wr.heap.size, 1, none⟩) from hd 21 _ (by simp) rfl)
                    show wpOp Try.prog _ _ 22 K (⟨#[t 0, .pointer (some ⟨w.heap.size, 0, none⟩), .pointer (some ⟨(w.heap.size + 1), 0, none⟩), .pointer (some ⟨(w.heap.size + 1 + 1), 0, none⟩), t 4, t 5, t 6, .int .i64 (k : Int), .pointer (some ⟨wr.heap.size, 0, none⟩), .int .i64 (1000 + 35 * y0), t 10, t 11, t 12, t 13, t 14, t 15, t 16, t 17, t 18, t 19, t 20, t 21, t 22, t 23, t 24, t 25, t 26, t 27, t 28, t 29, t 30, t 31, t 32, t 33, t 34, t 35, t 36, t 37, t 38, t 39, t 40, t 41, t 42, t 43, t 44, t 45, t 46, t 47, t 48, t 49, t 50, t 51, t 52, t 53, t 54, t 55, t 56, t 57, t 58, t 59, t 60, t 61, t 62, t 63, t 64, t 65, t 66, t 67, t 68, t 69, t 70, t 71, t 72, t 73, t 74, t 75, t 76, t 77, t 78, t 79, t 80, t 81, t 82, t 83, t 84, t 85, t 86, t 87, t 88, t 89, t 90, t 91, t 92, t 93, t 94, t 95, r 96, r 97, r 98, r 99, r 100, r 101, r 102, r 103, r 104, r 105, r 106, r 107, r 108, r 109, r 110, r 111, r 112, r 113, r 114, r 115, r 116, r 117, r 118, r 119, r 120, r 121, r 122, r 123, r 124, r 125, r 126, x 0, x 1, x 2, x 3, x 4, x 5, x 6, x 7, x 8, x 9, x 10, x 11, x 12, x 13, x 14, x 15, x 16, x 17, x 18, x 19, x 20, .pointer (some ⟨wr.heap.size, 1, none⟩), x 22, x 23, x 24, x 25, x 26, x 27, x 28, r 156, r 157, undef], []⟩ : Act) v
                    refine wpOp_step rfl (fun K' hK' => ?_)
                    have q := (ov.1.keep gv).2 1 _ rfl
                    go_simp
                    exact hK' _ _ (hK _ _ (Below.refl _ _) (at_of rfl (rfl)))
                  · obtain ⟨x, rfl⟩ := upd_of (show x 22 = .int .u8 y1 from hd 22 _ (by simp) rfl)
                    show wpOp Try.prog _ _ 23 K (⟨#[t 0, .pointer (some ⟨w.heap.size, 0, none⟩), .pointer (some ⟨(w.heap.size + 1), 0, none⟩), .pointer (some ⟨(w.heap.size + 1 + 1), 0, none⟩), t 4, t 5, t 6, .int .i64 (k : Int), .pointer (some ⟨wr.heap.size, 0, none⟩), .int .i64 (1000 + 35 * y0), t 10, t 11, t 12, t 13, t 14, t 15, t 16, t 17, t 18, t 19, t 20, t 21, t 22, t 23, t 24, t 25, t 26, t 27, t 28, t 29, t 30, t 31, t 32, t 33, t 34, t 35, t 36, t 37, t 38, t 39, t 40, t 41, t 42, t 43, t 44, t 45, t 46, t 47, t 48, t 49, t 50, t 51, t 52, t 53, t 54, t 55, t 56, t 57, t 58, t 59, t 60, t 61, t 62, t 63, t 64, t 65, t 66, t 67, t 68, t 69, t 70, t 71, t 72, t 73, t 74, t 75, t 76, t 77, t 78, t 79, t 80, t 81, t 82, t 83, t 84, t 85, t 86, t 87, t 88, t 89, t 90, t 91, t 92, t 93, t 94, t 95, r 96, r 97, r 98, r 99, r 100, r 101, r 102, r 103, r 104, r 105, r 106, r 107, r 108, r 109, r 110, r 111, r 112, r 113, r 114, r 115, r 116, r 117, r 118, r 119, r 120, r 121, r 122, r 123, r 124, r 125, r 126, x 0, x 1, x 2, x 3, x 4, x 5, x 6, x 7, x 8, x 9, x 10, x 11, x 12, x 13, x 14, x 15, x 16, x 17, x 18, x 19, x 20, x 21, .int .u8 y1, x 23, x 24, x 25, x 26, x 27, x 28, r 156, r 157, undef], []⟩ : Act) v
                    refine wpOp_step rfl (fun K' hK' => ?_)
                    go_simp
                    exact hK' _ _ (hK _ _ (Below.refl _ _) (at_of rfl (rfl)))
                  · obtain ⟨x, rfl⟩ := upd_of (show x 23 = .int .i64 y1 from hd 23 _ (by simp) rfl)
                    show wpOp Try.prog _ _ 24 K (⟨#[t 0, .pointer (some ⟨w.heap.size, 0, none⟩), .pointer (some ⟨(w.heap.size + 1), 0, none⟩), .pointer (some ⟨(w.heap.size + 1 + 1), 0, none⟩), t 4, t 5, t 6, .int .i64 (k : Int), .pointer (some ⟨wr.heap.size, 0, none⟩), .int .i64 (1000 + 35 * y0), t 10, t 11, t 12, t 13, t 14, t 15, t 16, t 17, t 18, t 19, t 20, t 21, t 22, t 23, t 24, t 25, t 26, t 27, t 28, t 29, t 30, t 31, t 32, t 33, t 34, t 35, t 36, t 37, t 38, t 39, t 40, t 41, t 42, t 43, t 44, t 45, t 46, t 47, t 48, t 49, t 50, t 51, t 52, t 53, t 54, t 55, t 56, t 57, t 58, t 59, t 60, t 61, t 62, t 63, t 64, t 65, t 66, t 67, t 68, t 69, t 70, t 71, t 72, t 73, t 74, t 75, t 76, t 77, t 78, t 79, t 80, t 81, t 82, t 83, t 84, t 85, t 86, t 87, t 88, t 89, t 90, t 91, t 92, t 93, t 94, t 95, r 96, r 97, r 98, r 99, r 100, r 101, r 102, r 103, r 104, r 105, r 106, r 107, r 108, r 109, r 110, r 111, r 112, r 113, r 114, r 115, r 116, r 117, r 118, r 119, r 120, r 121, r 122, r 123, r 124, r 125, r 126, x 0, x 1, x 2, x 3, x 4, x 5, x 6, x 7, x 8, x 9, x 10, x 11, x 12, x 13, x 14, x 15, x 16, x 17, x 18, x 19, x 20, x 21, x 22, .int .i64 y1, x 24, x 25, x 26, x 27, x 28, r 156, r 157, undef], []⟩ : Act) v
                    refine wpOp_step rfl (fun K' hK' => ?_)
                    go_simp
                    exact hK' _ _ (hK _ _ (Below.refl _ _) (at_of rfl (rfl)))
                  · obtain ⟨x, rfl⟩ := upd_of (show x 20 = .int .i64 (500 + (10 * y2)) from hd 20 _ (by simp) rfl)
                    obtain ⟨x, rfl⟩ := upd_of (show x 24 = .int .i64 (y1 % 90) from hd 24 _ (by simp) rfl)
                    show wpOp Try.prog _ _ 25 K (⟨#[t 0, .pointer (some ⟨w.heap.size, 0, none⟩), .pointer (some ⟨(w.heap.size + 1), 0, none⟩), .pointer (some ⟨(w.heap.size + 1 + 1), 0, none⟩), t 4, t 5, t 6, .int .i64 (k : Int), .pointer (some ⟨wr.heap.size, 0, none⟩), .int .i64 (1000 + 35 * y0), t 10, t 11, t 12, t 13, t 14, t 15, t 16, t 17, t 18, t 19, t 20, t 21, t 22, t 23, t 24, t 25, t 26, t 27, t 28, t 29, t 30, t 31, t 32, t 33, t 34, t 35, t 36, t 37, t 38, t 39, t 40, t 41, t 42, t 43, t 44, t 45, t 46, t 47, t 48, t 49, t 50, t 51, t 52, t 53, t 54, t 55, t 56, t 57, t 58, t 59, t 60, t 61, t 62, t 63, t 64, t 65, t 66, t 67, t 68, t 69, t 70, t 71, t 72, t 73, t 74, t 75, t 76, t 77, t 78, t 79, t 80, t 81, t 82, t 83, t 84, t 85, t 86, t 87, t 88, t 89, t 90, t 91, t 92, t 93, t 94, t 95, r 96, r 97, r 98, r 99, r 100, r 101, r 102, r 103, r 104, r 105, r 106, r 107, r 108, r 109, r 110, r 111, r 112, r 113, r 114, r 115, r 116, r 117, r 118, r 119, r 120, r 121, r 122, r 123, r 124, r 125, r 126, x 0, x 1, x 2, x 3, x 4, x 5, x 6, x 7, x 8, x 9, x 10, x 11, x 12, x 13, x 14, x 15, x 16, x 17, x 18, x 19, .int .i64 (500 + (10 * y2)), x 21, x 22, x 23, .int .i64 (y1 % 90), x 25, x 26, x 27, x 28, r 156, r 157, undef], []⟩ : Act) v
                    refine wpOp_step rfl (fun K' hK' => ?_)
                    go_simp
                    exact hK' _ _ (hK _ _ (Below.refl _ _) (at_of rfl (rfl)))
                  · obtain ⟨x, rfl⟩ := upd_of (show x 15 = .int .i64 (500 + (10 * y2)) from hd 15 _ (by simp) rfl)
                    obtain ⟨x, rfl⟩ := upd_of (show x 25 = .int .i64 ((500 + (10 * y2)) + (y1 % 90)) from hd 25 _ (by simp) rfl)
                    show wpOp Try.prog _ _ 26 K (⟨#[t 0, .pointer (some ⟨w.heap.size, 0, none⟩), .pointer (some ⟨(w.heap.size + 1), 0, none⟩), .pointer (some ⟨(w.heap.size + 1 + 1), 0, none⟩), t 4, t 5, t 6, .int .i64 (k : Int), .pointer (some ⟨wr.heap.size, 0, none⟩), .int .i64 (1000 + 35 * y0), t 10, t 11, t 12, t 13, t 14, t 15, t 16, t 17, t 18, t 19, t 20, t 21, t 22, t 23, t 24, t 25, t 26, t 27, t 28, t 29, t 30, t 31, t 32, t 33, t 34, t 35, t 36, t 37, t 38, t 39, t 40, t 41, t 42, t 43, t 44, t 45, t 46, t 47, t 48, t 49, t 50, t 51, t 52, t 53, t 54, t 55, t 56, t 57, t 58, t 59, t 60, t 61, t 62, t 63, t 64, t 65, t 66, t 67, t 68, t 69, t 70, t 71, t 72, t 73, t 74, t 75, t 76, t 77, t 78, t 79, t 80, t 81, t 82, t 83, t 84, t 85, t 86, t 87, t 88, t 89, t 90, t 91, t 92, t 93, t 94, t 95, r 96, r 97, r 98, r 99, r 100, r 101, r 102, r 103, r 104, r 105, r 106, r 107, r 108, r 109, r 110, r 111, r 112, r 113, r 114, r 115, r 116, r 117, r 118, r 119, r 120, r 121, r 122, r 123, r 124, r 125, r 126, x 0, x 1, x 2, x 3, x 4, x 5, x 6, x 7, x 8, x 9, x 10, x 11, x 12, x 13, x 14, .int .i64 (500 + (10 * y2)), x 16, x 17, x 18, x 19, x 20, x 21, x 22, x 23, x 24, .int .i64 ((500 + (10 * y2)) + (y1 % 90)), x 26, x 27, x 28, r 156, r 157, undef], []⟩ : Act) v
                    refine wpOp_step rfl (fun K' hK' => ?_)
                    go_simp
                    refine (armSpan_any (500 + (10 * y2)) ((500 + (10 * y2)) + (y1 % 90)) v).mono ?_
                    rintro e v' ⟨rfl, hg⟩
                    exact hK' _ _ (hK _ _ hg (at_of rfl (rfl)))
                  · obtain ⟨x, rfl⟩ := upd_of (show x 2 = .int .i64 (1000 + 35 * y0) from hd 2 _ (by simp) rfl)
                    obtain ⟨x, rfl⟩ := upd_of (show x 10 = .int .i64 ((1000 + 35 * y0) + (((1000 + 35 * y0) * y1) / 255)) from hd 10 _ (by simp) rfl)
                    obtain ⟨x, rfl⟩ := upd_of (show x 26 = .agg #[.int .i64 (500 + (10 * y2)), .int .i64 ((500 + (10 * y2)) + (y1 % 90))] from hd 26 _ (by simp) rfl)
                    show wpOp Try.prog _ _ 27 K (⟨#[t 0, .pointer (some ⟨w.heap.size, 0, none⟩), .pointer (some ⟨(w.heap.size + 1), 0, none⟩), .pointer (some ⟨(w.heap.size + 1 + 1), 0, none⟩), t 4, t 5, t 6, .int .i64 (k : Int), .pointer (some ⟨wr.heap.size, 0, none⟩), .int .i64 (1000 + 35 * y0), t 10, t 11, t 12, t 13, t 14, t 15, t 16, t 17, t 18, t 19, t 20, t 21, t 22, t 23, t 24, t 25, t 26, t 27, t 28, t 29, t 30, t 31, t 32, t 33, t 34, t 35, t 36, t 37, t 38, t 39, t 40, t 41, t 42, t 43, t 44, t 45, t 46, t 47, t 48, t 49, t 50, t 51, t 52, t 53, t 54, t 55, t 56, t 57, t 58, t 59, t 60, t 61, t 62, t 63, t 64, t 65, t 66, t 67, t 68, t 69, t 70, t 71, t 72, t 73, t 74, t 75, t 76, t 77, t 78, t 79, t 80, t 81, t 82, t 83, t 84, t 85, t 86, t 87, t 88, t 89, t 90, t 91, t 92, t 93, t 94, t 95, r 96, r 97, r 98, r 99, r 100, r 101, r 102, r 103, r 104, r 105, r 106, r 107, r 108, r 109, r 110, r 111, r 112, r 113, r 114, r 115, r 116, r 117, r 118, r 119, r 120, r 121, r 122, r 123, r 124, r 125, r 126, x 0, x 1, .int .i64 (1000 + 35 * y0), x 3, x 4, x 5, x 6, x 7, x 8, x 9, .int .i64 ((1000 + 35 * y0) + (((1000 + 35 * y0) * y1) / 255)), x 11, x 12, x 13, x 14, x 15, x 16, x 17, x 18, x 19, x 20, x 21, x 22, x 23, x 24, x 25, .agg #[.int .i64 (500 + (10 * y2)), .int .i64 ((500 + (10 * y2)) + (y1 % 90))], x 27, x 28, r 156, r 157, undef], []⟩ : Act) v
                    refine wpOp_step rfl (fun K' hK' => ?_)
                    go_simp
                    exact hK' _ _ (hK _ _ (Below.refl _ _) (at_of rfl (rfl)))
                  · obtain ⟨x, rfl⟩ := upd_of (show x 27 = .agg #[.int .i64 (1000 + 35 * y0), .int .i64 ((1000 + 35 * y0) + (((1000 + 35 * y0) * y1) / 255)), .int .i64 (500 + (10 * y2)), .int .i64 ((500 + (10 * y2)) + (y1 % 90))] from hd 27 _ (by simp) rfl)
                    show wpOp Try.prog _ _ 28 K (⟨#[t 0, .pointer (some ⟨w.heap.size, 0, none⟩), .pointer (some ⟨(w.heap.size + 1), 0, none⟩), .pointer (some ⟨(w.heap.size + 1 + 1), 0, none⟩), t 4, t 5, t 6, .int .i64 (k : Int), .pointer (some ⟨wr.heap.size, 0, none⟩), .int .i64 (1000 + 35 * y0), t 10, t 11, t 12, t 13, t 14, t 15, t 16, t 17, t 18, t 19, t 20, t 21, t 22, t 23, t 24, t 25, t 26, t 27, t 28, t 29, t 30, t 31, t 32, t 33, t 34, t 35, t 36, t 37, t 38, t 39, t 40, t 41, t 42, t 43, t 44, t 45, t 46, t 47, t 48, t 49, t 50, t 51, t 52, t 53, t 54, t 55, t 56, t 57, t 58, t 59, t 60, t 61, t 62, t 63, t 64, t 65, t 66, t 67, t 68, t 69, t 70, t 71, t 72, t 73, t 74, t 75, t 76, t 77, t 78, t 79, t 80, t 81, t 82, t 83, t 84, t 85, t 86, t 87, t 88, t 89, t 90, t 91, t 92, t 93, t 94, t 95, r 96, r 97, r 98, r 99, r 100, r 101, r 102, r 103, r 104, r 105, r 106, r 107, r 108, r 109, r 110, r 111, r 112, r 113, r 114, r 115, r 116, r 117, r 118, r 119, r 120, r 121, r 122, r 123, r 124, r 125, r 126, x 0, x 1, x 2, x 3, x 4, x 5, x 6, x 7, x 8, x 9, x 10, x 11, x 12, x 13, x 14, x 15, x 16, x 17, x 18, x 19, x 20, x 21, x 22, x 23, x 24, x 25, x 26, .agg #[.int .i64 (1000 + 35 * y0), .int .i64 ((1000 + 35 * y0) + (((1000 + 35 * y0) * y1) / 255)), .int .i64 (500 + (10 * y2)), .int .i64 ((500 + (10 * y2)) + (y1 % 90))], x 28, r 156, r 157, undef], []⟩ : Act) v
                    refine wpOp_step rfl (fun K' hK' => ?_)
                    go_simp
                    have hg := Gr.al v (.cells (List.toArray [.int .i64 (1000 + 35 * y0), .int .i64 ((1000 + 35 * y0) + (((1000 + 35 * y0) * y1) / 255)), .int .i64 (500 + (10 * y2)), .int .i64 ((500 + (10 * y2)) + (y1 % 90))]) 103)
                    exact hK' _ _ (hK _ _ hg (at_of rfl (⟨v.heap.size, rfl, gv.size, Own.new v [.int .i64 (1000 + 35 * y0), .int .i64 ((1000 + 35 * y0) + (((1000 + 35 * y0) * y1) / 255)), .int .i64 (500 + (10 * y2)), .int .i64 ((500 + (10 * y2)) + (y1 % 90))] 103 v.heap.size rfl⟩)))
                case fin19 =>
                  rintro x v gv hd
                  obtain ⟨x, rfl⟩ := upd_of (show x 1 = pv2 from hd 1 _ (by omega) rfl)
                  obtain ⟨b6, e28, hb6, ow6⟩ := hd 28 _ (by omega) rfl
                  obtain ⟨x, rfl⟩ := upd_of (show x 28 = .slice (some ⟨b6, 0, none⟩) 1 1 from e28)
                  clear hd
                  show wpList Try.prog _ _ (List.drop 29 _) (⟨#[t 0, .pointer (some ⟨w.heap.size, 0, none⟩), .pointer (some ⟨(w.heap.size + 1), 0, none⟩), .pointer (some ⟨(w.heap.size + 1 + 1), 0, none⟩), t 4, t 5, t 6, .int .i64 (k : Int), .pointer (some ⟨wr.heap.size, 0, none⟩), .int .i64 (1000 + 35 * y0), t 10, t 11, t 12, t 13, t 14, t 15, t 16, t 17, t 18, t 19, t 20, t 21, t 22, t 23, t 24, t 25, t 26, t 27, t 28, t 29, t 30, t 31, t 32, t 33, t 34, t 35, t 36, t 37, t 38, t 39, t 40, t 41, t 42, t 43, t 44, t 45, t 46, t 47, t 48, t 49, t 50, t 51, t 52, t 53, t 54, t 55, t 56, t 57, t 58, t 59, t 60, t 61, t 62, t 63, t 64, t 65, t 66, t 67, t 68, t 69, t 70, t 71, t 72, t 73, t 74, t 75, t 76, t 77, t 78, t 79, t 80, t 81, t 82, t 83, t 84, t 85, t 86, t 87, t 88, t 89, t 90, t 91, t 92, t 93, t 94, t 95, r 96, r 97, r 98, r 99, r 100, r 101, r 102, r 103, r 104, r 105, r 106, r 107, r 108, r 109, r 110, r 111, r 112, r 113, r 114, r 115, r 116, r 117, r 118, r 119, r 120, r 121, r 122, r 123, r 124, r 125, r 126, x 0, pv2, x 2, x 3, x 4, x 5, x 6, x 7, x 8, x 9, x 10, x 11, x 12, x 13, x 14, x 15, x 16, x 17, x 18, x 19, x 20, x 21, x 22, x 23, x 24, x 25, x 26, x 27, .slice (some ⟨b6, 0, none⟩) 1 1, r 156, r 157, undef], []⟩ : Act) v
                  simp only [List.drop_succ_cons, List.drop_zero]
                  clear w0 w1 w2 w3 w4 w5 w6 w7 w8 w9
                  have gA := gn.tr gv
                  have hoA := owns_keep hown gA
                  have hPA := owns_keep hPo gA
                  have gA0 := gA.size
                  have k1 : k + 1 ≤ maxLen := by unfold maxLen; omega
                  have k2 : (k + 1) * 32 ≤ 140737488355328 := by omega
                  have hne4 : ∀ r, pv2.ownBlock = some r → H1 ≤ r ∧ r < wr.heap.size := (fun r hr => by have := hown.lt r hr; omega)
                  have HNE := Lib.hid hne4
                  clear hne4
                  have hH4 : H1 ≤ v.heap.size := by omega
                  go_wp2_with (at_builtin; refine wpList_append_own _ rfl _ _ 29 rfl H1 103 jf _ 4 32 Try.underlying29 hjf hfz0 hfz1 hfz2 rfl (by decide) _ _ _ rfl hoA ⟨b6, 0, none⟩ 1 1 ([1000 + 35 * y0, (1000 + 35 * y0) + (((1000 + 35 * y0) * y1) / 255), 500 + (10 * y2), (500 + (10 * y2)) + (y1 % 90)].map (fun n => Value.int .i64 n)) rfl rfl ow6.news (ints_one _) k1 k2 hH4 ?_; intro v' w6 hown4 hgr4 _; obtain ⟨a4, c4, rfl⟩ := owns_val hown4; have os4 := (os.keep gA).grownRow hgr4 (fun r hr => by have := HNE.out r hr; omega); have gY := (gg.tr gA).grown' hoA (by omega) hgr4; have hx4 := (hx.keep gA).grown hgr4 (fun r hr => by have := HNE.out r hr; omega); have or4 := (or.keep gA).grownRow hgr4 (fun r hr => by have := HNE.out r hr; omega); have hP4 := hPA.kept hgr4 (by (cases hpo : pv.ownBlock with | none => exact .inl rfl | some r => exact .inr (fun e => by have h1 := HP2.out r hpo; have h2 := HNE.out r e.symm; omega))); have hH6 := Nat.le_trans hH4 hgr4.size; obtain ⟨t0, t1⟩ := os4.1.c2; have z1 := os4.2 1)
                  go_roundw
                  case rel =>
                    refine Lib.hid ⟨k + 1, _, by omega, by go_num, gY.setCell (show w.heap.size ≤ w.heap.size + 1 + 1 by omega) _, by simpa using hH6, hx4.other (by omega), or4.other (by omega), os4.set (i := 1) (by simp), owns_other hP4 (by omega), ?_⟩
                    rw [List.take_add_one, HPK.out, Option.toList_some, flat_snoc]
                    exact owns_other hown4 (by omega)
                  case measure => simp [intOf]; omega
          · obtain rfl : k = nfW F.length := by omega
            have hle : nfW F.length = (storeWF F).length := (storeWF_len F).symm
            rw [List.take_of_length_le (by omega)] at hown
            rw [hle] at hown
            rw [HLE.out] at hPo
            obtain ⟨a1, c1, hv1, r1, n1'⟩ := owns_row_new (enc := encP) (l := storeWP P) (fun _ => rfl) (by have := HLE.out; omega) hPo
            obtain ⟨a2, c2, hv2, r2, n2'⟩ := owns_row_new (enc := encF) (l := storeWF F) (fun _ => rfl) (by omega) hown
            subst hv1
            subst hv2
            have R1 := Lib.hid r1
            have R2 := Lib.hid r2
            have N1 := Lib.hid n1'
            have N2 := Lib.hid (n2'.le (show w.heap.size + 1 + 1 + 1 ≤ H1 by omega))
            have HLE2 := Lib.hid hle
            clear r1 r2 n1' n2' hPo hown hle
            have hsz : w.heap.size + 1 + 1 < wr.heap.size := os.1.1
            go_upto_region 13 with fail
            go_cut [108] from 96 to 107 (fun s23 wx => s23 = .bool false ∧ wr = wx)
            case first =>
              have q0 := hx.2 1 _ rfl
              have d1 : ((nfW F.length : Int) == 0) = false := by rw [beq_eq_false_iff_ne]; omega
              by_cases hl : nfW F.length < F.length
              · have d2 : decide (nfW F.length < F.length) = true := by simpa using hl
                have h5 : nfW F.length = 3 := by unfold nfW at hl ⊢; split at hl <;> (try split at hl) <;> (try split) <;> omega
                have d3 : decide ((nfW F.length : Int) < 3) = false := by simp; omega
                clear h5
                go_wp2_with fail
                go_meet
                exact ⟨rfl, rfl⟩
              · have d2 : decide (nfW F.length < F.length) = false := by simpa using hl
                go_wp2_with fail
                go_meet
                exact ⟨rfl, rfl⟩
            case rest =>
              obtain ⟨rfl, rfl⟩ := hcut
              obtain ⟨s0, s1⟩ := os.1.c2
              obtain ⟨u0, u1⟩ := or.1.c2
              have z0 := or.2 0
              have z1 := or.2 1
              go_wp2
              refine bodyPost_ret (v := .agg #[.slice a1 (storeWP P).length c1, .slice a2 (storeWF F).length c2]) (by simp [results, Try.results8, go_sem, u0, u1]) rfl ⟨a1, c1, a2, c2, rfl, (gg.setCell (by simp) _).setCell (by simp) _, ?_, ?_, N1.out.le (by omega), N2.out.le (by omega)⟩
              · exact (R1.out.other N1.out (by omega)).other N1.out (by omega)
              · exact (R2.out.other N2.out (by omega)).other N2.out (by omega)

end Go.Proofs.Ytmioakcbgcgdhaa
