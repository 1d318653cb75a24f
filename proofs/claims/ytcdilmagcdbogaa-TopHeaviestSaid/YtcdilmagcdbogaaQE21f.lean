/- TopHeaviest's own body. (tops) (Made by gen_e20.py.) A law's end: it returned true and the world only grew. And: what an argument is that is made of integers of one kind. What an argument is that is a slice of small arrays of bytes; a struct of three slices. How long the bytes of a Ware are at most, by the weight of what comes in. (tops) -/
import Derived.Test.YtcdilmagcdbogaaQE21e
import Derived.Test.YtcdilmagcdbogaaQE21a
import Derived.Test.YtcdilmagcdbogaaQE21c
import Derived.Lib.MinMax
import Derived.Deep.CutRange
import Derived.Deep.MidRow
import Derived.Deep.AppendLies
import Derived.BigQuiet
import Derived.ProofKit
import Derived.OpenShut
import Derived.ChangeSame
import Derived.Carry
import Derived.SizedLaws
namespace Go.Proofs.Ytcdilmagcdbogaa
set_option linter.unusedVariables false
set_option linter.unusedSimpArgs false
open Go.RowKit

/-- What stays of TopHeaviest's memory: its arguments and the store. -/
structure HvS (w : World) (N0 N1 B7 : Nat) (wc vc : List Value) (PS : List Paper) (FS : List Flute) (a1 g1 : Option Addr) (c1 d1 : Nat) (v : World) : Prop where
  g : Gr w v
  hx : Box v N0 wc
  hm : Box v N1 vc
  o7 : Box v B7 [.slice a1 PS.length c1, .slice g1 FS.length d1]
  ra : PRow v a1 PS
  rg : FRow v g1 FS

theorem HvS.keep {w v v' : World} {N0 N1 B7 : Nat} {wc vc : List Value} {PS : List Paper} {FS : List Flute} {a1 g1 : Option Addr} {c1 d1 : Nat} (h : HvS w N0 N1 B7 wc vc PS FS a1 g1 c1 d1 v) (g : Gr v v') : HvS w N0 N1 B7 wc vc PS FS a1 g1 c1 d1 v' :=
  ⟨h.g.tr g, h.hx.keep g, h.hm.keep g, h.o7.keep g, h.ra.grow g, h.rg.grow g⟩

theorem owns_setCell2 {w : World} {base : Nat} {e : TypeId} {sz : Nat} {v : Value} {n : Nat} {xs : List Value} (h : w.ownsRow base e sz v n xs) {b i : Nat} (hb : b < base) (u : Value) : (w.setCell ⟨b, i, none⟩ u).ownsRow base e sz v n xs := by
  obtain ⟨h1, h2⟩ := h
  refine ⟨h1, ?_⟩
  rcases h2 with h2 | ⟨g, cap, cur, hv, hg, hh, hr⟩
  · exact .inl h2
  · exact .inr ⟨g, cap, cur, hv, hg, ((Kx.set (Z := fun k => k = b) (w := w) (p := ⟨b, i, none⟩) rfl u).keepO hh (fun e => by omega)), hr⟩

theorem infoStH : (Try.prog.info? 138).map (fun i => (i.zero, i.size, i.bytes)) = some (some (.agg #[.int .i64 0, .int .i64 0]), 2, 16) := by kernel_rfl

theorem infoU8 : (Try.prog.info? 5).map (fun i => (i.zero, i.size, i.bytes)) = some (some (.int .u8 0), 1, 1) := by kernel_rfl

theorem owns_set_ne {w : World} {base : Nat} {e : TypeId} {sz : Nat} {v : Value} {n : Nat} {xs : List Value} (h : w.ownsRow base e sz v n xs) {b i : Nat} (hb : v.ownBlock ≠ some b) (u : Value) : (w.setCell ⟨b, i, none⟩ u).ownsRow base e sz v n xs := by
  obtain ⟨h1, h2⟩ := h
  refine ⟨h1, ?_⟩
  rcases h2 with h2 | ⟨g, cap, cur, hv, hg, hh, hr⟩
  · exact .inl h2
  · refine .inr ⟨g, cap, cur, hv, hg, ((Kx.set (Z := fun k => k = b) (w := w) (p := ⟨b, i, none⟩) rfl u).keepO hh (fun e => hb (by rw [hv]; exact congrArg some e))), hr⟩

/-- A row with a cell behind the variable's two lies in another block. -/
theorem row_off {α : Type} {enc : α → List Value} {sz : Nat} {w : World} {a : Option Addr} {l : List α} (h : RowOf sz enc w a l) {U : Nat} {x0 x1 : Value} {t : TypeId} (hO : w.heap[U]? = some (.cells #[x0, x1] t)) {j : Nat} {x : α} (hx : l[j]? = some x) (hj : 2 ≤ j) (hs : 1 ≤ sz) {u : Value} (hu : (enc x)[0]? = some u) : ∀ ad, a = some ad → ad.block ≠ U := by
  rintro ad rfl e
  obtain ⟨b, off, ha, hb, hc⟩ := h.2 j x hx
  injection ha with ha
  subst ha
  dsimp only at e
  subst e
  have h2 := hc 0 u hu
  have h3 : 2 ≤ off + j * sz + 0 := by
    have := Nat.mul_le_mul hj hs
    omega
  simp only [World.cell?, hO] at h2
  rw [Array.getElem?_eq_none (by simpa using h3)] at h2
  simp at h2

theorem sumLo_snoc (x : Ld) : ∀ l : List Ld, sumLo (l ++ [x]) = sumLo l + x.wl
  | [] => by simp [sumLo]
  | y :: l => by
    have ih := sumLo_snoc x l
    show y.wl + sumLo (l ++ [x]) = y.wl + sumLo l + x.wl
    omega

theorem sumHi_snoc (x : Ld) : ∀ l : List Ld, sumHi (l ++ [x]) = sumHi l + x.wh
  | [] => by simp [sumHi]
  | y :: l => by
    have ih := sumHi_snoc x l
    show y.wh + sumHi (l ++ [x]) = y.wh + sumHi l + x.wh
    omega

set_option maxRecDepth 100000 in
set_option maxHeartbeats 16000000 in
theorem heaviest_any (P : List V6) (F : List V3) (Y : List Int) (n0 n1 n2 n3 n4 n5 days : Int) (hP : ∀ v ∈ P, B6 v) (hF : ∀ v ∈ F, B3 v) (hY : Bytes Y) (hM : ∀ m ∈ [n0, n1, n2, n3, n4, n5], 0 ≤ m ∧ m ≤ 255) (hYb : Y.length ≤ 140737488351232) (dd0 : 0 ≤ days) (dd1 : days ≤ 255) (pa fa ya : Option Addr) (pc fc yc : Nat) (w : World) (rp : Row6 w pa P) (rf : Row3 w fa F) (ry : URow w ya Y) :
    Calls Try.prog 17 #[.agg #[.slice pa P.length pc, .slice fa F.length fc, .slice ya Y.length yc], .agg #[.int .u8 n0, .int .u8 n1, .int .u8 n2, .int .u8 n3, .int .u8 n4, .int .u8 n5], .int .u8 days] w fun e w' => e = .returned (.bool true) ∧ Gr w w' := by
  obtain ⟨M, hMM⟩ : ∃ M, [n0, n1, n2, n3, n4, n5] = M := ⟨_, rfl⟩
  have hM6 : M.length = 6 := by rw [← hMM]; rfl
  have hMV : [.int .u8 n0, .int .u8 n1, .int .u8 n2, .int .u8 n3, .int .u8 n4, .int .u8 n5] = M.map (Value.int .u8) := by rw [← hMM]; rfl
  rw [hMM] at hM
  have gg := (Gr.al w (.cells #[.slice pa P.length pc, .slice fa F.length fc, .slice ya Y.length yc] 120)).tr (Gr.al _ (.cells #[.int .u8 n0, .int .u8 n1, .int .u8 n2, .int .u8 n3, .int .u8 n4, .int .u8 n5] 136))
  have hx := (Box.new w [.slice pa P.length pc, .slice fa F.length fc, .slice ya Y.length yc] 120 w.heap.size rfl).keep (Gr.al _ (.cells #[.int .u8 n0, .int .u8 n1, .int .u8 n2, .int .u8 n3, .int .u8 n4, .int .u8 n5] 136))
  have hv := Box.new (w.alloc (.cells #[.slice pa P.length pc, .slice fa F.length fc, .slice ya Y.length yc] 120)) [.int .u8 n0, .int .u8 n1, .int .u8 n2, .int .u8 n3, .int .u8 n4, .int .u8 n5] 136 (w.heap.size + 1) (by simp)
  have hn1 := npW_bd P.length
  have hn2 := nfW_bd F.length
  have hl1 := storeWP_len P
  have hl2 := storeWF_len F
  have HSto := Lib.hid (fun (W : World) (g : Gr w W) => armStore_any P F hP hF pa fa ya pc fc yc Y.length W (rp.grow g) (rf.grow g))
  have HRo := Lib.hid (fun (m : Int) (m0 : 0 ≤ m) (m1 : m ≤ 255) => heavy_round hP hF hY pa fa pc fc w rp rf m0 m1)
  have hNY : ∀ W, Gr w W → ∀ ad, ya = some ad → ∀ (j : Nat) (u : Value), (Y.flatMap encU)[j]? = some u → W.cell? (ad.add j) = some u := by
    intro W g ad e
    subst e
    rcases Nat.eq_zero_or_pos Y.length with h0 | h0
    · obtain rfl : Y = [] := List.eq_nil_of_length_eq_zero h0
      intro j u hu
      simp at hu
    · obtain ⟨b9, o9, e9, _⟩ := RowOf.addr ry h0
      injection e9 with e9
      subst e9
      exact row_news (enc := encU) (sz := 1) (fun _ => rfl) (ry.grow g)
  have hYN : ya = none → Y.length = 0 := by
    intro e
    rcases Nat.eq_zero_or_pos Y.length with h0 | h0
    · exact h0
    · obtain ⟨b9, o9, e9, _⟩ := RowOf.addr ry h0
      rw [e] at e9
      cases e9
  have hYl := ry.1
  have HNY := Lib.hid (And.intro hNY hYN)
  have hLok : ∀ x ∈ M.map (heavyBox P F Y), LdOk x ∧ x.sl ≤ x.sh ∧ x.wl ≤ x.wh ∧ x.sh ≤ 20000000 ∧ x.wh ≤ 100000 := fun x hx => by
    obtain ⟨m, hm, rfl⟩ := List.mem_map.1 hx
    obtain ⟨h1, h2⟩ := hM m hm
    exact heavy_ok hP hF h1 h2
  obtain ⟨ol, ml, ev, hk⟩ := stk_gen (l := M.map (heavyBox P F Y)) (t := heavyT) (days := days) (by rw [List.length_map, hM6]; decide) (by decide) hLok heavyT_ok dd0 dd1
  have hq0 : 0 ≤ lastL heavyT days := (last_bd (stored_parts (stored_of (most := 8) (l := M.map (heavyBox P F Y)) (t := heavyT) (days := days) (by rw [List.length_map, hM6]; decide) hLok heavyT_ok dd0 (by omega))).2).1
  have hone := stk_one hk (by rw [List.length_map, hM6]; decide) (fun x hx => (hLok x hx).1) hq0
  obtain ⟨L6, hL6⟩ : ∃ L, M.map (heavyBox P F Y) = L := ⟨_, rfl⟩
  have hLat : ∀ (k : Nat) (m : Int), M[k]? = some m → L6[k]? = some (heavyBox P F Y m) := fun k m h => by rw [← hL6, List.getElem?_map, h]; rfl
  rw [hL6] at hk hLok
  have lL6 : L6.length = 6 := by rw [← hL6, List.length_map, hM6]
  generalize storeWP P = PS at *
  generalize storeWF F = FS at *
  have p0 : 0 < PS.length := by omega
  have p1 : PS.length ≤ 1000 := by omega
  have f0 : 0 < FS.length := by omega
  have f1 : FS.length ≤ 1000 := by omega
  have HK := Lib.hid hk
  have HLok := Lib.hid hLok
  have HLat := Lib.hid hLat
  have HL6 := Lib.hid lL6
  have HMV := Lib.hid hMV
  have HMb := Lib.hid hM
  have HM6 := Lib.hid hM6
  have wd : IntKind.i64.wrap days = days := IntWalk.i64_in _ (by omega)
  clear hP hF hY hM hMM hM6 hMV hn1 hn2 hl1 hl2 hNY hYN hLok hk hL6 hLat lL6 rp rf
  go_enter Try.func17, Try.ntmps17
  go_upto_region 1 with fail
  obtain ⟨N0, hN0⟩ : ∃ N, w.heap.size = N := ⟨_, rfl⟩
  rw [hN0] at hx hv ⊢
  refine wp_abs (fun U => Gr w U ∧ Box U N0 [.slice pa P.length pc, .slice fa F.length fc, .slice ya Y.length yc] ∧ Box U (N0 + 1) [.int .u8 n0, .int .u8 n1, .int .u8 n2, .int .u8 n3, .int .u8 n4, .int .u8 n5]) ⟨gg, hx, hv⟩ ?_
  clear gg hx hv
  rintro U ⟨gg, hx, hv⟩
  obtain ⟨q0, q1, q2⟩ := hx.c3
  go_upto_region 2 with (go_at_call 60; refine (HSto.out _ gg).mono ?_; rintro e w1 ⟨a1, c1, g1, d1, rfl, hg, ra, rg, _, _⟩)
  obtain ⟨B7, hB7⟩ : ∃ b, b = w1.heap.size := ⟨_, rfl⟩
  have h7 := Box.new w1 [.slice a1 PS.length c1, .slice g1 FS.length d1] 124 B7 hB7
  have g7 := hg.tr (Gr.al w1 (.cells #[.slice a1 PS.length c1, .slice g1 FS.length d1] 124))
  rw [← hB7]
  refine wp_abs (fun V => HvS w N0 (N0 + 1) B7 [.slice pa P.length pc, .slice fa F.length fc, .slice ya Y.length yc] [.int .u8 n0, .int .u8 n1, .int .u8 n2, .int .u8 n3, .int .u8 n4, .int .u8 n5] PS FS a1 g1 c1 d1 V) ⟨gg.tr g7, hx.keep g7, hv.keep g7, h7, ra.grow (Gr.al _ _), rg.grow (Gr.al _ _)⟩ ?_
  clear h7 g7 hB7 hg ra rg gg hx hv q0 q1 q2 HSto
  rintro V1 HS1
  go_upto_region 3 with fail
  obtain ⟨E0, hE0⟩ : ∃ E, V1.heap.size = E := ⟨_, rfl⟩
  have oL := owns_keep (owns_empty V1 70 4) (Gr.al _ (.cells #[.int .i64 0, .int .i64 0] 45))
  have o9 := Own.new (V1.alloc (.cells #[] 70)) [.int .i64 0, .int .i64 0] 45 (E0 + 1) (by rw [← hE0]; simp)
  have g2 := (Gr.al V1 (.cells #[] 70)).tr (Gr.al _ (.cells #[.int .i64 0, .int .i64 0] 45))
  have hO : ((V1.alloc (.cells #[] 70)).alloc (.cells #[.int .i64 0, .int .i64 0] 45)).heap[E0 + 1]? = some (.cells #[.int .i64 0, .int .i64 0] 45) := by
    rw [← hE0]
    show (Array.push (Array.push V1.heap _) _)[_]? = _
    rw [Array.getElem?_push, if_pos (by simp)]
  rw [hE0] at oL ⊢
  have hE1 : V1.heap.size ≤ E0 ∧ E0 ≤ V1.heap.size := by omega
  clear hE0
  refine wp_abs (fun V => Gr V1 V ∧ V.ownsRow E0 70 4 (.slice (some ⟨E0, 0, none⟩) 0 0) 0 [] ∧ Own V (E0 + 1) [.int .i64 0, .int .i64 0] ∧ V.heap[E0 + 1]? = some (.cells #[.int .i64 0, .int .i64 0] 45)) ⟨g2, oL, o9, hO⟩ ?_
  clear g2 oL o9 hO
  rintro V2 ⟨g2, oL, o9, hO⟩
  refine (show (∀ s : Nat → Value, Code.wp Try.prog _ _ ⟨#[.agg #[.slice pa P.length pc, .slice fa F.length fc, .slice ya Y.length yc], .agg #[.int .u8 n0, .int .u8 n1, .int .u8 n2, .int .u8 n3, .int .u8 n4, .int .u8 n5], .int .u8 days, .pointer (some ⟨N0, 0, none⟩), .pointer (some ⟨(N0 + 1), 0, none⟩), undef, .bool false, .pointer (some ⟨B7, 0, none⟩), .slice (some ⟨E0, 0, none⟩) 0 0, .pointer (some ⟨(E0 + 1), 0, none⟩), undef, undef, undef, undef, undef, undef, undef, undef, undef, undef, undef, undef, undef, undef, undef, undef, undef, undef, undef, undef, undef, s 31, s 32, s 33, s 34, undef, undef, undef, undef, undef, undef, undef, undef, undef, undef, undef, undef, undef, undef, undef, undef, undef, undef, undef, undef, undef, undef, undef, undef, undef, undef, undef, undef, undef, undef, undef, undef, undef, undef, undef, undef, undef, undef, undef, undef, undef, undef, undef, undef, undef, undef, undef, undef, undef, undef, undef, undef, undef, undef, undef, undef, undef, undef, undef, undef, undef, undef, undef, undef, undef, undef, undef, undef, undef, undef, undef, undef, undef, undef, undef, undef, undef, undef, undef, undef, undef, undef, undef, undef, undef, undef, undef, undef, undef, undef, undef, undef, undef, undef, undef, undef, undef, undef, undef, undef, undef, undef, undef, undef, undef, undef, undef, undef, undef, undef, undef, undef, undef, undef, undef, undef, undef, undef, undef, undef, undef, undef, undef, undef, undef, undef, undef, undef, undef, undef, undef, undef, undef, undef, undef, undef, undef, undef, undef, undef, undef, undef, undef, undef, undef, undef, undef, undef, undef, undef, undef, undef, undef, undef, undef, undef, undef, undef, undef, undef, undef, undef, undef, undef, undef, undef, undef, undef, undef, undef, undef, undef, undef, undef, undef, undef, undef, undef, undef, undef, undef, undef, undef, undef, undef, undef, undef, undef, undef, undef, undef, undef, undef, undef, undef, undef, undef, undef, undef, undef, undef, undef, undef, undef, undef, undef, undef, undef, undef, undef, undef, undef, undef, undef, undef, undef, undef, undef, undef, undef, undef, undef, undef, undef, undef, undef, undef, undef, undef, undef, undef, undef, undef, undef, undef, undef, undef, undef, undef, undef, undef, undef, undef, undef, undef, undef, undef, undef, undef, undef, undef, undef, undef, undef, undef, undef, undef, undef, undef, undef, undef, undef, undef, undef, undef, undef, undef, undef, undef, undef, undef, undef, undef, undef, undef, undef, undef, undef, undef, undef, undef, undef], []⟩ _) → _ from fun h => h ((fun l : List Value => fun i => l.getD i undef) [undef, undef, undef, undef, undef, undef, undef, undef, undef, undef, undef, undef, undef, undef, undef, undef, undef, undef, undef, undef, undef, undef, undef, undef, undef, undef, undef, undef, undef, undef, undef, _, _, _, _])) ?_
  intro s
  dsimp only
  have HS2 := HS1.keep g2
  obtain ⟨i0, hi, hz0, hz1, hz2⟩ := info_parts infoLd
  obtain ⟨j0, hj0, hy0, hy1, hy2⟩ := info_parts infoU8
  go_wp2
  go_loopw [10, 8] (fun i s wr => Hid (∃ k g cap : Nat, k ≤ 6 ∧ i = .int .i64 k ∧ s = .slice (some ⟨g, 0, none⟩) k cap ∧ g ≠ E0 + 1 ∧ Gr V1 wr ∧ HvS w N0 (N0 + 1) B7 [.slice pa P.length pc, .slice fa F.length fc, .slice ya Y.length yc] [.int .u8 n0, .int .u8 n1, .int .u8 n2, .int .u8 n3, .int .u8 n4, .int .u8 n5] PS FS a1 g1 c1 d1 wr ∧ wr.ownsRow E0 70 4 (.slice (some ⟨g, 0, none⟩) k cap) k ((L6.take k).flatMap encL) ∧ Own wr (E0 + 1) [.int .i64 0, .int .i64 0] ∧ wr.heap[E0 + 1]? = some (.cells #[.int .i64 0, .int .i64 0] 45))) (fun i _ _ => 6 - (intOf i).toNat)
  case atStart => exact Lib.hid ⟨0, E0, 0, by omega, rfl, rfl, by omega, g2, HS2, by simpa using oL, o9, hO⟩
  case round =>
    clear g2 HS2 oL o9 hO
    obtain ⟨k, g, cap, hk, rfl, rfl, hge, gW, HSW, oL, o9, hO⟩ := hrel.out
    clear hrel
    by_cases hlt : k < 6
    · have hlt' : (k : Int) < 6 := by omega
      have HOb := Lib.hid hO
      clear hO
      obtain ⟨m, hm⟩ : ∃ m, M[k]? = some m := ⟨M[k]'(by rw [HM6.out]; exact hlt), by simp⟩
      obtain ⟨m0, m1⟩ := HMb.out m (List.mem_of_getElem? hm)
      obtain ⟨MP, MF, ed, wl, wh, tl, th, hk⟩ := HRo.out m m0 m1
      obtain ⟨mp0, mp1, mf0, mf1⟩ := hk.l
      have w0 := hk.w0
      have w1 := hk.w1
      have w2 := hk.w2
      have e0 := hk.e0
      have e1 := hk.e1
      have HKR := Lib.hid hk
      have HXL := Lib.hid ((HLat.out k m hm).trans (congrArg some hk.bx))
      have hmv : [.int .u8 n0, .int .u8 n1, .int .u8 n2, .int .u8 n3, .int .u8 n4, .int .u8 n5][k]? = some (Value.int .u8 m) := by rw [HMV.out, List.getElem?_map, hm]; rfl
      have HMK := Lib.hid hmv
      have hkL : k < L6.length := by rw [HL6.out]; exact hlt
      clear hk hm hmv
      obtain ⟨q0, q1, q2⟩ := HSW.hx.c3
      go_upto_region 7 with fail
      obtain ⟨B11, hB11⟩ : ∃ b, b = wr.heap.size := ⟨_, rfl⟩
      have o11 := Own.new wr [.slice pa P.length pc, .slice fa F.length fc, .slice ya Y.length yc] 120 B11 hB11
      have gA := Gr.al wr (.cells #[.slice pa P.length pc, .slice fa F.length fc, .slice ya Y.length yc] 120)
      have hB12 : wr.heap.size ≤ B11 := by omega
      rw [← hB11]
      refine wp_abs (fun X => Gr wr X ∧ Own X B11 [.slice pa P.length pc, .slice fa F.length fc, .slice ya Y.length yc]) ⟨gA, o11⟩ ?_
      clear gA o11 hB11 q0 q1 q2
      rintro X1 ⟨gX, o11⟩
      have HS3 := HSW.keep gX
      have cm := HS3.hm.2 k _ HMK.out
      have cy := HS3.hx.2 2 _ rfl
      refine wp_region_facts 6 [(1, 0), (2, 1), (3, 2), (5, 4)] (fun x => ⟨#[.agg #[.slice pa P.length pc, .slice fa F.length fc, .slice ya Y.length yc], .agg #[.int .u8 n0, .int .u8 n1, .int .u8 n2, .int .u8 n3, .int .u8 n4, .int .u8 n5], .int .u8 days, .pointer (some ⟨N0, 0, none⟩), .pointer (some ⟨(N0 + 1), 0, none⟩), undef, u6, .pointer (some ⟨B7, 0, none⟩), .slice (some ⟨g, 0, none⟩) k cap, .pointer (some ⟨(E0 + 1), 0, none⟩), .int .i64 (k : Int), .pointer (some ⟨B11, 0, none⟩), u12, u13, u14, u15, u16, u17, undef, undef, undef, undef, undef, undef, undef, undef, undef, undef, undef, undef, undef, s 31, s 32, s 33, s 34, .int .i64 (k : Int), .bool true, u37, u38, .agg #[.slice pa P.length pc, .slice fa F.length fc, .slice ya Y.length yc], x 0, x 1, x 2, x 3, x 4, x 5, u46, u47, u48, u49, u50, u51, u52, u53, u54, u55, u56, u57, u58, u59, u60, u61, u62, u63, u64, u65, u66, u67, u68, u69, u70, u71, u72, u73, u74, u75, u76, u77, u78, u79, u80, u81, u82, u83, u84, u85, u86, u87, u88, u89, u90, u91, u92, u93, u94, u95, u96, u97, u98, u99, u100, u101, u102, u103, u104, u105, u106, u107, u108, u109, u110, u111, u112, u113, u114, u115, u116, u117, u118, undef, undef, undef, undef, undef, undef, undef, undef, undef, undef, undef, undef, undef, undef, undef, undef, undef, undef, undef, undef, undef, undef, undef, undef, undef, undef, undef, undef, undef, undef, undef, undef, undef, undef, undef, undef, undef, undef, undef, undef, undef, undef, undef, undef, undef, undef, undef, undef, undef, undef, undef, undef, undef, undef, undef, undef, undef, undef, undef, undef, undef, undef, undef, undef, undef, undef, undef, undef, undef, undef, undef, undef, undef, undef, undef, undef, undef, undef, undef, undef, undef, undef, undef, undef, undef, undef, undef, undef, undef, undef, undef, undef, undef, undef, undef, undef, undef, undef, undef, undef, undef, undef, undef, undef, undef, undef, undef, undef, undef, undef, undef, undef, undef, undef, undef, undef, undef, undef, undef, undef, undef, undef, undef, undef, undef, undef, undef, undef, undef, undef, undef, undef, undef, undef, undef, undef, undef, undef, undef, undef, undef, undef, undef, undef, undef, undef, undef, undef, undef, undef, undef, undef, undef, undef, undef, undef, undef, undef, undef, undef, undef, undef, undef, undef, undef, undef, undef, undef, undef, undef, undef, undef, undef, undef, undef, undef, undef, undef, undef, undef, undef, undef, undef, undef, undef, undef, undef, undef, undef, undef, undef, undef, undef, undef, undef, undef, undef, undef], []⟩) (fun i => [u40, u41, u42, u43, u44, u45].getD i undef) [fun _ x => x = .int .i64 (k : Int), fun _ x => x = .pointer (some ⟨N0 + 1, k, none⟩), fun _ x => x = .int .u8 m, fun v x => ∃ c, x = .slice (some ⟨c, 0, none⟩) 1 1 ∧ v.ownsRow X1.heap.size 5 1 (.slice (some ⟨c, 0, none⟩) 1 1) 1 [.int .u8 m], fun _ x => x = .pointer (some ⟨N0, 2, none⟩), fun _ x => x = .slice ya Y.length yc] (by rfl) (by kernel_rfl) (by kernel_rfl) (by kernel_rfl) (stays_cons (Stays.eq _) (stays_cons (Stays.eq _) (stays_cons (Stays.eq _) (stays_cons ((show Stays (fun v x => ∃ c, x = .slice (some ⟨c, 0, none⟩) 1 1 ∧ v.ownsRow X1.heap.size 5 1 (.slice (some ⟨c, 0, none⟩) 1 1) 1 [.int .u8 m]) from fun v v' x g ⟨c, h, o⟩ => ⟨c, h, owns_keep o g⟩)) (stays_cons (Stays.eq _) (stays_cons (Stays.eq _) stays_nil)))))) ?step7 ?fin7
      case step7 =>
        rintro i hi x v gv hd K hK
        have hi8 : i = 0 ∨ i = 1 ∨ i = 2 ∨ i = 3 ∨ i = 4 ∨ i = 5 := by omega
        rcases hi8 with rfl | rfl | rfl | rfl | rfl | rfl
        · show wpOp Try.prog _ _ 0 K (⟨#[_, _, _, _, _, _, _, _, _, _, _, _, _, _, _, _, _, _, _, _, _, _, _, _, _, _, _, _, _, _, _, _, _, _, _, _, _, _, _, _, x 0, x 1, x 2, x 3, x 4, x 5, _, _, _, _, _, _, _, _, _, _, _, _, _, _, _, _, _, _, _, _, _, _, _, _, _, _, _, _, _, _, _, _, _, _, _, _, _, _, _, _, _, _, _, _, _, _, _, _, _, _, _, _, _, _, _, _, _, _, _, _, _, _, _, _, _, _, _, _, _, _, _, _, _, _, _, _, _, _, _, _, _, _, _, _, _, _, _, _, _, _, _, _, _, _, _, _, _, _, _, _, _, _, _, _, _, _, _, _, _, _, _, _, _, _, _, _, _, _, _, _, _, _, _, _, _, _, _, _, _, _, _, _, _, _, _, _, _, _, _, _, _, _, _, _, _, _, _, _, _, _, _, _, _, _, _, _, _, _, _, _, _, _, _, _, _, _, _, _, _, _, _, _, _, _, _, _, _, _, _, _, _, _, _, _, _, _, _, _, _, _, _, _, _, _, _, _, _, _, _, _, _, _, _, _, _, _, _, _, _, _, _, _, _, _, _, _, _, _, _, _, _, _, _, _, _, _, _, _, _, _, _, _, _, _, _, _, _, _, _, _, _, _, _, _, _, _, _, _, _, _, _, _, _, _, _, _, _, _, _, _, _, _, _, _, _, _, _, _, _, _, _], []⟩ : Act) v
          refine wpOp_step rfl (fun K' hK' => ?_)
          go_simp
          exact hK' _ _ (hK _ _ (Below.refl _ _) (at_of rfl (rfl)))
        · obtain ⟨x, rfl⟩ := upd_of (show x 0 = .int .i64 (k : Int) from hd 0 _ (by simp) rfl)
          show wpOp Try.prog _ _ 1 K (⟨#[_, _, _, _, _, _, _, _, _, _, _, _, _, _, _, _, _, _, _, _, _, _, _, _, _, _, _, _, _, _, _, _, _, _, _, _, _, _, _, _, .int .i64 (k : Int), x 1, x 2, x 3, x 4, x 5, _, _, _, _, _, _, _, _, _, _, _, _, _, _, _, _, _, _, _, _, _, _, _, _, _, _, _, _, _, _, _, _, _, _, _, _, _, _, _, _, _, _, _, _, _, _, _, _, _, _, _, _, _, _, _, _, _, _, _, _, _, _, _, _, _, _, _, _, _, _, _, _, _, _, _, _, _, _, _, _, _, _, _, _, _, _, _, _, _, _, _, _, _, _, _, _, _, _, _, _, _, _, _, _, _, _, _, _, _, _, _, _, _, _, _, _, _, _, _, _, _, _, _, _, _, _, _, _, _, _, _, _, _, _, _, _, _, _, _, _, _, _, _, _, _, _, _, _, _, _, _, _, _, _, _, _, _, _, _, _, _, _, _, _, _, _, _, _, _, _, _, _, _, _, _, _, _, _, _, _, _, _, _, _, _, _, _, _, _, _, _, _, _, _, _, _, _, _, _, _, _, _, _, _, _, _, _, _, _, _, _, _, _, _, _, _, _, _, _, _, _, _, _, _, _, _, _, _, _, _, _, _, _, _, _, _, _, _, _, _, _, _, _, _, _, _, _, _, _, _, _, _, _, _, _, _, _, _, _, _, _, _, _, _, _, _, _, _, _, _, _], []⟩ : Act) v
          refine wpOp_step rfl (fun K' hK' => ?_)
          go_simp
          exact hK' _ _ (hK _ _ (Below.refl _ _) (at_of rfl (rfl)))
        · obtain ⟨x, rfl⟩ := upd_of (show x 1 = .pointer (some ⟨N0 + 1, k, none⟩) from hd 1 _ (by simp) rfl)
          show wpOp Try.prog _ _ 2 K (⟨#[_, _, _, _, _, _, _, _, _, _, _, _, _, _, _, _, _, _, _, _, _, _, _, _, _, _, _, _, _, _, _, _, _, _, _, _, _, _, _, _, x 0, .pointer (some ⟨N0 + 1, k, none⟩), x 2, x 3, x 4, x 5, _, _, _, _, _, _, _, _, _, _, _, _, _, _, _, _, _, _, _, _, _, _, _, _, _, _, _, _, _, _, _, _, _, _, _, _, _, _, _, _, _, _, _, _, _, _, _, _, _, _, _, _, _, _, _, _, _, _, _, _, _, _, _, _, _, _, _, _, _, _, _, _, _, _, _, _, _, _, _, _, _, _, _, _, _, _, _, _, _, _, _, _, _, _, _, _, _, _, _, _, _, _, _, _, _, _, _, _, _, _, _, _, _, _, _, _, _, _, _, _, _, _, _, _, _, _, _, _, _, _, _, _, _, _, _, _, _, _, _, _, _, _, _, _, _, _, _, _, _, _, _, _, _, _, _, _, _, _, _, _, _, _, _, _, _, _, _, _, _, _, _, _, _, _, _, _, _, _, _, _, _, _, _, _, _, _, _, _, _, _, _, _, _, _, _, _, _, _, _, _, _, _, _, _, _, _, _, _, _, _, _, _, _, _, _, _, _, _, _, _, _, _, _, _, _, _, _, _, _, _, _, _, _, _, _, _, _, _, _, _, _, _, _, _, _, _, _, _, _, _, _, _, _, _, _, _, _, _, _, _, _, _, _, _, _, _, _, _, _, _, _], []⟩ : Act) v
          have qq := gv.keep cm
          refine wpOp_step rfl (fun K' hK' => ?_)
          go_simp
          exact hK' _ _ (hK _ _ (Below.refl _ _) (at_of rfl (rfl)))
        · obtain ⟨x, rfl⟩ := upd_of (show x 2 = .int .u8 m from hd 2 _ (by simp) rfl)
          show wpOp Try.prog _ _ 3 K (⟨#[_, _, _, _, _, _, _, _, _, _, _, _, _, _, _, _, _, _, _, _, _, _, _, _, _, _, _, _, _, _, _, _, _, _, _, _, _, _, _, _, x 0, x 1, .int .u8 m, x 3, x 4, x 5, _, _, _, _, _, _, _, _, _, _, _, _, _, _, _, _, _, _, _, _, _, _, _, _, _, _, _, _, _, _, _, _, _, _, _, _, _, _, _, _, _, _, _, _, _, _, _, _, _, _, _, _, _, _, _, _, _, _, _, _, _, _, _, _, _, _, _, _, _, _, _, _, _, _, _, _, _, _, _, _, _, _, _, _, _, _, _, _, _, _, _, _, _, _, _, _, _, _, _, _, _, _, _, _, _, _, _, _, _, _, _, _, _, _, _, _, _, _, _, _, _, _, _, _, _, _, _, _, _, _, _, _, _, _, _, _, _, _, _, _, _, _, _, _, _, _, _, _, _, _, _, _, _, _, _, _, _, _, _, _, _, _, _, _, _, _, _, _, _, _, _, _, _, _, _, _, _, _, _, _, _, _, _, _, _, _, _, _, _, _, _, _, _, _, _, _, _, _, _, _, _, _, _, _, _, _, _, _, _, _, _, _, _, _, _, _, _, _, _, _, _, _, _, _, _, _, _, _, _, _, _, _, _, _, _, _, _, _, _, _, _, _, _, _, _, _, _, _, _, _, _, _, _, _, _, _, _, _, _, _, _, _, _, _, _, _, _, _, _, _, _], []⟩ : Act) v
          refine wpOp_step rfl (fun K' hK' => ?_)
          go_simp
          have hg := Gr.al v (.cells (List.toArray [.int .u8 m]) 5)
          exact hK' _ _ (hK _ _ hg (at_of rfl (⟨v.heap.size, rfl, World.ownsRow_lit v #[.int .u8 m] 1 gv.size (by decide) rfl⟩)))
        · show wpOp Try.prog _ _ 4 K (⟨#[_, _, _, _, _, _, _, _, _, _, _, _, _, _, _, _, _, _, _, _, _, _, _, _, _, _, _, _, _, _, _, _, _, _, _, _, _, _, _, _, x 0, x 1, x 2, x 3, x 4, x 5, _, _, _, _, _, _, _, _, _, _, _, _, _, _, _, _, _, _, _, _, _, _, _, _, _, _, _, _, _, _, _, _, _, _, _, _, _, _, _, _, _, _, _, _, _, _, _, _, _, _, _, _, _, _, _, _, _, _, _, _, _, _, _, _, _, _, _, _, _, _, _, _, _, _, _, _, _, _, _, _, _, _, _, _, _, _, _, _, _, _, _, _, _, _, _, _, _, _, _, _, _, _, _, _, _, _, _, _, _, _, _, _, _, _, _, _, _, _, _, _, _, _, _, _, _, _, _, _, _, _, _, _, _, _, _, _, _, _, _, _, _, _, _, _, _, _, _, _, _, _, _, _, _, _, _, _, _, _, _, _, _, _, _, _, _, _, _, _, _, _, _, _, _, _, _, _, _, _, _, _, _, _, _, _, _, _, _, _, _, _, _, _, _, _, _, _, _, _, _, _, _, _, _, _, _, _, _, _, _, _, _, _, _, _, _, _, _, _, _, _, _, _, _, _, _, _, _, _, _, _, _, _, _, _, _, _, _, _, _, _, _, _, _, _, _, _, _, _, _, _, _, _, _, _, _, _, _, _, _, _, _, _, _, _, _, _, _, _, _, _, _], []⟩ : Act) v
          refine wpOp_step rfl (fun K' hK' => ?_)
          go_simp
          exact hK' _ _ (hK _ _ (Below.refl _ _) (at_of rfl (rfl)))
        · obtain ⟨x, rfl⟩ := upd_of (show x 4 = .pointer (some ⟨N0, 2, none⟩) from hd 4 _ (by simp) rfl)
          show wpOp Try.prog _ _ 5 K (⟨#[_, _, _, _, _, _, _, _, _, _, _, _, _, _, _, _, _, _, _, _, _, _, _, _, _, _, _, _, _, _, _, _, _, _, _, _, _, _, _, _, x 0, x 1, x 2, x 3, .pointer (some ⟨N0, 2, none⟩), x 5, _, _, _, _, _, _, _, _, _, _, _, _, _, _, _, _, _, _, _, _, _, _, _, _, _, _, _, _, _, _, _, _, _, _, _, _, _, _, _, _, _, _, _, _, _, _, _, _, _, _, _, _, _, _, _, _, _, _, _, _, _, _, _, _, _, _, _, _, _, _, _, _, _, _, _, _, _, _, _, _, _, _, _, _, _, _, _, _, _, _, _, _, _, _, _, _, _, _, _, _, _, _, _, _, _, _, _, _, _, _, _, _, _, _, _, _, _, _, _, _, _, _, _, _, _, _, _, _, _, _, _, _, _, _, _, _, _, _, _, _, _, _, _, _, _, _, _, _, _, _, _, _, _, _, _, _, _, _, _, _, _, _, _, _, _, _, _, _, _, _, _, _, _, _, _, _, _, _, _, _, _, _, _, _, _, _, _, _, _, _, _, _, _, _, _, _, _, _, _, _, _, _, _, _, _, _, _, _, _, _, _, _, _, _, _, _, _, _, _, _, _, _, _, _, _, _, _, _, _, _, _, _, _, _, _, _, _, _, _, _, _, _, _, _, _, _, _, _, _, _, _, _, _, _, _, _, _, _, _, _, _, _, _, _, _, _, _, _, _, _, _], []⟩ : Act) v
          have qq := gv.keep cy
          refine wpOp_step rfl (fun K' hK' => ?_)
          go_simp
          exact hK' _ _ (hK _ _ (Below.refl _ _) (at_of rfl (rfl)))
      case fin7 =>
        rintro x v gv hd
        obtain ⟨c3, e3, oc3⟩ := hd 3 _ (by omega) rfl
        obtain ⟨x, rfl⟩ := upd_of (show x 3 = .slice (some ⟨c3, 0, none⟩) 1 1 from e3)
        obtain ⟨x, rfl⟩ := upd_of (show x 5 = .slice ya Y.length yc from hd 5 _ (by omega) rfl)
        clear hd
        show wpList Try.prog _ _ (List.drop 6 _) (⟨#[_, _, _, _, _, _, _, _, _, _, _, _, _, _, _, _, _, _, _, _, _, _, _, _, _, _, _, _, _, _, _, _, _, _, _, _, _, _, _, _, x 0, x 1, x 2, .slice (some ⟨c3, 0, none⟩) 1 1, x 4, .slice ya Y.length yc, _, _, _, _, _, _, _, _, _, _, _, _, _, _, _, _, _, _, _, _, _, _, _, _, _, _, _, _, _, _, _, _, _, _, _, _, _, _, _, _, _, _, _, _, _, _, _, _, _, _, _, _, _, _, _, _, _, _, _, _, _, _, _, _, _, _, _, _, _, _, _, _, _, _, _, _, _, _, _, _, _, _, _, _, _, _, _, _, _, _, _, _, _, _, _, _, _, _, _, _, _, _, _, _, _, _, _, _, _, _, _, _, _, _, _, _, _, _, _, _, _, _, _, _, _, _, _, _, _, _, _, _, _, _, _, _, _, _, _, _, _, _, _, _, _, _, _, _, _, _, _, _, _, _, _, _, _, _, _, _, _, _, _, _, _, _, _, _, _, _, _, _, _, _, _, _, _, _, _, _, _, _, _, _, _, _, _, _, _, _, _, _, _, _, _, _, _, _, _, _, _, _, _, _, _, _, _, _, _, _, _, _, _, _, _, _, _, _, _, _, _, _, _, _, _, _, _, _, _, _, _, _, _, _, _, _, _, _, _, _, _, _, _, _, _, _, _, _, _, _, _, _, _, _, _, _, _, _, _, _, _, _, _, _, _, _, _, _, _, _, _], []⟩ : Act) v
        simp only [List.drop_succ_cons, List.drop_zero]
        have o11v := o11.keep gv
        have hX1 : B11 < X1.heap.size := o11.1.1
        have k1 : 1 + Y.length ≤ maxLen := by unfold maxLen; omega
        have k2 : (1 + Y.length) * 1 ≤ 140737488355328 := by omega
        have hfl : (Y.flatMap encU).length = Y.length * 1 := flat_len (enc := encU) (sz := 1) (fun _ => rfl) Y
        have HFL := Lib.hid hfl
        clear hfl
        go_upto_region 8 with (at_builtin; refine wpList_append_opt _ rfl _ _ 93 rfl X1.heap.size 5 j0 (.int .u8 0) 1 1 Try.underlying93 hj0 hy0 hy1 hy2 rfl (by decide) _ 1 [.int .u8 m] rfl oc3 ya Y.length yc (Y.flatMap encU) rfl HFL.out HNY.out.2 (HNY.out.1 _ ((HS3.keep gv).g)) (one_flat (fun x u hu => by simp [encU] at hu; rw [hu]; rfl) Y) k1 k2 gv.size ?_; intro v6 w6 ho6 hg6; rw [show 1 + Y.length = Y.length + 1 by omega] at ho6; (obtain ⟨ab, cb, rfl⟩ := owns_val ho6); have k6 : Kx (fun b => X1.heap.size ≤ b) v w6 := Kx.grown hg6 (fun r e => .inl (oc3.lt r e).1); have o6 := o11v.kx k6 (by omega); (obtain ⟨t0, t1, t2⟩ := o6.1.c3); have n2x := o6.2 2)
        have g6 : Gr X1 w6 := gv.grown' oc3 (Nat.le_refl _) hg6
        have g7 := (gX.tr g6).setCell (p := ⟨B11, 2, none⟩) hB12 (.slice ab (Y.length + 1) cb)
        have o7 := o6.set (i := 2) (v := .slice ab (Y.length + 1) cb) (by simp)
        have hr7 := owns_setCell2 (i := 2) ho6 hX1 (.slice ab (Y.length + 1) cb)
        have rB : URow (w6.setCell ⟨B11, 2, none⟩ (.slice ab (Y.length + 1) cb)) ab (m :: Y) := by
          obtain ⟨a9, c9, e9, r9⟩ := owns_row (enc := encU) (l := m :: Y) (fun _ => rfl) (by simp; omega) hr7
          injection e9 with e9 _ _
          rw [← e9] at r9
          exact r9
        refine wp_abs (fun X => Gr wr X ∧ HvS w N0 (N0 + 1) B7 [.slice pa P.length pc, .slice fa F.length fc, .slice ya Y.length yc] [.int .u8 n0, .int .u8 n1, .int .u8 n2, .int .u8 n3, .int .u8 n4, .int .u8 n5] PS FS a1 g1 c1 d1 X ∧ Box X B11 [.slice pa P.length pc, .slice fa F.length fc, .slice ab (Y.length + 1) cb] ∧ URow X ab (m :: Y)) ⟨g7, HSW.keep g7, o7.1, rB⟩ ?_
        clear g7 o7 hr7 rB g6 o6 k6 ho6 hg6 o11v oc3 gv t0 t1 t2 n2x k1 k2 HS3 cm cy gX o11 hX1
        rintro X2 ⟨gX, HS4, h11, rB⟩
        obtain ⟨q0, q1, q2⟩ := h11.c3
        go_upto_region 9 with (go_at_call 61; refine (HKR.out.mak _ ab cb HS4.g rB).mono ?_; rintro e w8 ⟨a3, c3, g3, d3, rfl, g8, rb, rh, _, _⟩)
        obtain ⟨B12, hB13⟩ : ∃ b, b = w8.heap.size := ⟨_, rfl⟩
        have h12 := Box.new w8 [.slice a3 MP.length c3, .slice g3 MF.length d3] 127 B12 hB13
        have gA := Gr.al w8 (.cells #[.slice a3 MP.length c3, .slice g3 MF.length d3] 127)
        rw [← hB13]
        refine wp_abs (fun X => Gr wr X ∧ HvS w N0 (N0 + 1) B7 [.slice pa P.length pc, .slice fa F.length fc, .slice ya Y.length yc] [.int .u8 n0, .int .u8 n1, .int .u8 n2, .int .u8 n3, .int .u8 n4, .int .u8 n5] PS FS a1 g1 c1 d1 X ∧ Box X B12 [.slice a3 MP.length c3, .slice g3 MF.length d3] ∧ IRow X a3 MP ∧ IRow X g3 MF) ⟨gX.tr (g8.tr gA), HS4.keep (g8.tr gA), h12, rb.grow gA, rh.grow gA⟩ ?_
        clear h12 gA hB13 g8 rb rh gX HS4 h11 rB q0 q1 q2
        rintro X3 ⟨gX, HS5, h12, rb, rh⟩
        refine (show (∀ s9 : Nat → Value, Code.wp Try.prog _ _ ⟨#[.agg #[.slice pa P.length pc, .slice fa F.length fc, .slice ya Y.length yc], .agg #[.int .u8 n0, .int .u8 n1, .int .u8 n2, .int .u8 n3, .int .u8 n4, .int .u8 n5], .int .u8 days, .pointer (some ⟨N0, 0, none⟩), .pointer (some ⟨(N0 + 1), 0, none⟩), undef, u6, .pointer (some ⟨B7, 0, none⟩), .slice (some ⟨g, 0, none⟩) k cap, .pointer (some ⟨(E0 + 1), 0, none⟩), .int .i64 (k : Int), .pointer (some ⟨B11, 0, none⟩), .pointer (some ⟨B12, 0, none⟩), u13, u14, u15, u16, u17, undef, undef, undef, undef, undef, undef, undef, undef, undef, undef, undef, undef, undef, s 31, s 32, s 33, s 34, .int .i64 (k : Int), .bool true, u37, u38, .agg #[.slice pa P.length pc, .slice fa F.length fc, .slice ya Y.length yc], s9 40, s9 41, s9 42, s9 43, s9 44, s9 45, s9 46, s9 47, s9 48, s9 49, u50, u51, u52, u53, u54, u55, u56, u57, u58, u59, u60, u61, u62, u63, u64, u65, u66, u67, u68, u69, u70, u71, u72, u73, u74, u75, u76, u77, u78, u79, u80, u81, u82, u83, u84, u85, u86, u87, u88, u89, u90, u91, u92, u93, u94, u95, u96, u97, u98, u99, u100, u101, u102, u103, u104, u105, u106, u107, u108, u109, u110, u111, u112, u113, u114, u115, u116, u117, u118, undef, undef, undef, undef, undef, undef, undef, undef, undef, undef, undef, undef, undef, undef, undef, undef, undef, undef, undef, undef, undef, undef, undef, undef, undef, undef, undef, undef, undef, undef, undef, undef, undef, undef, undef, undef, undef, undef, undef, undef, undef, undef, undef, undef, undef, undef, undef, undef, undef, undef, undef, undef, undef, undef, undef, undef, undef, undef, undef, undef, undef, undef, undef, undef, undef, undef, undef, undef, undef, undef, undef, undef, undef, undef, undef, undef, undef, undef, undef, undef, undef, undef, undef, undef, undef, undef, undef, undef, undef, undef, undef, undef, undef, undef, undef, undef, undef, undef, undef, undef, undef, undef, undef, undef, undef, undef, undef, undef, undef, undef, undef, undef, undef, undef, undef, undef, undef, undef, undef, undef, undef, undef, undef, undef, undef, undef, undef, undef, undef, undef, undef, undef, undef, undef, undef, undef, undef, undef, undef, undef, undef, undef, undef, undef, undef, undef, undef, undef, undef, undef, undef, undef, undef, undef, undef, undef, undef, undef, undef, undef, undef, undef, undef, undef, undef, undef, undef, undef, undef, undef, undef, undef, undef, undef, undef, undef, undef, undef, undef, undef, undef, undef, undef, undef, undef, undef, undef, undef, undef, undef, undef, undef, undef, undef, undef, undef, undef, undef], []⟩ _) → _ from fun h => h ((fun l : List Value => fun i => l.getD i undef) [undef, undef, undef, undef, undef, undef, undef, undef, undef, undef, undef, undef, undef, undef, undef, undef, undef, undef, undef, undef, undef, undef, undef, undef, undef, undef, undef, undef, undef, undef, undef, undef, undef, undef, undef, undef, undef, undef, undef, undef, _, _, _, _, _, _, _, _, _, _])) ?_
        intro s9
        dsimp only
        refine wp_region_vars 13 9 11 6 10 12 7 [.int .i64 0, .int .i64 0] [.int .i64 0, .int .i64 0] (fun _ => [.int .i64 wl, .int .i64 wh]) (fun _ => [.int .i64 tl, .int .i64 th]) 45 45 [(1, 0), (3, 2), (4, 1), (4, 3), (5, 4), (6, 5), (7, 5), (8, 5), (11, 6), (11, 9), (12, 7), (12, 10)] (fun x => ⟨#[.agg #[.slice pa P.length pc, .slice fa F.length fc, .slice ya Y.length yc], .agg #[.int .u8 n0, .int .u8 n1, .int .u8 n2, .int .u8 n3, .int .u8 n4, .int .u8 n5], .int .u8 days, .pointer (some ⟨N0, 0, none⟩), .pointer (some ⟨(N0 + 1), 0, none⟩), undef, u6, .pointer (some ⟨B7, 0, none⟩), .slice (some ⟨g, 0, none⟩) k cap, .pointer (some ⟨(E0 + 1), 0, none⟩), .int .i64 (k : Int), .pointer (some ⟨B11, 0, none⟩), .pointer (some ⟨B12, 0, none⟩), x 9, x 10, u15, u16, u17, undef, undef, undef, undef, undef, undef, undef, undef, undef, undef, undef, undef, undef, s 31, s 32, s 33, s 34, .int .i64 (k : Int), .bool true, u37, u38, .agg #[.slice pa P.length pc, .slice fa F.length fc, .slice ya Y.length yc], s9 40, s9 41, s9 42, s9 43, s9 44, s9 45, s9 46, s9 47, s9 48, s9 49, x 5, x 0, x 1, x 2, x 3, x 4, x 6, x 7, x 8, u59, u60, u61, u62, u63, u64, u65, u66, u67, u68, u69, u70, u71, u72, u73, u74, u75, u76, u77, u78, u79, u80, u81, u82, u83, u84, u85, u86, u87, u88, u89, u90, u91, u92, u93, u94, u95, u96, u97, u98, u99, u100, u101, u102, u103, u104, u105, u106, u107, u108, u109, u110, u111, u112, u113, u114, u115, u116, u117, u118, undef, undef, undef, undef, undef, undef, undef, undef, undef, undef, undef, undef, undef, undef, undef, undef, undef, undef, undef, undef, undef, undef, undef, undef, undef, undef, undef, undef, undef, undef, undef, undef, undef, undef, undef, undef, undef, undef, undef, undef, undef, undef, undef, undef, undef, undef, undef, undef, undef, undef, undef, undef, undef, undef, undef, undef, undef, undef, undef, undef, undef, undef, undef, undef, undef, undef, undef, undef, undef, undef, undef, undef, undef, undef, undef, undef, undef, undef, undef, undef, undef, undef, undef, undef, undef, undef, undef, undef, undef, undef, undef, undef, undef, undef, undef, undef, undef, undef, undef, undef, undef, undef, undef, undef, undef, undef, undef, undef, undef, undef, undef, undef, undef, undef, undef, undef, undef, undef, undef, undef, undef, undef, undef, undef, undef, undef, undef, undef, undef, undef, undef, undef, undef, undef, undef, undef, undef, undef, undef, undef, undef, undef, undef, undef, undef, undef, undef, undef, undef, undef, undef, undef, undef, undef, undef, undef, undef, undef, undef, undef, undef, undef, undef, undef, undef, undef, undef, undef, undef, undef, undef, undef, undef, undef, undef, undef, undef, undef, undef, undef, undef, undef, undef, undef, undef, undef, undef, undef, undef, undef, undef, undef, undef, undef, undef, undef, undef, undef], []⟩) (fun i => [u51, u52, u53, u54, u55, u50, u56, u57, u58, u13, u14, undef, undef].getD i undef) [fun _ x => x = .agg #[.slice a1 PS.length c1, .slice g1 FS.length d1], fun v x => ∃ a ac g gc, x = .agg #[.slice a (PS).length ac, .slice g (FS).length gc] ∧ PRow v a (PS) ∧ FRow v g (FS), fun _ x => x = .agg #[.slice a3 MP.length c3, .slice g3 MF.length d3], fun v x => ∃ a ac g gc, x = .agg #[.slice a (MP).length ac, .slice g (MF).length gc] ∧ IRow v a (MP) ∧ IRow v g (MF), fun _ x => x = .tuple #[.agg #[.int .i64 wl, .int .i64 wh], .agg #[.int .i64 tl, .int .i64 th], .int .i64 0], fun _ x => x = .tuple #[.agg #[.int .i64 wl, .int .i64 wh], .agg #[.int .i64 tl, .int .i64 th], .int .i64 0], fun _ x => x = .agg #[.int .i64 wl, .int .i64 wh], fun _ x => x = .agg #[.int .i64 tl, .int .i64 th], fun _ x => x = .int .i64 0, fun _ _ => True, fun _ _ => True, fun _ _ => True, fun _ _ => True] (by rfl) (by kernel_rfl) (by kernel_rfl) (by kernel_rfl) (by simp) (fun _ => by simp) (by simp) (fun _ => by simp) (by decide) (by decide) (by omega) ?step9 ?pa9 ?pb9 ?qa9 ?qb9 ?fin9
        case step9 =>
          rintro i hi n1 n2 n3 n4 x v V gv hV hd K hK
          have hi8 : i = 0 ∨ i = 1 ∨ i = 2 ∨ i = 3 ∨ i = 4 ∨ i = 5 ∨ i = 6 ∨ i = 7 ∨ i = 8 := by omega
          rcases hi8 with rfl | rfl | rfl | rfl | rfl | rfl | rfl | rfl | rfl
          · show wpOp Try.prog _ _ 0 K (⟨#[_, _, _, _, _, _, _, _, _, _, _, _, _, x 9, x 10, _, _, _, _, _, _, _, _, _, _, _, _, _, _, _, _, _, _, _, _, _, _, _, _, _, _, _, _, _, _, _, _, _, _, _, x 5, x 0, x 1, x 2, x 3, x 4, x 6, x 7, x 8, _, _, _, _, _, _, _, _, _, _, _, _, _, _, _, _, _, _, _, _, _, _, _, _, _, _, _, _, _, _, _, _, _, _, _, _, _, _, _, _, _, _, _, _, _, _, _, _, _, _, _, _, _, _, _, _, _, _, _, _, _, _, _, _, _, _, _, _, _, _, _, _, _, _, _, _, _, _, _, _, _, _, _, _, _, _, _, _, _, _, _, _, _, _, _, _, _, _, _, _, _, _, _, _, _, _, _, _, _, _, _, _, _, _, _, _, _, _, _, _, _, _, _, _, _, _, _, _, _, _, _, _, _, _, _, _, _, _, _, _, _, _, _, _, _, _, _, _, _, _, _, _, _, _, _, _, _, _, _, _, _, _, _, _, _, _, _, _, _, _, _, _, _, _, _, _, _, _, _, _, _, _, _, _, _, _, _, _, _, _, _, _, _, _, _, _, _, _, _, _, _, _, _, _, _, _, _, _, _, _, _, _, _, _, _, _, _, _, _, _, _, _, _, _, _, _, _, _, _, _, _, _, _, _, _, _, _, _, _, _, _, _, _, _, _, _, _, _, _, _, _, _, _, _, _, _, _, _], []⟩ : Act) v
            refine wpOp_step rfl (fun K' hK' => ?_)
            rw [if_pos (by rfl)]
            refine wp_load_mid 124 _ rfl B7 0 (by rfl) [.slice a1 PS.length c1, .slice g1 FS.length d1] _ (fun j u hu => by rw [Nat.zero_add]; exact (HS5.o7.keep gv).2 j u hu) Try.underlying124 rfl (by kernel_rfl) ?_
            exact hK' _ _ (hK _ _ (Below.refl _ _) (at_of_var rfl (fun v2 k => rfl)))
          · obtain ⟨x, rfl⟩ := upd_of (show x 0 = .agg #[.slice a1 PS.length c1, .slice g1 FS.length d1] from hd 0 _ (by simp) (by decide) rfl v (Kx.refl _ _))
            show wpOp Try.prog _ _ 1 K (⟨#[_, _, _, _, _, _, _, _, _, _, _, _, _, x 9, x 10, _, _, _, _, _, _, _, _, _, _, _, _, _, _, _, _, _, _, _, _, _, _, _, _, _, _, _, _, _, _, _, _, _, _, _, x 5, .agg #[.slice a1 PS.length c1, .slice g1 FS.length d1], x 1, x 2, x 3, x 4, x 6, x 7, x 8, _, _, _, _, _, _, _, _, _, _, _, _, _, _, _, _, _, _, _, _, _, _, _, _, _, _, _, _, _, _, _, _, _, _, _, _, _, _, _, _, _, _, _, _, _, _, _, _, _, _, _, _, _, _, _, _, _, _, _, _, _, _, _, _, _, _, _, _, _, _, _, _, _, _, _, _, _, _, _, _, _, _, _, _, _, _, _, _, _, _, _, _, _, _, _, _, _, _, _, _, _, _, _, _, _, _, _, _, _, _, _, _, _, _, _, _, _, _, _, _, _, _, _, _, _, _, _, _, _, _, _, _, _, _, _, _, _, _, _, _, _, _, _, _, _, _, _, _, _, _, _, _, _, _, _, _, _, _, _, _, _, _, _, _, _, _, _, _, _, _, _, _, _, _, _, _, _, _, _, _, _, _, _, _, _, _, _, _, _, _, _, _, _, _, _, _, _, _, _, _, _, _, _, _, _, _, _, _, _, _, _, _, _, _, _, _, _, _, _, _, _, _, _, _, _, _, _, _, _, _, _, _, _, _, _, _, _, _, _, _, _, _, _, _, _, _, _, _, _, _, _, _, _, _, _, _, _, _], []⟩ : Act) v
            refine wpOp_step rfl (fun K' hK' => ?_)
            go_simp
            refine (pubOwn_any PS FS p0 p1 f0 f1 a1 g1 c1 d1 v (HS5.ra.grow gv) (HS5.rg.grow gv)).mono ?_
            rintro e v' ⟨a, ac, g, gc, rfl, hg, hr1, hr2, q1, q2⟩
            exact hK' _ _ (hK _ _ hg (at_of_var rfl (fun v2 k => ⟨_, _, _, _, rfl, row_kz hr1 k (new_out q1 hV), row_kz hr2 k (new_out q2 hV)⟩)))
          · show wpOp Try.prog _ _ 2 K (⟨#[_, _, _, _, _, _, _, _, _, _, _, _, _, x 9, x 10, _, _, _, _, _, _, _, _, _, _, _, _, _, _, _, _, _, _, _, _, _, _, _, _, _, _, _, _, _, _, _, _, _, _, _, x 5, x 0, x 1, x 2, x 3, x 4, x 6, x 7, x 8, _, _, _, _, _, _, _, _, _, _, _, _, _, _, _, _, _, _, _, _, _, _, _, _, _, _, _, _, _, _, _, _, _, _, _, _, _, _, _, _, _, _, _, _, _, _, _, _, _, _, _, _, _, _, _, _, _, _, _, _, _, _, _, _, _, _, _, _, _, _, _, _, _, _, _, _, _, _, _, _, _, _, _, _, _, _, _, _, _, _, _, _, _, _, _, _, _, _, _, _, _, _, _, _, _, _, _, _, _, _, _, _, _, _, _, _, _, _, _, _, _, _, _, _, _, _, _, _, _, _, _, _, _, _, _, _, _, _, _, _, _, _, _, _, _, _, _, _, _, _, _, _, _, _, _, _, _, _, _, _, _, _, _, _, _, _, _, _, _, _, _, _, _, _, _, _, _, _, _, _, _, _, _, _, _, _, _, _, _, _, _, _, _, _, _, _, _, _, _, _, _, _, _, _, _, _, _, _, _, _, _, _, _, _, _, _, _, _, _, _, _, _, _, _, _, _, _, _, _, _, _, _, _, _, _, _, _, _, _, _, _, _, _, _, _, _, _, _, _, _, _, _, _, _, _, _, _, _], []⟩ : Act) v
            refine wpOp_step rfl (fun K' hK' => ?_)
            rw [if_pos (by rfl)]
            refine wp_load_mid 127 _ rfl B12 0 (by rfl) [.slice a3 MP.length c3, .slice g3 MF.length d3] _ (fun j u hu => by rw [Nat.zero_add]; exact (h12.keep gv).2 j u hu) Try.underlying127 rfl (by kernel_rfl) ?_
            exact hK' _ _ (hK _ _ (Below.refl _ _) (at_of_var rfl (fun v2 k => rfl)))
          · obtain ⟨x, rfl⟩ := upd_of (show x 2 = .agg #[.slice a3 MP.length c3, .slice g3 MF.length d3] from hd 2 _ (by simp) (by decide) rfl v (Kx.refl _ _))
            show wpOp Try.prog _ _ 3 K (⟨#[_, _, _, _, _, _, _, _, _, _, _, _, _, x 9, x 10, _, _, _, _, _, _, _, _, _, _, _, _, _, _, _, _, _, _, _, _, _, _, _, _, _, _, _, _, _, _, _, _, _, _, _, x 5, x 0, x 1, .agg #[.slice a3 MP.length c3, .slice g3 MF.length d3], x 3, x 4, x 6, x 7, x 8, _, _, _, _, _, _, _, _, _, _, _, _, _, _, _, _, _, _, _, _, _, _, _, _, _, _, _, _, _, _, _, _, _, _, _, _, _, _, _, _, _, _, _, _, _, _, _, _, _, _, _, _, _, _, _, _, _, _, _, _, _, _, _, _, _, _, _, _, _, _, _, _, _, _, _, _, _, _, _, _, _, _, _, _, _, _, _, _, _, _, _, _, _, _, _, _, _, _, _, _, _, _, _, _, _, _, _, _, _, _, _, _, _, _, _, _, _, _, _, _, _, _, _, _, _, _, _, _, _, _, _, _, _, _, _, _, _, _, _, _, _, _, _, _, _, _, _, _, _, _, _, _, _, _, _, _, _, _, _, _, _, _, _, _, _, _, _, _, _, _, _, _, _, _, _, _, _, _, _, _, _, _, _, _, _, _, _, _, _, _, _, _, _, _, _, _, _, _, _, _, _, _, _, _, _, _, _, _, _, _, _, _, _, _, _, _, _, _, _, _, _, _, _, _, _, _, _, _, _, _, _, _, _, _, _, _, _, _, _, _, _, _, _, _, _, _, _, _, _, _, _, _, _, _, _, _, _, _], []⟩ : Act) v
            refine wpOp_step rfl (fun K' hK' => ?_)
            go_simp
            refine (pubMade_any MP MF mp0 mp1 mf0 mf1 a3 g3 c3 d3 v (rb.grow gv) (rh.grow gv)).mono ?_
            rintro e v' ⟨a, ac, g, gc, rfl, hg, hr1, hr2, q1, q2⟩
            exact hK' _ _ (hK _ _ hg (at_of_var rfl (fun v2 k => ⟨_, _, _, _, rfl, row_kz hr1 k (new_out q1 hV), row_kz hr2 k (new_out q2 hV)⟩)))
          · obtain ⟨a5, c5, g5, d5, e1, ra5, rg5⟩ := hd 1 _ (by simp) (by decide) rfl v (Kx.refl _ _)
            obtain ⟨x, rfl⟩ := upd_of (show x 1 = .agg #[.slice a5 (PS).length c5, .slice g5 (FS).length d5] from e1)
            obtain ⟨a6, c6, g6, d6, e3, ra6, rg6⟩ := hd 3 _ (by simp) (by decide) rfl v (Kx.refl _ _)
            obtain ⟨x, rfl⟩ := upd_of (show x 3 = .agg #[.slice a6 (MP).length c6, .slice g6 (MF).length d6] from e3)
            show wpOp Try.prog _ _ 4 K (⟨#[_, _, _, _, _, _, _, _, _, _, _, _, _, x 9, x 10, _, _, _, _, _, _, _, _, _, _, _, _, _, _, _, _, _, _, _, _, _, _, _, _, _, _, _, _, _, _, _, _, _, _, _, x 5, x 0, .agg #[.slice a5 (PS).length c5, .slice g5 (FS).length d5], x 2, .agg #[.slice a6 (MP).length c6, .slice g6 (MF).length d6], x 4, x 6, x 7, x 8, _, _, _, _, _, _, _, _, _, _, _, _, _, _, _, _, _, _, _, _, _, _, _, _, _, _, _, _, _, _, _, _, _, _, _, _, _, _, _, _, _, _, _, _, _, _, _, _, _, _, _, _, _, _, _, _, _, _, _, _, _, _, _, _, _, _, _, _, _, _, _, _, _, _, _, _, _, _, _, _, _, _, _, _, _, _, _, _, _, _, _, _, _, _, _, _, _, _, _, _, _, _, _, _, _, _, _, _, _, _, _, _, _, _, _, _, _, _, _, _, _, _, _, _, _, _, _, _, _, _, _, _, _, _, _, _, _, _, _, _, _, _, _, _, _, _, _, _, _, _, _, _, _, _, _, _, _, _, _, _, _, _, _, _, _, _, _, _, _, _, _, _, _, _, _, _, _, _, _, _, _, _, _, _, _, _, _, _, _, _, _, _, _, _, _, _, _, _, _, _, _, _, _, _, _, _, _, _, _, _, _, _, _, _, _, _, _, _, _, _, _, _, _, _, _, _, _, _, _, _, _, _, _, _, _, _, _, _, _, _, _, _, _, _, _, _, _, _, _, _, _, _, _, _, _, _, _, _], []⟩ : Act) v
            refine wpOp_step rfl (fun K' hK' => ?_)
            go_simp
            refine (HKR.out.me a5 g5 a6 g6 c5 d5 c6 d6 v ra5 rg5 ra6 rg6).mono ?_
            rintro e v' ⟨rfl, hg⟩
            exact hK' _ _ (hK _ _ hg (at_of_var rfl (fun v2 k => rfl)))
          · obtain ⟨x, rfl⟩ := upd_of (show x 4 = .tuple #[.agg #[.int .i64 wl, .int .i64 wh], .agg #[.int .i64 tl, .int .i64 th], .int .i64 0] from hd 4 _ (by simp) (by decide) rfl v (Kx.refl _ _))
            show wpOp Try.prog _ _ 5 K (⟨#[_, _, _, _, _, _, _, _, _, _, _, _, _, x 9, x 10, _, _, _, _, _, _, _, _, _, _, _, _, _, _, _, _, _, _, _, _, _, _, _, _, _, _, _, _, _, _, _, _, _, _, _, x 5, x 0, x 1, x 2, x 3, .tuple #[.agg #[.int .i64 wl, .int .i64 wh], .agg #[.int .i64 tl, .int .i64 th], .int .i64 0], x 6, x 7, x 8, _, _, _, _, _, _, _, _, _, _, _, _, _, _, _, _, _, _, _, _, _, _, _, _, _, _, _, _, _, _, _, _, _, _, _, _, _, _, _, _, _, _, _, _, _, _, _, _, _, _, _, _, _, _, _, _, _, _, _, _, _, _, _, _, _, _, _, _, _, _, _, _, _, _, _, _, _, _, _, _, _, _, _, _, _, _, _, _, _, _, _, _, _, _, _, _, _, _, _, _, _, _, _, _, _, _, _, _, _, _, _, _, _, _, _, _, _, _, _, _, _, _, _, _, _, _, _, _, _, _, _, _, _, _, _, _, _, _, _, _, _, _, _, _, _, _, _, _, _, _, _, _, _, _, _, _, _, _, _, _, _, _, _, _, _, _, _, _, _, _, _, _, _, _, _, _, _, _, _, _, _, _, _, _, _, _, _, _, _, _, _, _, _, _, _, _, _, _, _, _, _, _, _, _, _, _, _, _, _, _, _, _, _, _, _, _, _, _, _, _, _, _, _, _, _, _, _, _, _, _, _, _, _, _, _, _, _, _, _, _, _, _, _, _, _, _, _, _, _, _, _, _, _, _, _, _, _, _], []⟩ : Act) v
            refine wpOp_step rfl (fun K' hK' => ?_)
            go_simp
            exact hK' _ _ (hK _ _ (Below.refl _ _) (at_of_var rfl (fun v2 k => rfl)))
          · obtain ⟨x, rfl⟩ := upd_of (show x 5 = .tuple #[.agg #[.int .i64 wl, .int .i64 wh], .agg #[.int .i64 tl, .int .i64 th], .int .i64 0] from hd 5 _ (by simp) (by decide) rfl v (Kx.refl _ _))
            show wpOp Try.prog _ _ 6 K (⟨#[_, _, _, _, _, _, _, _, _, _, _, _, _, x 9, x 10, _, _, _, _, _, _, _, _, _, _, _, _, _, _, _, _, _, _, _, _, _, _, _, _, _, _, _, _, _, _, _, _, _, _, _, .tuple #[.agg #[.int .i64 wl, .int .i64 wh], .agg #[.int .i64 tl, .int .i64 th], .int .i64 0], x 0, x 1, x 2, x 3, x 4, x 6, x 7, x 8, _, _, _, _, _, _, _, _, _, _, _, _, _, _, _, _, _, _, _, _, _, _, _, _, _, _, _, _, _, _, _, _, _, _, _, _, _, _, _, _, _, _, _, _, _, _, _, _, _, _, _, _, _, _, _, _, _, _, _, _, _, _, _, _, _, _, _, _, _, _, _, _, _, _, _, _, _, _, _, _, _, _, _, _, _, _, _, _, _, _, _, _, _, _, _, _, _, _, _, _, _, _, _, _, _, _, _, _, _, _, _, _, _, _, _, _, _, _, _, _, _, _, _, _, _, _, _, _, _, _, _, _, _, _, _, _, _, _, _, _, _, _, _, _, _, _, _, _, _, _, _, _, _, _, _, _, _, _, _, _, _, _, _, _, _, _, _, _, _, _, _, _, _, _, _, _, _, _, _, _, _, _, _, _, _, _, _, _, _, _, _, _, _, _, _, _, _, _, _, _, _, _, _, _, _, _, _, _, _, _, _, _, _, _, _, _, _, _, _, _, _, _, _, _, _, _, _, _, _, _, _, _, _, _, _, _, _, _, _, _, _, _, _, _, _, _, _, _, _, _, _, _, _, _, _, _, _, _], []⟩ : Act) v
            refine wpOp_step rfl (fun K' hK' => ?_)
            go_simp
            exact hK' _ _ (hK _ _ (Below.refl _ _) (at_of_var rfl (fun v2 k => rfl)))
          · obtain ⟨x, rfl⟩ := upd_of (show x 5 = .tuple #[.agg #[.int .i64 wl, .int .i64 wh], .agg #[.int .i64 tl, .int .i64 th], .int .i64 0] from hd 5 _ (by simp) (by decide) rfl v (Kx.refl _ _))
            show wpOp Try.prog _ _ 7 K (⟨#[_, _, _, _, _, _, _, _, _, _, _, _, _, x 9, x 10, _, _, _, _, _, _, _, _, _, _, _, _, _, _, _, _, _, _, _, _, _, _, _, _, _, _, _, _, _, _, _, _, _, _, _, .tuple #[.agg #[.int .i64 wl, .int .i64 wh], .agg #[.int .i64 tl, .int .i64 th], .int .i64 0], x 0, x 1, x 2, x 3, x 4, x 6, x 7, x 8, _, _, _, _, _, _, _, _, _, _, _, _, _, _, _, _, _, _, _, _, _, _, _, _, _, _, _, _, _, _, _, _, _, _, _, _, _, _, _, _, _, _, _, _, _, _, _, _, _, _, _, _, _, _, _, _, _, _, _, _, _, _, _, _, _, _, _, _, _, _, _, _, _, _, _, _, _, _, _, _, _, _, _, _, _, _, _, _, _, _, _, _, _, _, _, _, _, _, _, _, _, _, _, _, _, _, _, _, _, _, _, _, _, _, _, _, _, _, _, _, _, _, _, _, _, _, _, _, _, _, _, _, _, _, _, _, _, _, _, _, _, _, _, _, _, _, _, _, _, _, _, _, _, _, _, _, _, _, _, _, _, _, _, _, _, _, _, _, _, _, _, _, _, _, _, _, _, _, _, _, _, _, _, _, _, _, _, _, _, _, _, _, _, _, _, _, _, _, _, _, _, _, _, _, _, _, _, _, _, _, _, _, _, _, _, _, _, _, _, _, _, _, _, _, _, _, _, _, _, _, _, _, _, _, _, _, _, _, _, _, _, _, _, _, _, _, _, _, _, _, _, _, _, _, _, _, _, _], []⟩ : Act) v
            refine wpOp_step rfl (fun K' hK' => ?_)
            go_simp
            exact hK' _ _ (hK _ _ (Below.refl _ _) (at_of_var rfl (fun v2 k => rfl)))
          · obtain ⟨x, rfl⟩ := upd_of (show x 5 = .tuple #[.agg #[.int .i64 wl, .int .i64 wh], .agg #[.int .i64 tl, .int .i64 th], .int .i64 0] from hd 5 _ (by simp) (by decide) rfl v (Kx.refl _ _))
            show wpOp Try.prog _ _ 8 K (⟨#[_, _, _, _, _, _, _, _, _, _, _, _, _, x 9, x 10, _, _, _, _, _, _, _, _, _, _, _, _, _, _, _, _, _, _, _, _, _, _, _, _, _, _, _, _, _, _, _, _, _, _, _, .tuple #[.agg #[.int .i64 wl, .int .i64 wh], .agg #[.int .i64 tl, .int .i64 th], .int .i64 0], x 0, x 1, x 2, x 3, x 4, x 6, x 7, x 8, _, _, _, _, _, _, _, _, _, _, _, _, _, _, _, _, _, _, _, _, _, _, _, _, _, _, _, _, _, _, _, _, _, _, _, _, _, _, _, _, _, _, _, _, _, _, _, _, _, _, _, _, _, _, _, _, _, _, _, _, _, _, _, _, _, _, _, _, _, _, _, _, _, _, _, _, _, _, _, _, _, _, _, _, _, _, _, _, _, _, _, _, _, _, _, _, _, _, _, _, _, _, _, _, _, _, _, _, _, _, _, _, _, _, _, _, _, _, _, _, _, _, _, _, _, _, _, _, _, _, _, _, _, _, _, _, _, _, _, _, _, _, _, _, _, _, _, _, _, _, _, _, _, _, _, _, _, _, _, _, _, _, _, _, _, _, _, _, _, _, _, _, _, _, _, _, _, _, _, _, _, _, _, _, _, _, _, _, _, _, _, _, _, _, _, _, _, _, _, _, _, _, _, _, _, _, _, _, _, _, _, _, _, _, _, _, _, _, _, _, _, _, _, _, _, _, _, _, _, _, _, _, _, _, _, _, _, _, _, _, _, _, _, _, _, _, _, _, _, _, _, _, _, _, _, _, _, _], []⟩ : Act) v
            refine wpOp_step rfl (fun K' hK' => ?_)
            go_simp
            exact hK' _ _ (hK _ _ (Below.refl _ _) (at_of_var rfl (fun v2 k => rfl)))
        case pa9 =>
          rintro x v gv K hK
          show wpOp Try.prog _ _ 9 K (⟨#[_, _, _, _, _, _, _, _, _, _, _, _, _, x 9, x 10, _, _, _, _, _, _, _, _, _, _, _, _, _, _, _, _, _, _, _, _, _, _, _, _, _, _, _, _, _, _, _, _, _, _, _, x 5, x 0, x 1, x 2, x 3, x 4, x 6, x 7, x 8, _, _, _, _, _, _, _, _, _, _, _, _, _, _, _, _, _, _, _, _, _, _, _, _, _, _, _, _, _, _, _, _, _, _, _, _, _, _, _, _, _, _, _, _, _, _, _, _, _, _, _, _, _, _, _, _, _, _, _, _, _, _, _, _, _, _, _, _, _, _, _, _, _, _, _, _, _, _, _, _, _, _, _, _, _, _, _, _, _, _, _, _, _, _, _, _, _, _, _, _, _, _, _, _, _, _, _, _, _, _, _, _, _, _, _, _, _, _, _, _, _, _, _, _, _, _, _, _, _, _, _, _, _, _, _, _, _, _, _, _, _, _, _, _, _, _, _, _, _, _, _, _, _, _, _, _, _, _, _, _, _, _, _, _, _, _, _, _, _, _, _, _, _, _, _, _, _, _, _, _, _, _, _, _, _, _, _, _, _, _, _, _, _, _, _, _, _, _, _, _, _, _, _, _, _, _, _, _, _, _, _, _, _, _, _, _, _, _, _, _, _, _, _, _, _, _, _, _, _, _, _, _, _, _, _, _, _, _, _, _, _, _, _, _, _, _, _, _, _, _, _, _, _, _, _, _, _, _], []⟩ : Act) v
          refine wpOp_step rfl (fun K' hK' => ?_)
          go_simp
          exact hK' _ _ hK
        case pb9 =>
          rintro x v gv K hK
          show wpOp Try.prog _ _ 10 K (⟨#[_, _, _, _, _, _, _, _, _, _, _, _, _, x 9, x 10, _, _, _, _, _, _, _, _, _, _, _, _, _, _, _, _, _, _, _, _, _, _, _, _, _, _, _, _, _, _, _, _, _, _, _, x 5, x 0, x 1, x 2, x 3, x 4, x 6, x 7, x 8, _, _, _, _, _, _, _, _, _, _, _, _, _, _, _, _, _, _, _, _, _, _, _, _, _, _, _, _, _, _, _, _, _, _, _, _, _, _, _, _, _, _, _, _, _, _, _, _, _, _, _, _, _, _, _, _, _, _, _, _, _, _, _, _, _, _, _, _, _, _, _, _, _, _, _, _, _, _, _, _, _, _, _, _, _, _, _, _, _, _, _, _, _, _, _, _, _, _, _, _, _, _, _, _, _, _, _, _, _, _, _, _, _, _, _, _, _, _, _, _, _, _, _, _, _, _, _, _, _, _, _, _, _, _, _, _, _, _, _, _, _, _, _, _, _, _, _, _, _, _, _, _, _, _, _, _, _, _, _, _, _, _, _, _, _, _, _, _, _, _, _, _, _, _, _, _, _, _, _, _, _, _, _, _, _, _, _, _, _, _, _, _, _, _, _, _, _, _, _, _, _, _, _, _, _, _, _, _, _, _, _, _, _, _, _, _, _, _, _, _, _, _, _, _, _, _, _, _, _, _, _, _, _, _, _, _, _, _, _, _, _, _, _, _, _, _, _, _, _, _, _, _, _, _, _, _, _, _], []⟩ : Act) v
          refine wpOp_step rfl (fun K' hK' => ?_)
          go_simp
          exact hK' _ _ hK
        case qa9 =>
          rintro x v bb gv hbb e ho hd K hK
          obtain ⟨x, rfl⟩ := upd_of (show x 6 = .agg #[.int .i64 wl, .int .i64 wh] from hd 6 _ (by simp) (by decide) rfl)
          obtain ⟨x, rfl⟩ := upd_of (show x 9 = .pointer (some ⟨bb, 0, none⟩) from by simpa [upd] using e)
          show wpOp Try.prog _ _ 11 K (⟨#[_, _, _, _, _, _, _, _, _, _, _, _, _, .pointer (some ⟨bb, 0, none⟩), x 10, _, _, _, _, _, _, _, _, _, _, _, _, _, _, _, _, _, _, _, _, _, _, _, _, _, _, _, _, _, _, _, _, _, _, _, x 5, x 0, x 1, x 2, x 3, x 4, .agg #[.int .i64 wl, .int .i64 wh], x 7, x 8, _, _, _, _, _, _, _, _, _, _, _, _, _, _, _, _, _, _, _, _, _, _, _, _, _, _, _, _, _, _, _, _, _, _, _, _, _, _, _, _, _, _, _, _, _, _, _, _, _, _, _, _, _, _, _, _, _, _, _, _, _, _, _, _, _, _, _, _, _, _, _, _, _, _, _, _, _, _, _, _, _, _, _, _, _, _, _, _, _, _, _, _, _, _, _, _, _, _, _, _, _, _, _, _, _, _, _, _, _, _, _, _, _, _, _, _, _, _, _, _, _, _, _, _, _, _, _, _, _, _, _, _, _, _, _, _, _, _, _, _, _, _, _, _, _, _, _, _, _, _, _, _, _, _, _, _, _, _, _, _, _, _, _, _, _, _, _, _, _, _, _, _, _, _, _, _, _, _, _, _, _, _, _, _, _, _, _, _, _, _, _, _, _, _, _, _, _, _, _, _, _, _, _, _, _, _, _, _, _, _, _, _, _, _, _, _, _, _, _, _, _, _, _, _, _, _, _, _, _, _, _, _, _, _, _, _, _, _, _, _, _, _, _, _, _, _, _, _, _, _, _, _, _, _, _, _, _, _], []⟩ : Act) v
          obtain ⟨t0, t1⟩ := ho.1.c2
          have f0 := ho.2 0
          have f1 := ho.2 1
          refine wpOp_step rfl (fun K' hK' => ?_)
          go_simp
          exact hK' _ _ (hK _ ((Kx.set (Z := fun k => k = bb) (p := ⟨bb, 0, none⟩) rfl _).tr (Kx.set (Z := fun k => k = bb) (p := ⟨bb, 1, none⟩) rfl _)) ((ho.set (i := 0) (v := .int .i64 wl) (by simp)).set (i := 1) (v := .int .i64 wh) (by simp)))
        case qb9 =>
          rintro h8 x v bb gv hbb e ho hd K hK
          obtain ⟨x, rfl⟩ := upd_of (show x 7 = .agg #[.int .i64 tl, .int .i64 th] from hd 7 _ (by simp) (by decide) rfl)
          obtain ⟨x, rfl⟩ := upd_of (show x 10 = .pointer (some ⟨bb, 0, none⟩) from by simpa [upd] using e)
          show wpOp Try.prog _ _ 12 K (⟨#[_, _, _, _, _, _, _, _, _, _, _, _, _, x 9, .pointer (some ⟨bb, 0, none⟩), _, _, _, _, _, _, _, _, _, _, _, _, _, _, _, _, _, _, _, _, _, _, _, _, _, _, _, _, _, _, _, _, _, _, _, x 5, x 0, x 1, x 2, x 3, x 4, x 6, .agg #[.int .i64 tl, .int .i64 th], x 8, _, _, _, _, _, _, _, _, _, _, _, _, _, _, _, _, _, _, _, _, _, _, _, _, _, _, _, _, _, _, _, _, _, _, _, _, _, _, _, _, _, _, _, _, _, _, _, _, _, _, _, _, _, _, _, _, _, _, _, _, _, _, _, _, _, _, _, _, _, _, _, _, _, _, _, _, _, _, _, _, _, _, _, _, _, _, _, _, _, _, _, _, _, _, _, _, _, _, _, _, _, _, _, _, _, _, _, _, _, _, _, _, _, _, _, _, _, _, _, _, _, _, _, _, _, _, _, _, _, _, _, _, _, _, _, _, _, _, _, _, _, _, _, _, _, _, _, _, _, _, _, _, _, _, _, _, _, _, _, _, _, _, _, _, _, _, _, _, _, _, _, _, _, _, _, _, _, _, _, _, _, _, _, _, _, _, _, _, _, _, _, _, _, _, _, _, _, _, _, _, _, _, _, _, _, _, _, _, _, _, _, _, _, _, _, _, _, _, _, _, _, _, _, _, _, _, _, _, _, _, _, _, _, _, _, _, _, _, _, _, _, _, _, _, _, _, _, _, _, _, _, _, _, _, _, _, _, _], []⟩ : Act) v
          obtain ⟨t0, t1⟩ := ho.1.c2
          have f0 := ho.2 0
          have f1 := ho.2 1
          refine wpOp_step rfl (fun K' hK' => ?_)
          go_simp
          exact hK' _ _ (hK _ ((Kx.set (Z := fun k => k = bb) (p := ⟨bb, 0, none⟩) rfl _).tr (Kx.set (Z := fun k => k = bb) (p := ⟨bb, 1, none⟩) rfl _)) ((ho.set (i := 0) (v := .int .i64 tl) (by simp)).set (i := 1) (v := .int .i64 th) (by simp)))
        case fin9 =>
          rintro x v bm bt gv h1 h2 hne e1 e2 o1 o2 hd
          rw [if_pos (by omega)] at o2
          obtain ⟨x, rfl⟩ := upd_of (show x 8 = .int .i64 0 from hd 8 _ (by omega) (by decide) rfl v (Kx.refl _ _))
          obtain ⟨x, rfl⟩ := upd_of (show x 9 = .pointer (some ⟨bm, 0, none⟩) from by simpa [upd] using e1)
          obtain ⟨x, rfl⟩ := upd_of (show x 10 = .pointer (some ⟨bt, 0, none⟩) from by simpa [upd] using e2)
          clear hd e1 e2
          show wpList Try.prog _ _ (List.drop 13 _) (⟨#[_, _, _, _, _, _, _, _, _, _, _, _, _, .pointer (some ⟨bm, 0, none⟩), .pointer (some ⟨bt, 0, none⟩), _, _, _, _, _, _, _, _, _, _, _, _, _, _, _, _, _, _, _, _, _, _, _, _, _, _, _, _, _, _, _, _, _, _, _, x 5, x 0, x 1, x 2, x 3, x 4, x 6, x 7, .int .i64 0, _, _, _, _, _, _, _, _, _, _, _, _, _, _, _, _, _, _, _, _, _, _, _, _, _, _, _, _, _, _, _, _, _, _, _, _, _, _, _, _, _, _, _, _, _, _, _, _, _, _, _, _, _, _, _, _, _, _, _, _, _, _, _, _, _, _, _, _, _, _, _, _, _, _, _, _, _, _, _, _, _, _, _, _, _, _, _, _, _, _, _, _, _, _, _, _, _, _, _, _, _, _, _, _, _, _, _, _, _, _, _, _, _, _, _, _, _, _, _, _, _, _, _, _, _, _, _, _, _, _, _, _, _, _, _, _, _, _, _, _, _, _, _, _, _, _, _, _, _, _, _, _, _, _, _, _, _, _, _, _, _, _, _, _, _, _, _, _, _, _, _, _, _, _, _, _, _, _, _, _, _, _, _, _, _, _, _, _, _, _, _, _, _, _, _, _, _, _, _, _, _, _, _, _, _, _, _, _, _, _, _, _, _, _, _, _, _, _, _, _, _, _, _, _, _, _, _, _, _, _, _, _, _, _, _, _, _, _, _, _, _, _, _, _, _, _, _, _, _, _, _, _, _, _, _, _, _, _], []⟩ : Act) v
          simp only [List.drop_succ_cons, List.drop_zero]
          replace o1 : Own v bm [.int .i64 wl, .int .i64 wh] := o1
          have hm9 := o1.1
          have HS6 := HS5.keep gv
          have gX6 := gX.tr gv
          have h12' := h12.keep gv
          have rb' := rb.grow gv
          have rh' := rh.grow gv
          clear o1 o2 hne h1 h2 gv HS5 h12 rb rh gX
          go_upto_region 10 with fail
          refine (show (∀ s10 : Nat → Value, Code.wp Try.prog _ _ ⟨#[.agg #[.slice pa P.length pc, .slice fa F.length fc, .slice ya Y.length yc], .agg #[.int .u8 n0, .int .u8 n1, .int .u8 n2, .int .u8 n3, .int .u8 n4, .int .u8 n5], .int .u8 days, .pointer (some ⟨N0, 0, none⟩), .pointer (some ⟨(N0 + 1), 0, none⟩), undef, u6, .pointer (some ⟨B7, 0, none⟩), .slice (some ⟨g, 0, none⟩) k cap, .pointer (some ⟨(E0 + 1), 0, none⟩), .int .i64 (k : Int), .pointer (some ⟨B11, 0, none⟩), .pointer (some ⟨B12, 0, none⟩), .pointer (some ⟨bm, 0, none⟩), .pointer (some ⟨bt, 0, none⟩), .int .i64 0, u16, u17, undef, undef, undef, undef, undef, undef, undef, undef, undef, undef, undef, undef, undef, s 31, s 32, s 33, s 34, .int .i64 (k : Int), .bool true, u37, u38, .agg #[.slice pa P.length pc, .slice fa F.length fc, .slice ya Y.length yc], s10 40, s10 41, s10 42, s10 43, s10 44, s10 45, s10 46, s10 47, s10 48, s10 49, s10 50, s10 51, s10 52, s10 53, s10 54, s10 55, s10 56, s10 57, s10 58, u59, u60, u61, u62, u63, u64, u65, u66, u67, u68, u69, u70, u71, u72, u73, u74, u75, u76, u77, u78, u79, u80, u81, u82, u83, u84, u85, u86, u87, u88, u89, u90, u91, u92, u93, u94, u95, u96, u97, u98, u99, u100, u101, u102, u103, u104, u105, u106, u107, u108, u109, u110, u111, u112, u113, u114, u115, u116, u117, u118, undef, undef, undef, undef, undef, undef, undef, undef, undef, undef, undef, undef, undef, undef, undef, undef, undef, undef, undef, undef, undef, undef, undef, undef, undef, undef, undef, undef, undef, undef, undef, undef, undef, undef, undef, undef, undef, undef, undef, undef, undef, undef, undef, undef, undef, undef, undef, undef, undef, undef, undef, undef, undef, undef, undef, undef, undef, undef, undef, undef, undef, undef, undef, undef, undef, undef, undef, undef, undef, undef, undef, undef, undef, undef, undef, undef, undef, undef, undef, undef, undef, undef, undef, undef, undef, undef, undef, undef, undef, undef, undef, undef, undef, undef, undef, undef, undef, undef, undef, undef, undef, undef, undef, undef, undef, undef, undef, undef, undef, undef, undef, undef, undef, undef, undef, undef, undef, undef, undef, undef, undef, undef, undef, undef, undef, undef, undef, undef, undef, undef, undef, undef, undef, undef, undef, undef, undef, undef, undef, undef, undef, undef, undef, undef, undef, undef, undef, undef, undef, undef, undef, undef, undef, undef, undef, undef, undef, undef, undef, undef, undef, undef, undef, undef, undef, undef, undef, undef, undef, undef, undef, undef, undef, undef, undef, undef, undef, undef, undef, undef, undef, undef, undef, undef, undef, undef, undef, undef, undef, undef, undef, undef, undef, undef, undef, undef, undef, undef], []⟩ _) → _ from fun h => h ((fun l : List Value => fun i => l.getD i undef) [undef, undef, undef, undef, undef, undef, undef, undef, undef, undef, undef, undef, undef, undef, undef, undef, undef, undef, undef, undef, undef, undef, undef, undef, undef, undef, undef, undef, undef, undef, undef, undef, undef, undef, undef, undef, undef, undef, undef, undef, _, _, _, _, _, _, _, _, _, _, _, _, _, _, _, _, _, _, _])) ?_
          intro s10
          dsimp only
          refine wp_region_facts 9 [(1, 0), (3, 2), (4, 1), (4, 3), (5, 4), (6, 5), (7, 5), (8, 6)] (fun x => ⟨#[.agg #[.slice pa P.length pc, .slice fa F.length fc, .slice ya Y.length yc], .agg #[.int .u8 n0, .int .u8 n1, .int .u8 n2, .int .u8 n3, .int .u8 n4, .int .u8 n5], .int .u8 days, .pointer (some ⟨N0, 0, none⟩), .pointer (some ⟨(N0 + 1), 0, none⟩), undef, u6, .pointer (some ⟨B7, 0, none⟩), .slice (some ⟨g, 0, none⟩) k cap, .pointer (some ⟨(E0 + 1), 0, none⟩), .int .i64 (k : Int), .pointer (some ⟨B11, 0, none⟩), .pointer (some ⟨B12, 0, none⟩), .pointer (some ⟨bm, 0, none⟩), .pointer (some ⟨bt, 0, none⟩), .int .i64 0, x 8, u17, undef, undef, undef, undef, undef, undef, undef, undef, undef, undef, undef, undef, undef, s 31, s 32, s 33, s 34, .int .i64 (k : Int), .bool true, u37, u38, .agg #[.slice pa P.length pc, .slice fa F.length fc, .slice ya Y.length yc], s10 40, s10 41, s10 42, s10 43, s10 44, s10 45, s10 46, s10 47, s10 48, s10 49, s10 50, s10 51, s10 52, s10 53, s10 54, s10 55, s10 56, s10 57, s10 58, x 5, x 0, x 1, x 2, x 3, x 4, x 6, x 7, u67, u68, u69, u70, u71, u72, u73, u74, u75, u76, u77, u78, u79, u80, u81, u82, u83, u84, u85, u86, u87, u88, u89, u90, u91, u92, u93, u94, u95, u96, u97, u98, u99, u100, u101, u102, u103, u104, u105, u106, u107, u108, u109, u110, u111, u112, u113, u114, u115, u116, u117, u118, undef, undef, undef, undef, undef, undef, undef, undef, undef, undef, undef, undef, undef, undef, undef, undef, undef, undef, undef, undef, undef, undef, undef, undef, undef, undef, undef, undef, undef, undef, undef, undef, undef, undef, undef, undef, undef, undef, undef, undef, undef, undef, undef, undef, undef, undef, undef, undef, undef, undef, undef, undef, undef, undef, undef, undef, undef, undef, undef, undef, undef, undef, undef, undef, undef, undef, undef, undef, undef, undef, undef, undef, undef, undef, undef, undef, undef, undef, undef, undef, undef, undef, undef, undef, undef, undef, undef, undef, undef, undef, undef, undef, undef, undef, undef, undef, undef, undef, undef, undef, undef, undef, undef, undef, undef, undef, undef, undef, undef, undef, undef, undef, undef, undef, undef, undef, undef, undef, undef, undef, undef, undef, undef, undef, undef, undef, undef, undef, undef, undef, undef, undef, undef, undef, undef, undef, undef, undef, undef, undef, undef, undef, undef, undef, undef, undef, undef, undef, undef, undef, undef, undef, undef, undef, undef, undef, undef, undef, undef, undef, undef, undef, undef, undef, undef, undef, undef, undef, undef, undef, undef, undef, undef, undef, undef, undef, undef, undef, undef, undef, undef, undef, undef, undef, undef, undef, undef, undef, undef, undef, undef, undef, undef, undef, undef, undef, undef, undef], []⟩) (fun i => [u60, u61, u62, u63, u64, u59, u65, u66, u16].getD i undef) [fun _ x => x = .agg #[.slice a1 PS.length c1, .slice g1 FS.length d1], fun v x => ∃ a ac g gc, x = .agg #[.slice a (PS).length ac, .slice g (FS).length gc] ∧ PRow v a (PS) ∧ FRow v g (FS), fun _ x => x = .agg #[.slice a3 MP.length c3, .slice g3 MF.length d3], fun v x => ∃ a ac g gc, x = .agg #[.slice a (MP).length ac, .slice g (MF).length gc] ∧ IRow v a (MP) ∧ IRow v g (MF), fun _ x => x = .tuple #[.int .i64 ed, .int .i64 0], fun _ x => x = .tuple #[.int .i64 ed, .int .i64 0], fun _ x => x = .int .i64 ed, fun _ x => x = .int .i64 0, fun _ x => x = .int .i64 ed] (by rfl) (by kernel_rfl) (by kernel_rfl) (by kernel_rfl) (stays_cons (Stays.eq _) (stays_cons ((show Stays (fun v x => ∃ a ac g gc, x = .agg #[.slice a (PS).length ac, .slice g (FS).length gc] ∧ PRow v a (PS) ∧ FRow v g (FS)) from fun v v' x g ⟨a, b, c, d, e, h, r⟩ => ⟨a, b, c, d, e, h.grow g, r.grow g⟩)) (stays_cons (Stays.eq _) (stays_cons ((show Stays (fun v x => ∃ a ac g gc, x = .agg #[.slice a (MP).length ac, .slice g (MF).length gc] ∧ IRow v a (MP) ∧ IRow v g (MF)) from fun v v' x g ⟨a, b, c, d, e, h, r⟩ => ⟨a, b, c, d, e, h.grow g, r.grow g⟩)) (stays_cons (Stays.eq _) (stays_cons (Stays.eq _) (stays_cons (Stays.eq _) (stays_cons (Stays.eq _) (stays_cons (Stays.eq _) stays_nil))))))))) ?step10 ?fin10
          case step10 =>
            rintro i hi x v gv hd K hK
            have hi8 : i = 0 ∨ i = 1 ∨ i = 2 ∨ i = 3 ∨ i = 4 ∨ i = 5 ∨ i = 6 ∨ i = 7 ∨ i = 8 := by omega
            rcases hi8 with rfl | rfl | rfl | rfl | rfl | rfl | rfl | rfl | rfl
            · show wpOp Try.prog _ _ 0 K (⟨#[_, _, _, _, _, _, _, _, _, _, _, _, _, _, _, _, x 8, _, _, _, _, _, _, _, _, _, _, _, _, _, _, _, _, _, _, _, _, _, _, _, _, _, _, _, _, _, _, _, _, _, _, _, _, _, _, _, _, _, _, x 5, x 0, x 1, x 2, x 3, x 4, x 6, x 7, _, _, _, _, _, _, _, _, _, _, _, _, _, _, _, _, _, _, _, _, _, _, _, _, _, _, _, _, _, _, _, _, _, _, _, _, _, _, _, _, _, _, _, _, _, _, _, _, _, _, _, _, _, _, _, _, _, _, _, _, _, _, _, _, _, _, _, _, _, _, _, _, _, _, _, _, _, _, _, _, _, _, _, _, _, _, _, _, _, _, _, _, _, _, _, _, _, _, _, _, _, _, _, _, _, _, _, _, _, _, _, _, _, _, _, _, _, _, _, _, _, _, _, _, _, _, _, _, _, _, _, _, _, _, _, _, _, _, _, _, _, _, _, _, _, _, _, _, _, _, _, _, _, _, _, _, _, _, _, _, _, _, _, _, _, _, _, _, _, _, _, _, _, _, _, _, _, _, _, _, _, _, _, _, _, _, _, _, _, _, _, _, _, _, _, _, _, _, _, _, _, _, _, _, _, _, _, _, _, _, _, _, _, _, _, _, _, _, _, _, _, _, _, _, _, _, _, _, _, _, _, _, _, _, _, _, _, _, _, _, _, _, _, _, _, _, _, _, _, _], []⟩ : Act) v
              refine wpOp_step rfl (fun K' hK' => ?_)
              rw [if_pos (by rfl)]
              refine wp_load_mid 124 _ rfl B7 0 (by rfl) [.slice a1 PS.length c1, .slice g1 FS.length d1] _ (fun j u hu => by rw [Nat.zero_add]; exact (HS6.o7.keep gv).2 j u hu) Try.underlying124 rfl (by kernel_rfl) ?_
              exact hK' _ _ (hK _ _ (Below.refl _ _) (at_of rfl (rfl)))
            · obtain ⟨x, rfl⟩ := upd_of (show x 0 = .agg #[.slice a1 PS.length c1, .slice g1 FS.length d1] from hd 0 _ (by simp) rfl)
              show wpOp Try.prog _ _ 1 K (⟨#[_, _, _, _, _, _, _, _, _, _, _, _, _, _, _, _, x 8, _, _, _, _, _, _, _, _, _, _, _, _, _, _, _, _, _, _, _, _, _, _, _, _, _, _, _, _, _, _, _, _, _, _, _, _, _, _, _, _, _, _, x 5, .agg #[.slice a1 PS.length c1, .slice g1 FS.length d1], x 1, x 2, x 3, x 4, x 6, x 7, _, _, _, _, _, _, _, _, _, _, _, _, _, _, _, _, _, _, _, _, _, _, _, _, _, _, _, _, _, _, _, _, _, _, _, _, _, _, _, _, _, _, _, _, _, _, _, _, _, _, _, _, _, _, _, _, _, _, _, _, _, _, _, _, _, _, _, _, _, _, _, _, _, _, _, _, _, _, _, _, _, _, _, _, _, _, _, _, _, _, _, _, _, _, _, _, _, _, _, _, _, _, _, _, _, _, _, _, _, _, _, _, _, _, _, _, _, _, _, _, _, _, _, _, _, _, _, _, _, _, _, _, _, _, _, _, _, _, _, _, _, _, _, _, _, _, _, _, _, _, _, _, _, _, _, _, _, _, _, _, _, _, _, _, _, _, _, _, _, _, _, _, _, _, _, _, _, _, _, _, _, _, _, _, _, _, _, _, _, _, _, _, _, _, _, _, _, _, _, _, _, _, _, _, _, _, _, _, _, _, _, _, _, _, _, _, _, _, _, _, _, _, _, _, _, _, _, _, _, _, _, _, _, _, _, _, _, _, _, _, _, _, _, _, _, _, _, _, _, _], []⟩ : Act) v
              refine wpOp_step rfl (fun K' hK' => ?_)
              go_simp
              refine (pubOwn_any PS FS p0 p1 f0 f1 a1 g1 c1 d1 v (HS6.ra.grow gv) (HS6.rg.grow gv)).mono ?_
              rintro e v' ⟨a, ac, g, gc, rfl, hg, hr1, hr2, q1, q2⟩
              exact hK' _ _ (hK _ _ hg (at_of rfl (⟨_, _, _, _, rfl, hr1, hr2⟩)))
            · show wpOp Try.prog _ _ 2 K (⟨#[_, _, _, _, _, _, _, _, _, _, _, _, _, _, _, _, x 8, _, _, _, _, _, _, _, _, _, _, _, _, _, _, _, _, _, _, _, _, _, _, _, _, _, _, _, _, _, _, _, _, _, _, _, _, _, _, _, _, _, _, x 5, x 0, x 1, x 2, x 3, x 4, x 6, x 7, _, _, _, _, _, _, _, _, _, _, _, _, _, _, _, _, _, _, _, _, _, _, _, _, _, _, _, _, _, _, _, _, _, _, _, _, _, _, _, _, _, _, _, _, _, _, _, _, _, _, _, _, _, _, _, _, _, _, _, _, _, _, _, _, _, _, _, _, _, _, _, _, _, _, _, _, _, _, _, _, _, _, _, _, _, _, _, _, _, _, _, _, _, _, _, _, _, _, _, _, _, _, _, _, _, _, _, _, _, _, _, _, _, _, _, _, _, _, _, _, _, _, _, _, _, _, _, _, _, _, _, _, _, _, _, _, _, _, _, _, _, _, _, _, _, _, _, _, _, _, _, _, _, _, _, _, _, _, _, _, _, _, _, _, _, _, _, _, _, _, _, _, _, _, _, _, _, _, _, _, _, _, _, _, _, _, _, _, _, _, _, _, _, _, _, _, _, _, _, _, _, _, _, _, _, _, _, _, _, _, _, _, _, _, _, _, _, _, _, _, _, _, _, _, _, _, _, _, _, _, _, _, _, _, _, _, _, _, _, _, _, _, _, _, _, _, _, _, _, _], []⟩ : Act) v
              refine wpOp_step rfl (fun K' hK' => ?_)
              rw [if_pos (by rfl)]
              refine wp_load_mid 127 _ rfl B12 0 (by rfl) [.slice a3 MP.length c3, .slice g3 MF.length d3] _ (fun j u hu => by rw [Nat.zero_add]; exact (h12'.keep gv).2 j u hu) Try.underlying127 rfl (by kernel_rfl) ?_
              exact hK' _ _ (hK _ _ (Below.refl _ _) (at_of rfl (rfl)))
            · obtain ⟨x, rfl⟩ := upd_of (show x 2 = .agg #[.slice a3 MP.length c3, .slice g3 MF.length d3] from hd 2 _ (by simp) rfl)
              show wpOp Try.prog _ _ 3 K (⟨#[_, _, _, _, _, _, _, _, _, _, _, _, _, _, _, _, x 8, _, _, _, _, _, _, _, _, _, _, _, _, _, _, _, _, _, _, _, _, _, _, _, _, _, _, _, _, _, _, _, _, _, _, _, _, _, _, _, _, _, _, x 5, x 0, x 1, .agg #[.slice a3 MP.length c3, .slice g3 MF.length d3], x 3, x 4, x 6, x 7, _, _, _, _, _, _, _, _, _, _, _, _, _, _, _, _, _, _, _, _, _, _, _, _, _, _, _, _, _, _, _, _, _, _, _, _, _, _, _, _, _, _, _, _, _, _, _, _, _, _, _, _, _, _, _, _, _, _, _, _, _, _, _, _, _, _, _, _, _, _, _, _, _, _, _, _, _, _, _, _, _, _, _, _, _, _, _, _, _, _, _, _, _, _, _, _, _, _, _, _, _, _, _, _, _, _, _, _, _, _, _, _, _, _, _, _, _, _, _, _, _, _, _, _, _, _, _, _, _, _, _, _, _, _, _, _, _, _, _, _, _, _, _, _, _, _, _, _, _, _, _, _, _, _, _, _, _, _, _, _, _, _, _, _, _, _, _, _, _, _, _, _, _, _, _, _, _, _, _, _, _, _, _, _, _, _, _, _, _, _, _, _, _, _, _, _, _, _, _, _, _, _, _, _, _, _, _, _, _, _, _, _, _, _, _, _, _, _, _, _, _, _, _, _, _, _, _, _, _, _, _, _, _, _, _, _, _, _, _, _, _, _, _, _, _, _, _, _, _, _], []⟩ : Act) v
              refine wpOp_step rfl (fun K' hK' => ?_)
              go_simp
              refine (pubMade_any MP MF mp0 mp1 mf0 mf1 a3 g3 c3 d3 v (rb'.grow gv) (rh'.grow gv)).mono ?_
              rintro e v' ⟨a, ac, g, gc, rfl, hg, hr1, hr2, q1, q2⟩
              exact hK' _ _ (hK _ _ hg (at_of rfl (⟨_, _, _, _, rfl, hr1, hr2⟩)))
            · obtain ⟨a5, c5, g5, d5, e1, ra5, rg5⟩ := hd 1 _ (by simp) rfl
              obtain ⟨x, rfl⟩ := upd_of (show x 1 = .agg #[.slice a5 (PS).length c5, .slice g5 (FS).length d5] from e1)
              obtain ⟨a6, c6, g6, d6, e3, ra6, rg6⟩ := hd 3 _ (by simp) rfl
              obtain ⟨x, rfl⟩ := upd_of (show x 3 = .agg #[.slice a6 (MP).length c6, .slice g6 (MF).length d6] from e3)
              show wpOp Try.prog _ _ 4 K (⟨#[_, _, _, _, _, _, _, _, _, _, _, _, _, _, _, _, x 8, _, _, _, _, _, _, _, _, _, _, _, _, _, _, _, _, _, _, _, _, _, _, _, _, _, _, _, _, _, _, _, _, _, _, _, _, _, _, _, _, _, _, x 5, x 0, .agg #[.slice a5 (PS).length c5, .slice g5 (FS).length d5], x 2, .agg #[.slice a6 (MP).length c6, .slice g6 (MF).length d6], x 4, x 6, x 7, _, _, _, _, _, _, _, _, _, _, _, _, _, _, _, _, _, _, _, _, _, _, _, _, _, _, _, _, _, _, _, _, _, _, _, _, _, _, _, _, _, _, _, _, _, _, _, _, _, _, _, _, _, _, _, _, _, _, _, _, _, _, _, _, _, _, _, _, _, _, _, _, _, _, _, _, _, _, _, _, _, _, _, _, _, _, _, _, _, _, _, _, _, _, _, _, _, _, _, _, _, _, _, _, _, _, _, _, _, _, _, _, _, _, _, _, _, _, _, _, _, _, _, _, _, _, _, _, _, _, _, _, _, _, _, _, _, _, _, _, _, _, _, _, _, _, _, _, _, _, _, _, _, _, _, _, _, _, _, _, _, _, _, _, _, _, _, _, _, _, _, _, _, _, _, _, _, _, _, _, _, _, _, _, _, _, _, _, _, _, _, _, _, _, _, _, _, _, _, _, _, _, _, _, _, _, _, _, _, _, _, _, _, _, _, _, _, _, _, _, _, _, _, _, _, _, _, _, _, _, _, _, _, _, _, _, _, _, _, _, _, _, _, _, _, _, _, _, _, _], []⟩ : Act) v
              refine wpOp_step rfl (fun K' hK' => ?_)
              go_simp
              refine (HKR.out.st a5 g5 a6 g6 c5 d5 c6 d6 v ra5 rg5 ra6 rg6).mono ?_
              rintro e v' ⟨rfl, hg⟩
              exact hK' _ _ (hK _ _ hg (at_of rfl (rfl)))
            · obtain ⟨x, rfl⟩ := upd_of (show x 4 = .tuple #[.int .i64 ed, .int .i64 0] from hd 4 _ (by simp) rfl)
              show wpOp Try.prog _ _ 5 K (⟨#[_, _, _, _, _, _, _, _, _, _, _, _, _, _, _, _, x 8, _, _, _, _, _, _, _, _, _, _, _, _, _, _, _, _, _, _, _, _, _, _, _, _, _, _, _, _, _, _, _, _, _, _, _, _, _, _, _, _, _, _, x 5, x 0, x 1, x 2, x 3, .tuple #[.int .i64 ed, .int .i64 0], x 6, x 7, _, _, _, _, _, _, _, _, _, _, _, _, _, _, _, _, _, _, _, _, _, _, _, _, _, _, _, _, _, _, _, _, _, _, _, _, _, _, _, _, _, _, _, _, _, _, _, _, _, _, _, _, _, _, _, _, _, _, _, _, _, _, _, _, _, _, _, _, _, _, _, _, _, _, _, _, _, _, _, _, _, _, _, _, _, _, _, _, _, _, _, _, _, _, _, _, _, _, _, _, _, _, _, _, _, _, _, _, _, _, _, _, _, _, _, _, _, _, _, _, _, _, _, _, _, _, _, _, _, _, _, _, _, _, _, _, _, _, _, _, _, _, _, _, _, _, _, _, _, _, _, _, _, _, _, _, _, _, _, _, _, _, _, _, _, _, _, _, _, _, _, _, _, _, _, _, _, _, _, _, _, _, _, _, _, _, _, _, _, _, _, _, _, _, _, _, _, _, _, _, _, _, _, _, _, _, _, _, _, _, _, _, _, _, _, _, _, _, _, _, _, _, _, _, _, _, _, _, _, _, _, _, _, _, _, _, _, _, _, _, _, _, _, _, _, _, _, _, _, _], []⟩ : Act) v
              refine wpOp_step rfl (fun K' hK' => ?_)
              go_simp
              exact hK' _ _ (hK _ _ (Below.refl _ _) (at_of rfl (rfl)))
            · obtain ⟨x, rfl⟩ := upd_of (show x 5 = .tuple #[.int .i64 ed, .int .i64 0] from hd 5 _ (by simp) rfl)
              show wpOp Try.prog _ _ 6 K (⟨#[_, _, _, _, _, _, _, _, _, _, _, _, _, _, _, _, x 8, _, _, _, _, _, _, _, _, _, _, _, _, _, _, _, _, _, _, _, _, _, _, _, _, _, _, _, _, _, _, _, _, _, _, _, _, _, _, _, _, _, _, .tuple #[.int .i64 ed, .int .i64 0], x 0, x 1, x 2, x 3, x 4, x 6, x 7, _, _, _, _, _, _, _, _, _, _, _, _, _, _, _, _, _, _, _, _, _, _, _, _, _, _, _, _, _, _, _, _, _, _, _, _, _, _, _, _, _, _, _, _, _, _, _, _, _, _, _, _, _, _, _, _, _, _, _, _, _, _, _, _, _, _, _, _, _, _, _, _, _, _, _, _, _, _, _, _, _, _, _, _, _, _, _, _, _, _, _, _, _, _, _, _, _, _, _, _, _, _, _, _, _, _, _, _, _, _, _, _, _, _, _, _, _, _, _, _, _, _, _, _, _, _, _, _, _, _, _, _, _, _, _, _, _, _, _, _, _, _, _, _, _, _, _, _, _, _, _, _, _, _, _, _, _, _, _, _, _, _, _, _, _, _, _, _, _, _, _, _, _, _, _, _, _, _, _, _, _, _, _, _, _, _, _, _, _, _, _, _, _, _, _, _, _, _, _, _, _, _, _, _, _, _, _, _, _, _, _, _, _, _, _, _, _, _, _, _, _, _, _, _, _, _, _, _, _, _, _, _, _, _, _, _, _, _, _, _, _, _, _, _, _, _, _, _, _, _], []⟩ : Act) v
              refine wpOp_step rfl (fun K' hK' => ?_)
              go_simp
              exact hK' _ _ (hK _ _ (Below.refl _ _) (at_of rfl (rfl)))
            · obtain ⟨x, rfl⟩ := upd_of (show x 5 = .tuple #[.int .i64 ed, .int .i64 0] from hd 5 _ (by simp) rfl)
              show wpOp Try.prog _ _ 7 K (⟨#[_, _, _, _, _, _, _, _, _, _, _, _, _, _, _, _, x 8, _, _, _, _, _, _, _, _, _, _, _, _, _, _, _, _, _, _, _, _, _, _, _, _, _, _, _, _, _, _, _, _, _, _, _, _, _, _, _, _, _, _, .tuple #[.int .i64 ed, .int .i64 0], x 0, x 1, x 2, x 3, x 4, x 6, x 7, _, _, _, _, _, _, _, _, _, _, _, _, _, _, _, _, _, _, _, _, _, _, _, _, _, _, _, _, _, _, _, _, _, _, _, _, _, _, _, _, _, _, _, _, _, _, _, _, _, _, _, _, _, _, _, _, _, _, _, _, _, _, _, _, _, _, _, _, _, _, _, _, _, _, _, _, _, _, _, _, _, _, _, _, _, _, _, _, _, _, _, _, _, _, _, _, _, _, _, _, _, _, _, _, _, _, _, _, _, _, _, _, _, _, _, _, _, _, _, _, _, _, _, _, _, _, _, _, _, _, _, _, _, _, _, _, _, _, _, _, _, _, _, _, _, _, _, _, _, _, _, _, _, _, _, _, _, _, _, _, _, _, _, _, _, _, _, _, _, _, _, _, _, _, _, _, _, _, _, _, _, _, _, _, _, _, _, _, _, _, _, _, _, _, _, _, _, _, _, _, _, _, _, _, _, _, _, _, _, _, _, _, _, _, _, _, _, _, _, _, _, _, _, _, _, _, _, _, _, _, _, _, _, _, _, _, _, _, _, _, _, _, _, _, _, _, _, _, _, _], []⟩ : Act) v
              refine wpOp_step rfl (fun K' hK' => ?_)
              go_simp
              exact hK' _ _ (hK _ _ (Below.refl _ _) (at_of rfl (rfl)))
            · obtain ⟨x, rfl⟩ := upd_of (show x 6 = .int .i64 ed from hd 6 _ (by simp) rfl)
              show wpOp Try.prog _ _ 8 K (⟨#[_, _, _, _, _, _, _, _, _, _, _, _, _, _, _, _, x 8, _, _, _, _, _, _, _, _, _, _, _, _, _, _, _, _, _, _, _, _, _, _, _, _, _, _, _, _, _, _, _, _, _, _, _, _, _, _, _, _, _, _, x 5, x 0, x 1, x 2, x 3, x 4, .int .i64 ed, x 7, _, _, _, _, _, _, _, _, _, _, _, _, _, _, _, _, _, _, _, _, _, _, _, _, _, _, _, _, _, _, _, _, _, _, _, _, _, _, _, _, _, _, _, _, _, _, _, _, _, _, _, _, _, _, _, _, _, _, _, _, _, _, _, _, _, _, _, _, _, _, _, _, _, _, _, _, _, _, _, _, _, _, _, _, _, _, _, _, _, _, _, _, _, _, _, _, _, _, _, _, _, _, _, _, _, _, _, _, _, _, _, _, _, _, _, _, _, _, _, _, _, _, _, _, _, _, _, _, _, _, _, _, _, _, _, _, _, _, _, _, _, _, _, _, _, _, _, _, _, _, _, _, _, _, _, _, _, _, _, _, _, _, _, _, _, _, _, _, _, _, _, _, _, _, _, _, _, _, _, _, _, _, _, _, _, _, _, _, _, _, _, _, _, _, _, _, _, _, _, _, _, _, _, _, _, _, _, _, _, _, _, _, _, _, _, _, _, _, _, _, _, _, _, _, _, _, _, _, _, _, _, _, _, _, _, _, _, _, _, _, _, _, _, _, _, _, _, _, _, _], []⟩ : Act) v
              refine wpOp_step rfl (fun K' hK' => ?_)
              go_simp
              exact hK' _ _ (hK _ _ (Below.refl _ _) (at_of rfl (rfl)))
          case fin10 =>
            rintro x v3 gv hd
            obtain ⟨x, rfl⟩ := upd_of (show x 7 = .int .i64 0 from hd 7 _ (by omega) rfl)
            obtain ⟨x, rfl⟩ := upd_of (show x 8 = .int .i64 ed from hd 8 _ (by omega) rfl)
            clear hd
            show wpList Try.prog _ _ (List.drop 9 _) (⟨#[_, _, _, _, _, _, _, _, _, _, _, _, _, _, _, _, .int .i64 ed, _, _, _, _, _, _, _, _, _, _, _, _, _, _, _, _, _, _, _, _, _, _, _, _, _, _, _, _, _, _, _, _, _, _, _, _, _, _, _, _, _, _, x 5, x 0, x 1, x 2, x 3, x 4, x 6, .int .i64 0, _, _, _, _, _, _, _, _, _, _, _, _, _, _, _, _, _, _, _, _, _, _, _, _, _, _, _, _, _, _, _, _, _, _, _, _, _, _, _, _, _, _, _, _, _, _, _, _, _, _, _, _, _, _, _, _, _, _, _, _, _, _, _, _, _, _, _, _, _, _, _, _, _, _, _, _, _, _, _, _, _, _, _, _, _, _, _, _, _, _, _, _, _, _, _, _, _, _, _, _, _, _, _, _, _, _, _, _, _, _, _, _, _, _, _, _, _, _, _, _, _, _, _, _, _, _, _, _, _, _, _, _, _, _, _, _, _, _, _, _, _, _, _, _, _, _, _, _, _, _, _, _, _, _, _, _, _, _, _, _, _, _, _, _, _, _, _, _, _, _, _, _, _, _, _, _, _, _, _, _, _, _, _, _, _, _, _, _, _, _, _, _, _, _, _, _, _, _, _, _, _, _, _, _, _, _, _, _, _, _, _, _, _, _, _, _, _, _, _, _, _, _, _, _, _, _, _, _, _, _, _, _, _, _, _, _, _, _, _, _, _, _, _, _, _, _, _, _, _, _], []⟩ : Act) v3
            simp only [List.drop_succ_cons, List.drop_zero]
            have HS7 := HS6.keep gv
            have hm10 := hm9.keep gv
            have gX7 := gX6.tr gv
            clear HS6 hm9 gv gX6 h12' rb' rh'
            obtain ⟨q0, q1⟩ := hm10.c2
            have y0 : decide (wl < 0) = false := by simp; omega
            have y1 : decide ((10000 : Int) < wh) = false := by simp; omega
            have y2 : decide (wh < wl) = false := by simp; omega
            have y3 : decide (ed < 0) = false := by simp; omega
            have y4 : decide ((1000000 : Int) < ed) = false := by simp; omega
            go_upto_region 13 with fail
            refine wp_abs (fun X => Gr wr X ∧ HvS w N0 (N0 + 1) B7 [.slice pa P.length pc, .slice fa F.length fc, .slice ya Y.length yc] [.int .u8 n0, .int .u8 n1, .int .u8 n2, .int .u8 n3, .int .u8 n4, .int .u8 n5] PS FS a1 g1 c1 d1 X ∧ Box X bm [.int .i64 wl, .int .i64 wh]) (by first | exact ⟨gX7, HS7, hm10⟩ | exact ⟨gX7.tr (Gr.drewN (Below.refl _ _) _), HS7.keep (Gr.drewN (Below.refl _ _) _), hm10.keep (Gr.drewN (Below.refl _ _) _)⟩) ?_
            clear gX7 HS7 hm10 q0 q1 y0 y1 y2 y3 y4
            rintro X5 ⟨gX5, HS8, hm11⟩
            obtain ⟨z0, z1, z2, z3⟩ := heavy_edge e0 e1 m0 m1
            obtain ⟨z, hz⟩ : ∃ z, ed * m / 64 = z := ⟨_, rfl⟩
            have HXL2 := HXL.out
            rw [hz] at HXL2 z2 z3
            have HXz := Lib.hid HXL2
            have zc : IntKind.i64.wrap m = m := IntWalk.i64_in _ (by omega)
            have zm : IntKind.i64.wrap (ed * m) = ed * m := IntWalk.i64_in _ (by omega)
            have zd : (ed * m).tdiv 64 = z := by rw [Int.tdiv_eq_ediv_of_nonneg z0]; exact hz
            have zw : IntKind.i64.wrap z = z := IntWalk.i64_in _ (by omega)
            have z9 : IntKind.i64.wrap (z + 9) = z + 9 := IntWalk.i64_in _ (by omega)
            have z64 : ¬ ((64 : Int) = 0) := by omega
            have cm := HS8.hm.2 k _ HMK.out
            clear HXL HXL2 hz
            refine (show (∀ s13 : Nat → Value, Code.wp Try.prog _ _ ⟨#[.agg #[.slice pa P.length pc, .slice fa F.length fc, .slice ya Y.length yc], .agg #[.int .u8 n0, .int .u8 n1, .int .u8 n2, .int .u8 n3, .int .u8 n4, .int .u8 n5], .int .u8 days, .pointer (some ⟨N0, 0, none⟩), .pointer (some ⟨(N0 + 1), 0, none⟩), undef, u6, .pointer (some ⟨B7, 0, none⟩), .slice (some ⟨g, 0, none⟩) k cap, .pointer (some ⟨(E0 + 1), 0, none⟩), .int .i64 (k : Int), .pointer (some ⟨B11, 0, none⟩), .pointer (some ⟨B12, 0, none⟩), .pointer (some ⟨bm, 0, none⟩), .pointer (some ⟨bt, 0, none⟩), .int .i64 0, .int .i64 ed, .int .i64 0, undef, undef, undef, undef, undef, undef, undef, undef, undef, undef, undef, undef, undef, s 31, s 32, s 33, s 34, .int .i64 (k : Int), .bool true, u37, u38, .agg #[.slice pa P.length pc, .slice fa F.length fc, .slice ya Y.length yc], s13 40, s13 41, s13 42, s13 43, s13 44, s13 45, s13 46, s13 47, s13 48, s13 49, s13 50, s13 51, s13 52, s13 53, s13 54, s13 55, s13 56, s13 57, s13 58, s13 59, s13 60, s13 61, s13 62, s13 63, s13 64, s13 65, s13 66, s13 67, s13 68, s13 69, s13 70, s13 71, s13 72, s13 73, s13 74, s13 75, s13 76, s13 77, s13 78, s13 79, s13 80, s13 81, s13 82, s13 83, s13 84, s13 85, s13 86, s13 87, s13 88, s13 89, s13 90, s13 91, s13 92, s13 93, s13 94, s13 95, s13 96, s13 97, u98, u99, u100, u101, u102, u103, u104, u105, u106, u107, u108, u109, u110, u111, u112, u113, u114, u115, u116, u117, u118, undef, undef, undef, undef, undef, undef, undef, undef, undef, undef, undef, undef, undef, undef, undef, undef, undef, undef, undef, undef, undef, undef, undef, undef, undef, undef, undef, undef, undef, undef, undef, undef, undef, undef, undef, undef, undef, undef, undef, undef, undef, undef, undef, undef, undef, undef, undef, undef, undef, undef, undef, undef, undef, undef, undef, undef, undef, undef, undef, undef, undef, undef, undef, undef, undef, undef, undef, undef, undef, undef, undef, undef, undef, undef, undef, undef, undef, undef, undef, undef, undef, undef, undef, undef, undef, undef, undef, undef, undef, undef, undef, undef, undef, undef, undef, undef, undef, undef, undef, undef, undef, undef, undef, undef, undef, undef, undef, undef, undef, undef, undef, undef, undef, undef, undef, undef, undef, undef, undef, undef, undef, undef, undef, undef, undef, undef, undef, undef, undef, undef, undef, undef, undef, undef, undef, undef, undef, undef, undef, undef, undef, undef, undef, undef, undef, undef, undef, undef, undef, undef, undef, undef, undef, undef, undef, undef, undef, undef, undef, undef, undef, undef, undef, undef, undef, undef, undef, undef, undef, undef, undef, undef, undef, undef, undef, undef, undef, undef, undef, undef, undef, undef, undef, undef, undef, undef, undef, undef, undef, undef, undef, undef, undef, undef, undef, undef, undef, undef], []⟩ _) → _ from fun h => h ((fun l : List Value => fun i => l.getD i undef) [undef, undef, undef, undef, undef, undef, undef, undef, undef, undef, undef, undef, undef, undef, undef, undef, undef, undef, undef, undef, undef, undef, undef, undef, undef, undef, undef, undef, undef, undef, undef, undef, undef, undef, undef, undef, undef, undef, undef, undef, _, _, _, _, _, _, _, _, _, _, _, _, _, _, _, _, _, _, _, _, _, _, _, _, _, _, _, _, _, _, _, _, _, _, _, _, _, _, _, _, _, _, _, _, _, _, _, _, _, _, _, _, _, _, _, _, _, _])) ?_
            intro s13
            dsimp only
            refine wp_region_facts 20 [(3, 2), (4, 3), (5, 4), (6, 1), (6, 5), (7, 6), (10, 9), (11, 10), (12, 11), (13, 8), (13, 12), (14, 13), (15, 14), (16, 7), (16, 15), (18, 16), (18, 17), (19, 18)] (fun x => ⟨#[.agg #[.slice pa P.length pc, .slice fa F.length fc, .slice ya Y.length yc], .agg #[.int .u8 n0, .int .u8 n1, .int .u8 n2, .int .u8 n3, .int .u8 n4, .int .u8 n5], .int .u8 days, .pointer (some ⟨N0, 0, none⟩), .pointer (some ⟨(N0 + 1), 0, none⟩), undef, u6, .pointer (some ⟨B7, 0, none⟩), .slice (some ⟨g, 0, none⟩) k cap, .pointer (some ⟨(E0 + 1), 0, none⟩), .int .i64 (k : Int), .pointer (some ⟨B11, 0, none⟩), .pointer (some ⟨B12, 0, none⟩), .pointer (some ⟨bm, 0, none⟩), .pointer (some ⟨bt, 0, none⟩), .int .i64 0, .int .i64 ed, .int .i64 0, undef, undef, undef, undef, undef, undef, undef, undef, undef, undef, undef, undef, undef, s 31, s 32, s 33, s 34, .int .i64 (k : Int), .bool true, u37, u38, .agg #[.slice pa P.length pc, .slice fa F.length fc, .slice ya Y.length yc], s13 40, s13 41, s13 42, s13 43, s13 44, s13 45, s13 46, s13 47, s13 48, s13 49, s13 50, s13 51, s13 52, s13 53, s13 54, s13 55, s13 56, s13 57, s13 58, s13 59, s13 60, s13 61, s13 62, s13 63, s13 64, s13 65, s13 66, s13 67, s13 68, s13 69, s13 70, s13 71, s13 72, s13 73, s13 74, s13 75, s13 76, s13 77, s13 78, s13 79, s13 80, s13 81, s13 82, s13 83, s13 84, s13 85, s13 86, s13 87, s13 88, s13 89, s13 90, s13 91, s13 92, s13 93, s13 94, s13 95, s13 96, s13 97, x 0, x 1, x 2, x 3, x 4, x 5, x 6, x 7, x 8, x 9, x 10, x 11, x 12, x 13, x 14, x 15, x 16, x 17, x 18, x 19, u118, undef, undef, undef, undef, undef, undef, undef, undef, undef, undef, undef, undef, undef, undef, undef, undef, undef, undef, undef, undef, undef, undef, undef, undef, undef, undef, undef, undef, undef, undef, undef, undef, undef, undef, undef, undef, undef, undef, undef, undef, undef, undef, undef, undef, undef, undef, undef, undef, undef, undef, undef, undef, undef, undef, undef, undef, undef, undef, undef, undef, undef, undef, undef, undef, undef, undef, undef, undef, undef, undef, undef, undef, undef, undef, undef, undef, undef, undef, undef, undef, undef, undef, undef, undef, undef, undef, undef, undef, undef, undef, undef, undef, undef, undef, undef, undef, undef, undef, undef, undef, undef, undef, undef, undef, undef, undef, undef, undef, undef, undef, undef, undef, undef, undef, undef, undef, undef, undef, undef, undef, undef, undef, undef, undef, undef, undef, undef, undef, undef, undef, undef, undef, undef, undef, undef, undef, undef, undef, undef, undef, undef, undef, undef, undef, undef, undef, undef, undef, undef, undef, undef, undef, undef, undef, undef, undef, undef, undef, undef, undef, undef, undef, undef, undef, undef, undef, undef, undef, undef, undef, undef, undef, undef, undef, undef, undef, undef, undef, undef, undef, undef, undef, undef, undef, undef, undef, undef, undef, undef, undef, undef, undef, undef, undef, undef, undef, undef, undef], []⟩) (fun i => [u98, u99, u100, u101, u102, u103, u104, u105, u106, u107, u108, u109, u110, u111, u112, u113, u114, u115, u116, u117].getD i undef) [fun _ x => x = .slice (some ⟨g, 0, none⟩) k cap, fun _ x => x = .int .i64 ed, fun _ x => x = .int .i64 (k : Int), fun _ x => x = .pointer (some ⟨N0 + 1, k, none⟩), fun _ x => x = .int .u8 m, fun _ x => x = .int .i64 m, fun _ x => x = .int .i64 (ed * m), fun _ x => x = .int .i64 z, fun _ x => x = .int .i64 ed, fun _ x => x = .int .i64 (k : Int), fun _ x => x = .pointer (some ⟨N0 + 1, k, none⟩), fun _ x => x = .int .u8 m, fun _ x => x = .int .i64 m, fun _ x => x = .int .i64 (ed * m), fun _ x => x = .int .i64 z, fun _ x => x = .int .i64 (z + 9), fun _ x => x = .agg #[.int .i64 z, .int .i64 (z + 9)], fun _ x => x = .agg #[.int .i64 wl, .int .i64 wh], fun _ x => x = .agg #[.int .i64 z, .int .i64 (z + 9), .int .i64 wl, .int .i64 wh], fun v x => ∃ c, x = .slice (some ⟨c, 0, none⟩) 1 1 ∧ Box v c [.int .i64 z, .int .i64 (z + 9), .int .i64 wl, .int .i64 wh]] (by rfl) (by kernel_rfl) (by kernel_rfl) (by kernel_rfl) (stays_cons (Stays.eq _) (stays_cons (Stays.eq _) (stays_cons (Stays.eq _) (stays_cons (Stays.eq _) (stays_cons (Stays.eq _) (stays_cons (Stays.eq _) (stays_cons (Stays.eq _) (stays_cons (Stays.eq _) (stays_cons (Stays.eq _) (stays_cons (Stays.eq _) (stays_cons (Stays.eq _) (stays_cons (Stays.eq _) (stays_cons (Stays.eq _) (stays_cons (Stays.eq _) (stays_cons (Stays.eq _) (stays_cons (Stays.eq _) (stays_cons (Stays.eq _) (stays_cons (Stays.eq _) (stays_cons (Stays.eq _) (stays_cons ((show Stays (fun v x => ∃ c, x = .slice (some ⟨c, 0, none⟩) 1 1 ∧ Box v c [.int .i64 z, .int .i64 (z + 9), .int .i64 wl, .int .i64 wh]) from fun v v' x g ⟨c, h, hb⟩ => ⟨c, h, hb.keep g⟩)) stays_nil)))))))))))))))))))) ?step13 ?fin13
            case step13 =>
              rintro i hi x v gv hd K hK
              have hi8 : i = 0 ∨ i = 1 ∨ i = 2 ∨ i = 3 ∨ i = 4 ∨ i = 5 ∨ i = 6 ∨ i = 7 ∨ i = 8 ∨ i = 9 ∨ i = 10 ∨ i = 11 ∨ i = 12 ∨ i = 13 ∨ i = 14 ∨ i = 15 ∨ i = 16 ∨ i = 17 ∨ i = 18 ∨ i = 19 := by omega
              rcases hi8 with rfl | rfl | rfl | rfl | rfl | rfl | rfl | rfl | rfl | rfl | rfl | rfl | rfl | rfl | rfl | rfl | rfl | rfl | rfl | rfl
              · show wpOp Try.prog _ _ 0 K (⟨#[_, _, _, _, _, _, _, _, _, _, _, _, _, _, _, _, _, _, _, _, _, _, _, _, _, _, _, _, _, _, _, _, _, _, _, _, _, _, _, _, _, _, _, _, _, _, _, _, _, _, _, _, _, _, _, _, _, _, _, _, _, _, _, _, _, _, _, _, _, _, _, _, _, _, _, _, _, _, _, _, _, _, _, _, _, _, _, _, _, _, _, _, _, _, _, _, _, _, x 0, x 1, x 2, x 3, x 4, x 5, x 6, x 7, x 8, x 9, x 10, x 11, x 12, x 13, x 14, x 15, x 16, x 17, x 18, x 19, _, _, _, _, _, _, _, _, _, _, _, _, _, _, _, _, _, _, _, _, _, _, _, _, _, _, _, _, _, _, _, _, _, _, _, _, _, _, _, _, _, _, _, _, _, _, _, _, _, _, _, _, _, _, _, _, _, _, _, _, _, _, _, _, _, _, _, _, _, _, _, _, _, _, _, _, _, _, _, _, _, _, _, _, _, _, _, _, _, _, _, _, _, _, _, _, _, _, _, _, _, _, _, _, _, _, _, _, _, _, _, _, _, _, _, _, _, _, _, _, _, _, _, _, _, _, _, _, _, _, _, _, _, _, _, _, _, _, _, _, _, _, _, _, _, _, _, _, _, _, _, _, _, _, _, _, _, _, _, _, _, _, _, _, _, _, _, _, _, _, _, _, _, _, _, _, _, _, _, _, _, _, _, _, _, _, _, _, _, _, _, _, _, _, _, _, _, _, _], []⟩ : Act) v
                refine wpOp_step rfl (fun K' hK' => ?_)
                go_simp
                exact hK' _ _ (hK _ _ (Below.refl _ _) (at_of rfl (rfl)))
              · show wpOp Try.prog _ _ 1 K (⟨#[_, _, _, _, _, _, _, _, _, _, _, _, _, _, _, _, _, _, _, _, _, _, _, _, _, _, _, _, _, _, _, _, _, _, _, _, _, _, _, _, _, _, _, _, _, _, _, _, _, _, _, _, _, _, _, _, _, _, _, _, _, _, _, _, _, _, _, _, _, _, _, _, _, _, _, _, _, _, _, _, _, _, _, _, _, _, _, _, _, _, _, _, _, _, _, _, _, _, x 0, x 1, x 2, x 3, x 4, x 5, x 6, x 7, x 8, x 9, x 10, x 11, x 12, x 13, x 14, x 15, x 16, x 17, x 18, x 19, _, _, _, _, _, _, _, _, _, _, _, _, _, _, _, _, _, _, _, _, _, _, _, _, _, _, _, _, _, _, _, _, _, _, _, _, _, _, _, _, _, _, _, _, _, _, _, _, _, _, _, _, _, _, _, _, _, _, _, _, _, _, _, _, _, _, _, _, _, _, _, _, _, _, _, _, _, _, _, _, _, _, _, _, _, _, _, _, _, _, _, _, _, _, _, _, _, _, _, _, _, _, _, _, _, _, _, _, _, _, _, _, _, _, _, _, _, _, _, _, _, _, _, _, _, _, _, _, _, _, _, _, _, _, _, _, _, _, _, _, _, _, _, _, _, _, _, _, _, _, _, _, _, _, _, _, _, _, _, _, _, _, _, _, _, _, _, _, _, _, _, _, _, _, _, _, _, _, _, _, _, _, _, _, _, _, _, _, _, _, _, _, _, _, _, _, _, _, _], []⟩ : Act) v
                refine wpOp_step rfl (fun K' hK' => ?_)
                go_simp
                exact hK' _ _ (hK _ _ (Below.refl _ _) (at_of rfl (rfl)))
              · show wpOp Try.prog _ _ 2 K (⟨#[_, _, _, _, _, _, _, _, _, _, _, _, _, _, _, _, _, _, _, _, _, _, _, _, _, _, _, _, _, _, _, _, _, _, _, _, _, _, _, _, _, _, _, _, _, _, _, _, _, _, _, _, _, _, _, _, _, _, _, _, _, _, _, _, _, _, _, _, _, _, _, _, _, _, _, _, _, _, _, _, _, _, _, _, _, _, _, _, _, _, _, _, _, _, _, _, _, _, x 0, x 1, x 2, x 3, x 4, x 5, x 6, x 7, x 8, x 9, x 10, x 11, x 12, x 13, x 14, x 15, x 16, x 17, x 18, x 19, _, _, _, _, _, _, _, _, _, _, _, _, _, _, _, _, _, _, _, _, _, _, _, _, _, _, _, _, _, _, _, _, _, _, _, _, _, _, _, _, _, _, _, _, _, _, _, _, _, _, _, _, _, _, _, _, _, _, _, _, _, _, _, _, _, _, _, _, _, _, _, _, _, _, _, _, _, _, _, _, _, _, _, _, _, _, _, _, _, _, _, _, _, _, _, _, _, _, _, _, _, _, _, _, _, _, _, _, _, _, _, _, _, _, _, _, _, _, _, _, _, _, _, _, _, _, _, _, _, _, _, _, _, _, _, _, _, _, _, _, _, _, _, _, _, _, _, _, _, _, _, _, _, _, _, _, _, _, _, _, _, _, _, _, _, _, _, _, _, _, _, _, _, _, _, _, _, _, _, _, _, _, _, _, _, _, _, _, _, _, _, _, _, _, _, _, _, _, _], []⟩ : Act) v
                refine wpOp_step rfl (fun K' hK' => ?_)
                go_simp
                exact hK' _ _ (hK _ _ (Below.refl _ _) (at_of rfl (rfl)))
              · obtain ⟨x, rfl⟩ := upd_of (show x 2 = .int .i64 (k : Int) from hd 2 _ (by simp) rfl)
                show wpOp Try.prog _ _ 3 K (⟨#[_, _, _, _, _, _, _, _, _, _, _, _, _, _, _, _, _, _, _, _, _, _, _, _, _, _, _, _, _, _, _, _, _, _, _, _, _, _, _, _, _, _, _, _, _, _, _, _, _, _, _, _, _, _, _, _, _, _, _, _, _, _, _, _, _, _, _, _, _, _, _, _, _, _, _, _, _, _, _, _, _, _, _, _, _, _, _, _, _, _, _, _, _, _, _, _, _, _, x 0, x 1, .int .i64 (k : Int), x 3, x 4, x 5, x 6, x 7, x 8, x 9, x 10, x 11, x 12, x 13, x 14, x 15, x 16, x 17, x 18, x 19, _, _, _, _, _, _, _, _, _, _, _, _, _, _, _, _, _, _, _, _, _, _, _, _, _, _, _, _, _, _, _, _, _, _, _, _, _, _, _, _, _, _, _, _, _, _, _, _, _, _, _, _, _, _, _, _, _, _, _, _, _, _, _, _, _, _, _, _, _, _, _, _, _, _, _, _, _, _, _, _, _, _, _, _, _, _, _, _, _, _, _, _, _, _, _, _, _, _, _, _, _, _, _, _, _, _, _, _, _, _, _, _, _, _, _, _, _, _, _, _, _, _, _, _, _, _, _, _, _, _, _, _, _, _, _, _, _, _, _, _, _, _, _, _, _, _, _, _, _, _, _, _, _, _, _, _, _, _, _, _, _, _, _, _, _, _, _, _, _, _, _, _, _, _, _, _, _, _, _, _, _, _, _, _, _, _, _, _, _, _, _, _, _, _, _, _, _, _, _], []⟩ : Act) v
                refine wpOp_step rfl (fun K' hK' => ?_)
                go_simp
                exact hK' _ _ (hK _ _ (Below.refl _ _) (at_of rfl (rfl)))
              · obtain ⟨x, rfl⟩ := upd_of (show x 3 = .pointer (some ⟨N0 + 1, k, none⟩) from hd 3 _ (by simp) rfl)
                show wpOp Try.prog _ _ 4 K (⟨#[_, _, _, _, _, _, _, _, _, _, _, _, _, _, _, _, _, _, _, _, _, _, _, _, _, _, _, _, _, _, _, _, _, _, _, _, _, _, _, _, _, _, _, _, _, _, _, _, _, _, _, _, _, _, _, _, _, _, _, _, _, _, _, _, _, _, _, _, _, _, _, _, _, _, _, _, _, _, _, _, _, _, _, _, _, _, _, _, _, _, _, _, _, _, _, _, _, _, x 0, x 1, x 2, .pointer (some ⟨N0 + 1, k, none⟩), x 4, x 5, x 6, x 7, x 8, x 9, x 10, x 11, x 12, x 13, x 14, x 15, x 16, x 17, x 18, x 19, _, _, _, _, _, _, _, _, _, _, _, _, _, _, _, _, _, _, _, _, _, _, _, _, _, _, _, _, _, _, _, _, _, _, _, _, _, _, _, _, _, _, _, _, _, _, _, _, _, _, _, _, _, _, _, _, _, _, _, _, _, _, _, _, _, _, _, _, _, _, _, _, _, _, _, _, _, _, _, _, _, _, _, _, _, _, _, _, _, _, _, _, _, _, _, _, _, _, _, _, _, _, _, _, _, _, _, _, _, _, _, _, _, _, _, _, _, _, _, _, _, _, _, _, _, _, _, _, _, _, _, _, _, _, _, _, _, _, _, _, _, _, _, _, _, _, _, _, _, _, _, _, _, _, _, _, _, _, _, _, _, _, _, _, _, _, _, _, _, _, _, _, _, _, _, _, _, _, _, _, _, _, _, _, _, _, _, _, _, _, _, _, _, _, _, _, _, _, _], []⟩ : Act) v
                have qq := gv.keep cm
                refine wpOp_step rfl (fun K' hK' => ?_)
                go_simp
                exact hK' _ _ (hK _ _ (Below.refl _ _) (at_of rfl (rfl)))
              · obtain ⟨x, rfl⟩ := upd_of (show x 4 = .int .u8 m from hd 4 _ (by simp) rfl)
                show wpOp Try.prog _ _ 5 K (⟨#[_, _, _, _, _, _, _, _, _, _, _, _, _, _, _, _, _, _, _, _, _, _, _, _, _, _, _, _, _, _, _, _, _, _, _, _, _, _, _, _, _, _, _, _, _, _, _, _, _, _, _, _, _, _, _, _, _, _, _, _, _, _, _, _, _, _, _, _, _, _, _, _, _, _, _, _, _, _, _, _, _, _, _, _, _, _, _, _, _, _, _, _, _, _, _, _, _, _, x 0, x 1, x 2, x 3, .int .u8 m, x 5, x 6, x 7, x 8, x 9, x 10, x 11, x 12, x 13, x 14, x 15, x 16, x 17, x 18, x 19, _, _, _, _, _, _, _, _, _, _, _, _, _, _, _, _, _, _, _, _, _, _, _, _, _, _, _, _, _, _, _, _, _, _, _, _, _, _, _, _, _, _, _, _, _, _, _, _, _, _, _, _, _, _, _, _, _, _, _, _, _, _, _, _, _, _, _, _, _, _, _, _, _, _, _, _, _, _, _, _, _, _, _, _, _, _, _, _, _, _, _, _, _, _, _, _, _, _, _, _, _, _, _, _, _, _, _, _, _, _, _, _, _, _, _, _, _, _, _, _, _, _, _, _, _, _, _, _, _, _, _, _, _, _, _, _, _, _, _, _, _, _, _, _, _, _, _, _, _, _, _, _, _, _, _, _, _, _, _, _, _, _, _, _, _, _, _, _, _, _, _, _, _, _, _, _, _, _, _, _, _, _, _, _, _, _, _, _, _, _, _, _, _, _, _, _, _, _, _], []⟩ : Act) v
                refine wpOp_step rfl (fun K' hK' => ?_)
                go_simp
                exact hK' _ _ (hK _ _ (Below.refl _ _) (at_of rfl (rfl)))
              · obtain ⟨x, rfl⟩ := upd_of (show x 1 = .int .i64 ed from hd 1 _ (by simp) rfl)
                obtain ⟨x, rfl⟩ := upd_of (show x 5 = .int .i64 m from hd 5 _ (by simp) rfl)
                show wpOp Try.prog _ _ 6 K (⟨#[_, _, _, _, _, _, _, _, _, _, _, _, _, _, _, _, _, _, _, _, _, _, _, _, _, _, _, _, _, _, _, _, _, _, _, _, _, _, _, _, _, _, _, _, _, _, _, _, _, _, _, _, _, _, _, _, _, _, _, _, _, _, _, _, _, _, _, _, _, _, _, _, _, _, _, _, _, _, _, _, _, _, _, _, _, _, _, _, _, _, _, _, _, _, _, _, _, _, x 0, .int .i64 ed, x 2, x 3, x 4, .int .i64 m, x 6, x 7, x 8, x 9, x 10, x 11, x 12, x 13, x 14, x 15, x 16, x 17, x 18, x 19, _, _, _, _, _, _, _, _, _, _, _, _, _, _, _, _, _, _, _, _, _, _, _, _, _, _, _, _, _, _, _, _, _, _, _, _, _, _, _, _, _, _, _, _, _, _, _, _, _, _, _, _, _, _, _, _, _, _, _, _, _, _, _, _, _, _, _, _, _, _, _, _, _, _, _, _, _, _, _, _, _, _, _, _, _, _, _, _, _, _, _, _, _, _, _, _, _, _, _, _, _, _, _, _, _, _, _, _, _, _, _, _, _, _, _, _, _, _, _, _, _, _, _, _, _, _, _, _, _, _, _, _, _, _, _, _, _, _, _, _, _, _, _, _, _, _, _, _, _, _, _, _, _, _, _, _, _, _, _, _, _, _, _, _, _, _, _, _, _, _, _, _, _, _, _, _, _, _, _, _, _, _, _, _, _, _, _, _, _, _, _, _, _, _, _, _, _, _, _], []⟩ : Act) v
                refine wpOp_step rfl (fun K' hK' => ?_)
                go_simp
                exact hK' _ _ (hK _ _ (Below.refl _ _) (at_of rfl (rfl)))
              · obtain ⟨x, rfl⟩ := upd_of (show x 6 = .int .i64 (ed * m) from hd 6 _ (by simp) rfl)
                show wpOp Try.prog _ _ 7 K (⟨#[_, _, _, _, _, _, _, _, _, _, _, _, _, _, _, _, _, _, _, _, _, _, _, _, _, _, _, _, _, _, _, _, _, _, _, _, _, _, _, _, _, _, _, _, _, _, _, _, _, _, _, _, _, _, _, _, _, _, _, _, _, _, _, _, _, _, _, _, _, _, _, _, _, _, _, _, _, _, _, _, _, _, _, _, _, _, _, _, _, _, _, _, _, _, _, _, _, _, x 0, x 1, x 2, x 3, x 4, x 5, .int .i64 (ed * m), x 7, x 8, x 9, x 10, x 11, x 12, x 13, x 14, x 15, x 16, x 17, x 18, x 19, _, _, _, _, _, _, _, _, _, _, _, _, _, _, _, _, _, _, _, _, _, _, _, _, _, _, _, _, _, _, _, _, _, _, _, _, _, _, _, _, _, _, _, _, _, _, _, _, _, _, _, _, _, _, _, _, _, _, _, _, _, _, _, _, _, _, _, _, _, _, _, _, _, _, _, _, _, _, _, _, _, _, _, _, _, _, _, _, _, _, _, _, _, _, _, _, _, _, _, _, _, _, _, _, _, _, _, _, _, _, _, _, _, _, _, _, _, _, _, _, _, _, _, _, _, _, _, _, _, _, _, _, _, _, _, _, _, _, _, _, _, _, _, _, _, _, _, _, _, _, _, _, _, _, _, _, _, _, _, _, _, _, _, _, _, _, _, _, _, _, _, _, _, _, _, _, _, _, _, _, _, _, _, _, _, _, _, _, _, _, _, _, _, _, _, _, _, _, _], []⟩ : Act) v
                refine wpOp_step rfl (fun K' hK' => ?_)
                go_simp
                exact hK' _ _ (hK _ _ (Below.refl _ _) (at_of rfl (rfl)))
              · show wpOp Try.prog _ _ 8 K (⟨#[_, _, _, _, _, _, _, _, _, _, _, _, _, _, _, _, _, _, _, _, _, _, _, _, _, _, _, _, _, _, _, _, _, _, _, _, _, _, _, _, _, _, _, _, _, _, _, _, _, _, _, _, _, _, _, _, _, _, _, _, _, _, _, _, _, _, _, _, _, _, _, _, _, _, _, _, _, _, _, _, _, _, _, _, _, _, _, _, _, _, _, _, _, _, _, _, _, _, x 0, x 1, x 2, x 3, x 4, x 5, x 6, x 7, x 8, x 9, x 10, x 11, x 12, x 13, x 14, x 15, x 16, x 17, x 18, x 19, _, _, _, _, _, _, _, _, _, _, _, _, _, _, _, _, _, _, _, _, _, _, _, _, _, _, _, _, _, _, _, _, _, _, _, _, _, _, _, _, _, _, _, _, _, _, _, _, _, _, _, _, _, _, _, _, _, _, _, _, _, _, _, _, _, _, _, _, _, _, _, _, _, _, _, _, _, _, _, _, _, _, _, _, _, _, _, _, _, _, _, _, _, _, _, _, _, _, _, _, _, _, _, _, _, _, _, _, _, _, _, _, _, _, _, _, _, _, _, _, _, _, _, _, _, _, _, _, _, _, _, _, _, _, _, _, _, _, _, _, _, _, _, _, _, _, _, _, _, _, _, _, _, _, _, _, _, _, _, _, _, _, _, _, _, _, _, _, _, _, _, _, _, _, _, _, _, _, _, _, _, _, _, _, _, _, _, _, _, _, _, _, _, _, _, _, _, _, _], []⟩ : Act) v
                refine wpOp_step rfl (fun K' hK' => ?_)
                go_simp
                exact hK' _ _ (hK _ _ (Below.refl _ _) (at_of rfl (rfl)))
              · show wpOp Try.prog _ _ 9 K (⟨#[_, _, _, _, _, _, _, _, _, _, _, _, _, _, _, _, _, _, _, _, _, _, _, _, _, _, _, _, _, _, _, _, _, _, _, _, _, _, _, _, _, _, _, _, _, _, _, _, _, _, _, _, _, _, _, _, _, _, _, _, _, _, _, _, _, _, _, _, _, _, _, _, _, _, _, _, _, _, _, _, _, _, _, _, _, _, _, _, _, _, _, _, _, _, _, _, _, _, x 0, x 1, x 2, x 3, x 4, x 5, x 6, x 7, x 8, x 9, x 10, x 11, x 12, x 13, x 14, x 15, x 16, x 17, x 18, x 19, _, _, _, _, _, _, _, _, _, _, _, _, _, _, _, _, _, _, _, _, _, _, _, _, _, _, _, _, _, _, _, _, _, _, _, _, _, _, _, _, _, _, _, _, _, _, _, _, _, _, _, _, _, _, _, _, _, _, _, _, _, _, _, _, _, _, _, _, _, _, _, _, _, _, _, _, _, _, _, _, _, _, _, _, _, _, _, _, _, _, _, _, _, _, _, _, _, _, _, _, _, _, _, _, _, _, _, _, _, _, _, _, _, _, _, _, _, _, _, _, _, _, _, _, _, _, _, _, _, _, _, _, _, _, _, _, _, _, _, _, _, _, _, _, _, _, _, _, _, _, _, _, _, _, _, _, _, _, _, _, _, _, _, _, _, _, _, _, _, _, _, _, _, _, _, _, _, _, _, _, _, _, _, _, _, _, _, _, _, _, _, _, _, _, _, _, _, _, _], []⟩ : Act) v
                refine wpOp_step rfl (fun K' hK' => ?_)
                go_simp
                exact hK' _ _ (hK _ _ (Below.refl _ _) (at_of rfl (rfl)))
              · obtain ⟨x, rfl⟩ := upd_of (show x 9 = .int .i64 (k : Int) from hd 9 _ (by simp) rfl)
                show wpOp Try.prog _ _ 10 K (⟨#[_, _, _, _, _, _, _, _, _, _, _, _, _, _, _, _, _, _, _, _, _, _, _, _, _, _, _, _, _, _, _, _, _, _, _, _, _, _, _, _, _, _, _, _, _, _, _, _, _, _, _, _, _, _, _, _, _, _, _, _, _, _, _, _, _, _, _, _, _, _, _, _, _, _, _, _, _, _, _, _, _, _, _, _, _, _, _, _, _, _, _, _, _, _, _, _, _, _, x 0, x 1, x 2, x 3, x 4, x 5, x 6, x 7, x 8, .int .i64 (k : Int), x 10, x 11, x 12, x 13, x 14, x 15, x 16, x 17, x 18, x 19, _, _, _, _, _, _, _, _, _, _, _, _, _, _, _, _, _, _, _, _, _, _, _, _, _, _, _, _, _, _, _, _, _, _, _, _, _, _, _, _, _, _, _, _, _, _, _, _, _, _, _, _, _, _, _, _, _, _, _, _, _, _, _, _, _, _, _, _, _, _, _, _, _, _, _, _, _, _, _, _, _, _, _, _, _, _, _, _, _, _, _, _, _, _, _, _, _, _, _, _, _, _, _, _, _, _, _, _, _, _, _, _, _, _, _, _, _, _, _, _, _, _, _, _, _, _, _, _, _, _, _, _, _, _, _, _, _, _, _, _, _, _, _, _, _, _, _, _, _, _, _, _, _, _, _, _, _, _, _, _, _, _, _, _, _, _, _, _, _, _, _, _, _, _, _, _, _, _, _, _, _, _, _, _, _, _, _, _, _, _, _, _, _, _, _, _, _, _, _], []⟩ : Act) v
                refine wpOp_step rfl (fun K' hK' => ?_)
                go_simp
                exact hK' _ _ (hK _ _ (Below.refl _ _) (at_of rfl (rfl)))
              · obtain ⟨x, rfl⟩ := upd_of (show x 10 = .pointer (some ⟨N0 + 1, k, none⟩) from hd 10 _ (by simp) rfl)
                show wpOp Try.prog _ _ 11 K (⟨#[_, _, _, _, _, _, _, _, _, _, _, _, _, _, _, _, _, _, _, _, _, _, _, _, _, _, _, _, _, _, _, _, _, _, _, _, _, _, _, _, _, _, _, _, _, _, _, _, _, _, _, _, _, _, _, _, _, _, _, _, _, _, _, _, _, _, _, _, _, _, _, _, _, _, _, _, _, _, _, _, _, _, _, _, _, _, _, _, _, _, _, _, _, _, _, _, _, _, x 0, x 1, x 2, x 3, x 4, x 5, x 6, x 7, x 8, x 9, .pointer (some ⟨N0 + 1, k, none⟩), x 11, x 12, x 13, x 14, x 15, x 16, x 17, x 18, x 19, _, _, _, _, _, _, _, _, _, _, _, _, _, _, _, _, _, _, _, _, _, _, _, _, _, _, _, _, _, _, _, _, _, _, _, _, _, _, _, _, _, _, _, _, _, _, _, _, _, _, _, _, _, _, _, _, _, _, _, _, _, _, _, _, _, _, _, _, _, _, _, _, _, _, _, _, _, _, _, _, _, _, _, _, _, _, _, _, _, _, _, _, _, _, _, _, _, _, _, _, _, _, _, _, _, _, _, _, _, _, _, _, _, _, _, _, _, _, _, _, _, _, _, _, _, _, _, _, _, _, _, _, _, _, _, _, _, _, _, _, _, _, _, _, _, _, _, _, _, _, _, _, _, _, _, _, _, _, _, _, _, _, _, _, _, _, _, _, _, _, _, _, _, _, _, _, _, _, _, _, _, _, _, _, _, _, _, _, _, _, _, _, _, _, _, _, _, _, _], []⟩ : Act) v
                have qq := gv.keep cm
                refine wpOp_step rfl (fun K' hK' => ?_)
                go_simp
                exact hK' _ _ (hK _ _ (Below.refl _ _) (at_of rfl (rfl)))
              · obtain ⟨x, rfl⟩ := upd_of (show x 11 = .int .u8 m from hd 11 _ (by simp) rfl)
                show wpOp Try.prog _ _ 12 K (⟨#[_, _, _, _, _, _, _, _, _, _, _, _, _, _, _, _, _, _, _, _, _, _, _, _, _, _, _, _, _, _, _, _, _, _, _, _, _, _, _, _, _, _, _, _, _, _, _, _, _, _, _, _, _, _, _, _, _, _, _, _, _, _, _, _, _, _, _, _, _, _, _, _, _, _, _, _, _, _, _, _, _, _, _, _, _, _, _, _, _, _, _, _, _, _, _, _, _, _, x 0, x 1, x 2, x 3, x 4, x 5, x 6, x 7, x 8, x 9, x 10, .int .u8 m, x 12, x 13, x 14, x 15, x 16, x 17, x 18, x 19, _, _, _, _, _, _, _, _, _, _, _, _, _, _, _, _, _, _, _, _, _, _, _, _, _, _, _, _, _, _, _, _, _, _, _, _, _, _, _, _, _, _, _, _, _, _, _, _, _, _, _, _, _, _, _, _, _, _, _, _, _, _, _, _, _, _, _, _, _, _, _, _, _, _, _, _, _, _, _, _, _, _, _, _, _, _, _, _, _, _, _, _, _, _, _, _, _, _, _, _, _, _, _, _, _, _, _, _, _, _, _, _, _, _, _, _, _, _, _, _, _, _, _, _, _, _, _, _, _, _, _, _, _, _, _, _, _, _, _, _, _, _, _, _, _, _, _, _, _, _, _, _, _, _, _, _, _, _, _, _, _, _, _, _, _, _, _, _, _, _, _, _, _, _, _, _, _, _, _, _, _, _, _, _, _, _, _, _, _, _, _, _, _, _, _, _, _, _, _], []⟩ : Act) v
                refine wpOp_step rfl (fun K' hK' => ?_)
                go_simp
                exact hK' _ _ (hK _ _ (Below.refl _ _) (at_of rfl (rfl)))
              · obtain ⟨x, rfl⟩ := upd_of (show x 8 = .int .i64 ed from hd 8 _ (by simp) rfl)
                obtain ⟨x, rfl⟩ := upd_of (show x 12 = .int .i64 m from hd 12 _ (by simp) rfl)
                show wpOp Try.prog _ _ 13 K (⟨#[_, _, _, _, _, _, _, _, _, _, _, _, _, _, _, _, _, _, _, _, _, _, _, _, _, _, _, _, _, _, _, _, _, _, _, _, _, _, _, _, _, _, _, _, _, _, _, _, _, _, _, _, _, _, _, _, _, _, _, _, _, _, _, _, _, _, _, _, _, _, _, _, _, _, _, _, _, _, _, _, _, _, _, _, _, _, _, _, _, _, _, _, _, _, _, _, _, _, x 0, x 1, x 2, x 3, x 4, x 5, x 6, x 7, .int .i64 ed, x 9, x 10, x 11, .int .i64 m, x 13, x 14, x 15, x 16, x 17, x 18, x 19, _, _, _, _, _, _, _, _, _, _, _, _, _, _, _, _, _, _, _, _, _, _, _, _, _, _, _, _, _, _, _, _, _, _, _, _, _, _, _, _, _, _, _, _, _, _, _, _, _, _, _, _, _, _, _, _, _, _, _, _, _, _, _, _, _, _, _, _, _, _, _, _, _, _, _, _, _, _, _, _, _, _, _, _, _, _, _, _, _, _, _, _, _, _, _, _, _, _, _, _, _, _, _, _, _, _, _, _, _, _, _, _, _, _, _, _, _, _, _, _, _, _, _, _, _, _, _, _, _, _, _, _, _, _, _, _, _, _, _, _, _, _, _, _, _, _, _, _, _, _, _, _, _, _, _, _, _, _, _, _, _, _, _, _, _, _, _, _, _, _, _, _, _, _, _, _, _, _, _, _, _, _, _, _, _, _, _, _, _, _, _, _, _, _, _, _, _, _, _], []⟩ : Act) v
                refine wpOp_step rfl (fun K' hK' => ?_)
                go_simp
                exact hK' _ _ (hK _ _ (Below.refl _ _) (at_of rfl (rfl)))
              · obtain ⟨x, rfl⟩ := upd_of (show x 13 = .int .i64 (ed * m) from hd 13 _ (by simp) rfl)
                show wpOp Try.prog _ _ 14 K (⟨#[_, _, _, _, _, _, _, _, _, _, _, _, _, _, _, _, _, _, _, _, _, _, _, _, _, _, _, _, _, _, _, _, _, _, _, _, _, _, _, _, _, _, _, _, _, _, _, _, _, _, _, _, _, _, _, _, _, _, _, _, _, _, _, _, _, _, _, _, _, _, _, _, _, _, _, _, _, _, _, _, _, _, _, _, _, _, _, _, _, _, _, _, _, _, _, _, _, _, x 0, x 1, x 2, x 3, x 4, x 5, x 6, x 7, x 8, x 9, x 10, x 11, x 12, .int .i64 (ed * m), x 14, x 15, x 16, x 17, x 18, x 19, _, _, _, _, _, _, _, _, _, _, _, _, _, _, _, _, _, _, _, _, _, _, _, _, _, _, _, _, _, _, _, _, _, _, _, _, _, _, _, _, _, _, _, _, _, _, _, _, _, _, _, _, _, _, _, _, _, _, _, _, _, _, _, _, _, _, _, _, _, _, _, _, _, _, _, _, _, _, _, _, _, _, _, _, _, _, _, _, _, _, _, _, _, _, _, _, _, _, _, _, _, _, _, _, _, _, _, _, _, _, _, _, _, _, _, _, _, _, _, _, _, _, _, _, _, _, _, _, _, _, _, _, _, _, _, _, _, _, _, _, _, _, _, _, _, _, _, _, _, _, _, _, _, _, _, _, _, _, _, _, _, _, _, _, _, _, _, _, _, _, _, _, _, _, _, _, _, _, _, _, _, _, _, _, _, _, _, _, _, _, _, _, _, _, _, _, _, _, _], []⟩ : Act) v
                refine wpOp_step rfl (fun K' hK' => ?_)
                go_simp
                exact hK' _ _ (hK _ _ (Below.refl _ _) (at_of rfl (rfl)))
              · obtain ⟨x, rfl⟩ := upd_of (show x 14 = .int .i64 z from hd 14 _ (by simp) rfl)
                show wpOp Try.prog _ _ 15 K (⟨#[_, _, _, _, _, _, _, _, _, _, _, _, _, _, _, _, _, _, _, _, _, _, _, _, _, _, _, _, _, _, _, _, _, _, _, _, _, _, _, _, _, _, _, _, _, _, _, _, _, _, _, _, _, _, _, _, _, _, _, _, _, _, _, _, _, _, _, _, _, _, _, _, _, _, _, _, _, _, _, _, _, _, _, _, _, _, _, _, _, _, _, _, _, _, _, _, _, _, x 0, x 1, x 2, x 3, x 4, x 5, x 6, x 7, x 8, x 9, x 10, x 11, x 12, x 13, .int .i64 z, x 15, x 16, x 17, x 18, x 19, _, _, _, _, _, _, _, _, _, _, _, _, _, _, _, _, _, _, _, _, _, _, _, _, _, _, _, _, _, _, _, _, _, _, _, _, _, _, _, _, _, _, _, _, _, _, _, _, _, _, _, _, _, _, _, _, _, _, _, _, _, _, _, _, _, _, _, _, _, _, _, _, _, _, _, _, _, _, _, _, _, _, _, _, _, _, _, _, _, _, _, _, _, _, _, _, _, _, _, _, _, _, _, _, _, _, _, _, _, _, _, _, _, _, _, _, _, _, _, _, _, _, _, _, _, _, _, _, _, _, _, _, _, _, _, _, _, _, _, _, _, _, _, _, _, _, _, _, _, _, _, _, _, _, _, _, _, _, _, _, _, _, _, _, _, _, _, _, _, _, _, _, _, _, _, _, _, _, _, _, _, _, _, _, _, _, _, _, _, _, _, _, _, _, _, _, _, _, _], []⟩ : Act) v
                refine wpOp_step rfl (fun K' hK' => ?_)
                go_simp
                exact hK' _ _ (hK _ _ (Below.refl _ _) (at_of rfl (rfl)))
              · obtain ⟨x, rfl⟩ := upd_of (show x 7 = .int .i64 z from hd 7 _ (by simp) rfl)
                obtain ⟨x, rfl⟩ := upd_of (show x 15 = .int .i64 (z + 9) from hd 15 _ (by simp) rfl)
                show wpOp Try.prog _ _ 16 K (⟨#[_, _, _, _, _, _, _, _, _, _, _, _, _, _, _, _, _, _, _, _, _, _, _, _, _, _, _, _, _, _, _, _, _, _, _, _, _, _, _, _, _, _, _, _, _, _, _, _, _, _, _, _, _, _, _, _, _, _, _, _, _, _, _, _, _, _, _, _, _, _, _, _, _, _, _, _, _, _, _, _, _, _, _, _, _, _, _, _, _, _, _, _, _, _, _, _, _, _, x 0, x 1, x 2, x 3, x 4, x 5, x 6, .int .i64 z, x 8, x 9, x 10, x 11, x 12, x 13, x 14, .int .i64 (z + 9), x 16, x 17, x 18, x 19, _, _, _, _, _, _, _, _, _, _, _, _, _, _, _, _, _, _, _, _, _, _, _, _, _, _, _, _, _, _, _, _, _, _, _, _, _, _, _, _, _, _, _, _, _, _, _, _, _, _, _, _, _, _, _, _, _, _, _, _, _, _, _, _, _, _, _, _, _, _, _, _, _, _, _, _, _, _, _, _, _, _, _, _, _, _, _, _, _, _, _, _, _, _, _, _, _, _, _, _, _, _, _, _, _, _, _, _, _, _, _, _, _, _, _, _, _, _, _, _, _, _, _, _, _, _, _, _, _, _, _, _, _, _, _, _, _, _, _, _, _, _, _, _, _, _, _, _, _, _, _, _, _, _, _, _, _, _, _, _, _, _, _, _, _, _, _, _, _, _, _, _, _, _, _, _, _, _, _, _, _, _, _, _, _, _, _, _, _, _, _, _, _, _, _, _, _, _, _], []⟩ : Act) v
                refine wpOp_step rfl (fun K' hK' => ?_)
                go_simp
                refine (armSpan_anyT z (z + 9) v).mono ?_
                rintro e v' ⟨rfl, hg⟩
                exact hK' _ _ (hK _ _ hg (at_of rfl (rfl)))
              · show wpOp Try.prog _ _ 17 K (⟨#[_, _, _, _, _, _, _, _, _, _, _, _, _, _, _, _, _, _, _, _, _, _, _, _, _, _, _, _, _, _, _, _, _, _, _, _, _, _, _, _, _, _, _, _, _, _, _, _, _, _, _, _, _, _, _, _, _, _, _, _, _, _, _, _, _, _, _, _, _, _, _, _, _, _, _, _, _, _, _, _, _, _, _, _, _, _, _, _, _, _, _, _, _, _, _, _, _, _, x 0, x 1, x 2, x 3, x 4, x 5, x 6, x 7, x 8, x 9, x 10, x 11, x 12, x 13, x 14, x 15, x 16, x 17, x 18, x 19, _, _, _, _, _, _, _, _, _, _, _, _, _, _, _, _, _, _, _, _, _, _, _, _, _, _, _, _, _, _, _, _, _, _, _, _, _, _, _, _, _, _, _, _, _, _, _, _, _, _, _, _, _, _, _, _, _, _, _, _, _, _, _, _, _, _, _, _, _, _, _, _, _, _, _, _, _, _, _, _, _, _, _, _, _, _, _, _, _, _, _, _, _, _, _, _, _, _, _, _, _, _, _, _, _, _, _, _, _, _, _, _, _, _, _, _, _, _, _, _, _, _, _, _, _, _, _, _, _, _, _, _, _, _, _, _, _, _, _, _, _, _, _, _, _, _, _, _, _, _, _, _, _, _, _, _, _, _, _, _, _, _, _, _, _, _, _, _, _, _, _, _, _, _, _, _, _, _, _, _, _, _, _, _, _, _, _, _, _, _, _, _, _, _, _, _, _, _, _], []⟩ : Act) v
                refine wpOp_step rfl (fun K' hK' => ?_)
                rw [if_pos (by rfl)]
                refine wp_load_mid 45 _ rfl bm 0 (by rfl) [.int .i64 wl, .int .i64 wh] _ (fun j u hu => by rw [Nat.zero_add]; exact (hm11.keep gv).2 j u hu) Try.underlying45 rfl (by kernel_rfl) ?_
                exact hK' _ _ (hK _ _ (Below.refl _ _) (at_of rfl (rfl)))
              · obtain ⟨x, rfl⟩ := upd_of (show x 16 = .agg #[.int .i64 z, .int .i64 (z + 9)] from hd 16 _ (by simp) rfl)
                obtain ⟨x, rfl⟩ := upd_of (show x 17 = .agg #[.int .i64 wl, .int .i64 wh] from hd 17 _ (by simp) rfl)
                show wpOp Try.prog _ _ 18 K (⟨#[_, _, _, _, _, _, _, _, _, _, _, _, _, _, _, _, _, _, _, _, _, _, _, _, _, _, _, _, _, _, _, _, _, _, _, _, _, _, _, _, _, _, _, _, _, _, _, _, _, _, _, _, _, _, _, _, _, _, _, _, _, _, _, _, _, _, _, _, _, _, _, _, _, _, _, _, _, _, _, _, _, _, _, _, _, _, _, _, _, _, _, _, _, _, _, _, _, _, x 0, x 1, x 2, x 3, x 4, x 5, x 6, x 7, x 8, x 9, x 10, x 11, x 12, x 13, x 14, x 15, .agg #[.int .i64 z, .int .i64 (z + 9)], .agg #[.int .i64 wl, .int .i64 wh], x 18, x 19, _, _, _, _, _, _, _, _, _, _, _, _, _, _, _, _, _, _, _, _, _, _, _, _, _, _, _, _, _, _, _, _, _, _, _, _, _, _, _, _, _, _, _, _, _, _, _, _, _, _, _, _, _, _, _, _, _, _, _, _, _, _, _, _, _, _, _, _, _, _, _, _, _, _, _, _, _, _, _, _, _, _, _, _, _, _, _, _, _, _, _, _, _, _, _, _, _, _, _, _, _, _, _, _, _, _, _, _, _, _, _, _, _, _, _, _, _, _, _, _, _, _, _, _, _, _, _, _, _, _, _, _, _, _, _, _, _, _, _, _, _, _, _, _, _, _, _, _, _, _, _, _, _, _, _, _, _, _, _, _, _, _, _, _, _, _, _, _, _, _, _, _, _, _, _, _, _, _, _, _, _, _, _, _, _, _, _, _, _, _, _, _, _, _, _, _, _, _, _], []⟩ : Act) v
                refine wpOp_step rfl (fun K' hK' => ?_)
                go_simp
                exact hK' _ _ (hK _ _ (Below.refl _ _) (at_of rfl (rfl)))
              · obtain ⟨x, rfl⟩ := upd_of (show x 18 = .agg #[.int .i64 z, .int .i64 (z + 9), .int .i64 wl, .int .i64 wh] from hd 18 _ (by simp) rfl)
                show wpOp Try.prog _ _ 19 K (⟨#[_, _, _, _, _, _, _, _, _, _, _, _, _, _, _, _, _, _, _, _, _, _, _, _, _, _, _, _, _, _, _, _, _, _, _, _, _, _, _, _, _, _, _, _, _, _, _, _, _, _, _, _, _, _, _, _, _, _, _, _, _, _, _, _, _, _, _, _, _, _, _, _, _, _, _, _, _, _, _, _, _, _, _, _, _, _, _, _, _, _, _, _, _, _, _, _, _, _, x 0, x 1, x 2, x 3, x 4, x 5, x 6, x 7, x 8, x 9, x 10, x 11, x 12, x 13, x 14, x 15, x 16, x 17, .agg #[.int .i64 z, .int .i64 (z + 9), .int .i64 wl, .int .i64 wh], x 19, _, _, _, _, _, _, _, _, _, _, _, _, _, _, _, _, _, _, _, _, _, _, _, _, _, _, _, _, _, _, _, _, _, _, _, _, _, _, _, _, _, _, _, _, _, _, _, _, _, _, _, _, _, _, _, _, _, _, _, _, _, _, _, _, _, _, _, _, _, _, _, _, _, _, _, _, _, _, _, _, _, _, _, _, _, _, _, _, _, _, _, _, _, _, _, _, _, _, _, _, _, _, _, _, _, _, _, _, _, _, _, _, _, _, _, _, _, _, _, _, _, _, _, _, _, _, _, _, _, _, _, _, _, _, _, _, _, _, _, _, _, _, _, _, _, _, _, _, _, _, _, _, _, _, _, _, _, _, _, _, _, _, _, _, _, _, _, _, _, _, _, _, _, _, _, _, _, _, _, _, _, _, _, _, _, _, _, _, _, _, _, _, _, _, _, _, _, _, _], []⟩ : Act) v
                refine wpOp_step rfl (fun K' hK' => ?_)
                go_simp
                have hg := Gr.al v (.cells (List.toArray [.int .i64 z, .int .i64 (z + 9), .int .i64 wl, .int .i64 wh]) 70)
                exact hK' _ _ (hK _ _ hg (at_of rfl (⟨v.heap.size, rfl, Box.new v [.int .i64 z, .int .i64 (z + 9), .int .i64 wl, .int .i64 wh] 70 v.heap.size rfl⟩)))
            case fin13 =>
              rintro x v gv hd
              obtain ⟨x, rfl⟩ := upd_of (show x 0 = .slice (some ⟨g, 0, none⟩) k cap from hd 0 _ (by omega) rfl)
              obtain ⟨c19, e19, hx19⟩ := hd 19 _ (by omega) rfl
              obtain ⟨x, rfl⟩ := upd_of (show x 19 = .slice (some ⟨c19, 0, none⟩) 1 1 from e19)
              clear hd
              show wpList Try.prog _ _ (List.drop 20 _) (⟨#[_, _, _, _, _, _, _, _, _, _, _, _, _, _, _, _, _, _, _, _, _, _, _, _, _, _, _, _, _, _, _, _, _, _, _, _, _, _, _, _, _, _, _, _, _, _, _, _, _, _, _, _, _, _, _, _, _, _, _, _, _, _, _, _, _, _, _, _, _, _, _, _, _, _, _, _, _, _, _, _, _, _, _, _, _, _, _, _, _, _, _, _, _, _, _, _, _, _, .slice (some ⟨g, 0, none⟩) k cap, x 1, x 2, x 3, x 4, x 5, x 6, x 7, x 8, x 9, x 10, x 11, x 12, x 13, x 14, x 15, x 16, x 17, x 18, .slice (some ⟨c19, 0, none⟩) 1 1, _, _, _, _, _, _, _, _, _, _, _, _, _, _, _, _, _, _, _, _, _, _, _, _, _, _, _, _, _, _, _, _, _, _, _, _, _, _, _, _, _, _, _, _, _, _, _, _, _, _, _, _, _, _, _, _, _, _, _, _, _, _, _, _, _, _, _, _, _, _, _, _, _, _, _, _, _, _, _, _, _, _, _, _, _, _, _, _, _, _, _, _, _, _, _, _, _, _, _, _, _, _, _, _, _, _, _, _, _, _, _, _, _, _, _, _, _, _, _, _, _, _, _, _, _, _, _, _, _, _, _, _, _, _, _, _, _, _, _, _, _, _, _, _, _, _, _, _, _, _, _, _, _, _, _, _, _, _, _, _, _, _, _, _, _, _, _, _, _, _, _, _, _, _, _, _, _, _, _, _, _, _, _, _, _, _, _, _, _, _, _, _, _, _, _, _, _, _, _], []⟩ : Act) v
              simp only [List.drop_succ_cons, List.drop_zero]
              have gY := gX5.tr gv
              have HS9 := HS8.keep gv
              have oLv := owns_keep oL gY
              have o9v := o9.keep gY
              have h9v := o9v.1.1
              have k1 : k + 1 ≤ maxLen := by unfold maxLen; omega
              have k2 : (k + 1) * 32 ≤ 140737488355328 := by omega
              have hE9 : E0 ≤ v.heap.size := by omega
              have HTK : Hid ((L6.take (k + 1)).flatMap encL = (L6.take k).flatMap encL ++ [z, z + 9, wl, wh].map (fun n => Value.int .i64 n)) := Lib.hid (by
                rw [List.take_add_one, HXz.out, List.flatMap_append]
                rfl)
              clear zc zm zd zw z9 z64 cm gX5 HS8 hm11 oL o9
              go_wp2_with (at_builtin; refine wpList_append_lies _ rfl _ _ 53 rfl E0 70 i0 _ 4 32 Try.underlying53 hi hz0 hz1 hz2 rfl (by decide) (.slice (some ⟨g, 0, none⟩) k cap) k _ rfl oLv ⟨c19, 0, none⟩ 1 1 ([z, z + 9, wl, wh].map (fun n => Value.int .i64 n)) rfl rfl (fun j u hu => by have := hx19.2 j u hu; unfold Addr.add; split <;> simp_all) (ints_one _) (by omega) k1 k2 hE9 _ rfl ?_; intro g2' cap2 Y2 hA2 hgr hat hlt2)
              go_roundw
              case rel =>
                have gZ := (gW.tr gY).grown' oLv hE1.1 hgr
                have kz : Kx (fun b => b = g) v Y2 := Kx.grown hgr (fun r e => .inl (by simp only [Value.ownBlock, Option.some.injEq] at e; exact e.symm))
                have hne : g2' ≠ E0 + 1 := by
                  rcases hat with h | h
                  · simp only [Value.ownBlock, Option.some.injEq] at h
                    omega
                  · omega
                exact Lib.hid ⟨k + 1, g2', cap2, by omega, by go_num, rfl, hne, gZ, HS1.keep gZ, (by rw [HTK.out]; exact hA2), o9v.kx kz (fun e => hge e.symm), kz.keepO ((Kx.gr (Z := noBlock) gY).keepO HOb.out (fun e => e)) (fun e => hge e.symm)⟩
              case measure => (first | (simp [intOf]; done) | (simp [intOf]; omega))
    · obtain rfl : k = 6 := by omega
      clear hlt hk
      have rlX : LRow wr (some ⟨g, 0, none⟩) L6 := by
        have e : L6.take 6 = L6 := List.take_of_length_le (by rw [HL6.out]; exact Nat.le_refl 6)
        rw [e] at oL
        obtain ⟨a9, c9, e9, r9⟩ := owns_row (enc := encL) (l := L6) (fun _ => rfl) (by rw [HL6.out]; decide) (by rw [HL6.out]; exact oL)
        injection e9 with e9 _ _
        rw [← e9] at r9
        exact r9
      clear oL HRo HNY HMb HM6 HLat HMV hge
      have gW' := gW
      clear gW hj0 hy0 hy1 hy2
      obtain ⟨i1, hi1, hx0, hx1, hx2⟩ := info_parts infoStH
      have HI0 := Lib.hid hi
      have HZ0 := Lib.hid hz0
      have HZ1 := Lib.hid hz1
      have HZ2 := Lib.hid hz2
      clear hi hz0 hz1 hz2
      refine (show (∀ h : Nat → Value, Code.wp Try.prog _ _ ⟨#[.agg #[.slice pa P.length pc, .slice fa F.length fc, .slice ya Y.length yc], .agg #[.int .u8 n0, .int .u8 n1, .int .u8 n2, .int .u8 n3, .int .u8 n4, .int .u8 n5], .int .u8 days, .pointer (some ⟨N0, 0, none⟩), .pointer (some ⟨(N0 + 1), 0, none⟩), undef, h 6, .pointer (some ⟨B7, 0, none⟩), .slice (some ⟨g, 0, none⟩) 6 cap, .pointer (some ⟨(E0 + 1), 0, none⟩), .int .i64 ((6 : Nat) : Int), h 11, h 12, h 13, h 14, h 15, h 16, h 17, h 18, h 19, h 20, h 21, h 22, h 23, h 24, h 25, h 26, h 27, h 28, h 29, h 30, h 31, h 32, h 33, h 34, h 35, h 36, h 37, h 38, h 39, h 40, h 41, h 42, h 43, h 44, h 45, h 46, h 47, h 48, h 49, h 50, h 51, h 52, h 53, h 54, h 55, h 56, h 57, h 58, h 59, h 60, h 61, h 62, h 63, h 64, h 65, h 66, h 67, h 68, h 69, h 70, h 71, h 72, h 73, h 74, h 75, h 76, h 77, h 78, h 79, h 80, h 81, h 82, h 83, h 84, h 85, h 86, h 87, h 88, h 89, h 90, h 91, h 92, h 93, h 94, h 95, h 96, h 97, h 98, h 99, h 100, h 101, h 102, h 103, h 104, h 105, h 106, h 107, h 108, h 109, h 110, h 111, h 112, h 113, h 114, h 115, h 116, h 117, h 118, undef, undef, undef, undef, undef, undef, undef, undef, undef, undef, undef, undef, undef, undef, undef, undef, undef, undef, undef, undef, undef, undef, undef, undef, undef, undef, undef, undef, undef, undef, undef, undef, undef, undef, undef, undef, undef, undef, undef, undef, undef, undef, undef, undef, undef, undef, undef, undef, undef, undef, undef, undef, undef, undef, undef, undef, undef, undef, undef, undef, undef, undef, undef, undef, undef, undef, undef, undef, undef, undef, undef, undef, undef, undef, undef, undef, undef, undef, undef, undef, undef, undef, undef, undef, undef, undef, undef, undef, undef, undef, undef, undef, undef, undef, undef, undef, undef, undef, undef, undef, undef, undef, undef, undef, undef, undef, undef, undef, undef, undef, undef, undef, undef, undef, undef, undef, undef, undef, undef, undef, undef, undef, undef, undef, undef, undef, undef, undef, undef, undef, undef, undef, undef, undef, undef, undef, undef, undef, undef, undef, undef, undef, undef, undef, undef, undef, undef, undef, undef, undef, undef, undef, undef, undef, undef, undef, undef, undef, undef, undef, undef, undef, undef, undef, undef, undef, undef, undef, undef, undef, undef, undef, undef, undef, undef, undef, undef, undef, undef, undef, undef, undef, undef, undef, undef, undef, undef, undef, undef, undef, undef, undef, undef, undef, undef, undef, undef, undef], []⟩ _) → _ from fun h => h ((fun l : List Value => fun i => l.getD i undef) [undef, undef, undef, undef, undef, undef, _, undef, undef, undef, undef, _, _, _, _, _, _, _, _, _, _, _, _, _, _, _, _, _, _, _, _, _, _, _, _, _, _, _, _, _, _, _, _, _, _, _, _, _, _, _, _, _, _, _, _, _, _, _, _, _, _, _, _, _, _, _, _, _, _, _, _, _, _, _, _, _, _, _, _, _, _, _, _, _, _, _, _, _, _, _, _, _, _, _, _, _, _, _, _, _, _, _, _, _, _, _, _, _, _, _, _, _, _, _, _, _, _, _, _])) ?_
      intro h
      dsimp only
      obtain ⟨D0, hD0⟩ : ∃ D, wr.heap.size = D := ⟨_, rfl⟩
      have tr0 : TRow (wr.alloc (.cells #[.int .i64 0, .int .i64 1000, .int .i64 50, .int .i64 700] 138)) (some ⟨D0, 0, none⟩) heavyT := RowOf.lit31 (enc := encT) (sz := 2) (fun _ => rfl) wr _ heavyT (by decide) _ rfl D0 hD0.symm
      have gA := Gr.al wr (.cells #[.int .i64 0, .int .i64 1000, .int .i64 50, .int .i64 700] 138)
      have hDE : E0 + 1 < D0 := by rw [← hD0]; exact (Array.getElem?_eq_some_iff.1 hO).1
      have HOb := Lib.hid ((Kx.gr (Z := noBlock) gA).keepO hO (fun e => e))
      clear hO
      go_upto_region 15 with fail
      refine wp_abs (fun X => Gr V1 X ∧ LRow X (some ⟨g, 0, none⟩) L6 ∧ TRow X (some ⟨D0, 0, none⟩) heavyT ∧ Own X (E0 + 1) [.int .i64 0, .int .i64 0] ∧ X.heap[E0 + 1]? = some (.cells #[.int .i64 0, .int .i64 0] 45) ∧ E0 + 1 < D0) ⟨gW'.tr gA, rlX.grow gA, tr0, o9.keep gA, HOb.out, hDE⟩ ?_
      clear rlX tr0 o9 gA hD0 HSW gW' HOb hDE
      rintro V6 ⟨gV6, rl, tr, h9, hO, hDE⟩
      have HOb := Lib.hid hO
      clear hO
      have HAL := Lib.hid (fun (W : World) (g' : Gr V6 W) => armLoads_any L6 (by rw [HL6.out]; decide) (by rw [HL6.out]; decide) (some ⟨g, 0, none⟩) cap W (rl.grow g'))
      have hAL := HAL.out
      have hOr := HK.out.order
      have hMo := HK.out.most
      rw [HL6.out] at hAL hOr hMo
      have HAL6 := Lib.hid hAL
      have HOr6 := Lib.hid (show ∀ (a c : Option Addr) (cap cc : Nat) (w : World), 2 ≤ cc → LRow w a L6 → TRow w c heavyT → Calls Try.prog 47 #[.slice a 6 cap, .slice c 2 cc, .int .i64 days] w fun e w' => ∃ b d, e = .returned (.tuple #[.slice b ol.length d, .int .i64 ev]) ∧ IRow w' b (intsN ol) ∧ Gr w w' from hOr)
      have HMo6 := Lib.hid (show ∀ (a c : Option Addr) (cap cc : Nat) (w : World), 2 ≤ cc → LRow w a L6 → TRow w c heavyT → Calls Try.prog 48 #[.slice a 6 cap, .slice c 2 cc, .int .i64 days] w fun e w' => ∃ b d, e = .returned (.tuple #[.slice b ml.length d, .int .i64 0]) ∧ IRow w' b (intsN ml) ∧ Gr w w' from hMo)
      clear hAL hOr hMo HAL
      have HNT := Lib.hid (fun (W : World) (g' : Gr V6 W) => row_news (enc := encT) (sz := 2) (fun _ => rfl) (tr.grow g'))
      have HFT := Lib.hid (show (heavyT.flatMap encT).length = 2 * 2 from rfl)
      go_upto_region 16 with (first
        | (go_at_call 70; refine (HAL6.out _ (Below.refl _ _)).mono ?_; rintro e x5 ⟨p5, q5, rfl, rp5, hq5, gp5⟩; have gq5 := gp5.tr (Gr.al x5 (.cells #[] 138)))
        | (at_builtin; refine wpList_append_own _ rfl _ _ 54 rfl x5.heap.size 138 i1 _ 2 16 Try.underlying54 hi1 hx0 hx1 hx2 rfl (by decide) _ _ _ rfl (owns_empty x5 _ 2) ⟨D0, 0, none⟩ 2 2 (heavyT.flatMap encT) rfl HFT.out (HNT.out _ gq5) (one_flat (fun x u hu => by simp [encT] at hu; rcases hu with rfl | rfl <;> rfl) heavyT) (by decide) (by decide) (by simp) ?_; intro t5 y5 ho5 hr5 _; (obtain ⟨ta5, tc5, te5, tt5, _, tl5⟩ := owns_row_cap (enc := encT) (l := heavyT) (fun _ => rfl) (by decide) (show (y5 : World).ownsRow _ _ 2 t5 heavyT.length (heavyT.flatMap encT) from ho5)); have tl25 : 2 ≤ tc5 := tl5; (replace te5 : t5 = .slice ta5 2 tc5 := te5); subst te5; have gr5 := (Gr.al x5 (.cells #[] 138)).grown' (owns_empty x5 _ 2) (Nat.le_refl _) hr5)
        | (go_at_call 47; refine (HOr6.out _ _ _ _ _ tl25 (rp5.grow gr5) tt5).mono ?_; rintro e z5 ⟨ra5, rc5, rfl, rr5, gz5⟩))
      go_upto_region 17 with (first
        | (go_at_call 70; refine (HAL6.out _ (gp5.tr (gr5.tr gz5))).mono ?_; rintro e x6 ⟨p6, q6, rfl, rp6, hq6, gp6⟩; have gq6 := (gp5.tr (gr5.tr gz5)).tr (gp6.tr (Gr.al x6 (.cells #[] 138))))
        | (at_builtin; refine wpList_append_own _ rfl _ _ 54 rfl x6.heap.size 138 i1 _ 2 16 Try.underlying54 hi1 hx0 hx1 hx2 rfl (by decide) _ _ _ rfl (owns_empty x6 _ 2) ⟨D0, 0, none⟩ 2 2 (heavyT.flatMap encT) rfl HFT.out (HNT.out _ gq6) (one_flat (fun x u hu => by simp [encT] at hu; rcases hu with rfl | rfl <;> rfl) heavyT) (by decide) (by decide) (by simp) ?_; intro t6 y6 ho6 hr6 _; (obtain ⟨ta6, tc6, te6, tt6, _, tl6⟩ := owns_row_cap (enc := encT) (l := heavyT) (fun _ => rfl) (by decide) (show (y6 : World).ownsRow _ _ 2 t6 heavyT.length (heavyT.flatMap encT) from ho6)); have tl26 : 2 ≤ tc6 := tl6; (replace te6 : t6 = .slice ta6 2 tc6 := te6); subst te6; have gr6 := (Gr.al x6 (.cells #[] 138)).grown' (owns_empty x6 _ 2) (Nat.le_refl _) hr6)
        | (go_at_call 48; refine (HMo6.out _ _ _ _ _ tl26 (rp6.grow gr6) tt6).mono ?_; rintro e z6 ⟨ra6, rc6, rfl, rr6, gz6⟩))
      refine wp_abs (fun X => Gr V6 X ∧ IRow X ra5 (intsN ol)) ⟨(gp5.tr (gr5.tr gz5)).tr (gp6.tr (gr6.tr gz6)), rr5.grow (gp6.tr (gr6.tr gz6))⟩ ?_
      clear rp5 hq5 gp5 gq5 ho5 hr5 tt5 tl5 tl25 gr5 rr5 gz5 rp6 hq6 gp6 gq6 ho6 hr6 tt6 tl6 tl26 gr6 rr6 gz6 HMo6 HOr6 HNT HFT
      rintro V7 ⟨gV7, ro⟩
      by_cases hev : ev = 0
      rotate_left
      · obtain ⟨n1', n2'⟩ := HK.out.no hev
        rw [HL6.out] at n2'
        have hone' := hone
        have q0 : decide ((ml.length : Int) < 1) = false := by simp; omega
        have q1 : decide ((6 : Int) < (ml.length : Int)) = false := by simp; omega
        have q2 : ((ml.length : Int) == 6) = false := by simp; omega
        have q3 : ¬ (ml.length : Int) < 1 := by omega
        have q4 : ¬ (6 : Int) < (ml.length : Int) := by omega
        have q5 : ¬ (ml.length : Int) = 6 := by omega
        have gX0 := (gV6.tr gV7)
        subst n1'
        clear hone hone' n2' hev HK
        go_wp2_with (first
          | (go_at_call 66; refine (armBoard_any _).mono ?_; rintro e wA ⟨rfl, gAA⟩)
          | (go_at_call 69; refine (armCrush_any _).mono ?_; rintro e wB ⟨rfl, gBB⟩))
        go_ret
        exact ⟨rfl, (HS1.g.tr (gX0.tr (gAA.tr gBB)))⟩
      subst hev
      obtain ⟨m6, o1', o2', o6, _⟩ := HK.out.yes rfl
      rw [HL6.out] at m6 o6
      have q0 : decide ((ml.length : Int) < 1) = false := by simp; omega
      have q1 : decide ((6 : Int) < (ml.length : Int)) = false := by simp; omega
      have q2 : ((ml.length : Int) == 6) = true := by simp; omega
      have q3 : ¬ (ml.length : Int) < 1 := by omega
      have q4 : ¬ (6 : Int) < (ml.length : Int) := by omega
      have HM66 := Lib.hid m6
      have HO1 := Lib.hid o1'
      have HO2 := Lib.hid o2'
      have HO6 := Lib.hid o6
      clear m6 o1' o2' o6 hone
      go_upto_region 21 with fail
      obtain ⟨R0, hR0⟩ : ∃ R, V7.heap.size = R := ⟨_, rfl⟩
      have hO7 := (Kx.gr (Z := noBlock) gV7).keepO HOb.out (fun e => e)
      have rl7 := rl.grow gV7
      have tr7 := tr.grow gV7
      have h97 := h9.keep gV7
      have gV17 := gV6.tr gV7
      have hEA : E0 + 1 < V7.heap.size := (Array.getElem?_eq_some_iff.1 hO7).1
      obtain ⟨xa, hxa⟩ : ∃ x, L6[5]? = some x := ⟨L6[5]'(by rw [HL6.out]; decide), by simp⟩
      obtain ⟨xb, hxb⟩ : ∃ x, (intsN ol)[5]? = some x := ⟨(intsN ol)[5]'(by rw [intsN_len, HO6.out]; decide), by simp⟩
      have hLg := row_off rl7 hO7 hxa (by decide) (by decide) (u := .int .i64 xa.sl) rfl
      have hLo := row_off ro hO7 hxb (by decide) (by decide) (u := .int .i64 xb) rfl
      have hLt : ∀ ad, (some ⟨D0, 0, none⟩ : Option Addr) = some ad → ad.block ≠ E0 + 1 := by
        rintro ad e
        injection e with e
        subst e
        exact fun e => by dsimp only at e; omega
      have HLg := Lib.hid hLg
      have HLo := Lib.hid hLo
      have HLt := Lib.hid hLt
      clear hxa hxb hLg hLo hLt hO7 HOb rl tr h9 gV6 gV7
      have oS := owns_keep (owns_empty V7 70 4) (Gr.al _ (.cells #[.bool false, .bool false, .bool false, .bool false, .bool false, .bool false] 139))
      have oU := Own.new (V7.alloc (.cells #[] 70)) (usedB 6 []) 139 (R0 + 1) (by rw [← hR0]; simp)
      have gR := (Gr.al V7 (.cells #[] 70)).tr (Gr.al _ (.cells #[.bool false, .bool false, .bool false, .bool false, .bool false, .bool false] 139))
      have h9R := h97.keep gR
      rw [hR0] at oS
      have hR1 : V7.heap.size ≤ R0 ∧ R0 ≤ V7.heap.size := by omega
      go_upto_region 22 with fail
      try rw [hR0]
      refine wp_abs (fun X => Kx (fun b => b = E0 + 1) V7 X ∧ X.ownsRow R0 70 4 (.slice (some ⟨R0, 0, none⟩) 0 0) 0 [] ∧ Own X (R0 + 1) (usedB 6 []) ∧ Own X (E0 + 1) [.int .i64 0, .int .i64 0]) ⟨Kx.gr gR, oS, oU, h9R⟩ ?_
      clear oS oU h9R gR h97 hR0
      rintro V8 ⟨kV, oS, oU, h9⟩
      obtain ⟨ag, hag⟩ : ∃ a, (some ⟨g, 0, none⟩ : Option Addr) = a := ⟨_, rfl⟩
      rw [hag] at rl7 HLg ⊢
      clear hag
      refine (show (∀ t : Nat → Value, Code.wp Try.prog _ _ ⟨#[.agg #[.slice pa P.length pc, .slice fa F.length fc, .slice ya Y.length yc], .agg #[.int .u8 n0, .int .u8 n1, .int .u8 n2, .int .u8 n3, .int .u8 n4, .int .u8 n5], .int .u8 days, .pointer (some ⟨N0, 0, none⟩), .pointer (some ⟨(N0 + 1), 0, none⟩), undef, t 6, .pointer (some ⟨B7, 0, none⟩), .slice ag 6 cap, .pointer (some ⟨(E0 + 1), 0, none⟩), t 10, t 11, t 12, t 13, t 14, t 15, t 16, t 17, .slice (some ⟨D0, 0, none⟩) 2 2, .slice ra5 ol.length rc5, t 20, t 21, t 22, .slice (some ⟨R0, 0, none⟩) 0 0, .pointer (some ⟨(R0 + 1), 0, none⟩), t 25, t 26, t 27, t 28, t 29, t 30, t 31, t 32, t 33, t 34, t 35, t 36, t 37, t 38, t 39, t 40, t 41, t 42, t 43, t 44, t 45, t 46, t 47, t 48, t 49, t 50, t 51, t 52, t 53, t 54, t 55, t 56, t 57, t 58, t 59, t 60, t 61, t 62, t 63, t 64, t 65, t 66, t 67, t 68, t 69, t 70, t 71, t 72, t 73, t 74, t 75, t 76, t 77, t 78, t 79, t 80, t 81, t 82, t 83, t 84, t 85, t 86, t 87, t 88, t 89, t 90, t 91, t 92, t 93, t 94, t 95, t 96, t 97, t 98, t 99, t 100, t 101, t 102, t 103, t 104, t 105, t 106, t 107, t 108, t 109, t 110, t 111, t 112, t 113, t 114, t 115, t 116, t 117, t 118, t 119, t 120, t 121, t 122, t 123, t 124, t 125, t 126, t 127, t 128, t 129, t 130, t 131, t 132, t 133, t 134, t 135, t 136, t 137, t 138, t 139, t 140, t 141, t 142, t 143, t 144, t 145, t 146, t 147, t 148, t 149, t 150, t 151, t 152, t 153, t 154, t 155, t 156, t 157, t 158, t 159, t 160, t 161, t 162, t 163, t 164, t 165, t 166, t 167, t 168, t 169, t 170, t 171, t 172, t 173, t 174, t 175, t 176, t 177, t 178, t 179, undef, undef, undef, undef, undef, undef, undef, undef, undef, undef, undef, undef, undef, undef, undef, undef, undef, undef, undef, undef, undef, undef, undef, undef, undef, undef, undef, undef, undef, undef, undef, undef, undef, undef, undef, undef, undef, undef, undef, undef, undef, undef, undef, undef, undef, undef, undef, undef, undef, undef, undef, undef, undef, undef, undef, undef, undef, undef, undef, undef, undef, undef, undef, undef, undef, undef, undef, undef, undef, undef, undef, undef, undef, undef, undef, undef, undef, undef, undef, undef, undef, undef, undef, undef, undef, undef, undef, undef, undef, undef, undef, undef, undef, undef, undef, undef, undef, undef, undef, undef, undef, undef, undef, undef, undef, undef, undef, undef, undef, undef, undef, undef, undef, undef, undef, undef, undef, undef, undef, undef, undef, undef, undef, undef, undef, undef, undef, undef, undef, undef, undef, undef, undef, undef, undef, undef, undef], []⟩ _) → _ from fun h => h ((fun l : List Value => fun i => l.getD i undef) [undef, undef, undef, undef, undef, undef, _, undef, undef, undef, _, _, _, _, _, _, _, _, undef, undef, _, _, _, undef, undef, _, _, _, _, _, _, _, _, _, _, _, _, _, _, _, _, _, _, _, _, _, _, _, _, _, _, _, _, _, _, _, _, _, _, _, _, _, _, _, _, _, _, _, _, _, _, _, _, _, _, _, _, _, _, _, _, _, _, _, _, _, _, _, _, _, _, _, _, _, _, _, _, _, _, _, _, _, _, _, _, _, _, _, _, _, _, _, _, _, _, _, _, _, _, _, _, _, _, _, _, _, _, _, _, _, _, _, _, _, _, _, _, _, _, _, _, _, _, _, _, _, _, _, _, _, _, _, _, _, _, _, _, _, _, _, _, _, _, _, _, _, _, _, _, _, _, _, _, _, _, _, _, _, _, _])) ?_
      intro t
      dsimp only
      have h010 := HO6.out
      go_wp2
      go_loopw [25, 23] (fun i s wr => Hid (∃ k g2 cap2 : Nat, k ≤ 6 ∧ i = .int .i64 k ∧ s = .slice (some ⟨g2, 0, none⟩) k cap2 ∧ R0 ≤ g2 ∧ g2 ≠ R0 + 1 ∧ Kx (fun b => b = E0 + 1) V7 wr ∧ wr.ownsRow R0 70 4 (.slice (some ⟨g2, 0, none⟩) k cap2) k ((pickL L6 (ol.take k)).flatMap encL) ∧ Own wr (R0 + 1) (usedB 6 (ol.take k)) ∧ Own wr (E0 + 1) [.int .i64 (sumLo (pickL L6 (ol.take k))), .int .i64 (sumHi (pickL L6 (ol.take k)))])) (fun i _ _ => 6 - (intOf i).toNat)
      case atStart => exact Lib.hid ⟨0, R0, 0, by omega, rfl, rfl, Nat.le_refl _, by omega, kV, by simpa [pickL] using oS, oU, h9⟩
      case round =>
        clear kV oS oU h9
        obtain ⟨k, g2, cap2, hk, rfl, rfl, hg2, hg3, kW, oS, oU, h9⟩ := hrel.out
        clear hrel
        by_cases hlt : k < 6
        · obtain ⟨n, hx⟩ : ∃ n, ol[k]? = some n := ⟨ol[k]'(by rw [HO6.out]; exact hlt), by simp⟩
          have hn6 : n < 6 := by
            have := HO2.out n (List.mem_of_getElem? hx)
            rw [HL6.out] at this
            exact this
          have htk : ol.take (k + 1) = ol.take k ++ [n] := by rw [List.take_add_one, hx]; rfl
          have hnn : n ∉ ol.take k := by
            have hnd : (ol.take (k + 1)).Nodup := HO1.out.sublist (List.take_sublist _ _)
            rw [htk, List.nodup_append] at hnd
            exact fun hm => hnd.2.2 n hm n (by simp) rfl
          have hxi : (intsN ol)[k]? = some (n : Int) := by unfold intsN; rw [List.getElem?_map, hx]; rfl
          obtain ⟨⟨sl, sh, wl, wh⟩, hy⟩ : ∃ y, L6[n]? = some y := ⟨L6[n]'(by rw [HL6.out]; exact hn6), by simp⟩
          have hym := HLok.out _ (List.mem_of_getElem? hy)
          have hpk : pickL L6 (ol.take (k + 1)) = pickL L6 (ol.take k) ++ [⟨sl, sh, wl, wh⟩] := by
            rw [htk]
            unfold pickL
            rw [List.map_append]
            congr 1
            simp [List.getD_eq_getElem?_getD, hy]
          obtain ⟨b1, o1, rfl, hb1, c1⟩ := IRow.get ro hxi
          obtain ⟨b2, o2, rfl, hb2, d0, d1, d2, d3⟩ := LRow.get rl7 hy
          dsimp only at d0 d1 d2 d3
          have hb1' : b1 ≠ E0 + 1 := HLo.out _ rfl
          have hb2' : b2 ≠ E0 + 1 := HLg.out _ rfl
          have HC := Lib.hid (fun (W : World) (kX : Kx (fun b => b = E0 + 1) V7 W) => And.intro (kx_cell kX c1 hb1') (And.intro (kx_cell kX d0 hb2') (And.intro (kx_cell kX d1 hb2') (And.intro (kx_cell kX d2 hb2') (kx_cell kX d3 hb2')))))
          have HPK := Lib.hid hpk
          have HTK := Lib.hid htk
          clear c1 d0 d1 d2 d3 hxi hy hpk hx htk
          obtain ⟨c1, _, _, _, _⟩ := HC.out _ kW
          have cu := oU.1.2 n _ (usedB_at _ hn6)
          rw [show decide (n ∈ ol.take k) = false from decide_eq_false hnn] at cu
          have fu := oU.2 n
          have p0 : decide ((n : Int) < 0) = false := decide_eq_false (by omega)
          have p1 : decide ((5 : Int) < (n : Int)) = false := decide_eq_false (by omega)
          have p2 : ¬ (n : Int) < 0 := by omega
          have p3 : ¬ (5 : Int) < (n : Int) := by omega
          go_upto_region 28 with fail
          have oU1 := oU.set (i := n) (v := .bool true) (by rw [usedB_len]; exact hn6)
          rw [usedB_add hn6, ← HTK.out] at oU1
          have kW1 : Kx (fun b => b = E0 + 1) V7 (wr.setCell ⟨R0 + 1, n, none⟩ (.bool true)) := kW.th (Kx.set (Z := fun j => j = R0 + 1) rfl _) (fun i e => .inr (by subst e; omega))
          have oS1 := owns_set_ne (b := R0 + 1) (i := n) oS (fun e => by simp only [Value.ownBlock, Option.some.injEq] at e; exact hg3 e) (.bool true)
          have h91 := h9.other (b := R0 + 1) (i := n) (v := .bool true) (by omega)
          have hgl := oS.lt g2 rfl
          refine wp_abs (fun X => Kx (fun b => b = E0 + 1) V7 X ∧ X.ownsRow R0 70 4 (.slice (some ⟨g2, 0, none⟩) k cap2) k ((pickL L6 (ol.take k)).flatMap encL) ∧ Own X (R0 + 1) (usedB 6 (ol.take (k + 1))) ∧ Own X (E0 + 1) [.int .i64 (sumLo (pickL L6 (ol.take k))), .int .i64 (sumHi (pickL L6 (ol.take k)))]) ⟨kW1, oS1, oU1, h91⟩ ?_
          clear kW oS oU h9 kW1 oS1 oU1 h91 c1 cu fu p0 p1 p2 p3 hgl
          rintro X1 ⟨kW, oS, oU, h9⟩
          obtain ⟨c1, d0, d1, d2, d3⟩ := HC.out _ kW
          have k1 : k + 1 ≤ maxLen := by unfold maxLen; omega
          have k2 : (k + 1) * 32 ≤ 140737488355328 := by omega
          have gAl := Gr.al X1 (.cells #[.int .i64 sl, .int .i64 sh, .int .i64 wl, .int .i64 wh] 70)
          have hRX : R0 ≤ X1.heap.size := by have := kW.size; omega
          have HFM : Hid ((pickL L6 (ol.take (k + 1))).flatMap encL = (pickL L6 (ol.take k)).flatMap encL ++ [sl, sh, wl, wh].map (fun n => Value.int .i64 n)) := Lib.hid (by
            rw [HPK.out, List.flatMap_append]
            rfl)
          go_upto_region 29 with (at_builtin; refine wpList_append_lies _ rfl _ _ 53 rfl R0 70 i0 _ 4 32 Try.underlying53 HI0.out HZ0.out HZ1.out HZ2.out rfl (by decide) (.slice (some ⟨g2, 0, none⟩) k cap2) k _ rfl (owns_keep oS gAl) ⟨X1.heap.size, 0, none⟩ 1 1 ([sl, sh, wl, wh].map (fun n => Value.int .i64 n)) rfl rfl (cell_news _ _ _) (ints_one _) (by omega) k1 k2 (by have := gAl.size; omega) _ rfl ?_; intro g3 cap3 Y2 hA2 hgr hat hlt2)
          have kz : Kx (fun b => b = g2) (X1.alloc (.cells #[.int .i64 sl, .int .i64 sh, .int .i64 wl, .int .i64 wh] 70)) Y2 := Kx.grown hgr (fun r e => .inl (by simp only [Value.ownBlock, Option.some.injEq] at e; exact e.symm))
          have hg2E : g2 ≠ E0 + 1 := by omega
          have kY : Kx (fun b => b = E0 + 1) V7 Y2 := (kW.tr (Kx.gr gAl)).th kz (fun i e => .inr (by subst e; omega))
          have hg4 : R0 ≤ g3 ∧ g3 ≠ R0 + 1 := by
            have hub := oU.1.1
            have hsz := gAl.size
            rcases hat with h | h
            · simp only [Value.ownBlock, Option.some.injEq] at h
              omega
            · omega
          obtain ⟨hg5, hg6⟩ := hg4
          have oU2 := (oU.keep gAl).kx kz (fun e => hg3 e.symm)
          have h92 := (h9.keep gAl).kx kz (fun e => hg2E e.symm)
          rw [← HFM.out] at hA2
          refine wp_abs (fun X => Kx (fun b => b = E0 + 1) V7 X ∧ X.ownsRow R0 70 4 (.slice (some ⟨g3, 0, none⟩) (k + 1) cap3) (k + 1) ((pickL L6 (ol.take (k + 1))).flatMap encL) ∧ Own X (R0 + 1) (usedB 6 (ol.take (k + 1))) ∧ Own X (E0 + 1) [.int .i64 (sumLo (pickL L6 (ol.take k))), .int .i64 (sumHi (pickL L6 (ol.take k)))]) ⟨kY, hA2, oU2, h92⟩ ?_
          clear kW oS oU h9 kY hA2 oU2 h92 c1 d0 d1 d2 d3 gAl kz hgr hat hlt2 hRX HFM hg2E
          rintro X2 ⟨kW, oS, oU, h9⟩
          obtain ⟨c1, d0, d1, d2, d3⟩ := HC.out _ kW
          have hpb : ∀ x ∈ pickL L6 (ol.take k), LdB x := fun x hx => (HLok.out x (pickL_mem (fun i hi => HO2.out i (List.mem_of_mem_take hi)) x hx)).1.1
          have hsb := sum_bd hpb
          rw [pickL_len, List.length_take] at hsb
          obtain ⟨v0, v1, v2, v3⟩ := hsb
          obtain ⟨S0, hS0⟩ : ∃ z, sumLo (pickL L6 (ol.take k)) = z := ⟨_, rfl⟩
          obtain ⟨S1, hS1⟩ : ∃ z, sumHi (pickL L6 (ol.take k)) = z := ⟨_, rfl⟩
          have HS0 : Hid (sumLo (pickL L6 (ol.take (k + 1))) = S0 + wl) := Lib.hid (by rw [HPK.out, sumLo_snoc, hS0])
          have HS1' : Hid (sumHi (pickL L6 (ol.take (k + 1))) = S1 + wh) := Lib.hid (by rw [HPK.out, sumHi_snoc, hS1])
          rw [hS0, hS1] at h9
          rw [hS0] at v0 v1
          rw [hS1] at v2 v3
          have hwb := hym.1.1
          have hw1 : 0 ≤ wl := by have := hym.1.1; simp only [LdB] at this; omega
          have hw2 : wl ≤ wh := hym.2.2.1
          have hw3 : wh ≤ 100000 := hym.2.2.2.2
          have hmin : ((min k ol.length : Nat) : Int) ≤ 6 := by omega
          have z0 : IntKind.i64.wrap (S0 + wl) = S0 + wl := IntWalk.i64_in _ (by omega)
          have z1 : IntKind.i64.wrap (S1 + wh) = S1 + wh := IntWalk.i64_in _ (by omega)
          clear hpb v0 v1 v2 v3 hS0 hS1 hwb hmin
          have h9b := h9.1
          obtain ⟨s0c, s1c⟩ := h9b.c2
          have hkI : (k : Int) < 6 := by omega
          have hnI : (n : Int) < 6 := by omega
          refine (show (∀ r : Nat → Value, Code.wp Try.prog _ _ ⟨#[.agg #[.slice pa P.length pc, .slice fa F.length fc, .slice ya Y.length yc], .agg #[.int .u8 n0, .int .u8 n1, .int .u8 n2, .int .u8 n3, .int .u8 n4, .int .u8 n5], .int .u8 days, .pointer (some ⟨N0, 0, none⟩), .pointer (some ⟨(N0 + 1), 0, none⟩), undef, u6, .pointer (some ⟨B7, 0, none⟩), .slice (some ⟨b2, o2, none⟩) 6 cap, .pointer (some ⟨(E0 + 1), 0, none⟩), t 10, t 11, t 12, t 13, t 14, t 15, t 16, t 17, .slice (some ⟨D0, 0, none⟩) 2 2, .slice (some ⟨b1, o1, none⟩) 6 rc5, t 20, t 21, t 22, .slice (some ⟨g3, 0, none⟩) (k + 1) cap3, .pointer (some ⟨(R0 + 1), 0, none⟩), .int .i64 (k : Int), t 26, t 27, t 28, t 29, t 30, t 31, t 32, t 33, t 34, t 35, t 36, t 37, t 38, t 39, t 40, t 41, t 42, t 43, t 44, t 45, t 46, t 47, t 48, t 49, t 50, t 51, t 52, t 53, t 54, t 55, t 56, t 57, t 58, t 59, t 60, t 61, t 62, t 63, t 64, t 65, t 66, t 67, t 68, t 69, t 70, t 71, t 72, t 73, t 74, t 75, t 76, t 77, t 78, t 79, t 80, t 81, t 82, t 83, t 84, t 85, t 86, t 87, t 88, t 89, t 90, t 91, t 92, t 93, t 94, t 95, t 96, t 97, t 98, t 99, t 100, t 101, t 102, t 103, t 104, t 105, t 106, t 107, t 108, t 109, t 110, t 111, t 112, t 113, t 114, t 115, t 116, t 117, t 118, t 119, t 120, t 121, t 122, t 123, t 124, t 125, t 126, t 127, t 128, t 129, t 130, t 131, t 132, t 133, t 134, t 135, t 136, t 137, t 138, t 139, t 140, t 141, t 142, t 143, t 144, t 145, t 146, t 147, t 148, t 149, t 150, t 151, t 152, t 153, t 154, t 155, t 156, t 157, t 158, t 159, t 160, t 161, t 162, t 163, t 164, t 165, t 166, t 167, t 168, t 169, t 170, t 171, t 172, t 173, t 174, t 175, t 176, t 177, t 178, t 179, r 180, r 181, r 182, r 183, r 184, r 185, r 186, r 187, r 188, r 189, r 190, r 191, r 192, r 193, r 194, r 195, r 196, r 197, r 198, r 199, r 200, r 201, r 202, r 203, r 204, r 205, r 206, r 207, r 208, r 209, r 210, r 211, r 212, r 213, r 214, r 215, r 216, r 217, r 218, r 219, r 220, u221, u222, u223, u224, u225, u226, u227, u228, u229, u230, u231, u232, u233, u234, u235, u236, u237, u238, u239, u240, u241, u242, u243, u244, u245, undef, undef, undef, undef, undef, undef, undef, undef, undef, undef, undef, undef, undef, undef, undef, undef, undef, undef, undef, undef, undef, undef, undef, undef, undef, undef, undef, undef, undef, undef, undef, undef, undef, undef, undef, undef, undef, undef, undef, undef, undef, undef, undef, undef, undef, undef, undef, undef, undef, undef, undef, undef, undef, undef, undef, undef, undef, undef, undef, undef, undef, undef, undef, undef, undef, undef, undef, undef, undef, undef, undef], []⟩ _) → _ from fun h => h ((fun l : List Value => fun i => l.getD i undef) [undef, undef, undef, undef, undef, undef, undef, undef, undef, undef, undef, undef, undef, undef, undef, undef, undef, undef, undef, undef, undef, undef, undef, undef, undef, undef, undef, undef, undef, undef, undef, undef, undef, undef, undef, undef, undef, undef, undef, undef, undef, undef, undef, undef, undef, undef, undef, undef, undef, undef, undef, undef, undef, undef, undef, undef, undef, undef, undef, undef, undef, undef, undef, undef, undef, undef, undef, undef, undef, undef, undef, undef, undef, undef, undef, undef, undef, undef, undef, undef, undef, undef, undef, undef, undef, undef, undef, undef, undef, undef, undef, undef, undef, undef, undef, undef, undef, undef, undef, undef, undef, undef, undef, undef, undef, undef, undef, undef, undef, undef, undef, undef, undef, undef, undef, undef, undef, undef, undef, undef, undef, undef, undef, undef, undef, undef, undef, undef, undef, undef, undef, undef, undef, undef, undef, undef, undef, undef, undef, undef, undef, undef, undef, undef, undef, undef, undef, undef, undef, undef, undef, undef, undef, undef, undef, undef, undef, undef, undef, undef, undef, undef, undef, undef, undef, undef, undef, undef, undef, undef, undef, undef, undef, undef, undef, undef, undef, undef, undef, undef, _, _, _, _, _, _, _, _, _, _, _, _, _, _, _, _, _, _, _, _, _, _, _, _, _, _, _, _, _, _, _, _, _, _, _, _, _, _, _, _, _])) ?_
          intro r
          dsimp only
          refine wp_region_facts 25 [(1, 0), (5, 3), (5, 4), (6, 5), (7, 2), (7, 6), (8, 7), (9, 8), (10, 9), (11, 1), (11, 10), (13, 12), (17, 15), (17, 16), (18, 17), (19, 14), (19, 18), (20, 19), (21, 20), (22, 21), (23, 13), (23, 22), (24, 11), (24, 23)] (fun x => ⟨#[.agg #[.slice pa P.length pc, .slice fa F.length fc, .slice ya Y.length yc], .agg #[.int .u8 n0, .int .u8 n1, .int .u8 n2, .int .u8 n3, .int .u8 n4, .int .u8 n5], .int .u8 days, .pointer (some ⟨N0, 0, none⟩), .pointer (some ⟨(N0 + 1), 0, none⟩), undef, u6, .pointer (some ⟨B7, 0, none⟩), .slice (some ⟨b2, o2, none⟩) 6 cap, .pointer (some ⟨(E0 + 1), 0, none⟩), t 10, t 11, t 12, t 13, t 14, t 15, t 16, t 17, .slice (some ⟨D0, 0, none⟩) 2 2, .slice (some ⟨b1, o1, none⟩) 6 rc5, t 20, t 21, t 22, .slice (some ⟨g3, 0, none⟩) (k + 1) cap3, .pointer (some ⟨(R0 + 1), 0, none⟩), .int .i64 (k : Int), t 26, t 27, t 28, t 29, t 30, t 31, t 32, t 33, t 34, t 35, t 36, t 37, t 38, t 39, t 40, t 41, t 42, t 43, t 44, t 45, t 46, t 47, t 48, t 49, t 50, t 51, t 52, t 53, t 54, t 55, t 56, t 57, t 58, t 59, t 60, t 61, t 62, t 63, t 64, t 65, t 66, t 67, t 68, t 69, t 70, t 71, t 72, t 73, t 74, t 75, t 76, t 77, t 78, t 79, t 80, t 81, t 82, t 83, t 84, t 85, t 86, t 87, t 88, t 89, t 90, t 91, t 92, t 93, t 94, t 95, t 96, t 97, t 98, t 99, t 100, t 101, t 102, t 103, t 104, t 105, t 106, t 107, t 108, t 109, t 110, t 111, t 112, t 113, t 114, t 115, t 116, t 117, t 118, t 119, t 120, t 121, t 122, t 123, t 124, t 125, t 126, t 127, t 128, t 129, t 130, t 131, t 132, t 133, t 134, t 135, t 136, t 137, t 138, t 139, t 140, t 141, t 142, t 143, t 144, t 145, t 146, t 147, t 148, t 149, t 150, t 151, t 152, t 153, t 154, t 155, t 156, t 157, t 158, t 159, t 160, t 161, t 162, t 163, t 164, t 165, t 166, t 167, t 168, t 169, t 170, t 171, t 172, t 173, t 174, t 175, t 176, t 177, t 178, t 179, r 180, r 181, r 182, r 183, r 184, r 185, r 186, r 187, r 188, r 189, r 190, r 191, r 192, r 193, r 194, r 195, r 196, r 197, r 198, r 199, r 200, r 201, r 202, r 203, r 204, r 205, r 206, r 207, r 208, r 209, r 210, r 211, r 212, r 213, r 214, r 215, r 216, r 217, r 218, r 219, r 220, x 0, x 1, x 2, x 3, x 4, x 5, x 6, x 7, x 8, x 9, x 10, x 11, x 12, x 13, x 14, x 15, x 16, x 17, x 18, x 19, x 20, x 21, x 22, x 23, x 24, undef, undef, undef, undef, undef, undef, undef, undef, undef, undef, undef, undef, undef, undef, undef, undef, undef, undef, undef, undef, undef, undef, undef, undef, undef, undef, undef, undef, undef, undef, undef, undef, undef, undef, undef, undef, undef, undef, undef, undef, undef, undef, undef, undef, undef, undef, undef, undef, undef, undef, undef, undef, undef, undef, undef, undef, undef, undef, undef, undef, undef, undef, undef, undef, undef, undef, undef, undef, undef, undef, undef], []⟩) (fun i => [u221, u222, u223, u224, u225, u226, u227, u228, u229, u230, u231, u232, u233, u234, u235, u236, u237, u238, u239, u240, u241, u242, u243, u244, u245].getD i undef) [fun _ x => x = .pointer (some ⟨E0 + 1, 0, none⟩), fun _ x => x = .int .i64 S0, fun _ x => x = .slice (some ⟨b2, o2, none⟩) 6 cap, fun _ x => x = .slice (some ⟨b1, o1, none⟩) 6 rc5, fun _ x => x = .int .i64 (k : Int), fun _ x => x = .pointer (some ⟨b1, o1 + k, none⟩), fun _ x => x = .int .i64 (n : Int), fun _ x => x = .pointer (some ⟨b2, o2 + n * 4, none⟩), fun _ x => x = .pointer (some ⟨b2, o2 + n * 4 + 2, none⟩), fun _ x => x = .pointer (some ⟨b2, o2 + n * 4 + 2, none⟩), fun _ x => x = .int .i64 wl, fun _ x => x = .int .i64 (S0 + wl), fun _ x => x = .pointer (some ⟨E0 + 1, 1, none⟩), fun _ x => x = .int .i64 S1, fun _ x => x = .slice (some ⟨b2, o2, none⟩) 6 cap, fun _ x => x = .slice (some ⟨b1, o1, none⟩) 6 rc5, fun _ x => x = .int .i64 (k : Int), fun _ x => x = .pointer (some ⟨b1, o1 + k, none⟩), fun _ x => x = .int .i64 (n : Int), fun _ x => x = .pointer (some ⟨b2, o2 + n * 4, none⟩), fun _ x => x = .pointer (some ⟨b2, o2 + n * 4 + 2, none⟩), fun _ x => x = .pointer (some ⟨b2, o2 + n * 4 + 3, none⟩), fun _ x => x = .int .i64 wh, fun _ x => x = .int .i64 (S1 + wh), fun _ x => x = .agg #[.int .i64 (S0 + wl), .int .i64 (S1 + wh)]] (by rfl) (by kernel_rfl) (by kernel_rfl) (by kernel_rfl) (stays_cons (Stays.eq _) (stays_cons (Stays.eq _) (stays_cons (Stays.eq _) (stays_cons (Stays.eq _) (stays_cons (Stays.eq _) (stays_cons (Stays.eq _) (stays_cons (Stays.eq _) (stays_cons (Stays.eq _) (stays_cons (Stays.eq _) (stays_cons (Stays.eq _) (stays_cons (Stays.eq _) (stays_cons (Stays.eq _) (stays_cons (Stays.eq _) (stays_cons (Stays.eq _) (stays_cons (Stays.eq _) (stays_cons (Stays.eq _) (stays_cons (Stays.eq _) (stays_cons (Stays.eq _) (stays_cons (Stays.eq _) (stays_cons (Stays.eq _) (stays_cons (Stays.eq _) (stays_cons (Stays.eq _) (stays_cons (Stays.eq _) (stays_cons (Stays.eq _) (stays_cons (Stays.eq _) stays_nil))))))))))))))))))))))))) ?step29 ?fin29
          case step29 =>
            rintro i hi x v gv hd K hK
            have hi8 : i = 0 ∨ i = 1 ∨ i = 2 ∨ i = 3 ∨ i = 4 ∨ i = 5 ∨ i = 6 ∨ i = 7 ∨ i = 8 ∨ i = 9 ∨ i = 10 ∨ i = 11 ∨ i = 12 ∨ i = 13 ∨ i = 14 ∨ i = 15 ∨ i = 16 ∨ i = 17 ∨ i = 18 ∨ i = 19 ∨ i = 20 ∨ i = 21 ∨ i = 22 ∨ i = 23 ∨ i = 24 := by omega
            rcases hi8 with rfl | rfl | rfl | rfl | rfl | rfl | rfl | rfl | rfl | rfl | rfl | rfl | rfl | rfl | rfl | rfl | rfl | rfl | rfl | rfl | rfl | rfl | rfl | rfl | rfl
            · show wpOp Try.prog _ _ 0 K (⟨#[_, _, _, _, _, _, _, _, _, _, _, _, _, _, _, _, _, _, _, _, _, _, _, _, _, _, _, _, _, _, _, _, _, _, _, _, _, _, _, _, _, _, _, _, _, _, _, _, _, _, _, _, _, _, _, _, _, _, _, _, _, _, _, _, _, _, _, _, _, _, _, _, _, _, _, _, _, _, _, _, _, _, _, _, _, _, _, _, _, _, _, _, _, _, _, _, _, _, _, _, _, _, _, _, _, _, _, _, _, _, _, _, _, _, _, _, _, _, _, _, _, _, _, _, _, _, _, _, _, _, _, _, _, _, _, _, _, _, _, _, _, _, _, _, _, _, _, _, _, _, _, _, _, _, _, _, _, _, _, _, _, _, _, _, _, _, _, _, _, _, _, _, _, _, _, _, _, _, _, _, _, _, _, _, _, _, _, _, _, _, _, _, _, _, _, _, _, _, _, _, _, _, _, _, _, _, _, _, _, _, _, _, _, _, _, _, _, _, _, _, _, x 0, x 1, x 2, x 3, x 4, x 5, x 6, x 7, x 8, x 9, x 10, x 11, x 12, x 13, x 14, x 15, x 16, x 17, x 18, x 19, x 20, x 21, x 22, x 23, x 24, _, _, _, _, _, _, _, _, _, _, _, _, _, _, _, _, _, _, _, _, _, _, _, _, _, _, _, _, _, _, _, _, _, _, _, _, _, _, _, _, _, _, _, _, _, _, _, _, _, _, _, _, _, _, _, _, _, _, _, _, _, _, _, _, _, _, _, _, _, _, _], []⟩ : Act) v
              refine wpOp_step rfl (fun K' hK' => ?_)
              go_simp
              exact hK' _ _ (hK _ _ (Below.refl _ _) (at_of rfl (rfl)))
            · obtain ⟨x, rfl⟩ := upd_of (show x 0 = .pointer (some ⟨E0 + 1, 0, none⟩) from hd 0 _ (by simp) rfl)
              show wpOp Try.prog _ _ 1 K (⟨#[_, _, _, _, _, _, _, _, _, _, _, _, _, _, _, _, _, _, _, _, _, _, _, _, _, _, _, _, _, _, _, _, _, _, _, _, _, _, _, _, _, _, _, _, _, _, _, _, _, _, _, _, _, _, _, _, _, _, _, _, _, _, _, _, _, _, _, _, _, _, _, _, _, _, _, _, _, _, _, _, _, _, _, _, _, _, _, _, _, _, _, _, _, _, _, _, _, _, _, _, _, _, _, _, _, _, _, _, _, _, _, _, _, _, _, _, _, _, _, _, _, _, _, _, _, _, _, _, _, _, _, _, _, _, _, _, _, _, _, _, _, _, _, _, _, _, _, _, _, _, _, _, _, _, _, _, _, _, _, _, _, _, _, _, _, _, _, _, _, _, _, _, _, _, _, _, _, _, _, _, _, _, _, _, _, _, _, _, _, _, _, _, _, _, _, _, _, _, _, _, _, _, _, _, _, _, _, _, _, _, _, _, _, _, _, _, _, _, _, _, _, .pointer (some ⟨E0 + 1, 0, none⟩), x 1, x 2, x 3, x 4, x 5, x 6, x 7, x 8, x 9, x 10, x 11, x 12, x 13, x 14, x 15, x 16, x 17, x 18, x 19, x 20, x 21, x 22, x 23, x 24, _, _, _, _, _, _, _, _, _, _, _, _, _, _, _, _, _, _, _, _, _, _, _, _, _, _, _, _, _, _, _, _, _, _, _, _, _, _, _, _, _, _, _, _, _, _, _, _, _, _, _, _, _, _, _, _, _, _, _, _, _, _, _, _, _, _, _, _, _, _, _], []⟩ : Act) v
              have qq := gv.keep s0c
              refine wpOp_step rfl (fun K' hK' => ?_)
              go_simp
              exact hK' _ _ (hK _ _ (Below.refl _ _) (at_of rfl (rfl)))
            · show wpOp Try.prog _ _ 2 K (⟨#[_, _, _, _, _, _, _, _, _, _, _, _, _, _, _, _, _, _, _, _, _, _, _, _, _, _, _, _, _, _, _, _, _, _, _, _, _, _, _, _, _, _, _, _, _, _, _, _, _, _, _, _, _, _, _, _, _, _, _, _, _, _, _, _, _, _, _, _, _, _, _, _, _, _, _, _, _, _, _, _, _, _, _, _, _, _, _, _, _, _, _, _, _, _, _, _, _, _, _, _, _, _, _, _, _, _, _, _, _, _, _, _, _, _, _, _, _, _, _, _, _, _, _, _, _, _, _, _, _, _, _, _, _, _, _, _, _, _, _, _, _, _, _, _, _, _, _, _, _, _, _, _, _, _, _, _, _, _, _, _, _, _, _, _, _, _, _, _, _, _, _, _, _, _, _, _, _, _, _, _, _, _, _, _, _, _, _, _, _, _, _, _, _, _, _, _, _, _, _, _, _, _, _, _, _, _, _, _, _, _, _, _, _, _, _, _, _, _, _, _, _, x 0, x 1, x 2, x 3, x 4, x 5, x 6, x 7, x 8, x 9, x 10, x 11, x 12, x 13, x 14, x 15, x 16, x 17, x 18, x 19, x 20, x 21, x 22, x 23, x 24, _, _, _, _, _, _, _, _, _, _, _, _, _, _, _, _, _, _, _, _, _, _, _, _, _, _, _, _, _, _, _, _, _, _, _, _, _, _, _, _, _, _, _, _, _, _, _, _, _, _, _, _, _, _, _, _, _, _, _, _, _, _, _, _, _, _, _, _, _, _, _], []⟩ : Act) v
              refine wpOp_step rfl (fun K' hK' => ?_)
              go_simp
              exact hK' _ _ (hK _ _ (Below.refl _ _) (at_of rfl (rfl)))
            · show wpOp Try.prog _ _ 3 K (⟨#[_, _, _, _, _, _, _, _, _, _, _, _, _, _, _, _, _, _, _, _, _, _, _, _, _, _, _, _, _, _, _, _, _, _, _, _, _, _, _, _, _, _, _, _, _, _, _, _, _, _, _, _, _, _, _, _, _, _, _, _, _, _, _, _, _, _, _, _, _, _, _, _, _, _, _, _, _, _, _, _, _, _, _, _, _, _, _, _, _, _, _, _, _, _, _, _, _, _, _, _, _, _, _, _, _, _, _, _, _, _, _, _, _, _, _, _, _, _, _, _, _, _, _, _, _, _, _, _, _, _, _, _, _, _, _, _, _, _, _, _, _, _, _, _, _, _, _, _, _, _, _, _, _, _, _, _, _, _, _, _, _, _, _, _, _, _, _, _, _, _, _, _, _, _, _, _, _, _, _, _, _, _, _, _, _, _, _, _, _, _, _, _, _, _, _, _, _, _, _, _, _, _, _, _, _, _, _, _, _, _, _, _, _, _, _, _, _, _, _, _, _, x 0, x 1, x 2, x 3, x 4, x 5, x 6, x 7, x 8, x 9, x 10, x 11, x 12, x 13, x 14, x 15, x 16, x 17, x 18, x 19, x 20, x 21, x 22, x 23, x 24, _, _, _, _, _, _, _, _, _, _, _, _, _, _, _, _, _, _, _, _, _, _, _, _, _, _, _, _, _, _, _, _, _, _, _, _, _, _, _, _, _, _, _, _, _, _, _, _, _, _, _, _, _, _, _, _, _, _, _, _, _, _, _, _, _, _, _, _, _, _, _], []⟩ : Act) v
              refine wpOp_step rfl (fun K' hK' => ?_)
              go_simp
              exact hK' _ _ (hK _ _ (Below.refl _ _) (at_of rfl (rfl)))
            · show wpOp Try.prog _ _ 4 K (⟨#[_, _, _, _, _, _, _, _, _, _, _, _, _, _, _, _, _, _, _, _, _, _, _, _, _, _, _, _, _, _, _, _, _, _, _, _, _, _, _, _, _, _, _, _, _, _, _, _, _, _, _, _, _, _, _, _, _, _, _, _, _, _, _, _, _, _, _, _, _, _, _, _, _, _, _, _, _, _, _, _, _, _, _, _, _, _, _, _, _, _, _, _, _, _, _, _, _, _, _, _, _, _, _, _, _, _, _, _, _, _, _, _, _, _, _, _, _, _, _, _, _, _, _, _, _, _, _, _, _, _, _, _, _, _, _, _, _, _, _, _, _, _, _, _, _, _, _, _, _, _, _, _, _, _, _, _, _, _, _, _, _, _, _, _, _, _, _, _, _, _, _, _, _, _, _, _, _, _, _, _, _, _, _, _, _, _, _, _, _, _, _, _, _, _, _, _, _, _, _, _, _, _, _, _, _, _, _, _, _, _, _, _, _, _, _, _, _, _, _, _, _, x 0, x 1, x 2, x 3, x 4, x 5, x 6, x 7, x 8, x 9, x 10, x 11, x 12, x 13, x 14, x 15, x 16, x 17, x 18, x 19, x 20, x 21, x 22, x 23, x 24, _, _, _, _, _, _, _, _, _, _, _, _, _, _, _, _, _, _, _, _, _, _, _, _, _, _, _, _, _, _, _, _, _, _, _, _, _, _, _, _, _, _, _, _, _, _, _, _, _, _, _, _, _, _, _, _, _, _, _, _, _, _, _, _, _, _, _, _, _, _, _], []⟩ : Act) v
              refine wpOp_step rfl (fun K' hK' => ?_)
              go_simp
              exact hK' _ _ (hK _ _ (Below.refl _ _) (at_of rfl (rfl)))
            · obtain ⟨x, rfl⟩ := upd_of (show x 3 = .slice (some ⟨b1, o1, none⟩) 6 rc5 from hd 3 _ (by simp) rfl)
              obtain ⟨x, rfl⟩ := upd_of (show x 4 = .int .i64 (k : Int) from hd 4 _ (by simp) rfl)
              show wpOp Try.prog _ _ 5 K (⟨#[_, _, _, _, _, _, _, _, _, _, _, _, _, _, _, _, _, _, _, _, _, _, _, _, _, _, _, _, _, _, _, _, _, _, _, _, _, _, _, _, _, _, _, _, _, _, _, _, _, _, _, _, _, _, _, _, _, _, _, _, _, _, _, _, _, _, _, _, _, _, _, _, _, _, _, _, _, _, _, _, _, _, _, _, _, _, _, _, _, _, _, _, _, _, _, _, _, _, _, _, _, _, _, _, _, _, _, _, _, _, _, _, _, _, _, _, _, _, _, _, _, _, _, _, _, _, _, _, _, _, _, _, _, _, _, _, _, _, _, _, _, _, _, _, _, _, _, _, _, _, _, _, _, _, _, _, _, _, _, _, _, _, _, _, _, _, _, _, _, _, _, _, _, _, _, _, _, _, _, _, _, _, _, _, _, _, _, _, _, _, _, _, _, _, _, _, _, _, _, _, _, _, _, _, _, _, _, _, _, _, _, _, _, _, _, _, _, _, _, _, _, x 0, x 1, x 2, .slice (some ⟨b1, o1, none⟩) 6 rc5, .int .i64 (k : Int), x 5, x 6, x 7, x 8, x 9, x 10, x 11, x 12, x 13, x 14, x 15, x 16, x 17, x 18, x 19, x 20, x 21, x 22, x 23, x 24, _, _, _, _, _, _, _, _, _, _, _, _, _, _, _, _, _, _, _, _, _, _, _, _, _, _, _, _, _, _, _, _, _, _, _, _, _, _, _, _, _, _, _, _, _, _, _, _, _, _, _, _, _, _, _, _, _, _, _, _, _, _, _, _, _, _, _, _, _, _, _], []⟩ : Act) v
              refine wpOp_step rfl (fun K' hK' => ?_)
              go_simp
              exact hK' _ _ (hK _ _ (Below.refl _ _) (at_of rfl (rfl)))
            · obtain ⟨x, rfl⟩ := upd_of (show x 5 = .pointer (some ⟨b1, o1 + k, none⟩) from hd 5 _ (by simp) rfl)
              show wpOp Try.prog _ _ 6 K (⟨#[_, _, _, _, _, _, _, _, _, _, _, _, _, _, _, _, _, _, _, _, _, _, _, _, _, _, _, _, _, _, _, _, _, _, _, _, _, _, _, _, _, _, _, _, _, _, _, _, _, _, _, _, _, _, _, _, _, _, _, _, _, _, _, _, _, _, _, _, _, _, _, _, _, _, _, _, _, _, _, _, _, _, _, _, _, _, _, _, _, _, _, _, _, _, _, _, _, _, _, _, _, _, _, _, _, _, _, _, _, _, _, _, _, _, _, _, _, _, _, _, _, _, _, _, _, _, _, _, _, _, _, _, _, _, _, _, _, _, _, _, _, _, _, _, _, _, _, _, _, _, _, _, _, _, _, _, _, _, _, _, _, _, _, _, _, _, _, _, _, _, _, _, _, _, _, _, _, _, _, _, _, _, _, _, _, _, _, _, _, _, _, _, _, _, _, _, _, _, _, _, _, _, _, _, _, _, _, _, _, _, _, _, _, _, _, _, _, _, _, _, _, x 0, x 1, x 2, x 3, x 4, .pointer (some ⟨b1, o1 + k, none⟩), x 6, x 7, x 8, x 9, x 10, x 11, x 12, x 13, x 14, x 15, x 16, x 17, x 18, x 19, x 20, x 21, x 22, x 23, x 24, _, _, _, _, _, _, _, _, _, _, _, _, _, _, _, _, _, _, _, _, _, _, _, _, _, _, _, _, _, _, _, _, _, _, _, _, _, _, _, _, _, _, _, _, _, _, _, _, _, _, _, _, _, _, _, _, _, _, _, _, _, _, _, _, _, _, _, _, _, _, _], []⟩ : Act) v
              have qq := gv.keep c1
              refine wpOp_step rfl (fun K' hK' => ?_)
              go_simp
              exact hK' _ _ (hK _ _ (Below.refl _ _) (at_of rfl (rfl)))
            · obtain ⟨x, rfl⟩ := upd_of (show x 2 = .slice (some ⟨b2, o2, none⟩) 6 cap from hd 2 _ (by simp) rfl)
              obtain ⟨x, rfl⟩ := upd_of (show x 6 = .int .i64 (n : Int) from hd 6 _ (by simp) rfl)
              show wpOp Try.prog _ _ 7 K (⟨#[_, _, _, _, _, _, _, _, _, _, _, _, _, _, _, _, _, _, _, _, _, _, _, _, _, _, _, _, _, _, _, _, _, _, _, _, _, _, _, _, _, _, _, _, _, _, _, _, _, _, _, _, _, _, _, _, _, _, _, _, _, _, _, _, _, _, _, _, _, _, _, _, _, _, _, _, _, _, _, _, _, _, _, _, _, _, _, _, _, _, _, _, _, _, _, _, _, _, _, _, _, _, _, _, _, _, _, _, _, _, _, _, _, _, _, _, _, _, _, _, _, _, _, _, _, _, _, _, _, _, _, _, _, _, _, _, _, _, _, _, _, _, _, _, _, _, _, _, _, _, _, _, _, _, _, _, _, _, _, _, _, _, _, _, _, _, _, _, _, _, _, _, _, _, _, _, _, _, _, _, _, _, _, _, _, _, _, _, _, _, _, _, _, _, _, _, _, _, _, _, _, _, _, _, _, _, _, _, _, _, _, _, _, _, _, _, _, _, _, _, _, x 0, x 1, .slice (some ⟨b2, o2, none⟩) 6 cap, x 3, x 4, x 5, .int .i64 (n : Int), x 7, x 8, x 9, x 10, x 11, x 12, x 13, x 14, x 15, x 16, x 17, x 18, x 19, x 20, x 21, x 22, x 23, x 24, _, _, _, _, _, _, _, _, _, _, _, _, _, _, _, _, _, _, _, _, _, _, _, _, _, _, _, _, _, _, _, _, _, _, _, _, _, _, _, _, _, _, _, _, _, _, _, _, _, _, _, _, _, _, _, _, _, _, _, _, _, _, _, _, _, _, _, _, _, _, _], []⟩ : Act) v
              refine wpOp_step rfl (fun K' hK' => ?_)
              go_simp
              exact hK' _ _ (hK _ _ (Below.refl _ _) (at_of rfl (rfl)))
            · obtain ⟨x, rfl⟩ := upd_of (show x 7 = .pointer (some ⟨b2, o2 + n * 4, none⟩) from hd 7 _ (by simp) rfl)
              show wpOp Try.prog _ _ 8 K (⟨#[_, _, _, _, _, _, _, _, _, _, _, _, _, _, _, _, _, _, _, _, _, _, _, _, _, _, _, _, _, _, _, _, _, _, _, _, _, _, _, _, _, _, _, _, _, _, _, _, _, _, _, _, _, _, _, _, _, _, _, _, _, _, _, _, _, _, _, _, _, _, _, _, _, _, _, _, _, _, _, _, _, _, _, _, _, _, _, _, _, _, _, _, _, _, _, _, _, _, _, _, _, _, _, _, _, _, _, _, _, _, _, _, _, _, _, _, _, _, _, _, _, _, _, _, _, _, _, _, _, _, _, _, _, _, _, _, _, _, _, _, _, _, _, _, _, _, _, _, _, _, _, _, _, _, _, _, _, _, _, _, _, _, _, _, _, _, _, _, _, _, _, _, _, _, _, _, _, _, _, _, _, _, _, _, _, _, _, _, _, _, _, _, _, _, _, _, _, _, _, _, _, _, _, _, _, _, _, _, _, _, _, _, _, _, _, _, _, _, _, _, _, x 0, x 1, x 2, x 3, x 4, x 5, x 6, .pointer (some ⟨b2, o2 + n * 4, none⟩), x 8, x 9, x 10, x 11, x 12, x 13, x 14, x 15, x 16, x 17, x 18, x 19, x 20, x 21, x 22, x 23, x 24, _, _, _, _, _, _, _, _, _, _, _, _, _, _, _, _, _, _, _, _, _, _, _, _, _, _, _, _, _, _, _, _, _, _, _, _, _, _, _, _, _, _, _, _, _, _, _, _, _, _, _, _, _, _, _, _, _, _, _, _, _, _, _, _, _, _, _, _, _, _, _], []⟩ : Act) v
              refine wpOp_step rfl (fun K' hK' => ?_)
              go_simp
              exact hK' _ _ (hK _ _ (Below.refl _ _) (at_of rfl (rfl)))
            · obtain ⟨x, rfl⟩ := upd_of (show x 8 = .pointer (some ⟨b2, o2 + n * 4 + 2, none⟩) from hd 8 _ (by simp) rfl)
              show wpOp Try.prog _ _ 9 K (⟨#[_, _, _, _, _, _, _, _, _, _, _, _, _, _, _, _, _, _, _, _, _, _, _, _, _, _, _, _, _, _, _, _, _, _, _, _, _, _, _, _, _, _, _, _, _, _, _, _, _, _, _, _, _, _, _, _, _, _, _, _, _, _, _, _, _, _, _, _, _, _, _, _, _, _, _, _, _, _, _, _, _, _, _, _, _, _, _, _, _, _, _, _, _, _, _, _, _, _, _, _, _, _, _, _, _, _, _, _, _, _, _, _, _, _, _, _, _, _, _, _, _, _, _, _, _, _, _, _, _, _, _, _, _, _, _, _, _, _, _, _, _, _, _, _, _, _, _, _, _, _, _, _, _, _, _, _, _, _, _, _, _, _, _, _, _, _, _, _, _, _, _, _, _, _, _, _, _, _, _, _, _, _, _, _, _, _, _, _, _, _, _, _, _, _, _, _, _, _, _, _, _, _, _, _, _, _, _, _, _, _, _, _, _, _, _, _, _, _, _, _, _, x 0, x 1, x 2, x 3, x 4, x 5, x 6, x 7, .pointer (some ⟨b2, o2 + n * 4 + 2, none⟩), x 9, x 10, x 11, x 12, x 13, x 14, x 15, x 16, x 17, x 18, x 19, x 20, x 21, x 22, x 23, x 24, _, _, _, _, _, _, _, _, _, _, _, _, _, _, _, _, _, _, _, _, _, _, _, _, _, _, _, _, _, _, _, _, _, _, _, _, _, _, _, _, _, _, _, _, _, _, _, _, _, _, _, _, _, _, _, _, _, _, _, _, _, _, _, _, _, _, _, _, _, _, _], []⟩ : Act) v
              refine wpOp_step rfl (fun K' hK' => ?_)
              go_simp
              exact hK' _ _ (hK _ _ (Below.refl _ _) (at_of rfl (rfl)))
            · obtain ⟨x, rfl⟩ := upd_of (show x 9 = .pointer (some ⟨b2, o2 + n * 4 + 2, none⟩) from hd 9 _ (by simp) rfl)
              show wpOp Try.prog _ _ 10 K (⟨#[_, _, _, _, _, _, _, _, _, _, _, _, _, _, _, _, _, _, _, _, _, _, _, _, _, _, _, _, _, _, _, _, _, _, _, _, _, _, _, _, _, _, _, _, _, _, _, _, _, _, _, _, _, _, _, _, _, _, _, _, _, _, _, _, _, _, _, _, _, _, _, _, _, _, _, _, _, _, _, _, _, _, _, _, _, _, _, _, _, _, _, _, _, _, _, _, _, _, _, _, _, _, _, _, _, _, _, _, _, _, _, _, _, _, _, _, _, _, _, _, _, _, _, _, _, _, _, _, _, _, _, _, _, _, _, _, _, _, _, _, _, _, _, _, _, _, _, _, _, _, _, _, _, _, _, _, _, _, _, _, _, _, _, _, _, _, _, _, _, _, _, _, _, _, _, _, _, _, _, _, _, _, _, _, _, _, _, _, _, _, _, _, _, _, _, _, _, _, _, _, _, _, _, _, _, _, _, _, _, _, _, _, _, _, _, _, _, _, _, _, _, x 0, x 1, x 2, x 3, x 4, x 5, x 6, x 7, x 8, .pointer (some ⟨b2, o2 + n * 4 + 2, none⟩), x 10, x 11, x 12, x 13, x 14, x 15, x 16, x 17, x 18, x 19, x 20, x 21, x 22, x 23, x 24, _, _, _, _, _, _, _, _, _, _, _, _, _, _, _, _, _, _, _, _, _, _, _, _, _, _, _, _, _, _, _, _, _, _, _, _, _, _, _, _, _, _, _, _, _, _, _, _, _, _, _, _, _, _, _, _, _, _, _, _, _, _, _, _, _, _, _, _, _, _, _], []⟩ : Act) v
              have qq := gv.keep d2
              refine wpOp_step rfl (fun K' hK' => ?_)
              go_simp
              exact hK' _ _ (hK _ _ (Below.refl _ _) (at_of rfl (rfl)))
            · obtain ⟨x, rfl⟩ := upd_of (show x 1 = .int .i64 S0 from hd 1 _ (by simp) rfl)
              obtain ⟨x, rfl⟩ := upd_of (show x 10 = .int .i64 wl from hd 10 _ (by simp) rfl)
              show wpOp Try.prog _ _ 11 K (⟨#[_, _, _, _, _, _, _, _, _, _, _, _, _, _, _, _, _, _, _, _, _, _, _, _, _, _, _, _, _, _, _, _, _, _, _, _, _, _, _, _, _, _, _, _, _, _, _, _, _, _, _, _, _, _, _, _, _, _, _, _, _, _, _, _, _, _, _, _, _, _, _, _, _, _, _, _, _, _, _, _, _, _, _, _, _, _, _, _, _, _, _, _, _, _, _, _, _, _, _, _, _, _, _, _, _, _, _, _, _, _, _, _, _, _, _, _, _, _, _, _, _, _, _, _, _, _, _, _, _, _, _, _, _, _, _, _, _, _, _, _, _, _, _, _, _, _, _, _, _, _, _, _, _, _, _, _, _, _, _, _, _, _, _, _, _, _, _, _, _, _, _, _, _, _, _, _, _, _, _, _, _, _, _, _, _, _, _, _, _, _, _, _, _, _, _, _, _, _, _, _, _, _, _, _, _, _, _, _, _, _, _, _, _, _, _, _, _, _, _, _, _, x 0, .int .i64 S0, x 2, x 3, x 4, x 5, x 6, x 7, x 8, x 9, .int .i64 wl, x 11, x 12, x 13, x 14, x 15, x 16, x 17, x 18, x 19, x 20, x 21, x 22, x 23, x 24, _, _, _, _, _, _, _, _, _, _, _, _, _, _, _, _, _, _, _, _, _, _, _, _, _, _, _, _, _, _, _, _, _, _, _, _, _, _, _, _, _, _, _, _, _, _, _, _, _, _, _, _, _, _, _, _, _, _, _, _, _, _, _, _, _, _, _, _, _, _, _], []⟩ : Act) v
              refine wpOp_step rfl (fun K' hK' => ?_)
              go_simp
              exact hK' _ _ (hK _ _ (Below.refl _ _) (at_of rfl (rfl)))
            · show wpOp Try.prog _ _ 12 K (⟨#[_, _, _, _, _, _, _, _, _, _, _, _, _, _, _, _, _, _, _, _, _, _, _, _, _, _, _, _, _, _, _, _, _, _, _, _, _, _, _, _, _, _, _, _, _, _, _, _, _, _, _, _, _, _, _, _, _, _, _, _, _, _, _, _, _, _, _, _, _, _, _, _, _, _, _, _, _, _, _, _, _, _, _, _, _, _, _, _, _, _, _, _, _, _, _, _, _, _, _, _, _, _, _, _, _, _, _, _, _, _, _, _, _, _, _, _, _, _, _, _, _, _, _, _, _, _, _, _, _, _, _, _, _, _, _, _, _, _, _, _, _, _, _, _, _, _, _, _, _, _, _, _, _, _, _, _, _, _, _, _, _, _, _, _, _, _, _, _, _, _, _, _, _, _, _, _, _, _, _, _, _, _, _, _, _, _, _, _, _, _, _, _, _, _, _, _, _, _, _, _, _, _, _, _, _, _, _, _, _, _, _, _, _, _, _, _, _, _, _, _, _, x 0, x 1, x 2, x 3, x 4, x 5, x 6, x 7, x 8, x 9, x 10, x 11, x 12, x 13, x 14, x 15, x 16, x 17, x 18, x 19, x 20, x 21, x 22, x 23, x 24, _, _, _, _, _, _, _, _, _, _, _, _, _, _, _, _, _, _, _, _, _, _, _, _, _, _, _, _, _, _, _, _, _, _, _, _, _, _, _, _, _, _, _, _, _, _, _, _, _, _, _, _, _, _, _, _, _, _, _, _, _, _, _, _, _, _, _, _, _, _, _], []⟩ : Act) v
              refine wpOp_step rfl (fun K' hK' => ?_)
              go_simp
              exact hK' _ _ (hK _ _ (Below.refl _ _) (at_of rfl (rfl)))
            · obtain ⟨x, rfl⟩ := upd_of (show x 12 = .pointer (some ⟨E0 + 1, 1, none⟩) from hd 12 _ (by simp) rfl)
              show wpOp Try.prog _ _ 13 K (⟨#[_, _, _, _, _, _, _, _, _, _, _, _, _, _, _, _, _, _, _, _, _, _, _, _, _, _, _, _, _, _, _, _, _, _, _, _, _, _, _, _, _, _, _, _, _, _, _, _, _, _, _, _, _, _, _, _, _, _, _, _, _, _, _, _, _, _, _, _, _, _, _, _, _, _, _, _, _, _, _, _, _, _, _, _, _, _, _, _, _, _, _, _, _, _, _, _, _, _, _, _, _, _, _, _, _, _, _, _, _, _, _, _, _, _, _, _, _, _, _, _, _, _, _, _, _, _, _, _, _, _, _, _, _, _, _, _, _, _, _, _, _, _, _, _, _, _, _, _, _, _, _, _, _, _, _, _, _, _, _, _, _, _, _, _, _, _, _, _, _, _, _, _, _, _, _, _, _, _, _, _, _, _, _, _, _, _, _, _, _, _, _, _, _, _, _, _, _, _, _, _, _, _, _, _, _, _, _, _, _, _, _, _, _, _, _, _, _, _, _, _, _, x 0, x 1, x 2, x 3, x 4, x 5, x 6, x 7, x 8, x 9, x 10, x 11, .pointer (some ⟨E0 + 1, 1, none⟩), x 13, x 14, x 15, x 16, x 17, x 18, x 19, x 20, x 21, x 22, x 23, x 24, _, _, _, _, _, _, _, _, _, _, _, _, _, _, _, _, _, _, _, _, _, _, _, _, _, _, _, _, _, _, _, _, _, _, _, _, _, _, _, _, _, _, _, _, _, _, _, _, _, _, _, _, _, _, _, _, _, _, _, _, _, _, _, _, _, _, _, _, _, _, _], []⟩ : Act) v
              have qq := gv.keep s1c
              refine wpOp_step rfl (fun K' hK' => ?_)
              go_simp
              exact hK' _ _ (hK _ _ (Below.refl _ _) (at_of rfl (rfl)))
            · show wpOp Try.prog _ _ 14 K (⟨#[_, _, _, _, _, _, _, _, _, _, _, _, _, _, _, _, _, _, _, _, _, _, _, _, _, _, _, _, _, _, _, _, _, _, _, _, _, _, _, _, _, _, _, _, _, _, _, _, _, _, _, _, _, _, _, _, _, _, _, _, _, _, _, _, _, _, _, _, _, _, _, _, _, _, _, _, _, _, _, _, _, _, _, _, _, _, _, _, _, _, _, _, _, _, _, _, _, _, _, _, _, _, _, _, _, _, _, _, _, _, _, _, _, _, _, _, _, _, _, _, _, _, _, _, _, _, _, _, _, _, _, _, _, _, _, _, _, _, _, _, _, _, _, _, _, _, _, _, _, _, _, _, _, _, _, _, _, _, _, _, _, _, _, _, _, _, _, _, _, _, _, _, _, _, _, _, _, _, _, _, _, _, _, _, _, _, _, _, _, _, _, _, _, _, _, _, _, _, _, _, _, _, _, _, _, _, _, _, _, _, _, _, _, _, _, _, _, _, _, _, _, x 0, x 1, x 2, x 3, x 4, x 5, x 6, x 7, x 8, x 9, x 10, x 11, x 12, x 13, x 14, x 15, x 16, x 17, x 18, x 19, x 20, x 21, x 22, x 23, x 24, _, _, _, _, _, _, _, _, _, _, _, _, _, _, _, _, _, _, _, _, _, _, _, _, _, _, _, _, _, _, _, _, _, _, _, _, _, _, _, _, _, _, _, _, _, _, _, _, _, _, _, _, _, _, _, _, _, _, _, _, _, _, _, _, _, _, _, _, _, _, _], []⟩ : Act) v
              refine wpOp_step rfl (fun K' hK' => ?_)
              go_simp
              exact hK' _ _ (hK _ _ (Below.refl _ _) (at_of rfl (rfl)))
            · show wpOp Try.prog _ _ 15 K (⟨#[_, _, _, _, _, _, _, _, _, _, _, _, _, _, _, _, _, _, _, _, _, _, _, _, _, _, _, _, _, _, _, _, _, _, _, _, _, _, _, _, _, _, _, _, _, _, _, _, _, _, _, _, _, _, _, _, _, _, _, _, _, _, _, _, _, _, _, _, _, _, _, _, _, _, _, _, _, _, _, _, _, _, _, _, _, _, _, _, _, _, _, _, _, _, _, _, _, _, _, _, _, _, _, _, _, _, _, _, _, _, _, _, _, _, _, _, _, _, _, _, _, _, _, _, _, _, _, _, _, _, _, _, _, _, _, _, _, _, _, _, _, _, _, _, _, _, _, _, _, _, _, _, _, _, _, _, _, _, _, _, _, _, _, _, _, _, _, _, _, _, _, _, _, _, _, _, _, _, _, _, _, _, _, _, _, _, _, _, _, _, _, _, _, _, _, _, _, _, _, _, _, _, _, _, _, _, _, _, _, _, _, _, _, _, _, _, _, _, _, _, _, x 0, x 1, x 2, x 3, x 4, x 5, x 6, x 7, x 8, x 9, x 10, x 11, x 12, x 13, x 14, x 15, x 16, x 17, x 18, x 19, x 20, x 21, x 22, x 23, x 24, _, _, _, _, _, _, _, _, _, _, _, _, _, _, _, _, _, _, _, _, _, _, _, _, _, _, _, _, _, _, _, _, _, _, _, _, _, _, _, _, _, _, _, _, _, _, _, _, _, _, _, _, _, _, _, _, _, _, _, _, _, _, _, _, _, _, _, _, _, _, _], []⟩ : Act) v
              refine wpOp_step rfl (fun K' hK' => ?_)
              go_simp
              exact hK' _ _ (hK _ _ (Below.refl _ _) (at_of rfl (rfl)))
            · show wpOp Try.prog _ _ 16 K (⟨#[_, _, _, _, _, _, _, _, _, _, _, _, _, _, _, _, _, _, _, _, _, _, _, _, _, _, _, _, _, _, _, _, _, _, _, _, _, _, _, _, _, _, _, _, _, _, _, _, _, _, _, _, _, _, _, _, _, _, _, _, _, _, _, _, _, _, _, _, _, _, _, _, _, _, _, _, _, _, _, _, _, _, _, _, _, _, _, _, _, _, _, _, _, _, _, _, _, _, _, _, _, _, _, _, _, _, _, _, _, _, _, _, _, _, _, _, _, _, _, _, _, _, _, _, _, _, _, _, _, _, _, _, _, _, _, _, _, _, _, _, _, _, _, _, _, _, _, _, _, _, _, _, _, _, _, _, _, _, _, _, _, _, _, _, _, _, _, _, _, _, _, _, _, _, _, _, _, _, _, _, _, _, _, _, _, _, _, _, _, _, _, _, _, _, _, _, _, _, _, _, _, _, _, _, _, _, _, _, _, _, _, _, _, _, _, _, _, _, _, _, _, x 0, x 1, x 2, x 3, x 4, x 5, x 6, x 7, x 8, x 9, x 10, x 11, x 12, x 13, x 14, x 15, x 16, x 17, x 18, x 19, x 20, x 21, x 22, x 23, x 24, _, _, _, _, _, _, _, _, _, _, _, _, _, _, _, _, _, _, _, _, _, _, _, _, _, _, _, _, _, _, _, _, _, _, _, _, _, _, _, _, _, _, _, _, _, _, _, _, _, _, _, _, _, _, _, _, _, _, _, _, _, _, _, _, _, _, _, _, _, _, _], []⟩ : Act) v
              refine wpOp_step rfl (fun K' hK' => ?_)
              go_simp
              exact hK' _ _ (hK _ _ (Below.refl _ _) (at_of rfl (rfl)))
            · obtain ⟨x, rfl⟩ := upd_of (show x 15 = .slice (some ⟨b1, o1, none⟩) 6 rc5 from hd 15 _ (by simp) rfl)
              obtain ⟨x, rfl⟩ := upd_of (show x 16 = .int .i64 (k : Int) from hd 16 _ (by simp) rfl)
              show wpOp Try.prog _ _ 17 K (⟨#[_, _, _, _, _, _, _, _, _, _, _, _, _, _, _, _, _, _, _, _, _, _, _, _, _, _, _, _, _, _, _, _, _, _, _, _, _, _, _, _, _, _, _, _, _, _, _, _, _, _, _, _, _, _, _, _, _, _, _, _, _, _, _, _, _, _, _, _, _, _, _, _, _, _, _, _, _, _, _, _, _, _, _, _, _, _, _, _, _, _, _, _, _, _, _, _, _, _, _, _, _, _, _, _, _, _, _, _, _, _, _, _, _, _, _, _, _, _, _, _, _, _, _, _, _, _, _, _, _, _, _, _, _, _, _, _, _, _, _, _, _, _, _, _, _, _, _, _, _, _, _, _, _, _, _, _, _, _, _, _, _, _, _, _, _, _, _, _, _, _, _, _, _, _, _, _, _, _, _, _, _, _, _, _, _, _, _, _, _, _, _, _, _, _, _, _, _, _, _, _, _, _, _, _, _, _, _, _, _, _, _, _, _, _, _, _, _, _, _, _, _, x 0, x 1, x 2, x 3, x 4, x 5, x 6, x 7, x 8, x 9, x 10, x 11, x 12, x 13, x 14, .slice (some ⟨b1, o1, none⟩) 6 rc5, .int .i64 (k : Int), x 17, x 18, x 19, x 20, x 21, x 22, x 23, x 24, _, _, _, _, _, _, _, _, _, _, _, _, _, _, _, _, _, _, _, _, _, _, _, _, _, _, _, _, _, _, _, _, _, _, _, _, _, _, _, _, _, _, _, _, _, _, _, _, _, _, _, _, _, _, _, _, _, _, _, _, _, _, _, _, _, _, _, _, _, _, _], []⟩ : Act) v
              refine wpOp_step rfl (fun K' hK' => ?_)
              go_simp
              exact hK' _ _ (hK _ _ (Below.refl _ _) (at_of rfl (rfl)))
            · obtain ⟨x, rfl⟩ := upd_of (show x 17 = .pointer (some ⟨b1, o1 + k, none⟩) from hd 17 _ (by simp) rfl)
              show wpOp Try.prog _ _ 18 K (⟨#[_, _, _, _, _, _, _, _, _, _, _, _, _, _, _, _, _, _, _, _, _, _, _, _, _, _, _, _, _, _, _, _, _, _, _, _, _, _, _, _, _, _, _, _, _, _, _, _, _, _, _, _, _, _, _, _, _, _, _, _, _, _, _, _, _, _, _, _, _, _, _, _, _, _, _, _, _, _, _, _, _, _, _, _, _, _, _, _, _, _, _, _, _, _, _, _, _, _, _, _, _, _, _, _, _, _, _, _, _, _, _, _, _, _, _, _, _, _, _, _, _, _, _, _, _, _, _, _, _, _, _, _, _, _, _, _, _, _, _, _, _, _, _, _, _, _, _, _, _, _, _, _, _, _, _, _, _, _, _, _, _, _, _, _, _, _, _, _, _, _, _, _, _, _, _, _, _, _, _, _, _, _, _, _, _, _, _, _, _, _, _, _, _, _, _, _, _, _, _, _, _, _, _, _, _, _, _, _, _, _, _, _, _, _, _, _, _, _, _, _, _, x 0, x 1, x 2, x 3, x 4, x 5, x 6, x 7, x 8, x 9, x 10, x 11, x 12, x 13, x 14, x 15, x 16, .pointer (some ⟨b1, o1 + k, none⟩), x 18, x 19, x 20, x 21, x 22, x 23, x 24, _, _, _, _, _, _, _, _, _, _, _, _, _, _, _, _, _, _, _, _, _, _, _, _, _, _, _, _, _, _, _, _, _, _, _, _, _, _, _, _, _, _, _, _, _, _, _, _, _, _, _, _, _, _, _, _, _, _, _, _, _, _, _, _, _, _, _, _, _, _, _], []⟩ : Act) v
              have qq := gv.keep c1
              refine wpOp_step rfl (fun K' hK' => ?_)
              go_simp
              exact hK' _ _ (hK _ _ (Below.refl _ _) (at_of rfl (rfl)))
            · obtain ⟨x, rfl⟩ := upd_of (show x 14 = .slice (some ⟨b2, o2, none⟩) 6 cap from hd 14 _ (by simp) rfl)
              obtain ⟨x, rfl⟩ := upd_of (show x 18 = .int .i64 (n : Int) from hd 18 _ (by simp) rfl)
              show wpOp Try.prog _ _ 19 K (⟨#[_, _, _, _, _, _, _, _, _, _, _, _, _, _, _, _, _, _, _, _, _, _, _, _, _, _, _, _, _, _, _, _, _, _, _, _, _, _, _, _, _, _, _, _, _, _, _, _, _, _, _, _, _, _, _, _, _, _, _, _, _, _, _, _, _, _, _, _, _, _, _, _, _, _, _, _, _, _, _, _, _, _, _, _, _, _, _, _, _, _, _, _, _, _, _, _, _, _, _, _, _, _, _, _, _, _, _, _, _, _, _, _, _, _, _, _, _, _, _, _, _, _, _, _, _, _, _, _, _, _, _, _, _, _, _, _, _, _, _, _, _, _, _, _, _, _, _, _, _, _, _, _, _, _, _, _, _, _, _, _, _, _, _, _, _, _, _, _, _, _, _, _, _, _, _, _, _, _, _, _, _, _, _, _, _, _, _, _, _, _, _, _, _, _, _, _, _, _, _, _, _, _, _, _, _, _, _, _, _, _, _, _, _, _, _, _, _, _, _, _, _, x 0, x 1, x 2, x 3, x 4, x 5, x 6, x 7, x 8, x 9, x 10, x 11, x 12, x 13, .slice (some ⟨b2, o2, none⟩) 6 cap, x 15, x 16, x 17, .int .i64 (n : Int), x 19, x 20, x 21, x 22, x 23, x 24, _, _, _, _, _, _, _, _, _, _, _, _, _, _, _, _, _, _, _, _, _, _, _, _, _, _, _, _, _, _, _, _, _, _, _, _, _, _, _, _, _, _, _, _, _, _, _, _, _, _, _, _, _, _, _, _, _, _, _, _, _, _, _, _, _, _, _, _, _, _, _], []⟩ : Act) v
              refine wpOp_step rfl (fun K' hK' => ?_)
              go_simp
              exact hK' _ _ (hK _ _ (Below.refl _ _) (at_of rfl (rfl)))
            · obtain ⟨x, rfl⟩ := upd_of (show x 19 = .pointer (some ⟨b2, o2 + n * 4, none⟩) from hd 19 _ (by simp) rfl)
              show wpOp Try.prog _ _ 20 K (⟨#[_, _, _, _, _, _, _, _, _, _, _, _, _, _, _, _, _, _, _, _, _, _, _, _, _, _, _, _, _, _, _, _, _, _, _, _, _, _, _, _, _, _, _, _, _, _, _, _, _, _, _, _, _, _, _, _, _, _, _, _, _, _, _, _, _, _, _, _, _, _, _, _, _, _, _, _, _, _, _, _, _, _, _, _, _, _, _, _, _, _, _, _, _, _, _, _, _, _, _, _, _, _, _, _, _, _, _, _, _, _, _, _, _, _, _, _, _, _, _, _, _, _, _, _, _, _, _, _, _, _, _, _, _, _, _, _, _, _, _, _, _, _, _, _, _, _, _, _, _, _, _, _, _, _, _, _, _, _, _, _, _, _, _, _, _, _, _, _, _, _, _, _, _, _, _, _, _, _, _, _, _, _, _, _, _, _, _, _, _, _, _, _, _, _, _, _, _, _, _, _, _, _, _, _, _, _, _, _, _, _, _, _, _, _, _, _, _, _, _, _, _, x 0, x 1, x 2, x 3, x 4, x 5, x 6, x 7, x 8, x 9, x 10, x 11, x 12, x 13, x 14, x 15, x 16, x 17, x 18, .pointer (some ⟨b2, o2 + n * 4, none⟩), x 20, x 21, x 22, x 23, x 24, _, _, _, _, _, _, _, _, _, _, _, _, _, _, _, _, _, _, _, _, _, _, _, _, _, _, _, _, _, _, _, _, _, _, _, _, _, _, _, _, _, _, _, _, _, _, _, _, _, _, _, _, _, _, _, _, _, _, _, _, _, _, _, _, _, _, _, _, _, _, _], []⟩ : Act) v
              refine wpOp_step rfl (fun K' hK' => ?_)
              go_simp
              exact hK' _ _ (hK _ _ (Below.refl _ _) (at_of rfl (rfl)))
            · obtain ⟨x, rfl⟩ := upd_of (show x 20 = .pointer (some ⟨b2, o2 + n * 4 + 2, none⟩) from hd 20 _ (by simp) rfl)
              show wpOp Try.prog _ _ 21 K (⟨#[_, _, _, _, _, _, _, _, _, _, _, _, _, _, _, _, _, _, _, _, _, _, _, _, _, _, _, _, _, _, _, _, _, _, _, _, _, _, _, _, _, _, _, _, _, _, _, _, _, _, _, _, _, _, _, _, _, _, _, _, _, _, _, _, _, _, _, _, _, _, _, _, _, _, _, _, _, _, _, _, _, _, _, _, _, _, _, _, _, _, _, _, _, _, _, _, _, _, _, _, _, _, _, _, _, _, _, _, _, _, _, _, _, _, _, _, _, _, _, _, _, _, _, _, _, _, _, _, _, _, _, _, _, _, _, _, _, _, _, _, _, _, _, _, _, _, _, _, _, _, _, _, _, _, _, _, _, _, _, _, _, _, _, _, _, _, _, _, _, _, _, _, _, _, _, _, _, _, _, _, _, _, _, _, _, _, _, _, _, _, _, _, _, _, _, _, _, _, _, _, _, _, _, _, _, _, _, _, _, _, _, _, _, _, _, _, _, _, _, _, _, x 0, x 1, x 2, x 3, x 4, x 5, x 6, x 7, x 8, x 9, x 10, x 11, x 12, x 13, x 14, x 15, x 16, x 17, x 18, x 19, .pointer (some ⟨b2, o2 + n * 4 + 2, none⟩), x 21, x 22, x 23, x 24, _, _, _, _, _, _, _, _, _, _, _, _, _, _, _, _, _, _, _, _, _, _, _, _, _, _, _, _, _, _, _, _, _, _, _, _, _, _, _, _, _, _, _, _, _, _, _, _, _, _, _, _, _, _, _, _, _, _, _, _, _, _, _, _, _, _, _, _, _, _, _], []⟩ : Act) v
              refine wpOp_step rfl (fun K' hK' => ?_)
              go_simp
              exact hK' _ _ (hK _ _ (Below.refl _ _) (at_of rfl (rfl)))
            · obtain ⟨x, rfl⟩ := upd_of (show x 21 = .pointer (some ⟨b2, o2 + n * 4 + 3, none⟩) from hd 21 _ (by simp) rfl)
              show wpOp Try.prog _ _ 22 K (⟨#[_, _, _, _, _, _, _, _, _, _, _, _, _, _, _, _, _, _, _, _, _, _, _, _, _, _, _, _, _, _, _, _, _, _, _, _, _, _, _, _, _, _, _, _, _, _, _, _, _, _, _, _, _, _, _, _, _, _, _, _, _, _, _, _, _, _, _, _, _, _, _, _, _, _, _, _, _, _, _, _, _, _, _, _, _, _, _, _, _, _, _, _, _, _, _, _, _, _, _, _, _, _, _, _, _, _, _, _, _, _, _, _, _, _, _, _, _, _, _, _, _, _, _, _, _, _, _, _, _, _, _, _, _, _, _, _, _, _, _, _, _, _, _, _, _, _, _, _, _, _, _, _, _, _, _, _, _, _, _, _, _, _, _, _, _, _, _, _, _, _, _, _, _, _, _, _, _, _, _, _, _, _, _, _, _, _, _, _, _, _, _, _, _, _, _, _, _, _, _, _, _, _, _, _, _, _, _, _, _, _, _, _, _, _, _, _, _, _, _, _, _, x 0, x 1, x 2, x 3, x 4, x 5, x 6, x 7, x 8, x 9, x 10, x 11, x 12, x 13, x 14, x 15, x 16, x 17, x 18, x 19, x 20, .pointer (some ⟨b2, o2 + n * 4 + 3, none⟩), x 22, x 23, x 24, _, _, _, _, _, _, _, _, _, _, _, _, _, _, _, _, _, _, _, _, _, _, _, _, _, _, _, _, _, _, _, _, _, _, _, _, _, _, _, _, _, _, _, _, _, _, _, _, _, _, _, _, _, _, _, _, _, _, _, _, _, _, _, _, _, _, _, _, _, _, _], []⟩ : Act) v
              have qq := gv.keep d3
              refine wpOp_step rfl (fun K' hK' => ?_)
              go_simp
              exact hK' _ _ (hK _ _ (Below.refl _ _) (at_of rfl (rfl)))
            · obtain ⟨x, rfl⟩ := upd_of (show x 13 = .int .i64 S1 from hd 13 _ (by simp) rfl)
              obtain ⟨x, rfl⟩ := upd_of (show x 22 = .int .i64 wh from hd 22 _ (by simp) rfl)
              show wpOp Try.prog _ _ 23 K (⟨#[_, _, _, _, _, _, _, _, _, _, _, _, _, _, _, _, _, _, _, _, _, _, _, _, _, _, _, _, _, _, _, _, _, _, _, _, _, _, _, _, _, _, _, _, _, _, _, _, _, _, _, _, _, _, _, _, _, _, _, _, _, _, _, _, _, _, _, _, _, _, _, _, _, _, _, _, _, _, _, _, _, _, _, _, _, _, _, _, _, _, _, _, _, _, _, _, _, _, _, _, _, _, _, _, _, _, _, _, _, _, _, _, _, _, _, _, _, _, _, _, _, _, _, _, _, _, _, _, _, _, _, _, _, _, _, _, _, _, _, _, _, _, _, _, _, _, _, _, _, _, _, _, _, _, _, _, _, _, _, _, _, _, _, _, _, _, _, _, _, _, _, _, _, _, _, _, _, _, _, _, _, _, _, _, _, _, _, _, _, _, _, _, _, _, _, _, _, _, _, _, _, _, _, _, _, _, _, _, _, _, _, _, _, _, _, _, _, _, _, _, _, x 0, x 1, x 2, x 3, x 4, x 5, x 6, x 7, x 8, x 9, x 10, x 11, x 12, .int .i64 S1, x 14, x 15, x 16, x 17, x 18, x 19, x 20, x 21, .int .i64 wh, x 23, x 24, _, _, _, _, _, _, _, _, _, _, _, _, _, _, _, _, _, _, _, _, _, _, _, _, _, _, _, _, _, _, _, _, _, _, _, _, _, _, _, _, _, _, _, _, _, _, _, _, _, _, _, _, _, _, _, _, _, _, _, _, _, _, _, _, _, _, _, _, _, _, _], []⟩ : Act) v
              refine wpOp_step rfl (fun K' hK' => ?_)
              go_simp
              exact hK' _ _ (hK _ _ (Below.refl _ _) (at_of rfl (rfl)))
            · obtain ⟨x, rfl⟩ := upd_of (show x 11 = .int .i64 (S0 + wl) from hd 11 _ (by simp) rfl)
              obtain ⟨x, rfl⟩ := upd_of (show x 23 = .int .i64 (S1 + wh) from hd 23 _ (by simp) rfl)
              show wpOp Try.prog _ _ 24 K (⟨#[_, _, _, _, _, _, _, _, _, _, _, _, _, _, _, _, _, _, _, _, _, _, _, _, _, _, _, _, _, _, _, _, _, _, _, _, _, _, _, _, _, _, _, _, _, _, _, _, _, _, _, _, _, _, _, _, _, _, _, _, _, _, _, _, _, _, _, _, _, _, _, _, _, _, _, _, _, _, _, _, _, _, _, _, _, _, _, _, _, _, _, _, _, _, _, _, _, _, _, _, _, _, _, _, _, _, _, _, _, _, _, _, _, _, _, _, _, _, _, _, _, _, _, _, _, _, _, _, _, _, _, _, _, _, _, _, _, _, _, _, _, _, _, _, _, _, _, _, _, _, _, _, _, _, _, _, _, _, _, _, _, _, _, _, _, _, _, _, _, _, _, _, _, _, _, _, _, _, _, _, _, _, _, _, _, _, _, _, _, _, _, _, _, _, _, _, _, _, _, _, _, _, _, _, _, _, _, _, _, _, _, _, _, _, _, _, _, _, _, _, _, x 0, x 1, x 2, x 3, x 4, x 5, x 6, x 7, x 8, x 9, x 10, .int .i64 (S0 + wl), x 12, x 13, x 14, x 15, x 16, x 17, x 18, x 19, x 20, x 21, x 22, .int .i64 (S1 + wh), x 24, _, _, _, _, _, _, _, _, _, _, _, _, _, _, _, _, _, _, _, _, _, _, _, _, _, _, _, _, _, _, _, _, _, _, _, _, _, _, _, _, _, _, _, _, _, _, _, _, _, _, _, _, _, _, _, _, _, _, _, _, _, _, _, _, _, _, _, _, _, _, _], []⟩ : Act) v
              refine wpOp_step rfl (fun K' hK' => ?_)
              go_simp
              refine (armSpan_anyT (S0 + wl) (S1 + wh) v).mono ?_
              rintro e v' ⟨rfl, hg⟩
              exact hK' _ _ (hK _ _ hg (at_of rfl (rfl)))
          case fin29 =>
            rintro x v gv hd
            obtain ⟨x, rfl⟩ := upd_of (show x 24 = .agg #[.int .i64 (S0 + wl), .int .i64 (S1 + wh)] from hd 24 _ (by omega) rfl)
            clear hd
            show wpList Try.prog _ _ (List.drop 25 _) (⟨#[_, _, _, _, _, _, _, _, _, _, _, _, _, _, _, _, _, _, _, _, _, _, _, _, _, _, _, _, _, _, _, _, _, _, _, _, _, _, _, _, _, _, _, _, _, _, _, _, _, _, _, _, _, _, _, _, _, _, _, _, _, _, _, _, _, _, _, _, _, _, _, _, _, _, _, _, _, _, _, _, _, _, _, _, _, _, _, _, _, _, _, _, _, _, _, _, _, _, _, _, _, _, _, _, _, _, _, _, _, _, _, _, _, _, _, _, _, _, _, _, _, _, _, _, _, _, _, _, _, _, _, _, _, _, _, _, _, _, _, _, _, _, _, _, _, _, _, _, _, _, _, _, _, _, _, _, _, _, _, _, _, _, _, _, _, _, _, _, _, _, _, _, _, _, _, _, _, _, _, _, _, _, _, _, _, _, _, _, _, _, _, _, _, _, _, _, _, _, _, _, _, _, _, _, _, _, _, _, _, _, _, _, _, _, _, _, _, _, _, _, _, x 0, x 1, x 2, x 3, x 4, x 5, x 6, x 7, x 8, x 9, x 10, x 11, x 12, x 13, x 14, x 15, x 16, x 17, x 18, x 19, x 20, x 21, x 22, x 23, .agg #[.int .i64 (S0 + wl), .int .i64 (S1 + wh)], _, _, _, _, _, _, _, _, _, _, _, _, _, _, _, _, _, _, _, _, _, _, _, _, _, _, _, _, _, _, _, _, _, _, _, _, _, _, _, _, _, _, _, _, _, _, _, _, _, _, _, _, _, _, _, _, _, _, _, _, _, _, _, _, _, _, _, _, _, _, _], []⟩ : Act) v
            simp only [List.drop_succ_cons, List.drop_zero]
            have h9v := h9.keep gv
            obtain ⟨s0v, s1v⟩ := h9v.1.c2
            have f0v := h9v.2 0
            have f1v := h9v.2 1
            clear s0c s1c h9b z0 z1
            go_wp2
            go_roundw
            case rel =>
              have ne3 : (Value.slice (some ⟨g3, 0, none⟩) (k + 1) cap3).ownBlock ≠ some (E0 + 1) := fun e => by
                simp only [Value.ownBlock, Option.some.injEq] at e
                omega
              have kf := ((kW.tr (Kx.gr gv)).tr (Kx.set (Z := fun b => b = E0 + 1) (p := ⟨E0 + 1, 0, none⟩) rfl (.int .i64 (S0 + wl)))).tr (Kx.set (Z := fun b => b = E0 + 1) (p := ⟨E0 + 1, 1, none⟩) rfl (.int .i64 (S1 + wh)))
              have of := owns_set_ne (i := 1) (owns_set_ne (i := 0) (owns_keep oS gv) ne3 (.int .i64 (S0 + wl))) ne3 (.int .i64 (S1 + wh))
              have uf := ((oU.keep gv).other (b := E0 + 1) (i := 0) (v := .int .i64 (S0 + wl)) (by omega)).other (b := E0 + 1) (i := 1) (v := .int .i64 (S1 + wh)) (by omega)
              have sf := (h9v.set (i := 0) (v := .int .i64 (S0 + wl)) (by simp)).set (i := 1) (v := .int .i64 (S1 + wh)) (by simp)
              exact Lib.hid ⟨k + 1, g3, cap3, by omega, by go_num, rfl, hg5, hg6, kf, of, uf, by rw [HS0.out, HS1'.out]; exact sf⟩
            case measure => (first | (simp [intOf]; done) | (simp [intOf]; omega))
        · obtain rfl : k = 6 := by omega
          clear hlt hk
          have hol : ol.take 6 = ol := List.take_of_length_le (by rw [HO6.out]; exact Nat.le_refl 6)
          rw [hol] at oS h9
          have hls : (pickL L6 ol).length = 6 := by rw [pickL_len, HO6.out]
          have rS : LRow wr (some ⟨g2, 0, none⟩) (pickL L6 ol) := by
            obtain ⟨a9, c9, e9, r9⟩ := owns_row (enc := encL) (l := pickL L6 ol) (fun _ => rfl) (by rw [hls]; decide) (by rw [hls]; exact oS)
            injection e9 with e9 _ _
            rw [← e9] at r9
            exact r9
          have ro' := row_kx ro kW HLo.out
          have rl' := row_kx rl7 kW HLg.out
          have tr' := row_kx tr7 kW HLt.out
          have hst : storedL 50 (pickL L6 ol) heavyT days = 0 := stored_of (by rw [hls]; decide) (fun x hx => HLok.out x (pickL_mem HO2.out x hx)) heavyT_ok dd0 (by omega)
          have hbx : boxedL 50 (pickL L6 ol) = 0 := by
            have h := hst
            unfold storedL at h
            by_cases c : boxedL 50 (pickL L6 ol) = 0
            · exact c
            · rw [if_neg c] at h
              exact h
          have hsv := (HK.out.yes rfl).2.2.2.2
          have hAL := fun (W : World) (g' : Gr wr W) => armLoads_any (pickL L6 ol) (by rw [hls]; decide) (by rw [hls]; decide) (some ⟨g2, 0, none⟩) cap2 W (rS.grow g')
          have hLO := fun (a : Option Addr) (cp : Nat) (W : World) (hr : LRow W a (pickL L6 ol)) => loads_ok (pickL L6 ol) hbx a cp W hr
          have hFA := fun (W : World) (g' : Gr wr W) => HK.out.fall ol (some ⟨g2, 0, none⟩) (some ⟨D0, 0, none⟩) cap2 2 W (by rw [HO6.out]; decide) HO2.out (by decide) (rS.grow g') (tr'.grow g')
          rw [hls] at hAL hLO
          rw [HO6.out] at hFA
          simp only [spansL_len, hls] at hLO
          have HAL2 := Lib.hid hAL
          have HLO2 := Lib.hid hLO
          have HFA2 : Hid (∀ (W : World), Gr wr W → Calls Try.prog 38 #[.slice (some ⟨g2, 0, none⟩) 6 cap2, .slice (some ⟨D0, 0, none⟩) 2 2, .int .i64 days] W fun e w' => ∃ y z, e = .returned (.tuple #[.int .i64 y, .int .i64 z, .int .i64 7]) ∧ Gr W w') := Lib.hid (fun W g' => (hFA W g').mono (by
            rintro e w' ⟨⟨y, z, v, rfl, h1, _⟩, g⟩
            exact ⟨y, z, by rw [h1 hsv], g⟩))
          have gw0 : Gr w wr := kx_gr (HS1.g.tr gV17) kW (by have := HS1.g.size; omega)
          obtain ⟨n, hx⟩ : ∃ n, ol[0]? = some n := ⟨ol[0]'(by rw [HO6.out]; decide), by simp⟩
          have hn6 : n < 6 := by
            have := HO2.out n (List.mem_of_getElem? hx)
            rw [HL6.out] at this
            exact this
          have hxi : (intsN ol)[0]? = some (n : Int) := by unfold intsN; rw [List.getElem?_map, hx]; rfl
          obtain ⟨⟨sl, sh, wl, wh⟩, hy⟩ : ∃ y, L6[n]? = some y := ⟨L6[n]'(by rw [HL6.out]; exact hn6), by simp⟩
          have hp0 : (pickL L6 ol)[0]? = some ⟨sl, sh, wl, wh⟩ := by
            unfold pickL
            rw [List.getElem?_map, hx]
            simp [List.getD_eq_getElem?_getD, hy]
          have hsp := spans_at (l := pickL L6 ol) (m := 0) (by rw [hls]; decide)
          have hcons : pickL L6 ol = ⟨sl, sh, wl, wh⟩ :: (pickL L6 ol).drop 1 := by
            cases h : pickL L6 ol with
            | nil => rw [h] at hp0; simp at hp0
            | cons y r =>
              rw [h] at hp0
              simp at hp0
              rw [hp0]
              rfl
          have hs0 : sumLo (pickL L6 ol) = wl + sumLo ((pickL L6 ol).drop (0 + 1)) := by
            conv => lhs; rw [hcons]
            rfl
          have hs1 : sumHi (pickL L6 ol) = wh + sumHi ((pickL L6 ol).drop (0 + 1)) := by
            conv => lhs; rw [hcons]
            rfl
          have hsb := sum_bd (l := (pickL L6 ol).drop (0 + 1)) (fun x hx => (HLok.out x (pickL_mem HO2.out x (List.mem_of_mem_drop hx))).1.1)
          rw [List.length_drop, hls] at hsb
          have hym := HLok.out _ (List.mem_of_getElem? hy)
          have hw1 : 0 ≤ wl := by have := hym.1.1; simp only [LdB] at this; omega
          have hw2 : wl ≤ wh := hym.2.2.1
          have hw3 : wh ≤ 100000 := hym.2.2.2.2
          obtain ⟨A0, hA0⟩ : ∃ z, sumLo ((pickL L6 ol).drop (0 + 1)) = z := ⟨_, rfl⟩
          obtain ⟨A1, hA1⟩ : ∃ z, sumHi ((pickL L6 ol).drop (0 + 1)) = z := ⟨_, rfl⟩
          rw [hs0, hs1, hA0, hA1, Int.add_comm wl A0, Int.add_comm wh A1] at h9
          rw [hA0, hA1] at hsp hsb
          obtain ⟨v0, v1, v2, v3⟩ := hsb
          have z0 : IntKind.i64.wrap (A0 + wl) = A0 + wl := IntWalk.i64_in _ (by omega)
          have z1 : IntKind.i64.wrap (A1 + wh) = A1 + wh := IntWalk.i64_in _ (by omega)
          have HSP := Lib.hid hsp
          clear hym hs0 hs1 hcons hp0 hA0 hA1 v0 v1 v2 v3 hx hsv hFA hAL hLO hst hbx oS oU hol hsp
          go_upto_region 32 with (first
            | (go_at_call 70; refine (HAL2.out _ (Below.refl _ _)).mono ?_; rintro e x7 ⟨p7, q7, rfl, rp7, hq7, gp7⟩)
            | (go_at_call 37; refine (HLO2.out _ _ _ rp7).mono ?_; rintro e x8 ⟨lb, lc, rfl, rlo, gp8⟩)
            | (go_at_call 38; refine (HFA2.out _ (gp7.tr gp8)).mono ?_; rintro e x9 ⟨fy, fz, rfl, gp9⟩))
          refine wp_abs (fun X => Gr wr X ∧ SRow X lb (spansL (pickL L6 ol))) ⟨gp7.tr (gp8.tr gp9), rlo.grow gp9⟩ ?_
          clear rp7 hq7 gp7 rlo gp8 gp9 HAL2 HLO2 HFA2
          rintro X9 ⟨gX9, rlo⟩
          obtain ⟨b1, o1, rfl, _, c1⟩ := IRow.get (ro'.grow gX9) hxi
          obtain ⟨b2, o2, rfl, _, d0, d1, d2, d3⟩ := LRow.get (rl'.grow gX9) hy
          obtain ⟨b3, o3, rfl, _, f0, f1⟩ := SRow.get rlo HSP.out
          obtain ⟨s0c, s1c⟩ := (h9.1.keep gX9).c2
          dsimp only at d0 d1 d2 d3 f0 f1
          simp only [Nat.add_zero, Nat.zero_mul] at c1 f0 f1
          clear d0 d1 hxi hy h9 rlo ro' rl' tr' rS
          go_upto_region 34 with fail
          have y0 := From.keep c1
          have y1 := From.keep d2
          have y2 := From.keep d3
          have y3 := From.keep f0
          have y4 := From.keep f1
          have y5 := From.keep s0c
          have y6 := From.keep s1c
          refine wp_region_gr (by kernel_rfl) (by kernel_rfl) ?_
          repeat (go_big_quiet_step (first
            | (go_at_call 66; (with_reducible exact Calls.gr (armBoard_any _)))
            | (go_at_call 69; (with_reducible exact Calls.gr (armCrush_any _)))))
          refine wpQuiet_nil ?_
          rintro _ ⟨u, rfl⟩
          clear y0 y1 y2 y3 y4 y5 y6
          go_wp2
          go_ret
          exact ⟨rfl, gw0.tr (gX9.tr u.property)⟩

end Go.Proofs.Ytcdilmagcdbogaa

namespace Go.Proofs.Ytcdilmagcdbogaa
set_option linter.unusedVariables false
set_option linter.unusedSimpArgs false
open Go.RowKit Go.ChangeShapes

section
variable {H : Type} {enc : TypeId × Value → H} {P : Program} {W W' : World}

theorem trodAll_stays (hl : laidOutB P = true) (g : Gr W W') {sp : Nat → Bool} : ∀ (ts : List TypeId) (vs : List Value) (ds : List (DataW H)) (ps : List MemPlace), (∀ t ∈ ts, P.readableRec t = true ∧ t < P.types.size) →
    DataW.TrodAll enc P W 0 (fun _ => true) true ts vs ds ps → (∀ p ∈ ps, p.block < W.heap.size) → (∀ p ∈ ps, sp p.block = true) → DataW.TrodAll enc P W' 0 sp true ts vs ds ps
  | [], [], [], _, _, h, _, _ => h
  | t :: ts, v :: vs, d :: ds, ps, ht, h, hlt, hsp => by
    obtain ⟨p, q, h1, h2, rfl⟩ := h
    exact ⟨p, q, WideElems.Trod_stays hl (ht t (by simp)).1 (ht t (by simp)).2 h1 (fun x hx => g.same (hlt x (by simp [hx]))) (fun x hx => hsp x (by simp [hx])),
      trodAll_stays hl g ts vs ds q (fun u hu => ht u (by simp [hu])) h2 (fun x hx => hlt x (by simp [hx])) (fun x hx => hsp x (by simp [hx])), rfl⟩

/-- A law that returned true in a world that only grew, its arguments as they were. -/
theorem law_true {f : Func} {s : ChangeSpec} {bt : TypeId} {args : Array Value} {ds : List (DataW H)} {p : List MemPlace}
    (hl : laidOutB P = true) (hpt : ∀ t ∈ f.params.toList, P.readableRec t = true ∧ t < P.types.size) (hbt : P.underlying bt = some .bool) (hrt : f.resultTypes = #[bt]) (hsv : s.vars = [])
    (hs : s.fn H ds = { results := [.lit (.bool true)], args := ds })
    (hW : DataW.Whole enc P f.params.toList s.vars false W args.toList ds [] p) (g : Gr W W') :
    s.post enc P f false true false false W args (.bool true) W' := by
  have hW0 := hW
  obtain ⟨pa, pv, hA, hV, hp, hfz, hnd⟩ := hW0
  rw [hsv] at hV
  have hpv : pv = [] := hV
  subst hpv
  rw [List.append_nil] at hp
  subst hp
  have hold : ∀ x ∈ p, x.block < W.heap.size := fun x hx => hW.lt x hx
  have hargs : ∀ sp : Nat → Bool, (∀ x ∈ p, sp x.block = true) → DataW.TrodAll enc P W' 0 sp true f.params.toList args.toList ds p := fun sp hsp => trodAll_stays hl g _ _ _ _ hpt hA hold hsp
  have hres : ∀ (b : Nat) (sp : Nat → Bool) (hd : Bool), DataW.TrodAll enc P W' b sp hd f.resultTypes.toList ((Value.bool true).resultList f.resultTypes.size) [.lit (.bool true)] [] := fun b sp hd => by
    rw [hrt]
    exact trodAll_cons_mk (shut_bool hbt _) trodAll_mk0
  have hok : ∀ (j : Nat) (t : TypeId) (r : Value), f.resultTypes[j]? = some t → ((Value.bool true).resultList f.resultTypes.size)[j]? = some r → Value.okWide P W' .any 0 t r := ok_one hrt rfl (okWide_bool_mk hbt _)
  have es : s.fn H (ds ++ []) = { results := [.lit (.bool true)], args := ds } := by rw [List.append_nil]; exact hs
  have hsp0 : ∀ x ∈ p, (fun b => decide (b < W.heap.size)) x.block = true := fun x hx => by simpa using hold x hx
  refine ⟨ds, [], p, [], p, [], hW, ?_, ?_, ?_, World.keptBut_mono (fun x hx => hx.elim) (g.frame (fun _ => False)), fun _ => ?_⟩
  · rw [es]; exact hres _ _ _
  · rw [es]; exact hargs _ hsp0
  · rw [es, hsv]; rfl
  · refine ⟨hok, [.lit (.bool true)] ++ ds, [], ([] ++ p) ++ [], ⟨[] ++ p, [], trodAll_append (hargs (fun _ => true) (fun _ _ => rfl)) (hres _ _ _), ?_, rfl, ?_, ?_⟩, ?_⟩
    · rw [hsv]; rfl
    · intro b off hx
      have hx' : MemPlace.cell b off ∈ p := by simpa using hx
      have hb : b < W.heap.size := hold _ hx'
      rw [g.frozen (p := ⟨b, off, none⟩) hb]
      exact hfz b off hx'
    · intro ha
      cases ha
    · intro x hx _
      simpa using hx

/-- Made of integers of kind k alone, cell by cell: by looking. -/
def allK (P : Program) (k : IntKind) : Nat → TypeId → Bool
  | 0, _ => false
  | f + 1, t => match P.underlying t with
    | some (.int k') => decide (k' = k) && decide (P.cellsOf t = 1)
    | some (.struct fs) => fs.toList.all (fun x => allK P k f x.type) && (List.range (P.cellsOf t)).all fun i => fs.toList.any fun x => decide (x.offset ≤ i) && decide (i < x.offset + P.cellsOf x.type)
    | some (.array n e) => allK P k f e && (List.range (P.cellsOf t)).all fun i => (List.range n).any fun j => decide (j * P.cellsOf e ≤ i) && decide (i < j * P.cellsOf e + P.cellsOf e)
    | _ => false

theorem piece {cs : List Value} {o n i : Nat} (h1 : o ≤ i) (h2 : i < o + n) : ((cs.drop o).take n)[i - o]? = cs[i]? := by
  rw [List.getElem?_take_of_lt (by omega), List.getElem?_drop, show o + (i - o) = i by omega]

theorem mapM_at {α β : Type} {f : α → Option β} : ∀ (l : List α) (ys : List β), l.mapM f = some ys → ∀ a ∈ l, ∃ y, f a = some y
  | [], _, _, a, ha => by cases ha
  | b :: l, ys, h, a, ha => by
    rw [List.mapM_cons] at h
    cases h1 : f b with
    | none => simp [h1] at h
    | some y =>
      cases h2 : l.mapM f with
      | none => simp [h1, h2] at h
      | some zs =>
        rcases List.mem_cons.1 ha with rfl | ha
        · exact ⟨y, h1⟩
        · exact mapM_at l zs h2 a ha

theorem int_open {k : IntKind} {base : Nat} {sp : Nat → Bool} {held : Bool} {t : TypeId} (hu : P.underlying t = some (.int k)) {fuel : Nat} {cs : List Value} {x : DataW H × List MemPlace} (hx : DataW.trod enc P W base sp held fuel t cs = some x) :
    ∃ n, cs = [.int k n] ∧ (Lit.int k n).wf = true := by
  obtain ⟨n, e, _, hw⟩ := DataW.trod_int hu hx
  exact ⟨n, e, hw⟩

theorem allK_open {k : IntKind} {base : Nat} {sp : Nat → Bool} {held : Bool} : ∀ (f : Nat) (t : TypeId), allK P k f t = true → ∀ (fuel : Nat) (cs : List Value) (x : DataW H × List MemPlace), DataW.trod enc P W base sp held fuel t cs = some x →
    cs.length = P.cellsOf t ∧ ∀ i, i < cs.length → ∃ n, cs[i]? = some (.int k n) ∧ (Lit.int k n).wf = true
  | 0, _, h, _, _, _, _ => by simp [allK] at h
  | f + 1, t, h, 0, cs, x, hx => by simp [DataW.trod] at hx
  | f + 1, t, h, fuel + 1, cs, x, hx => by
    unfold allK at h
    split at h
    · rename_i k' hu
      simp only [Bool.and_eq_true, decide_eq_true_eq] at h
      obtain ⟨rfl, hc⟩ := h
      obtain ⟨n, rfl, hw⟩ := int_open hu hx
      refine ⟨by rw [hc]; rfl, fun i hi => ?_⟩
      obtain rfl : i = 0 := by simpa using hi
      exact ⟨n, rfl, hw⟩
    · rename_i fs hu
      simp only [Bool.and_eq_true] at h
      obtain ⟨ha, hcov⟩ := h
      unfold DataW.trod at hx
      rw [hu] at hx
      simp only at hx
      split at hx
      case isFalse => cases hx
      rename_i hl
      refine ⟨hl, fun i hi => ?_⟩
      obtain ⟨xs, hxs, _⟩ := Option.map_eq_some_iff.1 hx
      have hci := List.all_eq_true.1 hcov i (by simp; omega)
      obtain ⟨fd, hfd, hin⟩ := List.any_eq_true.1 hci
      simp only [Bool.and_eq_true, decide_eq_true_eq] at hin
      obtain ⟨y, hy⟩ := mapM_at _ _ hxs fd hfd
      obtain ⟨hl', hat⟩ := allK_open f fd.type (List.all_eq_true.1 ha fd hfd) fuel _ y hy
      obtain ⟨n, hn, hw⟩ := hat (i - fd.offset) (by rw [hl']; omega)
      rw [piece hin.1 hin.2] at hn
      exact ⟨n, hn, hw⟩
    · rename_i m e hu
      simp only [Bool.and_eq_true] at h
      obtain ⟨ha, hcov⟩ := h
      unfold DataW.trod at hx
      rw [hu] at hx
      simp only at hx
      split at hx
      case isFalse => cases hx
      rename_i hl
      refine ⟨hl, fun i hi => ?_⟩
      obtain ⟨xs, hxs, _⟩ := Option.map_eq_some_iff.1 hx
      have hci := List.all_eq_true.1 hcov i (by simp; omega)
      obtain ⟨j, hj, hin⟩ := List.any_eq_true.1 hci
      simp only [Bool.and_eq_true, decide_eq_true_eq] at hin
      obtain ⟨y, hy⟩ := mapM_at _ _ hxs j hj
      obtain ⟨hl', hat⟩ := allK_open f e ha fuel _ y hy
      obtain ⟨n, hn, hw⟩ := hat (i - j * P.cellsOf e) (by rw [hl']; omega)
      rw [piece hin.1 hin.2] at hn
      exact ⟨n, hn, hw⟩
    · cases h

theorem ints_of {k : IntKind} : ∀ (cs : List Value), (∀ i, i < cs.length → ∃ n, cs[i]? = some (.int k n) ∧ (Lit.int k n).wf = true) → ∃ l : List Int, cs = l.map (Value.int k) ∧ ∀ n ∈ l, (Lit.int k n).wf = true
  | [], _ => ⟨[], rfl, by simp⟩
  | c :: cs, h => by
    obtain ⟨n, hn, hw⟩ := h 0 (by simp)
    obtain ⟨l, rfl, hl⟩ := ints_of cs (fun i hi => by simpa using h (i + 1) (by simpa using hi))
    simp only [List.getElem?_cons_zero, Option.some.injEq] at hn
    subst hn
    refine ⟨n :: l, rfl, fun m hm => ?_⟩
    rcases List.mem_cons.1 hm with rfl | hm
    · exact hw
    · exact hl m hm

/-- A struct or array by value, of integers of one kind: its integers. -/
theorem agg_ints {k : IntKind} {base : Nat} {sp : Nat → Bool} {held : Bool} {f : Nat} {t : TypeId} (ha : allK P k f t = true) (hc : P.cellsOf t ≠ 1) {v : Value} {d : DataW H} {ps : List MemPlace} (h : DataW.Trod enc P W base sp held t v d ps) :
    ∃ l : List Int, v = .agg (l.map (Value.int k)).toArray ∧ l.length = P.cellsOf t ∧ ∀ n ∈ l, (Lit.int k n).wf = true := by
  obtain ⟨fuel, hf⟩ := h
  obtain ⟨hl, hat⟩ := allK_open f t ha fuel _ _ hf
  obtain ⟨l, hcs, hw⟩ := ints_of _ hat
  have hlen : l.length = P.cellsOf t := by rw [← hl, hcs]; simp
  refine ⟨l, ?_, hlen, hw⟩
  unfold Value.cells at hcs hl
  split at hcs
  · rename_i cs
    rw [← hcs]
  · rename_i hna
    exfalso
    apply hc
    rw [← hlen]
    have := congrArg List.length hcs
    simpa using this.symm

/-- A slice of bytes that came in. -/
theorem row_bytes {e : TypeId} {t : TypeId} {r : Reach} {b0 : Nat} (ht : P.underlying t = some (.slice e)) (he : P.underlying e = some (.int .u8)) (hc : P.cellsOf e = 1) {v : Value} {d : DataW H} {ps : List MemPlace} (hval : Value.okWide P W r b0 t v)
    (h : DataW.Trod enc P W 0 (fun _ => true) true t v d ps) :
    ∃ (a : Option Addr) (l : List Int) (cap : Nat), v = .slice a l.length cap ∧ URow W a l ∧ Bytes l := by
  obtain ⟨fuel, hf⟩ := h
  obtain ⟨a0, len0, cap0, rfl⟩ := Go.WideShapes.okWide_slice ht hval
  rcases open_ints ht he hc hf with ⟨hcs, _⟩ | ⟨a, len, cap, zs, hcs, _, hle, hmax, hlen, _, hcell, hwf⟩
  · have hcs' : [Value.slice a0 len0 cap0] = [.slice none 0 0] := by simpa [Value.cells] using hcs
    cases hcs'
    exact ⟨none, [], 0, rfl, RowOf.nil, fun x hx => by cases hx⟩
  · have hcs' : [Value.slice a0 len0 cap0] = [.slice (some a) len cap] := by simpa [Value.cells] using hcs
    cases hcs'
    simp only [if_true] at hlen
    have hl : (zs.take len0).length = len0 := by simp; omega
    refine ⟨some a, zs.take len0, cap0, by rw [hl], ⟨by rw [hl]; exact Nat.le_trans hle hmax, fun j x hx => ?_⟩, fun x hx => bounds_u8 (hwf x (List.mem_of_mem_take hx))⟩
    have hj : j < len0 := by
      have := (List.getElem?_eq_some_iff.1 hx).1
      omega
    have hz : zs[j]? = some x := by
      rw [List.getElem?_take_of_lt hj] at hx
      exact hx
    have h0 := hcell 0 (by omega)
    rw [show a.add 0 = a by simp [Addr.add]] at h0
    have hb := World.block_lt_of_cell? W _ h0
    have hs : a.spot = none := by
      cases hsp : a.spot with
      | none => rfl
      | some q =>
        exfalso
        unfold World.cell? at h0
        split at h0
        · simp [hsp] at h0
        · cases h0
    obtain ⟨b, off, sp⟩ := a
    simp only at hs
    subst hs
    have h1 := hcell j (by omega)
    have e1 : zs.getD j 0 = x := by simp [hz]
    rw [e1, show (Addr.mk b off none).add j = ⟨b, off + j, none⟩ by unfold Addr.add; split <;> simp_all] at h1
    refine ⟨b, off, rfl, hb, fun i v hv => ?_⟩
    have hi : i = 0 := by
      have := (List.getElem?_eq_some_iff.1 hv).1
      simpa [encU] using this
    subst hi
    simp [encU] at hv
    subst hv
    simpa using h1

end

end Go.Proofs.Ytcdilmagcdbogaa

namespace Go.Proofs.Ytcdilmagcdbogaa
set_option linter.unusedVariables false
set_option linter.unusedSimpArgs false
open Go.RowKit Go.ChangeShapes

theorem list_of {α : Type} (p : Nat → α → Prop) : ∀ n, (∀ j, j < n → ∃ x, p j x) → ∃ l : List α, l.length = n ∧ ∀ j x, l[j]? = some x → p j x
  | 0, _ => ⟨[], rfl, fun j x h => by simp at h⟩
  | n + 1, h => by
    obtain ⟨l, hl, hp⟩ := list_of p n (fun j hj => h j (by omega))
    obtain ⟨x, hx⟩ := h n (by omega)
    refine ⟨l ++ [x], by simp [hl], fun j y hy => ?_⟩
    by_cases hj : j < l.length
    · rw [List.getElem?_append_left hj] at hy
      exact hp j y hy
    · rw [List.getElem?_append_right (by omega)] at hy
      have h1 := (List.getElem?_eq_some_iff.1 hy).1
      simp at h1
      obtain rfl : j = n := by omega
      simp [hl] at hy
      subst hy
      exact hx

section
variable {H : Type} {enc : TypeId × Value → H} {P : Program} {W : World}

/-- A slice of arrays of integers of one kind. -/
theorem row_flat {α : Type} {en : α → List Value} {G : α → Prop} {e t : TypeId} {k : IntKind} {f sz fuel : Nat} {cs : List Value} {x : DataW H × List MemPlace} (ht : P.underlying t = some (.slice e)) (ha : allK P k f e = true) (hc : P.cellsOf e = sz) (h0 : 0 < sz)
    (hmk : ∀ l : List Int, l.length = sz → (∀ n ∈ l, (Lit.int k n).wf = true) → ∃ y : α, en y = l.map (Value.int k) ∧ G y)
    (hx : DataW.trod enc P W 0 (fun _ => true) true fuel t cs = some x) :
    ∃ (a : Option Addr) (l : List α) (cap : Nat), cs = [.slice a l.length cap] ∧ RowOf sz en W a l ∧ ∀ v ∈ l, G v := by
  rcases DataW.trod_slice ht hx with ⟨h, _⟩ | ⟨a, len, cap, elems, rest, n, _, rfl, _, hb, hl, hm, hlen, hel, _, _⟩
  · exact ⟨none, [], 0, h, RowOf.nil, fun v hv => by cases hv⟩
  have hj : ∀ j, j < len → ∃ y : α, G y ∧ ∃ l : List Int, l.length = sz ∧ en y = l.map (Value.int k) ∧ ∀ i, i < sz → W.cell? ((a.add (j * sz)).add i) = (l.map (Value.int k))[i]? := by
    intro j hj
    have h1 := hel j hj
    rw [List.getElem?_eq_getElem (by omega)] at h1
    obtain ⟨cs', hcs, hy⟩ := Option.bind_eq_some_iff.1 h1
    obtain ⟨hl', hat⟩ := allK_open f e ha _ _ _ hy
    obtain ⟨l, hcl, hw⟩ := ints_of _ hat
    have hll : l.length = sz := by rw [← hc, ← hl', hcl]; simp
    obtain ⟨y, hy1, hy2⟩ := hmk l hll hw
    refine ⟨y, hy2, l, hll, hy1, fun i hi => ?_⟩
    have := (World.cells?_some hcs).2.2 i (by omega)
    rw [hc, hcl] at this
    exact this
  obtain ⟨l, hlen', hp⟩ := list_of _ len hj
  refine ⟨some a, l, cap, by rw [hlen'], ⟨?_, fun j y hy => ?_⟩, fun v hv => ?_⟩
  · rw [hlen']
    have : maxLen ≤ 9223372036854775807 := by decide
    omega
  · obtain ⟨_, li, hli, hen, hcell⟩ := hp j y hy
    have z0 := hcell 0 h0
    have hi0 : (li.map (Value.int k))[0]? = some (.int k (li[0]'(by omega))) := by simp [List.getElem?_eq_getElem (show 0 < li.length by omega)]
    rw [hi0, show (a.add (j * sz)).add 0 = a.add (j * sz) by simp [Addr.add]] at z0
    have hs : a.spot = none := by
      cases hsp : a.spot with
      | none => rfl
      | some q =>
        exfalso
        have hj0 : j < len := by have := (List.getElem?_eq_some_iff.1 hy).1; omega
        obtain ⟨_, _, li0, hli0, _, hc0⟩ := hj 0 (by omega)
        have z1 := hc0 0 h0
        have hi1 : (li0.map (Value.int k))[0]? = some (.int k (li0[0]'(by omega))) := by simp [List.getElem?_eq_getElem (show 0 < li0.length by omega)]
        rw [hi1, show (a.add (0 * sz)).add 0 = a by simp [Addr.add]] at z1
        unfold World.cell? at z1
        split at z1
        · simp [hsp] at z1
        · cases z1
    obtain ⟨b, off, sp⟩ := a
    simp only at hs
    subst hs
    refine ⟨b, off, rfl, ?_, fun i v hv => ?_⟩
    · have := World.block_lt_of_cell? W _ z0
      rw [WideShapes.add_plain] at this
      exact this
    · have hi : i < sz := by
        have := (List.getElem?_eq_some_iff.1 hv).1
        rw [hen] at this
        simpa [hli] using this
      have := hcell i hi
      rw [WideShapes.add_plain, WideShapes.add_plain, ← hen, hv] at this
      exact this
  · obtain ⟨j, hjv⟩ := List.getElem?_of_mem hv
    exact (hp j v hjv).1

/-- A struct of three slices: each by itself. -/
theorem struct3 {t t0 t1 t2 : TypeId} {fs : Array Field} {fuel : Nat} {cs : List Value} {x : DataW H × List MemPlace} (hu : P.underlying t = some (.struct fs)) (ct : P.cellsOf t = 3) (c0 : P.cellsOf t0 = 1) (c1 : P.cellsOf t1 = 1) (c2 : P.cellsOf t2 = 1)
    (m0 : ∃ g ∈ fs.toList, g.type = t0 ∧ g.offset = 0) (m1 : ∃ g ∈ fs.toList, g.type = t1 ∧ g.offset = 1) (m2 : ∃ g ∈ fs.toList, g.type = t2 ∧ g.offset = 2)
    (hx : DataW.trod enc P W 0 (fun _ => true) true fuel t cs = some x) :
    ∃ s0 s1 s2 n x0 x1 x2, cs = [s0, s1, s2] ∧ DataW.trod enc P W 0 (fun _ => true) true n t0 [s0] = some x0 ∧ DataW.trod enc P W 0 (fun _ => true) true n t1 [s1] = some x1 ∧ DataW.trod enc P W 0 (fun _ => true) true n t2 [s2] = some x2 := by
  cases fuel with
  | zero => simp [DataW.trod] at hx
  | succ n =>
    unfold DataW.trod at hx
    rw [hu] at hx
    simp only at hx
    split at hx
    case isFalse => cases hx
    rename_i hl
    obtain ⟨xs, hxs, _⟩ := Option.map_eq_some_iff.1 hx
    rw [ct] at hl
    obtain ⟨s0, s1, s2, rfl⟩ : ∃ s0 s1 s2, cs = [s0, s1, s2] := by
      match cs, hl with
      | [s0, s1, s2], _ => exact ⟨s0, s1, s2, rfl⟩
    obtain ⟨g0, hg0, e0, o0⟩ := m0
    obtain ⟨g1, hg1, e1, o1⟩ := m1
    obtain ⟨g2, hg2, e2, o2⟩ := m2
    obtain ⟨y0, hy0⟩ := mapM_at _ _ hxs g0 hg0
    obtain ⟨y1, hy1⟩ := mapM_at _ _ hxs g1 hg1
    obtain ⟨y2, hy2⟩ := mapM_at _ _ hxs g2 hg2
    rw [e0, o0, c0] at hy0
    rw [e1, o1, c1] at hy1
    rw [e2, o2, c2] at hy2
    exact ⟨s0, s1, s2, n, y0, y1, y2, rfl, hy0, hy1, hy2⟩

end

theorem mk6 (l : List Int) (hl : l.length = 6) (hw : ∀ n ∈ l, (Lit.int .u8 n).wf = true) : ∃ y : V6, encV6 y = l.map (Value.int .u8) ∧ B6 y := by
  match l, hl with
  | [a, b, c, d, e, f], _ => exact ⟨⟨a, b, c, d, e, f⟩, rfl, bounds_u8 (hw a (by simp)), bounds_u8 (hw b (by simp)), bounds_u8 (hw c (by simp)), bounds_u8 (hw d (by simp)), bounds_u8 (hw e (by simp)), bounds_u8 (hw f (by simp))⟩

theorem mk3 (l : List Int) (hl : l.length = 3) (hw : ∀ n ∈ l, (Lit.int .u8 n).wf = true) : ∃ y : V3, encV3 y = l.map (Value.int .u8) ∧ B3 y := by
  match l, hl with
  | [a, b, c], _ => exact ⟨⟨a, b, c⟩, rfl, bounds_u8 (hw a (by simp)), bounds_u8 (hw b (by simp)), bounds_u8 (hw c (by simp))⟩

theorem mk1 (l : List Int) (hl : l.length = 1) (hw : ∀ n ∈ l, (Lit.int .u8 n).wf = true) : ∃ y : Int, encU y = l.map (Value.int .u8) ∧ (0 ≤ y ∧ y ≤ 255) := by
  match l, hl with
  | [a], _ => exact ⟨a, rfl, bounds_u8 (hw a (by simp))⟩

end Go.Proofs.Ytcdilmagcdbogaa

namespace Go.Proofs.Ytcdilmagcdbogaa
set_option linter.unusedVariables false
set_option linter.unusedSimpArgs false
open Go.RowKit Go.ChangeShapes

theorem slice_len {H : Type} {enc : TypeId × Value → H} {P : Program} {W : World} {t e : TypeId} {fuel len cap : Nat} {a : Option Addr} {x : DataW H × List MemPlace} (ht : P.underlying t = some (.slice e)) (hb : P.bytesOf e = 1) (hx : DataW.trod enc P W 0 (fun _ => true) true fuel t [.slice a len cap] = some x) (hw : ∀ n ∈ x.1.weights P t, n ≤ reachBytes) : len ≤ 140737488351232 := by
  rcases DataW.trod_slice ht hx with ⟨h, _⟩ | ⟨a', len', cap', elems, rest, n, _, hc, hx2, _, _, _, hl, _⟩
  · injection h with h _
    injection h with _ h _
    omega
  · injection hc with hc _
    injection hc with _ hc _
    subst hx2
    have := hw ((elems.length + rest.length) * P.bytesOf e) (by simp [DataW.weights, ht])
    rw [hb] at this
    simp only [reachBytes] at this
    omega

set_option maxRecDepth 100000 in
theorem ware_len {H : Type} {enc : TypeId × Value → H} {W : World} {fuel len cap : Nat} {s0 s1 : Value} {a : Option Addr} {x : DataW H × List MemPlace} (hx : DataW.trod enc Try.prog W 0 (fun _ => true) true fuel 120 [s0, s1, .slice a len cap] = some x) (hw : ∀ n ∈ x.1.weights Try.prog 120, n ≤ reachBytes) : len ≤ 140737488351232 := by
  cases fuel with
  | zero => simp [DataW.trod] at hx
  | succ n =>
    unfold DataW.trod at hx
    rw [Try.underlying120] at hx
    simp only at hx
    split at hx
    case isFalse => cases hx
    obtain ⟨xs, hxs, hx2⟩ := Option.map_eq_some_iff.1 hx
    subst hx2
    simp only [List.mapM_cons, List.mapM_nil, Option.bind_eq_some_iff, Option.pure_def, Option.some.injEq, Option.bind_eq_bind] at hxs
    obtain ⟨x0, h0, ys, ⟨x1, h1, zs, ⟨x2, h2, us, hus, hz⟩, hy⟩, hs⟩ := hxs
    subst hus
    subst hz
    subst hy
    subst hs
    refine slice_len (fuel := n) (t := 93) Try.underlying93 (by kernel_rfl) (x := x2) (a := a) (cap := cap) (by exact h2) (fun m hm => hw m ?_)
    simp [DataW.weights, DataW.weightsEach, Try.underlying120, hm]

end Go.Proofs.Ytcdilmagcdbogaa
