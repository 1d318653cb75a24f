/- CrushStacked's own body. (Made by gen_z6.py.) A law's end: it returned true and the world only grew. And: what an argument is that is made of integers of one kind. Contracts of pubMade, pubSingle, pubDouble. Contract of pubOwn: a copy of a store. Contract of pubStore. The contract of armStore. (Made by gen_arm1.py.) What an argument is that is a slice of small arrays of bytes; a struct of three slices. A lot that comes in. A pile that comes in. -/
import Derived.Test.YtcdilmagcdbogaaQZ7b
import Derived.Test.YtcdilmagcdbogaaQI33c
import Derived.Test.YtcdilmagcdbogaaQI33a
import Derived.Deep.CutRange
import Derived.Deep.DeepCutAuto
import Derived.Deep.AppendLies
import Derived.ProofKit
import Derived.OpenShut
import Derived.ChangeSame
import Derived.Carry
import Derived.Deep.RegionHeld3
import Derived.Test.YtcdilmagcdbogaaQZ7a
import Derived.Deep.QuietTactic
import Derived.BigQuiet
import Derived.Deep.MidRow
namespace Go.Proofs.Ytcdilmagcdbogaa
set_option linter.unusedVariables false
set_option linter.unusedSimpArgs false
open Go.RowKit

theorem erase_perm : ∀ (l : List Nat) (i x : Nat), l[i]? = some x → (x :: l.eraseIdx i).Perm l
  | [], i, x, h => by simp at h
  | y :: l, 0, x, h => by
    simp at h
    subst h
    simp
  | y :: l, i + 1, x, h => by
    have ih := erase_perm l i x (by simpa using h)
    rw [List.eraseIdx_cons_succ]
    exact (List.Perm.swap y x _).trans (List.Perm.cons y ih)

theorem owns_slice {w : World} {base : Nat} {e : TypeId} {sz : Nat} {v : Value} {n : Nat} {xs : List Value} (h : w.ownsRow base e sz v n xs) : ∃ a cap, v = .slice a n cap := by
  obtain ⟨_, h2⟩ := h
  rcases h2 with ⟨hv, hn⟩ | ⟨g, cap, cur, hv, _⟩
  · subst hn
    exact ⟨none, 0, hv⟩
  · exact ⟨_, _, hv⟩

/-- What is left of a row behind some of it: its address, as the model has it, and its cells. -/
theorem cut_tail {w : World} {b off : Nat} {l : List Int} (h : IRow w (some ⟨b, off, none⟩) l) {n c : Nat} (hn : n ≤ l.length) (hc : l.length ≤ c) :
    ∃ ad : Addr, (if c = n then (some ⟨b, off, none⟩ : Option Addr) else some ⟨b, off + n, none⟩) = some ad ∧ ∀ W, Gr w W → ∀ (j : Nat) (u : Value), ((l.drop n).flatMap encI)[j]? = some u → W.cell? (ad.add j) = some u := by
  by_cases e : c = n
  · refine ⟨⟨b, off, none⟩, by rw [if_pos e], fun W g j u hu => ?_⟩
    rw [List.drop_eq_nil_of_le (by omega)] at hu
    simp at hu
  · refine ⟨⟨b, off + n, none⟩, by rw [if_neg e], fun W g j u hu => ?_⟩
    have hr : IRow W (some ⟨b, off + n, none⟩) (l.drop n) := by
      refine ⟨by have := h.1; rw [List.length_drop]; omega, fun k x hx => ?_⟩
      rw [List.getElem?_drop] at hx
      obtain ⟨b2, o2, e2, hb, hcc⟩ := (h.grow g).2 (n + k) x hx
      injection e2 with e2
      injection e2 with e3 e4 _
      subst e3
      subst e4
      exact ⟨_, _, rfl, hb, fun i v hv => by rw [show off + n + k * 1 + i = off + (n + k) * 1 + i by omega]; exact hcc i v hv⟩
    exact row_news (enc := encI) (sz := 1) (fun _ => rfl) hr j u hu

set_option maxRecDepth 100000 in
set_option maxHeartbeats 8000000 in
theorem crushStacked_any (X : List V4) (S : List V2) (Y : List Int) (days : Int) (hX : ∀ v ∈ X, B4 v) (hS : ∀ v ∈ S, B2 v) (hY : Bytes Y) (d0 : 0 ≤ days) (d1 : days ≤ 255) (xa sa ya : Option Addr) (xc sc yc : Nat) (w : World) (rx : Row4 w xa X) (rs : Row2 w sa S) (ry : URow w ya Y) :
    Calls Try.prog 14 #[.agg #[.slice xa X.length xc, .slice sa S.length sc], .slice ya Y.length yc, .int .u8 days] w fun e w' => e = .returned (.bool true) ∧ Gr w w' := by
  have gg := Gr.al w (.cells #[.slice xa X.length xc, .slice sa S.length sc] 105)
  have hx := Box.new w [.slice xa X.length xc, .slice sa S.length sc] 105 w.heap.size rfl
  obtain ⟨l, n, l8, n6, hl, hst, hpl⟩ := pile_law X S 8 hX hS (by omega) xa sa xc sc
  obtain ⟨i0, hi, hz0, hz1, hz2⟩ := info_parts infoInt
  have htb := table_tab hS n6
  obtain ⟨t, ht⟩ : ∃ t, tabW S n = t := ⟨_, rfl⟩
  have t7 : t.length ≤ 7 := by rw [← ht, tabW_len]; omega
  rw [ht] at hpl htb
  obtain ⟨ol, ml, ev, hk⟩ := stk8 l8 t7 hl htb d0 d1
  have HPL := Lib.hid hpl
  have HY := Lib.hid hY
  have HK := Lib.hid hk
  have wd : IntKind.i64.wrap days = days := IntWalk.i64_in _ (by omega)
  clear hX hS hY hpl hl hst ht htb hk
  go_enter Try.func14, Try.ntmps14
  go_upto_region 1 with fail
  refine wp_abs (fun U => Gr w U ∧ Box U w.heap.size [.slice xa X.length xc, .slice sa S.length sc]) ⟨gg, hx⟩ ?_
  clear gg hx
  rintro U ⟨gg, hx⟩
  obtain ⟨q0, q1⟩ := hx.c2
  go_upto_region 2 with (go_at_call 54; refine (HPL.out _ (rx.grow gg) (rs.grow gg)).mono ?_; rintro e w1 ⟨B, c, D, f, rfl, rL, rT, hc, hf, g1⟩)
  refine wp_abs (fun U2 => Gr w U2 ∧ LRow U2 (some ⟨B, 0, none⟩) l ∧ TRow U2 (some ⟨D, 0, none⟩) t) ⟨gg.tr g1, rL, rT⟩ ?_
  clear gg hx q0 q1 rL rT g1
  rintro V ⟨gV, rL, rT⟩
  have HBx : Hid (∀ (W' : World), Gr V W' → Calls Try.prog 35 #[.slice (some ⟨B, 0, none⟩) l.length c] W' fun e w' => ∃ a cp, e = .returned (.slice a l.length cp) ∧ LRow w' a l ∧ l.length ≤ cp ∧ Gr W' w') := Lib.hid (fun W' g => lboxes_gen l (by omega) _ c W' (rL.grow g))
  have HSp : Hid (∀ (W' : World), Gr V W' → Calls Try.prog 36 #[.slice (some ⟨D, 0, none⟩) t.length f] W' fun e w' => ∃ a cp, e = .returned (.slice a t.length cp) ∧ TRow w' a t ∧ t.length ≤ cp ∧ Gr W' w') := Lib.hid (fun W' g => lsteps_gen t (by omega) _ f W' (rT.grow g))
  go_upto_region 3 with (first
    | (go_at_call 35; refine (HBx.out _ (Below.refl _ _)).mono ?_; rintro e w1 ⟨a1, c1, rfl, r1, hc1, g1⟩)
    | (go_at_call 36; refine (HSp.out _ g1).mono ?_; rintro e w2 ⟨a2, c2, rfl, r2, hc2, g2⟩)
    | (go_at_call 47; refine (HK.out.order a1 a2 c1 c2 _ hc2 (r1.grow g2) r2).mono ?_; rintro e w3 ⟨ob, oc, rfl, ro, g3⟩))
  refine wp_abs (fun W => Gr V W ∧ IRow W ob (intsN ol)) ⟨g1.tr (g2.tr g3), ro⟩ ?_
  clear r1 r2 ro g1 g2 g3
  rintro V1 ⟨gV1, ro⟩
  go_upto_region 4 with (first
    | (go_at_call 35; refine (HBx.out _ gV1).mono ?_; rintro e w1 ⟨a1, c1, rfl, r1, hc1, g1⟩)
    | (go_at_call 36; refine (HSp.out _ (gV1.tr g1)).mono ?_; rintro e w2 ⟨a2, c2, rfl, r2, hc2, g2⟩)
    | (go_at_call 48; refine (HK.out.most a1 a2 c1 c2 _ hc2 (r1.grow g2) r2).mono ?_; rintro e w3 ⟨mb, mc, rfl, rm, g3⟩))
  refine wp_abs (fun W => Gr V W ∧ IRow W ob (intsN ol) ∧ IRow W mb (intsN ml)) ⟨gV1.tr (g1.tr (g2.tr g3)), ro.grow (g1.tr (g2.tr g3)), rm⟩ ?_
  clear r1 r2 ro rm g1 g2 g3 gV1
  rintro V2 ⟨gV2, ro, rm⟩
  obtain ⟨m1, m2, m3⟩ := HK.out.mostN
  have e1 : decide ((l.length : Int) < (ml.length : Int)) = false := by simp; omega
  have e1' : ¬ (l.length : Int) < (ml.length : Int) := by omega
  have M1 := Lib.hid m1
  have M2 := Lib.hid m2
  clear m1 m2
  by_cases hev : ev = 0
  · subst hev
    obtain ⟨h1, h2, h3, h4, h5⟩ := HK.out.yes rfl
    have e2 : ((ml.length : Int) == (l.length : Int)) = true := by rw [beq_iff_eq]; omega
    have e3 : ((ol.length : Int) != (l.length : Int)) = false := by rw [bne_eq_false_iff_eq]; omega
    have O1 := Lib.hid h2
    have O2 := Lib.hid h3
    have O3 := Lib.hid h5
    have h1' := Lib.hid h1
    have ol8 : ol.length ≤ 8 := by omega
    have ml8 : ml.length ≤ 8 := by omega
    have h4' := Lib.hid h4
    clear h1 h2 h3 h4 h5
    go_upto_region 8 with (go_at_call 57; refine (picked_any l ol (by omega) O1.out O2.out (by omega) _ _ _ _ _ (rL.grow gV2) ro).mono ?_; rintro e w1 ⟨a1, c1, rfl, r1, g1⟩)
    go_upto_region 11 with (first
      | (go_at_call 36; refine (HSp.out _ (gV2.tr g1)).mono ?_; rintro e w2 ⟨a2, c2, rfl, r2, hc2, g2⟩)
      | (go_at_call 38; refine (HK.out.fall ol a1 a2 c1 c2 _ ol8 O2.out hc2 (r1.grow g2) r2).mono ?_; rintro e w3 ⟨⟨y3, z3, v3, rfl, hv3, _⟩, g3⟩; obtain rfl : v3 = 7 := hv3 O3.out; clear hv3))
    go_upto_region 14 with (go_at_call 57; refine (picked_any l ml (by omega) M1.out M2.out (by omega) _ _ _ _ _ (rL.grow (gV2.tr (g1.tr (g2.tr g3)))) (rm.grow (g1.tr (g2.tr g3)))).mono ?_; rintro e w5 ⟨a5, c5, rfl, r5, g5⟩)
    go_upto_region 19 with (first
      | (go_at_call 36; refine (HSp.out _ ((gV2.tr (g1.tr (g2.tr g3))).tr g5)).mono ?_; rintro e w6 ⟨a6, c6, rfl, r6, hc6, g6⟩)
      | (go_at_call 47; refine (HK.out.again a5 a6 c5 c6 _ hc6 (r5.grow g6) r6).mono ?_; rintro e w7 ⟨b7, n7, c7, rfl, g7⟩))
    refine wp_abs (fun W => Gr V W ∧ IRow W ob (intsN ol)) ⟨(gV2.tr (g1.tr (g2.tr g3))).tr (g5.tr (g6.tr g7)), ro.grow ((g1.tr (g2.tr g3)).tr (g5.tr (g6.tr g7)))⟩ ?_
    clear r5 r6 g5 g6 g7
    rintro V3 ⟨gV3, ro3⟩
    refine (show (∀ s : Nat → Value, Code.wp Try.prog _ _ ⟨#[s 0, .slice ya Y.length yc, .int .u8 days, s 3, s 4, s 5, s 6, .slice (some ⟨B, 0, none⟩) l.length c, .slice (some ⟨D, 0, none⟩) t.length f, .slice ob ol.length oc, s 10, .slice mb ml.length mc, s 12, s 13, s 14, s 15, s 16, s 17, s 18, s 19, s 20, s 21, s 22, s 23, s 24, s 25, s 26, s 27, s 28, s 29, s 30, s 31, s 32, s 33, s 34, s 35, s 36, s 37, s 38, s 39, s 40, s 41, s 42, s 43, s 44, s 45, s 46, s 47, s 48, s 49, s 50, s 51, s 52, s 53, s 54, s 55, s 56, s 57, s 58, s 59, s 60, s 61, s 62, s 63, s 64, s 65, s 66, s 67, s 68, s 69, s 70, s 71, s 72, s 73, s 74, s 75, s 76, s 77, s 78, s 79, s 80, s 81, s 82, s 83, s 84, s 85, s 86, s 87, s 88, s 89, s 90, s 91, s 92, s 93, s 94, s 95, s 96, s 97, s 98, s 99, s 100, s 101, s 102, s 103, s 104, s 105, s 106, s 107, s 108, s 109, s 110, s 111, s 112, s 113, s 114, s 115, s 116, s 117, s 118, s 119, s 120, s 121, s 122, s 123, s 124, s 125, s 126, s 127, s 128, s 129, s 130, s 131, s 132, s 133, undef, undef, undef, undef, undef, undef, undef, undef, undef, undef, undef, undef, undef, undef, undef, undef, undef, undef, undef, undef, undef, undef, undef, undef, undef, undef, undef, undef, undef, undef, undef, undef, undef, undef, undef, undef, undef, undef, undef, undef, undef, undef, undef, undef, undef, undef, undef, undef, undef, undef, undef, undef, undef, undef, undef, undef, undef, undef, undef, undef, undef, undef, undef, undef, undef, undef, undef, undef, undef, undef, undef, undef, undef, undef, undef, undef, undef, undef, undef, undef, undef, undef, undef, undef, undef, undef, undef, undef], []⟩ _) → _ from fun h => h ((fun l : List Value => fun i => l.getD i undef) [_, undef, undef, _, _, _, _, undef, undef, undef, _, undef, _, _, _, _, _, _, _, _, _, _, _, _, _, _, _, _, _, _, _, _, _, _, _, _, _, _, _, _, _, _, _, _, _, _, _, _, _, _, _, _, _, _, _, _, _, _, _, _, _, _, _, _, _, _, _, _, _, _, _, _, _, _, _, _, _, _, _, _, _, _, _, _, _, _, _, _, _, _, _, _, _, _, _, _, _, _, _, _, _, _, _, _, _, _, _, _, _, _, _, _, _, _, _, _, _, _, _, _, _, _, _, _, _, _, _, _, _, _, _, _, _, _])) ?_
    intro s
    dsimp only
    go_upto_region 20 with fail
    obtain ⟨E0, hE0⟩ : ∃ E, E = V3.heap.size := ⟨_, rfl⟩
    have oA := owns_keep (owns_empty V3 3 1) (Gr.al _ (.cells #[] 70))
    have gA := (Gr.al V3 (.cells #[] 3)).tr (Gr.al _ (.cells #[] 70))
    have hE1 : V3.heap.size ≤ E0 ∧ E0 ≤ V3.heap.size := by omega
    rw [← hE0] at oA ⊢
    clear hE0
    refine wp_abs (fun W => Gr V3 W ∧ W.ownsRow E0 3 1 (.slice (some ⟨E0, 0, none⟩) 0 0) 0 []) ⟨gA, oA⟩ ?_
    clear gA oA
    rintro V4 ⟨gA, oA⟩
    go_wp2
    go_loopw [24, 22] (fun i s wr => Hid (∃ k g cap : Nat, k ≤ l.length ∧ i = .int .i64 k ∧ s = .slice (some ⟨g, 0, none⟩) k cap ∧ Gr V3 wr ∧ wr.ownsRow E0 3 1 (.slice (some ⟨g, 0, none⟩) k cap) k ((intsN (List.range k)).flatMap encI))) (fun i _ _ => l.length - (intOf i).toNat)
    case atStart => exact Lib.hid ⟨0, E0, 0, Nat.zero_le _, rfl, rfl, gA, by simpa [intsN] using oA⟩
    case round =>
      clear gA oA
      obtain ⟨k, g, cap, hk, rfl, rfl, gW, oA⟩ := hrel.out
      clear hrel
      by_cases hlt : k < l.length
      · have k1 : k + 1 ≤ maxLen := by unfold maxLen; omega
        have k2 : (k + 1) * 8 ≤ 140737488355328 := by omega
        have gAl := Gr.al wr (.cells #[.int .i64 (k : Int)] 3)
        have hfl := Lib.hid (show (intsN (List.range (k + 1))).flatMap encI = (intsN (List.range k)).flatMap encI ++ [(k : Int)].map (fun n => Value.int .i64 n) by
          rw [List.range_succ]
          unfold intsN
          rw [List.map_append, List.flatMap_append]
          rfl)
        go_wp2_with (at_builtin; refine wpList_append_lies _ rfl _ _ 24 rfl E0 3 i0 (.int .i64 0) 1 8 Try.underlying24 hi hz0 hz1 hz2 rfl (by decide) (.slice (some ⟨g, 0, none⟩) k cap) k _ rfl (owns_keep oA gAl) ⟨wr.heap.size, 0, none⟩ 1 1 ([(k : Int)].map (fun n => Value.int .i64 n)) rfl rfl (cell_news _ _ _) (ints_one _) (by omega) k1 k2 (by have := gW.size; have := gAl.size; omega) _ rfl ?_; intro g2 cap2 Y2 hA2 hgr hat hlt2)
        go_roundw
        case rel => exact Lib.hid ⟨k + 1, g2, cap2, by omega, by go_num, rfl, (gW.tr gAl).grown' (owns_keep oA gAl) (by omega) hgr, by rw [hfl.out]; exact hA2⟩
        case measure => simp [intOf]; omega
      · obtain rfl : k = l.length := by omega
        clear hk
        go_upto_region 25 with fail
        have hgl := oA.lt g rfl
        obtain ⟨E1, hE1'⟩ : ∃ E, E = wr.heap.size := ⟨_, rfl⟩
        have oN := owns_base (owns_empty wr 3 1) (show E0 ≤ wr.heap.size by omega)
        have oL := owns_keep oA (Gr.al wr (.cells #[] 3))
        have hap : Apart (.slice (some ⟨E1, 0, none⟩) 0 0) (.slice (some ⟨g, 0, none⟩) l.length cap) := Apart.lit (by omega)
        have gN := gW.tr (Gr.al wr (.cells #[] 3))
        rw [← hE1'] at oN ⊢
        clear hE1' oA gW
        refine wp_abs (fun W => Gr V3 W ∧ W.ownsRow E0 3 1 (.slice (some ⟨E1, 0, none⟩) 0 0) 0 [] ∧ W.ownsRow E0 3 1 (.slice (some ⟨g, 0, none⟩) l.length cap) l.length ((intsN (List.range l.length)).flatMap encI)) ⟨gN, oN, oL⟩ ?_
        clear gN oN oL hgl
        rintro V5 ⟨gA, oN, oL⟩
        refine (show (∀ s2 : Nat → Value, Code.wp Try.prog _ _ ⟨#[s2 0, .slice ya Y.length yc, .int .u8 days, s2 3, s2 4, s2 5, s2 6, .slice (some ⟨B, 0, none⟩) l.length c, .slice (some ⟨D, 0, none⟩) t.length f, .slice ob ol.length oc, s2 10, .slice mb ml.length mc, s2 12, s2 13, s2 14, s2 15, s2 16, s2 17, s2 18, s2 19, s2 20, s2 21, .slice (some ⟨g, 0, none⟩) l.length cap, s2 23, s2 24, .slice (some ⟨E1, 0, none⟩) 0 0, s2 26, s2 27, s2 28, s2 29, s2 30, s2 31, s2 32, s2 33, s2 34, s2 35, s2 36, s2 37, s2 38, s2 39, s2 40, s2 41, s2 42, s2 43, s2 44, s2 45, s2 46, s2 47, s2 48, s2 49, s2 50, s2 51, s2 52, s2 53, s2 54, s2 55, s2 56, s2 57, s2 58, s2 59, s2 60, s2 61, s2 62, s2 63, s2 64, s2 65, s2 66, s2 67, s2 68, s2 69, s2 70, s2 71, s2 72, s2 73, s2 74, s2 75, s2 76, s2 77, s2 78, s2 79, s2 80, s2 81, s2 82, s2 83, s2 84, s2 85, s2 86, s2 87, s2 88, s2 89, s2 90, s2 91, s2 92, s2 93, s2 94, s2 95, s2 96, s2 97, s2 98, s2 99, s2 100, s2 101, s2 102, s2 103, s2 104, s2 105, s2 106, s2 107, s2 108, s2 109, s2 110, s2 111, s2 112, s2 113, s2 114, s2 115, s2 116, s2 117, s2 118, s2 119, s2 120, s2 121, s2 122, s2 123, s2 124, s2 125, s2 126, s2 127, s2 128, s2 129, s2 130, s2 131, s2 132, s2 133, s2 134, s2 135, s2 136, s2 137, s2 138, s2 139, s2 140, s2 141, s2 142, s2 143, s2 144, undef, undef, undef, undef, undef, undef, undef, undef, undef, undef, undef, undef, undef, undef, undef, undef, undef, undef, undef, undef, undef, undef, undef, undef, undef, undef, undef, undef, undef, undef, undef, undef, undef, undef, undef, undef, undef, undef, undef, undef, undef, undef, undef, undef, undef, undef, undef, undef, undef, undef, undef, undef, undef, undef, undef, undef, undef, undef, undef, undef, undef, undef, undef, undef, undef, undef, undef, undef, undef, undef, undef, undef, undef, undef, undef, undef, undef], []⟩ _) → _ from fun h => h ((fun l : List Value => fun i => l.getD i undef) [_, undef, undef, _, _, _, _, undef, undef, undef, _, undef, _, _, _, _, _, _, _, _, _, _, undef, _, _, undef, _, _, _, _, _, _, _, _, _, _, _, _, _, _, _, _, _, _, _, _, _, _, _, _, _, _, _, _, _, _, _, _, _, _, _, _, _, _, _, _, _, _, _, _, _, _, _, _, _, _, _, _, _, _, _, _, _, _, _, _, _, _, _, _, _, _, _, _, _, _, _, _, _, _, _, _, _, _, _, _, _, _, _, _, _, _, _, _, _, _, _, _, _, _, _, _, _, _, _, _, _, _, _, _, _, _, _, _, _, _, _, _, _, _, _, _, _, _, _])) ?_
        intro s2
        dsimp only
        go_wp2
        go_loopw [26, 25, 22] (fun i a u wx => Hid (∃ (A L : List Nat) (aa la : Option Addr) (ac lc : Nat), i = .int .i64 (A.length : Int) ∧ a = .slice aa A.length ac ∧ u = .slice la L.length lc ∧ (A ++ L).Perm (List.range l.length) ∧ Gr V3 wx ∧ wx.ownsRow E0 3 1 (.slice aa A.length ac) A.length ((intsN A).flatMap encI) ∧ wx.ownsRow E0 3 1 (.slice la L.length lc) L.length ((intsN L).flatMap encI) ∧ Apart (.slice aa A.length ac) (.slice la L.length lc))) (fun i _ _ _ => l.length - (intOf i).toNat)
        case atStart => exact Lib.hid ⟨[], List.range l.length, some ⟨E1, 0, none⟩, some ⟨g, 0, none⟩, 0, cap, rfl, rfl, by rw [List.length_range], by simp, gA, oN, by rw [List.length_range]; exact oL, by rw [List.length_range]; exact hap⟩
        case round =>
          clear gA oN oL hap
          obtain ⟨A, L, aa, la, ac, lc, rfl, rfl, rfl, hpm, gX, oa, ol', hap⟩ := hrel.out
          clear hrel
          have hsum : A.length + L.length = l.length := by
            have := hpm.length_eq
            simpa using this
          have HP := Lib.hid hpm
          clear hpm
          by_cases h0 : 0 < L.length
          · have dL : decide ((0 : Int) < (L.length : Int)) = true := by simp; omega
            have dL' : (0 : Int) < (L.length : Int) := by omega
            have hy0 := byteW_bd HY.out A.length
            obtain ⟨bz, hbz⟩ : ∃ z, byteW Y A.length = z := ⟨_, rfl⟩
            rw [hbz] at hy0
            obtain ⟨ix, hix⟩ : ∃ i : Nat, (i : Int) = bz % (L.length : Int) := ⟨(bz % (L.length : Int)).toNat, Int.toNat_of_nonneg (Int.emod_nonneg _ (by omega))⟩
            have hixl : ix < L.length := by
              have := Int.emod_lt_of_pos bz dL'
              omega
            have z1 : bz.tmod (L.length : Int) = (ix : Int) := by rw [Int.tmod_eq_emod_of_nonneg hy0.1]; exact hix.symm
            have z2 : IntKind.i64.wrap (ix : Int) = (ix : Int) := IntWalk.i64_in _ (by omega)
            have z3 : ¬ ((L.length : Int) = 0) := by omega
            have HYB : Hid (∀ W, Gr V3 W → Calls Try.prog 55 #[.slice ya Y.length yc, .int .i64 (A.length : Int)] W fun e w' => e = .returned (.int .i64 bz) ∧ Gr W w') := Lib.hid (fun W g => by
              have := lbyteOf_any Y HY.out A.length (by omega) ya yc W (ry.grow ((gV.tr gV3).tr g))
              rw [hbz] at this
              exact this)
            clear hbz hix
            go_upto_region 29 with (go_at_call 55; refine (HYB.out _ gX).mono ?_; rintro e w8 ⟨rfl, g8⟩)
            refine wp_abs (fun W => Gr V3 W ∧ W.ownsRow E0 3 1 (.slice aa A.length ac) A.length ((intsN A).flatMap encI) ∧ W.ownsRow E0 3 1 (.slice la L.length lc) L.length ((intsN L).flatMap encI)) ⟨gX.tr g8, owns_keep oa g8, owns_keep ol' g8⟩ ?_
            clear gX oa ol' g8 z1 z2 z3
            rintro V7 ⟨gX, oa, ol'⟩
            obtain ⟨xe, hx⟩ : ∃ x, L[ix]? = some x := ⟨L[ix], by simp [hixl]⟩
            have hxi : (intsN L)[ix]? = some (xe : Int) := by unfold intsN; rw [List.getElem?_map, hx]; rfl
            obtain ⟨la2, lc2, ee, rl7⟩ := owns_row (enc := encI) (l := intsN L) (fun _ => rfl) (by rw [intsN_len]; omega) (by rw [intsN_len]; exact ol')
            rw [intsN_len] at ee
            injection ee with ee1 ee0 ee2
            subst ee1
            subst ee2
            clear ee0
            obtain ⟨bL, oL0, rfl, _, cx⟩ := IRow.get rl7 hxi
            have k1 : A.length + 1 ≤ maxLen := by unfold maxLen; omega
            have k2 : (A.length + 1) * 8 ≤ 140737488355328 := by omega
            have gAl := Gr.al V7 (.cells #[.int .i64 (xe : Int)] 3)
            have HX := Lib.hid hx
            clear hx hxi
            go_upto_region 30 with (at_builtin; refine wpList_append_sep _ rfl _ _ 24 rfl E0 3 i0 (.int .i64 0) 1 8 Try.underlying24 hi hz0 hz1 hz2 rfl (by decide) _ _ _ rfl (owns_keep oa gAl) ⟨V7.heap.size, 0, none⟩ 1 1 ([(xe : Int)].map (fun n => Value.int .i64 n)) rfl rfl (cell_news _ _ _) (ints_one _) k1 k2 (by have := gX.size; have := gAl.size; omega) _ _ _ (owns_keep ol' gAl) hap ?_; intro sv Y8 hA2 hgr hU2 hap2)
            have gY := (gX.tr gAl).grown' (owns_keep oa gAl) (by omega) hgr
            refine wp_abs (fun Z => Gr V3 Z ∧ Z.ownsRow E0 3 1 sv (A.length + 1) ((intsN (A ++ [xe])).flatMap encI) ∧ Z.ownsRow E0 3 1 (.slice (some ⟨bL, oL0, none⟩) L.length lc) L.length ((intsN L).flatMap encI)) ⟨gY, (by unfold intsN; rw [List.map_append, List.flatMap_append]; exact hA2), hU2⟩ ?_
            clear gX gY hA2 hU2 hap oa ol' rl7 cx gAl hgr
            rintro V8 ⟨gX, oa, ol'⟩
            refine (show (∀ s3 : Nat → Value, Code.wp Try.prog _ _ ⟨#[s2 0, .slice ya Y.length yc, .int .u8 days, s2 3, s2 4, s2 5, s2 6, .slice (some ⟨B, 0, none⟩) l.length c, .slice (some ⟨D, 0, none⟩) t.length f, .slice ob ol.length oc, s2 10, .slice mb ml.length mc, s2 12, s2 13, s2 14, s2 15, s2 16, s2 17, s2 18, s2 19, s2 20, s2 21, .slice (some ⟨bL, oL0, none⟩) L.length lc, s2 23, s2 24, sv, .int .i64 (A.length : Int), .int .i64 (ix : Int), s2 28, s2 29, s2 30, s2 31, s2 32, s2 33, s2 34, s2 35, s2 36, s2 37, s2 38, s2 39, s2 40, s2 41, s2 42, s2 43, s2 44, s2 45, s2 46, s2 47, s2 48, s2 49, s2 50, s2 51, s2 52, s2 53, s2 54, s2 55, s2 56, s2 57, s2 58, s2 59, s2 60, s2 61, s2 62, s2 63, s2 64, s2 65, s2 66, s2 67, s2 68, s2 69, s2 70, s2 71, s2 72, s2 73, s2 74, s2 75, s2 76, s2 77, s2 78, s2 79, s2 80, s2 81, s2 82, s2 83, s2 84, s2 85, s2 86, s2 87, s2 88, s2 89, s2 90, s2 91, s2 92, s2 93, s2 94, s2 95, s2 96, s2 97, s2 98, s2 99, s2 100, s2 101, s2 102, s2 103, s2 104, s2 105, s2 106, s2 107, s2 108, s2 109, s2 110, s2 111, s2 112, s2 113, s2 114, s2 115, s2 116, s2 117, s2 118, s2 119, s2 120, s2 121, s2 122, s2 123, s2 124, s2 125, s2 126, s2 127, s2 128, s2 129, s2 130, s2 131, s2 132, s2 133, s2 134, s2 135, s2 136, s2 137, s2 138, s2 139, s2 140, s2 141, s2 142, s2 143, s2 144, s3 145, s3 146, s3 147, s3 148, s3 149, s3 150, s3 151, s3 152, s3 153, s3 154, s3 155, s3 156, s3 157, s3 158, s3 159, s3 160, s3 161, s3 162, s3 163, s3 164, s3 165, s3 166, s3 167, s3 168, s3 169, s3 170, s3 171, undef, undef, undef, undef, undef, undef, undef, undef, undef, undef, undef, undef, undef, undef, undef, undef, undef, undef, undef, undef, undef, undef, undef, undef, undef, undef, undef, undef, undef, undef, undef, undef, undef, undef, undef, undef, undef, undef, undef, undef, undef, undef, undef, undef, undef, undef, undef, undef, undef, undef], []⟩ _) → _ from fun h => h ((fun l : List Value => fun i => l.getD i undef) [undef, undef, undef, undef, undef, undef, undef, undef, undef, undef, undef, undef, undef, undef, undef, undef, undef, undef, undef, undef, undef, undef, undef, undef, undef, undef, undef, undef, undef, undef, undef, undef, undef, undef, undef, undef, undef, undef, undef, undef, undef, undef, undef, undef, undef, undef, undef, undef, undef, undef, undef, undef, undef, undef, undef, undef, undef, undef, undef, undef, undef, undef, undef, undef, undef, undef, undef, undef, undef, undef, undef, undef, undef, undef, undef, undef, undef, undef, undef, undef, undef, undef, undef, undef, undef, undef, undef, undef, undef, undef, undef, undef, undef, undef, undef, undef, undef, undef, undef, undef, undef, undef, undef, undef, undef, undef, undef, undef, undef, undef, undef, undef, undef, undef, undef, undef, undef, undef, undef, undef, undef, undef, undef, undef, undef, undef, undef, undef, undef, undef, undef, undef, undef, undef, undef, undef, undef, undef, undef, undef, undef, undef, undef, undef, undef, _, _, _, _, _, _, _, _, _, _, _, _, _, _, _, _, _, _, _, _, _, _, _, _, _, _, _])) ?_
            intro s3
            dsimp only
            obtain ⟨a9, c9, e9, rl8, _, hlc⟩ := owns_row_cap (enc := encI) (l := intsN L) (fun _ => rfl) (by rw [intsN_len]; omega) (by rw [intsN_len]; exact ol')
            rw [intsN_len] at e9 hlc
            injection e9 with e9 e11 e10
            subst e9
            subst e10
            clear e11
            have z5 : IntKind.i64.wrap ((ix : Int) + 1) = ((ix + 1 : Nat) : Int) := IntWalk.i64_in _ (by omega)
            obtain ⟨ad, had, hnw⟩ := cut_tail (l := intsN L) rl8 (n := ix + 1) (c := lc) (by rw [intsN_len]; omega) (by rw [intsN_len]; omega)
            have HAD := Lib.hid (And.intro had hnw)
            clear had hnw
            have hix1 : ix ≤ lc := by omega
            have hix2 : ix + 1 ≤ L.length := by omega
            have hix3 : (ix : Int) + 1 ≤ (L.length : Int) := by omega
            have HIn : Hid (∀ W, Gr V8 W → Calls Try.prog 19 #[.slice (some ⟨bL, oL0, none⟩) ix lc] W fun e w' => ∃ v, e = .returned v ∧ w'.ownsRow W.heap.size 3 1 v ix (((intsN L).take ix).flatMap encI) ∧ Gr W w') := Lib.hid (fun W g => lints_own_at (intsN L) ix (by rw [intsN_len]; omega) (by rw [intsN_len]; omega) bL oL0 lc W (rl8.grow g))
            refine wp_region_facts 8 [(2, 0), (2, 1), (3, 2), (6, 5), (7, 4), (7, 6)] (fun x => ⟨#[s2 0, .slice ya Y.length yc, .int .u8 days, s2 3, s2 4, s2 5, s2 6, .slice (some ⟨B, 0, none⟩) l.length c, .slice (some ⟨D, 0, none⟩) t.length f, .slice ob ol.length oc, s2 10, .slice mb ml.length mc, s2 12, s2 13, s2 14, s2 15, s2 16, s2 17, s2 18, s2 19, s2 20, s2 21, .slice (some ⟨bL, oL0, none⟩) L.length lc, s2 23, s2 24, sv, .int .i64 (A.length : Int), .int .i64 (ix : Int), s2 28, s2 29, s2 30, s2 31, s2 32, s2 33, s2 34, s2 35, s2 36, s2 37, s2 38, s2 39, s2 40, s2 41, s2 42, s2 43, s2 44, s2 45, s2 46, s2 47, s2 48, s2 49, s2 50, s2 51, s2 52, s2 53, s2 54, s2 55, s2 56, s2 57, s2 58, s2 59, s2 60, s2 61, s2 62, s2 63, s2 64, s2 65, s2 66, s2 67, s2 68, s2 69, s2 70, s2 71, s2 72, s2 73, s2 74, s2 75, s2 76, s2 77, s2 78, s2 79, s2 80, s2 81, s2 82, s2 83, s2 84, s2 85, s2 86, s2 87, s2 88, s2 89, s2 90, s2 91, s2 92, s2 93, s2 94, s2 95, s2 96, s2 97, s2 98, s2 99, s2 100, s2 101, s2 102, s2 103, s2 104, s2 105, s2 106, s2 107, s2 108, s2 109, s2 110, s2 111, s2 112, s2 113, s2 114, s2 115, s2 116, s2 117, s2 118, s2 119, s2 120, s2 121, s2 122, s2 123, s2 124, s2 125, s2 126, s2 127, s2 128, s2 129, s2 130, s2 131, s2 132, s2 133, s2 134, s2 135, s2 136, s2 137, s2 138, s2 139, s2 140, s2 141, s2 142, s2 143, s2 144, s3 145, s3 146, s3 147, s3 148, s3 149, s3 150, s3 151, s3 152, s3 153, s3 154, s3 155, s3 156, s3 157, s3 158, s3 159, s3 160, s3 161, s3 162, x 0, x 1, x 2, x 3, x 4, x 5, x 6, x 7, s3 171, undef, undef, undef, undef, undef, undef, undef, undef, undef, undef, undef, undef, undef, undef, undef, undef, undef, undef, undef, undef, undef, undef, undef, undef, undef, undef, undef, undef, undef, undef, undef, undef, undef, undef, undef, undef, undef, undef, undef, undef, undef, undef, undef, undef, undef, undef, undef, undef, undef, undef], []⟩) (fun i => [s3 163, s3 164, s3 165, s3 166, s3 167, s3 168, s3 169, s3 170].getD i undef) [fun _ x => x = .slice (some ⟨bL, oL0, none⟩) L.length lc, fun _ x => x = .int .i64 (ix : Int), fun _ x => x = .slice (some ⟨bL, oL0, none⟩) ix lc, fun v x => ∃ u, x = u ∧ v.ownsRow V8.heap.size 3 1 u ix (((intsN L).take ix).flatMap encI), fun _ x => x = .slice (some ⟨bL, oL0, none⟩) L.length lc, fun _ x => x = .int .i64 (ix : Int), fun _ x => x = .int .i64 ((ix + 1 : Nat) : Int), fun _ x => x = .slice (some ad) (L.length - (ix + 1)) (lc - (ix + 1))] (by rfl) (by kernel_rfl) (by kernel_rfl) (by kernel_rfl) (stays_cons (Stays.eq _) (stays_cons (Stays.eq _) (stays_cons (Stays.eq _) (stays_cons ((show Stays (fun v x => ∃ u, x = u ∧ v.ownsRow V8.heap.size 3 1 u ix (((intsN L).take ix).flatMap encI)) from fun v v' x g ⟨u, h, o⟩ => ⟨u, h, owns_keep o g⟩)) (stays_cons (Stays.eq _) (stays_cons (Stays.eq _) (stays_cons (Stays.eq _) (stays_cons (Stays.eq _) stays_nil)))))))) ?step30 ?fin30
            case step30 =>
              rintro i hi x v gv hd K hK
              have hi8 : i = 0 ∨ i = 1 ∨ i = 2 ∨ i = 3 ∨ i = 4 ∨ i = 5 ∨ i = 6 ∨ i = 7 := by omega
              rcases hi8 with rfl | rfl | rfl | rfl | rfl | rfl | rfl | rfl
              · show wpOp Try.prog _ _ 0 K (⟨#[s2 0, .slice ya Y.length yc, .int .u8 days, s2 3, s2 4, s2 5, s2 6, .slice (some ⟨B, 0, none⟩) l.length c, .slice (some ⟨D, 0, none⟩) t.length f, .slice ob ol.length oc, s2 10, .slice mb ml.length mc, s2 12, s2 13, s2 14, s2 15, s2 16, s2 17, s2 18, s2 19, s2 20, s2 21, .slice (some ⟨bL, oL0, none⟩) L.length lc, s2 23, s2 24, sv, .int .i64 (A.length : Int), .int .i64 (ix : Int), s2 28, s2 29, s2 30, s2 31, s2 32, s2 33, s2 34, s2 35, s2 36, s2 37, s2 38, s2 39, s2 40, s2 41, s2 42, s2 43, s2 44, s2 45, s2 46, s2 47, s2 48, s2 49, s2 50, s2 51, s2 52, s2 53, s2 54, s2 55, s2 56, s2 57, s2 58, s2 59, s2 60, s2 61, s2 62, s2 63, s2 64, s2 65, s2 66, s2 67, s2 68, s2 69, s2 70, s2 71, s2 72, s2 73, s2 74, s2 75, s2 76, s2 77, s2 78, s2 79, s2 80, s2 81, s2 82, s2 83, s2 84, s2 85, s2 86, s2 87, s2 88, s2 89, s2 90, s2 91, s2 92, s2 93, s2 94, s2 95, s2 96, s2 97, s2 98, s2 99, s2 100, s2 101, s2 102, s2 103, s2 104, s2 105, s2 106, s2 107, s2 108, s2 109, s2 110, s2 111, s2 112, s2 113, s2 114, s2 115, s2 116, s2 117, s2 118, s2 119, s2 120, s2 121, s2 122, s2 123, s2 124, s2 125, s2 126, s2 127, s2 128, s2 129, s2 130, s2 131, s2 132, s2 133, s2 134, s2 135, s2 136, s2 137, s2 138, s2 139, s2 140, s2 141, s2 142, s2 143, s2 144, s3 145, s3 146, s3 147, s3 148, s3 149, s3 150, s3 151, s3 152, s3 153, s3 154, s3 155, s3 156, s3 157, s3 158, s3 159, s3 160, s3 161, s3 162, x 0, x 1, x 2, x 3, x 4, x 5, x 6, x 7, s3 171, undef, undef, undef, undef, undef, undef, undef, undef, undef, undef, undef, undef, undef, undef, undef, undef, undef, undef, undef, undef, undef, undef, undef, undef, undef, undef, undef, undef, undef, undef, undef, undef, undef, undef, undef, undef, undef, undef, undef, undef, undef, undef, undef, undef, undef, undef, undef, undef, undef, undef], []⟩ : Act) v
                refine wpOp_step rfl (fun K' hK' => ?_)
                go_simp
                exact hK' _ _ (hK _ _ (Below.refl _ _) (at_of rfl (rfl)))
              · show wpOp Try.prog _ _ 1 K (⟨#[s2 0, .slice ya Y.length yc, .int .u8 days, s2 3, s2 4, s2 5, s2 6, .slice (some ⟨B, 0, none⟩) l.length c, .slice (some ⟨D, 0, none⟩) t.length f, .slice ob ol.length oc, s2 10, .slice mb ml.length mc, s2 12, s2 13, s2 14, s2 15, s2 16, s2 17, s2 18, s2 19, s2 20, s2 21, .slice (some ⟨bL, oL0, none⟩) L.length lc, s2 23, s2 24, sv, .int .i64 (A.length : Int), .int .i64 (ix : Int), s2 28, s2 29, s2 30, s2 31, s2 32, s2 33, s2 34, s2 35, s2 36, s2 37, s2 38, s2 39, s2 40, s2 41, s2 42, s2 43, s2 44, s2 45, s2 46, s2 47, s2 48, s2 49, s2 50, s2 51, s2 52, s2 53, s2 54, s2 55, s2 56, s2 57, s2 58, s2 59, s2 60, s2 61, s2 62, s2 63, s2 64, s2 65, s2 66, s2 67, s2 68, s2 69, s2 70, s2 71, s2 72, s2 73, s2 74, s2 75, s2 76, s2 77, s2 78, s2 79, s2 80, s2 81, s2 82, s2 83, s2 84, s2 85, s2 86, s2 87, s2 88, s2 89, s2 90, s2 91, s2 92, s2 93, s2 94, s2 95, s2 96, s2 97, s2 98, s2 99, s2 100, s2 101, s2 102, s2 103, s2 104, s2 105, s2 106, s2 107, s2 108, s2 109, s2 110, s2 111, s2 112, s2 113, s2 114, s2 115, s2 116, s2 117, s2 118, s2 119, s2 120, s2 121, s2 122, s2 123, s2 124, s2 125, s2 126, s2 127, s2 128, s2 129, s2 130, s2 131, s2 132, s2 133, s2 134, s2 135, s2 136, s2 137, s2 138, s2 139, s2 140, s2 141, s2 142, s2 143, s2 144, s3 145, s3 146, s3 147, s3 148, s3 149, s3 150, s3 151, s3 152, s3 153, s3 154, s3 155, s3 156, s3 157, s3 158, s3 159, s3 160, s3 161, s3 162, x 0, x 1, x 2, x 3, x 4, x 5, x 6, x 7, s3 171, undef, undef, undef, undef, undef, undef, undef, undef, undef, undef, undef, undef, undef, undef, undef, undef, undef, undef, undef, undef, undef, undef, undef, undef, undef, undef, undef, undef, undef, undef, undef, undef, undef, undef, undef, undef, undef, undef, undef, undef, undef, undef, undef, undef, undef, undef, undef, undef, undef, undef], []⟩ : Act) v
                refine wpOp_step rfl (fun K' hK' => ?_)
                go_simp
                exact hK' _ _ (hK _ _ (Below.refl _ _) (at_of rfl (rfl)))
              · obtain ⟨x, rfl⟩ := upd_of (show x 0 = .slice (some ⟨bL, oL0, none⟩) L.length lc from hd 0 _ (by simp) rfl)
                obtain ⟨x, rfl⟩ := upd_of (show x 1 = .int .i64 (ix : Int) from hd 1 _ (by simp) rfl)
                show wpOp Try.prog _ _ 2 K (⟨#[s2 0, .slice ya Y.length yc, .int .u8 days, s2 3, s2 4, s2 5, s2 6, .slice (some ⟨B, 0, none⟩) l.length c, .slice (some ⟨D, 0, none⟩) t.length f, .slice ob ol.length oc, s2 10, .slice mb ml.length mc, s2 12, s2 13, s2 14, s2 15, s2 16, s2 17, s2 18, s2 19, s2 20, s2 21, .slice (some ⟨bL, oL0, none⟩) L.length lc, s2 23, s2 24, sv, .int .i64 (A.length : Int), .int .i64 (ix : Int), s2 28, s2 29, s2 30, s2 31, s2 32, s2 33, s2 34, s2 35, s2 36, s2 37, s2 38, s2 39, s2 40, s2 41, s2 42, s2 43, s2 44, s2 45, s2 46, s2 47, s2 48, s2 49, s2 50, s2 51, s2 52, s2 53, s2 54, s2 55, s2 56, s2 57, s2 58, s2 59, s2 60, s2 61, s2 62, s2 63, s2 64, s2 65, s2 66, s2 67, s2 68, s2 69, s2 70, s2 71, s2 72, s2 73, s2 74, s2 75, s2 76, s2 77, s2 78, s2 79, s2 80, s2 81, s2 82, s2 83, s2 84, s2 85, s2 86, s2 87, s2 88, s2 89, s2 90, s2 91, s2 92, s2 93, s2 94, s2 95, s2 96, s2 97, s2 98, s2 99, s2 100, s2 101, s2 102, s2 103, s2 104, s2 105, s2 106, s2 107, s2 108, s2 109, s2 110, s2 111, s2 112, s2 113, s2 114, s2 115, s2 116, s2 117, s2 118, s2 119, s2 120, s2 121, s2 122, s2 123, s2 124, s2 125, s2 126, s2 127, s2 128, s2 129, s2 130, s2 131, s2 132, s2 133, s2 134, s2 135, s2 136, s2 137, s2 138, s2 139, s2 140, s2 141, s2 142, s2 143, s2 144, s3 145, s3 146, s3 147, s3 148, s3 149, s3 150, s3 151, s3 152, s3 153, s3 154, s3 155, s3 156, s3 157, s3 158, s3 159, s3 160, s3 161, s3 162, .slice (some ⟨bL, oL0, none⟩) L.length lc, .int .i64 (ix : Int), x 2, x 3, x 4, x 5, x 6, x 7, s3 171, undef, undef, undef, undef, undef, undef, undef, undef, undef, undef, undef, undef, undef, undef, undef, undef, undef, undef, undef, undef, undef, undef, undef, undef, undef, undef, undef, undef, undef, undef, undef, undef, undef, undef, undef, undef, undef, undef, undef, undef, undef, undef, undef, undef, undef, undef, undef, undef, undef, undef], []⟩ : Act) v
                refine wpOp_step rfl (fun K' hK' => ?_)
                go_simp
                exact hK' _ _ (hK _ _ (Below.refl _ _) (at_of rfl (rfl)))
              · obtain ⟨x, rfl⟩ := upd_of (show x 2 = .slice (some ⟨bL, oL0, none⟩) ix lc from hd 2 _ (by simp) rfl)
                show wpOp Try.prog _ _ 3 K (⟨#[s2 0, .slice ya Y.length yc, .int .u8 days, s2 3, s2 4, s2 5, s2 6, .slice (some ⟨B, 0, none⟩) l.length c, .slice (some ⟨D, 0, none⟩) t.length f, .slice ob ol.length oc, s2 10, .slice mb ml.length mc, s2 12, s2 13, s2 14, s2 15, s2 16, s2 17, s2 18, s2 19, s2 20, s2 21, .slice (some ⟨bL, oL0, none⟩) L.length lc, s2 23, s2 24, sv, .int .i64 (A.length : Int), .int .i64 (ix : Int), s2 28, s2 29, s2 30, s2 31, s2 32, s2 33, s2 34, s2 35, s2 36, s2 37, s2 38, s2 39, s2 40, s2 41, s2 42, s2 43, s2 44, s2 45, s2 46, s2 47, s2 48, s2 49, s2 50, s2 51, s2 52, s2 53, s2 54, s2 55, s2 56, s2 57, s2 58, s2 59, s2 60, s2 61, s2 62, s2 63, s2 64, s2 65, s2 66, s2 67, s2 68, s2 69, s2 70, s2 71, s2 72, s2 73, s2 74, s2 75, s2 76, s2 77, s2 78, s2 79, s2 80, s2 81, s2 82, s2 83, s2 84, s2 85, s2 86, s2 87, s2 88, s2 89, s2 90, s2 91, s2 92, s2 93, s2 94, s2 95, s2 96, s2 97, s2 98, s2 99, s2 100, s2 101, s2 102, s2 103, s2 104, s2 105, s2 106, s2 107, s2 108, s2 109, s2 110, s2 111, s2 112, s2 113, s2 114, s2 115, s2 116, s2 117, s2 118, s2 119, s2 120, s2 121, s2 122, s2 123, s2 124, s2 125, s2 126, s2 127, s2 128, s2 129, s2 130, s2 131, s2 132, s2 133, s2 134, s2 135, s2 136, s2 137, s2 138, s2 139, s2 140, s2 141, s2 142, s2 143, s2 144, s3 145, s3 146, s3 147, s3 148, s3 149, s3 150, s3 151, s3 152, s3 153, s3 154, s3 155, s3 156, s3 157, s3 158, s3 159, s3 160, s3 161, s3 162, x 0, x 1, .slice (some ⟨bL, oL0, none⟩) ix lc, x 3, x 4, x 5, x 6, x 7, s3 171, undef, undef, undef, undef, undef, undef, undef, undef, undef, undef, undef, undef, undef, undef, undef, undef, undef, undef, undef, undef, undef, undef, undef, undef, undef, undef, undef, undef, undef, undef, undef, undef, undef, undef, undef, undef, undef, undef, undef, undef, undef, undef, undef, undef, undef, undef, undef, undef, undef, undef], []⟩ : Act) v
                refine wpOp_step rfl (fun K' hK' => ?_)
                go_simp
                refine (HIn.out v gv).mono ?_
                rintro e v' ⟨u, rfl, ho, hg⟩
                exact hK' _ _ (hK _ _ hg (at_of rfl (⟨_, rfl, owns_base ho gv.size⟩)))
              · show wpOp Try.prog _ _ 4 K (⟨#[s2 0, .slice ya Y.length yc, .int .u8 days, s2 3, s2 4, s2 5, s2 6, .slice (some ⟨B, 0, none⟩) l.length c, .slice (some ⟨D, 0, none⟩) t.length f, .slice ob ol.length oc, s2 10, .slice mb ml.length mc, s2 12, s2 13, s2 14, s2 15, s2 16, s2 17, s2 18, s2 19, s2 20, s2 21, .slice (some ⟨bL, oL0, none⟩) L.length lc, s2 23, s2 24, sv, .int .i64 (A.length : Int), .int .i64 (ix : Int), s2 28, s2 29, s2 30, s2 31, s2 32, s2 33, s2 34, s2 35, s2 36, s2 37, s2 38, s2 39, s2 40, s2 41, s2 42, s2 43, s2 44, s2 45, s2 46, s2 47, s2 48, s2 49, s2 50, s2 51, s2 52, s2 53, s2 54, s2 55, s2 56, s2 57, s2 58, s2 59, s2 60, s2 61, s2 62, s2 63, s2 64, s2 65, s2 66, s2 67, s2 68, s2 69, s2 70, s2 71, s2 72, s2 73, s2 74, s2 75, s2 76, s2 77, s2 78, s2 79, s2 80, s2 81, s2 82, s2 83, s2 84, s2 85, s2 86, s2 87, s2 88, s2 89, s2 90, s2 91, s2 92, s2 93, s2 94, s2 95, s2 96, s2 97, s2 98, s2 99, s2 100, s2 101, s2 102, s2 103, s2 104, s2 105, s2 106, s2 107, s2 108, s2 109, s2 110, s2 111, s2 112, s2 113, s2 114, s2 115, s2 116, s2 117, s2 118, s2 119, s2 120, s2 121, s2 122, s2 123, s2 124, s2 125, s2 126, s2 127, s2 128, s2 129, s2 130, s2 131, s2 132, s2 133, s2 134, s2 135, s2 136, s2 137, s2 138, s2 139, s2 140, s2 141, s2 142, s2 143, s2 144, s3 145, s3 146, s3 147, s3 148, s3 149, s3 150, s3 151, s3 152, s3 153, s3 154, s3 155, s3 156, s3 157, s3 158, s3 159, s3 160, s3 161, s3 162, x 0, x 1, x 2, x 3, x 4, x 5, x 6, x 7, s3 171, undef, undef, undef, undef, undef, undef, undef, undef, undef, undef, undef, undef, undef, undef, undef, undef, undef, undef, undef, undef, undef, undef, undef, undef, undef, undef, undef, undef, undef, undef, undef, undef, undef, undef, undef, undef, undef, undef, undef, undef, undef, undef, undef, undef, undef, undef, undef, undef, undef, undef], []⟩ : Act) v
                refine wpOp_step rfl (fun K' hK' => ?_)
                go_simp
                exact hK' _ _ (hK _ _ (Below.refl _ _) (at_of rfl (rfl)))
              · show wpOp Try.prog _ _ 5 K (⟨#[s2 0, .slice ya Y.length yc, .int .u8 days, s2 3, s2 4, s2 5, s2 6, .slice (some ⟨B, 0, none⟩) l.length c, .slice (some ⟨D, 0, none⟩) t.length f, .slice ob ol.length oc, s2 10, .slice mb ml.length mc, s2 12, s2 13, s2 14, s2 15, s2 16, s2 17, s2 18, s2 19, s2 20, s2 21, .slice (some ⟨bL, oL0, none⟩) L.length lc, s2 23, s2 24, sv, .int .i64 (A.length : Int), .int .i64 (ix : Int), s2 28, s2 29, s2 30, s2 31, s2 32, s2 33, s2 34, s2 35, s2 36, s2 37, s2 38, s2 39, s2 40, s2 41, s2 42, s2 43, s2 44, s2 45, s2 46, s2 47, s2 48, s2 49, s2 50, s2 51, s2 52, s2 53, s2 54, s2 55, s2 56, s2 57, s2 58, s2 59, s2 60, s2 61, s2 62, s2 63, s2 64, s2 65, s2 66, s2 67, s2 68, s2 69, s2 70, s2 71, s2 72, s2 73, s2 74, s2 75, s2 76, s2 77, s2 78, s2 79, s2 80, s2 81, s2 82, s2 83, s2 84, s2 85, s2 86, s2 87, s2 88, s2 89, s2 90, s2 91, s2 92, s2 93, s2 94, s2 95, s2 96, s2 97, s2 98, s2 99, s2 100, s2 101, s2 102, s2 103, s2 104, s2 105, s2 106, s2 107, s2 108, s2 109, s2 110, s2 111, s2 112, s2 113, s2 114, s2 115, s2 116, s2 117, s2 118, s2 119, s2 120, s2 121, s2 122, s2 123, s2 124, s2 125, s2 126, s2 127, s2 128, s2 129, s2 130, s2 131, s2 132, s2 133, s2 134, s2 135, s2 136, s2 137, s2 138, s2 139, s2 140, s2 141, s2 142, s2 143, s2 144, s3 145, s3 146, s3 147, s3 148, s3 149, s3 150, s3 151, s3 152, s3 153, s3 154, s3 155, s3 156, s3 157, s3 158, s3 159, s3 160, s3 161, s3 162, x 0, x 1, x 2, x 3, x 4, x 5, x 6, x 7, s3 171, undef, undef, undef, undef, undef, undef, undef, undef, undef, undef, undef, undef, undef, undef, undef, undef, undef, undef, undef, undef, undef, undef, undef, undef, undef, undef, undef, undef, undef, undef, undef, undef, undef, undef, undef, undef, undef, undef, undef, undef, undef, undef, undef, undef, undef, undef, undef, undef, undef, undef], []⟩ : Act) v
                refine wpOp_step rfl (fun K' hK' => ?_)
                go_simp
                exact hK' _ _ (hK _ _ (Below.refl _ _) (at_of rfl (rfl)))
              · obtain ⟨x, rfl⟩ := upd_of (show x 5 = .int .i64 (ix : Int) from hd 5 _ (by simp) rfl)
                show wpOp Try.prog _ _ 6 K (⟨#[s2 0, .slice ya Y.length yc, .int .u8 days, s2 3, s2 4, s2 5, s2 6, .slice (some ⟨B, 0, none⟩) l.length c, .slice (some ⟨D, 0, none⟩) t.length f, .slice ob ol.length oc, s2 10, .slice mb ml.length mc, s2 12, s2 13, s2 14, s2 15, s2 16, s2 17, s2 18, s2 19, s2 20, s2 21, .slice (some ⟨bL, oL0, none⟩) L.length lc, s2 23, s2 24, sv, .int .i64 (A.length : Int), .int .i64 (ix : Int), s2 28, s2 29, s2 30, s2 31, s2 32, s2 33, s2 34, s2 35, s2 36, s2 37, s2 38, s2 39, s2 40, s2 41, s2 42, s2 43, s2 44, s2 45, s2 46, s2 47, s2 48, s2 49, s2 50, s2 51, s2 52, s2 53, s2 54, s2 55, s2 56, s2 57, s2 58, s2 59, s2 60, s2 61, s2 62, s2 63, s2 64, s2 65, s2 66, s2 67, s2 68, s2 69, s2 70, s2 71, s2 72, s2 73, s2 74, s2 75, s2 76, s2 77, s2 78, s2 79, s2 80, s2 81, s2 82, s2 83, s2 84, s2 85, s2 86, s2 87, s2 88, s2 89, s2 90, s2 91, s2 92, s2 93, s2 94, s2 95, s2 96, s2 97, s2 98, s2 99, s2 100, s2 101, s2 102, s2 103, s2 104, s2 105, s2 106, s2 107, s2 108, s2 109, s2 110, s2 111, s2 112, s2 113, s2 114, s2 115, s2 116, s2 117, s2 118, s2 119, s2 120, s2 121, s2 122, s2 123, s2 124, s2 125, s2 126, s2 127, s2 128, s2 129, s2 130, s2 131, s2 132, s2 133, s2 134, s2 135, s2 136, s2 137, s2 138, s2 139, s2 140, s2 141, s2 142, s2 143, s2 144, s3 145, s3 146, s3 147, s3 148, s3 149, s3 150, s3 151, s3 152, s3 153, s3 154, s3 155, s3 156, s3 157, s3 158, s3 159, s3 160, s3 161, s3 162, x 0, x 1, x 2, x 3, x 4, .int .i64 (ix : Int), x 6, x 7, s3 171, undef, undef, undef, undef, undef, undef, undef, undef, undef, undef, undef, undef, undef, undef, undef, undef, undef, undef, undef, undef, undef, undef, undef, undef, undef, undef, undef, undef, undef, undef, undef, undef, undef, undef, undef, undef, undef, undef, undef, undef, undef, undef, undef, undef, undef, undef, undef, undef, undef, undef], []⟩ : Act) v
                refine wpOp_step rfl (fun K' hK' => ?_)
                go_simp
                exact hK' _ _ (hK _ _ (Below.refl _ _) (at_of rfl (rfl)))
              · obtain ⟨x, rfl⟩ := upd_of (show x 4 = .slice (some ⟨bL, oL0, none⟩) L.length lc from hd 4 _ (by simp) rfl)
                obtain ⟨x, rfl⟩ := upd_of (show x 6 = .int .i64 ((ix + 1 : Nat) : Int) from hd 6 _ (by simp) rfl)
                show wpOp Try.prog _ _ 7 K (⟨#[s2 0, .slice ya Y.length yc, .int .u8 days, s2 3, s2 4, s2 5, s2 6, .slice (some ⟨B, 0, none⟩) l.length c, .slice (some ⟨D, 0, none⟩) t.length f, .slice ob ol.length oc, s2 10, .slice mb ml.length mc, s2 12, s2 13, s2 14, s2 15, s2 16, s2 17, s2 18, s2 19, s2 20, s2 21, .slice (some ⟨bL, oL0, none⟩) L.length lc, s2 23, s2 24, sv, .int .i64 (A.length : Int), .int .i64 (ix : Int), s2 28, s2 29, s2 30, s2 31, s2 32, s2 33, s2 34, s2 35, s2 36, s2 37, s2 38, s2 39, s2 40, s2 41, s2 42, s2 43, s2 44, s2 45, s2 46, s2 47, s2 48, s2 49, s2 50, s2 51, s2 52, s2 53, s2 54, s2 55, s2 56, s2 57, s2 58, s2 59, s2 60, s2 61, s2 62, s2 63, s2 64, s2 65, s2 66, s2 67, s2 68, s2 69, s2 70, s2 71, s2 72, s2 73, s2 74, s2 75, s2 76, s2 77, s2 78, s2 79, s2 80, s2 81, s2 82, s2 83, s2 84, s2 85, s2 86, s2 87, s2 88, s2 89, s2 90, s2 91, s2 92, s2 93, s2 94, s2 95, s2 96, s2 97, s2 98, s2 99, s2 100, s2 101, s2 102, s2 103, s2 104, s2 105, s2 106, s2 107, s2 108, s2 109, s2 110, s2 111, s2 112, s2 113, s2 114, s2 115, s2 116, s2 117, s2 118, s2 119, s2 120, s2 121, s2 122, s2 123, s2 124, s2 125, s2 126, s2 127, s2 128, s2 129, s2 130, s2 131, s2 132, s2 133, s2 134, s2 135, s2 136, s2 137, s2 138, s2 139, s2 140, s2 141, s2 142, s2 143, s2 144, s3 145, s3 146, s3 147, s3 148, s3 149, s3 150, s3 151, s3 152, s3 153, s3 154, s3 155, s3 156, s3 157, s3 158, s3 159, s3 160, s3 161, s3 162, x 0, x 1, x 2, x 3, .slice (some ⟨bL, oL0, none⟩) L.length lc, x 5, .int .i64 ((ix + 1 : Nat) : Int), x 7, s3 171, undef, undef, undef, undef, undef, undef, undef, undef, undef, undef, undef, undef, undef, undef, undef, undef, undef, undef, undef, undef, undef, undef, undef, undef, undef, undef, undef, undef, undef, undef, undef, undef, undef, undef, undef, undef, undef, undef, undef, undef, undef, undef, undef, undef, undef, undef, undef, undef, undef, undef], []⟩ : Act) v
                refine wpOp_step rfl (fun K' hK' => ?_)
                go_simp
                exact hK' _ _ (hK _ _ (Below.refl _ _) (at_of rfl (congrArg (fun z => Value.slice z (L.length - (ix + 1)) (lc - (ix + 1))) HAD.out.1)))
            case fin30 =>
              rintro x v gv hd
              obtain ⟨u3, e3, ou3⟩ := hd 3 _ (by omega) rfl
              obtain ⟨x, rfl⟩ := upd_of (show x 3 = u3 from e3)
              obtain ⟨x, rfl⟩ := upd_of (show x 7 = .slice (some ad) (L.length - (ix + 1)) (lc - (ix + 1)) from hd 7 _ (by omega) rfl)
              clear hd
              show wpList Try.prog _ _ (List.drop 8 _) (⟨#[s2 0, .slice ya Y.length yc, .int .u8 days, s2 3, s2 4, s2 5, s2 6, .slice (some ⟨B, 0, none⟩) l.length c, .slice (some ⟨D, 0, none⟩) t.length f, .slice ob ol.length oc, s2 10, .slice mb ml.length mc, s2 12, s2 13, s2 14, s2 15, s2 16, s2 17, s2 18, s2 19, s2 20, s2 21, .slice (some ⟨bL, oL0, none⟩) L.length lc, s2 23, s2 24, sv, .int .i64 (A.length : Int), .int .i64 (ix : Int), s2 28, s2 29, s2 30, s2 31, s2 32, s2 33, s2 34, s2 35, s2 36, s2 37, s2 38, s2 39, s2 40, s2 41, s2 42, s2 43, s2 44, s2 45, s2 46, s2 47, s2 48, s2 49, s2 50, s2 51, s2 52, s2 53, s2 54, s2 55, s2 56, s2 57, s2 58, s2 59, s2 60, s2 61, s2 62, s2 63, s2 64, s2 65, s2 66, s2 67, s2 68, s2 69, s2 70, s2 71, s2 72, s2 73, s2 74, s2 75, s2 76, s2 77, s2 78, s2 79, s2 80, s2 81, s2 82, s2 83, s2 84, s2 85, s2 86, s2 87, s2 88, s2 89, s2 90, s2 91, s2 92, s2 93, s2 94, s2 95, s2 96, s2 97, s2 98, s2 99, s2 100, s2 101, s2 102, s2 103, s2 104, s2 105, s2 106, s2 107, s2 108, s2 109, s2 110, s2 111, s2 112, s2 113, s2 114, s2 115, s2 116, s2 117, s2 118, s2 119, s2 120, s2 121, s2 122, s2 123, s2 124, s2 125, s2 126, s2 127, s2 128, s2 129, s2 130, s2 131, s2 132, s2 133, s2 134, s2 135, s2 136, s2 137, s2 138, s2 139, s2 140, s2 141, s2 142, s2 143, s2 144, s3 145, s3 146, s3 147, s3 148, s3 149, s3 150, s3 151, s3 152, s3 153, s3 154, s3 155, s3 156, s3 157, s3 158, s3 159, s3 160, s3 161, s3 162, x 0, x 1, x 2, u3, x 4, x 5, x 6, .slice (some ad) (L.length - (ix + 1)) (lc - (ix + 1)), s3 171, undef, undef, undef, undef, undef, undef, undef, undef, undef, undef, undef, undef, undef, undef, undef, undef, undef, undef, undef, undef, undef, undef, undef, undef, undef, undef, undef, undef, undef, undef, undef, undef, undef, undef, undef, undef, undef, undef, undef, undef, undef, undef, undef, undef, undef, undef, undef, undef, undef, undef], []⟩ : Act) v
              simp only [List.drop_succ_cons, List.drop_zero]
              have hlx := HX.out
              have k3 : ix + (L.length - (ix + 1)) ≤ maxLen := by unfold maxLen; omega
              have k4 : (ix + (L.length - (ix + 1))) * 8 ≤ 140737488355328 := by omega
              have hnl : (((intsN L).drop (ix + 1)).flatMap encI).length = (L.length - (ix + 1)) * 1 := by rw [flat_len (enc := encI) (sz := 1) (fun _ => rfl), List.length_drop, intsN_len]
              have hgo := gX.tr gv
              have oa9 := owns_keep oa gv
              have HNL := Lib.hid hnl
              clear hnl hlx
              go_wp2_with (at_builtin; refine wpList_append_own _ rfl _ _ 24 rfl V8.heap.size 3 i0 (.int .i64 0) 1 8 Try.underlying24 hi hz0 hz1 hz2 rfl (by decide) u3 ix _ rfl ou3 ad (L.length - (ix + 1)) (lc - (ix + 1)) (((intsN L).drop (ix + 1)).flatMap encI) rfl HNL.out (HAD.out.2 _ gv) (one_flat (fun x u hu => by simp [encI] at hu; rw [hu]; rfl) _) k3 k4 gv.size ?_; intro v9 w9 ho9 hg9 _)
              have hle : ix + (L.length - (ix + 1)) = (L.eraseIdx ix).length := by rw [List.length_eraseIdx, if_pos (by omega)]; omega
              have hfe : ((intsN L).take ix).flatMap encI ++ ((intsN L).drop (ix + 1)).flatMap encI = (intsN (L.eraseIdx ix)).flatMap encI := by
                rw [← List.flatMap_append]
                unfold intsN
                rw [List.eraseIdx_eq_take_drop_succ, List.map_append, List.map_take, List.map_drop]
              rw [hfe, hle] at ho9
              have hg8 : Gr V3 w9 := hgo.grown' ou3 (by have := gX.size; have := gv.size; omega) hg9
              have oa10 := owns_apart oa9 hg9 (fun b e1 e2 => by have := (oa.lt b e1).2; have := (ou3.lt b e2).1; omega)
              have hap9 : Apart sv v9 := fun b e1 e2 => by have := (oa.lt b e1).2; have := (ho9.lt b e2).1; omega
              have ho10 := owns_base ho9 (show E0 ≤ V8.heap.size by have := gX.size; omega)
              obtain ⟨la3, lc3, hv9⟩ := owns_slice ho9
              obtain ⟨aa3, ac3, hsv⟩ := owns_slice oa10
              subst hv9
              subst hsv
              have HPE : Hid ((A ++ [xe] ++ L.eraseIdx ix).Perm (List.range l.length)) := Lib.hid (by
                refine List.Perm.trans ?_ HP.out
                rw [List.append_assoc]
                refine List.Perm.append_left A ?_
                exact erase_perm L ix xe HX.out)
              clear hle hfe
              go_roundw
              case rel => exact Lib.hid ⟨A ++ [xe], L.eraseIdx ix, aa3, la3, ac3, lc3, by rw [List.length_append]; go_num, by rw [List.length_append]; rfl, rfl, HPE.out, hg8, by rw [List.length_append]; exact oa10, ho10, by rw [List.length_append]; exact hap9⟩
              case measure => simp [intOf]; omega
          · have hL0 : L.length = 0 := by omega
            obtain rfl : L = [] := List.eq_nil_of_length_eq_zero hL0
            have hpm := HP.out
            rw [List.append_nil] at hpm
            have hAl : A.length = l.length := by have := hpm.length_eq; simpa using this
            have hAn : A.Nodup := hpm.nodup_iff.2 List.nodup_range
            have hAm : ∀ i ∈ A, i < l.length := fun i hi => List.mem_range.1 (hpm.mem_iff.1 hi)
            obtain ⟨aa4, ac4, e4, rA', _, hac'⟩ := owns_row_cap (enc := encI) (l := intsN A) (fun _ => rfl) (by rw [intsN_len]; omega) (by rw [intsN_len]; exact oa)
            rw [intsN_len] at e4 hac'
            injection e4 with e5 e6 e7
            have rA : IRow wr aa (intsN A) := by rw [e5]; exact rA'
            have hac : A.length ≤ ac := by rw [e7]; exact hac'
            have HAl := Lib.hid hAl
            have HAn := Lib.hid hAn
            have HAm := Lib.hid hAm
            have A8 : A.length ≤ 8 := by omega
            clear e5 e6 e7 rA' hac' hpm hAl hAn hAm h0 hL0 hsum oa ol' hap HP
            simp only [List.length_nil]
            go_upto_region 31 with fail
            refine (show (∀ s4 : Nat → Value, Code.wp Try.prog _ _ ⟨#[s4 0, .slice ya Y.length yc, .int .u8 days, s4 3, s4 4, s4 5, s4 6, .slice (some ⟨B, 0, none⟩) l.length c, .slice (some ⟨D, 0, none⟩) t.length f, .slice ob ol.length oc, s4 10, .slice mb ml.length mc, s4 12, s4 13, s4 14, s4 15, s4 16, s4 17, s4 18, s4 19, s4 20, s4 21, s4 22, s4 23, s4 24, .slice aa A.length ac, s4 26, s4 27, s4 28, s4 29, s4 30, s4 31, s4 32, s4 33, s4 34, s4 35, s4 36, s4 37, s4 38, s4 39, s4 40, s4 41, s4 42, s4 43, s4 44, s4 45, s4 46, s4 47, s4 48, s4 49, s4 50, s4 51, s4 52, s4 53, s4 54, s4 55, s4 56, s4 57, s4 58, s4 59, s4 60, s4 61, s4 62, s4 63, s4 64, s4 65, s4 66, s4 67, s4 68, s4 69, s4 70, s4 71, s4 72, s4 73, s4 74, s4 75, s4 76, s4 77, s4 78, s4 79, s4 80, s4 81, s4 82, s4 83, s4 84, s4 85, s4 86, s4 87, s4 88, s4 89, s4 90, s4 91, s4 92, s4 93, s4 94, s4 95, s4 96, s4 97, s4 98, s4 99, s4 100, s4 101, s4 102, s4 103, s4 104, s4 105, s4 106, s4 107, s4 108, s4 109, s4 110, s4 111, s4 112, s4 113, s4 114, s4 115, s4 116, s4 117, s4 118, s4 119, s4 120, s4 121, s4 122, s4 123, s4 124, s4 125, s4 126, s4 127, s4 128, s4 129, s4 130, s4 131, s4 132, s4 133, s4 134, s4 135, s4 136, s4 137, s4 138, s4 139, s4 140, s4 141, s4 142, s4 143, s4 144, s4 145, s4 146, s4 147, s4 148, s4 149, s4 150, s4 151, s4 152, s4 153, s4 154, s4 155, s4 156, s4 157, s4 158, s4 159, s4 160, s4 161, s4 162, s4 163, s4 164, s4 165, s4 166, s4 167, s4 168, s4 169, s4 170, s4 171, undef, undef, undef, undef, undef, undef, undef, undef, undef, undef, undef, undef, undef, undef, undef, undef, undef, undef, undef, undef, undef, undef, undef, undef, undef, undef, undef, undef, undef, undef, undef, undef, undef, undef, undef, undef, undef, undef, undef, undef, undef, undef, undef, undef, undef, undef, undef, undef, undef, undef], []⟩ _) → _ from fun h => h ((fun l : List Value => fun i => l.getD i undef) [_, undef, undef, _, _, _, _, undef, undef, undef, _, undef, _, _, _, _, _, _, _, _, _, _, _, _, _, undef, _, _, _, _, _, _, _, _, _, _, _, _, _, _, _, _, _, _, _, _, _, _, _, _, _, _, _, _, _, _, _, _, _, _, _, _, _, _, _, _, _, _, _, _, _, _, _, _, _, _, _, _, _, _, _, _, _, _, _, _, _, _, _, _, _, _, _, _, _, _, _, _, _, _, _, _, _, _, _, _, _, _, _, _, _, _, _, _, _, _, _, _, _, _, _, _, _, _, _, _, _, _, _, _, _, _, _, _, _, _, _, _, _, _, _, _, _, _, _, _, _, _, _, _, _, _, _, _, _, _, _, _, _, _, _, _, _, _, _, _, _, _, _, _, _, _])) ?_
            intro s4
            dsimp only
            obtain ⟨Q, hQ⟩ : ∃ Q, Q = wr := ⟨_, rfl⟩
            subst hQ
            have HPi : Hid (∀ (n : Nat) (W : World), n ≤ A.length → Gr Q W → Calls Try.prog 57 #[.slice (some ⟨B, 0, none⟩) l.length c, .slice aa n ac] W fun e w' => ∃ a cp, e = .returned (.tuple #[.slice a n cp, .bool true]) ∧ LRow w' a (pickL l (A.take n)) ∧ Gr W w') := Lib.hid (fun n W hn g => by
              have hl : (A.take n).length = n := by rw [List.length_take]; omega
              have hr : IRow W aa (intsN (A.take n)) := by
                have := RowOf.take31 (rA.grow g) n
                unfold intsN at this ⊢
                rwa [List.map_take]
              have := picked_any l (A.take n) (by omega) (HAn.out.sublist (List.take_sublist _ _)) (fun i hi => HAm.out i (List.mem_of_mem_take hi)) (by omega) (some ⟨B, 0, none⟩) aa c ac W (rL.grow (gV3.tr (gX.tr g))) hr
              rw [hl] at this
              exact this)
            have HFa : Hid (∀ (n : Nat) (a b : Option Addr) (cp cc : Nat) (W : World), n ≤ A.length → t.length ≤ cc → LRow W a (pickL l (A.take n)) → TRow W b t → Calls Try.prog 38 #[.slice a n cp, .slice b t.length cc, .int .i64 days] W fun e w' => (∃ y z v, e = .returned (.tuple #[.int .i64 y, .int .i64 z, .int .i64 v]) ∧ (standB l (lastL t days) (A.take n) = true → v = 7) ∧ (standB l (lastL t days) (A.take n) = false → v = 0)) ∧ Gr W w') := Lib.hid (fun n a b cp cc W hn hcc hr ht => by
              have hl : (A.take n).length = n := by rw [List.length_take]; omega
              have := HK.out.fall (A.take n) a b cp cc W (by omega) (fun i hi => HAm.out i (List.mem_of_mem_take hi)) hcc hr ht
              rw [hl] at this
              exact this)
            have HPr : Hid (∀ n : Nat, n ≤ A.length → standB l (lastL t days) (A.take n) = true → n ≤ ml.length) := Lib.hid (fun n hn h => by
              have hl : (A.take n).length = n := by rw [List.length_take]; omega
              have := HK.out.pre (A.take n) (HAn.out.sublist (List.take_sublist _ _)) (fun i hi => HAm.out i (List.mem_of_mem_take hi)) h
              omega)
            have HSm : Hid (∀ W : World, standB l (lastL t days) A = true → Gr Q W → Calls Try.prog 58 #[.slice aa A.length ac, .slice ob ol.length oc] W fun e w' => e = .returned (.bool false) ∧ Gr W w') := Lib.hid (fun W h g => by
              obtain ⟨h1, h2⟩ := HK.out.least A HAn.out HAm.out HAl.out h
              have := smaller_any (intsN A) (intsN ol) aa ob ac oc W (rA.grow g) (ro3.grow (gX.tr g)) (by rw [intsN_len, intsN_len, h1]; exact HAl.out)
              rw [intsN_len, intsN_len, h2] at this
              exact this)
            have HAl2 : Hid (A.length = l.length) := HAl
            go_wp2
            go_loopw [28] (fun i wx => Hid (∃ n : Nat, 1 ≤ n ∧ n ≤ A.length + 1 ∧ i = .int .i64 n ∧ Gr Q wx)) (fun i _ => A.length + 1 - (intOf i).toNat)
            case atStart => exact Lib.hid ⟨1, Nat.le_refl _, by omega, rfl, Below.refl _ _⟩
            case round =>
              obtain ⟨n, hn1, hn2, rfl, gQ⟩ := hrel.out
              clear hrel
              by_cases hle : n ≤ A.length
              · have hle' : (n : Int) ≤ (A.length : Int) := by omega
                have hnc : n ≤ ac := by omega
                go_upto_region 38 with (first
                  | (go_at_call 57; refine (HPi.out n _ hle gQ).mono ?_; rintro e x1 ⟨p1, d1', rfl, y1, k1⟩)
                  | (go_at_call 36; refine (HSp.out _ (gV3.tr (gX.tr (gQ.tr k1)))).mono ?_; rintro e x2 ⟨p2, d2', rfl, y2, hd2, k2⟩)
                  | (go_at_call 38; refine (HFa.out n p1 p2 d1' d2' _ hle hd2 (y1.grow k2) y2).mono ?_; rintro e x3 ⟨⟨v1, v2, v3, rfl, hv7, hv0⟩, k3⟩))
                have gR := gQ.tr (k1.tr (k2.tr k3))
                clear y1 y2 k1 k2 k3 hd2
                cases hst : standB l (lastL t days) (A.take n) with
                | false =>
                  obtain rfl : v3 = 0 := hv0 hst
                  clear hv7 hv0 hst
                  go_wp2
                  go_roundw
                  case rel => exact Lib.hid ⟨n + 1, by omega, by omega, by go_num, gR⟩
                  case measure => simp [intOf]; omega
                | true =>
                  obtain rfl : v3 = 7 := hv7 hst
                  have hnm := HPr.out n hle hst
                  have dm : decide ((ml.length : Int) < (n : Int)) = false := by simp; omega
                  by_cases hnl : n = l.length
                  · have dn : ((n : Int) == (l.length : Int)) = true := by rw [beq_iff_eq]; omega
                    have hnA : n = A.length := by rw [hnl, HAl2.out]
                    rw [hnA, List.take_length] at hst
                    have HSA := Lib.hid hst
                    clear hv7 hv0 hst hnA hnl
                    go_wp2_with (go_at_call 58; refine (HSm.out _ HSA.out gR).mono ?_; rintro e x4 ⟨rfl, k4⟩)
                    go_roundw
                    case rel => exact Lib.hid ⟨n + 1, by omega, by omega, by go_num, gR.tr k4⟩
                    case measure => simp [intOf]; omega
                  · have dn : ((n : Int) == (l.length : Int)) = false := by rw [beq_eq_false_iff_ne]; omega
                    clear hv7 hv0 hst
                    go_wp2
                    go_roundw
                    case rel => exact Lib.hid ⟨n + 1, by omega, by omega, by go_num, gR⟩
                    case measure => simp [intOf]; omega
              · have hle' : ¬ (n : Int) ≤ (A.length : Int) := by omega
                go_wp2_with (go_at_call 18; refine (known_any _).mono ?_; rintro e w9 ⟨rfl, g9⟩)
                go_ret
                exact ⟨rfl, (gV.tr (gV3.tr (gX.tr gQ))).tr g9⟩
  · obtain ⟨h1, h2⟩ := HK.out.no hev
    subst h1
    clear hev
    have e2 : ((ml.length : Int) == (l.length : Int)) = false := by rw [beq_eq_false_iff_ne]; omega
    have ml8 : ml.length ≤ 8 := by omega
    have gI : Gr V2 V2 := Below.refl _ _
    go_upto_region 14 with (go_at_call 57; refine (picked_any l ml (by omega) M1.out M2.out (by omega) _ _ _ _ _ (rL.grow (gV2.tr gI)) (rm.grow gI)).mono ?_; rintro e w5 ⟨a5, c5, rfl, r5, g5⟩)
    go_upto_region 19 with (first
      | (go_at_call 36; refine (HSp.out _ ((gV2.tr gI).tr g5)).mono ?_; rintro e w6 ⟨a6, c6, rfl, r6, hc6, g6⟩)
      | (go_at_call 47; refine (HK.out.again a5 a6 c5 c6 _ hc6 (r5.grow g6) r6).mono ?_; rintro e w7 ⟨b7, n7, c7, rfl, g7⟩))
    refine wp_abs (fun W => Gr V W ∧ IRow W ob (intsN ol)) ⟨(gV2.tr gI).tr (g5.tr (g6.tr g7)), ro.grow (gI.tr (g5.tr (g6.tr g7)))⟩ ?_
    clear r5 r6 g5 g6 g7
    rintro V3 ⟨gV3, ro3⟩
    refine (show (∀ s : Nat → Value, Code.wp Try.prog _ _ ⟨#[s 0, .slice ya Y.length yc, .int .u8 days, s 3, s 4, s 5, s 6, .slice (some ⟨B, 0, none⟩) l.length c, .slice (some ⟨D, 0, none⟩) t.length f, .slice ob ol.length oc, s 10, .slice mb ml.length mc, s 12, s 13, s 14, s 15, s 16, s 17, s 18, s 19, s 20, s 21, s 22, s 23, s 24, s 25, s 26, s 27, s 28, s 29, s 30, s 31, s 32, s 33, s 34, s 35, s 36, s 37, s 38, s 39, s 40, s 41, s 42, s 43, s 44, s 45, s 46, s 47, s 48, s 49, s 50, s 51, s 52, s 53, s 54, s 55, s 56, s 57, s 58, s 59, s 60, s 61, s 62, s 63, s 64, s 65, s 66, s 67, s 68, s 69, s 70, s 71, s 72, s 73, s 74, s 75, s 76, s 77, s 78, s 79, s 80, s 81, s 82, s 83, s 84, s 85, s 86, s 87, s 88, s 89, s 90, s 91, s 92, s 93, s 94, s 95, s 96, s 97, s 98, s 99, s 100, s 101, s 102, s 103, s 104, s 105, s 106, s 107, s 108, s 109, s 110, s 111, s 112, s 113, s 114, s 115, s 116, s 117, s 118, s 119, s 120, s 121, s 122, s 123, s 124, s 125, s 126, s 127, s 128, s 129, s 130, s 131, s 132, s 133, undef, undef, undef, undef, undef, undef, undef, undef, undef, undef, undef, undef, undef, undef, undef, undef, undef, undef, undef, undef, undef, undef, undef, undef, undef, undef, undef, undef, undef, undef, undef, undef, undef, undef, undef, undef, undef, undef, undef, undef, undef, undef, undef, undef, undef, undef, undef, undef, undef, undef, undef, undef, undef, undef, undef, undef, undef, undef, undef, undef, undef, undef, undef, undef, undef, undef, undef, undef, undef, undef, undef, undef, undef, undef, undef, undef, undef, undef, undef, undef, undef, undef, undef, undef, undef, undef, undef, undef], []⟩ _) → _ from fun h => h ((fun l : List Value => fun i => l.getD i undef) [_, undef, undef, _, _, _, _, undef, undef, undef, _, undef, _, _, _, _, _, _, _, _, _, _, _, _, _, _, _, _, _, _, _, _, _, _, _, _, _, _, _, _, _, _, _, _, _, _, _, _, _, _, _, _, _, _, _, _, _, _, _, _, _, _, _, _, _, _, _, _, _, _, _, _, _, _, _, _, _, _, _, _, _, _, _, _, _, _, _, _, _, _, _, _, _, _, _, _, _, _, _, _, _, _, _, _, _, _, _, _, _, _, _, _, _, _, _, _, _, _, _, _, _, _, _, _, _, _, _, _, _, _, _, _, _, _])) ?_
    intro s
    dsimp only
    go_upto_region 20 with fail
    obtain ⟨E0, hE0⟩ : ∃ E, E = V3.heap.size := ⟨_, rfl⟩
    have oA := owns_keep (owns_empty V3 3 1) (Gr.al _ (.cells #[] 70))
    have gA := (Gr.al V3 (.cells #[] 3)).tr (Gr.al _ (.cells #[] 70))
    have hE1 : V3.heap.size ≤ E0 ∧ E0 ≤ V3.heap.size := by omega
    rw [← hE0] at oA ⊢
    clear hE0
    refine wp_abs (fun W => Gr V3 W ∧ W.ownsRow E0 3 1 (.slice (some ⟨E0, 0, none⟩) 0 0) 0 []) ⟨gA, oA⟩ ?_
    clear gA oA
    rintro V4 ⟨gA, oA⟩
    go_wp2
    go_loopw [24, 22] (fun i s wr => Hid (∃ k g cap : Nat, k ≤ l.length ∧ i = .int .i64 k ∧ s = .slice (some ⟨g, 0, none⟩) k cap ∧ Gr V3 wr ∧ wr.ownsRow E0 3 1 (.slice (some ⟨g, 0, none⟩) k cap) k ((intsN (List.range k)).flatMap encI))) (fun i _ _ => l.length - (intOf i).toNat)
    case atStart => exact Lib.hid ⟨0, E0, 0, Nat.zero_le _, rfl, rfl, gA, by simpa [intsN] using oA⟩
    case round =>
      clear gA oA
      obtain ⟨k, g, cap, hk, rfl, rfl, gW, oA⟩ := hrel.out
      clear hrel
      by_cases hlt : k < l.length
      · have k1 : k + 1 ≤ maxLen := by unfold maxLen; omega
        have k2 : (k + 1) * 8 ≤ 140737488355328 := by omega
        have gAl := Gr.al wr (.cells #[.int .i64 (k : Int)] 3)
        have hfl := Lib.hid (show (intsN (List.range (k + 1))).flatMap encI = (intsN (List.range k)).flatMap encI ++ [(k : Int)].map (fun n => Value.int .i64 n) by
          rw [List.range_succ]
          unfold intsN
          rw [List.map_append, List.flatMap_append]
          rfl)
        go_wp2_with (at_builtin; refine wpList_append_lies _ rfl _ _ 24 rfl E0 3 i0 (.int .i64 0) 1 8 Try.underlying24 hi hz0 hz1 hz2 rfl (by decide) (.slice (some ⟨g, 0, none⟩) k cap) k _ rfl (owns_keep oA gAl) ⟨wr.heap.size, 0, none⟩ 1 1 ([(k : Int)].map (fun n => Value.int .i64 n)) rfl rfl (cell_news _ _ _) (ints_one _) (by omega) k1 k2 (by have := gW.size; have := gAl.size; omega) _ rfl ?_; intro g2 cap2 Y2 hA2 hgr hat hlt2)
        go_roundw
        case rel => exact Lib.hid ⟨k + 1, g2, cap2, by omega, by go_num, rfl, (gW.tr gAl).grown' (owns_keep oA gAl) (by omega) hgr, by rw [hfl.out]; exact hA2⟩
        case measure => simp [intOf]; omega
      · obtain rfl : k = l.length := by omega
        clear hk
        go_upto_region 25 with fail
        have hgl := oA.lt g rfl
        obtain ⟨E1, hE1'⟩ : ∃ E, E = wr.heap.size := ⟨_, rfl⟩
        have oN := owns_base (owns_empty wr 3 1) (show E0 ≤ wr.heap.size by omega)
        have oL := owns_keep oA (Gr.al wr (.cells #[] 3))
        have hap : Apart (.slice (some ⟨E1, 0, none⟩) 0 0) (.slice (some ⟨g, 0, none⟩) l.length cap) := Apart.lit (by omega)
        have gN := gW.tr (Gr.al wr (.cells #[] 3))
        rw [← hE1'] at oN ⊢
        clear hE1' oA gW
        refine wp_abs (fun W => Gr V3 W ∧ W.ownsRow E0 3 1 (.slice (some ⟨E1, 0, none⟩) 0 0) 0 [] ∧ W.ownsRow E0 3 1 (.slice (some ⟨g, 0, none⟩) l.length cap) l.length ((intsN (List.range l.length)).flatMap encI)) ⟨gN, oN, oL⟩ ?_
        clear gN oN oL hgl
        rintro V5 ⟨gA, oN, oL⟩
        refine (show (∀ s2 : Nat → Value, Code.wp Try.prog _ _ ⟨#[s2 0, .slice ya Y.length yc, .int .u8 days, s2 3, s2 4, s2 5, s2 6, .slice (some ⟨B, 0, none⟩) l.length c, .slice (some ⟨D, 0, none⟩) t.length f, .slice ob ol.length oc, s2 10, .slice mb ml.length mc, s2 12, s2 13, s2 14, s2 15, s2 16, s2 17, s2 18, s2 19, s2 20, s2 21, .slice (some ⟨g, 0, none⟩) l.length cap, s2 23, s2 24, .slice (some ⟨E1, 0, none⟩) 0 0, s2 26, s2 27, s2 28, s2 29, s2 30, s2 31, s2 32, s2 33, s2 34, s2 35, s2 36, s2 37, s2 38, s2 39, s2 40, s2 41, s2 42, s2 43, s2 44, s2 45, s2 46, s2 47, s2 48, s2 49, s2 50, s2 51, s2 52, s2 53, s2 54, s2 55, s2 56, s2 57, s2 58, s2 59, s2 60, s2 61, s2 62, s2 63, s2 64, s2 65, s2 66, s2 67, s2 68, s2 69, s2 70, s2 71, s2 72, s2 73, s2 74, s2 75, s2 76, s2 77, s2 78, s2 79, s2 80, s2 81, s2 82, s2 83, s2 84, s2 85, s2 86, s2 87, s2 88, s2 89, s2 90, s2 91, s2 92, s2 93, s2 94, s2 95, s2 96, s2 97, s2 98, s2 99, s2 100, s2 101, s2 102, s2 103, s2 104, s2 105, s2 106, s2 107, s2 108, s2 109, s2 110, s2 111, s2 112, s2 113, s2 114, s2 115, s2 116, s2 117, s2 118, s2 119, s2 120, s2 121, s2 122, s2 123, s2 124, s2 125, s2 126, s2 127, s2 128, s2 129, s2 130, s2 131, s2 132, s2 133, s2 134, s2 135, s2 136, s2 137, s2 138, s2 139, s2 140, s2 141, s2 142, s2 143, s2 144, undef, undef, undef, undef, undef, undef, undef, undef, undef, undef, undef, undef, undef, undef, undef, undef, undef, undef, undef, undef, undef, undef, undef, undef, undef, undef, undef, undef, undef, undef, undef, undef, undef, undef, undef, undef, undef, undef, undef, undef, undef, undef, undef, undef, undef, undef, undef, undef, undef, undef, undef, undef, undef, undef, undef, undef, undef, undef, undef, undef, undef, undef, undef, undef, undef, undef, undef, undef, undef, undef, undef, undef, undef, undef, undef, undef, undef], []⟩ _) → _ from fun h => h ((fun l : List Value => fun i => l.getD i undef) [_, undef, undef, _, _, _, _, undef, undef, undef, _, undef, _, _, _, _, _, _, _, _, _, _, undef, _, _, undef, _, _, _, _, _, _, _, _, _, _, _, _, _, _, _, _, _, _, _, _, _, _, _, _, _, _, _, _, _, _, _, _, _, _, _, _, _, _, _, _, _, _, _, _, _, _, _, _, _, _, _, _, _, _, _, _, _, _, _, _, _, _, _, _, _, _, _, _, _, _, _, _, _, _, _, _, _, _, _, _, _, _, _, _, _, _, _, _, _, _, _, _, _, _, _, _, _, _, _, _, _, _, _, _, _, _, _, _, _, _, _, _, _, _, _, _, _, _, _])) ?_
        intro s2
        dsimp only
        go_wp2
        go_loopw [26, 25, 22] (fun i a u wx => Hid (∃ (A L : List Nat) (aa la : Option Addr) (ac lc : Nat), i = .int .i64 (A.length : Int) ∧ a = .slice aa A.length ac ∧ u = .slice la L.length lc ∧ (A ++ L).Perm (List.range l.length) ∧ Gr V3 wx ∧ wx.ownsRow E0 3 1 (.slice aa A.length ac) A.length ((intsN A).flatMap encI) ∧ wx.ownsRow E0 3 1 (.slice la L.length lc) L.length ((intsN L).flatMap encI) ∧ Apart (.slice aa A.length ac) (.slice la L.length lc))) (fun i _ _ _ => l.length - (intOf i).toNat)
        case atStart => exact Lib.hid ⟨[], List.range l.length, some ⟨E1, 0, none⟩, some ⟨g, 0, none⟩, 0, cap, rfl, rfl, by rw [List.length_range], by simp, gA, oN, by rw [List.length_range]; exact oL, by rw [List.length_range]; exact hap⟩
        case round =>
          clear gA oN oL hap
          obtain ⟨A, L, aa, la, ac, lc, rfl, rfl, rfl, hpm, gX, oa, ol', hap⟩ := hrel.out
          clear hrel
          have hsum : A.length + L.length = l.length := by
            have := hpm.length_eq
            simpa using this
          have HP := Lib.hid hpm
          clear hpm
          by_cases h0 : 0 < L.length
          · have dL : decide ((0 : Int) < (L.length : Int)) = true := by simp; omega
            have dL' : (0 : Int) < (L.length : Int) := by omega
            have hy0 := byteW_bd HY.out A.length
            obtain ⟨bz, hbz⟩ : ∃ z, byteW Y A.length = z := ⟨_, rfl⟩
            rw [hbz] at hy0
            obtain ⟨ix, hix⟩ : ∃ i : Nat, (i : Int) = bz % (L.length : Int) := ⟨(bz % (L.length : Int)).toNat, Int.toNat_of_nonneg (Int.emod_nonneg _ (by omega))⟩
            have hixl : ix < L.length := by
              have := Int.emod_lt_of_pos bz dL'
              omega
            have z1 : bz.tmod (L.length : Int) = (ix : Int) := by rw [Int.tmod_eq_emod_of_nonneg hy0.1]; exact hix.symm
            have z2 : IntKind.i64.wrap (ix : Int) = (ix : Int) := IntWalk.i64_in _ (by omega)
            have z3 : ¬ ((L.length : Int) = 0) := by omega
            have HYB : Hid (∀ W, Gr V3 W → Calls Try.prog 55 #[.slice ya Y.length yc, .int .i64 (A.length : Int)] W fun e w' => e = .returned (.int .i64 bz) ∧ Gr W w') := Lib.hid (fun W g => by
              have := lbyteOf_any Y HY.out A.length (by omega) ya yc W (ry.grow ((gV.tr gV3).tr g))
              rw [hbz] at this
              exact this)
            clear hbz hix
            go_upto_region 29 with (go_at_call 55; refine (HYB.out _ gX).mono ?_; rintro e w8 ⟨rfl, g8⟩)
            refine wp_abs (fun W => Gr V3 W ∧ W.ownsRow E0 3 1 (.slice aa A.length ac) A.length ((intsN A).flatMap encI) ∧ W.ownsRow E0 3 1 (.slice la L.length lc) L.length ((intsN L).flatMap encI)) ⟨gX.tr g8, owns_keep oa g8, owns_keep ol' g8⟩ ?_
            clear gX oa ol' g8 z1 z2 z3
            rintro V7 ⟨gX, oa, ol'⟩
            obtain ⟨xe, hx⟩ : ∃ x, L[ix]? = some x := ⟨L[ix], by simp [hixl]⟩
            have hxi : (intsN L)[ix]? = some (xe : Int) := by unfold intsN; rw [List.getElem?_map, hx]; rfl
            obtain ⟨la2, lc2, ee, rl7⟩ := owns_row (enc := encI) (l := intsN L) (fun _ => rfl) (by rw [intsN_len]; omega) (by rw [intsN_len]; exact ol')
            rw [intsN_len] at ee
            injection ee with ee1 ee0 ee2
            subst ee1
            subst ee2
            clear ee0
            obtain ⟨bL, oL0, rfl, _, cx⟩ := IRow.get rl7 hxi
            have k1 : A.length + 1 ≤ maxLen := by unfold maxLen; omega
            have k2 : (A.length + 1) * 8 ≤ 140737488355328 := by omega
            have gAl := Gr.al V7 (.cells #[.int .i64 (xe : Int)] 3)
            have HX := Lib.hid hx
            clear hx hxi
            go_upto_region 30 with (at_builtin; refine wpList_append_sep _ rfl _ _ 24 rfl E0 3 i0 (.int .i64 0) 1 8 Try.underlying24 hi hz0 hz1 hz2 rfl (by decide) _ _ _ rfl (owns_keep oa gAl) ⟨V7.heap.size, 0, none⟩ 1 1 ([(xe : Int)].map (fun n => Value.int .i64 n)) rfl rfl (cell_news _ _ _) (ints_one _) k1 k2 (by have := gX.size; have := gAl.size; omega) _ _ _ (owns_keep ol' gAl) hap ?_; intro sv Y8 hA2 hgr hU2 hap2)
            have gY := (gX.tr gAl).grown' (owns_keep oa gAl) (by omega) hgr
            refine wp_abs (fun Z => Gr V3 Z ∧ Z.ownsRow E0 3 1 sv (A.length + 1) ((intsN (A ++ [xe])).flatMap encI) ∧ Z.ownsRow E0 3 1 (.slice (some ⟨bL, oL0, none⟩) L.length lc) L.length ((intsN L).flatMap encI)) ⟨gY, (by unfold intsN; rw [List.map_append, List.flatMap_append]; exact hA2), hU2⟩ ?_
            clear gX gY hA2 hU2 hap oa ol' rl7 cx gAl hgr
            rintro V8 ⟨gX, oa, ol'⟩
            refine (show (∀ s3 : Nat → Value, Code.wp Try.prog _ _ ⟨#[s2 0, .slice ya Y.length yc, .int .u8 days, s2 3, s2 4, s2 5, s2 6, .slice (some ⟨B, 0, none⟩) l.length c, .slice (some ⟨D, 0, none⟩) t.length f, .slice ob ol.length oc, s2 10, .slice mb ml.length mc, s2 12, s2 13, s2 14, s2 15, s2 16, s2 17, s2 18, s2 19, s2 20, s2 21, .slice (some ⟨bL, oL0, none⟩) L.length lc, s2 23, s2 24, sv, .int .i64 (A.length : Int), .int .i64 (ix : Int), s2 28, s2 29, s2 30, s2 31, s2 32, s2 33, s2 34, s2 35, s2 36, s2 37, s2 38, s2 39, s2 40, s2 41, s2 42, s2 43, s2 44, s2 45, s2 46, s2 47, s2 48, s2 49, s2 50, s2 51, s2 52, s2 53, s2 54, s2 55, s2 56, s2 57, s2 58, s2 59, s2 60, s2 61, s2 62, s2 63, s2 64, s2 65, s2 66, s2 67, s2 68, s2 69, s2 70, s2 71, s2 72, s2 73, s2 74, s2 75, s2 76, s2 77, s2 78, s2 79, s2 80, s2 81, s2 82, s2 83, s2 84, s2 85, s2 86, s2 87, s2 88, s2 89, s2 90, s2 91, s2 92, s2 93, s2 94, s2 95, s2 96, s2 97, s2 98, s2 99, s2 100, s2 101, s2 102, s2 103, s2 104, s2 105, s2 106, s2 107, s2 108, s2 109, s2 110, s2 111, s2 112, s2 113, s2 114, s2 115, s2 116, s2 117, s2 118, s2 119, s2 120, s2 121, s2 122, s2 123, s2 124, s2 125, s2 126, s2 127, s2 128, s2 129, s2 130, s2 131, s2 132, s2 133, s2 134, s2 135, s2 136, s2 137, s2 138, s2 139, s2 140, s2 141, s2 142, s2 143, s2 144, s3 145, s3 146, s3 147, s3 148, s3 149, s3 150, s3 151, s3 152, s3 153, s3 154, s3 155, s3 156, s3 157, s3 158, s3 159, s3 160, s3 161, s3 162, s3 163, s3 164, s3 165, s3 166, s3 167, s3 168, s3 169, s3 170, s3 171, undef, undef, undef, undef, undef, undef, undef, undef, undef, undef, undef, undef, undef, undef, undef, undef, undef, undef, undef, undef, undef, undef, undef, undef, undef, undef, undef, undef, undef, undef, undef, undef, undef, undef, undef, undef, undef, undef, undef, undef, undef, undef, undef, undef, undef, undef, undef, undef, undef, undef], []⟩ _) → _ from fun h => h ((fun l : List Value => fun i => l.getD i undef) [undef, undef, undef, undef, undef, undef, undef, undef, undef, undef, undef, undef, undef, undef, undef, undef, undef, undef, undef, undef, undef, undef, undef, undef, undef, undef, undef, undef, undef, undef, undef, undef, undef, undef, undef, undef, undef, undef, undef, undef, undef, undef, undef, undef, undef, undef, undef, undef, undef, undef, undef, undef, undef, undef, undef, undef, undef, undef, undef, undef, undef, undef, undef, undef, undef, undef, undef, undef, undef, undef, undef, undef, undef, undef, undef, undef, undef, undef, undef, undef, undef, undef, undef, undef, undef, undef, undef, undef, undef, undef, undef, undef, undef, undef, undef, undef, undef, undef, undef, undef, undef, undef, undef, undef, undef, undef, undef, undef, undef, undef, undef, undef, undef, undef, undef, undef, undef, undef, undef, undef, undef, undef, undef, undef, undef, undef, undef, undef, undef, undef, undef, undef, undef, undef, undef, undef, undef, undef, undef, undef, undef, undef, undef, undef, undef, _, _, _, _, _, _, _, _, _, _, _, _, _, _, _, _, _, _, _, _, _, _, _, _, _, _, _])) ?_
            intro s3
            dsimp only
            obtain ⟨a9, c9, e9, rl8, _, hlc⟩ := owns_row_cap (enc := encI) (l := intsN L) (fun _ => rfl) (by rw [intsN_len]; omega) (by rw [intsN_len]; exact ol')
            rw [intsN_len] at e9 hlc
            injection e9 with e9 e11 e10
            subst e9
            subst e10
            clear e11
            have z5 : IntKind.i64.wrap ((ix : Int) + 1) = ((ix + 1 : Nat) : Int) := IntWalk.i64_in _ (by omega)
            obtain ⟨ad, had, hnw⟩ := cut_tail (l := intsN L) rl8 (n := ix + 1) (c := lc) (by rw [intsN_len]; omega) (by rw [intsN_len]; omega)
            have HAD := Lib.hid (And.intro had hnw)
            clear had hnw
            have hix1 : ix ≤ lc := by omega
            have hix2 : ix + 1 ≤ L.length := by omega
            have hix3 : (ix : Int) + 1 ≤ (L.length : Int) := by omega
            have HIn : Hid (∀ W, Gr V8 W → Calls Try.prog 19 #[.slice (some ⟨bL, oL0, none⟩) ix lc] W fun e w' => ∃ v, e = .returned v ∧ w'.ownsRow W.heap.size 3 1 v ix (((intsN L).take ix).flatMap encI) ∧ Gr W w') := Lib.hid (fun W g => lints_own_at (intsN L) ix (by rw [intsN_len]; omega) (by rw [intsN_len]; omega) bL oL0 lc W (rl8.grow g))
            refine wp_region_facts 8 [(2, 0), (2, 1), (3, 2), (6, 5), (7, 4), (7, 6)] (fun x => ⟨#[s2 0, .slice ya Y.length yc, .int .u8 days, s2 3, s2 4, s2 5, s2 6, .slice (some ⟨B, 0, none⟩) l.length c, .slice (some ⟨D, 0, none⟩) t.length f, .slice ob ol.length oc, s2 10, .slice mb ml.length mc, s2 12, s2 13, s2 14, s2 15, s2 16, s2 17, s2 18, s2 19, s2 20, s2 21, .slice (some ⟨bL, oL0, none⟩) L.length lc, s2 23, s2 24, sv, .int .i64 (A.length : Int), .int .i64 (ix : Int), s2 28, s2 29, s2 30, s2 31, s2 32, s2 33, s2 34, s2 35, s2 36, s2 37, s2 38, s2 39, s2 40, s2 41, s2 42, s2 43, s2 44, s2 45, s2 46, s2 47, s2 48, s2 49, s2 50, s2 51, s2 52, s2 53, s2 54, s2 55, s2 56, s2 57, s2 58, s2 59, s2 60, s2 61, s2 62, s2 63, s2 64, s2 65, s2 66, s2 67, s2 68, s2 69, s2 70, s2 71, s2 72, s2 73, s2 74, s2 75, s2 76, s2 77, s2 78, s2 79, s2 80, s2 81, s2 82, s2 83, s2 84, s2 85, s2 86, s2 87, s2 88, s2 89, s2 90, s2 91, s2 92, s2 93, s2 94, s2 95, s2 96, s2 97, s2 98, s2 99, s2 100, s2 101, s2 102, s2 103, s2 104, s2 105, s2 106, s2 107, s2 108, s2 109, s2 110, s2 111, s2 112, s2 113, s2 114, s2 115, s2 116, s2 117, s2 118, s2 119, s2 120, s2 121, s2 122, s2 123, s2 124, s2 125, s2 126, s2 127, s2 128, s2 129, s2 130, s2 131, s2 132, s2 133, s2 134, s2 135, s2 136, s2 137, s2 138, s2 139, s2 140, s2 141, s2 142, s2 143, s2 144, s3 145, s3 146, s3 147, s3 148, s3 149, s3 150, s3 151, s3 152, s3 153, s3 154, s3 155, s3 156, s3 157, s3 158, s3 159, s3 160, s3 161, s3 162, x 0, x 1, x 2, x 3, x 4, x 5, x 6, x 7, s3 171, undef, undef, undef, undef, undef, undef, undef, undef, undef, undef, undef, undef, undef, undef, undef, undef, undef, undef, undef, undef, undef, undef, undef, undef, undef, undef, undef, undef, undef, undef, undef, undef, undef, undef, undef, undef, undef, undef, undef, undef, undef, undef, undef, undef, undef, undef, undef, undef, undef, undef], []⟩) (fun i => [s3 163, s3 164, s3 165, s3 166, s3 167, s3 168, s3 169, s3 170].getD i undef) [fun _ x => x = .slice (some ⟨bL, oL0, none⟩) L.length lc, fun _ x => x = .int .i64 (ix : Int), fun _ x => x = .slice (some ⟨bL, oL0, none⟩) ix lc, fun v x => ∃ u, x = u ∧ v.ownsRow V8.heap.size 3 1 u ix (((intsN L).take ix).flatMap encI), fun _ x => x = .slice (some ⟨bL, oL0, none⟩) L.length lc, fun _ x => x = .int .i64 (ix : Int), fun _ x => x = .int .i64 ((ix + 1 : Nat) : Int), fun _ x => x = .slice (some ad) (L.length - (ix + 1)) (lc - (ix + 1))] (by rfl) (by kernel_rfl) (by kernel_rfl) (by kernel_rfl) (stays_cons (Stays.eq _) (stays_cons (Stays.eq _) (stays_cons (Stays.eq _) (stays_cons ((show Stays (fun v x => ∃ u, x = u ∧ v.ownsRow V8.heap.size 3 1 u ix (((intsN L).take ix).flatMap encI)) from fun v v' x g ⟨u, h, o⟩ => ⟨u, h, owns_keep o g⟩)) (stays_cons (Stays.eq _) (stays_cons (Stays.eq _) (stays_cons (Stays.eq _) (stays_cons (Stays.eq _) stays_nil)))))))) ?step30 ?fin30
            case step30 =>
              rintro i hi x v gv hd K hK
              have hi8 : i = 0 ∨ i = 1 ∨ i = 2 ∨ i = 3 ∨ i = 4 ∨ i = 5 ∨ i = 6 ∨ i = 7 := by omega
              rcases hi8 with rfl | rfl | rfl | rfl | rfl | rfl | rfl | rfl
              · show wpOp Try.prog _ _ 0 K (⟨#[s2 0, .slice ya Y.length yc, .int .u8 days, s2 3, s2 4, s2 5, s2 6, .slice (some ⟨B, 0, none⟩) l.length c, .slice (some ⟨D, 0, none⟩) t.length f, .slice ob ol.length oc, s2 10, .slice mb ml.length mc, s2 12, s2 13, s2 14, s2 15, s2 16, s2 17, s2 18, s2 19, s2 20, s2 21, .slice (some ⟨bL, oL0, none⟩) L.length lc, s2 23, s2 24, sv, .int .i64 (A.length : Int), .int .i64 (ix : Int), s2 28, s2 29, s2 30, s2 31, s2 32, s2 33, s2 34, s2 35, s2 36, s2 37, s2 38, s2 39, s2 40, s2 41, s2 42, s2 43, s2 44, s2 45, s2 46, s2 47, s2 48, s2 49, s2 50, s2 51, s2 52, s2 53, s2 54, s2 55, s2 56, s2 57, s2 58, s2 59, s2 60, s2 61, s2 62, s2 63, s2 64, s2 65, s2 66, s2 67, s2 68, s2 69, s2 70, s2 71, s2 72, s2 73, s2 74, s2 75, s2 76, s2 77, s2 78, s2 79, s2 80, s2 81, s2 82, s2 83, s2 84, s2 85, s2 86, s2 87, s2 88, s2 89, s2 90, s2 91, s2 92, s2 93, s2 94, s2 95, s2 96, s2 97, s2 98, s2 99, s2 100, s2 101, s2 102, s2 103, s2 104, s2 105, s2 106, s2 107, s2 108, s2 109, s2 110, s2 111, s2 112, s2 113, s2 114, s2 115, s2 116, s2 117, s2 118, s2 119, s2 120, s2 121, s2 122, s2 123, s2 124, s2 125, s2 126, s2 127, s2 128, s2 129, s2 130, s2 131, s2 132, s2 133, s2 134, s2 135, s2 136, s2 137, s2 138, s2 139, s2 140, s2 141, s2 142, s2 143, s2 144, s3 145, s3 146, s3 147, s3 148, s3 149, s3 150, s3 151, s3 152, s3 153, s3 154, s3 155, s3 156, s3 157, s3 158, s3 159, s3 160, s3 161, s3 162, x 0, x 1, x 2, x 3, x 4, x 5, x 6, x 7, s3 171, undef, undef, undef, undef, undef, undef, undef, undef, undef, undef, undef, undef, undef, undef, undef, undef, undef, undef, undef, undef, undef, undef, undef, undef, undef, undef, undef, undef, undef, undef, undef, undef, undef, undef, undef, undef, undef, undef, undef, undef, undef, undef, undef, undef, undef, undef, undef, undef, undef, undef], []⟩ : Act) v
                refine wpOp_step rfl (fun K' hK' => ?_)
                go_simp
                exact hK' _ _ (hK _ _ (Below.refl _ _) (at_of rfl (rfl)))
              · show wpOp Try.prog _ _ 1 K (⟨#[s2 0, .slice ya Y.length yc, .int .u8 days, s2 3, s2 4, s2 5, s2 6, .slice (some ⟨B, 0, none⟩) l.length c, .slice (some ⟨D, 0, none⟩) t.length f, .slice ob ol.length oc, s2 10, .slice mb ml.length mc, s2 12, s2 13, s2 14, s2 15, s2 16, s2 17, s2 18, s2 19, s2 20, s2 21, .slice (some ⟨bL, oL0, none⟩) L.length lc, s2 23, s2 24, sv, .int .i64 (A.length : Int), .int .i64 (ix : Int), s2 28, s2 29, s2 30, s2 31, s2 32, s2 33, s2 34, s2 35, s2 36, s2 37, s2 38, s2 39, s2 40, s2 41, s2 42, s2 43, s2 44, s2 45, s2 46, s2 47, s2 48, s2 49, s2 50, s2 51, s2 52, s2 53, s2 54, s2 55, s2 56, s2 57, s2 58, s2 59, s2 60, s2 61, s2 62, s2 63, s2 64, s2 65, s2 66, s2 67, s2 68, s2 69, s2 70, s2 71, s2 72, s2 73, s2 74, s2 75, s2 76, s2 77, s2 78, s2 79, s2 80, s2 81, s2 82, s2 83, s2 84, s2 85, s2 86, s2 87, s2 88, s2 89, s2 90, s2 91, s2 92, s2 93, s2 94, s2 95, s2 96, s2 97, s2 98, s2 99, s2 100, s2 101, s2 102, s2 103, s2 104, s2 105, s2 106, s2 107, s2 108, s2 109, s2 110, s2 111, s2 112, s2 113, s2 114, s2 115, s2 116, s2 117, s2 118, s2 119, s2 120, s2 121, s2 122, s2 123, s2 124, s2 125, s2 126, s2 127, s2 128, s2 129, s2 130, s2 131, s2 132, s2 133, s2 134, s2 135, s2 136, s2 137, s2 138, s2 139, s2 140, s2 141, s2 142, s2 143, s2 144, s3 145, s3 146, s3 147, s3 148, s3 149, s3 150, s3 151, s3 152, s3 153, s3 154, s3 155, s3 156, s3 157, s3 158, s3 159, s3 160, s3 161, s3 162, x 0, x 1, x 2, x 3, x 4, x 5, x 6, x 7, s3 171, undef, undef, undef, undef, undef, undef, undef, undef, undef, undef, undef, undef, undef, undef, undef, undef, undef, undef, undef, undef, undef, undef, undef, undef, undef, undef, undef, undef, undef, undef, undef, undef, undef, undef, undef, undef, undef, undef, undef, undef, undef, undef, undef, undef, undef, undef, undef, undef, undef, undef], []⟩ : Act) v
                refine wpOp_step rfl (fun K' hK' => ?_)
                go_simp
                exact hK' _ _ (hK _ _ (Below.refl _ _) (at_of rfl (rfl)))
              · obtain ⟨x, rfl⟩ := upd_of (show x 0 = .slice (some ⟨bL, oL0, none⟩) L.length lc from hd 0 _ (by simp) rfl)
                obtain ⟨x, rfl⟩ := upd_of (show x 1 = .int .i64 (ix : Int) from hd 1 _ (by simp) rfl)
                show wpOp Try.prog _ _ 2 K (⟨#[s2 0, .slice ya Y.length yc, .int .u8 days, s2 3, s2 4, s2 5, s2 6, .slice (some ⟨B, 0, none⟩) l.length c, .slice (some ⟨D, 0, none⟩) t.length f, .slice ob ol.length oc, s2 10, .slice mb ml.length mc, s2 12, s2 13, s2 14, s2 15, s2 16, s2 17, s2 18, s2 19, s2 20, s2 21, .slice (some ⟨bL, oL0, none⟩) L.length lc, s2 23, s2 24, sv, .int .i64 (A.length : Int), .int .i64 (ix : Int), s2 28, s2 29, s2 30, s2 31, s2 32, s2 33, s2 34, s2 35, s2 36, s2 37, s2 38, s2 39, s2 40, s2 41, s2 42, s2 43, s2 44, s2 45, s2 46, s2 47, s2 48, s2 49, s2 50, s2 51, s2 52, s2 53, s2 54, s2 55, s2 56, s2 57, s2 58, s2 59, s2 60, s2 61, s2 62, s2 63, s2 64, s2 65, s2 66, s2 67, s2 68, s2 69, s2 70, s2 71, s2 72, s2 73, s2 74, s2 75, s2 76, s2 77, s2 78, s2 79, s2 80, s2 81, s2 82, s2 83, s2 84, s2 85, s2 86, s2 87, s2 88, s2 89, s2 90, s2 91, s2 92, s2 93, s2 94, s2 95, s2 96, s2 97, s2 98, s2 99, s2 100, s2 101, s2 102, s2 103, s2 104, s2 105, s2 106, s2 107, s2 108, s2 109, s2 110, s2 111, s2 112, s2 113, s2 114, s2 115, s2 116, s2 117, s2 118, s2 119, s2 120, s2 121, s2 122, s2 123, s2 124, s2 125, s2 126, s2 127, s2 128, s2 129, s2 130, s2 131, s2 132, s2 133, s2 134, s2 135, s2 136, s2 137, s2 138, s2 139, s2 140, s2 141, s2 142, s2 143, s2 144, s3 145, s3 146, s3 147, s3 148, s3 149, s3 150, s3 151, s3 152, s3 153, s3 154, s3 155, s3 156, s3 157, s3 158, s3 159, s3 160, s3 161, s3 162, .slice (some ⟨bL, oL0, none⟩) L.length lc, .int .i64 (ix : Int), x 2, x 3, x 4, x 5, x 6, x 7, s3 171, undef, undef, undef, undef, undef, undef, undef, undef, undef, undef, undef, undef, undef, undef, undef, undef, undef, undef, undef, undef, undef, undef, undef, undef, undef, undef, undef, undef, undef, undef, undef, undef, undef, undef, undef, undef, undef, undef, undef, undef, undef, undef, undef, undef, undef, undef, undef, undef, undef, undef], []⟩ : Act) v
                refine wpOp_step rfl (fun K' hK' => ?_)
                go_simp
                exact hK' _ _ (hK _ _ (Below.refl _ _) (at_of rfl (rfl)))
              · obtain ⟨x, rfl⟩ := upd_of (show x 2 = .slice (some ⟨bL, oL0, none⟩) ix lc from hd 2 _ (by simp) rfl)
                show wpOp Try.prog _ _ 3 K (⟨#[s2 0, .slice ya Y.length yc, .int .u8 days, s2 3, s2 4, s2 5, s2 6, .slice (some ⟨B, 0, none⟩) l.length c, .slice (some ⟨D, 0, none⟩) t.length f, .slice ob ol.length oc, s2 10, .slice mb ml.length mc, s2 12, s2 13, s2 14, s2 15, s2 16, s2 17, s2 18, s2 19, s2 20, s2 21, .slice (some ⟨bL, oL0, none⟩) L.length lc, s2 23, s2 24, sv, .int .i64 (A.length : Int), .int .i64 (ix : Int), s2 28, s2 29, s2 30, s2 31, s2 32, s2 33, s2 34, s2 35, s2 36, s2 37, s2 38, s2 39, s2 40, s2 41, s2 42, s2 43, s2 44, s2 45, s2 46, s2 47, s2 48, s2 49, s2 50, s2 51, s2 52, s2 53, s2 54, s2 55, s2 56, s2 57, s2 58, s2 59, s2 60, s2 61, s2 62, s2 63, s2 64, s2 65, s2 66, s2 67, s2 68, s2 69, s2 70, s2 71, s2 72, s2 73, s2 74, s2 75, s2 76, s2 77, s2 78, s2 79, s2 80, s2 81, s2 82, s2 83, s2 84, s2 85, s2 86, s2 87, s2 88, s2 89, s2 90, s2 91, s2 92, s2 93, s2 94, s2 95, s2 96, s2 97, s2 98, s2 99, s2 100, s2 101, s2 102, s2 103, s2 104, s2 105, s2 106, s2 107, s2 108, s2 109, s2 110, s2 111, s2 112, s2 113, s2 114, s2 115, s2 116, s2 117, s2 118, s2 119, s2 120, s2 121, s2 122, s2 123, s2 124, s2 125, s2 126, s2 127, s2 128, s2 129, s2 130, s2 131, s2 132, s2 133, s2 134, s2 135, s2 136, s2 137, s2 138, s2 139, s2 140, s2 141, s2 142, s2 143, s2 144, s3 145, s3 146, s3 147, s3 148, s3 149, s3 150, s3 151, s3 152, s3 153, s3 154, s3 155, s3 156, s3 157, s3 158, s3 159, s3 160, s3 161, s3 162, x 0, x 1, .slice (some ⟨bL, oL0, none⟩) ix lc, x 3, x 4, x 5, x 6, x 7, s3 171, undef, undef, undef, undef, undef, undef, undef, undef, undef, undef, undef, undef, undef, undef, undef, undef, undef, undef, undef, undef, undef, undef, undef, undef, undef, undef, undef, undef, undef, undef, undef, undef, undef, undef, undef, undef, undef, undef, undef, undef, undef, undef, undef, undef, undef, undef, undef, undef, undef, undef], []⟩ : Act) v
                refine wpOp_step rfl (fun K' hK' => ?_)
                go_simp
                refine (HIn.out v gv).mono ?_
                rintro e v' ⟨u, rfl, ho, hg⟩
                exact hK' _ _ (hK _ _ hg (at_of rfl (⟨_, rfl, owns_base ho gv.size⟩)))
              · show wpOp Try.prog _ _ 4 K (⟨#[s2 0, .slice ya Y.length yc, .int .u8 days, s2 3, s2 4, s2 5, s2 6, .slice (some ⟨B, 0, none⟩) l.length c, .slice (some ⟨D, 0, none⟩) t.length f, .slice ob ol.length oc, s2 10, .slice mb ml.length mc, s2 12, s2 13, s2 14, s2 15, s2 16, s2 17, s2 18, s2 19, s2 20, s2 21, .slice (some ⟨bL, oL0, none⟩) L.length lc, s2 23, s2 24, sv, .int .i64 (A.length : Int), .int .i64 (ix : Int), s2 28, s2 29, s2 30, s2 31, s2 32, s2 33, s2 34, s2 35, s2 36, s2 37, s2 38, s2 39, s2 40, s2 41, s2 42, s2 43, s2 44, s2 45, s2 46, s2 47, s2 48, s2 49, s2 50, s2 51, s2 52, s2 53, s2 54, s2 55, s2 56, s2 57, s2 58, s2 59, s2 60, s2 61, s2 62, s2 63, s2 64, s2 65, s2 66, s2 67, s2 68, s2 69, s2 70, s2 71, s2 72, s2 73, s2 74, s2 75, s2 76, s2 77, s2 78, s2 79, s2 80, s2 81, s2 82, s2 83, s2 84, s2 85, s2 86, s2 87, s2 88, s2 89, s2 90, s2 91, s2 92, s2 93, s2 94, s2 95, s2 96, s2 97, s2 98, s2 99, s2 100, s2 101, s2 102, s2 103, s2 104, s2 105, s2 106, s2 107, s2 108, s2 109, s2 110, s2 111, s2 112, s2 113, s2 114, s2 115, s2 116, s2 117, s2 118, s2 119, s2 120, s2 121, s2 122, s2 123, s2 124, s2 125, s2 126, s2 127, s2 128, s2 129, s2 130, s2 131, s2 132, s2 133, s2 134, s2 135, s2 136, s2 137, s2 138, s2 139, s2 140, s2 141, s2 142, s2 143, s2 144, s3 145, s3 146, s3 147, s3 148, s3 149, s3 150, s3 151, s3 152, s3 153, s3 154, s3 155, s3 156, s3 157, s3 158, s3 159, s3 160, s3 161, s3 162, x 0, x 1, x 2, x 3, x 4, x 5, x 6, x 7, s3 171, undef, undef, undef, undef, undef, undef, undef, undef, undef, undef, undef, undef, undef, undef, undef, undef, undef, undef, undef, undef, undef, undef, undef, undef, undef, undef, undef, undef, undef, undef, undef, undef, undef, undef, undef, undef, undef, undef, undef, undef, undef, undef, undef, undef, undef, undef, undef, undef, undef, undef], []⟩ : Act) v
                refine wpOp_step rfl (fun K' hK' => ?_)
                go_simp
                exact hK' _ _ (hK _ _ (Below.refl _ _) (at_of rfl (rfl)))
              · show wpOp Try.prog _ _ 5 K (⟨#[s2 0, .slice ya Y.length yc, .int .u8 days, s2 3, s2 4, s2 5, s2 6, .slice (some ⟨B, 0, none⟩) l.length c, .slice (some ⟨D, 0, none⟩) t.length f, .slice ob ol.length oc, s2 10, .slice mb ml.length mc, s2 12, s2 13, s2 14, s2 15, s2 16, s2 17, s2 18, s2 19, s2 20, s2 21, .slice (some ⟨bL, oL0, none⟩) L.length lc, s2 23, s2 24, sv, .int .i64 (A.length : Int), .int .i64 (ix : Int), s2 28, s2 29, s2 30, s2 31, s2 32, s2 33, s2 34, s2 35, s2 36, s2 37, s2 38, s2 39, s2 40, s2 41, s2 42, s2 43, s2 44, s2 45, s2 46, s2 47, s2 48, s2 49, s2 50, s2 51, s2 52, s2 53, s2 54, s2 55, s2 56, s2 57, s2 58, s2 59, s2 60, s2 61, s2 62, s2 63, s2 64, s2 65, s2 66, s2 67, s2 68, s2 69, s2 70, s2 71, s2 72, s2 73, s2 74, s2 75, s2 76, s2 77, s2 78, s2 79, s2 80, s2 81, s2 82, s2 83, s2 84, s2 85, s2 86, s2 87, s2 88, s2 89, s2 90, s2 91, s2 92, s2 93, s2 94, s2 95, s2 96, s2 97, s2 98, s2 99, s2 100, s2 101, s2 102, s2 103, s2 104, s2 105, s2 106, s2 107, s2 108, s2 109, s2 110, s2 111, s2 112, s2 113, s2 114, s2 115, s2 116, s2 117, s2 118, s2 119, s2 120, s2 121, s2 122, s2 123, s2 124, s2 125, s2 126, s2 127, s2 128, s2 129, s2 130, s2 131, s2 132, s2 133, s2 134, s2 135, s2 136, s2 137, s2 138, s2 139, s2 140, s2 141, s2 142, s2 143, s2 144, s3 145, s3 146, s3 147, s3 148, s3 149, s3 150, s3 151, s3 152, s3 153, s3 154, s3 155, s3 156, s3 157, s3 158, s3 159, s3 160, s3 161, s3 162, x 0, x 1, x 2, x 3, x 4, x 5, x 6, x 7, s3 171, undef, undef, undef, undef, undef, undef, undef, undef, undef, undef, undef, undef, undef, undef, undef, undef, undef, undef, undef, undef, undef, undef, undef, undef, undef, undef, undef, undef, undef, undef, undef, undef, undef, undef, undef, undef, undef, undef, undef, undef, undef, undef, undef, undef, undef, undef, undef, undef, undef, undef], []⟩ : Act) v
                refine wpOp_step rfl (fun K' hK' => ?_)
                go_simp
                exact hK' _ _ (hK _ _ (Below.refl _ _) (at_of rfl (rfl)))
              · obtain ⟨x, rfl⟩ := upd_of (show x 5 = .int .i64 (ix : Int) from hd 5 _ (by simp) rfl)
                show wpOp Try.prog _ _ 6 K (⟨#[s2 0, .slice ya Y.length yc, .int .u8 days, s2 3, s2 4, s2 5, s2 6, .slice (some ⟨B, 0, none⟩) l.length c, .slice (some ⟨D, 0, none⟩) t.length f, .slice ob ol.length oc, s2 10, .slice mb ml.length mc, s2 12, s2 13, s2 14, s2 15, s2 16, s2 17, s2 18, s2 19, s2 20, s2 21, .slice (some ⟨bL, oL0, none⟩) L.length lc, s2 23, s2 24, sv, .int .i64 (A.length : Int), .int .i64 (ix : Int), s2 28, s2 29, s2 30, s2 31, s2 32, s2 33, s2 34, s2 35, s2 36, s2 37, s2 38, s2 39, s2 40, s2 41, s2 42, s2 43, s2 44, s2 45, s2 46, s2 47, s2 48, s2 49, s2 50, s2 51, s2 52, s2 53, s2 54, s2 55, s2 56, s2 57, s2 58, s2 59, s2 60, s2 61, s2 62, s2 63, s2 64, s2 65, s2 66, s2 67, s2 68, s2 69, s2 70, s2 71, s2 72, s2 73, s2 74, s2 75, s2 76, s2 77, s2 78, s2 79, s2 80, s2 81, s2 82, s2 83, s2 84, s2 85, s2 86, s2 87, s2 88, s2 89, s2 90, s2 91, s2 92, s2 93, s2 94, s2 95, s2 96, s2 97, s2 98, s2 99, s2 100, s2 101, s2 102, s2 103, s2 104, s2 105, s2 106, s2 107, s2 108, s2 109, s2 110, s2 111, s2 112, s2 113, s2 114, s2 115, s2 116, s2 117, s2 118, s2 119, s2 120, s2 121, s2 122, s2 123, s2 124, s2 125, s2 126, s2 127, s2 128, s2 129, s2 130, s2 131, s2 132, s2 133, s2 134, s2 135, s2 136, s2 137, s2 138, s2 139, s2 140, s2 141, s2 142, s2 143, s2 144, s3 145, s3 146, s3 147, s3 148, s3 149, s3 150, s3 151, s3 152, s3 153, s3 154, s3 155, s3 156, s3 157, s3 158, s3 159, s3 160, s3 161, s3 162, x 0, x 1, x 2, x 3, x 4, .int .i64 (ix : Int), x 6, x 7, s3 171, undef, undef, undef, undef, undef, undef, undef, undef, undef, undef, undef, undef, undef, undef, undef, undef, undef, undef, undef, undef, undef, undef, undef, undef, undef, undef, undef, undef, undef, undef, undef, undef, undef, undef, undef, undef, undef, undef, undef, undef, undef, undef, undef, undef, undef, undef, undef, undef, undef, undef], []⟩ : Act) v
                refine wpOp_step rfl (fun K' hK' => ?_)
                go_simp
                exact hK' _ _ (hK _ _ (Below.refl _ _) (at_of rfl (rfl)))
              · obtain ⟨x, rfl⟩ := upd_of (show x 4 = .slice (some ⟨bL, oL0, none⟩) L.length lc from hd 4 _ (by simp) rfl)
                obtain ⟨x, rfl⟩ := upd_of (show x 6 = .int .i64 ((ix + 1 : Nat) : Int) from hd 6 _ (by simp) rfl)
                show wpOp Try.prog _ _ 7 K (⟨#[s2 0, .slice ya Y.length yc, .int .u8 days, s2 3, s2 4, s2 5, s2 6, .slice (some ⟨B, 0, none⟩) l.length c, .slice (some ⟨D, 0, none⟩) t.length f, .slice ob ol.length oc, s2 10, .slice mb ml.length mc, s2 12, s2 13, s2 14, s2 15, s2 16, s2 17, s2 18, s2 19, s2 20, s2 21, .slice (some ⟨bL, oL0, none⟩) L.length lc, s2 23, s2 24, sv, .int .i64 (A.length : Int), .int .i64 (ix : Int), s2 28, s2 29, s2 30, s2 31, s2 32, s2 33, s2 34, s2 35, s2 36, s2 37, s2 38, s2 39, s2 40, s2 41, s2 42, s2 43, s2 44, s2 45, s2 46, s2 47, s2 48, s2 49, s2 50, s2 51, s2 52, s2 53, s2 54, s2 55, s2 56, s2 57, s2 58, s2 59, s2 60, s2 61, s2 62, s2 63, s2 64, s2 65, s2 66, s2 67, s2 68, s2 69, s2 70, s2 71, s2 72, s2 73, s2 74, s2 75, s2 76, s2 77, s2 78, s2 79, s2 80, s2 81, s2 82, s2 83, s2 84, s2 85, s2 86, s2 87, s2 88, s2 89, s2 90, s2 91, s2 92, s2 93, s2 94, s2 95, s2 96, s2 97, s2 98, s2 99, s2 100, s2 101, s2 102, s2 103, s2 104, s2 105, s2 106, s2 107, s2 108, s2 109, s2 110, s2 111, s2 112, s2 113, s2 114, s2 115, s2 116, s2 117, s2 118, s2 119, s2 120, s2 121, s2 122, s2 123, s2 124, s2 125, s2 126, s2 127, s2 128, s2 129, s2 130, s2 131, s2 132, s2 133, s2 134, s2 135, s2 136, s2 137, s2 138, s2 139, s2 140, s2 141, s2 142, s2 143, s2 144, s3 145, s3 146, s3 147, s3 148, s3 149, s3 150, s3 151, s3 152, s3 153, s3 154, s3 155, s3 156, s3 157, s3 158, s3 159, s3 160, s3 161, s3 162, x 0, x 1, x 2, x 3, .slice (some ⟨bL, oL0, none⟩) L.length lc, x 5, .int .i64 ((ix + 1 : Nat) : Int), x 7, s3 171, undef, undef, undef, undef, undef, undef, undef, undef, undef, undef, undef, undef, undef, undef, undef, undef, undef, undef, undef, undef, undef, undef, undef, undef, undef, undef, undef, undef, undef, undef, undef, undef, undef, undef, undef, undef, undef, undef, undef, undef, undef, undef, undef, undef, undef, undef, undef, undef, undef, undef], []⟩ : Act) v
                refine wpOp_step rfl (fun K' hK' => ?_)
                go_simp
                exact hK' _ _ (hK _ _ (Below.refl _ _) (at_of rfl (congrArg (fun z => Value.slice z (L.length - (ix + 1)) (lc - (ix + 1))) HAD.out.1)))
            case fin30 =>
              rintro x v gv hd
              obtain ⟨u3, e3, ou3⟩ := hd 3 _ (by omega) rfl
              obtain ⟨x, rfl⟩ := upd_of (show x 3 = u3 from e3)
              obtain ⟨x, rfl⟩ := upd_of (show x 7 = .slice (some ad) (L.length - (ix + 1)) (lc - (ix + 1)) from hd 7 _ (by omega) rfl)
              clear hd
              show wpList Try.prog _ _ (List.drop 8 _) (⟨#[s2 0, .slice ya Y.length yc, .int .u8 days, s2 3, s2 4, s2 5, s2 6, .slice (some ⟨B, 0, none⟩) l.length c, .slice (some ⟨D, 0, none⟩) t.length f, .slice ob ol.length oc, s2 10, .slice mb ml.length mc, s2 12, s2 13, s2 14, s2 15, s2 16, s2 17, s2 18, s2 19, s2 20, s2 21, .slice (some ⟨bL, oL0, none⟩) L.length lc, s2 23, s2 24, sv, .int .i64 (A.length : Int), .int .i64 (ix : Int), s2 28, s2 29, s2 30, s2 31, s2 32, s2 33, s2 34, s2 35, s2 36, s2 37, s2 38, s2 39, s2 40, s2 41, s2 42, s2 43, s2 44, s2 45, s2 46, s2 47, s2 48, s2 49, s2 50, s2 51, s2 52, s2 53, s2 54, s2 55, s2 56, s2 57, s2 58, s2 59, s2 60, s2 61, s2 62, s2 63, s2 64, s2 65, s2 66, s2 67, s2 68, s2 69, s2 70, s2 71, s2 72, s2 73, s2 74, s2 75, s2 76, s2 77, s2 78, s2 79, s2 80, s2 81, s2 82, s2 83, s2 84, s2 85, s2 86, s2 87, s2 88, s2 89, s2 90, s2 91, s2 92, s2 93, s2 94, s2 95, s2 96, s2 97, s2 98, s2 99, s2 100, s2 101, s2 102, s2 103, s2 104, s2 105, s2 106, s2 107, s2 108, s2 109, s2 110, s2 111, s2 112, s2 113, s2 114, s2 115, s2 116, s2 117, s2 118, s2 119, s2 120, s2 121, s2 122, s2 123, s2 124, s2 125, s2 126, s2 127, s2 128, s2 129, s2 130, s2 131, s2 132, s2 133, s2 134, s2 135, s2 136, s2 137, s2 138, s2 139, s2 140, s2 141, s2 142, s2 143, s2 144, s3 145, s3 146, s3 147, s3 148, s3 149, s3 150, s3 151, s3 152, s3 153, s3 154, s3 155, s3 156, s3 157, s3 158, s3 159, s3 160, s3 161, s3 162, x 0, x 1, x 2, u3, x 4, x 5, x 6, .slice (some ad) (L.length - (ix + 1)) (lc - (ix + 1)), s3 171, undef, undef, undef, undef, undef, undef, undef, undef, undef, undef, undef, undef, undef, undef, undef, undef, undef, undef, undef, undef, undef, undef, undef, undef, undef, undef, undef, undef, undef, undef, undef, undef, undef, undef, undef, undef, undef, undef, undef, undef, undef, undef, undef, undef, undef, undef, undef, undef, undef, undef], []⟩ : Act) v
              simp only [List.drop_succ_cons, List.drop_zero]
              have hlx := HX.out
              have k3 : ix + (L.length - (ix + 1)) ≤ maxLen := by unfold maxLen; omega
              have k4 : (ix + (L.length - (ix + 1))) * 8 ≤ 140737488355328 := by omega
              have hnl : (((intsN L).drop (ix + 1)).flatMap encI).length = (L.length - (ix + 1)) * 1 := by rw [flat_len (enc := encI) (sz := 1) (fun _ => rfl), List.length_drop, intsN_len]
              have hgo := gX.tr gv
              have oa9 := owns_keep oa gv
              have HNL := Lib.hid hnl
              clear hnl hlx
              go_wp2_with (at_builtin; refine wpList_append_own _ rfl _ _ 24 rfl V8.heap.size 3 i0 (.int .i64 0) 1 8 Try.underlying24 hi hz0 hz1 hz2 rfl (by decide) u3 ix _ rfl ou3 ad (L.length - (ix + 1)) (lc - (ix + 1)) (((intsN L).drop (ix + 1)).flatMap encI) rfl HNL.out (HAD.out.2 _ gv) (one_flat (fun x u hu => by simp [encI] at hu; rw [hu]; rfl) _) k3 k4 gv.size ?_; intro v9 w9 ho9 hg9 _)
              have hle : ix + (L.length - (ix + 1)) = (L.eraseIdx ix).length := by rw [List.length_eraseIdx, if_pos (by omega)]; omega
              have hfe : ((intsN L).take ix).flatMap encI ++ ((intsN L).drop (ix + 1)).flatMap encI = (intsN (L.eraseIdx ix)).flatMap encI := by
                rw [← List.flatMap_append]
                unfold intsN
                rw [List.eraseIdx_eq_take_drop_succ, List.map_append, List.map_take, List.map_drop]
              rw [hfe, hle] at ho9
              have hg8 : Gr V3 w9 := hgo.grown' ou3 (by have := gX.size; have := gv.size; omega) hg9
              have oa10 := owns_apart oa9 hg9 (fun b e1 e2 => by have := (oa.lt b e1).2; have := (ou3.lt b e2).1; omega)
              have hap9 : Apart sv v9 := fun b e1 e2 => by have := (oa.lt b e1).2; have := (ho9.lt b e2).1; omega
              have ho10 := owns_base ho9 (show E0 ≤ V8.heap.size by have := gX.size; omega)
              obtain ⟨la3, lc3, hv9⟩ := owns_slice ho9
              obtain ⟨aa3, ac3, hsv⟩ := owns_slice oa10
              subst hv9
              subst hsv
              have HPE : Hid ((A ++ [xe] ++ L.eraseIdx ix).Perm (List.range l.length)) := Lib.hid (by
                refine List.Perm.trans ?_ HP.out
                rw [List.append_assoc]
                refine List.Perm.append_left A ?_
                exact erase_perm L ix xe HX.out)
              clear hle hfe
              go_roundw
              case rel => exact Lib.hid ⟨A ++ [xe], L.eraseIdx ix, aa3, la3, ac3, lc3, by rw [List.length_append]; go_num, by rw [List.length_append]; rfl, rfl, HPE.out, hg8, by rw [List.length_append]; exact oa10, ho10, by rw [List.length_append]; exact hap9⟩
              case measure => simp [intOf]; omega
          · have hL0 : L.length = 0 := by omega
            obtain rfl : L = [] := List.eq_nil_of_length_eq_zero hL0
            have hpm := HP.out
            rw [List.append_nil] at hpm
            have hAl : A.length = l.length := by have := hpm.length_eq; simpa using this
            have hAn : A.Nodup := hpm.nodup_iff.2 List.nodup_range
            have hAm : ∀ i ∈ A, i < l.length := fun i hi => List.mem_range.1 (hpm.mem_iff.1 hi)
            obtain ⟨aa4, ac4, e4, rA', _, hac'⟩ := owns_row_cap (enc := encI) (l := intsN A) (fun _ => rfl) (by rw [intsN_len]; omega) (by rw [intsN_len]; exact oa)
            rw [intsN_len] at e4 hac'
            injection e4 with e5 e6 e7
            have rA : IRow wr aa (intsN A) := by rw [e5]; exact rA'
            have hac : A.length ≤ ac := by rw [e7]; exact hac'
            have HAl := Lib.hid hAl
            have HAn := Lib.hid hAn
            have HAm := Lib.hid hAm
            have A8 : A.length ≤ 8 := by omega
            clear e5 e6 e7 rA' hac' hpm hAl hAn hAm h0 hL0 hsum oa ol' hap HP
            simp only [List.length_nil]
            go_upto_region 31 with fail
            refine (show (∀ s4 : Nat → Value, Code.wp Try.prog _ _ ⟨#[s4 0, .slice ya Y.length yc, .int .u8 days, s4 3, s4 4, s4 5, s4 6, .slice (some ⟨B, 0, none⟩) l.length c, .slice (some ⟨D, 0, none⟩) t.length f, .slice ob ol.length oc, s4 10, .slice mb ml.length mc, s4 12, s4 13, s4 14, s4 15, s4 16, s4 17, s4 18, s4 19, s4 20, s4 21, s4 22, s4 23, s4 24, .slice aa A.length ac, s4 26, s4 27, s4 28, s4 29, s4 30, s4 31, s4 32, s4 33, s4 34, s4 35, s4 36, s4 37, s4 38, s4 39, s4 40, s4 41, s4 42, s4 43, s4 44, s4 45, s4 46, s4 47, s4 48, s4 49, s4 50, s4 51, s4 52, s4 53, s4 54, s4 55, s4 56, s4 57, s4 58, s4 59, s4 60, s4 61, s4 62, s4 63, s4 64, s4 65, s4 66, s4 67, s4 68, s4 69, s4 70, s4 71, s4 72, s4 73, s4 74, s4 75, s4 76, s4 77, s4 78, s4 79, s4 80, s4 81, s4 82, s4 83, s4 84, s4 85, s4 86, s4 87, s4 88, s4 89, s4 90, s4 91, s4 92, s4 93, s4 94, s4 95, s4 96, s4 97, s4 98, s4 99, s4 100, s4 101, s4 102, s4 103, s4 104, s4 105, s4 106, s4 107, s4 108, s4 109, s4 110, s4 111, s4 112, s4 113, s4 114, s4 115, s4 116, s4 117, s4 118, s4 119, s4 120, s4 121, s4 122, s4 123, s4 124, s4 125, s4 126, s4 127, s4 128, s4 129, s4 130, s4 131, s4 132, s4 133, s4 134, s4 135, s4 136, s4 137, s4 138, s4 139, s4 140, s4 141, s4 142, s4 143, s4 144, s4 145, s4 146, s4 147, s4 148, s4 149, s4 150, s4 151, s4 152, s4 153, s4 154, s4 155, s4 156, s4 157, s4 158, s4 159, s4 160, s4 161, s4 162, s4 163, s4 164, s4 165, s4 166, s4 167, s4 168, s4 169, s4 170, s4 171, undef, undef, undef, undef, undef, undef, undef, undef, undef, undef, undef, undef, undef, undef, undef, undef, undef, undef, undef, undef, undef, undef, undef, undef, undef, undef, undef, undef, undef, undef, undef, undef, undef, undef, undef, undef, undef, undef, undef, undef, undef, undef, undef, undef, undef, undef, undef, undef, undef, undef], []⟩ _) → _ from fun h => h ((fun l : List Value => fun i => l.getD i undef) [_, undef, undef, _, _, _, _, undef, undef, undef, _, undef, _, _, _, _, _, _, _, _, _, _, _, _, _, undef, _, _, _, _, _, _, _, _, _, _, _, _, _, _, _, _, _, _, _, _, _, _, _, _, _, _, _, _, _, _, _, _, _, _, _, _, _, _, _, _, _, _, _, _, _, _, _, _, _, _, _, _, _, _, _, _, _, _, _, _, _, _, _, _, _, _, _, _, _, _, _, _, _, _, _, _, _, _, _, _, _, _, _, _, _, _, _, _, _, _, _, _, _, _, _, _, _, _, _, _, _, _, _, _, _, _, _, _, _, _, _, _, _, _, _, _, _, _, _, _, _, _, _, _, _, _, _, _, _, _, _, _, _, _, _, _, _, _, _, _, _, _, _, _, _, _])) ?_
            intro s4
            dsimp only
            obtain ⟨Q, hQ⟩ : ∃ Q, Q = wr := ⟨_, rfl⟩
            subst hQ
            have HPi : Hid (∀ (n : Nat) (W : World), n ≤ A.length → Gr Q W → Calls Try.prog 57 #[.slice (some ⟨B, 0, none⟩) l.length c, .slice aa n ac] W fun e w' => ∃ a cp, e = .returned (.tuple #[.slice a n cp, .bool true]) ∧ LRow w' a (pickL l (A.take n)) ∧ Gr W w') := Lib.hid (fun n W hn g => by
              have hl : (A.take n).length = n := by rw [List.length_take]; omega
              have hr : IRow W aa (intsN (A.take n)) := by
                have := RowOf.take31 (rA.grow g) n
                unfold intsN at this ⊢
                rwa [List.map_take]
              have := picked_any l (A.take n) (by omega) (HAn.out.sublist (List.take_sublist _ _)) (fun i hi => HAm.out i (List.mem_of_mem_take hi)) (by omega) (some ⟨B, 0, none⟩) aa c ac W (rL.grow (gV3.tr (gX.tr g))) hr
              rw [hl] at this
              exact this)
            have HFa : Hid (∀ (n : Nat) (a b : Option Addr) (cp cc : Nat) (W : World), n ≤ A.length → t.length ≤ cc → LRow W a (pickL l (A.take n)) → TRow W b t → Calls Try.prog 38 #[.slice a n cp, .slice b t.length cc, .int .i64 days] W fun e w' => (∃ y z v, e = .returned (.tuple #[.int .i64 y, .int .i64 z, .int .i64 v]) ∧ (standB l (lastL t days) (A.take n) = true → v = 7) ∧ (standB l (lastL t days) (A.take n) = false → v = 0)) ∧ Gr W w') := Lib.hid (fun n a b cp cc W hn hcc hr ht => by
              have hl : (A.take n).length = n := by rw [List.length_take]; omega
              have := HK.out.fall (A.take n) a b cp cc W (by omega) (fun i hi => HAm.out i (List.mem_of_mem_take hi)) hcc hr ht
              rw [hl] at this
              exact this)
            have HPr : Hid (∀ n : Nat, n ≤ A.length → standB l (lastL t days) (A.take n) = true → n ≤ ml.length) := Lib.hid (fun n hn h => by
              have hl : (A.take n).length = n := by rw [List.length_take]; omega
              have := HK.out.pre (A.take n) (HAn.out.sublist (List.take_sublist _ _)) (fun i hi => HAm.out i (List.mem_of_mem_take hi)) h
              omega)
            have HSm : Hid (∀ W : World, standB l (lastL t days) A = true → Gr Q W → Calls Try.prog 58 #[.slice aa A.length ac, .slice ob ol.length oc] W fun e w' => e = .returned (.bool false) ∧ Gr W w') := Lib.hid (fun W h g => by
              obtain ⟨h1, h2⟩ := HK.out.least A HAn.out HAm.out HAl.out h
              have := smaller_any (intsN A) (intsN ol) aa ob ac oc W (rA.grow g) (ro3.grow (gX.tr g)) (by rw [intsN_len, intsN_len, h1]; exact HAl.out)
              rw [intsN_len, intsN_len, h2] at this
              exact this)
            have HAl2 : Hid (A.length = l.length) := HAl
            go_wp2
            go_loopw [28] (fun i wx => Hid (∃ n : Nat, 1 ≤ n ∧ n ≤ A.length + 1 ∧ i = .int .i64 n ∧ Gr Q wx)) (fun i _ => A.length + 1 - (intOf i).toNat)
            case atStart => exact Lib.hid ⟨1, Nat.le_refl _, by omega, rfl, Below.refl _ _⟩
            case round =>
              obtain ⟨n, hn1, hn2, rfl, gQ⟩ := hrel.out
              clear hrel
              by_cases hle : n ≤ A.length
              · have hle' : (n : Int) ≤ (A.length : Int) := by omega
                have hnc : n ≤ ac := by omega
                go_upto_region 38 with (first
                  | (go_at_call 57; refine (HPi.out n _ hle gQ).mono ?_; rintro e x1 ⟨p1, d1', rfl, y1, k1⟩)
                  | (go_at_call 36; refine (HSp.out _ (gV3.tr (gX.tr (gQ.tr k1)))).mono ?_; rintro e x2 ⟨p2, d2', rfl, y2, hd2, k2⟩)
                  | (go_at_call 38; refine (HFa.out n p1 p2 d1' d2' _ hle hd2 (y1.grow k2) y2).mono ?_; rintro e x3 ⟨⟨v1, v2, v3, rfl, hv7, hv0⟩, k3⟩))
                have gR := gQ.tr (k1.tr (k2.tr k3))
                clear y1 y2 k1 k2 k3 hd2
                cases hst : standB l (lastL t days) (A.take n) with
                | false =>
                  obtain rfl : v3 = 0 := hv0 hst
                  clear hv7 hv0 hst
                  go_wp2
                  go_roundw
                  case rel => exact Lib.hid ⟨n + 1, by omega, by omega, by go_num, gR⟩
                  case measure => simp [intOf]; omega
                | true =>
                  obtain rfl : v3 = 7 := hv7 hst
                  have hnm := HPr.out n hle hst
                  have dm : decide ((ml.length : Int) < (n : Int)) = false := by simp; omega
                  by_cases hnl : n = l.length
                  · have dn : ((n : Int) == (l.length : Int)) = true := by rw [beq_iff_eq]; omega
                    have hnA : n = A.length := by rw [hnl, HAl2.out]
                    rw [hnA, List.take_length] at hst
                    have HSA := Lib.hid hst
                    clear hv7 hv0 hst hnA hnl
                    go_wp2_with (go_at_call 58; refine (HSm.out _ HSA.out gR).mono ?_; rintro e x4 ⟨rfl, k4⟩)
                    go_roundw
                    case rel => exact Lib.hid ⟨n + 1, by omega, by omega, by go_num, gR.tr k4⟩
                    case measure => simp [intOf]; omega
                  · have dn : ((n : Int) == (l.length : Int)) = false := by rw [beq_eq_false_iff_ne]; omega
                    clear hv7 hv0 hst
                    go_wp2
                    go_roundw
                    case rel => exact Lib.hid ⟨n + 1, by omega, by omega, by go_num, gR⟩
                    case measure => simp [intOf]; omega
              · have hle' : ¬ (n : Int) ≤ (A.length : Int) := by omega
                go_wp2_with (go_at_call 18; refine (known_any _).mono ?_; rintro e w9 ⟨rfl, g9⟩)
                go_ret
                exact ⟨rfl, (gV.tr (gV3.tr (gX.tr gQ))).tr g9⟩

end Go.Proofs.Ytcdilmagcdbogaa

namespace Go.Proofs.Ytcdilmagcdbogaa
set_option linter.unusedVariables false
set_option linter.unusedSimpArgs false
open Go.RowKit Go.ChangeShapes

section
variable {H : Type} {enc : TypeId × Value → H} {P : Program} {W W' : World}

theorem trodAll_stays (hl : laidOutB P = true) (g : Gr W W') {sp : Nat → Bool} : ∀ (ts : List TypeId) (vs : List Value) (ds : List (DataW H)) (ps : List MemPlace), (∀ t ∈ ts, P.readableRec t = true ∧ t < P.types.size) →
    DataW.TrodAll enc P W 0 (fun _ => true) true ts vs ds ps → (∀ p ∈ ps, p.block < W.heap.size) → (∀ p ∈ ps, sp p.block = true) → DataW.TrodAll enc P W' 0 sp true ts vs ds ps
  | [], [], [], _, _, h, _, _ => h
  | t :: ts, v :: vs, d :: ds, ps, ht, h, hlt, hsp => by
    obtain ⟨p, q, h1, h2, rfl⟩ := h
    exact ⟨p, q, WideElems.Trod_stays hl (ht t (by simp)).1 (ht t (by simp)).2 h1 (fun x hx => g.same (hlt x (by simp [hx]))) (fun x hx => hsp x (by simp [hx])),
      trodAll_stays hl g ts vs ds q (fun u hu => ht u (by simp [hu])) h2 (fun x hx => hlt x (by simp [hx])) (fun x hx => hsp x (by simp [hx])), rfl⟩

/-- A law that returned true in a world that only grew, its arguments as they were. -/
theorem law_true {f : Func} {s : ChangeSpec} {bt : TypeId} {args : Array Value} {ds : List (DataW H)} {p : List MemPlace}
    (hl : laidOutB P = true) (hpt : ∀ t ∈ f.params.toList, P.readableRec t = true ∧ t < P.types.size) (hbt : P.underlying bt = some .bool) (hrt : f.resultTypes = #[bt]) (hsv : s.vars = [])
    (hs : s.fn H ds = { results := [.lit (.bool true)], args := ds })
    (hW : DataW.Whole enc P f.params.toList s.vars false W args.toList ds [] p) (g : Gr W W') :
    s.post enc P f false true false false W args (.bool true) W' := by
  have hW0 := hW
  obtain ⟨pa, pv, hA, hV, hp, hfz, hnd⟩ := hW0
  rw [hsv] at hV
  have hpv : pv = [] := hV
  subst hpv
  rw [List.append_nil] at hp
  subst hp
  have hold : ∀ x ∈ p, x.block < W.heap.size := fun x hx => hW.lt x hx
  have hargs : ∀ sp : Nat → Bool, (∀ x ∈ p, sp x.block = true) → DataW.TrodAll enc P W' 0 sp true f.params.toList args.toList ds p := fun sp hsp => trodAll_stays hl g _ _ _ _ hpt hA hold hsp
  have hres : ∀ (b : Nat) (sp : Nat → Bool) (hd : Bool), DataW.TrodAll enc P W' b sp hd f.resultTypes.toList ((Value.bool true).resultList f.resultTypes.size) [.lit (.bool true)] [] := fun b sp hd => by
    rw [hrt]
    exact trodAll_cons_mk (shut_bool hbt _) trodAll_mk0
  have hok : ∀ (j : Nat) (t : TypeId) (r : Value), f.resultTypes[j]? = some t → ((Value.bool true).resultList f.resultTypes.size)[j]? = some r → Value.okWide P W' .any 0 t r := ok_one hrt rfl (okWide_bool_mk hbt _)
  have es : s.fn H (ds ++ []) = { results := [.lit (.bool true)], args := ds } := by rw [List.append_nil]; exact hs
  have hsp0 : ∀ x ∈ p, (fun b => decide (b < W.heap.size)) x.block = true := fun x hx => by simpa using hold x hx
  refine ⟨ds, [], p, [], p, [], hW, ?_, ?_, ?_, World.keptBut_mono (fun x hx => hx.elim) (g.frame (fun _ => False)), fun _ => ?_⟩
  · rw [es]; exact hres _ _ _
  · rw [es]; exact hargs _ hsp0
  · rw [es, hsv]; rfl
  · refine ⟨hok, [.lit (.bool true)] ++ ds, [], ([] ++ p) ++ [], ⟨[] ++ p, [], trodAll_append (hargs (fun _ => true) (fun _ _ => rfl)) (hres _ _ _), ?_, rfl, ?_, ?_⟩, ?_⟩
    · rw [hsv]; rfl
    · intro b off hx
      have hx' : MemPlace.cell b off ∈ p := by simpa using hx
      have hb : b < W.heap.size := hold _ hx'
      rw [g.frozen (p := ⟨b, off, none⟩) hb]
      exact hfz b off hx'
    · intro ha
      cases ha
    · intro x hx _
      simpa using hx

/-- Made of integers of kind k alone, cell by cell: by looking. -/
def allK (P : Program) (k : IntKind) : Nat → TypeId → Bool
  | 0, _ => false
  | f + 1, t => match P.underlying t with
    | some (.int k') => decide (k' = k) && decide (P.cellsOf t = 1)
    | some (.struct fs) => fs.toList.all (fun x => allK P k f x.type) && (List.range (P.cellsOf t)).all fun i => fs.toList.any fun x => decide (x.offset ≤ i) && decide (i < x.offset + P.cellsOf x.type)
    | some (.array n e) => allK P k f e && (List.range (P.cellsOf t)).all fun i => (List.range n).any fun j => decide (j * P.cellsOf e ≤ i) && decide (i < j * P.cellsOf e + P.cellsOf e)
    | _ => false

theorem piece {cs : List Value} {o n i : Nat} (h1 : o ≤ i) (h2 : i < o + n) : ((cs.drop o).take n)[i - o]? = cs[i]? := by
  rw [List.getElem?_take_of_lt (by omega), List.getElem?_drop, show o + (i - o) = i by omega]

theorem mapM_at {α β : Type} {f : α → Option β} : ∀ (l : List α) (ys : List β), l.mapM f = some ys → ∀ a ∈ l, ∃ y, f a = some y
  | [], _, _, a, ha => by cases ha
  | b :: l, ys, h, a, ha => by
    rw [List.mapM_cons] at h
    cases h1 : f b with
    | none => simp [h1] at h
    | some y =>
      cases h2 : l.mapM f with
      | none => simp [h1, h2] at h
      | some zs =>
        rcases List.mem_cons.1 ha with rfl | ha
        · exact ⟨y, h1⟩
        · exact mapM_at l zs h2 a ha

theorem int_open {k : IntKind} {base : Nat} {sp : Nat → Bool} {held : Bool} {t : TypeId} (hu : P.underlying t = some (.int k)) {fuel : Nat} {cs : List Value} {x : DataW H × List MemPlace} (hx : DataW.trod enc P W base sp held fuel t cs = some x) :
    ∃ n, cs = [.int k n] ∧ (Lit.int k n).wf = true := by
  obtain ⟨n, e, _, hw⟩ := DataW.trod_int hu hx
  exact ⟨n, e, hw⟩

theorem allK_open {k : IntKind} {base : Nat} {sp : Nat → Bool} {held : Bool} : ∀ (f : Nat) (t : TypeId), allK P k f t = true → ∀ (fuel : Nat) (cs : List Value) (x : DataW H × List MemPlace), DataW.trod enc P W base sp held fuel t cs = some x →
    cs.length = P.cellsOf t ∧ ∀ i, i < cs.length → ∃ n, cs[i]? = some (.int k n) ∧ (Lit.int k n).wf = true
  | 0, _, h, _, _, _, _ => by simp [allK] at h
  | f + 1, t, h, 0, cs, x, hx => by simp [DataW.trod] at hx
  | f + 1, t, h, fuel + 1, cs, x, hx => by
    unfold allK at h
    split at h
    · rename_i k' hu
      simp only [Bool.and_eq_true, decide_eq_true_eq] at h
      obtain ⟨rfl, hc⟩ := h
      obtain ⟨n, rfl, hw⟩ := int_open hu hx
      refine ⟨by rw [hc]; rfl, fun i hi => ?_⟩
      obtain rfl : i = 0 := by simpa using hi
      exact ⟨n, rfl, hw⟩
    · rename_i fs hu
      simp only [Bool.and_eq_true] at h
      obtain ⟨ha, hcov⟩ := h
      unfold DataW.trod at hx
      rw [hu] at hx
      simp only at hx
      split at hx
      case isFalse => cases hx
      rename_i hl
      refine ⟨hl, fun i hi => ?_⟩
      obtain ⟨xs, hxs, _⟩ := Option.map_eq_some_iff.1 hx
      have hci := List.all_eq_true.1 hcov i (by simp; omega)
      obtain ⟨fd, hfd, hin⟩ := List.any_eq_true.1 hci
      simp only [Bool.and_eq_true, decide_eq_true_eq] at hin
      obtain ⟨y, hy⟩ := mapM_at _ _ hxs fd hfd
      obtain ⟨hl', hat⟩ := allK_open f fd.type (List.all_eq_true.1 ha fd hfd) fuel _ y hy
      obtain ⟨n, hn, hw⟩ := hat (i - fd.offset) (by rw [hl']; omega)
      rw [piece hin.1 hin.2] at hn
      exact ⟨n, hn, hw⟩
    · rename_i m e hu
      simp only [Bool.and_eq_true] at h
      obtain ⟨ha, hcov⟩ := h
      unfold DataW.trod at hx
      rw [hu] at hx
      simp only at hx
      split at hx
      case isFalse => cases hx
      rename_i hl
      refine ⟨hl, fun i hi => ?_⟩
      obtain ⟨xs, hxs, _⟩ := Option.map_eq_some_iff.1 hx
      have hci := List.all_eq_true.1 hcov i (by simp; omega)
      obtain ⟨j, hj, hin⟩ := List.any_eq_true.1 hci
      simp only [Bool.and_eq_true, decide_eq_true_eq] at hin
      obtain ⟨y, hy⟩ := mapM_at _ _ hxs j hj
      obtain ⟨hl', hat⟩ := allK_open f e ha fuel _ y hy
      obtain ⟨n, hn, hw⟩ := hat (i - j * P.cellsOf e) (by rw [hl']; omega)
      rw [piece hin.1 hin.2] at hn
      exact ⟨n, hn, hw⟩
    · cases h

theorem ints_of {k : IntKind} : ∀ (cs : List Value), (∀ i, i < cs.length → ∃ n, cs[i]? = some (.int k n) ∧ (Lit.int k n).wf = true) → ∃ l : List Int, cs = l.map (Value.int k) ∧ ∀ n ∈ l, (Lit.int k n).wf = true
  | [], _ => ⟨[], rfl, by simp⟩
  | c :: cs, h => by
    obtain ⟨n, hn, hw⟩ := h 0 (by simp)
    obtain ⟨l, rfl, hl⟩ := ints_of cs (fun i hi => by simpa using h (i + 1) (by simpa using hi))
    simp only [List.getElem?_cons_zero, Option.some.injEq] at hn
    subst hn
    refine ⟨n :: l, rfl, fun m hm => ?_⟩
    rcases List.mem_cons.1 hm with rfl | hm
    · exact hw
    · exact hl m hm

/-- A struct or array by value, of integers of one kind: its integers. -/
theorem agg_ints {k : IntKind} {base : Nat} {sp : Nat → Bool} {held : Bool} {f : Nat} {t : TypeId} (ha : allK P k f t = true) (hc : P.cellsOf t ≠ 1) {v : Value} {d : DataW H} {ps : List MemPlace} (h : DataW.Trod enc P W base sp held t v d ps) :
    ∃ l : List Int, v = .agg (l.map (Value.int k)).toArray ∧ l.length = P.cellsOf t ∧ ∀ n ∈ l, (Lit.int k n).wf = true := by
  obtain ⟨fuel, hf⟩ := h
  obtain ⟨hl, hat⟩ := allK_open f t ha fuel _ _ hf
  obtain ⟨l, hcs, hw⟩ := ints_of _ hat
  have hlen : l.length = P.cellsOf t := by rw [← hl, hcs]; simp
  refine ⟨l, ?_, hlen, hw⟩
  unfold Value.cells at hcs hl
  split at hcs
  · rename_i cs
    rw [← hcs]
  · rename_i hna
    exfalso
    apply hc
    rw [← hlen]
    have := congrArg List.length hcs
    simpa using this.symm

/-- A slice of bytes that came in. -/
theorem row_bytes {e : TypeId} {t : TypeId} {r : Reach} {b0 : Nat} (ht : P.underlying t = some (.slice e)) (he : P.underlying e = some (.int .u8)) (hc : P.cellsOf e = 1) {v : Value} {d : DataW H} {ps : List MemPlace} (hval : Value.okWide P W r b0 t v)
    (h : DataW.Trod enc P W 0 (fun _ => true) true t v d ps) :
    ∃ (a : Option Addr) (l : List Int) (cap : Nat), v = .slice a l.length cap ∧ URow W a l ∧ Bytes l := by
  obtain ⟨fuel, hf⟩ := h
  obtain ⟨a0, len0, cap0, rfl⟩ := Go.WideShapes.okWide_slice ht hval
  rcases open_ints ht he hc hf with ⟨hcs, _⟩ | ⟨a, len, cap, zs, hcs, _, hle, hmax, hlen, _, hcell, hwf⟩
  · have hcs' : [Value.slice a0 len0 cap0] = [.slice none 0 0] := by simpa [Value.cells] using hcs
    cases hcs'
    exact ⟨none, [], 0, rfl, RowOf.nil, fun x hx => by cases hx⟩
  · have hcs' : [Value.slice a0 len0 cap0] = [.slice (some a) len cap] := by simpa [Value.cells] using hcs
    cases hcs'
    simp only [if_true] at hlen
    have hl : (zs.take len0).length = len0 := by simp; omega
    refine ⟨some a, zs.take len0, cap0, by rw [hl], ⟨by rw [hl]; exact Nat.le_trans hle hmax, fun j x hx => ?_⟩, fun x hx => bounds_u8 (hwf x (List.mem_of_mem_take hx))⟩
    have hj : j < len0 := by
      have := (List.getElem?_eq_some_iff.1 hx).1
      omega
    have hz : zs[j]? = some x := by
      rw [List.getElem?_take_of_lt hj] at hx
      exact hx
    have h0 := hcell 0 (by omega)
    rw [show a.add 0 = a by simp [Addr.add]] at h0
    have hb := World.block_lt_of_cell? W _ h0
    have hs : a.spot = none := by
      cases hsp : a.spot with
      | none => rfl
      | some q =>
        exfalso
        unfold World.cell? at h0
        split at h0
        · simp [hsp] at h0
        · cases h0
    obtain ⟨b, off, sp⟩ := a
    simp only at hs
    subst hs
    have h1 := hcell j (by omega)
    have e1 : zs.getD j 0 = x := by simp [hz]
    rw [e1, show (Addr.mk b off none).add j = ⟨b, off + j, none⟩ by unfold Addr.add; split <;> simp_all] at h1
    refine ⟨b, off, rfl, hb, fun i v hv => ?_⟩
    have hi : i = 0 := by
      have := (List.getElem?_eq_some_iff.1 hv).1
      simpa [encU] using this
    subst hi
    simp [encU] at hv
    subst hv
    simpa using h1

end

end Go.Proofs.Ytcdilmagcdbogaa

namespace Go.Proofs.Ytcdilmagcdbogaa
set_option linter.unusedVariables false
set_option linter.unusedSimpArgs false
open Go.RowKit

/-- A board is handed back. -/
def MadePost (mp mf : List Int) (w : World) (e : Ending) (w' : World) : Prop := ∃ a ac g gc, e = .returned (.agg #[.slice a mp.length ac, .slice g mf.length gc]) ∧ Gr w w' ∧ IRow w' a mp ∧ IRow w' g mf ∧ NewAt w.heap.size a ∧ NewAt w.heap.size g

/-- A blank is handed back. -/
def BlankPost (tab hei slo : Int) (pan top bot : List Int) (opn : Bool) (w : World) (e : Ending) (w' : World) : Prop :=
  ∃ pa pc ta tc ba bc, e = .returned (.agg #[.int .i64 tab, .slice pa pan.length pc, .int .i64 hei, .slice ta top.length tc, .slice ba bot.length bc, .int .i64 slo, .bool opn]) ∧ Gr w w' ∧ IRow w' pa pan ∧ IRow w' ta top ∧ IRow w' ba bot ∧ NewAt w.heap.size pa ∧ NewAt w.heap.size ta ∧ NewAt w.heap.size ba

end Go.Proofs.Ytcdilmagcdbogaa

namespace Go.Proofs.Ytcdilmagcdbogaa
set_option linter.unusedVariables false
set_option linter.unusedSimpArgs false
open Go.RowKit

theorem infoPaper : (Try.prog.info? 174).map (fun i => (i.zero, i.size, i.bytes)) = some (some (.agg #[.int .i64 0, .int .i64 0, .int .i64 0, .int .i64 0, .int .i64 0, .int .i64 0, .int .i64 0, .int .i64 0]), 8, 64) := by kernel_rfl

theorem infoFlute : (Try.prog.info? 176).map (fun i => (i.zero, i.size, i.bytes)) = some (some (.agg #[.int .i64 0, .int .i64 0, .int .i64 0, .int .i64 0]), 4, 32) := by kernel_rfl

/-- A store is handed back. -/
def StorePost (ps : List Paper) (fs : List Flute) (w : World) (e : Ending) (w' : World) : Prop := ∃ a ac g gc, e = .returned (.agg #[.slice a ps.length ac, .slice g fs.length gc]) ∧ Gr w w' ∧ PRow w' a ps ∧ FRow w' g fs ∧ NewAt w.heap.size a ∧ NewAt w.heap.size g

theorem ne_of_at {x y g H : Nat} (h : some x = some g ∨ g = H) (hx : x ≠ y) (hH : H ≠ y) : g ≠ y := by
  rcases h with h | h
  · injection h with h
    omega
  · omega

theorem oneP (x : Paper) : ∀ u ∈ encP x, u.oneCell' = true := by
  intro u hu
  simp only [encP, List.mem_cons, List.not_mem_nil, or_false] at hu
  rcases hu with rfl | rfl | rfl | rfl | rfl | rfl | rfl | rfl <;> rfl

theorem oneF (x : Flute) : ∀ u ∈ encF x, u.oneCell' = true := by
  intro u hu
  simp only [encF, List.mem_cons, List.not_mem_nil, or_false] at hu
  rcases hu with rfl | rfl | rfl | rfl <;> rfl

theorem Own.grownRow {w w' : World} {b : Nat} {vs : List Value} {row : Option Nat} (h : Own w b vs) (g : w.grownBy w' row) (hne : ∀ r, row = some r → b ≠ r) : Own w' b vs := by
  have hb := g.block b h.1.1 (fun e => hne b e.symm rfl)
  exact ⟨⟨Nat.lt_of_lt_of_le h.1.1 g.size, fun i v hv => (World.cell?_of_block (w := w) (a := ⟨b, i, none⟩) hb).trans (h.1.2 i v hv)⟩, fun i => (World.frozen?_of_block (w := w) (a := ⟨b, i, none⟩) hb).trans (h.2 i)⟩

end Go.Proofs.Ytcdilmagcdbogaa

namespace Go.Proofs.Ytcdilmagcdbogaa
set_option linter.unusedVariables false
set_option linter.unusedSimpArgs false
open Go.RowKit

def HeldP (b : Nat) (y0 y1 y2 y3 : Int) (c : Nat) (pv : Value) (w' : World) : Prop := w'.cell? ⟨b, 0, none⟩ = some (.int .u8 y0) ∧ w'.cell? ⟨b, 1, none⟩ = some (.int .u8 y1) ∧ w'.cell? ⟨b, 2, none⟩ = some (.int .u8 y2) ∧ w'.cell? ⟨b, 3, none⟩ = some (.int .u8 y3) ∧ w'.cell? ⟨c, 0, none⟩ = some pv

def HeldF (b : Nat) (y2 : Int) (c : Nat) (pv : Value) (w' : World) : Prop := w'.cell? ⟨b, 2, none⟩ = some (.int .u8 y2) ∧ w'.cell? ⟨c, 1, none⟩ = some pv

def fpaper (v0 v1 v2 v3 : Int) (k : Int) : Paper := ⟨1 + k % 2, 80 + v0, 100 + v1, 100 + v1 + v2 % 60, v3 % 90, v3 % 90 + v2 % 20, 2000 * v0, 5 * v1⟩

def fflute (v0 v1 v2 : Int) : Flute := ⟨2000 + 20 * v0, 2000 + 20 * v0 + (2000 + 20 * v0) * v2 / 400, 1000 + 8 * v1, 1000 + 8 * v1 + v2 % 200⟩

def storeP (x0 x1 x2 x3 x4 x5 x6 x7 x8 x9 x10 x11 : Int) : List Paper := [fpaper x0 x1 x2 x3 0, fpaper x4 x5 x6 x7 1, fpaper x8 x9 x10 x11 2]

def storeF (x12 x13 x14 x15 x16 x17 : Int) : List Flute := [fflute x12 x13 x14, fflute x15 x16 x17]

def Byt (n : Int) : Prop := 0 ≤ n ∧ n ≤ 255

theorem owns_other {w : World} {base : Nat} {e : TypeId} {sz : Nat} {v : Value} {n : Nat} {xs : List Value} {c i : Nat} {u : Value} (h : w.ownsRow base e sz v n xs) (hc : c < base) : (w.setCell ⟨c, i, none⟩ u).ownsRow base e sz v n xs := by
  obtain ⟨h1, h2⟩ := h
  refine ⟨h1, ?_⟩
  rcases h2 with h2 | ⟨b, cap, cur, hv, hb, hh, r⟩
  · exact .inl h2
  · exact .inr ⟨b, cap, cur, hv, hb, (Below.heap_setCell _ _ _ _ (show b ≠ c by omega)).trans hh, r⟩

theorem Box.c3 {w : World} {b : Nat} {x0 x1 x2 : Value} (h : Box w b [x0, x1, x2]) : w.cell? ⟨b, 0, none⟩ = some x0 ∧ w.cell? ⟨b, 1, none⟩ = some x1 ∧ w.cell? ⟨b, 2, none⟩ = some x2 := ⟨h.2 0 x0 rfl, h.2 1 x1 rfl, h.2 2 x2 rfl⟩

theorem Box.other {w : World} {b c i : Nat} {vs : List Value} {v : Value} (h : Box w c vs) (hne : c ≠ b) : Box (w.setCell ⟨b, i, none⟩ v) c vs :=
  ⟨by simpa using h.1, fun j u hu => by rw [cell_set_ne v (.inl hne)]; exact h.2 j u hu⟩

end Go.Proofs.Ytcdilmagcdbogaa

namespace Go.Proofs.Ytcdilmagcdbogaa
set_option linter.unusedVariables false
set_option linter.unusedSimpArgs false
open Go.RowKit

structure V6 where
  a : Int
  b : Int
  c : Int
  d : Int
  e : Int
  f : Int

structure V3 where
  a : Int
  b : Int
  c : Int

def encV6 (v : V6) : List Value := [.int .u8 v.a, .int .u8 v.b, .int .u8 v.c, .int .u8 v.d, .int .u8 v.e, .int .u8 v.f]

def encV3 (v : V3) : List Value := [.int .u8 v.a, .int .u8 v.b, .int .u8 v.c]

abbrev Row6 := RowOf 6 encV6

abbrev Row3 := RowOf 3 encV3

def isB (n : Int) : Prop := 0 ≤ n ∧ n ≤ 255

def B6 (v : V6) : Prop := isB v.a ∧ isB v.b ∧ isB v.c ∧ isB v.d ∧ isB v.e ∧ isB v.f

def B3 (v : V3) : Prop := isB v.a ∧ isB v.b ∧ isB v.c

def npW (n : Nat) : Nat := if n ≤ 2 then 2 else if n ≤ 5 then n else 5

def nfW (n : Nat) : Nat := if n = 0 then 1 else if n ≤ 3 then n else 3

def wareP (P : List V6) (i : Nat) : V6 := match P[i]? with | some v => v | none => ⟨i, 120, 20, 7, 30, 20⟩

def wareF (F : List V3) (i : Nat) : V3 := match F[i]? with | some v => v | none => ⟨80, 128, 36⟩

def paperW (k : Nat) (v : V6) : Paper := ⟨if 1 < k then 1 + v.a % 2 else 1 + k, 50 + v.b, 50 + v.c, 50 + v.c + v.a / 8, v.d % 100, v.d % 100 + v.d / 16, 1000 * v.e, 10 * v.f⟩

def fluteW (v : V3) : Flute := ⟨1000 + 35 * v.a, 1000 + 35 * v.a + (1000 + 35 * v.a) * v.b / 255, 500 + 10 * v.c, 500 + 10 * v.c + v.b % 90⟩

def storeWP (P : List V6) : List Paper := (List.range (npW P.length)).map fun i => paperW i (wareP P i)

def storeWF (F : List V3) : List Flute := (List.range (nfW F.length)).map fun i => fluteW (wareF F i)

theorem storeWP_len (P : List V6) : (storeWP P).length = npW P.length := by simp [storeWP]

theorem storeWF_len (F : List V3) : (storeWF F).length = nfW F.length := by simp [storeWF]

theorem npW_bd (n : Nat) : 2 ≤ npW n ∧ npW n ≤ 5 := by unfold npW; split <;> (try split) <;> omega

theorem nfW_bd (n : Nat) : 1 ≤ nfW n ∧ nfW n ≤ 3 := by unfold nfW; split <;> (try split) <;> omega

theorem storeWP_at {P : List V6} {k : Nat} (h : k < npW P.length) : (storeWP P)[k]? = some (paperW k (wareP P k)) := by
  unfold storeWP
  rw [List.getElem?_map, List.getElem?_range h]
  rfl

theorem storeWF_at {F : List V3} {k : Nat} (h : k < nfW F.length) : (storeWF F)[k]? = some (fluteW (wareF F k)) := by
  unfold storeWF
  rw [List.getElem?_map, List.getElem?_range h]
  rfl

theorem wareP_B {P : List V6} (hP : ∀ v ∈ P, B6 v) {k : Nat} (hk : k < 5) : B6 (wareP P k) := by
  unfold wareP
  cases h : P[k]? with
  | some v => exact hP v (List.mem_of_getElem? h)
  | none => simp only [B6, isB]; omega

theorem wareF_B {F : List V3} (hF : ∀ v ∈ F, B3 v) (k : Nat) : B3 (wareF F k) := by
  unfold wareF
  cases h : F[k]? with
  | some v => exact hF v (List.mem_of_getElem? h)
  | none => simp only [B3, isB]; omega

theorem u8_small {k : Nat} (h : k < 5) : IntKind.u8.wrap (k : Int) = k := by
  have h5 : k = 0 ∨ k = 1 ∨ k = 2 ∨ k = 3 ∨ k = 4 := by omega
  rcases h5 with rfl | rfl | rfl | rfl | rfl <;> rfl

theorem owns_val {w : World} {base : Nat} {e : TypeId} {sz : Nat} {v : Value} {n : Nat} {xs : List Value} (h : w.ownsRow base e sz v n xs) : ∃ a cap, v = .slice a n cap := by
  obtain ⟨h1, h2⟩ := h
  rcases h2 with ⟨hv, hn⟩ | ⟨b, cap, cur, hv, _⟩
  · exact ⟨none, 0, by rw [hv, hn]⟩
  · exact ⟨some ⟨b, 0, none⟩, cap, hv⟩

theorem Own.news {v : World} {b : Nat} {vs : List Value} (h : Own v b vs) : ∀ (j : Nat) (u : Value), vs[j]? = some u → v.cell? ((⟨b, 0, none⟩ : Addr).add j) = some u := by
  intro j u hu
  have hc := h.1.2 j u hu
  unfold Addr.add
  split
  · rename_i h0
    subst h0
    exact hc
  · simpa using hc

end Go.Proofs.Ytcdilmagcdbogaa

namespace Go.Proofs.Ytcdilmagcdbogaa
set_option linter.unusedVariables false
set_option linter.unusedSimpArgs false
open Go.RowKit Go.ChangeShapes

theorem list_of {α : Type} (p : Nat → α → Prop) : ∀ n, (∀ j, j < n → ∃ x, p j x) → ∃ l : List α, l.length = n ∧ ∀ j x, l[j]? = some x → p j x
  | 0, _ => ⟨[], rfl, fun j x h => by simp at h⟩
  | n + 1, h => by
    obtain ⟨l, hl, hp⟩ := list_of p n (fun j hj => h j (by omega))
    obtain ⟨x, hx⟩ := h n (by omega)
    refine ⟨l ++ [x], by simp [hl], fun j y hy => ?_⟩
    by_cases hj : j < l.length
    · rw [List.getElem?_append_left hj] at hy
      exact hp j y hy
    · rw [List.getElem?_append_right (by omega)] at hy
      have h1 := (List.getElem?_eq_some_iff.1 hy).1
      simp at h1
      obtain rfl : j = n := by omega
      simp [hl] at hy
      subst hy
      exact hx

section
variable {H : Type} {enc : TypeId × Value → H} {P : Program} {W : World}

/-- A slice of arrays of integers of one kind. -/
theorem row_flat {α : Type} {en : α → List Value} {G : α → Prop} {e t : TypeId} {k : IntKind} {f sz fuel : Nat} {cs : List Value} {x : DataW H × List MemPlace} (ht : P.underlying t = some (.slice e)) (ha : allK P k f e = true) (hc : P.cellsOf e = sz) (h0 : 0 < sz)
    (hmk : ∀ l : List Int, l.length = sz → (∀ n ∈ l, (Lit.int k n).wf = true) → ∃ y : α, en y = l.map (Value.int k) ∧ G y)
    (hx : DataW.trod enc P W 0 (fun _ => true) true fuel t cs = some x) :
    ∃ (a : Option Addr) (l : List α) (cap : Nat), cs = [.slice a l.length cap] ∧ RowOf sz en W a l ∧ ∀ v ∈ l, G v := by
  rcases DataW.trod_slice ht hx with ⟨h, _⟩ | ⟨a, len, cap, elems, rest, n, _, rfl, _, hb, hl, hm, hlen, hel, _, _⟩
  · exact ⟨none, [], 0, h, RowOf.nil, fun v hv => by cases hv⟩
  have hj : ∀ j, j < len → ∃ y : α, G y ∧ ∃ l : List Int, l.length = sz ∧ en y = l.map (Value.int k) ∧ ∀ i, i < sz → W.cell? ((a.add (j * sz)).add i) = (l.map (Value.int k))[i]? := by
    intro j hj
    have h1 := hel j hj
    rw [List.getElem?_eq_getElem (by omega)] at h1
    obtain ⟨cs', hcs, hy⟩ := Option.bind_eq_some_iff.1 h1
    obtain ⟨hl', hat⟩ := allK_open f e ha _ _ _ hy
    obtain ⟨l, hcl, hw⟩ := ints_of _ hat
    have hll : l.length = sz := by rw [← hc, ← hl', hcl]; simp
    obtain ⟨y, hy1, hy2⟩ := hmk l hll hw
    refine ⟨y, hy2, l, hll, hy1, fun i hi => ?_⟩
    have := (World.cells?_some hcs).2.2 i (by omega)
    rw [hc, hcl] at this
    exact this
  obtain ⟨l, hlen', hp⟩ := list_of _ len hj
  refine ⟨some a, l, cap, by rw [hlen'], ⟨?_, fun j y hy => ?_⟩, fun v hv => ?_⟩
  · rw [hlen']
    have : maxLen ≤ 9223372036854775807 := by decide
    omega
  · obtain ⟨_, li, hli, hen, hcell⟩ := hp j y hy
    have z0 := hcell 0 h0
    have hi0 : (li.map (Value.int k))[0]? = some (.int k (li[0]'(by omega))) := by simp [List.getElem?_eq_getElem (show 0 < li.length by omega)]
    rw [hi0, show (a.add (j * sz)).add 0 = a.add (j * sz) by simp [Addr.add]] at z0
    have hs : a.spot = none := by
      cases hsp : a.spot with
      | none => rfl
      | some q =>
        exfalso
        have hj0 : j < len := by have := (List.getElem?_eq_some_iff.1 hy).1; omega
        obtain ⟨_, _, li0, hli0, _, hc0⟩ := hj 0 (by omega)
        have z1 := hc0 0 h0
        have hi1 : (li0.map (Value.int k))[0]? = some (.int k (li0[0]'(by omega))) := by simp [List.getElem?_eq_getElem (show 0 < li0.length by omega)]
        rw [hi1, show (a.add (0 * sz)).add 0 = a by simp [Addr.add]] at z1
        unfold World.cell? at z1
        split at z1
        · simp [hsp] at z1
        · cases z1
    obtain ⟨b, off, sp⟩ := a
    simp only at hs
    subst hs
    refine ⟨b, off, rfl, ?_, fun i v hv => ?_⟩
    · have := World.block_lt_of_cell? W _ z0
      rw [WideShapes.add_plain] at this
      exact this
    · have hi : i < sz := by
        have := (List.getElem?_eq_some_iff.1 hv).1
        rw [hen] at this
        simpa [hli] using this
      have := hcell i hi
      rw [WideShapes.add_plain, WideShapes.add_plain, ← hen, hv] at this
      exact this
  · obtain ⟨j, hjv⟩ := List.getElem?_of_mem hv
    exact (hp j v hjv).1

/-- A struct of three slices: each by itself. -/
theorem struct3 {t t0 t1 t2 : TypeId} {fs : Array Field} {fuel : Nat} {cs : List Value} {x : DataW H × List MemPlace} (hu : P.underlying t = some (.struct fs)) (ct : P.cellsOf t = 3) (c0 : P.cellsOf t0 = 1) (c1 : P.cellsOf t1 = 1) (c2 : P.cellsOf t2 = 1)
    (m0 : ∃ g ∈ fs.toList, g.type = t0 ∧ g.offset = 0) (m1 : ∃ g ∈ fs.toList, g.type = t1 ∧ g.offset = 1) (m2 : ∃ g ∈ fs.toList, g.type = t2 ∧ g.offset = 2)
    (hx : DataW.trod enc P W 0 (fun _ => true) true fuel t cs = some x) :
    ∃ s0 s1 s2 n x0 x1 x2, cs = [s0, s1, s2] ∧ DataW.trod enc P W 0 (fun _ => true) true n t0 [s0] = some x0 ∧ DataW.trod enc P W 0 (fun _ => true) true n t1 [s1] = some x1 ∧ DataW.trod enc P W 0 (fun _ => true) true n t2 [s2] = some x2 := by
  cases fuel with
  | zero => simp [DataW.trod] at hx
  | succ n =>
    unfold DataW.trod at hx
    rw [hu] at hx
    simp only at hx
    split at hx
    case isFalse => cases hx
    rename_i hl
    obtain ⟨xs, hxs, _⟩ := Option.map_eq_some_iff.1 hx
    rw [ct] at hl
    obtain ⟨s0, s1, s2, rfl⟩ : ∃ s0 s1 s2, cs = [s0, s1, s2] := by
      match cs, hl with
      | [s0, s1, s2], _ => exact ⟨s0, s1, s2, rfl⟩
    obtain ⟨g0, hg0, e0, o0⟩ := m0
    obtain ⟨g1, hg1, e1, o1⟩ := m1
    obtain ⟨g2, hg2, e2, o2⟩ := m2
    obtain ⟨y0, hy0⟩ := mapM_at _ _ hxs g0 hg0
    obtain ⟨y1, hy1⟩ := mapM_at _ _ hxs g1 hg1
    obtain ⟨y2, hy2⟩ := mapM_at _ _ hxs g2 hg2
    rw [e0, o0, c0] at hy0
    rw [e1, o1, c1] at hy1
    rw [e2, o2, c2] at hy2
    exact ⟨s0, s1, s2, n, y0, y1, y2, rfl, hy0, hy1, hy2⟩

end

theorem mk6 (l : List Int) (hl : l.length = 6) (hw : ∀ n ∈ l, (Lit.int .u8 n).wf = true) : ∃ y : V6, encV6 y = l.map (Value.int .u8) ∧ B6 y := by
  match l, hl with
  | [a, b, c, d, e, f], _ => exact ⟨⟨a, b, c, d, e, f⟩, rfl, bounds_u8 (hw a (by simp)), bounds_u8 (hw b (by simp)), bounds_u8 (hw c (by simp)), bounds_u8 (hw d (by simp)), bounds_u8 (hw e (by simp)), bounds_u8 (hw f (by simp))⟩

theorem mk3 (l : List Int) (hl : l.length = 3) (hw : ∀ n ∈ l, (Lit.int .u8 n).wf = true) : ∃ y : V3, encV3 y = l.map (Value.int .u8) ∧ B3 y := by
  match l, hl with
  | [a, b, c], _ => exact ⟨⟨a, b, c⟩, rfl, bounds_u8 (hw a (by simp)), bounds_u8 (hw b (by simp)), bounds_u8 (hw c (by simp))⟩

theorem mk1 (l : List Int) (hl : l.length = 1) (hw : ∀ n ∈ l, (Lit.int .u8 n).wf = true) : ∃ y : Int, encU y = l.map (Value.int .u8) ∧ (0 ≤ y ∧ y ≤ 255) := by
  match l, hl with
  | [a], _ => exact ⟨a, rfl, bounds_u8 (hw a (by simp))⟩

end Go.Proofs.Ytcdilmagcdbogaa

namespace Go.Proofs.Ytcdilmagcdbogaa
set_option linter.unusedVariables false
set_option linter.unusedSimpArgs false
open Go.RowKit Go.ChangeShapes

/-- The pieces of a struct. -/
theorem struct_piece {H : Type} {enc : TypeId × Value → H} {P : Program} {W : World} {t : TypeId} {fs : Array Field} {fuel : Nat} {cs : List Value} {x : DataW H × List MemPlace} (hu : P.underlying t = some (.struct fs))
    (hx : DataW.trod enc P W 0 (fun _ => true) true fuel t cs = some x) :
    cs.length = P.cellsOf t ∧ ∃ n, ∀ g ∈ fs.toList, ∃ y, DataW.trod enc P W 0 (fun _ => true) true n g.type ((cs.drop g.offset).take (P.cellsOf g.type)) = some y := by
  cases fuel with
  | zero => simp [DataW.trod] at hx
  | succ n =>
    unfold DataW.trod at hx
    rw [hu] at hx
    simp only at hx
    split at hx
    case isFalse => cases hx
    rename_i hl
    obtain ⟨xs, hxs, _⟩ := Option.map_eq_some_iff.1 hx
    exact ⟨hl, n, fun g hg => mapM_at _ _ hxs g hg⟩

theorem mk2 (l : List Int) (hl : l.length = 2) (hw : ∀ n ∈ l, (Lit.int .u8 n).wf = true) : ∃ y : V2, encV2 y = l.map (Value.int .u8) ∧ B2 y := by
  match l, hl with
  | [a, b], _ => exact ⟨⟨a, b⟩, rfl, bounds_u8 (hw a (by simp)), bounds_u8 (hw b (by simp))⟩

set_option maxRecDepth 100000 in
theorem lot_open {H : Type} {enc : TypeId × Value → H} {W : World} {fuel : Nat} {cs : List Value} {x : DataW H × List MemPlace} (hx : DataW.trod enc Try.prog W 0 (fun _ => true) true fuel 83 cs = some x) :
    ∃ (r0 r1 r2 r3 of : Int) (T : List V2) (ta : Option Addr) (tc : Nat), cs = [.int .u8 r0, .int .u8 r1, .int .u8 r2, .int .u8 r3, .int .u8 of, .slice ta T.length tc] ∧ (0 ≤ r0 ∧ r0 ≤ 255) ∧ (0 ≤ r1 ∧ r1 ≤ 255) ∧ (0 ≤ r2 ∧ r2 ≤ 255) ∧ (0 ≤ r3 ∧ r3 ≤ 255) ∧ (0 ≤ of ∧ of ≤ 255) ∧ Row2 W ta T ∧ ∀ v ∈ T, B2 v := by
  obtain ⟨hl, n, hp⟩ := struct_piece Try.underlying83 hx
  rw [show Try.prog.cellsOf 83 = 6 from by kernel_rfl] at hl
  obtain ⟨c0, c1, c2, c3, c4, c5, rfl⟩ : ∃ c0 c1 c2 c3 c4 c5, cs = [c0, c1, c2, c3, c4, c5] := by
    match cs, hl with
    | [c0, c1, c2, c3, c4, c5], _ => exact ⟨c0, c1, c2, c3, c4, c5, rfl⟩
  obtain ⟨y0, h0⟩ := hp _ List.mem_cons_self
  obtain ⟨y1, h1⟩ := hp _ (List.mem_cons_of_mem _ List.mem_cons_self)
  obtain ⟨y2, h2⟩ := hp _ (List.mem_cons_of_mem _ (List.mem_cons_of_mem _ List.mem_cons_self))
  have h0' : DataW.trod enc Try.prog W 0 (fun _ => true) true n 80 [c0, c1, c2, c3] = some y0 := by
    have e : Try.prog.cellsOf 80 = 4 := by kernel_rfl
    simpa only [List.drop_zero, e, List.take_succ_cons, List.take_zero] using h0
  have h1' : DataW.trod enc Try.prog W 0 (fun _ => true) true n 5 [c4] = some y1 := by
    have e : Try.prog.cellsOf 5 = 1 := by kernel_rfl
    simpa only [List.drop_succ_cons, List.drop_zero, e, List.take_succ_cons, List.take_zero] using h1
  have h2' : DataW.trod enc Try.prog W 0 (fun _ => true) true n 81 [c5] = some y2 := by
    have e : Try.prog.cellsOf 81 = 1 := by kernel_rfl
    simpa only [List.drop_succ_cons, List.drop_zero, e, List.take_succ_cons, List.take_zero] using h2
  obtain ⟨_, hat⟩ := allK_open (k := .u8) 5 80 (by kernel_rfl) _ _ _ h0'
  obtain ⟨l, hcs, hw⟩ := ints_of _ hat
  obtain ⟨of, e4, hof⟩ := int_open Try.underlying5 h1'
  obtain ⟨ta, T, tc, e5, rT, hT⟩ := row_flat (f := 5) (en := encV2) (G := B2) Try.underlying81 (k := .u8) (by kernel_rfl) (by kernel_rfl) (by decide) mk2 h2'
  obtain ⟨r0, r1, r2, r3, rfl⟩ : ∃ r0 r1 r2 r3, l = [r0, r1, r2, r3] := by
    have hl4 : l.length = 4 := by
      have := congrArg List.length hcs
      simpa using this.symm
    match l, hl4 with
    | [r0, r1, r2, r3], _ => exact ⟨r0, r1, r2, r3, rfl⟩
  simp only [List.map_cons, List.map_nil, List.cons.injEq, and_true] at hcs e4 e5
  obtain ⟨rfl, rfl, rfl, rfl⟩ := hcs
  subst e4
  subst e5
  exact ⟨r0, r1, r2, r3, of, T, ta, tc, rfl, bounds_u8 (hw r0 (by simp)), bounds_u8 (hw r1 (by simp)), bounds_u8 (hw r2 (by simp)), bounds_u8 (hw r3 (by simp)), bounds_u8 hof, rT, hT⟩

end Go.Proofs.Ytcdilmagcdbogaa

namespace Go.Proofs.Ytcdilmagcdbogaa
set_option linter.unusedVariables false
set_option linter.unusedSimpArgs false
open Go.RowKit Go.ChangeShapes

theorem mk4 (l : List Int) (hl : l.length = 4) (hw : ∀ n ∈ l, (Lit.int .u8 n).wf = true) : ∃ y : V4, encV4 y = l.map (Value.int .u8) ∧ B4 y := by
  match l, hl with
  | [a, b, c, d], _ => exact ⟨⟨a, b, c, d⟩, rfl, bounds_u8 (hw a (by simp)), bounds_u8 (hw b (by simp)), bounds_u8 (hw c (by simp)), bounds_u8 (hw d (by simp))⟩

set_option maxRecDepth 100000 in
theorem pile_open {H : Type} {enc : TypeId × Value → H} {W : World} {fuel : Nat} {cs : List Value} {x : DataW H × List MemPlace} (hx : DataW.trod enc Try.prog W 0 (fun _ => true) true fuel 105 cs = some x) :
    ∃ (X : List V4) (xa : Option Addr) (xc : Nat) (S : List V2) (sa : Option Addr) (sc : Nat), cs = [.slice xa X.length xc, .slice sa S.length sc] ∧ Row4 W xa X ∧ (∀ v ∈ X, B4 v) ∧ Row2 W sa S ∧ ∀ v ∈ S, B2 v := by
  obtain ⟨hl, n, hp⟩ := struct_piece Try.underlying105 hx
  rw [show Try.prog.cellsOf 105 = 2 from by kernel_rfl] at hl
  obtain ⟨c0, c1, rfl⟩ : ∃ c0 c1, cs = [c0, c1] := by
    match cs, hl with
    | [c0, c1], _ => exact ⟨c0, c1, rfl⟩
  obtain ⟨y0, h0⟩ := hp _ List.mem_cons_self
  obtain ⟨y1, h1⟩ := hp _ (List.mem_cons_of_mem _ List.mem_cons_self)
  have h0' : DataW.trod enc Try.prog W 0 (fun _ => true) true n 103 [c0] = some y0 := by
    have e : Try.prog.cellsOf 103 = 1 := by kernel_rfl
    simpa only [List.drop_zero, e, List.take_succ_cons, List.take_zero] using h0
  have h1' : DataW.trod enc Try.prog W 0 (fun _ => true) true n 81 [c1] = some y1 := by
    have e : Try.prog.cellsOf 81 = 1 := by kernel_rfl
    simpa only [List.drop_succ_cons, List.drop_zero, e, List.take_succ_cons, List.take_zero] using h1
  obtain ⟨xa, X, xc, e4, rX, hX⟩ := row_flat (f := 5) (en := encV4) (G := B4) Try.underlying103 (k := .u8) (by kernel_rfl) (by kernel_rfl) (by decide) mk4 h0'
  obtain ⟨sa, S, sc, e5, rS, hS⟩ := row_flat (f := 5) (en := encV2) (G := B2) Try.underlying81 (k := .u8) (by kernel_rfl) (by kernel_rfl) (by decide) mk2 h1'
  simp only [List.cons.injEq, and_true] at e4 e5
  subst e4
  subst e5
  exact ⟨X, xa, xc, S, sa, sc, rfl, rX, hX, rS, hS⟩

end Go.Proofs.Ytcdilmagcdbogaa
