/- CrushOut's own body. (Made by gen_h3.py.) -/
import Derived.Test.YtkfhmfidgdpeiaaH2
import Derived.Test.YtkfhmfidgdpeiaaQd
import Derived.Test.YtkfhmfidgdpeiaaI33
import Derived.Test.YtkfhmfidgdpeiaaR5
import Derived.Test.YtkfhmfidgdpeiaaR4
import Derived.Lib.MinMax
import Derived.Deep.CutRange
import Derived.Deep.MidRow
import Derived.Deep.AppendLies
import Derived.BigQuiet
namespace Go.Proofs.Ytkfhmfidgdpeiaa
set_option linter.unusedVariables false
set_option linter.unusedSimpArgs false
open Go.RowKit

def memB (R : List Nat) (y : Int) : Bool := R.any (fun i => decide (y = (i : Int)))

theorem memB_succ {R : List Nat} {k x : Nat} (h : R[k]? = some x) (y : Int) : memB (R.take (k + 1)) y = if y = (x : Int) then true else memB (R.take k) y := by
  unfold memB
  rw [List.take_add_one, h, Option.toList_some, List.any_append]
  by_cases hy : y = (x : Int) <;> simp [hy]

theorem memB_iff {R : List Nat} (i : Nat) : memB R (i : Int) = true ↔ i ∈ R := by
  unfold memB
  rw [List.any_eq_true]
  constructor
  · rintro ⟨j, hj, h⟩
    have : i = j := by
      have h' : (i : Int) = (j : Int) := by simpa using h
      omega
    subst this
    exact hj
  · intro h
    exact ⟨i, h, by simp⟩

theorem IRow.cell {w : World} {b off : Nat} {l : List Int} (h : IRow w (some ⟨b, off, none⟩) l) {j : Nat} {x : Int} (hx : l[j]? = some x) : w.cell? ⟨b, off + j, none⟩ = some (.int .i64 x) := by
  obtain ⟨b', off', e, _, hc⟩ := IRow.get h hx
  injection e with e
  injection e with e1 e2 _
  subst e1
  subst e2
  exact hc

theorem MapB.grownRow {w w' : World} {b n : Nat} {f : Int → Bool} {row : Option Nat} (h : MapB w b n f) (hg : w.grownBy w' row) (hne : ∀ r, row = some r → b ≠ r) : MapB w' b n f := by
  have hlt := h.lt
  obtain ⟨D, hD, ⟨es, clock, hb, F, hs, hd⟩, ha⟩ := h
  exact ⟨D, hD, ⟨es, clock, (hg.block b hlt (fun e => hne b e.symm rfl)).trans hb, F, hs, hd⟩, ha⟩

/-- Those of the first k numbers of which c holds. -/
def gK (c : Nat → Bool) (k : Nat) (y : Int) : Bool := decide (0 ≤ y) && decide (y < (k : Int)) && c y.toNat

theorem gK_succ (c : Nat → Bool) (k : Nat) (y : Int) : gK c (k + 1) y = if y = (k : Int) then c k else gK c k y := by
  unfold gK
  by_cases hy : y = (k : Int)
  · subst hy
    rw [if_pos rfl]
    simp
    omega
  · rw [if_neg hy]
    have : decide (y < ((k + 1 : Nat) : Int)) = decide (y < (k : Int)) := by
      rw [decide_eq_decide]
      omega
    rw [this]

def bitO (s : Int) (k : Nat) : Bool := bits BinOp.and IntKind.u16 (s / 2 ^ k) 1 == 1

theorem gK_false {c : Nat → Bool} {k : Nat} (h : c k = false) (y : Int) : gK c k y = gK c (k + 1) y := by
  rw [gK_succ]
  split
  · rename_i e
    rw [h, e]
    unfold gK
    simp
  · rfl

def cntC (c : Nat → Bool) (k : Nat) : Nat := ((List.range k).filter c).length

theorem cntC_succ (c : Nat → Bool) (k : Nat) : cntC c (k + 1) = cntC c k + if c k = true then 1 else 0 := by
  unfold cntC
  rw [List.range_succ, List.filter_append, List.length_append]
  by_cases h : c k = true <;> simp [h]

theorem cntC_le (c : Nat → Bool) (k : Nat) : cntC c k ≤ k := by
  have := List.length_filter_le c (List.range k)
  simpa [cntC] using this

theorem cnt_gK (c : Nat → Bool) (n : Nat) : cntB (gK c n) n = cntC c n := by
  unfold cntB cntC
  congr 1
  refine List.filter_congr (fun i hi => ?_)
  rw [List.mem_range] at hi
  unfold gK
  simp
  omega

theorem reads_of {Y : List Int} (hY : Bytes Y) (n : Nat) : Reads (Y.take n) := by
  intro i hi
  obtain ⟨x, hx⟩ : ∃ x, (Y.take n)[i]? = some x := ⟨(Y.take n)[i], List.getElem?_eq_getElem hi⟩
  have hg : (Y.take n).getD i 0 = x := by rw [List.getD_eq_getElem?_getD, hx]; rfl
  rw [hg]
  exact hY x (List.mem_of_mem_take (List.mem_of_getElem? hx))

theorem odd_at {off spread : Int} {l : List Int} {k : Nat} (hl : Bytes l) (hk : l.length = k) (hk2 : k ≤ 14) (o0 : 0 ≤ off) (o1 : off ≤ 100) (s0 : 0 ≤ spread) (s1 : spread ≤ 1000) (R : List Nat) (hR : oddTo off spread l l.length = R) (a : Option Addr) (cap : Nat) (w : World) (hr : IRow w a l) :
    Calls Try.prog 27 #[.slice a k cap, .int .i64 off, .int .i64 spread] w fun e w' => ∃ b d, e = .returned (.tuple #[.slice b R.length d, .int .i64 0]) ∧ IRow w' b (intsN R) ∧ Gr w w' := by
  have h := oddF_ok off spread l (by omega) (by simp [inB, in1]; omega) (by simp [inB, in1]; omega) (by
    simp only [inB, List.all_eq_true]
    intro r hr
    have := hl r hr
    simp [in1]
    omega) a cap w hr
  rw [hR, intsN_len, hk] at h
  exact h

set_option maxRecDepth 100000 in
set_option maxHeartbeats 16000000 in
theorem crushOut_any (Y : List Int) (v0 v1 v2 so : Int) (hY : Bytes Y) (h0 : 0 ≤ v0 ∧ v0 ≤ 255) (h1 : 0 ≤ v1 ∧ v1 ≤ 255) (h2 : 0 ≤ v2 ∧ v2 ≤ 255) (h3 : 0 ≤ so ∧ so ≤ 65535) (ya : Option Addr) (yc : Nat) (w : World) (ry : URow w ya Y) :
    Calls Try.prog 11 #[.slice ya Y.length yc, .agg #[.int .u8 v0, .int .u8 v1, .int .u8 v2], .int .u16 so] w fun e w' => e = .returned (.bool true) ∧ Gr w w' := by
  obtain ⟨off, hoff⟩ : ∃ off, v0 % 20 = off := ⟨_, rfl⟩
  obtain ⟨spread, hsp⟩ : ∃ spread, v1 % 60 = spread := ⟨_, rfl⟩
  have o0 : 0 ≤ off := by omega
  have o1 : off ≤ 19 := by omega
  have s0 : 0 ≤ spread := by omega
  have s1 : spread ≤ 59 := by omega
  have hx := Box.new w [.int .u8 v0, .int .u8 v1, .int .u8 v2] 94 w.heap.size rfl
  have gg := Gr.al w (.cells #[.int .u8 v0, .int .u8 v1, .int .u8 v2] 94)
  have HY := Lib.hid hY
  clear hY
  go_enter Try.func11, Try.ntmps11
  go_upto_region 1 with fail
  refine wp_abs (fun U => Gr w U ∧ Box U w.heap.size [.int .u8 v0, .int .u8 v1, .int .u8 v2]) ⟨gg, hx⟩ ?_
  clear gg hx
  rintro U ⟨gg, hx⟩
  have z0 : v0.tmod 20 = off := by rw [Int.tmod_eq_emod_of_nonneg h0.1]; exact hoff
  have z1 : v1.tmod 60 = spread := by rw [Int.tmod_eq_emod_of_nonneg h1.1]; exact hsp
  have z2 : IntKind.i64.wrap v0 = v0 := IntWalk.i64_in _ (by omega)
  have z3 : IntKind.i64.wrap v1 = v1 := IntWalk.i64_in _ (by omega)
  have z4 : IntKind.i64.wrap off = off := IntWalk.i64_in _ (by omega)
  have z5 : IntKind.i64.wrap spread = spread := IntWalk.i64_in _ (by omega)
  have gX := Gr.dr U
  obtain ⟨q0, q1, q2⟩ := Box.c3p (hx.keep gX)
  obtain ⟨p0, p1, p2⟩ := Box.c3p ((hx.keep (Gr.al U (.cells #[] 3))).keep (Gr.dr _))
  go_region_held3 (fun w' => w'.cell? ⟨w.heap.size, 0, none⟩ = some (.int .u8 v0) ∧ w'.cell? ⟨w.heap.size, 1, none⟩ = some (.int .u8 v1)) (first | exact ⟨q0, q1⟩ | exact ⟨p0, p1⟩ | go_keep) (fail)

  all_goals
    clear q0 q1 q2 p0 p1 p2 z0 z1 z2 z3 z4 z5 gX hoff hsp h0 h1
    go_upto_region 2 with fail
    have gU := (Gr.al U (.cells #[] 3)).tr (Gr.dr _)
    have oU := owns_keep (owns_empty U 3 1) (Gr.dr _)
    obtain ⟨B0, hB0⟩ : ∃ B0, B0 = U.heap.size := ⟨_, rfl⟩
    rw [← hB0] at oU ⊢
    have hB1 : U.heap.size ≤ B0 ∧ B0 ≤ U.heap.size := by omega
    clear hB0
    obtain ⟨i0, hi, hz0, hz1, hz2⟩ := info_parts infoInt
    refine wp_abs (fun V => Gr U V ∧ V.ownsRow B0 3 1 (.slice (some ⟨B0, 0, none⟩) 0 0) 0 []) ⟨gU, oU⟩ ?_
    clear gU oU
    rintro V ⟨gU, oU⟩
    go_wp2
    go_loopw [10, 7] (fun i s wr => Hid (∃ k g cap : Nat, k ≤ 14 ∧ k ≤ Y.length ∧ i = .int .i64 k ∧ s = .slice (some ⟨g, 0, none⟩) k cap ∧ Gr U wr ∧ wr.ownsRow B0 3 1 (.slice (some ⟨g, 0, none⟩) k cap) k ((Y.take k).flatMap encI))) (fun i _ _ => 14 - (intOf i).toNat)
    case atStart => exact Lib.hid ⟨0, B0, 0, by omega, by omega, rfl, rfl, gU, oU⟩
    case round =>
      clear gU oU
      obtain ⟨k, g, cap, hk, hkY, rfl, rfl, gW, oW⟩ := hrel.out
      clear hrel
      by_cases c1 : k < Y.length
      · by_cases c2 : k < 14
        · obtain ⟨x, hx'⟩ : ∃ x, Y[k]? = some x := ⟨Y[k], by simp [c1]⟩
          obtain ⟨x0, x1⟩ := HY.out x (List.mem_of_getElem? hx')
          obtain ⟨yb, yo, rfl, hyb, cy⟩ := URow.get (ry.grow (gg.tr gW)) hx'
          have ht := Lib.hid (show Y.take (k + 1) = Y.take k ++ [x] by rw [List.take_add_one, hx', Option.toList_some])
          have zx : IntKind.i64.wrap x = x := IntWalk.i64_in _ (by omega)
          have k1 : k + 1 ≤ maxLen := by unfold maxLen; omega
          have k2 : (k + 1) * 8 ≤ 140737488355328 := by omega
          have kb : B0 ≤ (wr.alloc (.cells #[.int .i64 x] 3)).heap.size := by have := (gW.tr (Gr.al wr (.cells #[.int .i64 x] 3))).size; omega
          clear hx'
          go_wp2_with (at_builtin; refine wpList_append_lies _ rfl _ _ 24 rfl B0 3 i0 (.int .i64 0) 1 8 Try.underlying24 hi hz0 hz1 hz2 rfl (by decide) (.slice (some ⟨g, 0, none⟩) k cap) k _ rfl (owns_keep oW (Gr.al wr (.cells #[.int .i64 x] 3))) ⟨wr.heap.size, 0, none⟩ 1 1 ([(x : Int)].map (fun n => Value.int .i64 n)) rfl rfl (cell_news _ _ _) (ints_one _) (by omega) k1 k2 kb _ rfl ?_; intro g2 cap2 Z hA2 hgr hat hlt2)
          go_roundw
          case rel =>
            have gZ := (gW.tr (Gr.al wr (.cells #[.int .i64 x] 3))).grown' (owns_keep oW (Gr.al wr _)) (by omega) hgr
            exact Lib.hid ⟨k + 1, g2, cap2, by omega, by omega, by go_num, rfl, gZ, by rw [ht.out, flat_snoc]; exact hA2⟩
          case measure => simp [intOf]; omega
        · have c2' : decide ((k : Int) < 14) = false := by simp; omega
          have hL : (Y.take k).length = k := by rw [List.length_take]; omega
          obtain ⟨L, hLY⟩ : ∃ L, L = Y.take k := ⟨_, rfl⟩
          rw [← hLY] at oW hL
          have hLB : Bytes L := fun x hx => HY.out x (by rw [hLY] at hx; exact List.mem_of_mem_take hx)
          have hRd : Reads L := by rw [hLY]; exact reads_of HY.out k
          clear hLY
          obtain ⟨ra, rc, hva, rL, _, hck⟩ := owns_row_cap (enc := encI) (l := L) (fun _ => rfl) (by omega) (by rw [hL]; exact oW)
          rw [hL] at hva hck
          injection hva with e1 e2 e3
          subst e1
          subst e3
          have gX := gg.tr gW
          have hx4 := hx.keep gW
          clear oW gW
          obtain ⟨R, hR⟩ : ∃ R, oddTo off spread L L.length = R := ⟨_, rfl⟩
          obtain ⟨hRs, hRm⟩ := odd_sorted off spread L
          have hRl := odd_len off spread L
          rw [hR] at hRs hRm hRl
          rw [hL] at hRm hRl
          have HR := Lib.hid hR
          have HLB := Lib.hid hLB
          have HRD := Lib.hid hRd
          have HRS := Lib.hid hRs
          have HRM := Lib.hid hRm
          clear hR hLB hRd hRs hRm
          have hlc := lints_any L (by omega) g 0 cap wr rL
          rw [hL] at hlc
          have HLC := Lib.hid hlc
          clear hlc
          go_upto_region 7 with (first
            | (go_at_call 17; refine HLC.out.mono ?_; rintro e w2 ⟨a2, c2, rfl, r2, n2, _, g2⟩)
            | (go_at_call 27; refine (odd_at HLB.out hL (by omega) o0 (by omega) s0 (by omega) R HR.out a2 c2 w2 r2).mono ?_; rintro e w3 ⟨ob, od, rfl, r3, g3⟩))
          have gY := gX.tr (g2.tr g3)
          have rL3 := rL.grow (g2.tr g3)
          have hx3 := hx4.keep (g2.tr g3)
          clear gX rL hx4 r2 n2 g2 g3 HLC
          have d1 : decide ((k : Int) < (R.length : Int)) = false := by simp; omega
          go_upto_region 9 with fail
          clear d1
          refine wp_abs (fun X => Gr w X ∧ IRow X (some ⟨g, 0, none⟩) L ∧ Box X w.heap.size [.int .u8 v0, .int .u8 v1, .int .u8 v2] ∧ IRow X ob (intsN R)) ⟨gY, rL3, hx3, r3⟩ ?_
          clear gY rL3 hx3 r3
          rintro X ⟨gX, rL, hx3, r3⟩
          have hmm := @run_makeMap Try.prog
          go_upto_region 10 with fail
          clear hmm
          obtain ⟨M1, hM1⟩ : ∃ M, M = X.heap.size := ⟨_, rfl⟩
          have gM := Gr.al X (.map #[] 0)
          have mM := MapB.made X
          rw [← hM1] at mM ⊢
          have hM2 : X.heap.size ≤ M1 := by omega
          clear hM1
          refine wp_abs (fun P => Gr X P ∧ MapB P M1 0 (fun _ => false)) ⟨gM, mM⟩ ?_
          clear gM mM
          rintro P1 ⟨gM, mM⟩
          go_wp2
          go_loopw [15] (fun i wr => Hid (∃ j : Nat, j ≤ R.length ∧ i = .int .i64 j ∧ Gr X wr ∧ MapB wr M1 j (memB (R.take j)))) (fun i _ => R.length - (intOf i).toNat)
          case atStart => exact Lib.hid ⟨0, Nat.zero_le _, rfl, gM, mM.congr (Nat.le_refl _) (fun y => by simp [memB])⟩
          case round =>
            clear gM mM
            obtain ⟨j, hj, rfl, gW, mW⟩ := hrel.out
            clear hrel
            by_cases hlt : j < R.length
            · obtain ⟨x, hx'⟩ : ∃ x, R[j]? = some x := ⟨R[j], by simp [hlt]⟩
              have hxn := HRM.out x (List.mem_of_getElem? hx')
              have hxi : (intsN R)[j]? = some (x : Int) := by simp [intsN, hx']
              obtain ⟨b2, of2, rfl, hb2⟩ := (r3.grow gW).addr (by rw [intsN_len]; omega)
              have cx := IRow.cell (r3.grow gW) hxi
              have d1 : ¬ ((x : Int) < 0) := by omega
              have d2 : ¬ k ≤ x := by omega
              have d2' : ¬ ((k : Int) ≤ (x : Int)) := by omega
              have hmem := Lib.hid (memB_succ hx')
              have HX := Lib.hid hx'
              have HXI := Lib.hid hxi
              clear hx' hxi
              by_cases hj0 : j = 0
              · subst hj0
                rw [Nat.add_zero] at cx
                go_upto_region 13 with fail
                go_big_quiet (fail)
                go_upto_region 15 with fail
                refine wp_abs (fun Z => Gr wr Z) (Gr.drewN (Below.refl _ _) _) ?_
                intro Z gZ
                have cz := IRow.cell (r3.grow (gW.tr gZ)) HXI.out
                rw [Nat.add_zero] at cz
                obtain ⟨w5, hput, m5, hg5⟩ := (mW.keep gZ).put (by omega) (x : Int) true (wf64 (by omega) (by omega))
                go_wp2
                go_roundw
                case rel => exact Lib.hid ⟨0 + 1, by omega, by go_num, (gW.tr gZ).grown hg5 ((gW.tr gZ).size) (fun b e => by cases e; omega), m5.congr (Nat.le_refl _) (fun y => (hmem.out y).symm)⟩
                case measure => simp [intOf]; omega
              · obtain ⟨i, hij⟩ : ∃ i, i + 1 = j := ⟨j - 1, by omega⟩
                obtain ⟨y, hy'⟩ : ∃ y, R[i]? = some y := ⟨R[i]'(by omega), List.getElem?_eq_getElem (by omega)⟩
                have hyx : y < x := by
                  obtain ⟨h1a, rfl⟩ := List.getElem?_eq_some_iff.1 hy'
                  obtain ⟨h2a, rfl⟩ := List.getElem?_eq_some_iff.1 HX.out
                  exact List.pairwise_iff_getElem.1 HRS.out i j h1a h2a (by omega)
                have hyi : (intsN R)[i]? = some (y : Int) := by simp [intsN, hy']
                have cy := IRow.cell (r3.grow gW) hyi
                have d3 : 0 < j := by omega
                have d3' : 0 < (j : Int) := by omega
                have d4 : ¬ x ≤ y := by omega
                have d4' : ¬ ((x : Int) ≤ (y : Int)) := by omega
                have w1 : IntKind.i64.wrap ((j : Int) - 1) = (i : Int) := by rw [IntWalk.i64_in _ (by omega)]; omega
                have hil : i < R.length := by omega
                clear hy' hyi hij hj0
                go_upto_region 13 with fail
                go_big_quiet (fail)
                go_upto_region 15 with fail
                refine wp_abs (fun Z => Gr wr Z) (Gr.drewN (Below.refl _ _) _) ?_
                intro Z gZ
                have cz := IRow.cell (r3.grow (gW.tr gZ)) HXI.out
                obtain ⟨w5, hput, m5, hg5⟩ := (mW.keep gZ).put (by omega) (x : Int) true (wf64 (by omega) (by omega))
                go_wp2
                go_roundw
                case rel => exact Lib.hid ⟨j + 1, by omega, by go_num, (gW.tr gZ).grown hg5 ((gW.tr gZ).size) (fun b e => by cases e; omega), m5.congr (Nat.le_refl _) (fun y => (hmem.out y).symm)⟩
                case measure => simp [intOf]; omega
            · obtain rfl : R.length = j := by omega
              clear hlt hj
              rw [List.take_length] at mW
              have hmm := @run_makeMap Try.prog
              go_upto_region 17 with fail
              clear hmm
              obtain ⟨M2, hM3⟩ : ∃ M, M = wr.heap.size := ⟨_, rfl⟩
              have gM := Gr.al wr (.map #[] 0)
              have mN := MapB.made wr
              rw [← hM3] at mN ⊢
              have hM4 : wr.heap.size ≤ M2 ∧ M1 < M2 ∧ X.heap.size ≤ M2 := by have := mW.lt; have := gW.size; omega
              clear hM3
              refine wp_abs (fun P => Gr X P ∧ MapB P M1 R.length (memB R) ∧ MapB P M2 0 (fun _ => false)) ⟨gW.tr gM, mW.keep gM, mN⟩ ?_
              clear gM mN mW gW
              rintro P2 ⟨gM, mW, mN⟩
              go_wp2
              go_loopw [17, 14] (fun i s wr => Hid (∃ j : Nat, j ≤ k ∧ i = .int .i64 j ∧ Gr X wr ∧ MapB wr M1 R.length (memB R) ∧ MapB wr M2 j (gK (bitO so) j) ∧ s = .int .i64 (cntC (bitO so) j))) (fun i _ _ => k - (intOf i).toNat)
              case atStart => exact Lib.hid ⟨0, Nat.zero_le _, rfl, gM, mW, mN.congr (Nat.le_refl _) (fun y => by unfold gK; simp; omega), rfl⟩
              case round =>
                clear gM mW mN
                obtain ⟨j, hj, rfl, gW, mW, mN, rfl⟩ := hrel.out
                clear hrel
                by_cases hlt : j < k
                · cases hb : bitO so j with
                  | true =>
                    have hb' : (bits BinOp.and IntKind.u16 (so / 2 ^ j) 1 == 1) = true := hb
                    have hcn : cntC (bitO so) (j + 1) = cntC (bitO so) j + 1 := by rw [cntC_succ, if_pos hb]
                    have hcl := cntC_le (bitO so) j
                    obtain ⟨m, hm⟩ : ∃ m, cntC (bitO so) j = m := ⟨_, rfl⟩
                    rw [hm] at hcn hcl
                    have HC := Lib.hid hcn
                    have HG := Lib.hid (fun y => (show (if y = (j : Int) then true else gK (bitO so) j y) = gK (bitO so) (j + 1) y by rw [gK_succ, hb]))
                    obtain ⟨w5, hput, m5, hg5⟩ := mN.put (by omega) (j : Int) true (wf64 (by omega) (by omega))
                    rw [hm]
                    clear hcn hm hb
                    go_wp2
                    go_roundw
                    case rel => exact Lib.hid ⟨j + 1, by omega, by go_num, gW.grown hg5 gW.size (fun b e => by cases e; omega), mW.grownRow hg5 (fun r e => by cases e; omega), m5.congr (Nat.le_refl _) HG.out, by rw [HC.out]; go_num⟩
                    case measure => simp [intOf]; omega
                  | false =>
                    have hb' : (bits BinOp.and IntKind.u16 (so / 2 ^ j) 1 == 1) = false := hb
                    have HC := Lib.hid (show cntC (bitO so) (j + 1) = cntC (bitO so) j by rw [cntC_succ, if_neg (by rw [hb]; decide)]; rfl)
                    have HG := Lib.hid (fun y => gK_false hb y)
                    clear hb
                    go_wp2
                    go_roundw
                    case rel => exact Lib.hid ⟨j + 1, by omega, by go_num, gW, mW, mN.congr (Nat.le_succ _) HG.out, by rw [HC.out]⟩
                    case measure => simp [intOf]; omega
                · obtain rfl : k = j := by omega
                  clear hlt hj
                  have hn1 : ∀ W, Gr wr W → Calls Try.prog 51 #[.slice (some ⟨g, 0, none⟩) k cap, .map (some M1), .int .i64 off, .int .i64 spread] W fun e w' => e = .returned (.bool true) ∧ Gr W w' := fun W h => by
                    have := near_any off spread L HRD.out (by omega) o0 (by omega) s0 (by omega) (memB R) true (odd_near HRD.out o0 (by omega) s0 _ (fun i _ => by rw [HR.out]; exact memB_iff i)) (some ⟨g, 0, none⟩) cap M1 R.length W (rL.grow (gW.tr h)) (mW.keep h)
                    rw [hL] at this
                    exact this
                  have HN1 := Lib.hid hn1
                  clear hn1
                  obtain ⟨m, hm⟩ : ∃ m, cntC (bitO so) k = m := ⟨_, rfl⟩
                  have hn2 : m < R.length → ∀ W, Gr wr W → Calls Try.prog 51 #[.slice (some ⟨g, 0, none⟩) k cap, .map (some M2), .int .i64 off, .int .i64 spread] W fun e w' => e = .returned (.bool false) ∧ Gr W w' := fun hlt W h => by
                    have hf : nearB off spread L (gK (bitO so) k) = false := by
                      cases hq : nearB off spread L (gK (bitO so) k) with
                      | false => rfl
                      | true =>
                        have h5 := odd_few HRD.out o0 (by omega) s0 _ hq
                        rw [HR.out, hL, cnt_gK, hm] at h5
                        omega
                    have := near_any off spread L HRD.out (by omega) o0 (by omega) s0 (by omega) (gK (bitO so) k) false hf (some ⟨g, 0, none⟩) cap M2 k W (rL.grow (gW.tr h)) (mN.keep h)
                    rw [hL] at this
                    exact this
                  have HN2 := Lib.hid hn2
                  rw [hm]
                  clear hn2 hm
                  have rLw := rL.grow gW
                  have hxw := hx3.keep gW
                  have gXw := gX.tr gW
                  by_cases hmr : m < R.length
                  · have d1 : decide ((m : Int) < (R.length : Int)) = true := by simp; omega
                    have HN3 := Lib.hid (HN2.out hmr)
                    have tok0 : True := trivial
                    go_upto_region 25 with (first
                      | (have _t := tok0; clear tok0 _t; go_at_call 51; refine (HN1.out _ (Below.refl _ _)).mono ?_; rintro e w5 ⟨rfl, g5⟩)
                      | (go_at_call 51; refine (HN3.out _ g5).mono ?_; rintro e w6 ⟨rfl, g6⟩))
                    clear d1
                    have gN := g5.tr g6
                    have rLz := rLw.grow gN
                    have hxz := hxw.keep gN
                    have gZ := gXw.tr gN
                    obtain ⟨p, hp⟩ : ∃ p, v2 % 9 = p := ⟨_, rfl⟩
                    obtain ⟨p7, hp7⟩ : ∃ p, v2 % 7 = p := ⟨_, rfl⟩
                    have p0 : 0 ≤ p ∧ p ≤ 8 := by omega
                    have p1 : 0 ≤ p7 ∧ p7 ≤ 6 := by omega
                    have w1 : IntKind.i64.wrap v2 = v2 := IntWalk.i64_in _ (by omega)
                    have w2 : v2.tmod 9 = p := by rw [Int.tmod_eq_emod_of_nonneg h2.1]; exact hp
                    have w3 : v2.tmod 7 = p7 := by rw [Int.tmod_eq_emod_of_nonneg h2.1]; exact hp7
                    have w4 : IntKind.i64.wrap (spread + p) = spread + p := IntWalk.i64_in _ (by omega)
                    have w5q : IntKind.i64.wrap (off + p7) = off + p7 := IntWalk.i64_in _ (by omega)
                    have w6q : IntKind.i64.wrap p = p := IntWalk.i64_in _ (by omega)
                    have w7q : IntKind.i64.wrap p7 = p7 := IntWalk.i64_in _ (by omega)
                    obtain ⟨R2, hR2⟩ : ∃ R2, oddTo off (spread + p) L L.length = R2 := ⟨_, rfl⟩
                    obtain ⟨R3, hR3⟩ : ∃ R3, oddTo (off + p7) spread L L.length = R3 := ⟨_, rfl⟩
                    have hm2 : R2.length ≤ R.length := by rw [← hR2, ← HR.out]; exact odd_more HRD.out o0 (Int.le_refl _) (by omega) (by omega)
                    have hm3 : R3.length ≤ R.length := by rw [← hR3, ← HR.out]; exact odd_more HRD.out o0 (by omega) (by omega) (Int.le_refl _)
                    have HR2 := Lib.hid hR2
                    have HR3 := Lib.hid hR3
                    have hli : ∀ v, IRow v (some ⟨g, 0, none⟩) L → Calls Try.prog 17 #[.slice (some ⟨g, 0, none⟩) k cap] v fun e w' => ∃ a' cap', e = .returned (.slice a' k cap') ∧ IRow w' a' L ∧ (a' = none → cap' = 0) ∧ k ≤ cap' ∧ Gr v w' := fun v h => by
                      have := lints_any L (by omega) g 0 cap v h
                      rw [hL] at this
                      exact this
                    have HLI := Lib.hid hli
                    clear hR2 hR3 hp hp7 hli
                    refine (show (∀ s : Nat → Value, Code.wp Try.prog _ _ ⟨#[s 0, s 1, s 2, s 3, .pointer (some ⟨w.heap.size, 0, none⟩), s 5, s 6, .slice (some ⟨g, 0, none⟩) k cap, .int .i64 off, .int .i64 spread, s 10, .slice ob R.length od, s 12, s 13, s 14, s 15, s 16, s 17, undef, undef, undef, undef, s 22, s 23, s 24, s 25, s 26, s 27, s 28, s 29, s 30, s 31, s 32, s 33, s 34, s 35, s 36, s 37, s 38, s 39, s 40, s 41, s 42, s 43, s 44, s 45, s 46, s 47, s 48, s 49, s 50, s 51, s 52, s 53, s 54, s 55, s 56, s 57, s 58, s 59, s 60, s 61, s 62, s 63, s 64, s 65, s 66, s 67, s 68, s 69, s 70, s 71, s 72, s 73, s 74, s 75, s 76, s 77, s 78, s 79, s 80, s 81, s 82, s 83, s 84, s 85, s 86, s 87, s 88, s 89, s 90, s 91, s 92, s 93, s 94, s 95, s 96, s 97, s 98, s 99, s 100, s 101, s 102, s 103, s 104, s 105, s 106, s 107, s 108, s 109, s 110, s 111, s 112, s 113, s 114, s 115, s 116, s 117, s 118, s 119, s 120, s 121, s 122, s 123, s 124, s 125, s 126, s 127, s 128, s 129, s 130, s 131, s 132, s 133, s 134, s 135, s 136, s 137, s 138, s 139, s 140, s 141, s 142, s 143, undef, undef, undef, undef, undef, undef, undef, undef, undef, undef, undef, undef, undef, undef, undef, undef, undef, undef, undef, undef, undef, undef, undef, undef, undef, undef, undef, undef, undef, undef, undef, undef, undef, undef, undef, undef, undef, undef, undef, undef, undef, undef, undef, undef, undef, undef, undef, undef], []⟩ _) → _ from fun h => h ((fun l : List Value => fun i => l.getD i undef) [_, _, _, _, undef, _, _, undef, undef, undef, _, undef, _, _, _, _, _, _, undef, undef, undef, undef, _, _, _, _, _, _, _, _, _, _, _, _, _, _, _, _, _, _, _, _, _, _, _, _, _, _, _, _, _, _, _, _, _, _, _, _, _, _, _, _, _, _, _, _, _, _, _, _, _, _, _, _, _, _, _, _, _, _, _, _, _, _, _, _, _, _, _, _, _, _, _, _, _, _, _, _, _, _, _, _, _, _, _, _, _, _, _, _, _, _, _, _, _, _, _, _, _, _, _, _, _, _, _, _, _, _, _, _, _, _, _, _, _, _, _, _, _, _, _, _, _, _])) ?_
                    intro s
                    dsimp only
                    refine wp_region_facts 14 [(1, 0), (5, 4), (6, 5), (7, 6), (8, 3), (8, 7), (9, 1), (9, 2), (9, 8), (10, 9), (11, 10), (12, 10), (13, 11)] (fun x => ⟨#[s 0, s 1, s 2, s 3, .pointer (some ⟨w.heap.size, 0, none⟩), s 5, s 6, .slice (some ⟨g, 0, none⟩) k cap, .int .i64 off, .int .i64 spread, s 10, .slice ob R.length od, s 12, s 13, s 14, s 15, s 16, s 17, x 13, undef, undef, undef, s 22, s 23, s 24, s 25, s 26, s 27, s 28, s 29, s 30, s 31, s 32, s 33, s 34, s 35, s 36, s 37, s 38, s 39, s 40, s 41, s 42, s 43, s 44, s 45, s 46, s 47, s 48, s 49, s 50, s 51, s 52, s 53, s 54, s 55, s 56, s 57, s 58, s 59, s 60, s 61, s 62, s 63, s 64, s 65, s 66, s 67, s 68, s 69, s 70, s 71, s 72, s 73, s 74, s 75, s 76, s 77, s 78, s 79, s 80, s 81, s 82, s 83, s 84, s 85, s 86, s 87, s 88, s 89, s 90, s 91, s 92, s 93, s 94, s 95, s 96, s 97, s 98, s 99, s 100, s 101, s 102, s 103, s 104, s 105, s 106, s 107, s 108, s 109, s 110, s 111, s 112, s 113, s 114, s 115, s 116, s 117, s 118, s 119, s 120, s 121, s 122, s 123, s 124, s 125, s 126, s 127, s 128, s 129, s 130, s 131, s 132, s 133, s 134, s 135, s 136, s 137, s 138, s 139, s 140, s 141, s 142, s 143, x 10, x 0, x 1, x 2, x 3, x 4, x 5, x 6, x 7, x 8, x 9, x 11, x 12, undef, undef, undef, undef, undef, undef, undef, undef, undef, undef, undef, undef, undef, undef, undef, undef, undef, undef, undef, undef, undef, undef, undef, undef, undef, undef, undef, undef, undef, undef, undef, undef, undef, undef, undef], []⟩) (fun _ => undef) [fun _ x => x = .slice (some ⟨g, 0, none⟩) k cap, fun v x => ∃ a c, x = .slice a k c ∧ IRow v a L, fun _ x => x = .int .i64 off, fun _ x => x = .int .i64 spread, fun _ x => x = .pointer (some ⟨w.heap.size, 2, none⟩), fun _ x => x = .int .u8 v2, fun _ x => x = .int .i64 v2, fun _ x => x = .int .i64 p, fun _ x => x = .int .i64 (spread + p), fun v x => ∃ b d, x = .tuple #[.slice b R2.length d, .int .i64 0], fun v x => ∃ b d, x = .tuple #[.slice b R2.length d, .int .i64 0], fun v x => ∃ b d, x = .slice b R2.length d, fun _ x => x = .int .i64 0, fun v x => ∃ b d, x = .slice b R2.length d] (by rfl) (by kernel_rfl) (by kernel_rfl) (by kernel_rfl) (stays_cons (Stays.eq _) (stays_cons ((show Stays (fun v x => ∃ a c, x = .slice a k c ∧ IRow v a L) from fun v v' x g ⟨a, c, h, r⟩ => ⟨a, c, h, r.grow g⟩)) (stays_cons (Stays.eq _) (stays_cons (Stays.eq _) (stays_cons (Stays.eq _) (stays_cons (Stays.eq _) (stays_cons (Stays.eq _) (stays_cons (Stays.eq _) (stays_cons (Stays.eq _) (stays_cons ((show Stays (fun v x => ∃ b d, x = .tuple #[.slice b R2.length d, .int .i64 0]) from fun v v' x g h => h)) (stays_cons ((show Stays (fun v x => ∃ b d, x = .tuple #[.slice b R2.length d, .int .i64 0]) from fun v v' x g h => h)) (stays_cons ((show Stays (fun v x => ∃ b d, x = .slice b R2.length d) from fun v v' x g h => h)) (stays_cons (Stays.eq _) (stays_cons ((show Stays (fun v x => ∃ b d, x = .slice b R2.length d) from fun v v' x g h => h)) stays_nil)))))))))))))) ?step25A ?fin25A
                    case step25A =>
                      rintro i hi x v gv hd K hK
                      have hi8 : i = 0 ∨ i = 1 ∨ i = 2 ∨ i = 3 ∨ i = 4 ∨ i = 5 ∨ i = 6 ∨ i = 7 ∨ i = 8 ∨ i = 9 ∨ i = 10 ∨ i = 11 ∨ i = 12 ∨ i = 13 := by omega
                      rcases hi8 with rfl | rfl | rfl | rfl | rfl | rfl | rfl | rfl | rfl | rfl | rfl | rfl | rfl | rfl
                      · show wpOp Try.prog _ _ 0 K (⟨#[s 0, s 1, s 2, s 3, .pointer (some ⟨w.heap.size, 0, none⟩), s 5, s 6, .slice (some ⟨g, 0, none⟩) k cap, .int .i64 off, .int .i64 spread, s 10, .slice ob R.length od, s 12, s 13, s 14, s 15, s 16, s 17, x 13, undef, undef, undef, s 22, s 23, s 24, s 25, s 26, s 27, s 28, s 29, s 30, s 31, s 32, s 33, s 34, s 35, s 36, s 37, s 38, s 39, s 40, s 41, s 42, s 43, s 44, s 45, s 46, s 47, s 48, s 49, s 50, s 51, s 52, s 53, s 54, s 55, s 56, s 57, s 58, s 59, s 60, s 61, s 62, s 63, s 64, s 65, s 66, s 67, s 68, s 69, s 70, s 71, s 72, s 73, s 74, s 75, s 76, s 77, s 78, s 79, s 80, s 81, s 82, s 83, s 84, s 85, s 86, s 87, s 88, s 89, s 90, s 91, s 92, s 93, s 94, s 95, s 96, s 97, s 98, s 99, s 100, s 101, s 102, s 103, s 104, s 105, s 106, s 107, s 108, s 109, s 110, s 111, s 112, s 113, s 114, s 115, s 116, s 117, s 118, s 119, s 120, s 121, s 122, s 123, s 124, s 125, s 126, s 127, s 128, s 129, s 130, s 131, s 132, s 133, s 134, s 135, s 136, s 137, s 138, s 139, s 140, s 141, s 142, s 143, x 10, x 0, x 1, x 2, x 3, x 4, x 5, x 6, x 7, x 8, x 9, x 11, x 12, undef, undef, undef, undef, undef, undef, undef, undef, undef, undef, undef, undef, undef, undef, undef, undef, undef, undef, undef, undef, undef, undef, undef, undef, undef, undef, undef, undef, undef, undef, undef, undef, undef, undef, undef], []⟩ : Act) v
                        refine wpOp_step rfl (fun K' hK' => ?_)
                        go_simp
                        exact hK' _ _ (hK _ _ (Below.refl _ _) (at_of rfl (rfl)))
                      · obtain ⟨x, rfl⟩ := upd_of (show x 0 = .slice (some ⟨g, 0, none⟩) k cap from hd 0 _ (by simp) rfl)
                        show wpOp Try.prog _ _ 1 K (⟨#[s 0, s 1, s 2, s 3, .pointer (some ⟨w.heap.size, 0, none⟩), s 5, s 6, .slice (some ⟨g, 0, none⟩) k cap, .int .i64 off, .int .i64 spread, s 10, .slice ob R.length od, s 12, s 13, s 14, s 15, s 16, s 17, x 13, undef, undef, undef, s 22, s 23, s 24, s 25, s 26, s 27, s 28, s 29, s 30, s 31, s 32, s 33, s 34, s 35, s 36, s 37, s 38, s 39, s 40, s 41, s 42, s 43, s 44, s 45, s 46, s 47, s 48, s 49, s 50, s 51, s 52, s 53, s 54, s 55, s 56, s 57, s 58, s 59, s 60, s 61, s 62, s 63, s 64, s 65, s 66, s 67, s 68, s 69, s 70, s 71, s 72, s 73, s 74, s 75, s 76, s 77, s 78, s 79, s 80, s 81, s 82, s 83, s 84, s 85, s 86, s 87, s 88, s 89, s 90, s 91, s 92, s 93, s 94, s 95, s 96, s 97, s 98, s 99, s 100, s 101, s 102, s 103, s 104, s 105, s 106, s 107, s 108, s 109, s 110, s 111, s 112, s 113, s 114, s 115, s 116, s 117, s 118, s 119, s 120, s 121, s 122, s 123, s 124, s 125, s 126, s 127, s 128, s 129, s 130, s 131, s 132, s 133, s 134, s 135, s 136, s 137, s 138, s 139, s 140, s 141, s 142, s 143, x 10, .slice (some ⟨g, 0, none⟩) k cap, x 1, x 2, x 3, x 4, x 5, x 6, x 7, x 8, x 9, x 11, x 12, undef, undef, undef, undef, undef, undef, undef, undef, undef, undef, undef, undef, undef, undef, undef, undef, undef, undef, undef, undef, undef, undef, undef, undef, undef, undef, undef, undef, undef, undef, undef, undef, undef, undef, undef], []⟩ : Act) v
                        refine wpOp_step rfl (fun K' hK' => ?_)
                        go_simp
                        refine (HLI.out v (rLz.grow gv)).mono ?_
                        rintro e v' ⟨a, c, rfl, hr2, _, _, hg⟩
                        exact hK' _ _ (hK _ _ hg (at_of rfl (⟨_, _, rfl, hr2⟩)))
                      · show wpOp Try.prog _ _ 2 K (⟨#[s 0, s 1, s 2, s 3, .pointer (some ⟨w.heap.size, 0, none⟩), s 5, s 6, .slice (some ⟨g, 0, none⟩) k cap, .int .i64 off, .int .i64 spread, s 10, .slice ob R.length od, s 12, s 13, s 14, s 15, s 16, s 17, x 13, undef, undef, undef, s 22, s 23, s 24, s 25, s 26, s 27, s 28, s 29, s 30, s 31, s 32, s 33, s 34, s 35, s 36, s 37, s 38, s 39, s 40, s 41, s 42, s 43, s 44, s 45, s 46, s 47, s 48, s 49, s 50, s 51, s 52, s 53, s 54, s 55, s 56, s 57, s 58, s 59, s 60, s 61, s 62, s 63, s 64, s 65, s 66, s 67, s 68, s 69, s 70, s 71, s 72, s 73, s 74, s 75, s 76, s 77, s 78, s 79, s 80, s 81, s 82, s 83, s 84, s 85, s 86, s 87, s 88, s 89, s 90, s 91, s 92, s 93, s 94, s 95, s 96, s 97, s 98, s 99, s 100, s 101, s 102, s 103, s 104, s 105, s 106, s 107, s 108, s 109, s 110, s 111, s 112, s 113, s 114, s 115, s 116, s 117, s 118, s 119, s 120, s 121, s 122, s 123, s 124, s 125, s 126, s 127, s 128, s 129, s 130, s 131, s 132, s 133, s 134, s 135, s 136, s 137, s 138, s 139, s 140, s 141, s 142, s 143, x 10, x 0, x 1, x 2, x 3, x 4, x 5, x 6, x 7, x 8, x 9, x 11, x 12, undef, undef, undef, undef, undef, undef, undef, undef, undef, undef, undef, undef, undef, undef, undef, undef, undef, undef, undef, undef, undef, undef, undef, undef, undef, undef, undef, undef, undef, undef, undef, undef, undef, undef, undef], []⟩ : Act) v
                        refine wpOp_step rfl (fun K' hK' => ?_)
                        go_simp
                        exact hK' _ _ (hK _ _ (Below.refl _ _) (at_of rfl (rfl)))
                      · show wpOp Try.prog _ _ 3 K (⟨#[s 0, s 1, s 2, s 3, .pointer (some ⟨w.heap.size, 0, none⟩), s 5, s 6, .slice (some ⟨g, 0, none⟩) k cap, .int .i64 off, .int .i64 spread, s 10, .slice ob R.length od, s 12, s 13, s 14, s 15, s 16, s 17, x 13, undef, undef, undef, s 22, s 23, s 24, s 25, s 26, s 27, s 28, s 29, s 30, s 31, s 32, s 33, s 34, s 35, s 36, s 37, s 38, s 39, s 40, s 41, s 42, s 43, s 44, s 45, s 46, s 47, s 48, s 49, s 50, s 51, s 52, s 53, s 54, s 55, s 56, s 57, s 58, s 59, s 60, s 61, s 62, s 63, s 64, s 65, s 66, s 67, s 68, s 69, s 70, s 71, s 72, s 73, s 74, s 75, s 76, s 77, s 78, s 79, s 80, s 81, s 82, s 83, s 84, s 85, s 86, s 87, s 88, s 89, s 90, s 91, s 92, s 93, s 94, s 95, s 96, s 97, s 98, s 99, s 100, s 101, s 102, s 103, s 104, s 105, s 106, s 107, s 108, s 109, s 110, s 111, s 112, s 113, s 114, s 115, s 116, s 117, s 118, s 119, s 120, s 121, s 122, s 123, s 124, s 125, s 126, s 127, s 128, s 129, s 130, s 131, s 132, s 133, s 134, s 135, s 136, s 137, s 138, s 139, s 140, s 141, s 142, s 143, x 10, x 0, x 1, x 2, x 3, x 4, x 5, x 6, x 7, x 8, x 9, x 11, x 12, undef, undef, undef, undef, undef, undef, undef, undef, undef, undef, undef, undef, undef, undef, undef, undef, undef, undef, undef, undef, undef, undef, undef, undef, undef, undef, undef, undef, undef, undef, undef, undef, undef, undef, undef], []⟩ : Act) v
                        refine wpOp_step rfl (fun K' hK' => ?_)
                        go_simp
                        exact hK' _ _ (hK _ _ (Below.refl _ _) (at_of rfl (rfl)))
                      · show wpOp Try.prog _ _ 4 K (⟨#[s 0, s 1, s 2, s 3, .pointer (some ⟨w.heap.size, 0, none⟩), s 5, s 6, .slice (some ⟨g, 0, none⟩) k cap, .int .i64 off, .int .i64 spread, s 10, .slice ob R.length od, s 12, s 13, s 14, s 15, s 16, s 17, x 13, undef, undef, undef, s 22, s 23, s 24, s 25, s 26, s 27, s 28, s 29, s 30, s 31, s 32, s 33, s 34, s 35, s 36, s 37, s 38, s 39, s 40, s 41, s 42, s 43, s 44, s 45, s 46, s 47, s 48, s 49, s 50, s 51, s 52, s 53, s 54, s 55, s 56, s 57, s 58, s 59, s 60, s 61, s 62, s 63, s 64, s 65, s 66, s 67, s 68, s 69, s 70, s 71, s 72, s 73, s 74, s 75, s 76, s 77, s 78, s 79, s 80, s 81, s 82, s 83, s 84, s 85, s 86, s 87, s 88, s 89, s 90, s 91, s 92, s 93, s 94, s 95, s 96, s 97, s 98, s 99, s 100, s 101, s 102, s 103, s 104, s 105, s 106, s 107, s 108, s 109, s 110, s 111, s 112, s 113, s 114, s 115, s 116, s 117, s 118, s 119, s 120, s 121, s 122, s 123, s 124, s 125, s 126, s 127, s 128, s 129, s 130, s 131, s 132, s 133, s 134, s 135, s 136, s 137, s 138, s 139, s 140, s 141, s 142, s 143, x 10, x 0, x 1, x 2, x 3, x 4, x 5, x 6, x 7, x 8, x 9, x 11, x 12, undef, undef, undef, undef, undef, undef, undef, undef, undef, undef, undef, undef, undef, undef, undef, undef, undef, undef, undef, undef, undef, undef, undef, undef, undef, undef, undef, undef, undef, undef, undef, undef, undef, undef, undef], []⟩ : Act) v
                        refine wpOp_step rfl (fun K' hK' => ?_)
                        go_simp
                        exact hK' _ _ (hK _ _ (Below.refl _ _) (at_of rfl (rfl)))
                      · obtain ⟨x, rfl⟩ := upd_of (show x 4 = .pointer (some ⟨w.heap.size, 2, none⟩) from hd 4 _ (by simp) rfl)
                        show wpOp Try.prog _ _ 5 K (⟨#[s 0, s 1, s 2, s 3, .pointer (some ⟨w.heap.size, 0, none⟩), s 5, s 6, .slice (some ⟨g, 0, none⟩) k cap, .int .i64 off, .int .i64 spread, s 10, .slice ob R.length od, s 12, s 13, s 14, s 15, s 16, s 17, x 13, undef, undef, undef, s 22, s 23, s 24, s 25, s 26, s 27, s 28, s 29, s 30, s 31, s 32, s 33, s 34, s 35, s 36, s 37, s 38, s 39, s 40, s 41, s 42, s 43, s 44, s 45, s 46, s 47, s 48, s 49, s 50, s 51, s 52, s 53, s 54, s 55, s 56, s 57, s 58, s 59, s 60, s 61, s 62, s 63, s 64, s 65, s 66, s 67, s 68, s 69, s 70, s 71, s 72, s 73, s 74, s 75, s 76, s 77, s 78, s 79, s 80, s 81, s 82, s 83, s 84, s 85, s 86, s 87, s 88, s 89, s 90, s 91, s 92, s 93, s 94, s 95, s 96, s 97, s 98, s 99, s 100, s 101, s 102, s 103, s 104, s 105, s 106, s 107, s 108, s 109, s 110, s 111, s 112, s 113, s 114, s 115, s 116, s 117, s 118, s 119, s 120, s 121, s 122, s 123, s 124, s 125, s 126, s 127, s 128, s 129, s 130, s 131, s 132, s 133, s 134, s 135, s 136, s 137, s 138, s 139, s 140, s 141, s 142, s 143, x 10, x 0, x 1, x 2, x 3, .pointer (some ⟨w.heap.size, 2, none⟩), x 5, x 6, x 7, x 8, x 9, x 11, x 12, undef, undef, undef, undef, undef, undef, undef, undef, undef, undef, undef, undef, undef, undef, undef, undef, undef, undef, undef, undef, undef, undef, undef, undef, undef, undef, undef, undef, undef, undef, undef, undef, undef, undef, undef], []⟩ : Act) v
                        refine wpOp_step rfl (fun K' hK' => ?_)
                        have q := (hxz.keep gv).2 2 _ rfl
                        go_simp
                        exact hK' _ _ (hK _ _ (Below.refl _ _) (at_of rfl (rfl)))
                      · obtain ⟨x, rfl⟩ := upd_of (show x 5 = .int .u8 v2 from hd 5 _ (by simp) rfl)
                        show wpOp Try.prog _ _ 6 K (⟨#[s 0, s 1, s 2, s 3, .pointer (some ⟨w.heap.size, 0, none⟩), s 5, s 6, .slice (some ⟨g, 0, none⟩) k cap, .int .i64 off, .int .i64 spread, s 10, .slice ob R.length od, s 12, s 13, s 14, s 15, s 16, s 17, x 13, undef, undef, undef, s 22, s 23, s 24, s 25, s 26, s 27, s 28, s 29, s 30, s 31, s 32, s 33, s 34, s 35, s 36, s 37, s 38, s 39, s 40, s 41, s 42, s 43, s 44, s 45, s 46, s 47, s 48, s 49, s 50, s 51, s 52, s 53, s 54, s 55, s 56, s 57, s 58, s 59, s 60, s 61, s 62, s 63, s 64, s 65, s 66, s 67, s 68, s 69, s 70, s 71, s 72, s 73, s 74, s 75, s 76, s 77, s 78, s 79, s 80, s 81, s 82, s 83, s 84, s 85, s 86, s 87, s 88, s 89, s 90, s 91, s 92, s 93, s 94, s 95, s 96, s 97, s 98, s 99, s 100, s 101, s 102, s 103, s 104, s 105, s 106, s 107, s 108, s 109, s 110, s 111, s 112, s 113, s 114, s 115, s 116, s 117, s 118, s 119, s 120, s 121, s 122, s 123, s 124, s 125, s 126, s 127, s 128, s 129, s 130, s 131, s 132, s 133, s 134, s 135, s 136, s 137, s 138, s 139, s 140, s 141, s 142, s 143, x 10, x 0, x 1, x 2, x 3, x 4, .int .u8 v2, x 6, x 7, x 8, x 9, x 11, x 12, undef, undef, undef, undef, undef, undef, undef, undef, undef, undef, undef, undef, undef, undef, undef, undef, undef, undef, undef, undef, undef, undef, undef, undef, undef, undef, undef, undef, undef, undef, undef, undef, undef, undef, undef], []⟩ : Act) v
                        refine wpOp_step rfl (fun K' hK' => ?_)
                        go_simp
                        exact hK' _ _ (hK _ _ (Below.refl _ _) (at_of rfl (rfl)))
                      · obtain ⟨x, rfl⟩ := upd_of (show x 6 = .int .i64 v2 from hd 6 _ (by simp) rfl)
                        show wpOp Try.prog _ _ 7 K (⟨#[s 0, s 1, s 2, s 3, .pointer (some ⟨w.heap.size, 0, none⟩), s 5, s 6, .slice (some ⟨g, 0, none⟩) k cap, .int .i64 off, .int .i64 spread, s 10, .slice ob R.length od, s 12, s 13, s 14, s 15, s 16, s 17, x 13, undef, undef, undef, s 22, s 23, s 24, s 25, s 26, s 27, s 28, s 29, s 30, s 31, s 32, s 33, s 34, s 35, s 36, s 37, s 38, s 39, s 40, s 41, s 42, s 43, s 44, s 45, s 46, s 47, s 48, s 49, s 50, s 51, s 52, s 53, s 54, s 55, s 56, s 57, s 58, s 59, s 60, s 61, s 62, s 63, s 64, s 65, s 66, s 67, s 68, s 69, s 70, s 71, s 72, s 73, s 74, s 75, s 76, s 77, s 78, s 79, s 80, s 81, s 82, s 83, s 84, s 85, s 86, s 87, s 88, s 89, s 90, s 91, s 92, s 93, s 94, s 95, s 96, s 97, s 98, s 99, s 100, s 101, s 102, s 103, s 104, s 105, s 106, s 107, s 108, s 109, s 110, s 111, s 112, s 113, s 114, s 115, s 116, s 117, s 118, s 119, s 120, s 121, s 122, s 123, s 124, s 125, s 126, s 127, s 128, s 129, s 130, s 131, s 132, s 133, s 134, s 135, s 136, s 137, s 138, s 139, s 140, s 141, s 142, s 143, x 10, x 0, x 1, x 2, x 3, x 4, x 5, .int .i64 v2, x 7, x 8, x 9, x 11, x 12, undef, undef, undef, undef, undef, undef, undef, undef, undef, undef, undef, undef, undef, undef, undef, undef, undef, undef, undef, undef, undef, undef, undef, undef, undef, undef, undef, undef, undef, undef, undef, undef, undef, undef, undef], []⟩ : Act) v
                        refine wpOp_step rfl (fun K' hK' => ?_)
                        go_simp
                        exact hK' _ _ (hK _ _ (Below.refl _ _) (at_of rfl (rfl)))
                      · obtain ⟨x, rfl⟩ := upd_of (show x 3 = .int .i64 spread from hd 3 _ (by simp) rfl)
                        obtain ⟨x, rfl⟩ := upd_of (show x 7 = .int .i64 p from hd 7 _ (by simp) rfl)
                        show wpOp Try.prog _ _ 8 K (⟨#[s 0, s 1, s 2, s 3, .pointer (some ⟨w.heap.size, 0, none⟩), s 5, s 6, .slice (some ⟨g, 0, none⟩) k cap, .int .i64 off, .int .i64 spread, s 10, .slice ob R.length od, s 12, s 13, s 14, s 15, s 16, s 17, x 13, undef, undef, undef, s 22, s 23, s 24, s 25, s 26, s 27, s 28, s 29, s 30, s 31, s 32, s 33, s 34, s 35, s 36, s 37, s 38, s 39, s 40, s 41, s 42, s 43, s 44, s 45, s 46, s 47, s 48, s 49, s 50, s 51, s 52, s 53, s 54, s 55, s 56, s 57, s 58, s 59, s 60, s 61, s 62, s 63, s 64, s 65, s 66, s 67, s 68, s 69, s 70, s 71, s 72, s 73, s 74, s 75, s 76, s 77, s 78, s 79, s 80, s 81, s 82, s 83, s 84, s 85, s 86, s 87, s 88, s 89, s 90, s 91, s 92, s 93, s 94, s 95, s 96, s 97, s 98, s 99, s 100, s 101, s 102, s 103, s 104, s 105, s 106, s 107, s 108, s 109, s 110, s 111, s 112, s 113, s 114, s 115, s 116, s 117, s 118, s 119, s 120, s 121, s 122, s 123, s 124, s 125, s 126, s 127, s 128, s 129, s 130, s 131, s 132, s 133, s 134, s 135, s 136, s 137, s 138, s 139, s 140, s 141, s 142, s 143, x 10, x 0, x 1, x 2, .int .i64 spread, x 4, x 5, x 6, .int .i64 p, x 8, x 9, x 11, x 12, undef, undef, undef, undef, undef, undef, undef, undef, undef, undef, undef, undef, undef, undef, undef, undef, undef, undef, undef, undef, undef, undef, undef, undef, undef, undef, undef, undef, undef, undef, undef, undef, undef, undef, undef], []⟩ : Act) v
                        refine wpOp_step rfl (fun K' hK' => ?_)
                        go_simp
                        exact hK' _ _ (hK _ _ (Below.refl _ _) (at_of rfl (rfl)))
                      · obtain ⟨a2, c2, e1, rr2⟩ := hd 1 _ (by simp) rfl
                        obtain ⟨x, rfl⟩ := upd_of (show x 1 = .slice a2 k c2 from e1)
                        obtain ⟨x, rfl⟩ := upd_of (show x 2 = .int .i64 off from hd 2 _ (by simp) rfl)
                        obtain ⟨x, rfl⟩ := upd_of (show x 8 = .int .i64 (spread + p) from hd 8 _ (by simp) rfl)
                        show wpOp Try.prog _ _ 9 K (⟨#[s 0, s 1, s 2, s 3, .pointer (some ⟨w.heap.size, 0, none⟩), s 5, s 6, .slice (some ⟨g, 0, none⟩) k cap, .int .i64 off, .int .i64 spread, s 10, .slice ob R.length od, s 12, s 13, s 14, s 15, s 16, s 17, x 13, undef, undef, undef, s 22, s 23, s 24, s 25, s 26, s 27, s 28, s 29, s 30, s 31, s 32, s 33, s 34, s 35, s 36, s 37, s 38, s 39, s 40, s 41, s 42, s 43, s 44, s 45, s 46, s 47, s 48, s 49, s 50, s 51, s 52, s 53, s 54, s 55, s 56, s 57, s 58, s 59, s 60, s 61, s 62, s 63, s 64, s 65, s 66, s 67, s 68, s 69, s 70, s 71, s 72, s 73, s 74, s 75, s 76, s 77, s 78, s 79, s 80, s 81, s 82, s 83, s 84, s 85, s 86, s 87, s 88, s 89, s 90, s 91, s 92, s 93, s 94, s 95, s 96, s 97, s 98, s 99, s 100, s 101, s 102, s 103, s 104, s 105, s 106, s 107, s 108, s 109, s 110, s 111, s 112, s 113, s 114, s 115, s 116, s 117, s 118, s 119, s 120, s 121, s 122, s 123, s 124, s 125, s 126, s 127, s 128, s 129, s 130, s 131, s 132, s 133, s 134, s 135, s 136, s 137, s 138, s 139, s 140, s 141, s 142, s 143, x 10, x 0, .slice a2 k c2, .int .i64 off, x 3, x 4, x 5, x 6, x 7, .int .i64 (spread + p), x 9, x 11, x 12, undef, undef, undef, undef, undef, undef, undef, undef, undef, undef, undef, undef, undef, undef, undef, undef, undef, undef, undef, undef, undef, undef, undef, undef, undef, undef, undef, undef, undef, undef, undef, undef, undef, undef, undef], []⟩ : Act) v
                        refine wpOp_step rfl (fun K' hK' => ?_)
                        go_simp
                        refine (odd_at HLB.out hL (by omega) o0 (by omega) (by omega) (by omega) R2 HR2.out a2 c2 v rr2).mono ?_
                        rintro e v' ⟨b, d, rfl, _, hg⟩
                        exact hK' _ _ (hK _ _ hg (at_of rfl (⟨_, _, rfl⟩)))
                      · obtain ⟨b9, d9, e9⟩ := hd 9 _ (by simp) rfl
                        obtain ⟨x, rfl⟩ := upd_of (show x 9 = .tuple #[.slice b9 R2.length d9, .int .i64 0] from e9)
                        show wpOp Try.prog _ _ 10 K (⟨#[s 0, s 1, s 2, s 3, .pointer (some ⟨w.heap.size, 0, none⟩), s 5, s 6, .slice (some ⟨g, 0, none⟩) k cap, .int .i64 off, .int .i64 spread, s 10, .slice ob R.length od, s 12, s 13, s 14, s 15, s 16, s 17, x 13, undef, undef, undef, s 22, s 23, s 24, s 25, s 26, s 27, s 28, s 29, s 30, s 31, s 32, s 33, s 34, s 35, s 36, s 37, s 38, s 39, s 40, s 41, s 42, s 43, s 44, s 45, s 46, s 47, s 48, s 49, s 50, s 51, s 52, s 53, s 54, s 55, s 56, s 57, s 58, s 59, s 60, s 61, s 62, s 63, s 64, s 65, s 66, s 67, s 68, s 69, s 70, s 71, s 72, s 73, s 74, s 75, s 76, s 77, s 78, s 79, s 80, s 81, s 82, s 83, s 84, s 85, s 86, s 87, s 88, s 89, s 90, s 91, s 92, s 93, s 94, s 95, s 96, s 97, s 98, s 99, s 100, s 101, s 102, s 103, s 104, s 105, s 106, s 107, s 108, s 109, s 110, s 111, s 112, s 113, s 114, s 115, s 116, s 117, s 118, s 119, s 120, s 121, s 122, s 123, s 124, s 125, s 126, s 127, s 128, s 129, s 130, s 131, s 132, s 133, s 134, s 135, s 136, s 137, s 138, s 139, s 140, s 141, s 142, s 143, x 10, x 0, x 1, x 2, x 3, x 4, x 5, x 6, x 7, x 8, .tuple #[.slice b9 R2.length d9, .int .i64 0], x 11, x 12, undef, undef, undef, undef, undef, undef, undef, undef, undef, undef, undef, undef, undef, undef, undef, undef, undef, undef, undef, undef, undef, undef, undef, undef, undef, undef, undef, undef, undef, undef, undef, undef, undef, undef, undef], []⟩ : Act) v
                        refine wpOp_step rfl (fun K' hK' => ?_)
                        go_simp
                        exact hK' _ _ (hK _ _ (Below.refl _ _) (at_of rfl (⟨_, _, rfl⟩)))
                      · obtain ⟨b9, d9, e10⟩ := hd 10 _ (by simp) rfl
                        obtain ⟨x, rfl⟩ := upd_of (show x 10 = .tuple #[.slice b9 R2.length d9, .int .i64 0] from e10)
                        show wpOp Try.prog _ _ 11 K (⟨#[s 0, s 1, s 2, s 3, .pointer (some ⟨w.heap.size, 0, none⟩), s 5, s 6, .slice (some ⟨g, 0, none⟩) k cap, .int .i64 off, .int .i64 spread, s 10, .slice ob R.length od, s 12, s 13, s 14, s 15, s 16, s 17, x 13, undef, undef, undef, s 22, s 23, s 24, s 25, s 26, s 27, s 28, s 29, s 30, s 31, s 32, s 33, s 34, s 35, s 36, s 37, s 38, s 39, s 40, s 41, s 42, s 43, s 44, s 45, s 46, s 47, s 48, s 49, s 50, s 51, s 52, s 53, s 54, s 55, s 56, s 57, s 58, s 59, s 60, s 61, s 62, s 63, s 64, s 65, s 66, s 67, s 68, s 69, s 70, s 71, s 72, s 73, s 74, s 75, s 76, s 77, s 78, s 79, s 80, s 81, s 82, s 83, s 84, s 85, s 86, s 87, s 88, s 89, s 90, s 91, s 92, s 93, s 94, s 95, s 96, s 97, s 98, s 99, s 100, s 101, s 102, s 103, s 104, s 105, s 106, s 107, s 108, s 109, s 110, s 111, s 112, s 113, s 114, s 115, s 116, s 117, s 118, s 119, s 120, s 121, s 122, s 123, s 124, s 125, s 126, s 127, s 128, s 129, s 130, s 131, s 132, s 133, s 134, s 135, s 136, s 137, s 138, s 139, s 140, s 141, s 142, s 143, .tuple #[.slice b9 R2.length d9, .int .i64 0], x 0, x 1, x 2, x 3, x 4, x 5, x 6, x 7, x 8, x 9, x 11, x 12, undef, undef, undef, undef, undef, undef, undef, undef, undef, undef, undef, undef, undef, undef, undef, undef, undef, undef, undef, undef, undef, undef, undef, undef, undef, undef, undef, undef, undef, undef, undef, undef, undef, undef, undef], []⟩ : Act) v
                        refine wpOp_step rfl (fun K' hK' => ?_)
                        go_simp
                        exact hK' _ _ (hK _ _ (Below.refl _ _) (at_of rfl (⟨_, _, rfl⟩)))
                      · obtain ⟨b9, d9, e10⟩ := hd 10 _ (by simp) rfl
                        obtain ⟨x, rfl⟩ := upd_of (show x 10 = .tuple #[.slice b9 R2.length d9, .int .i64 0] from e10)
                        show wpOp Try.prog _ _ 12 K (⟨#[s 0, s 1, s 2, s 3, .pointer (some ⟨w.heap.size, 0, none⟩), s 5, s 6, .slice (some ⟨g, 0, none⟩) k cap, .int .i64 off, .int .i64 spread, s 10, .slice ob R.length od, s 12, s 13, s 14, s 15, s 16, s 17, x 13, undef, undef, undef, s 22, s 23, s 24, s 25, s 26, s 27, s 28, s 29, s 30, s 31, s 32, s 33, s 34, s 35, s 36, s 37, s 38, s 39, s 40, s 41, s 42, s 43, s 44, s 45, s 46, s 47, s 48, s 49, s 50, s 51, s 52, s 53, s 54, s 55, s 56, s 57, s 58, s 59, s 60, s 61, s 62, s 63, s 64, s 65, s 66, s 67, s 68, s 69, s 70, s 71, s 72, s 73, s 74, s 75, s 76, s 77, s 78, s 79, s 80, s 81, s 82, s 83, s 84, s 85, s 86, s 87, s 88, s 89, s 90, s 91, s 92, s 93, s 94, s 95, s 96, s 97, s 98, s 99, s 100, s 101, s 102, s 103, s 104, s 105, s 106, s 107, s 108, s 109, s 110, s 111, s 112, s 113, s 114, s 115, s 116, s 117, s 118, s 119, s 120, s 121, s 122, s 123, s 124, s 125, s 126, s 127, s 128, s 129, s 130, s 131, s 132, s 133, s 134, s 135, s 136, s 137, s 138, s 139, s 140, s 141, s 142, s 143, .tuple #[.slice b9 R2.length d9, .int .i64 0], x 0, x 1, x 2, x 3, x 4, x 5, x 6, x 7, x 8, x 9, x 11, x 12, undef, undef, undef, undef, undef, undef, undef, undef, undef, undef, undef, undef, undef, undef, undef, undef, undef, undef, undef, undef, undef, undef, undef, undef, undef, undef, undef, undef, undef, undef, undef, undef, undef, undef, undef], []⟩ : Act) v
                        refine wpOp_step rfl (fun K' hK' => ?_)
                        go_simp
                        exact hK' _ _ (hK _ _ (Below.refl _ _) (at_of rfl (rfl)))
                      · obtain ⟨b9, d9, e11⟩ := hd 11 _ (by simp) rfl
                        obtain ⟨x, rfl⟩ := upd_of (show x 11 = .slice b9 R2.length d9 from e11)
                        show wpOp Try.prog _ _ 13 K (⟨#[s 0, s 1, s 2, s 3, .pointer (some ⟨w.heap.size, 0, none⟩), s 5, s 6, .slice (some ⟨g, 0, none⟩) k cap, .int .i64 off, .int .i64 spread, s 10, .slice ob R.length od, s 12, s 13, s 14, s 15, s 16, s 17, x 13, undef, undef, undef, s 22, s 23, s 24, s 25, s 26, s 27, s 28, s 29, s 30, s 31, s 32, s 33, s 34, s 35, s 36, s 37, s 38, s 39, s 40, s 41, s 42, s 43, s 44, s 45, s 46, s 47, s 48, s 49, s 50, s 51, s 52, s 53, s 54, s 55, s 56, s 57, s 58, s 59, s 60, s 61, s 62, s 63, s 64, s 65, s 66, s 67, s 68, s 69, s 70, s 71, s 72, s 73, s 74, s 75, s 76, s 77, s 78, s 79, s 80, s 81, s 82, s 83, s 84, s 85, s 86, s 87, s 88, s 89, s 90, s 91, s 92, s 93, s 94, s 95, s 96, s 97, s 98, s 99, s 100, s 101, s 102, s 103, s 104, s 105, s 106, s 107, s 108, s 109, s 110, s 111, s 112, s 113, s 114, s 115, s 116, s 117, s 118, s 119, s 120, s 121, s 122, s 123, s 124, s 125, s 126, s 127, s 128, s 129, s 130, s 131, s 132, s 133, s 134, s 135, s 136, s 137, s 138, s 139, s 140, s 141, s 142, s 143, x 10, x 0, x 1, x 2, x 3, x 4, x 5, x 6, x 7, x 8, x 9, .slice b9 R2.length d9, x 12, undef, undef, undef, undef, undef, undef, undef, undef, undef, undef, undef, undef, undef, undef, undef, undef, undef, undef, undef, undef, undef, undef, undef, undef, undef, undef, undef, undef, undef, undef, undef, undef, undef, undef, undef], []⟩ : Act) v
                        refine wpOp_step rfl (fun K' hK' => ?_)
                        go_simp
                        exact hK' _ _ (hK _ _ (Below.refl _ _) (at_of rfl (⟨_, _, rfl⟩)))
                    case fin25A =>
                      rintro x v gv hd
                      obtain ⟨x, rfl⟩ := upd_of (show x 12 = .int .i64 0 from hd 12 _ (by omega) rfl)
                      obtain ⟨b9, d9, e13⟩ := hd 13 _ (by omega) rfl
                      obtain ⟨x, rfl⟩ := upd_of (show x 13 = .slice b9 R2.length d9 from e13)
                      clear hd
                      show wpList Try.prog _ _ (List.drop 14 _) (⟨#[s 0, s 1, s 2, s 3, .pointer (some ⟨w.heap.size, 0, none⟩), s 5, s 6, .slice (some ⟨g, 0, none⟩) k cap, .int .i64 off, .int .i64 spread, s 10, .slice ob R.length od, s 12, s 13, s 14, s 15, s 16, s 17, .slice b9 R2.length d9, undef, undef, undef, s 22, s 23, s 24, s 25, s 26, s 27, s 28, s 29, s 30, s 31, s 32, s 33, s 34, s 35, s 36, s 37, s 38, s 39, s 40, s 41, s 42, s 43, s 44, s 45, s 46, s 47, s 48, s 49, s 50, s 51, s 52, s 53, s 54, s 55, s 56, s 57, s 58, s 59, s 60, s 61, s 62, s 63, s 64, s 65, s 66, s 67, s 68, s 69, s 70, s 71, s 72, s 73, s 74, s 75, s 76, s 77, s 78, s 79, s 80, s 81, s 82, s 83, s 84, s 85, s 86, s 87, s 88, s 89, s 90, s 91, s 92, s 93, s 94, s 95, s 96, s 97, s 98, s 99, s 100, s 101, s 102, s 103, s 104, s 105, s 106, s 107, s 108, s 109, s 110, s 111, s 112, s 113, s 114, s 115, s 116, s 117, s 118, s 119, s 120, s 121, s 122, s 123, s 124, s 125, s 126, s 127, s 128, s 129, s 130, s 131, s 132, s 133, s 134, s 135, s 136, s 137, s 138, s 139, s 140, s 141, s 142, s 143, x 10, x 0, x 1, x 2, x 3, x 4, x 5, x 6, x 7, x 8, x 9, x 11, .int .i64 0, undef, undef, undef, undef, undef, undef, undef, undef, undef, undef, undef, undef, undef, undef, undef, undef, undef, undef, undef, undef, undef, undef, undef, undef, undef, undef, undef, undef, undef, undef, undef, undef, undef, undef, undef], []⟩ : Act) v
                      simp only [List.drop_succ_cons, List.drop_zero]
                      have rLy := rLz.grow gv
                      have gY := gZ.tr gv
                      obtain ⟨q0, q1, q2⟩ := Box.c3p (hxz.keep gv)
                      clear rLz gZ hxz gv
                      have d2 : decide ((R2.length : Int) ≤ (R.length : Int)) = true := by simp; omega
                      have d3 : decide ((R3.length : Int) ≤ (R.length : Int)) = true := by simp; omega
                      go_wp2_with (first
                        | (go_at_call 27; refine (odd_at HLB.out hL (by omega) (by omega) (by omega) s0 (by omega) R3 HR3.out _ _ _ rLy).mono ?_; rintro e w8 ⟨b8, d8, rfl, _, g8⟩)
                        | (go_at_call 16; refine (known_any _).mono ?_; rintro e w9 ⟨rfl, g9⟩))
                      go_ret
                      exact ⟨rfl, gY.tr (g8.tr g9)⟩
                  · have d1 : decide ((m : Int) < (R.length : Int)) = false := by simp; omega
                    go_upto_region 25 with (go_at_call 51; refine (HN1.out _ (Below.refl _ _)).mono ?_; rintro e w5 ⟨rfl, g5⟩)
                    clear d1
                    have gN := g5
                    have rLz := rLw.grow gN
                    have hxz := hxw.keep gN
                    have gZ := gXw.tr gN
                    obtain ⟨p, hp⟩ : ∃ p, v2 % 9 = p := ⟨_, rfl⟩
                    obtain ⟨p7, hp7⟩ : ∃ p, v2 % 7 = p := ⟨_, rfl⟩
                    have p0 : 0 ≤ p ∧ p ≤ 8 := by omega
                    have p1 : 0 ≤ p7 ∧ p7 ≤ 6 := by omega
                    have w1 : IntKind.i64.wrap v2 = v2 := IntWalk.i64_in _ (by omega)
                    have w2 : v2.tmod 9 = p := by rw [Int.tmod_eq_emod_of_nonneg h2.1]; exact hp
                    have w3 : v2.tmod 7 = p7 := by rw [Int.tmod_eq_emod_of_nonneg h2.1]; exact hp7
                    have w4 : IntKind.i64.wrap (spread + p) = spread + p := IntWalk.i64_in _ (by omega)
                    have w5q : IntKind.i64.wrap (off + p7) = off + p7 := IntWalk.i64_in _ (by omega)
                    have w6q : IntKind.i64.wrap p = p := IntWalk.i64_in _ (by omega)
                    have w7q : IntKind.i64.wrap p7 = p7 := IntWalk.i64_in _ (by omega)
                    obtain ⟨R2, hR2⟩ : ∃ R2, oddTo off (spread + p) L L.length = R2 := ⟨_, rfl⟩
                    obtain ⟨R3, hR3⟩ : ∃ R3, oddTo (off + p7) spread L L.length = R3 := ⟨_, rfl⟩
                    have hm2 : R2.length ≤ R.length := by rw [← hR2, ← HR.out]; exact odd_more HRD.out o0 (Int.le_refl _) (by omega) (by omega)
                    have hm3 : R3.length ≤ R.length := by rw [← hR3, ← HR.out]; exact odd_more HRD.out o0 (by omega) (by omega) (Int.le_refl _)
                    have HR2 := Lib.hid hR2
                    have HR3 := Lib.hid hR3
                    have hli : ∀ v, IRow v (some ⟨g, 0, none⟩) L → Calls Try.prog 17 #[.slice (some ⟨g, 0, none⟩) k cap] v fun e w' => ∃ a' cap', e = .returned (.slice a' k cap') ∧ IRow w' a' L ∧ (a' = none → cap' = 0) ∧ k ≤ cap' ∧ Gr v w' := fun v h => by
                      have := lints_any L (by omega) g 0 cap v h
                      rw [hL] at this
                      exact this
                    have HLI := Lib.hid hli
                    clear hR2 hR3 hp hp7 hli
                    refine (show (∀ s : Nat → Value, Code.wp Try.prog _ _ ⟨#[s 0, s 1, s 2, s 3, .pointer (some ⟨w.heap.size, 0, none⟩), s 5, s 6, .slice (some ⟨g, 0, none⟩) k cap, .int .i64 off, .int .i64 spread, s 10, .slice ob R.length od, s 12, s 13, s 14, s 15, s 16, s 17, undef, undef, undef, undef, s 22, s 23, s 24, s 25, s 26, s 27, s 28, s 29, s 30, s 31, s 32, s 33, s 34, s 35, s 36, s 37, s 38, s 39, s 40, s 41, s 42, s 43, s 44, s 45, s 46, s 47, s 48, s 49, s 50, s 51, s 52, s 53, s 54, s 55, s 56, s 57, s 58, s 59, s 60, s 61, s 62, s 63, s 64, s 65, s 66, s 67, s 68, s 69, s 70, s 71, s 72, s 73, s 74, s 75, s 76, s 77, s 78, s 79, s 80, s 81, s 82, s 83, s 84, s 85, s 86, s 87, s 88, s 89, s 90, s 91, s 92, s 93, s 94, s 95, s 96, s 97, s 98, s 99, s 100, s 101, s 102, s 103, s 104, s 105, s 106, s 107, s 108, s 109, s 110, s 111, s 112, s 113, s 114, s 115, s 116, s 117, s 118, s 119, s 120, s 121, s 122, s 123, s 124, s 125, s 126, s 127, s 128, s 129, s 130, s 131, s 132, s 133, s 134, s 135, s 136, s 137, s 138, s 139, s 140, s 141, s 142, s 143, undef, undef, undef, undef, undef, undef, undef, undef, undef, undef, undef, undef, undef, undef, undef, undef, undef, undef, undef, undef, undef, undef, undef, undef, undef, undef, undef, undef, undef, undef, undef, undef, undef, undef, undef, undef, undef, undef, undef, undef, undef, undef, undef, undef, undef, undef, undef, undef], []⟩ _) → _ from fun h => h ((fun l : List Value => fun i => l.getD i undef) [_, _, _, _, undef, _, _, undef, undef, undef, _, undef, _, _, _, _, _, _, undef, undef, undef, undef, _, _, _, _, _, _, _, _, _, _, _, _, _, _, _, _, _, _, _, _, _, _, _, _, _, _, _, _, _, _, _, _, _, _, _, _, _, _, _, _, _, _, _, _, _, _, _, _, _, _, _, _, _, _, _, _, _, _, _, _, _, _, _, _, _, _, _, _, _, _, _, _, _, _, _, _, _, _, _, _, _, _, _, _, _, _, _, _, _, _, _, _, _, _, _, _, _, _, _, _, _, _, _, _, _, _, _, _, _, _, _, _, _, _, _, _, _, _, _, _, _, _])) ?_
                    intro s
                    dsimp only
                    refine wp_region_facts 14 [(1, 0), (5, 4), (6, 5), (7, 6), (8, 3), (8, 7), (9, 1), (9, 2), (9, 8), (10, 9), (11, 10), (12, 10), (13, 11)] (fun x => ⟨#[s 0, s 1, s 2, s 3, .pointer (some ⟨w.heap.size, 0, none⟩), s 5, s 6, .slice (some ⟨g, 0, none⟩) k cap, .int .i64 off, .int .i64 spread, s 10, .slice ob R.length od, s 12, s 13, s 14, s 15, s 16, s 17, x 13, undef, undef, undef, s 22, s 23, s 24, s 25, s 26, s 27, s 28, s 29, s 30, s 31, s 32, s 33, s 34, s 35, s 36, s 37, s 38, s 39, s 40, s 41, s 42, s 43, s 44, s 45, s 46, s 47, s 48, s 49, s 50, s 51, s 52, s 53, s 54, s 55, s 56, s 57, s 58, s 59, s 60, s 61, s 62, s 63, s 64, s 65, s 66, s 67, s 68, s 69, s 70, s 71, s 72, s 73, s 74, s 75, s 76, s 77, s 78, s 79, s 80, s 81, s 82, s 83, s 84, s 85, s 86, s 87, s 88, s 89, s 90, s 91, s 92, s 93, s 94, s 95, s 96, s 97, s 98, s 99, s 100, s 101, s 102, s 103, s 104, s 105, s 106, s 107, s 108, s 109, s 110, s 111, s 112, s 113, s 114, s 115, s 116, s 117, s 118, s 119, s 120, s 121, s 122, s 123, s 124, s 125, s 126, s 127, s 128, s 129, s 130, s 131, s 132, s 133, s 134, s 135, s 136, s 137, s 138, s 139, s 140, s 141, s 142, s 143, x 10, x 0, x 1, x 2, x 3, x 4, x 5, x 6, x 7, x 8, x 9, x 11, x 12, undef, undef, undef, undef, undef, undef, undef, undef, undef, undef, undef, undef, undef, undef, undef, undef, undef, undef, undef, undef, undef, undef, undef, undef, undef, undef, undef, undef, undef, undef, undef, undef, undef, undef, undef], []⟩) (fun _ => undef) [fun _ x => x = .slice (some ⟨g, 0, none⟩) k cap, fun v x => ∃ a c, x = .slice a k c ∧ IRow v a L, fun _ x => x = .int .i64 off, fun _ x => x = .int .i64 spread, fun _ x => x = .pointer (some ⟨w.heap.size, 2, none⟩), fun _ x => x = .int .u8 v2, fun _ x => x = .int .i64 v2, fun _ x => x = .int .i64 p, fun _ x => x = .int .i64 (spread + p), fun v x => ∃ b d, x = .tuple #[.slice b R2.length d, .int .i64 0], fun v x => ∃ b d, x = .tuple #[.slice b R2.length d, .int .i64 0], fun v x => ∃ b d, x = .slice b R2.length d, fun _ x => x = .int .i64 0, fun v x => ∃ b d, x = .slice b R2.length d] (by rfl) (by kernel_rfl) (by kernel_rfl) (by kernel_rfl) (stays_cons (Stays.eq _) (stays_cons ((show Stays (fun v x => ∃ a c, x = .slice a k c ∧ IRow v a L) from fun v v' x g ⟨a, c, h, r⟩ => ⟨a, c, h, r.grow g⟩)) (stays_cons (Stays.eq _) (stays_cons (Stays.eq _) (stays_cons (Stays.eq _) (stays_cons (Stays.eq _) (stays_cons (Stays.eq _) (stays_cons (Stays.eq _) (stays_cons (Stays.eq _) (stays_cons ((show Stays (fun v x => ∃ b d, x = .tuple #[.slice b R2.length d, .int .i64 0]) from fun v v' x g h => h)) (stays_cons ((show Stays (fun v x => ∃ b d, x = .tuple #[.slice b R2.length d, .int .i64 0]) from fun v v' x g h => h)) (stays_cons ((show Stays (fun v x => ∃ b d, x = .slice b R2.length d) from fun v v' x g h => h)) (stays_cons (Stays.eq _) (stays_cons ((show Stays (fun v x => ∃ b d, x = .slice b R2.length d) from fun v v' x g h => h)) stays_nil)))))))))))))) ?step25B ?fin25B
                    case step25B =>
                      rintro i hi x v gv hd K hK
                      have hi8 : i = 0 ∨ i = 1 ∨ i = 2 ∨ i = 3 ∨ i = 4 ∨ i = 5 ∨ i = 6 ∨ i = 7 ∨ i = 8 ∨ i = 9 ∨ i = 10 ∨ i = 11 ∨ i = 12 ∨ i = 13 := by omega
                      rcases hi8 with rfl | rfl | rfl | rfl | rfl | rfl | rfl | rfl | rfl | rfl | rfl | rfl | rfl | rfl
                      · show wpOp Try.prog _ _ 0 K (⟨#[s 0, s 1, s 2, s 3, .pointer (some ⟨w.heap.size, 0, none⟩), s 5, s 6, .slice (some ⟨g, 0, none⟩) k cap, .int .i64 off, .int .i64 spread, s 10, .slice ob R.length od, s 12, s 13, s 14, s 15, s 16, s 17, x 13, undef, undef, undef, s 22, s 23, s 24, s 25, s 26, s 27, s 28, s 29, s 30, s 31, s 32, s 33, s 34, s 35, s 36, s 37, s 38, s 39, s 40, s 41, s 42, s 43, s 44, s 45, s 46, s 47, s 48, s 49, s 50, s 51, s 52, s 53, s 54, s 55, s 56, s 57, s 58, s 59, s 60, s 61, s 62, s 63, s 64, s 65, s 66, s 67, s 68, s 69, s 70, s 71, s 72, s 73, s 74, s 75, s 76, s 77, s 78, s 79, s 80, s 81, s 82, s 83, s 84, s 85, s 86, s 87, s 88, s 89, s 90, s 91, s 92, s 93, s 94, s 95, s 96, s 97, s 98, s 99, s 100, s 101, s 102, s 103, s 104, s 105, s 106, s 107, s 108, s 109, s 110, s 111, s 112, s 113, s 114, s 115, s 116, s 117, s 118, s 119, s 120, s 121, s 122, s 123, s 124, s 125, s 126, s 127, s 128, s 129, s 130, s 131, s 132, s 133, s 134, s 135, s 136, s 137, s 138, s 139, s 140, s 141, s 142, s 143, x 10, x 0, x 1, x 2, x 3, x 4, x 5, x 6, x 7, x 8, x 9, x 11, x 12, undef, undef, undef, undef, undef, undef, undef, undef, undef, undef, undef, undef, undef, undef, undef, undef, undef, undef, undef, undef, undef, undef, undef, undef, undef, undef, undef, undef, undef, undef, undef, undef, undef, undef, undef], []⟩ : Act) v
                        refine wpOp_step rfl (fun K' hK' => ?_)
                        go_simp
                        exact hK' _ _ (hK _ _ (Below.refl _ _) (at_of rfl (rfl)))
                      · obtain ⟨x, rfl⟩ := upd_of (show x 0 = .slice (some ⟨g, 0, none⟩) k cap from hd 0 _ (by simp) rfl)
                        show wpOp Try.prog _ _ 1 K (⟨#[s 0, s 1, s 2, s 3, .pointer (some ⟨w.heap.size, 0, none⟩), s 5, s 6, .slice (some ⟨g, 0, none⟩) k cap, .int .i64 off, .int .i64 spread, s 10, .slice ob R.length od, s 12, s 13, s 14, s 15, s 16, s 17, x 13, undef, undef, undef, s 22, s 23, s 24, s 25, s 26, s 27, s 28, s 29, s 30, s 31, s 32, s 33, s 34, s 35, s 36, s 37, s 38, s 39, s 40, s 41, s 42, s 43, s 44, s 45, s 46, s 47, s 48, s 49, s 50, s 51, s 52, s 53, s 54, s 55, s 56, s 57, s 58, s 59, s 60, s 61, s 62, s 63, s 64, s 65, s 66, s 67, s 68, s 69, s 70, s 71, s 72, s 73, s 74, s 75, s 76, s 77, s 78, s 79, s 80, s 81, s 82, s 83, s 84, s 85, s 86, s 87, s 88, s 89, s 90, s 91, s 92, s 93, s 94, s 95, s 96, s 97, s 98, s 99, s 100, s 101, s 102, s 103, s 104, s 105, s 106, s 107, s 108, s 109, s 110, s 111, s 112, s 113, s 114, s 115, s 116, s 117, s 118, s 119, s 120, s 121, s 122, s 123, s 124, s 125, s 126, s 127, s 128, s 129, s 130, s 131, s 132, s 133, s 134, s 135, s 136, s 137, s 138, s 139, s 140, s 141, s 142, s 143, x 10, .slice (some ⟨g, 0, none⟩) k cap, x 1, x 2, x 3, x 4, x 5, x 6, x 7, x 8, x 9, x 11, x 12, undef, undef, undef, undef, undef, undef, undef, undef, undef, undef, undef, undef, undef, undef, undef, undef, undef, undef, undef, undef, undef, undef, undef, undef, undef, undef, undef, undef, undef, undef, undef, undef, undef, undef, undef], []⟩ : Act) v
                        refine wpOp_step rfl (fun K' hK' => ?_)
                        go_simp
                        refine (HLI.out v (rLz.grow gv)).mono ?_
                        rintro e v' ⟨a, c, rfl, hr2, _, _, hg⟩
                        exact hK' _ _ (hK _ _ hg (at_of rfl (⟨_, _, rfl, hr2⟩)))
                      · show wpOp Try.prog _ _ 2 K (⟨#[s 0, s 1, s 2, s 3, .pointer (some ⟨w.heap.size, 0, none⟩), s 5, s 6, .slice (some ⟨g, 0, none⟩) k cap, .int .i64 off, .int .i64 spread, s 10, .slice ob R.length od, s 12, s 13, s 14, s 15, s 16, s 17, x 13, undef, undef, undef, s 22, s 23, s 24, s 25, s 26, s 27, s 28, s 29, s 30, s 31, s 32, s 33, s 34, s 35, s 36, s 37, s 38, s 39, s 40, s 41, s 42, s 43, s 44, s 45, s 46, s 47, s 48, s 49, s 50, s 51, s 52, s 53, s 54, s 55, s 56, s 57, s 58, s 59, s 60, s 61, s 62, s 63, s 64, s 65, s 66, s 67, s 68, s 69, s 70, s 71, s 72, s 73, s 74, s 75, s 76, s 77, s 78, s 79, s 80, s 81, s 82, s 83, s 84, s 85, s 86, s 87, s 88, s 89, s 90, s 91, s 92, s 93, s 94, s 95, s 96, s 97, s 98, s 99, s 100, s 101, s 102, s 103, s 104, s 105, s 106, s 107, s 108, s 109, s 110, s 111, s 112, s 113, s 114, s 115, s 116, s 117, s 118, s 119, s 120, s 121, s 122, s 123, s 124, s 125, s 126, s 127, s 128, s 129, s 130, s 131, s 132, s 133, s 134, s 135, s 136, s 137, s 138, s 139, s 140, s 141, s 142, s 143, x 10, x 0, x 1, x 2, x 3, x 4, x 5, x 6, x 7, x 8, x 9, x 11, x 12, undef, undef, undef, undef, undef, undef, undef, undef, undef, undef, undef, undef, undef, undef, undef, undef, undef, undef, undef, undef, undef, undef, undef, undef, undef, undef, undef, undef, undef, undef, undef, undef, undef, undef, undef], []⟩ : Act) v
                        refine wpOp_step rfl (fun K' hK' => ?_)
                        go_simp
                        exact hK' _ _ (hK _ _ (Below.refl _ _) (at_of rfl (rfl)))
                      · show wpOp Try.prog _ _ 3 K (⟨#[s 0, s 1, s 2, s 3, .pointer (some ⟨w.heap.size, 0, none⟩), s 5, s 6, .slice (some ⟨g, 0, none⟩) k cap, .int .i64 off, .int .i64 spread, s 10, .slice ob R.length od, s 12, s 13, s 14, s 15, s 16, s 17, x 13, undef, undef, undef, s 22, s 23, s 24, s 25, s 26, s 27, s 28, s 29, s 30, s 31, s 32, s 33, s 34, s 35, s 36, s 37, s 38, s 39, s 40, s 41, s 42, s 43, s 44, s 45, s 46, s 47, s 48, s 49, s 50, s 51, s 52, s 53, s 54, s 55, s 56, s 57, s 58, s 59, s 60, s 61, s 62, s 63, s 64, s 65, s 66, s 67, s 68, s 69, s 70, s 71, s 72, s 73, s 74, s 75, s 76, s 77, s 78, s 79, s 80, s 81, s 82, s 83, s 84, s 85, s 86, s 87, s 88, s 89, s 90, s 91, s 92, s 93, s 94, s 95, s 96, s 97, s 98, s 99, s 100, s 101, s 102, s 103, s 104, s 105, s 106, s 107, s 108, s 109, s 110, s 111, s 112, s 113, s 114, s 115, s 116, s 117, s 118, s 119, s 120, s 121, s 122, s 123, s 124, s 125, s 126, s 127, s 128, s 129, s 130, s 131, s 132, s 133, s 134, s 135, s 136, s 137, s 138, s 139, s 140, s 141, s 142, s 143, x 10, x 0, x 1, x 2, x 3, x 4, x 5, x 6, x 7, x 8, x 9, x 11, x 12, undef, undef, undef, undef, undef, undef, undef, undef, undef, undef, undef, undef, undef, undef, undef, undef, undef, undef, undef, undef, undef, undef, undef, undef, undef, undef, undef, undef, undef, undef, undef, undef, undef, undef, undef], []⟩ : Act) v
                        refine wpOp_step rfl (fun K' hK' => ?_)
                        go_simp
                        exact hK' _ _ (hK _ _ (Below.refl _ _) (at_of rfl (rfl)))
                      · show wpOp Try.prog _ _ 4 K (⟨#[s 0, s 1, s 2, s 3, .pointer (some ⟨w.heap.size, 0, none⟩), s 5, s 6, .slice (some ⟨g, 0, none⟩) k cap, .int .i64 off, .int .i64 spread, s 10, .slice ob R.length od, s 12, s 13, s 14, s 15, s 16, s 17, x 13, undef, undef, undef, s 22, s 23, s 24, s 25, s 26, s 27, s 28, s 29, s 30, s 31, s 32, s 33, s 34, s 35, s 36, s 37, s 38, s 39, s 40, s 41, s 42, s 43, s 44, s 45, s 46, s 47, s 48, s 49, s 50, s 51, s 52, s 53, s 54, s 55, s 56, s 57, s 58, s 59, s 60, s 61, s 62, s 63, s 64, s 65, s 66, s 67, s 68, s 69, s 70, s 71, s 72, s 73, s 74, s 75, s 76, s 77, s 78, s 79, s 80, s 81, s 82, s 83, s 84, s 85, s 86, s 87, s 88, s 89, s 90, s 91, s 92, s 93, s 94, s 95, s 96, s 97, s 98, s 99, s 100, s 101, s 102, s 103, s 104, s 105, s 106, s 107, s 108, s 109, s 110, s 111, s 112, s 113, s 114, s 115, s 116, s 117, s 118, s 119, s 120, s 121, s 122, s 123, s 124, s 125, s 126, s 127, s 128, s 129, s 130, s 131, s 132, s 133, s 134, s 135, s 136, s 137, s 138, s 139, s 140, s 141, s 142, s 143, x 10, x 0, x 1, x 2, x 3, x 4, x 5, x 6, x 7, x 8, x 9, x 11, x 12, undef, undef, undef, undef, undef, undef, undef, undef, undef, undef, undef, undef, undef, undef, undef, undef, undef, undef, undef, undef, undef, undef, undef, undef, undef, undef, undef, undef, undef, undef, undef, undef, undef, undef, undef], []⟩ : Act) v
                        refine wpOp_step rfl (fun K' hK' => ?_)
                        go_simp
                        exact hK' _ _ (hK _ _ (Below.refl _ _) (at_of rfl (rfl)))
                      · obtain ⟨x, rfl⟩ := upd_of (show x 4 = .pointer (some ⟨w.heap.size, 2, none⟩) from hd 4 _ (by simp) rfl)
                        show wpOp Try.prog _ _ 5 K (⟨#[s 0, s 1, s 2, s 3, .pointer (some ⟨w.heap.size, 0, none⟩), s 5, s 6, .slice (some ⟨g, 0, none⟩) k cap, .int .i64 off, .int .i64 spread, s 10, .slice ob R.length od, s 12, s 13, s 14, s 15, s 16, s 17, x 13, undef, undef, undef, s 22, s 23, s 24, s 25, s 26, s 27, s 28, s 29, s 30, s 31, s 32, s 33, s 34, s 35, s 36, s 37, s 38, s 39, s 40, s 41, s 42, s 43, s 44, s 45, s 46, s 47, s 48, s 49, s 50, s 51, s 52, s 53, s 54, s 55, s 56, s 57, s 58, s 59, s 60, s 61, s 62, s 63, s 64, s 65, s 66, s 67, s 68, s 69, s 70, s 71, s 72, s 73, s 74, s 75, s 76, s 77, s 78, s 79, s 80, s 81, s 82, s 83, s 84, s 85, s 86, s 87, s 88, s 89, s 90, s 91, s 92, s 93, s 94, s 95, s 96, s 97, s 98, s 99, s 100, s 101, s 102, s 103, s 104, s 105, s 106, s 107, s 108, s 109, s 110, s 111, s 112, s 113, s 114, s 115, s 116, s 117, s 118, s 119, s 120, s 121, s 122, s 123, s 124, s 125, s 126, s 127, s 128, s 129, s 130, s 131, s 132, s 133, s 134, s 135, s 136, s 137, s 138, s 139, s 140, s 141, s 142, s 143, x 10, x 0, x 1, x 2, x 3, .pointer (some ⟨w.heap.size, 2, none⟩), x 5, x 6, x 7, x 8, x 9, x 11, x 12, undef, undef, undef, undef, undef, undef, undef, undef, undef, undef, undef, undef, undef, undef, undef, undef, undef, undef, undef, undef, undef, undef, undef, undef, undef, undef, undef, undef, undef, undef, undef, undef, undef, undef, undef], []⟩ : Act) v
                        refine wpOp_step rfl (fun K' hK' => ?_)
                        have q := (hxz.keep gv).2 2 _ rfl
                        go_simp
                        exact hK' _ _ (hK _ _ (Below.refl _ _) (at_of rfl (rfl)))
                      · obtain ⟨x, rfl⟩ := upd_of (show x 5 = .int .u8 v2 from hd 5 _ (by simp) rfl)
                        show wpOp Try.prog _ _ 6 K (⟨#[s 0, s 1, s 2, s 3, .pointer (some ⟨w.heap.size, 0, none⟩), s 5, s 6, .slice (some ⟨g, 0, none⟩) k cap, .int .i64 off, .int .i64 spread, s 10, .slice ob R.length od, s 12, s 13, s 14, s 15, s 16, s 17, x 13, undef, undef, undef, s 22, s 23, s 24, s 25, s 26, s 27, s 28, s 29, s 30, s 31, s 32, s 33, s 34, s 35, s 36, s 37, s 38, s 39, s 40, s 41, s 42, s 43, s 44, s 45, s 46, s 47, s 48, s 49, s 50, s 51, s 52, s 53, s 54, s 55, s 56, s 57, s 58, s 59, s 60, s 61, s 62, s 63, s 64, s 65, s 66, s 67, s 68, s 69, s 70, s 71, s 72, s 73, s 74, s 75, s 76, s 77, s 78, s 79, s 80, s 81, s 82, s 83, s 84, s 85, s 86, s 87, s 88, s 89, s 90, s 91, s 92, s 93, s 94, s 95, s 96, s 97, s 98, s 99, s 100, s 101, s 102, s 103, s 104, s 105, s 106, s 107, s 108, s 109, s 110, s 111, s 112, s 113, s 114, s 115, s 116, s 117, s 118, s 119, s 120, s 121, s 122, s 123, s 124, s 125, s 126, s 127, s 128, s 129, s 130, s 131, s 132, s 133, s 134, s 135, s 136, s 137, s 138, s 139, s 140, s 141, s 142, s 143, x 10, x 0, x 1, x 2, x 3, x 4, .int .u8 v2, x 6, x 7, x 8, x 9, x 11, x 12, undef, undef, undef, undef, undef, undef, undef, undef, undef, undef, undef, undef, undef, undef, undef, undef, undef, undef, undef, undef, undef, undef, undef, undef, undef, undef, undef, undef, undef, undef, undef, undef, undef, undef, undef], []⟩ : Act) v
                        refine wpOp_step rfl (fun K' hK' => ?_)
                        go_simp
                        exact hK' _ _ (hK _ _ (Below.refl _ _) (at_of rfl (rfl)))
                      · obtain ⟨x, rfl⟩ := upd_of (show x 6 = .int .i64 v2 from hd 6 _ (by simp) rfl)
                        show wpOp Try.prog _ _ 7 K (⟨#[s 0, s 1, s 2, s 3, .pointer (some ⟨w.heap.size, 0, none⟩), s 5, s 6, .slice (some ⟨g, 0, none⟩) k cap, .int .i64 off, .int .i64 spread, s 10, .slice ob R.length od, s 12, s 13, s 14, s 15, s 16, s 17, x 13, undef, undef, undef, s 22, s 23, s 24, s 25, s 26, s 27, s 28, s 29, s 30, s 31, s 32, s 33, s 34, s 35, s 36, s 37, s 38, s 39, s 40, s 41, s 42, s 43, s 44, s 45, s 46, s 47, s 48, s 49, s 50, s 51, s 52, s 53, s 54, s 55, s 56, s 57, s 58, s 59, s 60, s 61, s 62, s 63, s 64, s 65, s 66, s 67, s 68, s 69, s 70, s 71, s 72, s 73, s 74, s 75, s 76, s 77, s 78, s 79, s 80, s 81, s 82, s 83, s 84, s 85, s 86, s 87, s 88, s 89, s 90, s 91, s 92, s 93, s 94, s 95, s 96, s 97, s 98, s 99, s 100, s 101, s 102, s 103, s 104, s 105, s 106, s 107, s 108, s 109, s 110, s 111, s 112, s 113, s 114, s 115, s 116, s 117, s 118, s 119, s 120, s 121, s 122, s 123, s 124, s 125, s 126, s 127, s 128, s 129, s 130, s 131, s 132, s 133, s 134, s 135, s 136, s 137, s 138, s 139, s 140, s 141, s 142, s 143, x 10, x 0, x 1, x 2, x 3, x 4, x 5, .int .i64 v2, x 7, x 8, x 9, x 11, x 12, undef, undef, undef, undef, undef, undef, undef, undef, undef, undef, undef, undef, undef, undef, undef, undef, undef, undef, undef, undef, undef, undef, undef, undef, undef, undef, undef, undef, undef, undef, undef, undef, undef, undef, undef], []⟩ : Act) v
                        refine wpOp_step rfl (fun K' hK' => ?_)
                        go_simp
                        exact hK' _ _ (hK _ _ (Below.refl _ _) (at_of rfl (rfl)))
                      · obtain ⟨x, rfl⟩ := upd_of (show x 3 = .int .i64 spread from hd 3 _ (by simp) rfl)
                        obtain ⟨x, rfl⟩ := upd_of (show x 7 = .int .i64 p from hd 7 _ (by simp) rfl)
                        show wpOp Try.prog _ _ 8 K (⟨#[s 0, s 1, s 2, s 3, .pointer (some ⟨w.heap.size, 0, none⟩), s 5, s 6, .slice (some ⟨g, 0, none⟩) k cap, .int .i64 off, .int .i64 spread, s 10, .slice ob R.length od, s 12, s 13, s 14, s 15, s 16, s 17, x 13, undef, undef, undef, s 22, s 23, s 24, s 25, s 26, s 27, s 28, s 29, s 30, s 31, s 32, s 33, s 34, s 35, s 36, s 37, s 38, s 39, s 40, s 41, s 42, s 43, s 44, s 45, s 46, s 47, s 48, s 49, s 50, s 51, s 52, s 53, s 54, s 55, s 56, s 57, s 58, s 59, s 60, s 61, s 62, s 63, s 64, s 65, s 66, s 67, s 68, s 69, s 70, s 71, s 72, s 73, s 74, s 75, s 76, s 77, s 78, s 79, s 80, s 81, s 82, s 83, s 84, s 85, s 86, s 87, s 88, s 89, s 90, s 91, s 92, s 93, s 94, s 95, s 96, s 97, s 98, s 99, s 100, s 101, s 102, s 103, s 104, s 105, s 106, s 107, s 108, s 109, s 110, s 111, s 112, s 113, s 114, s 115, s 116, s 117, s 118, s 119, s 120, s 121, s 122, s 123, s 124, s 125, s 126, s 127, s 128, s 129, s 130, s 131, s 132, s 133, s 134, s 135, s 136, s 137, s 138, s 139, s 140, s 141, s 142, s 143, x 10, x 0, x 1, x 2, .int .i64 spread, x 4, x 5, x 6, .int .i64 p, x 8, x 9, x 11, x 12, undef, undef, undef, undef, undef, undef, undef, undef, undef, undef, undef, undef, undef, undef, undef, undef, undef, undef, undef, undef, undef, undef, undef, undef, undef, undef, undef, undef, undef, undef, undef, undef, undef, undef, undef], []⟩ : Act) v
                        refine wpOp_step rfl (fun K' hK' => ?_)
                        go_simp
                        exact hK' _ _ (hK _ _ (Below.refl _ _) (at_of rfl (rfl)))
                      · obtain ⟨a2, c2, e1, rr2⟩ := hd 1 _ (by simp) rfl
                        obtain ⟨x, rfl⟩ := upd_of (show x 1 = .slice a2 k c2 from e1)
                        obtain ⟨x, rfl⟩ := upd_of (show x 2 = .int .i64 off from hd 2 _ (by simp) rfl)
                        obtain ⟨x, rfl⟩ := upd_of (show x 8 = .int .i64 (spread + p) from hd 8 _ (by simp) rfl)
                        show wpOp Try.prog _ _ 9 K (⟨#[s 0, s 1, s 2, s 3, .pointer (some ⟨w.heap.size, 0, none⟩), s 5, s 6, .slice (some ⟨g, 0, none⟩) k cap, .int .i64 off, .int .i64 spread, s 10, .slice ob R.length od, s 12, s 13, s 14, s 15, s 16, s 17, x 13, undef, undef, undef, s 22, s 23, s 24, s 25, s 26, s 27, s 28, s 29, s 30, s 31, s 32, s 33, s 34, s 35, s 36, s 37, s 38, s 39, s 40, s 41, s 42, s 43, s 44, s 45, s 46, s 47, s 48, s 49, s 50, s 51, s 52, s 53, s 54, s 55, s 56, s 57, s 58, s 59, s 60, s 61, s 62, s 63, s 64, s 65, s 66, s 67, s 68, s 69, s 70, s 71, s 72, s 73, s 74, s 75, s 76, s 77, s 78, s 79, s 80, s 81, s 82, s 83, s 84, s 85, s 86, s 87, s 88, s 89, s 90, s 91, s 92, s 93, s 94, s 95, s 96, s 97, s 98, s 99, s 100, s 101, s 102, s 103, s 104, s 105, s 106, s 107, s 108, s 109, s 110, s 111, s 112, s 113, s 114, s 115, s 116, s 117, s 118, s 119, s 120, s 121, s 122, s 123, s 124, s 125, s 126, s 127, s 128, s 129, s 130, s 131, s 132, s 133, s 134, s 135, s 136, s 137, s 138, s 139, s 140, s 141, s 142, s 143, x 10, x 0, .slice a2 k c2, .int .i64 off, x 3, x 4, x 5, x 6, x 7, .int .i64 (spread + p), x 9, x 11, x 12, undef, undef, undef, undef, undef, undef, undef, undef, undef, undef, undef, undef, undef, undef, undef, undef, undef, undef, undef, undef, undef, undef, undef, undef, undef, undef, undef, undef, undef, undef, undef, undef, undef, undef, undef], []⟩ : Act) v
                        refine wpOp_step rfl (fun K' hK' => ?_)
                        go_simp
                        refine (odd_at HLB.out hL (by omega) o0 (by omega) (by omega) (by omega) R2 HR2.out a2 c2 v rr2).mono ?_
                        rintro e v' ⟨b, d, rfl, _, hg⟩
                        exact hK' _ _ (hK _ _ hg (at_of rfl (⟨_, _, rfl⟩)))
                      · obtain ⟨b9, d9, e9⟩ := hd 9 _ (by simp) rfl
                        obtain ⟨x, rfl⟩ := upd_of (show x 9 = .tuple #[.slice b9 R2.length d9, .int .i64 0] from e9)
                        show wpOp Try.prog _ _ 10 K (⟨#[s 0, s 1, s 2, s 3, .pointer (some ⟨w.heap.size, 0, none⟩), s 5, s 6, .slice (some ⟨g, 0, none⟩) k cap, .int .i64 off, .int .i64 spread, s 10, .slice ob R.length od, s 12, s 13, s 14, s 15, s 16, s 17, x 13, undef, undef, undef, s 22, s 23, s 24, s 25, s 26, s 27, s 28, s 29, s 30, s 31, s 32, s 33, s 34, s 35, s 36, s 37, s 38, s 39, s 40, s 41, s 42, s 43, s 44, s 45, s 46, s 47, s 48, s 49, s 50, s 51, s 52, s 53, s 54, s 55, s 56, s 57, s 58, s 59, s 60, s 61, s 62, s 63, s 64, s 65, s 66, s 67, s 68, s 69, s 70, s 71, s 72, s 73, s 74, s 75, s 76, s 77, s 78, s 79, s 80, s 81, s 82, s 83, s 84, s 85, s 86, s 87, s 88, s 89, s 90, s 91, s 92, s 93, s 94, s 95, s 96, s 97, s 98, s 99, s 100, s 101, s 102, s 103, s 104, s 105, s 106, s 107, s 108, s 109, s 110, s 111, s 112, s 113, s 114, s 115, s 116, s 117, s 118, s 119, s 120, s 121, s 122, s 123, s 124, s 125, s 126, s 127, s 128, s 129, s 130, s 131, s 132, s 133, s 134, s 135, s 136, s 137, s 138, s 139, s 140, s 141, s 142, s 143, x 10, x 0, x 1, x 2, x 3, x 4, x 5, x 6, x 7, x 8, .tuple #[.slice b9 R2.length d9, .int .i64 0], x 11, x 12, undef, undef, undef, undef, undef, undef, undef, undef, undef, undef, undef, undef, undef, undef, undef, undef, undef, undef, undef, undef, undef, undef, undef, undef, undef, undef, undef, undef, undef, undef, undef, undef, undef, undef, undef], []⟩ : Act) v
                        refine wpOp_step rfl (fun K' hK' => ?_)
                        go_simp
                        exact hK' _ _ (hK _ _ (Below.refl _ _) (at_of rfl (⟨_, _, rfl⟩)))
                      · obtain ⟨b9, d9, e10⟩ := hd 10 _ (by simp) rfl
                        obtain ⟨x, rfl⟩ := upd_of (show x 10 = .tuple #[.slice b9 R2.length d9, .int .i64 0] from e10)
                        show wpOp Try.prog _ _ 11 K (⟨#[s 0, s 1, s 2, s 3, .pointer (some ⟨w.heap.size, 0, none⟩), s 5, s 6, .slice (some ⟨g, 0, none⟩) k cap, .int .i64 off, .int .i64 spread, s 10, .slice ob R.length od, s 12, s 13, s 14, s 15, s 16, s 17, x 13, undef, undef, undef, s 22, s 23, s 24, s 25, s 26, s 27, s 28, s 29, s 30, s 31, s 32, s 33, s 34, s 35, s 36, s 37, s 38, s 39, s 40, s 41, s 42, s 43, s 44, s 45, s 46, s 47, s 48, s 49, s 50, s 51, s 52, s 53, s 54, s 55, s 56, s 57, s 58, s 59, s 60, s 61, s 62, s 63, s 64, s 65, s 66, s 67, s 68, s 69, s 70, s 71, s 72, s 73, s 74, s 75, s 76, s 77, s 78, s 79, s 80, s 81, s 82, s 83, s 84, s 85, s 86, s 87, s 88, s 89, s 90, s 91, s 92, s 93, s 94, s 95, s 96, s 97, s 98, s 99, s 100, s 101, s 102, s 103, s 104, s 105, s 106, s 107, s 108, s 109, s 110, s 111, s 112, s 113, s 114, s 115, s 116, s 117, s 118, s 119, s 120, s 121, s 122, s 123, s 124, s 125, s 126, s 127, s 128, s 129, s 130, s 131, s 132, s 133, s 134, s 135, s 136, s 137, s 138, s 139, s 140, s 141, s 142, s 143, .tuple #[.slice b9 R2.length d9, .int .i64 0], x 0, x 1, x 2, x 3, x 4, x 5, x 6, x 7, x 8, x 9, x 11, x 12, undef, undef, undef, undef, undef, undef, undef, undef, undef, undef, undef, undef, undef, undef, undef, undef, undef, undef, undef, undef, undef, undef, undef, undef, undef, undef, undef, undef, undef, undef, undef, undef, undef, undef, undef], []⟩ : Act) v
                        refine wpOp_step rfl (fun K' hK' => ?_)
                        go_simp
                        exact hK' _ _ (hK _ _ (Below.refl _ _) (at_of rfl (⟨_, _, rfl⟩)))
                      · obtain ⟨b9, d9, e10⟩ := hd 10 _ (by simp) rfl
                        obtain ⟨x, rfl⟩ := upd_of (show x 10 = .tuple #[.slice b9 R2.length d9, .int .i64 0] from e10)
                        show wpOp Try.prog _ _ 12 K (⟨#[s 0, s 1, s 2, s 3, .pointer (some ⟨w.heap.size, 0, none⟩), s 5, s 6, .slice (some ⟨g, 0, none⟩) k cap, .int .i64 off, .int .i64 spread, s 10, .slice ob R.length od, s 12, s 13, s 14, s 15, s 16, s 17, x 13, undef, undef, undef, s 22, s 23, s 24, s 25, s 26, s 27, s 28, s 29, s 30, s 31, s 32, s 33, s 34, s 35, s 36, s 37, s 38, s 39, s 40, s 41, s 42, s 43, s 44, s 45, s 46, s 47, s 48, s 49, s 50, s 51, s 52, s 53, s 54, s 55, s 56, s 57, s 58, s 59, s 60, s 61, s 62, s 63, s 64, s 65, s 66, s 67, s 68, s 69, s 70, s 71, s 72, s 73, s 74, s 75, s 76, s 77, s 78, s 79, s 80, s 81, s 82, s 83, s 84, s 85, s 86, s 87, s 88, s 89, s 90, s 91, s 92, s 93, s 94, s 95, s 96, s 97, s 98, s 99, s 100, s 101, s 102, s 103, s 104, s 105, s 106, s 107, s 108, s 109, s 110, s 111, s 112, s 113, s 114, s 115, s 116, s 117, s 118, s 119, s 120, s 121, s 122, s 123, s 124, s 125, s 126, s 127, s 128, s 129, s 130, s 131, s 132, s 133, s 134, s 135, s 136, s 137, s 138, s 139, s 140, s 141, s 142, s 143, .tuple #[.slice b9 R2.length d9, .int .i64 0], x 0, x 1, x 2, x 3, x 4, x 5, x 6, x 7, x 8, x 9, x 11, x 12, undef, undef, undef, undef, undef, undef, undef, undef, undef, undef, undef, undef, undef, undef, undef, undef, undef, undef, undef, undef, undef, undef, undef, undef, undef, undef, undef, undef, undef, undef, undef, undef, undef, undef, undef], []⟩ : Act) v
                        refine wpOp_step rfl (fun K' hK' => ?_)
                        go_simp
                        exact hK' _ _ (hK _ _ (Below.refl _ _) (at_of rfl (rfl)))
                      · obtain ⟨b9, d9, e11⟩ := hd 11 _ (by simp) rfl
                        obtain ⟨x, rfl⟩ := upd_of (show x 11 = .slice b9 R2.length d9 from e11)
                        show wpOp Try.prog _ _ 13 K (⟨#[s 0, s 1, s 2, s 3, .pointer (some ⟨w.heap.size, 0, none⟩), s 5, s 6, .slice (some ⟨g, 0, none⟩) k cap, .int .i64 off, .int .i64 spread, s 10, .slice ob R.length od, s 12, s 13, s 14, s 15, s 16, s 17, x 13, undef, undef, undef, s 22, s 23, s 24, s 25, s 26, s 27, s 28, s 29, s 30, s 31, s 32, s 33, s 34, s 35, s 36, s 37, s 38, s 39, s 40, s 41, s 42, s 43, s 44, s 45, s 46, s 47, s 48, s 49, s 50, s 51, s 52, s 53, s 54, s 55, s 56, s 57, s 58, s 59, s 60, s 61, s 62, s 63, s 64, s 65, s 66, s 67, s 68, s 69, s 70, s 71, s 72, s 73, s 74, s 75, s 76, s 77, s 78, s 79, s 80, s 81, s 82, s 83, s 84, s 85, s 86, s 87, s 88, s 89, s 90, s 91, s 92, s 93, s 94, s 95, s 96, s 97, s 98, s 99, s 100, s 101, s 102, s 103, s 104, s 105, s 106, s 107, s 108, s 109, s 110, s 111, s 112, s 113, s 114, s 115, s 116, s 117, s 118, s 119, s 120, s 121, s 122, s 123, s 124, s 125, s 126, s 127, s 128, s 129, s 130, s 131, s 132, s 133, s 134, s 135, s 136, s 137, s 138, s 139, s 140, s 141, s 142, s 143, x 10, x 0, x 1, x 2, x 3, x 4, x 5, x 6, x 7, x 8, x 9, .slice b9 R2.length d9, x 12, undef, undef, undef, undef, undef, undef, undef, undef, undef, undef, undef, undef, undef, undef, undef, undef, undef, undef, undef, undef, undef, undef, undef, undef, undef, undef, undef, undef, undef, undef, undef, undef, undef, undef, undef], []⟩ : Act) v
                        refine wpOp_step rfl (fun K' hK' => ?_)
                        go_simp
                        exact hK' _ _ (hK _ _ (Below.refl _ _) (at_of rfl (⟨_, _, rfl⟩)))
                    case fin25B =>
                      rintro x v gv hd
                      obtain ⟨x, rfl⟩ := upd_of (show x 12 = .int .i64 0 from hd 12 _ (by omega) rfl)
                      obtain ⟨b9, d9, e13⟩ := hd 13 _ (by omega) rfl
                      obtain ⟨x, rfl⟩ := upd_of (show x 13 = .slice b9 R2.length d9 from e13)
                      clear hd
                      show wpList Try.prog _ _ (List.drop 14 _) (⟨#[s 0, s 1, s 2, s 3, .pointer (some ⟨w.heap.size, 0, none⟩), s 5, s 6, .slice (some ⟨g, 0, none⟩) k cap, .int .i64 off, .int .i64 spread, s 10, .slice ob R.length od, s 12, s 13, s 14, s 15, s 16, s 17, .slice b9 R2.length d9, undef, undef, undef, s 22, s 23, s 24, s 25, s 26, s 27, s 28, s 29, s 30, s 31, s 32, s 33, s 34, s 35, s 36, s 37, s 38, s 39, s 40, s 41, s 42, s 43, s 44, s 45, s 46, s 47, s 48, s 49, s 50, s 51, s 52, s 53, s 54, s 55, s 56, s 57, s 58, s 59, s 60, s 61, s 62, s 63, s 64, s 65, s 66, s 67, s 68, s 69, s 70, s 71, s 72, s 73, s 74, s 75, s 76, s 77, s 78, s 79, s 80, s 81, s 82, s 83, s 84, s 85, s 86, s 87, s 88, s 89, s 90, s 91, s 92, s 93, s 94, s 95, s 96, s 97, s 98, s 99, s 100, s 101, s 102, s 103, s 104, s 105, s 106, s 107, s 108, s 109, s 110, s 111, s 112, s 113, s 114, s 115, s 116, s 117, s 118, s 119, s 120, s 121, s 122, s 123, s 124, s 125, s 126, s 127, s 128, s 129, s 130, s 131, s 132, s 133, s 134, s 135, s 136, s 137, s 138, s 139, s 140, s 141, s 142, s 143, x 10, x 0, x 1, x 2, x 3, x 4, x 5, x 6, x 7, x 8, x 9, x 11, .int .i64 0, undef, undef, undef, undef, undef, undef, undef, undef, undef, undef, undef, undef, undef, undef, undef, undef, undef, undef, undef, undef, undef, undef, undef, undef, undef, undef, undef, undef, undef, undef, undef, undef, undef, undef, undef], []⟩ : Act) v
                      simp only [List.drop_succ_cons, List.drop_zero]
                      have rLy := rLz.grow gv
                      have gY := gZ.tr gv
                      obtain ⟨q0, q1, q2⟩ := Box.c3p (hxz.keep gv)
                      clear rLz gZ hxz gv
                      have d2 : decide ((R2.length : Int) ≤ (R.length : Int)) = true := by simp; omega
                      have d3 : decide ((R3.length : Int) ≤ (R.length : Int)) = true := by simp; omega
                      go_wp2_with (first
                        | (go_at_call 27; refine (odd_at HLB.out hL (by omega) (by omega) (by omega) s0 (by omega) R3 HR3.out _ _ _ rLy).mono ?_; rintro e w8 ⟨b8, d8, rfl, _, g8⟩)
                        | (go_at_call 16; refine (known_any _).mono ?_; rintro e w9 ⟨rfl, g9⟩))
                      go_ret
                      exact ⟨rfl, gY.tr (g8.tr g9)⟩
      · have c1' : decide ((k : Int) < (Y.length : Int)) = false := by simp; omega
        have hL : (Y.take k).length = k := by rw [List.length_take]; omega
        obtain ⟨L, hLY⟩ : ∃ L, L = Y.take k := ⟨_, rfl⟩
        rw [← hLY] at oW hL
        have hLB : Bytes L := fun x hx => HY.out x (by rw [hLY] at hx; exact List.mem_of_mem_take hx)
        have hRd : Reads L := by rw [hLY]; exact reads_of HY.out k
        clear hLY
        obtain ⟨ra, rc, hva, rL, _, hck⟩ := owns_row_cap (enc := encI) (l := L) (fun _ => rfl) (by omega) (by rw [hL]; exact oW)
        rw [hL] at hva hck
        injection hva with e1 e2 e3
        subst e1
        subst e3
        have gX := gg.tr gW
        have hx4 := hx.keep gW
        clear oW gW
        obtain ⟨R, hR⟩ : ∃ R, oddTo off spread L L.length = R := ⟨_, rfl⟩
        obtain ⟨hRs, hRm⟩ := odd_sorted off spread L
        have hRl := odd_len off spread L
        rw [hR] at hRs hRm hRl
        rw [hL] at hRm hRl
        have HR := Lib.hid hR
        have HLB := Lib.hid hLB
        have HRD := Lib.hid hRd
        have HRS := Lib.hid hRs
        have HRM := Lib.hid hRm
        clear hR hLB hRd hRs hRm
        have hlc := lints_any L (by omega) g 0 cap wr rL
        rw [hL] at hlc
        have HLC := Lib.hid hlc
        clear hlc
        go_upto_region 7 with (first
          | (go_at_call 17; refine HLC.out.mono ?_; rintro e w2 ⟨a2, c2, rfl, r2, n2, _, g2⟩)
          | (go_at_call 27; refine (odd_at HLB.out hL (by omega) o0 (by omega) s0 (by omega) R HR.out a2 c2 w2 r2).mono ?_; rintro e w3 ⟨ob, od, rfl, r3, g3⟩))
        have gY := gX.tr (g2.tr g3)
        have rL3 := rL.grow (g2.tr g3)
        have hx3 := hx4.keep (g2.tr g3)
        clear gX rL hx4 r2 n2 g2 g3 HLC
        have d1 : decide ((k : Int) < (R.length : Int)) = false := by simp; omega
        go_upto_region 9 with fail
        clear d1
        refine wp_abs (fun X => Gr w X ∧ IRow X (some ⟨g, 0, none⟩) L ∧ Box X w.heap.size [.int .u8 v0, .int .u8 v1, .int .u8 v2] ∧ IRow X ob (intsN R)) ⟨gY, rL3, hx3, r3⟩ ?_
        clear gY rL3 hx3 r3
        rintro X ⟨gX, rL, hx3, r3⟩
        have hmm := @run_makeMap Try.prog
        go_upto_region 10 with fail
        clear hmm
        obtain ⟨M1, hM1⟩ : ∃ M, M = X.heap.size := ⟨_, rfl⟩
        have gM := Gr.al X (.map #[] 0)
        have mM := MapB.made X
        rw [← hM1] at mM ⊢
        have hM2 : X.heap.size ≤ M1 := by omega
        clear hM1
        refine wp_abs (fun P => Gr X P ∧ MapB P M1 0 (fun _ => false)) ⟨gM, mM⟩ ?_
        clear gM mM
        rintro P1 ⟨gM, mM⟩
        go_wp2
        go_loopw [15] (fun i wr => Hid (∃ j : Nat, j ≤ R.length ∧ i = .int .i64 j ∧ Gr X wr ∧ MapB wr M1 j (memB (R.take j)))) (fun i _ => R.length - (intOf i).toNat)
        case atStart => exact Lib.hid ⟨0, Nat.zero_le _, rfl, gM, mM.congr (Nat.le_refl _) (fun y => by simp [memB])⟩
        case round =>
          clear gM mM
          obtain ⟨j, hj, rfl, gW, mW⟩ := hrel.out
          clear hrel
          by_cases hlt : j < R.length
          · obtain ⟨x, hx'⟩ : ∃ x, R[j]? = some x := ⟨R[j], by simp [hlt]⟩
            have hxn := HRM.out x (List.mem_of_getElem? hx')
            have hxi : (intsN R)[j]? = some (x : Int) := by simp [intsN, hx']
            obtain ⟨b2, of2, rfl, hb2⟩ := (r3.grow gW).addr (by rw [intsN_len]; omega)
            have cx := IRow.cell (r3.grow gW) hxi
            have d1 : ¬ ((x : Int) < 0) := by omega
            have d2 : ¬ k ≤ x := by omega
            have d2' : ¬ ((k : Int) ≤ (x : Int)) := by omega
            have hmem := Lib.hid (memB_succ hx')
            have HX := Lib.hid hx'
            have HXI := Lib.hid hxi
            clear hx' hxi
            by_cases hj0 : j = 0
            · subst hj0
              rw [Nat.add_zero] at cx
              go_upto_region 13 with fail
              go_big_quiet (fail)
              go_upto_region 15 with fail
              refine wp_abs (fun Z => Gr wr Z) (Gr.drewN (Below.refl _ _) _) ?_
              intro Z gZ
              have cz := IRow.cell (r3.grow (gW.tr gZ)) HXI.out
              rw [Nat.add_zero] at cz
              obtain ⟨w5, hput, m5, hg5⟩ := (mW.keep gZ).put (by omega) (x : Int) true (wf64 (by omega) (by omega))
              go_wp2
              go_roundw
              case rel => exact Lib.hid ⟨0 + 1, by omega, by go_num, (gW.tr gZ).grown hg5 ((gW.tr gZ).size) (fun b e => by cases e; omega), m5.congr (Nat.le_refl _) (fun y => (hmem.out y).symm)⟩
              case measure => simp [intOf]; omega
            · obtain ⟨i, hij⟩ : ∃ i, i + 1 = j := ⟨j - 1, by omega⟩
              obtain ⟨y, hy'⟩ : ∃ y, R[i]? = some y := ⟨R[i]'(by omega), List.getElem?_eq_getElem (by omega)⟩
              have hyx : y < x := by
                obtain ⟨h1a, rfl⟩ := List.getElem?_eq_some_iff.1 hy'
                obtain ⟨h2a, rfl⟩ := List.getElem?_eq_some_iff.1 HX.out
                exact List.pairwise_iff_getElem.1 HRS.out i j h1a h2a (by omega)
              have hyi : (intsN R)[i]? = some (y : Int) := by simp [intsN, hy']
              have cy := IRow.cell (r3.grow gW) hyi
              have d3 : 0 < j := by omega
              have d3' : 0 < (j : Int) := by omega
              have d4 : ¬ x ≤ y := by omega
              have d4' : ¬ ((x : Int) ≤ (y : Int)) := by omega
              have w1 : IntKind.i64.wrap ((j : Int) - 1) = (i : Int) := by rw [IntWalk.i64_in _ (by omega)]; omega
              have hil : i < R.length := by omega
              clear hy' hyi hij hj0
              go_upto_region 13 with fail
              go_big_quiet (fail)
              go_upto_region 15 with fail
              refine wp_abs (fun Z => Gr wr Z) (Gr.drewN (Below.refl _ _) _) ?_
              intro Z gZ
              have cz := IRow.cell (r3.grow (gW.tr gZ)) HXI.out
              obtain ⟨w5, hput, m5, hg5⟩ := (mW.keep gZ).put (by omega) (x : Int) true (wf64 (by omega) (by omega))
              go_wp2
              go_roundw
              case rel => exact Lib.hid ⟨j + 1, by omega, by go_num, (gW.tr gZ).grown hg5 ((gW.tr gZ).size) (fun b e => by cases e; omega), m5.congr (Nat.le_refl _) (fun y => (hmem.out y).symm)⟩
              case measure => simp [intOf]; omega
          · obtain rfl : R.length = j := by omega
            clear hlt hj
            rw [List.take_length] at mW
            have hmm := @run_makeMap Try.prog
            go_upto_region 17 with fail
            clear hmm
            obtain ⟨M2, hM3⟩ : ∃ M, M = wr.heap.size := ⟨_, rfl⟩
            have gM := Gr.al wr (.map #[] 0)
            have mN := MapB.made wr
            rw [← hM3] at mN ⊢
            have hM4 : wr.heap.size ≤ M2 ∧ M1 < M2 ∧ X.heap.size ≤ M2 := by have := mW.lt; have := gW.size; omega
            clear hM3
            refine wp_abs (fun P => Gr X P ∧ MapB P M1 R.length (memB R) ∧ MapB P M2 0 (fun _ => false)) ⟨gW.tr gM, mW.keep gM, mN⟩ ?_
            clear gM mN mW gW
            rintro P2 ⟨gM, mW, mN⟩
            go_wp2
            go_loopw [17, 14] (fun i s wr => Hid (∃ j : Nat, j ≤ k ∧ i = .int .i64 j ∧ Gr X wr ∧ MapB wr M1 R.length (memB R) ∧ MapB wr M2 j (gK (bitO so) j) ∧ s = .int .i64 (cntC (bitO so) j))) (fun i _ _ => k - (intOf i).toNat)
            case atStart => exact Lib.hid ⟨0, Nat.zero_le _, rfl, gM, mW, mN.congr (Nat.le_refl _) (fun y => by unfold gK; simp; omega), rfl⟩
            case round =>
              clear gM mW mN
              obtain ⟨j, hj, rfl, gW, mW, mN, rfl⟩ := hrel.out
              clear hrel
              by_cases hlt : j < k
              · cases hb : bitO so j with
                | true =>
                  have hb' : (bits BinOp.and IntKind.u16 (so / 2 ^ j) 1 == 1) = true := hb
                  have hcn : cntC (bitO so) (j + 1) = cntC (bitO so) j + 1 := by rw [cntC_succ, if_pos hb]
                  have hcl := cntC_le (bitO so) j
                  obtain ⟨m, hm⟩ : ∃ m, cntC (bitO so) j = m := ⟨_, rfl⟩
                  rw [hm] at hcn hcl
                  have HC := Lib.hid hcn
                  have HG := Lib.hid (fun y => (show (if y = (j : Int) then true else gK (bitO so) j y) = gK (bitO so) (j + 1) y by rw [gK_succ, hb]))
                  obtain ⟨w5, hput, m5, hg5⟩ := mN.put (by omega) (j : Int) true (wf64 (by omega) (by omega))
                  rw [hm]
                  clear hcn hm hb
                  go_wp2
                  go_roundw
                  case rel => exact Lib.hid ⟨j + 1, by omega, by go_num, gW.grown hg5 gW.size (fun b e => by cases e; omega), mW.grownRow hg5 (fun r e => by cases e; omega), m5.congr (Nat.le_refl _) HG.out, by rw [HC.out]; go_num⟩
                  case measure => simp [intOf]; omega
                | false =>
                  have hb' : (bits BinOp.and IntKind.u16 (so / 2 ^ j) 1 == 1) = false := hb
                  have HC := Lib.hid (show cntC (bitO so) (j + 1) = cntC (bitO so) j by rw [cntC_succ, if_neg (by rw [hb]; decide)]; rfl)
                  have HG := Lib.hid (fun y => gK_false hb y)
                  clear hb
                  go_wp2
                  go_roundw
                  case rel => exact Lib.hid ⟨j + 1, by omega, by go_num, gW, mW, mN.congr (Nat.le_succ _) HG.out, by rw [HC.out]⟩
                  case measure => simp [intOf]; omega
              · obtain rfl : k = j := by omega
                clear hlt hj
                have hn1 : ∀ W, Gr wr W → Calls Try.prog 51 #[.slice (some ⟨g, 0, none⟩) k cap, .map (some M1), .int .i64 off, .int .i64 spread] W fun e w' => e = .returned (.bool true) ∧ Gr W w' := fun W h => by
                  have := near_any off spread L HRD.out (by omega) o0 (by omega) s0 (by omega) (memB R) true (odd_near HRD.out o0 (by omega) s0 _ (fun i _ => by rw [HR.out]; exact memB_iff i)) (some ⟨g, 0, none⟩) cap M1 R.length W (rL.grow (gW.tr h)) (mW.keep h)
                  rw [hL] at this
                  exact this
                have HN1 := Lib.hid hn1
                clear hn1
                obtain ⟨m, hm⟩ : ∃ m, cntC (bitO so) k = m := ⟨_, rfl⟩
                have hn2 : m < R.length → ∀ W, Gr wr W → Calls Try.prog 51 #[.slice (some ⟨g, 0, none⟩) k cap, .map (some M2), .int .i64 off, .int .i64 spread] W fun e w' => e = .returned (.bool false) ∧ Gr W w' := fun hlt W h => by
                  have hf : nearB off spread L (gK (bitO so) k) = false := by
                    cases hq : nearB off spread L (gK (bitO so) k) with
                    | false => rfl
                    | true =>
                      have h5 := odd_few HRD.out o0 (by omega) s0 _ hq
                      rw [HR.out, hL, cnt_gK, hm] at h5
                      omega
                  have := near_any off spread L HRD.out (by omega) o0 (by omega) s0 (by omega) (gK (bitO so) k) false hf (some ⟨g, 0, none⟩) cap M2 k W (rL.grow (gW.tr h)) (mN.keep h)
                  rw [hL] at this
                  exact this
                have HN2 := Lib.hid hn2
                rw [hm]
                clear hn2 hm
                have rLw := rL.grow gW
                have hxw := hx3.keep gW
                have gXw := gX.tr gW
                by_cases hmr : m < R.length
                · have d1 : decide ((m : Int) < (R.length : Int)) = true := by simp; omega
                  have HN3 := Lib.hid (HN2.out hmr)
                  have tok0 : True := trivial
                  go_upto_region 25 with (first
                    | (have _t := tok0; clear tok0 _t; go_at_call 51; refine (HN1.out _ (Below.refl _ _)).mono ?_; rintro e w5 ⟨rfl, g5⟩)
                    | (go_at_call 51; refine (HN3.out _ g5).mono ?_; rintro e w6 ⟨rfl, g6⟩))
                  clear d1
                  have gN := g5.tr g6
                  have rLz := rLw.grow gN
                  have hxz := hxw.keep gN
                  have gZ := gXw.tr gN
                  obtain ⟨p, hp⟩ : ∃ p, v2 % 9 = p := ⟨_, rfl⟩
                  obtain ⟨p7, hp7⟩ : ∃ p, v2 % 7 = p := ⟨_, rfl⟩
                  have p0 : 0 ≤ p ∧ p ≤ 8 := by omega
                  have p1 : 0 ≤ p7 ∧ p7 ≤ 6 := by omega
                  have w1 : IntKind.i64.wrap v2 = v2 := IntWalk.i64_in _ (by omega)
                  have w2 : v2.tmod 9 = p := by rw [Int.tmod_eq_emod_of_nonneg h2.1]; exact hp
                  have w3 : v2.tmod 7 = p7 := by rw [Int.tmod_eq_emod_of_nonneg h2.1]; exact hp7
                  have w4 : IntKind.i64.wrap (spread + p) = spread + p := IntWalk.i64_in _ (by omega)
                  have w5q : IntKind.i64.wrap (off + p7) = off + p7 := IntWalk.i64_in _ (by omega)
                  have w6q : IntKind.i64.wrap p = p := IntWalk.i64_in _ (by omega)
                  have w7q : IntKind.i64.wrap p7 = p7 := IntWalk.i64_in _ (by omega)
                  obtain ⟨R2, hR2⟩ : ∃ R2, oddTo off (spread + p) L L.length = R2 := ⟨_, rfl⟩
                  obtain ⟨R3, hR3⟩ : ∃ R3, oddTo (off + p7) spread L L.length = R3 := ⟨_, rfl⟩
                  have hm2 : R2.length ≤ R.length := by rw [← hR2, ← HR.out]; exact odd_more HRD.out o0 (Int.le_refl _) (by omega) (by omega)
                  have hm3 : R3.length ≤ R.length := by rw [← hR3, ← HR.out]; exact odd_more HRD.out o0 (by omega) (by omega) (Int.le_refl _)
                  have HR2 := Lib.hid hR2
                  have HR3 := Lib.hid hR3
                  have hli : ∀ v, IRow v (some ⟨g, 0, none⟩) L → Calls Try.prog 17 #[.slice (some ⟨g, 0, none⟩) k cap] v fun e w' => ∃ a' cap', e = .returned (.slice a' k cap') ∧ IRow w' a' L ∧ (a' = none → cap' = 0) ∧ k ≤ cap' ∧ Gr v w' := fun v h => by
                    have := lints_any L (by omega) g 0 cap v h
                    rw [hL] at this
                    exact this
                  have HLI := Lib.hid hli
                  clear hR2 hR3 hp hp7 hli
                  refine (show (∀ s : Nat → Value, Code.wp Try.prog _ _ ⟨#[s 0, s 1, s 2, s 3, .pointer (some ⟨w.heap.size, 0, none⟩), s 5, s 6, .slice (some ⟨g, 0, none⟩) k cap, .int .i64 off, .int .i64 spread, s 10, .slice ob R.length od, s 12, s 13, s 14, s 15, s 16, s 17, undef, undef, undef, undef, s 22, s 23, s 24, s 25, s 26, s 27, s 28, s 29, s 30, s 31, s 32, s 33, s 34, s 35, s 36, s 37, s 38, s 39, s 40, s 41, s 42, s 43, s 44, s 45, s 46, s 47, s 48, s 49, s 50, s 51, s 52, s 53, s 54, s 55, s 56, s 57, s 58, s 59, s 60, s 61, s 62, s 63, s 64, s 65, s 66, s 67, s 68, s 69, s 70, s 71, s 72, s 73, s 74, s 75, s 76, s 77, s 78, s 79, s 80, s 81, s 82, s 83, s 84, s 85, s 86, s 87, s 88, s 89, s 90, s 91, s 92, s 93, s 94, s 95, s 96, s 97, s 98, s 99, s 100, s 101, s 102, s 103, s 104, s 105, s 106, s 107, s 108, s 109, s 110, s 111, s 112, s 113, s 114, s 115, s 116, s 117, s 118, s 119, s 120, s 121, s 122, s 123, s 124, s 125, s 126, s 127, s 128, s 129, s 130, s 131, s 132, s 133, s 134, s 135, s 136, s 137, s 138, s 139, s 140, s 141, s 142, s 143, undef, undef, undef, undef, undef, undef, undef, undef, undef, undef, undef, undef, undef, undef, undef, undef, undef, undef, undef, undef, undef, undef, undef, undef, undef, undef, undef, undef, undef, undef, undef, undef, undef, undef, undef, undef, undef, undef, undef, undef, undef, undef, undef, undef, undef, undef, undef, undef], []⟩ _) → _ from fun h => h ((fun l : List Value => fun i => l.getD i undef) [_, _, _, _, undef, _, _, undef, undef, undef, _, undef, _, _, _, _, _, _, undef, undef, undef, undef, _, _, _, _, _, _, _, _, _, _, _, _, _, _, _, _, _, _, _, _, _, _, _, _, _, _, _, _, _, _, _, _, _, _, _, _, _, _, _, _, _, _, _, _, _, _, _, _, _, _, _, _, _, _, _, _, _, _, _, _, _, _, _, _, _, _, _, _, _, _, _, _, _, _, _, _, _, _, _, _, _, _, _, _, _, _, _, _, _, _, _, _, _, _, _, _, _, _, _, _, _, _, _, _, _, _, _, _, _, _, _, _, _, _, _, _, _, _, _, _, _, _])) ?_
                  intro s
                  dsimp only
                  refine wp_region_facts 14 [(1, 0), (5, 4), (6, 5), (7, 6), (8, 3), (8, 7), (9, 1), (9, 2), (9, 8), (10, 9), (11, 10), (12, 10), (13, 11)] (fun x => ⟨#[s 0, s 1, s 2, s 3, .pointer (some ⟨w.heap.size, 0, none⟩), s 5, s 6, .slice (some ⟨g, 0, none⟩) k cap, .int .i64 off, .int .i64 spread, s 10, .slice ob R.length od, s 12, s 13, s 14, s 15, s 16, s 17, x 13, undef, undef, undef, s 22, s 23, s 24, s 25, s 26, s 27, s 28, s 29, s 30, s 31, s 32, s 33, s 34, s 35, s 36, s 37, s 38, s 39, s 40, s 41, s 42, s 43, s 44, s 45, s 46, s 47, s 48, s 49, s 50, s 51, s 52, s 53, s 54, s 55, s 56, s 57, s 58, s 59, s 60, s 61, s 62, s 63, s 64, s 65, s 66, s 67, s 68, s 69, s 70, s 71, s 72, s 73, s 74, s 75, s 76, s 77, s 78, s 79, s 80, s 81, s 82, s 83, s 84, s 85, s 86, s 87, s 88, s 89, s 90, s 91, s 92, s 93, s 94, s 95, s 96, s 97, s 98, s 99, s 100, s 101, s 102, s 103, s 104, s 105, s 106, s 107, s 108, s 109, s 110, s 111, s 112, s 113, s 114, s 115, s 116, s 117, s 118, s 119, s 120, s 121, s 122, s 123, s 124, s 125, s 126, s 127, s 128, s 129, s 130, s 131, s 132, s 133, s 134, s 135, s 136, s 137, s 138, s 139, s 140, s 141, s 142, s 143, x 10, x 0, x 1, x 2, x 3, x 4, x 5, x 6, x 7, x 8, x 9, x 11, x 12, undef, undef, undef, undef, undef, undef, undef, undef, undef, undef, undef, undef, undef, undef, undef, undef, undef, undef, undef, undef, undef, undef, undef, undef, undef, undef, undef, undef, undef, undef, undef, undef, undef, undef, undef], []⟩) (fun _ => undef) [fun _ x => x = .slice (some ⟨g, 0, none⟩) k cap, fun v x => ∃ a c, x = .slice a k c ∧ IRow v a L, fun _ x => x = .int .i64 off, fun _ x => x = .int .i64 spread, fun _ x => x = .pointer (some ⟨w.heap.size, 2, none⟩), fun _ x => x = .int .u8 v2, fun _ x => x = .int .i64 v2, fun _ x => x = .int .i64 p, fun _ x => x = .int .i64 (spread + p), fun v x => ∃ b d, x = .tuple #[.slice b R2.length d, .int .i64 0], fun v x => ∃ b d, x = .tuple #[.slice b R2.length d, .int .i64 0], fun v x => ∃ b d, x = .slice b R2.length d, fun _ x => x = .int .i64 0, fun v x => ∃ b d, x = .slice b R2.length d] (by rfl) (by kernel_rfl) (by kernel_rfl) (by kernel_rfl) (stays_cons (Stays.eq _) (stays_cons ((show Stays (fun v x => ∃ a c, x = .slice a k c ∧ IRow v a L) from fun v v' x g ⟨a, c, h, r⟩ => ⟨a, c, h, r.grow g⟩)) (stays_cons (Stays.eq _) (stays_cons (Stays.eq _) (stays_cons (Stays.eq _) (stays_cons (Stays.eq _) (stays_cons (Stays.eq _) (stays_cons (Stays.eq _) (stays_cons (Stays.eq _) (stays_cons ((show Stays (fun v x => ∃ b d, x = .tuple #[.slice b R2.length d, .int .i64 0]) from fun v v' x g h => h)) (stays_cons ((show Stays (fun v x => ∃ b d, x = .tuple #[.slice b R2.length d, .int .i64 0]) from fun v v' x g h => h)) (stays_cons ((show Stays (fun v x => ∃ b d, x = .slice b R2.length d) from fun v v' x g h => h)) (stays_cons (Stays.eq _) (stays_cons ((show Stays (fun v x => ∃ b d, x = .slice b R2.length d) from fun v v' x g h => h)) stays_nil)))))))))))))) ?step25A ?fin25A
                  case step25A =>
                    rintro i hi x v gv hd K hK
                    have hi8 : i = 0 ∨ i = 1 ∨ i = 2 ∨ i = 3 ∨ i = 4 ∨ i = 5 ∨ i = 6 ∨ i = 7 ∨ i = 8 ∨ i = 9 ∨ i = 10 ∨ i = 11 ∨ i = 12 ∨ i = 13 := by omega
                    rcases hi8 with rfl | rfl | rfl | rfl | rfl | rfl | rfl | rfl | rfl | rfl | rfl | rfl | rfl | rfl
                    · show wpOp Try.prog _ _ 0 K (⟨#[s 0, s 1, s 2, s 3, .pointer (some ⟨w.heap.size, 0, none⟩), s 5, s 6, .slice (some ⟨g, 0, none⟩) k cap, .int .i64 off, .int .i64 spread, s 10, .slice ob R.length od, s 12, s 13, s 14, s 15, s 16, s 17, x 13, undef, undef, undef, s 22, s 23, s 24, s 25, s 26, s 27, s 28, s 29, s 30, s 31, s 32, s 33, s 34, s 35, s 36, s 37, s 38, s 39, s 40, s 41, s 42, s 43, s 44, s 45, s 46, s 47, s 48, s 49, s 50, s 51, s 52, s 53, s 54, s 55, s 56, s 57, s 58, s 59, s 60, s 61, s 62, s 63, s 64, s 65, s 66, s 67, s 68, s 69, s 70, s 71, s 72, s 73, s 74, s 75, s 76, s 77, s 78, s 79, s 80, s 81, s 82, s 83, s 84, s 85, s 86, s 87, s 88, s 89, s 90, s 91, s 92, s 93, s 94, s 95, s 96, s 97, s 98, s 99, s 100, s 101, s 102, s 103, s 104, s 105, s 106, s 107, s 108, s 109, s 110, s 111, s 112, s 113, s 114, s 115, s 116, s 117, s 118, s 119, s 120, s 121, s 122, s 123, s 124, s 125, s 126, s 127, s 128, s 129, s 130, s 131, s 132, s 133, s 134, s 135, s 136, s 137, s 138, s 139, s 140, s 141, s 142, s 143, x 10, x 0, x 1, x 2, x 3, x 4, x 5, x 6, x 7, x 8, x 9, x 11, x 12, undef, undef, undef, undef, undef, undef, undef, undef, undef, undef, undef, undef, undef, undef, undef, undef, undef, undef, undef, undef, undef, undef, undef, undef, undef, undef, undef, undef, undef, undef, undef, undef, undef, undef, undef], []⟩ : Act) v
                      refine wpOp_step rfl (fun K' hK' => ?_)
                      go_simp
                      exact hK' _ _ (hK _ _ (Below.refl _ _) (at_of rfl (rfl)))
                    · obtain ⟨x, rfl⟩ := upd_of (show x 0 = .slice (some ⟨g, 0, none⟩) k cap from hd 0 _ (by simp) rfl)
                      show wpOp Try.prog _ _ 1 K (⟨#[s 0, s 1, s 2, s 3, .pointer (some ⟨w.heap.size, 0, none⟩), s 5, s 6, .slice (some ⟨g, 0, none⟩) k cap, .int .i64 off, .int .i64 spread, s 10, .slice ob R.length od, s 12, s 13, s 14, s 15, s 16, s 17, x 13, undef, undef, undef, s 22, s 23, s 24, s 25, s 26, s 27, s 28, s 29, s 30, s 31, s 32, s 33, s 34, s 35, s 36, s 37, s 38, s 39, s 40, s 41, s 42, s 43, s 44, s 45, s 46, s 47, s 48, s 49, s 50, s 51, s 52, s 53, s 54, s 55, s 56, s 57, s 58, s 59, s 60, s 61, s 62, s 63, s 64, s 65, s 66, s 67, s 68, s 69, s 70, s 71, s 72, s 73, s 74, s 75, s 76, s 77, s 78, s 79, s 80, s 81, s 82, s 83, s 84, s 85, s 86, s 87, s 88, s 89, s 90, s 91, s 92, s 93, s 94, s 95, s 96, s 97, s 98, s 99, s 100, s 101, s 102, s 103, s 104, s 105, s 106, s 107, s 108, s 109, s 110, s 111, s 112, s 113, s 114, s 115, s 116, s 117, s 118, s 119, s 120, s 121, s 122, s 123, s 124, s 125, s 126, s 127, s 128, s 129, s 130, s 131, s 132, s 133, s 134, s 135, s 136, s 137, s 138, s 139, s 140, s 141, s 142, s 143, x 10, .slice (some ⟨g, 0, none⟩) k cap, x 1, x 2, x 3, x 4, x 5, x 6, x 7, x 8, x 9, x 11, x 12, undef, undef, undef, undef, undef, undef, undef, undef, undef, undef, undef, undef, undef, undef, undef, undef, undef, undef, undef, undef, undef, undef, undef, undef, undef, undef, undef, undef, undef, undef, undef, undef, undef, undef, undef], []⟩ : Act) v
                      refine wpOp_step rfl (fun K' hK' => ?_)
                      go_simp
                      refine (HLI.out v (rLz.grow gv)).mono ?_
                      rintro e v' ⟨a, c, rfl, hr2, _, _, hg⟩
                      exact hK' _ _ (hK _ _ hg (at_of rfl (⟨_, _, rfl, hr2⟩)))
                    · show wpOp Try.prog _ _ 2 K (⟨#[s 0, s 1, s 2, s 3, .pointer (some ⟨w.heap.size, 0, none⟩), s 5, s 6, .slice (some ⟨g, 0, none⟩) k cap, .int .i64 off, .int .i64 spread, s 10, .slice ob R.length od, s 12, s 13, s 14, s 15, s 16, s 17, x 13, undef, undef, undef, s 22, s 23, s 24, s 25, s 26, s 27, s 28, s 29, s 30, s 31, s 32, s 33, s 34, s 35, s 36, s 37, s 38, s 39, s 40, s 41, s 42, s 43, s 44, s 45, s 46, s 47, s 48, s 49, s 50, s 51, s 52, s 53, s 54, s 55, s 56, s 57, s 58, s 59, s 60, s 61, s 62, s 63, s 64, s 65, s 66, s 67, s 68, s 69, s 70, s 71, s 72, s 73, s 74, s 75, s 76, s 77, s 78, s 79, s 80, s 81, s 82, s 83, s 84, s 85, s 86, s 87, s 88, s 89, s 90, s 91, s 92, s 93, s 94, s 95, s 96, s 97, s 98, s 99, s 100, s 101, s 102, s 103, s 104, s 105, s 106, s 107, s 108, s 109, s 110, s 111, s 112, s 113, s 114, s 115, s 116, s 117, s 118, s 119, s 120, s 121, s 122, s 123, s 124, s 125, s 126, s 127, s 128, s 129, s 130, s 131, s 132, s 133, s 134, s 135, s 136, s 137, s 138, s 139, s 140, s 141, s 142, s 143, x 10, x 0, x 1, x 2, x 3, x 4, x 5, x 6, x 7, x 8, x 9, x 11, x 12, undef, undef, undef, undef, undef, undef, undef, undef, undef, undef, undef, undef, undef, undef, undef, undef, undef, undef, undef, undef, undef, undef, undef, undef, undef, undef, undef, undef, undef, undef, undef, undef, undef, undef, undef], []⟩ : Act) v
                      refine wpOp_step rfl (fun K' hK' => ?_)
                      go_simp
                      exact hK' _ _ (hK _ _ (Below.refl _ _) (at_of rfl (rfl)))
                    · show wpOp Try.prog _ _ 3 K (⟨#[s 0, s 1, s 2, s 3, .pointer (some ⟨w.heap.size, 0, none⟩), s 5, s 6, .slice (some ⟨g, 0, none⟩) k cap, .int .i64 off, .int .i64 spread, s 10, .slice ob R.length od, s 12, s 13, s 14, s 15, s 16, s 17, x 13, undef, undef, undef, s 22, s 23, s 24, s 25, s 26, s 27, s 28, s 29, s 30, s 31, s 32, s 33, s 34, s 35, s 36, s 37, s 38, s 39, s 40, s 41, s 42, s 43, s 44, s 45, s 46, s 47, s 48, s 49, s 50, s 51, s 52, s 53, s 54, s 55, s 56, s 57, s 58, s 59, s 60, s 61, s 62, s 63, s 64, s 65, s 66, s 67, s 68, s 69, s 70, s 71, s 72, s 73, s 74, s 75, s 76, s 77, s 78, s 79, s 80, s 81, s 82, s 83, s 84, s 85, s 86, s 87, s 88, s 89, s 90, s 91, s 92, s 93, s 94, s 95, s 96, s 97, s 98, s 99, s 100, s 101, s 102, s 103, s 104, s 105, s 106, s 107, s 108, s 109, s 110, s 111, s 112, s 113, s 114, s 115, s 116, s 117, s 118, s 119, s 120, s 121, s 122, s 123, s 124, s 125, s 126, s 127, s 128, s 129, s 130, s 131, s 132, s 133, s 134, s 135, s 136, s 137, s 138, s 139, s 140, s 141, s 142, s 143, x 10, x 0, x 1, x 2, x 3, x 4, x 5, x 6, x 7, x 8, x 9, x 11, x 12, undef, undef, undef, undef, undef, undef, undef, undef, undef, undef, undef, undef, undef, undef, undef, undef, undef, undef, undef, undef, undef, undef, undef, undef, undef, undef, undef, undef, undef, undef, undef, undef, undef, undef, undef], []⟩ : Act) v
                      refine wpOp_step rfl (fun K' hK' => ?_)
                      go_simp
                      exact hK' _ _ (hK _ _ (Below.refl _ _) (at_of rfl (rfl)))
                    · show wpOp Try.prog _ _ 4 K (⟨#[s 0, s 1, s 2, s 3, .pointer (some ⟨w.heap.size, 0, none⟩), s 5, s 6, .slice (some ⟨g, 0, none⟩) k cap, .int .i64 off, .int .i64 spread, s 10, .slice ob R.length od, s 12, s 13, s 14, s 15, s 16, s 17, x 13, undef, undef, undef, s 22, s 23, s 24, s 25, s 26, s 27, s 28, s 29, s 30, s 31, s 32, s 33, s 34, s 35, s 36, s 37, s 38, s 39, s 40, s 41, s 42, s 43, s 44, s 45, s 46, s 47, s 48, s 49, s 50, s 51, s 52, s 53, s 54, s 55, s 56, s 57, s 58, s 59, s 60, s 61, s 62, s 63, s 64, s 65, s 66, s 67, s 68, s 69, s 70, s 71, s 72, s 73, s 74, s 75, s 76, s 77, s 78, s 79, s 80, s 81, s 82, s 83, s 84, s 85, s 86, s 87, s 88, s 89, s 90, s 91, s 92, s 93, s 94, s 95, s 96, s 97, s 98, s 99, s 100, s 101, s 102, s 103, s 104, s 105, s 106, s 107, s 108, s 109, s 110, s 111, s 112, s 113, s 114, s 115, s 116, s 117, s 118, s 119, s 120, s 121, s 122, s 123, s 124, s 125, s 126, s 127, s 128, s 129, s 130, s 131, s 132, s 133, s 134, s 135, s 136, s 137, s 138, s 139, s 140, s 141, s 142, s 143, x 10, x 0, x 1, x 2, x 3, x 4, x 5, x 6, x 7, x 8, x 9, x 11, x 12, undef, undef, undef, undef, undef, undef, undef, undef, undef, undef, undef, undef, undef, undef, undef, undef, undef, undef, undef, undef, undef, undef, undef, undef, undef, undef, undef, undef, undef, undef, undef, undef, undef, undef, undef], []⟩ : Act) v
                      refine wpOp_step rfl (fun K' hK' => ?_)
                      go_simp
                      exact hK' _ _ (hK _ _ (Below.refl _ _) (at_of rfl (rfl)))
                    · obtain ⟨x, rfl⟩ := upd_of (show x 4 = .pointer (some ⟨w.heap.size, 2, none⟩) from hd 4 _ (by simp) rfl)
                      show wpOp Try.prog _ _ 5 K (⟨#[s 0, s 1, s 2, s 3, .pointer (some ⟨w.heap.size, 0, none⟩), s 5, s 6, .slice (some ⟨g, 0, none⟩) k cap, .int .i64 off, .int .i64 spread, s 10, .slice ob R.length od, s 12, s 13, s 14, s 15, s 16, s 17, x 13, undef, undef, undef, s 22, s 23, s 24, s 25, s 26, s 27, s 28, s 29, s 30, s 31, s 32, s 33, s 34, s 35, s 36, s 37, s 38, s 39, s 40, s 41, s 42, s 43, s 44, s 45, s 46, s 47, s 48, s 49, s 50, s 51, s 52, s 53, s 54, s 55, s 56, s 57, s 58, s 59, s 60, s 61, s 62, s 63, s 64, s 65, s 66, s 67, s 68, s 69, s 70, s 71, s 72, s 73, s 74, s 75, s 76, s 77, s 78, s 79, s 80, s 81, s 82, s 83, s 84, s 85, s 86, s 87, s 88, s 89, s 90, s 91, s 92, s 93, s 94, s 95, s 96, s 97, s 98, s 99, s 100, s 101, s 102, s 103, s 104, s 105, s 106, s 107, s 108, s 109, s 110, s 111, s 112, s 113, s 114, s 115, s 116, s 117, s 118, s 119, s 120, s 121, s 122, s 123, s 124, s 125, s 126, s 127, s 128, s 129, s 130, s 131, s 132, s 133, s 134, s 135, s 136, s 137, s 138, s 139, s 140, s 141, s 142, s 143, x 10, x 0, x 1, x 2, x 3, .pointer (some ⟨w.heap.size, 2, none⟩), x 5, x 6, x 7, x 8, x 9, x 11, x 12, undef, undef, undef, undef, undef, undef, undef, undef, undef, undef, undef, undef, undef, undef, undef, undef, undef, undef, undef, undef, undef, undef, undef, undef, undef, undef, undef, undef, undef, undef, undef, undef, undef, undef, undef], []⟩ : Act) v
                      refine wpOp_step rfl (fun K' hK' => ?_)
                      have q := (hxz.keep gv).2 2 _ rfl
                      go_simp
                      exact hK' _ _ (hK _ _ (Below.refl _ _) (at_of rfl (rfl)))
                    · obtain ⟨x, rfl⟩ := upd_of (show x 5 = .int .u8 v2 from hd 5 _ (by simp) rfl)
                      show wpOp Try.prog _ _ 6 K (⟨#[s 0, s 1, s 2, s 3, .pointer (some ⟨w.heap.size, 0, none⟩), s 5, s 6, .slice (some ⟨g, 0, none⟩) k cap, .int .i64 off, .int .i64 spread, s 10, .slice ob R.length od, s 12, s 13, s 14, s 15, s 16, s 17, x 13, undef, undef, undef, s 22, s 23, s 24, s 25, s 26, s 27, s 28, s 29, s 30, s 31, s 32, s 33, s 34, s 35, s 36, s 37, s 38, s 39, s 40, s 41, s 42, s 43, s 44, s 45, s 46, s 47, s 48, s 49, s 50, s 51, s 52, s 53, s 54, s 55, s 56, s 57, s 58, s 59, s 60, s 61, s 62, s 63, s 64, s 65, s 66, s 67, s 68, s 69, s 70, s 71, s 72, s 73, s 74, s 75, s 76, s 77, s 78, s 79, s 80, s 81, s 82, s 83, s 84, s 85, s 86, s 87, s 88, s 89, s 90, s 91, s 92, s 93, s 94, s 95, s 96, s 97, s 98, s 99, s 100, s 101, s 102, s 103, s 104, s 105, s 106, s 107, s 108, s 109, s 110, s 111, s 112, s 113, s 114, s 115, s 116, s 117, s 118, s 119, s 120, s 121, s 122, s 123, s 124, s 125, s 126, s 127, s 128, s 129, s 130, s 131, s 132, s 133, s 134, s 135, s 136, s 137, s 138, s 139, s 140, s 141, s 142, s 143, x 10, x 0, x 1, x 2, x 3, x 4, .int .u8 v2, x 6, x 7, x 8, x 9, x 11, x 12, undef, undef, undef, undef, undef, undef, undef, undef, undef, undef, undef, undef, undef, undef, undef, undef, undef, undef, undef, undef, undef, undef, undef, undef, undef, undef, undef, undef, undef, undef, undef, undef, undef, undef, undef], []⟩ : Act) v
                      refine wpOp_step rfl (fun K' hK' => ?_)
                      go_simp
                      exact hK' _ _ (hK _ _ (Below.refl _ _) (at_of rfl (rfl)))
                    · obtain ⟨x, rfl⟩ := upd_of (show x 6 = .int .i64 v2 from hd 6 _ (by simp) rfl)
                      show wpOp Try.prog _ _ 7 K (⟨#[s 0, s 1, s 2, s 3, .pointer (some ⟨w.heap.size, 0, none⟩), s 5, s 6, .slice (some ⟨g, 0, none⟩) k cap, .int .i64 off, .int .i64 spread, s 10, .slice ob R.length od, s 12, s 13, s 14, s 15, s 16, s 17, x 13, undef, undef, undef, s 22, s 23, s 24, s 25, s 26, s 27, s 28, s 29, s 30, s 31, s 32, s 33, s 34, s 35, s 36, s 37, s 38, s 39, s 40, s 41, s 42, s 43, s 44, s 45, s 46, s 47, s 48, s 49, s 50, s 51, s 52, s 53, s 54, s 55, s 56, s 57, s 58, s 59, s 60, s 61, s 62, s 63, s 64, s 65, s 66, s 67, s 68, s 69, s 70, s 71, s 72, s 73, s 74, s 75, s 76, s 77, s 78, s 79, s 80, s 81, s 82, s 83, s 84, s 85, s 86, s 87, s 88, s 89, s 90, s 91, s 92, s 93, s 94, s 95, s 96, s 97, s 98, s 99, s 100, s 101, s 102, s 103, s 104, s 105, s 106, s 107, s 108, s 109, s 110, s 111, s 112, s 113, s 114, s 115, s 116, s 117, s 118, s 119, s 120, s 121, s 122, s 123, s 124, s 125, s 126, s 127, s 128, s 129, s 130, s 131, s 132, s 133, s 134, s 135, s 136, s 137, s 138, s 139, s 140, s 141, s 142, s 143, x 10, x 0, x 1, x 2, x 3, x 4, x 5, .int .i64 v2, x 7, x 8, x 9, x 11, x 12, undef, undef, undef, undef, undef, undef, undef, undef, undef, undef, undef, undef, undef, undef, undef, undef, undef, undef, undef, undef, undef, undef, undef, undef, undef, undef, undef, undef, undef, undef, undef, undef, undef, undef, undef], []⟩ : Act) v
                      refine wpOp_step rfl (fun K' hK' => ?_)
                      go_simp
                      exact hK' _ _ (hK _ _ (Below.refl _ _) (at_of rfl (rfl)))
                    · obtain ⟨x, rfl⟩ := upd_of (show x 3 = .int .i64 spread from hd 3 _ (by simp) rfl)
                      obtain ⟨x, rfl⟩ := upd_of (show x 7 = .int .i64 p from hd 7 _ (by simp) rfl)
                      show wpOp Try.prog _ _ 8 K (⟨#[s 0, s 1, s 2, s 3, .pointer (some ⟨w.heap.size, 0, none⟩), s 5, s 6, .slice (some ⟨g, 0, none⟩) k cap, .int .i64 off, .int .i64 spread, s 10, .slice ob R.length od, s 12, s 13, s 14, s 15, s 16, s 17, x 13, undef, undef, undef, s 22, s 23, s 24, s 25, s 26, s 27, s 28, s 29, s 30, s 31, s 32, s 33, s 34, s 35, s 36, s 37, s 38, s 39, s 40, s 41, s 42, s 43, s 44, s 45, s 46, s 47, s 48, s 49, s 50, s 51, s 52, s 53, s 54, s 55, s 56, s 57, s 58, s 59, s 60, s 61, s 62, s 63, s 64, s 65, s 66, s 67, s 68, s 69, s 70, s 71, s 72, s 73, s 74, s 75, s 76, s 77, s 78, s 79, s 80, s 81, s 82, s 83, s 84, s 85, s 86, s 87, s 88, s 89, s 90, s 91, s 92, s 93, s 94, s 95, s 96, s 97, s 98, s 99, s 100, s 101, s 102, s 103, s 104, s 105, s 106, s 107, s 108, s 109, s 110, s 111, s 112, s 113, s 114, s 115, s 116, s 117, s 118, s 119, s 120, s 121, s 122, s 123, s 124, s 125, s 126, s 127, s 128, s 129, s 130, s 131, s 132, s 133, s 134, s 135, s 136, s 137, s 138, s 139, s 140, s 141, s 142, s 143, x 10, x 0, x 1, x 2, .int .i64 spread, x 4, x 5, x 6, .int .i64 p, x 8, x 9, x 11, x 12, undef, undef, undef, undef, undef, undef, undef, undef, undef, undef, undef, undef, undef, undef, undef, undef, undef, undef, undef, undef, undef, undef, undef, undef, undef, undef, undef, undef, undef, undef, undef, undef, undef, undef, undef], []⟩ : Act) v
                      refine wpOp_step rfl (fun K' hK' => ?_)
                      go_simp
                      exact hK' _ _ (hK _ _ (Below.refl _ _) (at_of rfl (rfl)))
                    · obtain ⟨a2, c2, e1, rr2⟩ := hd 1 _ (by simp) rfl
                      obtain ⟨x, rfl⟩ := upd_of (show x 1 = .slice a2 k c2 from e1)
                      obtain ⟨x, rfl⟩ := upd_of (show x 2 = .int .i64 off from hd 2 _ (by simp) rfl)
                      obtain ⟨x, rfl⟩ := upd_of (show x 8 = .int .i64 (spread + p) from hd 8 _ (by simp) rfl)
                      show wpOp Try.prog _ _ 9 K (⟨#[s 0, s 1, s 2, s 3, .pointer (some ⟨w.heap.size, 0, none⟩), s 5, s 6, .slice (some ⟨g, 0, none⟩) k cap, .int .i64 off, .int .i64 spread, s 10, .slice ob R.length od, s 12, s 13, s 14, s 15, s 16, s 17, x 13, undef, undef, undef, s 22, s 23, s 24, s 25, s 26, s 27, s 28, s 29, s 30, s 31, s 32, s 33, s 34, s 35, s 36, s 37, s 38, s 39, s 40, s 41, s 42, s 43, s 44, s 45, s 46, s 47, s 48, s 49, s 50, s 51, s 52, s 53, s 54, s 55, s 56, s 57, s 58, s 59, s 60, s 61, s 62, s 63, s 64, s 65, s 66, s 67, s 68, s 69, s 70, s 71, s 72, s 73, s 74, s 75, s 76, s 77, s 78, s 79, s 80, s 81, s 82, s 83, s 84, s 85, s 86, s 87, s 88, s 89, s 90, s 91, s 92, s 93, s 94, s 95, s 96, s 97, s 98, s 99, s 100, s 101, s 102, s 103, s 104, s 105, s 106, s 107, s 108, s 109, s 110, s 111, s 112, s 113, s 114, s 115, s 116, s 117, s 118, s 119, s 120, s 121, s 122, s 123, s 124, s 125, s 126, s 127, s 128, s 129, s 130, s 131, s 132, s 133, s 134, s 135, s 136, s 137, s 138, s 139, s 140, s 141, s 142, s 143, x 10, x 0, .slice a2 k c2, .int .i64 off, x 3, x 4, x 5, x 6, x 7, .int .i64 (spread + p), x 9, x 11, x 12, undef, undef, undef, undef, undef, undef, undef, undef, undef, undef, undef, undef, undef, undef, undef, undef, undef, undef, undef, undef, undef, undef, undef, undef, undef, undef, undef, undef, undef, undef, undef, undef, undef, undef, undef], []⟩ : Act) v
                      refine wpOp_step rfl (fun K' hK' => ?_)
                      go_simp
                      refine (odd_at HLB.out hL (by omega) o0 (by omega) (by omega) (by omega) R2 HR2.out a2 c2 v rr2).mono ?_
                      rintro e v' ⟨b, d, rfl, _, hg⟩
                      exact hK' _ _ (hK _ _ hg (at_of rfl (⟨_, _, rfl⟩)))
                    · obtain ⟨b9, d9, e9⟩ := hd 9 _ (by simp) rfl
                      obtain ⟨x, rfl⟩ := upd_of (show x 9 = .tuple #[.slice b9 R2.length d9, .int .i64 0] from e9)
                      show wpOp Try.prog _ _ 10 K (⟨#[s 0, s 1, s 2, s 3, .pointer (some ⟨w.heap.size, 0, none⟩), s 5, s 6, .slice (some ⟨g, 0, none⟩) k cap, .int .i64 off, .int .i64 spread, s 10, .slice ob R.length od, s 12, s 13, s 14, s 15, s 16, s 17, x 13, undef, undef, undef, s 22, s 23, s 24, s 25, s 26, s 27, s 28, s 29, s 30, s 31, s 32, s 33, s 34, s 35, s 36, s 37, s 38, s 39, s 40, s 41, s 42, s 43, s 44, s 45, s 46, s 47, s 48, s 49, s 50, s 51, s 52, s 53, s 54, s 55, s 56, s 57, s 58, s 59, s 60, s 61, s 62, s 63, s 64, s 65, s 66, s 67, s 68, s 69, s 70, s 71, s 72, s 73, s 74, s 75, s 76, s 77, s 78, s 79, s 80, s 81, s 82, s 83, s 84, s 85, s 86, s 87, s 88, s 89, s 90, s 91, s 92, s 93, s 94, s 95, s 96, s 97, s 98, s 99, s 100, s 101, s 102, s 103, s 104, s 105, s 106, s 107, s 108, s 109, s 110, s 111, s 112, s 113, s 114, s 115, s 116, s 117, s 118, s 119, s 120, s 121, s 122, s 123, s 124, s 125, s 126, s 127, s 128, s 129, s 130, s 131, s 132, s 133, s 134, s 135, s 136, s 137, s 138, s 139, s 140, s 141, s 142, s 143, x 10, x 0, x 1, x 2, x 3, x 4, x 5, x 6, x 7, x 8, .tuple #[.slice b9 R2.length d9, .int .i64 0], x 11, x 12, undef, undef, undef, undef, undef, undef, undef, undef, undef, undef, undef, undef, undef, undef, undef, undef, undef, undef, undef, undef, undef, undef, undef, undef, undef, undef, undef, undef, undef, undef, undef, undef, undef, undef, undef], []⟩ : Act) v
                      refine wpOp_step rfl (fun K' hK' => ?_)
                      go_simp
                      exact hK' _ _ (hK _ _ (Below.refl _ _) (at_of rfl (⟨_, _, rfl⟩)))
                    · obtain ⟨b9, d9, e10⟩ := hd 10 _ (by simp) rfl
                      obtain ⟨x, rfl⟩ := upd_of (show x 10 = .tuple #[.slice b9 R2.length d9, .int .i64 0] from e10)
                      show wpOp Try.prog _ _ 11 K (⟨#[s 0, s 1, s 2, s 3, .pointer (some ⟨w.heap.size, 0, none⟩), s 5, s 6, .slice (some ⟨g, 0, none⟩) k cap, .int .i64 off, .int .i64 spread, s 10, .slice ob R.length od, s 12, s 13, s 14, s 15, s 16, s 17, x 13, undef, undef, undef, s 22, s 23, s 24, s 25, s 26, s 27, s 28, s 29, s 30, s 31, s 32, s 33, s 34, s 35, s 36, s 37, s 38, s 39, s 40, s 41, s 42, s 43, s 44, s 45, s 46, s 47, s 48, s 49, s 50, s 51, s 52, s 53, s 54, s 55, s 56, s 57, s 58, s 59, s 60, s 61, s 62, s 63, s 64, s 65, s 66, s 67, s 68, s 69, s 70, s 71, s 72, s 73, s 74, s 75, s 76, s 77, s 78, s 79, s 80, s 81, s 82, s 83, s 84, s 85, s 86, s 87, s 88, s 89, s 90, s 91, s 92, s 93, s 94, s 95, s 96, s 97, s 98, s 99, s 100, s 101, s 102, s 103, s 104, s 105, s 106, s 107, s 108, s 109, s 110, s 111, s 112, s 113, s 114, s 115, s 116, s 117, s 118, s 119, s 120, s 121, s 122, s 123, s 124, s 125, s 126, s 127, s 128, s 129, s 130, s 131, s 132, s 133, s 134, s 135, s 136, s 137, s 138, s 139, s 140, s 141, s 142, s 143, .tuple #[.slice b9 R2.length d9, .int .i64 0], x 0, x 1, x 2, x 3, x 4, x 5, x 6, x 7, x 8, x 9, x 11, x 12, undef, undef, undef, undef, undef, undef, undef, undef, undef, undef, undef, undef, undef, undef, undef, undef, undef, undef, undef, undef, undef, undef, undef, undef, undef, undef, undef, undef, undef, undef, undef, undef, undef, undef, undef], []⟩ : Act) v
                      refine wpOp_step rfl (fun K' hK' => ?_)
                      go_simp
                      exact hK' _ _ (hK _ _ (Below.refl _ _) (at_of rfl (⟨_, _, rfl⟩)))
                    · obtain ⟨b9, d9, e10⟩ := hd 10 _ (by simp) rfl
                      obtain ⟨x, rfl⟩ := upd_of (show x 10 = .tuple #[.slice b9 R2.length d9, .int .i64 0] from e10)
                      show wpOp Try.prog _ _ 12 K (⟨#[s 0, s 1, s 2, s 3, .pointer (some ⟨w.heap.size, 0, none⟩), s 5, s 6, .slice (some ⟨g, 0, none⟩) k cap, .int .i64 off, .int .i64 spread, s 10, .slice ob R.length od, s 12, s 13, s 14, s 15, s 16, s 17, x 13, undef, undef, undef, s 22, s 23, s 24, s 25, s 26, s 27, s 28, s 29, s 30, s 31, s 32, s 33, s 34, s 35, s 36, s 37, s 38, s 39, s 40, s 41, s 42, s 43, s 44, s 45, s 46, s 47, s 48, s 49, s 50, s 51, s 52, s 53, s 54, s 55, s 56, s 57, s 58, s 59, s 60, s 61, s 62, s 63, s 64, s 65, s 66, s 67, s 68, s 69, s 70, s 71, s 72, s 73, s 74, s 75, s 76, s 77, s 78, s 79, s 80, s 81, s 82, s 83, s 84, s 85, s 86, s 87, s 88, s 89, s 90, s 91, s 92, s 93, s 94, s 95, s 96, s 97, s 98, s 99, s 100, s 101, s 102, s 103, s 104, s 105, s 106, s 107, s 108, s 109, s 110, s 111, s 112, s 113, s 114, s 115, s 116, s 117, s 118, s 119, s 120, s 121, s 122, s 123, s 124, s 125, s 126, s 127, s 128, s 129, s 130, s 131, s 132, s 133, s 134, s 135, s 136, s 137, s 138, s 139, s 140, s 141, s 142, s 143, .tuple #[.slice b9 R2.length d9, .int .i64 0], x 0, x 1, x 2, x 3, x 4, x 5, x 6, x 7, x 8, x 9, x 11, x 12, undef, undef, undef, undef, undef, undef, undef, undef, undef, undef, undef, undef, undef, undef, undef, undef, undef, undef, undef, undef, undef, undef, undef, undef, undef, undef, undef, undef, undef, undef, undef, undef, undef, undef, undef], []⟩ : Act) v
                      refine wpOp_step rfl (fun K' hK' => ?_)
                      go_simp
                      exact hK' _ _ (hK _ _ (Below.refl _ _) (at_of rfl (rfl)))
                    · obtain ⟨b9, d9, e11⟩ := hd 11 _ (by simp) rfl
                      obtain ⟨x, rfl⟩ := upd_of (show x 11 = .slice b9 R2.length d9 from e11)
                      show wpOp Try.prog _ _ 13 K (⟨#[s 0, s 1, s 2, s 3, .pointer (some ⟨w.heap.size, 0, none⟩), s 5, s 6, .slice (some ⟨g, 0, none⟩) k cap, .int .i64 off, .int .i64 spread, s 10, .slice ob R.length od, s 12, s 13, s 14, s 15, s 16, s 17, x 13, undef, undef, undef, s 22, s 23, s 24, s 25, s 26, s 27, s 28, s 29, s 30, s 31, s 32, s 33, s 34, s 35, s 36, s 37, s 38, s 39, s 40, s 41, s 42, s 43, s 44, s 45, s 46, s 47, s 48, s 49, s 50, s 51, s 52, s 53, s 54, s 55, s 56, s 57, s 58, s 59, s 60, s 61, s 62, s 63, s 64, s 65, s 66, s 67, s 68, s 69, s 70, s 71, s 72, s 73, s 74, s 75, s 76, s 77, s 78, s 79, s 80, s 81, s 82, s 83, s 84, s 85, s 86, s 87, s 88, s 89, s 90, s 91, s 92, s 93, s 94, s 95, s 96, s 97, s 98, s 99, s 100, s 101, s 102, s 103, s 104, s 105, s 106, s 107, s 108, s 109, s 110, s 111, s 112, s 113, s 114, s 115, s 116, s 117, s 118, s 119, s 120, s 121, s 122, s 123, s 124, s 125, s 126, s 127, s 128, s 129, s 130, s 131, s 132, s 133, s 134, s 135, s 136, s 137, s 138, s 139, s 140, s 141, s 142, s 143, x 10, x 0, x 1, x 2, x 3, x 4, x 5, x 6, x 7, x 8, x 9, .slice b9 R2.length d9, x 12, undef, undef, undef, undef, undef, undef, undef, undef, undef, undef, undef, undef, undef, undef, undef, undef, undef, undef, undef, undef, undef, undef, undef, undef, undef, undef, undef, undef, undef, undef, undef, undef, undef, undef, undef], []⟩ : Act) v
                      refine wpOp_step rfl (fun K' hK' => ?_)
                      go_simp
                      exact hK' _ _ (hK _ _ (Below.refl _ _) (at_of rfl (⟨_, _, rfl⟩)))
                  case fin25A =>
                    rintro x v gv hd
                    obtain ⟨x, rfl⟩ := upd_of (show x 12 = .int .i64 0 from hd 12 _ (by omega) rfl)
                    obtain ⟨b9, d9, e13⟩ := hd 13 _ (by omega) rfl
                    obtain ⟨x, rfl⟩ := upd_of (show x 13 = .slice b9 R2.length d9 from e13)
                    clear hd
                    show wpList Try.prog _ _ (List.drop 14 _) (⟨#[s 0, s 1, s 2, s 3, .pointer (some ⟨w.heap.size, 0, none⟩), s 5, s 6, .slice (some ⟨g, 0, none⟩) k cap, .int .i64 off, .int .i64 spread, s 10, .slice ob R.length od, s 12, s 13, s 14, s 15, s 16, s 17, .slice b9 R2.length d9, undef, undef, undef, s 22, s 23, s 24, s 25, s 26, s 27, s 28, s 29, s 30, s 31, s 32, s 33, s 34, s 35, s 36, s 37, s 38, s 39, s 40, s 41, s 42, s 43, s 44, s 45, s 46, s 47, s 48, s 49, s 50, s 51, s 52, s 53, s 54, s 55, s 56, s 57, s 58, s 59, s 60, s 61, s 62, s 63, s 64, s 65, s 66, s 67, s 68, s 69, s 70, s 71, s 72, s 73, s 74, s 75, s 76, s 77, s 78, s 79, s 80, s 81, s 82, s 83, s 84, s 85, s 86, s 87, s 88, s 89, s 90, s 91, s 92, s 93, s 94, s 95, s 96, s 97, s 98, s 99, s 100, s 101, s 102, s 103, s 104, s 105, s 106, s 107, s 108, s 109, s 110, s 111, s 112, s 113, s 114, s 115, s 116, s 117, s 118, s 119, s 120, s 121, s 122, s 123, s 124, s 125, s 126, s 127, s 128, s 129, s 130, s 131, s 132, s 133, s 134, s 135, s 136, s 137, s 138, s 139, s 140, s 141, s 142, s 143, x 10, x 0, x 1, x 2, x 3, x 4, x 5, x 6, x 7, x 8, x 9, x 11, .int .i64 0, undef, undef, undef, undef, undef, undef, undef, undef, undef, undef, undef, undef, undef, undef, undef, undef, undef, undef, undef, undef, undef, undef, undef, undef, undef, undef, undef, undef, undef, undef, undef, undef, undef, undef, undef], []⟩ : Act) v
                    simp only [List.drop_succ_cons, List.drop_zero]
                    have rLy := rLz.grow gv
                    have gY := gZ.tr gv
                    obtain ⟨q0, q1, q2⟩ := Box.c3p (hxz.keep gv)
                    clear rLz gZ hxz gv
                    have d2 : decide ((R2.length : Int) ≤ (R.length : Int)) = true := by simp; omega
                    have d3 : decide ((R3.length : Int) ≤ (R.length : Int)) = true := by simp; omega
                    go_wp2_with (first
                      | (go_at_call 27; refine (odd_at HLB.out hL (by omega) (by omega) (by omega) s0 (by omega) R3 HR3.out _ _ _ rLy).mono ?_; rintro e w8 ⟨b8, d8, rfl, _, g8⟩)
                      | (go_at_call 16; refine (known_any _).mono ?_; rintro e w9 ⟨rfl, g9⟩))
                    go_ret
                    exact ⟨rfl, gY.tr (g8.tr g9)⟩
                · have d1 : decide ((m : Int) < (R.length : Int)) = false := by simp; omega
                  go_upto_region 25 with (go_at_call 51; refine (HN1.out _ (Below.refl _ _)).mono ?_; rintro e w5 ⟨rfl, g5⟩)
                  clear d1
                  have gN := g5
                  have rLz := rLw.grow gN
                  have hxz := hxw.keep gN
                  have gZ := gXw.tr gN
                  obtain ⟨p, hp⟩ : ∃ p, v2 % 9 = p := ⟨_, rfl⟩
                  obtain ⟨p7, hp7⟩ : ∃ p, v2 % 7 = p := ⟨_, rfl⟩
                  have p0 : 0 ≤ p ∧ p ≤ 8 := by omega
                  have p1 : 0 ≤ p7 ∧ p7 ≤ 6 := by omega
                  have w1 : IntKind.i64.wrap v2 = v2 := IntWalk.i64_in _ (by omega)
                  have w2 : v2.tmod 9 = p := by rw [Int.tmod_eq_emod_of_nonneg h2.1]; exact hp
                  have w3 : v2.tmod 7 = p7 := by rw [Int.tmod_eq_emod_of_nonneg h2.1]; exact hp7
                  have w4 : IntKind.i64.wrap (spread + p) = spread + p := IntWalk.i64_in _ (by omega)
                  have w5q : IntKind.i64.wrap (off + p7) = off + p7 := IntWalk.i64_in _ (by omega)
                  have w6q : IntKind.i64.wrap p = p := IntWalk.i64_in _ (by omega)
                  have w7q : IntKind.i64.wrap p7 = p7 := IntWalk.i64_in _ (by omega)
                  obtain ⟨R2, hR2⟩ : ∃ R2, oddTo off (spread + p) L L.length = R2 := ⟨_, rfl⟩
                  obtain ⟨R3, hR3⟩ : ∃ R3, oddTo (off + p7) spread L L.length = R3 := ⟨_, rfl⟩
                  have hm2 : R2.length ≤ R.length := by rw [← hR2, ← HR.out]; exact odd_more HRD.out o0 (Int.le_refl _) (by omega) (by omega)
                  have hm3 : R3.length ≤ R.length := by rw [← hR3, ← HR.out]; exact odd_more HRD.out o0 (by omega) (by omega) (Int.le_refl _)
                  have HR2 := Lib.hid hR2
                  have HR3 := Lib.hid hR3
                  have hli : ∀ v, IRow v (some ⟨g, 0, none⟩) L → Calls Try.prog 17 #[.slice (some ⟨g, 0, none⟩) k cap] v fun e w' => ∃ a' cap', e = .returned (.slice a' k cap') ∧ IRow w' a' L ∧ (a' = none → cap' = 0) ∧ k ≤ cap' ∧ Gr v w' := fun v h => by
                    have := lints_any L (by omega) g 0 cap v h
                    rw [hL] at this
                    exact this
                  have HLI := Lib.hid hli
                  clear hR2 hR3 hp hp7 hli
                  refine (show (∀ s : Nat → Value, Code.wp Try.prog _ _ ⟨#[s 0, s 1, s 2, s 3, .pointer (some ⟨w.heap.size, 0, none⟩), s 5, s 6, .slice (some ⟨g, 0, none⟩) k cap, .int .i64 off, .int .i64 spread, s 10, .slice ob R.length od, s 12, s 13, s 14, s 15, s 16, s 17, undef, undef, undef, undef, s 22, s 23, s 24, s 25, s 26, s 27, s 28, s 29, s 30, s 31, s 32, s 33, s 34, s 35, s 36, s 37, s 38, s 39, s 40, s 41, s 42, s 43, s 44, s 45, s 46, s 47, s 48, s 49, s 50, s 51, s 52, s 53, s 54, s 55, s 56, s 57, s 58, s 59, s 60, s 61, s 62, s 63, s 64, s 65, s 66, s 67, s 68, s 69, s 70, s 71, s 72, s 73, s 74, s 75, s 76, s 77, s 78, s 79, s 80, s 81, s 82, s 83, s 84, s 85, s 86, s 87, s 88, s 89, s 90, s 91, s 92, s 93, s 94, s 95, s 96, s 97, s 98, s 99, s 100, s 101, s 102, s 103, s 104, s 105, s 106, s 107, s 108, s 109, s 110, s 111, s 112, s 113, s 114, s 115, s 116, s 117, s 118, s 119, s 120, s 121, s 122, s 123, s 124, s 125, s 126, s 127, s 128, s 129, s 130, s 131, s 132, s 133, s 134, s 135, s 136, s 137, s 138, s 139, s 140, s 141, s 142, s 143, undef, undef, undef, undef, undef, undef, undef, undef, undef, undef, undef, undef, undef, undef, undef, undef, undef, undef, undef, undef, undef, undef, undef, undef, undef, undef, undef, undef, undef, undef, undef, undef, undef, undef, undef, undef, undef, undef, undef, undef, undef, undef, undef, undef, undef, undef, undef, undef], []⟩ _) → _ from fun h => h ((fun l : List Value => fun i => l.getD i undef) [_, _, _, _, undef, _, _, undef, undef, undef, _, undef, _, _, _, _, _, _, undef, undef, undef, undef, _, _, _, _, _, _, _, _, _, _, _, _, _, _, _, _, _, _, _, _, _, _, _, _, _, _, _, _, _, _, _, _, _, _, _, _, _, _, _, _, _, _, _, _, _, _, _, _, _, _, _, _, _, _, _, _, _, _, _, _, _, _, _, _, _, _, _, _, _, _, _, _, _, _, _, _, _, _, _, _, _, _, _, _, _, _, _, _, _, _, _, _, _, _, _, _, _, _, _, _, _, _, _, _, _, _, _, _, _, _, _, _, _, _, _, _, _, _, _, _, _, _])) ?_
                  intro s
                  dsimp only
                  refine wp_region_facts 14 [(1, 0), (5, 4), (6, 5), (7, 6), (8, 3), (8, 7), (9, 1), (9, 2), (9, 8), (10, 9), (11, 10), (12, 10), (13, 11)] (fun x => ⟨#[s 0, s 1, s 2, s 3, .pointer (some ⟨w.heap.size, 0, none⟩), s 5, s 6, .slice (some ⟨g, 0, none⟩) k cap, .int .i64 off, .int .i64 spread, s 10, .slice ob R.length od, s 12, s 13, s 14, s 15, s 16, s 17, x 13, undef, undef, undef, s 22, s 23, s 24, s 25, s 26, s 27, s 28, s 29, s 30, s 31, s 32, s 33, s 34, s 35, s 36, s 37, s 38, s 39, s 40, s 41, s 42, s 43, s 44, s 45, s 46, s 47, s 48, s 49, s 50, s 51, s 52, s 53, s 54, s 55, s 56, s 57, s 58, s 59, s 60, s 61, s 62, s 63, s 64, s 65, s 66, s 67, s 68, s 69, s 70, s 71, s 72, s 73, s 74, s 75, s 76, s 77, s 78, s 79, s 80, s 81, s 82, s 83, s 84, s 85, s 86, s 87, s 88, s 89, s 90, s 91, s 92, s 93, s 94, s 95, s 96, s 97, s 98, s 99, s 100, s 101, s 102, s 103, s 104, s 105, s 106, s 107, s 108, s 109, s 110, s 111, s 112, s 113, s 114, s 115, s 116, s 117, s 118, s 119, s 120, s 121, s 122, s 123, s 124, s 125, s 126, s 127, s 128, s 129, s 130, s 131, s 132, s 133, s 134, s 135, s 136, s 137, s 138, s 139, s 140, s 141, s 142, s 143, x 10, x 0, x 1, x 2, x 3, x 4, x 5, x 6, x 7, x 8, x 9, x 11, x 12, undef, undef, undef, undef, undef, undef, undef, undef, undef, undef, undef, undef, undef, undef, undef, undef, undef, undef, undef, undef, undef, undef, undef, undef, undef, undef, undef, undef, undef, undef, undef, undef, undef, undef, undef], []⟩) (fun _ => undef) [fun _ x => x = .slice (some ⟨g, 0, none⟩) k cap, fun v x => ∃ a c, x = .slice a k c ∧ IRow v a L, fun _ x => x = .int .i64 off, fun _ x => x = .int .i64 spread, fun _ x => x = .pointer (some ⟨w.heap.size, 2, none⟩), fun _ x => x = .int .u8 v2, fun _ x => x = .int .i64 v2, fun _ x => x = .int .i64 p, fun _ x => x = .int .i64 (spread + p), fun v x => ∃ b d, x = .tuple #[.slice b R2.length d, .int .i64 0], fun v x => ∃ b d, x = .tuple #[.slice b R2.length d, .int .i64 0], fun v x => ∃ b d, x = .slice b R2.length d, fun _ x => x = .int .i64 0, fun v x => ∃ b d, x = .slice b R2.length d] (by rfl) (by kernel_rfl) (by kernel_rfl) (by kernel_rfl) (stays_cons (Stays.eq _) (stays_cons ((show Stays (fun v x => ∃ a c, x = .slice a k c ∧ IRow v a L) from fun v v' x g ⟨a, c, h, r⟩ => ⟨a, c, h, r.grow g⟩)) (stays_cons (Stays.eq _) (stays_cons (Stays.eq _) (stays_cons (Stays.eq _) (stays_cons (Stays.eq _) (stays_cons (Stays.eq _) (stays_cons (Stays.eq _) (stays_cons (Stays.eq _) (stays_cons ((show Stays (fun v x => ∃ b d, x = .tuple #[.slice b R2.length d, .int .i64 0]) from fun v v' x g h => h)) (stays_cons ((show Stays (fun v x => ∃ b d, x = .tuple #[.slice b R2.length d, .int .i64 0]) from fun v v' x g h => h)) (stays_cons ((show Stays (fun v x => ∃ b d, x = .slice b R2.length d) from fun v v' x g h => h)) (stays_cons (Stays.eq _) (stays_cons ((show Stays (fun v x => ∃ b d, x = .slice b R2.length d) from fun v v' x g h => h)) stays_nil)))))))))))))) ?step25B ?fin25B
                  case step25B =>
                    rintro i hi x v gv hd K hK
                    have hi8 : i = 0 ∨ i = 1 ∨ i = 2 ∨ i = 3 ∨ i = 4 ∨ i = 5 ∨ i = 6 ∨ i = 7 ∨ i = 8 ∨ i = 9 ∨ i = 10 ∨ i = 11 ∨ i = 12 ∨ i = 13 := by omega
                    rcases hi8 with rfl | rfl | rfl | rfl | rfl | rfl | rfl | rfl | rfl | rfl | rfl | rfl | rfl | rfl
                    · show wpOp Try.prog _ _ 0 K (⟨#[s 0, s 1, s 2, s 3, .pointer (some ⟨w.heap.size, 0, none⟩), s 5, s 6, .slice (some ⟨g, 0, none⟩) k cap, .int .i64 off, .int .i64 spread, s 10, .slice ob R.length od, s 12, s 13, s 14, s 15, s 16, s 17, x 13, undef, undef, undef, s 22, s 23, s 24, s 25, s 26, s 27, s 28, s 29, s 30, s 31, s 32, s 33, s 34, s 35, s 36, s 37, s 38, s 39, s 40, s 41, s 42, s 43, s 44, s 45, s 46, s 47, s 48, s 49, s 50, s 51, s 52, s 53, s 54, s 55, s 56, s 57, s 58, s 59, s 60, s 61, s 62, s 63, s 64, s 65, s 66, s 67, s 68, s 69, s 70, s 71, s 72, s 73, s 74, s 75, s 76, s 77, s 78, s 79, s 80, s 81, s 82, s 83, s 84, s 85, s 86, s 87, s 88, s 89, s 90, s 91, s 92, s 93, s 94, s 95, s 96, s 97, s 98, s 99, s 100, s 101, s 102, s 103, s 104, s 105, s 106, s 107, s 108, s 109, s 110, s 111, s 112, s 113, s 114, s 115, s 116, s 117, s 118, s 119, s 120, s 121, s 122, s 123, s 124, s 125, s 126, s 127, s 128, s 129, s 130, s 131, s 132, s 133, s 134, s 135, s 136, s 137, s 138, s 139, s 140, s 141, s 142, s 143, x 10, x 0, x 1, x 2, x 3, x 4, x 5, x 6, x 7, x 8, x 9, x 11, x 12, undef, undef, undef, undef, undef, undef, undef, undef, undef, undef, undef, undef, undef, undef, undef, undef, undef, undef, undef, undef, undef, undef, undef, undef, undef, undef, undef, undef, undef, undef, undef, undef, undef, undef, undef], []⟩ : Act) v
                      refine wpOp_step rfl (fun K' hK' => ?_)
                      go_simp
                      exact hK' _ _ (hK _ _ (Below.refl _ _) (at_of rfl (rfl)))
                    · obtain ⟨x, rfl⟩ := upd_of (show x 0 = .slice (some ⟨g, 0, none⟩) k cap from hd 0 _ (by simp) rfl)
                      show wpOp Try.prog _ _ 1 K (⟨#[s 0, s 1, s 2, s 3, .pointer (some ⟨w.heap.size, 0, none⟩), s 5, s 6, .slice (some ⟨g, 0, none⟩) k cap, .int .i64 off, .int .i64 spread, s 10, .slice ob R.length od, s 12, s 13, s 14, s 15, s 16, s 17, x 13, undef, undef, undef, s 22, s 23, s 24, s 25, s 26, s 27, s 28, s 29, s 30, s 31, s 32, s 33, s 34, s 35, s 36, s 37, s 38, s 39, s 40, s 41, s 42, s 43, s 44, s 45, s 46, s 47, s 48, s 49, s 50, s 51, s 52, s 53, s 54, s 55, s 56, s 57, s 58, s 59, s 60, s 61, s 62, s 63, s 64, s 65, s 66, s 67, s 68, s 69, s 70, s 71, s 72, s 73, s 74, s 75, s 76, s 77, s 78, s 79, s 80, s 81, s 82, s 83, s 84, s 85, s 86, s 87, s 88, s 89, s 90, s 91, s 92, s 93, s 94, s 95, s 96, s 97, s 98, s 99, s 100, s 101, s 102, s 103, s 104, s 105, s 106, s 107, s 108, s 109, s 110, s 111, s 112, s 113, s 114, s 115, s 116, s 117, s 118, s 119, s 120, s 121, s 122, s 123, s 124, s 125, s 126, s 127, s 128, s 129, s 130, s 131, s 132, s 133, s 134, s 135, s 136, s 137, s 138, s 139, s 140, s 141, s 142, s 143, x 10, .slice (some ⟨g, 0, none⟩) k cap, x 1, x 2, x 3, x 4, x 5, x 6, x 7, x 8, x 9, x 11, x 12, undef, undef, undef, undef, undef, undef, undef, undef, undef, undef, undef, undef, undef, undef, undef, undef, undef, undef, undef, undef, undef, undef, undef, undef, undef, undef, undef, undef, undef, undef, undef, undef, undef, undef, undef], []⟩ : Act) v
                      refine wpOp_step rfl (fun K' hK' => ?_)
                      go_simp
                      refine (HLI.out v (rLz.grow gv)).mono ?_
                      rintro e v' ⟨a, c, rfl, hr2, _, _, hg⟩
                      exact hK' _ _ (hK _ _ hg (at_of rfl (⟨_, _, rfl, hr2⟩)))
                    · show wpOp Try.prog _ _ 2 K (⟨#[s 0, s 1, s 2, s 3, .pointer (some ⟨w.heap.size, 0, none⟩), s 5, s 6, .slice (some ⟨g, 0, none⟩) k cap, .int .i64 off, .int .i64 spread, s 10, .slice ob R.length od, s 12, s 13, s 14, s 15, s 16, s 17, x 13, undef, undef, undef, s 22, s 23, s 24, s 25, s 26, s 27, s 28, s 29, s 30, s 31, s 32, s 33, s 34, s 35, s 36, s 37, s 38, s 39, s 40, s 41, s 42, s 43, s 44, s 45, s 46, s 47, s 48, s 49, s 50, s 51, s 52, s 53, s 54, s 55, s 56, s 57, s 58, s 59, s 60, s 61, s 62, s 63, s 64, s 65, s 66, s 67, s 68, s 69, s 70, s 71, s 72, s 73, s 74, s 75, s 76, s 77, s 78, s 79, s 80, s 81, s 82, s 83, s 84, s 85, s 86, s 87, s 88, s 89, s 90, s 91, s 92, s 93, s 94, s 95, s 96, s 97, s 98, s 99, s 100, s 101, s 102, s 103, s 104, s 105, s 106, s 107, s 108, s 109, s 110, s 111, s 112, s 113, s 114, s 115, s 116, s 117, s 118, s 119, s 120, s 121, s 122, s 123, s 124, s 125, s 126, s 127, s 128, s 129, s 130, s 131, s 132, s 133, s 134, s 135, s 136, s 137, s 138, s 139, s 140, s 141, s 142, s 143, x 10, x 0, x 1, x 2, x 3, x 4, x 5, x 6, x 7, x 8, x 9, x 11, x 12, undef, undef, undef, undef, undef, undef, undef, undef, undef, undef, undef, undef, undef, undef, undef, undef, undef, undef, undef, undef, undef, undef, undef, undef, undef, undef, undef, undef, undef, undef, undef, undef, undef, undef, undef], []⟩ : Act) v
                      refine wpOp_step rfl (fun K' hK' => ?_)
                      go_simp
                      exact hK' _ _ (hK _ _ (Below.refl _ _) (at_of rfl (rfl)))
                    · show wpOp Try.prog _ _ 3 K (⟨#[s 0, s 1, s 2, s 3, .pointer (some ⟨w.heap.size, 0, none⟩), s 5, s 6, .slice (some ⟨g, 0, none⟩) k cap, .int .i64 off, .int .i64 spread, s 10, .slice ob R.length od, s 12, s 13, s 14, s 15, s 16, s 17, x 13, undef, undef, undef, s 22, s 23, s 24, s 25, s 26, s 27, s 28, s 29, s 30, s 31, s 32, s 33, s 34, s 35, s 36, s 37, s 38, s 39, s 40, s 41, s 42, s 43, s 44, s 45, s 46, s 47, s 48, s 49, s 50, s 51, s 52, s 53, s 54, s 55, s 56, s 57, s 58, s 59, s 60, s 61, s 62, s 63, s 64, s 65, s 66, s 67, s 68, s 69, s 70, s 71, s 72, s 73, s 74, s 75, s 76, s 77, s 78, s 79, s 80, s 81, s 82, s 83, s 84, s 85, s 86, s 87, s 88, s 89, s 90, s 91, s 92, s 93, s 94, s 95, s 96, s 97, s 98, s 99, s 100, s 101, s 102, s 103, s 104, s 105, s 106, s 107, s 108, s 109, s 110, s 111, s 112, s 113, s 114, s 115, s 116, s 117, s 118, s 119, s 120, s 121, s 122, s 123, s 124, s 125, s 126, s 127, s 128, s 129, s 130, s 131, s 132, s 133, s 134, s 135, s 136, s 137, s 138, s 139, s 140, s 141, s 142, s 143, x 10, x 0, x 1, x 2, x 3, x 4, x 5, x 6, x 7, x 8, x 9, x 11, x 12, undef, undef, undef, undef, undef, undef, undef, undef, undef, undef, undef, undef, undef, undef, undef, undef, undef, undef, undef, undef, undef, undef, undef, undef, undef, undef, undef, undef, undef, undef, undef, undef, undef, undef, undef], []⟩ : Act) v
                      refine wpOp_step rfl (fun K' hK' => ?_)
                      go_simp
                      exact hK' _ _ (hK _ _ (Below.refl _ _) (at_of rfl (rfl)))
                    · show wpOp Try.prog _ _ 4 K (⟨#[s 0, s 1, s 2, s 3, .pointer (some ⟨w.heap.size, 0, none⟩), s 5, s 6, .slice (some ⟨g, 0, none⟩) k cap, .int .i64 off, .int .i64 spread, s 10, .slice ob R.length od, s 12, s 13, s 14, s 15, s 16, s 17, x 13, undef, undef, undef, s 22, s 23, s 24, s 25, s 26, s 27, s 28, s 29, s 30, s 31, s 32, s 33, s 34, s 35, s 36, s 37, s 38, s 39, s 40, s 41, s 42, s 43, s 44, s 45, s 46, s 47, s 48, s 49, s 50, s 51, s 52, s 53, s 54, s 55, s 56, s 57, s 58, s 59, s 60, s 61, s 62, s 63, s 64, s 65, s 66, s 67, s 68, s 69, s 70, s 71, s 72, s 73, s 74, s 75, s 76, s 77, s 78, s 79, s 80, s 81, s 82, s 83, s 84, s 85, s 86, s 87, s 88, s 89, s 90, s 91, s 92, s 93, s 94, s 95, s 96, s 97, s 98, s 99, s 100, s 101, s 102, s 103, s 104, s 105, s 106, s 107, s 108, s 109, s 110, s 111, s 112, s 113, s 114, s 115, s 116, s 117, s 118, s 119, s 120, s 121, s 122, s 123, s 124, s 125, s 126, s 127, s 128, s 129, s 130, s 131, s 132, s 133, s 134, s 135, s 136, s 137, s 138, s 139, s 140, s 141, s 142, s 143, x 10, x 0, x 1, x 2, x 3, x 4, x 5, x 6, x 7, x 8, x 9, x 11, x 12, undef, undef, undef, undef, undef, undef, undef, undef, undef, undef, undef, undef, undef, undef, undef, undef, undef, undef, undef, undef, undef, undef, undef, undef, undef, undef, undef, undef, undef, undef, undef, undef, undef, undef, undef], []⟩ : Act) v
                      refine wpOp_step rfl (fun K' hK' => ?_)
                      go_simp
                      exact hK' _ _ (hK _ _ (Below.refl _ _) (at_of rfl (rfl)))
                    · obtain ⟨x, rfl⟩ := upd_of (show x 4 = .pointer (some ⟨w.heap.size, 2, none⟩) from hd 4 _ (by simp) rfl)
                      show wpOp Try.prog _ _ 5 K (⟨#[s 0, s 1, s 2, s 3, .pointer (some ⟨w.heap.size, 0, none⟩), s 5, s 6, .slice (some ⟨g, 0, none⟩) k cap, .int .i64 off, .int .i64 spread, s 10, .slice ob R.length od, s 12, s 13, s 14, s 15, s 16, s 17, x 13, undef, undef, undef, s 22, s 23, s 24, s 25, s 26, s 27, s 28, s 29, s 30, s 31, s 32, s 33, s 34, s 35, s 36, s 37, s 38, s 39, s 40, s 41, s 42, s 43, s 44, s 45, s 46, s 47, s 48, s 49, s 50, s 51, s 52, s 53, s 54, s 55, s 56, s 57, s 58, s 59, s 60, s 61, s 62, s 63, s 64, s 65, s 66, s 67, s 68, s 69, s 70, s 71, s 72, s 73, s 74, s 75, s 76, s 77, s 78, s 79, s 80, s 81, s 82, s 83, s 84, s 85, s 86, s 87, s 88, s 89, s 90, s 91, s 92, s 93, s 94, s 95, s 96, s 97, s 98, s 99, s 100, s 101, s 102, s 103, s 104, s 105, s 106, s 107, s 108, s 109, s 110, s 111, s 112, s 113, s 114, s 115, s 116, s 117, s 118, s 119, s 120, s 121, s 122, s 123, s 124, s 125, s 126, s 127, s 128, s 129, s 130, s 131, s 132, s 133, s 134, s 135, s 136, s 137, s 138, s 139, s 140, s 141, s 142, s 143, x 10, x 0, x 1, x 2, x 3, .pointer (some ⟨w.heap.size, 2, none⟩), x 5, x 6, x 7, x 8, x 9, x 11, x 12, undef, undef, undef, undef, undef, undef, undef, undef, undef, undef, undef, undef, undef, undef, undef, undef, undef, undef, undef, undef, undef, undef, undef, undef, undef, undef, undef, undef, undef, undef, undef, undef, undef, undef, undef], []⟩ : Act) v
                      refine wpOp_step rfl (fun K' hK' => ?_)
                      have q := (hxz.keep gv).2 2 _ rfl
                      go_simp
                      exact hK' _ _ (hK _ _ (Below.refl _ _) (at_of rfl (rfl)))
                    · obtain ⟨x, rfl⟩ := upd_of (show x 5 = .int .u8 v2 from hd 5 _ (by simp) rfl)
                      show wpOp Try.prog _ _ 6 K (⟨#[s 0, s 1, s 2, s 3, .pointer (some ⟨w.heap.size, 0, none⟩), s 5, s 6, .slice (some ⟨g, 0, none⟩) k cap, .int .i64 off, .int .i64 spread, s 10, .slice ob R.length od, s 12, s 13, s 14, s 15, s 16, s 17, x 13, undef, undef, undef, s 22, s 23, s 24, s 25, s 26, s 27, s 28, s 29, s 30, s 31, s 32, s 33, s 34, s 35, s 36, s 37, s 38, s 39, s 40, s 41, s 42, s 43, s 44, s 45, s 46, s 47, s 48, s 49, s 50, s 51, s 52, s 53, s 54, s 55, s 56, s 57, s 58, s 59, s 60, s 61, s 62, s 63, s 64, s 65, s 66, s 67, s 68, s 69, s 70, s 71, s 72, s 73, s 74, s 75, s 76, s 77, s 78, s 79, s 80, s 81, s 82, s 83, s 84, s 85, s 86, s 87, s 88, s 89, s 90, s 91, s 92, s 93, s 94, s 95, s 96, s 97, s 98, s 99, s 100, s 101, s 102, s 103, s 104, s 105, s 106, s 107, s 108, s 109, s 110, s 111, s 112, s 113, s 114, s 115, s 116, s 117, s 118, s 119, s 120, s 121, s 122, s 123, s 124, s 125, s 126, s 127, s 128, s 129, s 130, s 131, s 132, s 133, s 134, s 135, s 136, s 137, s 138, s 139, s 140, s 141, s 142, s 143, x 10, x 0, x 1, x 2, x 3, x 4, .int .u8 v2, x 6, x 7, x 8, x 9, x 11, x 12, undef, undef, undef, undef, undef, undef, undef, undef, undef, undef, undef, undef, undef, undef, undef, undef, undef, undef, undef, undef, undef, undef, undef, undef, undef, undef, undef, undef, undef, undef, undef, undef, undef, undef, undef], []⟩ : Act) v
                      refine wpOp_step rfl (fun K' hK' => ?_)
                      go_simp
                      exact hK' _ _ (hK _ _ (Below.refl _ _) (at_of rfl (rfl)))
                    · obtain ⟨x, rfl⟩ := upd_of (show x 6 = .int .i64 v2 from hd 6 _ (by simp) rfl)
                      show wpOp Try.prog _ _ 7 K (⟨#[s 0, s 1, s 2, s 3, .pointer (some ⟨w.heap.size, 0, none⟩), s 5, s 6, .slice (some ⟨g, 0, none⟩) k cap, .int .i64 off, .int .i64 spread, s 10, .slice ob R.length od, s 12, s 13, s 14, s 15, s 16, s 17, x 13, undef, undef, undef, s 22, s 23, s 24, s 25, s 26, s 27, s 28, s 29, s 30, s 31, s 32, s 33, s 34, s 35, s 36, s 37, s 38, s 39, s 40, s 41, s 42, s 43, s 44, s 45, s 46, s 47, s 48, s 49, s 50, s 51, s 52, s 53, s 54, s 55, s 56, s 57, s 58, s 59, s 60, s 61, s 62, s 63, s 64, s 65, s 66, s 67, s 68, s 69, s 70, s 71, s 72, s 73, s 74, s 75, s 76, s 77, s 78, s 79, s 80, s 81, s 82, s 83, s 84, s 85, s 86, s 87, s 88, s 89, s 90, s 91, s 92, s 93, s 94, s 95, s 96, s 97, s 98, s 99, s 100, s 101, s 102, s 103, s 104, s 105, s 106, s 107, s 108, s 109, s 110, s 111, s 112, s 113, s 114, s 115, s 116, s 117, s 118, s 119, s 120, s 121, s 122, s 123, s 124, s 125, s 126, s 127, s 128, s 129, s 130, s 131, s 132, s 133, s 134, s 135, s 136, s 137, s 138, s 139, s 140, s 141, s 142, s 143, x 10, x 0, x 1, x 2, x 3, x 4, x 5, .int .i64 v2, x 7, x 8, x 9, x 11, x 12, undef, undef, undef, undef, undef, undef, undef, undef, undef, undef, undef, undef, undef, undef, undef, undef, undef, undef, undef, undef, undef, undef, undef, undef, undef, undef, undef, undef, undef, undef, undef, undef, undef, undef, undef], []⟩ : Act) v
                      refine wpOp_step rfl (fun K' hK' => ?_)
                      go_simp
                      exact hK' _ _ (hK _ _ (Below.refl _ _) (at_of rfl (rfl)))
                    · obtain ⟨x, rfl⟩ := upd_of (show x 3 = .int .i64 spread from hd 3 _ (by simp) rfl)
                      obtain ⟨x, rfl⟩ := upd_of (show x 7 = .int .i64 p from hd 7 _ (by simp) rfl)
                      show wpOp Try.prog _ _ 8 K (⟨#[s 0, s 1, s 2, s 3, .pointer (some ⟨w.heap.size, 0, none⟩), s 5, s 6, .slice (some ⟨g, 0, none⟩) k cap, .int .i64 off, .int .i64 spread, s 10, .slice ob R.length od, s 12, s 13, s 14, s 15, s 16, s 17, x 13, undef, undef, undef, s 22, s 23, s 24, s 25, s 26, s 27, s 28, s 29, s 30, s 31, s 32, s 33, s 34, s 35, s 36, s 37, s 38, s 39, s 40, s 41, s 42, s 43, s 44, s 45, s 46, s 47, s 48, s 49, s 50, s 51, s 52, s 53, s 54, s 55, s 56, s 57, s 58, s 59, s 60, s 61, s 62, s 63, s 64, s 65, s 66, s 67, s 68, s 69, s 70, s 71, s 72, s 73, s 74, s 75, s 76, s 77, s 78, s 79, s 80, s 81, s 82, s 83, s 84, s 85, s 86, s 87, s 88, s 89, s 90, s 91, s 92, s 93, s 94, s 95, s 96, s 97, s 98, s 99, s 100, s 101, s 102, s 103, s 104, s 105, s 106, s 107, s 108, s 109, s 110, s 111, s 112, s 113, s 114, s 115, s 116, s 117, s 118, s 119, s 120, s 121, s 122, s 123, s 124, s 125, s 126, s 127, s 128, s 129, s 130, s 131, s 132, s 133, s 134, s 135, s 136, s 137, s 138, s 139, s 140, s 141, s 142, s 143, x 10, x 0, x 1, x 2, .int .i64 spread, x 4, x 5, x 6, .int .i64 p, x 8, x 9, x 11, x 12, undef, undef, undef, undef, undef, undef, undef, undef, undef, undef, undef, undef, undef, undef, undef, undef, undef, undef, undef, undef, undef, undef, undef, undef, undef, undef, undef, undef, undef, undef, undef, undef, undef, undef, undef], []⟩ : Act) v
                      refine wpOp_step rfl (fun K' hK' => ?_)
                      go_simp
                      exact hK' _ _ (hK _ _ (Below.refl _ _) (at_of rfl (rfl)))
                    · obtain ⟨a2, c2, e1, rr2⟩ := hd 1 _ (by simp) rfl
                      obtain ⟨x, rfl⟩ := upd_of (show x 1 = .slice a2 k c2 from e1)
                      obtain ⟨x, rfl⟩ := upd_of (show x 2 = .int .i64 off from hd 2 _ (by simp) rfl)
                      obtain ⟨x, rfl⟩ := upd_of (show x 8 = .int .i64 (spread + p) from hd 8 _ (by simp) rfl)
                      show wpOp Try.prog _ _ 9 K (⟨#[s 0, s 1, s 2, s 3, .pointer (some ⟨w.heap.size, 0, none⟩), s 5, s 6, .slice (some ⟨g, 0, none⟩) k cap, .int .i64 off, .int .i64 spread, s 10, .slice ob R.length od, s 12, s 13, s 14, s 15, s 16, s 17, x 13, undef, undef, undef, s 22, s 23, s 24, s 25, s 26, s 27, s 28, s 29, s 30, s 31, s 32, s 33, s 34, s 35, s 36, s 37, s 38, s 39, s 40, s 41, s 42, s 43, s 44, s 45, s 46, s 47, s 48, s 49, s 50, s 51, s 52, s 53, s 54, s 55, s 56, s 57, s 58, s 59, s 60, s 61, s 62, s 63, s 64, s 65, s 66, s 67, s 68, s 69, s 70, s 71, s 72, s 73, s 74, s 75, s 76, s 77, s 78, s 79, s 80, s 81, s 82, s 83, s 84, s 85, s 86, s 87, s 88, s 89, s 90, s 91, s 92, s 93, s 94, s 95, s 96, s 97, s 98, s 99, s 100, s 101, s 102, s 103, s 104, s 105, s 106, s 107, s 108, s 109, s 110, s 111, s 112, s 113, s 114, s 115, s 116, s 117, s 118, s 119, s 120, s 121, s 122, s 123, s 124, s 125, s 126, s 127, s 128, s 129, s 130, s 131, s 132, s 133, s 134, s 135, s 136, s 137, s 138, s 139, s 140, s 141, s 142, s 143, x 10, x 0, .slice a2 k c2, .int .i64 off, x 3, x 4, x 5, x 6, x 7, .int .i64 (spread + p), x 9, x 11, x 12, undef, undef, undef, undef, undef, undef, undef, undef, undef, undef, undef, undef, undef, undef, undef, undef, undef, undef, undef, undef, undef, undef, undef, undef, undef, undef, undef, undef, undef, undef, undef, undef, undef, undef, undef], []⟩ : Act) v
                      refine wpOp_step rfl (fun K' hK' => ?_)
                      go_simp
                      refine (odd_at HLB.out hL (by omega) o0 (by omega) (by omega) (by omega) R2 HR2.out a2 c2 v rr2).mono ?_
                      rintro e v' ⟨b, d, rfl, _, hg⟩
                      exact hK' _ _ (hK _ _ hg (at_of rfl (⟨_, _, rfl⟩)))
                    · obtain ⟨b9, d9, e9⟩ := hd 9 _ (by simp) rfl
                      obtain ⟨x, rfl⟩ := upd_of (show x 9 = .tuple #[.slice b9 R2.length d9, .int .i64 0] from e9)
                      show wpOp Try.prog _ _ 10 K (⟨#[s 0, s 1, s 2, s 3, .pointer (some ⟨w.heap.size, 0, none⟩), s 5, s 6, .slice (some ⟨g, 0, none⟩) k cap, .int .i64 off, .int .i64 spread, s 10, .slice ob R.length od, s 12, s 13, s 14, s 15, s 16, s 17, x 13, undef, undef, undef, s 22, s 23, s 24, s 25, s 26, s 27, s 28, s 29, s 30, s 31, s 32, s 33, s 34, s 35, s 36, s 37, s 38, s 39, s 40, s 41, s 42, s 43, s 44, s 45, s 46, s 47, s 48, s 49, s 50, s 51, s 52, s 53, s 54, s 55, s 56, s 57, s 58, s 59, s 60, s 61, s 62, s 63, s 64, s 65, s 66, s 67, s 68, s 69, s 70, s 71, s 72, s 73, s 74, s 75, s 76, s 77, s 78, s 79, s 80, s 81, s 82, s 83, s 84, s 85, s 86, s 87, s 88, s 89, s 90, s 91, s 92, s 93, s 94, s 95, s 96, s 97, s 98, s 99, s 100, s 101, s 102, s 103, s 104, s 105, s 106, s 107, s 108, s 109, s 110, s 111, s 112, s 113, s 114, s 115, s 116, s 117, s 118, s 119, s 120, s 121, s 122, s 123, s 124, s 125, s 126, s 127, s 128, s 129, s 130, s 131, s 132, s 133, s 134, s 135, s 136, s 137, s 138, s 139, s 140, s 141, s 142, s 143, x 10, x 0, x 1, x 2, x 3, x 4, x 5, x 6, x 7, x 8, .tuple #[.slice b9 R2.length d9, .int .i64 0], x 11, x 12, undef, undef, undef, undef, undef, undef, undef, undef, undef, undef, undef, undef, undef, undef, undef, undef, undef, undef, undef, undef, undef, undef, undef, undef, undef, undef, undef, undef, undef, undef, undef, undef, undef, undef, undef], []⟩ : Act) v
                      refine wpOp_step rfl (fun K' hK' => ?_)
                      go_simp
                      exact hK' _ _ (hK _ _ (Below.refl _ _) (at_of rfl (⟨_, _, rfl⟩)))
                    · obtain ⟨b9, d9, e10⟩ := hd 10 _ (by simp) rfl
                      obtain ⟨x, rfl⟩ := upd_of (show x 10 = .tuple #[.slice b9 R2.length d9, .int .i64 0] from e10)
                      show wpOp Try.prog _ _ 11 K (⟨#[s 0, s 1, s 2, s 3, .pointer (some ⟨w.heap.size, 0, none⟩), s 5, s 6, .slice (some ⟨g, 0, none⟩) k cap, .int .i64 off, .int .i64 spread, s 10, .slice ob R.length od, s 12, s 13, s 14, s 15, s 16, s 17, x 13, undef, undef, undef, s 22, s 23, s 24, s 25, s 26, s 27, s 28, s 29, s 30, s 31, s 32, s 33, s 34, s 35, s 36, s 37, s 38, s 39, s 40, s 41, s 42, s 43, s 44, s 45, s 46, s 47, s 48, s 49, s 50, s 51, s 52, s 53, s 54, s 55, s 56, s 57, s 58, s 59, s 60, s 61, s 62, s 63, s 64, s 65, s 66, s 67, s 68, s 69, s 70, s 71, s 72, s 73, s 74, s 75, s 76, s 77, s 78, s 79, s 80, s 81, s 82, s 83, s 84, s 85, s 86, s 87, s 88, s 89, s 90, s 91, s 92, s 93, s 94, s 95, s 96, s 97, s 98, s 99, s 100, s 101, s 102, s 103, s 104, s 105, s 106, s 107, s 108, s 109, s 110, s 111, s 112, s 113, s 114, s 115, s 116, s 117, s 118, s 119, s 120, s 121, s 122, s 123, s 124, s 125, s 126, s 127, s 128, s 129, s 130, s 131, s 132, s 133, s 134, s 135, s 136, s 137, s 138, s 139, s 140, s 141, s 142, s 143, .tuple #[.slice b9 R2.length d9, .int .i64 0], x 0, x 1, x 2, x 3, x 4, x 5, x 6, x 7, x 8, x 9, x 11, x 12, undef, undef, undef, undef, undef, undef, undef, undef, undef, undef, undef, undef, undef, undef, undef, undef, undef, undef, undef, undef, undef, undef, undef, undef, undef, undef, undef, undef, undef, undef, undef, undef, undef, undef, undef], []⟩ : Act) v
                      refine wpOp_step rfl (fun K' hK' => ?_)
                      go_simp
                      exact hK' _ _ (hK _ _ (Below.refl _ _) (at_of rfl (⟨_, _, rfl⟩)))
                    · obtain ⟨b9, d9, e10⟩ := hd 10 _ (by simp) rfl
                      obtain ⟨x, rfl⟩ := upd_of (show x 10 = .tuple #[.slice b9 R2.length d9, .int .i64 0] from e10)
                      show wpOp Try.prog _ _ 12 K (⟨#[s 0, s 1, s 2, s 3, .pointer (some ⟨w.heap.size, 0, none⟩), s 5, s 6, .slice (some ⟨g, 0, none⟩) k cap, .int .i64 off, .int .i64 spread, s 10, .slice ob R.length od, s 12, s 13, s 14, s 15, s 16, s 17, x 13, undef, undef, undef, s 22, s 23, s 24, s 25, s 26, s 27, s 28, s 29, s 30, s 31, s 32, s 33, s 34, s 35, s 36, s 37, s 38, s 39, s 40, s 41, s 42, s 43, s 44, s 45, s 46, s 47, s 48, s 49, s 50, s 51, s 52, s 53, s 54, s 55, s 56, s 57, s 58, s 59, s 60, s 61, s 62, s 63, s 64, s 65, s 66, s 67, s 68, s 69, s 70, s 71, s 72, s 73, s 74, s 75, s 76, s 77, s 78, s 79, s 80, s 81, s 82, s 83, s 84, s 85, s 86, s 87, s 88, s 89, s 90, s 91, s 92, s 93, s 94, s 95, s 96, s 97, s 98, s 99, s 100, s 101, s 102, s 103, s 104, s 105, s 106, s 107, s 108, s 109, s 110, s 111, s 112, s 113, s 114, s 115, s 116, s 117, s 118, s 119, s 120, s 121, s 122, s 123, s 124, s 125, s 126, s 127, s 128, s 129, s 130, s 131, s 132, s 133, s 134, s 135, s 136, s 137, s 138, s 139, s 140, s 141, s 142, s 143, .tuple #[.slice b9 R2.length d9, .int .i64 0], x 0, x 1, x 2, x 3, x 4, x 5, x 6, x 7, x 8, x 9, x 11, x 12, undef, undef, undef, undef, undef, undef, undef, undef, undef, undef, undef, undef, undef, undef, undef, undef, undef, undef, undef, undef, undef, undef, undef, undef, undef, undef, undef, undef, undef, undef, undef, undef, undef, undef, undef], []⟩ : Act) v
                      refine wpOp_step rfl (fun K' hK' => ?_)
                      go_simp
                      exact hK' _ _ (hK _ _ (Below.refl _ _) (at_of rfl (rfl)))
                    · obtain ⟨b9, d9, e11⟩ := hd 11 _ (by simp) rfl
                      obtain ⟨x, rfl⟩ := upd_of (show x 11 = .slice b9 R2.length d9 from e11)
                      show wpOp Try.prog _ _ 13 K (⟨#[s 0, s 1, s 2, s 3, .pointer (some ⟨w.heap.size, 0, none⟩), s 5, s 6, .slice (some ⟨g, 0, none⟩) k cap, .int .i64 off, .int .i64 spread, s 10, .slice ob R.length od, s 12, s 13, s 14, s 15, s 16, s 17, x 13, undef, undef, undef, s 22, s 23, s 24, s 25, s 26, s 27, s 28, s 29, s 30, s 31, s 32, s 33, s 34, s 35, s 36, s 37, s 38, s 39, s 40, s 41, s 42, s 43, s 44, s 45, s 46, s 47, s 48, s 49, s 50, s 51, s 52, s 53, s 54, s 55, s 56, s 57, s 58, s 59, s 60, s 61, s 62, s 63, s 64, s 65, s 66, s 67, s 68, s 69, s 70, s 71, s 72, s 73, s 74, s 75, s 76, s 77, s 78, s 79, s 80, s 81, s 82, s 83, s 84, s 85, s 86, s 87, s 88, s 89, s 90, s 91, s 92, s 93, s 94, s 95, s 96, s 97, s 98, s 99, s 100, s 101, s 102, s 103, s 104, s 105, s 106, s 107, s 108, s 109, s 110, s 111, s 112, s 113, s 114, s 115, s 116, s 117, s 118, s 119, s 120, s 121, s 122, s 123, s 124, s 125, s 126, s 127, s 128, s 129, s 130, s 131, s 132, s 133, s 134, s 135, s 136, s 137, s 138, s 139, s 140, s 141, s 142, s 143, x 10, x 0, x 1, x 2, x 3, x 4, x 5, x 6, x 7, x 8, x 9, .slice b9 R2.length d9, x 12, undef, undef, undef, undef, undef, undef, undef, undef, undef, undef, undef, undef, undef, undef, undef, undef, undef, undef, undef, undef, undef, undef, undef, undef, undef, undef, undef, undef, undef, undef, undef, undef, undef, undef, undef], []⟩ : Act) v
                      refine wpOp_step rfl (fun K' hK' => ?_)
                      go_simp
                      exact hK' _ _ (hK _ _ (Below.refl _ _) (at_of rfl (⟨_, _, rfl⟩)))
                  case fin25B =>
                    rintro x v gv hd
                    obtain ⟨x, rfl⟩ := upd_of (show x 12 = .int .i64 0 from hd 12 _ (by omega) rfl)
                    obtain ⟨b9, d9, e13⟩ := hd 13 _ (by omega) rfl
                    obtain ⟨x, rfl⟩ := upd_of (show x 13 = .slice b9 R2.length d9 from e13)
                    clear hd
                    show wpList Try.prog _ _ (List.drop 14 _) (⟨#[s 0, s 1, s 2, s 3, .pointer (some ⟨w.heap.size, 0, none⟩), s 5, s 6, .slice (some ⟨g, 0, none⟩) k cap, .int .i64 off, .int .i64 spread, s 10, .slice ob R.length od, s 12, s 13, s 14, s 15, s 16, s 17, .slice b9 R2.length d9, undef, undef, undef, s 22, s 23, s 24, s 25, s 26, s 27, s 28, s 29, s 30, s 31, s 32, s 33, s 34, s 35, s 36, s 37, s 38, s 39, s 40, s 41, s 42, s 43, s 44, s 45, s 46, s 47, s 48, s 49, s 50, s 51, s 52, s 53, s 54, s 55, s 56, s 57, s 58, s 59, s 60, s 61, s 62, s 63, s 64, s 65, s 66, s 67, s 68, s 69, s 70, s 71, s 72, s 73, s 74, s 75, s 76, s 77, s 78, s 79, s 80, s 81, s 82, s 83, s 84, s 85, s 86, s 87, s 88, s 89, s 90, s 91, s 92, s 93, s 94, s 95, s 96, s 97, s 98, s 99, s 100, s 101, s 102, s 103, s 104, s 105, s 106, s 107, s 108, s 109, s 110, s 111, s 112, s 113, s 114, s 115, s 116, s 117, s 118, s 119, s 120, s 121, s 122, s 123, s 124, s 125, s 126, s 127, s 128, s 129, s 130, s 131, s 132, s 133, s 134, s 135, s 136, s 137, s 138, s 139, s 140, s 141, s 142, s 143, x 10, x 0, x 1, x 2, x 3, x 4, x 5, x 6, x 7, x 8, x 9, x 11, .int .i64 0, undef, undef, undef, undef, undef, undef, undef, undef, undef, undef, undef, undef, undef, undef, undef, undef, undef, undef, undef, undef, undef, undef, undef, undef, undef, undef, undef, undef, undef, undef, undef, undef, undef, undef, undef], []⟩ : Act) v
                    simp only [List.drop_succ_cons, List.drop_zero]
                    have rLy := rLz.grow gv
                    have gY := gZ.tr gv
                    obtain ⟨q0, q1, q2⟩ := Box.c3p (hxz.keep gv)
                    clear rLz gZ hxz gv
                    have d2 : decide ((R2.length : Int) ≤ (R.length : Int)) = true := by simp; omega
                    have d3 : decide ((R3.length : Int) ≤ (R.length : Int)) = true := by simp; omega
                    go_wp2_with (first
                      | (go_at_call 27; refine (odd_at HLB.out hL (by omega) (by omega) (by omega) s0 (by omega) R3 HR3.out _ _ _ rLy).mono ?_; rintro e w8 ⟨b8, d8, rfl, _, g8⟩)
                      | (go_at_call 16; refine (known_any _).mono ?_; rintro e w9 ⟨rfl, g9⟩))
                    go_ret
                    exact ⟨rfl, gY.tr (g8.tr g9)⟩

end Go.Proofs.Ytkfhmfidgdpeiaa
