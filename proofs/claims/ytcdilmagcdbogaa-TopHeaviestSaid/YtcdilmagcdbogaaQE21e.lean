/- E5 (tops) TopHeaviest (tops): a copy of boxes; an append of a row that may be nil; what a round of its loop knows. Contracts of pubBoard. The contract of armBoard: the document's example of chapter 1. E2 (tops) E10 (tops) A region that draws its order, in which two rows are appended to, one after the other: the facts of the other operations stay while blocks of Z alone turn; the rows' state goes from S0 to S1 to S2. A region that draws its order, in which two variables are made and written once each, among reads. A region that draws its order, in which two variables are made and written once each, among calls that make rows: what is said of a value holds whatever the variables hold. What stays while a variable or the row of used boxes is written (split from Z9). -/
import Derived.Test.YtcdilmagcdbogaaQE21d
import Derived.Test.YtcdilmagcdbogaaQE21c
import Derived.Laws.OwnMore
import Derived.Test.YtcdilmagcdbogaaQE21a
import Derived.Deep.CutRange
import Derived.Deep.DeepCutAuto
namespace Go.Proofs.Ytcdilmagcdbogaa
set_option linter.unusedVariables false
set_option linter.unusedSimpArgs false
open Go.RowKit

set_option maxRecDepth 100000 in
set_option maxHeartbeats 8000000 in
theorem armMake_any (P : List V6) (F : List V3) (Y : List Int) (hP : ∀ v ∈ P, B6 v) (hF : ∀ v ∈ F, B3 v) (hY : Bytes Y) (pa fa ya : Option Addr) (pc fc yc : Nat) (w : World) (rp : Row6 w pa P) (rf : Row3 w fa F) (ry : URow w ya Y) :
    Calls Try.prog 61 #[.agg #[.slice pa P.length pc, .slice fa F.length fc, .slice ya Y.length yc]] w (MadePost (makeWP P Y) (makeWF F Y) w) := by
  obtain ⟨i0, hi, hz0, hz1, hz2⟩ := info_parts infoInt
  have gg := (Gr.al w (.cells #[.slice pa P.length pc, .slice fa F.length fc, .slice ya Y.length yc] 120)).tr (Gr.al _ (.cells #[.slice none 0 0, .slice none 0 0] 127))
  have hx := (Box.new w [.slice pa P.length pc, .slice fa F.length fc, .slice ya Y.length yc] 120 w.heap.size rfl).keep (Gr.al _ (.cells #[.slice none 0 0, .slice none 0 0] 127))
  have or := Own.new (w.alloc (.cells #[.slice pa P.length pc, .slice fa F.length fc, .slice ya Y.length yc] 120)) [.slice none 0 0, .slice none 0 0] 127 (w.heap.size + 1) (by simp)
  have HP := Lib.hid hP
  have HF := Lib.hid hF
  have HY := Lib.hid hY
  obtain ⟨np2, np5⟩ := npW_bd P.length
  obtain ⟨nf1, nf3⟩ := nfW_bd F.length
  have HLP := Lib.hid (storeWP_len P)
  have HLF := Lib.hid (storeWF_len F)
  clear hP hF hY
  obtain ⟨q0, q1, q2⟩ := hx.c3
  go_enter Try.func61, Try.ntmps61
  go_wp2_with fail
  refine (armStore_any P F HP.out HF.out pa fa ya pc fc yc Y.length _ (rp.grow gg) (rf.grow gg)).mono ?_
  rintro e w1 ⟨sa, sc, sg, gc, rfl, hg1, rsp, rsf, _, _⟩
  clear q0 q1 q2
  go_upto_region 3 with fail
  have hw1 := hg1.size
  have gA := (Gr.al w1 (.cells #[.slice sa (storeWP P).length sc, .slice sg (storeWF F).length gc] 124)).tr ((Gr.al _ (.cells #[.slice none 0 0, .slice none 0 0] 127)).tr (Gr.al _ (.cells #[.slice none 0 0, .slice none 0 0] 177)))
  obtain ⟨D, hD⟩ : ∃ D, D = w1.heap.size := ⟨_, rfl⟩
  have hbP : ∀ b off, sa = some ⟨b, off, none⟩ → b < D := by
    rintro b off rfl
    obtain ⟨b', off', e, hb⟩ := rsp.addr (by have := HLP.out; omega)
    cases e
    omega
  have hbF : ∀ b off, sg = some ⟨b, off, none⟩ → b < D := by
    rintro b off rfl
    obtain ⟨b', off', e, hb⟩ := rsf.addr (by have := HLF.out; omega)
    cases e
    omega
  have hMP : MkP w D sa sg := ⟨by simp at hw1; omega, hbP, hbF⟩
  have HMP := Lib.hid hMP
  have hDw := hMP.hD
  have hM : MkS w [.slice pa P.length pc, .slice fa F.length fc, .slice ya Y.length yc] D sa sg (storeWP P) (storeWF F) sc gc (((w1.alloc (.cells #[.slice sa (storeWP P).length sc, .slice sg (storeWF F).length gc] 124)).alloc (.cells #[.slice none 0 0, .slice none 0 0] 127)).alloc (.cells #[.slice none 0 0, .slice none 0 0] 177)) :=
    ⟨(gg.tr hg1).tr gA, (hx.keep hg1).keep gA, (or.keep hg1).keep gA, (Box.new w1 [.slice sa (storeWP P).length sc, .slice sg (storeWF F).length gc] 124 D hD).keep ((Gr.al _ _).tr (Gr.al _ _)), rsp.grow gA, rsf.grow gA⟩
  have o4 := (Own.new (w1.alloc (.cells #[.slice sa (storeWP P).length sc, .slice sg (storeWF F).length gc] 124)) [.slice none 0 0, .slice none 0 0] 127 (D + 1) (by simp [hD])).keep (Gr.al _ (.cells #[.slice none 0 0, .slice none 0 0] 177))
  have o5 := Own.new ((w1.alloc (.cells #[.slice sa (storeWP P).length sc, .slice sg (storeWF F).length gc] 124)).alloc (.cells #[.slice none 0 0, .slice none 0 0] 127)) [.slice none 0 0, .slice none 0 0] 177 (D + 1 + 1) (by simp [hD])
  rw [← hD]
  refine wp_abs (fun W => MkS w [.slice pa P.length pc, .slice fa F.length fc, .slice ya Y.length yc] D sa sg (storeWP P) (storeWF F) sc gc W ∧ Own W (D + 1) [.slice none 0 0, .slice none 0 0] ∧ Own W (D + 1 + 1) [.slice none 0 0, .slice none 0 0]) ⟨hM, o4, o5⟩ ?_
  clear hM o4 o5 gA hbP hbF hMP hD hg1 rsp rsf hx or hw1 gg
  rintro W ⟨hM, o4, o5⟩
  go_wp2
  go_loopw [6] (fun i wr => Hid (∃ (k : Nat) (kv0 kv1 : Value), k ≤ npW P.length ∧ i = .int .i64 k ∧ MkS w [.slice pa P.length pc, .slice fa F.length fc, .slice ya Y.length yc] D sa sg (storeWP P) (storeWF F) sc gc wr ∧ Own wr (D + 1) [.slice none 0 0, .slice none 0 0] ∧ Own wr (D + 1 + 1) [kv0, kv1] ∧
    wr.ownsRow (D + 1 + 1 + 1) 3 1 kv0 (kindsW P 1 k).length ((kindsW P 1 k).flatMap encI) ∧ wr.ownsRow (D + 1 + 1 + 1) 3 1 kv1 (kindsW P 2 k).length ((kindsW P 2 k).flatMap encI) ∧ (∀ r, kv0.ownBlock = some r → kv1.ownBlock ≠ some r))) (fun i wr => 5 - (intOf i).toNat)
  case atStart => exact Lib.hid ⟨0, .slice none 0 0, .slice none 0 0, by omega, rfl, hM, o4, o5, World.ownsRow_nil _ _ _ _, World.ownsRow_nil _ _ _ _, fun r e => by simp [Value.ownBlock] at e⟩
  case round =>
    clear hM o4 o5
    obtain ⟨k, kv0, kv1, hk, rfl, hM, o4, o5, w0, w1', hdis⟩ := hrel.out
    clear hrel
    have s0 := hM.b3.2 0 _ rfl
    have s1 := hM.b3.2 1 _ rfl
    have hlW := HLP.out
    have hsz : D + 1 + 1 < wr.heap.size := o5.1.1
    by_cases hlt : k < npW P.length
    · have dk : decide (k < (storeWP P).length) = true := by simp; omega
      have hkl : k < (storeWP P).length := by omega
      have hpk := storeWP_at hlt
      obtain ⟨b0, o0, ha, hb0, c0, _⟩ := hM.rp.get hpk
      have h12 := kindW_12 HP.out (show k < 5 by omega)
      have l1 := kindsW_len P 1 k
      have l2 := kindsW_len P 2 k
      have HD := Lib.hid hdis
      have HPK := Lib.hid hpk
      clear hpk hlW hdis
      subst ha
      have gA := Gr.al wr (.cells #[.int .i64 (k : Int)] 3)
      have w0A := owns_keep w0 gA
      have w1A := owns_keep w1' gA
      have HL0 := Lib.hid w0.lt
      have HL1 := Lib.hid w1'.lt
      change wr.cell? _ = some (.int .i64 (kindW P k)) at c0
      rcases h12 with hkk | hkk
      · have E1 : kindsW P 1 (k + 1) = kindsW P 1 k ++ [(k : Int)] := by show _ ++ _ = _; rw [if_pos hkk]
        have E2 : kindsW P 2 (k + 1) = kindsW P 2 k := by show _ ++ _ = _; rw [if_neg (by rw [hkk]; decide)]; simp
        have HE1 := Lib.hid E1
        have HE2 := Lib.hid E2
        rw [hkk] at c0
        obtain ⟨t0, t1⟩ := o5.1.c2
        clear E1 E2 hkk
        go_wp2_with (at_builtin; refine wpList_append_lies _ rfl _ _ 24 rfl (D + 1 + 1 + 1) 3 i0 _ 1 8 Try.underlying24 hi hz0 hz1 hz2 rfl (by decide) kv0 _ _ rfl w0A ⟨wr.heap.size, 0, none⟩ 1 1 ([(k : Int)].map (fun n => Value.int .i64 n)) rfl rfl (cell_news _ _ _) (ints_one _) (by decide) (by unfold maxLen; omega) (by omega) (by simp; omega) _ rfl ?_; intro gb cap w6 hown4 hgr4 hat4 hlt4; have hM6 := (hM.keep gA).grown HMP.out hgr4 (fun r e => by have := HL0.out r e; omega); have o46 := (o4.keep gA).grownRow hgr4 (fun r e => by have := HL0.out r e; omega); have o56 := (o5.keep gA).grownRow hgr4 (fun r e => by have := HL0.out r e; omega); have w16 := w1A.kept hgr4 (by (cases hpo : kv1.ownBlock with | none => exact .inl rfl | some r => exact .inr (fun e => HD.out r e.symm hpo))); (obtain ⟨t0, t1⟩ := o56.1.c2); have z0 := o56.2 0; have z1 := o56.2 1)
        go_roundw
        case rel =>
          refine Lib.hid ⟨k + 1, _, _, by omega, by go_num, hM6.set HMP.out (by omega) _ _, o46.other (by omega), o56.set (i := 0) (by simp), ?_, ?_, ?_⟩
          · rw [HE1.out, flat_snoc, List.length_append]
            exact owns_other hown4 (by omega)
          · rw [HE2.out]
            exact owns_other w16 (by omega)
          · intro r e e'
            have e2 : gb = r := by simpa [Value.ownBlock] using e
            subst e2
            rcases hat4 with h | h
            · exact HD.out _ h e'
            · have := HL1.out _ e'
              simp at h
              omega
        case measure => simp [intOf]; omega
      · have E1 : kindsW P 2 (k + 1) = kindsW P 2 k ++ [(k : Int)] := by show _ ++ _ = _; rw [if_pos hkk]
        have E2 : kindsW P 1 (k + 1) = kindsW P 1 k := by show _ ++ _ = _; rw [if_neg (by rw [hkk]; decide)]; simp
        have HE1 := Lib.hid E1
        have HE2 := Lib.hid E2
        rw [hkk] at c0
        obtain ⟨t0, t1⟩ := o5.1.c2
        clear E1 E2 hkk
        go_wp2_with (at_builtin; refine wpList_append_lies _ rfl _ _ 24 rfl (D + 1 + 1 + 1) 3 i0 _ 1 8 Try.underlying24 hi hz0 hz1 hz2 rfl (by decide) kv1 _ _ rfl w1A ⟨wr.heap.size, 0, none⟩ 1 1 ([(k : Int)].map (fun n => Value.int .i64 n)) rfl rfl (cell_news _ _ _) (ints_one _) (by decide) (by unfold maxLen; omega) (by omega) (by simp; omega) _ rfl ?_; intro gb cap w6 hown4 hgr4 hat4 hlt4; have hM6 := (hM.keep gA).grown HMP.out hgr4 (fun r e => by have := HL1.out r e; omega); have o46 := (o4.keep gA).grownRow hgr4 (fun r e => by have := HL1.out r e; omega); have o56 := (o5.keep gA).grownRow hgr4 (fun r e => by have := HL1.out r e; omega); have w16 := w0A.kept hgr4 (by (cases hpo : kv0.ownBlock with | none => exact .inl rfl | some r => exact .inr (fun e => HD.out r hpo e.symm))); (obtain ⟨t0, t1⟩ := o56.1.c2); have z0 := o56.2 0; have z1 := o56.2 1)
        go_roundw
        case rel =>
          refine Lib.hid ⟨k + 1, _, _, by omega, by go_num, hM6.set HMP.out (by omega) _ _, o46.other (by omega), o56.set (i := 1) (by simp), ?_, ?_, ?_⟩
          · rw [HE2.out]
            exact owns_other w16 (by omega)
          · rw [HE1.out, flat_snoc, List.length_append]
            exact owns_other hown4 (by omega)
          · intro r e e'
            have e2 : gb = r := by simpa [Value.ownBlock] using e'
            subst e2
            rcases hat4 with h | h
            · exact HD.out _ e h
            · have := HL0.out _ e
              simp at h
              omega
        case measure => simp [intOf]; omega
    · obtain rfl : k = npW P.length := by omega
      have dk : decide (npW P.length < (storeWP P).length) = false := by simp; omega

      have p1 := kindsW_pos1 P np2
      have p2 := kindsW_pos2 P np2
      have l1 := kindsW_len P 1 (npW P.length)
      have l2 := kindsW_len P 2 (npW P.length)
      obtain ⟨a0, c0, hv0, r0, m0⟩ := owns_row_new (enc := encI) (l := kindsW P 1 (npW P.length)) (fun _ => rfl) (by omega) w0
      obtain ⟨a1, c1, hv1, r1, m1⟩ := owns_row_new (enc := encI) (l := kindsW P 2 (npW P.length)) (fun _ => rfl) (by omega) w1'
      subst hv0
      subst hv1
      have HLW := Lib.hid hlW
      have HA0 : Hid (∀ b off, a0 = some ⟨b, off, none⟩ → D + 1 + 1 + 1 ≤ b ∧ b < wr.heap.size) := Lib.hid (by
        rintro b off rfl
        obtain ⟨b', off', e, hb⟩ := r0.addr p1
        cases e
        exact ⟨m0 _ _ _ rfl, hb⟩)
      have HA1 : Hid (∀ b off, a1 = some ⟨b, off, none⟩ → D + 1 + 1 + 1 ≤ b ∧ b < wr.heap.size) := Lib.hid (by
        rintro b off rfl
        obtain ⟨b', off', e, hb⟩ := r1.addr p2
        cases e
        exact ⟨m1 _ _ _ rfl, hb⟩)
      clear m0 m1 hdis hlW w0 w1'
      obtain ⟨H1, hH1⟩ : ∃ H1, H1 = wr.heap.size := ⟨_, rfl⟩
      rw [← hH1] at HA0 HA1
      have hge : H1 ≤ wr.heap.size := by omega
      have hH1D : D + 1 + 1 < H1 := by omega
      obtain ⟨b00, b01⟩ := byteL_bd HY.out 0
      have hf12 := flW_12 Y
      have hB0 : Calls Try.prog 103 #[.slice ya Y.length yc, .int .i64 0] wr fun e w' => e = .returned (.int .i64 (byteL Y 0)) ∧ wr = w' := pubByte_anyT Y HY.out 0 (by omega) ya yc wr (ry.grow hM.gr)
      have hfl : (1 : Int) + byteL Y 0 % 2 = (flW Y : Int) := by unfold flW; omega
      have HFL := Lib.hid hfl
      have HB0 := Lib.hid hB0
      clear hH1 hfl hB0
      go_upto_region 8 with fail
      clear s0 s1 dk
      go_cut [8] from 37 to 41 (fun s8 wx => s8 = .int .i64 (flW Y : Int) ∧ wr = wx)
      case first =>
        have q2 := hM.hx.2 2 _ rfl
        have ht : (byteL Y 0).tmod 2 = byteL Y 0 % 2 := Int.tmod_eq_emod_of_nonneg b00
        go_wp2_with (go_at_call 103; refine HB0.out.mono ?_; rintro e w' ⟨rfl, rfl⟩)
        go_meet
        exact ⟨by rw [← HFL.out], rfl⟩
      case rest =>
        obtain ⟨rfl, rfl⟩ := hcut
        clear b00 b01 HFL HB0
        go_wp2
        refine (show (∀ t : Nat → Value, Code.wp Try.prog _ _ ⟨#[t 0, .pointer (some ⟨w.heap.size, 0, none⟩), .pointer (some ⟨(w.heap.size + 1), 0, none⟩), .pointer (some ⟨D, 0, none⟩), .pointer (some ⟨(D + 1), 0, none⟩), .pointer (some ⟨(D + 1 + 1), 0, none⟩), t 6, t 7, .int .i64 (flW Y : Int), .int .i64 0, undef, t 11, t 12, t 13, t 14, t 15, t 16, t 17, t 18, t 19, t 20, t 21, t 22, t 23, t 24, t 25, t 26, t 27, t 28, t 29, t 30, t 31, t 32, t 33, t 34, t 35, t 36, t 37, t 38, t 39, t 40, t 41, undef, undef, undef, undef, undef, undef, undef, undef, undef, undef, undef, undef, undef, undef, undef, undef, undef, undef, undef, undef, undef, undef, undef, undef, undef, undef, undef, undef, undef, undef, undef, undef, undef, undef, undef, undef, undef, undef, undef, undef, undef, undef, undef, undef, undef], []⟩ _) → _ from fun h => h ((fun l : List Value => fun i => l.getD i undef) [_, undef, undef, undef, undef, undef, _, _, undef, undef, undef, _, _, _, _, _, _, _, _, _, _, _, _, _, _, _, _, _, _, _, _, _, _, _, _, _, _, _, _, _, _, _])) ?_
        intro t
        dsimp only
        go_loopw [9] (fun i wq => Hid (∃ (k : Nat) (pv qv : Value), k ≤ 2 * flW Y + 1 ∧ i = .int .i64 k ∧ MkS w [.slice pa P.length pc, .slice fa F.length fc, .slice ya Y.length yc] D sa sg (storeWP P) (storeWF F) sc gc wq ∧ H1 ≤ wq.heap.size ∧ Own wq (D + 1) [pv, qv] ∧ Own wq (D + 1 + 1) [.slice a0 (kindsW P 1 (npW P.length)).length c0, .slice a1 (kindsW P 2 (npW P.length)).length c1] ∧ IRow wq a0 (kindsW P 1 (npW P.length)) ∧ IRow wq a1 (kindsW P 2 (npW P.length)) ∧
          wq.ownsRow H1 3 1 pv k (((makeWP P Y).take (k)).flatMap encI) ∧ wq.ownsRow H1 3 1 qv (k / 2) (((makeWF F Y).take (k / 2)).flatMap encI) ∧ (∀ r, pv.ownBlock = some r → qv.ownBlock ≠ some r))) (fun i wq => 5 - (intOf i).toNat)
        case atStart => exact Lib.hid ⟨0, .slice none 0 0, .slice none 0 0, by omega, rfl, hM, hge, o4, o5, r0, r1, World.ownsRow_nil _ _ _ _, World.ownsRow_nil _ _ _ _, fun r e => by simp [Value.ownBlock] at e⟩
        case round =>
          clear hM o4 o5 hge r0 r1
          obtain ⟨k, pv, qv, hk, rfl, hM, hge, o4, o5, r0, r1, wp, wq', hdis⟩ := hrel.out
          clear hrel
          have hsz : D + 1 + 1 < wr.heap.size := o5.1.1
          by_cases hlt : k < 2 * flW Y + 1
          · have dk : decide ((k : Int) < 2 * (flW Y : Int) + 1) = true := by simp; omega
            go_upto_region 12 with fail
            go_cut [10] from 49 to 52 (fun s10 wx => wr = wx ∧ ∃ (la : Option Addr) (lc : Nat) (L : List Int), s10 = .slice la L.length lc ∧ IRow wr la L ∧ 0 < L.length ∧ L.length ≤ 5 ∧ L = kindRow P k)
            case first =>
              obtain ⟨t0, t1⟩ := o5.1.c2
              by_cases he : k % 2 = 0
              · have ht : ((k : Int)).tmod 2 = 0 := by rw [Int.tmod_eq_emod_of_nonneg (by omega)]; omega
                have E := Lib.hid (show kindsW P 1 (npW P.length) = kindRow P k by simp [kindRow, he])
                clear he
                go_wp2_with fail
                go_meet
                exact ⟨rfl, a0, c0, _, rfl, r0, p1, by omega, E.out⟩
              · have ht : ((k : Int)).tmod 2 = 1 := by rw [Int.tmod_eq_emod_of_nonneg (by omega)]; omega
                have E := Lib.hid (show kindsW P 2 (npW P.length) = kindRow P k by simp [kindRow, he])
                clear he
                go_wp2_with fail
                go_meet
                exact ⟨rfl, a1, c1, _, rfl, r1, p2, by omega, E.out⟩
            case rest =>
              obtain ⟨rfl, la, lc, L, rfl, hL, l0, l5, hLE⟩ := hcut
              have hpk := makeWP_at (P := P) hlt
              rw [← hLE] at hpk
              obtain ⟨mb0, mb1⟩ := byteL_bd HY.out (k + 1)
              obtain ⟨m, hm⟩ : ∃ m : Nat, byteL Y (k + 1) = (m : Int) := ⟨_, (Int.toNat_of_nonneg mb0).symm⟩
              have hB : ∀ v, Gr w v → Calls Try.prog 103 #[.slice ya Y.length yc, .int .i64 ((k : Int) + 1)] v fun e v' => e = .returned (.int .i64 (m : Int)) ∧ Gr v v' := fun v g => by
                have h := pubByte_anyT Y HY.out (k + 1) (by omega) ya yc v (ry.grow g)
                rw [show (((k + 1 : Nat)) : Int) = (k : Int) + 1 from by omega, hm] at h
                exact h.mono fun e v' ⟨h1, h2⟩ => ⟨h1, h2 ▸ Below.refl _ _⟩
              rw [hm, Int.toNat_natCast] at hpk
              have hml : m % L.length < L.length := Nat.mod_lt _ l0
              obtain ⟨xv, hxv⟩ := get_of_lt hml
              have ex : pickW L m = xv := by simp [pickW, hxv]
              rw [ex] at hpk
              obtain ⟨lb, lo, rfl, hlb, hcx⟩ := hL.get hxv
              have HPK := Lib.hid hpk
              have HB := Lib.hid hB
              have HD := Lib.hid hdis
              clear hm ex hLE hpk hB hdis hxv mb0 mb1
              have hz : ((L.length : Int) == 0) = false := by rw [beq_eq_false_iff_ne]; omega
              have hz2 : ¬ (L.length : Int) = 0 := by omega
              have hLn : ¬ L = [] := by rintro rfl; simp at l0
              have hi0 : (0 : Int) ≤ (m : Int) % (L.length : Int) := Int.emod_nonneg _ hz2
              have hi1 : (m : Int) % (L.length : Int) < (L.length : Int) := Int.emod_lt_of_pos _ (by omega)
              have htm : ((m : Int)).tmod (L.length : Int) = (m : Int) % (L.length : Int) := Int.tmod_eq_emod_of_nonneg (by omega)
              have hwk : IntKind.i64.wrap ((k : Int) + 1) = (k : Int) + 1 := IntWalk.i64_in _ (by omega)
              go_upto_region 13 with fail
              refine (show (∀ r : Nat → Value, Code.wp Try.prog _ _ ⟨#[t 0, .pointer (some ⟨w.heap.size, 0, none⟩), .pointer (some ⟨(w.heap.size + 1), 0, none⟩), .pointer (some ⟨D, 0, none⟩), .pointer (some ⟨(D + 1), 0, none⟩), .pointer (some ⟨(D + 1 + 1), 0, none⟩), t 6, t 7, .int .i64 (flW Y : Int), .int .i64 (k : Int), .slice (some ⟨lb, lo, none⟩) L.length lc, t 11, t 12, t 13, t 14, t 15, t 16, t 17, t 18, t 19, t 20, t 21, t 22, t 23, t 24, t 25, t 26, t 27, t 28, t 29, t 30, t 31, t 32, t 33, t 34, t 35, t 36, t 37, t 38, t 39, t 40, t 41, r 42, r 43, r 44, r 45, r 46, r 47, r 48, r 49, r 50, r 51, r 52, r 53, r 54, r 55, r 56, r 57, r 58, r 59, r 60, r 61, r 62, r 63, r 64, r 65, r 66, r 67, r 68, r 69, r 70, r 71, r 72, r 73, r 74, r 75, r 76, r 77, r 78, r 79, r 80, r 81, r 82, r 83, r 84, r 85, undef], []⟩ _) → _ from fun h => h ((fun l : List Value => fun i => l.getD i undef) [undef, undef, undef, undef, undef, undef, undef, undef, undef, undef, undef, undef, undef, undef, undef, undef, undef, undef, undef, undef, undef, undef, undef, undef, undef, undef, undef, undef, undef, undef, undef, undef, undef, undef, undef, undef, undef, undef, undef, undef, undef, undef, _, _, _, _, _, _, _, _, _, _, _, _, _, _, _, _, _, _, _, _, _, _, _, _, _, _, _, _, _, _, _, _, _, _, _, _, _, _, _, _, _, _, _, _])) ?_
              intro r
              dsimp only
              refine wp_region_facts 14 [(1, 0), (4, 3), (6, 5), (7, 4), (7, 6), (9, 8), (10, 7), (10, 9), (11, 2), (11, 10), (12, 11), (13, 12)] (fun x => ⟨#[t 0, .pointer (some ⟨w.heap.size, 0, none⟩), .pointer (some ⟨(w.heap.size + 1), 0, none⟩), .pointer (some ⟨D, 0, none⟩), .pointer (some ⟨(D + 1), 0, none⟩), .pointer (some ⟨(D + 1 + 1), 0, none⟩), t 6, t 7, .int .i64 (flW Y : Int), .int .i64 (k : Int), .slice (some ⟨lb, lo, none⟩) L.length lc, t 11, t 12, t 13, t 14, t 15, t 16, t 17, t 18, t 19, t 20, t 21, t 22, t 23, t 24, t 25, t 26, t 27, t 28, t 29, t 30, t 31, t 32, t 33, t 34, t 35, t 36, t 37, t 38, t 39, t 40, t 41, r 42, r 43, r 44, r 45, r 46, r 47, r 48, r 49, r 50, r 51, r 52, x 0, x 1, x 2, x 3, x 4, x 5, x 6, x 7, x 8, x 9, x 10, x 11, x 12, x 13, r 67, r 68, r 69, r 70, r 71, r 72, r 73, r 74, r 75, r 76, r 77, r 78, r 79, r 80, r 81, r 82, r 83, r 84, r 85, undef], []⟩) (fun i => [r 53, r 54, r 55, r 56, r 57, r 58, r 59, r 60, r 61, r 62, r 63, r 64, r 65, r 66].getD i undef) [fun _ x => x = .pointer (some ⟨(D + 1), 0, none⟩), fun _ x => x = pv, fun _ x => x = .slice (some ⟨lb, lo, none⟩) L.length lc, fun _ x => x = .pointer (some ⟨w.heap.size, 2, none⟩), fun _ x => x = .slice ya Y.length yc, fun _ x => x = .int .i64 (k : Int), fun _ x => x = .int .i64 ((k : Int) + 1), fun _ x => x = .int .i64 (m : Int), fun _ x => x = .slice (some ⟨lb, lo, none⟩) L.length lc, fun _ x => x = .int .i64 (L.length : Int), fun _ x => x = .int .i64 ((m : Int) % (L.length : Int)), fun _ x => x = .pointer (some ⟨lb, lo + m % L.length, none⟩), fun _ x => x = .int .i64 xv, fun v x => ∃ b, x = .slice (some ⟨b, 0, none⟩) 1 1 ∧ Own v b [.int .i64 xv]] (by rfl) (by kernel_rfl) (by kernel_rfl) (by kernel_rfl) (stays_cons (Stays.eq _) (stays_cons (Stays.eq _) (stays_cons (Stays.eq _) (stays_cons (Stays.eq _) (stays_cons (Stays.eq _) (stays_cons (Stays.eq _) (stays_cons (Stays.eq _) (stays_cons (Stays.eq _) (stays_cons (Stays.eq _) (stays_cons (Stays.eq _) (stays_cons (Stays.eq _) (stays_cons (Stays.eq _) (stays_cons (Stays.eq _) (stays_cons ((show Stays (fun v x => ∃ b, x = .slice (some ⟨b, 0, none⟩) 1 1 ∧ Own v b [.int .i64 xv]) from fun v v' x g ⟨b, e, o⟩ => ⟨b, e, o.keep g⟩)) stays_nil)))))))))))))) ?step13 ?fin13
              case step13 =>
                rintro i hi x v gv hd K hK
                have hi8 : i = 0 ∨ i = 1 ∨ i = 2 ∨ i = 3 ∨ i = 4 ∨ i = 5 ∨ i = 6 ∨ i = 7 ∨ i = 8 ∨ i = 9 ∨ i = 10 ∨ i = 11 ∨ i = 12 ∨ i = 13 := by omega
                rcases hi8 with rfl | rfl | rfl | rfl | rfl | rfl | rfl | rfl | rfl | rfl | rfl | rfl | rfl | rfl
                · show wpOp Try.prog _ _ 0 K (⟨#[t 0, .pointer (some ⟨w.heap.size, 0, none⟩), .pointer (some ⟨(w.heap.size + 1), 0, none⟩), .pointer (some ⟨D, 0, none⟩), .pointer (some ⟨(D + 1), 0, none⟩), .pointer (some ⟨(D + 1 + 1), 0, none⟩), t 6, t 7, .int .i64 (flW Y : Int), .int .i64 (k : Int), .slice (some ⟨lb, lo, none⟩) L.length lc, t 11, t 12, t 13, t 14, t 15, t 16, t 17, t 18, t 19, t 20, t 21, t 22, t 23, t 24, t 25, t 26, t 27, t 28, t 29, t 30, t 31, t 32, t 33, t 34, t 35, t 36, t 37, t 38, t 39, t 40, t 41, r 42, r 43, r 44, r 45, r 46, r 47, r 48, r 49, r 50, r 51, r 52, x 0, x 1, x 2, x 3, x 4, x 5, x 6, x 7, x 8, x 9, x 10, x 11, x 12, x 13, r 67, r 68, r 69, r 70, r 71, r 72, r 73, r 74, r 75, r 76, r 77, r 78, r 79, r 80, r 81, r 82, r 83, r 84, r 85, undef], []⟩ : Act) v
                  refine wpOp_step rfl (fun K' hK' => ?_)
                  go_simp
                  exact hK' _ _ (hK _ _ (Below.refl _ _) (at_of rfl (rfl)))
                · obtain ⟨x, rfl⟩ := upd_of (show x 0 = .pointer (some ⟨(D + 1), 0, none⟩) from hd 0 _ (by simp) rfl)
                  show wpOp Try.prog _ _ 1 K (⟨#[t 0, .pointer (some ⟨w.heap.size, 0, none⟩), .pointer (some ⟨(w.heap.size + 1), 0, none⟩), .pointer (some ⟨D, 0, none⟩), .pointer (some ⟨(D + 1), 0, none⟩), .pointer (some ⟨(D + 1 + 1), 0, none⟩), t 6, t 7, .int .i64 (flW Y : Int), .int .i64 (k : Int), .slice (some ⟨lb, lo, none⟩) L.length lc, t 11, t 12, t 13, t 14, t 15, t 16, t 17, t 18, t 19, t 20, t 21, t 22, t 23, t 24, t 25, t 26, t 27, t 28, t 29, t 30, t 31, t 32, t 33, t 34, t 35, t 36, t 37, t 38, t 39, t 40, t 41, r 42, r 43, r 44, r 45, r 46, r 47, r 48, r 49, r 50, r 51, r 52, .pointer (some ⟨(D + 1), 0, none⟩), x 1, x 2, x 3, x 4, x 5, x 6, x 7, x 8, x 9, x 10, x 11, x 12, x 13, r 67, r 68, r 69, r 70, r 71, r 72, r 73, r 74, r 75, r 76, r 77, r 78, r 79, r 80, r 81, r 82, r 83, r 84, r 85, undef], []⟩ : Act) v
                  refine wpOp_step rfl (fun K' hK' => ?_)
                  have q := (o4.1.keep gv).2 0 _ rfl
                  go_simp
                  exact hK' _ _ (hK _ _ (Below.refl _ _) (at_of rfl (rfl)))
                · show wpOp Try.prog _ _ 2 K (⟨#[t 0, .pointer (some ⟨w.heap.size, 0, none⟩), .pointer (some ⟨(w.heap.size + 1), 0, none⟩), .pointer (some ⟨D, 0, none⟩), .pointer (some ⟨(D + 1), 0, none⟩), .pointer (some ⟨(D + 1 + 1), 0, none⟩), t 6, t 7, .int .i64 (flW Y : Int), .int .i64 (k : Int), .slice (some ⟨lb, lo, none⟩) L.length lc, t 11, t 12, t 13, t 14, t 15, t 16, t 17, t 18, t 19, t 20, t 21, t 22, t 23, t 24, t 25, t 26, t 27, t 28, t 29, t 30, t 31, t 32, t 33, t 34, t 35, t 36, t 37, t 38, t 39, t 40, t 41, r 42, r 43, r 44, r 45, r 46, r 47, r 48, r 49, r 50, r 51, r 52, x 0, x 1, x 2, x 3, x 4, x 5, x 6, x 7, x 8, x 9, x 10, x 11, x 12, x 13, r 67, r 68, r 69, r 70, r 71, r 72, r 73, r 74, r 75, r 76, r 77, r 78, r 79, r 80, r 81, r 82, r 83, r 84, r 85, undef], []⟩ : Act) v
                  refine wpOp_step rfl (fun K' hK' => ?_)
                  go_simp
                  exact hK' _ _ (hK _ _ (Below.refl _ _) (at_of rfl (rfl)))
                · show wpOp Try.prog _ _ 3 K (⟨#[t 0, .pointer (some ⟨w.heap.size, 0, none⟩), .pointer (some ⟨(w.heap.size + 1), 0, none⟩), .pointer (some ⟨D, 0, none⟩), .pointer (some ⟨(D + 1), 0, none⟩), .pointer (some ⟨(D + 1 + 1), 0, none⟩), t 6, t 7, .int .i64 (flW Y : Int), .int .i64 (k : Int), .slice (some ⟨lb, lo, none⟩) L.length lc, t 11, t 12, t 13, t 14, t 15, t 16, t 17, t 18, t 19, t 20, t 21, t 22, t 23, t 24, t 25, t 26, t 27, t 28, t 29, t 30, t 31, t 32, t 33, t 34, t 35, t 36, t 37, t 38, t 39, t 40, t 41, r 42, r 43, r 44, r 45, r 46, r 47, r 48, r 49, r 50, r 51, r 52, x 0, x 1, x 2, x 3, x 4, x 5, x 6, x 7, x 8, x 9, x 10, x 11, x 12, x 13, r 67, r 68, r 69, r 70, r 71, r 72, r 73, r 74, r 75, r 76, r 77, r 78, r 79, r 80, r 81, r 82, r 83, r 84, r 85, undef], []⟩ : Act) v
                  refine wpOp_step rfl (fun K' hK' => ?_)
                  go_simp
                  exact hK' _ _ (hK _ _ (Below.refl _ _) (at_of rfl (rfl)))
                · obtain ⟨x, rfl⟩ := upd_of (show x 3 = .pointer (some ⟨w.heap.size, 2, none⟩) from hd 3 _ (by simp) rfl)
                  show wpOp Try.prog _ _ 4 K (⟨#[t 0, .pointer (some ⟨w.heap.size, 0, none⟩), .pointer (some ⟨(w.heap.size + 1), 0, none⟩), .pointer (some ⟨D, 0, none⟩), .pointer (some ⟨(D + 1), 0, none⟩), .pointer (some ⟨(D + 1 + 1), 0, none⟩), t 6, t 7, .int .i64 (flW Y : Int), .int .i64 (k : Int), .slice (some ⟨lb, lo, none⟩) L.length lc, t 11, t 12, t 13, t 14, t 15, t 16, t 17, t 18, t 19, t 20, t 21, t 22, t 23, t 24, t 25, t 26, t 27, t 28, t 29, t 30, t 31, t 32, t 33, t 34, t 35, t 36, t 37, t 38, t 39, t 40, t 41, r 42, r 43, r 44, r 45, r 46, r 47, r 48, r 49, r 50, r 51, r 52, x 0, x 1, x 2, .pointer (some ⟨w.heap.size, 2, none⟩), x 4, x 5, x 6, x 7, x 8, x 9, x 10, x 11, x 12, x 13, r 67, r 68, r 69, r 70, r 71, r 72, r 73, r 74, r 75, r 76, r 77, r 78, r 79, r 80, r 81, r 82, r 83, r 84, r 85, undef], []⟩ : Act) v
                  refine wpOp_step rfl (fun K' hK' => ?_)
                  have q := (hM.hx.keep gv).2 2 _ rfl
                  go_simp
                  exact hK' _ _ (hK _ _ (Below.refl _ _) (at_of rfl (rfl)))
                · show wpOp Try.prog _ _ 5 K (⟨#[t 0, .pointer (some ⟨w.heap.size, 0, none⟩), .pointer (some ⟨(w.heap.size + 1), 0, none⟩), .pointer (some ⟨D, 0, none⟩), .pointer (some ⟨(D + 1), 0, none⟩), .pointer (some ⟨(D + 1 + 1), 0, none⟩), t 6, t 7, .int .i64 (flW Y : Int), .int .i64 (k : Int), .slice (some ⟨lb, lo, none⟩) L.length lc, t 11, t 12, t 13, t 14, t 15, t 16, t 17, t 18, t 19, t 20, t 21, t 22, t 23, t 24, t 25, t 26, t 27, t 28, t 29, t 30, t 31, t 32, t 33, t 34, t 35, t 36, t 37, t 38, t 39, t 40, t 41, r 42, r 43, r 44, r 45, r 46, r 47, r 48, r 49, r 50, r 51, r 52, x 0, x 1, x 2, x 3, x 4, x 5, x 6, x 7, x 8, x 9, x 10, x 11, x 12, x 13, r 67, r 68, r 69, r 70, r 71, r 72, r 73, r 74, r 75, r 76, r 77, r 78, r 79, r 80, r 81, r 82, r 83, r 84, r 85, undef], []⟩ : Act) v
                  refine wpOp_step rfl (fun K' hK' => ?_)
                  go_simp
                  exact hK' _ _ (hK _ _ (Below.refl _ _) (at_of rfl (rfl)))
                · obtain ⟨x, rfl⟩ := upd_of (show x 5 = .int .i64 (k : Int) from hd 5 _ (by simp) rfl)
                  show wpOp Try.prog _ _ 6 K (⟨#[t 0, .pointer (some ⟨w.heap.size, 0, none⟩), .pointer (some ⟨(w.heap.size + 1), 0, none⟩), .pointer (some ⟨D, 0, none⟩), .pointer (some ⟨(D + 1), 0, none⟩), .pointer (some ⟨(D + 1 + 1), 0, none⟩), t 6, t 7, .int .i64 (flW Y : Int), .int .i64 (k : Int), .slice (some ⟨lb, lo, none⟩) L.length lc, t 11, t 12, t 13, t 14, t 15, t 16, t 17, t 18, t 19, t 20, t 21, t 22, t 23, t 24, t 25, t 26, t 27, t 28, t 29, t 30, t 31, t 32, t 33, t 34, t 35, t 36, t 37, t 38, t 39, t 40, t 41, r 42, r 43, r 44, r 45, r 46, r 47, r 48, r 49, r 50, r 51, r 52, x 0, x 1, x 2, x 3, x 4, .int .i64 (k : Int), x 6, x 7, x 8, x 9, x 10, x 11, x 12, x 13, r 67, r 68, r 69, r 70, r 71, r 72, r 73, r 74, r 75, r 76, r 77, r 78, r 79, r 80, r 81, r 82, r 83, r 84, r 85, undef], []⟩ : Act) v
                  refine wpOp_step rfl (fun K' hK' => ?_)
                  go_simp
                  exact hK' _ _ (hK _ _ (Below.refl _ _) (at_of rfl (rfl)))
                · obtain ⟨x, rfl⟩ := upd_of (show x 4 = .slice ya Y.length yc from hd 4 _ (by simp) rfl)
                  obtain ⟨x, rfl⟩ := upd_of (show x 6 = .int .i64 ((k : Int) + 1) from hd 6 _ (by simp) rfl)
                  show wpOp Try.prog _ _ 7 K (⟨#[t 0, .pointer (some ⟨w.heap.size, 0, none⟩), .pointer (some ⟨(w.heap.size + 1), 0, none⟩), .pointer (some ⟨D, 0, none⟩), .pointer (some ⟨(D + 1), 0, none⟩), .pointer (some ⟨(D + 1 + 1), 0, none⟩), t 6, t 7, .int .i64 (flW Y : Int), .int .i64 (k : Int), .slice (some ⟨lb, lo, none⟩) L.length lc, t 11, t 12, t 13, t 14, t 15, t 16, t 17, t 18, t 19, t 20, t 21, t 22, t 23, t 24, t 25, t 26, t 27, t 28, t 29, t 30, t 31, t 32, t 33, t 34, t 35, t 36, t 37, t 38, t 39, t 40, t 41, r 42, r 43, r 44, r 45, r 46, r 47, r 48, r 49, r 50, r 51, r 52, x 0, x 1, x 2, x 3, .slice ya Y.length yc, x 5, .int .i64 ((k : Int) + 1), x 7, x 8, x 9, x 10, x 11, x 12, x 13, r 67, r 68, r 69, r 70, r 71, r 72, r 73, r 74, r 75, r 76, r 77, r 78, r 79, r 80, r 81, r 82, r 83, r 84, r 85, undef], []⟩ : Act) v
                  refine wpOp_step rfl (fun K' hK' => ?_)
                  go_simp
                  refine (HB.out v (hM.gr.tr gv)).mono ?_
                  rintro e v' ⟨rfl, hg⟩
                  exact hK' _ _ (hK _ _ hg (at_of rfl (rfl)))
                · show wpOp Try.prog _ _ 8 K (⟨#[t 0, .pointer (some ⟨w.heap.size, 0, none⟩), .pointer (some ⟨(w.heap.size + 1), 0, none⟩), .pointer (some ⟨D, 0, none⟩), .pointer (some ⟨(D + 1), 0, none⟩), .pointer (some ⟨(D + 1 + 1), 0, none⟩), t 6, t 7, .int .i64 (flW Y : Int), .int .i64 (k : Int), .slice (some ⟨lb, lo, none⟩) L.length lc, t 11, t 12, t 13, t 14, t 15, t 16, t 17, t 18, t 19, t 20, t 21, t 22, t 23, t 24, t 25, t 26, t 27, t 28, t 29, t 30, t 31, t 32, t 33, t 34, t 35, t 36, t 37, t 38, t 39, t 40, t 41, r 42, r 43, r 44, r 45, r 46, r 47, r 48, r 49, r 50, r 51, r 52, x 0, x 1, x 2, x 3, x 4, x 5, x 6, x 7, x 8, x 9, x 10, x 11, x 12, x 13, r 67, r 68, r 69, r 70, r 71, r 72, r 73, r 74, r 75, r 76, r 77, r 78, r 79, r 80, r 81, r 82, r 83, r 84, r 85, undef], []⟩ : Act) v
                  refine wpOp_step rfl (fun K' hK' => ?_)
                  go_simp
                  exact hK' _ _ (hK _ _ (Below.refl _ _) (at_of rfl (rfl)))
                · obtain ⟨x, rfl⟩ := upd_of (show x 8 = .slice (some ⟨lb, lo, none⟩) L.length lc from hd 8 _ (by simp) rfl)
                  show wpOp Try.prog _ _ 9 K (⟨#[t 0, .pointer (some ⟨w.heap.size, 0, none⟩), .pointer (some ⟨(w.heap.size + 1), 0, none⟩), .pointer (some ⟨D, 0, none⟩), .pointer (some ⟨(D + 1), 0, none⟩), .pointer (some ⟨(D + 1 + 1), 0, none⟩), t 6, t 7, .int .i64 (flW Y : Int), .int .i64 (k : Int), .slice (some ⟨lb, lo, none⟩) L.length lc, t 11, t 12, t 13, t 14, t 15, t 16, t 17, t 18, t 19, t 20, t 21, t 22, t 23, t 24, t 25, t 26, t 27, t 28, t 29, t 30, t 31, t 32, t 33, t 34, t 35, t 36, t 37, t 38, t 39, t 40, t 41, r 42, r 43, r 44, r 45, r 46, r 47, r 48, r 49, r 50, r 51, r 52, x 0, x 1, x 2, x 3, x 4, x 5, x 6, x 7, .slice (some ⟨lb, lo, none⟩) L.length lc, x 9, x 10, x 11, x 12, x 13, r 67, r 68, r 69, r 70, r 71, r 72, r 73, r 74, r 75, r 76, r 77, r 78, r 79, r 80, r 81, r 82, r 83, r 84, r 85, undef], []⟩ : Act) v
                  refine wpOp_step rfl (fun K' hK' => ?_)
                  go_simp
                  exact hK' _ _ (hK _ _ (Below.refl _ _) (at_of rfl (rfl)))
                · obtain ⟨x, rfl⟩ := upd_of (show x 7 = .int .i64 (m : Int) from hd 7 _ (by simp) rfl)
                  obtain ⟨x, rfl⟩ := upd_of (show x 9 = .int .i64 (L.length : Int) from hd 9 _ (by simp) rfl)
                  show wpOp Try.prog _ _ 10 K (⟨#[t 0, .pointer (some ⟨w.heap.size, 0, none⟩), .pointer (some ⟨(w.heap.size + 1), 0, none⟩), .pointer (some ⟨D, 0, none⟩), .pointer (some ⟨(D + 1), 0, none⟩), .pointer (some ⟨(D + 1 + 1), 0, none⟩), t 6, t 7, .int .i64 (flW Y : Int), .int .i64 (k : Int), .slice (some ⟨lb, lo, none⟩) L.length lc, t 11, t 12, t 13, t 14, t 15, t 16, t 17, t 18, t 19, t 20, t 21, t 22, t 23, t 24, t 25, t 26, t 27, t 28, t 29, t 30, t 31, t 32, t 33, t 34, t 35, t 36, t 37, t 38, t 39, t 40, t 41, r 42, r 43, r 44, r 45, r 46, r 47, r 48, r 49, r 50, r 51, r 52, x 0, x 1, x 2, x 3, x 4, x 5, x 6, .int .i64 (m : Int), x 8, .int .i64 (L.length : Int), x 10, x 11, x 12, x 13, r 67, r 68, r 69, r 70, r 71, r 72, r 73, r 74, r 75, r 76, r 77, r 78, r 79, r 80, r 81, r 82, r 83, r 84, r 85, undef], []⟩ : Act) v
                  refine wpOp_step rfl (fun K' hK' => ?_)
                  go_simp
                  exact hK' _ _ (hK _ _ (Below.refl _ _) (at_of rfl (rfl)))
                · obtain ⟨x, rfl⟩ := upd_of (show x 2 = .slice (some ⟨lb, lo, none⟩) L.length lc from hd 2 _ (by simp) rfl)
                  obtain ⟨x, rfl⟩ := upd_of (show x 10 = .int .i64 ((m : Int) % (L.length : Int)) from hd 10 _ (by simp) rfl)
                  show wpOp Try.prog _ _ 11 K (⟨#[t 0, .pointer (some ⟨w.heap.size, 0, none⟩), .pointer (some ⟨(w.heap.size + 1), 0, none⟩), .pointer (some ⟨D, 0, none⟩), .pointer (some ⟨(D + 1), 0, none⟩), .pointer (some ⟨(D + 1 + 1), 0, none⟩), t 6, t 7, .int .i64 (flW Y : Int), .int .i64 (k : Int), .slice (some ⟨lb, lo, none⟩) L.length lc, t 11, t 12, t 13, t 14, t 15, t 16, t 17, t 18, t 19, t 20, t 21, t 22, t 23, t 24, t 25, t 26, t 27, t 28, t 29, t 30, t 31, t 32, t 33, t 34, t 35, t 36, t 37, t 38, t 39, t 40, t 41, r 42, r 43, r 44, r 45, r 46, r 47, r 48, r 49, r 50, r 51, r 52, x 0, x 1, .slice (some ⟨lb, lo, none⟩) L.length lc, x 3, x 4, x 5, x 6, x 7, x 8, x 9, .int .i64 ((m : Int) % (L.length : Int)), x 11, x 12, x 13, r 67, r 68, r 69, r 70, r 71, r 72, r 73, r 74, r 75, r 76, r 77, r 78, r 79, r 80, r 81, r 82, r 83, r 84, r 85, undef], []⟩ : Act) v
                  refine wpOp_step rfl (fun K' hK' => ?_)
                  go_simp
                  exact hK' _ _ (hK _ _ (Below.refl _ _) (at_of rfl (rfl)))
                · obtain ⟨x, rfl⟩ := upd_of (show x 11 = .pointer (some ⟨lb, lo + m % L.length, none⟩) from hd 11 _ (by simp) rfl)
                  show wpOp Try.prog _ _ 12 K (⟨#[t 0, .pointer (some ⟨w.heap.size, 0, none⟩), .pointer (some ⟨(w.heap.size + 1), 0, none⟩), .pointer (some ⟨D, 0, none⟩), .pointer (some ⟨(D + 1), 0, none⟩), .pointer (some ⟨(D + 1 + 1), 0, none⟩), t 6, t 7, .int .i64 (flW Y : Int), .int .i64 (k : Int), .slice (some ⟨lb, lo, none⟩) L.length lc, t 11, t 12, t 13, t 14, t 15, t 16, t 17, t 18, t 19, t 20, t 21, t 22, t 23, t 24, t 25, t 26, t 27, t 28, t 29, t 30, t 31, t 32, t 33, t 34, t 35, t 36, t 37, t 38, t 39, t 40, t 41, r 42, r 43, r 44, r 45, r 46, r 47, r 48, r 49, r 50, r 51, r 52, x 0, x 1, x 2, x 3, x 4, x 5, x 6, x 7, x 8, x 9, x 10, .pointer (some ⟨lb, lo + m % L.length, none⟩), x 12, x 13, r 67, r 68, r 69, r 70, r 71, r 72, r 73, r 74, r 75, r 76, r 77, r 78, r 79, r 80, r 81, r 82, r 83, r 84, r 85, undef], []⟩ : Act) v
                  refine wpOp_step rfl (fun K' hK' => ?_)
                  have q := gv.keep hcx
                  go_simp
                  exact hK' _ _ (hK _ _ (Below.refl _ _) (at_of rfl (rfl)))
                · obtain ⟨x, rfl⟩ := upd_of (show x 12 = .int .i64 xv from hd 12 _ (by simp) rfl)
                  show wpOp Try.prog _ _ 13 K (⟨#[t 0, .pointer (some ⟨w.heap.size, 0, none⟩), .pointer (some ⟨(w.heap.size + 1), 0, none⟩), .pointer (some ⟨D, 0, none⟩), .pointer (some ⟨(D + 1), 0, none⟩), .pointer (some ⟨(D + 1 + 1), 0, none⟩), t 6, t 7, .int .i64 (flW Y : Int), .int .i64 (k : Int), .slice (some ⟨lb, lo, none⟩) L.length lc, t 11, t 12, t 13, t 14, t 15, t 16, t 17, t 18, t 19, t 20, t 21, t 22, t 23, t 24, t 25, t 26, t 27, t 28, t 29, t 30, t 31, t 32, t 33, t 34, t 35, t 36, t 37, t 38, t 39, t 40, t 41, r 42, r 43, r 44, r 45, r 46, r 47, r 48, r 49, r 50, r 51, r 52, x 0, x 1, x 2, x 3, x 4, x 5, x 6, x 7, x 8, x 9, x 10, x 11, .int .i64 xv, x 13, r 67, r 68, r 69, r 70, r 71, r 72, r 73, r 74, r 75, r 76, r 77, r 78, r 79, r 80, r 81, r 82, r 83, r 84, r 85, undef], []⟩ : Act) v
                  refine wpOp_step rfl (fun K' hK' => ?_)
                  go_simp
                  have hg := Gr.al v (.cells (List.toArray [.int .i64 xv]) 3)
                  exact hK' _ _ (hK _ _ hg (at_of rfl (⟨v.heap.size, rfl, Own.new v [.int .i64 xv] 3 v.heap.size rfl⟩)))
              case fin13 =>
                rintro x v gv hd
                obtain ⟨x, rfl⟩ := upd_of (show x 1 = pv from hd 1 _ (by omega) rfl)
                obtain ⟨b6, e13, ow6⟩ := hd 13 _ (by omega) rfl
                obtain ⟨x, rfl⟩ := upd_of (show x 13 = .slice (some ⟨b6, 0, none⟩) 1 1 from e13)
                clear hd
                show wpList Try.prog _ _ (List.drop 14 _) (⟨#[t 0, .pointer (some ⟨w.heap.size, 0, none⟩), .pointer (some ⟨(w.heap.size + 1), 0, none⟩), .pointer (some ⟨D, 0, none⟩), .pointer (some ⟨(D + 1), 0, none⟩), .pointer (some ⟨(D + 1 + 1), 0, none⟩), t 6, t 7, .int .i64 (flW Y : Int), .int .i64 (k : Int), .slice (some ⟨lb, lo, none⟩) L.length lc, t 11, t 12, t 13, t 14, t 15, t 16, t 17, t 18, t 19, t 20, t 21, t 22, t 23, t 24, t 25, t 26, t 27, t 28, t 29, t 30, t 31, t 32, t 33, t 34, t 35, t 36, t 37, t 38, t 39, t 40, t 41, r 42, r 43, r 44, r 45, r 46, r 47, r 48, r 49, r 50, r 51, r 52, x 0, pv, x 2, x 3, x 4, x 5, x 6, x 7, x 8, x 9, x 10, x 11, x 12, .slice (some ⟨b6, 0, none⟩) 1 1, r 67, r 68, r 69, r 70, r 71, r 72, r 73, r 74, r 75, r 76, r 77, r 78, r 79, r 80, r 81, r 82, r 83, r 84, r 85, undef], []⟩ : Act) v
                simp only [List.drop_succ_cons, List.drop_zero]
                have gvs := gv.size
                have hgv : H1 ≤ v.heap.size := by omega
                have hoA := owns_keep wp gv
                have hoB := owns_keep wq' gv
                have HLo := Lib.hid wp.lt
                have HLq := Lib.hid wq'.lt
                clear hz hz2 hi0 hi1 htm hwk hcx
                go_upto_region 14 with (at_builtin; refine wpList_append_lies _ rfl _ _ 24 rfl H1 3 i0 _ 1 8 Try.underlying24 hi hz0 hz1 hz2 rfl (by decide) pv _ _ rfl hoA ⟨b6, 0, none⟩ 1 1 ([xv].map (fun n => Value.int .i64 n)) rfl rfl ow6.news (ints_one _) (by decide) (by unfold maxLen; omega) (by omega) (by omega) _ rfl ?_; intro gb cap w6 hown4 hgr4 hat4 hlt4; have hM6 := (hM.keep gv).grown HMP.out hgr4 (fun r e => by have := HLo.out r e; omega); have o46 := (o4.keep gv).grownRow hgr4 (fun r e => by have := HLo.out r e; omega); have o56 := (o5.keep gv).grownRow hgr4 (fun r e => by have := HLo.out r e; omega); have r06 := (r0.grow gv).grown hgr4 (fun r b off e ea => by have := HLo.out r e; have := HA0.out b off ea; omega); have r16 := (r1.grow gv).grown hgr4 (fun r b off e ea => by have := HLo.out r e; have := HA1.out b off ea; omega); have wo6 := hoB.kept hgr4 (by (cases hpo : qv.ownBlock with | none => exact .inl rfl | some r => exact .inr (fun e => HD.out r e.symm hpo))); have hge6 := Nat.le_trans hgv hgr4.size; (obtain ⟨t0, t1⟩ := o46.1.c2); have z0 := o46.2 0; have z1 := o46.2 1)
                have hlH : ∀ r, qv.ownBlock = some r → r < v.heap.size := fun r e => by have := HLq.out r e; omega
                have hdis' : ∀ r, (Value.slice (some ⟨gb, 0, none⟩) (k + 1) cap).ownBlock = some r → qv.ownBlock ≠ some r := by
                  intro r e e'
                  have e2 : gb = r := by simpa [Value.ownBlock] using e
                  subst e2
                  rcases hat4 with h | h
                  · exact HD.out _ h e'
                  · have := hlH _ e'
                    omega
                refine wp_abs (fun V => MkS w [.slice pa P.length pc, .slice fa F.length fc, .slice ya Y.length yc] D sa sg (storeWP P) (storeWF F) sc gc V ∧ H1 ≤ V.heap.size ∧ Own V (D + 1) [(Value.slice (some ⟨gb, 0, none⟩) (k + 1) cap), qv] ∧ Own V (D + 1 + 1) [.slice a0 (kindsW P 1 (npW P.length)).length c0, .slice a1 (kindsW P 2 (npW P.length)).length c1] ∧ IRow V a0 (kindsW P 1 (npW P.length)) ∧ IRow V a1 (kindsW P 2 (npW P.length)) ∧
                  V.ownsRow H1 3 1 (Value.slice (some ⟨gb, 0, none⟩) (k + 1) cap) (k + 1) (((makeWP P Y).take ((k + 1))).flatMap encI) ∧ V.ownsRow H1 3 1 qv (k / 2) (((makeWF F Y).take (k / 2)).flatMap encI) ∧ (∀ r, (Value.slice (some ⟨gb, 0, none⟩) (k + 1) cap).ownBlock = some r → qv.ownBlock ≠ some r)) ⟨hM6.set HMP.out (by omega) _ _, by simpa using hge6, o46.set (i := 0) (by simp), o56.other (by omega), r06.setAt (fun b off e => by have := HA0.out b off e; omega) _ _, r16.setAt (fun b off e => by have := HA1.out b off e; omega) _ _, ?_, owns_other wo6 (by omega), hdis'⟩ ?_
                · rw [List.take_add_one, HPK.out, Option.toList_some, flat_snoc]
                  exact owns_other hown4 (by omega)
                clear hM6 hge6 o46 o56 r06 r16 wo6 hown4 hgr4 hat4 hlt4 hlH hdis' t0 t1 z0 z1 hM hge o4 o5 r0 r1 wp wq' hoA hoB HLo HLq HD ow6 hgv
                generalize (Value.slice (some ⟨gb, 0, none⟩) (k + 1) cap) = pv2
                rintro V ⟨hM, hge, o4, o5, r0, r1, wp, wq', hdis⟩
                by_cases he : k % 2 = 0
                · have ht : ((k : Int)).tmod 2 = 0 := by rw [Int.tmod_eq_emod_of_nonneg (by omega)]; omega
                  have hE := Lib.hid (show (k + 1) / 2 = k / 2 by omega)
                  clear he
                  go_wp2
                  go_roundw
                  case rel => exact Lib.hid ⟨k + 1, pv2, qv, by omega, by go_num, hM, hge, o4, o5, r0, r1, wp, by rw [hE.out]; exact wq', hdis⟩
                  case measure => simp [intOf]; omega
                · have ht : ((k : Int)).tmod 2 = 1 := by rw [Int.tmod_eq_emod_of_nonneg (by omega)]; omega
                  have hj : k / 2 < flW Y := by omega
                  have hpk := makeWF_at (F := F) hj
                  rw [show 2 * (k / 2) + 1 + 6 = k + 6 by omega] at hpk
                  obtain ⟨mb0, mb1⟩ := byteL_bd HY.out (k + 6)
                  obtain ⟨m2, hm⟩ : ∃ m2 : Nat, byteL Y (k + 6) = (m2 : Int) := ⟨_, (Int.toNat_of_nonneg mb0).symm⟩
                  have hB : ∀ v, Gr w v → Calls Try.prog 103 #[.slice ya Y.length yc, .int .i64 ((k : Int) + 6)] v fun e v' => e = .returned (.int .i64 (m2 : Int)) ∧ Gr v v' := fun v g => by
                    have h := pubByte_anyT Y HY.out (k + 6) (by omega) ya yc v (ry.grow g)
                    rw [show (((k + 6 : Nat)) : Int) = (k : Int) + 6 from by omega, hm] at h
                    exact h.mono fun e v' ⟨h1, h2⟩ => ⟨h1, h2 ▸ Below.refl _ _⟩
                  rw [hm, Int.toNat_natCast] at hpk
                  have hlF := HLF.out
                  have exv : ((m2 % nfW F.length : Nat) : Int) = (m2 : Int) % ((storeWF F).length : Int) := by rw [hlF]; simp
                  rw [exv] at hpk
                  have HPK2 := Lib.hid hpk
                  have HB2 := Lib.hid hB
                  have HD := Lib.hid hdis
                  have hE := Lib.hid (show (k + 1) / 2 = k / 2 + 1 by omega)
                  have hz : (((storeWF F).length : Int) == 0) = false := by rw [beq_eq_false_iff_ne]; omega
                  have hz2 : ¬ ((storeWF F).length : Int) = 0 := by omega
                  have hLn2 : ¬ storeWF F = [] := by intro e; rw [e] at hlF; simp at hlF; omega
                  clear hm hpk hB hdis mb0 mb1 exv hlF he
                  have htm : ((m2 : Int)).tmod ((storeWF F).length : Int) = (m2 : Int) % ((storeWF F).length : Int) := Int.tmod_eq_emod_of_nonneg (by omega)
                  have hwk : IntKind.i64.wrap ((k : Int) + 6) = (k : Int) + 6 := IntWalk.i64_in _ (by omega)
                  go_upto_region 15 with fail
                  refine (show (∀ r2 : Nat → Value, Code.wp Try.prog _ _ ⟨#[t 0, .pointer (some ⟨w.heap.size, 0, none⟩), .pointer (some ⟨(w.heap.size + 1), 0, none⟩), .pointer (some ⟨D, 0, none⟩), .pointer (some ⟨(D + 1), 0, none⟩), .pointer (some ⟨(D + 1 + 1), 0, none⟩), t 6, t 7, .int .i64 (flW Y : Int), .int .i64 (k : Int), r2 10, t 11, t 12, t 13, t 14, t 15, t 16, t 17, t 18, t 19, t 20, t 21, t 22, t 23, t 24, t 25, t 26, t 27, t 28, t 29, t 30, t 31, t 32, t 33, t 34, t 35, t 36, t 37, t 38, t 39, t 40, t 41, r2 42, r2 43, r2 44, r2 45, r2 46, r2 47, r2 48, r2 49, r2 50, r2 51, r2 52, r2 53, r2 54, r2 55, r2 56, r2 57, r2 58, r2 59, r2 60, r2 61, r2 62, r2 63, r2 64, r2 65, r2 66, r2 67, r2 68, r2 69, r2 70, r2 71, r2 72, r2 73, r2 74, r2 75, r2 76, r2 77, r2 78, r2 79, r2 80, r2 81, r2 82, r2 83, r2 84, r2 85, undef], []⟩ _) → _ from fun h => h ((fun l : List Value => fun i => l.getD i undef) [undef, undef, undef, undef, undef, undef, undef, undef, undef, undef, _, undef, undef, undef, undef, undef, undef, undef, undef, undef, undef, undef, undef, undef, undef, undef, undef, undef, undef, undef, undef, undef, undef, undef, undef, undef, undef, undef, undef, undef, undef, undef, _, _, _, _, _, _, _, _, _, _, _, _, _, _, _, _, _, _, _, _, _, _, _, _, _, _, _, _, _, _, _, _, _, _, _, _, _, _, _, _, _, _, _, _])) ?_
                  intro r2
                  dsimp only
                  refine wp_region_facts 12 [(1, 0), (3, 2), (5, 4), (6, 3), (6, 5), (8, 7), (9, 8), (10, 6), (10, 9), (11, 10)] (fun x => ⟨#[t 0, .pointer (some ⟨w.heap.size, 0, none⟩), .pointer (some ⟨(w.heap.size + 1), 0, none⟩), .pointer (some ⟨D, 0, none⟩), .pointer (some ⟨(D + 1), 0, none⟩), .pointer (some ⟨(D + 1 + 1), 0, none⟩), t 6, t 7, .int .i64 (flW Y : Int), .int .i64 (k : Int), r2 10, t 11, t 12, t 13, t 14, t 15, t 16, t 17, t 18, t 19, t 20, t 21, t 22, t 23, t 24, t 25, t 26, t 27, t 28, t 29, t 30, t 31, t 32, t 33, t 34, t 35, t 36, t 37, t 38, t 39, t 40, t 41, r2 42, r2 43, r2 44, r2 45, r2 46, r2 47, r2 48, r2 49, r2 50, r2 51, r2 52, r2 53, r2 54, r2 55, r2 56, r2 57, r2 58, r2 59, r2 60, r2 61, r2 62, r2 63, r2 64, r2 65, r2 66, r2 67, r2 68, r2 69, r2 70, r2 71, x 0, x 1, x 2, x 3, x 4, x 5, x 6, x 7, x 8, x 9, x 10, x 11, r2 84, r2 85, undef], []⟩) (fun i => [r2 72, r2 73, r2 74, r2 75, r2 76, r2 77, r2 78, r2 79, r2 80, r2 81, r2 82, r2 83].getD i undef) [fun _ x => x = .pointer (some ⟨(D + 1), 1, none⟩), fun _ x => x = qv, fun _ x => x = .pointer (some ⟨w.heap.size, 2, none⟩), fun _ x => x = .slice ya Y.length yc, fun _ x => x = .int .i64 (k : Int), fun _ x => x = .int .i64 ((k : Int) + 6), fun _ x => x = .int .i64 (m2 : Int), fun _ x => x = .pointer (some ⟨D, 1, none⟩), fun _ x => x = .slice sg (storeWF F).length gc, fun _ x => x = .int .i64 ((storeWF F).length : Int), fun _ x => x = .int .i64 ((m2 : Int) % ((storeWF F).length : Int)), fun v x => ∃ b, x = .slice (some ⟨b, 0, none⟩) 1 1 ∧ Own v b [.int .i64 ((m2 : Int) % ((storeWF F).length : Int))]] (by rfl) (by kernel_rfl) (by kernel_rfl) (by kernel_rfl) (stays_cons (Stays.eq _) (stays_cons (Stays.eq _) (stays_cons (Stays.eq _) (stays_cons (Stays.eq _) (stays_cons (Stays.eq _) (stays_cons (Stays.eq _) (stays_cons (Stays.eq _) (stays_cons (Stays.eq _) (stays_cons (Stays.eq _) (stays_cons (Stays.eq _) (stays_cons (Stays.eq _) (stays_cons ((show Stays (fun v x => ∃ b, x = .slice (some ⟨b, 0, none⟩) 1 1 ∧ Own v b [.int .i64 ((m2 : Int) % ((storeWF F).length : Int))]) from fun v v' x g ⟨b, e, o⟩ => ⟨b, e, o.keep g⟩)) stays_nil)))))))))))) ?step15 ?fin15
                  case step15 =>
                    rintro i hi x v gv hd K hK
                    have hi8 : i = 0 ∨ i = 1 ∨ i = 2 ∨ i = 3 ∨ i = 4 ∨ i = 5 ∨ i = 6 ∨ i = 7 ∨ i = 8 ∨ i = 9 ∨ i = 10 ∨ i = 11 := by omega
                    rcases hi8 with rfl | rfl | rfl | rfl | rfl | rfl | rfl | rfl | rfl | rfl | rfl | rfl
                    · show wpOp Try.prog _ _ 0 K (⟨#[t 0, .pointer (some ⟨w.heap.size, 0, none⟩), .pointer (some ⟨(w.heap.size + 1), 0, none⟩), .pointer (some ⟨D, 0, none⟩), .pointer (some ⟨(D + 1), 0, none⟩), .pointer (some ⟨(D + 1 + 1), 0, none⟩), t 6, t 7, .int .i64 (flW Y : Int), .int .i64 (k : Int), r2 10, t 11, t 12, t 13, t 14, t 15, t 16, t 17, t 18, t 19, t 20, t 21, t 22, t 23, t 24, t 25, t 26, t 27, t 28, t 29, t 30, t 31, t 32, t 33, t 34, t 35, t 36, t 37, t 38, t 39, t 40, t 41, r2 42, r2 43, r2 44, r2 45, r2 46, r2 47, r2 48, r2 49, r2 50, r2 51, r2 52, r2 53, r2 54, r2 55, r2 56, r2 57, r2 58, r2 59, r2 60, r2 61, r2 62, r2 63, r2 64, r2 65, r2 66, r2 67, r2 68, r2 69, r2 70, r2 71, x 0, x 1, x 2, x 3, x 4, x 5, x 6, x 7, x 8, x 9, x 10, x 11, r2 84, r2 85, undef], []⟩ : Act) v
                      refine wpOp_step rfl (fun K' hK' => ?_)
                      go_simp
                      exact hK' _ _ (hK _ _ (Below.refl _ _) (at_of rfl (rfl)))
                    · obtain ⟨x, rfl⟩ := upd_of (show x 0 = .pointer (some ⟨(D + 1), 1, none⟩) from hd 0 _ (by simp) rfl)
                      show wpOp Try.prog _ _ 1 K (⟨#[t 0, .pointer (some ⟨w.heap.size, 0, none⟩), .pointer (some ⟨(w.heap.size + 1), 0, none⟩), .pointer (some ⟨D, 0, none⟩), .pointer (some ⟨(D + 1), 0, none⟩), .pointer (some ⟨(D + 1 + 1), 0, none⟩), t 6, t 7, .int .i64 (flW Y : Int), .int .i64 (k : Int), r2 10, t 11, t 12, t 13, t 14, t 15, t 16, t 17, t 18, t 19, t 20, t 21, t 22, t 23, t 24, t 25, t 26, t 27, t 28, t 29, t 30, t 31, t 32, t 33, t 34, t 35, t 36, t 37, t 38, t 39, t 40, t 41, r2 42, r2 43, r2 44, r2 45, r2 46, r2 47, r2 48, r2 49, r2 50, r2 51, r2 52, r2 53, r2 54, r2 55, r2 56, r2 57, r2 58, r2 59, r2 60, r2 61, r2 62, r2 63, r2 64, r2 65, r2 66, r2 67, r2 68, r2 69, r2 70, r2 71, .pointer (some ⟨(D + 1), 1, none⟩), x 1, x 2, x 3, x 4, x 5, x 6, x 7, x 8, x 9, x 10, x 11, r2 84, r2 85, undef], []⟩ : Act) v
                      refine wpOp_step rfl (fun K' hK' => ?_)
                      have q := (o4.1.keep gv).2 1 _ rfl
                      go_simp
                      exact hK' _ _ (hK _ _ (Below.refl _ _) (at_of rfl (rfl)))
                    · show wpOp Try.prog _ _ 2 K (⟨#[t 0, .pointer (some ⟨w.heap.size, 0, none⟩), .pointer (some ⟨(w.heap.size + 1), 0, none⟩), .pointer (some ⟨D, 0, none⟩), .pointer (some ⟨(D + 1), 0, none⟩), .pointer (some ⟨(D + 1 + 1), 0, none⟩), t 6, t 7, .int .i64 (flW Y : Int), .int .i64 (k : Int), r2 10, t 11, t 12, t 13, t 14, t 15, t 16, t 17, t 18, t 19, t 20, t 21, t 22, t 23, t 24, t 25, t 26, t 27, t 28, t 29, t 30, t 31, t 32, t 33, t 34, t 35, t 36, t 37, t 38, t 39, t 40, t 41, r2 42, r2 43, r2 44, r2 45, r2 46, r2 47, r2 48, r2 49, r2 50, r2 51, r2 52, r2 53, r2 54, r2 55, r2 56, r2 57, r2 58, r2 59, r2 60, r2 61, r2 62, r2 63, r2 64, r2 65, r2 66, r2 67, r2 68, r2 69, r2 70, r2 71, x 0, x 1, x 2, x 3, x 4, x 5, x 6, x 7, x 8, x 9, x 10, x 11, r2 84, r2 85, undef], []⟩ : Act) v
                      refine wpOp_step rfl (fun K' hK' => ?_)
                      go_simp
                      exact hK' _ _ (hK _ _ (Below.refl _ _) (at_of rfl (rfl)))
                    · obtain ⟨x, rfl⟩ := upd_of (show x 2 = .pointer (some ⟨w.heap.size, 2, none⟩) from hd 2 _ (by simp) rfl)
                      show wpOp Try.prog _ _ 3 K (⟨#[t 0, .pointer (some ⟨w.heap.size, 0, none⟩), .pointer (some ⟨(w.heap.size + 1), 0, none⟩), .pointer (some ⟨D, 0, none⟩), .pointer (some ⟨(D + 1), 0, none⟩), .pointer (some ⟨(D + 1 + 1), 0, none⟩), t 6, t 7, .int .i64 (flW Y : Int), .int .i64 (k : Int), r2 10, t 11, t 12, t 13, t 14, t 15, t 16, t 17, t 18, t 19, t 20, t 21, t 22, t 23, t 24, t 25, t 26, t 27, t 28, t 29, t 30, t 31, t 32, t 33, t 34, t 35, t 36, t 37, t 38, t 39, t 40, t 41, r2 42, r2 43, r2 44, r2 45, r2 46, r2 47, r2 48, r2 49, r2 50, r2 51, r2 52, r2 53, r2 54, r2 55, r2 56, r2 57, r2 58, r2 59, r2 60, r2 61, r2 62, r2 63, r2 64, r2 65, r2 66, r2 67, r2 68, r2 69, r2 70, r2 71, x 0, x 1, .pointer (some ⟨w.heap.size, 2, none⟩), x 3, x 4, x 5, x 6, x 7, x 8, x 9, x 10, x 11, r2 84, r2 85, undef], []⟩ : Act) v
                      refine wpOp_step rfl (fun K' hK' => ?_)
                      have q := (hM.hx.keep gv).2 2 _ rfl
                      go_simp
                      exact hK' _ _ (hK _ _ (Below.refl _ _) (at_of rfl (rfl)))
                    · show wpOp Try.prog _ _ 4 K (⟨#[t 0, .pointer (some ⟨w.heap.size, 0, none⟩), .pointer (some ⟨(w.heap.size + 1), 0, none⟩), .pointer (some ⟨D, 0, none⟩), .pointer (some ⟨(D + 1), 0, none⟩), .pointer (some ⟨(D + 1 + 1), 0, none⟩), t 6, t 7, .int .i64 (flW Y : Int), .int .i64 (k : Int), r2 10, t 11, t 12, t 13, t 14, t 15, t 16, t 17, t 18, t 19, t 20, t 21, t 22, t 23, t 24, t 25, t 26, t 27, t 28, t 29, t 30, t 31, t 32, t 33, t 34, t 35, t 36, t 37, t 38, t 39, t 40, t 41, r2 42, r2 43, r2 44, r2 45, r2 46, r2 47, r2 48, r2 49, r2 50, r2 51, r2 52, r2 53, r2 54, r2 55, r2 56, r2 57, r2 58, r2 59, r2 60, r2 61, r2 62, r2 63, r2 64, r2 65, r2 66, r2 67, r2 68, r2 69, r2 70, r2 71, x 0, x 1, x 2, x 3, x 4, x 5, x 6, x 7, x 8, x 9, x 10, x 11, r2 84, r2 85, undef], []⟩ : Act) v
                      refine wpOp_step rfl (fun K' hK' => ?_)
                      go_simp
                      exact hK' _ _ (hK _ _ (Below.refl _ _) (at_of rfl (rfl)))
                    · obtain ⟨x, rfl⟩ := upd_of (show x 4 = .int .i64 (k : Int) from hd 4 _ (by simp) rfl)
                      show wpOp Try.prog _ _ 5 K (⟨#[t 0, .pointer (some ⟨w.heap.size, 0, none⟩), .pointer (some ⟨(w.heap.size + 1), 0, none⟩), .pointer (some ⟨D, 0, none⟩), .pointer (some ⟨(D + 1), 0, none⟩), .pointer (some ⟨(D + 1 + 1), 0, none⟩), t 6, t 7, .int .i64 (flW Y : Int), .int .i64 (k : Int), r2 10, t 11, t 12, t 13, t 14, t 15, t 16, t 17, t 18, t 19, t 20, t 21, t 22, t 23, t 24, t 25, t 26, t 27, t 28, t 29, t 30, t 31, t 32, t 33, t 34, t 35, t 36, t 37, t 38, t 39, t 40, t 41, r2 42, r2 43, r2 44, r2 45, r2 46, r2 47, r2 48, r2 49, r2 50, r2 51, r2 52, r2 53, r2 54, r2 55, r2 56, r2 57, r2 58, r2 59, r2 60, r2 61, r2 62, r2 63, r2 64, r2 65, r2 66, r2 67, r2 68, r2 69, r2 70, r2 71, x 0, x 1, x 2, x 3, .int .i64 (k : Int), x 5, x 6, x 7, x 8, x 9, x 10, x 11, r2 84, r2 85, undef], []⟩ : Act) v
                      refine wpOp_step rfl (fun K' hK' => ?_)
                      go_simp
                      exact hK' _ _ (hK _ _ (Below.refl _ _) (at_of rfl (rfl)))
                    · obtain ⟨x, rfl⟩ := upd_of (show x 3 = .slice ya Y.length yc from hd 3 _ (by simp) rfl)
                      obtain ⟨x, rfl⟩ := upd_of (show x 5 = .int .i64 ((k : Int) + 6) from hd 5 _ (by simp) rfl)
                      show wpOp Try.prog _ _ 6 K (⟨#[t 0, .pointer (some ⟨w.heap.size, 0, none⟩), .pointer (some ⟨(w.heap.size + 1), 0, none⟩), .pointer (some ⟨D, 0, none⟩), .pointer (some ⟨(D + 1), 0, none⟩), .pointer (some ⟨(D + 1 + 1), 0, none⟩), t 6, t 7, .int .i64 (flW Y : Int), .int .i64 (k : Int), r2 10, t 11, t 12, t 13, t 14, t 15, t 16, t 17, t 18, t 19, t 20, t 21, t 22, t 23, t 24, t 25, t 26, t 27, t 28, t 29, t 30, t 31, t 32, t 33, t 34, t 35, t 36, t 37, t 38, t 39, t 40, t 41, r2 42, r2 43, r2 44, r2 45, r2 46, r2 47, r2 48, r2 49, r2 50, r2 51, r2 52, r2 53, r2 54, r2 55, r2 56, r2 57, r2 58, r2 59, r2 60, r2 61, r2 62, r2 63, r2 64, r2 65, r2 66, r2 67, r2 68, r2 69, r2 70, r2 71, x 0, x 1, x 2, .slice ya Y.length yc, x 4, .int .i64 ((k : Int) + 6), x 6, x 7, x 8, x 9, x 10, x 11, r2 84, r2 85, undef], []⟩ : Act) v
                      refine wpOp_step rfl (fun K' hK' => ?_)
                      go_simp
                      refine (HB2.out v (hM.gr.tr gv)).mono ?_
                      rintro e v' ⟨rfl, hg⟩
                      exact hK' _ _ (hK _ _ hg (at_of rfl (rfl)))
                    · show wpOp Try.prog _ _ 7 K (⟨#[t 0, .pointer (some ⟨w.heap.size, 0, none⟩), .pointer (some ⟨(w.heap.size + 1), 0, none⟩), .pointer (some ⟨D, 0, none⟩), .pointer (some ⟨(D + 1), 0, none⟩), .pointer (some ⟨(D + 1 + 1), 0, none⟩), t 6, t 7, .int .i64 (flW Y : Int), .int .i64 (k : Int), r2 10, t 11, t 12, t 13, t 14, t 15, t 16, t 17, t 18, t 19, t 20, t 21, t 22, t 23, t 24, t 25, t 26, t 27, t 28, t 29, t 30, t 31, t 32, t 33, t 34, t 35, t 36, t 37, t 38, t 39, t 40, t 41, r2 42, r2 43, r2 44, r2 45, r2 46, r2 47, r2 48, r2 49, r2 50, r2 51, r2 52, r2 53, r2 54, r2 55, r2 56, r2 57, r2 58, r2 59, r2 60, r2 61, r2 62, r2 63, r2 64, r2 65, r2 66, r2 67, r2 68, r2 69, r2 70, r2 71, x 0, x 1, x 2, x 3, x 4, x 5, x 6, x 7, x 8, x 9, x 10, x 11, r2 84, r2 85, undef], []⟩ : Act) v
                      refine wpOp_step rfl (fun K' hK' => ?_)
                      go_simp
                      exact hK' _ _ (hK _ _ (Below.refl _ _) (at_of rfl (rfl)))
                    · obtain ⟨x, rfl⟩ := upd_of (show x 7 = .pointer (some ⟨D, 1, none⟩) from hd 7 _ (by simp) rfl)
                      show wpOp Try.prog _ _ 8 K (⟨#[t 0, .pointer (some ⟨w.heap.size, 0, none⟩), .pointer (some ⟨(w.heap.size + 1), 0, none⟩), .pointer (some ⟨D, 0, none⟩), .pointer (some ⟨(D + 1), 0, none⟩), .pointer (some ⟨(D + 1 + 1), 0, none⟩), t 6, t 7, .int .i64 (flW Y : Int), .int .i64 (k : Int), r2 10, t 11, t 12, t 13, t 14, t 15, t 16, t 17, t 18, t 19, t 20, t 21, t 22, t 23, t 24, t 25, t 26, t 27, t 28, t 29, t 30, t 31, t 32, t 33, t 34, t 35, t 36, t 37, t 38, t 39, t 40, t 41, r2 42, r2 43, r2 44, r2 45, r2 46, r2 47, r2 48, r2 49, r2 50, r2 51, r2 52, r2 53, r2 54, r2 55, r2 56, r2 57, r2 58, r2 59, r2 60, r2 61, r2 62, r2 63, r2 64, r2 65, r2 66, r2 67, r2 68, r2 69, r2 70, r2 71, x 0, x 1, x 2, x 3, x 4, x 5, x 6, .pointer (some ⟨D, 1, none⟩), x 8, x 9, x 10, x 11, r2 84, r2 85, undef], []⟩ : Act) v
                      refine wpOp_step rfl (fun K' hK' => ?_)
                      have q := (hM.b3.keep gv).2 1 _ rfl
                      go_simp
                      exact hK' _ _ (hK _ _ (Below.refl _ _) (at_of rfl (rfl)))
                    · obtain ⟨x, rfl⟩ := upd_of (show x 8 = .slice sg (storeWF F).length gc from hd 8 _ (by simp) rfl)
                      show wpOp Try.prog _ _ 9 K (⟨#[t 0, .pointer (some ⟨w.heap.size, 0, none⟩), .pointer (some ⟨(w.heap.size + 1), 0, none⟩), .pointer (some ⟨D, 0, none⟩), .pointer (some ⟨(D + 1), 0, none⟩), .pointer (some ⟨(D + 1 + 1), 0, none⟩), t 6, t 7, .int .i64 (flW Y : Int), .int .i64 (k : Int), r2 10, t 11, t 12, t 13, t 14, t 15, t 16, t 17, t 18, t 19, t 20, t 21, t 22, t 23, t 24, t 25, t 26, t 27, t 28, t 29, t 30, t 31, t 32, t 33, t 34, t 35, t 36, t 37, t 38, t 39, t 40, t 41, r2 42, r2 43, r2 44, r2 45, r2 46, r2 47, r2 48, r2 49, r2 50, r2 51, r2 52, r2 53, r2 54, r2 55, r2 56, r2 57, r2 58, r2 59, r2 60, r2 61, r2 62, r2 63, r2 64, r2 65, r2 66, r2 67, r2 68, r2 69, r2 70, r2 71, x 0, x 1, x 2, x 3, x 4, x 5, x 6, x 7, .slice sg (storeWF F).length gc, x 9, x 10, x 11, r2 84, r2 85, undef], []⟩ : Act) v
                      refine wpOp_step rfl (fun K' hK' => ?_)
                      go_simp
                      exact hK' _ _ (hK _ _ (Below.refl _ _) (at_of rfl (rfl)))
                    · obtain ⟨x, rfl⟩ := upd_of (show x 6 = .int .i64 (m2 : Int) from hd 6 _ (by simp) rfl)
                      obtain ⟨x, rfl⟩ := upd_of (show x 9 = .int .i64 ((storeWF F).length : Int) from hd 9 _ (by simp) rfl)
                      show wpOp Try.prog _ _ 10 K (⟨#[t 0, .pointer (some ⟨w.heap.size, 0, none⟩), .pointer (some ⟨(w.heap.size + 1), 0, none⟩), .pointer (some ⟨D, 0, none⟩), .pointer (some ⟨(D + 1), 0, none⟩), .pointer (some ⟨(D + 1 + 1), 0, none⟩), t 6, t 7, .int .i64 (flW Y : Int), .int .i64 (k : Int), r2 10, t 11, t 12, t 13, t 14, t 15, t 16, t 17, t 18, t 19, t 20, t 21, t 22, t 23, t 24, t 25, t 26, t 27, t 28, t 29, t 30, t 31, t 32, t 33, t 34, t 35, t 36, t 37, t 38, t 39, t 40, t 41, r2 42, r2 43, r2 44, r2 45, r2 46, r2 47, r2 48, r2 49, r2 50, r2 51, r2 52, r2 53, r2 54, r2 55, r2 56, r2 57, r2 58, r2 59, r2 60, r2 61, r2 62, r2 63, r2 64, r2 65, r2 66, r2 67, r2 68, r2 69, r2 70, r2 71, x 0, x 1, x 2, x 3, x 4, x 5, .int .i64 (m2 : Int), x 7, x 8, .int .i64 ((storeWF F).length : Int), x 10, x 11, r2 84, r2 85, undef], []⟩ : Act) v
                      refine wpOp_step rfl (fun K' hK' => ?_)
                      go_simp
                      exact hK' _ _ (hK _ _ (Below.refl _ _) (at_of rfl (rfl)))
                    · obtain ⟨x, rfl⟩ := upd_of (show x 10 = .int .i64 ((m2 : Int) % ((storeWF F).length : Int)) from hd 10 _ (by simp) rfl)
                      show wpOp Try.prog _ _ 11 K (⟨#[t 0, .pointer (some ⟨w.heap.size, 0, none⟩), .pointer (some ⟨(w.heap.size + 1), 0, none⟩), .pointer (some ⟨D, 0, none⟩), .pointer (some ⟨(D + 1), 0, none⟩), .pointer (some ⟨(D + 1 + 1), 0, none⟩), t 6, t 7, .int .i64 (flW Y : Int), .int .i64 (k : Int), r2 10, t 11, t 12, t 13, t 14, t 15, t 16, t 17, t 18, t 19, t 20, t 21, t 22, t 23, t 24, t 25, t 26, t 27, t 28, t 29, t 30, t 31, t 32, t 33, t 34, t 35, t 36, t 37, t 38, t 39, t 40, t 41, r2 42, r2 43, r2 44, r2 45, r2 46, r2 47, r2 48, r2 49, r2 50, r2 51, r2 52, r2 53, r2 54, r2 55, r2 56, r2 57, r2 58, r2 59, r2 60, r2 61, r2 62, r2 63, r2 64, r2 65, r2 66, r2 67, r2 68, r2 69, r2 70, r2 71, x 0, x 1, x 2, x 3, x 4, x 5, x 6, x 7, x 8, x 9, .int .i64 ((m2 : Int) % ((storeWF F).length : Int)), x 11, r2 84, r2 85, undef], []⟩ : Act) v
                      refine wpOp_step rfl (fun K' hK' => ?_)
                      go_simp
                      have hg := Gr.al v (.cells (List.toArray [.int .i64 ((m2 : Int) % ((storeWF F).length : Int))]) 3)
                      exact hK' _ _ (hK _ _ hg (at_of rfl (⟨v.heap.size, rfl, Own.new v [.int .i64 ((m2 : Int) % ((storeWF F).length : Int))] 3 v.heap.size rfl⟩)))
                  case fin15 =>
                    rintro x v gv hd
                    obtain ⟨x, rfl⟩ := upd_of (show x 1 = qv from hd 1 _ (by omega) rfl)
                    obtain ⟨b7, e11, ow7⟩ := hd 11 _ (by omega) rfl
                    obtain ⟨x, rfl⟩ := upd_of (show x 11 = .slice (some ⟨b7, 0, none⟩) 1 1 from e11)
                    clear hd
                    show wpList Try.prog _ _ (List.drop 12 _) (⟨#[t 0, .pointer (some ⟨w.heap.size, 0, none⟩), .pointer (some ⟨(w.heap.size + 1), 0, none⟩), .pointer (some ⟨D, 0, none⟩), .pointer (some ⟨(D + 1), 0, none⟩), .pointer (some ⟨(D + 1 + 1), 0, none⟩), t 6, t 7, .int .i64 (flW Y : Int), .int .i64 (k : Int), r2 10, t 11, t 12, t 13, t 14, t 15, t 16, t 17, t 18, t 19, t 20, t 21, t 22, t 23, t 24, t 25, t 26, t 27, t 28, t 29, t 30, t 31, t 32, t 33, t 34, t 35, t 36, t 37, t 38, t 39, t 40, t 41, r2 42, r2 43, r2 44, r2 45, r2 46, r2 47, r2 48, r2 49, r2 50, r2 51, r2 52, r2 53, r2 54, r2 55, r2 56, r2 57, r2 58, r2 59, r2 60, r2 61, r2 62, r2 63, r2 64, r2 65, r2 66, r2 67, r2 68, r2 69, r2 70, r2 71, x 0, qv, x 2, x 3, x 4, x 5, x 6, x 7, x 8, x 9, x 10, .slice (some ⟨b7, 0, none⟩) 1 1, r2 84, r2 85, undef], []⟩ : Act) v
                    simp only [List.drop_succ_cons, List.drop_zero]
                    have gvs := gv.size
                    have hgv : H1 ≤ v.heap.size := by omega
                    have hoA := owns_keep wq' gv
                    have hoB := owns_keep wp gv
                    have HLo := Lib.hid wq'.lt
                    have HLq := Lib.hid wp.lt
                    clear hz hz2 htm hwk
                    go_wp2_with (at_builtin; refine wpList_append_lies _ rfl _ _ 24 rfl H1 3 i0 _ 1 8 Try.underlying24 hi hz0 hz1 hz2 rfl (by decide) qv _ _ rfl hoA ⟨b7, 0, none⟩ 1 1 ([(m2 : Int) % ((storeWF F).length : Int)].map (fun n => Value.int .i64 n)) rfl rfl ow7.news (ints_one _) (by decide) (by unfold maxLen; omega) (by omega) (by omega) _ rfl ?_; intro gb cap w6 hown4 hgr4 hat4 hlt4; have hM6 := (hM.keep gv).grown HMP.out hgr4 (fun r e => by have := HLo.out r e; omega); have o46 := (o4.keep gv).grownRow hgr4 (fun r e => by have := HLo.out r e; omega); have o56 := (o5.keep gv).grownRow hgr4 (fun r e => by have := HLo.out r e; omega); have r06 := (r0.grow gv).grown hgr4 (fun r b off e ea => by have := HLo.out r e; have := HA0.out b off ea; omega); have r16 := (r1.grow gv).grown hgr4 (fun r b off e ea => by have := HLo.out r e; have := HA1.out b off ea; omega); have wo6 := hoB.kept hgr4 (by (cases hpo : pv2.ownBlock with | none => exact .inl rfl | some r => exact .inr (fun e => HD.out r hpo e.symm))); have hge6 := Nat.le_trans hgv hgr4.size; (obtain ⟨t0, t1⟩ := o46.1.c2); have z0 := o46.2 0; have z1 := o46.2 1)
                    go_roundw
                    case rel =>
                      refine Lib.hid ⟨k + 1, pv2, _, by omega, by go_num, hM6.set HMP.out (by omega) _ _, by simpa using hge6, o46.set (i := 1) (by simp), o56.other (by omega), r06.setAt (fun b off e => by have := HA0.out b off e; omega) _ _, r16.setAt (fun b off e => by have := HA1.out b off e; omega) _ _, owns_other wo6 (by omega), ?_, ?_⟩
                      · rw [hE.out, List.take_add_one, HPK2.out, Option.toList_some, flat_snoc]
                        exact owns_other hown4 (by omega)
                      · intro r e e'
                        have e2 : gb = r := by simpa [Value.ownBlock] using e'
                        subst e2
                        rcases hat4 with h | h
                        · exact HD.out _ e h
                        · have := HLq.out _ e
                          omega
                    case measure => simp [intOf]; omega
          · obtain rfl : k = 2 * flW Y + 1 := by omega
            have dk : decide (((2 * flW Y + 1 : Nat) : Int) < 2 * (flW Y : Int) + 1) = false := by simp
            have e1 := makeWP_len P Y
            have e2 := makeWF_len F Y
            rw [List.take_of_length_le (by omega), ← e1] at wp
            rw [List.take_of_length_le (by omega), show (2 * flW Y + 1) / 2 = flW Y by omega, ← e2] at wq'
            obtain ⟨a8, c8, hv8, r8, n8⟩ := owns_row_new (enc := encI) (l := makeWP P Y) (fun _ => rfl) (by omega) wp
            obtain ⟨a9, c9, hv9, r9, n9⟩ := owns_row_new (enc := encI) (l := makeWF F Y) (fun _ => rfl) (by omega) wq'
            subst hv8
            subst hv9
            have R8 := Lib.hid r8
            have R9 := Lib.hid r9
            have N8 := Lib.hid (n8.le (show w.heap.size + 1 + 1 ≤ H1 by omega))
            have N9 := Lib.hid (n9.le (show w.heap.size + 1 + 1 ≤ H1 by omega))
            have E1 := Lib.hid e1
            clear r8 r9 n8 n9 wp wq' e1 e2 hdis
            obtain ⟨s0, s1⟩ := o4.1.c2
            obtain ⟨u0, u1⟩ := hM.or.1.c2
            have z0 := hM.or.2 0
            have z1 := hM.or.2 1
            have hgr := hM.gr
            have hor := hM.or
            go_wp2
            refine bodyPost_ret (v := .agg #[.slice a8 (makeWP P Y).length c8, .slice a9 (makeWF F Y).length c9]) (by simp [results, Try.results61, go_sem, u0, u1]) rfl ⟨a8, c8, a9, c9, rfl, (hgr.setCell (by simp) _).setCell (by simp) _, ?_, ?_, N8.out.le (by omega), N9.out.le (by omega)⟩
            · exact (R8.out.other N8.out (by omega)).other N8.out (by omega)
            · exact (R9.out.other N9.out (by omega)).other N9.out (by omega)

end Go.Proofs.Ytcdilmagcdbogaa

namespace Go.Proofs.Ytcdilmagcdbogaa
set_option linter.unusedVariables false
set_option linter.unusedSimpArgs false
open Go.RowKit

set_option maxRecDepth 100000 in
set_option maxHeartbeats 400000 in
theorem armLoads_any (l : List Ld) (h0 : 0 < l.length) (hl : l.length ≤ 1000) (a : Option Addr) (cap : Nat) (w : World) (hr0 : LRow w a l) :
    Calls Try.prog 70 #[.slice a l.length cap] w fun e w' => ∃ a' cap', e = .returned (.slice a' l.length cap') ∧ LRow w' a' l ∧ l.length ≤ cap' ∧ Gr w w' := by
  obtain ⟨b, off, rfl, _⟩ := hr0.addr h0
  obtain ⟨i0, hi, hz0, hz1, hz2⟩ := info_parts infoLd
  have hr1 := hr0.grow (Gr.al w (.cells #[] 70))
  have h1 : 0 + l.length ≤ maxLen := by unfold maxLen; omega
  have h2 : (0 + l.length) * 32 ≤ 140737488355328 := by omega
  have hfl := flat_len (enc := encL) (sz := 4) (fun _ => rfl) l
  have hnews := row_news (enc := encL) (sz := 4) (fun _ => rfl) hr1
  have Hfl := Lib.hid hfl
  have Hnews := Lib.hid hnews
  clear hfl hnews
  go_enter Try.func70, Try.ntmps70
  go_wp2_with (at_builtin; refine wpList_append_own _ rfl _ _ 53 rfl w.heap.size 70 i0 _ 4 32 Try.underlying53 hi hz0 hz1 hz2 rfl (by decide) _ _ _ rfl (owns_empty w _ _) ⟨b, off, none⟩ l.length cap (l.flatMap encL) rfl Hfl.out Hnews.out (one_flat (fun x u hu => by simp [encL] at hu; rcases hu with rfl | rfl | rfl | rfl <;> rfl) l) h1 h2 (by simp) ?_; intro v' w1 hown hgrow _)
  obtain ⟨a', cap', hv, hr2, hn2, hc2⟩ := owns_row_cap (enc := encL) (l := l) (fun _ => rfl) (by omega) (by simpa using hown)
  subst hv
  have Hr2 := Lib.hid hr2
  clear hr2 hn2 hown
  go_wp2
  go_ret
  first | exact ⟨a', ⟨cap', rfl⟩, Hr2.out, (Gr.al w _).grown' (owns_empty w _ 4) (Nat.le_refl _) hgrow⟩ | exact ⟨a', cap', rfl, Hr2.out, hc2, (Gr.al w _).grown' (owns_empty w _ 4) (Nat.le_refl _) hgrow⟩

/-- An append of a row that may be nil. -/
theorem wpList_append_opt {P : Program} (w : World) {ops : Array Oper} {rest : List Oper} {o : Oper} {a : Act} {Q : Exit → Act → World → Prop} (hgd : o.guard = none) (s x : Operand) (t : TypeId)
    (ho : o.op = .call { callee := .builtin .append, args := #[s, x], argTypes := #[t, t] })
    (base : Nat) (e : TypeId) (i : TypeInfo) (z : Value) (size bytes : Nat) (ht : P.underlying t = some (.slice e)) (hi : P.info? e = some i) (hz : i.zero = some z)
    (hsize : i.size = size) (hby : i.bytes = bytes) (hzs : z.cells.size = size) (hsz : 0 < size)
    (v : Value) (n : Nat) (xs : List Value) (hs : a.eval s = v) (hown : w.ownsRow base e size v n xs)
    (xa : Option Addr) (m c : Nat) (news : List Value) (hx : a.eval x = .slice xa m c) (hl : news.length = m * size) (hxa : xa = none → m = 0) (hnews : ∀ ad, xa = some ad → ∀ j u, news[j]? = some u → w.cell? (ad.add j) = some u) (h1 : ∀ u ∈ news, u.oneCell' = true)
    (h63 : n + m ≤ maxLen) (hbytes : (n + m) * bytes ≤ 140737488355328) (hbase : base ≤ w.heap.size)
    (h : ∀ v' w', w'.ownsRow base e size v' (n + m) (xs ++ news) → w.grownBy w' v.ownBlock → wpList P ops Q rest (a.put o.dst v') w') : wpList P ops Q (o :: rest) a w := by
  cases xa with
  | some ad => exact wpList_append_own w hgd s x t ho base e i z size bytes ht hi hz hsize hby hzs hsz v n xs hs hown ad m c news hx hl (hnews ad rfl) h1 h63 hbytes hbase (fun v' w' h2 h3 _ => h v' w' h2 h3)
  | none =>
    obtain rfl : m = 0 := hxa rfl
    obtain rfl : news = [] := List.eq_nil_of_length_eq_zero (by simpa using hl)
    refine wpList_plain hgd fun K hK => ?_
    have hrun : (Builtin.append_ #[t, t] o.type #[v, .slice none 0 c]).run P w = .ok v w := by
      rcases hown.2 with ⟨rfl, rfl⟩ | ⟨g, cap, cur, rfl, _, _, hnc, _⟩
      · simp [Builtin.append_, run_underlying ht, sizeOf, typeInfo, hi, Builtin.lenOf, Builtin.firstCells]
      · simp [Builtin.append_, run_underlying ht, sizeOf, typeInfo, hi, Builtin.lenOf, Builtin.firstCells, hnc, storeCells]
    unfold Oper.wp
    simp [execOp, ho, resolve, invoke, builtin, hs, hx, hrun, Result.andThen]
    exact hK _ _ (h v w (by simpa using hown) (World.grownBy.refl _ _))

/-- The box of a byte. -/
def heavyBox (P : List V6) (F : List V3) (Y : List Int) (m : Int) : Ld :=
  ⟨strongL (storeWP P) (storeWF F) (makeWP P (m :: Y)) (makeWF F (m :: Y)) * m / 64, strongL (storeWP P) (storeWF F) (makeWP P (m :: Y)) (makeWF F (m :: Y)) * m / 64 + 9, moistL false (storeWP P) (storeWF F) (makeWP P (m :: Y)) (makeWF F (m :: Y)), moistL true (storeWP P) (storeWF F) (makeWP P (m :: Y)) (makeWF F (m :: Y))⟩

theorem heavy_edge {ed m : Int} (e0 : 0 ≤ ed) (e1 : ed ≤ 25500) (m0 : 0 ≤ m) (m1 : m ≤ 255) : 0 ≤ ed * m ∧ ed * m ≤ 6502500 ∧ 0 ≤ ed * m / 64 ∧ ed * m / 64 ≤ 101602 := by
  have h1 := Int.mul_nonneg e0 m0
  have h2 : ed * m ≤ 25500 * 255 := Int.mul_le_mul e1 m1 m0 (by omega)
  omega

theorem heavy_ok {P : List V6} {F : List V3} {Y : List Int} (hP : ∀ v ∈ P, B6 v) (hF : ∀ v ∈ F, B3 v) {m : Int} (m0 : 0 ≤ m) (m1 : m ≤ 255) :
    LdOk (heavyBox P F Y m) ∧ (heavyBox P F Y m).sl ≤ (heavyBox P F Y m).sh ∧ (heavyBox P F Y m).wl ≤ (heavyBox P F Y m).wh ∧ (heavyBox P F Y m).sh ≤ 20000000 ∧ (heavyBox P F Y m).wh ≤ 100000 := by
  obtain ⟨s0, s1⟩ := ware_strong (F := F) (m :: Y) hP hF
  obtain ⟨w0, w1, w2⟩ := ware_moist (F := F) (m :: Y) hP hF
  obtain ⟨h0, h1, h2, h3⟩ := heavy_edge s0 s1 m0 m1
  unfold LdOk LdB heavyBox
  dsimp only
  omega

/-- What a round of the loop knows: the board of a byte, what it weighs and how strong it is. -/
structure HeavyK (w : World) (P : List V6) (F : List V3) (Y : List Int) (PS : List Paper) (FS : List Flute) (pa fa : Option Addr) (pc fc : Nat) (m : Int) (MP MF : List Int) (ed wl wh tl th : Int) : Prop where
  mak : ∀ (W : World) (ya : Option Addr) (yc : Nat), Gr w W → URow W ya (m :: Y) → Calls Try.prog 61 #[.agg #[.slice pa P.length pc, .slice fa F.length fc, .slice ya (Y.length + 1) yc]] W (MadePost MP MF W)
  l : 0 < MP.length ∧ MP.length ≤ 1000 ∧ 0 < MF.length ∧ MF.length ≤ 1000
  me : ∀ (a g b h : Option Addr) (ac gc bc hc : Nat) (W : World), PRow W a PS → FRow W g FS → IRow W b MP → IRow W h MF → Calls Try.prog 62 #[.agg #[.slice a PS.length ac, .slice g FS.length gc], .agg #[.slice b MP.length bc, .slice h MF.length hc]] W fun e w' => e = .returned (.tuple #[.agg #[.int .i64 wl, .int .i64 wh], .agg #[.int .i64 tl, .int .i64 th], .int .i64 0]) ∧ Gr W w'
  st : ∀ (a g b h : Option Addr) (ac gc bc hc : Nat) (W : World), PRow W a PS → FRow W g FS → IRow W b MP → IRow W h MF → Calls Try.prog 65 #[.agg #[.slice a PS.length ac, .slice g FS.length gc], .agg #[.slice b MP.length bc, .slice h MF.length hc]] W fun e w' => e = .returned (.tuple #[.int .i64 ed, .int .i64 0]) ∧ Gr W w'
  w0 : 0 ≤ wl
  w1 : wl ≤ wh
  w2 : wh ≤ 10000
  e0 : 0 ≤ ed
  e1 : ed ≤ 25500
  bx : heavyBox P F Y m = ⟨ed * m / 64, ed * m / 64 + 9, wl, wh⟩

theorem heavy_round {P : List V6} {F : List V3} {Y : List Int} (hP : ∀ v ∈ P, B6 v) (hF : ∀ v ∈ F, B3 v) (hY : Bytes Y) (pa fa : Option Addr) (pc fc : Nat) (w : World) (rp : Row6 w pa P) (rf : Row3 w fa F) {m : Int} (m0 : 0 ≤ m) (m1 : m ≤ 255) :
    ∃ MP MF ed wl wh tl th, HeavyK w P F Y (storeWP P) (storeWF F) pa fa pc fc m MP MF ed wl wh tl th := by
  have hY2 : Bytes (m :: Y) := fun y hy => by
    rcases List.mem_cons.1 hy with rfl | hy
    · exact ⟨m0, m1⟩
    · exact hY y hy
  have hmade := ware_made (F := F) (m :: Y) hP hF
  obtain ⟨s0, s1⟩ := ware_strong (F := F) (m :: Y) hP hF
  obtain ⟨w0, w1, w2⟩ := ware_moist (F := F) (m :: Y) hP hF
  have l3 := makeWP_len P (m :: Y)
  have l4 := makeWF_len F (m :: Y)
  have l5 := flW_12 (m :: Y)
  exact ⟨makeWP P (m :: Y), makeWF F (m :: Y), _, _, _, _, _, fun W ya yc g r => armMake_any P F (m :: Y) hP hF hY2 pa fa ya pc fc yc W (rp.grow g) (rf.grow g) r, by omega, fun a g b h ac gc bc hc W r1 r2 r3 r4 => measureF_ok _ _ _ _ a g b h ac gc bc hc W r1 r2 r3 r4 hmade, fun a g b h ac gc bc hc W r1 r2 r3 r4 => strengthF_ok _ _ _ _ a g b h ac gc bc hc W r1 r2 r3 r4 hmade, w0, w1, w2, s0, s1, rfl⟩

def heavyT : List Stp := [⟨0, 1000⟩, ⟨50, 700⟩]

theorem heavyT_ok : tableL heavyT = true := by decide

end Go.Proofs.Ytcdilmagcdbogaa

namespace Go.Proofs.Ytcdilmagcdbogaa
set_option linter.unusedVariables false
set_option linter.unusedSimpArgs false
open Go.RowKit

theorem RowOf.lit {α : Type} {enc : α → List Value} {sz : Nat} (he : ∀ x, (enc x).length = sz) (w : World) (t : TypeId) (l : List α) (hl : l.length ≤ 9223372036854775807) (cs : Array Value) (hcs : cs = (l.flatMap enc).toArray) (n : Nat) (hn : n = w.heap.size) : RowOf sz enc (w.alloc (.cells cs t)) (some ⟨n, 0, none⟩) l := by
  subst hn hcs
  refine ⟨hl, fun j x hx => ⟨w.heap.size, 0, rfl, by simp, fun i v hv => ?_⟩⟩
  have hf := flat_get he l j i x v hx hv
  refine new_cell w _ t ?_
  simpa using hf

def ps0 : List Paper := [⟨1, 200, 250, 270, 60, 80, 400000, 300⟩, ⟨2, 120, 180, 190, 70, 90, 300000, 200⟩]

def fs0 : List Flute := [⟨8000, 12000, 3600, 3700⟩]

def mp0 : List Int := [0, 1, 0]

def mf0 : List Int := [0]

theorem made0 : madeL ps0 fs0 mp0 mf0 = 0 := by decide +kernel

theorem wn0 : weighN ps0 fs0 mp0 mf0 = 580 := by decide +kernel

theorem wd0 : weighD ps0 fs0 mp0 mf0 = 1 := by decide +kernel

theorem tl0 : thickL false ps0 fs0 mp0 mf0 = 4100 := by decide +kernel

theorem th0 : thickL true ps0 fs0 mp0 mf0 = 4240 := by decide +kernel

theorem measure0 (pa fa ma ga : Option Addr) (w : World) (hp : PRow w pa ps0) (hf : FRow w fa fs0) (ha : IRow w ma mp0) (hg : IRow w ga mf0) :
    Calls Try.prog 62 #[.agg #[.slice pa 2 2, .slice fa 1 1], .agg #[.slice ma 3 3, .slice ga 1 1]] w fun e w' => ∃ m0 m1, e = .returned (.tuple #[.agg #[.int .i64 m0, .int .i64 m1], .agg #[.int .i64 4100, .int .i64 4240], .int .i64 0]) ∧ Gr w w' := by
  have h := measureF_ok ps0 fs0 mp0 mf0 pa fa ma ga 2 1 3 1 w hp hf ha hg made0
  rw [tl0, th0] at h
  exact h.mono fun e w' hh => ⟨_, _, hh⟩

end Go.Proofs.Ytcdilmagcdbogaa

namespace Go.Proofs.Ytcdilmagcdbogaa
set_option linter.unusedVariables false
set_option linter.unusedSimpArgs false
open Go.RowKit

theorem ml0 : moistL false ps0 fs0 mp0 mf0 = 616 := by decide +kernel

theorem mh0 : moistL true ps0 fs0 mp0 mf0 = 628 := by decide +kernel

theorem st0 : strongL ps0 fs0 mp0 mf0 = 900 := by decide +kernel

theorem measure1 (pa fa ma ga : Option Addr) (w : World) (hp : PRow w pa ps0) (hf : FRow w fa fs0) (ha : IRow w ma mp0) (hg : IRow w ga mf0) :
    Calls Try.prog 62 #[.agg #[.slice pa 2 2, .slice fa 1 1], .agg #[.slice ma 3 3, .slice ga 1 1]] w fun e w' => e = .returned (.tuple #[.agg #[.int .i64 616, .int .i64 628], .agg #[.int .i64 4100, .int .i64 4240], .int .i64 0]) ∧ Gr w w' := by
  have h := measureF_ok ps0 fs0 mp0 mf0 pa fa ma ga 2 1 3 1 w hp hf ha hg made0
  rw [tl0, th0, ml0, mh0] at h
  exact h

theorem strength1 (pa fa ma ga : Option Addr) (w : World) (hp : PRow w pa ps0) (hf : FRow w fa fs0) (ha : IRow w ma mp0) (hg : IRow w ga mf0) :
    Calls Try.prog 65 #[.agg #[.slice pa 2 2, .slice fa 1 1], .agg #[.slice ma 3 3, .slice ga 1 1]] w fun e w' => e = .returned (.tuple #[.int .i64 900, .int .i64 0]) ∧ Gr w w' := by
  have h := strengthF_ok ps0 fs0 mp0 mf0 pa fa ma ga 2 1 3 1 w hp hf ha hg made0
  rw [st0] at h
  exact h

end Go.Proofs.Ytcdilmagcdbogaa

namespace Go.Proofs.Ytcdilmagcdbogaa
set_option linter.unusedVariables false
set_option linter.unusedSimpArgs false
open Go.RowKit

set_option maxRecDepth 100000 in
set_option maxHeartbeats 4000000 in
theorem armBoard_any (w : World) : Calls Try.prog 66 #[] w fun e w' => e = .returned (.bool true) ∧ Gr w w' := by
  go_enter Try.func66, Try.ntmps66
  go_wp2_with fail
  refine (armSpan_anyT _ _ _).mono ?_
  rintro e w1 ⟨rfl, h1⟩
  go_wp2_with fail
  refine (armSpan_anyT _ _ _).mono ?_
  rintro e w2 ⟨rfl, h2⟩
  go_wp2_with fail
  refine (armSpan_anyT _ _ _).mono ?_
  rintro e w3 ⟨rfl, h3⟩
  go_wp2_with fail
  refine (armSpan_anyT _ _ _).mono ?_
  rintro e w4 ⟨rfl, h4⟩
  go_wp2_with fail
  refine (armSpan_anyT _ _ _).mono ?_
  rintro e w5 ⟨rfl, h5⟩
  go_upto_region 3 with fail
  refine wp_abs (fun W => Gr w W ∧ PRow W (some ⟨w4.heap.size, 0, none⟩) ps0 ∧ FRow W (some ⟨w5.heap.size, 0, none⟩) fs0 ∧ IRow W (some ⟨w5.heap.size + 1 + 1, 0, none⟩) mp0 ∧ IRow W (some ⟨w5.heap.size + 1 + 1 + 1, 0, none⟩) mf0 ∧
    Box W (w5.heap.size + 1) [.slice (some ⟨w4.heap.size, 0, none⟩) 2 2, .slice (some ⟨w5.heap.size, 0, none⟩) 1 1] ∧ Box W (w5.heap.size + 1 + 1 + 1 + 1) [.slice (some ⟨w5.heap.size + 1 + 1, 0, none⟩) 3 3, .slice (some ⟨w5.heap.size + 1 + 1 + 1, 0, none⟩) 1 1])
    ⟨((((((h1.tr (h2.tr (h3.tr (h4.tr ((Gr.al _ _).tr h5))))).tr (Gr.al _ _)).tr (Gr.al _ _)).tr (Gr.al _ _)).tr (Gr.al _ _)).tr (Gr.al _ _)),
     ((RowOf.lit (enc := encP) (sz := 8) (fun _ => rfl) w4 174 ps0 (by simp [ps0]) _ (by rfl) w4.heap.size rfl).grow h5).grow (((((Gr.al _ _).tr (Gr.al _ _)).tr (Gr.al _ _)).tr (Gr.al _ _)).tr (Gr.al _ _)),
     (RowOf.lit (enc := encF) (sz := 4) (fun _ => rfl) w5 176 fs0 (by simp [fs0]) _ (by rfl) w5.heap.size rfl).grow ((((Gr.al _ _).tr (Gr.al _ _)).tr (Gr.al _ _)).tr (Gr.al _ _)),
     (RowOf.lit (enc := encI) (sz := 1) (fun _ => rfl) _ 3 mp0 (by simp [mp0]) _ (by rfl) (w5.heap.size + 1 + 1) (by simp)).grow ((Gr.al _ _).tr (Gr.al _ _)),
     (RowOf.lit (enc := encI) (sz := 1) (fun _ => rfl) _ 3 mf0 (by simp [mf0]) _ (by rfl) (w5.heap.size + 1 + 1 + 1) (by simp)).grow (Gr.al _ _),
     (Box.new _ [.slice (some ⟨w4.heap.size, 0, none⟩) 2 2, .slice (some ⟨w5.heap.size, 0, none⟩) 1 1] 124 (w5.heap.size + 1) (by simp)).keep (((Gr.al _ _).tr (Gr.al _ _)).tr (Gr.al _ _)),
     Box.new _ [.slice (some ⟨w5.heap.size + 1 + 1, 0, none⟩) 3 3, .slice (some ⟨w5.heap.size + 1 + 1 + 1, 0, none⟩) 1 1] 127 (w5.heap.size + 1 + 1 + 1 + 1) (by simp)⟩ ?_
  rintro W ⟨gW, hp, hf, ha, hg, b1, b2⟩
  clear h1 h2 h3 h4 h5
  obtain ⟨x0, x1⟩ := b1.c2
  obtain ⟨x2, x3⟩ := b2.c2
  go_wp2_with fail
  refine (measure1 _ _ _ _ W hp hf ha hg).mono ?_
  rintro e w6 ⟨rfl, h6⟩
  clear x0 x1 x2 x3
  go_upto_region 4 with fail
  refine wp_abs (fun V => Gr W V ∧ Box V w6.heap.size [.int .i64 616, .int .i64 628] ∧ Box V (w6.heap.size + 1) [.int .i64 4100, .int .i64 4240]) ⟨(h6.tr (Gr.al _ _)).tr (Gr.al _ _), (Box.new _ [.int .i64 616, .int .i64 628] 45 w6.heap.size rfl).keep (Gr.al _ _), Box.new _ [.int .i64 4100, .int .i64 4240] 45 (w6.heap.size + 1) (by simp)⟩ ?_
  rintro V ⟨gV, b3, b3'⟩
  clear h6
  obtain ⟨x0, x1⟩ := (b1.keep gV).c2
  obtain ⟨x2, x3⟩ := (b2.keep gV).c2
  go_wp2_with fail
  refine (strength1 _ _ _ _ V (hp.grow gV) (hf.grow gV) (ha.grow gV) (hg.grow gV)).mono ?_
  rintro e w7 ⟨rfl, h7⟩
  clear x0 x1 x2 x3
  go_upto_region 5 with fail
  refine wp_abs (fun U => Gr W U ∧ Box U w6.heap.size [.int .i64 616, .int .i64 628] ∧ Box U (w6.heap.size + 1) [.int .i64 4100, .int .i64 4240])
    ⟨gV.tr h7, b3.keep h7, b3'.keep h7⟩ ?_
  rintro U ⟨gU, b4, b5⟩
  clear b1 b2 b3 b3' hp hf ha hg h7 gV
  have gX := Gr.dr U
  obtain ⟨x0, x1⟩ := (b4.keep gX).c2
  obtain ⟨x2, x3⟩ := (b5.keep gX).c2
  go_region_held3 (fun w' => w'.cell? ⟨w6.heap.size, 0, none⟩ = some (.int .i64 616) ∧ w'.cell? ⟨w6.heap.size, 1, none⟩ = some (.int .i64 628) ∧ w'.cell? ⟨w6.heap.size + 1, 0, none⟩ = some (.int .i64 4100) ∧ w'.cell? ⟨w6.heap.size + 1, 1, none⟩ = some (.int .i64 4240)) (first | exact ⟨x0, x1, x2, x3⟩ | go_keep) (first
    | (go_at_call 67; (refine (armSpan_anyT _ _ _).mono ?_); rintro e w8 ⟨rfl, hy⟩; replace gX := gX.tr hy; (obtain ⟨x0, x1⟩ := (b4.keep gX).c2); (obtain ⟨x2, x3⟩ := (b5.keep gX).c2)))
  all_goals
    go_wp2
    go_ret
    exact ⟨rfl, gW.tr (gU.tr gX)⟩

end Go.Proofs.Ytcdilmagcdbogaa

namespace Go.Proofs.Ytcdilmagcdbogaa
set_option linter.unusedVariables false
set_option linter.unusedSimpArgs false
open Go.RowKit

set_option maxRecDepth 100000 in
set_option maxHeartbeats 4000000 in
theorem armCrush_any (w : World) : Calls Try.prog 69 #[] w fun e w' => e = .returned (.bool true) ∧ Gr w w' := by
  go_enter Try.func69, Try.ntmps69
  go_wp2_with fail
  refine (armSpan_anyT _ _ _).mono ?_
  rintro e w1 ⟨rfl, h1⟩
  go_wp2_with fail
  refine (armSpan_anyT _ _ _).mono ?_
  rintro e w2 ⟨rfl, h2⟩
  go_wp2_with fail
  refine (crush1 _).mono ?_
  rintro e w3 ⟨rfl, h3⟩
  go_upto_region 2 with fail
  refine wp_abs (fun W => Gr w W ∧ Box W w3.heap.size [.int .i64 74226, .int .i64 91290]) ⟨((h1.tr h2).tr h3).tr (Gr.al _ _), Box.new _ [.int .i64 74226, .int .i64 91290] 45 w3.heap.size rfl⟩ ?_
  rintro W ⟨gW, b1⟩
  clear h1 h2 h3
  go_wp2_with fail
  refine (armSpan_anyT _ _ _).mono ?_
  rintro e w4 ⟨rfl, h4⟩
  go_wp2_with fail
  refine (armSpan_anyT _ _ _).mono ?_
  rintro e w5 ⟨rfl, h5⟩
  go_wp2_with fail
  have bx := Box.new w5 [.int .i64 0, .int .i64 1000, .int .i64 10, .int .i64 800, .int .i64 30, .int .i64 600] 138 w5.heap.size rfl
  have tr : TRow (w5.alloc (.cells #[.int .i64 0, .int .i64 1000, .int .i64 10, .int .i64 800, .int .i64 30, .int .i64 600] 138)) (some ⟨w5.heap.size, 0, none⟩) ts0 := by
    refine ⟨by simp [ts0], fun j y hy => ⟨w5.heap.size, 0, rfl, bx.1, fun i v hv => ?_⟩⟩
    have hj : j = 0 ∨ j = 1 ∨ j = 2 := by
      have := (List.getElem?_eq_some_iff.1 hy).1
      simp [ts0] at this
      omega
    have hi : i = 0 ∨ i = 1 := by
      have := (List.getElem?_eq_some_iff.1 hv).1
      simp [encT] at this
      omega
    rcases hj with rfl | rfl | rfl <;> (simp [ts0] at hy; subst hy; rcases hi with rfl | rfl <;> (simp [encT] at hv; subst hv))
    · exact bx.2 0 _ rfl
    · exact bx.2 1 _ rfl
    · exact bx.2 2 _ rfl
    · exact bx.2 3 _ rfl
    · exact bx.2 4 _ rfl
    · exact bx.2 5 _ rfl
  clear bx
  refine (high1 _ _ tr).mono ?_
  rintro e w6 ⟨rfl, h6⟩
  clear tr
  go_upto_region 3 with fail
  have gZ := (h4.tr h5).tr ((Gr.al _ _).tr h6)
  refine wp_abs (fun U => Gr W U ∧ Box U w3.heap.size [.int .i64 74226, .int .i64 91290]) ⟨gZ, b1.keep gZ⟩ ?_
  clear gZ h4 h5 h6
  rintro U ⟨gU, b4⟩
  have gX := Gr.dr U
  obtain ⟨x0, x1⟩ := (b4.keep gX).c2
  go_region_held3 (fun w' => w'.cell? ⟨w3.heap.size, 0, none⟩ = some (.int .i64 74226) ∧ w'.cell? ⟨w3.heap.size, 1, none⟩ = some (.int .i64 91290)) (first | exact ⟨x0, x1⟩ | go_keep) (first
    | (go_at_call 67; (refine (armSpan_anyT _ _ _).mono ?_); rintro e w8 ⟨rfl, hy⟩; replace gX := gX.tr hy; (obtain ⟨x0, x1⟩ := (b4.keep gX).c2)))
  all_goals
    go_wp2
    go_ret
    exact ⟨rfl, gW.tr (gU.tr gX)⟩

end Go.Proofs.Ytcdilmagcdbogaa

namespace Go.Proofs.Ytcdilmagcdbogaa
set_option linter.unusedVariables false
set_option linter.unusedSimpArgs false
open Go.RowKit

/-- What is said of a value stays while blocks of Z alone turn. -/
def StaysZ (Z : Nat → Prop) (F : World → Value → Prop) : Prop := ∀ v v' x, Kx Z v v' → F v x → F v' x

theorem StaysZ.eq (Z : Nat → Prop) (u : Value) : StaysZ Z (fun _ x => x = u) := fun _ _ _ _ h => h

theorem staysZ_nil {Z : Nat → Prop} : ∀ (i : Nat) (F : World → Value → Prop), ([] : List (World → Value → Prop))[i]? = some F → StaysZ Z F := fun i F h => by simp at h

theorem staysZ_cons {Z : Nat → Prop} {G : World → Value → Prop} {Fs : List (World → Value → Prop)} (h : StaysZ Z G) (hs : ∀ (i : Nat) (F : World → Value → Prop), Fs[i]? = some F → StaysZ Z F) : ∀ (i : Nat) (F : World → Value → Prop), (G :: Fs)[i]? = some F → StaysZ Z F
  | 0, F, e => by simp at e; subst e; exact h
  | i + 1, F, e => hs i F (by simpa using e)

theorem getD_hun {listed : Array Bool} {i : Nat} (h : listed.getD i true = false) : listed.getD i false = false ∧ (listed.setIfInBounds i true).getD i false = true := by
  by_cases hi : i < listed.size
  · simp [hi] at h ⊢
    exact h
  · simp [hi] at h

theorem wp_region_two {P : Program} {Q : Exit → Act → World → Prop} {id : Nat} {W : World} {l : List Oper} (Z : Nat → Prop) (n p q : Nat) (ds : List (Nat × Nat)) (fr : (Nat → Value) → Act) (x0 : Nat → Value) (Fs : List (World → Value → Prop)) (C : World → Prop) (S0 : World → Prop) (S1 : World → Value → Prop) (S2 : World → Value → Value → Prop) {a : Act} (ha : a = fr x0) (hm : P.follows .mixedOrders = true)
    (hB : (decide (n < l.toArray.size) && Region.sinkB .any l.toArray n && Region.chainB .any l.toArray n && minB .any l.toArray n && Region.seqB .any l.toArray (l.toArray.size - n) n (Array.replicate n true ++ Array.replicate (l.toArray.size - n) false)) = true)
    (hD : depB .any l.toArray ds = true) (hpq : (q, p) ∈ ds) (hne : p ≠ q) (hpn : p < n) (hqn : q < n)
    (hst : ∀ (i : Nat) (F : World → Value → Prop), Fs[i]? = some F → StaysZ Z F) (hC : ∀ v v', Kx Z v v' → C v → C v')
    (h0 : ∀ v v', Gr v v' → S0 v → S0 v') (h1 : ∀ v v' x, Gr v v' → S1 v x → S1 v' x) (h2 : ∀ v v' x y, Gr v v' → S2 v x y → S2 v' x y)
    (hC0 : C W.drew) (hS0 : S0 W.drew)
    (hstep : ∀ i, i < n → i ≠ p → i ≠ q → ∀ x v, C v → (∀ (j : Nat) (F : World → Value → Prop), (i, j) ∈ ds → j ≠ p → j ≠ q → Fs[j]? = some F → F v (x j)) → ∀ K : Act → World → Prop, (∀ u v', Gr v v' → (∀ F : World → Value → Prop, Fs[i]? = some F → F v' u) → K (fr (upd x i u)) v') → wpOp P l.toArray Q i K (fr x) v)
    (hp : ∀ x v, C v → S0 v → (∀ (j : Nat) (F : World → Value → Prop), (p, j) ∈ ds → j ≠ p → j ≠ q → Fs[j]? = some F → F v (x j)) → ∀ K : Act → World → Prop, (∀ u v', Kx Z v v' → S1 v' u → K (fr (upd x p u)) v') → wpOp P l.toArray Q p K (fr x) v)
    (hq : ∀ x v, C v → S1 v (x p) → (∀ (j : Nat) (F : World → Value → Prop), (q, j) ∈ ds → j ≠ p → j ≠ q → Fs[j]? = some F → F v (x j)) → ∀ K : Act → World → Prop, (∀ u v', Kx Z v v' → S2 v' (x p) u → K (fr (upd x q u)) v') → wpOp P l.toArray Q q K (fr x) v)
    (hend : ∀ x v, C v → S2 v (x p) (x q) → (∀ (j : Nat) (F : World → Value → Prop), j < n → j ≠ p → j ≠ q → Fs[j]? = some F → F v (x j)) → wpList P l.toArray Q (l.drop n) (fr x) v) : (Code.region id l.toArray true).wp P Q a W := by
  subst ha
  refine wp_region_inv' n ds (fun _ listed a v => ∃ x, a = fr x ∧ C v ∧ (∀ (j : Nat) (F : World → Value → Prop), j ≠ p → j ≠ q → Fs[j]? = some F → listed.getD j false = true → F v (x j)) ∧ (listed.getD q false = true → listed.getD p false = true ∧ S2 v (x p) (x q)) ∧ (listed.getD q false = false → listed.getD p false = true → S1 v (x p)) ∧ (listed.getD p false = false → S0 v)) hm hB hD ⟨x0, rfl, hC0, fun j F _ _ _ h => (by rw [getD_replicate_false] at h; cases h), fun h => (by rw [getD_replicate_false] at h; cases h), fun _ h => (by rw [getD_replicate_false] at h; cases h), fun _ => hS0⟩ ?_ ?_
  · rintro i hi listed a v hun hdep ⟨x, rfl, hc, hf, a2, a1, a0⟩
    have hdf : ∀ (j : Nat) (F : World → Value → Prop), (i, j) ∈ ds → j ≠ p → j ≠ q → Fs[j]? = some F → F v (x j) := fun j F hj e1 e2 hF => hf j F e1 e2 hF (hdep j hj)
    by_cases ep : i = p
    · subst ep
      have hpf := (getD_hun hun).1
      have hqf : listed.getD q false = false := by
        cases hb : listed.getD q false with
        | false => rfl
        | true =>
          have := (a2 hb).1
          rw [hpf] at this
          cases this
      refine hp x v hc (a0 hpf) hdf _ (fun u v' hg hu => ⟨upd x i u, rfl, hC v v' hg hc, fun j F e1 e2 hF hl => ?_, fun h => ?_, fun _ _ => ?_, fun h => ?_⟩)
      · rw [upd_ne x u e1]
        exact hst j F hF v v' _ hg (hf j F e1 e2 hF (by rwa [getD_set_ne false (fun e' => e1 e'.symm)] at hl))
      · rw [getD_set_ne false hne, hqf] at h
        cases h
      · rw [upd_at]
        exact hu
      · rw [(getD_hun hun).2] at h
        cases h
    · by_cases eq : i = q
      · subst eq
        have hpt := hdep p hpq
        have hqf := (getD_hun hun).1
        refine hq x v hc (a1 hqf hpt) hdf _ (fun u v' hg hu => ⟨upd x i u, rfl, hC v v' hg hc, fun j F e1 e2 hF hl => ?_, fun h => ⟨?_, ?_⟩, fun h => ?_, fun h => ?_⟩)
        · rw [upd_ne x u e2]
          exact hst j F hF v v' _ hg (hf j F e1 e2 hF (by rwa [getD_set_ne false (fun e' => e2 e'.symm)] at hl))
        · rw [getD_set_ne false (fun e => hne e.symm)]
          exact hpt
        · rw [upd_at, upd_ne x u hne]
          exact hu
        · rw [(getD_hun hun).2] at h
          cases h
        · rw [getD_set_ne false (fun e => hne e.symm), hpt] at h
          cases h
      · refine hstep i hi ep eq x v hc hdf _ (fun u v' hg hu => ⟨upd x i u, rfl, hC v v' (Kx.gr hg) hc, fun j F e1 e2 hF hl => ?_, fun h => ?_, fun h h' => ?_, fun h => ?_⟩)
        · by_cases e : j = i
          · subst e
            rw [upd_at]
            exact hu F hF
          · rw [upd_ne x u e]
            exact hst j F hF v v' _ (Kx.gr hg) (hf j F e1 e2 hF (by rwa [getD_set_ne false (fun e' => e e'.symm)] at hl))
        · rw [getD_set_ne false eq] at h
          rw [getD_set_ne false ep, upd_ne x u (fun e => ep e.symm), upd_ne x u (fun e => eq e.symm)]
          exact ⟨(a2 h).1, h2 v v' _ _ hg (a2 h).2⟩
        · rw [getD_set_ne false eq] at h
          rw [getD_set_ne false ep] at h'
          rw [upd_ne x u (fun e => ep e.symm)]
          exact h1 v v' _ hg (a1 h h')
        · rw [getD_set_ne false ep] at h
          exact h0 v v' hg (a0 h)
  · rintro listed a v hs hall ⟨x, rfl, hc, hf, a2, a1, a0⟩
    have hl : ∀ j, j < n → listed.getD j false = true := fun j hj => by
      have e1 := hall j hj
      have hl : j < listed.size := by omega
      simp [hl] at e1 ⊢
      exact e1
    exact hend x v hc (a2 (hl q hqn)).2 (fun j F hj e1 e2 hF => hf j F e1 e2 hF (hl j hj))

end Go.Proofs.Ytcdilmagcdbogaa

namespace Go.Proofs.Ytcdilmagcdbogaa
set_option linter.unusedVariables false
set_option linter.unusedSimpArgs false
open Go.RowKit

/-- A variable that was made holds what it was made with, and once written what was written. -/
def PairHeld (W : World) (x : Nat → Value) (v : World) (l : Array Bool) (p q : Nat) (c c' : List Value) : Prop := l.getD p false = true → ∃ b, x p = .pointer (some ⟨b, 0, none⟩) ∧ W.heap.size ≤ b ∧ Own v b (if l.getD q false = true then c' else c)

theorem PairHeld.gr {W v v' : World} {x : Nat → Value} {l : Array Bool} {p q i : Nat} {c c' : List Value} (h : PairHeld W x v l p q c c') (g : Gr v v') (u : Value) (hp : i ≠ p) (hq : i ≠ q) : PairHeld W (upd x i u) v' (l.setIfInBounds i true) p q c c' := by
  intro e
  rw [getD_set_ne false hp] at e
  obtain ⟨b, h1, h2, h3⟩ := h e
  refine ⟨b, ?_, h2, ?_⟩
  · rw [upd_ne x u (fun e => hp e.symm)]
    exact h1
  · rw [getD_set_ne false hq]
    exact h3.keep g

theorem PairHeld.kx {W v v' : World} {x : Nat → Value} {l : Array Bool} {p q i : Nat} {c c' : List Value} (h : PairHeld W x v l p q c c') {d : Nat} (g : Kx (fun b => b = d) v v') (hne : l.getD p false = true → x p ≠ .pointer (some ⟨d, 0, none⟩)) (hp : i ≠ p) (hq : i ≠ q) : PairHeld W x v' (l.setIfInBounds i true) p q c c' := by
  intro e
  rw [getD_set_ne false hp] at e
  obtain ⟨b, h1, h2, h3⟩ := h e
  refine ⟨b, h1, h2, ?_⟩
  rw [getD_set_ne false hq]
  exact h3.kx g (fun e2 => hne e (by rw [h1, e2]))

theorem wp_region_fresh2 {P : Program} {Q : Exit → Act → World → Prop} {id : Nat} {W : World} {l : List Oper} (n p1 q1 p2 q2 : Nat) (c1 d1 c2 d2 : List Value) (t1 t2 : TypeId) (ds : List (Nat × Nat)) (fr : (Nat → Value) → Act) (x0 : Nat → Value) (Fs : List (World → Value → Prop)) {a : Act} (ha : a = fr x0) (hm : P.follows .mixedOrders = true)
    (hB : (decide (n < l.toArray.size) && Region.sinkB .any l.toArray n && Region.chainB .any l.toArray n && minB .any l.toArray n && Region.seqB .any l.toArray (l.toArray.size - n) n (Array.replicate n true ++ Array.replicate (l.toArray.size - n) false)) = true)
    (hD : depB .any l.toArray ds = true) (hd1 : (q1, p1) ∈ ds) (hd2 : q2 < n → (q2, p2) ∈ ds) (hne : [p1, q1, p2, q2].Nodup) (hn : p1 < n ∧ q1 < n ∧ p2 < n)
    (hst : ∀ (i : Nat) (F : World → Value → Prop), Fs[i]? = some F → StaysZ (fun b => W.heap.size ≤ b) F)
    (hstep : ∀ i, i < n → i ≠ p1 → i ≠ q1 → i ≠ p2 → i ≠ q2 → ∀ x v, Gr W v → (∀ (j : Nat) (F : World → Value → Prop), (i, j) ∈ ds → ¬ j ∈ [p1, q1, p2, q2] → Fs[j]? = some F → F v (x j)) → ∀ K : Act → World → Prop, (∀ u v', Gr v v' → (∀ F : World → Value → Prop, Fs[i]? = some F → F v' u) → K (fr (upd x i u)) v') → wpOp P l.toArray Q i K (fr x) v)
    (hp1 : ∀ x v, Gr W v → ∀ K : Act → World → Prop, K (fr (upd x p1 (.pointer (some ⟨v.heap.size, 0, none⟩)))) (v.alloc (.cells c1.toArray t1)) → wpOp P l.toArray Q p1 K (fr x) v)
    (hp2 : ∀ x v, Gr W v → ∀ K : Act → World → Prop, K (fr (upd x p2 (.pointer (some ⟨v.heap.size, 0, none⟩)))) (v.alloc (.cells c2.toArray t2)) → wpOp P l.toArray Q p2 K (fr x) v)
    (hq1 : ∀ x v b, Gr W v → W.heap.size ≤ b → x p1 = .pointer (some ⟨b, 0, none⟩) → Own v b c1 → (∀ (j : Nat) (F : World → Value → Prop), (q1, j) ∈ ds → ¬ j ∈ [p1, q1, p2, q2] → Fs[j]? = some F → F v (x j)) → ∀ K : Act → World → Prop, (∀ v', Kx (fun k => k = b) v v' → Own v' b d1 → K (fr x) v') → wpOp P l.toArray Q q1 K (fr x) v)
    (hq2 : q2 < n → ∀ x v b, Gr W v → W.heap.size ≤ b → x p2 = .pointer (some ⟨b, 0, none⟩) → Own v b c2 → (∀ (j : Nat) (F : World → Value → Prop), (q2, j) ∈ ds → ¬ j ∈ [p1, q1, p2, q2] → Fs[j]? = some F → F v (x j)) → ∀ K : Act → World → Prop, (∀ v', Kx (fun k => k = b) v v' → Own v' b d2 → K (fr x) v') → wpOp P l.toArray Q q2 K (fr x) v)
    (hend : ∀ x v b1 b2, Gr W v → W.heap.size ≤ b1 → W.heap.size ≤ b2 → b1 ≠ b2 → x p1 = .pointer (some ⟨b1, 0, none⟩) → x p2 = .pointer (some ⟨b2, 0, none⟩) → Own v b1 d1 → Own v b2 (if q2 < n then d2 else c2) → (∀ (j : Nat) (F : World → Value → Prop), j < n → ¬ j ∈ [p1, q1, p2, q2] → Fs[j]? = some F → F v (x j)) → wpList P l.toArray Q (l.drop n) (fr x) v) : (Code.region id l.toArray true).wp P Q a W := by
  subst ha
  obtain ⟨hn1, hn2, hn3⟩ := hn
  simp only [List.nodup_cons, List.mem_cons, List.not_mem_nil, not_or, or_false, not_false_eq_true, List.nodup_nil, and_true] at hne
  obtain ⟨⟨e1, e2, e3⟩, ⟨e4, e5⟩, e6⟩ := hne
  have kz : ∀ {v v' : World}, Gr v v' → Kx (fun b => W.heap.size ≤ b) v v' := fun g => Kx.gr g
  have kb : ∀ {v v' : World} {b : Nat}, W.heap.size ≤ b → Kx (fun k => k = b) v v' → Kx (fun b => W.heap.size ≤ b) v v' := fun hb g => g.mono (fun i e => .inl (by subst e; exact hb))
  have kg : ∀ {v v' : World} {b : Nat}, Gr W v → W.heap.size ≤ b → Kx (fun k => k = b) v v' → Gr W v' := fun hg hb g => Kx.toGr ((Kx.gr (Z := noBlock) hg).th g (fun i e => .inr (by subst e; exact hb)))
  have ptr_lt : ∀ {v : World} {b : Nat} {cs : List Value}, Own v b cs → (Value.pointer (some ⟨b, 0, none⟩)) ≠ .pointer (some ⟨v.heap.size, 0, none⟩) := fun o e => by
    have := o.1.1
    simp only [Value.pointer.injEq, Option.some.injEq, Addr.mk.injEq, and_true] at e
    omega
  refine wp_region_inv' n ds (fun _ listed a v => ∃ x, a = fr x ∧ Gr W v ∧ (∀ (j : Nat) (F : World → Value → Prop), ¬ j ∈ [p1, q1, p2, q2] → Fs[j]? = some F → listed.getD j false = true → F v (x j)) ∧ PairHeld W x v listed p1 q1 c1 d1 ∧ PairHeld W x v listed p2 q2 c2 d2 ∧ (listed.getD p1 false = true → listed.getD p2 false = true → x p1 ≠ x p2) ∧ (listed.getD q1 false = true → listed.getD p1 false = true) ∧ (listed.getD q2 false = true → listed.getD p2 false = true) ∧ (listed.getD q2 false = true → q2 < n)) hm hB hD ⟨x0, rfl, Gr.dr W, fun j F _ _ h => (by rw [getD_replicate_false] at h; cases h), fun h => (by rw [getD_replicate_false] at h; cases h), fun h => (by rw [getD_replicate_false] at h; cases h), fun h => (by rw [getD_replicate_false] at h; cases h), fun h => (by rw [getD_replicate_false] at h; cases h), fun h => (by rw [getD_replicate_false] at h; cases h), fun h => (by rw [getD_replicate_false] at h; cases h)⟩ ?_ ?_
  · rintro i hi listed a v hun hdep ⟨x, rfl, gv, hf, h1, h2, h3, h4, h5, h6⟩
    have hdf : ∀ (j : Nat) (F : World → Value → Prop), (i, j) ∈ ds → ¬ j ∈ [p1, q1, p2, q2] → Fs[j]? = some F → F v (x j) := fun j F hj e1 hF => hf j F e1 hF (hdep j hj)
    have fkeep : ∀ {v' : World} (u : Value), Kx (fun b => W.heap.size ≤ b) v v' → i ∈ [p1, q1, p2, q2] → ∀ (j : Nat) (F : World → Value → Prop), ¬ j ∈ [p1, q1, p2, q2] → Fs[j]? = some F → (listed.setIfInBounds i true).getD j false = true → F v' (upd x i u j) := fun u k hi j F hj hF hl => by
      have hji : j ≠ i := fun e => hj (e ▸ hi)
      rw [upd_ne x u hji]
      exact hst j F hF v _ _ k (hf j F hj hF (by rwa [getD_set_ne false (fun e => hji e.symm)] at hl))
    have fkeep' : ∀ {v' : World}, Kx (fun b => W.heap.size ≤ b) v v' → i ∈ [p1, q1, p2, q2] → ∀ (j : Nat) (F : World → Value → Prop), ¬ j ∈ [p1, q1, p2, q2] → Fs[j]? = some F → (listed.setIfInBounds i true).getD j false = true → F v' (x j) := fun k hi j F hj hF hl => by
      have hji : j ≠ i := fun e => hj (e ▸ hi)
      exact hst j F hF v _ _ k (hf j F hj hF (by rwa [getD_set_ne false (fun e => hji e.symm)] at hl))
    obtain ⟨hif, hit⟩ := getD_hun hun
    by_cases a1 : i = p1
    · subst a1
      have hg := Gr.al v (.cells c1.toArray t1)
      have hqf : listed.getD q1 false = false := by
        cases hb : listed.getD q1 false with
        | false => rfl
        | true =>
          have := h4 hb
          rw [hif] at this
          cases this
      refine hp1 x v gv _ ⟨_, rfl, gv.tr hg, fkeep _ (kz hg) (by simp), fun _ => ⟨_, upd_at _ _ _, gv.size, ?_⟩, h2.gr hg _ e2 e3, fun _ hl => ?_, fun _ => hit, fun hl => ?_, fun hl => ?_⟩
      · rw [getD_set_ne false e1, hqf]
        exact Own.new v c1 t1 _ rfl
      · rw [getD_set_ne false e2] at hl
        obtain ⟨b, g1, g2, g3⟩ := h2 hl
        rw [upd_at, upd_ne x _ (fun e => e2 e.symm), g1]
        exact fun e => ptr_lt g3 e.symm
      · rw [getD_set_ne false e3] at hl
        rw [getD_set_ne false e2]
        exact h5 hl
      · rw [getD_set_ne false e3] at hl
        exact h6 hl
    · by_cases a2 : i = p2
      · subst a2
        have hg := Gr.al v (.cells c2.toArray t2)
        have hqf : listed.getD q2 false = false := by
          cases hb : listed.getD q2 false with
          | false => rfl
          | true =>
            have := h5 hb
            rw [hif] at this
            cases this
        refine hp2 x v gv _ ⟨_, rfl, gv.tr hg, fkeep _ (kz hg) (by simp), h1.gr hg _ a1 (fun e => e4 e.symm), fun _ => ⟨_, upd_at _ _ _, gv.size, ?_⟩, fun hl _ => ?_, fun hl => ?_, fun _ => hit, fun hl => ?_⟩
        · rw [getD_set_ne false e6, hqf]
          exact Own.new v c2 t2 _ rfl
        · rw [getD_set_ne false a1] at hl
          obtain ⟨b, g1, g2, g3⟩ := h1 hl
          rw [upd_at, upd_ne x _ (fun e => a1 e.symm), g1]
          exact fun e => ptr_lt g3 e
        · rw [getD_set_ne false (fun e => e4 e.symm)] at hl
          rw [getD_set_ne false a1]
          exact h4 hl
        · rw [getD_set_ne false e6] at hl
          exact h6 hl
      · by_cases a3 : i = q1
        · subst a3
          have hpt := hdep p1 hd1
          obtain ⟨b, g1, g2, g3⟩ := h1 hpt
          rw [hif] at g3
          refine hq1 x v b gv g2 g1 g3 hdf _ (fun v' k o => ⟨x, rfl, kg gv g2 k, fkeep' (kb g2 k) (by simp), fun _ => ⟨b, g1, g2, ?_⟩, h2.kx k (fun hl e => h3 hpt hl (by rw [g1, e])) e4 e5, fun ha hb => ?_, fun _ => ?_, fun hl => ?_, fun hl => ?_⟩)
          · rw [hit]
            exact o
          · rw [getD_set_ne false (fun e => e1 e.symm)] at ha
            rw [getD_set_ne false e4] at hb
            exact h3 ha hb
          · rw [getD_set_ne false (fun e => e1 e.symm)]
            exact hpt
          · rw [getD_set_ne false e5] at hl
            rw [getD_set_ne false e4]
            exact h5 hl
          · rw [getD_set_ne false e5] at hl
            exact h6 hl
        · by_cases a4 : i = q2
          · subst a4
            have hpt := hdep p2 (hd2 hi)
            obtain ⟨b, g1, g2, g3⟩ := h2 hpt
            rw [hif] at g3
            refine hq2 hi x v b gv g2 g1 g3 hdf _ (fun v' k o => ⟨x, rfl, kg gv g2 k, fkeep' (kb g2 k) (by simp), h1.kx k (fun hl e => h3 hl hpt (by rw [g1, e])) a1 a3, fun _ => ⟨b, g1, g2, ?_⟩, fun ha hb => ?_, fun hl => ?_, fun _ => ?_, fun _ => hi⟩)
            · rw [hit]
              exact o
            · rw [getD_set_ne false a1] at ha
              rw [getD_set_ne false a2] at hb
              exact h3 ha hb
            · rw [getD_set_ne false a3] at hl
              rw [getD_set_ne false a1]
              exact h4 hl
            · rw [getD_set_ne false a2]
              exact hpt
          · refine hstep i hi a1 a3 a2 a4 x v gv hdf _ (fun u v' hg hu => ⟨upd x i u, rfl, gv.tr hg, fun j F hj hF hl => ?_, h1.gr hg u a1 a3, h2.gr hg u a2 a4, fun ha hb => ?_, fun hl => ?_, fun hl => ?_, fun hl => ?_⟩)
            · by_cases e : j = i
              · subst e
                rw [upd_at]
                exact hu F hF
              · rw [upd_ne x u e]
                exact hst j F hF v v' _ (kz hg) (hf j F hj hF (by rwa [getD_set_ne false (fun e' => e e'.symm)] at hl))
            · rw [getD_set_ne false a1] at ha
              rw [getD_set_ne false a2] at hb
              rw [upd_ne x u (fun e => a1 e.symm), upd_ne x u (fun e => a2 e.symm)]
              exact h3 ha hb
            · rw [getD_set_ne false a3] at hl
              rw [getD_set_ne false a1]
              exact h4 hl
            · rw [getD_set_ne false a4] at hl
              rw [getD_set_ne false a2]
              exact h5 hl
            · rw [getD_set_ne false a4] at hl
              exact h6 hl
  · rintro listed a v hs hall ⟨x, rfl, gv, hf, h1, h2, h3, h4, h5, h6⟩
    have hl : ∀ j, j < n → listed.getD j false = true := fun j hj => by
      have e1 := hall j hj
      have hl : j < listed.size := by omega
      simp [hl] at e1 ⊢
      exact e1
    obtain ⟨b1, g1, g2, g3⟩ := h1 (hl _ hn1)
    obtain ⟨b2, g4, g5, g6⟩ := h2 (hl _ hn3)
    rw [hl _ hn2] at g3
    have e7 : (if q2 < n then d2 else c2) = (if listed.getD q2 false = true then d2 else c2) := by
      by_cases e : q2 < n
      · rw [if_pos e, hl _ e, if_pos rfl]
      · rw [if_neg e, if_neg (fun e' => e (h6 e'))]
    rw [← e7] at g6
    exact hend x v b1 b2 gv g2 g5 (fun e => h3 (hl _ hn1) (hl _ hn3) (by rw [g1, g4, e])) g1 g4 g3 g6 (fun j F hj e1 hF => hf j F e1 hF (hl j hj))

/-- Two appends, the second one behind an operation that waits for the first. -/
theorem wp_region_two3 {P : Program} {Q : Exit → Act → World → Prop} {id : Nat} {W : World} {l : List Oper} (Z : Nat → Prop) (n p q m : Nat) (ds : List (Nat × Nat)) (fr : (Nat → Value) → Act) (x0 : Nat → Value) (Fs : List (World → Value → Prop)) (C : World → Prop) (S0 : World → Prop) (S1 : World → Value → Prop) (S2 : World → Value → Value → Prop) {a : Act} (ha : a = fr x0) (hm : P.follows .mixedOrders = true)
    (hB : (decide (n < l.toArray.size) && Region.sinkB .any l.toArray n && Region.chainB .any l.toArray n && minB .any l.toArray n && Region.seqB .any l.toArray (l.toArray.size - n) n (Array.replicate n true ++ Array.replicate (l.toArray.size - n) false)) = true)
    (hD : depB .any l.toArray ds = true) (hqm : (q, m) ∈ ds) (hmp : (m, p) ∈ ds) (hne : p ≠ q) (hpn : p < n) (hqn : q < n)
    (hst : ∀ (i : Nat) (F : World → Value → Prop), Fs[i]? = some F → StaysZ Z F) (hC : ∀ v v', Kx Z v v' → C v → C v')
    (h0 : ∀ v v', Gr v v' → S0 v → S0 v') (h1 : ∀ v v' x, Gr v v' → S1 v x → S1 v' x) (h2 : ∀ v v' x y, Gr v v' → S2 v x y → S2 v' x y)
    (hC0 : C W.drew) (hS0 : S0 W.drew)
    (hstep : ∀ i, i < n → i ≠ p → i ≠ q → ∀ x v, C v → (∀ (j : Nat) (F : World → Value → Prop), (i, j) ∈ ds → j ≠ p → j ≠ q → Fs[j]? = some F → F v (x j)) → ∀ K : Act → World → Prop, (∀ u v', Gr v v' → (∀ F : World → Value → Prop, Fs[i]? = some F → F v' u) → K (fr (upd x i u)) v') → wpOp P l.toArray Q i K (fr x) v)
    (hp : ∀ x v, C v → S0 v → (∀ (j : Nat) (F : World → Value → Prop), (p, j) ∈ ds → j ≠ p → j ≠ q → Fs[j]? = some F → F v (x j)) → ∀ K : Act → World → Prop, (∀ u v', Kx Z v v' → S1 v' u → K (fr (upd x p u)) v') → wpOp P l.toArray Q p K (fr x) v)
    (hq : ∀ x v, C v → S1 v (x p) → (∀ (j : Nat) (F : World → Value → Prop), (q, j) ∈ ds → j ≠ p → j ≠ q → Fs[j]? = some F → F v (x j)) → ∀ K : Act → World → Prop, (∀ u v', Kx Z v v' → S2 v' (x p) u → K (fr (upd x q u)) v') → wpOp P l.toArray Q q K (fr x) v)
    (hend : ∀ x v, C v → S2 v (x p) (x q) → (∀ (j : Nat) (F : World → Value → Prop), j < n → j ≠ p → j ≠ q → Fs[j]? = some F → F v (x j)) → wpList P l.toArray Q (l.drop n) (fr x) v) : (Code.region id l.toArray true).wp P Q a W := by
  subst ha
  refine wp_region_inv' n ds (fun _ listed a v => ∃ x, a = fr x ∧ C v ∧ (∀ (j : Nat) (F : World → Value → Prop), j ≠ p → j ≠ q → Fs[j]? = some F → listed.getD j false = true → F v (x j)) ∧ (listed.getD q false = true → listed.getD p false = true ∧ S2 v (x p) (x q)) ∧ (listed.getD q false = false → listed.getD p false = true → S1 v (x p)) ∧ (listed.getD p false = false → S0 v) ∧ (listed.getD m false = true → listed.getD p false = true)) hm hB hD ⟨x0, rfl, hC0, fun j F _ _ _ h => (by rw [getD_replicate_false] at h; cases h), fun h => (by rw [getD_replicate_false] at h; cases h), fun _ h => (by rw [getD_replicate_false] at h; cases h), fun _ => hS0, fun h => (by rw [getD_replicate_false] at h; cases h)⟩ ?_ ?_
  · rintro i hi listed a v hun hdep ⟨x, rfl, hc, hf, a2, a1, a0, am⟩
    have hup : ∀ k, listed.getD k false = true → (listed.setIfInBounds i true).getD k false = true := fun k hk => by
      by_cases e : i = k
      · subst e
        exact (getD_hun hun).2
      · rw [getD_set_ne false e]
        exact hk
    have hm2 : (listed.setIfInBounds i true).getD m false = true → (listed.setIfInBounds i true).getD p false = true := fun h => by
      by_cases e : i = m
      · subst e
        exact hup p (hdep p hmp)
      · rw [getD_set_ne false e] at h
        exact hup p (am h)
    have hdf : ∀ (j : Nat) (F : World → Value → Prop), (i, j) ∈ ds → j ≠ p → j ≠ q → Fs[j]? = some F → F v (x j) := fun j F hj e1 e2 hF => hf j F e1 e2 hF (hdep j hj)
    by_cases ep : i = p
    · subst ep
      have hpf := (getD_hun hun).1
      have hqf : listed.getD q false = false := by
        cases hb : listed.getD q false with
        | false => rfl
        | true =>
          have := (a2 hb).1
          rw [hpf] at this
          cases this
      refine hp x v hc (a0 hpf) hdf _ (fun u v' hg hu => ⟨upd x i u, rfl, hC v v' hg hc, fun j F e1 e2 hF hl => ?_, fun h => ?_, fun _ _ => ?_, fun h => ?_, hm2⟩)
      · rw [upd_ne x u e1]
        exact hst j F hF v v' _ hg (hf j F e1 e2 hF (by rwa [getD_set_ne false (fun e' => e1 e'.symm)] at hl))
      · rw [getD_set_ne false hne, hqf] at h
        cases h
      · rw [upd_at]
        exact hu
      · rw [(getD_hun hun).2] at h
        cases h
    · by_cases eq : i = q
      · subst eq
        have hpt := am (hdep m hqm)
        have hqf := (getD_hun hun).1
        refine hq x v hc (a1 hqf hpt) hdf _ (fun u v' hg hu => ⟨upd x i u, rfl, hC v v' hg hc, fun j F e1 e2 hF hl => ?_, fun h => ⟨?_, ?_⟩, fun h => ?_, fun h => ?_, hm2⟩)
        · rw [upd_ne x u e2]
          exact hst j F hF v v' _ hg (hf j F e1 e2 hF (by rwa [getD_set_ne false (fun e' => e2 e'.symm)] at hl))
        · rw [getD_set_ne false (fun e => hne e.symm)]
          exact hpt
        · rw [upd_at, upd_ne x u hne]
          exact hu
        · rw [(getD_hun hun).2] at h
          cases h
        · rw [getD_set_ne false (fun e => hne e.symm), hpt] at h
          cases h
      · refine hstep i hi ep eq x v hc hdf _ (fun u v' hg hu => ⟨upd x i u, rfl, hC v v' (Kx.gr hg) hc, fun j F e1 e2 hF hl => ?_, fun h => ?_, fun h h' => ?_, fun h => ?_, hm2⟩)
        · by_cases e : j = i
          · subst e
            rw [upd_at]
            exact hu F hF
          · rw [upd_ne x u e]
            exact hst j F hF v v' _ (Kx.gr hg) (hf j F e1 e2 hF (by rwa [getD_set_ne false (fun e' => e e'.symm)] at hl))
        · rw [getD_set_ne false eq] at h
          rw [getD_set_ne false ep, upd_ne x u (fun e => ep e.symm), upd_ne x u (fun e => eq e.symm)]
          exact ⟨(a2 h).1, h2 v v' _ _ hg (a2 h).2⟩
        · rw [getD_set_ne false eq] at h
          rw [getD_set_ne false ep] at h'
          rw [upd_ne x u (fun e => ep e.symm)]
          exact h1 v v' _ hg (a1 h h')
        · rw [getD_set_ne false ep] at h
          exact h0 v v' hg (a0 h)
  · rintro listed a v hs hall ⟨x, rfl, hc, hf, a2, a1, a0, _⟩
    have hl : ∀ j, j < n → listed.getD j false = true := fun j hj => by
      have e1 := hall j hj
      have hl : j < listed.size := by omega
      simp [hl] at e1 ⊢
      exact e1
    exact hend x v hc (a2 (hl q hqn)).2 (fun j F hj e1 e2 hF => hf j F e1 e2 hF (hl j hj))

end Go.Proofs.Ytcdilmagcdbogaa

namespace Go.Proofs.Ytcdilmagcdbogaa
set_option linter.unusedVariables false
set_option linter.unusedSimpArgs false
open Go.RowKit

/-- What is said of a value, whatever the variables hold. -/
theorem at_of_var {Fs : List (World → Value → Prop)} {i : Nat} {G : World → Value → Prop} {V : Nat → Prop} {v : World} {u : Value} (h : Fs[i]? = some G) (hG : ∀ v', Kx V v v' → G v' u) : ∀ F : World → Value → Prop, Fs[i]? = some F → ∀ v', Kx V v v' → F v' u := by
  intro F e
  rw [h] at e
  cases e
  exact hG

theorem new_out {V : Nat → Prop} {m n : Nat} {a : Option Addr} (h : NewAt m a) (hV : ∀ b, V b → n ≤ b ∧ b < m) : ∀ b off, a = some ⟨b, off, none⟩ → ¬ V b := fun b off e hv => by
  have := hV b hv
  have := h b off none e
  omega

/-- The variables that were made so far. -/
def VarSet (x : Nat → Value) (l : Array Bool) (p1 p2 : Nat) (b : Nat) : Prop :=
  (l.getD p1 false = true ∧ x p1 = .pointer (some ⟨b, 0, none⟩)) ∨ (l.getD p2 false = true ∧ x p2 = .pointer (some ⟨b, 0, none⟩))

theorem row_kz {α : Type} {sz : Nat} {enc : α → List Value} {w w' : World} {a : Option Addr} {l : List α} {Z : Nat → Prop} (h : RowOf sz enc w a l) (k : Kx Z w w') (hne : ∀ b off, a = some ⟨b, off, none⟩ → ¬ Z b) : RowOf sz enc w' a l := by
  refine ⟨h.1, fun j x hx => ?_⟩
  obtain ⟨b, off, ha, hb, hc⟩ := h.2 j x hx
  have hbk := k.block b hb (hne _ _ ha)
  exact ⟨b, off, ha, Nat.lt_of_lt_of_le hb k.size, fun i v hv => (World.cell?_of_block (w := w) (a := ⟨b, off + j * sz + i, none⟩) hbk).trans (hc i v hv)⟩

theorem wp_region_vars {P : Program} {Q : Exit → Act → World → Prop} {id : Nat} {W : World} {l : List Oper} (n p1 q1 r1 p2 q2 r2 : Nat) (c1 c2 : List Value) (d1 d2 : Value → List Value) (t1 t2 : TypeId) (ds : List (Nat × Nat)) (fr : (Nat → Value) → Act) (x0 : Nat → Value) (Fs : List (World → Value → Prop)) {a : Act} (ha : a = fr x0) (hm : P.follows .mixedOrders = true)
    (hB : (decide (n < l.toArray.size) && Region.sinkB .any l.toArray n && Region.chainB .any l.toArray n && minB .any l.toArray n && Region.seqB .any l.toArray (l.toArray.size - n) n (Array.replicate n true ++ Array.replicate (l.toArray.size - n) false)) = true)
    (hD : depB .any l.toArray ds = true) (hd1 : (q1, p1) ∈ ds) (hd2 : q2 < n → (q2, p2) ∈ ds) (hr1 : (q1, r1) ∈ ds) (hr2 : q2 < n → (q2, r2) ∈ ds) (hne : [p1, q1, p2, q2].Nodup) (hnr : ¬ r1 ∈ [p1, q1, p2, q2] ∧ ¬ r2 ∈ [p1, q1, p2, q2]) (hn : p1 < n ∧ q1 < n ∧ p2 < n)
    (hstep : ∀ i, i < n → i ≠ p1 → i ≠ q1 → i ≠ p2 → i ≠ q2 → ∀ x v (V : Nat → Prop), Gr W v → (∀ b, V b → W.heap.size ≤ b ∧ b < v.heap.size) → (∀ (j : Nat) (F : World → Value → Prop), (i, j) ∈ ds → ¬ j ∈ [p1, q1, p2, q2] → Fs[j]? = some F → ∀ v', Kx V v v' → F v' (x j)) → ∀ K : Act → World → Prop, (∀ u v', Gr v v' → (∀ F : World → Value → Prop, Fs[i]? = some F → ∀ v'', Kx V v' v'' → F v'' u) → K (fr (upd x i u)) v') → wpOp P l.toArray Q i K (fr x) v)
    (hp1 : ∀ x v, Gr W v → ∀ K : Act → World → Prop, K (fr (upd x p1 (.pointer (some ⟨v.heap.size, 0, none⟩)))) (v.alloc (.cells c1.toArray t1)) → wpOp P l.toArray Q p1 K (fr x) v)
    (hp2 : ∀ x v, Gr W v → ∀ K : Act → World → Prop, K (fr (upd x p2 (.pointer (some ⟨v.heap.size, 0, none⟩)))) (v.alloc (.cells c2.toArray t2)) → wpOp P l.toArray Q p2 K (fr x) v)
    (hq1 : ∀ x v b, Gr W v → W.heap.size ≤ b → x p1 = .pointer (some ⟨b, 0, none⟩) → Own v b c1 → (∀ (j : Nat) (F : World → Value → Prop), (q1, j) ∈ ds → ¬ j ∈ [p1, q1, p2, q2] → Fs[j]? = some F → F v (x j)) → ∀ K : Act → World → Prop, (∀ v', Kx (fun k => k = b) v v' → Own v' b (d1 (x r1)) → K (fr x) v') → wpOp P l.toArray Q q1 K (fr x) v)
    (hq2 : q2 < n → ∀ x v b, Gr W v → W.heap.size ≤ b → x p2 = .pointer (some ⟨b, 0, none⟩) → Own v b c2 → (∀ (j : Nat) (F : World → Value → Prop), (q2, j) ∈ ds → ¬ j ∈ [p1, q1, p2, q2] → Fs[j]? = some F → F v (x j)) → ∀ K : Act → World → Prop, (∀ v', Kx (fun k => k = b) v v' → Own v' b (d2 (x r2)) → K (fr x) v') → wpOp P l.toArray Q q2 K (fr x) v)
    (hend : ∀ x v b1 b2, Gr W v → W.heap.size ≤ b1 → W.heap.size ≤ b2 → b1 ≠ b2 → x p1 = .pointer (some ⟨b1, 0, none⟩) → x p2 = .pointer (some ⟨b2, 0, none⟩) → Own v b1 (d1 (x r1)) → Own v b2 (if q2 < n then d2 (x r2) else c2) → (∀ (j : Nat) (F : World → Value → Prop), j < n → ¬ j ∈ [p1, q1, p2, q2] → Fs[j]? = some F → ∀ v', Kx (fun b => b = b1 ∨ b = b2) v v' → F v' (x j)) → wpList P l.toArray Q (l.drop n) (fr x) v) : (Code.region id l.toArray true).wp P Q a W := by
  subst ha
  obtain ⟨hn1, hn2, hn3⟩ := hn
  simp only [List.nodup_cons, List.mem_cons, List.not_mem_nil, or_false, not_or, List.nodup_nil, and_true, not_false_eq_true] at hne
  obtain ⟨⟨e1, e2, e3⟩, ⟨e4, e5⟩, e6⟩ := hne
  have kg : ∀ {v v' : World} {b : Nat}, Gr W v → W.heap.size ≤ b → Kx (fun k => k = b) v v' → Gr W v' := fun hg hb g => Kx.toGr ((Kx.gr (Z := noBlock) hg).th g (fun i e => .inr (by subst e; exact hb)))
  have ptr_lt : ∀ {v : World} {b : Nat} {cs : List Value}, Own v b cs → (Value.pointer (some ⟨b, 0, none⟩)) ≠ .pointer (some ⟨v.heap.size, 0, none⟩) := fun o e => by
    have := o.1.1
    simp only [Value.pointer.injEq, Option.some.injEq, Addr.mk.injEq, and_true] at e
    omega
  have r11 : ∀ j, j = p1 ∨ j = q1 ∨ j = p2 ∨ j = q2 → j ≠ r1 := fun j h e => hnr.1 (by subst e; simpa using h)
  have r22 : ∀ j, j = p1 ∨ j = q1 ∨ j = p2 ∨ j = q2 → j ≠ r2 := fun j h e => hnr.2 (by subst e; simpa using h)
  have r1q : r1 ≠ q1 := fun e => r11 q1 (.inr (.inl rfl)) e.symm
  have r2q : r2 ≠ q2 := fun e => r22 q2 (.inr (.inr (.inr rfl))) e.symm
  refine wp_region_inv' n ds (fun _ listed a v => ∃ x, a = fr x ∧ Gr W v ∧ (∀ b, VarSet x listed p1 p2 b → W.heap.size ≤ b ∧ b < v.heap.size) ∧ (∀ (j : Nat) (F : World → Value → Prop), ¬ j ∈ [p1, q1, p2, q2] → Fs[j]? = some F → listed.getD j false = true → ∀ v', Kx (VarSet x listed p1 p2) v v' → F v' (x j)) ∧ PairHeld W x v listed p1 q1 c1 (d1 (x r1)) ∧ PairHeld W x v listed p2 q2 c2 (d2 (x r2)) ∧ (listed.getD p1 false = true → listed.getD p2 false = true → x p1 ≠ x p2) ∧ (listed.getD q1 false = true → listed.getD p1 false = true ∧ listed.getD r1 false = true) ∧ (listed.getD q2 false = true → listed.getD p2 false = true ∧ listed.getD r2 false = true) ∧ (listed.getD q2 false = true → q2 < n)) hm hB hD ⟨x0, rfl, Gr.dr W, fun b h => (by rcases h with ⟨h, _⟩ | ⟨h, _⟩ <;> (rw [getD_replicate_false] at h; cases h)), fun j F _ _ h => (by rw [getD_replicate_false] at h; cases h), fun h => (by rw [getD_replicate_false] at h; cases h), fun h => (by rw [getD_replicate_false] at h; cases h), fun h => (by rw [getD_replicate_false] at h; cases h), fun h => (by rw [getD_replicate_false] at h; cases h), fun h => (by rw [getD_replicate_false] at h; cases h), fun h => (by rw [getD_replicate_false] at h; cases h)⟩ ?_ ?_
  · rintro i hi listed a v hun hdep ⟨x, rfl, gv, hV, hf, h1, h2, h3, h4, h5, h6⟩
    have hdf : ∀ (j : Nat) (F : World → Value → Prop), (i, j) ∈ ds → ¬ j ∈ [p1, q1, p2, q2] → Fs[j]? = some F → ∀ v', Kx (VarSet x listed p1 p2) v v' → F v' (x j) := fun j F hj e1 hF => hf j F e1 hF (hdep j hj)
    have hdn : ∀ (j : Nat) (F : World → Value → Prop), (i, j) ∈ ds → ¬ j ∈ [p1, q1, p2, q2] → Fs[j]? = some F → F v (x j) := fun j F hj e1 hF => hf j F e1 hF (hdep j hj) v (Kx.refl _ _)
    obtain ⟨hif, hit⟩ := getD_hun hun
    -- a variable that is written: what is said stays
    have fkeep' : ∀ {v' : World} {b : Nat}, VarSet x listed p1 p2 b → Kx (fun k => k = b) v v' → i ∈ [p1, q1, p2, q2] → (∀ c, VarSet x (listed.setIfInBounds i true) p1 p2 c → VarSet x listed p1 p2 c) → ∀ (j : Nat) (F : World → Value → Prop), ¬ j ∈ [p1, q1, p2, q2] → Fs[j]? = some F → (listed.setIfInBounds i true).getD j false = true → ∀ v'', Kx (VarSet x (listed.setIfInBounds i true) p1 p2) v' v'' → F v'' (x j) := fun hb k hi hs j F hj hF hl v'' k2 => by
      have hji : j ≠ i := fun e => hj (e ▸ hi)
      refine hf j F hj hF (by rwa [getD_set_ne false (fun e => hji e.symm)] at hl) v'' ((k.mono (fun c e => .inl ?_)).th k2 (fun c e => .inl (hs c e)))
      subst e
      exact hb
    by_cases a1 : i = p1
    · subst a1
      have hg := Gr.al v (.cells c1.toArray t1)
      have hqf : listed.getD q1 false = false := by
        cases hb : listed.getD q1 false with
        | false => rfl
        | true =>
          have := (h4 hb).1
          rw [hif] at this
          cases this
      have hs : ∀ c, VarSet (upd x i (.pointer (some ⟨v.heap.size, 0, none⟩))) (listed.setIfInBounds i true) i p2 c → VarSet x listed i p2 c ∨ c = v.heap.size := fun c h => by
        rcases h with ⟨_, h⟩ | ⟨h, h'⟩
        · rw [upd_at] at h
          simp only [Value.pointer.injEq, Option.some.injEq, Addr.mk.injEq, and_true] at h
          exact .inr h.symm
        · rw [getD_set_ne false e2] at h
          rw [upd_ne x _ (fun e => e2 e.symm)] at h'
          exact .inl (.inr ⟨h, h'⟩)
      refine hp1 x v gv _ ⟨_, rfl, gv.tr hg, fun b h => ?_, fun j F hj hF hl v'' k2 => ?_, fun _ => ⟨_, upd_at _ _ _, gv.size, ?_⟩, ?_, fun _ hl => ?_, fun hl => ?_, fun hl => ?_, fun hl => h6 (by rwa [getD_set_ne false e3] at hl)⟩
      · rcases hs b h with h | h
        · have := hV b h
          have := hg.size
          omega
        · subst h
          have := gv.size
          simp
          omega
      · have hji : j ≠ i := fun e => hj (by subst e; simp)
        rw [upd_ne x _ hji]
        refine hf j F hj hF (by rwa [getD_set_ne false (fun e => hji e.symm)] at hl) v'' ((Kx.gr hg).th k2 (fun c e => ?_))
        rcases hs c e with h | h
        · exact .inl h
        · exact .inr (by omega)
      · rw [getD_set_ne false e1, hqf]
        exact Own.new v c1 t1 _ rfl
      · rw [upd_ne x _ (fun e => r22 i (.inl rfl) e.symm)]
        exact h2.gr hg _ e2 e3
      · rw [getD_set_ne false e2] at hl
        obtain ⟨b, g1, g2, g3⟩ := h2 hl
        rw [upd_at, upd_ne x _ (fun e => e2 e.symm), g1]
        exact fun e => ptr_lt g3 e.symm
      · exfalso
        rw [getD_set_ne false e1, hqf] at hl
        cases hl
      · rw [getD_set_ne false e3] at hl
        rw [getD_set_ne false e2, getD_set_ne false (r22 i (.inl rfl))]
        exact h5 hl
    · by_cases a2 : i = p2
      · subst a2
        have hg := Gr.al v (.cells c2.toArray t2)
        have hqf : listed.getD q2 false = false := by
          cases hb : listed.getD q2 false with
          | false => rfl
          | true =>
            have := (h5 hb).1
            rw [hif] at this
            cases this
        have hs : ∀ c, VarSet (upd x i (.pointer (some ⟨v.heap.size, 0, none⟩))) (listed.setIfInBounds i true) p1 i c → VarSet x listed p1 i c ∨ c = v.heap.size := fun c h => by
          rcases h with ⟨h, h'⟩ | ⟨_, h⟩
          · rw [getD_set_ne false a1] at h
            rw [upd_ne x _ (fun e => a1 e.symm)] at h'
            exact .inl (.inl ⟨h, h'⟩)
          · rw [upd_at] at h
            simp only [Value.pointer.injEq, Option.some.injEq, Addr.mk.injEq, and_true] at h
            exact .inr h.symm
        refine hp2 x v gv _ ⟨_, rfl, gv.tr hg, fun b h => ?_, fun j F hj hF hl v'' k2 => ?_, ?_, fun _ => ⟨_, upd_at _ _ _, gv.size, ?_⟩, fun hl _ => ?_, fun hl => ?_, fun hl => ?_, fun hl => h6 (by rwa [getD_set_ne false e6] at hl)⟩
        · rcases hs b h with h | h
          · have := hV b h
            have := hg.size
            omega
          · subst h
            have := gv.size
            simp
            omega
        · have hji : j ≠ i := fun e => hj (by subst e; simp)
          rw [upd_ne x _ hji]
          refine hf j F hj hF (by rwa [getD_set_ne false (fun e => hji e.symm)] at hl) v'' ((Kx.gr hg).th k2 (fun c e => ?_))
          rcases hs c e with h | h
          · exact .inl h
          · exact .inr (by omega)
        · rw [upd_ne x _ (fun e => r11 i (.inr (.inr (.inl rfl))) e.symm)]
          exact h1.gr hg _ a1 (fun e => e4 e.symm)
        · rw [getD_set_ne false e6, hqf]
          exact Own.new v c2 t2 _ rfl
        · rw [getD_set_ne false a1] at hl
          obtain ⟨b, g1, g2, g3⟩ := h1 hl
          rw [upd_at, upd_ne x _ (fun e => a1 e.symm), g1]
          exact fun e => ptr_lt g3 e
        · rw [getD_set_ne false (fun e => e4 e.symm)] at hl
          rw [getD_set_ne false a1, getD_set_ne false (r11 i (.inr (.inr (.inl rfl))))]
          exact h4 hl
        · exfalso
          rw [getD_set_ne false e6, hqf] at hl
          cases hl
      · have hvs : ∀ c, VarSet x (listed.setIfInBounds i true) p1 p2 c → VarSet x listed p1 p2 c := fun c h => by
          rcases h with ⟨h, h'⟩ | ⟨h, h'⟩
          · rw [getD_set_ne false a1] at h
            exact .inl ⟨h, h'⟩
          · rw [getD_set_ne false a2] at h
            exact .inr ⟨h, h'⟩
        by_cases a3 : i = q1
        · subst a3
          have hpt := hdep p1 hd1
          have hrt := hdep r1 hr1
          obtain ⟨b, g1, g2, g3⟩ := h1 hpt
          rw [hif] at g3
          refine hq1 x v b gv g2 g1 g3 hdn _ (fun v' k o => ⟨x, rfl, kg gv g2 k, fun c h => ?_, fkeep' (.inl ⟨hpt, g1⟩) k (by simp) hvs, fun _ => ⟨b, g1, g2, ?_⟩, h2.kx k (fun hl e => h3 hpt hl (by rw [g1, e])) e4 e5, fun ha hb => ?_, fun _ => ?_, fun hl => ?_, fun hl => h6 (by rwa [getD_set_ne false e5] at hl)⟩)
          · have := hV c (hvs c h)
            have := k.size
            omega
          · rw [hit]
            exact o
          · rw [getD_set_ne false (fun e => e1 e.symm)] at ha
            rw [getD_set_ne false e4] at hb
            exact h3 ha hb
          · rw [getD_set_ne false (fun e => e1 e.symm), getD_set_ne false (fun e => r1q e.symm)]
            exact ⟨hpt, hrt⟩
          · rw [getD_set_ne false e5] at hl
            rw [getD_set_ne false e4, getD_set_ne false (r22 i (.inr (.inl rfl)))]
            exact h5 hl
        · by_cases a4 : i = q2
          · subst a4
            have hpt := hdep p2 (hd2 hi)
            have hrt := hdep r2 (hr2 hi)
            obtain ⟨b, g1, g2, g3⟩ := h2 hpt
            rw [hif] at g3
            refine hq2 hi x v b gv g2 g1 g3 hdn _ (fun v' k o => ⟨x, rfl, kg gv g2 k, fun c h => ?_, fkeep' (.inr ⟨hpt, g1⟩) k (by simp) hvs, h1.kx k (fun hl e => h3 hl hpt (by rw [g1, e])) a1 a3, fun _ => ⟨b, g1, g2, ?_⟩, fun ha hb => ?_, fun hl => ?_, fun _ => ?_, fun _ => hi⟩)
            · have := hV c (hvs c h)
              have := k.size
              omega
            · rw [hit]
              exact o
            · rw [getD_set_ne false a1] at ha
              rw [getD_set_ne false a2] at hb
              exact h3 ha hb
            · rw [getD_set_ne false a3] at hl
              rw [getD_set_ne false a1, getD_set_ne false (r11 i (.inr (.inr (.inr rfl))))]
              exact h4 hl
            · rw [getD_set_ne false a2, getD_set_ne false (fun e => r2q e.symm)]
              exact ⟨hpt, hrt⟩
          · refine hstep i hi a1 a3 a2 a4 x v (VarSet x listed p1 p2) gv hV hdf _ (fun u v' hg hu => ?_)
            have hvu : ∀ c, VarSet (upd x i u) (listed.setIfInBounds i true) p1 p2 c → VarSet x listed p1 p2 c := fun c h => by
              rcases h with ⟨h, h'⟩ | ⟨h, h'⟩
              · rw [getD_set_ne false a1] at h
                rw [upd_ne x u (fun e => a1 e.symm)] at h'
                exact .inl ⟨h, h'⟩
              · rw [getD_set_ne false a2] at h
                rw [upd_ne x u (fun e => a2 e.symm)] at h'
                exact .inr ⟨h, h'⟩
            have hu1 : PairHeld W (upd x i u) v' (listed.setIfInBounds i true) p1 q1 c1 (d1 (upd x i u r1)) := by
              by_cases e : r1 = i
              · have hq : listed.getD q1 false = false := by
                  cases hb : listed.getD q1 false with
                  | false => rfl
                  | true =>
                    have := (h4 hb).2
                    rw [e, hif] at this
                    cases this
                intro hl
                obtain ⟨b, g1, g2, g3⟩ := (h1.gr hg u a1 a3) hl
                refine ⟨b, g1, g2, ?_⟩
                rw [getD_set_ne false a3, hq] at g3 ⊢
                exact g3
              · rw [upd_ne x u e]
                exact h1.gr hg u a1 a3
            have hu2 : PairHeld W (upd x i u) v' (listed.setIfInBounds i true) p2 q2 c2 (d2 (upd x i u r2)) := by
              by_cases e : r2 = i
              · have hq : listed.getD q2 false = false := by
                  cases hb : listed.getD q2 false with
                  | false => rfl
                  | true =>
                    have := (h5 hb).2
                    rw [e, hif] at this
                    cases this
                intro hl
                obtain ⟨b, g1, g2, g3⟩ := (h2.gr hg u a2 a4) hl
                refine ⟨b, g1, g2, ?_⟩
                rw [getD_set_ne false a4, hq] at g3 ⊢
                exact g3
              · rw [upd_ne x u e]
                exact h2.gr hg u a2 a4
            refine ⟨upd x i u, rfl, gv.tr hg, fun c h => ?_, fun j F hj hF hl v'' k2 => ?_, hu1, hu2, fun ha hb => ?_, fun hl => ?_, fun hl => ?_, fun hl => h6 (by rwa [getD_set_ne false a4] at hl)⟩
            · have := hV c (hvu c h)
              have := hg.size
              omega
            · by_cases e : j = i
              · subst e
                rw [upd_at]
                exact hu F hF v'' (k2.mono (fun c e => .inl (hvu c e)))
              · rw [upd_ne x u e]
                exact hf j F hj hF (by rwa [getD_set_ne false (fun e' => e e'.symm)] at hl) v'' ((Kx.gr hg).th k2 (fun c e => .inl (hvu c e)))
            · rw [getD_set_ne false a1] at ha
              rw [getD_set_ne false a2] at hb
              rw [upd_ne x u (fun e => a1 e.symm), upd_ne x u (fun e => a2 e.symm)]
              exact h3 ha hb
            · rw [getD_set_ne false a3] at hl
              have := h4 hl
              refine ⟨by rw [getD_set_ne false a1]; exact this.1, ?_⟩
              by_cases e : i = r1
              · subst e; exact hit
              · rw [getD_set_ne false e]; exact this.2
            · rw [getD_set_ne false a4] at hl
              have := h5 hl
              refine ⟨by rw [getD_set_ne false a2]; exact this.1, ?_⟩
              by_cases e : i = r2
              · subst e; exact hit
              · rw [getD_set_ne false e]; exact this.2
  · rintro listed a v hs hall ⟨x, rfl, gv, hV, hf, h1, h2, h3, h4, h5, h6⟩
    have hl : ∀ j, j < n → listed.getD j false = true := fun j hj => by
      have e1 := hall j hj
      have hl : j < listed.size := by omega
      simp [hl] at e1 ⊢
      exact e1
    obtain ⟨b1, g1, g2, g3⟩ := h1 (hl _ hn1)
    obtain ⟨b2, g4, g5, g6⟩ := h2 (hl _ hn3)
    rw [hl _ hn2, if_pos rfl] at g3
    have e7 : (if q2 < n then d2 (x r2) else c2) = (if listed.getD q2 false = true then d2 (x r2) else c2) := by
      by_cases e : q2 < n
      · rw [if_pos e, hl _ e, if_pos rfl]
      · rw [if_neg e, if_neg (fun e' => e (h6 e'))]
    rw [← e7] at g6
    refine hend x v b1 b2 gv g2 g5 (fun e => h3 (hl _ hn1) (hl _ hn3) (by rw [g1, g4, e])) g1 g4 g3 g6 (fun j F hj e1 hF v' k => hf j F e1 hF (hl j hj) v' (k.mono (fun c e => .inl ?_)))
    rcases e with e | e
    · subst e; exact .inl ⟨hl _ hn1, g1⟩
    · subst e; exact .inr ⟨hl _ hn3, g4⟩

end Go.Proofs.Ytcdilmagcdbogaa

namespace Go.Proofs.Ytcdilmagcdbogaa
set_option linter.unusedVariables false
set_option linter.unusedSimpArgs false
open Go.RowKit

theorem kx_gr {W0 w w' : World} {U : Nat} (g : Gr W0 w) (k : Kx (fun b => b = U) w w') (h : W0.heap.size ≤ U) : Gr W0 w' :=
  Kx.toGr ((Kx.gr (Z := noBlock) g).th k (fun i e => .inr (by subst e; exact h)))

theorem row_kx {α : Type} {sz : Nat} {enc : α → List Value} {w w' : World} {a : Option Addr} {l : List α} {U : Nat} (h : RowOf sz enc w a l) (k : Kx (fun b => b = U) w w') (hne : ∀ ad, a = some ad → ad.block ≠ U) : RowOf sz enc w' a l := by
  refine ⟨h.1, fun j x hx => ?_⟩
  obtain ⟨b, off, ha, hb, hc⟩ := h.2 j x hx
  have hbk := k.block b hb (hne _ ha)
  exact ⟨b, off, ha, Nat.lt_of_lt_of_le hb k.size, fun i v hv => (World.cell?_of_block (w := w) (a := ⟨b, off + j * sz + i, none⟩) hbk).trans (hc i v hv)⟩

theorem kx_cell {Z : Nat → Prop} {w w' : World} {b o : Nat} {u : Value} (k : Kx Z w w') (h : w.cell? ⟨b, o, none⟩ = some u) (hz : ¬ Z b) : w'.cell? ⟨b, o, none⟩ = some u :=
  (World.cell?_of_block (w := w) (a := ⟨b, o, none⟩) (k.block b (lt_of_cell h) hz)).trans h

/-- Which of n numbers are in b. -/
def usedB (n : Nat) (b : List Nat) : List Value := (List.range n).map (fun i => .bool (decide (i ∈ b)))

theorem usedB_at {n : Nat} (b : List Nat) {k : Nat} (h : k < n) : (usedB n b)[k]? = some (.bool (decide (k ∈ b))) := by
  unfold usedB
  rw [List.getElem?_map, List.getElem?_range h]
  rfl

theorem usedB_len (n : Nat) (b : List Nat) : (usedB n b).length = n := by simp [usedB]

theorem usedB_set {n k : Nat} {b c : List Nat} (h : k < n) (hc : ∀ i, i ≠ k → (i ∈ c ↔ i ∈ b)) : (usedB n b).set k (.bool (decide (k ∈ c))) = usedB n c := by
  refine List.ext_getElem? (fun i => ?_)
  by_cases hi : i < n
  · rw [usedB_at c hi, List.getElem?_set]
    by_cases e : k = i
    · subst e
      rw [if_pos rfl, if_pos (by rw [usedB_len]; exact h)]
    · rw [if_neg e, usedB_at b hi]
      have := hc i (fun e' => e e'.symm)
      simp [this]
  · rw [List.getElem?_eq_none (by rw [List.length_set, usedB_len]; omega), List.getElem?_eq_none (by rw [usedB_len]; omega)]

theorem usedB_add {n k : Nat} {b : List Nat} (h : k < n) : (usedB n b).set k (.bool true) = usedB n (b ++ [k]) := by
  have := usedB_set (b := b) (c := b ++ [k]) h (fun i hi => by simp [hi])
  simpa using this

theorem usedB_del {n k : Nat} {b : List Nat} (h : k < n) (hk : k ∉ b) : (usedB n (b ++ [k])).set k (.bool false) = usedB n b := by
  have := usedB_set (b := b ++ [k]) (c := b) h (fun i hi => by simp [hi])
  simpa [hk] using this

end Go.Proofs.Ytcdilmagcdbogaa
