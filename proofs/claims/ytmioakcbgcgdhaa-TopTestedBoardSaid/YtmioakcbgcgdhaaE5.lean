/- The contract of armMake. (Made by gen_arm5.py.) -/
import Derived.Test.YtmioakcbgcgdhaaQe
namespace Go.Proofs.Ytmioakcbgcgdhaa
set_option linter.unusedVariables false
set_option linter.unusedSimpArgs false
open Go.RowKit

set_option maxRecDepth 100000 in
set_option maxHeartbeats 8000000 in
theorem armMake_any (P : List V6) (F : List V3) (Y : List Int) (hP : ∀ v ∈ P, B6 v) (hF : ∀ v ∈ F, B3 v) (hY : Bytes Y) (pa fa ya : Option Addr) (pc fc yc : Nat) (w : World) (rp : Row6 w pa P) (rf : Row3 w fa F) (ry : URow w ya Y) :
    Calls Try.prog 9 #[.agg #[.slice pa P.length pc, .slice fa F.length fc, .slice ya Y.length yc]] w (MadePost (makeWP P Y) (makeWF F Y) w) := by
  obtain ⟨i0, hi, hz0, hz1, hz2⟩ := info_parts infoInt
  have gg := (Gr.al w (.cells #[.slice pa P.length pc, .slice fa F.length fc, .slice ya Y.length yc] 26)).tr (Gr.al _ (.cells #[.slice none 0 0, .slice none 0 0] 35))
  have hx := (Box.new w [.slice pa P.length pc, .slice fa F.length fc, .slice ya Y.length yc] 26 w.heap.size rfl).keep (Gr.al _ (.cells #[.slice none 0 0, .slice none 0 0] 35))
  have or := Own.new (w.alloc (.cells #[.slice pa P.length pc, .slice fa F.length fc, .slice ya Y.length yc] 26)) [.slice none 0 0, .slice none 0 0] 35 (w.heap.size + 1) (by simp)
  have HP := Lib.hid hP
  have HF := Lib.hid hF
  have HY := Lib.hid hY
  obtain ⟨np2, np5⟩ := npW_bd P.length
  obtain ⟨nf1, nf3⟩ := nfW_bd F.length
  have HLP := Lib.hid (storeWP_len P)
  have HLF := Lib.hid (storeWF_len F)
  clear hP hF hY
  obtain ⟨q0, q1, q2⟩ := hx.c3
  go_enter Try.func9, Try.ntmps9
  go_wp2_with fail
  refine (armStore_any P F HP.out HF.out pa fa ya pc fc yc Y.length _ (rp.grow gg) (rf.grow gg)).mono ?_
  rintro e w1 ⟨sa, sc, sg, gc, rfl, hg1, rsp, rsf, _, _⟩
  clear q0 q1 q2
  go_upto_region 3 with fail
  have hw1 := hg1.size
  have gA := (Gr.al w1 (.cells #[.slice sa (storeWP P).length sc, .slice sg (storeWF F).length gc] 31)).tr ((Gr.al _ (.cells #[.slice none 0 0, .slice none 0 0] 35)).tr (Gr.al _ (.cells #[.slice none 0 0, .slice none 0 0] 104)))
  obtain ⟨D, hD⟩ : ∃ D, D = w1.heap.size := ⟨_, rfl⟩
  have hbP : ∀ b off, sa = some ⟨b, off, none⟩ → b < D := by
    rintro b off rfl
    obtain ⟨b', off', e, hb⟩ := rsp.addr (by have := HLP.out; omega)
    cases e
    omega
  have hbF : ∀ b off, sg = some ⟨b, off, none⟩ → b < D := by
    rintro b off rfl
    obtain ⟨b', off', e, hb⟩ := rsf.addr (by have := HLF.out; omega)
    cases e
    omega
  have hMP : MkP w D sa sg := ⟨by simp at hw1; omega, hbP, hbF⟩
  have HMP := Lib.hid hMP
  have hDw := hMP.hD
  have hM : MkS w [.slice pa P.length pc, .slice fa F.length fc, .slice ya Y.length yc] D sa sg (storeWP P) (storeWF F) sc gc (((w1.alloc (.cells #[.slice sa (storeWP P).length sc, .slice sg (storeWF F).length gc] 31)).alloc (.cells #[.slice none 0 0, .slice none 0 0] 35)).alloc (.cells #[.slice none 0 0, .slice none 0 0] 104)) :=
    ⟨(gg.tr hg1).tr gA, (hx.keep hg1).keep gA, (or.keep hg1).keep gA, (Box.new w1 [.slice sa (storeWP P).length sc, .slice sg (storeWF F).length gc] 31 D hD).keep ((Gr.al _ _).tr (Gr.al _ _)), rsp.grow gA, rsf.grow gA⟩
  have o4 := (Own.new (w1.alloc (.cells #[.slice sa (storeWP P).length sc, .slice sg (storeWF F).length gc] 31)) [.slice none 0 0, .slice none 0 0] 35 (D + 1) (by simp [hD])).keep (Gr.al _ (.cells #[.slice none 0 0, .slice none 0 0] 104))
  have o5 := Own.new ((w1.alloc (.cells #[.slice sa (storeWP P).length sc, .slice sg (storeWF F).length gc] 31)).alloc (.cells #[.slice none 0 0, .slice none 0 0] 35)) [.slice none 0 0, .slice none 0 0] 104 (D + 1 + 1) (by simp [hD])
  rw [← hD]
  refine wp_abs (fun W => MkS w [.slice pa P.length pc, .slice fa F.length fc, .slice ya Y.length yc] D sa sg (storeWP P) (storeWF F) sc gc W ∧ Own W (D + 1) [.slice none 0 0, .slice none 0 0] ∧ Own W (D + 1 + 1) [.slice none 0 0, .slice none 0 0]) ⟨hM, o4, o5⟩ ?_
  clear hM o4 o5 gA hbP hbF hMP hD hg1 rsp rsf hx or hw1 gg
  rintro W ⟨hM, o4, o5⟩
  go_wp2
  go_loopw [6] (fun i wr => Hid (∃ (k : Nat) (kv0 kv1 : Value), k ≤ npW P.length ∧ i = .int .i64 k ∧ MkS w [.slice pa P.length pc, .slice fa F.length fc, .slice ya Y.length yc] D sa sg (storeWP P) (storeWF F) sc gc wr ∧ Own wr (D + 1) [.slice none 0 0, .slice none 0 0] ∧ Own wr (D + 1 + 1) [kv0, kv1] ∧
    wr.ownsRow (D + 1 + 1 + 1) 3 1 kv0 (kindsW P 1 k).length ((kindsW P 1 k).flatMap encI) ∧ wr.ownsRow (D + 1 + 1 + 1) 3 1 kv1 (kindsW P 2 k).length ((kindsW P 2 k).flatMap encI) ∧ (∀ r, kv0.ownBlock = some r → kv1.ownBlock ≠ some r))) (fun i wr => 5 - (intOf i).toNat)
  case atStart => exact Lib.hid ⟨0, .slice none 0 0, .slice none 0 0, by omega, rfl, hM, o4, o5, World.ownsRow_nil _ _ _ _, World.ownsRow_nil _ _ _ _, fun r e => by simp [Value.ownBlock] at e⟩
  case round =>
    clear hM o4 o5
    obtain ⟨k, kv0, kv1, hk, rfl, hM, o4, o5, w0, w1', hdis⟩ := hrel.out
    clear hrel
    have s0 := hM.b3.2 0 _ rfl
    have s1 := hM.b3.2 1 _ rfl
    have hlW := HLP.out
    have hsz : D + 1 + 1 < wr.heap.size := o5.1.1
    by_cases hlt : k < npW P.length
    · have dk : decide (k < (storeWP P).length) = true := by simp; omega
      have hkl : k < (storeWP P).length := by omega
      have hpk := storeWP_at hlt
      obtain ⟨b0, o0, ha, hb0, c0, _⟩ := hM.rp.get hpk
      have h12 := kindW_12 HP.out (show k < 5 by omega)
      have l1 := kindsW_len P 1 k
      have l2 := kindsW_len P 2 k
      have HD := Lib.hid hdis
      have HPK := Lib.hid hpk
      clear hpk hlW hdis
      subst ha
      have gA := Gr.al wr (.cells #[.int .i64 (k : Int)] 3)
      have w0A := owns_keep w0 gA
      have w1A := owns_keep w1' gA
      have HL0 := Lib.hid w0.lt
      have HL1 := Lib.hid w1'.lt
      change wr.cell? _ = some (.int .i64 (kindW P k)) at c0
      rcases h12 with hkk | hkk
      · have E1 : kindsW P 1 (k + 1) = kindsW P 1 k ++ [(k : Int)] := by show _ ++ _ = _; rw [if_pos hkk]
        have E2 : kindsW P 2 (k + 1) = kindsW P 2 k := by show _ ++ _ = _; rw [if_neg (by rw [hkk]; decide)]; simp
        have HE1 := Lib.hid E1
        have HE2 := Lib.hid E2
        rw [hkk] at c0
        obtain ⟨t0, t1⟩ := o5.1.c2
        clear E1 E2 hkk
        go_wp2_with (at_builtin; refine wpList_append_lies _ rfl _ _ 33 rfl (D + 1 + 1 + 1) 3 i0 _ 1 8 Try.underlying33 hi hz0 hz1 hz2 rfl (by decide) kv0 _ _ rfl w0A ⟨wr.heap.size, 0, none⟩ 1 1 ([(k : Int)].map (fun n => Value.int .i64 n)) rfl rfl (cell_news _ _ _) (ints_one _) (by decide) (by unfold maxLen; omega) (by omega) (by simp; omega) _ rfl ?_; intro gb cap w6 hown4 hgr4 hat4 hlt4; have hM6 := (hM.keep gA).grown HMP.out hgr4 (fun r e => by have := HL0.out r e; omega); have o46 := (o4.keep gA).grownRow hgr4 (fun r e => by have := HL0.out r e; omega); have o56 := (o5.keep gA).grownRow hgr4 (fun r e => by have := HL0.out r e; omega); have w16 := w1A.kept hgr4 (by (cases hpo : kv1.ownBlock with | none => exact .inl rfl | some r => exact .inr (fun e => HD.out r e.symm hpo))); (obtain ⟨t0, t1⟩ := o56.1.c2); have z0 := o56.2 0; have z1 := o56.2 1)
        go_roundw
        case rel =>
          refine Lib.hid ⟨k + 1, _, _, by omega, by go_num, hM6.set HMP.out (by omega) _ _, o46.other (by omega), o56.set (i := 0) (by simp), ?_, ?_, ?_⟩
          · rw [HE1.out, flat_snoc, List.length_append]
            exact owns_other hown4 (by omega)
          · rw [HE2.out]
            exact owns_other w16 (by omega)
          · intro r e e'
            have e2 : gb = r := by simpa [Value.ownBlock] using e
            subst e2
            rcases hat4 with h | h
            · exact HD.out _ h e'
            · have := HL1.out _ e'
              simp at h
              omega
        case measure => simp [intOf]; omega
      · have E1 : kindsW P 2 (k + 1) = kindsW P 2 k ++ [(k : Int)] := by show _ ++ _ = _; rw [if_pos hkk]
        have E2 : kindsW P 1 (k + 1) = kindsW P 1 k := by show _ ++ _ = _; rw [if_neg (by rw [hkk]; decide)]; simp
        have HE1 := Lib.hid E1
        have HE2 := Lib.hid E2
        rw [hkk] at c0
        obtain ⟨t0, t1⟩ := o5.1.c2
        clear E1 E2 hkk
        go_wp2_with (at_builtin; refine wpList_append_lies _ rfl _ _ 33 rfl (D + 1 + 1 + 1) 3 i0 _ 1 8 Try.underlying33 hi hz0 hz1 hz2 rfl (by decide) kv1 _ _ rfl w1A ⟨wr.heap.size, 0, none⟩ 1 1 ([(k : Int)].map (fun n => Value.int .i64 n)) rfl rfl (cell_news _ _ _) (ints_one _) (by decide) (by unfold maxLen; omega) (by omega) (by simp; omega) _ rfl ?_; intro gb cap w6 hown4 hgr4 hat4 hlt4; have hM6 := (hM.keep gA).grown HMP.out hgr4 (fun r e => by have := HL1.out r e; omega); have o46 := (o4.keep gA).grownRow hgr4 (fun r e => by have := HL1.out r e; omega); have o56 := (o5.keep gA).grownRow hgr4 (fun r e => by have := HL1.out r e; omega); have w16 := w0A.kept hgr4 (by (cases hpo : kv0.ownBlock with | none => exact .inl rfl | some r => exact .inr (fun e => HD.out r hpo e.symm))); (obtain ⟨t0, t1⟩ := o56.1.c2); have z0 := o56.2 0; have z1 := o56.2 1)
        go_roundw
        case rel =>
          refine Lib.hid ⟨k + 1, _, _, by omega, by go_num, hM6.set HMP.out (by omega) _ _, o46.other (by omega), o56.set (i := 1) (by simp), ?_, ?_, ?_⟩
          · rw [HE2.out]
            exact owns_other w16 (by omega)
          · rw [HE1.out, flat_snoc, List.length_append]
            exact owns_other hown4 (by omega)
          · intro r e e'
            have e2 : gb = r := by simpa [Value.ownBlock] using e'
            subst e2
            rcases hat4 with h | h
            · exact HD.out _ e h
            · have := HL0.out _ e
              simp at h
              omega
        case measure => simp [intOf]; omega
    · obtain rfl : k = npW P.length := by omega
      have dk : decide (npW P.length < (storeWP P).length) = false := by simp; omega

      have p1 := kindsW_pos1 P np2
      have p2 := kindsW_pos2 P np2
      have l1 := kindsW_len P 1 (npW P.length)
      have l2 := kindsW_len P 2 (npW P.length)
      obtain ⟨a0, c0, hv0, r0, m0⟩ := owns_row_new (enc := encI) (l := kindsW P 1 (npW P.length)) (fun _ => rfl) (by omega) w0
      obtain ⟨a1, c1, hv1, r1, m1⟩ := owns_row_new (enc := encI) (l := kindsW P 2 (npW P.length)) (fun _ => rfl) (by omega) w1'
      subst hv0
      subst hv1
      have HLW := Lib.hid hlW
      have HA0 : Hid (∀ b off, a0 = some ⟨b, off, none⟩ → D + 1 + 1 + 1 ≤ b ∧ b < wr.heap.size) := Lib.hid (by
        rintro b off rfl
        obtain ⟨b', off', e, hb⟩ := r0.addr p1
        cases e
        exact ⟨m0 _ _ _ rfl, hb⟩)
      have HA1 : Hid (∀ b off, a1 = some ⟨b, off, none⟩ → D + 1 + 1 + 1 ≤ b ∧ b < wr.heap.size) := Lib.hid (by
        rintro b off rfl
        obtain ⟨b', off', e, hb⟩ := r1.addr p2
        cases e
        exact ⟨m1 _ _ _ rfl, hb⟩)
      clear m0 m1 hdis hlW w0 w1'
      obtain ⟨H1, hH1⟩ : ∃ H1, H1 = wr.heap.size := ⟨_, rfl⟩
      rw [← hH1] at HA0 HA1
      have hge : H1 ≤ wr.heap.size := by omega
      have hH1D : D + 1 + 1 < H1 := by omega
      obtain ⟨b00, b01⟩ := byteL_bd HY.out 0
      have hf12 := flW_12 Y
      have hB0 : Calls Try.prog 24 #[.slice ya Y.length yc, .int .i64 0] wr fun e w' => e = .returned (.int .i64 (byteL Y 0)) ∧ wr = w' := pubByte_any Y HY.out 0 (by omega) ya yc wr (ry.grow hM.gr)
      have hfl : (1 : Int) + byteL Y 0 % 2 = (flW Y : Int) := by unfold flW; omega
      have HFL := Lib.hid hfl
      have HB0 := Lib.hid hB0
      clear hH1 hfl hB0
      go_upto_region 8 with fail
      clear s0 s1 dk
      go_cut [8] from 37 to 41 (fun s8 wx => s8 = .int .i64 (flW Y : Int) ∧ wr = wx)
      case first =>
        have q2 := hM.hx.2 2 _ rfl
        have ht : (byteL Y 0).tmod 2 = byteL Y 0 % 2 := Int.tmod_eq_emod_of_nonneg b00
        go_wp2_with (go_at_call 24; refine HB0.out.mono ?_; rintro e w' ⟨rfl, rfl⟩)
        go_meet
        exact ⟨by rw [← HFL.out], rfl⟩
      case rest =>
        obtain ⟨rfl, rfl⟩ := hcut
        clear b00 b01 HFL HB0
        go_wp2
        refine (show (∀ t : Nat → Value, Code.wp Try.prog _ _ ⟨#[t 0, .pointer (some ⟨w.heap.size, 0, none⟩), .pointer (some ⟨(w.heap.size + 1), 0, none⟩), .pointer (some ⟨D, 0, none⟩), .pointer (some ⟨(D + 1), 0, none⟩), .pointer (some ⟨(D + 1 + 1), 0, none⟩), t 6, t 7, .int .i64 (flW Y : Int), .int .i64 0, undef, t 11, t 12, t 13, t 14, t 15, t 16, t 17, t 18, t 19, t 20, t 21, t 22, t 23, t 24, t 25, t 26, t 27, t 28, t 29, t 30, t 31, t 32, t 33, t 34, t 35, t 36, t 37, t 38, t 39, t 40, t 41, undef, undef, undef, undef, undef, undef, undef, undef, undef, undef, undef, undef, undef, undef, undef, undef, undef, undef, undef, undef, undef, undef, undef, undef, undef, undef, undef, undef, undef, undef, undef, undef, undef, undef, undef, undef, undef, undef, undef, undef, undef, undef, undef, undef, undef], []⟩ _) → _ from fun h => h ((fun l : List Value => fun i => l.getD i undef) [_, undef, undef, undef, undef, undef, _, _, undef, undef, undef, _, _, _, _, _, _, _, _, _, _, _, _, _, _, _, _, _, _, _, _, _, _, _, _, _, _, _, _, _, _, _])) ?_
        intro t
        dsimp only
        go_loopw [9] (fun i wq => Hid (∃ (k : Nat) (pv qv : Value), k ≤ 2 * flW Y + 1 ∧ i = .int .i64 k ∧ MkS w [.slice pa P.length pc, .slice fa F.length fc, .slice ya Y.length yc] D sa sg (storeWP P) (storeWF F) sc gc wq ∧ H1 ≤ wq.heap.size ∧ Own wq (D + 1) [pv, qv] ∧ Own wq (D + 1 + 1) [.slice a0 (kindsW P 1 (npW P.length)).length c0, .slice a1 (kindsW P 2 (npW P.length)).length c1] ∧ IRow wq a0 (kindsW P 1 (npW P.length)) ∧ IRow wq a1 (kindsW P 2 (npW P.length)) ∧
          wq.ownsRow H1 3 1 pv k (((makeWP P Y).take (k)).flatMap encI) ∧ wq.ownsRow H1 3 1 qv (k / 2) (((makeWF F Y).take (k / 2)).flatMap encI) ∧ (∀ r, pv.ownBlock = some r → qv.ownBlock ≠ some r))) (fun i wq => 5 - (intOf i).toNat)
        case atStart => exact Lib.hid ⟨0, .slice none 0 0, .slice none 0 0, by omega, rfl, hM, hge, o4, o5, r0, r1, World.ownsRow_nil _ _ _ _, World.ownsRow_nil _ _ _ _, fun r e => by simp [Value.ownBlock] at e⟩
        case round =>
          clear hM o4 o5 hge r0 r1
          obtain ⟨k, pv, qv, hk, rfl, hM, hge, o4, o5, r0, r1, wp, wq', hdis⟩ := hrel.out
          clear hrel
          have hsz : D + 1 + 1 < wr.heap.size := o5.1.1
          by_cases hlt : k < 2 * flW Y + 1
          · have dk : decide ((k : Int) < 2 * (flW Y : Int) + 1) = true := by simp; omega
            go_upto_region 12 with fail
            go_cut [10] from 49 to 52 (fun s10 wx => wr = wx ∧ ∃ (la : Option Addr) (lc : Nat) (L : List Int), s10 = .slice la L.length lc ∧ IRow wr la L ∧ 0 < L.length ∧ L.length ≤ 5 ∧ L = kindRow P k)
            case first =>
              obtain ⟨t0, t1⟩ := o5.1.c2
              by_cases he : k % 2 = 0
              · have ht : ((k : Int)).tmod 2 = 0 := by rw [Int.tmod_eq_emod_of_nonneg (by omega)]; omega
                have E := Lib.hid (show kindsW P 1 (npW P.length) = kindRow P k by simp [kindRow, he])
                clear he
                go_wp2_with fail
                go_meet
                exact ⟨rfl, a0, c0, _, rfl, r0, p1, by omega, E.out⟩
              · have ht : ((k : Int)).tmod 2 = 1 := by rw [Int.tmod_eq_emod_of_nonneg (by omega)]; omega
                have E := Lib.hid (show kindsW P 2 (npW P.length) = kindRow P k by simp [kindRow, he])
                clear he
                go_wp2_with fail
                go_meet
                exact ⟨rfl, a1, c1, _, rfl, r1, p2, by omega, E.out⟩
            case rest =>
              obtain ⟨rfl, la, lc, L, rfl, hL, l0, l5, hLE⟩ := hcut
              have hpk := makeWP_at (P := P) hlt
              rw [← hLE] at hpk
              obtain ⟨mb0, mb1⟩ := byteL_bd HY.out (k + 1)
              obtain ⟨m, hm⟩ : ∃ m : Nat, byteL Y (k + 1) = (m : Int) := ⟨_, (Int.toNat_of_nonneg mb0).symm⟩
              have hB : ∀ v, Gr w v → Calls Try.prog 24 #[.slice ya Y.length yc, .int .i64 ((k : Int) + 1)] v fun e v' => e = .returned (.int .i64 (m : Int)) ∧ Gr v v' := fun v g => by
                have h := pubByte_any Y HY.out (k + 1) (by omega) ya yc v (ry.grow g)
                rw [show (((k + 1 : Nat)) : Int) = (k : Int) + 1 from by omega, hm] at h
                exact h.mono fun e v' ⟨h1, h2⟩ => ⟨h1, h2 ▸ Below.refl _ _⟩
              rw [hm, Int.toNat_natCast] at hpk
              have hml : m % L.length < L.length := Nat.mod_lt _ l0
              obtain ⟨xv, hxv⟩ := get_of_lt hml
              have ex : pickW L m = xv := by simp [pickW, hxv]
              rw [ex] at hpk
              obtain ⟨lb, lo, rfl, hlb, hcx⟩ := hL.get hxv
              have HPK := Lib.hid hpk
              have HB := Lib.hid hB
              have HD := Lib.hid hdis
              clear hm ex hLE hpk hB hdis hxv mb0 mb1
              have hz : ((L.length : Int) == 0) = false := by rw [beq_eq_false_iff_ne]; omega
              have hz2 : ¬ (L.length : Int) = 0 := by omega
              have hLn : ¬ L = [] := by rintro rfl; simp at l0
              have hi0 : (0 : Int) ≤ (m : Int) % (L.length : Int) := Int.emod_nonneg _ hz2
              have hi1 : (m : Int) % (L.length : Int) < (L.length : Int) := Int.emod_lt_of_pos _ (by omega)
              have htm : ((m : Int)).tmod (L.length : Int) = (m : Int) % (L.length : Int) := Int.tmod_eq_emod_of_nonneg (by omega)
              have hwk : IntKind.i64.wrap ((k : Int) + 1) = (k : Int) + 1 := IntWalk.i64_in _ (by omega)
              go_upto_region 13 with fail
              refine (show (∀ r : Nat → Value, Code.wp Try.prog _ _ ⟨#[t 0, .pointer (some ⟨w.heap.size, 0, none⟩), .pointer (some ⟨(w.heap.size + 1), 0, none⟩), .pointer (some ⟨D, 0, none⟩), .pointer (some ⟨(D + 1), 0, none⟩), .pointer (some ⟨(D + 1 + 1), 0, none⟩), t 6, t 7, .int .i64 (flW Y : Int), .int .i64 (k : Int), .slice (some ⟨lb, lo, none⟩) L.length lc, t 11, t 12, t 13, t 14, t 15, t 16, t 17, t 18, t 19, t 20, t 21, t 22, t 23, t 24, t 25, t 26, t 27, t 28, t 29, t 30, t 31, t 32, t 33, t 34, t 35, t 36, t 37, t 38, t 39, t 40, t 41, r 42, r 43, r 44, r 45, r 46, r 47, r 48, r 49, r 50, r 51, r 52, r 53, r 54, r 55, r 56, r 57, r 58, r 59, r 60, r 61, r 62, r 63, r 64, r 65, r 66, r 67, r 68, r 69, r 70, r 71, r 72, r 73, r 74, r 75, r 76, r 77, r 78, r 79, r 80, r 81, r 82, r 83, r 84, r 85, undef], []⟩ _) → _ from fun h => h ((fun l : List Value => fun i => l.getD i undef) [undef, undef, undef, undef, undef, undef, undef, undef, undef, undef, undef, undef, undef, undef, undef, undef, undef, undef, undef, undef, undef, undef, undef, undef, undef, undef, undef, undef, undef, undef, undef, undef, undef, undef, undef, undef, undef, undef, undef, undef, undef, undef, _, _, _, _, _, _, _, _, _, _, _, _, _, _, _, _, _, _, _, _, _, _, _, _, _, _, _, _, _, _, _, _, _, _, _, _, _, _, _, _, _, _, _, _])) ?_
              intro r
              dsimp only
              refine wp_region_facts 14 [(1, 0), (4, 3), (6, 5), (7, 4), (7, 6), (9, 8), (10, 7), (10, 9), (11, 2), (11, 10), (12, 11), (13, 12)] (fun x => ⟨#[t 0, .pointer (some ⟨w.heap.size, 0, none⟩), .pointer (some ⟨(w.heap.size + 1), 0, none⟩), .pointer (some ⟨D, 0, none⟩), .pointer (some ⟨(D + 1), 0, none⟩), .pointer (some ⟨(D + 1 + 1), 0, none⟩), t 6, t 7, .int .i64 (flW Y : Int), .int .i64 (k : Int), .slice (some ⟨lb, lo, none⟩) L.length lc, t 11, t 12, t 13, t 14, t 15, t 16, t 17, t 18, t 19, t 20, t 21, t 22, t 23, t 24, t 25, t 26, t 27, t 28, t 29, t 30, t 31, t 32, t 33, t 34, t 35, t 36, t 37, t 38, t 39, t 40, t 41, r 42, r 43, r 44, r 45, r 46, r 47, r 48, r 49, r 50, r 51, r 52, x 0, x 1, x 2, x 3, x 4, x 5, x 6, x 7, x 8, x 9, x 10, x 11, x 12, x 13, r 67, r 68, r 69, r 70, r 71, r 72, r 73, r 74, r 75, r 76, r 77, r 78, r 79, r 80, r 81, r 82, r 83, r 84, r 85, undef], []⟩) (fun i => [r 53, r 54, r 55, r 56, r 57, r 58, r 59, r 60, r 61, r 62, r 63, r 64, r 65, r 66].getD i undef) [fun _ x => x = .pointer (some ⟨(D + 1), 0, none⟩), fun _ x => x = pv, fun _ x => x = .slice (some ⟨lb, lo, none⟩) L.length lc, fun _ x => x = .pointer (some ⟨w.heap.size, 2, none⟩), fun _ x => x = .slice ya Y.length yc, fun _ x => x = .int .i64 (k : Int), fun _ x => x = .int .i64 ((k : Int) + 1), fun _ x => x = .int .i64 (m : Int), fun _ x => x = .slice (some ⟨lb, lo, none⟩) L.length lc, fun _ x => x = .int .i64 (L.length : Int), fun _ x => x = .int .i64 ((m : Int) % (L.length : Int)), fun _ x => x = .pointer (some ⟨lb, lo + m % L.length, none⟩), fun _ x => x = .int .i64 xv, fun v x => ∃ b, x = .slice (some ⟨b, 0, none⟩) 1 1 ∧ Own v b [.int .i64 xv]] (by rfl) (by kernel_rfl) (by kernel_rfl) (by kernel_rfl) (stays_cons (Stays.eq _) (stays_cons (Stays.eq _) (stays_cons (Stays.eq _) (stays_cons (Stays.eq _) (stays_cons (Stays.eq _) (stays_cons (Stays.eq _) (stays_cons (Stays.eq _) (stays_cons (Stays.eq _) (stays_cons (Stays.eq _) (stays_cons (Stays.eq _) (stays_cons (Stays.eq _) (stays_cons (Stays.eq _) (stays_cons (Stays.eq _) (stays_cons ((show Stays (fun v x => ∃ b, x = .slice (some ⟨b, 0, none⟩) 1 1 ∧ Own v b [.int .i64 xv]) from fun v v' x g ⟨b, e, o⟩ => ⟨b, e, o.keep g⟩)) stays_nil)))))))))))))) ?step13 ?fin13
              case step13 =>
                rintro i hi x v gv hd K hK
                have hi8 : i = 0 ∨ i = 1 ∨ i = 2 ∨ i = 3 ∨ i = 4 ∨ i = 5 ∨ i = 6 ∨ i = 7 ∨ i = 8 ∨ i = 9 ∨ i = 10 ∨ i = 11 ∨ i = 12 ∨ i = 13 := by omega
                rcases hi8 with rfl | rfl | rfl | rfl | rfl | rfl | rfl | rfl | rfl | rfl | rfl | rfl | rfl | rfl
                · show wpOp Try.prog _ _ 0 K (⟨#[t 0, .pointer (some ⟨w.heap.size, 0, none⟩), .pointer (some ⟨(w.heap.size + 1), 0, none⟩), .pointer (some ⟨D, 0, none⟩), .pointer (some ⟨(D + 1), 0, none⟩), .pointer (some ⟨(D + 1 + 1), 0, none⟩), t 6, t 7, .int .i64 (flW Y : Int), .int .i64 (k : Int), .slice (some ⟨lb, lo, none⟩) L.length lc, t 11, t 12, t 13, t 14, t 15, t 16, t 17, t 18, t 19, t 20, t 21, t 22, t 23, t 24, t 25, t 26, t 27, t 28, t 29, t 30, t 31, t 32, t 33, t 34, t 35, t 36, t 37, t 38, t 39, t 40, t 41, r 42, r 43, r 44, r 45, r 46, r 47, r 48, r 49, r 50, r 51, r 52, x 0, x 1, x 2, x 3, x 4, x 5, x 6, x 7, x 8, x 9, x 10, x 11, x 12, x 13, r 67, r 68, r 69, r 70, r 71, r 72, r 73, r 74, r 75, r 76, r 77, r 78, r 79, r 80, r 81, r 82, r 83, r 84, r 85, undef], []⟩ : Act) v
                  refine wpOp_step rfl (fun K' hK' => ?_)
                  go_simp
                  exact hK' _ _ (hK _ _ (Below.refl _ _) (at_of rfl (rfl)))
                · obtain ⟨x, rfl⟩ := upd_of (show x 0 = .pointer (some ⟨(D + 1), 0, none⟩) from hd 0 _ (by simp) rfl)
                  show wpOp Try.prog _ _ 1 K (⟨#[t 0, .pointer (some ⟨w.heap.size, 0, none⟩), .pointer (some ⟨(w.heap.size + 1), 0, none⟩), .pointer (some ⟨D, 0, none⟩), .pointer (some ⟨(D + 1), 0, none⟩), .pointer (some ⟨(D + 1 + 1), 0, none⟩), t 6, t 7, .int .i64 (flW Y : Int), .int .i64 (k : Int), .slice (some ⟨lb, lo, none⟩) L.length lc, t 11, t 12, t 13, t 14, t 15, t 16, t 17, t 18, t 19, t 20, t 21, t 22, t 23, t 24, t 25, t 26, t 27, t 28, t 29, t 30, t 31, t 32, t 33, t 34, t 35, t 36, t 37, t 38, t 39, t 40, t 41, r 42, r 43, r 44, r 45, r 46, r 47, r 48, r 49, r 50, r 51, r 52, .pointer (some ⟨(D + 1), 0, none⟩), x 1, x 2, x 3, x 4, x 5, x 6, x 7, x 8, x 9, x 10, x 11, x 12, x 13, r 67, r 68, r 69, r 70, r 71, r 72, r 73, r 74, r 75, r 76, r 77, r 78, r 79, r 80, r 81, r 82, r 83, r 84, r 85, undef], []⟩ : Act) v
                  refine wpOp_step rfl (fun K' hK' => ?_)
                  have q := (o4.1.keep gv).2 0 _ rfl
                  go_simp
                  exact hK' _ _ (hK _ _ (Below.refl _ _) (at_of rfl (rfl)))
                · show wpOp Try.prog _ _ 2 K (⟨#[t 0, .pointer (some ⟨w.heap.size, 0, none⟩), .pointer (some ⟨(w.heap.size + 1), 0, none⟩), .pointer (some ⟨D, 0, none⟩), .pointer (some ⟨(D + 1), 0, none⟩), .pointer (some ⟨(D + 1 + 1), 0, none⟩), t 6, t 7, .int .i64 (flW Y : Int), .int .i64 (k : Int), .slice (some ⟨lb, lo, none⟩) L.length lc, t 11, t 12, t 13, t 14, t 15, t 16, t 17, t 18, t 19, t 20, t 21, t 22, t 23, t 24, t 25, t 26, t 27, t 28, t 29, t 30, t 31, t 32, t 33, t 34, t 35, t 36, t 37, t 38, t 39, t 40, t 41, r 42, r 43, r 44, r 45, r 46, r 47, r 48, r 49, r 50, r 51, r 52, x 0, x 1, x 2, x 3, x 4, x 5, x 6, x 7, x 8, x 9, x 10, x 11, x 12, x 13, r 67, r 68, r 69, r 70, r 71, r 72, r 73, r 74, r 75, r 76, r 77, r 78, r 79, r 80, r 81, r 82, r 83, r 84, r 85, undef], []⟩ : Act) v
                  refine wpOp_step rfl (fun K' hK' => ?_)
                  go_simp
                  exact hK' _ _ (hK _ _ (Below.refl _ _) (at_of rfl (rfl)))
                · show wpOp Try.prog _ _ 3 K (⟨#[t 0, .pointer (some ⟨w.heap.size, 0, none⟩), .pointer (some ⟨(w.heap.size + 1), 0, none⟩), .pointer (some ⟨D, 0, none⟩), .pointer (some ⟨(D + 1), 0, none⟩), .pointer (some ⟨(D + 1 + 1), 0, none⟩), t 6, t 7, .int .i64 (flW Y : Int), .int .i64 (k : Int), .slice (some ⟨lb, lo, none⟩) L.length lc, t 11, t 12, t 13, t 14, t 15, t 16, t 17, t 18, t 19, t 20, t 21, t 22, t 23, t 24, t 25, t 26, t 27, t 28, t 29, t 30, t 31, t 32, t 33, t 34, t 35, t 36, t 37, t 38, t 39, t 40, t 41, r 42, r 43, r 44, r 45, r 46, r 47, r 48, r 49, r 50, r 51, r 52, x 0, x 1, x 2, x 3, x 4, x 5, x 6, x 7, x 8, x 9, x 10, x 11, x 12, x 13, r 67, r 68, r 69, r 70, r 71, r 72, r 73, r 74, r 75, r 76, r 77, r 78, r 79, r 80, r 81, r 82, r 83, r 84, r 85, undef], []⟩ : Act) v
                  refine wpOp_step rfl (fun K' hK' => ?_)
                  go_simp
                  exact hK' _ _ (hK _ _ (Below.refl _ _) (at_of rfl (rfl)))
                · obtain ⟨x, rfl⟩ := upd_of (show x 3 = .pointer (some ⟨w.heap.size, 2, none⟩) from hd 3 _ (by simp) rfl)
                  show wpOp Try.prog _ _ 4 K (⟨#[t 0, .pointer (some ⟨w.heap.size, 0, none⟩), .pointer (some ⟨(w.heap.size + 1), 0, none⟩), .pointer (some ⟨D, 0, none⟩), .pointer (some ⟨(D + 1), 0, none⟩), .pointer (some ⟨(D + 1 + 1), 0, none⟩), t 6, t 7, .int .i64 (flW Y : Int), .int .i64 (k : Int), .slice (some ⟨lb, lo, none⟩) L.length lc, t 11, t 12, t 13, t 14, t 15, t 16, t 17, t 18, t 19, t 20, t 21, t 22, t 23, t 24, t 25, t 26, t 27, t 28, t 29, t 30, t 31, t 32, t 33, t 34, t 35, t 36, t 37, t 38, t 39, t 40, t 41, r 42, r 43, r 44, r 45, r 46, r 47, r 48, r 49, r 50, r 51, r 52, x 0, x 1, x 2, .pointer (some ⟨w.heap.size, 2, none⟩), x 4, x 5, x 6, x 7, x 8, x 9, x 10, x 11, x 12, x 13, r 67, r 68, r 69, r 70, r 71, r 72, r 73, r 74, r 75, r 76, r 77, r 78, r 79, r 80, r 81, r 82, r 83, r 84, r 85, undef], []⟩ : Act) v
                  refine wpOp_step rfl (fun K' hK' => ?_)
                  have q := (hM.hx.keep gv).2 2 _ rfl
                  go_simp
                  exact hK' _ _ (hK _ _ (Below.refl _ _) (at_of rfl (rfl)))
                · show wpOp Try.prog _ _ 5 K (⟨#[t 0, .pointer (some ⟨w.heap.size, 0, none⟩), .pointer (some ⟨(w.heap.size + 1), 0, none⟩), .pointer (some ⟨D, 0, none⟩), .pointer (some ⟨(D + 1), 0, none⟩), .pointer (some ⟨(D + 1 + 1), 0, none⟩), t 6, t 7, .int .i64 (flW Y : Int), .int .i64 (k : Int), .slice (some ⟨lb, lo, none⟩) L.length lc, t 11, t 12, t 13, t 14, t 15, t 16, t 17, t 18, t 19, t 20, t 21, t 22, t 23, t 24, t 25, t 26, t 27, t 28, t 29, t 30, t 31, t 32, t 33, t 34, t 35, t 36, t 37, t 38, t 39, t 40, t 41, r 42, r 43, r 44, r 45, r 46, r 47, r 48, r 49, r 50, r 51, r 52, x 0, x 1, x 2, x 3, x 4, x 5, x 6, x 7, x 8, x 9, x 10, x 11, x 12, x 13, r 67, r 68, r 69, r 70, r 71, r 72, r 73, r 74, r 75, r 76, r 77, r 78, r 79, r 80, r 81, r 82, r 83, r 84, r 85, undef], []⟩ : Act) v
                  refine wpOp_step rfl (fun K' hK' => ?_)
                  go_simp
                  exact hK' _ _ (hK _ _ (Below.refl _ _) (at_of rfl (rfl)))
                · obtain ⟨x, rfl⟩ := upd_of (show x 5 = .int .i64 (k : Int) from hd 5 _ (by simp) rfl)
                  show wpOp Try.prog _ _ 6 K (⟨#[t 0, .pointer (some ⟨w.heap.size, 0, none⟩), .pointer (some ⟨(w.heap.size + 1), 0, none⟩), .pointer (some ⟨D, 0, none⟩), .pointer (some ⟨(D + 1), 0, none⟩), .pointer (some ⟨(D + 1 + 1), 0, none⟩), t 6, t 7, .int .i64 (flW Y : Int), .int .i64 (k : Int), .slice (some ⟨lb, lo, none⟩) L.length lc, t 11, t 12, t 13, t 14, t 15, t 16, t 17, t 18, t 19, t 20, t 21, t 22, t 23, t 24, t 25, t 26, t 27, t 28, t 29, t 30, t 31, t 32, t 33, t 34, t 35, t 36, t 37, t 38, t 39, t 40, t 41, r 42, r 43, r 44, r 45, r 46, r 47, r 48, r 49, r 50, r 51, r 52, x 0, x 1, x 2, x 3, x 4, .int .i64 (k : Int), x 6, x 7, x 8, x 9, x 10, x 11, x 12, x 13, r 67, r 68, r 69, r 70, r 71, r 72, r 73, r 74, r 75, r 76, r 77, r 78, r 79, r 80, r 81, r 82, r 83, r 84, r 85, undef], []⟩ : Act) v
                  refine wpOp_step rfl (fun K' hK' => ?_)
                  go_simp
                  exact hK' _ _ (hK _ _ (Below.refl _ _) (at_of rfl (rfl)))
                · obtain ⟨x, rfl⟩ := upd_of (show x 4 = .slice ya Y.length yc from hd 4 _ (by simp) rfl)
                  obtain ⟨x, rfl⟩ := upd_of (show x 6 = .int .i64 ((k : Int) + 1) from hd 6 _ (by simp) rfl)
                  show wpOp Try.prog _ _ 7 K (⟨#[t 0, .pointer (some ⟨w.heap.size, 0, none⟩), .pointer (some ⟨(w.heap.size + 1), 0, none⟩), .pointer (some ⟨D, 0, none⟩), .pointer (some ⟨(D + 1), 0, none⟩), .pointer (some ⟨(D + 1 + 1), 0, none⟩), t 6, t 7, .int .i64 (flW Y : Int), .int .i64 (k : Int), .slice (some ⟨lb, lo, none⟩) L.length lc, t 11, t 12, t 13, t 14, t 15, t 16, t 17, t 18, t 19, t 20, t 21, t 22, t 23, t 24, t 25, t 26, t 27, t 28, t 29, t 30, t 31, t 32, t 33, t 34, t 35, t 36, t 37, t 38, t 39, t 40, t 41, r 42, r 43, r 44, r 45, r 46, r 47, r 48, r 49, r 50, r 51, r 52, x 0, x 1, x 2, x 3, .slice ya Y.length yc, x 5, .int .i64 ((k : Int) + 1), x 7, x 8, x 9, x 10, x 11, x 12, x 13, r 67, r 68, r 69, r 70, r 71, r 72, r 73, r 74, r 75, r 76, r 77, r 78, r 79, r 80, r 81, r 82, r 83, r 84, r 85, undef], []⟩ : Act) v
                  refine wpOp_step rfl (fun K' hK' => ?_)
                  go_simp
                  refine (HB.out v (hM.gr.tr gv)).mono ?_
                  rintro e v' ⟨rfl, hg⟩
                  exact hK' _ _ (hK _ _ hg (at_of rfl (rfl)))
                · show wpOp Try.prog _ _ 8 K (⟨#[t 0, .pointer (some ⟨w.heap.size, 0, none⟩), .pointer (some ⟨(w.heap.size + 1), 0, none⟩), .pointer (some ⟨D, 0, none⟩), .pointer (some ⟨(D + 1), 0, none⟩), .pointer (some ⟨(D + 1 + 1), 0, none⟩), t 6, t 7, .int .i64 (flW Y : Int), .int .i64 (k : Int), .slice (some ⟨lb, lo, none⟩) L.length lc, t 11, t 12, t 13, t 14, t 15, t 16, t 17, t 18, t 19, t 20, t 21, t 22, t 23, t 24, t 25, t 26, t 27, t 28, t 29, t 30, t 31, t 32, t 33, t 34, t 35, t 36, t 37, t 38, t 39, t 40, t 41, r 42, r 43, r 44, r 45, r 46, r 47, r 48, r 49, r 50, r 51, r 52, x 0, x 1, x 2, x 3, x 4, x 5, x 6, x 7, x 8, x 9, x 10, x 11, x 12, x 13, r 67, r 68, r 69, r 70, r 71, r 72, r 73, r 74, r 75, r 76, r 77, r 78, r 79, r 80, r 81, r 82, r 83, r 84, r 85, undef], []⟩ : Act) v
                  refine wpOp_step rfl (fun K' hK' => ?_)
                  go_simp
                  exact hK' _ _ (hK _ _ (Below.refl _ _) (at_of rfl (rfl)))
                · obtain ⟨x, rfl⟩ := upd_of (show x 8 = .slice (some ⟨lb, lo, none⟩) L.length lc from hd 8 _ (by simp) rfl)
                  show wpOp Try.prog _ _ 9 K (⟨#[t 0, .pointer (some ⟨w.heap.size, 0, none⟩), .pointer (some ⟨(w.heap.size + 1), 0, none⟩), .pointer (some ⟨D, 0, none⟩), .pointer (some ⟨(D + 1), 0, none⟩), .pointer (some ⟨(D + 1 + 1), 0, none⟩), t 6, t 7, .int .i64 (flW Y : Int), .int .i64 (k : Int), .slice (some ⟨lb, lo, none⟩) L.length lc, t 11, t 12, t 13, t 14, t 15, t 16, t 17, t 18, t 19, t 20, t 21, t 22, t 23, t 24, t 25, t 26, t 27, t 28, t 29, t 30, t 31, t 32, t 33, t 34, t 35, t 36, t 37, t 38, t 39, t 40, t 41, r 42, r 43, r 44, r 45, r 46, r 47, r 48, r 49, r 50, r 51, r 52, x 0, x 1, x 2, x 3, x 4, x 5, x 6, x 7, .slice (some ⟨lb, lo, none⟩) L.length lc, x 9, x 10, x 11, x 12, x 13, r 67, r 68, r 69, r 70, r 71, r 72, r 73, r 74, r 75, r 76, r 77, r 78, r 79, r 80, r 81, r 82, r 83, r 84, r 85, undef], []⟩ : Act) v
                  refine wpOp_step rfl (fun K' hK' => ?_)
                  go_simp
                  exact hK' _ _ (hK _ _ (Below.refl _ _) (at_of rfl (rfl)))
                · obtain ⟨x, rfl⟩ := upd_of (show x 7 = .int .i64 (m : Int) from hd 7 _ (by simp) rfl)
                  obtain ⟨x, rfl⟩ := upd_of (show x 9 = .int .i64 (L.length : Int) from hd 9 _ (by simp) rfl)
                  show wpOp Try.prog _ _ 10 K (⟨#[t 0, .pointer (some ⟨w.heap.size, 0, none⟩), .pointer (some ⟨(w.heap.size + 1), 0, none⟩), .pointer (some ⟨D, 0, none⟩), .pointer (some ⟨(D + 1), 0, none⟩), .pointer (some ⟨(D + 1 + 1), 0, none⟩), t 6, t 7, .int .i64 (flW Y : Int), .int .i64 (k : Int), .slice (some ⟨lb, lo, none⟩) L.length lc, t 11, t 12, t 13, t 14, t 15, t 16, t 17, t 18, t 19, t 20, t 21, t 22, t 23, t 24, t 25, t 26, t 27, t 28, t 29, t 30, t 31, t 32, t 33, t 34, t 35, t 36, t 37, t 38, t 39, t 40, t 41, r 42, r 43, r 44, r 45, r 46, r 47, r 48, r 49, r 50, r 51, r 52, x 0, x 1, x 2, x 3, x 4, x 5, x 6, .int .i64 (m : Int), x 8, .int .i64 (L.length : Int), x 10, x 11, x 12, x 13, r 67, r 68, r 69, r 70, r 71, r 72, r 73, r 74, r 75, r 76, r 77, r 78, r 79, r 80, r 81, r 82, r 83, r 84, r 85, undef], []⟩ : Act) v
                  refine wpOp_step rfl (fun K' hK' => ?_)
                  go_simp
                  exact hK' _ _ (hK _ _ (Below.refl _ _) (at_of rfl (rfl)))
                · obtain ⟨x, rfl⟩ := upd_of (show x 2 = .slice (some ⟨lb, lo, none⟩) L.length lc from hd 2 _ (by simp) rfl)
                  obtain ⟨x, rfl⟩ := upd_of (show x 10 = .int .i64 ((m : Int) % (L.length : Int)) from hd 10 _ (by simp) rfl)
                  show wpOp Try.prog _ _ 11 K (⟨#[t 0, .pointer (some ⟨w.heap.size, 0, none⟩), .pointer (some ⟨(w.heap.size + 1), 0, none⟩), .pointer (some ⟨D, 0, none⟩), .pointer (some ⟨(D + 1), 0, none⟩), .pointer (some ⟨(D + 1 + 1), 0, none⟩), t 6, t 7, .int .i64 (flW Y : Int), .int .i64 (k : Int), .slice (some ⟨lb, lo, none⟩) L.length lc, t 11, t 12, t 13, t 14, t 15, t 16, t 17, t 18, t 19, t 20, t 21, t 22, t 23, t 24, t 25, t 26, t 27, t 28, t 29, t 30, t 31, t 32, t 33, t 34, t 35, t 36, t 37, t 38, t 39, t 40, t 41, r 42, r 43, r 44, r 45, r 46, r 47, r 48, r 49, r 50, r 51, r 52, x 0, x 1, .slice (some ⟨lb, lo, none⟩) L.length lc, x 3, x 4, x 5, x 6, x 7, x 8, x 9, .int .i64 ((m : Int) % (L.length : Int)), x 11, x 12, x 13, r 67, r 68, r 69, r 70, r 71, r 72, r 73, r 74, r 75, r 76, r 77, r 78, r 79, r 80, r 81, r 82, r 83, r 84, r 85, undef], []⟩ : Act) v
                  refine wpOp_step rfl (fun K' hK' => ?_)
                  go_simp
                  exact hK' _ _ (hK _ _ (Below.refl _ _) (at_of rfl (rfl)))
                · obtain ⟨x, rfl⟩ := upd_of (show x 11 = .pointer (some ⟨lb, lo + m % L.length, none⟩) from hd 11 _ (by simp) rfl)
                  show wpOp Try.prog _ _ 12 K (⟨#[t 0, .pointer (some ⟨w.heap.size, 0, none⟩), .pointer (some ⟨(w.heap.size + 1), 0, none⟩), .pointer (some ⟨D, 0, none⟩), .pointer (some ⟨(D + 1), 0, none⟩), .pointer (some ⟨(D + 1 + 1), 0, none⟩), t 6, t 7, .int .i64 (flW Y : Int), .int .i64 (k : Int), .slice (some ⟨lb, lo, none⟩) L.length lc, t 11, t 12, t 13, t 14, t 15, t 16, t 17, t 18, t 19, t 20, t 21, t 22, t 23, t 24, t 25, t 26, t 27, t 28, t 29, t 30, t 31, t 32, t 33, t 34, t 35, t 36, t 37, t 38, t 39, t 40, t 41, r 42, r 43, r 44, r 45, r 46, r 47, r 48, r 49, r 50, r 51, r 52, x 0, x 1, x 2, x 3, x 4, x 5, x 6, x 7, x 8, x 9, x 10, .pointer (some ⟨lb, lo + m % L.length, none⟩), x 12, x 13, r 67, r 68, r 69, r 70, r 71, r 72, r 73, r 74, r 75, r 76, r 77, r 78, r 79, r 80, r 81, r 82, r 83, r 84, r 85, undef], []⟩ : Act) v
                  refine wpOp_step rfl (fun K' hK' => ?_)
                  have q := gv.keep hcx
                  go_simp
                  exact hK' _ _ (hK _ _ (Below.refl _ _) (at_of rfl (rfl)))
                · obtain ⟨x, rfl⟩ := upd_of (show x 12 = .int .i64 xv from hd 12 _ (by simp) rfl)
                  show wpOp Try.prog _ _ 13 K (⟨#[t 0, .pointer (some ⟨w.heap.size, 0, none⟩), .pointer (some ⟨(w.heap.size + 1), 0, none⟩), .pointer (some ⟨D, 0, none⟩), .pointer (some ⟨(D + 1), 0, none⟩), .pointer (some ⟨(D + 1 + 1), 0, none⟩), t 6, t 7, .int .i64 (flW Y : Int), .int .i64 (k : Int), .slice (some ⟨lb, lo, none⟩) L.length lc, t 11, t 12, t 13, t 14, t 15, t 16, t 17, t 18, t 19, t 20, t 21, t 22, t 23, t 24, t 25, t 26, t 27, t 28, t 29, t 30, t 31, t 32, t 33, t 34, t 35, t 36, t 37, t 38, t 39, t 40, t 41, r 42, r 43, r 44, r 45, r 46, r 47, r 48, r 49, r 50, r 51, r 52, x 0, x 1, x 2, x 3, x 4, x 5, x 6, x 7, x 8, x 9, x 10, x 11, .int .i64 xv, x 13, r 67, r 68, r 69, r 70, r 71, r 72, r 73, r 74, r 75, r 76, r 77, r 78, r 79, r 80, r 81, r 82, r 83, r 84, r 85, undef], []⟩ : Act) v
                  refine wpOp_step rfl (fun K' hK' => ?_)
                  go_simp
                  have hg := Gr.al v (.cells (List.toArray [.int .i64 xv]) 3)
                  exact hK' _ _ (hK _ _ hg (at_of rfl (⟨v.heap.size, rfl, Own.new v [.int .i64 xv] 3 v.heap.size rfl⟩)))
              case fin13 =>
                rintro x v gv hd
                obtain ⟨x, rfl⟩ := upd_of (show x 1 = pv from hd 1 _ (by omega) rfl)
                obtain ⟨b6, e13, ow6⟩ := hd 13 _ (by omega) rfl
                obtain ⟨x, rfl⟩ := upd_of (show x 13 = .slice (some ⟨b6, 0, none⟩) 1 1 from e13)
                clear hd
                show wpList Try.prog _ _ (List.drop 14 _) (⟨#[t 0, .pointer (some ⟨w.heap.size, 0, none⟩), .pointer (some ⟨(w.heap.size + 1), 0, none⟩), .pointer (some ⟨D, 0, none⟩), .pointer (some ⟨(D + 1), 0, none⟩), .pointer (some ⟨(D + 1 + 1), 0, none⟩), t 6, t 7, .int .i64 (flW Y : Int), .int .i64 (k : Int), .slice (some ⟨lb, lo, none⟩) L.length lc, t 11, t 12, t 13, t 14, t 15, t 16, t 17, t 18, t 19, t 20, t 21, t 22, t 23, t 24, t 25, t 26, t 27, t 28, t 29, t 30, t 31, t 32, t 33, t 34, t 35, t 36, t 37, t 38, t 39, t 40, t 41, r 42, r 43, r 44, r 45, r 46, r 47, r 48, r 49, r 50, r 51, r 52, x 0, pv, x 2, x 3, x 4, x 5, x 6, x 7, x 8, x 9, x 10, x 11, x 12, .slice (some ⟨b6, 0, none⟩) 1 1, r 67, r 68, r 69, r 70, r 71, r 72, r 73, r 74, r 75, r 76, r 77, r 78, r 79, r 80, r 81, r 82, r 83, r 84, r 85, undef], []⟩ : Act) v
                simp only [List.drop_succ_cons, List.drop_zero]
                have gvs := gv.size
                have hgv : H1 ≤ v.heap.size := by omega
                have hoA := owns_keep wp gv
                have hoB := owns_keep wq' gv
                have HLo := Lib.hid wp.lt
                have HLq := Lib.hid wq'.lt
                clear hz hz2 hi0 hi1 htm hwk hcx
                go_upto_region 14 with (at_builtin; refine wpList_append_lies _ rfl _ _ 33 rfl H1 3 i0 _ 1 8 Try.underlying33 hi hz0 hz1 hz2 rfl (by decide) pv _ _ rfl hoA ⟨b6, 0, none⟩ 1 1 ([xv].map (fun n => Value.int .i64 n)) rfl rfl ow6.news (ints_one _) (by decide) (by unfold maxLen; omega) (by omega) (by omega) _ rfl ?_; intro gb cap w6 hown4 hgr4 hat4 hlt4; have hM6 := (hM.keep gv).grown HMP.out hgr4 (fun r e => by have := HLo.out r e; omega); have o46 := (o4.keep gv).grownRow hgr4 (fun r e => by have := HLo.out r e; omega); have o56 := (o5.keep gv).grownRow hgr4 (fun r e => by have := HLo.out r e; omega); have r06 := (r0.grow gv).grown hgr4 (fun r b off e ea => by have := HLo.out r e; have := HA0.out b off ea; omega); have r16 := (r1.grow gv).grown hgr4 (fun r b off e ea => by have := HLo.out r e; have := HA1.out b off ea; omega); have wo6 := hoB.kept hgr4 (by (cases hpo : qv.ownBlock with | none => exact .inl rfl | some r => exact .inr (fun e => HD.out r e.symm hpo))); have hge6 := Nat.le_trans hgv hgr4.size; (obtain ⟨t0, t1⟩ := o46.1.c2); have z0 := o46.2 0; have z1 := o46.2 1)
                have hlH : ∀ r, qv.ownBlock = some r → r < v.heap.size := fun r e => by have := HLq.out r e; omega
                have hdis' : ∀ r, (Value.slice (some ⟨gb, 0, none⟩) (k + 1) cap).ownBlock = some r → qv.ownBlock ≠ some r := by
                  intro r e e'
                  have e2 : gb = r := by simpa [Value.ownBlock] using e
                  subst e2
                  rcases hat4 with h | h
                  · exact HD.out _ h e'
                  · have := hlH _ e'
                    omega
                refine wp_abs (fun V => MkS w [.slice pa P.length pc, .slice fa F.length fc, .slice ya Y.length yc] D sa sg (storeWP P) (storeWF F) sc gc V ∧ H1 ≤ V.heap.size ∧ Own V (D + 1) [(Value.slice (some ⟨gb, 0, none⟩) (k + 1) cap), qv] ∧ Own V (D + 1 + 1) [.slice a0 (kindsW P 1 (npW P.length)).length c0, .slice a1 (kindsW P 2 (npW P.length)).length c1] ∧ IRow V a0 (kindsW P 1 (npW P.length)) ∧ IRow V a1 (kindsW P 2 (npW P.length)) ∧
                  V.ownsRow H1 3 1 (Value.slice (some ⟨gb, 0, none⟩) (k + 1) cap) (k + 1) (((makeWP P Y).take ((k + 1))).flatMap encI) ∧ V.ownsRow H1 3 1 qv (k / 2) (((makeWF F Y).take (k / 2)).flatMap encI) ∧ (∀ r, (Value.slice (some ⟨gb, 0, none⟩) (k + 1) cap).ownBlock = some r → qv.ownBlock ≠ some r)) ⟨hM6.set HMP.out (by omega) _ _, by simpa using hge6, o46.set (i := 0) (by simp), o56.other (by omega), r06.setAt (fun b off e => by have := HA0.out b off e; omega) _ _, r16.setAt (fun b off e => by have := HA1.out b off e; omega) _ _, ?_, owns_other wo6 (by omega), hdis'⟩ ?_
                · rw [List.take_add_one, HPK.out, Option.toList_some, flat_snoc]
                  exact owns_other hown4 (by omega)
                clear hM6 hge6 o46 o56 r06 r16 wo6 hown4 hgr4 hat4 hlt4 hlH hdis' t0 t1 z0 z1 hM hge o4 o5 r0 r1 wp wq' hoA hoB HLo HLq HD ow6 hgv
                generalize (Value.slice (some ⟨gb, 0, none⟩) (k + 1) cap) = pv2
                rintro V ⟨hM, hge, o4, o5, r0, r1, wp, wq', hdis⟩
                by_cases he : k % 2 = 0
                · have ht : ((k : Int)).tmod 2 = 0 := by rw [Int.tmod_eq_emod_of_nonneg (by omega)]; omega
                  have hE := Lib.hid (show (k + 1) / 2 = k / 2 by omega)
                  clear he
                  go_wp2
                  go_roundw
                  case rel => exact Lib.hid ⟨k + 1, pv2, qv, by omega, by go_num, hM, hge, o4, o5, r0, r1, wp, by rw [hE.out]; exact wq', hdis⟩
                  case measure => simp [intOf]; omega
                · have ht : ((k : Int)).tmod 2 = 1 := by rw [Int.tmod_eq_emod_of_nonneg (by omega)]; omega
                  have hj : k / 2 < flW Y := by omega
                  have hpk := makeWF_at (F := F) hj
                  rw [show 2 * (k / 2) + 1 + 6 = k + 6 by omega] at hpk
                  obtain ⟨mb0, mb1⟩ := byteL_bd HY.out (k + 6)
                  obtain ⟨m2, hm⟩ : ∃ m2 : Nat, byteL Y (k + 6) = (m2 : Int) := ⟨_, (Int.toNat_of_nonneg mb0).symm⟩
                  have hB : ∀ v, Gr w v → Calls Try.prog 24 #[.slice ya Y.length yc, .int .i64 ((k : Int) + 6)] v fun e v' => e = .returned (.int .i64 (m2 : Int)) ∧ Gr v v' := fun v g => by
                    have h := pubByte_any Y HY.out (k + 6) (by omega) ya yc v (ry.grow g)
                    rw [show (((k + 6 : Nat)) : Int) = (k : Int) + 6 from by omega, hm] at h
                    exact h.mono fun e v' ⟨h1, h2⟩ => ⟨h1, h2 ▸ Below.refl _ _⟩
                  rw [hm, Int.toNat_natCast] at hpk
                  have hlF := HLF.out
                  have exv : ((m2 % nfW F.length : Nat) : Int) = (m2 : Int) % ((storeWF F).length : Int) := by rw [hlF]; simp
                  rw [exv] at hpk
                  have HPK2 := Lib.hid hpk
                  have HB2 := Lib.hid hB
                  have HD := Lib.hid hdis
                  have hE := Lib.hid (show (k + 1) / 2 = k / 2 + 1 by omega)
                  have hz : (((storeWF F).length : Int) == 0) = false := by rw [beq_eq_false_iff_ne]; omega
                  have hz2 : ¬ ((storeWF F).length : Int) = 0 := by omega
                  have hLn2 : ¬ storeWF F = [] := by intro e; rw [e] at hlF; simp at hlF; omega
                  clear hm hpk hB hdis mb0 mb1 exv hlF he
                  have htm : ((m2 : Int)).tmod ((storeWF F).length : Int) = (m2 : Int) % ((storeWF F).length : Int) := Int.tmod_eq_emod_of_nonneg (by omega)
                  have hwk : IntKind.i64.wrap ((k : Int) + 6) = (k : Int) + 6 := IntWalk.i64_in _ (by omega)
                  go_upto_region 15 with fail
                  refine (show (∀ r2 : Nat → Value, Code.wp Try.prog _ _ ⟨#[t 0, .pointer (some ⟨w.heap.size, 0, none⟩), .pointer (some ⟨(w.heap.size + 1), 0, none⟩), .pointer (some ⟨D, 0, none⟩), .pointer (some ⟨(D + 1), 0, none⟩), .pointer (some ⟨(D + 1 + 1), 0, none⟩), t 6, t 7, .int .i64 (flW Y : Int), .int .i64 (k : Int), r2 10, t 11, t 12, t 13, t 14, t 15, t 16, t 17, t 18, t 19, t 20, t 21, t 22, t 23, t 24, t 25, t 26, t 27, t 28, t 29, t 30, t 31, t 32, t 33, t 34, t 35, t 36, t 37, t 38, t 39, t 40, t 41, r2 42, r2 43, r2 44, r2 45, r2 46, r2 47, r2 48, r2 49, r2 50, r2 51, r2 52, r2 53, r2 54, r2 55, r2 56, r2 57, r2 58, r2 59, r2 60, r2 61, r2 62, r2 63, r2 64, r2 65, r2 66, r2 67, r2 68, r2 69, r2 70, r2 71, r2 72, r2 73, r2 74, r2 75, r2 76, r2 77, r2 78, r2 79, r2 80, r2 81, r2 82, r2 83, r2 84, r2 85, undef], []⟩ _) → _ from fun h => h ((fun l : List Value => fun i => l.getD i undef) [undef, undef, undef, undef, undef, undef, undef, undef, undef, undef, _, undef, undef, undef, undef, undef, undef, undef, undef, undef, undef, undef, undef, undef, undef, undef, undef, undef, undef, undef, undef, undef, undef, undef, undef, undef, undef, undef, undef, undef, undef, undef, _, _, _, _, _, _, _, _, _, _, _, _, _, _, _, _, _, _, _, _, _, _, _, _, _, _, _, _, _, _, _, _, _, _, _, _, _, _, _, _, _, _, _, _])) ?_
                  intro r2
                  dsimp only
                  refine wp_region_facts 12 [(1, 0), (3, 2), (5, 4), (6, 3), (6, 5), (8, 7), (9, 8), (10, 6), (10, 9), (11, 10)] (fun x => ⟨#[t 0, .pointer (some ⟨w.heap.size, 0, none⟩), .pointer (some ⟨(w.heap.size + 1), 0, none⟩), .pointer (some ⟨D, 0, none⟩), .pointer (some ⟨(D + 1), 0, none⟩), .pointer (some ⟨(D + 1 + 1), 0, none⟩), t 6, t 7, .int .i64 (flW Y : Int), .int .i64 (k : Int), r2 10, t 11, t 12, t 13, t 14, t 15, t 16, t 17, t 18, t 19, t 20, t 21, t 22, t 23, t 24, t 25, t 26, t 27, t 28, t 29, t 30, t 31, t 32, t 33, t 34, t 35, t 36, t 37, t 38, t 39, t 40, t 41, r2 42, r2 43, r2 44, r2 45, r2 46, r2 47, r2 48, r2 49, r2 50, r2 51, r2 52, r2 53, r2 54, r2 55, r2 56, r2 57, r2 58, r2 59, r2 60, r2 61, r2 62, r2 63, r2 64, r2 65, r2 66, r2 67, r2 68, r2 69, r2 70, r2 71, x 0, x 1, x 2, x 3, x 4, x 5, x 6, x 7, x 8, x 9, x 10, x 11, r2 84, r2 85, undef], []⟩) (fun i => [r2 72, r2 73, r2 74, r2 75, r2 76, r2 77, r2 78, r2 79, r2 80, r2 81, r2 82, r2 83].getD i undef) [fun _ x => x = .pointer (some ⟨(D + 1), 1, none⟩), fun _ x => x = qv, fun _ x => x = .pointer (some ⟨w.heap.size, 2, none⟩), fun _ x => x = .slice ya Y.length yc, fun _ x => x = .int .i64 (k : Int), fun _ x => x = .int .i64 ((k : Int) + 6), fun _ x => x = .int .i64 (m2 : Int), fun _ x => x = .pointer (some ⟨D, 1, none⟩), fun _ x => x = .slice sg (storeWF F).length gc, fun _ x => x = .int .i64 ((storeWF F).length : Int), fun _ x => x = .int .i64 ((m2 : Int) % ((storeWF F).length : Int)), fun v x => ∃ b, x = .slice (some ⟨b, 0, none⟩) 1 1 ∧ Own v b [.int .i64 ((m2 : Int) % ((storeWF F).length : Int))]] (by rfl) (by kernel_rfl) (by kernel_rfl) (by kernel_rfl) (stays_cons (Stays.eq _) (stays_cons (Stays.eq _) (stays_cons (Stays.eq _) (stays_cons (Stays.eq _) (stays_cons (Stays.eq _) (stays_cons (Stays.eq _) (stays_cons (Stays.eq _) (stays_cons (Stays.eq _) (stays_cons (Stays.eq _) (stays_cons (Stays.eq _) (stays_cons (Stays.eq _) (stays_cons ((show Stays (fun v x => ∃ b, x = .slice (some ⟨b, 0, none⟩) 1 1 ∧ Own v b [.int .i64 ((m2 : Int) % ((storeWF F).length : Int))]) from fun v v' x g ⟨b, e, o⟩ => ⟨b, e, o.keep g⟩)) stays_nil)))))))))))) ?step15 ?fin15
                  case step15 =>
                    rintro i hi x v gv hd K hK
                    have hi8 : i = 0 ∨ i = 1 ∨ i = 2 ∨ i = 3 ∨ i = 4 ∨ i = 5 ∨ i = 6 ∨ i = 7 ∨ i = 8 ∨ i = 9 ∨ i = 10 ∨ i = 11 := by omega
                    rcases hi8 with rfl | rfl | rfl | rfl | rfl | rfl | rfl | rfl | rfl | rfl | rfl | rfl
                    · show wpOp Try.prog _ _ 0 K (⟨#[t 0, .pointer (some ⟨w.heap.size, 0, none⟩), .pointer (some ⟨(w.heap.size + 1), 0, none⟩), .pointer (some ⟨D, 0, none⟩), .pointer (some ⟨(D + 1), 0, none⟩), .pointer (some ⟨(D + 1 + 1), 0, none⟩), t 6, t 7, .int .i64 (flW Y : Int), .int .i64 (k : Int), r2 10, t 11, t 12, t 13, t 14, t 15, t 16, t 17, t 18, t 19, t 20, t 21, t 22, t 23, t 24, t 25, t 26, t 27, t 28, t 29, t 30, t 31, t 32, t 33, t 34, t 35, t 36, t 37, t 38, t 39, t 40, t 41, r2 42, r2 43, r2 44, r2 45, r2 46, r2 47, r2 48, r2 49, r2 50, r2 51, r2 52, r2 53, r2 54, r2 55, r2 56, r2 57, r2 58, r2 59, r2 60, r2 61, r2 62, r2 63, r2 64, r2 65, r2 66, r2 67, r2 68, r2 69, r2 70, r2 71, x 0, x 1, x 2, x 3, x 4, x 5, x 6, x 7, x 8, x 9, x 10, x 11, r2 84, r2 85, undef], []⟩ : Act) v
                      refine wpOp_step rfl (fun K' hK' => ?_)
                      go_simp
                      exact hK' _ _ (hK _ _ (Below.refl _ _) (at_of rfl (rfl)))
                    · obtain ⟨x, rfl⟩ := upd_of (show x 0 = .pointer (some ⟨(D + 1), 1, none⟩) from hd 0 _ (by simp) rfl)
                      show wpOp Try.prog _ _ 1 K (⟨#[t 0, .pointer (some ⟨w.heap.size, 0, none⟩), .pointer (some ⟨(w.heap.size + 1), 0, none⟩), .pointer (some ⟨D, 0, none⟩), .pointer (some ⟨(D + 1), 0, none⟩), .pointer (some ⟨(D + 1 + 1), 0, none⟩), t 6, t 7, .int .i64 (flW Y : Int), .int .i64 (k : Int), r2 10, t 11, t 12, t 13, t 14, t 15, t 16, t 17, t 18, t 19, t 20, t 21, t 22, t 23, t 24, t 25, t 26, t 27, t 28, t 29, t 30, t 31, t 32, t 33, t 34, t 35, t 36, t 37, t 38, t 39, t 40, t 41, r2 42, r2 43, r2 44, r2 45, r2 46, r2 47, r2 48, r2 49, r2 50, r2 51, r2 52, r2 53, r2 54, r2 55, r2 56, r2 57, r2 58, r2 59, r2 60, r2 61, r2 62, r2 63, r2 64, r2 65, r2 66, r2 67, r2 68, r2 69, r2 70, r2 71, .pointer (some ⟨(D + 1), 1, none⟩), x 1, x 2, x 3, x 4, x 5, x 6, x 7, x 8, x 9, x 10, x 11, r2 84, r2 85, undef], []⟩ : Act) v
                      refine wpOp_step rfl (fun K' hK' => ?_)
                      have q := (o4.1.keep gv).2 1 _ rfl
                      go_simp
                      exact hK' _ _ (hK _ _ (Below.refl _ _) (at_of rfl (rfl)))
                    · show wpOp Try.prog _ _ 2 K (⟨#[t 0, .pointer (some ⟨w.heap.size, 0, none⟩), .pointer (some ⟨(w.heap.size + 1), 0, none⟩), .pointer (some ⟨D, 0, none⟩), .pointer (some ⟨(D + 1), 0, none⟩), .pointer (some ⟨(D + 1 + 1), 0, none⟩), t 6, t 7, .int .i64 (flW Y : Int), .int .i64 (k : Int), r2 10, t 11, t 12, t 13, t 14, t 15, t 16, t 17, t 18, t 19, t 20, t 21, t 22, t 23, t 24, t 25, t 26, t 27, t 28, t 29, t 30, t 31, t 32, t 33, t 34, t 35, t 36, t 37, t 38, t 39, t 40, t 41, r2 42, r2 43, r2 44, r2 45, r2 46, r2 47, r2 48, r2 49, r2 50, r2 51, r2 52, r2 53, r2 54, r2 55, r2 56, r2 57, r2 58, r2 59, r2 60, r2 61, r2 62, r2 63, r2 64, r2 65, r2 66, r2 67, r2 68, r2 69, r2 70, r2 71, x 0, x 1, x 2, x 3, x 4, x 5, x 6, x 7, x 8, x 9, x 10, x 11, r2 84, r2 85, undef], []⟩ : Act) v
                      refine wpOp_step rfl (fun K' hK' => ?_)
                      go_simp
                      exact hK' _ _ (hK _ _ (Below.refl _ _) (at_of rfl (rfl)))
                    · obtain ⟨x, rfl⟩ := upd_of (show x 2 = .pointer (some ⟨w.heap.size, 2, none⟩) from hd 2 _ (by simp) rfl)
                      show wpOp Try.prog _ _ 3 K (⟨#[t 0, .pointer (some ⟨w.heap.size, 0, none⟩), .pointer (some ⟨(w.heap.size + 1), 0, none⟩), .pointer (some ⟨D, 0, none⟩), .pointer (some ⟨(D + 1), 0, none⟩), .pointer (some ⟨(D + 1 + 1), 0, none⟩), t 6, t 7, .int .i64 (flW Y : Int), .int .i64 (k : Int), r2 10, t 11, t 12, t 13, t 14, t 15, t 16, t 17, t 18, t 19, t 20, t 21, t 22, t 23, t 24, t 25, t 26, t 27, t 28, t 29, t 30, t 31, t 32, t 33, t 34, t 35, t 36, t 37, t 38, t 39, t 40, t 41, r2 42, r2 43, r2 44, r2 45, r2 46, r2 47, r2 48, r2 49, r2 50, r2 51, r2 52, r2 53, r2 54, r2 55, r2 56, r2 57, r2 58, r2 59, r2 60, r2 61, r2 62, r2 63, r2 64, r2 65, r2 66, r2 67, r2 68, r2 69, r2 70, r2 71, x 0, x 1, .pointer (some ⟨w.heap.size, 2, none⟩), x 3, x 4, x 5, x 6, x 7, x 8, x 9, x 10, x 11, r2 84, r2 85, undef], []⟩ : Act) v
                      refine wpOp_step rfl (fun K' hK' => ?_)
                      have q := (hM.hx.keep gv).2 2 _ rfl
                      go_simp
                      exact hK' _ _ (hK _ _ (Below.refl _ _) (at_of rfl (rfl)))
                    · show wpOp Try.prog _ _ 4 K (⟨#[t 0, .pointer (some ⟨w.heap.size, 0, none⟩), .pointer (some ⟨(w.heap.size + 1), 0, none⟩), .pointer (some ⟨D, 0, none⟩), .pointer (some ⟨(D + 1), 0, none⟩), .pointer (some ⟨(D + 1 + 1), 0, none⟩), t 6, t 7, .int .i64 (flW Y : Int), .int .i64 (k : Int), r2 10, t 11, t 12, t 13, t 14, t 15, t 16, t 17, t 18, t 19, t 20, t 21, t 22, t 23, t 24, t 25, t 26, t 27, t 28, t 29, t 30, t 31, t 32, t 33, t 34, t 35, t 36, t 37, t 38, t 39, t 40, t 41, r2 42, r2 43, r2 44, r2 45, r2 46, r2 47, r2 48, r2 49, r2 50, r2 51, r2 52, r2 53, r2 54, r2 55, r2 56, r2 57, r2 58, r2 59, r2 60, r2 61, r2 62, r2 63, r2 64, r2 65, r2 66, r2 67, r2 68, r2 69, r2 70, r2 71, x 0, x 1, x 2, x 3, x 4, x 5, x 6, x 7, x 8, x 9, x 10, x 11, r2 84, r2 85, undef], []⟩ : Act) v
                      refine wpOp_step rfl (fun K' hK' => ?_)
                      go_simp
                      exact hK' _ _ (hK _ _ (Below.refl _ _) (at_of rfl (rfl)))
                    · obtain ⟨x, rfl⟩ := upd_of (show x 4 = .int .i64 (k : Int) from hd 4 _ (by simp) rfl)
                      show wpOp Try.prog _ _ 5 K (⟨#[t 0, .pointer (some ⟨w.heap.size, 0, none⟩), .pointer (some ⟨(w.heap.size + 1), 0, none⟩), .pointer (some ⟨D, 0, none⟩), .pointer (some ⟨(D + 1), 0, none⟩), .pointer (some ⟨(D + 1 + 1), 0, none⟩), t 6, t 7, .int .i64 (flW Y : Int), .int .i64 (k : Int), r2 10, t 11, t 12, t 13, t 14, t 15, t 16, t 17, t 18, t 19, t 20, t 21, t 22, t 23, t 24, t 25, t 26, t 27, t 28, t 29, t 30, t 31, t 32, t 33, t 34, t 35, t 36, t 37, t 38, t 39, t 40, t 41, r2 42, r2 43, r2 44, r2 45, r2 46, r2 47, r2 48, r2 49, r2 50, r2 51, r2 52, r2 53, r2 54, r2 55, r2 56, r2 57, r2 58, r2 59, r2 60, r2 61, r2 62, r2 63, r2 64, r2 65, r2 66, r2 67, r2 68, r2 69, r2 70, r2 71, x 0, x 1, x 2, x 3, .int .i64 (k : Int), x 5, x 6, x 7, x 8, x 9, x 10, x 11, r2 84, r2 85, undef], []⟩ : Act) v
                      refine wpOp_step rfl (fun K' hK' => ?_)
                      go_simp
                      exact hK' _ _ (hK _ _ (Below.refl _ _) (at_of rfl (rfl)))
                    · obtain ⟨x, rfl⟩ := upd_of (show x 3 = .slice ya Y.length yc from hd 3 _ (by simp) rfl)
                      obtain ⟨x, rfl⟩ := upd_of (show x 5 = .int .i64 ((k : Int) + 6) from hd 5 _ (by simp) rfl)
                      show wpOp Try.prog _ _ 6 K (⟨#[t 0, .pointer (some ⟨w.heap.size, 0, none⟩), .pointer (some ⟨(w.heap.size + 1), 0, none⟩), .pointer (some ⟨D, 0, none⟩), .pointer (some ⟨(D + 1), 0, none⟩), .pointer (some ⟨(D + 1 + 1), 0, none⟩), t 6, t 7, .int .i64 (flW Y : Int), .int .i64 (k : Int), r2 10, t 11, t 12, t 13, t 14, t 15, t 16, t 17, t 18, t 19, t 20, t 21, t 22, t 23, t 24, t 25, t 26, t 27, t 28, t 29, t 30, t 31, t 32, t 33, t 34, t 35, t 36, t 37, t 38, t 39, t 40, t 41, r2 42, r2 43, r2 44, r2 45, r2 46, r2 47, r2 48, r2 49, r2 50, r2 51, r2 52, r2 53, r2 54, r2 55, r2 56, r2 57, r2 58, r2 59, r2 60, r2 61, r2 62, r2 63, r2 64, r2 65, r2 66, r2 67, r2 68, r2 69, r2 70, r2 71, x 0, x 1, x 2, .slice ya Y.length yc, x 4, .int .i64 ((k : Int) + 6), x 6, x 7, x 8, x 9, x 10, x 11, r2 84, r2 85, undef], []⟩ : Act) v
                      refine wpOp_step rfl (fun K' hK' => ?_)
                      go_simp
                      refine (HB2.out v (hM.gr.tr gv)).mono ?_
                      rintro e v' ⟨rfl, hg⟩
                      exact hK' _ _ (hK _ _ hg (at_of rfl (rfl)))
                    · show wpOp Try.prog _ _ 7 K (⟨#[t 0, .pointer (some ⟨w.heap.size, 0, none⟩), .pointer (some ⟨(w.heap.size + 1), 0, none⟩), .pointer (some ⟨D, 0, none⟩), .pointer (some ⟨(D + 1), 0, none⟩), .pointer (some ⟨(D + 1 + 1), 0, none⟩), t 6, t 7, .int .i64 (flW Y : Int), .int .i64 (k : Int), r2 10, t 11, t 12, t 13, t 14, t 15, t 16, t 17, t 18, t 19, t 20, t 21, t 22, t 23, t 24, t 25, t 26, t 27, t 28, t 29, t 30, t 31, t 32, t 33, t 34, t 35, t 36, t 37, t 38, t 39, t 40, t 41, r2 42, r2 43, r2 44, r2 45, r2 46, r2 47, r2 48, r2 49, r2 50, r2 51, r2 52, r2 53, r2 54, r2 55, r2 56, r2 57, r2 58, r2 59, r2 60, r2 61, r2 62, r2 63, r2 64, r2 65, r2 66, r2 67, r2 68, r2 69, r2 70, r2 71, x 0, x 1, x 2, x 3, x 4, x 5, x 6, x 7, x 8, x 9, x 10, x 11, r2 84, r2 85, undef], []⟩ : Act) v
                      refine wpOp_step rfl (fun K' hK' => ?_)
                      go_simp
                      exact hK' _ _ (hK _ _ (Below.refl _ _) (at_of rfl (rfl)))
                    · obtain ⟨x, rfl⟩ := upd_of (show x 7 = .pointer (some ⟨D, 1, none⟩) from hd 7 _ (by simp) rfl)
                      show wpOp Try.prog _ _ 8 K (⟨#[t 0, .pointer (some ⟨w.heap.size, 0, none⟩), .pointer (some ⟨(w.heap.size + 1), 0, none⟩), .pointer (some ⟨D, 0, none⟩), .pointer (some ⟨(D + 1), 0, none⟩), .pointer (some ⟨(D + 1 + 1), 0, none⟩), t 6, t 7, .int .i64 (flW Y : Int), .int .i64 (k : Int), r2 10, t 11, t 12, t 13, t 14, t 15, t 16, t 17, t 18, t 19, t 20, t 21, t 22, t 23, t 24, t 25, t 26, t 27, t 28, t 29, t 30, t 31, t 32, t 33, t 34, t 35, t 36, t 37, t 38, t 39, t 40, t 41, r2 42, r2 43, r2 44, r2 45, r2 46, r2 47, r2 48, r2 49, r2 50, r2 51, r2 52, r2 53, r2 54, r2 55, r2 56, r2 57, r2 58, r2 59, r2 60, r2 61, r2 62, r2 63, r2 64, r2 65, r2 66, r2 67, r2 68, r2 69, r2 70, r2 71, x 0, x 1, x 2, x 3, x 4, x 5, x 6, .pointer (some ⟨D, 1, none⟩), x 8, x 9, x 10, x 11, r2 84, r2 85, undef], []⟩ : Act) v
                      refine wpOp_step rfl (fun K' hK' => ?_)
                      have q := (hM.b3.keep gv).2 1 _ rfl
                      go_simp
                      exact hK' _ _ (hK _ _ (Below.refl _ _) (at_of rfl (rfl)))
                    · obtain ⟨x, rfl⟩ := upd_of (show x 8 = .slice sg (storeWF F).length gc from hd 8 _ (by simp) rfl)
                      show wpOp Try.prog _ _ 9 K (⟨#[t 0, .pointer (some ⟨w.heap.size, 0, none⟩), .pointer (some ⟨(w.heap.size + 1), 0, none⟩), .pointer (some ⟨D, 0, none⟩), .pointer (some ⟨(D + 1), 0, none⟩), .pointer (some ⟨(D + 1 + 1), 0, none⟩), t 6, t 7, .int .i64 (flW Y : Int), .int .i64 (k : Int), r2 10, t 11, t 12, t 13, t 14, t 15, t 16, t 17, t 18, t 19, t 20, t 21, t 22, t 23, t 24, t 25, t 26, t 27, t 28, t 29, t 30, t 31, t 32, t 33, t 34, t 35, t 36, t 37, t 38, t 39, t 40, t 41, r2 42, r2 43, r2 44, r2 45, r2 46, r2 47, r2 48, r2 49, r2 50, r2 51, r2 52, r2 53, r2 54, r2 55, r2 56, r2 57, r2 58, r2 59, r2 60, r2 61, r2 62, r2 63, r2 64, r2 65, r2 66, r2 67, r2 68, r2 69, r2 70, r2 71, x 0, x 1, x 2, x 3, x 4, x 5, x 6, x 7, .slice sg (storeWF F).length gc, x 9, x 10, x 11, r2 84, r2 85, undef], []⟩ : Act) v
                      refine wpOp_step rfl (fun K' hK' => ?_)
                      go_simp
                      exact hK' _ _ (hK _ _ (Below.refl _ _) (at_of rfl (rfl)))
                    · obtain ⟨x, rfl⟩ := upd_of (show x 6 = .int .i64 (m2 : Int) from hd 6 _ (by simp) rfl)
                      obtain ⟨x, rfl⟩ := upd_of (show x 9 = .int .i64 ((storeWF F).length : Int) from hd 9 _ (by simp) rfl)
                      show wpOp Try.prog _ _ 10 K (⟨#[t 0, .pointer (some ⟨w.heap.size, 0, none⟩), .pointer (some ⟨(w.heap.size + 1), 0, none⟩), .pointer (some ⟨D, 0, none⟩), .pointer (some ⟨(D + 1), 0, none⟩), .pointer (some ⟨(D + 1 + 1), 0, none⟩), t 6, t 7, .int .i64 (flW Y : Int), .int .i64 (k : Int), r2 10, t 11, t 12, t 13, t 14, t 15, t 16, t 17, t 18, t 19, t 20, t 21, t 22, t 23, t 24, t 25, t 26, t 27, t 28, t 29, t 30, t 31, t 32, t 33, t 34, t 35, t 36, t 37, t 38, t 39, t 40, t 41, r2 42, r2 43, r2 44, r2 45, r2 46, r2 47, r2 48, r2 49, r2 50, r2 51, r2 52, r2 53, r2 54, r2 55, r2 56, r2 57, r2 58, r2 59, r2 60, r2 61, r2 62, r2 63, r2 64, r2 65, r2 66, r2 67, r2 68, r2 69, r2 70, r2 71, x 0, x 1, x 2, x 3, x 4, x 5, .int .i64 (m2 : Int), x 7, x 8, .int .i64 ((storeWF F).length : Int), x 10, x 11, r2 84, r2 85, undef], []⟩ : Act) v
                      refine wpOp_step rfl (fun K' hK' => ?_)
                      go_simp
                      exact hK' _ _ (hK _ _ (Below.refl _ _) (at_of rfl (rfl)))
                    · obtain ⟨x, rfl⟩ := upd_of (show x 10 = .int .i64 ((m2 : Int) % ((storeWF F).length : Int)) from hd 10 _ (by simp) rfl)
                      show wpOp Try.prog _ _ 11 K (⟨#[t 0, .pointer (some ⟨w.heap.size, 0, none⟩), .pointer (some ⟨(w.heap.size + 1), 0, none⟩), .pointer (some ⟨D, 0, none⟩), .pointer (some ⟨(D + 1), 0, none⟩), .pointer (some ⟨(D + 1 + 1), 0, none⟩), t 6, t 7, .int .i64 (flW Y : Int), .int .i64 (k : Int), r2 10, t 11, t 12, t 13, t 14, t 15, t 16, t 17, t 18, t 19, t 20, t 21, t 22, t 23, t 24, t 25, t 26, t 27, t 28, t 29, t 30, t 31, t 32, t 33, t 34, t 35, t 36, t 37, t 38, t 39, t 40, t 41, r2 42, r2 43, r2 44, r2 45, r2 46, r2 47, r2 48, r2 49, r2 50, r2 51, r2 52, r2 53, r2 54, r2 55, r2 56, r2 57, r2 58, r2 59, r2 60, r2 61, r2 62, r2 63, r2 64, r2 65, r2 66, r2 67, r2 68, r2 69, r2 70, r2 71, x 0, x 1, x 2, x 3, x 4, x 5, x 6, x 7, x 8, x 9, .int .i64 ((m2 : Int) % ((storeWF F).length : Int)), x 11, r2 84, r2 85, undef], []⟩ : Act) v
                      refine wpOp_step rfl (fun K' hK' => ?_)
                      go_simp
                      have hg := Gr.al v (.cells (List.toArray [.int .i64 ((m2 : Int) % ((storeWF F).length : Int))]) 3)
                      exact hK' _ _ (hK _ _ hg (at_of rfl (⟨v.heap.size, rfl, Own.new v [.int .i64 ((m2 : Int) % ((storeWF F).length : Int))] 3 v.heap.size rfl⟩)))
                  case fin15 =>
                    rintro x v gv hd
                    obtain ⟨x, rfl⟩ := upd_of (show x 1 = qv from hd 1 _ (by omega) rfl)
                    obtain ⟨b7, e11, ow7⟩ := hd 11 _ (by omega) rfl
                    obtain ⟨x, rfl⟩ := upd_of (show x 11 = .slice (some ⟨b7, 0, none⟩) 1 1 from e11)
                    clear hd
                    show wpList Try.prog _ _ (List.drop 12 _) (⟨#[t 0, .pointer (some ⟨w.heap.size, 0, none⟩), .pointer (some ⟨(w.heap.size + 1), 0, none⟩), .pointer (some ⟨D, 0, none⟩), .pointer (some ⟨(D + 1), 0, none⟩), .pointer (some ⟨(D + 1 + 1), 0, none⟩), t 6, t 7, .int .i64 (flW Y : Int), .int .i64 (k : Int), r2 10, t 11, t 12, t 13, t 14, t 15, t 16, t 17, t 18, t 19, t 20, t 21, t 22, t 23, t 24, t 25, t 26, t 27, t 28, t 29, t 30, t 31, t 32, t 33, t 34, t 35, t 36, t 37, t 38, t 39, t 40, t 41, r2 42, r2 43, r2 44, r2 45, r2 46, r2 47, r2 48, r2 49, r2 50, r2 51, r2 52, r2 53, r2 54, r2 55, r2 56, r2 57, r2 58, r2 59, r2 60, r2 61, r2 62, r2 63, r2 64, r2 65, r2 66, r2 67, r2 68, r2 69, r2 70, r2 71, x 0, qv, x 2, x 3, x 4, x 5, x 6, x 7, x 8, x 9, x 10, .slice (some ⟨b7, 0, none⟩) 1 1, r2 84, r2 85, undef], []⟩ : Act) v
                    simp only [List.drop_succ_cons, List.drop_zero]
                    have gvs := gv.size
                    have hgv : H1 ≤ v.heap.size := by omega
                    have hoA := owns_keep wq' gv
                    have hoB := owns_keep wp gv
                    have HLo := Lib.hid wq'.lt
                    have HLq := Lib.hid wp.lt
                    clear hz hz2 htm hwk
                    go_wp2_with (at_builtin; refine wpList_append_lies _ rfl _ _ 33 rfl H1 3 i0 _ 1 8 Try.underlying33 hi hz0 hz1 hz2 rfl (by decide) qv _ _ rfl hoA ⟨b7, 0, none⟩ 1 1 ([(m2 : Int) % ((storeWF F).length : Int)].map (fun n => Value.int .i64 n)) rfl rfl ow7.news (ints_one _) (by decide) (by unfold maxLen; omega) (by omega) (by omega) _ rfl ?_; intro gb cap w6 hown4 hgr4 hat4 hlt4; have hM6 := (hM.keep gv).grown HMP.out hgr4 (fun r e => by have := HLo.out r e; omega); have o46 := (o4.keep gv).grownRow hgr4 (fun r e => by have := HLo.out r e; omega); have o56 := (o5.keep gv).grownRow hgr4 (fun r e => by have := HLo.out r e; omega); have r06 := (r0.grow gv).grown hgr4 (fun r b off e ea => by have := HLo.out r e; have := HA0.out b off ea; omega); have r16 := (r1.grow gv).grown hgr4 (fun r b off e ea => by have := HLo.out r e; have := HA1.out b off ea; omega); have wo6 := hoB.kept hgr4 (by (cases hpo : pv2.ownBlock with | none => exact .inl rfl | some r => exact .inr (fun e => HD.out r hpo e.symm))); have hge6 := Nat.le_trans hgv hgr4.size; (obtain ⟨t0, t1⟩ := o46.1.c2); have z0 := o46.2 0; have z1 := o46.2 1)
                    go_roundw
                    case rel =>
                      refine Lib.hid ⟨k + 1, pv2, _, by omega, by go_num, hM6.set HMP.out (by omega) _ _, by simpa using hge6, o46.set (i := 1) (by simp), o56.other (by omega), r06.setAt (fun b off e => by have := HA0.out b off e; omega) _ _, r16.setAt (fun b off e => by have := HA1.out b off e; omega) _ _, owns_other wo6 (by omega), ?_, ?_⟩
                      · rw [hE.out, List.take_add_one, HPK2.out, Option.toList_some, flat_snoc]
                        exact owns_other hown4 (by omega)
                      · intro r e e'
                        have e2 : gb = r := by simpa [Value.ownBlock] using e'
                        subst e2
                        rcases hat4 with h | h
                        · exact HD.out _ e h
                        · have := HLq.out _ e
                          omega
                    case measure => simp [intOf]; omega
          · obtain rfl : k = 2 * flW Y + 1 := by omega
            have dk : decide (((2 * flW Y + 1 : Nat) : Int) < 2 * (flW Y : Int) + 1) = false := by simp
            have e1 := makeWP_len P Y
            have e2 := makeWF_len F Y
            rw [List.take_of_length_le (by omega), ← e1] at wp
            rw [List.take_of_length_le (by omega), show (2 * flW Y + 1) / 2 = flW Y by omega, ← e2] at wq'
            obtain ⟨a8, c8, hv8, r8, n8⟩ := owns_row_new (enc := encI) (l := makeWP P Y) (fun _ => rfl) (by omega) wp
            obtain ⟨a9, c9, hv9, r9, n9⟩ := owns_row_new (enc := encI) (l := makeWF F Y) (fun _ => rfl) (by omega) wq'
            subst hv8
            subst hv9
            have R8 := Lib.hid r8
            have R9 := Lib.hid r9
            have N8 := Lib.hid (n8.le (show w.heap.size + 1 + 1 ≤ H1 by omega))
            have N9 := Lib.hid (n9.le (show w.heap.size + 1 + 1 ≤ H1 by omega))
            have E1 := Lib.hid e1
            clear r8 r9 n8 n9 wp wq' e1 e2 hdis
            obtain ⟨s0, s1⟩ := o4.1.c2
            obtain ⟨u0, u1⟩ := hM.or.1.c2
            have z0 := hM.or.2 0
            have z1 := hM.or.2 1
            have hgr := hM.gr
            have hor := hM.or
            go_wp2
            refine bodyPost_ret (v := .agg #[.slice a8 (makeWP P Y).length c8, .slice a9 (makeWF F Y).length c9]) (by simp [results, Try.results9, go_sem, u0, u1]) rfl ⟨a8, c8, a9, c9, rfl, (hgr.setCell (by simp) _).setCell (by simp) _, ?_, ?_, N8.out.le (by omega), N9.out.le (by omega)⟩
            · exact (R8.out.other N8.out (by omega)).other N8.out (by omega)
            · exact (R9.out.other N9.out (by omega)).other N9.out (by omega)

end Go.Proofs.Ytmioakcbgcgdhaa
