/- Contract of Made. -/
import Derived.Test.YtmioakcbgcgdhaaB4
namespace Go.Proofs.Ytmioakcbgcgdhaa
set_option linter.unusedVariables false
set_option linter.unusedSimpArgs false
open Go.RowKit

theorem Gr.drewN {w w' : World} (h : Gr w w') (n : Nat) : Gr w (w'.drewN n) := below_drewN h n

/-- The paper at place k is of the kind of its place. -/
def kindOk (ps : List Paper) (mp : List Int) (k : Nat) : Bool :=
  match mp[k]? with
  | none => true
  | some x => match ps[x.toNat]? with
    | none => false
    | some p => p.kind == kindL k

def kindsOk (ps : List Paper) (mp : List Int) : Bool := (List.range mp.length).all (kindOk ps mp)

/-- The error of a board. -/
def madeL (ps : List Paper) (fs : List Flute) (mp mf : List Int) : Int :=
  if checkL ps fs ≠ 0 then checkL ps fs else if formedL mp mf = false then 4 else if numberedL mp mf ps.length fs.length = false then 7 else if kindsOk ps mp = false then 2 else 0

theorem in_of_all {lo hi : Int} {l : List Int} (h : inB lo hi l = true) {k : Nat} {x : Int} (hx : l[k]? = some x) : lo ≤ x ∧ x ≤ hi := by
  have := List.all_eq_true.1 h x (List.mem_of_getElem? hx)
  simpa [in1] using this

theorem kindsOk_false {ps : List Paper} {mp : List Int} {k : Nat} (hk : k < mp.length) (h : kindOk ps mp k = false) : kindsOk ps mp = false := by
  unfold kindsOk
  rw [List.all_eq_false]
  exact ⟨k, by simpa using hk, by simp [h]⟩

theorem kindsOk_true {ps : List Paper} {mp : List Int} (h : ∀ j, j < mp.length → kindOk ps mp j = true) : kindsOk ps mp = true := by
  unfold kindsOk
  rw [List.all_eq_true]
  intro j hj
  exact h j (by simpa using hj)

set_option maxHeartbeats 4000000 in
theorem made_any (ps : List Paper) (fs : List Flute) (mp mf : List Int) (c : Int) (hc : madeL ps fs mp mf = c) (pa fa ma ga : Option Addr) (pc fc mc gc : Nat) (w : World) (hp : PRow w pa ps) (hf : FRow w fa fs) (hm : IRow w ma mp) (hg : IRow w ga mf) :
    Calls Try.prog 35 #[.agg #[.slice pa ps.length pc, .slice fa fs.length fc], .agg #[.slice ma mp.length mc, .slice ga mf.length gc]] w fun e w' => e = .returned (.int .i64 c) ∧ Gr w w' := by
  subst hc
  have hl1 := hp.1
  have hl2 := hf.1
  have hl3 := hm.1
  have hl4 := hg.1
  have gg := Gr.tr (Gr.al w (.cells #[.slice pa ps.length pc, .slice fa fs.length fc] 31)) (Gr.al _ (.cells #[.slice ma mp.length mc, .slice ga mf.length gc] 35))
  have hb := (Box.new w [.slice pa ps.length pc, .slice fa fs.length fc] 31 w.heap.size rfl).keep (Gr.al _ (.cells #[.slice ma mp.length mc, .slice ga mf.length gc] 35))
  have hb2 := Box.new (w.alloc (.cells #[.slice pa ps.length pc, .slice fa fs.length fc] 31)) [.slice ma mp.length mc, .slice ga mf.length gc] 35 (w.heap.size + 1) (by simp)
  have hp1 := hp.grow gg
  have hf1 := hf.grow gg
  have hm1 := hm.grow gg
  have hg1 := hg.grow gg
  by_cases e0 : checkL ps fs = 0
  case neg =>
    have E : madeL ps fs mp mf = checkL ps fs := by unfold madeL; rw [if_pos e0]
    rw [E]
    have e1 : (checkL ps fs != 0) = true := by simpa using e0
    generalize hcc : checkL ps fs = cc at *
    have Hcc := Lib.hid hcc
    clear hcc e0
    go_enter Try.func35, Try.ntmps35
    go_wp2_with (go_at_call 71; refine (check_any ps fs _ Hcc.out _ _ _ _ _ hp1 hf1).mono ?_; rintro e w1 ⟨rfl, hx⟩)
    go_ret
    exact ⟨rfl, gg.tr hx⟩
  case pos =>
    have E0 : madeL ps fs mp mf = if formedL mp mf = false then 4 else if numberedL mp mf ps.length fs.length = false then 7 else if kindsOk ps mp = false then 2 else 0 := by unfold madeL; rw [if_neg (by simp [e0])]
    have H0 := Lib.hid E0
    clear E0
    have e0' := Lib.hid e0
    clear e0
    cases c1 : formedL mp mf with
    | false =>
      have E : madeL ps fs mp mf = 4 := by rw [H0.out, if_pos c1]
      rw [E]
      have C1 := Lib.hid c1
      clear c1
      go_enter Try.func35, Try.ntmps35
      go_wp2_with fail
      refine (check_any ps fs _ e0'.out _ _ _ _ _ hp1 hf1).mono ?_
      rintro e w1 ⟨rfl, hx⟩
      replace gg := gg.tr hx
      replace hb := hb.keep hx
      replace hb2 := hb2.keep hx
      obtain ⟨q0, q1⟩ := hb.c2
      obtain ⟨q2, q3⟩ := hb2.c2
      go_wp2_with fail
      refine (formed_any mp mf _ C1.out _ _ _ _ _).mono ?_
      rintro e w2 ⟨rfl, hx2⟩
      go_wp2
      go_ret
      exact ⟨rfl, gg.tr hx2⟩
    | true =>
      have C1 := Lib.hid c1
      clear c1
      cases c2 : numberedL mp mf ps.length fs.length with
      | false =>
        have E : madeL ps fs mp mf = 7 := by rw [H0.out, if_neg (by rw [C1.out]; decide), if_pos c2]
        rw [E]
        have C2 := Lib.hid c2
        clear c2
        go_enter Try.func35, Try.ntmps35
        go_wp2_with fail
        refine (check_any ps fs _ e0'.out _ _ _ _ _ hp1 hf1).mono ?_
        rintro e w1 ⟨rfl, hx⟩
        replace gg := gg.tr hx
        replace hb := hb.keep hx
        replace hb2 := hb2.keep hx
        obtain ⟨q0, q1⟩ := hb.c2
        obtain ⟨q2, q3⟩ := hb2.c2
        go_wp2_with fail
        refine (formed_any mp mf _ C1.out _ _ _ _ _).mono ?_
        rintro e w2 ⟨rfl, hx2⟩
        replace gg := gg.tr hx2
        replace hb := hb.keep hx2
        replace hb2 := hb2.keep hx2
        obtain ⟨q0, q1⟩ := hb.c2
        obtain ⟨q2, q3⟩ := hb2.c2
        go_wp2_with fail
        refine (numbered_any mp mf _ _ (by omega) (by omega) (by omega) (by omega) _ C2.out _ _ _ _ _ ((hm1.grow hx).grow hx2) ((hg1.grow hx).grow hx2)).mono ?_
        rintro e w3 ⟨rfl, hx3⟩
        go_wp2
        go_ret
        exact ⟨rfl, gg.tr hx3⟩
      | true =>
        have C2 := Lib.hid c2
        clear c2
        have hin : inB 0 ((ps.length : Int) - 1) mp = true := by have h := C2.out; unfold numberedL at h; exact (Bool.and_eq_true _ _ ▸ h).1
        have E0 : madeL ps fs mp mf = if kindsOk ps mp = false then 2 else 0 := by rw [H0.out, if_neg (by rw [C1.out]; decide), if_neg (by rw [C2.out]; decide)]
        have Hin := Lib.hid hin
        have HE := Lib.hid E0
        clear hin E0
        go_enter Try.func35, Try.ntmps35
        go_wp2_with fail
        refine (check_any ps fs _ e0'.out _ _ _ _ _ hp1 hf1).mono ?_
        rintro e w1 ⟨rfl, hx⟩
        replace gg := gg.tr hx
        replace hb := hb.keep hx
        replace hb2 := hb2.keep hx
        obtain ⟨q0, q1⟩ := hb.c2
        obtain ⟨q2, q3⟩ := hb2.c2
        go_wp2_with fail
        refine (formed_any mp mf _ C1.out _ _ _ _ _).mono ?_
        rintro e w2 ⟨rfl, hx2⟩
        replace gg := gg.tr hx2
        replace hb := hb.keep hx2
        replace hb2 := hb2.keep hx2
        obtain ⟨q0, q1⟩ := hb.c2
        obtain ⟨q2, q3⟩ := hb2.c2
        have hm2 := (hm1.grow hx).grow hx2
        have hg2 := (hg1.grow hx).grow hx2
        have hp2 := (hp1.grow hx).grow hx2
        go_wp2_with fail
        refine (numbered_any mp mf _ _ (by omega) (by omega) (by omega) (by omega) _ C2.out _ _ _ _ _ hm2 hg2).mono ?_
        rintro e w3 ⟨rfl, hx3⟩
        replace gg := gg.tr hx3
        replace hb := hb.keep hx3
        replace hb2 := hb2.keep hx3
        obtain ⟨q0, q1⟩ := hb.c2
        obtain ⟨q2, q3⟩ := hb2.c2
        have hm3 := hm2.grow hx3
        have hp3 := hp2.grow hx3
        go_wp2
        go_loopw [28] (fun i wr => ∃ k : Nat, k ≤ mp.length ∧ i = .int .i64 k ∧ (∀ j, j < k → kindOk ps mp j = true) ∧ Gr w3 wr) (fun i wr => mp.length - (intOf i).toNat)
        case atStart => exact ⟨0, Nat.zero_le _, rfl, fun j hj => by omega, Below.refl _ _⟩
        case round =>
          obtain ⟨k, hk, rfl, hall, hG⟩ := hrel
          have Hall := Lib.hid hall
          clear hall q0 q1 q2 q3
          obtain ⟨q0, q1⟩ := (hb.keep hG).c2
          obtain ⟨q2, q3⟩ := (hb2.keep hG).c2
          by_cases hlt : k < mp.length
          · obtain ⟨x, hxk⟩ := get_of_lt hlt
            obtain ⟨hx0, hx1⟩ := in_of_all Hin.out hxk
            obtain ⟨n, rfl⟩ := Int.eq_ofNat_of_zero_le hx0
            have hn : n < ps.length := by omega
            obtain ⟨p, hpn⟩ := get_of_lt hn
            obtain ⟨b0, off0, rfl, hb0, r0⟩ := IRow.get (hm3.grow hG) hxk
            obtain ⟨b1, off1, rfl, hb1, s0, s1, s2, s3, s4, s5, s6, s7⟩ := PRow.get (hp3.grow hG) hpn
            have Hxk := Lib.hid hxk
            have Hpn := Lib.hid hpn
            clear hxk hpn
            have hnI : (n : Int) < (ps.length : Int) := by omega
            cases hk1 : (p.kind != kindL (k : Int)) with
            | true =>
              have hbad : kindOk ps mp k = false := by
                unfold kindOk
                rw [Hxk.out]
                simp only [Int.toNat_natCast, Hpn.out]
                simpa using hk1
              have hE : madeL ps fs mp mf = 2 := by rw [HE.out, if_pos (kindsOk_false hlt hbad)]
              have HE2 := Lib.hid hE
              clear hE hbad
              go_wp2
              go_quiet ((go_at_call 74; exact Calls.quiet_of_same (kindAt_any k (by omega) _)))
              go_wp2
              go_ret
              exact ⟨by rw [HE2.out]; rfl, (gg.tr hG).drewN _⟩
            | false =>
              have hgood : kindOk ps mp k = true := by
                unfold kindOk
                rw [Hxk.out]
                simp only [Int.toNat_natCast, Hpn.out]
                simpa using hk1
              have Hgood := Lib.hid hgood
              clear hgood
              go_wp2
              go_quiet ((go_at_call 74; exact Calls.quiet_of_same (kindAt_any k (by omega) _)))
              go_wp2
              go_roundw
              case rel =>
                refine ⟨k + 1, by omega, by go_num, fun j hj => ?_, hG.drewN _⟩
                by_cases h : j < k
                · exact Hall.out j h
                · have : j = k := by omega
                  subst this
                  exact Hgood.out
              case measure => simp [intOf]; omega
          · have hE : madeL ps fs mp mf = 0 := by
              rw [HE.out, if_neg]
              rw [kindsOk_true (fun j hj => Hall.out j (by omega))]
              decide
            have HE2 := Lib.hid hE
            clear hE
            go_wp2
            go_ret
            exact ⟨by rw [HE2.out]; rfl, gg.tr hG⟩

end Go.Proofs.Ytmioakcbgcgdhaa
