/- crush's pileOf: which sets stand. -/
import Derived.Test.YtkfhmfidgdpeiaaI23
namespace Go.Proofs.Ytkfhmfidgdpeiaa
set_option linter.unusedVariables false
set_option linter.unusedSimpArgs false
open Go.RowKit

/-- Which sets below k stand. -/
def standsTo (l : List Ld) (keep : Int) : Nat → Int → Bool
  | 0 => fun y => if y = 0 then true else false
  | k + 1 => if (lowO l keep (standsTo l keep k) k).isSome then (fun y => if y = (k : Int) then true else standsTo l keep k y) else standsTo l keep k

def allN (l : List Ld) : Nat := 2 ^ l.length - 1

theorem Box.c3p {w : World} {b : Nat} {x0 x1 x2 : Value} (h : Box w b [x0, x1, x2]) : w.cell? ⟨b, 0, none⟩ = some x0 ∧ w.cell? ⟨b, 1, none⟩ = some x1 ∧ w.cell? ⟨b, 2, none⟩ = some x2 := ⟨h.2 0 x0 rfl, h.2 1 x1 rfl, h.2 2 x2 rfl⟩

theorem pow_bd {n : Nat} (h : n ≤ 10) : 1 ≤ 2 ^ n ∧ 2 ^ n ≤ 1024 := ⟨Nat.one_le_two_pow, pow_le_1024 h⟩

set_option maxRecDepth 100000 in
set_option maxHeartbeats 1000000 in
theorem all_any (l : List Ld) (h10 : l.length ≤ 10) (a : Option Addr) (cap : Nat) (keep : Int) (mv : Option Nat) (w : World) :
    Calls Try.prog 105 #[.agg #[.slice a l.length cap, .int .i64 keep, .map mv]] w fun e w' => e = .returned (.int .i64 ((allN l : Nat) : Int)) ∧ Gr w w' := by
  have gg := Gr.al w (.cells #[.slice a l.length cap, .int .i64 keep, .map mv] 146)
  obtain ⟨p1, p2⟩ := pow_bd h10
  obtain ⟨N, hN⟩ : ∃ N, 2 ^ l.length = N := ⟨_, rfl⟩
  have e0 : (2 : Int) ^ l.length = (N : Int) := by rw [← hN]; simp
  have e1 : ((allN l : Nat) : Int) = (N : Int) - 1 := by unfold allN; rw [hN]; omega
  rw [hN] at p1 p2
  have z0 : IntKind.i64.wrap (N : Int) = N := IntWalk.i64_in _ (by omega)
  have z1 : IntKind.i64.wrap ((N : Int) - 1) = (N : Int) - 1 := IntWalk.i64_in _ (by omega)
  rw [e1]
  clear e1 hN
  go_enter Try.func105, Try.ntmps105
  go_wp2
  go_ret
  exact ⟨rfl, gg⟩

theorem lowV_none {l : List Ld} {keep : Int} {f : Int → Bool} {s : Nat} (h : lowO l keep f s = none) : lowV l keep f s = .tuple #[.int .i64 0, .bool false] := by unfold lowV; rw [h]

theorem lowV_some {l : List Ld} {keep : Int} {f : Int → Bool} {s k : Nat} (h : lowO l keep f s = some k) : lowV l keep f s = .tuple #[.int .i64 (k : Int), .bool true] := by unfold lowV; rw [h]

set_option maxRecDepth 100000 in
set_option maxHeartbeats 4000000 in
theorem pileOf_any (l : List Ld) (h10 : l.length ≤ 10) (hB : ∀ x ∈ l, LdOk x) (a : Option Addr) (cap : Nat) (keep : Int) (k0 : 0 ≤ keep) (k1 : keep ≤ 1000) (w : World) (hr : LRow w a l) :
    Calls Try.prog 87 #[.slice a l.length cap, .int .i64 keep] w fun e w' => ∃ m, e = .returned (.agg #[.slice a l.length cap, .int .i64 keep, .map (some m)]) ∧ (∃ n, MapB w' m n (standsTo l keep (allN l + 1))) ∧ Gr w w' := by
  obtain ⟨p1, p2⟩ := pow_bd h10
  have hall : allN l + 1 = 2 ^ l.length := by unfold allN; omega
  have g1 := Gr.al w (.cells #[.slice none 0 0, .int .i64 0, .map none] 146)
  have o4 := Own.new w [.slice none 0 0, .int .i64 0, .map none] 146 w.heap.size rfl
  have m1 := MapB.made (w.alloc (.cells #[.slice none 0 0, .int .i64 0, .map none] 146))
  have g2 := Gr.al (w.alloc (.cells #[.slice none 0 0, .int .i64 0, .map none] 146)) (.map #[] 0)
  rw [show (w.alloc (.cells #[.slice none 0 0, .int .i64 0, .map none] 146)).heap.size = w.heap.size + 1 by simp] at m1
  obtain ⟨w2, hput, m2, hg2⟩ := m1.put (by omega) 0 true (by decide)
  have gB : Gr w w2 := (g1.tr g2).grown hg2 (g1.tr g2).size (fun j e => by cases e; omega)
  have oB := (o4.keep g2).grown hg2 (by omega)
  have hD : w.heap.size + 1 + 1 ≤ w2.heap.size := by have := hg2.size; simp at this; omega
  have g3 := Gr.al w2 (.cells #[.slice a l.length cap, .int .i64 keep, .map (some (w.heap.size + 1))] 146)
  have o5 := Own.new w2 [.slice a l.length cap, .int .i64 keep, .map (some (w.heap.size + 1))] 146 w2.heap.size rfl
  have gC := gB.tr g3
  have oC := oB.keep g3
  have mC := m2.keep g3
  clear g1 o4 g2 m1 gB oB g3 m2 hg2
  have hmm := @run_makeMap Try.prog
  have HB := Lib.hid hB
  have HA := Lib.hid hall
  clear hB hall
  go_enter Try.func87, Try.ntmps87
  go_upto_region 2 with fail
  obtain ⟨D, hDD⟩ : ∃ D, D = w2.heap.size := ⟨_, rfl⟩
  rw [← hDD] at o5 hD ⊢
  refine wp_abs (fun W => Gr w W ∧ Own W w.heap.size [.slice none 0 0, .int .i64 0, .map none] ∧ (∃ n, n ≤ 1 ∧ MapB W (w.heap.size + 1) n (standsTo l keep 0)) ∧ Own W D [.slice a l.length cap, .int .i64 keep, .map (some (w.heap.size + 1))]) ⟨gC, oC, ⟨1, by omega, mC.congr (by omega) (fun y => rfl)⟩, o5⟩ ?_
  clear gC oC mC o5 hput hmm hDD
  rintro W ⟨gW, o4, hM, o5⟩
  have HM := Lib.hid hM
  clear hM
  obtain ⟨q0, q1, q2⟩ := Box.c3p o5.1
  obtain ⟨N, hN⟩ : ∃ N, allN l = N := ⟨_, rfl⟩
  have HN := Lib.hid hN
  have hN1 : N < 1024 := by have := HA.out; omega
  have hN2 : N + 1 = 2 ^ l.length := by rw [← hN]; exact HA.out
  have z0 : IntKind.i64.wrap ((N : Int) + 1) = (N : Int) + 1 := IntWalk.i64_in _ (by omega)
  have c1 : ∀ W', Gr W W' → Calls Try.prog 105 #[.agg #[.slice a l.length cap, .int .i64 keep, .map (some (w.heap.size + 1))]] W' fun e w' => e = .returned (.int .i64 (N : Int)) ∧ Gr W' w' := fun W' _ => by
    have := all_any l h10 a cap keep (some (w.heap.size + 1)) W'
    rw [hN] at this
    exact this
  have HN2 := Lib.hid hN2
  clear hN p1 p2 hN2
  go_wp2_with (go_at_call 105; refine (c1 _ (Below.refl _ _)).mono ?_; rintro e w3 ⟨rfl, g3⟩)
  have gW := gW.tr g3
  have o4 := o4.keep g3
  have o5 := o5.keep g3
  have hM : ∃ n, n ≤ 1 ∧ MapB w3 (w.heap.size + 1) n (standsTo l keep 0) := by
    obtain ⟨n, hn, h⟩ := HM.out
    exact ⟨n, hn, h.keep g3⟩
  clear HM g3 q0 q1 q2 c1 z0
  go_loopw [17] (fun i wr => Hid (∃ k : Nat, k ≤ N + 1 ∧ i = .int .i64 k ∧ Gr w wr ∧ Own wr w.heap.size [.slice none 0 0, .int .i64 0, .map none] ∧ (∃ n, n ≤ k + 1 ∧ MapB wr (w.heap.size + 1) n (standsTo l keep k)) ∧ Own wr D [.slice a l.length cap, .int .i64 keep, .map (some (w.heap.size + 1))])) (fun i wr => N + 1 - (intOf i).toNat)
  case atStart => exact Lib.hid ⟨0, Nat.zero_le _, rfl, gW, o4, by simpa using hM, o5⟩
  case round =>
    clear gW o4 hM o5
    obtain ⟨k, hk, rfl, gW, o4, ⟨n, hn, hM⟩, o5⟩ := hrel.out
    clear hrel
    by_cases hlt : k < N + 1
    · have hlt' : (k : Int) < (N : Int) + 1 := by omega
      obtain ⟨q0, q1, q2⟩ := Box.c3p o5.1
      have hlow := lowest_set l h10 HB.out k (by have := HN2.out; omega) a cap keep k0 k1 (w.heap.size + 1) n (standsTo l keep k) wr (hr.grow gW) hM
      cases hO : lowO l keep (standsTo l keep k) k with
      | none =>
        rw [lowV_none hO] at hlow
        have hS : standsTo l keep (k + 1) = standsTo l keep k := by simp [standsTo, hO]
        have HL := Lib.hid hlow
        have HS := Lib.hid hS
        clear hlow hO hS
        go_wp2_with (go_at_call 106; refine HL.out.mono ?_; rintro e w4 ⟨rfl, g4⟩)
        go_roundw
        case rel => exact Lib.hid ⟨k + 1, by omega, by go_num, gW.tr g4, o4.keep g4, ⟨n, by omega, by rw [HS.out]; exact hM.keep g4⟩, o5.keep g4⟩
        case measure => simp [intOf]; omega
      | some x =>
        rw [lowV_some hO] at hlow
        have hS : standsTo l keep (k + 1) = fun y => if y = (k : Int) then true else standsTo l keep k y := by simp [standsTo, hO]
        have HL := Lib.hid hlow
        have HS := Lib.hid hS
        clear hlow hO hS
        go_wp2_with (go_at_call 106; refine HL.out.mono ?_; rintro e w4 ⟨rfl, g4⟩; have o5' := o5.keep g4; (obtain ⟨q0, q1, q2⟩ := Box.c3p o5'.1); obtain ⟨w5, hput, m5, hg5⟩ := (hM.keep g4).put (by omega) (k : Int) true (wf64 (by omega) (by omega)))
        go_roundw
        case rel =>
          exact Lib.hid ⟨k + 1, by omega, by go_num, (gW.tr g4).grown hg5 ((gW.tr g4).size) (fun j e => by cases e; omega), (o4.keep g4).grown hg5 (by omega), ⟨n + 1, by omega, by rw [HS.out]; exact m5⟩, o5'.grown hg5 (by omega)⟩
        case measure => simp [intOf]; omega
    · obtain rfl : k = N + 1 := by omega
      have hlt' : ¬ ((N + 1 : Nat) : Int) < (N : Int) + 1 := by omega
      obtain ⟨q0, q1, q2⟩ := Box.c3p o5.1
      obtain ⟨p0, p1, p2⟩ := Box.c3p o4.1
      have y0 := o4.2 0
      have y1 := o4.2 1
      have y2 := o4.2 2
      have oz := ((o4.set (i := 0) (v := .slice a l.length cap) (by simp)).set (i := 1) (v := .int .i64 keep) (by simp)).set (i := 2) (v := .map (some (w.heap.size + 1))) (by simp)
      obtain ⟨s0, s1, s2⟩ := Box.c3p oz.1
      clear oz
      go_wp2
      refine bodyPost_ret (v := .agg #[.slice a l.length cap, .int .i64 keep, .map (some (w.heap.size + 1))]) (by simp [results, Try.results87, go_sem, s0, s1, s2]) rfl ⟨w.heap.size + 1, rfl, ⟨n, ?_⟩, ((gW.setCell (Nat.le_refl _) _).setCell (Nat.le_refl _) _).setCell (Nat.le_refl _) _⟩
      rw [HN.out]
      exact ((hM.other (by omega)).other (by omega)).other (by omega)

end Go.Proofs.Ytkfhmfidgdpeiaa
