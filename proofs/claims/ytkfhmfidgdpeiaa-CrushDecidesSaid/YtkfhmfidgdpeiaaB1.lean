/- Contracts of Within, Valid: all numbers of a list lie between two numbers. -/
import Derived.Test.YtkfhmfidgdpeiaaProg
import Derived.Test.YtkfhmfidgdpeiaaA0
import Derived.Outline
import Derived.Lib.Hide
namespace Go.Proofs.Ytkfhmfidgdpeiaa
set_option linter.unusedVariables false
set_option linter.unusedSimpArgs false
open Go.RowKit

def in1 (lo hi n : Int) : Bool := decide (lo ≤ n) && decide (n ≤ hi)

def inB (lo hi : Int) (l : List Int) : Bool := l.all (in1 lo hi)

set_option maxHeartbeats 400000 in
theorem within_same (lo hi : Int) (l : List Int) (d : Bool) (hd : inB lo hi l = d) (a : Option Addr) (cap : Nat) (w : World) (hr : IRow w a l) :
    Calls Try.prog 66 #[.int .i64 lo, .int .i64 hi, .slice a l.length cap] w fun e w' => e = .returned (.bool d) ∧ w = w' := by
  have hm := hr.1
  have Hd := Lib.hid hd
  clear hd
  go_enter Try.func66, Try.ntmps66
  go_wp2
  go_loop [11] (fun i => ∃ k : Nat, k ≤ l.length ∧ i = .int .i64 k ∧ (l.take k).all (in1 lo hi) = true) (fun i => l.length - (intOf i).toNat)
  case atStart => exact ⟨0, Nat.zero_le _, rfl, rfl⟩
  case round =>
    obtain ⟨k, hk, rfl, hall⟩ := hrel
    have Hall := Lib.hid hall
    clear hall
    by_cases hlt : k < l.length
    · obtain ⟨x, hx⟩ := get_of_lt hlt
      obtain ⟨b0, off, rfl, hb, hc⟩ := hr.get hx
      have Hx := Lib.hid hx
      clear hx
      by_cases h1 : x < lo
      · have hf : d = false := by rw [← Hd.out]; exact not_all_of _ Hx.out (by simp [in1]; omega)
        have Hf := Lib.hid hf
        clear hf
        go_wp2
        go_ret
        exact ⟨ret_bool Hf.out.symm, rfl⟩
      · have h1' : decide (x < lo) = false := by simpa using h1
        by_cases h2 : hi < x
        · have hf : d = false := by rw [← Hd.out]; exact not_all_of _ Hx.out (by simp [in1]; omega)
          have Hf := Lib.hid hf
          clear hf
          go_wp2
          go_ret
          exact ⟨ret_bool Hf.out.symm, rfl⟩
        · have h2' : decide (hi < x) = false := by simpa using h2
          have hp : in1 lo hi x = true := by simp [in1]; omega
          have Hp := Lib.hid hp
          clear hp
          go_wp2
          go_round
          case rel => exact ⟨k + 1, by omega, by go_num, all_take_succ _ Hx.out Hall.out Hp.out⟩
          case measure => simp [intOf]; omega
    · have hf : d = true := by
        have h := Hall.out
        rw [List.take_of_length_le (by omega)] at h
        rw [← Hd.out]; exact h
      have Hf := Lib.hid hf
      clear hf
      go_wp2
      go_ret
      exact ⟨ret_bool Hf.out.symm, rfl⟩

theorem within_any (lo hi : Int) (l : List Int) (d : Bool) (hd : inB lo hi l = d) (a : Option Addr) (cap : Nat) (w : World) (hr : IRow w a l) :
    Calls Try.prog 66 #[.int .i64 lo, .int .i64 hi, .slice a l.length cap] w fun e w' => e = .returned (.bool d) ∧ Gr w w' :=
  (within_same lo hi l d hd a cap w hr).mono fun _ _ ⟨he, hw⟩ => ⟨he, hw ▸ Below.refl _ _⟩

/-- Spans: the least number, the greatest. -/
structure Sp where
  lo : Int
  hi : Int

def encS (s : Sp) : List Value := [.int .i64 s.lo, .int .i64 s.hi]

abbrev SRow := RowOf 2 encS

theorem SRow.get {w : World} {a : Option Addr} {l : List Sp} (h : SRow w a l) {j : Nat} {x : Sp} (hx : l[j]? = some x) :
    ∃ b off, a = some ⟨b, off, none⟩ ∧ b < w.heap.size ∧ w.cell? ⟨b, off + j * 2, none⟩ = some (.int .i64 x.lo) ∧ w.cell? ⟨b, off + j * 2 + 1, none⟩ = some (.int .i64 x.hi) := by
  obtain ⟨b, off, ha, hb, hc⟩ := h.2 j x hx
  exact ⟨b, off, ha, hb, hc 0 _ rfl, hc 1 _ rfl⟩

theorem SRow.new1 (w : World) (t : TypeId) (a b : Int) (n : Nat) (hn : n = w.heap.size) : SRow (w.alloc (.cells #[.int .i64 a, .int .i64 b] t)) (some ⟨n, 0, none⟩) [⟨a, b⟩] := by
  subst hn
  refine ⟨by simp, fun j x hx => ⟨w.heap.size, 0, rfl, by simp, fun i v hv => ?_⟩⟩
  match j, i with
  | 0, 0 => simp at hx; subst hx; simp [encS] at hv; subst hv; exact new_cell w _ t (by rfl)
  | 0, 1 => simp at hx; subst hx; simp [encS] at hv; subst hv; exact new_cell w _ t (by rfl)
  | 0, (n+2) => simp at hx; subst hx; simp [encS] at hv
  | (n+1), _ => simp at hx

theorem SRow.new2 (w : World) (t : TypeId) (a b c d : Int) (n : Nat) (hn : n = w.heap.size) : SRow (w.alloc (.cells #[.int .i64 a, .int .i64 b, .int .i64 c, .int .i64 d] t)) (some ⟨n, 0, none⟩) [⟨a, b⟩, ⟨c, d⟩] := by
  subst hn
  refine ⟨by simp, fun j x hx => ⟨w.heap.size, 0, rfl, by simp, fun i v hv => ?_⟩⟩
  match j, i with
  | 0, 0 => simp at hx; subst hx; simp [encS] at hv; subst hv; exact new_cell w _ t (by rfl)
  | 0, 1 => simp at hx; subst hx; simp [encS] at hv; subst hv; exact new_cell w _ t (by rfl)
  | 0, (n+2) => simp at hx; subst hx; simp [encS] at hv
  | 1, 0 => simp at hx; subst hx; simp [encS] at hv; subst hv; exact new_cell w _ t (by rfl)
  | 1, 1 => simp at hx; subst hx; simp [encS] at hv; subst hv; exact new_cell w _ t (by rfl)
  | 1, (n+2) => simp at hx; subst hx; simp [encS] at hv
  | (n+2), _ => simp at hx

def okSpan (lo hi a b : Int) : Bool := inB lo hi [a, b] && decide (a ≤ b)

def okSp (lo hi : Int) (s : Sp) : Bool := okSpan lo hi s.lo s.hi

set_option maxHeartbeats 1000000 in
theorem valids_any (lo hi : Int) (l : List Sp) (d : Bool) (hd : l.all (okSp lo hi) = d) (a : Option Addr) (cap : Nat) (w : World) (hr : SRow w a l) :
    Calls Try.prog 98 #[.int .i64 lo, .int .i64 hi, .slice a l.length cap] w fun e w' => e = .returned (.bool d) ∧ Gr w w' := by
  have hm := hr.1
  have Hd := Lib.hid hd
  clear hd
  go_enter Try.func98, Try.ntmps98
  go_wp2
  go_loopw [11] (fun i wr => ∃ k : Nat, k ≤ l.length ∧ i = .int .i64 k ∧ (l.take k).all (okSp lo hi) = true ∧ Gr w wr) (fun i wr => l.length - (intOf i).toNat)
  case atStart => exact ⟨0, Nat.zero_le _, rfl, rfl, Below.refl _ _⟩
  case round =>
    obtain ⟨k, hk, rfl, hall, hG⟩ := hrel
    have Hall := Lib.hid hall
    clear hall
    by_cases hlt : k < l.length
    · obtain ⟨x, hx⟩ := get_of_lt hlt
      obtain ⟨b0, off, rfl, hb, hc0, hc1⟩ := SRow.get (hr.grow hG) hx
      have Hx := Lib.hid hx
      clear hx
      obtain ⟨xl, xh⟩ := x
      simp only at hc0 hc1
      have hr1 := IRow.new' (wr.alloc (.cells #[.int .i64 xl, .int .i64 xh] 45)) 3 [xl, xh] (by simp) (wr.heap.size + 1) (by simp) #[.int .i64 xl, .int .i64 xh] (by simp)
      have hb := (Box.new wr [.int .i64 xl, .int .i64 xh] 45 wr.heap.size rfl).keep (Gr.al _ (.cells #[.int .i64 xl, .int .i64 xh] 3))
      have g2 : Gr wr ((wr.alloc (.cells #[.int .i64 xl, .int .i64 xh] 45)).alloc (.cells #[.int .i64 xl, .int .i64 xh] 3)) := Gr.tr (Gr.al _ _) (Gr.al _ _)
      cases c : inB lo hi [xl, xh] with
      | false =>
        have hf : d = false := by rw [← Hd.out]; exact not_all_of _ Hx.out (by simp [okSp, okSpan, c])
        have Hf := Lib.hid hf
        have C := Lib.hid c
        clear hf c
        go_wp2_with (go_at_call 66; refine (within_any _ _ [xl, xh] _ C.out _ _ _ hr1).mono ?_; rintro e w1 ⟨rfl, hg⟩)
        go_ret
        exact ⟨ret_bool Hf.out.symm, hG.tr (g2.tr hg)⟩
      | true =>
        have C := Lib.hid c
        by_cases h2 : xh < xl
        · have hf : d = false := by rw [← Hd.out]; exact not_all_of _ Hx.out (by simp [okSp, okSpan, c]; omega)
          have Hf := Lib.hid hf
          clear hf c
          go_wp2_with (go_at_call 66; refine (within_any _ _ [xl, xh] _ C.out _ _ _ hr1).mono ?_; rintro e w1 ⟨rfl, hg⟩; obtain ⟨q0, q1⟩ := (hb.keep hg).c2)
          go_ret
          exact ⟨ret_bool Hf.out.symm, hG.tr (g2.tr hg)⟩
        · have h2' : decide (xh < xl) = false := by simpa using h2
          have hp : okSp lo hi ⟨xl, xh⟩ = true := by simp [okSp, okSpan, c]; omega
          have Hp := Lib.hid hp
          clear hp c
          go_wp2_with (go_at_call 66; refine (within_any _ _ [xl, xh] _ C.out _ _ _ hr1).mono ?_; rintro e w1 ⟨rfl, hg⟩; obtain ⟨q0, q1⟩ := (hb.keep hg).c2)
          go_roundw
          case rel => exact ⟨k + 1, by omega, by go_num, all_take_succ _ Hx.out Hall.out Hp.out, hG.tr (g2.tr hg)⟩
          case measure => simp [intOf]; omega
    · have hf : d = true := by
        have h := Hall.out
        rw [List.take_of_length_le (by omega)] at h
        rw [← Hd.out]; exact h
      have Hf := Lib.hid hf
      clear hf
      go_wp2
      go_ret
      exact ⟨ret_bool Hf.out.symm, hG⟩

/-- Valid at one span. -/
theorem valid_any (lo hi a b : Int) (d : Bool) (hd : okSpan lo hi a b = d) (ad : Option Addr) (cap : Nat) (w : World) (hr : SRow w ad [⟨a, b⟩]) :
    Calls Try.prog 98 #[.int .i64 lo, .int .i64 hi, .slice ad 1 cap] w fun e w' => e = .returned (.bool d) ∧ Gr w w' :=
  valids_any lo hi [⟨a, b⟩] d (by simpa [okSp] using hd) ad cap w hr

end Go.Proofs.Ytkfhmfidgdpeiaa
