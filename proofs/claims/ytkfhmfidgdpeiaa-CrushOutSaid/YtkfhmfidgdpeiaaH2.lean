/- The law's near. -/
import Derived.Test.YtkfhmfidgdpeiaaH1
import Derived.Test.YtkfhmfidgdpeiaaI22
import Derived.Lib.MinMax
import Derived.BigQuiet
namespace Go.Proofs.Ytkfhmfidgdpeiaa
set_option linter.unusedVariables false
set_option linter.unusedSimpArgs false
open Go.RowKit

set_option maxRecDepth 100000 in
set_option maxHeartbeats 2000000 in
theorem near_any (off spread : Int) (l : List Int) (hl : Reads l) (hlen : l.length ≤ 1000) (o0 : 0 ≤ off) (o1 : off ≤ 100) (s0 : 0 ≤ spread) (s1 : spread ≤ 1000) (f : Int → Bool) (r : Bool) (hr : nearB off spread l f = r) (a : Option Addr) (cap b n : Nat) (w : World) (ha : IRow w a l) (hm : MapB w b n f) :
    Calls Try.prog 51 #[.slice a l.length cap, .map (some b), .int .i64 off, .int .i64 spread] w fun e w' => e = .returned (.bool r) ∧ Gr w w' := by
  have HR := Lib.hid hr
  have HL := Lib.hid hl
  clear hr hl
  go_enter Try.func51, Try.ntmps51
  go_wp2
  go_loopw [11, 9, 10] (fun t s u wr => Hid (∃ k : Nat, k ≤ l.length ∧ t = .int .i64 k ∧ Gr w wr ∧ s = .int .i64 (nrL off l f k).1 ∧ u = .int .i64 (nrL off l f k).2)) (fun t _ _ _ => l.length - (intOf t).toNat)
  case atStart => exact Lib.hid ⟨0, Nat.zero_le _, rfl, Below.refl _ _, rfl, rfl⟩
  case round =>
    obtain ⟨k, hk, rfl, gW, rfl, rfl⟩ := hrel.out
    clear hrel
    have x0 := ((near_le off l f (nrL off l f k).1 k).1 (Int.le_refl _)).1
    have x1 := (near_le off l f 300 k).2 ⟨by omega, fun i hi _ => by have := HL.out i (by omega); omega⟩
    have x2 := ((le_near off l f (nrL off l f k).2 k).1 (Int.le_refl _)).1
    have x3 := (le_near off l f 0 k).2 ⟨by omega, fun i hi _ => by have := HL.out i (by omega); omega⟩
    by_cases hlt : k < l.length
    · obtain ⟨x, hx⟩ : ∃ x, l[k]? = some x := ⟨l[k], by simp [hlt]⟩
      have hgd : l.getD k 0 = x := by simp [List.getD, hx]
      obtain ⟨y0, y1⟩ := HL.out k hlt
      rw [hgd] at y0 y1
      obtain ⟨b1, of1, rfl, h1, cc⟩ := IRow.get (ha.grow gW) hx
      have hlk := (hm.keep gW).look (k : Int) (WalkArith.wf_i64 (by omega))
      have hn : nrL off l f (k + 1) = if f (k : Int) = true then nrL off l f k else (max (nrL off l f k).1 (x - off), min (nrL off l f k).2 (x + off)) := by
        rw [← hgd]; rfl
      cases hf : f (k : Int) with
      | true =>
        rw [hf] at hlk hn
        rw [if_pos rfl] at hn
        have HN := Lib.hid hn
        clear hn hx hgd
        go_wp2
        go_roundw
        case rel => exact Lib.hid ⟨k + 1, by omega, by go_num, gW, by rw [HN.out], by rw [HN.out]⟩
        case measure => simp [intOf]; omega
      | false =>
        rw [hf] at hlk hn
        rw [if_neg (by decide)] at hn
        have HN := Lib.hid hn
        generalize (nrL off l f k).1 = S at *
        generalize (nrL off l f k).2 = U at *
        clear hn hx hgd
        go_upto_region 6 with fail
        go_quiet (fail)
        go_wp2
        go_roundw
        case rel => exact Lib.hid ⟨k + 1, by omega, by go_num, gW.drewN _, by rw [HN.out], by rw [HN.out]⟩
        case measure => simp [intOf]; omega
    · obtain rfl : k = l.length := by omega
      have E : nearB off spread l f = decide ((nrL off l f l.length).1 - (nrL off l f l.length).2 ≤ spread) := rfl
      have E2 := Lib.hid (HR.out.symm.trans E)
      clear HR E
      generalize (nrL off l f l.length).1 = S at *
      generalize (nrL off l f l.length).2 = U at *
      go_wp2
      go_ret
      exact ⟨ret_bool E2.out.symm, gW⟩

end Go.Proofs.Ytkfhmfidgdpeiaa
