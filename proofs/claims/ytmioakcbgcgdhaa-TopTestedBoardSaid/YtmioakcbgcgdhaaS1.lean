/- Contracts of the small functions of package score. -/
import Derived.Test.YtmioakcbgcgdhaaQa
import Derived.WalkLawsBesides
namespace Go.Proofs.Ytmioakcbgcgdhaa
set_option linter.unusedVariables false
set_option linter.unusedSimpArgs false
open Go.RowKit

theorem Box.c10 {w : World} {b : Nat} {x0 x1 x2 x3 x4 x5 x6 x7 x8 x9 : Value} (h : Box w b [x0, x1, x2, x3, x4, x5, x6, x7, x8, x9]) : w.cell? ⟨b, 0, none⟩ = some x0 ∧ w.cell? ⟨b, 1, none⟩ = some x1 ∧ w.cell? ⟨b, 2, none⟩ = some x2 ∧ w.cell? ⟨b, 3, none⟩ = some x3 ∧ w.cell? ⟨b, 4, none⟩ = some x4 ∧ w.cell? ⟨b, 5, none⟩ = some x5 ∧ w.cell? ⟨b, 6, none⟩ = some x6 ∧ w.cell? ⟨b, 7, none⟩ = some x7 ∧ w.cell? ⟨b, 8, none⟩ = some x8 ∧ w.cell? ⟨b, 9, none⟩ = some x9 :=
  ⟨h.2 0 x0 rfl, h.2 1 x1 rfl, h.2 2 x2 rfl, h.2 3 x3 rfl, h.2 4 x4 rfl, h.2 5 x5 rfl, h.2 6 x6 rfl, h.2 7 x7 rfl, h.2 8 x8 rfl, h.2 9 x9 rfl⟩

theorem Box.c7 {w : World} {b : Nat} {x0 x1 x2 x3 x4 x5 x6 : Value} (h : Box w b [x0, x1, x2, x3, x4, x5, x6]) : w.cell? ⟨b, 0, none⟩ = some x0 ∧ w.cell? ⟨b, 1, none⟩ = some x1 ∧ w.cell? ⟨b, 2, none⟩ = some x2 ∧ w.cell? ⟨b, 3, none⟩ = some x3 ∧ w.cell? ⟨b, 4, none⟩ = some x4 ∧ w.cell? ⟨b, 5, none⟩ = some x5 ∧ w.cell? ⟨b, 6, none⟩ = some x6 :=
  ⟨h.2 0 x0 rfl, h.2 1 x1 rfl, h.2 2 x2 rfl, h.2 3 x3 rfl, h.2 4 x4 rfl, h.2 5 x5 rfl, h.2 6 x6 rfl⟩


theorem span_any (a b : Int) (w : World) :
    Calls Try.prog 15 #[.int .i64 a, .int .i64 b] w fun e w' => e = .returned (.agg #[.int .i64 a, .int .i64 b]) ∧ Gr w w' := by
  go_enter Try.func15, Try.ntmps15
  go_wp2
  refine bodyPost_ret (v := .agg #[.int .i64 a, .int .i64 b]) (by simp [results, Try.results15, go_sem]) rfl ⟨rfl, Gr.al _ _⟩

theorem times_any (m a b : Int) (ha0 : -1000000000 ≤ m * a) (ha1 : m * a ≤ 1000000000) (hb0 : -1000000000 ≤ m * b) (hb1 : m * b ≤ 1000000000) (w : World) :
    Calls Try.prog 102 #[.int .i64 m, .agg #[.int .i64 a, .int .i64 b]] w fun e w' => e = .returned (.agg #[.int .i64 (m * a), .int .i64 (m * b)]) ∧ Gr w w' := by
  go_enter Try.func102, Try.ntmps102
  go_wp2
  refine bodyPost_ret (v := .agg #[.int .i64 (m * a), .int .i64 (m * b)]) (by simp [results, Try.results102, go_sem]) rfl ⟨rfl, (Gr.al _ _).tr (Gr.al _ _)⟩

theorem gap_any (n : Int) (h0 : 5 ≤ n) (h1 : n ≤ 8) (w : World) :
    Calls Try.prog 104 #[.int .i64 n] w fun e w' => e = .returned (.tuple #[.int .i64 ((n - 5) / 2), .int .i64 ((n - 5) % 2)]) ∧ w = w' := by
  go_enter Try.func104, Try.ntmps104
  go_wp2
  go_ret2
  exact ⟨rfl, rfl⟩

theorem over_any (n : Int) (h0 : 0 ≤ n) (h1 : n ≤ 1) (w : World) :
    Calls Try.prog 105 #[.int .i64 n] w fun e w' => e = .returned (.int .i64 (1 - n)) ∧ w = w' := by
  go_enter Try.func105, Try.ntmps105
  go_wp2
  go_ret
  exact ⟨rfl, rfl⟩

/-- What a measure can truly be. -/
def nearL (off m lo hi : Int) : Sp := ⟨max lo (m - off), min hi (m + off)⟩

set_option maxRecDepth 100000 in
theorem near_any (tab hei slo off : Int) (pan top bot : List Int) (pa ta ba : Option Addr) (pc tc bc : Nat) (opn : Bool) (m lo hi : Int) (h0 : 0 ≤ m) (h1 : m ≤ 3000) (h2 : 0 ≤ off) (h3 : off ≤ 3000) (h4 : 0 ≤ lo) (h5 : hi ≤ 3000) (w : World) :
    Calls Try.prog 132 #[.agg #[.int .i64 tab, .slice pa pan.length pc, .int .i64 hei, .slice ta top.length tc, .slice ba bot.length bc, .int .i64 slo, .bool opn, .int .i64 off, .slice ta top.length tc, .slice ba bot.length bc], .int .i64 m, .int .i64 lo, .int .i64 hi] w fun e w' => e = .returned (.agg #[.int .i64 (nearL off m lo hi).lo, .int .i64 (nearL off m lo hi).hi]) ∧ Gr w w' := by
  go_enter Try.func132, Try.ntmps132
  go_wp2
  all_goals
    refine bodyPost_ret (v := .agg #[.int .i64 (nearL off m lo hi).lo, .int .i64 (nearL off m lo hi).hi]) (by simp [results, Try.results132, go_sem, nearL]; omega) rfl ⟨rfl, (Gr.al _ _).tr (Gr.al _ _)⟩

/-- How many calipers a measure loses. -/
def lostL (k : Int) (opn : Bool) : Int := if k = 4 ∧ opn = false then 2 else 1

set_option maxRecDepth 100000 in
theorem lost_any (tab hei slo off : Int) (pan top bot : List Int) (pa ta ba : Option Addr) (pc tc bc : Nat) (opn : Bool) (k : Int) (w : World) :
    Calls Try.prog 93 #[.agg #[.int .i64 tab, .slice pa pan.length pc, .int .i64 hei, .slice ta top.length tc, .slice ba bot.length bc, .int .i64 slo, .bool opn, .int .i64 off, .slice ta top.length tc, .slice ba bot.length bc], .int .i64 k] w fun e w' => e = .returned (.int .i64 (lostL k opn)) ∧ Gr w w' := by
  cases h : (k == 4) with
  | false =>
    have h' : ¬ k = 4 := by simpa using h
    have E := Lib.hid (show lostL k opn = 1 by unfold lostL; rw [if_neg (fun x => h' x.1)])
    clear h'
    go_enter Try.func93, Try.ntmps93
    go_wp2
    go_ret
    exact ⟨ret_int E.out.symm, Gr.al _ _⟩
  | true =>
    have h' : k = 4 := by simpa using h
    cases opn with
    | false =>
      have E := Lib.hid (show lostL k false = 2 by unfold lostL; rw [if_pos ⟨h', rfl⟩])
      clear h'
      go_enter Try.func93, Try.ntmps93
      go_wp2
      go_ret
      exact ⟨ret_int E.out.symm, Gr.al _ _⟩
    | true =>
      have E := Lib.hid (show lostL k true = 1 by unfold lostL; rw [if_neg (fun x => by cases x.2)])
      clear h'
      go_enter Try.func93, Try.ntmps93
      go_wp2
      go_ret
      exact ⟨ret_int E.out.symm, Gr.al _ _⟩

theorem measured_ok (l : List Sp) (h : l.all (okSp 1 10000) = true) (a : Option Addr) (cap : Nat) (w : World) (hr : SRow w a l) :
    Calls Try.prog 46 #[.slice a l.length cap] w fun e w' => e = .returned (.int .i64 0) ∧ Gr w w' := by
  go_enter Try.func46, Try.ntmps46
  go_wp2_with (go_at_call 83; refine (valids_any _ _ l _ h _ _ _ hr).mono ?_; rintro e w1 ⟨rfl, hg⟩)
  go_ret
  exact ⟨rfl, hg⟩

set_option maxHeartbeats 400000 in
theorem first_ok (l : List Int) (h : ∀ x ∈ l, x = 0) (a : Option Addr) (cap : Nat) (w : World) (hr : IRow w a l) :
    Calls Try.prog 44 #[.slice a l.length cap] w fun e w' => e = .returned (.int .i64 0) ∧ w = w' := by
  have hm := hr.1
  have H := Lib.hid h
  clear h
  go_enter Try.func44, Try.ntmps44
  go_wp2
  go_loop [7] (fun i => ∃ k : Nat, k ≤ l.length ∧ i = .int .i64 k) (fun i => l.length - (intOf i).toNat)
  case atStart => exact ⟨0, Nat.zero_le _, rfl⟩
  case round =>
    obtain ⟨k, hk, rfl⟩ := hrel
    by_cases hlt : k < l.length
    · obtain ⟨x, hx⟩ := get_of_lt hlt
      obtain ⟨b0, off, rfl, hb, hc⟩ := hr.get hx
      obtain rfl : x = 0 := H.out x (List.mem_of_getElem? hx)
      clear hx
      go_wp2
      go_round
      case rel => exact ⟨k + 1, by omega, by go_num⟩
      case measure => simp [intOf]; omega
    · go_wp2
      go_ret
      exact ⟨rfl, rfl⟩

end Go.Proofs.Ytmioakcbgcgdhaa
