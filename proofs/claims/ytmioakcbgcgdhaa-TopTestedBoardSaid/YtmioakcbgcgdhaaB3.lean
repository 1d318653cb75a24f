/- Contracts of every over papers and flutes, and of Check. -/
import Derived.Test.YtmioakcbgcgdhaaB2
namespace Go.Proofs.Ytmioakcbgcgdhaa
set_option linter.unusedVariables false
set_option linter.unusedSimpArgs false
open Go.RowKit

theorem every103 (x : Paper) (b : Nat) (w : World) (h0 : w.cell? ⟨b, 0, none⟩ = some (.func (.func 121) #[] #[])) :
    Calls Try.prog 142 #[.agg #[.int .i64 x.kind, .int .i64 x.weight, .int .i64 x.tlo, .int .i64 x.thi, .int .i64 x.mlo, .int .i64 x.mhi, .int .i64 x.price, .int .i64 x.strong], .pointer (some ⟨b, 0, none⟩)] w fun e w' => e = .returned (.bool (!goodP x)) ∧ Gr w w' := by
  have g := Gr.al w (.cells #[.int .i64 x.kind, .int .i64 x.weight, .int .i64 x.tlo, .int .i64 x.thi, .int .i64 x.mlo, .int .i64 x.mhi, .int .i64 x.price, .int .i64 x.strong] 100)
  have h0' := g.keep h0
  have hb := Box.new w [.int .i64 x.kind, .int .i64 x.weight, .int .i64 x.tlo, .int .i64 x.thi, .int .i64 x.mlo, .int .i64 x.mhi, .int .i64 x.price, .int .i64 x.strong] 100 w.heap.size rfl
  go_enter Try.func142, Try.ntmps142
  go_wp2_with (go_at_call 121; refine (goodPaper_any x _).mono ?_; rintro e w' ⟨rfl, hg⟩)
  go_ret
  exact ⟨rfl, g.tr hg⟩

def SomeIdx131 (c : Bool) (w : World) (e : Ending) (w' : World) : Prop := ∃ r : Int, e = .returned (.int .i64 r) ∧ decide (0 ≤ r) = c ∧ Gr w w'

set_option maxHeartbeats 1000000 in
theorem index131 (l : List Paper) (a : Option Addr) (cap b : Nat) (w : World) (hr : PRow w a l) (h0 : w.cell? ⟨b, 0, none⟩ = some (.func (.func 121) #[] #[])) :
    Calls Try.prog 165 #[.slice a l.length cap, .func (.func 142) #[] #[.pointer (some ⟨b, 0, none⟩)]] w (SomeIdx131 (!l.all goodP) w) := by
  have hm := hr.1
  go_enter Try.func165, Try.ntmps165
  go_wp2
  go_loopw [8] (fun i wr => ∃ k : Nat, k ≤ l.length ∧ i = .int .i64 k ∧ (l.take k).all goodP = true ∧ Gr w wr) (fun i wr => l.length - (intOf i).toNat)
  case atStart => exact ⟨0, Nat.zero_le _, rfl, rfl, Below.refl _ _⟩
  case round =>
    obtain ⟨k, hk, rfl, hall, hG⟩ := hrel
    have Hall : Hid _ := hall
    clear hall
    have hr1 := hr.grow hG
    have h1 := hG.keep h0
    by_cases hlt : k < l.length
    · obtain ⟨x, hx⟩ := get_of_lt hlt
      obtain ⟨b0, off, rfl, hb, q0, q1, q2, q3, q4, q5, q6, q7⟩ := PRow.get hr1 hx
      have Hx : Hid _ := hx
      clear hx
      cases hp : goodP x with
      | true =>
        go_wp2_with (go_at_call 142; refine (every103 x _ _ h1).mono ?_; rintro e w' ⟨rfl, hg⟩)
        go_roundw
        case rel => exact ⟨k + 1, by omega, by go_num, all_take_succ _ Hx.out Hall.out hp, hG.tr hg⟩
        case measure => simp [intOf]; omega
      | false =>
        go_wp2_with (go_at_call 142; refine (every103 x _ _ h1).mono ?_; rintro e w' ⟨rfl, hg⟩)
        go_ret
        exact ⟨k, rfl, by rw [not_all_of _ Hx.out hp]; simp, hG.tr hg⟩
    · have e : l.all goodP = true := by
        have h := Hall.out
        rwa [List.take_of_length_le (by omega)] at h
      have He := Lib.hid e
      clear e
      go_wp2
      go_ret
      exact ⟨-1, rfl, by rw [He.out]; decide, hG⟩

theorem contains102 (l : List Paper) (a : Option Addr) (cap b : Nat) (w : World) (hr : PRow w a l) (h0 : w.cell? ⟨b, 0, none⟩ = some (.func (.func 121) #[] #[])) :
    Calls Try.prog 141 #[.slice a l.length cap, .func (.func 142) #[] #[.pointer (some ⟨b, 0, none⟩)]] w fun e w' => e = .returned (.bool (!l.all goodP)) ∧ Gr w w' := by
  go_enter Try.func141, Try.ntmps141
  go_wp2_with (go_at_call 165; refine (index131 l _ _ _ _ hr h0).mono ?_; rintro e w' ⟨r, rfl, hc, hg⟩; have Hc := Lib.hid hc; clear hc)
  go_ret
  exact ⟨ret_bool Hc.out, hg⟩

theorem every65 (l : List Paper) (d : Bool) (hd : l.all goodP = d) (a : Option Addr) (cap : Nat) (w : World) (hr : PRow w a l) :
    Calls Try.prog 120 #[.slice a l.length cap, .func (.func 121) #[] #[]] w fun e w' => e = .returned (.bool d) ∧ Gr w w' := by
  subst hd
  have g := Gr.al w (.cells #[.func (.func 121) #[] #[]] 202)
  have hr' := hr.grow g
  have hb := (Box.new w [.func (.func 121) #[] #[]] 202 w.heap.size rfl).c1
  go_enter Try.func120, Try.ntmps120
  go_wp2_with (go_at_call 141; refine (contains102 l _ _ _ _ hr' hb).mono ?_; rintro e w' ⟨rfl, hg⟩)
  go_ret
  exact ⟨ret_bool (by simp), g.tr hg⟩

theorem every105 (x : Flute) (b : Nat) (w : World) (h0 : w.cell? ⟨b, 0, none⟩ = some (.func (.func 123) #[] #[])) :
    Calls Try.prog 144 #[.agg #[.int .i64 x.pitch, .int .i64 x.draw, .int .i64 x.hlo, .int .i64 x.hhi], .pointer (some ⟨b, 0, none⟩)] w fun e w' => e = .returned (.bool (!goodF x)) ∧ Gr w w' := by
  have g := Gr.al w (.cells #[.int .i64 x.pitch, .int .i64 x.draw, .int .i64 x.hlo, .int .i64 x.hhi] 103)
  have h0' := g.keep h0
  have hb := Box.new w [.int .i64 x.pitch, .int .i64 x.draw, .int .i64 x.hlo, .int .i64 x.hhi] 103 w.heap.size rfl
  go_enter Try.func144, Try.ntmps144
  go_wp2_with (go_at_call 123; refine (goodFlute_any x _).mono ?_; rintro e w' ⟨rfl, hg⟩)
  go_ret
  exact ⟨rfl, g.tr hg⟩

def SomeIdx132 (c : Bool) (w : World) (e : Ending) (w' : World) : Prop := ∃ r : Int, e = .returned (.int .i64 r) ∧ decide (0 ≤ r) = c ∧ Gr w w'

set_option maxHeartbeats 1000000 in
theorem index132 (l : List Flute) (a : Option Addr) (cap b : Nat) (w : World) (hr : FRow w a l) (h0 : w.cell? ⟨b, 0, none⟩ = some (.func (.func 123) #[] #[])) :
    Calls Try.prog 166 #[.slice a l.length cap, .func (.func 144) #[] #[.pointer (some ⟨b, 0, none⟩)]] w (SomeIdx132 (!l.all goodF) w) := by
  have hm := hr.1
  go_enter Try.func166, Try.ntmps166
  go_wp2
  go_loopw [8] (fun i wr => ∃ k : Nat, k ≤ l.length ∧ i = .int .i64 k ∧ (l.take k).all goodF = true ∧ Gr w wr) (fun i wr => l.length - (intOf i).toNat)
  case atStart => exact ⟨0, Nat.zero_le _, rfl, rfl, Below.refl _ _⟩
  case round =>
    obtain ⟨k, hk, rfl, hall, hG⟩ := hrel
    have Hall : Hid _ := hall
    clear hall
    have hr1 := hr.grow hG
    have h1 := hG.keep h0
    by_cases hlt : k < l.length
    · obtain ⟨x, hx⟩ := get_of_lt hlt
      obtain ⟨b0, off, rfl, hb, q0, q1, q2, q3⟩ := FRow.get hr1 hx
      have Hx : Hid _ := hx
      clear hx
      cases hp : goodF x with
      | true =>
        go_wp2_with (go_at_call 144; refine (every105 x _ _ h1).mono ?_; rintro e w' ⟨rfl, hg⟩)
        go_roundw
        case rel => exact ⟨k + 1, by omega, by go_num, all_take_succ _ Hx.out Hall.out hp, hG.tr hg⟩
        case measure => simp [intOf]; omega
      | false =>
        go_wp2_with (go_at_call 144; refine (every105 x _ _ h1).mono ?_; rintro e w' ⟨rfl, hg⟩)
        go_ret
        exact ⟨k, rfl, by rw [not_all_of _ Hx.out hp]; simp, hG.tr hg⟩
    · have e : l.all goodF = true := by
        have h := Hall.out
        rwa [List.take_of_length_le (by omega)] at h
      have He := Lib.hid e
      clear e
      go_wp2
      go_ret
      exact ⟨-1, rfl, by rw [He.out]; decide, hG⟩

theorem contains104 (l : List Flute) (a : Option Addr) (cap b : Nat) (w : World) (hr : FRow w a l) (h0 : w.cell? ⟨b, 0, none⟩ = some (.func (.func 123) #[] #[])) :
    Calls Try.prog 143 #[.slice a l.length cap, .func (.func 144) #[] #[.pointer (some ⟨b, 0, none⟩)]] w fun e w' => e = .returned (.bool (!l.all goodF)) ∧ Gr w w' := by
  go_enter Try.func143, Try.ntmps143
  go_wp2_with (go_at_call 166; refine (index132 l _ _ _ _ hr h0).mono ?_; rintro e w' ⟨r, rfl, hc, hg⟩; have Hc := Lib.hid hc; clear hc)
  go_ret
  exact ⟨ret_bool Hc.out, hg⟩

theorem every67 (l : List Flute) (d : Bool) (hd : l.all goodF = d) (a : Option Addr) (cap : Nat) (w : World) (hr : FRow w a l) :
    Calls Try.prog 122 #[.slice a l.length cap, .func (.func 123) #[] #[]] w fun e w' => e = .returned (.bool d) ∧ Gr w w' := by
  subst hd
  have g := Gr.al w (.cells #[.func (.func 123) #[] #[]] 204)
  have hr' := hr.grow g
  have hb := (Box.new w [.func (.func 123) #[] #[]] 204 w.heap.size rfl).c1
  go_enter Try.func122, Try.ntmps122
  go_wp2_with (go_at_call 143; refine (contains104 l _ _ _ _ hr' hb).mono ?_; rintro e w' ⟨rfl, hg⟩)
  go_ret
  exact ⟨ret_bool (by simp), g.tr hg⟩

/-- The error of a store. -/
def checkL (ps : List Paper) (fs : List Flute) : Int :=
  if 8 < ps.length ∨ 4 < fs.length then 5 else if ps.length = 0 ∨ fs.length = 0 then 2 else if ps.all goodP && fs.all goodF then 0 else 2

def vStore (pa fa : Option Addr) (pn pc fn fc : Nat) : Value := .agg #[.slice pa pn pc, .slice fa fn fc]

set_option maxHeartbeats 2000000 in
theorem check_any (ps : List Paper) (fs : List Flute) (c : Int) (hc : checkL ps fs = c) (pa fa : Option Addr) (pc fc : Nat) (w : World) (hp : PRow w pa ps) (hf : FRow w fa fs) :
    Calls Try.prog 71 #[.agg #[.slice pa ps.length pc, .slice fa fs.length fc]] w fun e w' => e = .returned (.int .i64 c) ∧ Gr w w' := by
  subst hc
  have gg := Gr.al w (.cells #[.slice pa ps.length pc, .slice fa fs.length fc] 31)
  have hb := Box.new w [.slice pa ps.length pc, .slice fa fs.length fc] 31 w.heap.size rfl
  have hp' := hp.grow gg
  have hf' := hf.grow gg
  have hm1 := hp.1
  have hm2 := hf.1
  by_cases h1 : (8 : Int) < ps.length
  · have E : checkL ps fs = 5 := by unfold checkL; rw [if_pos (by omega)]
    rw [E]
    go_enter Try.func71, Try.ntmps71
    go_wp2
    go_ret
    exact ⟨rfl, gg⟩
  by_cases h2 : (4 : Int) < fs.length
  · have E : checkL ps fs = 5 := by unfold checkL; rw [if_pos (by omega)]
    rw [E]
    go_enter Try.func71, Try.ntmps71
    go_wp2
    go_ret
    exact ⟨rfl, gg⟩
  by_cases h3 : ((ps.length : Int) == 0) = true
  · have E : checkL ps fs = 2 := by
      have h3' : (ps.length : Int) = 0 := by simpa using h3
      unfold checkL; rw [if_neg (by omega), if_pos (by omega)]
    rw [E]
    go_enter Try.func71, Try.ntmps71
    go_wp2
    go_ret
    exact ⟨rfl, gg⟩
  by_cases h4 : ((fs.length : Int) == 0) = true
  · have E : checkL ps fs = 2 := by
      have h4' : (fs.length : Int) = 0 := by simpa using h4
      unfold checkL; rw [if_neg (by omega), if_pos (by omega)]
    rw [E]
    have h3' : ((ps.length : Int) == 0) = false := by simpa using h3
    go_enter Try.func71, Try.ntmps71
    go_wp2
    go_ret
    exact ⟨rfl, gg⟩
  have h3' : ((ps.length : Int) == 0) = false := by simpa using h3
  have h4' : ((fs.length : Int) == 0) = false := by simpa using h4
  have E0 : checkL ps fs = if ps.all goodP && fs.all goodF then 0 else 2 := by
    have h3'' : ¬ (ps.length : Int) = 0 := by simpa using h3
    have h4'' : ¬ (fs.length : Int) = 0 := by simpa using h4
    unfold checkL; rw [if_neg (by omega), if_neg (by omega)]
  have H0 := Lib.hid E0
  clear E0 h3 h4
  cases c1 : ps.all goodP with
  | false =>
    have E : checkL ps fs = 2 := by rw [H0.out, c1]; rfl
    rw [E]
    go_enter Try.func71, Try.ntmps71
    go_wp2_with (go_at_call 120; refine (every65 ps _ c1 _ _ _ hp').mono ?_; rintro e w1 ⟨rfl, hg⟩)
    go_ret
    exact ⟨rfl, gg.tr hg⟩
  | true =>
    cases c2 : fs.all goodF with
    | false =>
      have E : checkL ps fs = 2 := by rw [H0.out, c1, c2]; rfl
      rw [E]
      go_enter Try.func71, Try.ntmps71
      go_wp2_with (first | (go_at_call 120; refine (every65 ps _ c1 _ _ _ hp').mono ?_; rintro e w1 ⟨rfl, hg⟩; have hf2 := hf'.grow hg; obtain ⟨q0, q1⟩ := (hb.keep hg).c2) | (go_at_call 122; refine (every67 fs _ c2 _ _ _ hf2).mono ?_; rintro e w2 ⟨rfl, hg2⟩))
      go_ret
      exact ⟨rfl, (gg.tr hg).tr hg2⟩
    | true =>
      have E : checkL ps fs = 0 := by rw [H0.out, c1, c2]; rfl
      rw [E]
      go_enter Try.func71, Try.ntmps71
      go_wp2_with (first | (go_at_call 120; refine (every65 ps _ c1 _ _ _ hp').mono ?_; rintro e w1 ⟨rfl, hg⟩; have hf2 := hf'.grow hg; obtain ⟨q0, q1⟩ := (hb.keep hg).c2) | (go_at_call 122; refine (every67 fs _ c2 _ _ _ hf2).mono ?_; rintro e w2 ⟨rfl, hg2⟩))
      go_ret
      exact ⟨rfl, (gg.tr hg).tr hg2⟩

end Go.Proofs.Ytmioakcbgcgdhaa
