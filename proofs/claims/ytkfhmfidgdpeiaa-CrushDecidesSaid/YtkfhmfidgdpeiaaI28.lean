/- crush.Order, crush.Most. -/
import Derived.Test.YtkfhmfidgdpeiaaI27
import Derived.Test.YtkfhmfidgdpeiaaI18
namespace Go.Proofs.Ytkfhmfidgdpeiaa
set_option linter.unusedVariables false
set_option linter.unusedSimpArgs false
open Go.RowKit

theorem last_bd {t : List Stp} {days : Int} (h : TabOk t days) : 0 ≤ lastL t days ∧ lastL t days ≤ 1000 := by
  have h0 := until_pos h
  have h1 := until_len t days
  unfold lastL
  have hk : (untilL t days).length - 1 < t.length := by omega
  rw [List.getElem?_eq_getElem hk]
  exact h.keep _ (List.getElem_mem hk)

/-- Which sets of boxes stand on the last day. -/
def setsL (l : List Ld) (t : List Stp) (days : Int) : Int → Bool := standsTo l (lastL t days) (allN l + 1)

set_option maxRecDepth 100000 in
set_option maxHeartbeats 2000000 in
theorem order_none (l : List Ld) (t : List Stp) (days : Int) (hs : storedL 10 l t days = 0) (hF : setsL l t days ((allN l : Nat) : Int) = false) (a c : Option Addr) (cap cc : Nat) (hcc : t.length ≤ cc) (w : World) (hr : LRow w a l) (ht : TRow w c t) :
    Calls Try.prog 45 #[.slice a l.length cap, .slice c t.length cc, .int .i64 days] w fun e w' => e = .returned (.tuple #[.slice none 0 0, .int .i64 9]) ∧ Gr w w' := by
  obtain ⟨⟨l10, hl⟩, hT⟩ := stored_parts hs
  obtain ⟨k0, k1⟩ := last_bd hT
  have t10 := hT.t10
  have hu0 := until_pos hT
  have hu1 := until_len t days
  have hd := hT.day
  have l10' : l.length ≤ 10 := by omega
  have hB : ∀ x ∈ l, LdOk x := fun x hx => (hl x hx).1
  have cS : ∀ W, LRow W a l → TRow W c t → Calls Try.prog 75 #[.slice a l.length cap, .int .i64 10, .slice c t.length cc, .int .i64 days] W fun e w' => e = .returned (.int .i64 0) ∧ Gr W w' := fun W g1 g2 => by
    have h := stored_any 10 l t days a c cap cc W g1 g2
    rw [hs] at h
    exact h
  have CS := Lib.hid cS
  have HF := Lib.hid hF
  have HB := Lib.hid hB
  have HD := Lib.hid hd
  clear cS hs hl hT hF hB hd
  go_enter Try.func45, Try.ntmps45
  go_wp2_with (first
    | (go_at_call 75; refine (CS.out _ hr ht).mono ?_; rintro e w1 ⟨rfl, g1⟩)
    | (go_at_call 82; refine (last_any t days (by omega) HD.out hu0 hu1 c cc hcc _ (ht.grow g1)).mono ?_; rintro e w2 ⟨rfl, g2⟩)
    | (go_at_call 87; refine (pileOf_any l l10' HB.out a cap (lastL t days) k0 k1 _ (hr.grow (g1.tr g2))).mono ?_; rintro e w3 ⟨m, rfl, ⟨n, hm⟩, g3⟩)
    | (go_at_call 88; refine (order_no l l10' a cap (lastL t days) m n _ _ hm HF.out).mono ?_; rintro e w4 ⟨rfl, g4⟩))
  go_ret2
  exact ⟨rfl, g1.tr (g2.tr (g3.tr g4))⟩

set_option maxRecDepth 100000 in
set_option maxHeartbeats 2000000 in
theorem order_some (l : List Ld) (t : List Stp) (days : Int) (hs : storedL 10 l t days = 0) (hF : setsL l t days ((allN l : Nat) : Int) = true) (a c : Option Addr) (cap cc : Nat) (hcc : t.length ≤ cc) (w : World) (hr : LRow w a l) (ht : TRow w c t) :
    Calls Try.prog 45 #[.slice a l.length cap, .slice c t.length cc, .int .i64 days] w fun e w' => ∃ b d, e = .returned (.tuple #[.slice b (intsN (orderL l (lastL t days) (setsL l t days) (allN l))).length d, .int .i64 0]) ∧ IRow w' b (intsN (orderL l (lastL t days) (setsL l t days) (allN l))) ∧ Gr w w' := by
  obtain ⟨⟨l10, hl⟩, hT⟩ := stored_parts hs
  obtain ⟨k0, k1⟩ := last_bd hT
  have t10 := hT.t10
  have hu0 := until_pos hT
  have hu1 := until_len t days
  have hd := hT.day
  have l10' : l.length ≤ 10 := by omega
  have hB : ∀ x ∈ l, LdOk x := fun x hx => (hl x hx).1
  have cS : ∀ W, LRow W a l → TRow W c t → Calls Try.prog 75 #[.slice a l.length cap, .int .i64 10, .slice c t.length cc, .int .i64 days] W fun e w' => e = .returned (.int .i64 0) ∧ Gr W w' := fun W g1 g2 => by
    have h := stored_any 10 l t days a c cap cc W g1 g2
    rw [hs] at h
    exact h
  have CS := Lib.hid cS
  have HF := Lib.hid hF
  have HB := Lib.hid hB
  have HD := Lib.hid hd
  obtain ⟨R, hR⟩ : ∃ R, orderL l (lastL t days) (setsL l t days) (allN l) = R := ⟨_, rfl⟩
  rw [hR]
  have hO : ∀ W m n, LRow W a l → MapB W m n (setsL l t days) → Calls Try.prog 88 #[.agg #[.slice a l.length cap, .int .i64 (lastL t days), .map (some m)]] W fun e w' => ∃ b d, e = .returned (.tuple #[.slice b (intsN R).length d, .bool true]) ∧ IRow w' b (intsN R) ∧ Gr W w' := fun W m n h1 h2 => by
    have := order_yes l l10' hB a cap (lastL t days) k0 k1 m n (setsL l t days) rfl W h1 h2 hF
    rw [hR] at this
    exact this
  have HO := Lib.hid hO
  clear cS hs hl hT hF hB hd hR hO
  go_enter Try.func45, Try.ntmps45
  go_wp2_with (first
    | (go_at_call 75; refine (CS.out _ hr ht).mono ?_; rintro e w1 ⟨rfl, g1⟩)
    | (go_at_call 82; refine (last_any t days (by omega) HD.out hu0 hu1 c cc hcc _ (ht.grow g1)).mono ?_; rintro e w2 ⟨rfl, g2⟩)
    | (go_at_call 87; refine (pileOf_any l l10' HB.out a cap (lastL t days) k0 k1 _ (hr.grow (g1.tr g2))).mono ?_; rintro e w3 ⟨m, rfl, ⟨n, hm⟩, g3⟩)
    | (go_at_call 88; refine (HO.out _ m n (hr.grow (g1.tr (g2.tr g3))) hm).mono ?_; rintro e w4 ⟨b, d, rfl, r4, g4⟩))
  go_ret2
  exact ⟨b, d, rfl, r4, g1.tr (g2.tr (g3.tr g4))⟩

set_option maxRecDepth 100000 in
set_option maxHeartbeats 2000000 in
theorem most_ok (l : List Ld) (t : List Stp) (days : Int) (hs : storedL 10 l t days = 0) (a c : Option Addr) (cap cc : Nat) (hcc : t.length ≤ cc) (w : World) (hr : LRow w a l) (ht : TRow w c t) :
    Calls Try.prog 46 #[.slice a l.length cap, .slice c t.length cc, .int .i64 days] w fun e w' => ∃ b d, e = .returned (.tuple #[.slice b (intsN (mostTo (setsL l t days) (allN l + 1))).length d, .int .i64 0]) ∧ IRow w' b (intsN (mostTo (setsL l t days) (allN l + 1))) ∧ Gr w w' := by
  obtain ⟨⟨l10, hl⟩, hT⟩ := stored_parts hs
  obtain ⟨k0, k1⟩ := last_bd hT
  have t10 := hT.t10
  have hu0 := until_pos hT
  have hu1 := until_len t days
  have hd := hT.day
  have l10' : l.length ≤ 10 := by omega
  have hB : ∀ x ∈ l, LdOk x := fun x hx => (hl x hx).1
  have cS : ∀ W, LRow W a l → TRow W c t → Calls Try.prog 75 #[.slice a l.length cap, .int .i64 10, .slice c t.length cc, .int .i64 days] W fun e w' => e = .returned (.int .i64 0) ∧ Gr W w' := fun W g1 g2 => by
    have h := stored_any 10 l t days a c cap cc W g1 g2
    rw [hs] at h
    exact h
  have CS := Lib.hid cS
  have HB := Lib.hid hB
  have HD := Lib.hid hd
  obtain ⟨R, hR⟩ : ∃ R, mostTo (setsL l t days) (allN l + 1) = R := ⟨_, rfl⟩
  rw [hR]
  have hO : ∀ W m n, MapB W m n (setsL l t days) → Calls Try.prog 89 #[.agg #[.slice a l.length cap, .int .i64 (lastL t days), .map (some m)]] W fun e w' => ∃ b d, e = .returned (.slice b (intsN R).length d) ∧ IRow w' b (intsN R) ∧ Gr W w' := fun W m n h2 => by
    have := most_set l l10' a cap (lastL t days) m n (setsL l t days) W h2
    rw [hR] at this
    exact this
  have HO := Lib.hid hO
  clear cS hs hl hT hB hd hR hO
  go_enter Try.func46, Try.ntmps46
  go_wp2_with (first
    | (go_at_call 75; refine (CS.out _ hr ht).mono ?_; rintro e w1 ⟨rfl, g1⟩)
    | (go_at_call 82; refine (last_any t days (by omega) HD.out hu0 hu1 c cc hcc _ (ht.grow g1)).mono ?_; rintro e w2 ⟨rfl, g2⟩)
    | (go_at_call 87; refine (pileOf_any l l10' HB.out a cap (lastL t days) k0 k1 _ (hr.grow (g1.tr g2))).mono ?_; rintro e w3 ⟨m, rfl, ⟨n, hm⟩, g3⟩)
    | (go_at_call 89; refine (HO.out _ m n hm).mono ?_; rintro e w4 ⟨b, d, rfl, r4, g4⟩))
  go_ret2
  exact ⟨b, d, rfl, r4, g1.tr (g2.tr (g3.tr g4))⟩

end Go.Proofs.Ytkfhmfidgdpeiaa
