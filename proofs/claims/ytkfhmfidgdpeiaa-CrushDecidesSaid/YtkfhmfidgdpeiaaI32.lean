/- The document's examples of chapter 3, call by call. -/
import Derived.Test.YtkfhmfidgdpeiaaI31
namespace Go.Proofs.Ytkfhmfidgdpeiaa
set_option linter.unusedVariables false
set_option linter.unusedSimpArgs false
open Go.RowKit

def rd1 : List Int := [120, 110, 90]

def rd2 : List Int := [120, 110, 70, 60]

def rd3 : List Int := [100, 130, 104, 98]

def st3 : List Ld := [ld0, ld0, ld0]

def or3 : List Ld := [⟨100, 100, 50, 50⟩, ⟨200, 200, 100, 100⟩, ⟨40, 40, 60, 60⟩]

def mo3 : List Ld := [⟨100, 100, 50, 50⟩, ⟨40, 40, 60, 60⟩, ⟨50, 50, 60, 60⟩]

def ts1 : List Stp := [⟨0, 1000⟩]

theorem ex_dec1 (b o c : Nat) (w : World) (hr : IRow w (some ⟨b, o, none⟩) rd1) : Calls Try.prog 19 #[.agg #[.int .i64 5, .int .i64 100, .int .i64 80, .int .i64 1], .slice (some ⟨b, o, none⟩) 3 c, .int .i64 5] w fun e w' => e = .returned (.tuple #[.int .i64 3, .int .i64 0]) ∧ Gr w w' := by
  have h := decide_ok 5 100 80 1 5 rd1 (by decide +kernel) (some ⟨b, o, none⟩) c w hr (fun e => by cases e)
  rw [show stateL 5 100 80 1 (truthsL (Int.toNat 5) 5 rd1) = 3 from by decide +kernel] at h
  exact h

theorem ex_dec2 (b o c : Nat) (w : World) (hr : IRow w (some ⟨b, o, none⟩) rd2) : Calls Try.prog 19 #[.agg #[.int .i64 5, .int .i64 100, .int .i64 80, .int .i64 1], .slice (some ⟨b, o, none⟩) 4 c, .int .i64 5] w fun e w' => e = .returned (.tuple #[.int .i64 2, .int .i64 0]) ∧ Gr w w' := by
  have h := decide_ok 5 100 80 1 5 rd2 (by decide +kernel) (some ⟨b, o, none⟩) c w hr (fun e => by cases e)
  rw [show stateL 5 100 80 1 (truthsL (Int.toNat 5) 5 rd2) = 2 from by decide +kernel] at h
  exact h

theorem ex_need (b o c : Nat) (w : World) (hr : IRow w (some ⟨b, o, none⟩) rd1) : Calls Try.prog 20 #[.agg #[.int .i64 5, .int .i64 100, .int .i64 80, .int .i64 1], .slice (some ⟨b, o, none⟩) 3 c, .int .i64 5] w fun e w' => e = .returned (.tuple #[.int .i64 1, .int .i64 2, .int .i64 0]) ∧ Gr w w' := by
  have h := needF_ok 5 100 80 1 5 rd1 (by decide +kernel) (some ⟨b, o, none⟩) c w hr (fun e => by cases e)
  rw [show needL (Int.toNat 5) 100 80 1 5 rd1 1 100000 = 1 from by decide +kernel, show needL (Int.toNat 5) 100 80 1 5 rd1 2 0 = 2 from by decide +kernel] at h
  exact h

theorem ex_odd (b o c : Nat) (w : World) (hr : IRow w (some ⟨b, o, none⟩) rd3) : Calls Try.prog 27 #[.slice (some ⟨b, o, none⟩) 4 c, .int .i64 5, .int .i64 10] w fun e w' => ∃ a d, e = .returned (.tuple #[.slice a 1 d, .int .i64 0]) ∧ IRow w' a [1] ∧ Gr w w' := by
  have h := oddF_ok 5 10 rd3 (by decide) (by decide +kernel) (by decide +kernel) (by decide +kernel) (some ⟨b, o, none⟩) c w hr
  rw [show oddTo 5 10 rd3 rd3.length = [1] from by decide +kernel] at h
  exact h

theorem ex_loads (b o c : Nat) (w : World) (hr : LRow w (some ⟨b, o, none⟩) st3) : Calls Try.prog 35 #[.slice (some ⟨b, o, none⟩) 3 c] w fun e w' => ∃ a d, e = .returned (.tuple #[.slice a 3 d, .int .i64 0]) ∧ SRow w' a [⟨200, 220⟩, ⟨100, 110⟩, ⟨0, 0⟩] ∧ Gr w w' := by
  have h := loads_ok st3 (by decide +kernel) (some ⟨b, o, none⟩) c w hr
  rw [show spansL st3 = [⟨200, 220⟩, ⟨100, 110⟩, ⟨0, 0⟩] from rfl] at h
  exact h

theorem ex_fall1 (b o c : Nat) (a : Option Addr) (w : World) (hr : LRow w (some ⟨b, o, none⟩) st3) (ht : TRow w a ts0) : Calls Try.prog 36 #[.slice (some ⟨b, o, none⟩) 3 c, .slice a 3 3, .int .i64 40] w fun e w' => e = .returned (.tuple #[.int .i64 30, .int .i64 0, .int .i64 0]) ∧ Gr w w' := by
  have h := fall_ok st3 ts0 40 (by decide +kernel) (some ⟨b, o, none⟩) a c 3 (by decide) w hr ht
  rw [show fallV st3 ts0 40 = .tuple #[.int .i64 30, .int .i64 0, .int .i64 0] from by kernel_rfl] at h
  exact h

theorem ex_fall2 (b o c : Nat) (a : Option Addr) (w : World) (hr : LRow w (some ⟨b, o, none⟩) st3) (ht : TRow w a ts0) : Calls Try.prog 36 #[.slice (some ⟨b, o, none⟩) 3 c, .slice a 3 3, .int .i64 29] w fun e w' => e = .returned (.tuple #[.int .i64 0, .int .i64 0, .int .i64 7]) ∧ Gr w w' := by
  have h := fall_ok st3 ts0 29 (by decide +kernel) (some ⟨b, o, none⟩) a c 3 (by decide) w hr ht
  rw [show fallV st3 ts0 29 = .tuple #[.int .i64 0, .int .i64 0, .int .i64 7] from by kernel_rfl] at h
  exact h

theorem ex_order (b o c : Nat) (a : Option Addr) (w : World) (hr : LRow w (some ⟨b, o, none⟩) or3) (ht : TRow w a ts1) : Calls Try.prog 45 #[.slice (some ⟨b, o, none⟩) 3 c, .slice a 1 1, .int .i64 0] w fun e w' => ∃ d n, e = .returned (.tuple #[.slice d 3 n, .int .i64 0]) ∧ IRow w' d [1, 0, 2] ∧ Gr w w' := by
  have h := order_some or3 ts1 0 (by decide +kernel) (by decide +kernel) (some ⟨b, o, none⟩) a c 1 (by decide) w hr ht
  rw [show orderL or3 (lastL ts1 0) (setsL or3 ts1 0) (allN or3) = [1, 0, 2] from by decide +kernel] at h
  exact h

theorem ex_most (b o c : Nat) (a : Option Addr) (w : World) (hr : LRow w (some ⟨b, o, none⟩) mo3) (ht : TRow w a ts1) : Calls Try.prog 46 #[.slice (some ⟨b, o, none⟩) 3 c, .slice a 1 1, .int .i64 0] w fun e w' => ∃ d n, e = .returned (.tuple #[.slice d 2 n, .int .i64 0]) ∧ IRow w' d [0, 1] ∧ Gr w w' := by
  have h := most_ok mo3 ts1 0 (by decide +kernel) (some ⟨b, o, none⟩) a c 1 (by decide) w hr ht
  rw [show mostTo (setsL mo3 ts1 0) (allN mo3 + 1) = [0, 1] from by decide +kernel] at h
  exact h

end Go.Proofs.Ytkfhmfidgdpeiaa
