/- Contracts of the closures of a sheet, and of lowest. -/
import Derived.Test.YtmioakcbgcgdhaaB8
namespace Go.Proofs.Ytmioakcbgcgdhaa
set_option linter.unusedVariables false
set_option linter.unusedSimpArgs false
open Go.RowKit

theorem call133 (args : Array Value) (W : World) : (callFunc 124 args).run Try.prog W = .ok (.enter 124 args) W := by kernel_rfl

theorem call110 (args : Array Value) (W : World) : (callFunc 77 args).run Try.prog W = .ok (.enter 77 args) W := by kernel_rfl

theorem call111 (args : Array Value) (W : World) : (callFunc 78 args).run Try.prog W = .ok (.enter 78 args) W := by kernel_rfl

theorem f110_any (a b : Int) (w : World) :
    Calls Try.prog 77 #[.agg #[.int .i64 a, .int .i64 b]] w fun e w' => e = .returned (.int .i64 a) ∧ Gr w w' := by
  have gg := Gr.al w (.cells #[.int .i64 a, .int .i64 b] 38)
  go_enter Try.func77, Try.ntmps77
  go_wp2
  go_ret
  exact ⟨rfl, gg⟩

theorem f111_any (a b : Int) (w : World) :
    Calls Try.prog 78 #[.agg #[.int .i64 a, .int .i64 b]] w fun e w' => e = .returned (.int .i64 b) ∧ Gr w w' := by
  have gg := Gr.al w (.cells #[.int .i64 a, .int .i64 b] 38)
  go_enter Try.func78, Try.ntmps78
  go_wp2
  go_ret
  exact ⟨rfl, gg⟩

/-- One end of a span: the least number, or the greatest. -/
def endOf (up : Bool) (a b : Int) : Int := if up then b else a

def endFn (up : Bool) : FuncId := if up then 78 else 77

theorem callEnd (up : Bool) (args : Array Value) (W : World) : (callFunc (endFn up) args).run Try.prog W = .ok (.enter (endFn up) args) W := by
  cases up
  · exact call110 args W
  · exact call111 args W

theorem end_any (up : Bool) (a b : Int) (w : World) :
    Calls Try.prog (endFn up) #[.agg #[.int .i64 a, .int .i64 b]] w fun e w' => e = .returned (.int .i64 (endOf up a b)) ∧ Gr w w' := by
  cases up
  · exact f110_any a b w
  · exact f111_any a b w

set_option maxRecDepth 100000 in
set_option maxHeartbeats 1000000 in
theorem f133_any (up : Bool) (p : Paper) (h : goodP p = true) (b : Nat) (w : World) (hb : w.cell? ⟨b, 0, none⟩ = some (.func (.func (endFn up)) #[] #[])) :
    Calls Try.prog 124 #[.agg #[.int .i64 p.kind, .int .i64 p.weight, .int .i64 p.tlo, .int .i64 p.thi, .int .i64 p.mlo, .int .i64 p.mhi, .int .i64 p.price, .int .i64 p.strong], .pointer (some ⟨b, 0, none⟩)] w fun e w' =>
      e = .returned (.int .i64 (p.weight * (1000 + endOf up p.mlo p.mhi))) ∧ Gr w w' := by
  have gg := Gr.al w (.cells #[.int .i64 p.kind, .int .i64 p.weight, .int .i64 p.tlo, .int .i64 p.thi, .int .i64 p.mlo, .int .i64 p.mhi, .int .i64 p.price, .int .i64 p.strong] 100)
  have ob := Box.new w [.int .i64 p.kind, .int .i64 p.weight, .int .i64 p.tlo, .int .i64 p.thi, .int .i64 p.mlo, .int .i64 p.mhi, .int .i64 p.price, .int .i64 p.strong] 100 w.heap.size rfl
  obtain ⟨_, h1, h2, _, _, _, h3, h4, h5, _⟩ := goodP_iff h
  have he : 0 ≤ endOf up p.mlo p.mhi ∧ endOf up p.mlo p.mhi ≤ 200 := by
    unfold endOf
    split <;> omega
  obtain ⟨he0, he1⟩ := he
  obtain ⟨m0, m1⟩ := mul_bd (show 0 ≤ p.weight by omega) h2 (show 0 ≤ 1000 + endOf up p.mlo p.mhi by omega) (show 1000 + endOf up p.mlo p.mhi ≤ 1200 by omega)
  have hcall := callEnd up
  go_enter Try.func124, Try.ntmps124
  go_wp2
  refine wp_abs (fun W => Gr w W ∧ Box W w.heap.size [.int .i64 p.kind, .int .i64 p.weight, .int .i64 p.tlo, .int .i64 p.thi, .int .i64 p.mlo, .int .i64 p.mhi, .int .i64 p.price, .int .i64 p.strong]) ⟨gg, ob⟩ ?_
  clear gg ob
  rintro W ⟨gg, ob⟩
  have gd := gg.tr (Gr.dr _)
  obtain ⟨d0, d1, d2, d3, d4, d5, d6, d7⟩ := (ob.keep (Gr.dr _)).c8
  have d8 := gd.keep hb
  have hw1 : IntKind.i64.wrap (1000 + endOf up p.mlo p.mhi) = 1000 + endOf up p.mlo p.mhi := IntWalk.i64_in _ (by omega)
  have hw2 : IntKind.i64.wrap (p.weight * (1000 + endOf up p.mlo p.mhi)) = p.weight * (1000 + endOf up p.mlo p.mhi) := IntWalk.i64_in _ (by omega)
  clear he0 he1 m0 m1 h1 h2 h3 h4 h5
  go_region_held3 (fun w' => w'.cell? ⟨w.heap.size, 1, none⟩ = some (.int .i64 p.weight) ∧ w'.cell? ⟨w.heap.size, 4, none⟩ = some (.int .i64 p.mlo) ∧ w'.cell? ⟨w.heap.size, 5, none⟩ = some (.int .i64 p.mhi) ∧ w'.cell? ⟨b, 0, none⟩ = some (.func (.func (endFn up)) #[] #[])) (first | exact ⟨d1, d4, d5, d8⟩ | exact ⟨e1, e4, e5, e8⟩) (first | ((refine (end_any up _ _ _).mono ?_); rintro e w2 ⟨rfl, hx⟩; (obtain ⟨e0, e1, e2, e3, e4, e5, e6, e7⟩ := (ob.keep ((Gr.dr _).tr hx)).c8); have e8 := (gd.tr hx).keep hb))
  all_goals
    go_wp2
    go_ret
    exact ⟨rfl, gd.tr hx⟩

/-- The greatest number that divides both. -/
def gcdI (num den : Int) : Int := (Nat.gcd num.toNat den.toNat : Nat)

theorem gcdI_pos {num den : Int} (hd : 1 ≤ den) : 1 ≤ gcdI num den := by
  have : 0 < Nat.gcd num.toNat den.toNat := Nat.gcd_pos_of_pos_right _ (by omega)
  unfold gcdI
  omega

end Go.Proofs.Ytmioakcbgcgdhaa
