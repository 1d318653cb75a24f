/- Contracts of total: what all papers of a board have together. -/
import Derived.Test.YtmioakcbgcgdhaaB7
namespace Go.Proofs.Ytmioakcbgcgdhaa
set_option linter.unusedVariables false
set_option linter.unusedSimpArgs false
open Go.RowKit

/-- What the first k papers of the store have together. -/
def totalTo (ps : List Paper) (fs : List Flute) (mp mf : List Int) (of : Paper → Int) : Nat → Int
  | 0 => 0
  | k + 1 => totalTo ps fs mp mf of k + of (paperN ps k) * usedL fs mp mf k

def totalL (ps : List Paper) (fs : List Flute) (mp mf : List Int) (of : Paper → Int) : Int := totalTo ps fs mp mf of ps.length

theorem paperN_eq {ps : List Paper} {n : Nat} {p : Paper} (h : ps[n]? = some p) : paperN ps n = p := by
  simp [paperN, h]

theorem mul_bd {a b A B : Int} (a0 : 0 ≤ a) (a1 : a ≤ A) (b0 : 0 ≤ b) (b1 : b ≤ B) : 0 ≤ a * b ∧ a * b ≤ A * B :=
  ⟨Int.mul_nonneg a0 b0, Int.mul_le_mul a1 b1 b0 (by omega)⟩

theorem totalTo_bd {ps : List Paper} {fs : List Flute} {mp mf : List Int} (F : Fine ps fs mp mf) {of : Paper → Int} {A : Int} (hA : ∀ p, goodP p = true → 0 ≤ of p ∧ of p ≤ A) : ∀ k, k ≤ ps.length → 0 ≤ totalTo ps fs mp mf of k ∧ totalTo ps fs mp mf of k ≤ A * 1000000000 * k
  | 0, _ => by simp [totalTo]
  | k + 1, hk => by
    obtain ⟨h1, h2⟩ := totalTo_bd F hA k (by omega)
    obtain ⟨p, hp⟩ := get_of_lt (show k < ps.length by omega)
    obtain ⟨a0, a1⟩ := hA p (F.good k p hp)
    obtain ⟨u0, u1⟩ := used_bd F (k : Int)
    obtain ⟨m0, m1⟩ := mul_bd a0 a1 u0 u1
    unfold totalTo
    rw [paperN_eq hp]
    refine ⟨by omega, ?_⟩
    rw [show A * 1000000000 * ((k + 1 : Nat) : Int) = A * 1000000000 * (k : Int) + A * 1000000000 from by rw [Int.natCast_add, Int.mul_add]; simp]
    omega

theorem total_bd {ps : List Paper} {fs : List Flute} {mp mf : List Int} (F : Fine ps fs mp mf) {of : Paper → Int} {A : Int} (hA0 : 0 ≤ A) (hA : ∀ p, goodP p = true → 0 ≤ of p ∧ of p ≤ A) : 0 ≤ totalL ps fs mp mf of ∧ totalL ps fs mp mf of ≤ A * 8000000000 := by
  obtain ⟨h1, h2⟩ := totalTo_bd F hA ps.length (Nat.le_refl _)
  refine ⟨h1, Int.le_trans h2 ?_⟩
  have h3 := F.np
  rw [Int.mul_assoc]
  exact Int.mul_le_mul_of_nonneg_left (by omega) hA0

set_option maxRecDepth 100000 in
set_option maxHeartbeats 4000000 in
theorem total0 (ps : List Paper) (fs : List Flute) (mp mf : List Int) (F : Fine ps fs mp mf) (of : Paper → Int) (hA : ∀ p, goodP p = true → 0 ≤ of p ∧ of p ≤ 1000000000) (fid : FuncId) (pa fa ma ga : Option Addr) (pc fc mc gc m : Nat) (w : World)
    (hcall : ∀ (args : Array Value) (W : World), (callFunc fid args).run Try.prog W = .ok (.enter fid args) W)
    (hof : ∀ (p : Paper) (W : World), goodP p = true → Gr w W → Calls Try.prog fid #[.agg #[.int .i64 p.kind, .int .i64 p.weight, .int .i64 p.tlo, .int .i64 p.thi, .int .i64 p.mlo, .int .i64 p.mhi, .int .i64 p.price, .int .i64 p.strong]] W fun e W' => e = .returned (.int .i64 (of p)) ∧ Gr W W')
    (hp : PRow w pa ps) (hm : MapIs w m 5 (usedL fs mp mf)) :
    Calls Try.prog 81 #[.agg #[.slice ma mp.length mc, .slice ga mf.length gc, .slice pa ps.length pc, .slice fa fs.length fc, .int .i64 (partsL fs mf), .map (some m)], .func (.func fid) #[] #[]] w fun e w' =>
      e = .returned (.int .i64 (totalL ps fs mp mf of)) ∧ Gr w w' := by
  have hl1 := hp.1
  have hl8 := F.np
  have HF := Lib.hid F
  have HA := Lib.hid hA
  have Hof := Lib.hid hof
  clear hof hA
  have hb := Box.new w [.slice ma mp.length mc, .slice ga mf.length gc, .slice pa ps.length pc, .slice fa fs.length fc, .int .i64 (partsL fs mf), .map (some m)] 109 w.heap.size rfl
  have gg := Gr.al w (.cells #[.slice ma mp.length mc, .slice ga mf.length gc, .slice pa ps.length pc, .slice fa fs.length fc, .int .i64 (partsL fs mf), .map (some m)] 109)
  have HE := Lib.hid (show totalTo ps fs mp mf of ps.length = totalL ps fs mp mf of from rfl)
  go_enter Try.func81, Try.ntmps81
  go_wp2
  refine wp_abs (fun W => Gr w W ∧ Box W w.heap.size [.slice ma mp.length mc, .slice ga mf.length gc, .slice pa ps.length pc, .slice fa fs.length fc, .int .i64 (partsL fs mf), .map (some m)]) ⟨gg, hb⟩ ?_
  clear gg hb
  rintro W ⟨gW, hb⟩
  go_loopw [12, 5] (fun i s wr => ∃ k : Nat, k ≤ ps.length ∧ i = .int .i64 k ∧ s = .int .i64 (totalTo ps fs mp mf of k) ∧ Gr w wr ∧ Box wr w.heap.size [.slice ma mp.length mc, .slice ga mf.length gc, .slice pa ps.length pc, .slice fa fs.length fc, .int .i64 (partsL fs mf), .map (some m)]) (fun i s wr => ps.length - (intOf i).toNat)
  case atStart => exact ⟨0, Nat.zero_le _, rfl, rfl, gW, hb⟩
  case round =>
    clear gW hb
    obtain ⟨k, hk, rfl, rfl, gW, hb⟩ := hrel
    by_cases hlt : k < ps.length
    · obtain ⟨x, hx⟩ := get_of_lt hlt
      have hgood := HF.out.good k x hx
      obtain ⟨a0, a1⟩ := HA.out x hgood
      obtain ⟨u0, u1⟩ := used_bd HF.out (k : Int)
      obtain ⟨m0, m1⟩ := mul_bd a0 a1 u0 u1
      obtain ⟨t0, t1⟩ := totalTo_bd HF.out HA.out k (by omega)
      have hstep : totalTo ps fs mp mf of (k + 1) = totalTo ps fs mp mf of k + of x * usedL fs mp mf k := by
        show totalTo ps fs mp mf of k + of (paperN ps k) * usedL fs mp mf k = _
        rw [paperN_eq hx]
      have Hstep := Lib.hid hstep
      have Hgood := Lib.hid hgood
      obtain ⟨b0, off0, rfl, hb0, r0, r1, r2, r3, r4, r5, r6, r7⟩ := PRow.get (hp.grow gW) hx
      clear hstep hgood hx
      have gn := Gr.al wr (.cells #[.int .i64 x.kind, .int .i64 x.weight, .int .i64 x.tlo, .int .i64 x.thi, .int .i64 x.mlo, .int .i64 x.mhi, .int .i64 x.price, .int .i64 x.strong] 100)
      have ob := (Box.new wr [.int .i64 x.kind, .int .i64 x.weight, .int .i64 x.tlo, .int .i64 x.thi, .int .i64 x.mlo, .int .i64 x.mhi, .int .i64 x.price, .int .i64 x.strong] 100 wr.heap.size rfl)
      go_wp2
      refine wp_abs (fun W => Gr wr W ∧ Box W wr.heap.size [.int .i64 x.kind, .int .i64 x.weight, .int .i64 x.tlo, .int .i64 x.thi, .int .i64 x.mlo, .int .i64 x.mhi, .int .i64 x.price, .int .i64 x.strong]) ⟨gn, ob⟩ ?_
      clear gn ob
      rintro W1 ⟨gn, ob⟩
      have gd := gn.tr (Gr.dr _)
      obtain ⟨d0, d1, d2, d3, d4, d5, d6, d7⟩ := (ob.keep (Gr.dr _)).c8
      obtain ⟨q0, q1, q2, q3, q4, q5⟩ := (hb.keep gd).c6
      have hlook := (hm.keep (gW.tr gd)).look (k : Int) (wf64 (by omega) (by omega))
      have hw1 : IntKind.i64.wrap (of x * usedL fs mp mf k) = of x * usedL fs mp mf k := IntWalk.i64_in _ (by omega)
      have hw2 : IntKind.i64.wrap (totalTo ps fs mp mf of k + of x * usedL fs mp mf k) = totalTo ps fs mp mf of k + of x * usedL fs mp mf k := IntWalk.i64_in _ (by omega)
      clear a0 a1 u0 u1 m0 m1 t0 t1
      go_region_held3 (fun w' => w'.cell? ⟨wr.heap.size, 0, none⟩ = some (.int .i64 x.kind) ∧ w'.cell? ⟨wr.heap.size, 1, none⟩ = some (.int .i64 x.weight) ∧ w'.cell? ⟨wr.heap.size, 2, none⟩ = some (.int .i64 x.tlo) ∧ w'.cell? ⟨wr.heap.size, 3, none⟩ = some (.int .i64 x.thi) ∧ w'.cell? ⟨wr.heap.size, 4, none⟩ = some (.int .i64 x.mlo) ∧ w'.cell? ⟨wr.heap.size, 5, none⟩ = some (.int .i64 x.mhi) ∧ w'.cell? ⟨wr.heap.size, 6, none⟩ = some (.int .i64 x.price) ∧ w'.cell? ⟨wr.heap.size, 7, none⟩ = some (.int .i64 x.strong) ∧ w'.cell? ⟨w.heap.size, 5, none⟩ = some (.map (some m)) ∧ (Instr.lookup 107 (.map (some m)) (.int .i64 k) false).run Try.prog w' = .ok (.int .i64 (usedL fs mp mf k)) w') (first | exact ⟨d0, d1, d2, d3, d4, d5, d6, d7, q5, hlook⟩ | exact ⟨e0, e1, e2, e3, e4, e5, e6, e7, s5, hlook2⟩) (first | ((refine (Hof.out x _ Hgood.out (gW.tr gd)).mono ?_); rintro e w2 ⟨rfl, hx⟩; (obtain ⟨e0, e1, e2, e3, e4, e5, e6, e7⟩ := (ob.keep ((Gr.dr _).tr hx)).c8); (obtain ⟨s0, s1, s2, s3, s4, s5⟩ := (hb.keep (gd.tr hx)).c6); have hlook2 := (hm.keep (gW.tr (gd.tr hx))).look (k : Int) (wf64 (by omega) (by omega))))
      all_goals
        clear hw1 hw2
        go_wp2
        refine ⟨⟨k + 1, by omega, by go_num, by rw [Hstep.out], gW.tr (gd.tr hx), hb.keep (gd.tr hx)⟩, ?_⟩
        simp [intOf]
        omega
    · obtain rfl : k = ps.length := by omega
      go_wp2
      go_ret
      exact ⟨ret_int HE.out, gW⟩

set_option maxRecDepth 100000 in
set_option maxHeartbeats 4000000 in
theorem total1 (ps : List Paper) (fs : List Flute) (mp mf : List Int) (F : Fine ps fs mp mf) (of : Paper → Int) (hA : ∀ p, goodP p = true → 0 ≤ of p ∧ of p ≤ 1000000000) (fid : FuncId) (v : Value) (pa fa ma ga : Option Addr) (pc fc mc gc m : Nat) (w : World)
    (hcall : ∀ (args : Array Value) (W : World), (callFunc fid args).run Try.prog W = .ok (.enter fid args) W)
    (hof : ∀ (p : Paper) (W : World), goodP p = true → Gr w W → Calls Try.prog fid #[.agg #[.int .i64 p.kind, .int .i64 p.weight, .int .i64 p.tlo, .int .i64 p.thi, .int .i64 p.mlo, .int .i64 p.mhi, .int .i64 p.price, .int .i64 p.strong], v] W fun e W' => e = .returned (.int .i64 (of p)) ∧ Gr W W')
    (hp : PRow w pa ps) (hm : MapIs w m 5 (usedL fs mp mf)) :
    Calls Try.prog 81 #[.agg #[.slice ma mp.length mc, .slice ga mf.length gc, .slice pa ps.length pc, .slice fa fs.length fc, .int .i64 (partsL fs mf), .map (some m)], .func (.func fid) #[] #[v]] w fun e w' =>
      e = .returned (.int .i64 (totalL ps fs mp mf of)) ∧ Gr w w' := by
  have hl1 := hp.1
  have hl8 := F.np
  have HF := Lib.hid F
  have HA := Lib.hid hA
  have Hof := Lib.hid hof
  clear hof hA
  have hb := Box.new w [.slice ma mp.length mc, .slice ga mf.length gc, .slice pa ps.length pc, .slice fa fs.length fc, .int .i64 (partsL fs mf), .map (some m)] 109 w.heap.size rfl
  have gg := Gr.al w (.cells #[.slice ma mp.length mc, .slice ga mf.length gc, .slice pa ps.length pc, .slice fa fs.length fc, .int .i64 (partsL fs mf), .map (some m)] 109)
  have HE := Lib.hid (show totalTo ps fs mp mf of ps.length = totalL ps fs mp mf of from rfl)
  go_enter Try.func81, Try.ntmps81
  go_wp2
  refine wp_abs (fun W => Gr w W ∧ Box W w.heap.size [.slice ma mp.length mc, .slice ga mf.length gc, .slice pa ps.length pc, .slice fa fs.length fc, .int .i64 (partsL fs mf), .map (some m)]) ⟨gg, hb⟩ ?_
  clear gg hb
  rintro W ⟨gW, hb⟩
  go_loopw [12, 5] (fun i s wr => ∃ k : Nat, k ≤ ps.length ∧ i = .int .i64 k ∧ s = .int .i64 (totalTo ps fs mp mf of k) ∧ Gr w wr ∧ Box wr w.heap.size [.slice ma mp.length mc, .slice ga mf.length gc, .slice pa ps.length pc, .slice fa fs.length fc, .int .i64 (partsL fs mf), .map (some m)]) (fun i s wr => ps.length - (intOf i).toNat)
  case atStart => exact ⟨0, Nat.zero_le _, rfl, rfl, gW, hb⟩
  case round =>
    clear gW hb
    obtain ⟨k, hk, rfl, rfl, gW, hb⟩ := hrel
    by_cases hlt : k < ps.length
    · obtain ⟨x, hx⟩ := get_of_lt hlt
      have hgood := HF.out.good k x hx
      obtain ⟨a0, a1⟩ := HA.out x hgood
      obtain ⟨u0, u1⟩ := used_bd HF.out (k : Int)
      obtain ⟨m0, m1⟩ := mul_bd a0 a1 u0 u1
      obtain ⟨t0, t1⟩ := totalTo_bd HF.out HA.out k (by omega)
      have hstep : totalTo ps fs mp mf of (k + 1) = totalTo ps fs mp mf of k + of x * usedL fs mp mf k := by
        show totalTo ps fs mp mf of k + of (paperN ps k) * usedL fs mp mf k = _
        rw [paperN_eq hx]
      have Hstep := Lib.hid hstep
      have Hgood := Lib.hid hgood
      obtain ⟨b0, off0, rfl, hb0, r0, r1, r2, r3, r4, r5, r6, r7⟩ := PRow.get (hp.grow gW) hx
      clear hstep hgood hx
      have gn := Gr.al wr (.cells #[.int .i64 x.kind, .int .i64 x.weight, .int .i64 x.tlo, .int .i64 x.thi, .int .i64 x.mlo, .int .i64 x.mhi, .int .i64 x.price, .int .i64 x.strong] 100)
      have ob := (Box.new wr [.int .i64 x.kind, .int .i64 x.weight, .int .i64 x.tlo, .int .i64 x.thi, .int .i64 x.mlo, .int .i64 x.mhi, .int .i64 x.price, .int .i64 x.strong] 100 wr.heap.size rfl)
      go_wp2
      refine wp_abs (fun W => Gr wr W ∧ Box W wr.heap.size [.int .i64 x.kind, .int .i64 x.weight, .int .i64 x.tlo, .int .i64 x.thi, .int .i64 x.mlo, .int .i64 x.mhi, .int .i64 x.price, .int .i64 x.strong]) ⟨gn, ob⟩ ?_
      clear gn ob
      rintro W1 ⟨gn, ob⟩
      have gd := gn.tr (Gr.dr _)
      obtain ⟨d0, d1, d2, d3, d4, d5, d6, d7⟩ := (ob.keep (Gr.dr _)).c8
      obtain ⟨q0, q1, q2, q3, q4, q5⟩ := (hb.keep gd).c6
      have hlook := (hm.keep (gW.tr gd)).look (k : Int) (wf64 (by omega) (by omega))
      have hw1 : IntKind.i64.wrap (of x * usedL fs mp mf k) = of x * usedL fs mp mf k := IntWalk.i64_in _ (by omega)
      have hw2 : IntKind.i64.wrap (totalTo ps fs mp mf of k + of x * usedL fs mp mf k) = totalTo ps fs mp mf of k + of x * usedL fs mp mf k := IntWalk.i64_in _ (by omega)
      clear a0 a1 u0 u1 m0 m1 t0 t1
      go_region_held3 (fun w' => w'.cell? ⟨wr.heap.size, 0, none⟩ = some (.int .i64 x.kind) ∧ w'.cell? ⟨wr.heap.size, 1, none⟩ = some (.int .i64 x.weight) ∧ w'.cell? ⟨wr.heap.size, 2, none⟩ = some (.int .i64 x.tlo) ∧ w'.cell? ⟨wr.heap.size, 3, none⟩ = some (.int .i64 x.thi) ∧ w'.cell? ⟨wr.heap.size, 4, none⟩ = some (.int .i64 x.mlo) ∧ w'.cell? ⟨wr.heap.size, 5, none⟩ = some (.int .i64 x.mhi) ∧ w'.cell? ⟨wr.heap.size, 6, none⟩ = some (.int .i64 x.price) ∧ w'.cell? ⟨wr.heap.size, 7, none⟩ = some (.int .i64 x.strong) ∧ w'.cell? ⟨w.heap.size, 5, none⟩ = some (.map (some m)) ∧ (Instr.lookup 107 (.map (some m)) (.int .i64 k) false).run Try.prog w' = .ok (.int .i64 (usedL fs mp mf k)) w') (first | exact ⟨d0, d1, d2, d3, d4, d5, d6, d7, q5, hlook⟩ | exact ⟨e0, e1, e2, e3, e4, e5, e6, e7, s5, hlook2⟩) (first | ((refine (Hof.out x _ Hgood.out (gW.tr gd)).mono ?_); rintro e w2 ⟨rfl, hx⟩; (obtain ⟨e0, e1, e2, e3, e4, e5, e6, e7⟩ := (ob.keep ((Gr.dr _).tr hx)).c8); (obtain ⟨s0, s1, s2, s3, s4, s5⟩ := (hb.keep (gd.tr hx)).c6); have hlook2 := (hm.keep (gW.tr (gd.tr hx))).look (k : Int) (wf64 (by omega) (by omega))))
      all_goals
        clear hw1 hw2
        go_wp2
        refine ⟨⟨k + 1, by omega, by go_num, by rw [Hstep.out], gW.tr (gd.tr hx), hb.keep (gd.tr hx)⟩, ?_⟩
        simp [intOf]
        omega
    · obtain rfl : k = ps.length := by omega
      go_wp2
      go_ret
      exact ⟨ret_int HE.out, gW⟩

end Go.Proofs.Ytmioakcbgcgdhaa
