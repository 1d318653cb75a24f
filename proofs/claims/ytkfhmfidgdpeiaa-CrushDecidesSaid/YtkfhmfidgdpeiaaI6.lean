/- slices.Repeat of one box. -/
import Derived.Test.YtkfhmfidgdpeiaaI5
import Derived.Test.YtkfhmfidgdpeiaaShelf
import Derived.Laws.CopyRow
import Derived.Laws.CopyOwn
import Derived.Laws.MakeOwn
import Derived.Deep.WholeRow
namespace Go.Proofs.Ytkfhmfidgdpeiaa
set_option linter.unusedVariables false
set_option linter.unusedSimpArgs false
open Go.RowKit

section
variable {P : Program}

/-- copy of elements of whatever size. -/
theorem run_copy_wide (w : World) (dT sT ty elem : TypeId) (g o dLen dCap : Nat) (a : Addr) (sLen sCap m : Nat) (sz : Nat) (cur : Array Value) (t : TypeId) (cs : List Value)
    (hu : P.underlying dT = some (.slice elem)) (hs : (P.info? elem).map (·.size) = some sz)
    (hg : w.heap[g]? = some (.cells cur t (0, 0))) (hm : Nat.min sLen dLen = m) (hn : cs.length = m * sz)
    (hsrc : ∀ j v, cs[j]? = some v → w.cell? (a.add j) = some v) (hfit : o + cs.length ≤ cur.size) (h1 : ∀ v ∈ cs, v.oneCell' = true) :
    (Builtin.copy_ #[dT, sT] ty #[.slice (some ⟨g, o, none⟩) dLen dCap, .slice (some a) sLen sCap]).run P w =
      .ok (goInt m) (w.setRow g (cur.toList.take o ++ cs ++ cur.toList.drop (o + cs.length)).toArray) := by
  have hl := run_loadCells_list (P := P) w a cs hsrc
  have hst := run_storeCells_at P g o t cs 0 cur w hg (by simpa using hfit) h1
  cases hq : P.info? elem with
  | none => simp [hq] at hs
  | some i =>
    have hi : i.size = sz := by simpa [hq] using hs
    simp [Builtin.copy_, run_underlying hu, Builtin.lenOf, Builtin.firstCells, sizeOf, typeInfo, hq, hi, hm, ← hn, hl, hst]

end

def rep (n : Nat) (x : Ld) : List Value := (List.replicate n x).flatMap encL

theorem rep_len (n : Nat) (x : Ld) : (rep n x).length = 4 * n := by
  induction n with
  | zero => rfl
  | succ n ih => simp [rep, List.replicate_succ, encL] at ih ⊢; omega

theorem rep_add (n m : Nat) (x : Ld) : rep (n + m) x = rep n x ++ rep m x := by
  unfold rep
  rw [← List.replicate_append_replicate, List.flatMap_append]

theorem rep_one (n : Nat) (x : Ld) : ∀ v ∈ rep n x, v.oneCell' = true := by
  intro v hv
  obtain ⟨y, hy, hv⟩ := List.mem_flatMap.1 hv
  have e := (List.mem_replicate.1 hy).2
  rw [e] at hv
  have hv' : v ∈ [Value.int .i64 x.sl, .int .i64 x.sh, .int .i64 x.wl, .int .i64 x.wh] := hv
  simp only [List.mem_cons, List.not_mem_nil, or_false] at hv'
  rcases hv' with h | h | h | h <;> (rw [h]; rfl)

theorem rep_at {k j i : Nat} {x : Ld} (hj : j < k) (hi : i < 4) : (rep k x)[j * 4 + i]? = (encL x)[i]? := by
  have e : rep k x = rep j x ++ (rep 1 x ++ rep (k - j - 1) x) := by rw [← rep_add, ← rep_add]; congr 1; omega
  have e1 : rep 1 x = encL x := by simp [rep]
  rw [e, List.getElem?_append_right (by rw [rep_len]; omega), rep_len, show j * 4 + i - 4 * j = i by omega, List.getElem?_append_left (by rw [rep_len]; omega), e1]

theorem mul_one64 (c : Nat) (hc : c ≤ 1000) (w : World) :
    Calls Try.prog 104 #[.int .u64 1, .int .u64 (c : Int)] w fun e w' => e = .returned (.tuple #[.int .u64 0, .int .u64 (c : Int)]) ∧ w' = w := by
  have h := Try.bits_Mul 1 c (by omega) (by omega) w
  have e1 : 1 * c / 18446744073709551616 = 0 := by omega
  have e2 : 1 * c % 18446744073709551616 = c := by omega
  rw [e1, e2] at h
  exact h

theorem infoLd : (Try.prog.info? 70).map (fun i => (i.zero, i.size, i.bytes)) = some (some (.agg #[.int .i64 0, .int .i64 0, .int .i64 0, .int .i64 0]), 4, 32) := by kernel_rfl

theorem infoLd4 : (Try.prog.info? 70).map (·.size) = some 4 := by kernel_rfl

set_option maxRecDepth 100000 in
set_option maxHeartbeats 2000000 in
theorem repeat_one (x : Ld) (c : Nat) (h1 : 1 ≤ c) (h2 : c ≤ 1000) (a : Option Addr) (cap : Nat) (w : World) (hr : LRow w a [x]) :
    Calls Try.prog 85 #[.slice a 1 cap, .int .i64 (c : Int)] w fun e w' => ∃ a', e = .returned (.slice a' c c) ∧ LRow w' a' (List.replicate c x) ∧ Gr w w' := by
  obtain ⟨i0, hi, hz⟩ := Option.map_eq_some_iff.1 infoLd
  simp only [Prod.mk.injEq] at hz
  obtain ⟨hz0, hz1, hz2⟩ := hz
  have hmk := run_make (P := Try.prog) w 53 70 i0 _ Try.underlying53 hi hz0 .i64 .i64 (c : Int) (c : Int) (by omega) (Int.le_refl _) (by rw [hz2]; omega) (by omega)
  rw [hz1] at hmk
  simp only [Int.toNat_natCast] at hmk
  have d0 : decide ((c : Int) < 0) = false := by simp
  have d1 : decide ((9223372036854775807 : Int) < (c : Int)) = false := by simp; omega
  have v0 : IntKind.u64.wrap (c : Int) = (c : Int) := by rw [IntKind.wrap_u64]; omega
  have v1 : IntKind.i64.wrap (c : Int) = (c : Int) := IntWalk.i64_in _ (by omega)
  go_enter Try.func85, Try.ntmps85
  obtain ⟨b, off, rfl, hb, _⟩ := hr.2 0 x rfl
  have hnew : (w.alloc (.cells (madeCells #[.int .i64 0, .int .i64 0, .int .i64 0, .int .i64 0] (c * 4)) 70)).heap[w.heap.size]? = some (.cells (madeCells #[.int .i64 0, .int .i64 0, .int .i64 0, .int .i64 0] (c * 4)) 70) := World.alloc_heap_new w _
  have hr1 := hr.grow (Gr.al w (.cells (madeCells #[.int .i64 0, .int .i64 0, .int .i64 0, .int .i64 0] (c * 4)) 70))
  have hsrc : ∀ j v, (rep 1 x)[j]? = some v → (w.alloc (.cells (madeCells #[.int .i64 0, .int .i64 0, .int .i64 0, .int .i64 0] (c * 4)) 70)).cell? ((Addr.mk b off none).add j) = some v := by
    intro j v hv
    obtain ⟨b', off', e', _, hc⟩ := hr1.2 0 x rfl
    injection e' with e'
    injection e' with e1 e2 _
    subst e1; subst e2
    have h := hc j v (by simpa [rep] using hv)
    rw [WideShapes.add_plain]
    simpa using h
  have hcp := run_copy_wide (P := Try.prog) _ 53 53 3 70 w.heap.size 0 c c ⟨b, off, none⟩ 1 cap 1 4 _ 70 (rep 1 x) Try.underlying53 infoLd4 hnew (Nat.min_eq_left h1) (by rw [rep_len]) hsrc (by rw [rep_len, size_madeCells]; omega) (rep_one 1 x)
  rw [World.setRow_alloc_new, show goInt ((1 : Nat) : Int) = .int .i64 1 from rfl] at hcp
  obtain ⟨rest, hrest⟩ : ∃ rest : List Value, (madeCells #[Value.int .i64 0, .int .i64 0, .int .i64 0, .int .i64 0] (c * 4)).toList.drop (0 + (rep 1 x).length) = rest := ⟨_, rfl⟩
  have hlen : rest.length = 4 * (c - 1) := by rw [← hrest, rep_len, List.length_drop, Array.length_toList, size_madeCells]; omega
  rw [hrest, List.take_zero, List.nil_append] at hcp
  have Hlen := Lib.hid hlen
  clear hnew hr1 hsrc hrest hlen hr
  go_wp2_with (go_at_call 104; refine (mul_one64 c h2 _).mono ?_; rintro e w1 ⟨rfl, rfl⟩)
  clear hmk hcp d0 d1
  go_loopw [8] (fun n wr => Hid (∃ k : Nat, ∃ rest : List Value, n = .int .i64 k ∧ 1 ≤ k ∧ k ≤ c ∧ Gr w1 wr ∧ wr.heap[w1.heap.size]? = some (.cells (rep k x ++ rest).toArray 70) ∧ rest.length = 4 * (c - k))) (fun n _ => c - (intOf n).toNat)
  case atStart => exact Lib.hid ⟨1, rest, rfl, Nat.le_refl _, h1, Gr.al _ _, World.alloc_heap_new _ _, Hlen.out⟩
  case round =>
    obtain ⟨k, rest, rfl, hk1, hkc, gw, hB, hl⟩ := hrel.out
    clear hrel
    by_cases hlt : k < c
    · obtain ⟨m, hm⟩ : ∃ m, Nat.min k (c - k) = m := ⟨_, rfl⟩
      have hm' : min k (c - k) = m := hm
      have m1 : 1 ≤ m := by omega
      have m2 : k + m ≤ c := by omega
      have hmk' : m ≤ k := by omega
      have hBd : wr.drew.heap[w1.heap.size]? = some (.cells (rep k x ++ rest).toArray 70) := hB
      have hsrc : ∀ j v, (rep m x)[j]? = some v → wr.drew.cell? ((Addr.mk w1.heap.size 0 none).add j) = some v := by
        intro j v hv
        have hj : j < 4 * m := by
          have := (List.getElem?_eq_some_iff.1 hv).1
          rwa [rep_len] at this
        have hc : wr.drew.cell? ⟨w1.heap.size, 0 + j, none⟩ = (rep k x ++ rest)[0 + j]? := by
          unfold World.cell?
          rw [hBd]
          simp
        have ek : rep k x = rep m x ++ rep (k - m) x := by rw [← rep_add]; congr 1; omega
        rw [WideShapes.add_plain, hc, Nat.zero_add, ek, List.append_assoc, List.getElem?_append_left (by rw [rep_len]; exact hj)]
        exact hv
      have hcp := run_copy_wide (P := Try.prog) wr.drew 53 53 3 70 w1.heap.size (k * 4) (c - k) (c - k) ⟨w1.heap.size, 0, none⟩ k c m 4 _ 70 (rep m x) Try.underlying53 infoLd4 hBd hm (by rw [rep_len]; omega) hsrc (by simp [rep_len]; omega) (rep_one m x)
      rw [show goInt ((m : Nat) : Int) = .int .i64 (m : Int) from rfl] at hcp
      obtain ⟨row, hrow⟩ : ∃ row, (((rep k x ++ rest).toArray.toList.take (k * 4) ++ rep m x ++ (rep k x ++ rest).toArray.toList.drop (k * 4 + (rep m x).length)).toArray) = row := ⟨_, rfl⟩
      rw [hrow] at hcp
      have e1 : row = (rep (k + m) x ++ rest.drop (4 * m)).toArray := by
        rw [← hrow]
        congr 1
        show (rep k x ++ rest).take (k * 4) ++ rep m x ++ (rep k x ++ rest).drop (k * 4 + (rep m x).length) = _
        rw [rep_len, List.take_append_of_le_length (by rw [rep_len]; omega), List.take_of_length_le (by rw [rep_len]; omega), List.drop_append, rep_len, List.drop_of_length_le (by rw [rep_len]; omega), List.nil_append, rep_add, show k * 4 + 4 * m - 4 * k = 4 * m by omega]
      have hB' : (wr.drew.setRow w1.heap.size row).heap[w1.heap.size]? = some (.cells (rep (k + m) x ++ rest.drop (4 * m)).toArray 70) := by
        rw [← e1]
        exact setRow_heap _ _ _ _ _ _ hBd
      have g' : Gr w1 (wr.drew.setRow w1.heap.size row) := below_setRow (gw.tr (Gr.dr wr)) (Nat.le_refl _) _
      have l' : (rest.drop (4 * m)).length = 4 * (c - (k + m)) := by rw [List.length_drop, hl]; omega
      have v2 : IntKind.i64.wrap ((k : Int) + (m : Int)) = ((k + m : Nat) : Int) := by rw [IntWalk.i64_in _ (by omega)]; omega
      have HN := Lib.hid (And.intro hB' (And.intro g' l'))
      clear hB' g' l' e1 hrow hsrc hBd hB gw hl hm hm'
      go_wp2
      have hmx : Try.prog.follows .mixedOrders = true := by kernel_rfl
      go_region
      go_wp2
      go_roundw
      case rel => exact Lib.hid ⟨k + m, rest.drop (4 * m), by go_num, by omega, m2, HN.out.2.1, HN.out.1, HN.out.2.2⟩
      case measure => simp [intOf]; omega
    · obtain rfl : k = c := by omega
      go_wp2
      go_ret
      refine ⟨_, rfl, ⟨by simp; omega, fun j y hy => ?_⟩, gw⟩
      obtain ⟨hj, e⟩ := List.getElem?_eq_some_iff.1 hy
      have hj' : j < k := by simpa using hj
      have ey : x = y := by simpa using e
      subst ey
      refine ⟨_, _, rfl, (Array.getElem?_eq_some_iff.1 hB).1, fun i v hv => ?_⟩
      have hr0 : rest = [] := List.eq_nil_of_length_eq_zero (by omega)
      have hi4 : i < 4 := by
        have := (List.getElem?_eq_some_iff.1 hv).1
        simpa [encL] using this
      have hc : wr.cell? ⟨w1.heap.size, j * 4 + i, none⟩ = (rep k x)[j * 4 + i]? := by
        unfold World.cell?
        rw [hB, hr0, List.append_nil]
        simp
      rw [Nat.zero_add, hc, rep_at hj' hi4]
      exact hv

end Go.Proofs.Ytkfhmfidgdpeiaa
