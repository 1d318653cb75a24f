/- slices.Repeat of one box. slices.Repeat of one integer. slices.Repeat of an integer, however often. crush: how many tests more a lot needs. (Made by gen_i15.py.) crush.Need of what is valid. TopTestedBoard's numbers: lots that surely pass, surely fail. crush: what is known of a lot, as more is read of it. crush.Fall; what a valid stack and table are. Chapter 3's piles: boxes and a table out of bytes. Append onto one of two rows: the rows stay apart. Contracts of the law's ints and passes. crush.Order, crush.Most. crush.Loads. crush.High. (Made by gen_i7.py.) armSpan. The contract of armCrush: the document's examples of chapter 3. The helpers of chapter 3's statements, and what the document's examples say. A region that draws its order: many operations that only read, one operation that does not wait for them (an allocation), then stores: one walk of the reads serves every order. Chapter 3's piles: the law's pile. (Made by gen_n2.py.) Chapter 3's piles: boxes, steps, byteOf. Chapter 3's piles: the law's stays. What CrushStands says of piles, without memory. Equal boxes: when they stand (split from J4). With stronger or lighter boxes, or fewer days, High and Most are not smaller. Orders of boxes against sets of boxes: what stands in some order, and the smallest order. Boxes picked by their numbers: the law's picked and smaller; when they stand. The law's smaller of chapter 3. Orders of boxes, without memory: full orders, prefixes, and what Most picks. Boxes and a table within their bounds are valid (split from Y2). What CrushStacked's body calls: Order, Most, Fall and picked, in one form each. (Made by gen_z5.py.) Order, Most, Fall and Loads of boxes that are valid, in one form each. Contracts of pubMade, pubSingle, pubDouble. Contract of pubOwn: a copy of a store. Contract of pubStore. The contract of armStore. (Made by gen_arm1.py.) -/
import Derived.Test.YtcdilmagcdbogaaQE21b
import Derived.Test.YtcdilmagcdbogaaShelf
import Derived.Laws.CopyRow
import Derived.Laws.CopyOwn
import Derived.Laws.MakeOwn
import Derived.Deep.WholeRow
import Derived.Test.YtcdilmagcdbogaaQE21a
import Derived.BigQuiet
import Derived.Deep.CutRange
import Derived.Deep.AppendLies
import Derived.Deep.RegionHeld3
import Derived.Deep.QuietTactic
import Derived.Deep.DeepCutAuto
import Derived.Deep.MidRow
namespace Go.Proofs.Ytcdilmagcdbogaa
set_option linter.unusedVariables false
set_option linter.unusedSimpArgs false
open Go.RowKit

section
variable {P : Program}

/-- copy of elements of whatever size. -/
theorem run_copy_wide (w : World) (dT sT ty elem : TypeId) (g o dLen dCap : Nat) (a : Addr) (sLen sCap m : Nat) (sz : Nat) (cur : Array Value) (t : TypeId) (cs : List Value)
    (hu : P.underlying dT = some (.slice elem)) (hs : (P.info? elem).map (·.size) = some sz)
    (hg : w.heap[g]? = some (.cells cur t (0, 0))) (hm : Nat.min sLen dLen = m) (hn : cs.length = m * sz)
    (hsrc : ∀ j v, cs[j]? = some v → w.cell? (a.add j) = some v) (hfit : o + cs.length ≤ cur.size) (h1 : ∀ v ∈ cs, v.oneCell' = true) :
    (Builtin.copy_ #[dT, sT] ty #[.slice (some ⟨g, o, none⟩) dLen dCap, .slice (some a) sLen sCap]).run P w =
      .ok (goInt m) (w.setRow g (cur.toList.take o ++ cs ++ cur.toList.drop (o + cs.length)).toArray) := by
  have hl := run_loadCells_list (P := P) w a cs hsrc
  have hst := run_storeCells_at P g o t cs 0 cur w hg (by simpa using hfit) h1
  cases hq : P.info? elem with
  | none => simp [hq] at hs
  | some i =>
    have hi : i.size = sz := by simpa [hq] using hs
    simp [Builtin.copy_, run_underlying hu, Builtin.lenOf, Builtin.firstCells, sizeOf, typeInfo, hq, hi, hm, ← hn, hl, hst]

end

def rep (n : Nat) (x : Ld) : List Value := (List.replicate n x).flatMap encL

theorem rep_len (n : Nat) (x : Ld) : (rep n x).length = 4 * n := by
  induction n with
  | zero => rfl
  | succ n ih => simp [rep, List.replicate_succ, encL] at ih ⊢; omega

theorem rep_add (n m : Nat) (x : Ld) : rep (n + m) x = rep n x ++ rep m x := by
  unfold rep
  rw [← List.replicate_append_replicate, List.flatMap_append]

theorem rep_one (n : Nat) (x : Ld) : ∀ v ∈ rep n x, v.oneCell' = true := by
  intro v hv
  obtain ⟨y, hy, hv⟩ := List.mem_flatMap.1 hv
  have e := (List.mem_replicate.1 hy).2
  rw [e] at hv
  have hv' : v ∈ [Value.int .i64 x.sl, .int .i64 x.sh, .int .i64 x.wl, .int .i64 x.wh] := hv
  simp only [List.mem_cons, List.not_mem_nil, or_false] at hv'
  rcases hv' with h | h | h | h <;> (rw [h]; rfl)

theorem rep_at {k j i : Nat} {x : Ld} (hj : j < k) (hi : i < 4) : (rep k x)[j * 4 + i]? = (encL x)[i]? := by
  have e : rep k x = rep j x ++ (rep 1 x ++ rep (k - j - 1) x) := by rw [← rep_add, ← rep_add]; congr 1; omega
  have e1 : rep 1 x = encL x := by simp [rep]
  rw [e, List.getElem?_append_right (by rw [rep_len]; omega), rep_len, show j * 4 + i - 4 * j = i by omega, List.getElem?_append_left (by rw [rep_len]; omega), e1]

theorem mul_one64 (c : Nat) (hc : c ≤ 1000) (w : World) :
    Calls Try.prog 124 #[.int .u64 1, .int .u64 (c : Int)] w fun e w' => e = .returned (.tuple #[.int .u64 0, .int .u64 (c : Int)]) ∧ w' = w := by
  have h := Try.bits_Mul 1 c (by omega) (by omega) w
  have e1 : 1 * c / 18446744073709551616 = 0 := by omega
  have e2 : 1 * c % 18446744073709551616 = c := by omega
  rw [e1, e2] at h
  exact h

theorem infoLd : (Try.prog.info? 70).map (fun i => (i.zero, i.size, i.bytes)) = some (some (.agg #[.int .i64 0, .int .i64 0, .int .i64 0, .int .i64 0]), 4, 32) := by kernel_rfl

theorem infoLd4 : (Try.prog.info? 70).map (·.size) = some 4 := by kernel_rfl

set_option maxRecDepth 100000 in
set_option maxHeartbeats 2000000 in
theorem repeat_one (x : Ld) (c : Nat) (h1 : 1 ≤ c) (h2 : c ≤ 1000) (a : Option Addr) (cap : Nat) (w : World) (hr : LRow w a [x]) :
    Calls Try.prog 98 #[.slice a 1 cap, .int .i64 (c : Int)] w fun e w' => ∃ a', e = .returned (.slice a' c c) ∧ LRow w' a' (List.replicate c x) ∧ Gr w w' := by
  obtain ⟨i0, hi, hz⟩ := Option.map_eq_some_iff.1 infoLd
  simp only [Prod.mk.injEq] at hz
  obtain ⟨hz0, hz1, hz2⟩ := hz
  have hmk := run_make (P := Try.prog) w 53 70 i0 _ Try.underlying53 hi hz0 .i64 .i64 (c : Int) (c : Int) (by omega) (Int.le_refl _) (by rw [hz2]; omega) (by omega)
  rw [hz1] at hmk
  simp only [Int.toNat_natCast] at hmk
  have d0 : decide ((c : Int) < 0) = false := by simp
  have d1 : decide ((9223372036854775807 : Int) < (c : Int)) = false := by simp; omega
  have v0 : IntKind.u64.wrap (c : Int) = (c : Int) := by rw [IntKind.wrap_u64]; omega
  have v1 : IntKind.i64.wrap (c : Int) = (c : Int) := IntWalk.i64_in _ (by omega)
  go_enter Try.func98, Try.ntmps98
  obtain ⟨b, off, rfl, hb, _⟩ := hr.2 0 x rfl
  have hnew : (w.alloc (.cells (madeCells #[.int .i64 0, .int .i64 0, .int .i64 0, .int .i64 0] (c * 4)) 70)).heap[w.heap.size]? = some (.cells (madeCells #[.int .i64 0, .int .i64 0, .int .i64 0, .int .i64 0] (c * 4)) 70) := World.alloc_heap_new w _
  have hr1 := hr.grow (Gr.al w (.cells (madeCells #[.int .i64 0, .int .i64 0, .int .i64 0, .int .i64 0] (c * 4)) 70))
  have hsrc : ∀ j v, (rep 1 x)[j]? = some v → (w.alloc (.cells (madeCells #[.int .i64 0, .int .i64 0, .int .i64 0, .int .i64 0] (c * 4)) 70)).cell? ((Addr.mk b off none).add j) = some v := by
    intro j v hv
    obtain ⟨b', off', e', _, hc⟩ := hr1.2 0 x rfl
    injection e' with e'
    injection e' with e1 e2 _
    subst e1; subst e2
    have h := hc j v (by simpa [rep] using hv)
    rw [WideShapes.add_plain]
    simpa using h
  have hcp := run_copy_wide (P := Try.prog) _ 53 53 3 70 w.heap.size 0 c c ⟨b, off, none⟩ 1 cap 1 4 _ 70 (rep 1 x) Try.underlying53 infoLd4 hnew (Nat.min_eq_left h1) (by rw [rep_len]) hsrc (by rw [rep_len, size_madeCells]; omega) (rep_one 1 x)
  rw [World.setRow_alloc_new, show goInt ((1 : Nat) : Int) = .int .i64 1 from rfl] at hcp
  obtain ⟨rest, hrest⟩ : ∃ rest : List Value, (madeCells #[Value.int .i64 0, .int .i64 0, .int .i64 0, .int .i64 0] (c * 4)).toList.drop (0 + (rep 1 x).length) = rest := ⟨_, rfl⟩
  have hlen : rest.length = 4 * (c - 1) := by rw [← hrest, rep_len, List.length_drop, Array.length_toList, size_madeCells]; omega
  rw [hrest, List.take_zero, List.nil_append] at hcp
  have Hlen := Lib.hid hlen
  clear hnew hr1 hsrc hrest hlen hr
  go_wp2_with (go_at_call 124; refine (mul_one64 c h2 _).mono ?_; rintro e w1 ⟨rfl, rfl⟩)
  clear hmk hcp d0 d1
  go_loopw [8] (fun n wr => Hid (∃ k : Nat, ∃ rest : List Value, n = .int .i64 k ∧ 1 ≤ k ∧ k ≤ c ∧ Gr w1 wr ∧ wr.heap[w1.heap.size]? = some (.cells (rep k x ++ rest).toArray 70) ∧ rest.length = 4 * (c - k))) (fun n _ => c - (intOf n).toNat)
  case atStart => exact Lib.hid ⟨1, rest, rfl, Nat.le_refl _, h1, Gr.al _ _, World.alloc_heap_new _ _, Hlen.out⟩
  case round =>
    obtain ⟨k, rest, rfl, hk1, hkc, gw, hB, hl⟩ := hrel.out
    clear hrel
    by_cases hlt : k < c
    · obtain ⟨m, hm⟩ : ∃ m, Nat.min k (c - k) = m := ⟨_, rfl⟩
      have hm' : min k (c - k) = m := hm
      have m1 : 1 ≤ m := by omega
      have m2 : k + m ≤ c := by omega
      have hmk' : m ≤ k := by omega
      have hBd : wr.drew.heap[w1.heap.size]? = some (.cells (rep k x ++ rest).toArray 70) := hB
      have hsrc : ∀ j v, (rep m x)[j]? = some v → wr.drew.cell? ((Addr.mk w1.heap.size 0 none).add j) = some v := by
        intro j v hv
        have hj : j < 4 * m := by
          have := (List.getElem?_eq_some_iff.1 hv).1
          rwa [rep_len] at this
        have hc : wr.drew.cell? ⟨w1.heap.size, 0 + j, none⟩ = (rep k x ++ rest)[0 + j]? := by
          unfold World.cell?
          rw [hBd]
          simp
        have ek : rep k x = rep m x ++ rep (k - m) x := by rw [← rep_add]; congr 1; omega
        rw [WideShapes.add_plain, hc, Nat.zero_add, ek, List.append_assoc, List.getElem?_append_left (by rw [rep_len]; exact hj)]
        exact hv
      have hcp := run_copy_wide (P := Try.prog) wr.drew 53 53 3 70 w1.heap.size (k * 4) (c - k) (c - k) ⟨w1.heap.size, 0, none⟩ k c m 4 _ 70 (rep m x) Try.underlying53 infoLd4 hBd hm (by rw [rep_len]; omega) hsrc (by simp [rep_len]; omega) (rep_one m x)
      rw [show goInt ((m : Nat) : Int) = .int .i64 (m : Int) from rfl] at hcp
      obtain ⟨row, hrow⟩ : ∃ row, (((rep k x ++ rest).toArray.toList.take (k * 4) ++ rep m x ++ (rep k x ++ rest).toArray.toList.drop (k * 4 + (rep m x).length)).toArray) = row := ⟨_, rfl⟩
      rw [hrow] at hcp
      have e1 : row = (rep (k + m) x ++ rest.drop (4 * m)).toArray := by
        rw [← hrow]
        congr 1
        show (rep k x ++ rest).take (k * 4) ++ rep m x ++ (rep k x ++ rest).drop (k * 4 + (rep m x).length) = _
        rw [rep_len, List.take_append_of_le_length (by rw [rep_len]; omega), List.take_of_length_le (by rw [rep_len]; omega), List.drop_append, rep_len, List.drop_of_length_le (by rw [rep_len]; omega), List.nil_append, rep_add, show k * 4 + 4 * m - 4 * k = 4 * m by omega]
      have hB' : (wr.drew.setRow w1.heap.size row).heap[w1.heap.size]? = some (.cells (rep (k + m) x ++ rest.drop (4 * m)).toArray 70) := by
        rw [← e1]
        exact setRow_heap _ _ _ _ _ _ hBd
      have g' : Gr w1 (wr.drew.setRow w1.heap.size row) := below_setRow (gw.tr (Gr.dr wr)) (Nat.le_refl _) _
      have l' : (rest.drop (4 * m)).length = 4 * (c - (k + m)) := by rw [List.length_drop, hl]; omega
      have v2 : IntKind.i64.wrap ((k : Int) + (m : Int)) = ((k + m : Nat) : Int) := by rw [IntWalk.i64_in _ (by omega)]; omega
      have HN := Lib.hid (And.intro hB' (And.intro g' l'))
      clear hB' g' l' e1 hrow hsrc hBd hB gw hl hm hm'
      go_wp2
      have hmx : Try.prog.follows .mixedOrders = true := by kernel_rfl
      go_region
      go_wp2
      go_roundw
      case rel => exact Lib.hid ⟨k + m, rest.drop (4 * m), by go_num, by omega, m2, HN.out.2.1, HN.out.1, HN.out.2.2⟩
      case measure => simp [intOf]; omega
    · obtain rfl : k = c := by omega
      go_wp2
      go_ret
      refine ⟨_, rfl, ⟨by simp; omega, fun j y hy => ?_⟩, gw⟩
      obtain ⟨hj, e⟩ := List.getElem?_eq_some_iff.1 hy
      have hj' : j < k := by simpa using hj
      have ey : x = y := by simpa using e
      subst ey
      refine ⟨_, _, rfl, (Array.getElem?_eq_some_iff.1 hB).1, fun i v hv => ?_⟩
      have hr0 : rest = [] := List.eq_nil_of_length_eq_zero (by omega)
      have hi4 : i < 4 := by
        have := (List.getElem?_eq_some_iff.1 hv).1
        simpa [encL] using this
      have hc : wr.cell? ⟨w1.heap.size, j * 4 + i, none⟩ = (rep k x)[j * 4 + i]? := by
        unfold World.cell?
        rw [hB, hr0, List.append_nil]
        simp
      rw [Nat.zero_add, hc, rep_at hj' hi4]
      exact hv

end Go.Proofs.Ytcdilmagcdbogaa

namespace Go.Proofs.Ytcdilmagcdbogaa
set_option linter.unusedVariables false
set_option linter.unusedSimpArgs false
open Go.RowKit

def repi (n : Nat) (x : Int) : List Value := (List.replicate n x).flatMap encI

theorem repi_len (n : Nat) (x : Int) : (repi n x).length = 1 * n := by
  induction n with
  | zero => rfl
  | succ n ih => simp [repi, List.replicate_succ, encI] at ih ⊢ <;> try omega

theorem repi_add (n m : Nat) (x : Int) : repi (n + m) x = repi n x ++ repi m x := by
  unfold repi
  rw [← List.replicate_append_replicate, List.flatMap_append]

theorem repi_one (n : Nat) (x : Int) : ∀ v ∈ repi n x, v.oneCell' = true := by
  intro v hv
  obtain ⟨y, hy, hv⟩ := List.mem_flatMap.1 hv
  have hv' : v ∈ [Value.int .i64 y] := hv
  rw [List.mem_singleton.1 hv']
  rfl

theorem repi_at {k j i : Nat} {x : Int} (hj : j < k) (hi : i < 1) : (repi k x)[j * 1 + i]? = (encI x)[i]? := by
  have e : repi k x = repi j x ++ (repi 1 x ++ repi (k - j - 1) x) := by rw [← repi_add, ← repi_add]; congr 1; omega
  have e1 : repi 1 x = encI x := by simp [repi]
  rw [e, List.getElem?_append_right (by rw [repi_len]; omega), repi_len, show j * 1 + i - 1 * j = i by omega, List.getElem?_append_left (by rw [repi_len]; omega), e1]

theorem infoI1 : (Try.prog.info? 3).map (·.size) = some 1 := by kernel_rfl

set_option maxRecDepth 100000 in
set_option maxHeartbeats 2000000 in
theorem repeat_int (x : Int) (c : Nat) (h1 : 1 ≤ c) (h2 : c ≤ 1000) (a : Option Addr) (cap : Nat) (w : World) (hr : IRow w a [x]) :
    Calls Try.prog 113 #[.slice a 1 cap, .int .i64 (c : Int)] w fun e w' => ∃ a', e = .returned (.slice a' c c) ∧ IRow w' a' (List.replicate c x) ∧ Gr w w' := by
  obtain ⟨i0, hi, hz⟩ := Option.map_eq_some_iff.1 infoInt'
  simp only [Prod.mk.injEq] at hz
  obtain ⟨hz0, hz1, hz2⟩ := hz
  have hmk := run_make (P := Try.prog) w 24 3 i0 _ Try.underlying24 hi hz0 .i64 .i64 (c : Int) (c : Int) (by omega) (Int.le_refl _) (by rw [hz2]; omega) (by omega)
  rw [hz1] at hmk
  simp only [Int.toNat_natCast, Nat.mul_one] at hmk
  have d0 : decide ((c : Int) < 0) = false := by simp
  have d1 : decide ((9223372036854775807 : Int) < (c : Int)) = false := by simp; omega
  have v0 : IntKind.u64.wrap (c : Int) = (c : Int) := by rw [IntKind.wrap_u64]; omega
  have v1 : IntKind.i64.wrap (c : Int) = (c : Int) := IntWalk.i64_in _ (by omega)
  go_enter Try.func113, Try.ntmps113
  obtain ⟨b, off, rfl, hb, _⟩ := hr.2 0 x rfl
  have hnew : (w.alloc (.cells (madeCells #[.int .i64 0] c) 3)).heap[w.heap.size]? = some (.cells (madeCells #[.int .i64 0] c) 3) := World.alloc_heap_new w _
  have hr1 := hr.grow (Gr.al w (.cells (madeCells #[.int .i64 0] c) 3))
  have hsrc : ∀ j v, (repi 1 x)[j]? = some v → (w.alloc (.cells (madeCells #[.int .i64 0] c) 3)).cell? ((Addr.mk b off none).add j) = some v := by
    intro j v hv
    obtain ⟨b', off', e', _, hc⟩ := hr1.2 0 x rfl
    injection e' with e'
    injection e' with e1 e2 _
    subst e1; subst e2
    have h := hc j v (by simpa [repi] using hv)
    rw [WideShapes.add_plain]
    simpa using h
  have hcp := run_copy_wide (P := Try.prog) _ 24 24 3 3 w.heap.size 0 c c ⟨b, off, none⟩ 1 cap 1 1 _ 3 (repi 1 x) Try.underlying24 infoI1 hnew (Nat.min_eq_left h1) (by rw [repi_len]) hsrc (by rw [repi_len, size_madeCells]; omega) (repi_one 1 x)
  rw [World.setRow_alloc_new, show goInt ((1 : Nat) : Int) = .int .i64 1 from rfl] at hcp
  obtain ⟨rest, hrest⟩ : ∃ rest : List Value, (madeCells #[Value.int .i64 0] c).toList.drop (0 + (repi 1 x).length) = rest := ⟨_, rfl⟩
  have hlen : rest.length = 1 * (c - 1) := by rw [← hrest, repi_len, List.length_drop, Array.length_toList, size_madeCells]; omega
  rw [hrest, List.take_zero, List.nil_append] at hcp
  have Hlen := Lib.hid hlen
  clear hnew hr1 hsrc hrest hlen hr
  go_wp2_with (go_at_call 124; refine (mul_one64 c h2 _).mono ?_; rintro e w1 ⟨rfl, rfl⟩)
  clear hmk hcp d0 d1
  go_loopw [8] (fun n wr => Hid (∃ k : Nat, ∃ rest : List Value, n = .int .i64 k ∧ 1 ≤ k ∧ k ≤ c ∧ Gr w1 wr ∧ wr.heap[w1.heap.size]? = some (.cells (repi k x ++ rest).toArray 3) ∧ rest.length = 1 * (c - k))) (fun n _ => c - (intOf n).toNat)
  case atStart => exact Lib.hid ⟨1, rest, rfl, Nat.le_refl _, h1, Gr.al _ _, World.alloc_heap_new _ _, Hlen.out⟩
  case round =>
    obtain ⟨k, rest, rfl, hk1, hkc, gw, hB, hl⟩ := hrel.out
    clear hrel
    by_cases hlt : k < c
    · obtain ⟨m, hm⟩ : ∃ m, Nat.min k (c - k) = m := ⟨_, rfl⟩
      have hm' : min k (c - k) = m := hm
      have m1 : 1 ≤ m := by omega
      have m2 : k + m ≤ c := by omega
      have hmk' : m ≤ k := by omega
      have hBd : wr.drew.heap[w1.heap.size]? = some (.cells (repi k x ++ rest).toArray 3) := hB
      have hsrc : ∀ j v, (repi m x)[j]? = some v → wr.drew.cell? ((Addr.mk w1.heap.size 0 none).add j) = some v := by
        intro j v hv
        have hj : j < 1 * m := by
          have := (List.getElem?_eq_some_iff.1 hv).1
          rwa [repi_len] at this
        have hc : wr.drew.cell? ⟨w1.heap.size, 0 + j, none⟩ = (repi k x ++ rest)[0 + j]? := by
          unfold World.cell?
          rw [hBd]
          simp
        have ek : repi k x = repi m x ++ repi (k - m) x := by rw [← repi_add]; congr 1; omega
        rw [WideShapes.add_plain, hc, Nat.zero_add, ek, List.append_assoc, List.getElem?_append_left (by rw [repi_len]; exact hj)]
        exact hv
      have hcp := run_copy_wide (P := Try.prog) wr.drew 24 24 3 3 w1.heap.size (k * 1) (c - k) (c - k) ⟨w1.heap.size, 0, none⟩ k c m 1 _ 3 (repi m x) Try.underlying24 infoI1 hBd hm (by rw [repi_len]; omega) hsrc (by simp [repi_len]; omega) (repi_one m x)
      rw [show goInt ((m : Nat) : Int) = .int .i64 (m : Int) from rfl] at hcp
      obtain ⟨row, hrow⟩ : ∃ row, (((repi k x ++ rest).toArray.toList.take (k * 1) ++ repi m x ++ (repi k x ++ rest).toArray.toList.drop (k * 1 + (repi m x).length)).toArray) = row := ⟨_, rfl⟩
      rw [hrow, Nat.mul_one] at hcp
      have e1 : row = (repi (k + m) x ++ rest.drop (1 * m)).toArray := by
        rw [← hrow]
        congr 1
        show (repi k x ++ rest).take (k * 1) ++ repi m x ++ (repi k x ++ rest).drop (k * 1 + (repi m x).length) = _
        rw [repi_len, List.take_append_of_le_length (by rw [repi_len]; omega), List.take_of_length_le (by rw [repi_len]; omega), List.drop_append, repi_len, List.drop_of_length_le (by rw [repi_len]; omega), List.nil_append, repi_add, show k * 1 + 1 * m - 1 * k = 1 * m by omega]
      have hB' : (wr.drew.setRow w1.heap.size row).heap[w1.heap.size]? = some (.cells (repi (k + m) x ++ rest.drop (1 * m)).toArray 3) := by
        rw [← e1]
        exact setRow_heap _ _ _ _ _ _ hBd
      have g' : Gr w1 (wr.drew.setRow w1.heap.size row) := below_setRow (gw.tr (Gr.dr wr)) (Nat.le_refl _) _
      have l' : (rest.drop (1 * m)).length = 1 * (c - (k + m)) := by rw [List.length_drop, hl]; omega
      have v2 : IntKind.i64.wrap ((k : Int) + (m : Int)) = ((k + m : Nat) : Int) := by rw [IntWalk.i64_in _ (by omega)]; omega
      have HN := Lib.hid (And.intro hB' (And.intro g' l'))
      clear hB' g' l' e1 hrow hsrc hBd hB gw hl hm hm'
      go_wp2
      have hmx : Try.prog.follows .mixedOrders = true := by kernel_rfl
      go_region
      go_wp2
      go_roundw
      case rel => exact Lib.hid ⟨k + m, rest.drop (1 * m), by go_num, by omega, m2, HN.out.2.1, HN.out.1, HN.out.2.2⟩
      case measure => simp [intOf]; omega
    · obtain rfl : k = c := by omega
      go_wp2
      go_ret
      refine ⟨_, rfl, ⟨by simp; omega, fun j y hy => ?_⟩, gw⟩
      obtain ⟨hj, e⟩ := List.getElem?_eq_some_iff.1 hy
      have hj' : j < k := by simpa using hj
      have ey : x = y := by simpa using e
      subst ey
      refine ⟨_, _, rfl, (Array.getElem?_eq_some_iff.1 hB).1, fun i v hv => ?_⟩
      have hr0 : rest = [] := List.eq_nil_of_length_eq_zero (by omega)
      have hi4 : i < 1 := by
        have := (List.getElem?_eq_some_iff.1 hv).1
        simpa [encI] using this
      have hc : wr.cell? ⟨w1.heap.size, j * 1 + i, none⟩ = (repi k x)[j * 1 + i]? := by
        unfold World.cell?
        rw [hB, hr0, List.append_nil]
        simp
      rw [Nat.zero_add, hc, repi_at hj' hi4]
      exact hv

end Go.Proofs.Ytcdilmagcdbogaa

namespace Go.Proofs.Ytcdilmagcdbogaa
set_option linter.unusedVariables false
set_option linter.unusedSimpArgs false
open Go.RowKit

theorem mul_one64z (w : World) :
    Calls Try.prog 124 #[.int .u64 1, .int .u64 0] w fun e w' => e = .returned (.tuple #[.int .u64 0, .int .u64 0]) ∧ w' = w := mul_one64 0 (by omega) w

set_option maxRecDepth 100000 in
set_option maxHeartbeats 2000000 in
theorem repeat_int0 (x : Int) (a : Option Addr) (cap : Nat) (w : World) (hr : IRow w a [x]) :
    Calls Try.prog 113 #[.slice a 1 cap, .int .i64 0] w fun e w' => ∃ a', e = .returned (.slice a' 0 0) ∧ (∃ b, a' = some b) ∧ Gr w w' := by
  obtain ⟨i0, hi, hz⟩ := Option.map_eq_some_iff.1 infoInt'
  simp only [Prod.mk.injEq] at hz
  obtain ⟨hz0, hz1, hz2⟩ := hz
  have hmk := run_make (P := Try.prog) w 24 3 i0 _ Try.underlying24 hi hz0 .i64 .i64 0 0 (by omega) (Int.le_refl _) (by omega) (by omega)
  rw [show madeCells (Value.int .i64 0).cells ((0 : Int).toNat * i0.size) = #[] by simp [madeCells]] at hmk
  obtain ⟨b, off, rfl, hb, _⟩ := hr.2 0 x rfl
  have hnew : (w.alloc (.cells #[] 3)).heap[w.heap.size]? = some (.cells #[] 3) := World.alloc_heap_new w _
  have hcp := run_copy_wide (P := Try.prog) _ 24 24 3 3 w.heap.size 0 0 0 ⟨b, off, none⟩ 1 cap 0 1 _ 3 [] Try.underlying24 infoI1 hnew rfl rfl (fun j v h => by simp at h) (by simp) (fun v h => by cases h)
  rw [World.setRow_alloc_new, show goInt ((0 : Nat) : Int) = .int .i64 0 from rfl] at hcp
  clear hnew hr
  go_enter Try.func113, Try.ntmps113
  go_wp2_with (go_at_call 124; refine (mul_one64z _).mono ?_; rintro e w1 ⟨rfl, rfl⟩)
  clear hmk hcp
  go_loopw [8] (fun n wr => Hid (n = .int .i64 0 ∧ Gr w1 wr)) (fun n _ => 0)
  case atStart => exact Lib.hid ⟨rfl, Gr.al _ _⟩
  case round =>
    obtain ⟨rfl, gw⟩ := hrel.out
    clear hrel
    go_wp2
    go_ret
    exact ⟨_, rfl, ⟨_, rfl⟩, gw⟩

/-- However often. -/
theorem repeat_any (x : Int) (c : Nat) (h2 : c ≤ 1000) (a : Option Addr) (cap : Nat) (w : World) (hr : IRow w a [x]) :
    Calls Try.prog 113 #[.slice a 1 cap, .int .i64 (c : Int)] w fun e w' => ∃ a', e = .returned (.slice a' (List.replicate c x).length c) ∧ IRow w' a' (List.replicate c x) ∧ (a' = none → c = 0) ∧ Gr w w' := by
  by_cases h : c = 0
  · subst h
    refine (repeat_int0 x a cap w hr).mono ?_
    rintro e w' ⟨a', rfl, _, g⟩
    exact ⟨a', rfl, RowOf.nil, fun _ => rfl, g⟩
  · refine (repeat_int x c (by omega) h2 a cap w hr).mono ?_
    rintro e w' ⟨a', rfl, hr', g⟩
    refine ⟨a', by simp, hr', fun e => ?_, g⟩
    subst e
    have := irow_nil hr'
    simpa using this

end Go.Proofs.Ytcdilmagcdbogaa

namespace Go.Proofs.Ytcdilmagcdbogaa
set_option linter.unusedVariables false
set_option linter.unusedSimpArgs false
open Go.RowKit

theorem irow_one (v : World) (n : Int) : IRow (v.alloc (.cells (List.toArray [.int .i64 n]) 3)) (some ⟨v.heap.size, 0, none⟩) [n] := by
  have bx := Box.new v [.int .i64 n] 3 v.heap.size rfl
  refine ⟨by simp, fun j y hy => ⟨v.heap.size, 0, rfl, bx.1, fun i u hu => ?_⟩⟩
  have hj : j = 0 := by
    have := (List.getElem?_eq_some_iff.1 hy).1
    simpa using this
  have hi : i = 0 := by
    have := (List.getElem?_eq_some_iff.1 hu).1
    simpa [encI] using this
  subst hj
  subst hi
  simp at hy
  subst hy
  simp [encI] at hu
  subst hu
  exact bx.2 0 _ rfl

theorem repeat_any' (x : Int) (c : Nat) (h2 : c ≤ 1000) (a : Option Addr) (cap : Nat) (w : World) (hr : IRow w a [x]) :
    Calls Try.prog 113 #[.slice a 1 cap, .int .i64 (c : Int)] w fun e w' => ∃ a', e = .returned (.slice a' c c) ∧ IRow w' a' (List.replicate c x) ∧ (a' = none → c = 0) ∧ Gr w w' := by
  refine (repeat_any x c h2 a cap w hr).mono ?_
  rintro e w' ⟨a', rfl, h⟩
  exact ⟨a', by rw [List.length_replicate], h⟩

def stAt (te : Nat) (me low ba off : Int) (rl : List Int) (rd : Int) (k : Nat) : Int := stateL (te : Int) me low ba (truthsL te off (rl ++ List.replicate k rd))

def needL (te : Nat) (me low ba off : Int) (rl : List Int) (st rd : Int) : Int := match (List.range (te + 1 - rl.length)).find? (fun k => decide (stAt te me low ba off rl rd k = st)) with
  | some k => (k : Int)
  | none => -1

set_option maxRecDepth 100000 in
set_option maxHeartbeats 4000000 in
theorem need_any (te : Nat) (me low ba off : Int) (rl : List Int) (ra : Option Addr) (rc : Nat) (st rd : Int) (t1 : te ≤ 1000) (m0 : 0 ≤ me) (m1 : me ≤ 100000) (o0 : 0 ≤ off) (o1 : off ≤ 1000) (a0 : 0 ≤ ba) (a1 : ba ≤ 1000) (hB : ∀ r ∈ rl, 0 ≤ r ∧ r ≤ 100000) (hl : rl.length ≤ te) (r0 : 0 ≤ rd) (r1 : rd ≤ 100000) (w : World) (hr : IRow w ra rl) (hrn : ra = none → rc = 0) :
    Calls Try.prog 76 #[.agg #[.int .i64 (te : Int), .int .i64 me, .int .i64 low, .int .i64 ba, .int .i64 off, .slice ra rl.length rc], .int .i64 st, .int .i64 rd] w fun e w' => e = .returned (.int .i64 (needL te me low ba off rl st rd)) ∧ Gr w w' := by
  have gU := Gr.al w (.cells #[.int .i64 (te : Int), .int .i64 me, .int .i64 low, .int .i64 ba, .int .i64 off, .slice ra rl.length rc] 147)
  have oU := Own.new w [.int .i64 (te : Int), .int .i64 me, .int .i64 low, .int .i64 ba, .int .i64 off, .slice ra rl.length rc] 147 w.heap.size rfl
  obtain ⟨M, hM⟩ : ∃ M : Nat, te + 1 - rl.length = M := ⟨_, rfl⟩
  have v0 : IntKind.i64.wrap ((te : Int) - (rl.length : Int)) = (te : Int) - (rl.length : Int) := IntWalk.i64_in _ (by omega)
  have v1 : IntKind.i64.wrap ((te : Int) - (rl.length : Int) + 1) = (M : Int) := by rw [IntWalk.i64_in _ (by omega)]; omega
  have q0 := oU.1.2 0 _ rfl
  have q5 := oU.1.2 5 _ rfl
  have OU := Lib.hid oU
  have GU := Lib.hid gU
  have HR := Lib.hid hr
  have HB := Lib.hid hB
  clear oU gU hr hB
  go_enter Try.func76, Try.ntmps76
  go_wp2
  clear q0 q5 v0 v1
  go_loopw [16] (fun i wr => Hid (∃ k : Nat, k ≤ M ∧ i = .int .i64 k ∧ (∀ j, j < k → stAt te me low ba off rl rd j ≠ st) ∧ Gr (w.alloc (.cells #[.int .i64 (te : Int), .int .i64 me, .int .i64 low, .int .i64 ba, .int .i64 off, .slice ra rl.length rc] 147)) wr)) (fun i _ => M - (intOf i).toNat)
  case atStart => exact Lib.hid ⟨0, Nat.zero_le _, rfl, fun j hj => by omega, Below.refl _ _⟩
  case round =>
    obtain ⟨k, hk, rfl, hno, gw⟩ := hrel.out
    clear hrel
    have HNO := Lib.hid hno
    clear hno
    by_cases hlt : k < M
    · have hO := OU.out.keep gw
      have hrr := HR.out.grow (GU.out.tr gw)
      have HO := Lib.hid hO
      have HRR := Lib.hid hrr
      have GW := Lib.hid gw
      obtain ⟨sk, hsk⟩ : ∃ sk, stAt te me low ba off rl rd k = sk := ⟨_, rfl⟩
      have hbd : ∀ r ∈ rl ++ List.replicate k rd, 0 ≤ r ∧ r ≤ 100000 := fun r h => by
        rcases List.mem_append.1 h with h | h
        · exact HB.out r h
        · rw [(List.mem_replicate.1 h).2]; exact ⟨r0, r1⟩
      have hlen : (rl ++ List.replicate k rd).length ≤ 100000 := by simp; omega
      clear hO hrr gw
      go_upto_region 4 with fail
      refine wp_region_facts 7 [(2, 1), (4, 2), (4, 3), (5, 0), (5, 4)] (fun x => ⟨#[.agg #[.int .i64 (te : Int), .int .i64 me, .int .i64 low, .int .i64 ba, .int .i64 off, .slice ra rl.length rc], .int .i64 st, .int .i64 rd, .pointer (some ⟨w.heap.size, 0, none⟩), undef, undef, u6, .int .i64 (k : Int), .pointer (some ⟨w.heap.size, 0, none⟩), .pointer (some ⟨w.heap.size, 0, none⟩), .int .i64 (te : Int), .pointer (some ⟨w.heap.size, 5, none⟩), .slice ra rl.length rc, .int .i64 (rl.length : Int), .int .i64 ((te : Int) - (rl.length : Int)), .int .i64 (M : Int), .int .i64 (k : Int), .bool true, .int .i64 (k : Int), x 0, x 1, x 2, x 3, x 4, x 5, x 6, u26, u27, u28], []⟩) (fun i => [u19, u20, u21, u22, u23, u24, u25].getD i undef) [fun _ x => x = .agg #[.int .i64 (te : Int), .int .i64 me, .int .i64 low, .int .i64 ba, .int .i64 off, .slice ra rl.length rc], fun _ x => x = .int .i64 rd, fun v x => ∃ b, x = .slice (some ⟨b, 0, none⟩) 1 1 ∧ IRow v (some ⟨b, 0, none⟩) [rd], fun _ x => x = .int .i64 (k : Int), fun v x => ∃ a, x = .slice a k k ∧ IRow v a (List.replicate k rd) ∧ (a = none → k = 0), fun _ x => x = .int .i64 sk, fun _ x => x = .int .i64 st] (by rfl) (by kernel_rfl) (by kernel_rfl) (by kernel_rfl) (stays_cons (Stays.eq _) (stays_cons (Stays.eq _) (stays_cons ((show Stays (fun v x => ∃ b, x = .slice (some ⟨b, 0, none⟩) 1 1 ∧ IRow v (some ⟨b, 0, none⟩) [rd]) from fun v v' x g ⟨b, h, r⟩ => ⟨b, h, r.grow g⟩)) (stays_cons (Stays.eq _) (stays_cons ((show Stays (fun v x => ∃ a, x = .slice a k k ∧ IRow v a (List.replicate k rd) ∧ (a = none → k = 0)) from fun v v' x g ⟨a, h, r, n⟩ => ⟨a, h, r.grow g, n⟩)) (stays_cons (Stays.eq _) (stays_cons (Stays.eq _) stays_nil))))))) ?step4 ?fin4
      case step4 =>
        rintro i hi x v gv hd K hK
        have hi8 : i = 0 ∨ i = 1 ∨ i = 2 ∨ i = 3 ∨ i = 4 ∨ i = 5 ∨ i = 6 := by omega
        rcases hi8 with rfl | rfl | rfl | rfl | rfl | rfl | rfl
        · show wpOp Try.prog _ _ 0 K (⟨#[.agg #[.int .i64 (te : Int), .int .i64 me, .int .i64 low, .int .i64 ba, .int .i64 off, .slice ra rl.length rc], .int .i64 st, .int .i64 rd, .pointer (some ⟨w.heap.size, 0, none⟩), undef, undef, u6, .int .i64 (k : Int), .pointer (some ⟨w.heap.size, 0, none⟩), .pointer (some ⟨w.heap.size, 0, none⟩), .int .i64 (te : Int), .pointer (some ⟨w.heap.size, 5, none⟩), .slice ra rl.length rc, .int .i64 (rl.length : Int), .int .i64 ((te : Int) - (rl.length : Int)), .int .i64 (M : Int), .int .i64 (k : Int), .bool true, .int .i64 (k : Int), x 0, x 1, x 2, x 3, x 4, x 5, x 6, u26, u27, u28], []⟩ : Act) v
          refine wpOp_step rfl (fun K' hK' => ?_)
          have p0 := ((HO.out.keep gv).1.2 0 _ rfl)
          have p1 := ((HO.out.keep gv).1.2 1 _ rfl)
          have p2 := ((HO.out.keep gv).1.2 2 _ rfl)
          have p3 := ((HO.out.keep gv).1.2 3 _ rfl)
          have p4 := ((HO.out.keep gv).1.2 4 _ rfl)
          have p5 := ((HO.out.keep gv).1.2 5 _ rfl)
          go_simp
          exact hK' _ _ (hK _ _ (Below.refl _ _) (at_of rfl (rfl)))
        · show wpOp Try.prog _ _ 1 K (⟨#[.agg #[.int .i64 (te : Int), .int .i64 me, .int .i64 low, .int .i64 ba, .int .i64 off, .slice ra rl.length rc], .int .i64 st, .int .i64 rd, .pointer (some ⟨w.heap.size, 0, none⟩), undef, undef, u6, .int .i64 (k : Int), .pointer (some ⟨w.heap.size, 0, none⟩), .pointer (some ⟨w.heap.size, 0, none⟩), .int .i64 (te : Int), .pointer (some ⟨w.heap.size, 5, none⟩), .slice ra rl.length rc, .int .i64 (rl.length : Int), .int .i64 ((te : Int) - (rl.length : Int)), .int .i64 (M : Int), .int .i64 (k : Int), .bool true, .int .i64 (k : Int), x 0, x 1, x 2, x 3, x 4, x 5, x 6, u26, u27, u28], []⟩ : Act) v
          refine wpOp_step rfl (fun K' hK' => ?_)
          go_simp
          exact hK' _ _ (hK _ _ (Below.refl _ _) (at_of rfl (rfl)))
        · obtain ⟨x, rfl⟩ := upd_of (show x 1 = .int .i64 rd from hd 1 _ (by simp) rfl)
          show wpOp Try.prog _ _ 2 K (⟨#[.agg #[.int .i64 (te : Int), .int .i64 me, .int .i64 low, .int .i64 ba, .int .i64 off, .slice ra rl.length rc], .int .i64 st, .int .i64 rd, .pointer (some ⟨w.heap.size, 0, none⟩), undef, undef, u6, .int .i64 (k : Int), .pointer (some ⟨w.heap.size, 0, none⟩), .pointer (some ⟨w.heap.size, 0, none⟩), .int .i64 (te : Int), .pointer (some ⟨w.heap.size, 5, none⟩), .slice ra rl.length rc, .int .i64 (rl.length : Int), .int .i64 ((te : Int) - (rl.length : Int)), .int .i64 (M : Int), .int .i64 (k : Int), .bool true, .int .i64 (k : Int), x 0, .int .i64 rd, x 2, x 3, x 4, x 5, x 6, u26, u27, u28], []⟩ : Act) v
          refine wpOp_step rfl (fun K' hK' => ?_)
          go_simp
          have hg := Gr.al v (.cells (List.toArray [.int .i64 rd]) 3)
          exact hK' _ _ (hK _ _ hg (at_of rfl (⟨_, rfl, irow_one v rd⟩)))
        · show wpOp Try.prog _ _ 3 K (⟨#[.agg #[.int .i64 (te : Int), .int .i64 me, .int .i64 low, .int .i64 ba, .int .i64 off, .slice ra rl.length rc], .int .i64 st, .int .i64 rd, .pointer (some ⟨w.heap.size, 0, none⟩), undef, undef, u6, .int .i64 (k : Int), .pointer (some ⟨w.heap.size, 0, none⟩), .pointer (some ⟨w.heap.size, 0, none⟩), .int .i64 (te : Int), .pointer (some ⟨w.heap.size, 5, none⟩), .slice ra rl.length rc, .int .i64 (rl.length : Int), .int .i64 ((te : Int) - (rl.length : Int)), .int .i64 (M : Int), .int .i64 (k : Int), .bool true, .int .i64 (k : Int), x 0, x 1, x 2, x 3, x 4, x 5, x 6, u26, u27, u28], []⟩ : Act) v
          refine wpOp_step rfl (fun K' hK' => ?_)
          go_simp
          exact hK' _ _ (hK _ _ (Below.refl _ _) (at_of rfl (rfl)))
        · obtain ⟨b2, e2, h2⟩ := hd 2 _ (by simp) rfl
          obtain ⟨x, rfl⟩ := upd_of (show x 2 = .slice (some ⟨b2, 0, none⟩) 1 1 from e2)
          obtain ⟨x, rfl⟩ := upd_of (show x 3 = .int .i64 (k : Int) from hd 3 _ (by simp) rfl)
          show wpOp Try.prog _ _ 4 K (⟨#[.agg #[.int .i64 (te : Int), .int .i64 me, .int .i64 low, .int .i64 ba, .int .i64 off, .slice ra rl.length rc], .int .i64 st, .int .i64 rd, .pointer (some ⟨w.heap.size, 0, none⟩), undef, undef, u6, .int .i64 (k : Int), .pointer (some ⟨w.heap.size, 0, none⟩), .pointer (some ⟨w.heap.size, 0, none⟩), .int .i64 (te : Int), .pointer (some ⟨w.heap.size, 5, none⟩), .slice ra rl.length rc, .int .i64 (rl.length : Int), .int .i64 ((te : Int) - (rl.length : Int)), .int .i64 (M : Int), .int .i64 (k : Int), .bool true, .int .i64 (k : Int), x 0, x 1, .slice (some ⟨b2, 0, none⟩) 1 1, .int .i64 (k : Int), x 4, x 5, x 6, u26, u27, u28], []⟩ : Act) v
          refine wpOp_step rfl (fun K' hK' => ?_)
          go_simp
          refine (repeat_any' rd k (by omega) (some ⟨b2, 0, none⟩) 1 v h2).mono ?_
          rintro e v' ⟨a4, rfl, hr4, hn4, hg⟩
          exact hK' _ _ (hK _ _ hg (at_of rfl (⟨_, rfl, hr4, hn4⟩)))
        · obtain ⟨x, rfl⟩ := upd_of (show x 0 = .agg #[.int .i64 (te : Int), .int .i64 me, .int .i64 low, .int .i64 ba, .int .i64 off, .slice ra rl.length rc] from hd 0 _ (by simp) rfl)
          obtain ⟨a4, e4, h4, n4⟩ := hd 4 _ (by simp) rfl
          obtain ⟨x, rfl⟩ := upd_of (show x 4 = .slice a4 k k from e4)
          show wpOp Try.prog _ _ 5 K (⟨#[.agg #[.int .i64 (te : Int), .int .i64 me, .int .i64 low, .int .i64 ba, .int .i64 off, .slice ra rl.length rc], .int .i64 st, .int .i64 rd, .pointer (some ⟨w.heap.size, 0, none⟩), undef, undef, u6, .int .i64 (k : Int), .pointer (some ⟨w.heap.size, 0, none⟩), .pointer (some ⟨w.heap.size, 0, none⟩), .int .i64 (te : Int), .pointer (some ⟨w.heap.size, 5, none⟩), .slice ra rl.length rc, .int .i64 (rl.length : Int), .int .i64 ((te : Int) - (rl.length : Int)), .int .i64 (M : Int), .int .i64 (k : Int), .bool true, .int .i64 (k : Int), .agg #[.int .i64 (te : Int), .int .i64 me, .int .i64 low, .int .i64 ba, .int .i64 off, .slice ra rl.length rc], x 1, x 2, x 3, .slice a4 k k, x 5, x 6, u26, u27, u28], []⟩ : Act) v
          refine wpOp_step rfl (fun K' hK' => ?_)
          go_simp
          have c := state_any te me low ba off rl (List.replicate k rd) ra a4 rc k t1 m0 m1 o0 o1 a0 a1 hbd hlen v (HRR.out.grow gv) hrn h4 n4
          rw [List.length_replicate, show stateL (te : Int) me low ba (truthsL te off (rl ++ List.replicate k rd)) = sk from hsk] at c
          refine c.mono ?_
          rintro e v' ⟨rfl, hg⟩
          exact hK' _ _ (hK _ _ hg (at_of rfl (rfl)))
        · show wpOp Try.prog _ _ 6 K (⟨#[.agg #[.int .i64 (te : Int), .int .i64 me, .int .i64 low, .int .i64 ba, .int .i64 off, .slice ra rl.length rc], .int .i64 st, .int .i64 rd, .pointer (some ⟨w.heap.size, 0, none⟩), undef, undef, u6, .int .i64 (k : Int), .pointer (some ⟨w.heap.size, 0, none⟩), .pointer (some ⟨w.heap.size, 0, none⟩), .int .i64 (te : Int), .pointer (some ⟨w.heap.size, 5, none⟩), .slice ra rl.length rc, .int .i64 (rl.length : Int), .int .i64 ((te : Int) - (rl.length : Int)), .int .i64 (M : Int), .int .i64 (k : Int), .bool true, .int .i64 (k : Int), x 0, x 1, x 2, x 3, x 4, x 5, x 6, u26, u27, u28], []⟩ : Act) v
          refine wpOp_step rfl (fun K' hK' => ?_)
          go_simp
          exact hK' _ _ (hK _ _ (Below.refl _ _) (at_of rfl (rfl)))
      case fin4 =>
        rintro x v gv hd
        obtain ⟨x, rfl⟩ := upd_of (show x 5 = .int .i64 sk from hd 5 _ (by omega) rfl)
        obtain ⟨x, rfl⟩ := upd_of (show x 6 = .int .i64 st from hd 6 _ (by omega) rfl)
        clear hd
        show wpList Try.prog _ _ (List.drop 7 _) (⟨#[.agg #[.int .i64 (te : Int), .int .i64 me, .int .i64 low, .int .i64 ba, .int .i64 off, .slice ra rl.length rc], .int .i64 st, .int .i64 rd, .pointer (some ⟨w.heap.size, 0, none⟩), undef, undef, u6, .int .i64 (k : Int), .pointer (some ⟨w.heap.size, 0, none⟩), .pointer (some ⟨w.heap.size, 0, none⟩), .int .i64 (te : Int), .pointer (some ⟨w.heap.size, 5, none⟩), .slice ra rl.length rc, .int .i64 (rl.length : Int), .int .i64 ((te : Int) - (rl.length : Int)), .int .i64 (M : Int), .int .i64 (k : Int), .bool true, .int .i64 (k : Int), x 0, x 1, x 2, x 3, x 4, .int .i64 sk, .int .i64 st, u26, u27, u28], []⟩ : Act) v
        simp only [List.drop_succ_cons, List.drop_zero]
        have gZ := Lib.hid ((GU.out.tr GW.out).tr gv)
        have gY := Lib.hid (GW.out.tr gv)
        clear gv
        by_cases hE : sk = st
        · subst hE
          go_wp2
          go_ret
          refine ⟨?_, gZ.out⟩
          have hf : (List.range (te + 1 - rl.length)).find? (fun k => decide (stAt te me low ba off rl rd k = sk)) = some k := by
            rw [List.find?_range_eq_some]
            exact ⟨by simpa using hsk, List.mem_range.2 (by omega), fun j hj => by simpa using HNO.out j hj⟩
          unfold needL
          rw [hf]
          rfl
        · go_wp2
          go_roundw
          case rel =>
            refine Lib.hid ⟨k + 1, by omega, by go_num, fun j hj => ?_, gY.out⟩
            by_cases hjk : j = k
            · subst hjk
              rw [hsk]
              exact hE
            · exact HNO.out j (by omega)
          case measure => simp [intOf]; omega
    · obtain rfl : k = M := by omega
      go_wp2
      go_ret
      refine ⟨?_, GU.out.tr gw⟩
      have hf : (List.range (te + 1 - rl.length)).find? (fun k => decide (stAt te me low ba off rl rd k = st)) = none := by
        rw [List.find?_range_eq_none]
        intro j hj
        have := HNO.out j (by omega)
        simpa using this
      unfold needL
      rw [hf]
      rfl

end Go.Proofs.Ytcdilmagcdbogaa

namespace Go.Proofs.Ytcdilmagcdbogaa
set_option linter.unusedVariables false
set_option linter.unusedSimpArgs false
open Go.RowKit

set_option maxRecDepth 100000 in
set_option maxHeartbeats 4000000 in
theorem needF_ok (te me lo ba off : Int) (l : List Int) (h : ruleL te me lo ba off l = 0) (a : Option Addr) (cap : Nat) (w : World) (hr : IRow w a l) (hn : a = none → cap = 0) :
    Calls Try.prog 22 #[.agg #[.int .i64 te, .int .i64 me, .int .i64 lo, .int .i64 ba], .slice a l.length cap, .int .i64 off] w fun e w' => e = .returned (.tuple #[.int .i64 (needL te.toNat me lo ba off l 1 100000), .int .i64 (needL te.toNat me lo ba off l 2 0), .int .i64 0]) ∧ Gr w w' := by
  obtain ⟨⟨x0, x1⟩, ⟨x2, x3⟩, ⟨x4, x5⟩, ⟨x6, x7⟩, x8, x9⟩ := rule_parts h
  obtain ⟨n, rfl⟩ : ∃ n : Nat, te = (n : Int) := ⟨te.toNat, by omega⟩
  rw [Int.toNat_natCast]
  have oU := Own.new w [.int .i64 (n : Int), .int .i64 me, .int .i64 lo, .int .i64 ba] 23 w.heap.size rfl
  have gU := Gr.al w (.cells #[.int .i64 (n : Int), .int .i64 me, .int .i64 lo, .int .i64 ba] 23)
  have hR : ∀ W, Gr w W → Calls Try.prog 20 #[.agg #[.int .i64 (n : Int), .int .i64 me, .int .i64 lo, .int .i64 ba], .slice a l.length cap, .int .i64 off] W fun e w' => e = .returned (.int .i64 0) ∧ Gr W w' := fun W g => by
    have := rule_any (n : Int) me lo ba off l a cap W (hr.grow g)
    rw [h] at this
    exact this
  have hS : ∀ (st rd : Int), 0 ≤ rd → rd ≤ 100000 → ∀ W, Gr w W → Calls Try.prog 76 #[.agg #[.int .i64 (n : Int), .int .i64 me, .int .i64 lo, .int .i64 ba, .int .i64 off, .slice a l.length cap], .int .i64 st, .int .i64 rd] W fun e w' => e = .returned (.int .i64 (needL n me lo ba off l st rd)) ∧ Gr W w' := fun st rd r0 r1 W g =>
    need_any n me lo ba off l a cap st rd (by omega) (by omega) (by omega) (by omega) (by omega) (by omega) (by omega) x9 (by omega) r0 r1 W (hr.grow g) hn
  have HR := Lib.hid hR
  have HS := Lib.hid hS
  obtain ⟨q0, q1, q2, q3⟩ := oU.1.c4'
  have OU := Lib.hid oU
  have GU := Lib.hid gU
  clear hR hS oU gU h
  go_enter Try.func22, Try.ntmps22
  go_wp2_with fail
  refine (HR.out _ GU.out).mono ?_
  rintro e w1 ⟨rfl, g1⟩
  obtain ⟨q0, q1, q2, q3⟩ := (OU.out.keep g1).1.c4'
  have G1 := Lib.hid (GU.out.tr g1)
  have bx := Box.new w1 [.int .i64 (n : Int), .int .i64 me, .int .i64 lo, .int .i64 ba, .int .i64 off, .slice a l.length cap] 147 w1.heap.size rfl
  have BX := Lib.hid bx
  clear g1 bx
  go_upto_region 5 with fail
  have GV := Lib.hid (G1.out.tr (Gr.al w1 (.cells #[.int .i64 (n : Int), .int .i64 me, .int .i64 lo, .int .i64 ba, .int .i64 off, .slice a l.length cap] 147)))
  clear q0 q1 q2 q3
  refine wp_region_facts 5 [(1, 0), (3, 2), (4, 1)] (fun x => ⟨#[.agg #[.int .i64 (n : Int), .int .i64 me, .int .i64 lo, .int .i64 ba], .slice a l.length cap, .int .i64 off, .pointer (some ⟨w.heap.size, 0, none⟩), undef, undef, x 4, .int .i64 0, .int .i64 0, .int .i64 0, .pointer (some ⟨w1.heap.size, 0, none⟩), .agg #[.int .i64 (n : Int), .int .i64 me, .int .i64 lo, .int .i64 ba], .slice a l.length cap, .int .i64 off, .int .i64 0, .int .i64 0, .bool false, undef, .agg #[.int .i64 (n : Int), .int .i64 me, .int .i64 lo, .int .i64 ba], .int .i64 off, .agg #[.int .i64 off], .slice a l.length cap, .agg #[.int .i64 (n : Int), .int .i64 me, .int .i64 lo, .int .i64 ba, .int .i64 off, .slice a l.length cap], x 0, x 1, x 2, x 3], []⟩) (fun i => [undef, undef, undef, undef, .int .i64 0].getD i undef) [fun _ x => x = .agg #[.int .i64 (n : Int), .int .i64 me, .int .i64 lo, .int .i64 ba, .int .i64 off, .slice a l.length cap], fun _ x => x = .int .i64 (needL n me lo ba off l 1 100000), fun _ x => x = .agg #[.int .i64 (n : Int), .int .i64 me, .int .i64 lo, .int .i64 ba, .int .i64 off, .slice a l.length cap], fun _ x => x = .int .i64 (needL n me lo ba off l 2 0), fun _ x => x = .int .i64 (needL n me lo ba off l 1 100000)] (by rfl) (by kernel_rfl) (by kernel_rfl) (by kernel_rfl) (stays_cons (Stays.eq _) (stays_cons (Stays.eq _) (stays_cons (Stays.eq _) (stays_cons (Stays.eq _) (stays_cons (Stays.eq _) stays_nil))))) ?step5 ?fin5
  case step5 =>
    rintro i hi x v gv hd K hK
    have hi8 : i = 0 ∨ i = 1 ∨ i = 2 ∨ i = 3 ∨ i = 4 := by omega
    rcases hi8 with rfl | rfl | rfl | rfl | rfl
    · show wpOp Try.prog _ _ 0 K (⟨#[.agg #[.int .i64 (n : Int), .int .i64 me, .int .i64 lo, .int .i64 ba], .slice a l.length cap, .int .i64 off, .pointer (some ⟨w.heap.size, 0, none⟩), undef, undef, x 4, .int .i64 0, .int .i64 0, .int .i64 0, .pointer (some ⟨w1.heap.size, 0, none⟩), .agg #[.int .i64 (n : Int), .int .i64 me, .int .i64 lo, .int .i64 ba], .slice a l.length cap, .int .i64 off, .int .i64 0, .int .i64 0, .bool false, undef, .agg #[.int .i64 (n : Int), .int .i64 me, .int .i64 lo, .int .i64 ba], .int .i64 off, .agg #[.int .i64 off], .slice a l.length cap, .agg #[.int .i64 (n : Int), .int .i64 me, .int .i64 lo, .int .i64 ba, .int .i64 off, .slice a l.length cap], x 0, x 1, x 2, x 3], []⟩ : Act) v
      refine wpOp_step rfl (fun K' hK' => ?_)
      have p0 := ((BX.out.keep gv).2 0 _ rfl)
      have p1 := ((BX.out.keep gv).2 1 _ rfl)
      have p2 := ((BX.out.keep gv).2 2 _ rfl)
      have p3 := ((BX.out.keep gv).2 3 _ rfl)
      have p4 := ((BX.out.keep gv).2 4 _ rfl)
      have p5 := ((BX.out.keep gv).2 5 _ rfl)
      go_simp
      exact hK' _ _ (hK _ _ (Below.refl _ _) (at_of rfl (rfl)))
    · obtain ⟨x, rfl⟩ := upd_of (show x 0 = .agg #[.int .i64 (n : Int), .int .i64 me, .int .i64 lo, .int .i64 ba, .int .i64 off, .slice a l.length cap] from hd 0 _ (by simp) rfl)
      show wpOp Try.prog _ _ 1 K (⟨#[.agg #[.int .i64 (n : Int), .int .i64 me, .int .i64 lo, .int .i64 ba], .slice a l.length cap, .int .i64 off, .pointer (some ⟨w.heap.size, 0, none⟩), undef, undef, x 4, .int .i64 0, .int .i64 0, .int .i64 0, .pointer (some ⟨w1.heap.size, 0, none⟩), .agg #[.int .i64 (n : Int), .int .i64 me, .int .i64 lo, .int .i64 ba], .slice a l.length cap, .int .i64 off, .int .i64 0, .int .i64 0, .bool false, undef, .agg #[.int .i64 (n : Int), .int .i64 me, .int .i64 lo, .int .i64 ba], .int .i64 off, .agg #[.int .i64 off], .slice a l.length cap, .agg #[.int .i64 (n : Int), .int .i64 me, .int .i64 lo, .int .i64 ba, .int .i64 off, .slice a l.length cap], .agg #[.int .i64 (n : Int), .int .i64 me, .int .i64 lo, .int .i64 ba, .int .i64 off, .slice a l.length cap], x 1, x 2, x 3], []⟩ : Act) v
      refine wpOp_step rfl (fun K' hK' => ?_)
      go_simp
      refine (HS.out 1 100000 (by omega) (by omega) v (GV.out.tr gv)).mono ?_
      rintro e v' ⟨rfl, hg⟩
      exact hK' _ _ (hK _ _ hg (at_of rfl (rfl)))
    · show wpOp Try.prog _ _ 2 K (⟨#[.agg #[.int .i64 (n : Int), .int .i64 me, .int .i64 lo, .int .i64 ba], .slice a l.length cap, .int .i64 off, .pointer (some ⟨w.heap.size, 0, none⟩), undef, undef, x 4, .int .i64 0, .int .i64 0, .int .i64 0, .pointer (some ⟨w1.heap.size, 0, none⟩), .agg #[.int .i64 (n : Int), .int .i64 me, .int .i64 lo, .int .i64 ba], .slice a l.length cap, .int .i64 off, .int .i64 0, .int .i64 0, .bool false, undef, .agg #[.int .i64 (n : Int), .int .i64 me, .int .i64 lo, .int .i64 ba], .int .i64 off, .agg #[.int .i64 off], .slice a l.length cap, .agg #[.int .i64 (n : Int), .int .i64 me, .int .i64 lo, .int .i64 ba, .int .i64 off, .slice a l.length cap], x 0, x 1, x 2, x 3], []⟩ : Act) v
      refine wpOp_step rfl (fun K' hK' => ?_)
      have p0 := ((BX.out.keep gv).2 0 _ rfl)
      have p1 := ((BX.out.keep gv).2 1 _ rfl)
      have p2 := ((BX.out.keep gv).2 2 _ rfl)
      have p3 := ((BX.out.keep gv).2 3 _ rfl)
      have p4 := ((BX.out.keep gv).2 4 _ rfl)
      have p5 := ((BX.out.keep gv).2 5 _ rfl)
      go_simp
      exact hK' _ _ (hK _ _ (Below.refl _ _) (at_of rfl (rfl)))
    · obtain ⟨x, rfl⟩ := upd_of (show x 2 = .agg #[.int .i64 (n : Int), .int .i64 me, .int .i64 lo, .int .i64 ba, .int .i64 off, .slice a l.length cap] from hd 2 _ (by simp) rfl)
      show wpOp Try.prog _ _ 3 K (⟨#[.agg #[.int .i64 (n : Int), .int .i64 me, .int .i64 lo, .int .i64 ba], .slice a l.length cap, .int .i64 off, .pointer (some ⟨w.heap.size, 0, none⟩), undef, undef, x 4, .int .i64 0, .int .i64 0, .int .i64 0, .pointer (some ⟨w1.heap.size, 0, none⟩), .agg #[.int .i64 (n : Int), .int .i64 me, .int .i64 lo, .int .i64 ba], .slice a l.length cap, .int .i64 off, .int .i64 0, .int .i64 0, .bool false, undef, .agg #[.int .i64 (n : Int), .int .i64 me, .int .i64 lo, .int .i64 ba], .int .i64 off, .agg #[.int .i64 off], .slice a l.length cap, .agg #[.int .i64 (n : Int), .int .i64 me, .int .i64 lo, .int .i64 ba, .int .i64 off, .slice a l.length cap], x 0, x 1, .agg #[.int .i64 (n : Int), .int .i64 me, .int .i64 lo, .int .i64 ba, .int .i64 off, .slice a l.length cap], x 3], []⟩ : Act) v
      refine wpOp_step rfl (fun K' hK' => ?_)
      go_simp
      refine (HS.out 2 0 (by omega) (by omega) v (GV.out.tr gv)).mono ?_
      rintro e v' ⟨rfl, hg⟩
      exact hK' _ _ (hK _ _ hg (at_of rfl (rfl)))
    · obtain ⟨x, rfl⟩ := upd_of (show x 1 = .int .i64 (needL n me lo ba off l 1 100000) from hd 1 _ (by simp) rfl)
      show wpOp Try.prog _ _ 4 K (⟨#[.agg #[.int .i64 (n : Int), .int .i64 me, .int .i64 lo, .int .i64 ba], .slice a l.length cap, .int .i64 off, .pointer (some ⟨w.heap.size, 0, none⟩), undef, undef, x 4, .int .i64 0, .int .i64 0, .int .i64 0, .pointer (some ⟨w1.heap.size, 0, none⟩), .agg #[.int .i64 (n : Int), .int .i64 me, .int .i64 lo, .int .i64 ba], .slice a l.length cap, .int .i64 off, .int .i64 0, .int .i64 0, .bool false, undef, .agg #[.int .i64 (n : Int), .int .i64 me, .int .i64 lo, .int .i64 ba], .int .i64 off, .agg #[.int .i64 off], .slice a l.length cap, .agg #[.int .i64 (n : Int), .int .i64 me, .int .i64 lo, .int .i64 ba, .int .i64 off, .slice a l.length cap], x 0, .int .i64 (needL n me lo ba off l 1 100000), x 2, x 3], []⟩ : Act) v
      refine wpOp_step rfl (fun K' hK' => ?_)
      go_simp
      exact hK' _ _ (hK _ _ (Below.refl _ _) (at_of rfl (rfl)))
  case fin5 =>
    rintro x v gv hd
    obtain ⟨x, rfl⟩ := upd_of (show x 3 = .int .i64 (needL n me lo ba off l 2 0) from hd 3 _ (by omega) rfl)
    obtain ⟨x, rfl⟩ := upd_of (show x 4 = .int .i64 (needL n me lo ba off l 1 100000) from hd 4 _ (by omega) rfl)
    clear hd
    show wpList Try.prog _ _ (List.drop 5 _) (⟨#[.agg #[.int .i64 (n : Int), .int .i64 me, .int .i64 lo, .int .i64 ba], .slice a l.length cap, .int .i64 off, .pointer (some ⟨w.heap.size, 0, none⟩), undef, undef, .int .i64 (needL n me lo ba off l 1 100000), .int .i64 0, .int .i64 0, .int .i64 0, .pointer (some ⟨w1.heap.size, 0, none⟩), .agg #[.int .i64 (n : Int), .int .i64 me, .int .i64 lo, .int .i64 ba], .slice a l.length cap, .int .i64 off, .int .i64 0, .int .i64 0, .bool false, undef, .agg #[.int .i64 (n : Int), .int .i64 me, .int .i64 lo, .int .i64 ba], .int .i64 off, .agg #[.int .i64 off], .slice a l.length cap, .agg #[.int .i64 (n : Int), .int .i64 me, .int .i64 lo, .int .i64 ba, .int .i64 off, .slice a l.length cap], x 0, x 1, x 2, .int .i64 (needL n me lo ba off l 2 0)], []⟩ : Act) v
    simp only [List.drop_succ_cons, List.drop_zero]
    have GZ := Lib.hid (GV.out.tr gv)
    clear gv
    go_wp2
    exact bodyPost_ret (v := .tuple #[.int .i64 (needL n me lo ba off l 1 100000), .int .i64 (needL n me lo ba off l 2 0), .int .i64 0]) (by simp [results, Try.results22, go_sem]) rfl ⟨rfl, GZ.out⟩

end Go.Proofs.Ytcdilmagcdbogaa

namespace Go.Proofs.Ytcdilmagcdbogaa
set_option linter.unusedVariables false
set_option linter.unusedSimpArgs false
open Go.RowKit

theorem sumS_ge (hi : Bool) (m : Int) : ∀ l : List (Int × Int), (∀ x ∈ l, m ≤ if hi then x.2 else x.1) → (l.length : Int) * m ≤ sumS hi l
  | [], _ => by simp [sumS]
  | y :: l, h => by
    have h1 := sumS_ge hi m l (fun x hx => h x (List.mem_cons_of_mem _ hx))
    have h2 := h y List.mem_cons_self
    simp only [sumS, List.length_cons]
    rw [show ((l.length + 1 : Nat) : Int) = (l.length : Int) + 1 by omega, Int.add_mul, Int.one_mul]
    omega

theorem sumS_le (hi : Bool) (m : Int) : ∀ l : List (Int × Int), (∀ x ∈ l, (if hi then x.2 else x.1) ≤ m) → sumS hi l ≤ (l.length : Int) * m
  | [], _ => by simp [sumS]
  | y :: l, h => by
    have h1 := sumS_le hi m l (fun x hx => h x (List.mem_cons_of_mem _ hx))
    have h2 := h y List.mem_cons_self
    simp only [sumS, List.length_cons]
    rw [show ((l.length + 1 : Nat) : Int) = (l.length : Int) + 1 by omega, Int.add_mul, Int.one_mul]
    omega

theorem badS_len (hi : Bool) (low : Int) : ∀ l : List (Int × Int), badS hi low l ≤ (l.length : Int)
  | [] => by simp [badS]
  | y :: l => by
    have := badS_len hi low l
    simp only [badS, List.length_cons]
    split <;> split <;> omega

theorem truthsL_len (te : Nat) (off : Int) (l : List Int) : (truthsL te off l).length = te := by simp [truthsL]

/-- All readings so great that the least truths are at least the mean: the lot passes. -/
theorem state_pass (n : Nat) (m off : Int) (l : List Int) (h : ∀ k, k < n → m ≤ (truthAt off l k).1) : stateL (n : Int) m 0 (n : Int) (truthsL n off l) = 1 := by
  have hall : ∀ x ∈ truthsL n off l, m ≤ if false = true then x.2 else x.1 := fun x hx => by
    obtain ⟨k, hk, rfl⟩ := List.mem_map.1 hx
    simpa using h k (List.mem_range.1 hk)
  have h1 := sumS_ge false m _ hall
  have h2 := badS_len false 0 (truthsL n off l)
  rw [truthsL_len] at h1 h2
  unfold stateL
  rw [if_pos]
  unfold passB
  rw [decide_eq_true h2, decide_eq_true h1]
  rfl

/-- All readings so small that the greatest truths are below the mean: it fails. -/
theorem state_fail (n : Nat) (hn : 1 ≤ n) (m off : Int) (l : List Int) (h : ∀ k, k < n → (truthAt off l k).2 ≤ m - 1 ∧ (truthAt off l k).1 ≤ m - 1) : stateL (n : Int) m 0 (n : Int) (truthsL n off l) = 2 := by
  have aux : ∀ hi : Bool, passB hi (n : Int) m 0 (n : Int) (truthsL n off l) = false := fun hi => by
    have hall : ∀ x ∈ truthsL n off l, (if hi then x.2 else x.1) ≤ m - 1 := fun x hx => by
      obtain ⟨k, hk, rfl⟩ := List.mem_map.1 hx
      have := h k (List.mem_range.1 hk)
      cases hi
      · simpa using this.2
      · simpa using this.1
    have h1 := sumS_le hi (m - 1) _ hall
    rw [truthsL_len, Int.mul_sub, Int.mul_one] at h1
    have h3 : ¬ (n : Int) * m ≤ sumS hi (truthsL n off l) := by omega
    unfold passB
    rw [decide_eq_false h3, Bool.and_false]
  unfold stateL
  rw [aux false, aux true]
  simp

/-- A lot that passes with n tests needs at most n. -/
theorem need_in (n : Nat) (m low ba off : Int) (st rd : Int) (h : stAt n m low ba off [] rd n = st) : 0 ≤ needL n m low ba off [] st rd ∧ needL n m low ba off [] st rd ≤ n := by
  unfold needL
  cases hf : (List.range (n + 1 - ([] : List Int).length)).find? (fun k => decide (stAt n m low ba off [] rd k = st)) with
  | none =>
    rw [List.find?_range_eq_none] at hf
    have := hf n (by simp)
    simp [h] at this
  | some k =>
    have := List.mem_range.1 (List.mem_of_find?_eq_some hf)
    simp at this ⊢
    omega

/-- What fails needs none. -/
theorem need_zero (n : Nat) (m low ba off : Int) (l : List Int) (hl : l.length ≤ n) (st rd : Int) (h : stateL (n : Int) m low ba (truthsL n off l) = st) : needL n m low ba off l st rd = 0 := by
  have hf : (List.range (n + 1 - l.length)).find? (fun k => decide (stAt n m low ba off l rd k = st)) = some 0 := by
    rw [List.find?_range_eq_some]
    exact ⟨by simp [stAt, h], List.mem_range.2 (by omega), fun j hj => by omega⟩
  unfold needL
  rw [hf]
  rfl

end Go.Proofs.Ytcdilmagcdbogaa

namespace Go.Proofs.Ytcdilmagcdbogaa
set_option linter.unusedVariables false
set_option linter.unusedSimpArgs false

/-- Truths that lie within others. -/
def Within : List (Int × Int) → List (Int × Int) → Prop
  | [], [] => True
  | x :: l, y :: m => (x.1 ≤ y.1 ∧ y.2 ≤ x.2) ∧ Within l m
  | _, _ => False

theorem within_sum : ∀ {l m : List (Int × Int)}, Within l m → sumS false l ≤ sumS false m ∧ sumS true m ≤ sumS true l
  | [], [], _ => by simp [sumS]
  | x :: l, y :: m, h => by
    obtain ⟨⟨a, b⟩, c⟩ := h
    obtain ⟨p, q⟩ := within_sum c
    simp only [sumS, Bool.false_eq_true, if_false, if_true]
    omega
  | [], _ :: _, h => h.elim
  | _ :: _, [], h => h.elim

theorem within_bad {low : Int} : ∀ {l m : List (Int × Int)}, Within l m → badS false low m ≤ badS false low l ∧ badS true low l ≤ badS true low m
  | [], [], _ => by simp [badS]
  | x :: l, y :: m, h => by
    obtain ⟨⟨a, b⟩, c⟩ := h
    obtain ⟨p, q⟩ := within_bad (low := low) c
    simp only [badS, Bool.false_eq_true, if_false, if_true]
    have h1 : (if y.1 < low then (1 : Int) else 0) ≤ if x.1 < low then 1 else 0 := by split <;> split <;> omega
    have h2 : (if x.2 < low then (1 : Int) else 0) ≤ if y.2 < low then 1 else 0 := by split <;> split <;> omega
    omega
  | [], _ :: _, h => h.elim
  | _ :: _, [], h => h.elim

theorem passB_iff {hi : Bool} {te me low ba : Int} {l : List (Int × Int)} : passB hi te me low ba l = true ↔ badS hi low l ≤ ba ∧ te * me ≤ sumS hi l := by
  unfold passB
  rw [Bool.and_eq_true, decide_eq_true_eq, decide_eq_true_eq]

theorem within_lo {te me low ba : Int} {l m : List (Int × Int)} (h : Within l m) (hp : passB false te me low ba l = true) : passB false te me low ba m = true := by
  rw [passB_iff] at hp ⊢
  have h1 := within_sum h
  have h2 := within_bad (low := low) h
  omega

theorem within_hi {te me low ba : Int} {l m : List (Int × Int)} (h : Within l m) (hp : passB true te me low ba m = true) : passB true te me low ba l = true := by
  rw [passB_iff] at hp ⊢
  have h1 := within_sum h
  have h2 := within_bad (low := low) h
  omega

theorem within_map {f g : Nat → Int × Int} : ∀ L : List Nat, (∀ k ∈ L, (f k).1 ≤ (g k).1 ∧ (g k).2 ≤ (f k).2) → Within (L.map f) (L.map g)
  | [], _ => trivial
  | x :: L, h => ⟨h x List.mem_cons_self, within_map L (fun k hk => h k (List.mem_cons_of_mem _ hk))⟩

/-- Truths that are known. -/
def diag (l : List Int) : List (Int × Int) := l.map fun t => (t, t)

theorem diag_sum (hi : Bool) : ∀ l, sumS hi (diag l) = sumS false (diag l)
  | [] => rfl
  | x :: l => by
    have := diag_sum hi l
    simp only [diag, List.map_cons] at this ⊢
    cases hi <;> simp [sumS] <;> simpa using this

theorem diag_bad (hi : Bool) (low : Int) : ∀ l, badS hi low (diag l) = badS false low (diag l)
  | [] => rfl
  | x :: l => by
    have := diag_bad hi low l
    simp only [diag, List.map_cons] at this ⊢
    cases hi <;> simp [badS] <;> simpa using this

theorem diag_pass (hi : Bool) (te me low ba : Int) (l : List Int) : passB hi te me low ba (diag l) = passB false te me low ba (diag l) := by
  unfold passB
  rw [diag_sum hi, diag_bad hi]

theorem state_one {te me low ba : Int} {X : List (Int × Int)} : stateL te me low ba X = 1 ↔ passB false te me low ba X = true := by
  unfold stateL
  by_cases h : passB false te me low ba X = true
  · simp [h]
  · rw [if_neg h]
    constructor
    · intro h2
      split at h2 <;> omega
    · intro h2
      exact absurd h2 h

theorem state_two {te me low ba : Int} {X : List (Int × Int)} : stateL te me low ba X = 2 ↔ passB false te me low ba X = false ∧ passB true te me low ba X = false := by
  unfold stateL
  cases h : passB false te me low ba X <;> cases k : passB true te me low ba X <;> simp

theorem state_bd (te me low ba : Int) (X : List (Int × Int)) : stateL te me low ba X = 1 ∨ stateL te me low ba X = 2 ∨ stateL te me low ba X = 3 := by
  unfold stateL
  split
  · exact .inl rfl
  · split
    · exact .inr (.inr rfl)
    · exact .inr (.inl rfl)

/-- What is sure is so in the end. -/
theorem state_in {te me low ba : Int} {X : List (Int × Int)} {T : List Int} (h : Within X (diag T)) (hx : stateL te me low ba X ≠ 3) : (stateL te me low ba X = 1 ↔ passB false te me low ba (diag T) = true) := by
  constructor
  · intro h1
    exact within_lo h (state_one.1 h1)
  · intro hp
    rcases state_bd te me low ba X with h1 | h2 | h3
    · exact h1
    · have h4 := (state_two.1 h2).2
      rw [← diag_pass true] at hp
      rw [within_hi h hp] at h4
      cases h4
    · exact absurd h3 hx

/-- It stays so. -/
theorem state_up {te me low ba : Int} {X Y : List (Int × Int)} {T : List Int} (h : Within X Y) (k : Within Y (diag T)) (hx : stateL te me low ba X ≠ 3) : stateL te me low ba Y = stateL te me low ba X := by
  rcases state_bd te me low ba X with h1 | h2 | h3
  · rw [h1, state_one]
    exact within_lo h (state_one.1 h1)
  · rw [h2, state_two]
    have h4 := (state_two.1 h2).2
    have h5 : passB true te me low ba Y = false := by
      cases h6 : passB true te me low ba Y with
      | false => rfl
      | true =>
        rw [within_hi h h6] at h4
        cases h4
    refine ⟨?_, h5⟩
    cases h6 : passB false te me low ba Y with
    | false => rfl
    | true =>
      have h7 := within_lo k h6
      rw [← diag_pass true] at h7
      rw [within_hi k h7] at h5
      cases h5
  · exact absurd h3 hx

theorem state_diag (te me low ba : Int) (T : List Int) : stateL te me low ba (diag T) ≠ 3 := by
  unfold stateL
  rw [diag_pass true]
  split
  · decide
  · decide

/-- A test of a lot: what is true, and what the gauge is wrong by. -/
structure V2 where
  a : Int
  b : Int

def encV2 (v : V2) : List Value := [.int .u8 v.a, .int .u8 v.b]

abbrev Row2 := RowOf 2 encV2

def B2 (v : V2) : Prop := (0 ≤ v.a ∧ v.a ≤ 255) ∧ (0 ≤ v.b ∧ v.b ≤ 255)

theorem Row2.get {w : World} {a : Option Addr} {l : List V2} (h : Row2 w a l) {j : Nat} {x : V2} (hx : l[j]? = some x) :
    ∃ b o, a = some ⟨b, o, none⟩ ∧ b < w.heap.size ∧ w.cell? ⟨b, o + j * 2, none⟩ = some (.int .u8 x.a) ∧ w.cell? ⟨b, o + j * 2 + 1, none⟩ = some (.int .u8 x.b) := by
  obtain ⟨b, o, ha, hb, hc⟩ := h.2 j x hx
  exact ⟨b, o, ha, hb, hc 0 _ rfl, hc 1 _ rfl⟩

def lotT (T : List V2) (i : Nat) : V2 := match T[i]? with
  | some v => v
  | none => ⟨100, 0⟩

theorem lotT_bd {T : List V2} (h : ∀ v ∈ T, B2 v) (i : Nat) : B2 (lotT T i) := by
  unfold lotT
  split
  · rename_i v hv
    exact h v (List.mem_of_getElem? hv)
  · exact ⟨⟨by decide, by decide⟩, ⟨by decide, by decide⟩⟩

def lotA (T : List V2) (i : Nat) : Int := (lotT T i).a

def lotR (T : List V2) (off : Int) (i : Nat) : Int := max 0 ((lotT T i).a + (lotT T i).b % (2 * off + 1) - off)

def lotTru (T : List V2) (n : Nat) : List Int := (List.range n).map (lotA T)

def lotRea (T : List V2) (off : Int) (n : Nat) : List Int := (List.range n).map (lotR T off)

theorem lotTru_len (T : List V2) (n : Nat) : (lotTru T n).length = n := by simp [lotTru]

theorem lotRea_len (T : List V2) (off : Int) (n : Nat) : (lotRea T off n).length = n := by simp [lotRea]

theorem lotTru_succ (T : List V2) (n : Nat) : lotTru T (n + 1) = lotTru T n ++ [lotA T n] := by simp [lotTru, List.range_succ]

theorem lotRea_succ (T : List V2) (off : Int) (n : Nat) : lotRea T off (n + 1) = lotRea T off n ++ [lotR T off n] := by simp [lotRea, List.range_succ]

theorem lotA_bd {T : List V2} (h : ∀ v ∈ T, B2 v) (i : Nat) : 0 ≤ lotA T i ∧ lotA T i ≤ 255 := (lotT_bd h i).1

theorem lotR_bd {T : List V2} (h : ∀ v ∈ T, B2 v) {off : Int} (o0 : 0 ≤ off) (o1 : off ≤ 39) (i : Nat) : (0 ≤ lotR T off i ∧ lotR T off i ≤ 294) ∧ lotR T off i - off ≤ lotA T i ∧ lotA T i ≤ lotR T off i + off := by
  obtain ⟨⟨a0, a1⟩, b0, b1⟩ := lotT_bd h i
  have m0 := Int.emod_nonneg (lotT T i).b (b := 2 * off + 1) (by omega)
  have m1 := Int.emod_lt_of_pos (lotT T i).b (b := 2 * off + 1) (by omega)
  unfold lotR lotA
  omega

theorem lotRea_take {T : List V2} {off : Int} {n k i : Nat} (hi : i < n) : ((lotRea T off n).take k)[i]? = if i < k then some (lotR T off i) else none := by
  rw [List.getElem?_take]
  simp [lotRea, hi]

theorem lotRea_mem {T : List V2} (h : ∀ v ∈ T, B2 v) {off : Int} (o0 : 0 ≤ off) (o1 : off ≤ 39) {n : Nat} {r : Int} (hr : r ∈ lotRea T off n) : 0 ≤ r ∧ r ≤ 294 := by
  simp only [lotRea, List.mem_map, List.mem_range] at hr
  obtain ⟨i, _, rfl⟩ := hr
  exact (lotR_bd h o0 o1 i).1

theorem lotTru_mem {T : List V2} (h : ∀ v ∈ T, B2 v) {n : Nat} {r : Int} (hr : r ∈ lotTru T n) : 0 ≤ r ∧ r ≤ 255 := by
  simp only [lotTru, List.mem_map, List.mem_range] at hr
  obtain ⟨i, _, rfl⟩ := hr
  exact lotA_bd h i

theorem diag_tru (T : List V2) (n : Nat) : diag (lotTru T n) = (List.range n).map (fun i => (lotA T i, lotA T i)) := by
  simp [diag, lotTru, Function.comp_def]

theorem tru_within {T : List V2} (h : ∀ v ∈ T, B2 v) {off : Int} (o0 : 0 ≤ off) (o1 : off ≤ 39) (n k : Nat) : Within (truthsL n off ((lotRea T off n).take k)) (diag (lotTru T n)) := by
  rw [diag_tru]
  refine within_map _ (fun i hi => ?_)
  rw [List.mem_range] at hi
  have h1 := lotR_bd h o0 o1 i
  have h2 := lotA_bd h i
  unfold truthAt
  rw [lotRea_take hi]
  by_cases hk : i < k
  · rw [if_pos hk]
    dsimp only
    omega
  · rw [if_neg hk]
    dsimp only
    omega

theorem take_within (n : Nat) (off : Int) (L : List Int) (k : Nat) : Within (truthsL n off (L.take k)) (truthsL n off (L.take (k + 1))) := by
  refine within_map _ (fun i hi => ?_)
  unfold truthAt
  rw [List.getElem?_take, List.getElem?_take]
  by_cases hk : i < k
  · rw [if_pos hk, if_pos (by omega)]
    exact ⟨Int.le_refl _, Int.le_refl _⟩
  · rw [if_neg hk]
    dsimp only
    split <;> dsimp only <;> omega

theorem exact_diag {T : List V2} (h : ∀ v ∈ T, B2 v) (n : Nat) : truthsL n 0 (lotTru T n) = diag (lotTru T n) := by
  rw [diag_tru]
  unfold truthsL
  refine List.map_congr_left (fun i hi => ?_)
  rw [List.mem_range] at hi
  have h2 := lotA_bd h i
  unfold truthAt
  rw [show (lotTru T n)[i]? = some (lotA T i) by simp [lotTru, hi]]
  dsimp only
  rw [Int.max_eq_right (by omega), Int.min_eq_right (by omega)]
  simp

theorem lot_rule {n : Nat} {me lo ba off : Int} {l : List Int} (n1 : 1 ≤ n) (n2 : n ≤ 20) (m0 : 0 ≤ me) (m1 : me ≤ 100000) (l0 : 0 ≤ lo) (l1 : lo ≤ 100000) (b0 : 0 ≤ ba) (b1 : ba ≤ (n : Int)) (o0 : 0 ≤ off) (o1 : off ≤ 1000) (hl : l.length ≤ n) (hB : ∀ r ∈ l, 0 ≤ r ∧ r ≤ 100000) : ruleL (n : Int) me lo ba off l = 0 := by
  have h1 : ruleOk (n : Int) me lo ba = true := by
    simp [ruleOk, inB, in1]
    omega
  have h2 : inB 0 1000 [off] = true := by
    simp [inB, in1]
    omega
  have h3 : ¬ (n : Int) < (l.length : Int) := by omega
  have h4 : inB 0 100000 l = true := by
    simp only [inB, List.all_eq_true]
    intro r hr
    have := hB r hr
    simp [in1]
    omega
  unfold ruleL
  rw [if_neg (by rw [h1]; decide), if_neg (by rw [h2]; decide), if_neg h3, if_neg (by rw [h4]; decide)]

end Go.Proofs.Ytcdilmagcdbogaa

namespace Go.Proofs.Ytcdilmagcdbogaa
set_option linter.unusedVariables false
set_option linter.unusedSimpArgs false
open Go.RowKit

theorem chain_parts : ∀ (l : List Stp) (d k : Int), chainL d k l = true → (∀ s ∈ l, d < s.day ∧ s.day ≤ 10000 ∧ 0 ≤ s.keep ∧ s.keep ≤ k) ∧ l.Pairwise (fun x y => x.day ≤ y.day) ∧ l.Pairwise (fun x y => y.keep ≤ x.keep)
  | [], _, _, _ => by simp
  | s :: l, d, k, h => by
    simp only [chainL, inB, in1, List.all_cons, List.all_nil, Bool.and_true, Bool.and_eq_true, decide_eq_true_eq] at h
    obtain ⟨⟨⟨h1, h2⟩, h3, h4⟩, h5⟩ := h
    obtain ⟨c1, c2, c3⟩ := chain_parts l s.day s.keep h5
    refine ⟨fun x hx => ?_, List.pairwise_cons.2 ⟨fun x hx => by have := c1 x hx; omega, c2⟩, List.pairwise_cons.2 ⟨fun x hx => by have := c1 x hx; omega, c3⟩⟩
    rcases List.mem_cons.1 hx with rfl | hx
    · omega
    · have := c1 x hx
      omega

theorem boxed_parts {most : Int} {l : List Ld} (h : boxedL most l = 0) : (l.length : Int) ≤ most ∧ ∀ x ∈ l, LdOk x ∧ x.sl ≤ x.sh ∧ x.wl ≤ x.wh ∧ x.sh ≤ 20000000 ∧ x.wh ≤ 100000 := by
  unfold boxedL at h
  split at h
  · omega
  rename_i h1
  split at h
  · omega
  rename_i h2
  have h3 : l.all okLd = true := by simpa using h2
  rw [List.all_eq_true] at h3
  refine ⟨by omega, fun x hx => ?_⟩
  have h4 := h3 x hx
  simp only [okLd, okSpan, inB, in1, List.all_cons, List.all_nil, Bool.and_true, Bool.and_eq_true, decide_eq_true_eq] at h4
  unfold LdOk LdB
  omega

structure TabOk (t : List Stp) (days : Int) : Prop where
  t1 : 1 ≤ t.length
  t10 : t.length ≤ 10
  keep : ∀ s ∈ t, 0 ≤ s.keep ∧ s.keep ≤ 1000
  day : t.Pairwise (fun x y => x.day ≤ y.day)
  down : t.Pairwise (fun x y => y.keep ≤ x.keep)
  head : ∀ s, t[0]? = some s → s.day = 0
  d0 : 0 ≤ days
  d1 : days ≤ 10000

theorem table_parts {t : List Stp} {days : Int} (h : tableL t = true) (hd : inB 0 10000 [days] = true) : TabOk t days := by
  unfold tableL at h
  simp only [inB, in1, List.all_cons, List.all_nil, Bool.and_true, Bool.and_eq_true, decide_eq_true_eq] at h hd
  obtain ⟨⟨⟨h1, h2⟩, h3⟩, h4⟩ := h
  obtain ⟨c1, c2, c3⟩ := chain_parts t _ _ h4
  refine ⟨by omega, by omega, fun s hs => by have := c1 s hs; omega, c2, c3, fun s hs => ?_, hd.1, hd.2⟩
  cases t with
  | nil => cases hs
  | cons x t =>
    simp at hs
    subst hs
    simpa using h3

theorem stored_parts {most : Int} {l : List Ld} {t : List Stp} {days : Int} (h : storedL most l t days = 0) : ((l.length : Int) ≤ most ∧ ∀ x ∈ l, LdOk x ∧ x.sl ≤ x.sh ∧ x.wl ≤ x.wh ∧ x.sh ≤ 20000000 ∧ x.wh ≤ 100000) ∧ TabOk t days := by
  unfold storedL at h
  split at h
  case isFalse h1 => exact absurd h h1
  rename_i h1
  split at h
  · omega
  rename_i h2
  split at h
  · omega
  rename_i h3
  exact ⟨boxed_parts h1, table_parts (by simpa using h2) (by simpa using h3)⟩

theorem until_len (t : List Stp) (days : Int) : (untilL t days).length ≤ t.length := (List.takeWhile_prefix _).length_le

theorem until_at {t : List Stp} {days : Int} {k : Nat} {s : Stp} (h : (untilL t days)[k]? = some s) : t[k]? = some s := by
  obtain ⟨u, hu⟩ := List.takeWhile_prefix (l := t) (fun s => decide (s.day ≤ days))
  have hk := (List.getElem?_eq_some_iff.1 h).1
  have e : (untilL t days ++ u)[k]? = some s := by rw [List.getElem?_append_left hk]; exact h
  have hu' : untilL t days ++ u = t := hu
  rwa [hu'] at e

theorem until_pos {t : List Stp} {days : Int} (h : TabOk t days) : 0 < (untilL t days).length := by
  cases t with
  | nil => have := h.t1; simp at this
  | cons x t =>
    have h0 := h.head x rfl
    have h1 := h.d0
    unfold untilL
    rw [List.takeWhile_cons, if_pos (by simp; omega)]
    simp

/-- The first step on which a stack is weak, and where. -/
def fallO (l : List Ld) (u : List Stp) : Option (Stp × Nat) := u.findSome? (fun s => (weakO l s.keep).map (fun k => (s, k)))

def fallV (l : List Ld) (t : List Stp) (days : Int) : Value := match fallO l (untilL t days) with
  | none => .tuple #[.int .i64 0, .int .i64 0, .int .i64 7]
  | some (s, k) => .tuple #[.int .i64 s.day, .int .i64 (k : Int), .int .i64 0]

theorem fallO_some {l : List Ld} : ∀ {u : List Stp} {k : Nat} {s : Stp} {m : Nat}, u[k]? = some s → weakO l s.keep = some m → (∀ j s', j < k → u[j]? = some s' → weakO l s'.keep = none) → fallO l u = some (s, m)
  | [], k, s, m, h, _, _ => by simp at h
  | x :: u, 0, s, m, h, hm, _ => by
    simp at h
    subst h
    simp [fallO, hm]
  | x :: u, k + 1, s, m, h, hm, hb => by
    have h0 := hb 0 x (by omega) rfl
    have ih := fallO_some (l := l) (u := u) (k := k) (s := s) (m := m) (by simpa using h) hm (fun j s' hj hs' => hb (j + 1) s' (by omega) (by simpa using hs'))
    unfold fallO at ih ⊢
    rw [List.findSome?_cons, h0]
    exact ih

theorem fallO_none {l : List Ld} {u : List Stp} (h : ∀ (j : Nat) (s' : Stp), u[j]? = some s' → weakO l s'.keep = none) : fallO l u = none := by
  unfold fallO
  rw [List.findSome?_eq_none_iff]
  intro s hs
  obtain ⟨j, hj⟩ := List.getElem?_of_mem hs
  rw [h j s hj]
  rfl

theorem weakV_none {l : List Ld} {keep : Int} (h : weakO l keep = none) : weakV l keep = .tuple #[.int .i64 0, .bool false] := by unfold weakV; rw [h]

theorem weakV_some {l : List Ld} {keep : Int} {k : Nat} (h : weakO l keep = some k) : weakV l keep = .tuple #[.int .i64 (k : Int), .bool true] := by unfold weakV; rw [h]

set_option maxRecDepth 100000 in
set_option maxHeartbeats 2000000 in
theorem fall_ok (l : List Ld) (t : List Stp) (days : Int) (hs : storedL 50 l t days = 0) (a c : Option Addr) (cap cc : Nat) (hcc : t.length ≤ cc) (w : World) (hr : LRow w a l) (ht : TRow w c t) :
    Calls Try.prog 38 #[.slice a l.length cap, .slice c t.length cc, .int .i64 days] w fun e w' => e = .returned (fallV l t days) ∧ Gr w w' := by
  obtain ⟨⟨l50, hl⟩, hT⟩ := stored_parts hs
  have t10 := hT.t10
  have HS := Lib.hid hs
  have HL := Lib.hid hl
  have HT := Lib.hid hT
  clear hs hl hT
  have cS : ∀ W, LRow W a l → TRow W c t → Calls Try.prog 88 #[.slice a l.length cap, .int .i64 50, .slice c t.length cc, .int .i64 days] W fun e w' => e = .returned (.int .i64 0) ∧ Gr W w' := fun W g1 g2 => by
    have h := stored_any 50 l t days a c cap cc W g1 g2
    rw [HS.out] at h
    exact h
  have CS := Lib.hid cS
  clear cS
  go_enter Try.func38, Try.ntmps38
  go_wp2_with (first
    | (go_at_call 88; refine (CS.out _ hr ht).mono ?_; rintro e w1 ⟨rfl, g1⟩)
    | (go_at_call 89; refine (until_any t days (by omega) HT.out.day c cc hcc _ (ht.grow g1)).mono ?_; rintro e w2 ⟨rfl, g2⟩))
  have gA := g1.tr g2
  have ul := until_len t days
  obtain ⟨u, hu⟩ : ∃ u, untilL t days = u := ⟨_, rfl⟩
  have HU := Lib.hid hu
  rw [hu] at ul ⊢
  clear hu g1 g2
  go_loopw [25] (fun i wr => Hid (∃ k : Nat, k ≤ u.length ∧ i = .int .i64 k ∧ Gr w wr ∧ ∀ j s, j < k → u[j]? = some s → weakO l s.keep = none)) (fun i wr => u.length - (intOf i).toNat)
  case atStart => exact Lib.hid ⟨0, Nat.zero_le _, rfl, gA, fun j s hj => by omega⟩
  case round =>
    clear gA
    obtain ⟨k, hk, rfl, gW, hb⟩ := hrel.out
    have HB := Lib.hid hb
    clear hrel hb
    by_cases hlt : k < u.length
    · obtain ⟨s, hs⟩ : ∃ s, u[k]? = some s := ⟨u[k], by simp [hlt]⟩
      have ht1 : t[k]? = some s := until_at (days := days) (by rw [HU.out]; exact hs)
      obtain ⟨b, off, rfl, hb, c0, c1⟩ := TRow.get (ht.grow gW) ht1
      obtain ⟨k0, k1⟩ := HT.out.keep s (List.mem_of_getElem? ht1)
      have bx := Box.new wr [.int .i64 s.day, .int .i64 s.keep] 138 wr.heap.size rfl
      have gU := Gr.al wr (.cells #[.int .i64 s.day, .int .i64 s.keep] 138)
      have HS1 := Lib.hid hs
      have hwk := weak_any l (by omega) (fun x hx => (HL.out x hx).1) s.keep k0 k1 a cap _ (hr.grow (gW.tr gU))
      cases hO : weakO l s.keep with
      | none =>
        rw [weakV_none hO] at hwk
        have HW := Lib.hid hwk
        have HO := Lib.hid hO
        clear hwk hO hs ht1
        go_wp2_with (go_at_call 90; refine HW.out.mono ?_; rintro e w3 ⟨rfl, g3⟩)
        go_roundw
        case rel =>
          refine Lib.hid ⟨k + 1, by omega, by go_num, gW.tr (gU.tr g3), fun j s' hj hs' => ?_⟩
          by_cases hjk : j = k
          · subst hjk
            rw [HS1.out] at hs'
            cases hs'
            exact HO.out
          · exact HB.out j s' (by omega) hs'
        case measure => simp [intOf]; omega
      | some m =>
        rw [weakV_some hO] at hwk
        have HW := Lib.hid hwk
        have E : fallV l t days = .tuple #[.int .i64 s.day, .int .i64 (m : Int), .int .i64 0] := by
          unfold fallV
          rw [HU.out, fallO_some hs hO HB.out]
        have HE := Lib.hid E
        clear hwk hO hs ht1 E
        go_wp2_with (go_at_call 90; refine HW.out.mono ?_; rintro e w3 ⟨rfl, g3⟩; obtain ⟨q0, q1⟩ := (bx.keep g3).c2)
        exact bodyPost_ret (v := .tuple #[.int .i64 s.day, .int .i64 (m : Int), .int .i64 0]) (by simp [results, Try.results38, go_sem]) rfl ⟨by rw [HE.out], gW.tr (gU.tr g3)⟩
    · obtain rfl : k = u.length := by omega
      have E : fallV l t days = .tuple #[.int .i64 0, .int .i64 0, .int .i64 7] := by
        unfold fallV
        rw [HU.out, fallO_none (fun j s hs => HB.out j s (List.getElem?_eq_some_iff.1 hs).1 hs)]
      have HE := Lib.hid E
      clear E
      go_wp2
      exact bodyPost_ret (v := .tuple #[.int .i64 0, .int .i64 0, .int .i64 7]) (by simp [results, Try.results38, go_sem]) rfl ⟨by rw [HE.out], gW⟩

end Go.Proofs.Ytcdilmagcdbogaa

namespace Go.Proofs.Ytcdilmagcdbogaa
set_option linter.unusedVariables false
set_option linter.unusedSimpArgs false
open Go.RowKit

/-- A box in bytes. -/
structure V4 where
  a : Int
  b : Int
  c : Int
  d : Int

def encV4 (v : V4) : List Value := [.int .u8 v.a, .int .u8 v.b, .int .u8 v.c, .int .u8 v.d]

abbrev Row4 := RowOf 4 encV4

def B4 (v : V4) : Prop := (0 ≤ v.a ∧ v.a ≤ 255) ∧ (0 ≤ v.b ∧ v.b ≤ 255) ∧ (0 ≤ v.c ∧ v.c ≤ 255) ∧ (0 ≤ v.d ∧ v.d ≤ 255)

theorem Row4.get {w : World} {a : Option Addr} {l : List V4} (h : Row4 w a l) {j : Nat} {x : V4} (hx : l[j]? = some x) :
    ∃ b o, a = some ⟨b, o, none⟩ ∧ b < w.heap.size ∧ w.cell? ⟨b, o + j * 4, none⟩ = some (.int .u8 x.a) ∧ w.cell? ⟨b, o + j * 4 + 1, none⟩ = some (.int .u8 x.b) ∧ w.cell? ⟨b, o + j * 4 + 2, none⟩ = some (.int .u8 x.c) ∧ w.cell? ⟨b, o + j * 4 + 3, none⟩ = some (.int .u8 x.d) := by
  obtain ⟨b, o, ha, hb, hc⟩ := h.2 j x hx
  exact ⟨b, o, ha, hb, hc 0 _ rfl, hc 1 _ rfl, hc 2 _ rfl, hc 3 _ rfl⟩

def boxW (v : V4) : Ld := ⟨4 * v.a, 4 * v.a + v.b % 50, v.c, v.c + v.d % 30⟩

def boxesW (X : List V4) (n : Nat) : List Ld := (X.take n).map boxW

theorem boxesW_len {X : List V4} {n : Nat} (h : n ≤ X.length) : (boxesW X n).length = n := by simp [boxesW]; omega

theorem boxesW_succ {X : List V4} {n : Nat} {x : V4} (h : X[n]? = some x) : boxesW X (n + 1) = boxesW X n ++ [boxW x] := by
  unfold boxesW
  rw [List.take_add_one, h, Option.toList_some, List.map_append]
  rfl

theorem boxW_bd {v : V4} (h : B4 v) : LdOk (boxW v) ∧ (boxW v).sl ≤ (boxW v).sh ∧ (boxW v).wl ≤ (boxW v).wh ∧ (boxW v).sh ≤ 1069 ∧ (boxW v).wh ≤ 284 := by
  obtain ⟨⟨a0, a1⟩, ⟨b0, b1⟩, ⟨c0, c1⟩, d0, d1⟩ := h
  unfold boxW LdOk LdB
  dsimp only
  omega

theorem boxesW_mem {X : List V4} {n : Nat} (hX : ∀ v ∈ X, B4 v) {x : Ld} (hx : x ∈ boxesW X n) : LdOk x ∧ x.sl ≤ x.sh ∧ x.wl ≤ x.wh ∧ x.sh ≤ 1069 ∧ x.wh ≤ 284 := by
  simp only [boxesW, List.mem_map] at hx
  obtain ⟨v, hv, rfl⟩ := hx
  exact boxW_bd (hX v (List.mem_of_mem_take hv))

/-- The steps of the table. -/
def nextW (s : Stp) (v : V2) : Stp := ⟨s.day + 1 + v.a % 60, s.keep * (255 - v.b / 3) / 255⟩

def stepW (S : List V2) : Nat → Stp
  | 0 => ⟨0, 1000⟩
  | k + 1 => nextW (stepW S k) (lotT S k)

def tabW (S : List V2) (n : Nat) : List Stp := (List.range (n + 1)).map (stepW S)

theorem tabW_len (S : List V2) (n : Nat) : (tabW S n).length = n + 1 := by simp [tabW]

theorem tabW_succ (S : List V2) (n : Nat) : tabW S (n + 1) = tabW S n ++ [stepW S (n + 1)] := by simp [tabW, List.range_succ]

theorem tabW_at {S : List V2} {n k : Nat} (h : k ≤ n) : (tabW S n)[k]? = some (stepW S k) := by
  unfold tabW
  rw [List.getElem?_map, List.getElem?_range (by omega)]
  rfl

theorem nextW_bd {s : Stp} {v : V2} (h : B2 v) (k0 : 0 ≤ s.keep) : s.day + 1 ≤ (nextW s v).day ∧ (nextW s v).day ≤ s.day + 60 ∧ 0 ≤ (nextW s v).keep ∧ (nextW s v).keep ≤ s.keep := by
  obtain ⟨⟨a0, a1⟩, b0, b1⟩ := h
  unfold nextW
  dsimp only
  have h1 : 0 ≤ s.keep * (255 - v.b / 3) := Int.mul_nonneg k0 (by omega)
  have h2 : s.keep * (255 - v.b / 3) ≤ s.keep * 255 := Int.mul_le_mul_of_nonneg_left (by omega) k0
  omega

theorem stepW_bd {S : List V2} (h : ∀ v ∈ S, B2 v) : ∀ k : Nat, 0 ≤ (stepW S k).day ∧ (stepW S k).day ≤ 60 * (k : Int) ∧ 0 ≤ (stepW S k).keep ∧ (stepW S k).keep ≤ 1000
  | 0 => by simp [stepW]
  | k + 1 => by
    have ih := stepW_bd h k
    have h1 := nextW_bd (s := stepW S k) (lotT_bd h k) ih.2.2.1
    show 0 ≤ (nextW (stepW S k) (lotT S k)).day ∧ _
    simp only [stepW]
    omega

theorem stepW_next {S : List V2} (h : ∀ v ∈ S, B2 v) (k : Nat) : (stepW S k).day + 1 ≤ (stepW S (k + 1)).day ∧ (stepW S (k + 1)).keep ≤ (stepW S k).keep := by
  have h1 := nextW_bd (s := stepW S k) (lotT_bd h k) (stepW_bd h k).2.2.1
  exact ⟨h1.1, h1.2.2.2⟩

theorem chain_tab {S : List V2} (h : ∀ v ∈ S, B2 v) : ∀ (m i : Nat) (d kk : Int), i + m ≤ 7 → d + 1 ≤ (stepW S i).day → (stepW S i).keep ≤ kk → chainL d kk ((List.range' i m).map (stepW S)) = true
  | 0, _, _, _, _, _, _ => rfl
  | m + 1, i, d, kk, hi, hd, hk => by
    have hb := stepW_bd h i
    have hn := stepW_next h i
    have ih := chain_tab h m (i + 1) (stepW S i).day (stepW S i).keep (by omega) hn.1 hn.2
    rw [List.range'_succ, List.map_cons]
    unfold chainL
    rw [ih]
    simp [inB, in1]
    omega

theorem table_tab {S : List V2} (h : ∀ v ∈ S, B2 v) {n : Nat} (hn : n ≤ 6) : tableL (tabW S n) = true := by
  have hc := chain_tab h (n + 1) 0 (-1) 1000 (by omega) (by simp [stepW]) (by simp [stepW])
  have e : tabW S n = (List.range' 0 (n + 1)).map (stepW S) := by rw [tabW, List.range_eq_range']
  have e0 : tabW S n = stepW S 0 :: (List.range' 1 n).map (stepW S) := by rw [e, List.range'_succ, List.map_cons]
  have hl := tabW_len S n
  unfold tableL
  rw [hl, e, hc, ← e, e0]
  simp [inB, in1, stepW]
  omega

theorem pile_stored {X : List V4} {S : List V2} (hX : ∀ v ∈ X, B4 v) (hS : ∀ v ∈ S, B2 v) {m n : Nat} {most days : Int} (hm : (m : Int) ≤ most) (hmx : m ≤ X.length) (hn : n ≤ 6) (d0 : 0 ≤ days) (d1 : days ≤ 10000) : storedL most (boxesW X m) (tabW S n) days = 0 := by
  have h1 : boxedL most (boxesW X m) = 0 := by
    unfold boxedL
    rw [boxesW_len hmx, if_neg (by omega)]
    have : (boxesW X m).all okLd = true := by
      rw [List.all_eq_true]
      intro x hx
      obtain ⟨⟨⟨a, b, c, d⟩, e, f⟩, g, hh, i, j⟩ := boxesW_mem hX hx
      simp [okLd, okSpan, inB, in1]
      omega
    rw [this]
    rfl
  have h2 := table_tab hS hn
  unfold storedL
  rw [h1, h2]
  simp [inB, in1]
  omega

end Go.Proofs.Ytcdilmagcdbogaa

namespace Go.Proofs.Ytcdilmagcdbogaa
set_option linter.unusedVariables false
set_option linter.unusedSimpArgs false
open Go.RowKit

theorem owns_zero {w : World} {base : Nat} {e : TypeId} {size : Nat} {v : Value} {n : Nat} {xs : List Value} (h : w.ownsRow base e size v n xs) : w.ownsRow 0 e size v n xs := by
  obtain ⟨h1, h2⟩ := h
  refine ⟨h1, ?_⟩
  rcases h2 with h2 | ⟨g, cap, cur, hv, _, h3⟩
  · exact .inl h2
  · exact .inr ⟨g, cap, cur, hv, Nat.zero_le _, h3⟩

/-- Two rows that do not lie in one block. -/
def Apart (v u : Value) : Prop := ∀ b, v.ownBlock = some b → u.ownBlock ≠ some b

theorem Apart.symm {v u : Value} (h : Apart v u) : Apart u v := fun b hb hv => h b hv hb

theorem wpList_append_sep {P : Program} (w : World) {ops : Array Oper} {rest : List Oper} {o : Oper} {a : Act} {Q : Exit → Act → World → Prop} (hgd : o.guard = none) (s x : Operand) (t : TypeId)
    (ho : o.op = .call { callee := .builtin .append, args := #[s, x], argTypes := #[t, t] })
    (base : Nat) (e : TypeId) (i : TypeInfo) (z : Value) (size bytes : Nat) (ht : P.underlying t = some (.slice e)) (hi : P.info? e = some i) (hz : i.zero = some z)
    (hsize : i.size = size) (hby : i.bytes = bytes) (hzs : z.cells.size = size) (hsz : 0 < size)
    (v : Value) (n : Nat) (xs : List Value) (hs : a.eval s = v) (hown : w.ownsRow base e size v n xs)
    (ad : Addr) (m c : Nat) (news : List Value) (hx : a.eval x = .slice (some ad) m c) (hl : news.length = m * size) (hnews : ∀ j u, news[j]? = some u → w.cell? (ad.add j) = some u) (h1 : ∀ u ∈ news, u.oneCell' = true)
    (h63 : n + m ≤ maxLen) (hbytes : (n + m) * bytes ≤ 140737488355328) (hbase : base ≤ w.heap.size)
    (u : Value) (k : Nat) (ys : List Value) (hu : w.ownsRow base e size u k ys) (hap : Apart v u)
    (h : ∀ v' w', w'.ownsRow base e size v' (n + m) (xs ++ news) → w.grownBy w' v.ownBlock → w'.ownsRow base e size u k ys → Apart v' u → wpList P ops Q rest (a.put o.dst v') w') : wpList P ops Q (o :: rest) a w := by
  refine wpList_plain hgd fun _ hK => ?_
  obtain ⟨v', w', hr, h2, h3, h4⟩ := run_append_own (P := P) w base t o.type e i z size bytes ht hi hz hsize hby hzs hsz v n xs hown ad m c news hl hnews h1 h63 hbytes hbase
  obtain ⟨v'', w'', hr', _, _, h5⟩ := run_append_new (P := P) w t o.type e i z size bytes ht hi hz hsize hby hzs hsz v n xs (owns_zero hown) ad m c news hl hnews h1 h63 hbytes
  rw [hr] at hr'
  injection hr' with e1 e2
  subst e1
  subst e2
  have hku : w'.ownsRow base e size u k ys := hu.kept h3 (by
    cases hub : u.ownBlock with
    | none => exact .inl rfl
    | some b => exact .inr (fun he => hap b he.symm hub))
  have hap' : Apart v' u := fun b hb hub => by
    rcases (h5 b hb).2 with h6 | h6
    · exact hap b h6 hub
    · have := (hu.lt b hub).2
      omega
  unfold Oper.wp execOp
  simp only [ho, resolve, invoke, builtin, Sem.run_bind, Sem.run_pure, Result.andThen_ok, List.map_toArray, List.map_cons, List.map_nil, hs, hx, hr]
  exact hK _ _ (h v' w' h2 h3 hku hap')

theorem Apart.lit {g k : Nat} {n m c d : Nat} (h : g ≠ k) : Apart (.slice (some ⟨g, 0, none⟩) n c) (.slice (some ⟨k, 0, none⟩) m d) := by
  intro b hb hc
  simp only [Value.ownBlock, Option.some.injEq] at hb hc
  omega

end Go.Proofs.Ytcdilmagcdbogaa

namespace Go.Proofs.Ytcdilmagcdbogaa
set_option linter.unusedVariables false
set_option linter.unusedSimpArgs false
open Go.RowKit

theorem owns_row_cap {α : Type} {enc : α → List Value} {sz : Nat} {w : World} {base : Nat} {e : TypeId} {v : Value} {l : List α} (he : ∀ x, (enc x).length = sz) (hl : l.length ≤ 9223372036854775807) (h : w.ownsRow base e sz v l.length (l.flatMap enc)) :
    ∃ a cap, v = .slice a l.length cap ∧ RowOf sz enc w a l ∧ (a = none → cap = 0) ∧ l.length ≤ cap := by
  obtain ⟨a, cap, hv, hr⟩ := owns_row he hl h
  refine ⟨a, cap, hv, hr, ?_⟩
  rcases h.2 with ⟨hv2, hn⟩ | ⟨b, cap2, cur, hv2, _, _, hc, _⟩
  · rw [hv2] at hv
    injection hv with e1 e2 e3
    exact ⟨fun _ => e3.symm, by omega⟩
  · rw [hv2] at hv
    injection hv with e1 e2 e3
    subst e1
    subst e3
    exact ⟨fun h => (by cases h), hc⟩

set_option maxHeartbeats 400000 in
theorem lints_any (l : List Int) (hl : l.length ≤ 1000) (b off cap : Nat) (w : World) (hr : IRow w (some ⟨b, off, none⟩) l) :
    Calls Try.prog 19 #[.slice (some ⟨b, off, none⟩) l.length cap] w fun e w' => ∃ a' cap', e = .returned (.slice a' l.length cap') ∧ IRow w' a' l ∧ (a' = none → cap' = 0) ∧ l.length ≤ cap' ∧ Gr w w' := by
  obtain ⟨i0, hi, hz0, hz1, hz2⟩ := info_parts infoInt
  have hr1 := hr.grow (Gr.al w (.cells #[] 3))
  have h1 : 0 + l.length ≤ maxLen := by unfold maxLen; omega
  have h2 : (0 + l.length) * 8 ≤ 140737488355328 := by omega
  have hfl := flat_len (enc := encI) (sz := 1) (fun _ => rfl) l
  have hnews := row_news (enc := encI) (sz := 1) (fun _ => rfl) hr1
  have Hfl := Lib.hid hfl
  have Hnews := Lib.hid hnews
  clear hfl hnews
  go_enter Try.func19, Try.ntmps19
  go_wp2_with (at_builtin; refine wpList_append_own _ rfl _ _ 24 rfl w.heap.size 3 i0 (.int .i64 0) 1 8 Try.underlying24 hi hz0 hz1 hz2 rfl (by decide) _ _ _ rfl (owns_empty w _ _) ⟨b, off, none⟩ l.length cap (l.flatMap encI) rfl Hfl.out Hnews.out (one_flat (fun x u hu => by simp [encI] at hu; subst hu; rfl) l) h1 h2 (by simp) ?_; intro v' w1 hown hgrow _)
  obtain ⟨a', cap', hv, hr2, hn2, hc2⟩ := owns_row_cap (enc := encI) (l := l) (fun _ => rfl) (by omega) (by simpa using hown)
  subst hv
  have Hr2 := Lib.hid hr2
  have Hn2 := Lib.hid hn2
  have Hc2 := Lib.hid hc2
  clear hr2 hn2 hown hc2
  go_wp2
  go_ret
  exact ⟨a', ⟨cap', rfl, Hr2.out, Hn2.out, Hc2.out, (Gr.al w _).grown' (owns_empty w _ 1) (Nat.le_refl _) hgrow⟩⟩

theorem diag_app (l : List Int) (x : Int) : diag (l ++ [x]) = diag l ++ [(x, x)] := by simp [diag]

theorem diag_bd {l : List Int} (hB : ∀ x ∈ l, 0 ≤ x ∧ x ≤ 100000) : ∀ x ∈ diag l, TrB x := by
  intro x hx
  simp only [diag, List.mem_map] at hx
  obtain ⟨t, ht, rfl⟩ := hx
  have := hB t ht
  exact ⟨this.1, this.2, this.1, this.2⟩

set_option maxRecDepth 100000 in
set_option maxHeartbeats 1000000 in
theorem lpasses_any (te me lo ba : Int) (l : List Int) (hl : l.length ≤ 1000) (hB : ∀ x ∈ l, 0 ≤ x ∧ x ≤ 100000) (t0 : 0 ≤ te) (t1 : te ≤ 1000) (m0 : 0 ≤ me) (m1 : me ≤ 100000) (a : Option Addr) (cap : Nat) (w : World) (hr : IRow w a l) :
    Calls Try.prog 52 #[.agg #[.int .i64 te, .int .i64 me, .int .i64 lo, .int .i64 ba], .slice a l.length cap] w fun e w' => e = .returned (.bool (passB false te me lo ba (diag l))) ∧ Gr w w' := by
  have gg := Gr.al w (.cells #[.int .i64 te, .int .i64 me, .int .i64 lo, .int .i64 ba] 23)
  have hb := Box.new w [.int .i64 te, .int .i64 me, .int .i64 lo, .int .i64 ba] 23 w.heap.size rfl
  have HB := Lib.hid hb
  have GG := Lib.hid gg
  have HR := Lib.hid (hr.grow gg)
  have q0 : 0 ≤ te * me := Int.mul_nonneg t0 m0
  have q1 : te * me ≤ 1000 * 100000 := Int.mul_le_mul t1 m1 m0 (by omega)
  clear hb gg hr
  go_enter Try.func52, Try.ntmps52
  go_upto_region 2 with fail
  refine wp_abs (fun W => Gr (w.alloc (.cells #[.int .i64 te, .int .i64 me, .int .i64 lo, .int .i64 ba] 23)) W) (Below.refl _ _) ?_
  intro W hW
  go_wp2
  go_loopw [7, 5, 6] (fun t s b wr => Hid (∃ k : Nat, k ≤ l.length ∧ t = .int .i64 k ∧ Gr (w.alloc (.cells #[.int .i64 te, .int .i64 me, .int .i64 lo, .int .i64 ba] 23)) wr ∧ s = .int .i64 (sumS false (diag (l.take k))) ∧ b = .int .i64 (badS false lo (diag (l.take k))))) (fun t _ _ _ => l.length - (intOf t).toNat)
  case atStart => exact Lib.hid ⟨0, Nat.zero_le _, rfl, hW, rfl, rfl⟩
  case round =>
    obtain ⟨k, hk, rfl, gW, rfl, rfl⟩ := hrel.out
    clear hrel
    obtain ⟨x0, x1⟩ := sumS_bd false (diag (l.take k)) (diag_bd (fun x hx => hB x (List.mem_of_mem_take hx)))
    have x2 := badS_0 false lo (diag (l.take k))
    have x3 := badS_len false lo (diag (l.take k))
    have x4 : (diag (l.take k)).length = min k l.length := by simp [diag]
    obtain ⟨p0, p1, p2, p3⟩ := (HB.out.keep gW).c4'
    by_cases hlt : k < l.length
    · obtain ⟨x, hx⟩ : ∃ x, l[k]? = some x := ⟨l[k], by simp [hlt]⟩
      obtain ⟨y0, y1⟩ := hB x (List.mem_of_getElem? hx)
      obtain ⟨b1, o1, rfl, h1, cc⟩ := IRow.get (HR.out.grow gW) hx
      have hs : sumS false (diag (l.take (k + 1))) = sumS false (diag (l.take k)) + x := by
        rw [List.take_add_one, hx, Option.toList_some, diag_app, sumS_app]
        simp
      have hd : badS false lo (diag (l.take (k + 1))) = badS false lo (diag (l.take k)) + if x < lo then 1 else 0 := by
        rw [List.take_add_one, hx, Option.toList_some, diag_app, badS_app]
        simp
      rw [x4] at x1 x3
      have HS := Lib.hid hs
      have HD := Lib.hid hd
      generalize sumS false (diag (l.take k)) = S at *
      generalize badS false lo (diag (l.take k)) = B at *
      clear hs hd hx x4
      by_cases hlo : x < lo
      · go_upto_region 6 with fail
        go_quiet (fail)
        go_wp2
        go_roundw
        case rel => exact Lib.hid ⟨k + 1, by omega, by go_num, gW.drewN _, by rw [HS.out], by rw [HD.out, if_pos hlo]⟩
        case measure => simp [intOf]; omega
      · go_upto_region 6 with fail
        go_quiet (fail)
        go_wp2
        go_roundw
        case rel => exact Lib.hid ⟨k + 1, by omega, by go_num, gW.drewN _, by rw [HS.out], by rw [HD.out, if_neg hlo, Int.add_zero]⟩
        case measure => simp [intOf]; omega
    · obtain rfl : k = l.length := by omega
      rw [List.take_length] at *
      have E0 : passB false te me lo ba (diag l) = (decide (badS false lo (diag l) ≤ ba) && decide (te * me ≤ sumS false (diag l))) := rfl
      generalize sumS false (diag l) = S at *
      generalize badS false lo (diag l) = B at *
      by_cases hm : te * me ≤ S
      · have E := Lib.hid (E0.trans (show (decide (B ≤ ba) && decide (te * me ≤ S)) = decide (B ≤ ba) by simp [hm]))
        clear E0
        go_wp2
        go_ret
        exact ⟨ret_bool E.out.symm, GG.out.tr gW⟩
      · have E := Lib.hid (E0.trans (show (decide (B ≤ ba) && decide (te * me ≤ S)) = false by simp [hm]))
        have hm' : decide (te * me ≤ S) = false := by simpa using hm
        clear E0
        go_wp2
        go_ret
        exact ⟨ret_bool E.out.symm, GG.out.tr gW⟩

end Go.Proofs.Ytcdilmagcdbogaa

namespace Go.Proofs.Ytcdilmagcdbogaa
set_option linter.unusedVariables false
set_option linter.unusedSimpArgs false
open Go.RowKit

theorem last_bd {t : List Stp} {days : Int} (h : TabOk t days) : 0 ≤ lastL t days ∧ lastL t days ≤ 1000 := by
  have h0 := until_pos h
  have h1 := until_len t days
  unfold lastL
  have hk : (untilL t days).length - 1 < t.length := by omega
  rw [List.getElem?_eq_getElem hk]
  exact h.keep _ (List.getElem_mem hk)

/-- Which sets of boxes stand on the last day. -/
def setsL (l : List Ld) (t : List Stp) (days : Int) : Int → Bool := standsTo l (lastL t days) (allN l + 1)

set_option maxRecDepth 100000 in
set_option maxHeartbeats 2000000 in
theorem order_none (l : List Ld) (t : List Stp) (days : Int) (hs : storedL 10 l t days = 0) (hF : setsL l t days ((allN l : Nat) : Int) = false) (a c : Option Addr) (cap cc : Nat) (hcc : t.length ≤ cc) (w : World) (hr : LRow w a l) (ht : TRow w c t) :
    Calls Try.prog 47 #[.slice a l.length cap, .slice c t.length cc, .int .i64 days] w fun e w' => e = .returned (.tuple #[.slice none 0 0, .int .i64 9]) ∧ Gr w w' := by
  obtain ⟨⟨l10, hl⟩, hT⟩ := stored_parts hs
  obtain ⟨k0, k1⟩ := last_bd hT
  have t10 := hT.t10
  have hu0 := until_pos hT
  have hu1 := until_len t days
  have hd := hT.day
  have l10' : l.length ≤ 10 := by omega
  have hB : ∀ x ∈ l, LdOk x := fun x hx => (hl x hx).1
  have cS : ∀ W, LRow W a l → TRow W c t → Calls Try.prog 88 #[.slice a l.length cap, .int .i64 10, .slice c t.length cc, .int .i64 days] W fun e w' => e = .returned (.int .i64 0) ∧ Gr W w' := fun W g1 g2 => by
    have h := stored_any 10 l t days a c cap cc W g1 g2
    rw [hs] at h
    exact h
  have CS := Lib.hid cS
  have HF := Lib.hid hF
  have HB := Lib.hid hB
  have HD := Lib.hid hd
  clear cS hs hl hT hF hB hd
  go_enter Try.func47, Try.ntmps47
  go_wp2_with (first
    | (go_at_call 88; refine (CS.out _ hr ht).mono ?_; rintro e w1 ⟨rfl, g1⟩)
    | (go_at_call 95; refine (last_any t days (by omega) HD.out hu0 hu1 c cc hcc _ (ht.grow g1)).mono ?_; rintro e w2 ⟨rfl, g2⟩)
    | (go_at_call 100; refine (pileOf_any l l10' HB.out a cap (lastL t days) k0 k1 _ (hr.grow (g1.tr g2))).mono ?_; rintro e w3 ⟨m, rfl, ⟨n, hm⟩, g3⟩)
    | (go_at_call 101; refine (order_no l l10' a cap (lastL t days) m n _ _ hm HF.out).mono ?_; rintro e w4 ⟨rfl, g4⟩))
  go_ret2
  exact ⟨rfl, g1.tr (g2.tr (g3.tr g4))⟩

set_option maxRecDepth 100000 in
set_option maxHeartbeats 2000000 in
theorem order_some (l : List Ld) (t : List Stp) (days : Int) (hs : storedL 10 l t days = 0) (hF : setsL l t days ((allN l : Nat) : Int) = true) (a c : Option Addr) (cap cc : Nat) (hcc : t.length ≤ cc) (w : World) (hr : LRow w a l) (ht : TRow w c t) :
    Calls Try.prog 47 #[.slice a l.length cap, .slice c t.length cc, .int .i64 days] w fun e w' => ∃ b d, e = .returned (.tuple #[.slice b (intsN (orderL l (lastL t days) (setsL l t days) (allN l))).length d, .int .i64 0]) ∧ IRow w' b (intsN (orderL l (lastL t days) (setsL l t days) (allN l))) ∧ Gr w w' := by
  obtain ⟨⟨l10, hl⟩, hT⟩ := stored_parts hs
  obtain ⟨k0, k1⟩ := last_bd hT
  have t10 := hT.t10
  have hu0 := until_pos hT
  have hu1 := until_len t days
  have hd := hT.day
  have l10' : l.length ≤ 10 := by omega
  have hB : ∀ x ∈ l, LdOk x := fun x hx => (hl x hx).1
  have cS : ∀ W, LRow W a l → TRow W c t → Calls Try.prog 88 #[.slice a l.length cap, .int .i64 10, .slice c t.length cc, .int .i64 days] W fun e w' => e = .returned (.int .i64 0) ∧ Gr W w' := fun W g1 g2 => by
    have h := stored_any 10 l t days a c cap cc W g1 g2
    rw [hs] at h
    exact h
  have CS := Lib.hid cS
  have HF := Lib.hid hF
  have HB := Lib.hid hB
  have HD := Lib.hid hd
  obtain ⟨R, hR⟩ : ∃ R, orderL l (lastL t days) (setsL l t days) (allN l) = R := ⟨_, rfl⟩
  rw [hR]
  have hO : ∀ W m n, LRow W a l → MapB W m n (setsL l t days) → Calls Try.prog 101 #[.agg #[.slice a l.length cap, .int .i64 (lastL t days), .map (some m)]] W fun e w' => ∃ b d, e = .returned (.tuple #[.slice b (intsN R).length d, .bool true]) ∧ IRow w' b (intsN R) ∧ Gr W w' := fun W m n h1 h2 => by
    have := order_yes l l10' hB a cap (lastL t days) k0 k1 m n (setsL l t days) rfl W h1 h2 hF
    rw [hR] at this
    exact this
  have HO := Lib.hid hO
  clear cS hs hl hT hF hB hd hR hO
  go_enter Try.func47, Try.ntmps47
  go_wp2_with (first
    | (go_at_call 88; refine (CS.out _ hr ht).mono ?_; rintro e w1 ⟨rfl, g1⟩)
    | (go_at_call 95; refine (last_any t days (by omega) HD.out hu0 hu1 c cc hcc _ (ht.grow g1)).mono ?_; rintro e w2 ⟨rfl, g2⟩)
    | (go_at_call 100; refine (pileOf_any l l10' HB.out a cap (lastL t days) k0 k1 _ (hr.grow (g1.tr g2))).mono ?_; rintro e w3 ⟨m, rfl, ⟨n, hm⟩, g3⟩)
    | (go_at_call 101; refine (HO.out _ m n (hr.grow (g1.tr (g2.tr g3))) hm).mono ?_; rintro e w4 ⟨b, d, rfl, r4, g4⟩))
  go_ret2
  exact ⟨b, d, rfl, r4, g1.tr (g2.tr (g3.tr g4))⟩

set_option maxRecDepth 100000 in
set_option maxHeartbeats 2000000 in
theorem most_ok (l : List Ld) (t : List Stp) (days : Int) (hs : storedL 10 l t days = 0) (a c : Option Addr) (cap cc : Nat) (hcc : t.length ≤ cc) (w : World) (hr : LRow w a l) (ht : TRow w c t) :
    Calls Try.prog 48 #[.slice a l.length cap, .slice c t.length cc, .int .i64 days] w fun e w' => ∃ b d, e = .returned (.tuple #[.slice b (intsN (mostTo (setsL l t days) (allN l + 1))).length d, .int .i64 0]) ∧ IRow w' b (intsN (mostTo (setsL l t days) (allN l + 1))) ∧ Gr w w' := by
  obtain ⟨⟨l10, hl⟩, hT⟩ := stored_parts hs
  obtain ⟨k0, k1⟩ := last_bd hT
  have t10 := hT.t10
  have hu0 := until_pos hT
  have hu1 := until_len t days
  have hd := hT.day
  have l10' : l.length ≤ 10 := by omega
  have hB : ∀ x ∈ l, LdOk x := fun x hx => (hl x hx).1
  have cS : ∀ W, LRow W a l → TRow W c t → Calls Try.prog 88 #[.slice a l.length cap, .int .i64 10, .slice c t.length cc, .int .i64 days] W fun e w' => e = .returned (.int .i64 0) ∧ Gr W w' := fun W g1 g2 => by
    have h := stored_any 10 l t days a c cap cc W g1 g2
    rw [hs] at h
    exact h
  have CS := Lib.hid cS
  have HB := Lib.hid hB
  have HD := Lib.hid hd
  obtain ⟨R, hR⟩ : ∃ R, mostTo (setsL l t days) (allN l + 1) = R := ⟨_, rfl⟩
  rw [hR]
  have hO : ∀ W m n, MapB W m n (setsL l t days) → Calls Try.prog 102 #[.agg #[.slice a l.length cap, .int .i64 (lastL t days), .map (some m)]] W fun e w' => ∃ b d, e = .returned (.slice b (intsN R).length d) ∧ IRow w' b (intsN R) ∧ Gr W w' := fun W m n h2 => by
    have := most_set l l10' a cap (lastL t days) m n (setsL l t days) W h2
    rw [hR] at this
    exact this
  have HO := Lib.hid hO
  clear cS hs hl hT hB hd hR hO
  go_enter Try.func48, Try.ntmps48
  go_wp2_with (first
    | (go_at_call 88; refine (CS.out _ hr ht).mono ?_; rintro e w1 ⟨rfl, g1⟩)
    | (go_at_call 95; refine (last_any t days (by omega) HD.out hu0 hu1 c cc hcc _ (ht.grow g1)).mono ?_; rintro e w2 ⟨rfl, g2⟩)
    | (go_at_call 100; refine (pileOf_any l l10' HB.out a cap (lastL t days) k0 k1 _ (hr.grow (g1.tr g2))).mono ?_; rintro e w3 ⟨m, rfl, ⟨n, hm⟩, g3⟩)
    | (go_at_call 102; refine (HO.out _ m n hm).mono ?_; rintro e w4 ⟨b, d, rfl, r4, g4⟩))
  go_ret2
  exact ⟨b, d, rfl, r4, g1.tr (g2.tr (g3.tr g4))⟩

end Go.Proofs.Ytcdilmagcdbogaa

namespace Go.Proofs.Ytcdilmagcdbogaa
set_option linter.unusedVariables false
set_option linter.unusedSimpArgs false
open Go.RowKit Go.Shelf
attribute [local go_sem] Oper.semAt_some

theorem infoSp29 : (Try.prog.info? 45).map (fun i => (i.zero, i.size, i.bytes)) = some (some (.agg #[.int .i64 0, .int .i64 0]), 2, 16) := by kernel_rfl

def spanO (x : Nat × Int × Int) : Sp := ⟨x.2.1, x.2.2⟩

/-- The loads of a stack. -/
def spansL (l : List Ld) : List Sp := (loadsL l).map spanO

theorem spansL_len (l : List Ld) : (spansL l).length = l.length := by simp [spansL, loadsL]

/-- While the loads are collected into a slice in cell b2. -/
def InvD (b2 : Nat) (X0 : Nat → Prop) (w4 : World) (pre : List (Nat × Int × Int)) (X Y : Nat → Prop) (W : World) : Prop :=
  ∃ vv, (∀ i, X i ↔ (i = b2 ∨ vv.ownBlock = some i)) ∧ (∀ i, Y i → w4.heap.size ≤ i) ∧ Kx X0 w4 W ∧ Own W b2 [vv] ∧ W.ownsRow 0 45 2 vv pre.length ((pre.map spanO).flatMap encS) ∧ ∀ r, vv.ownBlock = some r → (X0 r ∨ w4.heap.size ≤ r) ∧ r ≠ b2 ∧ r < W.heap.size ∧ ¬ Y r

theorem InvD.ab {b2 : Nat} {X0 : Nat → Prop} {w4 : World} (h2 : b2 < w4.heap.size) (s : List (Nat × Int × Int)) (X : Nat → Prop) : Ab (InvD b2 X0 w4 s X) := by
  rintro Y Y' A B ⟨vv, hX, hY, hk, o2, hown, hr⟩ k hy
  have hs := hk.size
  have hY' : ∀ i, Y' i → w4.heap.size ≤ i := fun i e => by
    rcases hy i e with e | e
    · exact hY i e
    · omega
  have hr' : ∀ r, vv.ownBlock = some r → (X0 r ∨ w4.heap.size ≤ r) ∧ r ≠ b2 ∧ r < B.heap.size ∧ ¬ Y' r := fun r e => by
    obtain ⟨h0, h1, h2, h3⟩ := hr r e
    have := k.size
    refine ⟨h0, h1, by omega, fun e' => ?_⟩
    rcases hy r e' with e' | e'
    · exact h3 e'
    · omega
  exact ⟨vv, hX, hY', hk.th k fun i e => .inr (hY i e), o2.kx k fun e => by have := hY _ e; omega, owns_kx hown k fun r e => (hr r e).2.2.2, hr'⟩

set_option maxRecDepth 100000 in
set_option maxHeartbeats 4000000 in
theorem loads_ok (l : List Ld) (hs : boxedL 50 l = 0) (a : Option Addr) (cap : Nat) (w : World) (hr : LRow w a l) :
    Calls Try.prog 37 #[.slice a l.length cap] w fun e w' => ∃ b c, e = .returned (.tuple #[.slice b (spansL l).length c, .int .i64 0]) ∧ SRow w' b (spansL l) ∧ Gr w w' := by
  obtain ⟨l50, hl⟩ := boxed_parts hs
  refine (callsIn_wide (n := 20)).1 ?_
  obtain ⟨i0, hi, hz0, hz1, hz2⟩ := info_parts infoSp29
  have cS : ∀ W, LRow W a l → Calls Try.prog 86 #[.slice a l.length cap, .int .i64 50] W fun e w' => e = .returned (.int .i64 0) ∧ Gr W w' := fun W g1 => by
    have h := boxed_any 50 l a cap W g1
    rw [hs] at h
    exact h
  have CS := Lib.hid cS
  have HL := Lib.hid hl
  clear cS hs hl
  refine callsIn_of_wp_marks Try.func37 rfl trivial ?_ rfl
  simp only [Try.ntmps37, List.size_toArray, List.length_cons, List.length_nil, Nat.reduceAdd, Nat.reduceSub, Array.replicate_succ, Array.replicate_zero, List.push_toArray, List.append_toArray, List.nil_append, List.cons_append]
  gi_wp2_with (first
    | (refine ⟨trivial, ?_⟩; gi_at_call 86; refine (callsIn_wide.2 (CS.out _ hr)).mono ?_; rintro e w1 ⟨rfl, g1⟩; obtain ⟨w2, hmk, hown, hgrow⟩ := run_make_own (P := Try.prog) w1 0 57 45 i0 (.agg #[.int .i64 0, .int .i64 0]) 2 Try.underlying57 hi hz0 hz1 .i64 .i64 l.length (by rw [hz2]; omega) (by unfold maxLen; omega) (Nat.zero_le _))
    | (refine ⟨trivial, ?_⟩; gi_at_call 87; refine (callsIn_wide.2 (loads_any' l a cap _)).mono ?_; rintro e w4 ⟨b, rfl, hb, hO, h4⟩))
  have g2 : Gr w1 w2 := Kx.toGr (Kx.grown (Z := noBlock) hgrow (fun r e => by cases e))
  have gg := g1.tr g2
  have hg0 := (hown.lt w1.heap.size rfl).2
  have o2 := (Own.new w2 [.slice (some ⟨w1.heap.size, 0, none⟩) 0 l.length] 57 w2.heap.size rfl).keep h4
  have hown4 := owns_keep (owns_keep hown (Gr.al w2 (.cells #[.slice (some ⟨w1.heap.size, 0, none⟩) 0 l.length] 57))) h4
  have g4 := gg.tr ((Gr.al w2 (.cells #[.slice (some ⟨w1.heap.size, 0, none⟩) 0 l.length] 57)).tr h4)
  have hw1 := g1.size
  have hb3 : w2.heap.size + 1 ≤ b := by simpa using hb
  have s4 : w2.heap.size + 1 ≤ w4.heap.size := by have := o2.1.1; omega
  obtain ⟨G, hG⟩ : ∃ G, w1.heap.size = G := ⟨_, rfl⟩
  obtain ⟨D0, hD0⟩ : ∃ D0, w2.heap.size = D0 := ⟨_, rfl⟩
  rw [hG] at o2 hown4 hg0 hw1 ⊢
  rw [hD0] at o2 hb3 s4 hg0 ⊢
  have HO := Lib.hid hO
  have O2 := Lib.hid o2
  have HW := Lib.hid hown4
  have G4 := Lib.hid g4
  clear hb hO h4 hown hgrow hmk g2 gg o2 hown4 g4 hG hD0 g1
  obtain ⟨X0, hX0⟩ : ∃ X0 : Nat → Prop, X0 = fun i => i = D0 ∨ i = G := ⟨_, rfl⟩
  have x0 : ∀ i, X0 i → i < b ∧ i < w4.heap.size ∧ w.heap.size ≤ i := fun i e => by rw [hX0] at e; rcases e with e | e <;> omega
  have hst : St X0 (fun V => Own V b [.slice a l.length cap] ∧ LRow V a l) w4 := fun B hB => by
    refine ⟨HO.out.kx hB fun e => by have := x0 _ e; omega, ?_⟩
    by_cases h0 : 0 < l.length
    · obtain ⟨b2, off2, e2, hb2, _⟩ := hr.2 0 l[0] (by simp)
      refine RowOf.kx (hr.grow G4.out) hB fun b' off e e' => ?_
      have := x0 _ e'
      rw [e] at e2
      injection e2 with e2
      injection e2 with e2 _
      omega
    · obtain rfl : l = [] := by simpa using h0
      exact RowOf.nil
  have hXD : X0 D0 := by rw [hX0]; exact .inl rfl
  have hXG : X0 G := by rw [hX0]; exact .inr rfl
  have HX0 := Lib.hid hX0
  have Hx0 := Lib.hid x0
  have Hst := Lib.hid hst
  have HXD := Lib.hid hXD
  have HXG := Lib.hid hXG
  clear hX0 x0 hst hXD hXG hr
  refine wpIn_rangeX (F := Fence.wide) rfl (by omega) (gf := 120) (lb := #[.pointer (some ⟨b, 0, none⟩)]) rfl trivial (enters_of Try.func120 (by kernel_rfl) rfl)
    (loads_seq Fence.wide 19 trivial rfl (by omega) b a cap l (by omega) (fun x hx => (HL.out x hx).1.1) X0 w4 Hst.out) (Kx.refl _ _) (fun _ => rfl) X0 (fun i e => ⟨by have := Hx0.out i e; omega, .inl e⟩)
    (InvD D0 X0 w4) (fun _ _ _ _ => False) (fun s X => InvD.ab (by omega) s X) ?abX ?start
    (fun pre x a' X Y W => InvD D0 X0 w4 pre X Y W ∧ pre.length < l.length ∧ ∃ B7, Own W B7 [.int .i64 x.2.1, .int .i64 x.2.2] ∧ ¬ X B7 ∧ ¬ Y B7 ∧ w4.heap.size ≤ B7 ∧ a' = ⟨#[.slice a l.length cap, undef, .slice none 0 0, .int .i64 0, .int .i64 0, .pointer (some ⟨D0, 0, none⟩), undef, .pointer (some ⟨B7, 0, none⟩), .slice a l.length cap, .int .i64 0, .int .i64 0, .bool false, undef, .slice a l.length cap, .int .i64 (l.length : Int), .slice (some ⟨G, 0, none⟩) 0 l.length, .slice a l.length cap, .func (.func 120) #[] #[.pointer (some ⟨b, 0, none⟩)], .int .i64 (x.1 : Int), .agg #[.int .i64 x.2.1, .int .i64 x.2.2], undef, undef, undef, undef, undef], []⟩)
    ?abA ?assign ?body ?done ?stop
  case start =>
    refine ⟨.slice (some ⟨G, 0, none⟩) 0 l.length, fun i => by rw [HX0.out]; simp [Value.ownBlock, eq_comm], fun i e => e.elim, Kx.refl _ _, O2.out, HW.out, fun r e => ?_⟩
    have e2 : G = r := by simpa [Value.ownBlock] using e
    subst e2
    exact ⟨.inl HXG.out, by omega, by omega, fun e => e.elim⟩
  case abX => rintro c s Y Y' A B h _ _; exact h
  case abA =>
    rintro s' x a' X Y Y' A B ⟨h1, hm, B7, h3, h4, h5, h6, h7⟩ hk hy
    refine ⟨InvD.ab (by omega) _ _ _ _ _ _ h1 hk hy, hm, B7, h3.kx hk h5, h4, fun e => ?_, h6, h7⟩
    rcases hy _ e with e | e
    · exact h5 e
    · have := h3.1.1; omega
  case assign =>
    rintro l1 pre x X Y W K hI hG hD hK
    have HK := Lib.hid hK
    have HI := Lib.hid hI
    have HG := Lib.hid hG
    clear hK hI hG
    dsimp only [encO]
    gi_wp2
    have hsz : w4.heap.size ≤ W.heap.size := by obtain ⟨vv, _, _, hk, _⟩ := HI.out; exact hk.size
    refine HK.out _ X _ ⟨InvD.ab (by omega) _ _ _ _ _ _ HI.out (Kx.al _ _ _) (fun i e => .inl e), HG.out.2, W.heap.size, Own.new W [_, _] 45 _ rfl, fun e => ?_, fun e => ?_, hsz, rfl⟩ (Kx.al _ _ _) (fun i e => ⟨?_, .inl e⟩)
    · have := hD.x _ e; omega
    · have := hD.y _ e; omega
    · have := hD.x _ e; simp; omega
  case body =>
    rintro l1 pre ⟨kx, lo, tp⟩ a' X Y W ⟨⟨vv, hX, hY, hk, o2, hown, hr⟩, hlen, B7, h7, hn1, hn2, hn3, rfl⟩ hD hYl hrec
    dsimp only at h7
    dsimp only
    have c2 := o2.1.c1
    obtain ⟨j0, j1⟩ := h7.1.c2
    have hk1 : pre.length + 1 ≤ maxLen := by unfold maxLen; omega
    have hk2 : (pre.length + 1) * 16 ≤ 140737488355328 := by omega
    have gA := Gr.al W (.cells #[.int .i64 lo, .int .i64 tp] 45)
    have HX := Lib.hid hX
    have HY := Lib.hid hY
    have HK := Lib.hid hk
    have HO2' := Lib.hid o2
    have HR := Lib.hid hr
    have HD := Lib.hid hD
    have GA := Lib.hid gA
    clear hX hY hk o2 hr hD hYl hrec gA h7 hn1 hn2
    gi_wp2_with (gi_at_builtin; refine wpListIn_append_base _ rfl _ _ 57 rfl 0 45 i0 (.agg #[.int .i64 0, .int .i64 0]) 2 16 Try.underlying57 hi hz0 hz1 hz2 rfl (by decide) vv _ _ rfl (owns_keep hown GA.out) ⟨W.heap.size, 0, none⟩ 1 1 ([lo, tp].map (fun n => Value.int .i64 n)) rfl rfl (cell_news _ _ _) (ints_one _) hk1 hk2 (Nat.zero_le _) ?_; intro v' w6 hown' hgrow hnew; obtain ⟨g', cap', rfl⟩ := ownsRow_succ hown'; have kg : Kx (fun i => vv.ownBlock = some i) (W.alloc (.cells #[.int .i64 lo, .int .i64 tp] 45)) w6 := Kx.grown hgrow (fun r e => .inl e); have d2 := (HO2'.out.keep GA.out).kx kg (fun e => (HR.out _ e).2.1 rfl); have e2 := d2.1.c1; have z2 := d2.2 0; have D2 := Lib.hid d2; have HN := Lib.hid hnew; have KG := Lib.hid kg; clear d2 hnew kg)
    have kk : Kx X W (w6.setCell ⟨D0, 0, none⟩ (Value.slice (some ⟨g', 0, none⟩) (pre.length + 1) cap')) := (Kx.al X W _).tr ((KG.out.mono (fun r e => .inl ((HX.out r).2 (.inr e)))).tr (Kx.set (Z := X) (p := ⟨D0, 0, none⟩) ((HX.out _).2 (.inl rfl)) _))
    have hb2 : D0 < W.heap.size := HO2'.out.1.1
    have hne : ∀ r, (Value.slice (some ⟨g', 0, none⟩) (pre.length + 1) cap').ownBlock = some r → r ≠ D0 := fun r e => by
      rcases (HN.out r e).2 with h | h
      · exact (HR.out r h).2.1
      · simp at h
        omega
    refine ⟨kk, fun i => i = D0 ∨ (Value.slice (some ⟨g', 0, none⟩) (pre.length + 1) cap').ownBlock = some i, ⟨(Value.slice (some ⟨g', 0, none⟩) (pre.length + 1) cap'), fun i => Iff.rfl, HY.out, HK.out.th kk (fun i e => ?_), ?_, ?_, fun r e => ?_⟩, fun i e => ?_⟩
    · rcases (HX.out i).1 e with e | e
      · exact .inl (e ▸ HXD.out)
      · exact (HR.out i e).1
    · exact D2.out.set (i := 0) (v := (Value.slice (some ⟨g', 0, none⟩) (pre.length + 1) cap')) (by simp)
    · have := owns_kx hown' (Kx.set (Z := fun i => i = D0) (p := ⟨D0, 0, none⟩) rfl (Value.slice (some ⟨g', 0, none⟩) (pre.length + 1) cap')) (fun r e e' => hne r e e')
      rw [List.length_append, List.map_append, List.flatMap_append]
      exact this
    · obtain ⟨n1, n2⟩ := HN.out r e
      have hks := HK.out.size
      refine ⟨?_, hne r e, by simpa using n1, fun e' => ?_⟩
      · rcases n2 with h | h
        · exact (HR.out r h).1
        · simp at h
          exact .inr (by omega)
      · rcases n2 with h | h
        · exact (HR.out r h).2.2.2 e'
        · have := HD.out.y r e'
          simp at h
          omega
    · rcases e with rfl | e
      · exact ⟨by have := kk.size; omega, .inl ((HX.out _).2 (.inl rfl))⟩
      · obtain ⟨n1, n2⟩ := HN.out i e
        refine ⟨by simpa using n1, ?_⟩
        rcases n2 with h | h
        · exact .inl ((HX.out _).2 (.inr h))
        · simp at h
          exact .inr (by omega)
  case done =>
    rintro D xs X Y W hD rfl ⟨vv, hX, hY, hk, o2, hown, hr⟩ hYD hK
    have hl1 := spansL_len l
    have hl2 : (loadsL l).length = l.length := by simp [loadsL]
    obtain ⟨b3, c3, hv, hrow⟩ := owns_row (enc := encS) (l := spansL l) (fun _ => rfl) (by rw [hl1]; omega) (by rw [hl1, ← hl2]; exact hown)
    subst hv
    have c2 := o2.1.c1
    have HR := Lib.hid hrow
    have HKK := Lib.hid hk
    have HRR := Lib.hid hr
    clear o2 hown hX hY hk hrow hr hl1 hl2
    gi_wp2
    refine leaves_marks [D] _ (fun E hE => ?_) (by simp) fun w' hk' => ?_
    · simp only [List.mem_singleton] at hE
      subst hE
      exact hK
    · refine ⟨.tuple #[.slice b3 (spansL l).length c3, .int .i64 0], by simp [results, Try.results37, go_sem], b3, c3, rfl, ?_, Kx.toGr (((Kx.gr (Z := noBlock) G4.out).th HKK.out fun i e => ?_).th hk' fun i e => ?_)⟩
      · refine RowOf.kx HR.out hk' fun b' off e e' => ?_
        simp only [List.mem_singleton] at e'
        subst e'
        exact (HRR.out b' (by rw [e]; rfl)).2.2.2 hYD
      · have := Hx0.out i e
        exact .inr (by omega)
      · simp only [List.mem_singleton] at e
        exact .inr (by omega)
  case stop =>
    rintro D c pre Y W hD _ hF
    exact hF.elim

end Go.Proofs.Ytcdilmagcdbogaa

namespace Go.Proofs.Ytcdilmagcdbogaa
set_option linter.unusedVariables false
set_option linter.unusedSimpArgs false
open Go.RowKit

theorem sumHi_rep (x : Ld) : ∀ n : Nat, sumHi (List.replicate n x) = x.wh * (n : Int)
  | 0 => by simp [sumHi]
  | n + 1 => by
    rw [List.replicate_succ, sumHi, sumHi_rep x n]
    rw [show ((n + 1 : Nat) : Int) = (n : Int) + 1 by omega, Int.mul_add, Int.mul_one]
    omega

theorem weakAt_rep {x : Ld} {keep : Int} {n k : Nat} (hk : k < n) : weakAt (List.replicate n x) keep k = decide (x.sl * keep / 1000 < x.wh * ((n - 1 - k : Nat) : Int)) := by
  have e : (List.replicate n x)[k]? = some x := by simp [hk]
  unfold weakAt
  rw [e]
  simp only [List.drop_replicate]
  rw [sumHi_rep, show n - (k + 1) = n - 1 - k by omega]

/-- A stack of equal boxes is weak where the others are too heavy for the lowest one. -/
theorem weak_rep {x : Ld} {keep : Int} (h0 : 0 ≤ x.wh) (n : Nat) : weakV (List.replicate (n + 1) x) keep = .tuple #[.int .i64 0, .bool (decide (x.sl * keep / 1000 < x.wh * (n : Int)))] := by
  unfold weakV
  cases hd : decide (x.sl * keep / 1000 < x.wh * (n : Int)) with
  | true =>
    rw [weakO_some (k := 0) (by simp) (by rw [weakAt_rep (by omega)]; simpa using hd) (fun j hj => by omega)]
    rfl
  | false =>
    rw [weakO_none (fun k hk => by
      have hk' : k < n + 1 := by simpa using hk
      rw [weakAt_rep hk']
      have h1 : x.wh * ((n + 1 - 1 - k : Nat) : Int) ≤ x.wh * (n : Int) := Int.mul_le_mul_of_nonneg_left (by omega) h0
      simp only [decide_eq_false_iff_not] at hd ⊢
      omega)]

theorem callHigh (args : Array Value) (W : World) : (callFunc 97 args).run Try.prog W = .ok (.enter 97 args) W := by kernel_rfl

set_option maxRecDepth 100000 in
set_option maxHeartbeats 2000000 in
theorem highClosure (X : Ld) (hx : LdOk X) (keep : Int) (k0 : 0 ≤ keep) (k1 : keep ≤ 1000) (h : Nat) (hh : h < 1000 - 1) (b1 b2 : Nat) (a : Option Addr) (cap : Nat) (W : World) (q1 : W.cell? ⟨b1, 0, none⟩ = some (.slice a 1 cap)) (q2 : W.cell? ⟨b2, 0, none⟩ = some (.int .i64 keep)) (hr : LRow W a [X]) :
    Calls Try.prog 97 #[.int .i64 (h : Int), .pointer (some ⟨b1, 0, none⟩), .pointer (some ⟨b2, 0, none⟩)] W fun e W' => e = .returned (.bool (decide (X.sl * keep / 1000 < X.wh * (h : Int)))) ∧ Gr W W' := by
  have hw0 : 0 ≤ X.wh := hx.1.2.2.1
  obtain ⟨d, hd⟩ : ∃ d, decide (X.sl * keep / 1000 < X.wh * (h : Int)) = d := ⟨_, rfl⟩
  have hwk : weakV (List.replicate (h + 1) X) keep = .tuple #[.int .i64 0, .bool d] := by rw [weak_rep hw0, hd]
  have hall : ∀ y ∈ List.replicate (h + 1) X, LdOk y := fun y hy => by rw [(List.mem_replicate.1 hy).2]; exact hx
  have hlen : (List.replicate (h + 1) X).length = h + 1 := by simp
  have e0 : IntKind.i64.wrap ((h : Int) + 1) = ((h + 1 : Nat) : Int) := by rw [IntWalk.i64_in _ (by omega)]; omega
  rw [hd]
  clear hd
  go_enter Try.func97, Try.ntmps97
  go_upto_region 1 with fail
  refine wp_region_facts 10 [(2, 1), (3, 0), (3, 2), (5, 3), (5, 4), (6, 5), (7, 6), (8, 6), (9, 7)] (fun x => ⟨#[.int .i64 (h : Int), .pointer (some ⟨b1, 0, none⟩), .pointer (some ⟨b2, 0, none⟩), undef, .bool false, x 9, undef, x 6, x 0, x 1, x 2, x 3, x 4, x 5, x 7, x 8, undef], []⟩) (fun _ => undef) [fun _ x => x = .slice a 1 cap, fun _ x => x = .int .i64 (h : Int), fun _ x => x = .int .i64 ((h + 1 : Nat) : Int), fun v x => ∃ a, x = .slice a (h + 1) (h + 1) ∧ LRow v a (List.replicate (h + 1) X), fun _ x => x = .int .i64 keep, fun _ x => x = .tuple #[.int .i64 0, .bool d], fun _ x => x = .tuple #[.int .i64 0, .bool d], fun _ x => x = .int .i64 0, fun _ x => x = .bool d, fun _ x => x = .int .i64 0] (by rfl) (by kernel_rfl) (by kernel_rfl) (by kernel_rfl) (stays_cons (Stays.eq _) (stays_cons (Stays.eq _) (stays_cons (Stays.eq _) (stays_cons ((show Stays (fun v x => ∃ a, x = .slice a (h + 1) (h + 1) ∧ LRow v a (List.replicate (h + 1) X)) from fun v v' x g ⟨a, h, r⟩ => ⟨a, h, r.grow g⟩)) (stays_cons (Stays.eq _) (stays_cons (Stays.eq _) (stays_cons (Stays.eq _) (stays_cons (Stays.eq _) (stays_cons (Stays.eq _) (stays_cons (Stays.eq _) stays_nil)))))))))) ?step1 ?fin1
  case step1 =>
    rintro i hi x v gv hd K hK
    have hi8 : i = 0 ∨ i = 1 ∨ i = 2 ∨ i = 3 ∨ i = 4 ∨ i = 5 ∨ i = 6 ∨ i = 7 ∨ i = 8 ∨ i = 9 := by omega
    rcases hi8 with rfl | rfl | rfl | rfl | rfl | rfl | rfl | rfl | rfl | rfl
    · show wpOp Try.prog _ _ 0 K (⟨#[.int .i64 (h : Int), .pointer (some ⟨b1, 0, none⟩), .pointer (some ⟨b2, 0, none⟩), undef, .bool false, x 9, undef, x 6, x 0, x 1, x 2, x 3, x 4, x 5, x 7, x 8, undef], []⟩ : Act) v
      refine wpOp_step rfl (fun K' hK' => ?_)
      have q := gv.keep q1
      go_simp
      exact hK' _ _ (hK _ _ (Below.refl _ _) (at_of rfl (rfl)))
    · show wpOp Try.prog _ _ 1 K (⟨#[.int .i64 (h : Int), .pointer (some ⟨b1, 0, none⟩), .pointer (some ⟨b2, 0, none⟩), undef, .bool false, x 9, undef, x 6, x 0, x 1, x 2, x 3, x 4, x 5, x 7, x 8, undef], []⟩ : Act) v
      refine wpOp_step rfl (fun K' hK' => ?_)
      go_simp
      exact hK' _ _ (hK _ _ (Below.refl _ _) (at_of rfl (rfl)))
    · obtain ⟨x, rfl⟩ := upd_of (show x 1 = .int .i64 (h : Int) from hd 1 _ (by simp) rfl)
      show wpOp Try.prog _ _ 2 K (⟨#[.int .i64 (h : Int), .pointer (some ⟨b1, 0, none⟩), .pointer (some ⟨b2, 0, none⟩), undef, .bool false, x 9, undef, x 6, x 0, .int .i64 (h : Int), x 2, x 3, x 4, x 5, x 7, x 8, undef], []⟩ : Act) v
      refine wpOp_step rfl (fun K' hK' => ?_)
      go_simp
      exact hK' _ _ (hK _ _ (Below.refl _ _) (at_of rfl (rfl)))
    · obtain ⟨x, rfl⟩ := upd_of (show x 0 = .slice a 1 cap from hd 0 _ (by simp) rfl)
      obtain ⟨x, rfl⟩ := upd_of (show x 2 = .int .i64 ((h + 1 : Nat) : Int) from hd 2 _ (by simp) rfl)
      show wpOp Try.prog _ _ 3 K (⟨#[.int .i64 (h : Int), .pointer (some ⟨b1, 0, none⟩), .pointer (some ⟨b2, 0, none⟩), undef, .bool false, x 9, undef, x 6, .slice a 1 cap, x 1, .int .i64 ((h + 1 : Nat) : Int), x 3, x 4, x 5, x 7, x 8, undef], []⟩ : Act) v
      refine wpOp_step rfl (fun K' hK' => ?_)
      go_simp
      refine (repeat_one X (h + 1) (by omega) (by omega) a cap v (hr.grow gv)).mono ?_
      rintro e v' ⟨a3, rfl, hr3, hg⟩
      exact hK' _ _ (hK _ _ hg (at_of rfl (⟨_, rfl, hr3⟩)))
    · show wpOp Try.prog _ _ 4 K (⟨#[.int .i64 (h : Int), .pointer (some ⟨b1, 0, none⟩), .pointer (some ⟨b2, 0, none⟩), undef, .bool false, x 9, undef, x 6, x 0, x 1, x 2, x 3, x 4, x 5, x 7, x 8, undef], []⟩ : Act) v
      refine wpOp_step rfl (fun K' hK' => ?_)
      have q := gv.keep q2
      go_simp
      exact hK' _ _ (hK _ _ (Below.refl _ _) (at_of rfl (rfl)))
    · obtain ⟨a3, e3, r3⟩ := hd 3 _ (by simp) rfl
      obtain ⟨x, rfl⟩ := upd_of (show x 3 = .slice a3 (h + 1) (h + 1) from e3)
      obtain ⟨x, rfl⟩ := upd_of (show x 4 = .int .i64 keep from hd 4 _ (by simp) rfl)
      show wpOp Try.prog _ _ 5 K (⟨#[.int .i64 (h : Int), .pointer (some ⟨b1, 0, none⟩), .pointer (some ⟨b2, 0, none⟩), undef, .bool false, x 9, undef, x 6, x 0, x 1, x 2, .slice a3 (h + 1) (h + 1), .int .i64 keep, x 5, x 7, x 8, undef], []⟩ : Act) v
      refine wpOp_step rfl (fun K' hK' => ?_)
      go_simp
      have c := weak_any (List.replicate (h + 1) X) (by rw [hlen]; omega) hall keep k0 k1 a3 (h + 1) v r3
      rw [hlen, hwk] at c
      refine c.mono ?_
      rintro e v' ⟨rfl, hg⟩
      exact hK' _ _ (hK _ _ hg (at_of rfl (rfl)))
    · obtain ⟨x, rfl⟩ := upd_of (show x 5 = .tuple #[.int .i64 0, .bool d] from hd 5 _ (by simp) rfl)
      show wpOp Try.prog _ _ 6 K (⟨#[.int .i64 (h : Int), .pointer (some ⟨b1, 0, none⟩), .pointer (some ⟨b2, 0, none⟩), undef, .bool false, x 9, undef, x 6, x 0, x 1, x 2, x 3, x 4, .tuple #[.int .i64 0, .bool d], x 7, x 8, undef], []⟩ : Act) v
      refine wpOp_step rfl (fun K' hK' => ?_)
      go_simp
      exact hK' _ _ (hK _ _ (Below.refl _ _) (at_of rfl (rfl)))
    · obtain ⟨x, rfl⟩ := upd_of (show x 6 = .tuple #[.int .i64 0, .bool d] from hd 6 _ (by simp) rfl)
      show wpOp Try.prog _ _ 7 K (⟨#[.int .i64 (h : Int), .pointer (some ⟨b1, 0, none⟩), .pointer (some ⟨b2, 0, none⟩), undef, .bool false, x 9, undef, .tuple #[.int .i64 0, .bool d], x 0, x 1, x 2, x 3, x 4, x 5, x 7, x 8, undef], []⟩ : Act) v
      refine wpOp_step rfl (fun K' hK' => ?_)
      go_simp
      exact hK' _ _ (hK _ _ (Below.refl _ _) (at_of rfl (rfl)))
    · obtain ⟨x, rfl⟩ := upd_of (show x 6 = .tuple #[.int .i64 0, .bool d] from hd 6 _ (by simp) rfl)
      show wpOp Try.prog _ _ 8 K (⟨#[.int .i64 (h : Int), .pointer (some ⟨b1, 0, none⟩), .pointer (some ⟨b2, 0, none⟩), undef, .bool false, x 9, undef, .tuple #[.int .i64 0, .bool d], x 0, x 1, x 2, x 3, x 4, x 5, x 7, x 8, undef], []⟩ : Act) v
      refine wpOp_step rfl (fun K' hK' => ?_)
      go_simp
      exact hK' _ _ (hK _ _ (Below.refl _ _) (at_of rfl (rfl)))
    · obtain ⟨x, rfl⟩ := upd_of (show x 7 = .int .i64 0 from hd 7 _ (by simp) rfl)
      show wpOp Try.prog _ _ 9 K (⟨#[.int .i64 (h : Int), .pointer (some ⟨b1, 0, none⟩), .pointer (some ⟨b2, 0, none⟩), undef, .bool false, x 9, undef, x 6, x 0, x 1, x 2, x 3, x 4, x 5, .int .i64 0, x 8, undef], []⟩ : Act) v
      refine wpOp_step rfl (fun K' hK' => ?_)
      go_simp
      exact hK' _ _ (hK _ _ (Below.refl _ _) (at_of rfl (rfl)))
  case fin1 =>
    rintro x v gv hd
    obtain ⟨x, rfl⟩ := upd_of (show x 8 = .bool d from hd 8 _ (by omega) rfl)
    clear hd
    show wpList Try.prog _ _ (List.drop 10 _) (⟨#[.int .i64 (h : Int), .pointer (some ⟨b1, 0, none⟩), .pointer (some ⟨b2, 0, none⟩), undef, .bool false, x 9, undef, x 6, x 0, x 1, x 2, x 3, x 4, x 5, x 7, .bool d, undef], []⟩ : Act) v
    simp only [List.drop_succ_cons, List.drop_zero]
    go_wp2
    go_ret
    exact ⟨rfl, gv⟩

theorem mono_high {s h : Int} (h0 : 0 ≤ h) : ∀ a b : Int, 0 ≤ a → a ≤ b → b < 50 → decide (s < h * a) = true → decide (s < h * b) = true := fun a b ha hab _ hd => by
  have := Int.mul_le_mul_of_nonneg_left hab h0
  simp only [decide_eq_true_eq] at hd ⊢
  omega

theorem high_calls {x : Ld} (HX : Hid (LdOk x)) {B8 Bb : Nat} {keep : Int} {U W1 W2 : World} (O8 : Hid (Own U B8 [.slice (some ⟨Bb, 0, none⟩) 1 1])) (RB : Hid (LRow U (some ⟨Bb, 0, none⟩) [x])) (G1 : Hid (Gr U W1)) (G2 : Hid (Gr W1 W2)) (k0 : 0 ≤ keep) (k1 : keep ≤ 1000) :
    ∀ (h : Int) (W : World), Gr (W2.alloc (.cells #[.int .i64 keep] 3)) W → 0 ≤ h → h < 50 → Calls Try.prog 97 #[.int .i64 h, .pointer (some ⟨B8, 0, none⟩), .pointer (some ⟨W2.heap.size, 0, none⟩)] W fun e W' => e = .returned (.bool (decide (x.sl * keep / 1000 < x.wh * h))) ∧ Gr W W' := by
  intro h W g h0 h1
  obtain ⟨k, rfl⟩ : ∃ k : Nat, h = (k : Int) := ⟨h.toNat, by omega⟩
  have gg : Gr U W := ((G1.out.tr G2.out).tr (Gr.al _ _)).tr g
  exact highClosure x HX.out keep k0 k1 k (by omega) B8 W2.heap.size _ 1 W ((O8.out.keep gg).1.c1) (((Own.new W2 [.int .i64 keep] 3 _ rfl).keep g).1.c1) (RB.out.grow gg)

set_option maxRecDepth 100000 in
set_option maxHeartbeats 2000000 in
/-- High of what is valid: how many stand. -/
theorem high_ok (x : Ld) (hx : LdOk x) (t : List Stp) (days : Int) (hs : storedL 1 [x] t days = 0) (hn : t.length ≤ 1000000) (hp : t.Pairwise (fun x y => x.day ≤ y.day)) (h0 : 0 < (untilL t days).length) (h1 : (untilL t days).length ≤ t.length) (k0 : 0 ≤ lastL t days) (k1 : lastL t days ≤ 1000)
    (c : Option Addr) (cc : Nat) (hcc : t.length ≤ cc) (w : World) (ht : TRow w c t) :
    Calls Try.prog 45 #[.agg #[.int .i64 x.sl, .int .i64 x.sh, .int .i64 x.wl, .int .i64 x.wh], .slice c t.length cc, .int .i64 days] w fun e w' => ∃ r, e = .returned (.tuple #[.int .i64 r, .int .i64 0]) ∧ 0 ≤ r ∧ r ≤ 50 ∧ (∀ a, 0 ≤ a → a < r → decide (x.sl * lastL t days / 1000 < x.wh * a) = false) ∧ (∀ a, r ≤ a → a < 50 → decide (x.sl * lastL t days / 1000 < x.wh * a) = true) ∧ Gr w w' := by
  have hw0 : 0 ≤ x.wh := hx.1.2.2.1
  have HS := Lib.hid hs
  have HP := Lib.hid hp
  have HX := Lib.hid hx
  clear hs hp hx
  go_enter Try.func45, Try.ntmps45
  go_upto_region 2 with fail
  have gU := (Gr.al w (.cells #[.int .i64 x.sl, .int .i64 x.sh, .int .i64 x.wl, .int .i64 x.wh] 70)).tr ((Gr.al _ (.cells #[.int .i64 x.sl, .int .i64 x.sh, .int .i64 x.wl, .int .i64 x.wh] 70)).tr (Gr.al _ (.cells #[.slice (some ⟨w.heap.size + 1, 0, none⟩) 1 1] 53)))
  have oB := (Own.new (w.alloc (.cells #[.int .i64 x.sl, .int .i64 x.sh, .int .i64 x.wl, .int .i64 x.wh] 70)) [.int .i64 x.sl, .int .i64 x.sh, .int .i64 x.wl, .int .i64 x.wh] 70 (w.heap.size + 1) (by simp)).keep (Gr.al _ (.cells #[.slice (some ⟨w.heap.size + 1, 0, none⟩) 1 1] 53))
  have o8 := Own.new ((w.alloc (.cells #[.int .i64 x.sl, .int .i64 x.sh, .int .i64 x.wl, .int .i64 x.wh] 70)).alloc (.cells #[.int .i64 x.sl, .int .i64 x.sh, .int .i64 x.wl, .int .i64 x.wh] 70)) [.slice (some ⟨w.heap.size + 1, 0, none⟩) 1 1] 53 (w.heap.size + 1 + 1) (by simp)
  refine wp_abs (fun U => Gr w U ∧ Own U (w.heap.size + 1) [.int .i64 x.sl, .int .i64 x.sh, .int .i64 x.wl, .int .i64 x.wh] ∧ Own U (w.heap.size + 1 + 1) [.slice (some ⟨w.heap.size + 1, 0, none⟩) 1 1]) ⟨gU, oB, o8⟩ ?_
  clear gU oB o8
  rintro U ⟨gU, oB, o8⟩
  have rB : LRow U (some ⟨w.heap.size + 1, 0, none⟩) [x] := by
    refine ⟨by simp, fun j y hy => ?_⟩
    have hj : j = 0 := by
      have := (List.getElem?_eq_some_iff.1 hy).1
      simpa using this
    subst hj
    have ey : x = y := by simpa using hy
    subst ey
    exact ⟨_, _, rfl, oB.1.1, fun i v hv => by simpa using oB.1.2 i v hv⟩
  have q8 := o8.1.c1
  have RB := Lib.hid rB
  have O8 := Lib.hid o8
  have GU := Lib.hid gU
  clear oB o8 rB gU
  have cS : ∀ W, Gr U W → Calls Try.prog 88 #[.slice (some ⟨w.heap.size + 1, 0, none⟩) 1 1, .int .i64 1, .slice c t.length cc, .int .i64 days] W fun e w' => e = .returned (.int .i64 0) ∧ Gr W w' := fun W g => by
    have h := stored_any 1 [x] t days (some ⟨w.heap.size + 1, 0, none⟩) c 1 cc W (RB.out.grow g) (ht.grow (GU.out.tr g))
    rw [HS.out] at h
    exact h
  have CS := Lib.hid cS
  clear cS
  go_wp2_with (first
    | (go_at_call 88; refine (CS.out _ (Below.refl _ _)).mono ?_; rintro e w1 ⟨rfl, g1⟩; have G1 := Lib.hid g1; clear g1)
    | (go_at_call 95; refine (last_any t days hn HP.out h0 h1 c cc hcc _ (ht.grow (GU.out.tr G1.out))).mono ?_; rintro e w2 ⟨rfl, g2⟩; have G2 := Lib.hid g2; clear g2)
    | (go_at_call 96; refine (search2 50 (by omega) (by omega) (fun a => decide (x.sl * lastL t days / 1000 < x.wh * a)) (mono_high hw0) 97 (.pointer (some ⟨w.heap.size + 1 + 1, 0, none⟩)) (.pointer (some ⟨w2.heap.size, 0, none⟩)) _ callHigh (high_calls HX O8 RB G1 G2 k0 k1)).mono ?_; rintro e w3 ⟨r, rfl, r0, r1, hlo, hhi, g3⟩))
  go_ret2
  exact ⟨r, rfl, r0, r1, hlo, hhi, ((GU.out.tr (G1.out.tr G2.out)).tr (Gr.al _ _)).tr g3⟩

end Go.Proofs.Ytcdilmagcdbogaa

namespace Go.Proofs.Ytcdilmagcdbogaa
set_option linter.unusedVariables false
set_option linter.unusedSimpArgs false
open Go.RowKit

theorem armSpan_any (a b : Int) (w : World) :
    Calls Try.prog 33 #[.int .i64 a, .int .i64 b] w fun e w' => e = .returned (.agg #[.int .i64 a, .int .i64 b]) ∧ Gr w w' := by
  go_enter Try.func33, Try.ntmps33
  go_wp2
  exact bodyPost_ret (v := .agg #[.int .i64 a, .int .i64 b]) (by simp [results, Try.results33, go_sem]) rfl ⟨rfl, Gr.al _ _⟩

end Go.Proofs.Ytcdilmagcdbogaa

namespace Go.Proofs.Ytcdilmagcdbogaa
set_option linter.unusedVariables false
set_option linter.unusedSimpArgs false
open Go.RowKit

theorem strong_lo : strongB 1600 587 5000 4000 = 74226 := by
  unfold strongB
  rw [show (4000 : Int) * 1600 = 6400000 from rfl, rootL_is (n := 6400000) (r := 2529) (by omega) (by omega) (by omega) (by omega)]
  rfl

theorem strong_hi : strongB 1600 587 6000 4200 = 91290 := by
  unfold strongB
  rw [show (4200 : Int) * 1600 = 6720000 from rfl, rootL_is (n := 6720000) (r := 2592) (by omega) (by omega) (by omega) (by omega)]
  rfl

theorem crush1 (w : World) : Calls Try.prog 31 #[.agg #[.int .i64 5000, .int .i64 6000, .int .i64 4000, .int .i64 4200, .int .i64 1600, .int .i64 587]] w fun e w' => e = .returned (.tuple #[.agg #[.int .i64 74226, .int .i64 91290], .int .i64 0]) ∧ Gr w w' := by
  have h := crushStrength_ok 5000 6000 4000 4200 1600 587 (by decide +kernel) w
  rw [strong_lo, strong_hi] at h
  exact h

def ld0 : Ld := ⟨300, 320, 100, 110⟩

def ts0 : List Stp := [⟨0, 1000⟩, ⟨10, 800⟩, ⟨30, 600⟩]

theorem stored0 : storedL 1 [ld0] ts0 10 = 0 := by decide +kernel

theorem until0 : (untilL ts0 10).length = 2 := by decide +kernel

theorem last0 : lastL ts0 10 = 800 := by decide +kernel

theorem high1 (c : Option Addr) (w : World) (ht : TRow w c ts0) : Calls Try.prog 45 #[.agg #[.int .i64 300, .int .i64 320, .int .i64 100, .int .i64 110], .slice c 3 3, .int .i64 10] w fun e w' => e = .returned (.tuple #[.int .i64 3, .int .i64 0]) ∧ Gr w w' := by
  have h := high_ok ld0 (by simp [LdOk, LdB, ld0]) ts0 10 stored0 (by simp [ts0]) (by simp [ts0]) (by rw [until0]; omega) (by rw [until0]; simp [ts0]) (by rw [last0]; omega) (by rw [last0]; omega) c 3 (by simp [ts0]) w ht
  rw [last0] at h
  refine h.mono ?_
  rintro e w' ⟨r, rfl, r0, r1, hlo, hhi, g⟩
  obtain rfl : r = 3 := by
    rcases Int.lt_trichotomy r 3 with h | h | h
    · have := hhi 2 (by omega) (by omega)
      simp [ld0] at this
    · exact h
    · have := hlo 3 (by omega) h
      simp [ld0] at this
  exact ⟨rfl, g⟩

end Go.Proofs.Ytcdilmagcdbogaa

namespace Go.Proofs.Ytcdilmagcdbogaa
set_option linter.unusedVariables false
set_option linter.unusedSimpArgs false
open Go.RowKit

theorem RowOf.lit31 {α : Type} {enc : α → List Value} {sz : Nat} (he : ∀ x, (enc x).length = sz) (w : World) (t : TypeId) (l : List α) (hl : l.length ≤ 9223372036854775807) (cs : Array Value) (hcs : cs = (l.flatMap enc).toArray) (n : Nat) (hn : n = w.heap.size) : RowOf sz enc (w.alloc (.cells cs t)) (some ⟨n, 0, none⟩) l := by
  subst hn hcs
  refine ⟨hl, fun j x hx => ⟨w.heap.size, 0, rfl, by simp, fun i v hv => ?_⟩⟩
  have hf := flat_get he l j i x v hx hv
  refine new_cell w _ t ?_
  simpa using hf

theorem RowOf.take31 {α : Type} {enc : α → List Value} {sz : Nat} {w : World} {a : Option Addr} {l : List α} (h : RowOf sz enc w a l) (n : Nat) : RowOf sz enc w a (l.take n) :=
  ⟨by have := h.1; rw [List.length_take]; omega, fun j x hx => h.2 j x (by
    rw [List.getElem?_take] at hx
    split at hx
    · exact hx
    · cases hx)⟩

set_option maxRecDepth 100000 in
theorem load_any (a b c d : Int) (w : World) :
    Calls Try.prog 59 #[.int .i64 a, .int .i64 b, .int .i64 c, .int .i64 d] w fun e w' => e = .returned (.agg #[.int .i64 a, .int .i64 b, .int .i64 c, .int .i64 d]) ∧ Gr w w' := by
  have o8 := Own.new w [.int .i64 0, .int .i64 0, .int .i64 0, .int .i64 0] 70 w.heap.size rfl
  have gg := Gr.al w (.cells #[.int .i64 0, .int .i64 0, .int .i64 0, .int .i64 0] 70)
  have tok0 : True := trivial
  go_enter Try.func59, Try.ntmps59
  go_wp2_with (first
    | (have _t := tok0; clear tok0 _t; go_at_call 33; refine (armSpan_any a b _).mono ?_; rintro e w1 ⟨rfl, g1⟩)
    | (go_at_call 33; refine (armSpan_any c d _).mono ?_; rintro e w2 ⟨rfl, g2⟩; have oX := o8.keep (g1.tr g2); (obtain ⟨q0, q1, q2, q3⟩ := oX.1.c4'); have z0 := oX.2 0; have z1 := oX.2 1; have z2 := oX.2 2; have z3 := oX.2 3))
  have oZ := (((oX.set (i := 0) (v := .int .i64 a) (by simp)).set (i := 1) (v := .int .i64 b) (by simp)).set (i := 2) (v := .int .i64 c) (by simp)).set (i := 3) (v := .int .i64 d) (by simp)
  obtain ⟨y0, y1, y2, y3⟩ := oZ.1.c4'
  exact bodyPost_ret (v := .agg #[.int .i64 a, .int .i64 b, .int .i64 c, .int .i64 d]) (by simp [results, Try.results59, go_sem, y0, y1, y2, y3]) rfl ⟨rfl, (((((gg.tr (g1.tr g2)).setCell (Nat.le_refl _) _).setCell (Nat.le_refl _) _).setCell (Nat.le_refl _) _).setCell (Nat.le_refl _) _)⟩

set_option maxRecDepth 100000 in
theorem table_any (w : World) :
    Calls Try.prog 71 #[] w fun e w' => ∃ a, e = .returned (.slice a 3 3) ∧ TRow w' a ts0 ∧ Gr w w' := by
  have r1 : TRow _ _ ts0 := RowOf.lit31 (enc := encT) (sz := 2) (fun _ => rfl) w 138 ts0 (by simp [ts0]) #[.int .i64 0, .int .i64 1000, .int .i64 10, .int .i64 800, .int .i64 30, .int .i64 600] (by rfl) w.heap.size rfl
  go_enter Try.func71, Try.ntmps71
  go_wp2
  go_ret
  exact ⟨_, rfl, r1, Gr.al _ _⟩

set_option maxRecDepth 100000 in
set_option maxHeartbeats 1000000 in
theorem same_any (l m : List Int) (a b : Option Addr) (c d : Nat) (w : World) (hl : IRow w a l) (hm : IRow w b m) :
    Calls Try.prog 24 #[.slice a l.length c, .slice b m.length d] w fun e w' => e = .returned (.bool (decide (l = m))) ∧ Gr w w' := by
  have hl0 := hl.1
  have hm0 := hm.1
  by_cases hlen : l.length = m.length
  · have hb : ((l.length : Int) != (m.length : Int)) = false := by rw [bne_eq_false_iff_eq]; omega
    go_enter Try.func24, Try.ntmps24
    go_wp2
    go_loopw [5] (fun t wr => Hid (∃ k : Nat, k ≤ l.length ∧ t = .int .i64 k ∧ Gr w wr ∧ l.take k = m.take k)) (fun t _ => l.length - (intOf t).toNat)
    case atStart => exact Lib.hid ⟨0, Nat.zero_le _, rfl, Below.refl _ _, by simp⟩
    case round =>
      obtain ⟨k, hk, rfl, gW, ht⟩ := hrel.out
      clear hrel
      by_cases hlt : k < l.length
      · obtain ⟨x, hx⟩ : ∃ x, l[k]? = some x := ⟨l[k], by simp [hlt]⟩
        obtain ⟨y, hy⟩ : ∃ y, m[k]? = some y := ⟨m[k], by simp [show k < m.length by omega]⟩
        obtain ⟨b1, o1, rfl, h1, c1⟩ := IRow.get (hl.grow gW) hx
        obtain ⟨b2, o2, rfl, h2, c2⟩ := IRow.get (hm.grow gW) hy
        have hlt2 : k < m.length := by omega
        by_cases hxy : x = y
        · have hne : (x != y) = false := by simpa using hxy
          have ht' : l.take (k + 1) = m.take (k + 1) := by rw [List.take_add_one, List.take_add_one, hx, hy, ht, hxy]
          have HT := Lib.hid ht'
          clear ht ht' hx hy hxy
          go_upto_region 6 with fail
          go_quiet (fail)
          go_wp2
          go_roundw
          case rel => exact Lib.hid ⟨k + 1, by omega, by go_num, Gr.drewN gW _, HT.out⟩
          case measure => simp [intOf]; omega
        · have hne : (x != y) = true := by simpa using hxy
          have hD : decide (l = m) = false := by
            rw [decide_eq_false_iff_not]
            intro e
            subst e
            rw [hx] at hy
            cases hy
            exact hxy rfl
          have HD := Lib.hid hD
          clear ht hx hy hxy hD
          go_upto_region 6 with fail
          go_quiet (fail)
          go_wp2
          go_ret
          exact ⟨ret_bool HD.out.symm, Gr.drewN gW _⟩
      · obtain rfl : k = l.length := by omega
        rw [List.take_length, hlen, List.take_length] at ht
        have hD : decide (l = m) = true := by simpa using ht
        have HD := Lib.hid hD
        clear ht hD
        go_wp2
        go_ret
        exact ⟨ret_bool HD.out.symm, gW⟩
  · have hb : ((l.length : Int) != (m.length : Int)) = true := by rw [bne_iff_ne]; omega
    have hD : decide (l = m) = false := by
      rw [decide_eq_false_iff_not]
      intro e
      exact hlen (by rw [e])
    have HD := Lib.hid hD
    clear hD
    go_enter Try.func24, Try.ntmps24
    go_wp2
    go_ret
    exact ⟨ret_bool HD.out.symm, Below.refl _ _⟩

end Go.Proofs.Ytcdilmagcdbogaa

namespace Go.Proofs.Ytcdilmagcdbogaa
set_option linter.unusedVariables false
set_option linter.unusedSimpArgs false
open Go.RowKit

/-- The worlds of which F holds. -/
structure AtW (F : World → Prop) where
  val : World
  property : F val

theorem sem_value {P : Program} {w w' : World} {m : Sem Value} {n : Next} (h : (m >>= fun x => pure (Next.value x) : Sem Next).run P w = .ok n w') : ∃ v, n = .value v := by
  cases hm : m.run P w with
  | ok x w1 =>
    simp [hm, go_sem] at h
    exact ⟨_, h.1.symm⟩
  | halt x w1 => simp [hm, go_sem] at h

def plainB (o : Oper) : Bool := match o.op with
  | .move _ | .assign _ | .build _ _ | .load _ _ | .binOp _ _ _ _ _ | .unOp _ _ _ | .convert _ _ _ | .fieldAddr _ _ _ | .field _ _ _ | .indexAddr _ _ _ | .index _ _ _ | .extract _ _ => true
  | _ => false

theorem plain_value {P : Program} {ρ : Operand → Value} {o : Oper} (hp : plainB o = true) {w w' : World} {n : Next} (h : (execOp ρ o).run P w = .ok n w') : ∃ v, n = .value v := by
  unfold plainB at hp
  unfold execOp at h
  split at hp <;> rename_i e <;> try (rw [e] at h; exact sem_value h)
  · rw [e] at h
    simp [go_sem] at h
    exact ⟨_, h.1.symm⟩
  · rw [e] at h
    simp [go_sem] at h
    exact ⟨_, h.1.symm⟩
  · cases hp

section
variable {P : Program} {ops : Array Oper} {Q : Exit → Act → World → Prop} {S : World → Prop}

theorem ord_of_quiet {L : Act → World → Prop} {Q0 : Act → Prop} {r : List (Nat × Bool)} (hQ : ∀ d v c a w, Q (.panic c) (Act.put a d v) w → Q (.panic c) a w) (w : World) :
    ∀ (l : List Oper) (j : Nat) (a : Act), (∀ k o, l[k]? = some o → ops[j + k]? = some o) → l.all plainB = true → wpQuiet P ops S Q0 l a → (∀ a', Q0 a' → wpOrd P ops Q S L r a' w) →
      wpOrd P ops Q S L ((List.range' j l.length).map (fun i => (i, true)) ++ r) a w
  | [], j, a, _, _, h, hr => hr a h
  | o :: rest, j, a, hl, hp, h, hr => by
    simp only [List.all_cons, Bool.and_eq_true] at hp
    have ho : ops[j]? = some o := hl 0 o rfl
    have hl' : ∀ k o', rest[k]? = some o' → ops[j + 1 + k]? = some o' := fun k o' hk => by
      have := hl (k + 1) o' (by simpa using hk)
      rwa [show j + (k + 1) = j + 1 + k by omega] at this
    show ∃ o v, ops[j]? = some o ∧ YieldsIf P ops S o v a ∧ _ ∧ wpOrd P ops Q S L ((List.range' (j + 1) rest.length).map (fun i => (i, true)) ++ r) (a.put o.dst v) w
    unfold wpQuiet at h
    by_cases hw : Region.wanted o (yielded ops a.tmps) = true
    · rw [if_pos hw] at h
      obtain ⟨v, h1, h2⟩ := h
      refine ⟨o, v, ho, Or.inl ⟨hw, fun w1 hS => ?_⟩, fun c a w => hQ _ _ c a w, ord_of_quiet hQ w rest (j + 1) _ hl' hp.2 h2 hr⟩
      have h3 := h1 w1 hS
      unfold Oper.quietAt at h3
      cases hrun : (execOp a.eval o).run P w1 with
      | halt x w2 => rw [hrun] at h3; exact h3.elim
      | ok n w2 =>
        obtain ⟨u, rfl⟩ := plain_value hp.1 hrun
        rw [hrun] at h3
        obtain ⟨rfl, rfl⟩ := h3
        rfl
    · rw [if_neg hw] at h
      exact ⟨o, undef, ho, Or.inr ⟨by simpa using hw, rfl⟩, fun c a w => hQ _ _ c a w, ord_of_quiet hQ w rest (j + 1) _ hl' hp.2 h hr⟩

/-- A stretch of reads, walked as a quiet region is. -/
theorem ord_seg {lst : List Oper} {L : Act → World → Prop} {r : List (Nat × Bool)} {w : World} {a : Act} (j m : Nat) (hp : (decide (j + m ≤ lst.length) && ((lst.drop j).take m).all plainB) = true)
    (hQ : ∀ d v c a w, Q (.panic c) (Act.put a d v) w → Q (.panic c) a w) (h : wpQuiet P lst.toArray S (fun a' => wpOrd P lst.toArray Q S L r a' w) ((lst.drop j).take m) a) :
    wpOrd P lst.toArray Q S L ((List.range' j m).map (fun i => (i, true)) ++ r) a w := by
  simp only [Bool.and_eq_true, decide_eq_true_eq] at hp
  have hl : ((lst.drop j).take m).length = m := by simp; omega
  have := ord_of_quiet (Q := Q) (L := L) (r := r) hQ w ((lst.drop j).take m) j a (fun k o hk => by
    have hk' : k < m := by
      have := (List.getElem?_eq_some_iff.1 hk).1
      omega
    rw [List.getElem?_take_of_lt hk', List.getElem?_drop] at hk
    simpa using hk) hp.2 h (fun a' h' => h')
  rwa [hl] at this

theorem wp_region_reads {id : Nat} {a : Act} {w : World} {l : List Oper} (S : World → Prop) (n : Nat) (hm : P.follows .mixedOrders = true)
    (hB : (Region.noSelect l.toArray && decide (n + 1 < l.toArray.size) && Region.sinkB .any l.toArray (n + 1) && Region.chainB .any l.toArray (n + 1) && (l.take n).all plainB && ordB .any l.toArray (n + 1) ((List.range' 0 n).map (fun i => (i, true)) ++ [(n, false)]) (Array.replicate l.toArray.size false)) = true)
    (hQ : ∀ d v c a w, Q (.panic c) (Act.put a d v) w → Q (.panic c) a w)
    (hS : S w.drew) (h : wpQuiet P l.toArray S (fun a' => wpOp P l.toArray Q n (fun a' w' => S w' ∧ wpList P l.toArray Q (l.drop (n + 1)) a' w') a' w.drew) (l.take n) a) : (Code.region id l.toArray true).wp P Q a w := by
  simp only [Bool.and_eq_true, decide_eq_true_eq] at hB
  obtain ⟨⟨⟨⟨⟨hsel, hn⟩, hs⟩, hc⟩, hpl⟩, hord⟩ := hB
  have hn' : n + 1 < l.length := by simpa using hn
  have hlen : (l.take n).length = n := by simp; omega
  refine wp_region_ord S (n + 1) ((List.range' 0 n).map (fun i => (i, true)) ++ [(n, false)]) hm (by simp only [Bool.and_eq_true, decide_eq_true_eq]; exact ⟨⟨⟨⟨⟨hsel, hn⟩, hs⟩, hc⟩, by simp⟩, hord⟩) hS ?_
  have := ord_of_quiet (Q := Q) (L := fun a' w' => wpList P l.toArray Q (l.drop (n + 1)) a' w') (r := [(n, false)]) hQ w.drew (l.take n) 0 a (fun k o hk => by
    rw [Nat.zero_add]
    have hk' : k < n := by
      have := (List.getElem?_eq_some_iff.1 hk).1
      omega
    simpa [List.getElem?_take, hk'] using hk) hpl h (fun a' h' => h')
  rwa [hlen] at this

end

end Go.Proofs.Ytcdilmagcdbogaa

namespace Go.Proofs.Ytcdilmagcdbogaa
set_option linter.unusedVariables false
set_option linter.unusedSimpArgs false
open Go.RowKit

theorem infoSt2 : (Try.prog.info? 138).map (fun i => (i.zero, i.size, i.bytes)) = some (some (.agg #[.int .i64 0, .int .i64 0]), 2, 16) := by kernel_rfl

theorem alloc_at (W : World) (o : Obj) {n : Nat} (h : n = W.heap.size) : (W.alloc o).heap[n]? = some o := by
  subst h
  show (Array.push W.heap o)[_]? = _
  simp

/-- A pile is handed back: so many boxes, and a table. -/
def PilePost (X : List V4) (S : List V2) (m n : Nat) (w : World) (e : Ending) (w' : World) : Prop :=
  ∃ b c d f, e = .returned (.tuple #[.slice (some ⟨b, 0, none⟩) m c, .slice (some ⟨d, 0, none⟩) (n + 1) f]) ∧ LRow w' (some ⟨b, 0, none⟩) (boxesW X m) ∧ TRow w' (some ⟨d, 0, none⟩) (tabW S n) ∧ m ≤ c ∧ n + 1 ≤ f ∧ Gr w w'

def StepHeld (b xb sb so : Nat) (day keep : Int) (sv : Value) (va vb : Int) (u : World) : Prop := u.cell? ⟨b, 0, none⟩ = some (.int .i64 day) ∧ u.cell? ⟨b, 1, none⟩ = some (.int .i64 keep) ∧ u.cell? ⟨xb, 1, none⟩ = some sv ∧ u.cell? ⟨sb, so, none⟩ = some (.int .u8 va) ∧ u.cell? ⟨sb, so + 1, none⟩ = some (.int .u8 vb)

set_option maxRecDepth 100000 in
set_option maxHeartbeats 8000000 in
theorem pile_any (X : List V4) (S : List V2) (most m n : Nat) (hX : ∀ v ∈ X, B4 v) (hS : ∀ v ∈ S, B2 v) (hm : min X.length most = m) (hm2 : most ≤ 50) (hn : min S.length 6 = n) (xa sa : Option Addr) (xc sc : Nat) (w : World) (rx : Row4 w xa X) (rs : Row2 w sa S) :
    Calls Try.prog 54 #[.agg #[.slice xa X.length xc, .slice sa S.length sc], .int .i64 (most : Int)] w (PilePost X S m n w) := by
  have gg := Gr.al w (.cells #[.slice xa X.length xc, .slice sa S.length sc] 105)
  have hx := Box.new w [.slice xa X.length xc, .slice sa S.length sc] 105 w.heap.size rfl
  have HX := Lib.hid hX
  have HS := Lib.hid hS
  clear hX hS
  go_enter Try.func54, Try.ntmps54

  go_upto_region 1 with fail
  refine wp_abs (fun U => Gr w U ∧ Box U w.heap.size [.slice xa X.length xc, .slice sa S.length sc]) ⟨gg, hx⟩ ?_
  clear gg hx
  rintro U ⟨gg, hx⟩
  obtain ⟨p0, p1⟩ := hx.c2
  go_upto_region 2 with fail
  have oA := owns_keep (owns_empty U 70 4) (Gr.al _ (.cells #[.int .i64 0, .int .i64 1000] 138))
  have oK : ((U.alloc (.cells #[] 70)).alloc (.cells #[.int .i64 0, .int .i64 1000] 138)).ownsRow U.heap.size 138 2 (.slice (some ⟨U.heap.size + 1, 0, none⟩) 1 1) 1 ((tabW S 0).flatMap encT) := ⟨rfl, .inr ⟨U.heap.size + 1, 1, #[.int .i64 0, .int .i64 1000], rfl, by omega, alloc_at _ _ (by simp), by omega, by decide, rfl, rfl⟩⟩
  have gU := (Gr.al U (.cells #[] 70)).tr (Gr.al _ (.cells #[.int .i64 0, .int .i64 1000] 138))
  obtain ⟨B0, hB0⟩ : ∃ B0, B0 = U.heap.size := ⟨_, rfl⟩
  have hB1 : U.heap.size ≤ B0 ∧ B0 ≤ U.heap.size := by omega
  rw [← hB0] at oA oK ⊢
  clear hB0 p0 p1
  obtain ⟨i0, hi, hz0, hz1, hz2⟩ := info_parts infoLd
  obtain ⟨i1, hj, hy0, hy1, hy2⟩ := info_parts infoSt2
  refine wp_abs (fun V => Gr U V ∧ V.ownsRow B0 70 4 (.slice (some ⟨B0, 0, none⟩) 0 0) 0 [] ∧ V.ownsRow B0 138 2 (.slice (some ⟨B0 + 1, 0, none⟩) 1 1) 1 ((tabW S 0).flatMap encT) ∧ B0 + 2 ≤ V.heap.size) ⟨gU, oA, oK, (by simp; omega)⟩ ?_
  clear gU oA oK
  rintro V ⟨gU, oA, oK, hsz⟩
  go_wp2
  go_loopw [8, 6] (fun i s wr => Hid (∃ k g cap : Nat, k ≤ m ∧ i = .int .i64 k ∧ s = .slice (some ⟨g, 0, none⟩) k cap ∧ g ≠ B0 + 1 ∧ Gr U wr ∧ B0 + 2 ≤ wr.heap.size ∧ wr.ownsRow B0 70 4 (.slice (some ⟨g, 0, none⟩) k cap) k ((boxesW X k).flatMap encL) ∧ wr.ownsRow B0 138 2 (.slice (some ⟨B0 + 1, 0, none⟩) 1 1) 1 ((tabW S 0).flatMap encT))) (fun i _ _ => m - (intOf i).toNat)
  case atStart => exact Lib.hid ⟨0, B0, 0, by omega, rfl, rfl, by omega, gU, hsz, (by simpa [boxesW] using oA), oK⟩
  case round =>
    clear gU oA oK hsz
    obtain ⟨k, g, cap, hk, rfl, rfl, hg, gW, hsz, oA, oK⟩ := hrel.out
    clear hrel
    by_cases hlt : k < m
    · have c1 : k < X.length := by omega
      have c2 : k < most := by omega
      obtain ⟨v, hv⟩ : ∃ v, X[k]? = some v := ⟨X[k], by simp [c1]⟩
      obtain ⟨⟨a0, a1⟩, ⟨b0, b1⟩, ⟨e0, e1⟩, d0, d1⟩ := HX.out v (List.mem_of_getElem? hv)
      obtain ⟨xb, xo, rfl, hxb, y0, y1, y2, y3⟩ := Row4.get (rx.grow (gg.tr gW)) hv
      obtain ⟨p0, p1⟩ := (hx.keep gW).c2
      have HB := Lib.hid (boxesW_succ hv)
      obtain ⟨va, vb, vc, vd⟩ := v
      dsimp only at a0 a1 b0 b1 e0 e1 d0 d1 y0 y1 y2 y3
      clear hv
      have w0 : IntKind.i64.wrap va = va := IntWalk.i64_in _ (by omega)
      have w1 : IntKind.i64.wrap vb = vb := IntWalk.i64_in _ (by omega)
      have w2 : IntKind.i64.wrap vc = vc := IntWalk.i64_in _ (by omega)
      have w3 : IntKind.i64.wrap vd = vd := IntWalk.i64_in _ (by omega)
      have w4 : IntKind.i64.wrap (4 * va) = 4 * va := IntWalk.i64_in _ (by omega)
      have z0 : vb.tmod 50 = vb % 50 := Int.tmod_eq_emod_of_nonneg b0
      have z1 : vd.tmod 30 = vd % 30 := Int.tmod_eq_emod_of_nonneg d0
      have w5 : IntKind.i64.wrap (vb % 50) = vb % 50 := IntWalk.i64_in _ (by omega)
      have w6 : IntKind.i64.wrap (vd % 30) = vd % 30 := IntWalk.i64_in _ (by omega)
      have w7 : IntKind.i64.wrap (4 * va + vb % 50) = 4 * va + vb % 50 := IntWalk.i64_in _ (by omega)
      have w8 : IntKind.i64.wrap (vc + vd % 30) = vc + vd % 30 := IntWalk.i64_in _ (by omega)
      have k1 : k + 1 ≤ maxLen := by unfold maxLen; omega
      have k2 : (k + 1) * 32 ≤ 140737488355328 := by omega
      go_upto_region 6 with fail
      refine wp_abs (fun Z => Gr wr Z ∧ Box Z wr.heap.size [.int .u8 va, .int .u8 vb, .int .u8 vc, .int .u8 vd]) ⟨Gr.al wr _, Box.new wr [.int .u8 va, .int .u8 vb, .int .u8 vc, .int .u8 vd] 80 wr.heap.size rfl⟩ ?_
      clear p0 p1 y0 y1 y2 y3
      rintro Z ⟨gZ, hb⟩
      obtain ⟨y0, y1, y2, y3⟩ := hb.c4
      go_wp2_with (first
        | (go_at_call 59; refine (load_any (4 * va) (4 * va + vb % 50) vc (vc + vd % 30) _).mono ?_; rintro e wl ⟨rfl, gl⟩; have gJ := gZ.tr gl)
        | (at_builtin; refine wpList_append_lies _ rfl _ _ 53 rfl B0 70 i0 _ 4 32 Try.underlying53 hi hz0 hz1 hz2 rfl (by decide) (.slice (some ⟨g, 0, none⟩) k cap) k _ rfl (owns_keep oA (gJ.tr (Gr.al wl (.cells #[.int .i64 (4 * va), .int .i64 (4 * va + vb % 50), .int .i64 vc, .int .i64 (vc + vd % 30)] 70)))) ⟨wl.heap.size, 0, none⟩ 1 1 ([4 * va, 4 * va + vb % 50, vc, vc + vd % 30].map (fun n => Value.int .i64 n)) rfl rfl (cell_news _ _ _) (ints_one _) (by omega) k1 k2 (by have := (gJ.tr (Gr.al wl (.cells #[.int .i64 (4 * va), .int .i64 (4 * va + vb % 50), .int .i64 vc, .int .i64 (vc + vd % 30)] 70))).size; omega) _ rfl ?_; intro g2 cap2 Y hA2 hgr hat hlt2))
      go_roundw
      case rel =>
        have gN := gJ.tr (Gr.al wl (.cells #[.int .i64 (4 * va), .int .i64 (4 * va + vb % 50), .int .i64 vc, .int .i64 (vc + vd % 30)] 70))
        have gY := (gW.tr gN).grown' (owns_keep oA gN) (by omega) hgr
        have hne : g2 ≠ B0 + 1 := by
          rcases hat with h | h
          · simp only [Value.ownBlock, Option.some.injEq] at h
            omega
          · have := gN.size
            omega
        have oK2 := (owns_keep oK gN).kept hgr (.inr (by simp only [Value.ownBlock, ne_eq, Option.some.injEq]; omega))
        exact Lib.hid ⟨k + 1, g2, cap2, by omega, by go_num, rfl, hne, gY, by have := hgr.size; have := gN.size; omega, (by rw [HB.out, flat_snoc]; exact hA2), oK2⟩
      case measure => simp [intOf]; omega
    · obtain rfl : m = k := by omega
      clear hlt hk
      obtain ⟨p0, p1⟩ := (hx.keep gW).c2
      by_cases c1 : m < X.length
      · have c2 : decide ((m : Int) < (most : Int)) = false := by simp; omega
        go_wp2
        go_loopw [10, 7] (fun i s wr => Hid (∃ k h cp : Nat, k ≤ n ∧ i = .int .i64 k ∧ s = .slice (some ⟨h, 0, none⟩) (k + 1) cp ∧ h ≠ g ∧ Gr U wr ∧ wr.ownsRow B0 70 4 (.slice (some ⟨g, 0, none⟩) m cap) m ((boxesW X m).flatMap encL) ∧ wr.ownsRow B0 138 2 (.slice (some ⟨h, 0, none⟩) (k + 1) cp) (k + 1) ((tabW S k).flatMap encT))) (fun i _ _ => n - (intOf i).toNat)
        case atStart => exact Lib.hid ⟨0, B0 + 1, 1, by omega, rfl, rfl, by omega, gW, oA, oK⟩
        case round =>
          clear gW oA oK hg hsz p0 p1
          obtain ⟨k, h, cp, hk, rfl, rfl, hg, gW, oA, oK⟩ := hrel.out
          clear hrel
          obtain ⟨p0, p1⟩ := (hx.keep gW).c2
          by_cases hlt : k < n
          · have c3 : k < S.length := by omega
            have c4 : decide ((k : Int) < 6) = true := by simp; omega
            obtain ⟨v, hv⟩ : ∃ v, S[k]? = some v := ⟨S[k], by simp [c3]⟩
            have hlt2 : lotT S k = v := by unfold lotT; rw [hv]
            obtain ⟨⟨a0, a1⟩, b0, b1⟩ := HS.out v (List.mem_of_getElem? hv)
            obtain ⟨sb, sof, rfl, hsb, v0, v1⟩ := Row2.get (rs.grow gg) hv
            have y0 := gW.keep v0
            have y1 := gW.keep v1
            obtain ⟨d0, d1, e0, e1⟩ := stepW_bd HS.out k
            obtain ⟨dy, kp, hst⟩ : ∃ d q, stepW S k = ⟨d, q⟩ := ⟨_, _, rfl⟩
            have hnx : stepW S (k + 1) = nextW (stepW S k) (lotT S k) := rfl
            rw [hst, hlt2] at hnx
            rw [hst] at d0 d1 e0 e1
            obtain ⟨va, vb⟩ := v
            dsimp only at a0 a1 b0 b1 v0 v1 y0 y1 d0 d1 e0 e1
            have hat0 := tabW_at (S := S) (Nat.le_refl k)
            rw [hst] at hat0
            obtain ⟨ra, rc, hva, tr⟩ := owns_row (enc := encT) (l := tabW S k) (fun _ => rfl) (by rw [tabW_len]; omega) (by rw [tabW_len]; exact oK)
            injection hva with f1 f2 f3
            subst f1
            obtain ⟨b2, o2, f4, _, u0, u1⟩ := TRow.get tr hat0
            injection f4 with f4
            injection f4 with f5 f6 _
            subst f5
            subst f6
            simp only [Nat.zero_add] at u0 u1
            have HN := Lib.hid hnx
            clear hv hlt2 hst hnx hat0 tr f2 f3
            have w0 : IntKind.i64.wrap va = va := IntWalk.i64_in _ (by omega)
            have w1 : IntKind.i64.wrap vb = vb := IntWalk.i64_in _ (by omega)
            have w2 : IntKind.i64.wrap ((k : Int) + 1 - 1) = (k : Int) := by rw [IntWalk.i64_in _ (by omega)]; omega
            have w2' : IntKind.i64.wrap (((k + 1 : Nat) : Int) - 1) = (k : Int) := by rw [IntWalk.i64_in _ (by omega)]; omega
            have w3 : IntKind.i64.wrap (dy + 1) = dy + 1 := IntWalk.i64_in _ (by omega)
            have z0 : va.tmod 60 = va % 60 := Int.tmod_eq_emod_of_nonneg a0
            have w4 : IntKind.i64.wrap (va % 60) = va % 60 := IntWalk.i64_in _ (by omega)
            have w5 : IntKind.i64.wrap (dy + 1 + va % 60) = dy + 1 + va % 60 := IntWalk.i64_in _ (by omega)
            have z1 : vb.tdiv 3 = vb / 3 := Int.tdiv_eq_ediv_of_nonneg b0
            have w6 : IntKind.i64.wrap (vb / 3) = vb / 3 := IntWalk.i64_in _ (by omega)
            have w7 : IntKind.i64.wrap (255 - vb / 3) = 255 - vb / 3 := IntWalk.i64_in _ (by omega)
            have m0 : 0 ≤ kp * (255 - vb / 3) := Int.mul_nonneg e0 (by omega)
            have m1 : kp * (255 - vb / 3) ≤ 1000 * 255 := Int.mul_le_mul e1 (by omega) (by omega) (by omega)
            have w8 : IntKind.i64.wrap (kp * (255 - vb / 3)) = kp * (255 - vb / 3) := IntWalk.i64_in _ (by omega)
            have z2 : (kp * (255 - vb / 3)).tdiv 255 = kp * (255 - vb / 3) / 255 := Int.tdiv_eq_ediv_of_nonneg m0
            have w9 : IntKind.i64.wrap (kp * (255 - vb / 3) / 255) = kp * (255 - vb / 3) / 255 := IntWalk.i64_in _ (by omega)
            have k1 : k + 1 + 1 ≤ maxLen := by unfold maxLen; omega
            have k2 : (k + 1 + 1) * 16 ≤ 140737488355328 := by omega
            go_upto_region 11 with fail
            refine wp_abs (fun Z => Gr wr Z ∧ Box Z wr.heap.size [.int .i64 dy, .int .i64 kp]) ⟨Gr.al wr _, Box.new wr [.int .i64 dy, .int .i64 kp] 138 wr.heap.size rfl⟩ ?_
            rintro Z ⟨gZ, hb⟩
            have hheld : ∀ W, Gr Z W → StepHeld wr.heap.size w.heap.size sb (sof + k * 2) dy kp (.slice (some ⟨sb, sof, none⟩) S.length sc) va vb W := fun W g => ⟨(hb.keep g).2 0 _ rfl, (hb.keep g).2 1 _ rfl, ((gZ.tr g)).keep p1, ((gZ.tr g)).keep y0, ((gZ.tr g)).keep y1⟩
            have hF := hheld _ (Gr.dr Z)
            haveI : Nonempty (AtW (StepHeld wr.heap.size w.heap.size sb (sof + k * 2) dy kp (.slice (some ⟨sb, sof, none⟩) S.length sc) va vb)) := ⟨⟨_, hF⟩⟩
            have x0_ : ∀ u : AtW (StepHeld wr.heap.size w.heap.size sb (sof + k * 2) dy kp (.slice (some ⟨sb, sof, none⟩) S.length sc) va vb), u.val.cell? ⟨wr.heap.size, 0, none⟩ = some (.int .i64 dy) := fun u => u.property.1
            have x1_ : ∀ u : AtW (StepHeld wr.heap.size w.heap.size sb (sof + k * 2) dy kp (.slice (some ⟨sb, sof, none⟩) S.length sc) va vb), u.val.cell? ⟨wr.heap.size, 1, none⟩ = some (.int .i64 kp) := fun u => u.property.2.1
            have x2_ : ∀ u : AtW (StepHeld wr.heap.size w.heap.size sb (sof + k * 2) dy kp (.slice (some ⟨sb, sof, none⟩) S.length sc) va vb), u.val.cell? ⟨w.heap.size, 1, none⟩ = some (.slice (some ⟨sb, sof, none⟩) S.length sc) := fun u => u.property.2.2.1
            have x3_ : ∀ u : AtW (StepHeld wr.heap.size w.heap.size sb (sof + k * 2) dy kp (.slice (some ⟨sb, sof, none⟩) S.length sc) va vb), u.val.cell? ⟨sb, sof + k * 2, none⟩ = some (.int .u8 va) := fun u => u.property.2.2.2.1
            have x4_ : ∀ u : AtW (StepHeld wr.heap.size w.heap.size sb (sof + k * 2) dy kp (.slice (some ⟨sb, sof, none⟩) S.length sc) va vb), u.val.cell? ⟨sb, sof + k * 2 + 1, none⟩ = some (.int .u8 vb) := fun u => u.property.2.2.2.2
            refine wp_region_ord (fun w' => ∃ u : AtW (StepHeld wr.heap.size w.heap.size sb (sof + k * 2) dy kp (.slice (some ⟨sb, sof, none⟩) S.length sc) va vb), w' = u.val) 29 ((List.range' 0 27).map (fun i => (i, true)) ++ [(27, false), (28, false)]) (by kernel_rfl) (by kernel_rfl) ⟨⟨_, hF⟩, rfl⟩ ?_
            refine ord_seg 0 27 (by kernel_rfl) (fun d _ _ _ _ h => by cases d <;> exact h) ?_
            simp only [List.drop_zero, List.take_succ_cons, List.take_zero]
            repeat (go_big_quiet_step (fail))
            refine wpQuiet_nil ?_
            clear x0_ x1_ x2_ x3_ x4_
            refine wpOp_step rfl (fun K' hK => ?_)
            go_simp
            have gB := (Gr.al Z (.cells #[.int .i64 (dy + 1 + va % 60), .int .i64 (kp * (255 - vb / 3) / 255)] 138)).tr (Gr.dr _)
            refine hK _ _ ⟨⟨⟨_, hheld _ gB⟩, rfl⟩, ?_⟩
            clear hK
            refine wpOp_step rfl (fun K' hK => ?_)
            refine step_append_lies _ (by rfl) _ _ 54 (by rfl) B0 138 i1 _ 2 16 Try.underlying54 hj hy0 hy1 hy2 rfl (by decide) (.slice (some ⟨h, 0, none⟩) (k + 1) cp) (k + 1) _ (by rfl) (owns_keep oK (gZ.tr gB)) ⟨Z.heap.size, 0, none⟩ 1 1 ([dy + 1 + va % 60, kp * (255 - vb / 3) / 255].map (fun n => Value.int .i64 n)) (by rfl) (by rfl) (cell_news _ _ _) (ints_one _) (by omega) k1 k2 ?_ _ rfl ?_
            · have := (gW.tr (gZ.tr gB)).size
              omega
            intro h2 cap4 W4 hR4 hgr4 hat4 hlt4
            have gY := (gW.tr (gZ.tr gB)).grown' (owns_keep oK (gZ.tr gB)) (by omega) hgr4
            have hbd := (oA.lt g rfl).2
            have hne : h2 ≠ g := by
              rcases hat4 with q | q
              · simp only [Value.ownBlock, Option.some.injEq] at q
                omega
              · have := (gZ.tr gB).size
                omega
            have oA2 := (owns_keep oA (gZ.tr gB)).kept hgr4 (.inr (by simp only [Value.ownBlock, ne_eq, Option.some.injEq]; omega))
            have hblk : ∀ q, (Value.slice (some ⟨h, 0, none⟩) (k + 1) cp).ownBlock = some q → q = h := fun q e => by simp only [Value.ownBlock, Option.some.injEq] at e; exact e.symm
            have hhB : B0 ≤ h := (oK.lt h rfl).1
            have hh2 : h < wr.heap.size := (oK.lt h rfl).2
            have hb4 := (hb.keep gB).grown hgr4 (fun r hr => by have := hblk r hr; omega)
            refine hK _ _ ⟨⟨⟨_, hb4.2 0 _ rfl, hb4.2 1 _ rfl, (hx.keep gY).2 1 _ rfl, gY.keep v0, gY.keep v1⟩, rfl⟩, ?_⟩
            clear hK hgr4 hat4 hb4
            show wpList _ _ _ (List.drop 29 _) _ _
            simp only [List.drop_succ_cons, List.drop_zero]
            clear w0 w1 w2 w2' w3 w4 w5 w6 w7 w8 w9 z0 z1 z2 m0 m1
            go_wp2
            go_roundw
            case rel =>
              have hR5 : W4.ownsRow B0 138 2 (.slice (some ⟨h2, 0, none⟩) (k + 1 + 1) cap4) (k + 1 + 1) ((tabW S (k + 1)).flatMap encT) := by
                rw [tabW_succ, HN.out, flat_snoc]
                exact hR4
              first | exact Lib.hid ⟨k + 1, h2, cap4, by omega, by go_num, rfl, hne, gY, oA2, hR5⟩ | exact Lib.hid ⟨k + 1, by omega, by go_num, h2, cap4, ⟨rfl, rfl, rfl⟩, hne, hR5⟩
            case measure => simp [intOf]; omega
          · obtain rfl : n = k := by omega
            clear hlt hk
            obtain ⟨ra, rc, hva, rA, _, hcA⟩ := owns_row_cap (enc := encL) (l := boxesW X m) (fun _ => rfl) (by rw [boxesW_len (by omega)]; omega) (by rw [boxesW_len (by omega)]; exact oA)
            obtain ⟨rb, rd, hvb, rK, _, hcK⟩ := owns_row_cap (enc := encT) (l := tabW S n) (fun _ => rfl) (by rw [tabW_len]; omega) (by rw [tabW_len]; exact oK)
            rw [boxesW_len (by omega)] at hva hcA
            rw [tabW_len] at hvb hcK
            injection hva with f1 f2 f3
            subst f1
            subst f3
            injection hvb with f4 f5 f6
            subst f4
            subst f6
            clear f2 f5 oA oK
            by_cases c3 : n < S.length
            · have c4 : decide ((n : Int) < 6) = false := by simp; omega
              go_wp2
              go_ret2
              exact ⟨g, cap, h, cp, rfl, rA, rK, hcA, hcK, gg.tr gW⟩
            · go_wp2
              go_ret2
              exact ⟨g, cap, h, cp, rfl, rA, rK, hcA, hcK, gg.tr gW⟩
      · have c1d : decide ((m : Int) < (X.length : Int)) = false := by simp; omega
        go_wp2
        go_loopw [10, 7] (fun i s wr => Hid (∃ k h cp : Nat, k ≤ n ∧ i = .int .i64 k ∧ s = .slice (some ⟨h, 0, none⟩) (k + 1) cp ∧ h ≠ g ∧ Gr U wr ∧ wr.ownsRow B0 70 4 (.slice (some ⟨g, 0, none⟩) m cap) m ((boxesW X m).flatMap encL) ∧ wr.ownsRow B0 138 2 (.slice (some ⟨h, 0, none⟩) (k + 1) cp) (k + 1) ((tabW S k).flatMap encT))) (fun i _ _ => n - (intOf i).toNat)
        case atStart => exact Lib.hid ⟨0, B0 + 1, 1, by omega, rfl, rfl, by omega, gW, oA, oK⟩
        case round =>
          clear gW oA oK hg hsz p0 p1
          obtain ⟨k, h, cp, hk, rfl, rfl, hg, gW, oA, oK⟩ := hrel.out
          clear hrel
          obtain ⟨p0, p1⟩ := (hx.keep gW).c2
          by_cases hlt : k < n
          · have c3 : k < S.length := by omega
            have c4 : decide ((k : Int) < 6) = true := by simp; omega
            obtain ⟨v, hv⟩ : ∃ v, S[k]? = some v := ⟨S[k], by simp [c3]⟩
            have hlt2 : lotT S k = v := by unfold lotT; rw [hv]
            obtain ⟨⟨a0, a1⟩, b0, b1⟩ := HS.out v (List.mem_of_getElem? hv)
            obtain ⟨sb, sof, rfl, hsb, v0, v1⟩ := Row2.get (rs.grow gg) hv
            have y0 := gW.keep v0
            have y1 := gW.keep v1
            obtain ⟨d0, d1, e0, e1⟩ := stepW_bd HS.out k
            obtain ⟨dy, kp, hst⟩ : ∃ d q, stepW S k = ⟨d, q⟩ := ⟨_, _, rfl⟩
            have hnx : stepW S (k + 1) = nextW (stepW S k) (lotT S k) := rfl
            rw [hst, hlt2] at hnx
            rw [hst] at d0 d1 e0 e1
            obtain ⟨va, vb⟩ := v
            dsimp only at a0 a1 b0 b1 v0 v1 y0 y1 d0 d1 e0 e1
            have hat0 := tabW_at (S := S) (Nat.le_refl k)
            rw [hst] at hat0
            obtain ⟨ra, rc, hva, tr⟩ := owns_row (enc := encT) (l := tabW S k) (fun _ => rfl) (by rw [tabW_len]; omega) (by rw [tabW_len]; exact oK)
            injection hva with f1 f2 f3
            subst f1
            obtain ⟨b2, o2, f4, _, u0, u1⟩ := TRow.get tr hat0
            injection f4 with f4
            injection f4 with f5 f6 _
            subst f5
            subst f6
            simp only [Nat.zero_add] at u0 u1
            have HN := Lib.hid hnx
            clear hv hlt2 hst hnx hat0 tr f2 f3
            have w0 : IntKind.i64.wrap va = va := IntWalk.i64_in _ (by omega)
            have w1 : IntKind.i64.wrap vb = vb := IntWalk.i64_in _ (by omega)
            have w2 : IntKind.i64.wrap ((k : Int) + 1 - 1) = (k : Int) := by rw [IntWalk.i64_in _ (by omega)]; omega
            have w2' : IntKind.i64.wrap (((k + 1 : Nat) : Int) - 1) = (k : Int) := by rw [IntWalk.i64_in _ (by omega)]; omega
            have w3 : IntKind.i64.wrap (dy + 1) = dy + 1 := IntWalk.i64_in _ (by omega)
            have z0 : va.tmod 60 = va % 60 := Int.tmod_eq_emod_of_nonneg a0
            have w4 : IntKind.i64.wrap (va % 60) = va % 60 := IntWalk.i64_in _ (by omega)
            have w5 : IntKind.i64.wrap (dy + 1 + va % 60) = dy + 1 + va % 60 := IntWalk.i64_in _ (by omega)
            have z1 : vb.tdiv 3 = vb / 3 := Int.tdiv_eq_ediv_of_nonneg b0
            have w6 : IntKind.i64.wrap (vb / 3) = vb / 3 := IntWalk.i64_in _ (by omega)
            have w7 : IntKind.i64.wrap (255 - vb / 3) = 255 - vb / 3 := IntWalk.i64_in _ (by omega)
            have m0 : 0 ≤ kp * (255 - vb / 3) := Int.mul_nonneg e0 (by omega)
            have m1 : kp * (255 - vb / 3) ≤ 1000 * 255 := Int.mul_le_mul e1 (by omega) (by omega) (by omega)
            have w8 : IntKind.i64.wrap (kp * (255 - vb / 3)) = kp * (255 - vb / 3) := IntWalk.i64_in _ (by omega)
            have z2 : (kp * (255 - vb / 3)).tdiv 255 = kp * (255 - vb / 3) / 255 := Int.tdiv_eq_ediv_of_nonneg m0
            have w9 : IntKind.i64.wrap (kp * (255 - vb / 3) / 255) = kp * (255 - vb / 3) / 255 := IntWalk.i64_in _ (by omega)
            have k1 : k + 1 + 1 ≤ maxLen := by unfold maxLen; omega
            have k2 : (k + 1 + 1) * 16 ≤ 140737488355328 := by omega
            go_upto_region 11 with fail
            refine wp_abs (fun Z => Gr wr Z ∧ Box Z wr.heap.size [.int .i64 dy, .int .i64 kp]) ⟨Gr.al wr _, Box.new wr [.int .i64 dy, .int .i64 kp] 138 wr.heap.size rfl⟩ ?_
            rintro Z ⟨gZ, hb⟩
            have hheld : ∀ W, Gr Z W → StepHeld wr.heap.size w.heap.size sb (sof + k * 2) dy kp (.slice (some ⟨sb, sof, none⟩) S.length sc) va vb W := fun W g => ⟨(hb.keep g).2 0 _ rfl, (hb.keep g).2 1 _ rfl, ((gZ.tr g)).keep p1, ((gZ.tr g)).keep y0, ((gZ.tr g)).keep y1⟩
            have hF := hheld _ (Gr.dr Z)
            haveI : Nonempty (AtW (StepHeld wr.heap.size w.heap.size sb (sof + k * 2) dy kp (.slice (some ⟨sb, sof, none⟩) S.length sc) va vb)) := ⟨⟨_, hF⟩⟩
            have x0_ : ∀ u : AtW (StepHeld wr.heap.size w.heap.size sb (sof + k * 2) dy kp (.slice (some ⟨sb, sof, none⟩) S.length sc) va vb), u.val.cell? ⟨wr.heap.size, 0, none⟩ = some (.int .i64 dy) := fun u => u.property.1
            have x1_ : ∀ u : AtW (StepHeld wr.heap.size w.heap.size sb (sof + k * 2) dy kp (.slice (some ⟨sb, sof, none⟩) S.length sc) va vb), u.val.cell? ⟨wr.heap.size, 1, none⟩ = some (.int .i64 kp) := fun u => u.property.2.1
            have x2_ : ∀ u : AtW (StepHeld wr.heap.size w.heap.size sb (sof + k * 2) dy kp (.slice (some ⟨sb, sof, none⟩) S.length sc) va vb), u.val.cell? ⟨w.heap.size, 1, none⟩ = some (.slice (some ⟨sb, sof, none⟩) S.length sc) := fun u => u.property.2.2.1
            have x3_ : ∀ u : AtW (StepHeld wr.heap.size w.heap.size sb (sof + k * 2) dy kp (.slice (some ⟨sb, sof, none⟩) S.length sc) va vb), u.val.cell? ⟨sb, sof + k * 2, none⟩ = some (.int .u8 va) := fun u => u.property.2.2.2.1
            have x4_ : ∀ u : AtW (StepHeld wr.heap.size w.heap.size sb (sof + k * 2) dy kp (.slice (some ⟨sb, sof, none⟩) S.length sc) va vb), u.val.cell? ⟨sb, sof + k * 2 + 1, none⟩ = some (.int .u8 vb) := fun u => u.property.2.2.2.2
            refine wp_region_ord (fun w' => ∃ u : AtW (StepHeld wr.heap.size w.heap.size sb (sof + k * 2) dy kp (.slice (some ⟨sb, sof, none⟩) S.length sc) va vb), w' = u.val) 29 ((List.range' 0 27).map (fun i => (i, true)) ++ [(27, false), (28, false)]) (by kernel_rfl) (by kernel_rfl) ⟨⟨_, hF⟩, rfl⟩ ?_
            refine ord_seg 0 27 (by kernel_rfl) (fun d _ _ _ _ h => by cases d <;> exact h) ?_
            simp only [List.drop_zero, List.take_succ_cons, List.take_zero]
            repeat (go_big_quiet_step (fail))
            refine wpQuiet_nil ?_
            clear x0_ x1_ x2_ x3_ x4_
            refine wpOp_step rfl (fun K' hK => ?_)
            go_simp
            have gB := (Gr.al Z (.cells #[.int .i64 (dy + 1 + va % 60), .int .i64 (kp * (255 - vb / 3) / 255)] 138)).tr (Gr.dr _)
            refine hK _ _ ⟨⟨⟨_, hheld _ gB⟩, rfl⟩, ?_⟩
            clear hK
            refine wpOp_step rfl (fun K' hK => ?_)
            refine step_append_lies _ (by rfl) _ _ 54 (by rfl) B0 138 i1 _ 2 16 Try.underlying54 hj hy0 hy1 hy2 rfl (by decide) (.slice (some ⟨h, 0, none⟩) (k + 1) cp) (k + 1) _ (by rfl) (owns_keep oK (gZ.tr gB)) ⟨Z.heap.size, 0, none⟩ 1 1 ([dy + 1 + va % 60, kp * (255 - vb / 3) / 255].map (fun n => Value.int .i64 n)) (by rfl) (by rfl) (cell_news _ _ _) (ints_one _) (by omega) k1 k2 ?_ _ rfl ?_
            · have := (gW.tr (gZ.tr gB)).size
              omega
            intro h2 cap4 W4 hR4 hgr4 hat4 hlt4
            have gY := (gW.tr (gZ.tr gB)).grown' (owns_keep oK (gZ.tr gB)) (by omega) hgr4
            have hbd := (oA.lt g rfl).2
            have hne : h2 ≠ g := by
              rcases hat4 with q | q
              · simp only [Value.ownBlock, Option.some.injEq] at q
                omega
              · have := (gZ.tr gB).size
                omega
            have oA2 := (owns_keep oA (gZ.tr gB)).kept hgr4 (.inr (by simp only [Value.ownBlock, ne_eq, Option.some.injEq]; omega))
            have hblk : ∀ q, (Value.slice (some ⟨h, 0, none⟩) (k + 1) cp).ownBlock = some q → q = h := fun q e => by simp only [Value.ownBlock, Option.some.injEq] at e; exact e.symm
            have hhB : B0 ≤ h := (oK.lt h rfl).1
            have hh2 : h < wr.heap.size := (oK.lt h rfl).2
            have hb4 := (hb.keep gB).grown hgr4 (fun r hr => by have := hblk r hr; omega)
            refine hK _ _ ⟨⟨⟨_, hb4.2 0 _ rfl, hb4.2 1 _ rfl, (hx.keep gY).2 1 _ rfl, gY.keep v0, gY.keep v1⟩, rfl⟩, ?_⟩
            clear hK hgr4 hat4 hb4
            show wpList _ _ _ (List.drop 29 _) _ _
            simp only [List.drop_succ_cons, List.drop_zero]
            clear w0 w1 w2 w2' w3 w4 w5 w6 w7 w8 w9 z0 z1 z2 m0 m1
            go_wp2
            go_roundw
            case rel =>
              have hR5 : W4.ownsRow B0 138 2 (.slice (some ⟨h2, 0, none⟩) (k + 1 + 1) cap4) (k + 1 + 1) ((tabW S (k + 1)).flatMap encT) := by
                rw [tabW_succ, HN.out, flat_snoc]
                exact hR4
              first | exact Lib.hid ⟨k + 1, h2, cap4, by omega, by go_num, rfl, hne, gY, oA2, hR5⟩ | exact Lib.hid ⟨k + 1, by omega, by go_num, h2, cap4, ⟨rfl, rfl, rfl⟩, hne, hR5⟩
            case measure => simp [intOf]; omega
          · obtain rfl : n = k := by omega
            clear hlt hk
            obtain ⟨ra, rc, hva, rA, _, hcA⟩ := owns_row_cap (enc := encL) (l := boxesW X m) (fun _ => rfl) (by rw [boxesW_len (by omega)]; omega) (by rw [boxesW_len (by omega)]; exact oA)
            obtain ⟨rb, rd, hvb, rK, _, hcK⟩ := owns_row_cap (enc := encT) (l := tabW S n) (fun _ => rfl) (by rw [tabW_len]; omega) (by rw [tabW_len]; exact oK)
            rw [boxesW_len (by omega)] at hva hcA
            rw [tabW_len] at hvb hcK
            injection hva with f1 f2 f3
            subst f1
            subst f3
            injection hvb with f4 f5 f6
            subst f4
            subst f6
            clear f2 f5 oA oK
            by_cases c3 : n < S.length
            · have c4 : decide ((n : Int) < 6) = false := by simp; omega
              go_wp2
              go_ret2
              exact ⟨g, cap, h, cp, rfl, rA, rK, hcA, hcK, gg.tr gW⟩
            · go_wp2
              go_ret2
              exact ⟨g, cap, h, cp, rfl, rA, rK, hcA, hcK, gg.tr gW⟩

end Go.Proofs.Ytcdilmagcdbogaa

namespace Go.Proofs.Ytcdilmagcdbogaa
set_option linter.unusedVariables false
set_option linter.unusedSimpArgs false
open Go.RowKit

set_option maxRecDepth 100000 in
set_option maxHeartbeats 400000 in
/-- A copy of boxes. -/
theorem lboxes_any (l : List Ld) (hl : l.length ≤ 1000) (b off cap : Nat) (w : World) (hr : LRow w (some ⟨b, off, none⟩) l) :
    Calls Try.prog 35 #[.slice (some ⟨b, off, none⟩) l.length cap] w fun e w' => ∃ v, e = .returned v ∧ w'.ownsRow w.heap.size 70 4 v l.length (l.flatMap encL) ∧ Gr w w' := by
  obtain ⟨i0, hi, hz0, hz1, hz2⟩ := info_parts infoLd
  have hr1 := hr.grow (Gr.al w (.cells #[] 70))
  have h1 : 0 + l.length ≤ maxLen := by unfold maxLen; omega
  have h2 : (0 + l.length) * 32 ≤ 140737488355328 := by omega
  have hfl := flat_len (enc := encL) (sz := 4) (fun _ => rfl) l
  have hnews := row_news (enc := encL) (sz := 4) (fun _ => rfl) hr1
  have Hfl := Lib.hid hfl
  have Hnews := Lib.hid hnews
  clear hfl hnews
  go_enter Try.func35, Try.ntmps35
  go_wp2_with (at_builtin; refine wpList_append_own _ rfl _ _ 53 rfl w.heap.size 70 i0 _ 4 32 Try.underlying53 hi hz0 hz1 hz2 rfl (by decide) _ _ _ rfl (owns_empty w _ _) ⟨b, off, none⟩ l.length cap (l.flatMap encL) rfl Hfl.out Hnews.out (one_flat (fun x u hu => by simp [encL] at hu; rcases hu with rfl | rfl | rfl | rfl <;> rfl) l) h1 h2 (by simp) ?_; intro v' w1 hown hgrow _)
  have Ho := Lib.hid (show w1.ownsRow w.heap.size 70 4 v' l.length (l.flatMap encL) by simpa using hown)
  clear hown
  go_wp2
  go_ret
  exact ⟨v', rfl, Ho.out, (Gr.al w _).grown' (owns_empty w _ 4) (Nat.le_refl _) hgrow⟩

set_option maxRecDepth 100000 in
set_option maxHeartbeats 400000 in
/-- A copy of a table. -/
theorem lsteps_any (l : List Stp) (hl : l.length ≤ 1000) (b off cap : Nat) (w : World) (hr : TRow w (some ⟨b, off, none⟩) l) :
    Calls Try.prog 36 #[.slice (some ⟨b, off, none⟩) l.length cap] w fun e w' => ∃ v, e = .returned v ∧ w'.ownsRow w.heap.size 138 2 v l.length (l.flatMap encT) ∧ Gr w w' := by
  obtain ⟨i0, hi, hz0, hz1, hz2⟩ := info_parts infoSt2
  have hr1 := hr.grow (Gr.al w (.cells #[] 138))
  have h1 : 0 + l.length ≤ maxLen := by unfold maxLen; omega
  have h2 : (0 + l.length) * 16 ≤ 140737488355328 := by omega
  have hfl := flat_len (enc := encT) (sz := 2) (fun _ => rfl) l
  have hnews := row_news (enc := encT) (sz := 2) (fun _ => rfl) hr1
  have Hfl := Lib.hid hfl
  have Hnews := Lib.hid hnews
  clear hfl hnews
  go_enter Try.func36, Try.ntmps36
  go_wp2_with (at_builtin; refine wpList_append_own _ rfl _ _ 54 rfl w.heap.size 138 i0 _ 2 16 Try.underlying54 hi hz0 hz1 hz2 rfl (by decide) _ _ _ rfl (owns_empty w _ _) ⟨b, off, none⟩ l.length cap (l.flatMap encT) rfl Hfl.out Hnews.out (one_flat (fun x u hu => by simp [encT] at hu; rcases hu with rfl | rfl <;> rfl) l) h1 h2 (by simp) ?_; intro v' w1 hown hgrow _)
  have Ho := Lib.hid (show w1.ownsRow w.heap.size 138 2 v' l.length (l.flatMap encT) by simpa using hown)
  clear hown
  go_wp2
  go_ret
  exact ⟨v', rfl, Ho.out, (Gr.al w _).grown' (owns_empty w _ 2) (Nat.le_refl _) hgrow⟩

/-- A byte of a list, used again and again. -/
def byteW (Y : List Int) (i : Nat) : Int := Y.getD (i % Y.length) 0

theorem byteW_bd {Y : List Int} (h : Bytes Y) (i : Nat) : 0 ≤ byteW Y i ∧ byteW Y i ≤ 255 := by
  unfold byteW
  rw [List.getD_eq_getElem?_getD]
  cases hx : Y[i % Y.length]? with
  | none => simp
  | some x => exact h x (List.mem_of_getElem? hx)

set_option maxRecDepth 100000 in
theorem lbyteOf_any (Y : List Int) (hY : Bytes Y) (i : Nat) (hi : i ≤ 1000000) (ya : Option Addr) (yc : Nat) (w : World) (ry : URow w ya Y) :
    Calls Try.prog 55 #[.slice ya Y.length yc, .int .i64 (i : Int)] w fun e w' => e = .returned (.int .i64 (byteW Y i)) ∧ Gr w w' := by
  have hl := ry.1
  by_cases h0 : Y.length = 0
  · have E := Lib.hid (show byteW Y i = 0 by
      have : Y = [] := List.eq_nil_of_length_eq_zero h0
      subst this
      rfl)
    have d0 : ((Y.length : Int) == 0) = true := by simp [h0]
    go_enter Try.func55, Try.ntmps55
    go_wp2
    go_ret
    exact ⟨by rw [E.out]; rfl, Below.refl _ _⟩
  · have hlt : i % Y.length < Y.length := Nat.mod_lt _ (by omega)
    obtain ⟨x, hx⟩ : ∃ x, Y[i % Y.length]? = some x := ⟨_, List.getElem?_eq_getElem hlt⟩
    obtain ⟨x0, x1⟩ := hY x (List.mem_of_getElem? hx)
    have E := Lib.hid (show byteW Y i = x by unfold byteW; rw [List.getD_eq_getElem?_getD, hx]; rfl)
    obtain ⟨b, off, rfl, hb, hc⟩ := URow.get ry hx
    have d0 : ((Y.length : Int) == 0) = false := by rw [beq_eq_false_iff_ne]; omega
    have d1 : ¬ (Y.length : Int) = 0 := by omega
    obtain ⟨m, hm⟩ : ∃ m, i % Y.length = m := ⟨_, rfl⟩
    have z0 : (i : Int).tmod (Y.length : Int) = (m : Int) := by rw [Int.tmod_eq_emod_of_nonneg (by omega), ← hm]; rfl
    have w0 : IntKind.i64.wrap (m : Int) = (m : Int) := IntWalk.i64_in _ (by omega)
    have w1 : IntKind.i64.wrap x = x := IntWalk.i64_in _ (by omega)
    rw [hm] at hlt hc
    clear hm hx h0
    go_enter Try.func55, Try.ntmps55
    go_wp2
    go_ret
    exact ⟨by rw [E.out]; rfl, Below.refl _ _⟩

end Go.Proofs.Ytcdilmagcdbogaa

namespace Go.Proofs.Ytcdilmagcdbogaa
set_option linter.unusedVariables false
set_option linter.unusedSimpArgs false
open Go.RowKit

theorem IRow.cell4 {w : World} {b off : Nat} {l : List Int} (h : IRow w (some ⟨b, off, none⟩) l) {j : Nat} {x : Int} (hx : l[j]? = some x) : w.cell? ⟨b, off + j, none⟩ = some (.int .i64 x) := by
  obtain ⟨b', off', e, _, hc⟩ := IRow.get h hx
  injection e with e
  injection e with e1 e2 _
  subst e1
  subst e2
  exact hc

/-- What is kept on a day, by the first so many steps. -/
def keptTo (t : List Stp) (day : Int) : Nat → Int
  | 0 => 0
  | k + 1 => match t[k]? with
    | some s => if s.day ≤ day then s.keep else keptTo t day k
    | none => keptTo t day k

theorem keptTo_succ {t : List Stp} {day : Int} {k : Nat} {s : Stp} (h : t[k]? = some s) : keptTo t day (k + 1) = if s.day ≤ day then s.keep else keptTo t day k := by
  show (match t[k]? with
    | some s => if s.day ≤ day then s.keep else keptTo t day k
    | none => keptTo t day k) = _
  rw [h]

theorem keptTo_bd {t : List Stp} (h : ∀ s ∈ t, 0 ≤ s.keep ∧ s.keep ≤ 1000) (day : Int) : ∀ k, 0 ≤ keptTo t day k ∧ keptTo t day k ≤ 1000
  | 0 => by simp [keptTo]
  | k + 1 => by
    have ih := keptTo_bd h day k
    cases hs : t[k]? with
    | none =>
      have e : keptTo t day (k + 1) = keptTo t day k := by
        show (match t[k]? with
          | some s => if s.day ≤ day then s.keep else keptTo t day k
          | none => keptTo t day k) = _
        rw [hs]
      rw [e]
      exact ih
    | some s =>
      rw [keptTo_succ hs]
      split
      · exact h s (List.mem_of_getElem? hs)
      · exact ih

/-- So many weights from a box on. -/
def sumT (h : List Int) (a : Nat) : Nat → Int
  | 0 => 0
  | n + 1 => sumT h a n + h.getD (a + n) 0

theorem sumT_bd {h : List Int} (hh : ∀ x ∈ h, 0 ≤ x ∧ x ≤ 1000) (a : Nat) : ∀ n : Nat, 0 ≤ sumT h a n ∧ sumT h a n ≤ 1000 * (n : Int)
  | 0 => by simp [sumT]
  | n + 1 => by
    have ih := sumT_bd hh a n
    have hx : 0 ≤ h.getD (a + n) 0 ∧ h.getD (a + n) 0 ≤ 1000 := by
      rw [List.getD_eq_getElem?_getD]
      cases hc : h[a + n]? with
      | none => simp
      | some x => exact hh x (List.mem_of_getElem? hc)
    unfold sumT
    omega

/-- Whether a box does not hold, by true strengths and weights. -/
def weakS (strong heavy : List Int) (k : Int) (i : Nat) : Bool := decide (strong.getD i 0 * k / 1000 < sumT heavy (i + 1) (heavy.length - (i + 1)))

def staysO (strong heavy : List Int) (k : Int) : Option Nat := (List.range strong.length).find? (weakS strong heavy k)

def staysV (strong heavy : List Int) (k : Int) : Value := match staysO strong heavy k with
  | none => .tuple #[.bool true, .int .i64 0]
  | some i => .tuple #[.bool false, .int .i64 (i : Int)]

set_option maxRecDepth 100000 in
set_option maxHeartbeats 4000000 in
theorem stays_any (strong heavy : List Int) (t : List Stp) (day : Int) (hs : ∀ x ∈ strong, 0 ≤ x ∧ x ≤ 2000) (hh : ∀ x ∈ heavy, 0 ≤ x ∧ x ≤ 1000) (ht : ∀ s ∈ t, 0 ≤ s.keep ∧ s.keep ≤ 1000) (hn : heavy.length ≤ 100) (hn2 : strong.length ≤ 100) (sa ha ta : Option Addr) (sc hc tc : Nat) (w : World) (rs : IRow w sa strong) (rh : IRow w ha heavy) (rt : TRow w ta t) :
    Calls Try.prog 56 #[.slice sa strong.length sc, .slice ha heavy.length hc, .slice ta t.length tc, .int .i64 day] w fun e w' => e = .returned (staysV strong heavy (keptTo t day t.length)) ∧ Gr w w' := by
  have ht0 := rt.1
  have HH := Lib.hid hh
  have HS := Lib.hid hs
  have HT := Lib.hid (keptTo_bd ht day)
  clear hh hs ht
  go_enter Try.func56, Try.ntmps56
  go_wp2
  go_loopw [11, 10] (fun i q wr => Hid (∃ k : Nat, k ≤ t.length ∧ i = .int .i64 k ∧ q = .int .i64 (keptTo t day k) ∧ Gr w wr)) (fun i _ _ => t.length - (intOf i).toNat)
  case atStart => exact Lib.hid ⟨0, Nat.zero_le _, rfl, rfl, Below.refl _ _⟩
  case round =>
    obtain ⟨k, hk, rfl, rfl, gW⟩ := hrel.out
    clear hrel
    by_cases hlt : k < t.length
    · obtain ⟨⟨sd, sk⟩, hx⟩ : ∃ s, t[k]? = some s := ⟨t[k], by simp [hlt]⟩
      obtain ⟨b1, o1, rfl, h1, c0, c1⟩ := TRow.get (rt.grow gW) hx
      dsimp only at c0 c1
      have hn1 := keptTo_succ (day := day) hx
      dsimp only at hn1
      by_cases hd : sd ≤ day
      · rw [if_pos hd] at hn1
        have HN := Lib.hid hn1
        clear hn1 hx
        go_wp2
        go_roundw
        case rel => exact Lib.hid ⟨k + 1, by omega, by go_num, by rw [HN.out], gW⟩
        case measure => simp [intOf]; omega
      · rw [if_neg hd] at hn1
        have HN := Lib.hid hn1
        have hd2 : decide (sd ≤ day) = false := by simpa using hd
        clear hn1 hx
        go_wp2
        go_roundw
        case rel => exact Lib.hid ⟨k + 1, by omega, by go_num, by rw [HN.out], gW⟩
        case measure => simp [intOf]; omega
    · obtain rfl : k = t.length := by omega
      obtain ⟨q0, q1⟩ := HT.out t.length
      obtain ⟨q, hq⟩ : ∃ q, keptTo t day t.length = q := ⟨_, rfl⟩
      rw [hq] at q0 q1 ⊢
      have HQ := Lib.hid hq
      clear hq hlt hk HT
      go_wp2
      go_loopw [12] (fun i wr => Hid (∃ k : Nat, k ≤ strong.length ∧ i = .int .i64 k ∧ Gr w wr ∧ ∀ j, j < k → weakS strong heavy q j = false)) (fun i _ => strong.length - (intOf i).toNat)
      case atStart => exact Lib.hid ⟨0, Nat.zero_le _, rfl, gW, fun j hj => by omega⟩
      case round =>
        clear gW
        obtain ⟨k, hk, rfl, gW, hp⟩ := hrel.out
        clear hrel
        have HP := Lib.hid hp
        clear hp
        by_cases hlt : k < strong.length
        · obtain ⟨x, hx⟩ : ∃ x, strong[k]? = some x := ⟨strong[k], by simp [hlt]⟩
          obtain ⟨x0, x1⟩ := HS.out x (List.mem_of_getElem? hx)
          have hgx : strong.getD k 0 = x := by rw [List.getD_eq_getElem?_getD, hx]; rfl
          obtain ⟨bs, os, rfl, _, cs⟩ := IRow.get (rs.grow gW) hx
          have HX := Lib.hid hx
          clear hx
          go_wp2
          go_loopw [14, 13] (fun i s wr => Hid (∃ n : Nat, (n = 0 ∨ k + 1 + n ≤ heavy.length) ∧ i = .int .i64 ((k + 1 + n : Nat) : Int) ∧ s = .int .i64 (sumT heavy (k + 1) n) ∧ Gr w wr)) (fun i _ _ => heavy.length - (intOf i).toNat)
          case atStart => exact Lib.hid ⟨0, .inl rfl, by go_num, rfl, gW⟩
          case round =>
            clear gW cs
            obtain ⟨n, hn', rfl, rfl, gW⟩ := hrel.out
            clear hrel
            obtain ⟨s0, s1⟩ := sumT_bd HH.out (k + 1) n
            obtain ⟨M, hM⟩ : ∃ M, k + 1 + n = M := ⟨_, rfl⟩
            rw [hM]
            by_cases hlt2 : M < heavy.length
            · obtain ⟨y, hy⟩ : ∃ y, heavy[M]? = some y := ⟨heavy[M], by simp [hlt2]⟩
              obtain ⟨y0, y1⟩ := HH.out y (List.mem_of_getElem? hy)
              obtain ⟨bh, oh, rfl, _, ch⟩ := IRow.get (rh.grow gW) hy
              have hsn := Lib.hid (show sumT heavy (k + 1) (n + 1) = sumT heavy (k + 1) n + y by
                show sumT heavy (k + 1) n + heavy.getD (k + 1 + n) 0 = _
                rw [hM, List.getD_eq_getElem?_getD, hy]
                rfl)
              clear hy
              generalize sumT heavy (k + 1) n = Sm at *
              have ws : IntKind.i64.wrap (Sm + y) = Sm + y := IntWalk.i64_in _ (by omega)
              have hM2 : k + 1 + n ≤ M ∧ M ≤ k + 1 + n := by omega
              clear hM
              go_wp2
              go_roundw
              case rel => exact Lib.hid ⟨n + 1, .inr (by omega), by go_num, by rw [hsn.out], gW⟩
              case measure => simp [intOf]; omega
            · have hlen : n = heavy.length - (k + 1) := by omega
              have hW : weakS strong heavy q k = decide (x * q / 1000 < sumT heavy (k + 1) n) := by
                unfold weakS
                rw [hgx, ← hlen]
              obtain ⟨Sm, hSm⟩ : ∃ Sm, sumT heavy (k + 1) n = Sm := ⟨_, rfl⟩
              rw [hSm] at hW ⊢
              have m0 : 0 ≤ x * q := Int.mul_nonneg x0 q0
              have m1 : x * q ≤ 2000 * 1000 := Int.mul_le_mul x1 q1 q0 (by omega)
              have w0 : IntKind.i64.wrap (x * q) = x * q := IntWalk.i64_in _ (by omega)
              have z0 : (x * q).tdiv 1000 = x * q / 1000 := Int.tdiv_eq_ediv_of_nonneg m0
              have w1 : IntKind.i64.wrap (x * q / 1000) = x * q / 1000 := IntWalk.i64_in _ (by omega)
              have cs := IRow.cell4 (rs.grow gW) HX.out
              have hM2 : k + 1 + n ≤ M ∧ M ≤ k + 1 + n := by omega
              clear hM hlen hSm hgx
              by_cases hwk : x * q / 1000 < Sm
              · have hwt : weakS strong heavy q k = true := by rw [hW]; simpa using hwk
                have E := Lib.hid (show staysV strong heavy q = .tuple #[.bool false, .int .i64 (k : Int)] by
                  have : staysO strong heavy q = some k := by
                    unfold staysO
                    rw [List.find?_range_eq_some]
                    exact ⟨hwt, List.mem_range.2 hlt, fun j hj => by rw [HP.out j hj]; rfl⟩
                  unfold staysV
                  rw [this])
                clear hW hwt
                go_wp2
                rw [HQ.out, E.out]
                go_ret2
                exact ⟨rfl, gW⟩
              · have hwf : weakS strong heavy q k = false := by rw [hW]; simpa using hwk
                have hwd : decide (x * q / 1000 < Sm) = false := by simpa using hwk
                have HP2 := Lib.hid (show ∀ j, j < k + 1 → weakS strong heavy q j = false from fun j hj => by
                  rcases Nat.lt_or_ge j k with h | h
                  · exact HP.out j h
                  · obtain rfl : j = k := by omega
                    exact hwf)
                clear hW hwf
                go_wp2
                go_roundw
                case rel => exact Lib.hid ⟨k + 1, by omega, by go_num, gW, HP2.out⟩
                case measure => simp [intOf]; omega
        · obtain rfl : k = strong.length := by omega
          have E := Lib.hid (show staysV strong heavy q = .tuple #[.bool true, .int .i64 0] by
            have : staysO strong heavy q = none := by
              unfold staysO
              rw [List.find?_range_eq_none]
              intro i hi
              rw [HP.out i hi]
              rfl
            unfold staysV
            rw [this])
          go_wp2
          rw [HQ.out, E.out]
          go_ret2
          exact ⟨rfl, gW⟩

end Go.Proofs.Ytcdilmagcdbogaa

namespace Go.Proofs.Ytcdilmagcdbogaa
set_option linter.unusedVariables false
set_option linter.unusedSimpArgs false
open Go.RowKit

/-- The true strength and the true weight of a box, by bytes. -/
def strAt (l : List Ld) (Y : List Int) (i : Nat) : Int := match l[i]? with
  | some x => x.sl + byteW Y (2 * i) * (x.sh - x.sl) / 255
  | none => 0

def hvyAt (l : List Ld) (Y : List Int) (i : Nat) : Int := match l[i]? with
  | some x => x.wl + byteW Y (2 * i + 1) * (x.wh - x.wl) / 255
  | none => 0

def strT (l : List Ld) (Y : List Int) (k : Nat) : List Int := (List.range k).map (strAt l Y)

def hvyT (l : List Ld) (Y : List Int) (k : Nat) : List Int := (List.range k).map (hvyAt l Y)

def weakT (l : List Ld) (k : Nat) : List Int := (l.take k).map Ld.sl

def mostT (l : List Ld) (k : Nat) : List Int := (l.take k).map Ld.wh

theorem strT_len (l : List Ld) (Y : List Int) (k : Nat) : (strT l Y k).length = k := by simp [strT]

theorem hvyT_len (l : List Ld) (Y : List Int) (k : Nat) : (hvyT l Y k).length = k := by simp [hvyT]

theorem weakT_len {l : List Ld} {k : Nat} (h : k ≤ l.length) : (weakT l k).length = k := by simp [weakT]; omega

theorem mostT_len {l : List Ld} {k : Nat} (h : k ≤ l.length) : (mostT l k).length = k := by simp [mostT]; omega

theorem strT_succ (l : List Ld) (Y : List Int) (k : Nat) : strT l Y (k + 1) = strT l Y k ++ [strAt l Y k] := by simp [strT, List.range_succ]

theorem hvyT_succ (l : List Ld) (Y : List Int) (k : Nat) : hvyT l Y (k + 1) = hvyT l Y k ++ [hvyAt l Y k] := by simp [hvyT, List.range_succ]

theorem weakT_succ {l : List Ld} {k : Nat} {x : Ld} (h : l[k]? = some x) : weakT l (k + 1) = weakT l k ++ [x.sl] := by unfold weakT; rw [List.take_add_one, h]; simp

theorem mostT_succ {l : List Ld} {k : Nat} {x : Ld} (h : l[k]? = some x) : mostT l (k + 1) = mostT l k ++ [x.wh] := by unfold mostT; rw [List.take_add_one, h]; simp

theorem frac_bd {a b y : Int} (h : a ≤ b) (y0 : 0 ≤ y) (y1 : y ≤ 255) : 0 ≤ y * (b - a) / 255 ∧ y * (b - a) / 255 ≤ b - a := by
  have h1 : 0 ≤ y * (b - a) := Int.mul_nonneg y0 (by omega)
  have h2 : y * (b - a) ≤ 255 * (b - a) := Int.mul_le_mul_of_nonneg_right y1 (by omega)
  omega

theorem strAt_bd {l : List Ld} {Y : List Int} (hY : Bytes Y) {i : Nat} {x : Ld} (h : l[i]? = some x) (hx : x.sl ≤ x.sh) : x.sl ≤ strAt l Y i ∧ strAt l Y i ≤ x.sh := by
  have hb := byteW_bd hY (2 * i)
  have := frac_bd hx hb.1 hb.2
  unfold strAt
  rw [h]
  dsimp only
  omega

theorem hvyAt_bd {l : List Ld} {Y : List Int} (hY : Bytes Y) {i : Nat} {x : Ld} (h : l[i]? = some x) (hx : x.wl ≤ x.wh) : x.wl ≤ hvyAt l Y i ∧ hvyAt l Y i ≤ x.wh := by
  have hb := byteW_bd hY (2 * i + 1)
  have := frac_bd hx hb.1 hb.2
  unfold hvyAt
  rw [h]
  dsimp only
  omega

theorem strT_at {l : List Ld} {Y : List Int} {k i : Nat} (h : i < k) : (strT l Y k)[i]? = some (strAt l Y i) := by
  unfold strT
  rw [List.getElem?_map, List.getElem?_range h]
  rfl

theorem hvyT_at {l : List Ld} {Y : List Int} {k i : Nat} (h : i < k) : (hvyT l Y k)[i]? = some (hvyAt l Y i) := by
  unfold hvyT
  rw [List.getElem?_map, List.getElem?_range h]
  rfl

theorem weakT_at {l : List Ld} {k i : Nat} {x : Ld} (hi : i < k) (h : l[i]? = some x) : (weakT l k)[i]? = some x.sl := by
  unfold weakT
  rw [List.getElem?_map, List.getElem?_take_of_lt hi, h]
  rfl

theorem mostT_at {l : List Ld} {k i : Nat} {x : Ld} (hi : i < k) (h : l[i]? = some x) : (mostT l k)[i]? = some x.wh := by
  unfold mostT
  rw [List.getElem?_map, List.getElem?_take_of_lt hi, h]
  rfl

theorem getD_of {h : List Int} {i : Nat} {x : Int} (e : h[i]? = some x) : h.getD i 0 = x := by rw [List.getD_eq_getElem?_getD, e]; rfl

/-- Sums of weights lie between the loads. -/
theorem sumT_most (l : List Ld) (a : Nat) : ∀ n : Nat, a + n ≤ l.length → sumT (mostT l l.length) a n = sumHi ((l.drop a).take n)
  | 0, _ => by simp [sumT, sumHi]
  | n + 1, h => by
    have ih := sumT_most l a n (by omega)
    obtain ⟨x, hx⟩ : ∃ x, l[a + n]? = some x := ⟨l[a + n], by simp⟩
    have h1 : (l.drop a)[n]? = some x := by rw [List.getElem?_drop]; exact hx
    have h2 := sum_take h1
    unfold sumT
    rw [ih, h2.2, getD_of (mostT_at (by omega) hx)]

theorem sumT_true (l : List Ld) (Y : List Int) (hY : Bytes Y) (hl : ∀ x ∈ l, x.wl ≤ x.wh) (a : Nat) : ∀ n : Nat, a + n ≤ l.length → sumLo ((l.drop a).take n) ≤ sumT (hvyT l Y l.length) a n ∧ sumT (hvyT l Y l.length) a n ≤ sumHi ((l.drop a).take n)
  | 0, _ => by simp [sumT, sumHi, sumLo]
  | n + 1, h => by
    have ih := sumT_true l Y hY hl a n (by omega)
    obtain ⟨x, hx⟩ : ∃ x, l[a + n]? = some x := ⟨l[a + n], by simp⟩
    have h1 : (l.drop a)[n]? = some x := by rw [List.getElem?_drop]; exact hx
    have h2 := sum_take h1
    have h3 := hvyAt_bd hY hx (hl x (List.mem_of_getElem? hx))
    unfold sumT
    rw [h2.1, h2.2, getD_of (hvyT_at (l := l) (Y := Y) (by omega))]
    omega

theorem take_all (l : List Ld) (a : Nat) : (l.drop a).take (l.length - a) = l.drop a := List.take_of_length_le (by simp)

theorem weakS_weakAt {l : List Ld} {q : Int} {i : Nat} (hi : i < l.length) : weakS (weakT l l.length) (mostT l l.length) q i = weakAt l q i := by
  obtain ⟨x, hx⟩ : ∃ x, l[i]? = some x := ⟨l[i], by simp [hi]⟩
  unfold weakS weakAt
  rw [hx, getD_of (weakT_at hi hx), mostT_len (Nat.le_refl _), sumT_most l (i + 1) (l.length - (i + 1)) (by omega), take_all]

theorem find_range {p q : Nat → Bool} {n : Nat} (h : ∀ i, i < n → p i = q i) : (List.range n).find? p = (List.range n).find? q := find_congr (fun x hx => h x (List.mem_range.1 hx))

theorem stays_worst (l : List Ld) (q : Int) : staysO (weakT l l.length) (mostT l l.length) q = weakO l q := by
  unfold staysO weakO
  rw [weakT_len (Nat.le_refl _)]
  exact find_range (fun i hi => weakS_weakAt hi)

theorem weakO_at {l : List Ld} {q : Int} (h : weakO l q = none) {i : Nat} (hi : i < l.length) : weakAt l q i = false := by
  unfold weakO at h
  rw [List.find?_range_eq_none] at h
  have := h i hi
  simpa using this

theorem stays_true (l : List Ld) (Y : List Int) (hY : Bytes Y) (hl : ∀ x ∈ l, x.sl ≤ x.sh ∧ x.wl ≤ x.wh) (q : Int) (q0 : 0 ≤ q) (h : weakO l q = none) : staysO (strT l Y l.length) (hvyT l Y l.length) q = none := by
  unfold staysO
  rw [strT_len, List.find?_range_eq_none]
  intro i hi
  obtain ⟨x, hx⟩ : ∃ x, l[i]? = some x := ⟨l[i], by simp [hi]⟩
  have h1 := weakO_at h hi
  unfold weakAt at h1
  rw [hx] at h1
  simp only [decide_eq_false_iff_not] at h1
  have hm := List.mem_of_getElem? hx
  have h2 := strAt_bd hY hx (hl x hm).1
  have h3 := (sumT_true l Y hY (fun x hx => (hl x hx).2) (i + 1) (l.length - (i + 1)) (by omega)).2
  rw [take_all] at h3
  have h4 : x.sl * q ≤ strAt l Y i * q := Int.mul_le_mul_of_nonneg_right h2.1 q0
  have h5 : x.sl * q / 1000 ≤ strAt l Y i * q / 1000 := Int.ediv_le_ediv (by omega) h4
  unfold weakS
  rw [getD_of (strT_at hi), hvyT_len]
  simp only [Bool.not_eq_true', decide_eq_false_iff_not]
  omega

theorem sumT_front (h : List Int) (a : Nat) : ∀ n : Nat, sumT h a (n + 1) = sumT h (a + 1) n + h.getD a 0
  | 0 => by simp [sumT]
  | n + 1 => by
    have ih := sumT_front h a n
    rw [sumT, ih, sumT, show a + 1 + n = a + (n + 1) by omega]
    omega

theorem strT_bd {l : List Ld} {Y : List Int} (hY : Bytes Y) (hl : ∀ x ∈ l, LdOk x ∧ x.sl ≤ x.sh ∧ x.wl ≤ x.wh ∧ x.sh ≤ 1069 ∧ x.wh ≤ 284) : ∀ y ∈ strT l Y l.length, 0 ≤ y ∧ y ≤ 2000 := by
  intro y hy
  simp only [strT, List.mem_map, List.mem_range] at hy
  obtain ⟨i, hi, rfl⟩ := hy
  obtain ⟨x, hx⟩ : ∃ x, l[i]? = some x := ⟨l[i], by simp [hi]⟩
  obtain ⟨⟨_, p, _⟩, q, _, r, _⟩ := hl x (List.mem_of_getElem? hx)
  have := strAt_bd hY hx q
  omega

theorem hvyT_bd {l : List Ld} {Y : List Int} (hY : Bytes Y) (hl : ∀ x ∈ l, LdOk x ∧ x.sl ≤ x.sh ∧ x.wl ≤ x.wh ∧ x.sh ≤ 1069 ∧ x.wh ≤ 284) : ∀ y ∈ hvyT l Y l.length, 0 ≤ y ∧ y ≤ 1000 := by
  intro y hy
  simp only [hvyT, List.mem_map, List.mem_range] at hy
  obtain ⟨i, hi, rfl⟩ := hy
  obtain ⟨x, hx⟩ : ∃ x, l[i]? = some x := ⟨l[i], by simp [hi]⟩
  obtain ⟨⟨⟨p, _⟩, _⟩, _, q, _, r⟩ := hl x (List.mem_of_getElem? hx)
  have := hvyAt_bd hY hx q
  omega

theorem weakT_bd {l : List Ld} (hl : ∀ x ∈ l, LdOk x ∧ x.sl ≤ x.sh ∧ x.wl ≤ x.wh ∧ x.sh ≤ 1069 ∧ x.wh ≤ 284) : ∀ y ∈ weakT l l.length, 0 ≤ y ∧ y ≤ 2000 := by
  intro y hy
  simp only [weakT, List.take_length, List.mem_map] at hy
  obtain ⟨x, hx, rfl⟩ := hy
  obtain ⟨⟨_, p, _⟩, q, _, r, _⟩ := hl x hx
  omega

theorem mostT_bd {l : List Ld} (hl : ∀ x ∈ l, LdOk x ∧ x.sl ≤ x.sh ∧ x.wl ≤ x.wh ∧ x.sh ≤ 1069 ∧ x.wh ≤ 284) : ∀ y ∈ mostT l l.length, 0 ≤ y ∧ y ≤ 1000 := by
  intro y hy
  simp only [mostT, List.take_length, List.mem_map] at hy
  obtain ⟨x, hx, rfl⟩ := hy
  obtain ⟨⟨⟨p, _⟩, _⟩, _, q, _, r⟩ := hl x hx
  omega

theorem staysV_none {s h : List Int} {q : Int} (e : staysO s h q = none) : staysV s h q = .tuple #[.bool true, .int .i64 0] := by unfold staysV; rw [e]

theorem staysV_some {s h : List Int} {q : Int} {i : Nat} (e : staysO s h q = some i) : staysV s h q = .tuple #[.bool false, .int .i64 (i : Int)] := by unfold staysV; rw [e]

theorem fallV_none {l : List Ld} {t : List Stp} {days : Int} (h : fallO l (untilL t days) = none) : fallV l t days = .tuple #[.int .i64 0, .int .i64 0, .int .i64 7] := by unfold fallV; rw [h]

theorem fallV_some {l : List Ld} {t : List Stp} {days : Int} {s : Stp} {i : Nat} (h : fallO l (untilL t days) = some (s, i)) : fallV l t days = .tuple #[.int .i64 s.day, .int .i64 (i : Int), .int .i64 0] := by unfold fallV; rw [h]

theorem spans_at {l : List Ld} {m : Nat} (h : m < l.length) : (spansL l)[m]? = some ⟨sumLo (l.drop (m + 1)), sumHi (l.drop (m + 1))⟩ := by
  unfold spansL
  rw [List.getElem?_map, loadsL_at h]
  rfl

theorem weakO_lt {l : List Ld} {q : Int} {i : Nat} (h : weakO l q = some i) : i < l.length := by
  unfold weakO at h
  exact List.mem_range.1 (List.mem_of_find?_eq_some h)

/-- What is kept on a day, in a table of steps that ascend. -/
theorem stepW_mono {S : List V2} (h : ∀ v ∈ S, B2 v) (j : Nat) : ∀ n : Nat, (stepW S j).day + (n : Int) ≤ (stepW S (j + n)).day
  | 0 => by simp
  | n + 1 => by
    have := stepW_mono h j n
    have := stepW_next h (j + n)
    rw [show j + (n + 1) = j + n + 1 from rfl]
    omega

theorem stepW_lt {S : List V2} (h : ∀ v ∈ S, B2 v) {j k : Nat} (hjk : j < k) : (stepW S j).day < (stepW S k).day := by
  have := stepW_mono h j (k - j)
  rw [show j + (k - j) = k by omega] at this
  omega

theorem kept_at {S : List V2} {n k : Nat} {d : Int} (hk : k ≤ n) (h1 : (stepW S k).day ≤ d) (h2 : ∀ j, k < j → j ≤ n → d < (stepW S j).day) : keptTo (tabW S n) d (tabW S n).length = (stepW S k).keep := by
  have key : ∀ m : Nat, k + 1 + m ≤ n + 1 → keptTo (tabW S n) d (k + 1 + m) = (stepW S k).keep := by
    intro m
    induction m with
    | zero =>
      intro hm
      rw [Nat.add_zero, keptTo_succ (tabW_at hk), if_pos h1]
    | succ m ih =>
      intro hm
      rw [show k + 1 + (m + 1) = k + 1 + m + 1 from rfl, keptTo_succ (tabW_at (by omega)), if_neg (by have := h2 (k + 1 + m) (by omega) (by omega); omega)]
      exact ih (by omega)
  rw [tabW_len]
  have := key (n - k) (by omega)
  rwa [show k + 1 + (n - k) = n + 1 by omega] at this

theorem kept_some {S : List V2} (n : Nat) {d : Int} (d0 : 0 ≤ d) : ∃ k, k ≤ n ∧ (stepW S k).day ≤ d ∧ keptTo (tabW S n) d (tabW S n).length = (stepW S k).keep := by
  have key : ∀ n : Nat, ∃ k, k ≤ n ∧ (stepW S k).day ≤ d ∧ ∀ j, k < j → j ≤ n → d < (stepW S j).day := by
    intro n
    induction n with
    | zero => exact ⟨0, Nat.le_refl _, by simpa [stepW] using d0, fun j h1 h2 => by omega⟩
    | succ n ih =>
      by_cases h : (stepW S (n + 1)).day ≤ d
      · exact ⟨n + 1, Nat.le_refl _, h, fun j h1 h2 => by omega⟩
      · obtain ⟨k, h1, h2, h3⟩ := ih
        refine ⟨k, by omega, h2, fun j hj hj2 => ?_⟩
        rcases Nat.lt_or_ge j (n + 1) with e | e
        · exact h3 j hj (by omega)
        · obtain rfl : j = n + 1 := by omega
          omega
  obtain ⟨k, h1, h2, h3⟩ := key n
  exact ⟨k, h1, h2, kept_at h1 h2 h3⟩

/-- The first step that is not borne. -/
theorem mem_until {t : List Stp} {days : Int} : t.Pairwise (fun x y => x.day ≤ y.day) → ∀ s ∈ t, s.day ≤ days → s ∈ untilL t days := by
  induction t with
  | nil => intro _ s hs; cases hs
  | cons y t ih =>
    intro hp s hs hd
    obtain ⟨p1, p2⟩ := List.pairwise_cons.1 hp
    have hy : y.day ≤ days := by
      rcases List.mem_cons.1 hs with rfl | h
      · exact hd
      · have := p1 s h
        omega
    unfold untilL
    rw [List.takeWhile_cons, if_pos (by simpa using hy)]
    rcases List.mem_cons.1 hs with rfl | h
    · exact List.mem_cons_self
    · exact List.mem_cons_of_mem _ (ih p2 s h hd)

theorem until_day {t : List Stp} {days : Int} {s : Stp} (h : s ∈ untilL t days) : s.day ≤ days := by
  unfold untilL at h
  induction t with
  | nil => simp at h
  | cons y t ih =>
    rw [List.takeWhile_cons] at h
    split at h
    case isTrue hy =>
      rcases List.mem_cons.1 h with rfl | h
      · simpa using hy
      · exact ih h
    case isFalse => cases h

theorem fall_parts {l : List Ld} {u : List Stp} {s : Stp} {m : Nat} (h : fallO l u = some (s, m)) : ∃ k, u[k]? = some s ∧ weakO l s.keep = some m ∧ ∀ (j : Nat) (s' : Stp), j < k → u[j]? = some s' → weakO l s'.keep = none := by
  induction u with
  | nil => simp [fallO] at h
  | cons x u ih =>
    unfold fallO at h
    rw [List.findSome?_cons] at h
    cases hx : weakO l x.keep with
    | some i =>
      rw [hx] at h
      simp only [Option.map_some, Option.some.injEq, Prod.mk.injEq] at h
      obtain ⟨rfl, rfl⟩ := h
      exact ⟨0, rfl, hx, fun j s' hj => by omega⟩
    | none =>
      rw [hx] at h
      obtain ⟨k, h1, h2, h3⟩ := ih h
      refine ⟨k + 1, by simpa using h1, h2, fun j s' hj hs' => ?_⟩
      cases j with
      | zero => simp at hs'; subst hs'; exact hx
      | succ j => exact h3 j s' (by omega) (by simpa using hs')

theorem fall_nothing {l : List Ld} {u : List Stp} (h : fallO l u = none) : ∀ s ∈ u, weakO l s.keep = none := by
  unfold fallO at h
  rw [List.findSome?_eq_none_iff] at h
  intro s hs
  have := h s hs
  simpa using this

/-- A day on which the pile stands in the worst truth. -/
theorem stands_before {l : List Ld} {S : List V2} {n : Nat} {days : Int} (hS : ∀ v ∈ S, B2 v) (hp : (tabW S n).Pairwise (fun x y => x.day ≤ y.day)) {d : Int} (d0 : 0 ≤ d) (d1 : d ≤ days)
    (hF : ∀ s i, fallO l (untilL (tabW S n) days) = some (s, i) → d < s.day) : weakO l (keptTo (tabW S n) d (tabW S n).length) = none := by
  obtain ⟨k, hk, hd, he⟩ := kept_some (S := S) n d0
  rw [he]
  have hm : stepW S k ∈ tabW S n := List.mem_of_getElem? (tabW_at hk)
  have hu := mem_until (days := days) hp _ hm (by omega)
  cases hf : fallO l (untilL (tabW S n) days) with
  | none => exact fall_nothing hf _ hu
  | some y =>
    obtain ⟨s, i⟩ := y
    have h1 := hF s i hf
    obtain ⟨ks, h2, h3, h4⟩ := fall_parts hf
    have h5 := until_at h2
    obtain ⟨j, hj⟩ := List.getElem?_of_mem hu
    have hj2 := until_at hj
    rcases Nat.lt_or_ge j ks with e | e
    · exact h4 j _ e hj
    · exfalso
      have hks : ks ≤ n := by have := (List.getElem?_eq_some_iff.1 h5).1; rw [tabW_len] at this; omega
      have hjn : j ≤ n := by have := (List.getElem?_eq_some_iff.1 hj2).1; rw [tabW_len] at this; omega
      rw [tabW_at hks] at h5
      rw [tabW_at hjn] at hj2
      simp only [Option.some.injEq] at h5 hj2
      rw [← h5] at h1
      rw [← hj2] at hd
      rcases Nat.lt_or_ge ks j with e2 | e2
      · have := stepW_lt hS e2
        omega
      · obtain rfl : ks = j := by omega
        omega

theorem falls_on {l : List Ld} {S : List V2} {n : Nat} {days : Int} (hS : ∀ v ∈ S, B2 v) {s : Stp} {i : Nat} (h : fallO l (untilL (tabW S n) days) = some (s, i)) : 0 ≤ s.day ∧ s.day ≤ days ∧ weakO l (keptTo (tabW S n) s.day (tabW S n).length) = some i := by
  obtain ⟨ks, h2, h3, h4⟩ := fall_parts h
  have h5 := until_at h2
  have hd := until_day (List.mem_of_getElem? h2)
  have hks : ks ≤ n := by have := (List.getElem?_eq_some_iff.1 h5).1; rw [tabW_len] at this; omega
  rw [tabW_at hks] at h5
  simp only [Option.some.injEq] at h5
  subst h5
  refine ⟨(stepW_bd hS ks).1, hd, ?_⟩
  rw [kept_at hks (Int.le_refl _) (fun j h1 h2 => stepW_lt hS h1)]
  exact h3

/-- Without its topmost box. -/
theorem sumHi_take (l : List Ld) (hl : ∀ x ∈ l, 0 ≤ x.wh) (n : Nat) : sumHi (l.take n) ≤ sumHi l := by
  induction l generalizing n with
  | nil => simp
  | cons x l ih =>
    cases n with
    | zero =>
      have h1 := ih (fun y hy => hl y (List.mem_cons_of_mem _ hy)) 0
      have h2 := hl x List.mem_cons_self
      simp only [List.take_zero, sumHi] at h1 ⊢
      omega
    | succ n =>
      have h1 := ih (fun y hy => hl y (List.mem_cons_of_mem _ hy)) n
      simp only [List.take_succ_cons, sumHi]
      omega

theorem weak_take {l : List Ld} (hl : ∀ x ∈ l, 0 ≤ x.wh) {q : Int} (m : Nat) (h : weakO l q = none) : weakO (l.take m) q = none := by
  unfold weakO
  rw [List.find?_range_eq_none]
  intro i hi
  have hi2 : i < l.length := by simp at hi; omega
  obtain ⟨x, hx⟩ : ∃ x, l[i]? = some x := ⟨l[i], by simp [hi2]⟩
  have him : i < m := by simp at hi; omega
  have h1 := weakO_at h hi2
  unfold weakAt at h1 ⊢
  rw [hx] at h1
  rw [List.getElem?_take_of_lt him, hx]
  simp only [decide_eq_false_iff_not] at h1
  simp only [Bool.not_eq_true', decide_eq_false_iff_not]
  have h2 := sumHi_take (l.drop (i + 1)) (fun y hy => hl y (List.mem_of_mem_drop hy)) (m - (i + 1))
  rw [← List.drop_take] at h2
  omega

theorem fall_take {l : List Ld} (hl : ∀ x ∈ l, 0 ≤ x.wh) {t : List Stp} {days : Int} (hp : t.Pairwise (fun x y => x.day ≤ y.day)) (m : Nat) {s : Stp} {i : Nat} (h : fallO (l.take m) (untilL t days) = some (s, i)) :
    ∃ s' i', fallO l (untilL t days) = some (s', i') ∧ s'.day ≤ s.day := by
  obtain ⟨k, h1, h2, h3⟩ := fall_parts h
  cases hf : fallO l (untilL t days) with
  | none =>
    have := weak_take hl m (fall_nothing hf s (List.mem_of_getElem? h1))
    rw [h2] at this
    cases this
  | some y =>
    obtain ⟨s', i'⟩ := y
    obtain ⟨k', g1, g2, g3⟩ := fall_parts hf
    refine ⟨s', i', rfl, ?_⟩
    rcases Nat.lt_or_ge k k' with e | e
    · have := weak_take hl m (g3 k s e h1)
      rw [h2] at this
      cases this
    · have e1 := until_at h1
      have e2 := until_at g1
      rcases Nat.lt_or_ge k' k with e3 | e3
      · obtain ⟨b1, c1⟩ := List.getElem?_eq_some_iff.1 e1
        obtain ⟨b2, c2⟩ := List.getElem?_eq_some_iff.1 e2
        have := List.pairwise_iff_getElem.1 hp k' k b2 b1 e3
        rw [c1, c2] at this
        exact this
      · obtain rfl : k = k' := by omega
        rw [e1] at e2
        cases e2
        omega

end Go.Proofs.Ytcdilmagcdbogaa

namespace Go.Proofs.Ytcdilmagcdbogaa
set_option linter.unusedVariables false
set_option linter.unusedSimpArgs false
open Go.RowKit

theorem weak_mono {l : List Ld} (hl : ∀ x ∈ l, 0 ≤ x.sl) {q q' : Int} (h : q ≤ q') (hw : weakO l q = none) : weakO l q' = none := by
  refine weakO_none (fun i hi => ?_)
  obtain ⟨x, hx⟩ : ∃ x, l[i]? = some x := ⟨l[i], by simp [hi]⟩
  have h1 := weakO_at hw hi
  unfold weakAt at h1 ⊢
  rw [hx] at h1 ⊢
  simp only [decide_eq_false_iff_not] at h1 ⊢
  have h2 : x.sl * q ≤ x.sl * q' := Int.mul_le_mul_of_nonneg_left h (hl x (List.mem_of_getElem? hx))
  have h3 : x.sl * q / 1000 ≤ x.sl * q' / 1000 := Int.ediv_le_ediv (by omega) h2
  omega

theorem last_mem {t : List Stp} {days : Int} (h : TabOk t days) : ∃ s, s ∈ untilL t days ∧ lastL t days = s.keep ∧ ∀ x ∈ untilL t days, s.keep ≤ x.keep := by
  have h0 := until_pos h
  have h1 := until_len t days
  obtain ⟨s, hs⟩ : ∃ s, (untilL t days)[(untilL t days).length - 1]? = some s := ⟨(untilL t days)[(untilL t days).length - 1]'(by omega), by simp⟩
  have hs2 := until_at hs
  refine ⟨s, List.mem_of_getElem? hs, by unfold lastL; rw [hs2], fun x hx => ?_⟩
  obtain ⟨j, hj⟩ := List.getElem?_of_mem hx
  have hjl := (List.getElem?_eq_some_iff.1 hj).1
  rcases Nat.lt_or_ge j ((untilL t days).length - 1) with e | e
  · obtain ⟨b1, c1⟩ := List.getElem?_eq_some_iff.1 (until_at hj)
    obtain ⟨b2, c2⟩ := List.getElem?_eq_some_iff.1 hs2
    have := List.pairwise_iff_getElem.1 h.down j _ b1 b2 e
    rw [c1, c2] at this
    exact this
  · obtain rfl : j = (untilL t days).length - 1 := by omega
    rw [hs] at hj
    cases hj
    omega

/-- A stack stands through some days just if it does on the last one. -/
theorem fall_last {l : List Ld} (hl : ∀ x ∈ l, 0 ≤ x.sl) {t : List Stp} {days : Int} (h : TabOk t days) : fallO l (untilL t days) = none ↔ weakO l (lastL t days) = none := by
  obtain ⟨s, h1, h2, h3⟩ := last_mem h
  constructor
  · intro hf
    rw [h2]
    exact fall_nothing hf s h1
  · intro hw
    rw [h2] at hw
    unfold fallO
    rw [List.findSome?_eq_none_iff]
    intro x hx
    rw [weak_mono hl (h3 x hx) hw]
    rfl

theorem hsum_rep (x : Ld) : ∀ m : Nat, sumHi (List.replicate m x) = x.wh * (m : Int)
  | 0 => by simp [sumHi]
  | m + 1 => by
    rw [List.replicate_succ, sumHi, hsum_rep x m, show ((m + 1 : Nat) : Int) = (m : Int) + 1 by omega, Int.mul_add]
    omega

theorem hweak_rep {x : Ld} (hx : 0 ≤ x.wh) {q : Int} (m : Nat) : weakO (List.replicate (m + 1) x) q = none ↔ decide (x.sl * q / 1000 < x.wh * (m : Int)) = false := by
  have hat : ∀ i, i < m + 1 → weakAt (List.replicate (m + 1) x) q i = decide (x.sl * q / 1000 < x.wh * ((m - i : Nat) : Int)) := fun i hi => by
    unfold weakAt
    rw [List.getElem?_replicate, if_pos hi, List.drop_replicate, hsum_rep, show m + 1 - (i + 1) = m - i by omega]
  constructor
  · intro h
    have := weakO_at h (i := 0) (by simp)
    rw [hat 0 (by omega)] at this
    exact this
  · intro h
    refine weakO_none (fun i hi => ?_)
    have hi' : i < m + 1 := by simpa using hi
    rw [hat i hi']
    simp only [decide_eq_false_iff_not] at h ⊢
    have : x.wh * ((m - i : Nat) : Int) ≤ x.wh * (m : Int) := Int.mul_le_mul_of_nonneg_left (by omega) hx
    omega

/-- Whether so many equal boxes stand. -/
def stB (x : Ld) (t : List Stp) (days : Int) (m : Nat) : Bool := (fallO (List.replicate m x) (untilL t days)).isNone

theorem stB_is {x : Ld} (hx : LdOk x) {t : List Stp} {days : Int} (h : TabOk t days) (m : Nat) : stB x t days (m + 1) = decide (¬ x.sl * lastL t days / 1000 < x.wh * (m : Int)) := by
  have hl : ∀ y ∈ List.replicate (m + 1) x, 0 ≤ y.sl := fun y hy => by
    rw [List.eq_of_mem_replicate hy]
    exact hx.2.1
  have h1 := fall_last hl h
  have h2 := hweak_rep (q := lastL t days) hx.1.2.2.1 m
  unfold stB
  cases hf : fallO (List.replicate (m + 1) x) (untilL t days) with
  | none =>
    have := h2.1 (h1.1 hf)
    simp only [decide_eq_false_iff_not] at this
    simp [this]
  | some y =>
    have h3 : ¬ weakO (List.replicate (m + 1) x) (lastL t days) = none := fun e => by
      rw [h1.2 e] at hf
      cases hf
    have h4 : ¬ decide (x.sl * lastL t days / 1000 < x.wh * (m : Int)) = false := fun e => h3 (h2.2 e)
    simp at h4
    simp [h4]

/-- The greatest number, up to one, of which so many stand. -/
def hiTo (p : Nat → Bool) : Nat → Nat
  | 0 => 0
  | n + 1 => if p (n + 1) = true then n + 1 else hiTo p n

theorem hiTo_is {p : Nat → Bool} {r : Nat} (h1 : ∀ a, a < r → p (a + 1) = true) : ∀ n : Nat, (∀ a, r ≤ a → a < n → p (a + 1) = false) → hiTo p n = min r n
  | 0, _ => by simp [hiTo]
  | n + 1, h2 => by
    have ih := hiTo_is h1 n (fun a ha hn => h2 a ha (by omega))
    unfold hiTo
    by_cases e : n < r
    · rw [if_pos (h1 n e)]
      omega
    · rw [if_neg (by rw [h2 n (by omega) (by omega)]; decide), ih]
      omega

end Go.Proofs.Ytcdilmagcdbogaa

namespace Go.Proofs.Ytcdilmagcdbogaa
set_option linter.unusedVariables false
set_option linter.unusedSimpArgs false
open Go.RowKit

/-- No box of l' is weaker or heavier than that of l. -/
def Better (l l' : List Ld) : Prop := l'.length = l.length ∧ ∀ (i : Nat) (x : Ld), l[i]? = some x → ∃ y, l'[i]? = some y ∧ x.sl ≤ y.sl ∧ y.wh ≤ x.wh

theorem Better.refl (l : List Ld) : Better l l := ⟨rfl, fun i x h => ⟨x, h, Int.le_refl _, Int.le_refl _⟩⟩

theorem Better.set {l : List Ld} {i : Nat} {x y : Ld} (hx : l[i]? = some x) (h1 : x.sl ≤ y.sl) (h2 : y.wh ≤ x.wh) : Better l (l.set i y) := by
  refine ⟨by simp, fun j z hz => ?_⟩
  by_cases e : i = j
  · subst e
    rw [hx] at hz
    cases hz
    exact ⟨y, by rw [List.getElem?_set_self (List.getElem?_eq_some_iff.1 hx).1], h1, h2⟩
  · exact ⟨z, by rw [List.getElem?_set_ne e]; exact hz, Int.le_refl _, Int.le_refl _⟩

theorem whAt_better {l l' : List Ld} (h : Better l l') (x : Nat) : whAt l' x ≤ whAt l x := by
  unfold whAt
  cases hx : l[x]? with
  | none =>
    have h1 : l.length ≤ x := by rw [List.getElem?_eq_none_iff] at hx; exact hx
    have : l'[x]? = none := by rw [List.getElem?_eq_none_iff, h.1]; exact h1
    rw [this]
    exact Int.le_refl _
  | some y =>
    obtain ⟨z, hz, _, h2⟩ := h.2 x y hx
    rw [hz]
    exact h2

theorem sumW_better {l l' : List Ld} (h : Better l l') : ∀ r : List Nat, sumW l' r ≤ sumW l r
  | [] => Int.le_refl _
  | x :: r => by
    have := sumW_better h r
    have := whAt_better h x
    unfold sumW
    omega

theorem lowB_better {l l' : List Ld} (h : Better l l') (hl : ∀ x ∈ l, 0 ≤ x.sl) {k k' : Int} (k0 : 0 ≤ k) (kk : k ≤ k') {f g : Int → Bool} {s x : Nat} (hf : f ((without s x : Nat) : Int) = true → g ((without s x : Nat) : Int) = true) (hb : lowB l k f s x = true) : lowB l' k' g s x = true := by
  unfold lowB at hb ⊢
  cases hx : l[x]? with
  | none => rw [hx] at hb; cases hb
  | some y =>
    rw [hx] at hb
    simp only [Bool.and_eq_true, decide_eq_true_eq] at hb
    obtain ⟨z, hz, h1, h2⟩ := h.2 x y hx
    rw [hz]
    simp only [Bool.and_eq_true, decide_eq_true_eq]
    have h3 : weightW l' (without s x) ≤ weightW l (without s x) := sumW_better h _
    have hy := hl y (List.mem_of_getElem? hx)
    have h4 : y.sl * k ≤ z.sl * k' := Int.mul_le_mul h1 kk k0 (by omega)
    have h5 : y.sl * k / 1000 ≤ z.sl * k' / 1000 := Int.ediv_le_ediv (by omega) h4
    exact ⟨hf hb.1, by omega⟩

theorem stands_zero {l : List Ld} {keep : Int} : ∀ k : Nat, standsTo l keep k ((0 : Nat) : Int) = true
  | 0 => rfl
  | k + 1 => by
    have ih := stands_zero (l := l) (keep := keep) k
    unfold standsTo
    split
    · show (if ((0 : Nat) : Int) = (k : Int) then true else standsTo l keep k ((0 : Nat) : Int)) = true
      rw [ih]
      simp
    · exact ih

theorem stands_better {l l' : List Ld} (h : Better l l') (hl : ∀ x ∈ l, 0 ≤ x.sl) {keep keep' : Int} (k0 : 0 ≤ keep) (kk : keep ≤ keep') {K : Nat} (hK : K ≤ 1024) : ∀ s : Nat, s < K → standsTo l keep K (s : Int) = true → standsTo l' keep' K (s : Int) = true := by
  intro s
  induction s using Nat.strongRecOn with
  | ind s ih =>
    intro hs hst
    rcases Nat.eq_zero_or_pos s with rfl | h0
    · exact stands_zero K
    · rw [stands_iff hs h0 (by omega)] at hst ⊢
      obtain ⟨x, hx⟩ := Option.isSome_iff_exists.1 hst
      obtain ⟨h1, h2, h3⟩ := low_bit hx
      have hlt := without_lt (show s < 1024 by omega) h1 h2
      have h4 := lowB_better h hl k0 kk (g := standsTo l' keep' K) (fun hf => ih (without s x) hlt (by omega) hf) h3
      unfold lowO
      rw [List.find?_isSome]
      exact ⟨x, memb_of h1 h2, h4⟩

theorem last_soon {t : List Stp} {d d' : Int} (h : TabOk t d) (h' : TabOk t d') (hd : d' ≤ d) : lastL t d ≤ lastL t d' := by
  obtain ⟨s, h1, h2, h3⟩ := last_mem h
  obtain ⟨s', g1, g2, g3⟩ := last_mem h'
  rw [h2, g2]
  refine h3 s' (mem_until h.day s' ?_ (by have := until_day g1; omega))
  obtain ⟨j, hj⟩ := List.getElem?_of_mem g1
  exact List.mem_of_getElem? (until_at hj)

theorem most_ge {f : Int → Bool} : ∀ (k y : Nat), y < k → f (y : Int) = true → (membL y).length ≤ (mostTo f k).length
  | 0, y, h, _ => by omega
  | k + 1, y, h, hf => by
    unfold mostTo
    rcases Nat.lt_or_ge y k with e | e
    · have ih := most_ge k y e hf
      split
      · split
        · rename_i h1
          rcases h1 with h1 | h1
          · omega
          · omega
        · exact ih
      · exact ih
    · obtain rfl : y = k := by omega
      rw [if_pos hf]
      split
      · exact Nat.le_refl _
      · rename_i h1
        omega

theorem most_some {f : Int → Bool} : ∀ k : Nat, mostTo f k = [] ∨ ∃ y, y < k ∧ f ((y : Nat) : Int) = true ∧ mostTo f k = membL y
  | 0 => .inl rfl
  | k + 1 => by
    have ih := most_some (f := f) k
    have up : mostTo f k = [] ∨ ∃ y, y < k + 1 ∧ f ((y : Nat) : Int) = true ∧ mostTo f k = membL y := by
      rcases ih with h | ⟨y, h1, h2, h3⟩
      · exact .inl h
      · exact .inr ⟨y, by omega, h2, h3⟩
    unfold mostTo
    split
    · rename_i hf
      split
      · exact .inr ⟨k, by omega, hf, rfl⟩
      · exact up
    · exact up

theorem most_better {f g : Int → Bool} {k : Nat} (h : ∀ s : Nat, s < k → f (s : Int) = true → g (s : Int) = true) : (mostTo f k).length ≤ (mostTo g k).length := by
  rcases most_some (f := f) k with e | ⟨y, h1, h2, h3⟩
  · rw [e]
    simp
  · rw [h3]
    exact most_ge k y h1 (h y h1 h2)

/-- Most is not smaller. -/
theorem most_more {l l' : List Ld} (h : Better l l') (h10 : l.length ≤ 10) (hl : ∀ x ∈ l, 0 ≤ x.sl) {t : List Stp} {d d' : Int} (ht : TabOk t d) (ht' : TabOk t d') (hd : d' ≤ d) : (mostTo (setsL l t d) (allN l + 1)).length ≤ (mostTo (setsL l' t d') (allN l' + 1)).length := by
  have e : allN l' = allN l := by unfold allN; rw [h.1]
  have hp := pow_bd h10
  rw [e]
  refine most_better (fun s hs hf => ?_)
  unfold setsL at hf ⊢
  rw [e]
  exact stands_better h hl (last_bd ht).1 (last_soon ht ht' hd) (by unfold allN; omega) s hs hf

/-- How many equal boxes stand: a number from 1 to 50. -/
theorem high_num {x : Ld} (hx : LdOk x) {t : List Stp} {days : Int} (ht : TabOk t days) : ∃ r : Nat, 1 ≤ r ∧ r ≤ 50 ∧ hiTo (stB x t days) 50 = r ∧ (∀ a : Nat, a < r → ¬ x.sl * lastL t days / 1000 < x.wh * (a : Int)) ∧ ∀ a : Nat, r ≤ a → a < 50 → x.sl * lastL t days / 1000 < x.wh * (a : Int) := by
  have hw : 0 ≤ x.wh := hx.1.2.2.1
  have key : ∀ n : Nat, ∃ r : Nat, r ≤ n ∧ (∀ a : Nat, a < r → ¬ x.sl * lastL t days / 1000 < x.wh * (a : Int)) ∧ ∀ a : Nat, r ≤ a → a < n → x.sl * lastL t days / 1000 < x.wh * (a : Int) := by
    intro n
    induction n with
    | zero => exact ⟨0, Nat.le_refl _, fun a ha => by omega, fun a h1 h2 => by omega⟩
    | succ n ih =>
      obtain ⟨r, h1, h2, h3⟩ := ih
      by_cases e : x.sl * lastL t days / 1000 < x.wh * (n : Int)
      · refine ⟨r, by omega, h2, fun a ha ha2 => ?_⟩
        rcases Nat.lt_or_ge a n with e2 | e2
        · exact h3 a ha e2
        · obtain rfl : a = n := by omega
          exact e
      · refine ⟨n + 1, Nat.le_refl _, fun a ha h => ?_, fun a h1 h2 => by omega⟩
        have : x.wh * (a : Int) ≤ x.wh * (n : Int) := Int.mul_le_mul_of_nonneg_left (by omega) hw
        omega
  obtain ⟨r, h1, h2, h3⟩ := key 50
  have hr : 1 ≤ r := by
    rcases Nat.eq_zero_or_pos r with e | e
    · subst e
      have h0 := h3 0 (by omega) (by omega)
      have h4 : 0 ≤ x.sl * lastL t days := Int.mul_nonneg hx.2.1 (last_bd ht).1
      simp at h0
      omega
    · exact e
  refine ⟨r, hr, h1, ?_, h2, h3⟩
  have := hiTo_is (p := stB x t days) (r := r) (fun a ha => by rw [stB_is hx ht a]; simpa using h2 a ha) 50 (fun a ha ha2 => by rw [stB_is hx ht a]; simpa using h3 a ha ha2)
  rw [this]
  omega

theorem high_more {x y : Ld} (hx : LdOk x) (hy : LdOk y) (h1 : x.sl ≤ y.sl) (h2 : y.wh ≤ x.wh) {t : List Stp} {d d' : Int} (ht : TabOk t d) (ht' : TabOk t d') (hd : d' ≤ d) : hiTo (stB x t d) 50 ≤ hiTo (stB y t d') 50 := by
  obtain ⟨r, a1, a2, a3, a4, a5⟩ := high_num hx ht
  obtain ⟨q, b1, b2, b3, b4, b5⟩ := high_num hy ht'
  rw [a3, b3]
  rcases Nat.lt_or_ge q r with e | e
  · exfalso
    have c1 := a4 q e
    have c2 := b5 q (Nat.le_refl _) (by omega)
    have hl := last_soon ht ht' hd
    have c3 : x.sl * lastL t d ≤ y.sl * lastL t d' := Int.mul_le_mul h1 hl (last_bd ht).1 (by have := hx.2.1; omega)
    have c4 : x.sl * lastL t d / 1000 ≤ y.sl * lastL t d' / 1000 := Int.ediv_le_ediv (by omega) c3
    have c5 : y.wh * (q : Int) ≤ x.wh * (q : Int) := Int.mul_le_mul_of_nonneg_right h2 (by omega)
    omega
  · exact e

end Go.Proofs.Ytcdilmagcdbogaa

namespace Go.Proofs.Ytcdilmagcdbogaa
set_option linter.unusedVariables false
set_option linter.unusedSimpArgs false
open Go.RowKit

/-- The set of an order's boxes. -/
def setO : List Nat → Nat
  | [] => 0
  | x :: o => setO o ^^^ 2 ^ x

theorem setO_lt : ∀ {o : List Nat}, (∀ x ∈ o, x < 10) → setO o < 1024
  | [], _ => by decide
  | x :: o, h => by
    have ih := setO_lt (o := o) (fun y hy => h y (List.mem_cons_of_mem _ hy))
    have hx := pow_1024 (h x List.mem_cons_self)
    show setO o ^^^ 2 ^ x < 2 ^ 10
    exact Nat.xor_lt_two_pow ih hx

theorem setO_bit : ∀ {o : List Nat}, o.Nodup → ∀ i, (setO o).testBit i = decide (i ∈ o)
  | [], _, i => by simp [setO]
  | x :: o, h, i => by
    obtain ⟨h1, h2⟩ := List.nodup_cons.1 h
    have ih := setO_bit h2 i
    unfold setO
    rw [Nat.testBit_xor, Nat.testBit_two_pow, ih]
    by_cases e : x = i
    · subst e
      simp [h1]
    · have e2 : ¬ i = x := fun e' => e e'.symm
      simp [e, e2]

theorem setO_without (x : Nat) (o : List Nat) : without (setO (x :: o)) x = setO o := by
  show (setO o ^^^ 2 ^ x) ^^^ 2 ^ x = setO o
  rw [Nat.xor_assoc, Nat.xor_self, Nat.xor_zero]

theorem memb_perm {o : List Nat} (h : o.Nodup) (hx : ∀ x ∈ o, x < 10) : (membL (setO o)).Perm o := by
  refine (List.perm_ext_iff_of_nodup ?_ h).2 (fun a => ?_)
  · unfold membL membTo
    exact List.nodup_range.sublist List.filter_sublist
  · constructor
    · intro ha
      have := (memb_bit ha).2
      rw [setO_bit h] at this
      simpa using this
    · intro ha
      exact memb_of (hx a ha) (by rw [setO_bit h]; simpa using ha)

theorem sumW_perm (l : List Ld) {a b : List Nat} (h : a.Perm b) : sumW l a = sumW l b := by
  induction h with
  | nil => rfl
  | cons x _ ih => simp only [sumW, ih]
  | swap x y l' => simp only [sumW]; omega
  | trans _ _ h1 h2 => exact h1.trans h2

theorem weight_ofO (l : List Ld) {o : List Nat} (h : o.Nodup) (hx : ∀ x ∈ o, x < 10) : weightW l (setO o) = sumW l o := sumW_perm l (memb_perm h hx)

theorem set_of_mem {s : Nat} (hs : s < 1024) {o : List Nat} (h : o.Nodup) (hm : ∀ i, i ∈ o ↔ s.testBit i = true) : setO o = s := by
  apply Nat.eq_of_testBit_eq
  intro i
  rw [setO_bit h]
  have := hm i
  cases hb : s.testBit i with
  | true => simpa [hb] using this
  | false => simpa [hb] using this

/-- Whether an order of boxes stands. -/
def slAt (l : List Ld) (x : Nat) : Int := match l[x]? with
  | some y => y.sl
  | none => 0

def standB (l : List Ld) (q : Int) : List Nat → Bool
  | [] => true
  | x :: o => decide (sumW l o ≤ slAt l x * q / 1000) && standB l q o

theorem lowB_at {l : List Ld} {q : Int} {f : Int → Bool} {s x : Nat} (hx : x < l.length) : lowB l q f s x = (f ((without s x : Nat) : Int) && decide (weightW l (without s x) ≤ slAt l x * q / 1000)) := by
  obtain ⟨y, hy⟩ : ∃ y, l[x]? = some y := ⟨l[x], by simp [hx]⟩
  unfold lowB slAt
  rw [hy]

theorem lowB_lt {l : List Ld} {q : Int} {f : Int → Bool} {s x : Nat} (h : lowB l q f s x = true) : x < l.length := by
  unfold lowB at h
  cases hx : l[x]? with
  | none => rw [hx] at h; cases h
  | some y => exact (List.getElem?_eq_some_iff.1 hx).1

/-- What stands in some order is a set that stands. -/
theorem set_stands {l : List Ld} (h10 : l.length ≤ 10) {q : Int} {K : Nat} : ∀ {o : List Nat}, o.Nodup → (∀ x ∈ o, x < l.length) → setO o < K → (∀ o', o'.Sublist o → setO o' < K) → standB l q o = true → standsTo l q K ((setO o : Nat) : Int) = true
  | [], _, _, _, _, _ => stands_zero K
  | x :: o, h, hx, hK, hsub, hst => by
    obtain ⟨h1, h2⟩ := List.nodup_cons.1 h
    have hx' : ∀ y ∈ o, y < l.length := fun y hy => hx y (List.mem_cons_of_mem _ hy)
    have h10' : ∀ y ∈ x :: o, y < 10 := fun y hy => Nat.lt_of_lt_of_le (hx y hy) h10
    unfold standB at hst
    simp only [Bool.and_eq_true, decide_eq_true_eq] at hst
    have ih := set_stands h10 h2 hx' (hsub o (List.sublist_cons_self x o)) (fun o' ho' => hsub o' (ho'.trans (List.sublist_cons_self x o))) hst.2
    have hbit : (setO (x :: o)).testBit x = true := by rw [setO_bit h]; simp
    have h0 : 0 < setO (x :: o) := by
      rcases Nat.eq_zero_or_pos (setO (x :: o)) with e | e
      · rw [e] at hbit
        simp at hbit
      · exact e
    rw [stands_iff hK h0 (setO_lt h10')]
    unfold lowO
    rw [List.find?_isSome]
    refine ⟨x, memb_of (h10' x List.mem_cons_self) hbit, ?_⟩
    rw [lowB_at (hx x List.mem_cons_self), setO_without, ih, weight_ofO l h2 (fun y hy => h10' y (List.mem_cons_of_mem _ hy))]
    simpa using hst.1

/-- The order of a set that stands: all its boxes, it stands, and no such order is smaller. -/
theorem order_good {l : List Ld} (h10 : l.length ≤ 10) {q : Int} {K : Nat} (hK : K ≤ 1024) : ∀ s : Nat, s < K → standsTo l q K (s : Int) = true →
    (orderL l q (standsTo l q K) s).Nodup ∧ (∀ i, i ∈ orderL l q (standsTo l q K) s ↔ s.testBit i = true) ∧ (∀ i ∈ orderL l q (standsTo l q K) s, i < l.length) ∧ standB l q (orderL l q (standsTo l q K) s) = true ∧
      ∀ o : List Nat, o.Nodup → (∀ i, i ∈ o ↔ s.testBit i = true) → (∀ i ∈ o, i < l.length) → standB l q o = true → lexI (intsN o) (intsN (orderL l q (standsTo l q K) s)) = false := by
  intro s
  induction s using Nat.strongRecOn with
  | ind s ih =>
    intro hs hst
    rcases Nat.eq_zero_or_pos s with rfl | h0
    · have e : orderL l q (standsTo l q K) 0 = [] := rfl
      rw [e]
      refine ⟨List.nodup_nil, by simp, by simp, rfl, fun o _ hm _ _ => ?_⟩
      cases o with
      | nil => rfl
      | cons x o => exact absurd ((hm x).1 List.mem_cons_self) (by simp)
    · rw [stands_iff hs h0 (by omega)] at hst
      obtain ⟨x, hx⟩ := Option.isSome_iff_exists.1 hst
      obtain ⟨h1, h2, h3⟩ := low_bit hx
      have hlt := without_lt (show s < 1024 by omega) h1 h2
      have hxl := lowB_lt h3
      have hb := without_bit h2
      rw [lowB_at hxl] at h3
      simp only [Bool.and_eq_true, decide_eq_true_eq] at h3
      obtain ⟨a1, a2, a3, a4, a5⟩ := ih (without s x) hlt (by omega) h3.1
      rw [orderL_step (by omega) h0 hx]
      have hset : setO (orderL l q (standsTo l q K) (without s x)) = without s x := set_of_mem (by omega) a1 a2
      have hnx : x ∉ orderL l q (standsTo l q K) (without s x) := fun e => by
        have := (a2 x).1 e
        rw [hb] at this
        simp at this
      refine ⟨List.nodup_cons.2 ⟨hnx, a1⟩, fun i => ?_, fun i hi => ?_, ?_, fun o ho hm hl' hso => ?_⟩
      · rw [List.mem_cons, a2, hb]
        by_cases e : x = i
        · subst e
          simp [h2]
        · have e2 : ¬ i = x := fun e' => e e'.symm
          simp [e, e2]
      · rcases List.mem_cons.1 hi with rfl | hi
        · exact hxl
        · exact a3 i hi
      · unfold standB
        rw [a4]
        have hw := weight_ofO l a1 (fun y hy => Nat.lt_of_lt_of_le (a3 y hy) h10)
        rw [hset] at hw
        rw [← hw]
        simpa using h3.2
      · cases o with
        | nil => exact absurd ((hm x).2 h2) (by simp)
        | cons y o =>
          obtain ⟨n1, n2⟩ := List.nodup_cons.1 ho
          unfold standB at hso
          simp only [Bool.and_eq_true, decide_eq_true_eq] at hso
          have hyl := hl' y List.mem_cons_self
          have hys : s.testBit y = true := (hm y).1 List.mem_cons_self
          have hol : ∀ i ∈ o, i < l.length := fun i hi => hl' i (List.mem_cons_of_mem _ hi)
          have hmy : ∀ i, i ∈ o ↔ (without s y).testBit i = true := fun i => by
            rw [without_bit hys]
            have := hm i
            by_cases e : y = i
            · subst e
              simp [n1]
            · have e2 : ¬ i = y := fun e' => e e'.symm
              simp only [List.mem_cons, e2, false_or] at this
              rw [this]
              simp [e]
          have hsety : setO o = without s y := set_of_mem (by have := without_lt (show s < 1024 by omega) (Nat.lt_of_lt_of_le hyl h10) hys; omega) n2 hmy
          have hlty := without_lt (show s < 1024 by omega) (Nat.lt_of_lt_of_le hyl h10) hys
          have hsy : standsTo l q K ((without s y : Nat) : Int) = true := by
            rw [← hsety]
            refine set_stands h10 n2 hol (by rw [hsety]; omega) (fun o' ho' => ?_) hso.2
            have hle : setO o' ≤ setO o := by
              have hn' := n2.sublist ho'
              have : setO o' &&& setO o = setO o' := by
                apply Nat.eq_of_testBit_eq
                intro i
                rw [Nat.testBit_and, setO_bit hn', setO_bit n2]
                by_cases e : i ∈ o'
                · simp [e, ho'.subset e]
                · simp [e]
              rw [← this]
              exact Nat.and_le_right
            rw [hsety] at hle
            omega
          have hlow : lowB l q (standsTo l q K) s y = true := by
            rw [lowB_at hyl, hsy]
            have hw := weight_ofO l n2 (fun z hz => Nat.lt_of_lt_of_le (hol z hz) h10)
            rw [hsety] at hw
            rw [hw]
            simpa using hso.1
          have hxy : x ≤ y := by
            have hmin : ∀ z ∈ membL s, lowB l q (standsTo l q K) s z = true → x ≤ z := by
              unfold lowO at hx
              intro z hz hlz
              obtain ⟨us, vs, hab, hno⟩ := (List.find?_eq_some_iff_append.1 hx).2
              rw [hab] at hz
              have hsort : (membL s).Pairwise (· < ·) := by
                unfold membL membTo
                exact List.Pairwise.filter _ List.pairwise_lt_range
              rw [hab] at hsort
              rcases List.mem_append.1 hz with hz | hz
              · have := hno z hz
                rw [hlz] at this
                simp at this
              · rcases List.mem_cons.1 hz with rfl | hz
                · exact Nat.le_refl _
                · have := (List.pairwise_cons.1 (List.pairwise_append.1 hsort).2.1).1 z hz
                  omega
            exact hmin y (memb_of (Nat.lt_of_lt_of_le hyl h10) hys) hlow
          show lexI ((y : Int) :: intsN o) ((x : Int) :: intsN (orderL l q (standsTo l q K) (without s x))) = false
          unfold lexI
          by_cases e : y = x
          · subst e
            rw [if_pos rfl]
            exact a5 o n2 hmy hol hso.2
          · rw [if_neg (by omega)]
            simp
            omega

end Go.Proofs.Ytcdilmagcdbogaa

namespace Go.Proofs.Ytcdilmagcdbogaa
set_option linter.unusedVariables false
set_option linter.unusedSimpArgs false
open Go.RowKit

def pickL (l : List Ld) (o : List Nat) : List Ld := o.map (fun i => l.getD i ⟨0, 0, 0, 0⟩)

theorem pickL_len (l : List Ld) (o : List Nat) : (pickL l o).length = o.length := by simp [pickL]

theorem pick_wh (l : List Ld) (i : Nat) : (l.getD i ⟨0, 0, 0, 0⟩).wh = whAt l i := by
  unfold whAt
  rw [List.getD_eq_getElem?_getD]
  cases l[i]? <;> rfl

theorem pick_sl (l : List Ld) (i : Nat) : (l.getD i ⟨0, 0, 0, 0⟩).sl = slAt l i := by
  unfold slAt
  rw [List.getD_eq_getElem?_getD]
  cases l[i]? <;> rfl

theorem sumHi_pick (l : List Ld) : ∀ o : List Nat, sumHi (pickL l o) = sumW l o
  | [] => rfl
  | x :: o => by
    show (l.getD x ⟨0, 0, 0, 0⟩).wh + sumHi (pickL l o) = whAt l x + sumW l o
    rw [sumHi_pick l o, pick_wh]

theorem weakO_cons {x : Ld} {l : List Ld} {q : Int} : weakO (x :: l) q = none ↔ ¬ x.sl * q / 1000 < sumHi l ∧ weakO l q = none := by
  have h0 : weakAt (x :: l) q 0 = decide (x.sl * q / 1000 < sumHi l) := rfl
  have hs : ∀ k, weakAt (x :: l) q (k + 1) = weakAt l q k := fun k => by
    unfold weakAt
    simp
  constructor
  · intro h
    refine ⟨?_, weakO_none (fun k hk => ?_)⟩
    · have := weakO_at h (i := 0) (by simp)
      rw [h0] at this
      simpa using this
    · have := weakO_at h (i := k + 1) (by simpa using hk)
      rwa [hs] at this
  · rintro ⟨h1, h2⟩
    refine weakO_none (fun k hk => ?_)
    cases k with
    | zero =>
      rw [h0]
      simpa using h1
    | succ k =>
      rw [hs]
      exact weakO_at h2 (by simpa using hk)

/-- A picked stack stands just if the order does. -/
theorem weak_pick (l : List Ld) (q : Int) : ∀ o : List Nat, weakO (pickL l o) q = none ↔ standB l q o = true
  | [] => by simp [standB, pickL, weakO]
  | x :: o => by
    have ih := weak_pick l q o
    show weakO (l.getD x ⟨0, 0, 0, 0⟩ :: pickL l o) q = none ↔ _
    rw [weakO_cons, ih, sumHi_pick, pick_sl]
    have e : standB l q (x :: o) = (decide (sumW l o ≤ slAt l x * q / 1000) && standB l q o) := rfl
    rw [e]
    simp only [Bool.and_eq_true, decide_eq_true_eq]
    constructor
    · rintro ⟨a, b⟩
      exact ⟨by omega, b⟩
    · rintro ⟨a, b⟩
      exact ⟨by omega, b⟩

theorem MapB.grownRowZ {w w' : World} {b n : Nat} {f : Int → Bool} {row : Option Nat} (h : MapB w b n f) (hg : w.grownBy w' row) (hne : ∀ r, row = some r → b ≠ r) : MapB w' b n f := by
  have hlt := h.lt
  obtain ⟨D, hD, ⟨es, clock, hb, F, hs, hd⟩, ha⟩ := h
  exact ⟨D, hD, ⟨es, clock, (hg.block b hlt (fun e => hne b e.symm rfl)).trans hb, F, hs, hd⟩, ha⟩

def memZ (o : List Nat) (y : Int) : Bool := decide (y ∈ intsN o)

theorem memZ_snoc (o : List Nat) (x : Nat) (y : Int) : memZ (o ++ [x]) y = if y = (x : Int) then true else memZ o y := by
  unfold memZ intsN
  by_cases e : y = (x : Int)
  · simp [e]
  · simp [e]

set_option maxRecDepth 100000 in
set_option maxHeartbeats 2000000 in
theorem picked_any (l : List Ld) (o : List Nat) (hn : l.length ≤ 100) (ho : o.Nodup) (hl : ∀ i ∈ o, i < l.length) (ho100 : o.length ≤ 100) (la oa : Option Addr) (lc oc : Nat) (w : World) (rl : LRow w la l) (ro : IRow w oa (intsN o)) :
    Calls Try.prog 57 #[.slice la l.length lc, .slice oa o.length oc] w fun e w' => ∃ a c, e = .returned (.tuple #[.slice a o.length c, .bool true]) ∧ LRow w' a (pickL l o) ∧ Gr w w' := by
  obtain ⟨i0, hi, hz0, hz1, hz2⟩ := info_parts infoLd
  have HL := Lib.hid hl
  have HO := Lib.hid ho
  clear hl ho
  have oA := owns_keep (owns_empty w 70 4) (Gr.al _ (.map #[] 0))
  have hm := MapB.made (w.alloc (.cells #[] 70))
  have gA := (Gr.al w (.cells #[] 70)).tr (Gr.al _ (.map #[] 0))
  rw [show (w.alloc (.cells #[] 70)).heap.size = w.heap.size + 1 by simp] at hm
  go_enter Try.func57, Try.ntmps57
  have hmm := @run_makeMap Try.prog
  go_upto_region 2 with fail
  clear hmm
  obtain ⟨E0, hE0⟩ : ∃ E, E = w.heap.size := ⟨_, rfl⟩
  have hE1 : w.heap.size ≤ E0 ∧ E0 ≤ w.heap.size := by omega
  rw [← hE0] at oA hm ⊢
  clear hE0
  refine wp_abs (fun V => Gr w V ∧ V.ownsRow E0 70 4 (.slice (some ⟨E0, 0, none⟩) 0 0) 0 [] ∧ MapB V (E0 + 1) 0 (fun _ => false)) ⟨gA, oA, hm⟩ ?_
  clear gA oA hm
  rintro V ⟨gA, oA, hm⟩
  go_wp2
  go_loopw [8, 6] (fun i s wr => Hid (∃ j g cap : Nat, j ≤ o.length ∧ i = .int .i64 j ∧ s = .slice (some ⟨g, 0, none⟩) j cap ∧ g ≠ E0 + 1 ∧ Gr w wr ∧ MapB wr (E0 + 1) j (memZ (o.take j)) ∧ wr.ownsRow E0 70 4 (.slice (some ⟨g, 0, none⟩) j cap) j ((pickL l (o.take j)).flatMap encL))) (fun i _ _ => o.length - (intOf i).toNat)
  case atStart => exact Lib.hid ⟨0, E0, 0, Nat.zero_le _, rfl, rfl, by omega, gA, hm.congr (Nat.le_refl _) (fun y => by simp [memZ, intsN]), by simpa [pickL] using oA⟩
  case round =>
    clear gA oA hm
    obtain ⟨j, g, cap, hj, rfl, rfl, hg, gW, hm, oA⟩ := hrel.out
    clear hrel
    by_cases hlt : j < o.length
    · obtain ⟨n, hx⟩ : ∃ n, o[j]? = some n := ⟨o[j], by simp [hlt]⟩
      have hnl := HL.out n (List.mem_of_getElem? hx)
      have hxi : (intsN o)[j]? = some (n : Int) := by unfold intsN; rw [List.getElem?_map, hx]; rfl
      obtain ⟨b1, o1, rfl, _, c1⟩ := IRow.get (ro.grow gW) hxi
      obtain ⟨⟨sl, sh, wl, wh⟩, hy⟩ : ∃ y, l[n]? = some y := ⟨l[n], by simp [hnl]⟩
      obtain ⟨b2, o2, rfl, _, q0, q1, q2, q3⟩ := LRow.get (rl.grow gW) hy
      dsimp only at q0 q1 q2 q3
      have hnot : memZ (o.take j) (n : Int) = false := by
        unfold memZ intsN
        simp only [decide_eq_false_iff_not, List.mem_map, not_exists, not_and]
        intro m hm2 he
        have : m = n := by omega
        subst this
        have hnd := HO.out
        rw [← List.take_append_drop j o] at hnd
        have hd : m ∈ o.drop j := by
          rw [List.mem_iff_getElem?]
          exact ⟨0, by rw [List.getElem?_drop]; exact hx⟩
        exact (List.nodup_append.1 hnd).2.2 m hm2 m hd rfl
      have htk : o.take (j + 1) = o.take j ++ [n] := by rw [List.take_add_one, hx]; rfl
      have hlook := hm.look (n : Int) (wf64 (by omega) (by omega))
      rw [hnot] at hlook
      obtain ⟨w5, hput, m5, hg5⟩ := hm.put (by omega) (n : Int) true (wf64 (by omega) (by omega))
      have gW5 : Gr w w5 := Kx.toGr ((Kx.gr (Z := noBlock) gW).th (Kx.grown (Z := fun b => b = E0 + 1) hg5 (fun r e => .inl (by cases e; rfl))) (fun i e => .inr (by subst e; omega)))
      have oA5 := oA.kept hg5 (.inr (by simp only [Value.ownBlock, ne_eq, Option.some.injEq]; exact hg))
      obtain ⟨_, _, _, _, r0, r1, r2, r3⟩ := LRow.get (rl.grow gW5) hy
      have hpk : (pickL l (o.take (j + 1))).flatMap encL = (pickL l (o.take j)).flatMap encL ++ [sl, sh, wl, wh].map (fun n => Value.int .i64 n) := by
        rw [htk]
        unfold pickL
        rw [List.map_append, List.flatMap_append]
        congr 1
        simp only [List.map_cons, List.map_nil, List.flatMap_cons, List.flatMap_nil, List.append_nil, List.getD_eq_getElem?_getD, hy]
        rfl
      have HPK := Lib.hid hpk
      have HTK := Lib.hid htk
      have M5 := Lib.hid m5
      have k1 : j + 1 ≤ maxLen := by unfold maxLen; omega
      have k2 : (j + 1) * 32 ≤ 140737488355328 := by omega
      have hn0 : decide ((n : Int) < 0) = false := by simp
      have hn1 : decide ((l.length : Int) ≤ (n : Int)) = false := by simp; omega
      have hn2 : ¬ l.length ≤ n := by omega
      have gAl := Gr.al w5 (.cells #[.int .i64 sl, .int .i64 sh, .int .i64 wl, .int .i64 wh] 70)
      have hlM := hm.lt
      have hM5 := hg5.size
      clear hpk htk hnot hx hxi hy m5 q0 q1 q2 q3
      go_wp2_with (at_builtin; refine wpList_append_lies _ rfl _ _ 53 rfl E0 70 i0 _ 4 32 Try.underlying53 hi hz0 hz1 hz2 rfl (by decide) (.slice (some ⟨g, 0, none⟩) j cap) j _ rfl (owns_keep oA5 gAl) ⟨w5.heap.size, 0, none⟩ 1 1 ([sl, sh, wl, wh].map (fun n => Value.int .i64 n)) rfl rfl (cell_news _ _ _) (ints_one _) (by omega) k1 k2 (by have := gAl.size; omega) _ rfl ?_; intro g2 cap2 Y hA2 hgr hat hlt2)
      go_roundw
      case rel =>
        have gY := (gW5.tr gAl).grown' (owns_keep oA5 gAl) hE1.1 hgr
        have hne : g2 ≠ E0 + 1 := by
          rcases hat with h | h
          · simp only [Value.ownBlock, Option.some.injEq] at h
            omega
          · have := gAl.size
            simp at h
            omega
        have hmY := (M5.out.keep gAl).grownRowZ hgr (fun r e => by simp only [Value.ownBlock, Option.some.injEq] at e; omega)
        refine ⟨_, _, _, .int .i64 ((j + 1 : Nat) : Int), Lib.hid ⟨j + 1, by omega, rfl, g2, cap2, rfl, hne, gY, hmY.congr (Nat.le_refl _) (fun y => by rw [HTK.out, memZ_snoc]), ?_⟩, rfl, rfl, rfl, by go_num⟩
        rw [HPK.out]
        exact hA2
      case measure => simp [intOf]; omega
    · obtain rfl : j = o.length := by omega
      rw [List.take_length] at oA
      have hpl := pickL_len l o
      obtain ⟨a3, c3, e3, h3⟩ := owns_row (enc := encL) (l := pickL l o) (fun _ => rfl) (by omega) (by rw [hpl]; exact oA)
      rw [hpl] at e3
      have H3 := Lib.hid h3
      have E3 := Lib.hid e3
      clear e3 h3 hpl hlt hj oA
      go_wp2
      exact bodyPost_ret (v := .tuple #[.slice (some ⟨g, 0, none⟩) o.length cap, .bool true]) (by simp [results, Try.results57, go_sem]) rfl ⟨a3, c3, by rw [E3.out], H3.out, gW⟩

end Go.Proofs.Ytcdilmagcdbogaa

namespace Go.Proofs.Ytcdilmagcdbogaa
set_option linter.unusedVariables false
set_option linter.unusedSimpArgs false
open Go.RowKit

set_option maxRecDepth 100000 in
set_option maxHeartbeats 2000000 in
theorem smaller_any (l m : List Int) (a b : Option Addr) (c d : Nat) (w : World) (hl : IRow w a l) (hm : IRow w b m) (hlen : l.length = m.length) :
    Calls Try.prog 58 #[.slice a l.length c, .slice b m.length d] w fun e w' => e = .returned (.bool (lexI l m)) ∧ Gr w w' := by
  have hl0 := hl.1
  have hm0 := hm.1
  obtain ⟨R, hR2⟩ : ∃ R, lexI l m = R := ⟨_, rfl⟩
  have HR := Lib.hid hR2
  have HR2 := Lib.hid hR2
  have HLen := Lib.hid hlen
  clear hR2 hlen
  go_enter Try.func58, Try.ntmps58
  go_wp2
  go_loopw [5] (fun t wr => Hid (∃ k : Nat, k ≤ l.length ∧ t = .int .i64 k ∧ Gr w wr ∧ l.take k = m.take k)) (fun t _ => l.length - (intOf t).toNat)
  case atStart => exact Lib.hid ⟨0, Nat.zero_le _, rfl, Below.refl _ _, by simp⟩
  case round =>
    obtain ⟨k, hk, rfl, gW, ht⟩ := hrel.out
    clear hrel
    by_cases hlt : k < l.length
    · have hlt2 : k < m.length := by have := HLen.out; omega
      obtain ⟨x, hx⟩ : ∃ x, l[k]? = some x := ⟨l[k], by simp [hlt]⟩
      obtain ⟨y, hy⟩ : ∃ y, m[k]? = some y := ⟨m[k], by simp [hlt2]⟩
      obtain ⟨b1, o1, rfl, h1, c1⟩ := IRow.get (hl.grow gW) hx
      obtain ⟨b2, o2, rfl, h2, c2⟩ := IRow.get (hm.grow gW) hy
      by_cases hxy : x = y
      · have hne : (x != y) = false := by simpa using hxy
        have ht' : l.take (k + 1) = m.take (k + 1) := by rw [List.take_add_one, List.take_add_one, hx, hy, ht, hxy]
        have HT := Lib.hid ht'
        clear ht ht' hx hy hxy
        go_upto_region 6 with fail
        go_quiet (fail)
        go_wp2
        go_roundw
        case rel => exact Lib.hid ⟨k + 1, by omega, by go_num, Gr.drewN gW _, HT.out⟩
        case measure => simp [intOf]; omega
      · have hne : (x != y) = true := by simpa using hxy
        have E := Lib.hid (show R = decide (x < y) by rw [← HR2.out]; exact lexI_at l m k x y ht hx hy hxy)
        clear ht hx hy hxy
        go_upto_region 6 with fail
        go_quiet (fail)
        have c1' := (Gr.drewN (Below.refl wr.heap.size wr) nq).keep c1
        have c2' := (Gr.drewN (Below.refl wr.heap.size wr) nq).keep c2
        have gN := Gr.drewN gW nq
        generalize wr.drewN nq = Z at *
        go_upto_region 7 with fail
        go_quiet (fail)
        go_wp2
        go_ret
        exact ⟨ret_bool (by rw [HR.out, E.out]), Gr.drewN gN _⟩
    · obtain rfl : k = l.length := by omega
      have E := Lib.hid (show R = false by
        rw [List.take_length, List.take_of_length_le (by have := HLen.out; omega)] at ht
        rw [← HR2.out, ht]
        exact lexI_self m)
      clear ht
      go_wp2
      go_ret
      exact ⟨ret_bool (by rw [HR.out, E.out]), gW⟩

end Go.Proofs.Ytcdilmagcdbogaa

namespace Go.Proofs.Ytcdilmagcdbogaa
set_option linter.unusedVariables false
set_option linter.unusedSimpArgs false
open Go.RowKit

theorem allN_succ (l : List Ld) : allN l + 1 = 2 ^ l.length := by
  have := Nat.two_pow_pos l.length
  unfold allN
  omega

theorem setO_lt2 {n : Nat} : ∀ {o : List Nat}, (∀ x ∈ o, x < n) → setO o < 2 ^ n
  | [], _ => Nat.two_pow_pos n
  | x :: o, h => by
    have ih := setO_lt2 (o := o) (fun y hy => h y (List.mem_cons_of_mem _ hy))
    have hx : 2 ^ x < 2 ^ n := Nat.pow_lt_pow_right (by decide) (h x List.mem_cons_self)
    show setO o ^^^ 2 ^ x < 2 ^ n
    exact Nat.xor_lt_two_pow ih hx

theorem setO_all {l : List Ld} {o : List Nat} (hl : ∀ x ∈ o, x < l.length) : setO o < allN l + 1 := by
  rw [allN_succ]
  exact setO_lt2 hl

/-- What stands in some order stands as a set. -/
theorem stack_set {l : List Ld} (h10 : l.length ≤ 10) {q : Int} {o : List Nat} (hn : o.Nodup) (hl : ∀ x ∈ o, x < l.length) (hs : standB l q o = true) : standsTo l q (allN l + 1) ((setO o : Nat) : Int) = true :=
  set_stands h10 hn hl (setO_all hl) (fun o' ho' => setO_all (fun x hx => hl x (ho'.subset hx))) hs

theorem setO_len {l : List Ld} (h10 : l.length ≤ 10) {o : List Nat} (hn : o.Nodup) (hl : ∀ x ∈ o, x < l.length) : (membL (setO o)).length = o.length :=
  (memb_perm hn (fun x hx => Nat.lt_of_lt_of_le (hl x hx) h10)).length_eq

/-- No order that stands is longer than Most's answer. -/
theorem prefix_most {l : List Ld} (h10 : l.length ≤ 10) {q : Int} {o : List Nat} (hn : o.Nodup) (hl : ∀ x ∈ o, x < l.length) (hs : standB l q o = true) : o.length ≤ (mostTo (standsTo l q (allN l + 1)) (allN l + 1)).length := by
  have h := most_ge (allN l + 1) (setO o) (setO_all hl) (stack_set h10 hn hl hs)
  rw [setO_len h10 hn hl] at h
  exact h

theorem memb_in {l : List Ld} (h10 : l.length ≤ 10) {y : Nat} (hy : y < allN l + 1) : membL y = (List.range l.length).filter (fun i => y.testBit i) := by
  rw [allN_succ] at hy
  exact (membL_end (Nat.div_eq_of_lt hy) h10).symm

theorem memb_le {l : List Ld} (h10 : l.length ≤ 10) {y : Nat} (hy : y < allN l + 1) : (membL y).length ≤ l.length := by
  rw [memb_in h10 hy]
  have := List.length_filter_le (fun i => y.testBit i) (List.range l.length)
  simpa using this

theorem allN_bit (l : List Ld) (i : Nat) : (allN l).testBit i = decide (i < l.length) := by
  unfold allN
  exact Nat.testBit_two_pow_sub_one _ _

theorem memb_full {l : List Ld} (h10 : l.length ≤ 10) {y : Nat} (hy : y < allN l + 1) (hlen : (membL y).length = l.length) : y = allN l := by
  have h := memb_in h10 hy
  rw [h] at hlen
  have h2 : ((List.range l.length).filter (fun i => y.testBit i)).length = (List.range l.length).length := by rw [hlen]; simp
  rw [List.length_filter_eq_length_iff] at h2
  apply Nat.eq_of_testBit_eq
  intro i
  rw [allN_bit]
  by_cases e : i < l.length
  · rw [h2 i (List.mem_range.2 e)]
    simp [e]
  · rw [allN_succ] at hy
    rw [Nat.testBit_lt_two_pow (Nat.lt_of_lt_of_le hy (Nat.pow_le_pow_right (by decide) (by omega)))]
    simp [e]

theorem memb_all {l : List Ld} (h10 : l.length ≤ 10) : (membL (allN l)).length = l.length := by
  rw [memb_in h10 (Nat.lt_succ_self _)]
  rw [List.filter_eq_self.2 (fun i hi => by rw [allN_bit]; simpa using hi)]
  simp

theorem full_set {l : List Ld} (h10 : l.length ≤ 10) {o : List Nat} (hn : o.Nodup) (hl : ∀ x ∈ o, x < l.length) (hlen : o.length = l.length) : setO o = allN l :=
  memb_full h10 (setO_all hl) (by rw [setO_len h10 hn hl, hlen])

theorem most_le {l : List Ld} (h10 : l.length ≤ 10) (f : Int → Bool) : (mostTo f (allN l + 1)).length ≤ l.length := by
  rcases most_some (f := f) (allN l + 1) with e | ⟨y, h1, h2, h3⟩
  · rw [e]
    simp
  · rw [h3]
    exact memb_le h10 h1

/-- Most takes all boxes just if all of them stand. -/
theorem most_full {l : List Ld} (h10 : l.length ≤ 10) {q : Int} : (mostTo (standsTo l q (allN l + 1)) (allN l + 1)).length = l.length ↔ standsTo l q (allN l + 1) ((allN l : Nat) : Int) = true := by
  constructor
  · intro h
    rcases most_some (f := standsTo l q (allN l + 1)) (allN l + 1) with e | ⟨y, h1, h2, h3⟩
    · rw [e] at h
      have e0 : allN l = 0 := by
        unfold allN
        rw [← h]
        rfl
      rw [e0]
      exact stands_zero 1
    · rw [h3] at h
      have e := memb_full h10 h1 h
      rw [e] at h2
      exact h2
  · intro h
    have h1 := most_ge (allN l + 1) (allN l) (Nat.lt_succ_self _) h
    rw [memb_all h10] at h1
    have h2 := most_le h10 (standsTo l q (allN l + 1))
    omega

theorem idx_at {m : List Nat} {x : Nat} (h : x ∈ m) : m[m.idxOf x]? = some x := by
  have h1 := List.idxOf_lt_length_of_mem h
  rw [List.getElem?_eq_getElem h1, List.getElem_idxOf]

/-- What Most picks has an order. -/
theorem most_order {l : List Ld} (h10 : l.length ≤ 10) {q : Int} {m : List Nat} (hm : mostTo (standsTo l q (allN l + 1)) (allN l + 1) = m) :
    m.Nodup ∧ (∀ i ∈ m, i < l.length) ∧ standsTo (pickL l m) q (allN (pickL l m) + 1) ((allN (pickL l m) : Nat) : Int) = true := by
  rcases most_some (f := standsTo l q (allN l + 1)) (allN l + 1) with e | ⟨y, h1, h2, h3⟩
  · rw [e] at hm
    subst hm
    exact ⟨List.nodup_nil, by simp, stands_zero 1⟩
  · have hK : allN l + 1 ≤ 1024 := by
      rw [allN_succ]
      exact Nat.pow_le_pow_right (n := 2) (by decide) h10
    obtain ⟨a1, a2, a3, a4, _⟩ := order_good h10 hK y h1 h2
    generalize orderL l q (standsTo l q (allN l + 1)) y = o at a1 a2 a3 a4
    rw [h3] at hm
    have hy : setO o = y := set_of_mem (by omega) a1 a2
    have hp : m.Perm o := by
      rw [← hm, ← hy]
      exact memb_perm a1 (fun x hx => Nat.lt_of_lt_of_le (a3 x hx) h10)
    have hmn : m.Nodup := hp.nodup_iff.2 a1
    have hml : ∀ i ∈ m, i < l.length := fun i hi => a3 i (hp.mem_iff.1 hi)
    refine ⟨hmn, hml, ?_⟩
    have hin : ∀ x ∈ o, m[m.idxOf x]? = some x := fun x hx => idx_at (hp.mem_iff.2 hx)
    have hpl := pickL_len l m
    have hml10 : m.length ≤ l.length := by
      rw [← hm]
      exact memb_le h10 h1
    have b1 : (o.map (fun x => m.idxOf x)).Nodup := by
      unfold List.Nodup
      rw [List.pairwise_map]
      refine List.Pairwise.imp_of_mem (fun {a b} ha hb hab e => hab ?_) a1
      have ea := hin a ha
      have eb := hin b hb
      rw [e, eb] at ea
      injection ea with ea
      exact ea.symm
    have b2 : ∀ i ∈ o.map (fun x => m.idxOf x), i < (pickL l m).length := by
      intro i hi
      obtain ⟨x, hx, rfl⟩ := List.mem_map.1 hi
      rw [hpl]
      exact List.idxOf_lt_length_of_mem (hp.mem_iff.2 hx)
    have b3 : pickL (pickL l m) (o.map (fun x => m.idxOf x)) = pickL l o := by
      unfold pickL
      rw [List.map_map]
      refine List.map_congr_left (fun x hx => ?_)
      show (m.map _).getD (m.idxOf x) _ = _
      rw [List.getD_eq_getElem?_getD, List.getElem?_map, hin x hx]
      rfl
    have b4 : standB (pickL l m) q (o.map (fun x => m.idxOf x)) = true := by
      rw [← weak_pick, b3, weak_pick]
      exact a4
    have hq10 : (pickL l m).length ≤ 10 := by omega
    have hs := stack_set hq10 b1 b2 b4
    rw [full_set hq10 b1 b2 (by rw [List.length_map, hpl, hp.length_eq])] at hs
    exact hs

/-- An order of all boxes that stands is not smaller than that of Order. -/
theorem order_least {l : List Ld} (h10 : l.length ≤ 10) {q : Int} {o : List Nat} (hn : o.Nodup) (hl : ∀ x ∈ o, x < l.length) (hlen : o.length = l.length) (hs : standB l q o = true) :
    standsTo l q (allN l + 1) ((allN l : Nat) : Int) = true ∧ lexI (intsN o) (intsN (orderL l q (standsTo l q (allN l + 1)) (allN l))) = false := by
  have hK : allN l + 1 ≤ 1024 := by
    rw [allN_succ]
    exact Nat.pow_le_pow_right (n := 2) (by decide) h10
  have e := full_set h10 hn hl hlen
  have h1 := stack_set h10 hn hl hs
  rw [e] at h1
  refine ⟨h1, (order_good h10 hK (allN l) (Nat.lt_succ_self _) h1).2.2.2.2 o hn (fun i => ?_) hl hs⟩
  rw [← e, setO_bit hn]
  simp

end Go.Proofs.Ytcdilmagcdbogaa

namespace Go.Proofs.Ytcdilmagcdbogaa
set_option linter.unusedVariables false
set_option linter.unusedSimpArgs false
open Go.RowKit

theorem stored_of {most : Int} {l : List Ld} {t : List Stp} {days : Int} (hm : (l.length : Int) ≤ most) (hl : ∀ x ∈ l, LdOk x ∧ x.sl ≤ x.sh ∧ x.wl ≤ x.wh ∧ x.sh ≤ 20000000 ∧ x.wh ≤ 100000) (ht : tableL t = true) (d0 : 0 ≤ days) (d1 : days ≤ 10000) : storedL most l t days = 0 := by
  have h1 : boxedL most l = 0 := by
    unfold boxedL
    rw [if_neg (by omega)]
    have : l.all okLd = true := by
      rw [List.all_eq_true]
      intro x hx
      obtain ⟨⟨⟨a, b, c, d⟩, e, f⟩, g, hh, i, j⟩ := hl x hx
      simp [okLd, okSpan, inB, in1]
      omega
    rw [this]
    rfl
  unfold storedL
  rw [h1, ht]
  simp [inB, in1]
  omega

end Go.Proofs.Ytcdilmagcdbogaa

namespace Go.Proofs.Ytcdilmagcdbogaa
set_option linter.unusedVariables false
set_option linter.unusedSimpArgs false
open Go.RowKit

/-- Fall of boxes picked by an order: Never, just if the order stands. -/
theorem fall_pick (l : List Ld) (o : List Nat) (t : List Stp) (days : Int) (hs : storedL 50 (pickL l o) t days = 0) (a c : Option Addr) (cap cc : Nat) (hcc : t.length ≤ cc) (w : World) (hr : LRow w a (pickL l o)) (ht : TRow w c t) :
    Calls Try.prog 38 #[.slice a o.length cap, .slice c t.length cc, .int .i64 days] w fun e w' => (∃ y z v, e = .returned (.tuple #[.int .i64 y, .int .i64 z, .int .i64 v]) ∧ (standB l (lastL t days) o = true → v = 7) ∧ (standB l (lastL t days) o = false → v = 0)) ∧ Gr w w' := by
  have h := fall_ok (pickL l o) t days hs a c cap cc hcc w hr ht
  rw [pickL_len] at h
  refine h.mono ?_
  rintro e w' ⟨rfl, g⟩
  refine ⟨?_, g⟩
  obtain ⟨⟨_, hl⟩, hT⟩ := stored_parts hs
  have hf := fall_last (l := pickL l o) (fun x hx => (hl x hx).1.2.1) hT
  have hw := weak_pick l (lastL t days) o
  cases hO : fallO (pickL l o) (untilL t days) with
  | none => exact ⟨0, 0, 7, by rw [fallV_none hO], ⟨fun _ => rfl, fun h => by rw [hw.1 (hf.1 hO)] at h; cases h⟩⟩
  | some p =>
    obtain ⟨s, i⟩ := p
    refine ⟨s.day, (i : Int), 0, by rw [fallV_some hO], ⟨fun h => ?_, fun _ => rfl⟩⟩
    have := hf.2 (hw.2 h)
    rw [hO] at this
    cases this

theorem pickL_mem {l : List Ld} {o : List Nat} (ho : ∀ i ∈ o, i < l.length) : ∀ x ∈ pickL l o, x ∈ l := by
  intro x hx
  obtain ⟨i, hi, rfl⟩ := List.mem_map.1 hx
  rw [List.getD_eq_getElem?_getD, List.getElem?_eq_getElem (ho i hi)]
  exact List.getElem_mem (ho i hi)

/-- What CrushStacked's body wants to know of the boxes, the table and the two answers; ol: Order's list, ev: its error, ml: Most's list. -/
structure Stk8 (l : List Ld) (t : List Stp) (days : Int) (ol ml : List Nat) (ev : Int) : Prop where
  l8 : l.length ≤ 8
  t7 : t.length ≤ 7
  order : ∀ (a c : Option Addr) (cap cc : Nat) (w : World), t.length ≤ cc → LRow w a l → TRow w c t → Calls Try.prog 47 #[.slice a l.length cap, .slice c t.length cc, .int .i64 days] w fun e w' => ∃ b d, e = .returned (.tuple #[.slice b ol.length d, .int .i64 ev]) ∧ IRow w' b (intsN ol) ∧ Gr w w'
  most : ∀ (a c : Option Addr) (cap cc : Nat) (w : World), t.length ≤ cc → LRow w a l → TRow w c t → Calls Try.prog 48 #[.slice a l.length cap, .slice c t.length cc, .int .i64 days] w fun e w' => ∃ b d, e = .returned (.tuple #[.slice b ml.length d, .int .i64 0]) ∧ IRow w' b (intsN ml) ∧ Gr w w'
  again : ∀ (a c : Option Addr) (cap cc : Nat) (w : World), t.length ≤ cc → LRow w a (pickL l ml) → TRow w c t → Calls Try.prog 47 #[.slice a ml.length cap, .slice c t.length cc, .int .i64 days] w fun e w' => ∃ b n d, e = .returned (.tuple #[.slice b n d, .int .i64 0]) ∧ Gr w w'
  fall : ∀ (o : List Nat) (a c : Option Addr) (cap cc : Nat) (w : World), o.length ≤ 8 → (∀ i ∈ o, i < l.length) → t.length ≤ cc → LRow w a (pickL l o) → TRow w c t → Calls Try.prog 38 #[.slice a o.length cap, .slice c t.length cc, .int .i64 days] w fun e w' => (∃ y z v, e = .returned (.tuple #[.int .i64 y, .int .i64 z, .int .i64 v]) ∧ (standB l (lastL t days) o = true → v = 7) ∧ (standB l (lastL t days) o = false → v = 0)) ∧ Gr w w'
  mostN : ml.Nodup ∧ (∀ i ∈ ml, i < l.length) ∧ ml.length ≤ l.length
  yes : ev = 0 → ml.length = l.length ∧ ol.Nodup ∧ (∀ i ∈ ol, i < l.length) ∧ ol.length = l.length ∧ standB l (lastL t days) ol = true
  no : ev ≠ 0 → ev = 9 ∧ ml.length < l.length
  pre : ∀ o : List Nat, o.Nodup → (∀ i ∈ o, i < l.length) → standB l (lastL t days) o = true → o.length ≤ ml.length
  least : ∀ o : List Nat, o.Nodup → (∀ i ∈ o, i < l.length) → o.length = l.length → standB l (lastL t days) o = true → ol.length = l.length ∧ lexI (intsN o) (intsN ol) = false

theorem stk8 {l : List Ld} {t : List Stp} {days : Int} (l8 : l.length ≤ 8) (t7 : t.length ≤ 7) (hl : ∀ x ∈ l, LdOk x ∧ x.sl ≤ x.sh ∧ x.wl ≤ x.wh ∧ x.sh ≤ 1069 ∧ x.wh ≤ 284) (ht : tableL t = true) (d0 : 0 ≤ days) (d1 : days ≤ 255) : ∃ ol ml ev, Stk8 l t days ol ml ev := by
  have h10 : l.length ≤ 10 := by omega
  have hl' : ∀ x ∈ l, LdOk x ∧ x.sl ≤ x.sh ∧ x.wl ≤ x.wh ∧ x.sh ≤ 20000000 ∧ x.wh ≤ 100000 := fun x hx => by
    obtain ⟨a, b, c, d, e⟩ := hl x hx
    exact ⟨a, b, c, by omega, by omega⟩
  have st : storedL 10 l t days = 0 := stored_of (by omega) hl' ht d0 (by omega)
  have stp : ∀ (m : Int) (o : List Nat), (∀ i ∈ o, i < l.length) → (o.length : Int) ≤ m → storedL m (pickL l o) t days = 0 := fun m o ho hm => stored_of (by rw [pickL_len]; exact hm) (fun x hx => hl' x (pickL_mem ho x hx)) ht d0 (by omega)
  obtain ⟨m1, m2, m3⟩ := most_order h10 (q := lastL t days) rfl
  have m4 := most_le h10 (standsTo l (lastL t days) (allN l + 1))
  have mf := most_full h10 (q := lastL t days)
  obtain ⟨ml, hml⟩ : ∃ m, mostTo (setsL l t days) (allN l + 1) = m := ⟨_, rfl⟩
  have hml' : mostTo (standsTo l (lastL t days) (allN l + 1)) (allN l + 1) = ml := hml
  rw [hml'] at m1 m2 m3 m4 mf
  have cM : ∀ (a c : Option Addr) (cap cc : Nat) (w : World), t.length ≤ cc → LRow w a l → TRow w c t → Calls Try.prog 48 #[.slice a l.length cap, .slice c t.length cc, .int .i64 days] w fun e w' => ∃ b d, e = .returned (.tuple #[.slice b ml.length d, .int .i64 0]) ∧ IRow w' b (intsN ml) ∧ Gr w w' := fun a c cap cc w h1 h2 h3 => by
    have := most_ok l t days st a c cap cc h1 w h2 h3
    rw [hml, intsN_len] at this
    exact this
  have cA : ∀ (a c : Option Addr) (cap cc : Nat) (w : World), t.length ≤ cc → LRow w a (pickL l ml) → TRow w c t → Calls Try.prog 47 #[.slice a ml.length cap, .slice c t.length cc, .int .i64 days] w fun e w' => ∃ b n d, e = .returned (.tuple #[.slice b n d, .int .i64 0]) ∧ Gr w w' := fun a c cap cc w h1 h2 h3 => by
    have := order_some (pickL l ml) t days (stp 10 ml m2 (by omega)) m3 a c cap cc h1 w h2 h3
    rw [pickL_len] at this
    refine this.mono ?_
    rintro e w' ⟨b, d, rfl, _, g⟩
    exact ⟨b, _, d, rfl, g⟩
  have cF : ∀ (o : List Nat) (a c : Option Addr) (cap cc : Nat) (w : World), o.length ≤ 8 → (∀ i ∈ o, i < l.length) → t.length ≤ cc → LRow w a (pickL l o) → TRow w c t → Calls Try.prog 38 #[.slice a o.length cap, .slice c t.length cc, .int .i64 days] w fun e w' => (∃ y z v, e = .returned (.tuple #[.int .i64 y, .int .i64 z, .int .i64 v]) ∧ (standB l (lastL t days) o = true → v = 7) ∧ (standB l (lastL t days) o = false → v = 0)) ∧ Gr w w' := fun o a c cap cc w h0 ho h1 h2 h3 => fall_pick l o t days (stp 50 o ho (by omega)) a c cap cc h1 w h2 h3
  have hpre : ∀ o : List Nat, o.Nodup → (∀ i ∈ o, i < l.length) → standB l (lastL t days) o = true → o.length ≤ ml.length := fun o h1 h2 h3 => by
    have := prefix_most h10 h1 h2 h3
    rw [hml'] at this
    exact this
  cases hF : setsL l t days ((allN l : Nat) : Int) with
  | true =>
    have hK : allN l + 1 ≤ 1024 := by
      rw [allN_succ]
      exact Nat.pow_le_pow_right (n := 2) (by decide) h10
    obtain ⟨a1, a2, a3, a4, _⟩ := order_good h10 hK (allN l) (Nat.lt_succ_self _) hF
    have hlo : (orderL l (lastL t days) (setsL l t days) (allN l)).length = l.length := by
      have e := setO_len h10 a1 a3
      rw [set_of_mem (by omega) a1 a2, memb_all h10] at e
      exact e.symm
    refine ⟨orderL l (lastL t days) (setsL l t days) (allN l), ml, 0, l8, t7, fun a c cap cc w h1 h2 h3 => ?_, cM, cA, cF, ⟨m1, m2, m4⟩, fun _ => ⟨mf.2 hF, a1, a3, hlo, a4⟩, fun h => absurd rfl h, hpre, fun o h1 h2 h3 h4 => ⟨hlo, (order_least h10 h1 h2 h3 h4).2⟩⟩
    have := order_some l t days st hF a c cap cc h1 w h2 h3
    rw [intsN_len] at this
    exact this
  | false =>
    have hne : ml.length ≠ l.length := fun e => by
      have := mf.1 e
      rw [show standsTo l (lastL t days) (allN l + 1) = setsL l t days from rfl, hF] at this
      cases this
    refine ⟨[], ml, 9, l8, t7, fun a c cap cc w h1 h2 h3 => ?_, cM, cA, cF, ⟨m1, m2, m4⟩, fun h => by omega, fun _ => ⟨rfl, by omega⟩, hpre, fun o h1 h2 h3 h4 => ?_⟩
    · refine (order_none l t days st hF a c cap cc h1 w h2 h3).mono ?_
      rintro e w' ⟨rfl, g⟩
      exact ⟨none, 0, rfl, RowOf.nil, g⟩
    · have := (order_least h10 h1 h2 h3 h4).1
      rw [show standsTo l (lastL t days) (allN l + 1) = setsL l t days from rfl, hF] at this
      cases this

end Go.Proofs.Ytcdilmagcdbogaa

namespace Go.Proofs.Ytcdilmagcdbogaa
set_option linter.unusedVariables false
set_option linter.unusedSimpArgs false
open Go.RowKit

theorem stk_gen {l : List Ld} {t : List Stp} {days : Int} (l8 : l.length ≤ 8) (t7 : t.length ≤ 7) (hl' : ∀ x ∈ l, LdOk x ∧ x.sl ≤ x.sh ∧ x.wl ≤ x.wh ∧ x.sh ≤ 20000000 ∧ x.wh ≤ 100000) (ht : tableL t = true) (d0 : 0 ≤ days) (d1 : days ≤ 255) : ∃ ol ml ev, Stk8 l t days ol ml ev := by
  have h10 : l.length ≤ 10 := by omega
  have st : storedL 10 l t days = 0 := stored_of (by omega) hl' ht d0 (by omega)
  have stp : ∀ (m : Int) (o : List Nat), (∀ i ∈ o, i < l.length) → (o.length : Int) ≤ m → storedL m (pickL l o) t days = 0 := fun m o ho hm => stored_of (by rw [pickL_len]; exact hm) (fun x hx => hl' x (pickL_mem ho x hx)) ht d0 (by omega)
  obtain ⟨m1, m2, m3⟩ := most_order h10 (q := lastL t days) rfl
  have m4 := most_le h10 (standsTo l (lastL t days) (allN l + 1))
  have mf := most_full h10 (q := lastL t days)
  obtain ⟨ml, hml⟩ : ∃ m, mostTo (setsL l t days) (allN l + 1) = m := ⟨_, rfl⟩
  have hml' : mostTo (standsTo l (lastL t days) (allN l + 1)) (allN l + 1) = ml := hml
  rw [hml'] at m1 m2 m3 m4 mf
  have cM : ∀ (a c : Option Addr) (cap cc : Nat) (w : World), t.length ≤ cc → LRow w a l → TRow w c t → Calls Try.prog 48 #[.slice a l.length cap, .slice c t.length cc, .int .i64 days] w fun e w' => ∃ b d, e = .returned (.tuple #[.slice b ml.length d, .int .i64 0]) ∧ IRow w' b (intsN ml) ∧ Gr w w' := fun a c cap cc w h1 h2 h3 => by
    have := most_ok l t days st a c cap cc h1 w h2 h3
    rw [hml, intsN_len] at this
    exact this
  have cA : ∀ (a c : Option Addr) (cap cc : Nat) (w : World), t.length ≤ cc → LRow w a (pickL l ml) → TRow w c t → Calls Try.prog 47 #[.slice a ml.length cap, .slice c t.length cc, .int .i64 days] w fun e w' => ∃ b n d, e = .returned (.tuple #[.slice b n d, .int .i64 0]) ∧ Gr w w' := fun a c cap cc w h1 h2 h3 => by
    have := order_some (pickL l ml) t days (stp 10 ml m2 (by omega)) m3 a c cap cc h1 w h2 h3
    rw [pickL_len] at this
    refine this.mono ?_
    rintro e w' ⟨b, d, rfl, _, g⟩
    exact ⟨b, _, d, rfl, g⟩
  have cF : ∀ (o : List Nat) (a c : Option Addr) (cap cc : Nat) (w : World), o.length ≤ 8 → (∀ i ∈ o, i < l.length) → t.length ≤ cc → LRow w a (pickL l o) → TRow w c t → Calls Try.prog 38 #[.slice a o.length cap, .slice c t.length cc, .int .i64 days] w fun e w' => (∃ y z v, e = .returned (.tuple #[.int .i64 y, .int .i64 z, .int .i64 v]) ∧ (standB l (lastL t days) o = true → v = 7) ∧ (standB l (lastL t days) o = false → v = 0)) ∧ Gr w w' := fun o a c cap cc w h0 ho h1 h2 h3 => fall_pick l o t days (stp 50 o ho (by omega)) a c cap cc h1 w h2 h3
  have hpre : ∀ o : List Nat, o.Nodup → (∀ i ∈ o, i < l.length) → standB l (lastL t days) o = true → o.length ≤ ml.length := fun o h1 h2 h3 => by
    have := prefix_most h10 h1 h2 h3
    rw [hml'] at this
    exact this
  cases hF : setsL l t days ((allN l : Nat) : Int) with
  | true =>
    have hK : allN l + 1 ≤ 1024 := by
      rw [allN_succ]
      exact Nat.pow_le_pow_right (n := 2) (by decide) h10
    obtain ⟨a1, a2, a3, a4, _⟩ := order_good h10 hK (allN l) (Nat.lt_succ_self _) hF
    have hlo : (orderL l (lastL t days) (setsL l t days) (allN l)).length = l.length := by
      have e := setO_len h10 a1 a3
      rw [set_of_mem (by omega) a1 a2, memb_all h10] at e
      exact e.symm
    refine ⟨orderL l (lastL t days) (setsL l t days) (allN l), ml, 0, l8, t7, fun a c cap cc w h1 h2 h3 => ?_, cM, cA, cF, ⟨m1, m2, m4⟩, fun _ => ⟨mf.2 hF, a1, a3, hlo, a4⟩, fun h => absurd rfl h, hpre, fun o h1 h2 h3 h4 => ⟨hlo, (order_least h10 h1 h2 h3 h4).2⟩⟩
    have := order_some l t days st hF a c cap cc h1 w h2 h3
    rw [intsN_len] at this
    exact this
  | false =>
    have hne : ml.length ≠ l.length := fun e => by
      have := mf.1 e
      rw [show standsTo l (lastL t days) (allN l + 1) = setsL l t days from rfl, hF] at this
      cases this
    refine ⟨[], ml, 9, l8, t7, fun a c cap cc w h1 h2 h3 => ?_, cM, cA, cF, ⟨m1, m2, m4⟩, fun h => by omega, fun _ => ⟨rfl, by omega⟩, hpre, fun o h1 h2 h3 h4 => ?_⟩
    · refine (order_none l t days st hF a c cap cc h1 w h2 h3).mono ?_
      rintro e w' ⟨rfl, g⟩
      exact ⟨none, 0, rfl, RowOf.nil, g⟩
    · have := (order_least h10 h1 h2 h3 h4).1
      rw [show standsTo l (lastL t days) (allN l + 1) = setsL l t days from rfl, hF] at this
      cases this

/-- One box at least stands. -/
theorem stk_one {l : List Ld} {t : List Stp} {days : Int} {ol ml : List Nat} {ev : Int} (h : Stk8 l t days ol ml ev) (h0 : 0 < l.length) (hl : ∀ x ∈ l, LdOk x) (hq : 0 ≤ lastL t days) : 1 ≤ ml.length := by
  have hs : standB l (lastL t days) [0] = true := by
    have hx : 0 ≤ slAt l 0 := by
      unfold slAt
      cases hc : l[0]? with
      | none => exact Int.le_refl 0
      | some x => exact (hl x (List.mem_of_getElem? hc)).2.1
    show (decide ((0 : Int) ≤ slAt l 0 * lastL t days / 1000) && true) = true
    simp
    exact Int.ediv_nonneg (Int.mul_nonneg hx hq) (by omega)
  have := h.pre [0] (by simp) (by simpa using h0) hs
  simpa using this

end Go.Proofs.Ytcdilmagcdbogaa

namespace Go.Proofs.Ytcdilmagcdbogaa
set_option linter.unusedVariables false
set_option linter.unusedSimpArgs false
open Go.RowKit

/-- A board is handed back. -/
def MadePost (mp mf : List Int) (w : World) (e : Ending) (w' : World) : Prop := ∃ a ac g gc, e = .returned (.agg #[.slice a mp.length ac, .slice g mf.length gc]) ∧ Gr w w' ∧ IRow w' a mp ∧ IRow w' g mf ∧ NewAt w.heap.size a ∧ NewAt w.heap.size g

/-- A blank is handed back. -/
def BlankPost (tab hei slo : Int) (pan top bot : List Int) (opn : Bool) (w : World) (e : Ending) (w' : World) : Prop :=
  ∃ pa pc ta tc ba bc, e = .returned (.agg #[.int .i64 tab, .slice pa pan.length pc, .int .i64 hei, .slice ta top.length tc, .slice ba bot.length bc, .int .i64 slo, .bool opn]) ∧ Gr w w' ∧ IRow w' pa pan ∧ IRow w' ta top ∧ IRow w' ba bot ∧ NewAt w.heap.size pa ∧ NewAt w.heap.size ta ∧ NewAt w.heap.size ba

end Go.Proofs.Ytcdilmagcdbogaa

namespace Go.Proofs.Ytcdilmagcdbogaa
set_option linter.unusedVariables false
set_option linter.unusedSimpArgs false
open Go.RowKit

theorem infoPaper : (Try.prog.info? 174).map (fun i => (i.zero, i.size, i.bytes)) = some (some (.agg #[.int .i64 0, .int .i64 0, .int .i64 0, .int .i64 0, .int .i64 0, .int .i64 0, .int .i64 0, .int .i64 0]), 8, 64) := by kernel_rfl

theorem infoFlute : (Try.prog.info? 176).map (fun i => (i.zero, i.size, i.bytes)) = some (some (.agg #[.int .i64 0, .int .i64 0, .int .i64 0, .int .i64 0]), 4, 32) := by kernel_rfl

/-- A store is handed back. -/
def StorePost (ps : List Paper) (fs : List Flute) (w : World) (e : Ending) (w' : World) : Prop := ∃ a ac g gc, e = .returned (.agg #[.slice a ps.length ac, .slice g fs.length gc]) ∧ Gr w w' ∧ PRow w' a ps ∧ FRow w' g fs ∧ NewAt w.heap.size a ∧ NewAt w.heap.size g

theorem ne_of_at {x y g H : Nat} (h : some x = some g ∨ g = H) (hx : x ≠ y) (hH : H ≠ y) : g ≠ y := by
  rcases h with h | h
  · injection h with h
    omega
  · omega

theorem oneP (x : Paper) : ∀ u ∈ encP x, u.oneCell' = true := by
  intro u hu
  simp only [encP, List.mem_cons, List.not_mem_nil, or_false] at hu
  rcases hu with rfl | rfl | rfl | rfl | rfl | rfl | rfl | rfl <;> rfl

theorem oneF (x : Flute) : ∀ u ∈ encF x, u.oneCell' = true := by
  intro u hu
  simp only [encF, List.mem_cons, List.not_mem_nil, or_false] at hu
  rcases hu with rfl | rfl | rfl | rfl <;> rfl

theorem Own.grownRow {w w' : World} {b : Nat} {vs : List Value} {row : Option Nat} (h : Own w b vs) (g : w.grownBy w' row) (hne : ∀ r, row = some r → b ≠ r) : Own w' b vs := by
  have hb := g.block b h.1.1 (fun e => hne b e.symm rfl)
  exact ⟨⟨Nat.lt_of_lt_of_le h.1.1 g.size, fun i v hv => (World.cell?_of_block (w := w) (a := ⟨b, i, none⟩) hb).trans (h.1.2 i v hv)⟩, fun i => (World.frozen?_of_block (w := w) (a := ⟨b, i, none⟩) hb).trans (h.2 i)⟩

end Go.Proofs.Ytcdilmagcdbogaa

namespace Go.Proofs.Ytcdilmagcdbogaa
set_option linter.unusedVariables false
set_option linter.unusedSimpArgs false
open Go.RowKit

def HeldP (b : Nat) (y0 y1 y2 y3 : Int) (c : Nat) (pv : Value) (w' : World) : Prop := w'.cell? ⟨b, 0, none⟩ = some (.int .u8 y0) ∧ w'.cell? ⟨b, 1, none⟩ = some (.int .u8 y1) ∧ w'.cell? ⟨b, 2, none⟩ = some (.int .u8 y2) ∧ w'.cell? ⟨b, 3, none⟩ = some (.int .u8 y3) ∧ w'.cell? ⟨c, 0, none⟩ = some pv

def HeldF (b : Nat) (y2 : Int) (c : Nat) (pv : Value) (w' : World) : Prop := w'.cell? ⟨b, 2, none⟩ = some (.int .u8 y2) ∧ w'.cell? ⟨c, 1, none⟩ = some pv

def fpaper (v0 v1 v2 v3 : Int) (k : Int) : Paper := ⟨1 + k % 2, 80 + v0, 100 + v1, 100 + v1 + v2 % 60, v3 % 90, v3 % 90 + v2 % 20, 2000 * v0, 5 * v1⟩

def fflute (v0 v1 v2 : Int) : Flute := ⟨2000 + 20 * v0, 2000 + 20 * v0 + (2000 + 20 * v0) * v2 / 400, 1000 + 8 * v1, 1000 + 8 * v1 + v2 % 200⟩

def storeP (x0 x1 x2 x3 x4 x5 x6 x7 x8 x9 x10 x11 : Int) : List Paper := [fpaper x0 x1 x2 x3 0, fpaper x4 x5 x6 x7 1, fpaper x8 x9 x10 x11 2]

def storeF (x12 x13 x14 x15 x16 x17 : Int) : List Flute := [fflute x12 x13 x14, fflute x15 x16 x17]

def Byt (n : Int) : Prop := 0 ≤ n ∧ n ≤ 255

theorem owns_other {w : World} {base : Nat} {e : TypeId} {sz : Nat} {v : Value} {n : Nat} {xs : List Value} {c i : Nat} {u : Value} (h : w.ownsRow base e sz v n xs) (hc : c < base) : (w.setCell ⟨c, i, none⟩ u).ownsRow base e sz v n xs := by
  obtain ⟨h1, h2⟩ := h
  refine ⟨h1, ?_⟩
  rcases h2 with h2 | ⟨b, cap, cur, hv, hb, hh, r⟩
  · exact .inl h2
  · exact .inr ⟨b, cap, cur, hv, hb, (Below.heap_setCell _ _ _ _ (show b ≠ c by omega)).trans hh, r⟩

theorem Box.c3 {w : World} {b : Nat} {x0 x1 x2 : Value} (h : Box w b [x0, x1, x2]) : w.cell? ⟨b, 0, none⟩ = some x0 ∧ w.cell? ⟨b, 1, none⟩ = some x1 ∧ w.cell? ⟨b, 2, none⟩ = some x2 := ⟨h.2 0 x0 rfl, h.2 1 x1 rfl, h.2 2 x2 rfl⟩

theorem Box.other {w : World} {b c i : Nat} {vs : List Value} {v : Value} (h : Box w c vs) (hne : c ≠ b) : Box (w.setCell ⟨b, i, none⟩ v) c vs :=
  ⟨by simpa using h.1, fun j u hu => by rw [cell_set_ne v (.inl hne)]; exact h.2 j u hu⟩

end Go.Proofs.Ytcdilmagcdbogaa

namespace Go.Proofs.Ytcdilmagcdbogaa
set_option linter.unusedVariables false
set_option linter.unusedSimpArgs false
open Go.RowKit

structure V6 where
  a : Int
  b : Int
  c : Int
  d : Int
  e : Int
  f : Int

structure V3 where
  a : Int
  b : Int
  c : Int

def encV6 (v : V6) : List Value := [.int .u8 v.a, .int .u8 v.b, .int .u8 v.c, .int .u8 v.d, .int .u8 v.e, .int .u8 v.f]

def encV3 (v : V3) : List Value := [.int .u8 v.a, .int .u8 v.b, .int .u8 v.c]

abbrev Row6 := RowOf 6 encV6

abbrev Row3 := RowOf 3 encV3

def isB (n : Int) : Prop := 0 ≤ n ∧ n ≤ 255

def B6 (v : V6) : Prop := isB v.a ∧ isB v.b ∧ isB v.c ∧ isB v.d ∧ isB v.e ∧ isB v.f

def B3 (v : V3) : Prop := isB v.a ∧ isB v.b ∧ isB v.c

def npW (n : Nat) : Nat := if n ≤ 2 then 2 else if n ≤ 5 then n else 5

def nfW (n : Nat) : Nat := if n = 0 then 1 else if n ≤ 3 then n else 3

def wareP (P : List V6) (i : Nat) : V6 := match P[i]? with | some v => v | none => ⟨i, 120, 20, 7, 30, 20⟩

def wareF (F : List V3) (i : Nat) : V3 := match F[i]? with | some v => v | none => ⟨80, 128, 36⟩

def paperW (k : Nat) (v : V6) : Paper := ⟨if 1 < k then 1 + v.a % 2 else 1 + k, 50 + v.b, 50 + v.c, 50 + v.c + v.a / 8, v.d % 100, v.d % 100 + v.d / 16, 1000 * v.e, 10 * v.f⟩

def fluteW (v : V3) : Flute := ⟨1000 + 35 * v.a, 1000 + 35 * v.a + (1000 + 35 * v.a) * v.b / 255, 500 + 10 * v.c, 500 + 10 * v.c + v.b % 90⟩

def storeWP (P : List V6) : List Paper := (List.range (npW P.length)).map fun i => paperW i (wareP P i)

def storeWF (F : List V3) : List Flute := (List.range (nfW F.length)).map fun i => fluteW (wareF F i)

theorem storeWP_len (P : List V6) : (storeWP P).length = npW P.length := by simp [storeWP]

theorem storeWF_len (F : List V3) : (storeWF F).length = nfW F.length := by simp [storeWF]

theorem npW_bd (n : Nat) : 2 ≤ npW n ∧ npW n ≤ 5 := by unfold npW; split <;> (try split) <;> omega

theorem nfW_bd (n : Nat) : 1 ≤ nfW n ∧ nfW n ≤ 3 := by unfold nfW; split <;> (try split) <;> omega

theorem storeWP_at {P : List V6} {k : Nat} (h : k < npW P.length) : (storeWP P)[k]? = some (paperW k (wareP P k)) := by
  unfold storeWP
  rw [List.getElem?_map, List.getElem?_range h]
  rfl

theorem storeWF_at {F : List V3} {k : Nat} (h : k < nfW F.length) : (storeWF F)[k]? = some (fluteW (wareF F k)) := by
  unfold storeWF
  rw [List.getElem?_map, List.getElem?_range h]
  rfl

theorem wareP_B {P : List V6} (hP : ∀ v ∈ P, B6 v) {k : Nat} (hk : k < 5) : B6 (wareP P k) := by
  unfold wareP
  cases h : P[k]? with
  | some v => exact hP v (List.mem_of_getElem? h)
  | none => simp only [B6, isB]; omega

theorem wareF_B {F : List V3} (hF : ∀ v ∈ F, B3 v) (k : Nat) : B3 (wareF F k) := by
  unfold wareF
  cases h : F[k]? with
  | some v => exact hF v (List.mem_of_getElem? h)
  | none => simp only [B3, isB]; omega

theorem u8_small {k : Nat} (h : k < 5) : IntKind.u8.wrap (k : Int) = k := by
  have h5 : k = 0 ∨ k = 1 ∨ k = 2 ∨ k = 3 ∨ k = 4 := by omega
  rcases h5 with rfl | rfl | rfl | rfl | rfl <;> rfl

theorem owns_val {w : World} {base : Nat} {e : TypeId} {sz : Nat} {v : Value} {n : Nat} {xs : List Value} (h : w.ownsRow base e sz v n xs) : ∃ a cap, v = .slice a n cap := by
  obtain ⟨h1, h2⟩ := h
  rcases h2 with ⟨hv, hn⟩ | ⟨b, cap, cur, hv, _⟩
  · exact ⟨none, 0, by rw [hv, hn]⟩
  · exact ⟨some ⟨b, 0, none⟩, cap, hv⟩

theorem Own.news {v : World} {b : Nat} {vs : List Value} (h : Own v b vs) : ∀ (j : Nat) (u : Value), vs[j]? = some u → v.cell? ((⟨b, 0, none⟩ : Addr).add j) = some u := by
  intro j u hu
  have hc := h.1.2 j u hu
  unfold Addr.add
  split
  · rename_i h0
    subst h0
    exact hc
  · simpa using hc

end Go.Proofs.Ytcdilmagcdbogaa
