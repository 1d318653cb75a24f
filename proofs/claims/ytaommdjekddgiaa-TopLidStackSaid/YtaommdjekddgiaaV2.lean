/- Contracts of slices.Values, Collect, Sort, Sorted, on ints. -/
import Derived.Test.YtaommdjekddgiaaV1
import Derived.Test.YtaommdjekddgiaaShelf
import Derived.Sort.OwnSortedInts
namespace Go.Proofs.Ytaommdjekddgiaa
set_option linter.unusedVariables false
set_option linter.unusedSimpArgs false
open Go.RowKit

/-- A row of numbers in its order. -/
def sortL (l : List Int) : List Int := l.mergeSort fun x y => decide (x ≤ y)

theorem sortL_len (l : List Int) : (sortL l).length = l.length := by simp [sortL]

set_option maxRecDepth 100000 in
theorem values_any (a : Option Addr) (n cap : Nat) (w : World) :
    Calls Try.prog 110 #[.slice a n cap] w fun e w' => e = .returned (.func (.func 136) #[] #[.pointer (some ⟨w.heap.size, 0, none⟩)]) ∧ w' = w.alloc (.cells #[.slice a n cap] 33) := by
  go_enter Try.func110, Try.ntmps110
  go_wp2
  go_ret
  exact ⟨rfl, rfl⟩

set_option maxRecDepth 100000 in
theorem collect_any (Bs b off cap : Nat) (zs : List Int) (hlen : zs.length ≤ 1000000) (w : World) (hb : b < w.heap.size)
    (hBs : w.cell? ⟨Bs, 0, none⟩ = some (.slice (some ⟨b, off, none⟩) zs.length cap)) (hI : IRow w (some ⟨b, off, none⟩) zs) :
    Calls Try.prog 114 #[.func (.func 136) #[] #[.pointer (some ⟨Bs, 0, none⟩)]] w fun e w' => ∃ v, e = .returned v ∧ w'.ownsRow w.heap.size 3 1 v zs.length (zs.map (Value.int .i64)) ∧ Gr w w' := by
  have hI' : ∀ j x, zs[j]? = some x → w.cell? ⟨b, off + j, none⟩ = some (.int .i64 x) := fun j x hx => by
    obtain ⟨b', o', e, _, hc⟩ := hI.get hx
    cases e
    exact hc
  have hA := callsIn_wide.1 (appendSeq_in Fence.wide 10 trivial trivial rfl (by decide) Bs b off cap zs hlen w hb hBs hI')
  go_enter Try.func114, Try.ntmps114
  go_wp2_with (go_at_call 138; refine hA.mono ?_; rintro e w2 ⟨v, rfl, hr, _, hg⟩)
  go_ret
  exact ⟨_, rfl, hr, hg⟩

/-- What the sort leaves, told in rows. -/
def SortPost (base b : Nat) (zs : List Int) (w : World) (e : Ending) (w' : World) : Prop :=
  e = .returned (.tuple #[]) ∧ Below base w w' ∧ IRow w' (some ⟨b, 0, none⟩) (sortL zs)

theorem sort_any (base b cap : Nat) (zs : List Int) (hz : zs.length ≤ 1000000) (w : World) (hH : Sort.Holds (Value.int .i64) w b 0 zs.toArray) (hb : b < w.heap.size) (hbase : base ≤ b) :
    Calls Try.prog 108 #[.slice (some ⟨b, 0, none⟩) zs.length cap] w (SortPost base b zs w) := by
  refine (Try.slices_Sort_int b 0 cap zs w hH hb (by omega)).mono ?_
  rintro e w' ⟨rfl, n, os, rfl⟩
  refine ⟨rfl, ?_, ?_⟩
  · exact (Below.refl base w).grown (grownBy_sortedI _) (by omega) (fun k hk => by cases hk; exact hbase)
  · refine ⟨by rw [sortL_len]; omega, fun j x hx => ⟨b, 0, rfl, ?_, ?_⟩⟩
    · simp [Sort.putRow, Sort.mapBlock, Sort.ahead]; omega
    · intro i v hv
      have hj : j < (sortL zs).length := (List.getElem?_eq_some_iff.1 hx).1
      obtain rfl : i = 0 := by
        have := (List.getElem?_eq_some_iff.1 hv).1
        simp [encI] at this
        exact this
      have hv' : v = Value.int .i64 x := by simpa [encI] using hv.symm
      rw [Sort.cell?_grow _ _ _ (by simp [Sort.putRow, Sort.mapBlock, Sort.ahead]; omega)]
      have h := Sort.cell?_putRow (Value.int .i64) (Sort.ahead w n) b 0 zs.toArray (sortL zs).toArray (fun k hk => hH k hk) (by simp [sortL]) j (by simpa using hj)
      have hx' : (sortL zs).toArray[j]! = x := by
        rw [getElem!_pos _ j (by simpa using hj)]
        have := (List.getElem?_eq_some_iff.1 hx).2
        simpa using this
      rw [hx'] at h
      rw [hv']
      simpa [sortL] using h

theorem holds_own {w : World} {base g cap : Nat} {zs : List Int} {e : TypeId} (h : w.ownsRow base e 1 (.slice (some ⟨g, 0, none⟩) zs.length cap) zs.length (zs.map (Value.int .i64))) (h0 : 0 < zs.length) :
    Sort.Holds (Value.int .i64) w g 0 zs.toArray ∧ g < w.heap.size ∧ base ≤ g := by
  obtain ⟨h1, ⟨_, hn⟩ | ⟨b, c, cur, hv, hb, hh, _, _, hs, hx⟩⟩ := h
  · omega
  · cases hv
    refine ⟨holds_of_blockI hh (by simpa using hx), (Array.getElem?_eq_some_iff.1 hh).1, hb⟩

set_option maxRecDepth 100000 in
theorem sorted_any (Bs b off cap : Nat) (zs : List Int) (h0 : 0 < zs.length) (hlen : zs.length ≤ 1000000) (w : World) (hb : b < w.heap.size)
    (hBs : w.cell? ⟨Bs, 0, none⟩ = some (.slice (some ⟨b, off, none⟩) zs.length cap)) (hI : IRow w (some ⟨b, off, none⟩) zs) :
    Calls Try.prog 109 #[.func (.func 136) #[] #[.pointer (some ⟨Bs, 0, none⟩)]] w fun e w' => ∃ g cap', e = .returned (.slice (some ⟨g, 0, none⟩) zs.length cap') ∧ IRow w' (some ⟨g, 0, none⟩) (sortL zs) ∧ Gr w w' := by
  have hC := collect_any Bs b off cap zs hlen w hb hBs hI
  have H0 := Lib.hid h0
  go_enter Try.func109, Try.ntmps109
  go_wp2_with (first
    | (go_at_call 114; refine hC.mono ?_; rintro e w2 ⟨v, rfl, hr, hg⟩; obtain ⟨m, hm⟩ : ∃ m, zs.length = m + 1 := ⟨zs.length - 1, by have := H0.out; omega⟩; have hr' := hr; rw [hm] at hr'; obtain ⟨g, c, rfl⟩ := ownsRow_succ hr'; clear hr'; rw [← hm] at hr; rw [← hm]; clear hm m; obtain ⟨hH, hgl, hgb⟩ := holds_own hr H0.out)
    | (go_at_call 108; refine (sort_any w.heap.size g c zs hlen w2 hH hgl hgb).mono ?_; rintro e w3 ⟨rfl, hb3, hr3⟩))
  go_ret
  exact ⟨_, _, rfl, hr3, hg.trans hb3⟩

end Go.Proofs.Ytaommdjekddgiaa
