/- Contracts of the law's small functions: pubIn, pubHas, pubByte, pubInts, pubSingle, pubDouble. -/
import Derived.Test.YtkfhmfidgdpeiaaS2
import Derived.Test.YtkfhmfidgdpeiaaQm
namespace Go.Proofs.Ytkfhmfidgdpeiaa
set_option linter.unusedVariables false
set_option linter.unusedSimpArgs false
open Go.RowKit

/-- The integer of a span by a byte. -/
def inL (lo hi by' : Int) : Int := lo + by' * (hi - lo) / 255

theorem inL_bd {lo hi y : Int} (h : lo ≤ hi) (y0 : 0 ≤ y) (y1 : y ≤ 255) : lo ≤ inL lo hi y ∧ inL lo hi y ≤ hi := by
  have h0 : 0 ≤ y * (hi - lo) := Int.mul_nonneg y0 (by omega)
  have h1 : y * (hi - lo) ≤ 255 * (hi - lo) := Int.mul_le_mul_of_nonneg_right y1 (by omega)
  unfold inL
  omega

theorem inL_0 (lo hi : Int) : inL lo hi 0 = lo := by simp [inL]

theorem inL_255 (lo hi : Int) : inL lo hi 255 = hi := by unfold inL; omega

def encU (n : Int) : List Value := [.int .u8 n]

abbrev URow := RowOf 1 encU

theorem URow.get {w : World} {a : Option Addr} {l : List Int} (h : URow w a l) {j : Nat} {x : Int} (hx : l[j]? = some x) :
    ∃ b off, a = some ⟨b, off, none⟩ ∧ b < w.heap.size ∧ w.cell? ⟨b, off + j, none⟩ = some (.int .u8 x) := by
  obtain ⟨b, off, ha, hb, hc⟩ := h.2 j x hx
  have := hc 0 (.int .u8 x) rfl
  exact ⟨b, off, ha, hb, by simpa using this⟩

/-- Bytes are from 0 to 255. -/
def Bytes (l : List Int) : Prop := ∀ x ∈ l, 0 ≤ x ∧ x ≤ 255

/-- A byte of a list, used again and again. -/
def byteL (l : List Int) (i : Nat) : Int := l.getD (i % l.length) 0

theorem byteL_bd {l : List Int} (h : Bytes l) (i : Nat) : 0 ≤ byteL l i ∧ byteL l i ≤ 255 := by
  unfold byteL
  cases hx : l[i % l.length]? with
  | none => simp [hx]
  | some x => simp only [List.getD_eq_getElem?_getD, hx, Option.getD_some]; exact h x (List.mem_of_getElem? hx)

theorem pubByte_any (l : List Int) (hl : Bytes l) (i : Nat) (hi : i ≤ 1000) (a : Option Addr) (cap : Nat) (w : World) (hr : URow w a l) :
    Calls Try.prog 53 #[.slice a l.length cap, .int .i64 i] w fun e w' => e = .returned (.int .i64 (byteL l i)) ∧ w = w' := by
  have hm := hr.1
  by_cases h0 : l.length = 0
  · have e : l = [] := List.eq_nil_of_length_eq_zero h0
    subst e
    have E := Lib.hid (show byteL [] i = 0 from rfl)
    clear h0
    simp only [List.length_nil]
    go_enter Try.func53, Try.ntmps53
    go_wp2
    go_ret
    exact ⟨ret_int E.out.symm, rfl⟩
  · have hlt : i % l.length < l.length := Nat.mod_lt _ (by omega)
    obtain ⟨x, hx⟩ := get_of_lt hlt
    obtain ⟨b0, off0, rfl, hb0, hc⟩ := hr.get hx
    obtain ⟨x0, x1⟩ := hl x (List.mem_of_getElem? hx)
    have E := Lib.hid (show byteL l i = x by simp [byteL, hx])
    have hz : ((l.length : Int) == 0) = false := by rw [beq_eq_false_iff_ne]; omega
    have hz2 : ¬ (l.length : Int) = 0 := by omega
    have hi0 : (0 : Int) ≤ (i : Int) % (l.length : Int) := Int.emod_nonneg _ hz2
    have hi1 : (i : Int) % (l.length : Int) < (l.length : Int) := Int.emod_lt_of_pos _ (by omega)
    clear hx hlt h0
    go_enter Try.func53, Try.ntmps53
    go_wp2
    go_ret
    exact ⟨ret_int E.out.symm, rfl⟩

theorem flat_index {α : Type} {enc : α → List Value} {sz : Nat} (he : ∀ x, (enc x).length = sz) : ∀ (l : List α) (j : Nat) (u : Value), (l.flatMap enc)[j]? = some u → ∃ q i x, j = q * sz + i ∧ l[q]? = some x ∧ (enc x)[i]? = some u
  | [], j, u, h => by simp at h
  | y :: l, j, u, h => by
    simp only [List.flatMap_cons] at h
    by_cases hj : j < (enc y).length
    · rw [List.getElem?_append_left hj] at h
      exact ⟨0, j, y, by simp, rfl, h⟩
    · rw [List.getElem?_append_right (by omega)] at h
      obtain ⟨q, i, x, e, hx, hu⟩ := flat_index he l _ u h
      rw [he y] at e hj
      refine ⟨q + 1, i, x, by rw [Nat.succ_mul]; omega, by simpa using hx, hu⟩

theorem row_news {α : Type} {enc : α → List Value} {sz : Nat} {w : World} {b off : Nat} {l : List α} (he : ∀ x, (enc x).length = sz) (h : RowOf sz enc w (some ⟨b, off, none⟩) l) :
    ∀ j u, (l.flatMap enc)[j]? = some u → w.cell? ((⟨b, off, none⟩ : Addr).add j) = some u := by
  intro j u hu
  obtain ⟨q, i, x, rfl, hx, hi⟩ := flat_index he l j u hu
  obtain ⟨b', off', e, _, hc⟩ := h.2 q x hx
  injection e with e
  injection e with e1 e2
  subst e1
  subst e2
  have := hc i u hi
  unfold Addr.add
  split
  · rename_i h0
    rw [← this]
    congr 2
    omega
  · rw [← this]
    simp only [Nat.add_assoc]

theorem owns_empty (w : World) (e : TypeId) (sz : Nat) : (w.alloc (.cells #[] e)).ownsRow w.heap.size e sz (.slice (some ⟨w.heap.size, 0, none⟩) 0 0) 0 [] :=
  ⟨by simp, .inr ⟨w.heap.size, 0, #[], rfl, Nat.le_refl _, by show (Array.push w.heap _)[_]? = _; simp, Nat.le_refl _, Nat.zero_le _, by simp, by simp⟩⟩

theorem RowOf.addr {α : Type} {sz : Nat} {enc : α → List Value} {w : World} {a : Option Addr} {l : List α} (h : RowOf sz enc w a l) (h0 : 0 < l.length) : ∃ b off, a = some ⟨b, off, none⟩ ∧ b < w.heap.size := by
  obtain ⟨x, hx⟩ := get_of_lt h0
  obtain ⟨b, off, ha, hb, _⟩ := h.2 0 x hx
  exact ⟨b, off, ha, hb⟩

theorem one_flat {α : Type} {enc : α → List Value} (he : ∀ x, ∀ u ∈ enc x, u.oneCell' = true) (l : List α) : ∀ u ∈ l.flatMap enc, u.oneCell' = true := by
  intro u hu
  obtain ⟨x, _, hx⟩ := List.mem_flatMap.1 hu
  exact he x u hx

theorem infoInt : (Try.prog.info? 3).map (fun i => (i.zero, i.size, i.bytes)) = some (some (.int .i64 0), 1, 8) := by kernel_rfl

/-- An address in a block from n on. -/
def NewAt (n : Nat) (a : Option Addr) : Prop := ∀ b off c, a = some ⟨b, off, c⟩ → n ≤ b

theorem NewAt.lit (b off n : Nat) (h : n ≤ b) : NewAt n (some ⟨b, off, none⟩) := by
  intro b' off' c e
  injection e with e
  injection e with e1 _ _
  omega

theorem NewAt.le {m n : Nat} {a : Option Addr} (h : NewAt n a) (hm : m ≤ n) : NewAt m a := fun b off c e => Nat.le_trans hm (h b off c e)

/-- A row that the call owns is a row, in a block of the call's own. -/
theorem owns_row_new {α : Type} {enc : α → List Value} {sz : Nat} {w : World} {base : Nat} {e : TypeId} {v : Value} {l : List α} (he : ∀ x, (enc x).length = sz) (hl : l.length ≤ 9223372036854775807) (h : w.ownsRow base e sz v l.length (l.flatMap enc)) :
    ∃ a cap, v = .slice a l.length cap ∧ RowOf sz enc w a l ∧ NewAt base a := by
  obtain ⟨a, cap, hv, hr⟩ := owns_row he hl h
  refine ⟨a, cap, hv, hr, fun b off c ea => ?_⟩
  subst ea
  subst hv
  exact owns_lt h rfl

theorem RowOf.other {α : Type} {sz : Nat} {enc : α → List Value} {w : World} {a : Option Addr} {l : List α} {c i n : Nat} {v : Value} (h : RowOf sz enc w a l) (hn : NewAt n a) (hc : c < n) : RowOf sz enc (w.setCell ⟨c, i, none⟩ v) a l := by
  refine ⟨h.1, fun j x hx => ?_⟩
  obtain ⟨b, off, ha, hb, hcl⟩ := h.2 j x hx
  refine ⟨b, off, ha, by simpa using hb, fun k u hu => ?_⟩
  have := hn b off none ha
  rw [cell_set_ne v (.inl (by omega))]
  exact hcl k u hu

theorem RowOf.older {α : Type} {sz : Nat} {enc : α → List Value} {w w1 : World} {a : Option Addr} {l : List α} {c i : Nat} {v : Value} (h : RowOf sz enc w a l) (h0 : RowOf sz enc w1 a l) (hc : w1.heap.size ≤ c) : RowOf sz enc (w.setCell ⟨c, i, none⟩ v) a l := by
  refine ⟨h.1, fun j x hx => ?_⟩
  obtain ⟨b, off, ha, hb, hcl⟩ := h.2 j x hx
  obtain ⟨b', off', ha', hb', _⟩ := h0.2 j x hx
  have e : b = b' := by rw [ha] at ha'; injection ha' with e; injection e
  refine ⟨b, off, ha, by simpa using hb, fun k u hu => ?_⟩
  rw [cell_set_ne v (.inl (by omega))]
  exact hcl k u hu

/-- A row of ints is handed back, in a block of the call's own. -/
def IntsPost (l : List Int) (w : World) (e : Ending) (w' : World) : Prop := ∃ a' cap', e = .returned (.slice a' l.length cap') ∧ Gr w w' ∧ IRow w' a' l ∧ NewAt w.heap.size a'

set_option maxHeartbeats 400000 in
/-- A copy of integers. -/
theorem pubInts_any (l : List Int) (h0 : 0 < l.length) (hl : l.length ≤ 1000) (a : Option Addr) (cap : Nat) (w : World) (hr : IRow w a l) :
    Calls Try.prog 17 #[.slice a l.length cap] w (IntsPost l w) := by
  obtain ⟨b, off, rfl, hb⟩ := hr.addr h0
  obtain ⟨i0, hi, hz0, hz1, hz2⟩ := info_parts infoInt
  have hr1 := hr.grow (Gr.al w (.cells #[] 3))
  have h1 : 0 + l.length ≤ maxLen := by unfold maxLen; omega
  have h2 : (0 + l.length) * 8 ≤ 140737488355328 := by omega
  have hfl := flat_len (enc := encI) (sz := 1) (fun _ => rfl) l
  have hnews := row_news (enc := encI) (sz := 1) (fun _ => rfl) hr1
  have Hfl := Lib.hid hfl
  have Hnews := Lib.hid hnews
  clear hfl hnews
  go_enter Try.func17, Try.ntmps17
  go_wp2_with (at_builtin; refine wpList_append_own _ rfl _ _ 24 rfl w.heap.size 3 i0 (.int .i64 0) 1 8 Try.underlying24 hi hz0 hz1 hz2 rfl (by decide) _ _ _ rfl (owns_empty w _ _) ⟨b, off, none⟩ l.length cap (l.flatMap encI) rfl Hfl.out Hnews.out (one_flat (fun x u hu => by simp [encI] at hu; subst hu; rfl) l) h1 h2 (by simp) ?_; intro v' w1 hown hgrow _)
  obtain ⟨a', cap', hv, hr2, hn2⟩ := owns_row_new (enc := encI) (l := l) (fun _ => rfl) (by omega) (by simpa using hown)
  subst hv
  have Hr2 := Lib.hid hr2
  have Hn2 := Lib.hid hn2
  clear hr2 hn2 hown
  go_wp2
  go_ret
  exact ⟨a', cap', rfl, (Gr.al w _).grown' (owns_empty w _ 1) (Nat.le_refl _) hgrow, Hr2.out, Hn2.out⟩

end Go.Proofs.Ytkfhmfidgdpeiaa
