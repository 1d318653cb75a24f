/- Contract of fits: whether a thing fits into the sheet's box. -/
import Derived.Test.YtaommdjekddgiaaS8
import Derived.Test.YtaommdjekddgiaaV2
namespace Go.Proofs.Ytaommdjekddgiaa
set_option linter.unusedVariables false
set_option linter.unusedSimpArgs false
open Go.RowKit

theorem fieldSpan_0 (a b : Value) (w : World) : (Instr.field 38 (.agg #[a, b]) 0).run Try.prog w = .ok a w := by kernel_rfl

set_option maxRecDepth 100000 in
set_option maxHeartbeats 2000000 in
theorem fitsAt_any (tab hei slo off : Int) (pan top bot : List Int) (pa ta ba : Option Addr) (pc tc bc : Nat) (opn : Bool) (c : Int) (G : GoodB tab hei slo pan top bot opn) (h2 : 0 ≤ off) (h3 : off ≤ 3000) (c0 : 0 ≤ c) (c1 : c ≤ 10000) (k : Nat) (hk : k < 9) (b0 b1 : Nat) (w : World)
    (hx : Box w b0 [.int .i64 tab, .slice pa pan.length pc, .int .i64 hei, .slice ta top.length tc, .slice ba bot.length bc, .int .i64 slo, .bool opn, .int .i64 off, .slice ta top.length tc, .slice ba bot.length bc]) (hy : Box w b1 [.int .i64 c]) (hp : IRow w pa pan) (ht : IRow w ta top) (hb : IRow w ba bot) :
    Calls Try.prog 107 #[.int .i64 k, .pointer (some ⟨b0, 0, none⟩), .pointer (some ⟨b1, 0, none⟩)] w fun e w' => e = .returned (.int .i64 (innerAt off hei pan top bot opn c c k).lo) ∧ Gr w w' := by
  have hI := inside_all tab hei slo off pan top bot pa ta ba pc tc bc opn c c G h2 h3 c0 c1 c0 c1 k hk w hp ht hb
  obtain ⟨e0, e1, e2, e3, e4, e5, e6, e7, e8, e9⟩ := hx.c10
  have q0 := hy.c1
  have hfi := fieldSpan_0
  go_enter Try.func107, Try.ntmps107
  go_wp2_with (go_at_call 59; refine hI.mono ?_; rintro e w2 ⟨rfl, hg⟩)
  go_ret
  exact ⟨rfl, hg⟩

theorem fitsAt_lit (tab hei slo off : Int) (pan top bot : List Int) (pa ta ba : Option Addr) (pc tc bc : Nat) (opn : Bool) (c : Int) (G : GoodB tab hei slo pan top bot opn) (h2 : 0 ≤ off) (h3 : off ≤ 3000) (c0 : 0 ≤ c) (c1 : c ≤ 10000) (k : Nat) (j : Int) (hj : j = (k : Int)) (hk : k < 9) (b0 b1 : Nat) (w : World)
    (hx : Box w b0 [.int .i64 tab, .slice pa pan.length pc, .int .i64 hei, .slice ta top.length tc, .slice ba bot.length bc, .int .i64 slo, .bool opn, .int .i64 off, .slice ta top.length tc, .slice ba bot.length bc]) (hy : Box w b1 [.int .i64 c]) (hp : IRow w pa pan) (ht : IRow w ta top) (hb : IRow w ba bot) :
    Calls Try.prog 107 #[.int .i64 j, .pointer (some ⟨b0, 0, none⟩), .pointer (some ⟨b1, 0, none⟩)] w fun e w' => e = .returned (.int .i64 (innerAt off hei pan top bot opn c c k).lo) ∧ Gr w w' := by
  subst hj
  exact fitsAt_any tab hei slo off pan top bot pa ta ba pc tc bc opn c G h2 h3 c0 c1 k hk b0 b1 w hx hy hp ht hb

/-- The measures of a box into which a thing must fit, and whether it does. -/
def fitsBox (off hei : Int) (pan top bot : List Int) (opn : Bool) (c : Int) : List Int :=
  [min (innerAt off hei pan top bot opn c c 0).lo (innerAt off hei pan top bot opn c c 2).lo, min (innerAt off hei pan top bot opn c c 1).lo (innerAt off hei pan top bot opn c c 3).lo, (innerAt off hei pan top bot opn c c 4).lo]

def fitsP (p : Int × Int) : Bool := decide (1000 * p.1 ≤ p.2)

def fitsL (thing box : List Int) : Bool := ((sortL thing).zip (sortL box)).all fitsP

theorem holds_new3 (w : World) (t : TypeId) (a b c : Int) (n : Nat) (hn : n = w.heap.size) : Sort.Holds (Value.int .i64) (w.alloc (.cells #[.int .i64 a, .int .i64 b, .int .i64 c] t)) n 0 ([a, b, c] : List Int).toArray := by
  subst hn
  exact holds_of_blockI (World.alloc_heap_new w _) (by simp)

theorem sortL_mem {l : List Int} {x : Int} (h : x ∈ sortL l) : x ∈ l := (List.mergeSort_perm l _).mem_iff.1 h

theorem IRow.at0 {w : World} {g : Nat} {l : List Int} (h : IRow w (some ⟨g, 0, none⟩) l) {j : Nat} {x : Int} (hx : l[j]? = some x) : w.cell? ⟨g, j, none⟩ = some (.int .i64 x) := by
  obtain ⟨b, off, e, _, hc⟩ := h.get hx
  cases e
  simpa using hc

theorem sorted_three (Bs b off cap : Nat) (zs : List Int) (hl : zs.length = 3) (w : World) (hb : b < w.heap.size)
    (hBs : w.cell? ⟨Bs, 0, none⟩ = some (.slice (some ⟨b, off, none⟩) 3 cap)) (hI : IRow w (some ⟨b, off, none⟩) zs) :
    Calls Try.prog 109 #[.func (.func 136) #[] #[.pointer (some ⟨Bs, 0, none⟩)]] w fun e w' => ∃ g cap', e = .returned (.slice (some ⟨g, 0, none⟩) 3 cap') ∧ IRow w' (some ⟨g, 0, none⟩) (sortL zs) ∧ Gr w w' := by
  have h := sorted_any Bs b off cap zs (by omega) (by omega) w hb (by rw [hl]; exact hBs) hI
  rw [hl] at h
  exact h

set_option maxRecDepth 100000 in
set_option maxHeartbeats 4000000 in
theorem fits_any (tab hei slo off : Int) (pan top bot : List Int) (pa ta ba : Option Addr) (pc tc bc : Nat) (opn : Bool) (c : Int) (thing : List Int) (G : GoodB tab hei slo pan top bot opn) (h2 : 0 ≤ off) (h3 : off ≤ 3000) (c0 : 0 ≤ c) (c1 : c ≤ 10000) (hl : thing.length = 3) (hth : ∀ x ∈ thing, 0 ≤ x ∧ x ≤ 3000) (td : Option Addr) (tcap : Nat) (w : World)
    (hp : IRow w pa pan) (ht : IRow w ta top) (hb : IRow w ba bot) (htd : IRow w td thing) :
    Calls Try.prog 61 #[.agg #[.int .i64 tab, .slice pa pan.length pc, .int .i64 hei, .slice ta top.length tc, .slice ba bot.length bc, .int .i64 slo, .bool opn, .int .i64 off, .slice ta top.length tc, .slice ba bot.length bc], .slice td thing.length tcap, .int .i64 c] w fun e w' => e = .returned (.bool (fitsL thing (fitsBox off hei pan top bot opn c))) ∧ Gr w w' := by
  obtain ⟨tb, toff, rfl, htb⟩ := htd.addr (by omega)
  have gX := (Gr.al w (.cells #[.int .i64 tab, .slice pa pan.length pc, .int .i64 hei, .slice ta top.length tc, .slice ba bot.length bc, .int .i64 slo, .bool opn, .int .i64 off, .slice ta top.length tc, .slice ba bot.length bc] 124)).tr (Gr.al _ (.cells #[.int .i64 c] 3))
  have hx := (Box.new w [.int .i64 tab, .slice pa pan.length pc, .int .i64 hei, .slice ta top.length tc, .slice ba bot.length bc, .int .i64 slo, .bool opn, .int .i64 off, .slice ta top.length tc, .slice ba bot.length bc] 124 w.heap.size rfl).keep (Gr.al _ (.cells #[.int .i64 c] 3))
  have hy := Box.new (w.alloc (.cells #[.int .i64 tab, .slice pa pan.length pc, .int .i64 hei, .slice ta top.length tc, .slice ba bot.length bc, .int .i64 slo, .bool opn, .int .i64 off, .slice ta top.length tc, .slice ba bot.length bc] 124)) [.int .i64 c] 3 (w.heap.size + 1) (by simp)
  have HL := Lib.hid hl
  have HT := Lib.hid hth
  have HG := Lib.hid G
  clear hth G
  go_enter Try.func61, Try.ntmps61
  go_wp2_with (first
    | (go_at_call 107; (refine (fitsAt_lit _ _ _ _ _ _ _ _ _ _ _ _ _ _ c HG.out h2 h3 c0 c1 0 _ (by rfl) (by omega) _ _ _ hx hy (hp.grow gX) (ht.grow gX) (hb.grow gX)).mono ?_); rintro e w1 ⟨rfl, hg⟩; replace hx := hx.keep hg; replace hy := hy.keep hg; replace gX := gX.tr hg)
    | (go_at_call 107; (refine (fitsAt_lit _ _ _ _ _ _ _ _ _ _ _ _ _ _ c HG.out h2 h3 c0 c1 1 _ (by rfl) (by omega) _ _ _ hx hy (hp.grow gX) (ht.grow gX) (hb.grow gX)).mono ?_); rintro e w1 ⟨rfl, hg⟩; replace hx := hx.keep hg; replace hy := hy.keep hg; replace gX := gX.tr hg)
    | (go_at_call 107; (refine (fitsAt_lit _ _ _ _ _ _ _ _ _ _ _ _ _ _ c HG.out h2 h3 c0 c1 2 _ (by rfl) (by omega) _ _ _ hx hy (hp.grow gX) (ht.grow gX) (hb.grow gX)).mono ?_); rintro e w1 ⟨rfl, hg⟩; replace hx := hx.keep hg; replace hy := hy.keep hg; replace gX := gX.tr hg)
    | (go_at_call 107; (refine (fitsAt_lit _ _ _ _ _ _ _ _ _ _ _ _ _ _ c HG.out h2 h3 c0 c1 3 _ (by rfl) (by omega) _ _ _ hx hy (hp.grow gX) (ht.grow gX) (hb.grow gX)).mono ?_); rintro e w1 ⟨rfl, hg⟩; replace hx := hx.keep hg; replace hy := hy.keep hg; replace gX := gX.tr hg)
    | (go_at_call 107; (refine (fitsAt_lit _ _ _ _ _ _ _ _ _ _ _ _ _ _ c HG.out h2 h3 c0 c1 4 _ (by rfl) (by omega) _ _ _ hx hy (hp.grow gX) (ht.grow gX) (hb.grow gX)).mono ?_); rintro e w5 ⟨rfl, hg⟩; clear hx hy; replace gX := gX.tr hg)
    | (go_at_call 108; (refine (sort_any w5.heap.size w5.heap.size 3 [_, _, _] (by simp) _ (holds_new3 _ _ _ _ _ _ rfl) (by simp) (Nat.le_refl _)).mono ?_); rintro e w6 ⟨rfl, hb6, hr6⟩; replace gX := gX.tr ((Gr.al w5 _).trans hb6))
    | (go_at_call 110; (refine (values_any _ _ _ _).mono ?_); rintro e w7 ⟨rfl, rfl⟩)
    | (go_at_call 109; (refine (sorted_three w6.heap.size tb toff tcap thing HL.out _ (Nat.lt_of_lt_of_le htb (gX.tr (Gr.al w6 _)).size) (cell_news w6 [_] _ 0 _ rfl) (htd.grow (gX.tr (Gr.al w6 _)))).mono ?_); rintro e w8 ⟨g, cap8, rfl, hr8, hg8⟩; replace hr6 := hr6.grow ((Gr.al w6 _).tr hg8); replace gX := gX.tr ((Gr.al w6 _).tr hg8)))
  have hbl : (fitsBox off hei pan top bot opn c).length = 3 := rfl
  change IRow w8 _ (sortL (fitsBox off hei pan top bot opn c)) at hr6
  have hzl : ((sortL thing).zip (sortL (fitsBox off hei pan top bot opn c))).length = 3 := by rw [List.length_zip, sortL_len, sortL_len, hl, hbl]; rfl
  have HE := Lib.hid (show ((sortL thing).zip (sortL (fitsBox off hei pan top bot opn c))).all fitsP = fitsL thing (fitsBox off hei pan top bot opn c) from rfl)
  have hsl : (sortL thing).length = 3 := by rw [sortL_len, hl]
  have hsb : (sortL (fitsBox off hei pan top bot opn c)).length = 3 := by rw [sortL_len, hbl]
  have HM : Hid (∀ x ∈ sortL thing, 0 ≤ x ∧ x ≤ 3000) := Lib.hid (fun x hx => HT.out x (sortL_mem hx))
  generalize hbx : fitsBox off hei pan top bot opn c = bx at *
  generalize hA : (sortL thing) = sa at *
  generalize hB : (sortL bx) = sb at *
  go_loopw [31] (fun i wr => ∃ k : Nat, k ≤ 3 ∧ i = .int .i64 k ∧ Gr w wr ∧ ((sa.zip sb).take k).all fitsP = true ∧ IRow wr (some ⟨g, 0, none⟩) sa ∧ IRow wr (some ⟨w5.heap.size, 0, none⟩) sb) (fun i wr => 3 - (intOf i).toNat)
  case atStart => exact ⟨0, by omega, rfl, gX, rfl, hr8, hr6⟩
  case round =>
    obtain ⟨k, hk, rfl, gW, hd, r8, r6⟩ := hrel
    clear hr8 hr6 gX
    by_cases hlt : k < 3
    · obtain ⟨x, hx⟩ := get_of_lt (show k < sa.length by omega)
      obtain ⟨y, hy⟩ := get_of_lt (show k < sb.length by omega)
      have hz : (sa.zip sb)[k]? = some (x, y) := List.getElem?_zip_eq_some.2 ⟨hx, hy⟩
      obtain ⟨x0, x1⟩ := HM.out x (List.mem_of_getElem? hx)
      have ca := r8.at0 hx
      have cb := r6.at0 hy
      have hw : IntKind.i64.wrap (1000 * x) = 1000 * x := IntWalk.i64_in _ (by omega)
      cases hc : fitsP (x, y) with
      | true =>
        have hge : ¬ y < 1000 * x := by
          have : 1000 * x ≤ y := by simpa [fitsP] using hc
          omega
        have hn := all_take_succ fitsP hz hd hc
        have Hn := Lib.hid hn
        clear hn hd hz hx hy
        go_wp2
        go_roundw
        case rel => exact ⟨k + 1, by omega, by go_num, gW, Hn.out, r8, r6⟩
        case measure => simp [intOf]; omega
      | false =>
        have hge : y < 1000 * x := by
          have : ¬ 1000 * x ≤ y := by simpa [fitsP] using hc
          omega
        have hn := Lib.hid (not_all_of fitsP hz hc)
        clear hd hz hx hy
        go_wp2
        go_ret
        exact ⟨ret_bool (by rw [hbx, ← HE.out, hn.out]), gW⟩
    · obtain rfl : k = 3 := by omega
      have Hd := Lib.hid hd
      clear hd
      have ht3 : ((sa.zip sb).take 3) = sa.zip sb := List.take_of_length_le (by omega)
      go_wp2
      go_ret
      exact ⟨ret_bool (by rw [hbx, ← HE.out, ← ht3, Hd.out]), gW⟩

end Go.Proofs.Ytaommdjekddgiaa
