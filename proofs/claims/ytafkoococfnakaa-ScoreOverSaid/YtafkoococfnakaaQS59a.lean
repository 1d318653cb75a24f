/- Play of four panels. A row appended onto an empty one. An append among the operations of a drawn region. The law's ints: a row of one's own. Three measures, sorted; what fits into a box with thinner board. Sheet.blank: a valid blank by bytes (chapter 2). (Made by gen_s47.py.) Sheet.calipers, down, up, around, limited, micros (chapter 2). (Made by gen_s48.py.) The reference's Copy, the law's own once more: three rows of one's own, in three blocks (chapter 2). (Made by gen_s49.py.) ScoreOver: the contracts at four panels and two flaps of each kind; what fits just so. -/
import Derived.Test.YtafkoococfnakaaQS32e
import Derived.Test.YtafkoococfnakaaQS32b
import Derived.Test.YtafkoococfnakaaQS32d
import Derived.Test.YtafkoococfnakaaQS32a
import Derived.Test.YtafkoococfnakaaQS32c
import Derived.Deep.AppendLies
import Derived.BigQuiet
namespace Go.Proofs.Ytafkoococfnakaa
set_option linter.unusedVariables false
set_option linter.unusedSimpArgs false
open Go.RowKit

theorem play_len (hei : Int) (pan top bot : List Int) (opn : Bool) (cl ch : Int) (hei' : Int) (pan' top' bot' : List Int) (opn' : Bool) (cl' ch' : Int) (n : Nat) : (playL hei pan top bot opn cl ch hei' pan' top' bot' opn' cl' ch' n).length = n := by simp [playL]

theorem play_get {hei : Int} {pan top bot : List Int} {opn : Bool} {cl ch : Int} {hei' : Int} {pan' top' bot' : List Int} {opn' : Bool} {cl' ch' : Int} {n i : Nat} (h : i < n) : (playL hei pan top bot opn cl ch hei' pan' top' bot' opn' cl' ch' n)[i]? = some (playAt hei pan top bot opn cl ch hei' pan' top' bot' opn' cl' ch' i) := by simp [playL, h]

theorem play_ok4 (tab hei slo : Int) (pan top bot : List Int) (pa ta ba : Option Addr) (pc tc bc : Nat) (opn : Bool) (tab' hei' slo' : Int) (pan' top' bot' : List Int) (pa' ta' ba' : Option Addr) (pc' tc' bc' : Nat) (opn' : Bool) (cl ch cl' ch' : Int) (G : GoodB tab hei slo pan top bot opn) (G' : GoodB tab' hei' slo' pan' top' bot' opn') (hc : okSpan 1 10000 cl ch = true) (hc' : okSpan 1 10000 cl' ch' = true) (L : List Sp) (hL : playL hei pan top bot opn cl ch hei' pan' top' bot' opn' cl' ch' 4 = L) (w : World)
    (hp : IRow w pa pan) (ht : IRow w ta top) (hb : IRow w ba bot) (hp' : IRow w pa' pan') (ht' : IRow w ta' top') (hb' : IRow w ba' bot') :
    Calls Try.prog 32 #[.agg #[.int .i64 tab, .slice pa pan.length pc, .int .i64 hei, .slice ta top.length tc, .slice ba bot.length bc, .int .i64 slo, .bool opn], .agg #[.int .i64 tab', .slice pa' pan'.length pc', .int .i64 hei', .slice ta' top'.length tc', .slice ba' bot'.length bc', .int .i64 slo', .bool opn'], .agg #[.int .i64 cl, .int .i64 ch], .agg #[.int .i64 cl', .int .i64 ch']] w fun e w' => ∃ b off cap, e = .returned (.tuple #[.slice (some ⟨b, off, none⟩) 4 cap, .int .i64 0]) ∧ Gr w w' ∧ SRow w' (some ⟨b, off, none⟩) L := by
  subst hL
  refine (play_ok tab hei slo pan top bot pa ta ba pc tc bc opn tab' hei' slo' pan' top' bot' pa' ta' ba' pc' tc' bc' opn' cl ch cl' ch' G G' hc hc' w hp ht hb hp' ht' hb').mono ?_
  rintro e w' ⟨a, cap, he, hg, hr⟩
  rw [play_len] at he
  obtain ⟨b, off, rfl, _⟩ := SRow.get hr (play_get (i := 0) (by omega))
  exact ⟨_, _, cap, he, hg, hr⟩

end Go.Proofs.Ytafkoococfnakaa

namespace Go.Proofs.Ytafkoococfnakaa
set_option linter.unusedVariables false
set_option linter.unusedSimpArgs false
open Go.RowKit

theorem row_long (v : World) (l : List Int) (hl : l.length ≤ 9223372036854775807) (z : Array Value) (t : TypeId) (n : Nat) (hn : n = v.heap.size) (cs : Array Value) (hcs : cs = (l.map fun n => Value.int .i64 n).toArray ++ z) :
    IRow (v.alloc (.cells cs t)) (some ⟨n, 0, none⟩) l := by
  subst hn
  subst hcs
  refine ⟨hl, fun j x hx => ⟨v.heap.size, 0, rfl, by simp, fun i u hu => ?_⟩⟩
  cases i with
  | succ i => simp [encI] at hu
  | zero =>
    simp only [encI, List.getElem?_cons_zero, Option.some.injEq] at hu
    subst hu
    have hj : j < l.length := (List.getElem?_eq_some_iff.1 hx).1
    refine new_cell v _ t ?_
    rw [Array.getElem?_append_left (by simpa using hj)]
    simp [hx]

theorem app_new (v : World) (b : Nat) (a : Option Addr) (l : List Int) (c : Nat) (hr : IRow v a l) (hl : l.length ≤ 1000) :
    ∃ u v', (Builtin.append_ #[22, 22] 22 #[.slice (some ⟨b, 0, none⟩) 0 0, .slice a l.length c]).run Try.prog v = .ok u v' ∧ Gr v v' ∧ ∃ a' c', u = .slice a' l.length c' ∧ IRow v' a' l ∧ ∀ ad, a' = some ad → (ad.block = b ∨ v.heap.size ≤ ad.block) ∧ (b < v.heap.size → ad.block < v'.heap.size) := by
  obtain ⟨i, hi, hz, hs, hb⟩ := info_parts infoIntS
  have ht := Try.underlying22
  cases l with
  | nil =>
    refine ⟨.slice (some ⟨b, 0, none⟩) 0 0, v, ?_, Below.refl _ _, _, _, rfl, ⟨by simp, fun j x hx => by simp at hx⟩, fun ad e => by cases e; exact ⟨.inl rfl, fun h => h⟩⟩
    cases a <;> simp [Builtin.append_, run_underlying ht, sizeOf, typeInfo, hi, Builtin.lenOf, Builtin.firstCells, storeCells, loadCells, loadCellsFrom, Sem.run_pure, Result.andThen]
  | cons x0 l0 =>
    obtain ⟨l, hL⟩ : ∃ l, l = x0 :: l0 := ⟨_, rfl⟩
    have h0 : 0 < l.length := by rw [hL]; simp
    rw [← hL] at hr hl ⊢
    clear hL
    obtain ⟨B, O, rfl, _⟩ := hr.addr h0
    have hn : (l.map fun n => Value.int .i64 n).length = l.length * i.size := by rw [hs]; simp
    have hcell : ∀ j u, (l.map fun n => Value.int .i64 n)[j]? = some u → v.cell? ((⟨B, O, none⟩ : Addr).add j) = some u := by
      intro j u hu
      rw [List.getElem?_map] at hu
      cases hx : l[j]? with
      | none => rw [hx] at hu; cases hu
      | some x =>
        rw [hx] at hu
        cases hu
        obtain ⟨_, _, e, _, hc⟩ := IRow.get hr hx
        cases e
        rw [Addr.add_lit]
        exact hc
    have h := run_append_grow (P := Try.prog) v 22 22 3 i _ ht hi hz ⟨b, 0, none⟩ 0 0 [] (by simp) (by simp) ⟨B, O, none⟩ l.length c (l.map fun n => Value.int .i64 n) hn hcell (by omega) (by omega) (growslice_fits (by omega) (by rw [hb]; omega))
    refine ⟨_, _, h, (Gr.dr v).tr (Gr.al _ _), some ⟨v.heap.size, 0, none⟩, grownCap v (0 + l.length) 0 3, by rw [Nat.zero_add], ?_, fun ad e => by cases e; exact ⟨.inr (Nat.le_refl _), fun _ => by simp⟩⟩
    exact row_long v.drew l (by omega) (Builtin.zeroCells (Value.int .i64 0).cells (grownCap v (0 + l.length) 0 3 - (0 + l.length))) _ _ (by simp) _ (by simp)

end Go.Proofs.Ytafkoococfnakaa

namespace Go.Proofs.Ytafkoococfnakaa
set_option linter.unusedVariables false
set_option linter.unusedSimpArgs false
open Go.RowKit

/-- An append among the operations of a drawn region. -/
theorem wpOp_append {P : Program} {ops : Array Oper} {Q : Exit → Act → World → Prop} {i : Nat} {K : Act → World → Prop} {a : Act} {w : World} {o : Oper} (s x : Operand) (t : TypeId) (ho : ops[i]? = some o) (hg : o.guard = none)
    (hop : o.op = Op.call { callee := Callee.builtin Builtin.append, args := #[s, x], argTypes := #[t, t] }) (v1 v2 u : Value) (w' : World) (hs : a.eval s = v1) (hx : a.eval x = v2)
    (hrun : (Builtin.append_ #[t, t] o.type #[v1, v2]).run P w = .ok u w') (h : ∀ K' : Act → World → Prop, (∀ a w, K a w → K' a w) → K' (a.put o.dst u) w') : wpOp P ops Q i K a w := by
  refine wpOp_step ho (fun K' hK' => ?_)
  have hw : Region.wanted o (yielded ops a.tmps) = true := by simp [Region.wanted, hg]
  rw [if_pos hw]
  unfold Oper.wp execOp
  simp only [hop, resolve, invoke, builtin, Sem.run_bind, Sem.run_pure, Result.andThen_ok, List.map_toArray, List.map_cons, List.map_nil, hs, hx, hrun]
  exact h K' hK'

end Go.Proofs.Ytafkoococfnakaa

namespace Go.Proofs.Ytafkoococfnakaa
set_option linter.unusedVariables false
set_option linter.unusedSimpArgs false
open Go.RowKit

theorem wpList_append_run {P : Program} {ops : Array Oper} {rest : List Oper} {o : Oper} {a : Act} {Q : Exit → Act → World → Prop} {w : World} (s x : Operand) (t : TypeId) (hg : o.guard = none)
    (ho : o.op = .call { callee := .builtin .append, args := #[s, x], argTypes := #[t, t] }) (v1 v2 u : Value) (w' : World) (hs : a.eval s = v1) (hx : a.eval x = v2)
    (hrun : (Builtin.append_ #[t, t] o.type #[v1, v2]).run P w = .ok u w') (h : wpList P ops Q rest (a.put o.dst u) w') : wpList P ops Q (o :: rest) a w := by
  refine wpList_plain hg fun K hK => ?_
  unfold Oper.wp
  simp [execOp, ho, resolve, invoke, builtin, hs, hx, hrun, Result.andThen]
  exact hK _ _ h

set_option maxRecDepth 100000 in
theorem ints02c_any (l : List Int) (hl : l.length ≤ 1000) (a : Option Addr) (c : Nat) (w : World) (hr : IRow w a l) :
    Calls Try.prog 34 #[.slice a l.length c] w fun e w' => ∃ a' c', e = .returned (.slice a' l.length c') ∧ Gr w w' ∧ IRow w' a' l := by
  have g0 := Gr.al w (.cells #[] 3)
  obtain ⟨u, v', hrun, hg, a', c', rfl, hr', _⟩ := app_new (w.alloc (.cells #[] 3)) w.heap.size a l c (hr.grow g0) hl
  have HR := Lib.hid hr'
  have HRUN := Lib.hid hrun
  clear hr' hrun
  go_enter Try.func34, Try.ntmps34
  go_wp2_with (at_builtin; refine wpList_append_run _ _ 22 rfl rfl _ _ _ _ rfl rfl HRUN.out ?_)
  go_ret
  exact ⟨_, _, rfl, g0.tr hg, HR.out⟩

end Go.Proofs.Ytafkoococfnakaa

namespace Go.Proofs.Ytafkoococfnakaa
set_option linter.unusedVariables false
set_option linter.unusedSimpArgs false
open Go.RowKit

theorem inner_le {off hei : Int} {pan top bot : List Int} {opn : Bool} {cl ch cl' ch' : Int} (h0 : cl ≤ cl') (h1 : ch ≤ ch') (i : Nat) :
    (innerAt off hei pan top bot opn cl' ch' i).lo ≤ (innerAt off hei pan top bot opn cl ch i).lo ∧ (innerAt off hei pan top bot opn cl' ch' i).hi ≤ (innerAt off hei pan top bot opn cl ch i).hi := by
  have hL : 0 ≤ lostL i opn := by unfold lostL; split <;> omega
  have a := Int.mul_le_mul_of_nonneg_left h0 hL
  have b := Int.mul_le_mul_of_nonneg_left h1 hL
  simp only [innerAt, insideS]
  omega

/-! ### Three measures, sorted -/

theorem sort3 (a b c : Int) : sortL [a, b, c] = [min a (min b c), max (min a b) (min c (max a b)), max a (max b c)] := by
  by_cases h1 : a ≤ b <;> by_cases h2 : b ≤ c <;> by_cases h3 : a ≤ c <;> simp [sortL, List.mergeSort, List.MergeSort.Internal.splitInTwo, h1, h2, h3] <;> omega

theorem fits3 (t0 t1 t2 a b c : Int) : fitsL [t0, t1, t2] [a, b, c] = true ↔
    1000 * min t0 (min t1 t2) ≤ min a (min b c) ∧ 1000 * max (min t0 t1) (min t2 (max t0 t1)) ≤ max (min a b) (min c (max a b)) ∧ 1000 * max t0 (max t1 t2) ≤ max a (max b c) := by
  unfold fitsL
  rw [sort3, sort3]
  simp [fitsP]

theorem min_mono {a b a' b' : Int} (ha : a' ≤ a) (hb : b' ≤ b) : min a' b' ≤ min a b := by omega

theorem max_mono {a b a' b' : Int} (ha : a' ≤ a) (hb : b' ≤ b) : max a' b' ≤ max a b := by omega

theorem fits_mono {t0 t1 t2 a b c a' b' c' : Int} (ha : a' ≤ a) (hb : b' ≤ b) (hc : c' ≤ c) (h : fitsL [t0, t1, t2] [a', b', c'] = true) : fitsL [t0, t1, t2] [a, b, c] = true := by
  rw [fits3] at h ⊢
  obtain ⟨h1, h2, h3⟩ := h
  exact ⟨Int.le_trans h1 (min_mono ha (min_mono hb hc)), Int.le_trans h2 (max_mono (min_mono ha hb) (min_mono hc (max_mono ha hb))), Int.le_trans h3 (max_mono ha (max_mono hb hc))⟩

theorem fitsBox_mono {t0 t1 t2 off hei : Int} {pan top bot : List Int} {opn : Bool} {c c' : Int} (hc : c ≤ c') (h : fitsL [t0, t1, t2] (fitsBox off hei pan top bot opn c') = true) : fitsL [t0, t1, t2] (fitsBox off hei pan top bot opn c) = true := by
  have m := fun k => (inner_le (off := off) (hei := hei) (pan := pan) (top := top) (bot := bot) (opn := opn) hc hc k).1
  have m0 := m 0
  have m1 := m 1
  have m2 := m 2
  have m3 := m 3
  have m4 := m 4
  unfold fitsBox at h ⊢
  exact fits_mono (min_mono m0 m2) (min_mono m1 m3) m4 h

end Go.Proofs.Ytafkoococfnakaa

namespace Go.Proofs.Ytafkoococfnakaa
set_option linter.unusedVariables false
set_option linter.unusedSimpArgs false
open Go.RowKit

theorem infoIntT : (Try.prog.info? 3).map (fun i => (i.zero, i.size, i.bytes)) = some (some (.int .i64 0), 1, 8) := by kernel_rfl

def SheetHeld (b i : Nat) (x : Int) (c j : Nat) (v : Value) (w' : World) : Prop := w'.cell? ⟨b, i, none⟩ = some (.int .u8 x) ∧ w'.cell? ⟨c, j, none⟩ = some v

def SheetHeld2 (b i1 i2 : Nat) (x y : Int) (c : Nat) (s t : Value) (w' : World) : Prop := w'.cell? ⟨b, i1, none⟩ = some (.int .u8 x) ∧ w'.cell? ⟨b, i2, none⟩ = some (.int .u8 y) ∧ w'.cell? ⟨c, 3, none⟩ = some s ∧ w'.cell? ⟨c, 4, none⟩ = some t

/-- Two rows that do not lie in one block. -/
def ApartS (v u : Value) : Prop := ∀ b, v.ownBlock = some b → u.ownBlock ≠ some b

theorem ApartS.symm {v u : Value} (h : ApartS v u) : ApartS u v := fun b hb hv => h b hv hb

theorem ApartS.after {v u : Value} {g n c H : Nat} (h : ApartS v u) (hg : u.ownBlock = some g ∨ g = H) (hv : ∀ b, v.ownBlock = some b → b < H) : ApartS v (.slice (some ⟨g, 0, none⟩) n c) := by
 intro b hb hc
 simp only [Value.ownBlock, Option.some.injEq] at hc
 subst hc
 rcases hg with hg | rfl
 ·exact h g hb hg
 ·have := hv _ hb
  omega

theorem owns_apartS {w w' : World} {base : Nat} {e : TypeId} {sz : Nat} {u v : Value} {n : Nat} {xs : List Value} (h : w.ownsRow base e sz u n xs) (hg : w.grownBy w' v.ownBlock) (ha : ApartS u v) : w'.ownsRow base e sz u n xs :=
 h.kept hg (by
  cases hub : u.ownBlock with
  | none => exact .inl rfl
  | some b => exact .inr (fun he => ha b hub he.symm))

theorem boxS_kx {Z : Nat → Prop} {w w' : World} {b : Nat} {vs : List Value} (h : Box w b vs) (k : Kx Z w w') (hz : ¬ Z b) : Box w' b vs := by
 refine ⟨Nat.lt_of_lt_of_le h.1 k.size, fun i v hv => ?_⟩
 have h1 := h.2 i v hv
 have e := k.block b h.1 hz
 unfold World.cell? at h1 ⊢
 rw [e]
 exact h1

/-- A byte. -/
abbrev By (n : Int) : Prop := 0 ≤ n ∧ n ≤ 255

def topOf (o : Bool) (f0 f1 : Int) : List Int := if o then [0, 0] else [f0, f1]

def SheetPost (pan top bot : List Int) (h : Int) (o : Bool) (w : World) (e : Ending) (w' : World) : Prop :=
 ∃ a c a' c' a'' c'', e = .returned (.agg #[.int .i64 30, .slice a 4 c, .int .i64 (40 + h), .slice a' 2 c', .slice a'' 2 c'', .int .i64 9, .bool o]) ∧ Gr w w' ∧ IRow w' a pan ∧ IRow w' a' top ∧ IRow w' a'' bot ∧ (NewAt w.heap.size a ∧ NewAt w.heap.size a' ∧ NewAt w.heap.size a'')

set_option maxRecDepth 100000 in
set_option maxHeartbeats 8000000 in
theorem sheetBlank_any (p0 p1 p2 p3 h f0 f1 f2 f3 : Int) (o : Bool) (c0 c1 w0 w1 w2 w3 w4 : Int) (hp0 : By p0) (hp1 : By p1) (hp2 : By p2) (hp3 : By p3) (hh : By h) (hf0 : By f0) (hf1 : By f1) (hf2 : By f2) (hf3 : By f3) (w : World) :
  Calls Try.prog 39 #[.agg #[.int .u8 p0, .int .u8 p1, .int .u8 p2, .int .u8 p3, .int .u8 h, .int .u8 f0, .int .u8 f1, .int .u8 f2, .int .u8 f3, .bool o, .int .u8 c0, .int .u8 c1, .int .u8 w0, .int .u8 w1, .int .u8 w2, .int .u8 w3, .int .u8 w4]] w (SheetPost [60 + p0, 60 + p1, 60 + p2, 60 + p3] (topOf o f0 f1) [f2, f3] h o w) := by
 obtain ⟨i0, hi, hz0, hz1, hz2⟩ := info_parts infoIntT
 have gg := ((Gr.al w (.cells #[.int .u8 p0, .int .u8 p1, .int .u8 p2, .int .u8 p3, .int .u8 h, .int .u8 f0, .int .u8 f1, .int .u8 f2, .int .u8 f3, .bool o, .int .u8 c0, .int .u8 c1, .int .u8 w0, .int .u8 w1, .int .u8 w2, .int .u8 w3, .int .u8 w4] 69)).tr (Gr.al _ (.cells #[.int .i64 0, .slice none 0 0, .int .i64 0, .slice none 0 0, .slice none 0 0, .int .i64 0, .bool false] 24))).tr (Gr.al _ (.cells #[.int .i64 30, .slice none 0 0, .int .i64 (40 + h), .slice none 0 0, .slice none 0 0, .int .i64 9, .bool o] 24))
 have h1 := (Box.new w [.int .u8 p0, .int .u8 p1, .int .u8 p2, .int .u8 p3, .int .u8 h, .int .u8 f0, .int .u8 f1, .int .u8 f2, .int .u8 f3, .bool o, .int .u8 c0, .int .u8 c1, .int .u8 w0, .int .u8 w1, .int .u8 w2, .int .u8 w3, .int .u8 w4] 69 w.heap.size rfl).keep ((Gr.al _ (.cells #[.int .i64 0, .slice none 0 0, .int .i64 0, .slice none 0 0, .slice none 0 0, .int .i64 0, .bool false] 24)).tr (Gr.al _ (.cells #[.int .i64 30, .slice none 0 0, .int .i64 (40 + h), .slice none 0 0, .slice none 0 0, .int .i64 9, .bool o] 24)))
 have h2 := (Own.new (w.alloc (.cells #[.int .u8 p0, .int .u8 p1, .int .u8 p2, .int .u8 p3, .int .u8 h, .int .u8 f0, .int .u8 f1, .int .u8 f2, .int .u8 f3, .bool o, .int .u8 c0, .int .u8 c1, .int .u8 w0, .int .u8 w1, .int .u8 w2, .int .u8 w3, .int .u8 w4] 69)) [.int .i64 0, .slice none 0 0, .int .i64 0, .slice none 0 0, .slice none 0 0, .int .i64 0, .bool false] 24 (w.heap.size + 1) (by simp)).keep (Gr.al _ (.cells #[.int .i64 30, .slice none 0 0, .int .i64 (40 + h), .slice none 0 0, .slice none 0 0, .int .i64 9, .bool o] 24))
 have h3 := Own.new ((w.alloc (.cells #[.int .u8 p0, .int .u8 p1, .int .u8 p2, .int .u8 p3, .int .u8 h, .int .u8 f0, .int .u8 f1, .int .u8 f2, .int .u8 f3, .bool o, .int .u8 c0, .int .u8 c1, .int .u8 w0, .int .u8 w1, .int .u8 w2, .int .u8 w3, .int .u8 w4] 69)).alloc (.cells #[.int .i64 0, .slice none 0 0, .int .i64 0, .slice none 0 0, .slice none 0 0, .int .i64 0, .bool false] 24)) [.int .i64 30, .slice none 0 0, .int .i64 (40 + h), .slice none 0 0, .slice none 0 0, .int .i64 9, .bool o] 24 (w.heap.size + 1 + 1) (by simp)
 have q4 := (Box.new w [.int .u8 p0, .int .u8 p1, .int .u8 p2, .int .u8 p3, .int .u8 h, .int .u8 f0, .int .u8 f1, .int .u8 f2, .int .u8 f3, .bool o, .int .u8 c0, .int .u8 c1, .int .u8 w0, .int .u8 w1, .int .u8 w2, .int .u8 w3, .int .u8 w4] 69 w.heap.size rfl).2 4 _ rfl
 have q9 := (Box.new w [.int .u8 p0, .int .u8 p1, .int .u8 p2, .int .u8 p3, .int .u8 h, .int .u8 f0, .int .u8 f1, .int .u8 f2, .int .u8 f3, .bool o, .int .u8 c0, .int .u8 c1, .int .u8 w0, .int .u8 w1, .int .u8 w2, .int .u8 w3, .int .u8 w4] 69 w.heap.size rfl).2 9 _ rfl
 obtain ⟨u0, u1⟩ := hh
 have k0 : IntKind.i64.wrap h = h := IntWalk.i64_in _ (by omega)
 have k1 : IntKind.i64.wrap (40 + h) = 40 + h := IntWalk.i64_in _ (by omega)
 go_enter Try.func39, Try.ntmps39
 go_upto_region 2 with fail
 refine wp_abs (fun X => Gr w X ∧ Box X w.heap.size [.int .u8 p0, .int .u8 p1, .int .u8 p2, .int .u8 p3, .int .u8 h, .int .u8 f0, .int .u8 f1, .int .u8 f2, .int .u8 f3, .bool o, .int .u8 c0, .int .u8 c1, .int .u8 w0, .int .u8 w1, .int .u8 w2, .int .u8 w3, .int .u8 w4] ∧ Own X (w.heap.size + 1) [.int .i64 0, .slice none 0 0, .int .i64 0, .slice none 0 0, .slice none 0 0, .int .i64 0, .bool false] ∧ Own X (w.heap.size + 1 + 1) [.int .i64 30, .slice none 0 0, .int .i64 (40 + h), .slice none 0 0, .slice none 0 0, .int .i64 9, .bool o]) ⟨gg, h1, h2, h3⟩ ?_
 clear gg h1 h2 h3 q4 q9 k0 k1
 rintro X ⟨gX, h1, h2, h3⟩
 obtain ⟨N, hN⟩ : ∃ N, X.heap.size = N := ⟨_, rfl⟩
 have lN : w.heap.size + 1 + 1 < N := hN ▸ h3.1.1
 go_wp2
 go_loopw [4] (fun t wr => Hid (∃ v : Value, Gr w wr ∧ Box wr w.heap.size [.int .u8 p0, .int .u8 p1, .int .u8 p2, .int .u8 p3, .int .u8 h, .int .u8 f0, .int .u8 f1, .int .u8 f2, .int .u8 f3, .bool o, .int .u8 c0, .int .u8 c1, .int .u8 w0, .int .u8 w1, .int .u8 w2, .int .u8 w3, .int .u8 w4] ∧ Own wr (w.heap.size + 1) [.int .i64 0, .slice none 0 0, .int .i64 0, .slice none 0 0, .slice none 0 0, .int .i64 0, .bool false] ∧ Own wr (w.heap.size + 1 + 1) [.int .i64 30, v, .int .i64 (40 + h), .slice none 0 0, .slice none 0 0, .int .i64 9, .bool o] ∧ N ≤ wr.heap.size ∧ ((t = .int .i64 0 ∧ wr.ownsRow N 3 1 v 0 []) ∨ (t = .int .i64 1 ∧ wr.ownsRow N 3 1 v 1 [.int .i64 (60 + p0)]) ∨ (t = .int .i64 2 ∧ wr.ownsRow N 3 1 v 2 [.int .i64 (60 + p0), .int .i64 (60 + p1)]) ∨ (t = .int .i64 3 ∧ wr.ownsRow N 3 1 v 3 [.int .i64 (60 + p0), .int .i64 (60 + p1), .int .i64 (60 + p2)]) ∨ (t = .int .i64 4 ∧ wr.ownsRow N 3 1 v 4 [.int .i64 (60 + p0), .int .i64 (60 + p1), .int .i64 (60 + p2), .int .i64 (60 + p3)])))) (fun t _ => 4 - (intOf t).toNat)
 case atStart => exact Lib.hid ⟨_, gX, h1, h2, h3, Nat.le_of_eq hN.symm, .inl ⟨rfl, World.ownsRow_nil _ _ _ _⟩⟩
 case round =>
  obtain ⟨v, gX', h1, h2, h3, lX, hx⟩ := hrel.out
  clear hrel gX hN
  have gX := gX'
  clear gX'
  rcases hx with ⟨rfl, hown⟩ | ⟨rfl, hown⟩ | ⟨rfl, hown⟩ | ⟨rfl, hown⟩ | ⟨rfl, hown⟩
  ·obtain ⟨y0, y1⟩ := hp0
   have e0 := h1.2 0 _ rfl
   have s1 := h3.1.2 1 _ rfl
   have k0 : IntKind.i64.wrap p0 = p0 := IntWalk.i64_in _ (by omega)
   have k1 : IntKind.i64.wrap (60 + p0) = 60 + p0 := IntWalk.i64_in _ (by omega)
   go_wp2
   have hF : SheetHeld w.heap.size 0 p0 (w.heap.size + 1 + 1) 1 v wr.drew := ⟨(h1.keep (Gr.dr wr)).2 0 _ rfl, (h3.keep (Gr.dr wr)).1.2 1 _ rfl⟩
   haveI : Nonempty (AtW (SheetHeld w.heap.size 0 p0 (w.heap.size + 1 + 1) 1 v)) := ⟨⟨_, hF⟩⟩
   have z0 : ∀ u : AtW (SheetHeld w.heap.size 0 p0 (w.heap.size + 1 + 1) 1 v), u.val.cell? ⟨w.heap.size, 0, none⟩ = some (.int .u8 p0) := fun u => u.property.1
   have z1 : ∀ u : AtW (SheetHeld w.heap.size 0 p0 (w.heap.size + 1 + 1) 1 v), u.val.cell? ⟨(w.heap.size + 1 + 1), 1, none⟩ = some v := fun u => u.property.2
   clear e0 s1
   refine wp_region_ord (fun w' => ∃ u : AtW (SheetHeld w.heap.size 0 p0 (w.heap.size + 1 + 1) 1 v), w' = u.val) 10 ((List.range' 0 8).map (fun i => (i, true)) ++ [(8, false), (9, false)]) (by kernel_rfl) (by kernel_rfl) ⟨⟨_, hF⟩, rfl⟩ ?_
   refine ord_seg 0 8 (by kernel_rfl) (fun d _ _ _ _ h => by cases d <;> exact h) ?_
   simp only [List.drop_zero, List.take_succ_cons, List.take_zero]
   repeat (go_big_quiet_step (fail))
   refine wpQuiet_nil ?_
   refine wpOp_step rfl (fun K' hK => ?_)
   go_simp
   have hga := (Gr.dr wr).tr (Gr.al wr.drew (.cells #[.int .i64 (60 + p0)] 3))
   refine hK _ _ ⟨⟨⟨_, (h1.keep hga).2 0 _ rfl, (h3.keep hga).1.2 1 _ rfl⟩, rfl⟩, ?_⟩
   clear hK
   refine wpOp_step rfl (fun K' hK => ?_)
   refine step_append_lies _ (by rfl) _ _ 22 (by rfl) N 3 i0 (.int .i64 0) 1 8 Try.underlying22 hi hz0 hz1 hz2 rfl (by decide) v 0 _ (by rfl) (owns_keep hown hga) ⟨wr.heap.size, 0, none⟩ 1 1 ([60 + p0].map (fun n => Value.int .i64 n)) (by rfl) (by rfl) (cell_news _ _ _) (ints_one _) (by omega) (by unfold maxLen; omega) (by omega) (Nat.le_trans lX hga.size) _ rfl ?_
   intro gb cap y4 hown4 hgr4 hat4 hlt4
   have hne4 : ∀ r, v.ownBlock = some r → N ≤ r := fun r hr => (hown.lt r hr).1
   have h1' := (h1.keep hga).grown hgr4 (fun r hr => by have := hne4 r hr; omega)
   have h2' := (h2.keep hga).grownRow hgr4 (fun r hr => by have := hne4 r hr; omega)
   have h3' := (h3.keep hga).grownRow hgr4 (fun r hr => by have := hne4 r hr; omega)
   have gY := (gX.tr hga).grown' (owns_keep hown hga) (by omega) hgr4
   have lY := Nat.le_trans lX (Nat.le_trans hga.size hgr4.size)
   refine hK _ _ ⟨⟨⟨_, h1'.2 0 _ rfl, h3'.1.2 1 _ rfl⟩, rfl⟩, ?_⟩
   clear hK z0 z1
   simp only [wpOrd, Act.put, List.setIfInBounds_toArray]
   have s1 := h3'.1.2 1 _ rfl
   have z1 := h3'.2 1
   clear k0 k1
   go_wp2
   go_roundw
   case rel => exact Lib.hid ⟨_, gY.setCell (p := ⟨(w.heap.size + 1 + 1), 1, none⟩) (show w.heap.size ≤ w.heap.size + 1 + 1 by omega) _, h1'.other (by omega), h2'.other (by omega), h3'.set (i := 1) (by simp), by simpa using lY, .inr (.inl ⟨rfl, owns_other hown4 (by omega)⟩)⟩
   case measure => simp [intOf]
  ·obtain ⟨y0, y1⟩ := hp1
   have e0 := h1.2 1 _ rfl
   have s1 := h3.1.2 1 _ rfl
   have k0 : IntKind.i64.wrap p1 = p1 := IntWalk.i64_in _ (by omega)
   have k1 : IntKind.i64.wrap (60 + p1) = 60 + p1 := IntWalk.i64_in _ (by omega)
   go_wp2
   have hF : SheetHeld w.heap.size 1 p1 (w.heap.size + 1 + 1) 1 v wr.drew := ⟨(h1.keep (Gr.dr wr)).2 1 _ rfl, (h3.keep (Gr.dr wr)).1.2 1 _ rfl⟩
   haveI : Nonempty (AtW (SheetHeld w.heap.size 1 p1 (w.heap.size + 1 + 1) 1 v)) := ⟨⟨_, hF⟩⟩
   have z0 : ∀ u : AtW (SheetHeld w.heap.size 1 p1 (w.heap.size + 1 + 1) 1 v), u.val.cell? ⟨w.heap.size, 1, none⟩ = some (.int .u8 p1) := fun u => u.property.1
   have z1 : ∀ u : AtW (SheetHeld w.heap.size 1 p1 (w.heap.size + 1 + 1) 1 v), u.val.cell? ⟨(w.heap.size + 1 + 1), 1, none⟩ = some v := fun u => u.property.2
   clear e0 s1
   refine wp_region_ord (fun w' => ∃ u : AtW (SheetHeld w.heap.size 1 p1 (w.heap.size + 1 + 1) 1 v), w' = u.val) 10 ((List.range' 0 8).map (fun i => (i, true)) ++ [(8, false), (9, false)]) (by kernel_rfl) (by kernel_rfl) ⟨⟨_, hF⟩, rfl⟩ ?_
   refine ord_seg 0 8 (by kernel_rfl) (fun d _ _ _ _ h => by cases d <;> exact h) ?_
   simp only [List.drop_zero, List.take_succ_cons, List.take_zero]
   repeat (go_big_quiet_step (fail))
   refine wpQuiet_nil ?_
   refine wpOp_step rfl (fun K' hK => ?_)
   go_simp
   have hga := (Gr.dr wr).tr (Gr.al wr.drew (.cells #[.int .i64 (60 + p1)] 3))
   refine hK _ _ ⟨⟨⟨_, (h1.keep hga).2 1 _ rfl, (h3.keep hga).1.2 1 _ rfl⟩, rfl⟩, ?_⟩
   clear hK
   refine wpOp_step rfl (fun K' hK => ?_)
   refine step_append_lies _ (by rfl) _ _ 22 (by rfl) N 3 i0 (.int .i64 0) 1 8 Try.underlying22 hi hz0 hz1 hz2 rfl (by decide) v 1 _ (by rfl) (owns_keep hown hga) ⟨wr.heap.size, 0, none⟩ 1 1 ([60 + p1].map (fun n => Value.int .i64 n)) (by rfl) (by rfl) (cell_news _ _ _) (ints_one _) (by omega) (by unfold maxLen; omega) (by omega) (Nat.le_trans lX hga.size) _ rfl ?_
   intro gb cap y4 hown4 hgr4 hat4 hlt4
   have hne4 : ∀ r, v.ownBlock = some r → N ≤ r := fun r hr => (hown.lt r hr).1
   have h1' := (h1.keep hga).grown hgr4 (fun r hr => by have := hne4 r hr; omega)
   have h2' := (h2.keep hga).grownRow hgr4 (fun r hr => by have := hne4 r hr; omega)
   have h3' := (h3.keep hga).grownRow hgr4 (fun r hr => by have := hne4 r hr; omega)
   have gY := (gX.tr hga).grown' (owns_keep hown hga) (by omega) hgr4
   have lY := Nat.le_trans lX (Nat.le_trans hga.size hgr4.size)
   refine hK _ _ ⟨⟨⟨_, h1'.2 1 _ rfl, h3'.1.2 1 _ rfl⟩, rfl⟩, ?_⟩
   clear hK z0 z1
   simp only [wpOrd, Act.put, List.setIfInBounds_toArray]
   have s1 := h3'.1.2 1 _ rfl
   have z1 := h3'.2 1
   clear k0 k1
   go_wp2
   go_roundw
   case rel => exact Lib.hid ⟨_, gY.setCell (p := ⟨(w.heap.size + 1 + 1), 1, none⟩) (show w.heap.size ≤ w.heap.size + 1 + 1 by omega) _, h1'.other (by omega), h2'.other (by omega), h3'.set (i := 1) (by simp), by simpa using lY, .inr (.inr (.inl ⟨rfl, owns_other hown4 (by omega)⟩))⟩
   case measure => simp [intOf]
  ·obtain ⟨y0, y1⟩ := hp2
   have e0 := h1.2 2 _ rfl
   have s1 := h3.1.2 1 _ rfl
   have k0 : IntKind.i64.wrap p2 = p2 := IntWalk.i64_in _ (by omega)
   have k1 : IntKind.i64.wrap (60 + p2) = 60 + p2 := IntWalk.i64_in _ (by omega)
   go_wp2
   have hF : SheetHeld w.heap.size 2 p2 (w.heap.size + 1 + 1) 1 v wr.drew := ⟨(h1.keep (Gr.dr wr)).2 2 _ rfl, (h3.keep (Gr.dr wr)).1.2 1 _ rfl⟩
   haveI : Nonempty (AtW (SheetHeld w.heap.size 2 p2 (w.heap.size + 1 + 1) 1 v)) := ⟨⟨_, hF⟩⟩
   have z0 : ∀ u : AtW (SheetHeld w.heap.size 2 p2 (w.heap.size + 1 + 1) 1 v), u.val.cell? ⟨w.heap.size, 2, none⟩ = some (.int .u8 p2) := fun u => u.property.1
   have z1 : ∀ u : AtW (SheetHeld w.heap.size 2 p2 (w.heap.size + 1 + 1) 1 v), u.val.cell? ⟨(w.heap.size + 1 + 1), 1, none⟩ = some v := fun u => u.property.2
   clear e0 s1
   refine wp_region_ord (fun w' => ∃ u : AtW (SheetHeld w.heap.size 2 p2 (w.heap.size + 1 + 1) 1 v), w' = u.val) 10 ((List.range' 0 8).map (fun i => (i, true)) ++ [(8, false), (9, false)]) (by kernel_rfl) (by kernel_rfl) ⟨⟨_, hF⟩, rfl⟩ ?_
   refine ord_seg 0 8 (by kernel_rfl) (fun d _ _ _ _ h => by cases d <;> exact h) ?_
   simp only [List.drop_zero, List.take_succ_cons, List.take_zero]
   repeat (go_big_quiet_step (fail))
   refine wpQuiet_nil ?_
   refine wpOp_step rfl (fun K' hK => ?_)
   go_simp
   have hga := (Gr.dr wr).tr (Gr.al wr.drew (.cells #[.int .i64 (60 + p2)] 3))
   refine hK _ _ ⟨⟨⟨_, (h1.keep hga).2 2 _ rfl, (h3.keep hga).1.2 1 _ rfl⟩, rfl⟩, ?_⟩
   clear hK
   refine wpOp_step rfl (fun K' hK => ?_)
   refine step_append_lies _ (by rfl) _ _ 22 (by rfl) N 3 i0 (.int .i64 0) 1 8 Try.underlying22 hi hz0 hz1 hz2 rfl (by decide) v 2 _ (by rfl) (owns_keep hown hga) ⟨wr.heap.size, 0, none⟩ 1 1 ([60 + p2].map (fun n => Value.int .i64 n)) (by rfl) (by rfl) (cell_news _ _ _) (ints_one _) (by omega) (by unfold maxLen; omega) (by omega) (Nat.le_trans lX hga.size) _ rfl ?_
   intro gb cap y4 hown4 hgr4 hat4 hlt4
   have hne4 : ∀ r, v.ownBlock = some r → N ≤ r := fun r hr => (hown.lt r hr).1
   have h1' := (h1.keep hga).grown hgr4 (fun r hr => by have := hne4 r hr; omega)
   have h2' := (h2.keep hga).grownRow hgr4 (fun r hr => by have := hne4 r hr; omega)
   have h3' := (h3.keep hga).grownRow hgr4 (fun r hr => by have := hne4 r hr; omega)
   have gY := (gX.tr hga).grown' (owns_keep hown hga) (by omega) hgr4
   have lY := Nat.le_trans lX (Nat.le_trans hga.size hgr4.size)
   refine hK _ _ ⟨⟨⟨_, h1'.2 2 _ rfl, h3'.1.2 1 _ rfl⟩, rfl⟩, ?_⟩
   clear hK z0 z1
   simp only [wpOrd, Act.put, List.setIfInBounds_toArray]
   have s1 := h3'.1.2 1 _ rfl
   have z1 := h3'.2 1
   clear k0 k1
   go_wp2
   go_roundw
   case rel => exact Lib.hid ⟨_, gY.setCell (p := ⟨(w.heap.size + 1 + 1), 1, none⟩) (show w.heap.size ≤ w.heap.size + 1 + 1 by omega) _, h1'.other (by omega), h2'.other (by omega), h3'.set (i := 1) (by simp), by simpa using lY, .inr (.inr (.inr (.inl ⟨rfl, owns_other hown4 (by omega)⟩)))⟩
   case measure => simp [intOf]
  ·obtain ⟨y0, y1⟩ := hp3
   have e0 := h1.2 3 _ rfl
   have s1 := h3.1.2 1 _ rfl
   have k0 : IntKind.i64.wrap p3 = p3 := IntWalk.i64_in _ (by omega)
   have k1 : IntKind.i64.wrap (60 + p3) = 60 + p3 := IntWalk.i64_in _ (by omega)
   go_wp2
   have hF : SheetHeld w.heap.size 3 p3 (w.heap.size + 1 + 1) 1 v wr.drew := ⟨(h1.keep (Gr.dr wr)).2 3 _ rfl, (h3.keep (Gr.dr wr)).1.2 1 _ rfl⟩
   haveI : Nonempty (AtW (SheetHeld w.heap.size 3 p3 (w.heap.size + 1 + 1) 1 v)) := ⟨⟨_, hF⟩⟩
   have z0 : ∀ u : AtW (SheetHeld w.heap.size 3 p3 (w.heap.size + 1 + 1) 1 v), u.val.cell? ⟨w.heap.size, 3, none⟩ = some (.int .u8 p3) := fun u => u.property.1
   have z1 : ∀ u : AtW (SheetHeld w.heap.size 3 p3 (w.heap.size + 1 + 1) 1 v), u.val.cell? ⟨(w.heap.size + 1 + 1), 1, none⟩ = some v := fun u => u.property.2
   clear e0 s1
   refine wp_region_ord (fun w' => ∃ u : AtW (SheetHeld w.heap.size 3 p3 (w.heap.size + 1 + 1) 1 v), w' = u.val) 10 ((List.range' 0 8).map (fun i => (i, true)) ++ [(8, false), (9, false)]) (by kernel_rfl) (by kernel_rfl) ⟨⟨_, hF⟩, rfl⟩ ?_
   refine ord_seg 0 8 (by kernel_rfl) (fun d _ _ _ _ h => by cases d <;> exact h) ?_
   simp only [List.drop_zero, List.take_succ_cons, List.take_zero]
   repeat (go_big_quiet_step (fail))
   refine wpQuiet_nil ?_
   refine wpOp_step rfl (fun K' hK => ?_)
   go_simp
   have hga := (Gr.dr wr).tr (Gr.al wr.drew (.cells #[.int .i64 (60 + p3)] 3))
   refine hK _ _ ⟨⟨⟨_, (h1.keep hga).2 3 _ rfl, (h3.keep hga).1.2 1 _ rfl⟩, rfl⟩, ?_⟩
   clear hK
   refine wpOp_step rfl (fun K' hK => ?_)
   refine step_append_lies _ (by rfl) _ _ 22 (by rfl) N 3 i0 (.int .i64 0) 1 8 Try.underlying22 hi hz0 hz1 hz2 rfl (by decide) v 3 _ (by rfl) (owns_keep hown hga) ⟨wr.heap.size, 0, none⟩ 1 1 ([60 + p3].map (fun n => Value.int .i64 n)) (by rfl) (by rfl) (cell_news _ _ _) (ints_one _) (by omega) (by unfold maxLen; omega) (by omega) (Nat.le_trans lX hga.size) _ rfl ?_
   intro gb cap y4 hown4 hgr4 hat4 hlt4
   have hne4 : ∀ r, v.ownBlock = some r → N ≤ r := fun r hr => (hown.lt r hr).1
   have h1' := (h1.keep hga).grown hgr4 (fun r hr => by have := hne4 r hr; omega)
   have h2' := (h2.keep hga).grownRow hgr4 (fun r hr => by have := hne4 r hr; omega)
   have h3' := (h3.keep hga).grownRow hgr4 (fun r hr => by have := hne4 r hr; omega)
   have gY := (gX.tr hga).grown' (owns_keep hown hga) (by omega) hgr4
   have lY := Nat.le_trans lX (Nat.le_trans hga.size hgr4.size)
   refine hK _ _ ⟨⟨⟨_, h1'.2 3 _ rfl, h3'.1.2 1 _ rfl⟩, rfl⟩, ?_⟩
   clear hK z0 z1
   simp only [wpOrd, Act.put, List.setIfInBounds_toArray]
   have s1 := h3'.1.2 1 _ rfl
   have z1 := h3'.2 1
   clear k0 k1
   go_wp2
   go_roundw
   case rel => exact Lib.hid ⟨_, gY.setCell (p := ⟨(w.heap.size + 1 + 1), 1, none⟩) (show w.heap.size ≤ w.heap.size + 1 + 1 by omega) _, h1'.other (by omega), h2'.other (by omega), h3'.set (i := 1) (by simp), by simpa using lY, .inr (.inr (.inr (.inr (⟨rfl, owns_other hown4 (by omega)⟩))))⟩
   case measure => simp [intOf]
  ·obtain ⟨a1, n1, hv, r1, m1⟩ := owns_row_new (enc := encI) (l := [60 + p0, 60 + p1, 60 + p2, 60 + p3]) (fun _ => rfl) (by simp) hown
   have hlt := hown.lt
   rw [hv] at hlt h3
   have hlt : ∀ r, (Value.slice a1 4 n1).ownBlock = some r → N ≤ r ∧ r < wr.heap.size := hlt
   have h3 : Own wr (w.heap.size + 1 + 1) [.int .i64 30, (.slice a1 4 n1), .int .i64 (40 + h), .slice none 0 0, .slice none 0 0, .int .i64 9, .bool o] := h3
   subst hv
   have R1 := Lib.hid r1
   have M1 := Lib.hid m1
   obtain ⟨M, hM⟩ : ∃ M, wr.heap.size = M := ⟨_, rfl⟩
   have HM := Lib.hid (show ∀ b f c, a1 = some ⟨b, f, c⟩ → b < M from fun b f c e => by
    subst e
    have := (hlt b rfl).2
    omega)
   have lM : N ≤ M := hM ▸ lX
   clear hlt hown r1 m1
   go_wp2
   go_loopw [5] (fun t wr => Hid (∃ s b : Value, Gr w wr ∧ Box wr w.heap.size [.int .u8 p0, .int .u8 p1, .int .u8 p2, .int .u8 p3, .int .u8 h, .int .u8 f0, .int .u8 f1, .int .u8 f2, .int .u8 f3, .bool o, .int .u8 c0, .int .u8 c1, .int .u8 w0, .int .u8 w1, .int .u8 w2, .int .u8 w3, .int .u8 w4] ∧ Own wr (w.heap.size + 1) [.int .i64 0, .slice none 0 0, .int .i64 0, .slice none 0 0, .slice none 0 0, .int .i64 0, .bool false] ∧ Own wr (w.heap.size + 1 + 1) [.int .i64 30, (.slice a1 4 n1), .int .i64 (40 + h), s, b, .int .i64 9, .bool o] ∧ M ≤ wr.heap.size ∧ IRow wr a1 [60 + p0, 60 + p1, 60 + p2, 60 + p3] ∧ ApartS s b ∧ ((t = .int .i64 0 ∧ wr.ownsRow M 3 1 s 0 [] ∧ wr.ownsRow M 3 1 b 0 []) ∨ (t = .int .i64 1 ∧ wr.ownsRow M 3 1 s 1 [.int .i64 f0] ∧ wr.ownsRow M 3 1 b 1 [.int .i64 f2]) ∨ (t = .int .i64 2 ∧ wr.ownsRow M 3 1 s 2 [.int .i64 f0, .int .i64 f1] ∧ wr.ownsRow M 3 1 b 2 [.int .i64 f2, .int .i64 f3])))) (fun t _ => 2 - (intOf t).toNat)
   case atStart => exact Lib.hid ⟨_, _, gX, h1, h2, h3, Nat.le_of_eq hM.symm, R1.out, fun r e => by simp [Value.ownBlock] at e, .inl ⟨rfl, World.ownsRow_nil _ _ _ _, World.ownsRow_nil _ _ _ _⟩⟩
   case round =>
    obtain ⟨s, b, gX', h1, h2, h3, lX, r1, hap, hx⟩ := hrel.out
    clear hrel gX hM R1
    have gX := gX'
    clear gX'
    rcases hx with ⟨rfl, hs, hb⟩ | ⟨rfl, hs, hb⟩ | ⟨rfl, hs, hb⟩
    ·obtain ⟨y0, y1⟩ := hf0
     obtain ⟨y2, y3⟩ := hf2
     have e0 := h1.2 5 _ rfl
     have e1 := h1.2 7 _ rfl
     have s1 := h3.1.2 3 _ rfl
     have s2 := h3.1.2 4 _ rfl
     have k0 : IntKind.i64.wrap f0 = f0 := IntWalk.i64_in _ (by omega)
     have k1 : IntKind.i64.wrap f2 = f2 := IntWalk.i64_in _ (by omega)
     go_wp2
     clear e0 e1 s1 s2
     obtain ⟨D, hD⟩ : ∃ D, wr.heap.size = D := ⟨_, rfl⟩
     have hsD : ∀ r, s.ownBlock = some r → M ≤ r ∧ r < D := fun r e => hD ▸ hs.lt r e
     have hbD : ∀ r, b.ownBlock = some r → M ≤ r ∧ r < D := fun r e => hD ▸ hb.lt r e
     have lD : M ≤ D := hD ▸ lX
     have hC0 : Box wr.drew w.heap.size [.int .u8 p0, .int .u8 p1, .int .u8 p2, .int .u8 p3, .int .u8 h, .int .u8 f0, .int .u8 f1, .int .u8 f2, .int .u8 f3, .bool o, .int .u8 c0, .int .u8 c1, .int .u8 w0, .int .u8 w1, .int .u8 w2, .int .u8 w3, .int .u8 w4] ∧ Own wr.drew (w.heap.size + 1) [.int .i64 0, .slice none 0 0, .int .i64 0, .slice none 0 0, .slice none 0 0, .int .i64 0, .bool false] ∧ Own wr.drew (w.heap.size + 1 + 1) [.int .i64 30, (.slice a1 4 n1), .int .i64 (40 + h), s, b, .int .i64 9, .bool o] ∧ IRow wr.drew a1 [60 + p0, 60 + p1, 60 + p2, 60 + p3] ∧ D ≤ wr.drew.heap.size := ⟨h1.keep (Gr.dr _), h2.keep (Gr.dr _), h3.keep (Gr.dr _), r1.grow (Gr.dr _), Nat.le_of_eq hD.symm⟩
     have hS0 : Gr w wr.drew ∧ wr.drew.ownsRow M 3 1 s 0 [] ∧ wr.drew.ownsRow M 3 1 b 0 [] := ⟨gX.tr (Gr.dr _), owns_keep hs (Gr.dr _), owns_keep hb (Gr.dr _)⟩
     clear h1 h2 h3 r1 gX hs hb lX hD
     refine wp_region_two (fun r => M ≤ r ∧ r < D) 20 8 18 [(1, 0), (4, 3), (4, 2), (5, 4), (6, 5), (7, 6), (8, 1), (8, 7), (10, 9), (12, 11), (14, 13), (14, 12), (15, 14), (16, 15), (17, 16), (18, 10), (18, 17), (18, 8)] (fun x => ⟨#[.agg #[.int .u8 p0, .int .u8 p1, .int .u8 p2, .int .u8 p3, .int .u8 h, .int .u8 f0, .int .u8 f1, .int .u8 f2, .int .u8 f3, .bool o, .int .u8 c0, .int .u8 c1, .int .u8 w0, .int .u8 w1, .int .u8 w2, .int .u8 w3, .int .u8 w4], .pointer (some ⟨w.heap.size, 0, none⟩), .pointer (some ⟨(w.heap.size + 1), 0, none⟩), .pointer (some ⟨(w.heap.size + 1 + 1), 0, none⟩), .int .i64 4, .int .i64 0, .pointer (some ⟨w.heap.size, 4, none⟩), .int .u8 h, .int .i64 h, .int .i64 (40 + h), .pointer (some ⟨w.heap.size, 9, none⟩), .bool o, .agg #[.int .i64 30, .slice none 0 0, .int .i64 (40 + h), .slice none 0 0, .slice none 0 0, .int .i64 9, .bool o], .int .i64 4, .bool false, u15, u16, u17, u18, u19, u20, u21, u22, u23, u24, u25, u26, u27, .int .i64 0, .bool true, u30, u31, x 0, x 1, x 2, x 3, x 4, x 5, x 6, x 7, x 8, x 9, x 10, x 11, x 12, x 13, x 14, x 15, x 16, x 17, x 18, x 19, u52, undef, undef, undef, undef, undef], []⟩) (fun i => [u32, u33, u34, u35, u36, u37, u38, u39, u40, u41, u42, u43, u44, u45, u46, u47, u48, u49, u50, u51].getD i undef) [fun _ x => x = .pointer (some ⟨(w.heap.size + 1 + 1), 3, none⟩), fun _ x => x = s, fun _ x => x = .int .i64 0, fun _ x => x = .pointer (some ⟨w.heap.size, 5, none⟩), fun _ x => x = .pointer (some ⟨w.heap.size, 5, none⟩), fun _ x => x = .int .u8 f0, fun _ x => x = .int .i64 f0, fun v x => ∃ b, x = .slice (some ⟨b, 0, none⟩) 1 1 ∧ D ≤ b ∧ Box v b [.int .i64 f0], fun _ _ => True, fun _ x => x = .pointer (some ⟨(w.heap.size + 1 + 1), 4, none⟩), fun _ x => x = b, fun _ x => x = .int .i64 0, fun _ x => x = .int .i64 2, fun _ x => x = .pointer (some ⟨w.heap.size, 5, none⟩), fun _ x => x = .pointer (some ⟨w.heap.size, 7, none⟩), fun _ x => x = .int .u8 f2, fun _ x => x = .int .i64 f2, fun v x => ∃ b, x = .slice (some ⟨b, 0, none⟩) 1 1 ∧ D ≤ b ∧ Box v b [.int .i64 f2], fun _ _ => True, fun _ x => x = .pointer (some ⟨(w.heap.size + 1 + 1), 3, none⟩)] (fun v => Box v w.heap.size [.int .u8 p0, .int .u8 p1, .int .u8 p2, .int .u8 p3, .int .u8 h, .int .u8 f0, .int .u8 f1, .int .u8 f2, .int .u8 f3, .bool o, .int .u8 c0, .int .u8 c1, .int .u8 w0, .int .u8 w1, .int .u8 w2, .int .u8 w3, .int .u8 w4] ∧ Own v (w.heap.size + 1) [.int .i64 0, .slice none 0 0, .int .i64 0, .slice none 0 0, .slice none 0 0, .int .i64 0, .bool false] ∧ Own v (w.heap.size + 1 + 1) [.int .i64 30, (.slice a1 4 n1), .int .i64 (40 + h), s, b, .int .i64 9, .bool o] ∧ IRow v a1 [60 + p0, 60 + p1, 60 + p2, 60 + p3] ∧ D ≤ v.heap.size) (fun v => Gr w v ∧ v.ownsRow M 3 1 s 0 [] ∧ v.ownsRow M 3 1 b 0 []) (fun v x => Gr w v ∧ v.ownsRow M 3 1 x 1 [.int .i64 f0] ∧ v.ownsRow M 3 1 b 0 [] ∧ ApartS x b) (fun v x y => Gr w v ∧ v.ownsRow M 3 1 x 1 [.int .i64 f0] ∧ v.ownsRow M 3 1 y 1 [.int .i64 f2] ∧ ApartS x y) (by rfl) (by kernel_rfl) (by kernel_rfl) (by kernel_rfl) (by simp) (by omega) (by omega) (by omega) (staysZ_cons (StaysZ.eq _ _) (staysZ_cons (StaysZ.eq _ _) (staysZ_cons (StaysZ.eq _ _) (staysZ_cons (StaysZ.eq _ _) (staysZ_cons (StaysZ.eq _ _) (staysZ_cons (StaysZ.eq _ _) (staysZ_cons (StaysZ.eq _ _) (staysZ_cons (show StaysZ _ (fun v x => ∃ b, x = .slice (some ⟨b, 0, none⟩) 1 1 ∧ D ≤ b ∧ Box v b [.int .i64 f0]) from fun v v' x g ⟨b, h, h1, h2⟩ => ⟨b, h, h1, boxS_kx h2 g (by omega)⟩) (staysZ_cons (fun _ _ _ _ _ => trivial) (staysZ_cons (StaysZ.eq _ _) (staysZ_cons (StaysZ.eq _ _) (staysZ_cons (StaysZ.eq _ _) (staysZ_cons (StaysZ.eq _ _) (staysZ_cons (StaysZ.eq _ _) (staysZ_cons (StaysZ.eq _ _) (staysZ_cons (StaysZ.eq _ _) (staysZ_cons (StaysZ.eq _ _) (staysZ_cons (show StaysZ _ (fun v x => ∃ b, x = .slice (some ⟨b, 0, none⟩) 1 1 ∧ D ≤ b ∧ Box v b [.int .i64 f2]) from fun v v' x g ⟨b, h, h1, h2⟩ => ⟨b, h, h1, boxS_kx h2 g (by omega)⟩) (staysZ_cons (fun _ _ _ _ _ => trivial) (staysZ_cons (StaysZ.eq _ _) staysZ_nil))))))))))))))))))))
      (fun v v' g h => ⟨boxS_kx h.1 g (by omega), h.2.1.kx g (by omega), h.2.2.1.kx g (by omega), h.2.2.2.1.kx g (fun b f e h9 => by have := HM.out b f none e; omega), Nat.le_trans h.2.2.2.2 g.size⟩) (fun v v' g h => ⟨h.1.tr g, owns_keep h.2.1 g, owns_keep h.2.2 g⟩) (fun v v' x g h => ⟨h.1.tr g, owns_keep h.2.1 g, owns_keep h.2.2.1 g, h.2.2.2⟩) (fun v v' x y g h => ⟨h.1.tr g, owns_keep h.2.1 g, owns_keep h.2.2.1 g, h.2.2.2⟩) hC0 hS0 ?stepA ?ppA ?qqA ?finA
     case stepA =>
      rintro i hi np nq x v hc hd K hK
      have hi8 : i = 0 ∨ i = 1 ∨ i = 2 ∨ i = 3 ∨ i = 4 ∨ i = 5 ∨ i = 6 ∨ i = 7 ∨ i = 9 ∨ i = 10 ∨ i = 11 ∨ i = 12 ∨ i = 13 ∨ i = 14 ∨ i = 15 ∨ i = 16 ∨ i = 17 ∨ i = 19 := by omega
      rcases hi8 with rfl | rfl | rfl | rfl | rfl | rfl | rfl | rfl | rfl | rfl | rfl | rfl | rfl | rfl | rfl | rfl | rfl | rfl
      ·show wpOp Try.prog _ _ 0 K (⟨#[_, _, _, _, _, _, _, _, _, _, _, _, _, _, _, _, _, _, _, _, _, _, _, _, _, _, _, _, _, _, _, _, x 0, x 1, x 2, x 3, x 4, x 5, x 6, x 7, x 8, x 9, x 10, x 11, x 12, x 13, x 14, x 15, x 16, x 17, x 18, x 19, _, _, _, _, _, _], []⟩ : Act) v
       refine wpOp_step rfl (fun K' hK' => ?_)
       go_simp
       exact hK' _ _ (hK _ _ (Below.refl _ _) (at_of rfl (rfl)))
      ·obtain ⟨x, rfl⟩ := upd_of (show x 0 = .pointer (some ⟨(w.heap.size + 1 + 1), 3, none⟩) from hd 0 _ (by simp) (by decide) (by decide) rfl)
       show wpOp Try.prog _ _ 1 K (⟨#[_, _, _, _, _, _, _, _, _, _, _, _, _, _, _, _, _, _, _, _, _, _, _, _, _, _, _, _, _, _, _, _, .pointer (some ⟨(w.heap.size + 1 + 1), 3, none⟩), x 1, x 2, x 3, x 4, x 5, x 6, x 7, x 8, x 9, x 10, x 11, x 12, x 13, x 14, x 15, x 16, x 17, x 18, x 19, _, _, _, _, _, _], []⟩ : Act) v
       have q := hc.2.2.1.1.2 3 _ rfl
       refine wpOp_step rfl (fun K' hK' => ?_)
       go_simp
       exact hK' _ _ (hK _ _ (Below.refl _ _) (at_of rfl (rfl)))
      ·show wpOp Try.prog _ _ 2 K (⟨#[_, _, _, _, _, _, _, _, _, _, _, _, _, _, _, _, _, _, _, _, _, _, _, _, _, _, _, _, _, _, _, _, x 0, x 1, x 2, x 3, x 4, x 5, x 6, x 7, x 8, x 9, x 10, x 11, x 12, x 13, x 14, x 15, x 16, x 17, x 18, x 19, _, _, _, _, _, _], []⟩ : Act) v
       refine wpOp_step rfl (fun K' hK' => ?_)
       go_simp
       exact hK' _ _ (hK _ _ (Below.refl _ _) (at_of rfl (rfl)))
      ·show wpOp Try.prog _ _ 3 K (⟨#[_, _, _, _, _, _, _, _, _, _, _, _, _, _, _, _, _, _, _, _, _, _, _, _, _, _, _, _, _, _, _, _, x 0, x 1, x 2, x 3, x 4, x 5, x 6, x 7, x 8, x 9, x 10, x 11, x 12, x 13, x 14, x 15, x 16, x 17, x 18, x 19, _, _, _, _, _, _], []⟩ : Act) v
       refine wpOp_step rfl (fun K' hK' => ?_)
       go_simp
       exact hK' _ _ (hK _ _ (Below.refl _ _) (at_of rfl (rfl)))
      ·obtain ⟨x, rfl⟩ := upd_of (show x 3 = .pointer (some ⟨w.heap.size, 5, none⟩) from hd 3 _ (by simp) (by decide) (by decide) rfl)
       obtain ⟨x, rfl⟩ := upd_of (show x 2 = .int .i64 0 from hd 2 _ (by simp) (by decide) (by decide) rfl)
       show wpOp Try.prog _ _ 4 K (⟨#[_, _, _, _, _, _, _, _, _, _, _, _, _, _, _, _, _, _, _, _, _, _, _, _, _, _, _, _, _, _, _, _, x 0, x 1, .int .i64 0, .pointer (some ⟨w.heap.size, 5, none⟩), x 4, x 5, x 6, x 7, x 8, x 9, x 10, x 11, x 12, x 13, x 14, x 15, x 16, x 17, x 18, x 19, _, _, _, _, _, _], []⟩ : Act) v
       refine wpOp_step rfl (fun K' hK' => ?_)
       go_simp
       exact hK' _ _ (hK _ _ (Below.refl _ _) (at_of rfl (rfl)))
      ·obtain ⟨x, rfl⟩ := upd_of (show x 4 = .pointer (some ⟨w.heap.size, 5, none⟩) from hd 4 _ (by simp) (by decide) (by decide) rfl)
       show wpOp Try.prog _ _ 5 K (⟨#[_, _, _, _, _, _, _, _, _, _, _, _, _, _, _, _, _, _, _, _, _, _, _, _, _, _, _, _, _, _, _, _, x 0, x 1, x 2, x 3, .pointer (some ⟨w.heap.size, 5, none⟩), x 5, x 6, x 7, x 8, x 9, x 10, x 11, x 12, x 13, x 14, x 15, x 16, x 17, x 18, x 19, _, _, _, _, _, _], []⟩ : Act) v
       have q := hc.1.2 5 _ rfl
       refine wpOp_step rfl (fun K' hK' => ?_)
       go_simp
       exact hK' _ _ (hK _ _ (Below.refl _ _) (at_of rfl (rfl)))
      ·obtain ⟨x, rfl⟩ := upd_of (show x 5 = .int .u8 f0 from hd 5 _ (by simp) (by decide) (by decide) rfl)
       show wpOp Try.prog _ _ 6 K (⟨#[_, _, _, _, _, _, _, _, _, _, _, _, _, _, _, _, _, _, _, _, _, _, _, _, _, _, _, _, _, _, _, _, x 0, x 1, x 2, x 3, x 4, .int .u8 f0, x 6, x 7, x 8, x 9, x 10, x 11, x 12, x 13, x 14, x 15, x 16, x 17, x 18, x 19, _, _, _, _, _, _], []⟩ : Act) v
       refine wpOp_step rfl (fun K' hK' => ?_)
       go_simp
       exact hK' _ _ (hK _ _ (Below.refl _ _) (at_of rfl (rfl)))
      ·obtain ⟨x, rfl⟩ := upd_of (show x 6 = .int .i64 f0 from hd 6 _ (by simp) (by decide) (by decide) rfl)
       show wpOp Try.prog _ _ 7 K (⟨#[_, _, _, _, _, _, _, _, _, _, _, _, _, _, _, _, _, _, _, _, _, _, _, _, _, _, _, _, _, _, _, _, x 0, x 1, x 2, x 3, x 4, x 5, .int .i64 f0, x 7, x 8, x 9, x 10, x 11, x 12, x 13, x 14, x 15, x 16, x 17, x 18, x 19, _, _, _, _, _, _], []⟩ : Act) v
       refine wpOp_step rfl (fun K' hK' => ?_)
       go_simp
       have gA := Gr.al v (.cells (List.toArray [.int .i64 f0]) 3)
       exact hK' _ _ (hK _ _ gA (at_of rfl ⟨v.heap.size, rfl, hc.2.2.2.2, Box.new v [.int .i64 f0] 3 v.heap.size rfl⟩))
      ·show wpOp Try.prog _ _ 9 K (⟨#[_, _, _, _, _, _, _, _, _, _, _, _, _, _, _, _, _, _, _, _, _, _, _, _, _, _, _, _, _, _, _, _, x 0, x 1, x 2, x 3, x 4, x 5, x 6, x 7, x 8, x 9, x 10, x 11, x 12, x 13, x 14, x 15, x 16, x 17, x 18, x 19, _, _, _, _, _, _], []⟩ : Act) v
       refine wpOp_step rfl (fun K' hK' => ?_)
       go_simp
       exact hK' _ _ (hK _ _ (Below.refl _ _) (at_of rfl (rfl)))
      ·obtain ⟨x, rfl⟩ := upd_of (show x 9 = .pointer (some ⟨(w.heap.size + 1 + 1), 4, none⟩) from hd 9 _ (by simp) (by decide) (by decide) rfl)
       show wpOp Try.prog _ _ 10 K (⟨#[_, _, _, _, _, _, _, _, _, _, _, _, _, _, _, _, _, _, _, _, _, _, _, _, _, _, _, _, _, _, _, _, x 0, x 1, x 2, x 3, x 4, x 5, x 6, x 7, x 8, .pointer (some ⟨(w.heap.size + 1 + 1), 4, none⟩), x 10, x 11, x 12, x 13, x 14, x 15, x 16, x 17, x 18, x 19, _, _, _, _, _, _], []⟩ : Act) v
       have q := hc.2.2.1.1.2 4 _ rfl
       refine wpOp_step rfl (fun K' hK' => ?_)
       go_simp
       exact hK' _ _ (hK _ _ (Below.refl _ _) (at_of rfl (rfl)))
      ·show wpOp Try.prog _ _ 11 K (⟨#[_, _, _, _, _, _, _, _, _, _, _, _, _, _, _, _, _, _, _, _, _, _, _, _, _, _, _, _, _, _, _, _, x 0, x 1, x 2, x 3, x 4, x 5, x 6, x 7, x 8, x 9, x 10, x 11, x 12, x 13, x 14, x 15, x 16, x 17, x 18, x 19, _, _, _, _, _, _], []⟩ : Act) v
       refine wpOp_step rfl (fun K' hK' => ?_)
       go_simp
       exact hK' _ _ (hK _ _ (Below.refl _ _) (at_of rfl (rfl)))
      ·obtain ⟨x, rfl⟩ := upd_of (show x 11 = .int .i64 0 from hd 11 _ (by simp) (by decide) (by decide) rfl)
       show wpOp Try.prog _ _ 12 K (⟨#[_, _, _, _, _, _, _, _, _, _, _, _, _, _, _, _, _, _, _, _, _, _, _, _, _, _, _, _, _, _, _, _, x 0, x 1, x 2, x 3, x 4, x 5, x 6, x 7, x 8, x 9, x 10, .int .i64 0, x 12, x 13, x 14, x 15, x 16, x 17, x 18, x 19, _, _, _, _, _, _], []⟩ : Act) v
       refine wpOp_step rfl (fun K' hK' => ?_)
       go_simp
       exact hK' _ _ (hK _ _ (Below.refl _ _) (at_of rfl (rfl)))
      ·show wpOp Try.prog _ _ 13 K (⟨#[_, _, _, _, _, _, _, _, _, _, _, _, _, _, _, _, _, _, _, _, _, _, _, _, _, _, _, _, _, _, _, _, x 0, x 1, x 2, x 3, x 4, x 5, x 6, x 7, x 8, x 9, x 10, x 11, x 12, x 13, x 14, x 15, x 16, x 17, x 18, x 19, _, _, _, _, _, _], []⟩ : Act) v
       refine wpOp_step rfl (fun K' hK' => ?_)
       go_simp
       exact hK' _ _ (hK _ _ (Below.refl _ _) (at_of rfl (rfl)))
      ·obtain ⟨x, rfl⟩ := upd_of (show x 13 = .pointer (some ⟨w.heap.size, 5, none⟩) from hd 13 _ (by simp) (by decide) (by decide) rfl)
       obtain ⟨x, rfl⟩ := upd_of (show x 12 = .int .i64 2 from hd 12 _ (by simp) (by decide) (by decide) rfl)
       show wpOp Try.prog _ _ 14 K (⟨#[_, _, _, _, _, _, _, _, _, _, _, _, _, _, _, _, _, _, _, _, _, _, _, _, _, _, _, _, _, _, _, _, x 0, x 1, x 2, x 3, x 4, x 5, x 6, x 7, x 8, x 9, x 10, x 11, .int .i64 2, .pointer (some ⟨w.heap.size, 5, none⟩), x 14, x 15, x 16, x 17, x 18, x 19, _, _, _, _, _, _], []⟩ : Act) v
       refine wpOp_step rfl (fun K' hK' => ?_)
       go_simp
       exact hK' _ _ (hK _ _ (Below.refl _ _) (at_of rfl (rfl)))
      ·obtain ⟨x, rfl⟩ := upd_of (show x 14 = .pointer (some ⟨w.heap.size, 7, none⟩) from hd 14 _ (by simp) (by decide) (by decide) rfl)
       show wpOp Try.prog _ _ 15 K (⟨#[_, _, _, _, _, _, _, _, _, _, _, _, _, _, _, _, _, _, _, _, _, _, _, _, _, _, _, _, _, _, _, _, x 0, x 1, x 2, x 3, x 4, x 5, x 6, x 7, x 8, x 9, x 10, x 11, x 12, x 13, .pointer (some ⟨w.heap.size, 7, none⟩), x 15, x 16, x 17, x 18, x 19, _, _, _, _, _, _], []⟩ : Act) v
       have q := hc.1.2 7 _ rfl
       refine wpOp_step rfl (fun K' hK' => ?_)
       go_simp
       exact hK' _ _ (hK _ _ (Below.refl _ _) (at_of rfl (rfl)))
      ·obtain ⟨x, rfl⟩ := upd_of (show x 15 = .int .u8 f2 from hd 15 _ (by simp) (by decide) (by decide) rfl)
       show wpOp Try.prog _ _ 16 K (⟨#[_, _, _, _, _, _, _, _, _, _, _, _, _, _, _, _, _, _, _, _, _, _, _, _, _, _, _, _, _, _, _, _, x 0, x 1, x 2, x 3, x 4, x 5, x 6, x 7, x 8, x 9, x 10, x 11, x 12, x 13, x 14, .int .u8 f2, x 16, x 17, x 18, x 19, _, _, _, _, _, _], []⟩ : Act) v
       refine wpOp_step rfl (fun K' hK' => ?_)
       go_simp
       exact hK' _ _ (hK _ _ (Below.refl _ _) (at_of rfl (rfl)))
      ·obtain ⟨x, rfl⟩ := upd_of (show x 16 = .int .i64 f2 from hd 16 _ (by simp) (by decide) (by decide) rfl)
       show wpOp Try.prog _ _ 17 K (⟨#[_, _, _, _, _, _, _, _, _, _, _, _, _, _, _, _, _, _, _, _, _, _, _, _, _, _, _, _, _, _, _, _, x 0, x 1, x 2, x 3, x 4, x 5, x 6, x 7, x 8, x 9, x 10, x 11, x 12, x 13, x 14, x 15, .int .i64 f2, x 17, x 18, x 19, _, _, _, _, _, _], []⟩ : Act) v
       refine wpOp_step rfl (fun K' hK' => ?_)
       go_simp
       have gA := Gr.al v (.cells (List.toArray [.int .i64 f2]) 3)
       exact hK' _ _ (hK _ _ gA (at_of rfl ⟨v.heap.size, rfl, hc.2.2.2.2, Box.new v [.int .i64 f2] 3 v.heap.size rfl⟩))
      ·show wpOp Try.prog _ _ 19 K (⟨#[_, _, _, _, _, _, _, _, _, _, _, _, _, _, _, _, _, _, _, _, _, _, _, _, _, _, _, _, _, _, _, _, x 0, x 1, x 2, x 3, x 4, x 5, x 6, x 7, x 8, x 9, x 10, x 11, x 12, x 13, x 14, x 15, x 16, x 17, x 18, x 19, _, _, _, _, _, _], []⟩ : Act) v
       refine wpOp_step rfl (fun K' hK' => ?_)
       go_simp
       exact hK' _ _ (hK _ _ (Below.refl _ _) (at_of rfl (rfl)))
     case ppA =>
      rintro x v hc ⟨gv, o1, o2⟩ hd K hK
      obtain ⟨x, rfl⟩ := upd_of (show x 1 = s from hd 1 _ (by simp) (by decide) (by decide) rfl)
      obtain ⟨t7, e7, hb7, hx7⟩ := hd 7 _ (by simp) (by decide) (by decide) rfl
      obtain ⟨x, rfl⟩ := upd_of (show x 7 = .slice (some ⟨t7, 0, none⟩) 1 1 from e7)
      show wpOp Try.prog _ _ 8 K (⟨#[_, _, _, _, _, _, _, _, _, _, _, _, _, _, _, _, _, _, _, _, _, _, _, _, _, _, _, _, _, _, _, _, x 0, s, x 2, x 3, x 4, x 5, x 6, .slice (some ⟨t7, 0, none⟩) 1 1, x 8, x 9, x 10, x 11, x 12, x 13, x 14, x 15, x 16, x 17, x 18, x 19, _, _, _, _, _, _], []⟩ : Act) v
      refine wpOp_step rfl (fun K' hK' => ?_)
      refine step_append_lies _ (by rfl) _ _ 22 (by rfl) M 3 i0 (.int .i64 0) 1 8 Try.underlying22 hi hz0 hz1 hz2 rfl (by decide) s 0 _ (by rfl) o1 ⟨t7, 0, none⟩ 1 1 ([f0].map (fun n => Value.int .i64 n)) (by rfl) (by rfl) (fun j u hu => by have := hx7.2 j u hu; unfold Addr.add; split <;> simp_all) (ints_one _) (by omega) (by unfold maxLen; omega) (by omega) ?_ _ rfl ?_
      ·have := hc.2.2.2.2
       omega
      intro g cp y4 o4 hg4 ha4 hl4
      have hkx : Kx (fun r => M ≤ r ∧ r < D) v y4 := Kx.grown hg4 (fun r e => .inl (hsD r e))
      have gY := gv.grown' o1 (by omega) hg4
      have hap4 : ApartS (.slice (some ⟨g, 0, none⟩) (0 + 1) cp) b := (ApartS.after (ApartS.symm hap) ha4 (fun r e => (o2.lt r e).2)).symm
      exact hK' _ _ (hK _ _ hkx ⟨gY, o4, owns_apartS o2 hg4 (ApartS.symm hap), hap4⟩)
     case qqA =>
      rintro x v hc ⟨gv, o1, o2, hap1⟩ hd K hK
      obtain ⟨g1, hg1⟩ : ∃ r, x 8 = r := ⟨_, rfl⟩
      rw [hg1] at o1 hap1 hK
      obtain ⟨x, rfl⟩ := upd_of hg1
      obtain ⟨x, rfl⟩ := upd_of (show x 10 = b from hd 10 _ (by simp) (by decide) (by decide) rfl)
      obtain ⟨t17, e17, hb17, hx17⟩ := hd 17 _ (by simp) (by decide) (by decide) rfl
      obtain ⟨x, rfl⟩ := upd_of (show x 17 = .slice (some ⟨t17, 0, none⟩) 1 1 from e17)
      show wpOp Try.prog _ _ 18 K (⟨#[_, _, _, _, _, _, _, _, _, _, _, _, _, _, _, _, _, _, _, _, _, _, _, _, _, _, _, _, _, _, _, _, x 0, x 1, x 2, x 3, x 4, x 5, x 6, x 7, g1, x 9, b, x 11, x 12, x 13, x 14, x 15, x 16, .slice (some ⟨t17, 0, none⟩) 1 1, x 18, x 19, _, _, _, _, _, _], []⟩ : Act) v
      refine wpOp_step rfl (fun K' hK' => ?_)
      refine step_append_lies _ (by rfl) _ _ 22 (by rfl) M 3 i0 (.int .i64 0) 1 8 Try.underlying22 hi hz0 hz1 hz2 rfl (by decide) b 0 _ (by rfl) o2 ⟨t17, 0, none⟩ 1 1 ([f2].map (fun n => Value.int .i64 n)) (by rfl) (by rfl) (fun j u hu => by have := hx17.2 j u hu; unfold Addr.add; split <;> simp_all) (ints_one _) (by omega) (by unfold maxLen; omega) (by omega) ?_ _ rfl ?_
      ·have := hc.2.2.2.2
       omega
      intro g cp y4 o4 hg4 ha4 hl4
      have hkx : Kx (fun r => M ≤ r ∧ r < D) v y4 := Kx.grown hg4 (fun r e => .inl (hbD r e))
      have gY := gv.grown' o2 (by omega) hg4
      have hap4 : ApartS g1 (.slice (some ⟨g, 0, none⟩) (0 + 1) cp) := ApartS.after hap1 ha4 (fun r e => (o1.lt r e).2)
      exact hK' _ _ (hK _ _ hkx ⟨gY, owns_apartS o1 hg4 hap1, o4, hap4⟩)
     case finA =>
      rintro x v hc ⟨gv, o1, o2, hap1⟩ hd
      obtain ⟨x, rfl⟩ := upd_of (show x 19 = .pointer (some ⟨(w.heap.size + 1 + 1), 3, none⟩) from hd 19 _ (by omega) (by decide) (by decide) rfl)
      clear hd
      obtain ⟨g1, hg1⟩ : ∃ r, upd x 19 (.pointer (some ⟨(w.heap.size + 1 + 1), 3, none⟩)) 8 = r := ⟨_, rfl⟩
      obtain ⟨g2, hg2⟩ : ∃ r, upd x 19 (.pointer (some ⟨(w.heap.size + 1 + 1), 3, none⟩)) 18 = r := ⟨_, rfl⟩
      rw [hg1, hg2] at hap1
      rw [hg1] at o1
      rw [hg2] at o2
      rw [upd_ne _ _ (by decide)] at hg1 hg2
      obtain ⟨x, rfl⟩ := upd_of hg1
      obtain ⟨x, rfl⟩ := upd_of (show x 18 = g2 from by rw [← hg2, upd_ne]; decide)
      show wpList Try.prog _ _ (List.drop 20 _) (⟨#[_, _, _, _, _, _, _, _, _, _, _, _, _, _, _, _, _, _, _, _, _, _, _, _, _, _, _, _, _, _, _, _, x 0, x 1, x 2, x 3, x 4, x 5, x 6, x 7, g1, x 9, x 10, x 11, x 12, x 13, x 14, x 15, x 16, x 17, g2, .pointer (some ⟨(w.heap.size + 1 + 1), 3, none⟩), _, _, _, _, _, _], []⟩ : Act) v
      simp only [List.drop_succ_cons, List.drop_zero]
      obtain ⟨h1, h2, h3, r1, lZ⟩ := hc
      have s1 := h3.1.2 3 _ rfl
      have s2 := h3.1.2 4 _ rfl
      have z1 := h3.2 3
      have z2 := h3.2 4
      clear k0 k1 hC0 hS0
      clear hg1 hg2
      obtain ⟨_, _, rfl, _, _⟩ := o1.form (by omega)
      obtain ⟨_, _, rfl, _, _⟩ := o2.form (by omega)
      go_wp2
      go_roundw
      case rel =>
       refine Lib.hid ⟨_, _, (gv.setCell (p := ⟨(w.heap.size + 1 + 1), 3, none⟩) (show w.heap.size ≤ w.heap.size + 1 + 1 by omega) _).setCell (p := ⟨(w.heap.size + 1 + 1), 4, none⟩) (show w.heap.size ≤ w.heap.size + 1 + 1 by omega) _, (h1.other (by omega)).other (by omega), (h2.other (by omega)).other (by omega), (h3.set (i := 3) (by simp)).set (i := 4) (by simp), ?_, ?_, hap1, .inr (.inl ⟨rfl, owns_other (owns_other o1 (by omega)) (by omega), owns_other (owns_other o2 (by omega)) (by omega)⟩)⟩
       ·have : M ≤ v.heap.size := by omega
        simpa using this
       ·have hm : NewAt N a1 := M1.out
        exact (r1.other hm (by omega)).other hm (by omega)
      case measure => simp [intOf]
    ·obtain ⟨y0, y1⟩ := hf1
     obtain ⟨y2, y3⟩ := hf3
     have e0 := h1.2 6 _ rfl
     have e1 := h1.2 8 _ rfl
     have s1 := h3.1.2 3 _ rfl
     have s2 := h3.1.2 4 _ rfl
     have k0 : IntKind.i64.wrap f1 = f1 := IntWalk.i64_in _ (by omega)
     have k1 : IntKind.i64.wrap f3 = f3 := IntWalk.i64_in _ (by omega)
     go_wp2
     clear e0 e1 s1 s2
     obtain ⟨D, hD⟩ : ∃ D, wr.heap.size = D := ⟨_, rfl⟩
     have hsD : ∀ r, s.ownBlock = some r → M ≤ r ∧ r < D := fun r e => hD ▸ hs.lt r e
     have hbD : ∀ r, b.ownBlock = some r → M ≤ r ∧ r < D := fun r e => hD ▸ hb.lt r e
     have lD : M ≤ D := hD ▸ lX
     have hC0 : Box wr.drew w.heap.size [.int .u8 p0, .int .u8 p1, .int .u8 p2, .int .u8 p3, .int .u8 h, .int .u8 f0, .int .u8 f1, .int .u8 f2, .int .u8 f3, .bool o, .int .u8 c0, .int .u8 c1, .int .u8 w0, .int .u8 w1, .int .u8 w2, .int .u8 w3, .int .u8 w4] ∧ Own wr.drew (w.heap.size + 1) [.int .i64 0, .slice none 0 0, .int .i64 0, .slice none 0 0, .slice none 0 0, .int .i64 0, .bool false] ∧ Own wr.drew (w.heap.size + 1 + 1) [.int .i64 30, (.slice a1 4 n1), .int .i64 (40 + h), s, b, .int .i64 9, .bool o] ∧ IRow wr.drew a1 [60 + p0, 60 + p1, 60 + p2, 60 + p3] ∧ D ≤ wr.drew.heap.size := ⟨h1.keep (Gr.dr _), h2.keep (Gr.dr _), h3.keep (Gr.dr _), r1.grow (Gr.dr _), Nat.le_of_eq hD.symm⟩
     have hS0 : Gr w wr.drew ∧ wr.drew.ownsRow M 3 1 s 1 [.int .i64 f0] ∧ wr.drew.ownsRow M 3 1 b 1 [.int .i64 f2] := ⟨gX.tr (Gr.dr _), owns_keep hs (Gr.dr _), owns_keep hb (Gr.dr _)⟩
     clear h1 h2 h3 r1 gX hs hb lX hD
     refine wp_region_two (fun r => M ≤ r ∧ r < D) 20 8 18 [(1, 0), (4, 3), (4, 2), (5, 4), (6, 5), (7, 6), (8, 1), (8, 7), (10, 9), (12, 11), (14, 13), (14, 12), (15, 14), (16, 15), (17, 16), (18, 10), (18, 17), (18, 8)] (fun x => ⟨#[.agg #[.int .u8 p0, .int .u8 p1, .int .u8 p2, .int .u8 p3, .int .u8 h, .int .u8 f0, .int .u8 f1, .int .u8 f2, .int .u8 f3, .bool o, .int .u8 c0, .int .u8 c1, .int .u8 w0, .int .u8 w1, .int .u8 w2, .int .u8 w3, .int .u8 w4], .pointer (some ⟨w.heap.size, 0, none⟩), .pointer (some ⟨(w.heap.size + 1), 0, none⟩), .pointer (some ⟨(w.heap.size + 1 + 1), 0, none⟩), .int .i64 4, .int .i64 1, .pointer (some ⟨w.heap.size, 4, none⟩), .int .u8 h, .int .i64 h, .int .i64 (40 + h), .pointer (some ⟨w.heap.size, 9, none⟩), .bool o, .agg #[.int .i64 30, .slice none 0 0, .int .i64 (40 + h), .slice none 0 0, .slice none 0 0, .int .i64 9, .bool o], .int .i64 4, .bool false, u15, u16, u17, u18, u19, u20, u21, u22, u23, u24, u25, u26, u27, .int .i64 1, .bool true, u30, u31, x 0, x 1, x 2, x 3, x 4, x 5, x 6, x 7, x 8, x 9, x 10, x 11, x 12, x 13, x 14, x 15, x 16, x 17, x 18, x 19, u52, undef, undef, undef, undef, undef], []⟩) (fun i => [u32, u33, u34, u35, u36, u37, u38, u39, u40, u41, u42, u43, u44, u45, u46, u47, u48, u49, u50, u51].getD i undef) [fun _ x => x = .pointer (some ⟨(w.heap.size + 1 + 1), 3, none⟩), fun _ x => x = s, fun _ x => x = .int .i64 1, fun _ x => x = .pointer (some ⟨w.heap.size, 5, none⟩), fun _ x => x = .pointer (some ⟨w.heap.size, 6, none⟩), fun _ x => x = .int .u8 f1, fun _ x => x = .int .i64 f1, fun v x => ∃ b, x = .slice (some ⟨b, 0, none⟩) 1 1 ∧ D ≤ b ∧ Box v b [.int .i64 f1], fun _ _ => True, fun _ x => x = .pointer (some ⟨(w.heap.size + 1 + 1), 4, none⟩), fun _ x => x = b, fun _ x => x = .int .i64 1, fun _ x => x = .int .i64 3, fun _ x => x = .pointer (some ⟨w.heap.size, 5, none⟩), fun _ x => x = .pointer (some ⟨w.heap.size, 8, none⟩), fun _ x => x = .int .u8 f3, fun _ x => x = .int .i64 f3, fun v x => ∃ b, x = .slice (some ⟨b, 0, none⟩) 1 1 ∧ D ≤ b ∧ Box v b [.int .i64 f3], fun _ _ => True, fun _ x => x = .pointer (some ⟨(w.heap.size + 1 + 1), 3, none⟩)] (fun v => Box v w.heap.size [.int .u8 p0, .int .u8 p1, .int .u8 p2, .int .u8 p3, .int .u8 h, .int .u8 f0, .int .u8 f1, .int .u8 f2, .int .u8 f3, .bool o, .int .u8 c0, .int .u8 c1, .int .u8 w0, .int .u8 w1, .int .u8 w2, .int .u8 w3, .int .u8 w4] ∧ Own v (w.heap.size + 1) [.int .i64 0, .slice none 0 0, .int .i64 0, .slice none 0 0, .slice none 0 0, .int .i64 0, .bool false] ∧ Own v (w.heap.size + 1 + 1) [.int .i64 30, (.slice a1 4 n1), .int .i64 (40 + h), s, b, .int .i64 9, .bool o] ∧ IRow v a1 [60 + p0, 60 + p1, 60 + p2, 60 + p3] ∧ D ≤ v.heap.size) (fun v => Gr w v ∧ v.ownsRow M 3 1 s 1 [.int .i64 f0] ∧ v.ownsRow M 3 1 b 1 [.int .i64 f2]) (fun v x => Gr w v ∧ v.ownsRow M 3 1 x 2 [.int .i64 f0, .int .i64 f1] ∧ v.ownsRow M 3 1 b 1 [.int .i64 f2] ∧ ApartS x b) (fun v x y => Gr w v ∧ v.ownsRow M 3 1 x 2 [.int .i64 f0, .int .i64 f1] ∧ v.ownsRow M 3 1 y 2 [.int .i64 f2, .int .i64 f3] ∧ ApartS x y) (by rfl) (by kernel_rfl) (by kernel_rfl) (by kernel_rfl) (by simp) (by omega) (by omega) (by omega) (staysZ_cons (StaysZ.eq _ _) (staysZ_cons (StaysZ.eq _ _) (staysZ_cons (StaysZ.eq _ _) (staysZ_cons (StaysZ.eq _ _) (staysZ_cons (StaysZ.eq _ _) (staysZ_cons (StaysZ.eq _ _) (staysZ_cons (StaysZ.eq _ _) (staysZ_cons (show StaysZ _ (fun v x => ∃ b, x = .slice (some ⟨b, 0, none⟩) 1 1 ∧ D ≤ b ∧ Box v b [.int .i64 f1]) from fun v v' x g ⟨b, h, h1, h2⟩ => ⟨b, h, h1, boxS_kx h2 g (by omega)⟩) (staysZ_cons (fun _ _ _ _ _ => trivial) (staysZ_cons (StaysZ.eq _ _) (staysZ_cons (StaysZ.eq _ _) (staysZ_cons (StaysZ.eq _ _) (staysZ_cons (StaysZ.eq _ _) (staysZ_cons (StaysZ.eq _ _) (staysZ_cons (StaysZ.eq _ _) (staysZ_cons (StaysZ.eq _ _) (staysZ_cons (StaysZ.eq _ _) (staysZ_cons (show StaysZ _ (fun v x => ∃ b, x = .slice (some ⟨b, 0, none⟩) 1 1 ∧ D ≤ b ∧ Box v b [.int .i64 f3]) from fun v v' x g ⟨b, h, h1, h2⟩ => ⟨b, h, h1, boxS_kx h2 g (by omega)⟩) (staysZ_cons (fun _ _ _ _ _ => trivial) (staysZ_cons (StaysZ.eq _ _) staysZ_nil))))))))))))))))))))
      (fun v v' g h => ⟨boxS_kx h.1 g (by omega), h.2.1.kx g (by omega), h.2.2.1.kx g (by omega), h.2.2.2.1.kx g (fun b f e h9 => by have := HM.out b f none e; omega), Nat.le_trans h.2.2.2.2 g.size⟩) (fun v v' g h => ⟨h.1.tr g, owns_keep h.2.1 g, owns_keep h.2.2 g⟩) (fun v v' x g h => ⟨h.1.tr g, owns_keep h.2.1 g, owns_keep h.2.2.1 g, h.2.2.2⟩) (fun v v' x y g h => ⟨h.1.tr g, owns_keep h.2.1 g, owns_keep h.2.2.1 g, h.2.2.2⟩) hC0 hS0 ?stepB ?ppB ?qqB ?finB
     case stepB =>
      rintro i hi np nq x v hc hd K hK
      have hi8 : i = 0 ∨ i = 1 ∨ i = 2 ∨ i = 3 ∨ i = 4 ∨ i = 5 ∨ i = 6 ∨ i = 7 ∨ i = 9 ∨ i = 10 ∨ i = 11 ∨ i = 12 ∨ i = 13 ∨ i = 14 ∨ i = 15 ∨ i = 16 ∨ i = 17 ∨ i = 19 := by omega
      rcases hi8 with rfl | rfl | rfl | rfl | rfl | rfl | rfl | rfl | rfl | rfl | rfl | rfl | rfl | rfl | rfl | rfl | rfl | rfl
      ·show wpOp Try.prog _ _ 0 K (⟨#[_, _, _, _, _, _, _, _, _, _, _, _, _, _, _, _, _, _, _, _, _, _, _, _, _, _, _, _, _, _, _, _, x 0, x 1, x 2, x 3, x 4, x 5, x 6, x 7, x 8, x 9, x 10, x 11, x 12, x 13, x 14, x 15, x 16, x 17, x 18, x 19, _, _, _, _, _, _], []⟩ : Act) v
       refine wpOp_step rfl (fun K' hK' => ?_)
       go_simp
       exact hK' _ _ (hK _ _ (Below.refl _ _) (at_of rfl (rfl)))
      ·obtain ⟨x, rfl⟩ := upd_of (show x 0 = .pointer (some ⟨(w.heap.size + 1 + 1), 3, none⟩) from hd 0 _ (by simp) (by decide) (by decide) rfl)
       show wpOp Try.prog _ _ 1 K (⟨#[_, _, _, _, _, _, _, _, _, _, _, _, _, _, _, _, _, _, _, _, _, _, _, _, _, _, _, _, _, _, _, _, .pointer (some ⟨(w.heap.size + 1 + 1), 3, none⟩), x 1, x 2, x 3, x 4, x 5, x 6, x 7, x 8, x 9, x 10, x 11, x 12, x 13, x 14, x 15, x 16, x 17, x 18, x 19, _, _, _, _, _, _], []⟩ : Act) v
       have q := hc.2.2.1.1.2 3 _ rfl
       refine wpOp_step rfl (fun K' hK' => ?_)
       go_simp
       exact hK' _ _ (hK _ _ (Below.refl _ _) (at_of rfl (rfl)))
      ·show wpOp Try.prog _ _ 2 K (⟨#[_, _, _, _, _, _, _, _, _, _, _, _, _, _, _, _, _, _, _, _, _, _, _, _, _, _, _, _, _, _, _, _, x 0, x 1, x 2, x 3, x 4, x 5, x 6, x 7, x 8, x 9, x 10, x 11, x 12, x 13, x 14, x 15, x 16, x 17, x 18, x 19, _, _, _, _, _, _], []⟩ : Act) v
       refine wpOp_step rfl (fun K' hK' => ?_)
       go_simp
       exact hK' _ _ (hK _ _ (Below.refl _ _) (at_of rfl (rfl)))
      ·show wpOp Try.prog _ _ 3 K (⟨#[_, _, _, _, _, _, _, _, _, _, _, _, _, _, _, _, _, _, _, _, _, _, _, _, _, _, _, _, _, _, _, _, x 0, x 1, x 2, x 3, x 4, x 5, x 6, x 7, x 8, x 9, x 10, x 11, x 12, x 13, x 14, x 15, x 16, x 17, x 18, x 19, _, _, _, _, _, _], []⟩ : Act) v
       refine wpOp_step rfl (fun K' hK' => ?_)
       go_simp
       exact hK' _ _ (hK _ _ (Below.refl _ _) (at_of rfl (rfl)))
      ·obtain ⟨x, rfl⟩ := upd_of (show x 3 = .pointer (some ⟨w.heap.size, 5, none⟩) from hd 3 _ (by simp) (by decide) (by decide) rfl)
       obtain ⟨x, rfl⟩ := upd_of (show x 2 = .int .i64 1 from hd 2 _ (by simp) (by decide) (by decide) rfl)
       show wpOp Try.prog _ _ 4 K (⟨#[_, _, _, _, _, _, _, _, _, _, _, _, _, _, _, _, _, _, _, _, _, _, _, _, _, _, _, _, _, _, _, _, x 0, x 1, .int .i64 1, .pointer (some ⟨w.heap.size, 5, none⟩), x 4, x 5, x 6, x 7, x 8, x 9, x 10, x 11, x 12, x 13, x 14, x 15, x 16, x 17, x 18, x 19, _, _, _, _, _, _], []⟩ : Act) v
       refine wpOp_step rfl (fun K' hK' => ?_)
       go_simp
       exact hK' _ _ (hK _ _ (Below.refl _ _) (at_of rfl (rfl)))
      ·obtain ⟨x, rfl⟩ := upd_of (show x 4 = .pointer (some ⟨w.heap.size, 6, none⟩) from hd 4 _ (by simp) (by decide) (by decide) rfl)
       show wpOp Try.prog _ _ 5 K (⟨#[_, _, _, _, _, _, _, _, _, _, _, _, _, _, _, _, _, _, _, _, _, _, _, _, _, _, _, _, _, _, _, _, x 0, x 1, x 2, x 3, .pointer (some ⟨w.heap.size, 6, none⟩), x 5, x 6, x 7, x 8, x 9, x 10, x 11, x 12, x 13, x 14, x 15, x 16, x 17, x 18, x 19, _, _, _, _, _, _], []⟩ : Act) v
       have q := hc.1.2 6 _ rfl
       refine wpOp_step rfl (fun K' hK' => ?_)
       go_simp
       exact hK' _ _ (hK _ _ (Below.refl _ _) (at_of rfl (rfl)))
      ·obtain ⟨x, rfl⟩ := upd_of (show x 5 = .int .u8 f1 from hd 5 _ (by simp) (by decide) (by decide) rfl)
       show wpOp Try.prog _ _ 6 K (⟨#[_, _, _, _, _, _, _, _, _, _, _, _, _, _, _, _, _, _, _, _, _, _, _, _, _, _, _, _, _, _, _, _, x 0, x 1, x 2, x 3, x 4, .int .u8 f1, x 6, x 7, x 8, x 9, x 10, x 11, x 12, x 13, x 14, x 15, x 16, x 17, x 18, x 19, _, _, _, _, _, _], []⟩ : Act) v
       refine wpOp_step rfl (fun K' hK' => ?_)
       go_simp
       exact hK' _ _ (hK _ _ (Below.refl _ _) (at_of rfl (rfl)))
      ·obtain ⟨x, rfl⟩ := upd_of (show x 6 = .int .i64 f1 from hd 6 _ (by simp) (by decide) (by decide) rfl)
       show wpOp Try.prog _ _ 7 K (⟨#[_, _, _, _, _, _, _, _, _, _, _, _, _, _, _, _, _, _, _, _, _, _, _, _, _, _, _, _, _, _, _, _, x 0, x 1, x 2, x 3, x 4, x 5, .int .i64 f1, x 7, x 8, x 9, x 10, x 11, x 12, x 13, x 14, x 15, x 16, x 17, x 18, x 19, _, _, _, _, _, _], []⟩ : Act) v
       refine wpOp_step rfl (fun K' hK' => ?_)
       go_simp
       have gA := Gr.al v (.cells (List.toArray [.int .i64 f1]) 3)
       exact hK' _ _ (hK _ _ gA (at_of rfl ⟨v.heap.size, rfl, hc.2.2.2.2, Box.new v [.int .i64 f1] 3 v.heap.size rfl⟩))
      ·show wpOp Try.prog _ _ 9 K (⟨#[_, _, _, _, _, _, _, _, _, _, _, _, _, _, _, _, _, _, _, _, _, _, _, _, _, _, _, _, _, _, _, _, x 0, x 1, x 2, x 3, x 4, x 5, x 6, x 7, x 8, x 9, x 10, x 11, x 12, x 13, x 14, x 15, x 16, x 17, x 18, x 19, _, _, _, _, _, _], []⟩ : Act) v
       refine wpOp_step rfl (fun K' hK' => ?_)
       go_simp
       exact hK' _ _ (hK _ _ (Below.refl _ _) (at_of rfl (rfl)))
      ·obtain ⟨x, rfl⟩ := upd_of (show x 9 = .pointer (some ⟨(w.heap.size + 1 + 1), 4, none⟩) from hd 9 _ (by simp) (by decide) (by decide) rfl)
       show wpOp Try.prog _ _ 10 K (⟨#[_, _, _, _, _, _, _, _, _, _, _, _, _, _, _, _, _, _, _, _, _, _, _, _, _, _, _, _, _, _, _, _, x 0, x 1, x 2, x 3, x 4, x 5, x 6, x 7, x 8, .pointer (some ⟨(w.heap.size + 1 + 1), 4, none⟩), x 10, x 11, x 12, x 13, x 14, x 15, x 16, x 17, x 18, x 19, _, _, _, _, _, _], []⟩ : Act) v
       have q := hc.2.2.1.1.2 4 _ rfl
       refine wpOp_step rfl (fun K' hK' => ?_)
       go_simp
       exact hK' _ _ (hK _ _ (Below.refl _ _) (at_of rfl (rfl)))
      ·show wpOp Try.prog _ _ 11 K (⟨#[_, _, _, _, _, _, _, _, _, _, _, _, _, _, _, _, _, _, _, _, _, _, _, _, _, _, _, _, _, _, _, _, x 0, x 1, x 2, x 3, x 4, x 5, x 6, x 7, x 8, x 9, x 10, x 11, x 12, x 13, x 14, x 15, x 16, x 17, x 18, x 19, _, _, _, _, _, _], []⟩ : Act) v
       refine wpOp_step rfl (fun K' hK' => ?_)
       go_simp
       exact hK' _ _ (hK _ _ (Below.refl _ _) (at_of rfl (rfl)))
      ·obtain ⟨x, rfl⟩ := upd_of (show x 11 = .int .i64 1 from hd 11 _ (by simp) (by decide) (by decide) rfl)
       show wpOp Try.prog _ _ 12 K (⟨#[_, _, _, _, _, _, _, _, _, _, _, _, _, _, _, _, _, _, _, _, _, _, _, _, _, _, _, _, _, _, _, _, x 0, x 1, x 2, x 3, x 4, x 5, x 6, x 7, x 8, x 9, x 10, .int .i64 1, x 12, x 13, x 14, x 15, x 16, x 17, x 18, x 19, _, _, _, _, _, _], []⟩ : Act) v
       refine wpOp_step rfl (fun K' hK' => ?_)
       go_simp
       exact hK' _ _ (hK _ _ (Below.refl _ _) (at_of rfl (rfl)))
      ·show wpOp Try.prog _ _ 13 K (⟨#[_, _, _, _, _, _, _, _, _, _, _, _, _, _, _, _, _, _, _, _, _, _, _, _, _, _, _, _, _, _, _, _, x 0, x 1, x 2, x 3, x 4, x 5, x 6, x 7, x 8, x 9, x 10, x 11, x 12, x 13, x 14, x 15, x 16, x 17, x 18, x 19, _, _, _, _, _, _], []⟩ : Act) v
       refine wpOp_step rfl (fun K' hK' => ?_)
       go_simp
       exact hK' _ _ (hK _ _ (Below.refl _ _) (at_of rfl (rfl)))
      ·obtain ⟨x, rfl⟩ := upd_of (show x 13 = .pointer (some ⟨w.heap.size, 5, none⟩) from hd 13 _ (by simp) (by decide) (by decide) rfl)
       obtain ⟨x, rfl⟩ := upd_of (show x 12 = .int .i64 3 from hd 12 _ (by simp) (by decide) (by decide) rfl)
       show wpOp Try.prog _ _ 14 K (⟨#[_, _, _, _, _, _, _, _, _, _, _, _, _, _, _, _, _, _, _, _, _, _, _, _, _, _, _, _, _, _, _, _, x 0, x 1, x 2, x 3, x 4, x 5, x 6, x 7, x 8, x 9, x 10, x 11, .int .i64 3, .pointer (some ⟨w.heap.size, 5, none⟩), x 14, x 15, x 16, x 17, x 18, x 19, _, _, _, _, _, _], []⟩ : Act) v
       refine wpOp_step rfl (fun K' hK' => ?_)
       go_simp
       exact hK' _ _ (hK _ _ (Below.refl _ _) (at_of rfl (rfl)))
      ·obtain ⟨x, rfl⟩ := upd_of (show x 14 = .pointer (some ⟨w.heap.size, 8, none⟩) from hd 14 _ (by simp) (by decide) (by decide) rfl)
       show wpOp Try.prog _ _ 15 K (⟨#[_, _, _, _, _, _, _, _, _, _, _, _, _, _, _, _, _, _, _, _, _, _, _, _, _, _, _, _, _, _, _, _, x 0, x 1, x 2, x 3, x 4, x 5, x 6, x 7, x 8, x 9, x 10, x 11, x 12, x 13, .pointer (some ⟨w.heap.size, 8, none⟩), x 15, x 16, x 17, x 18, x 19, _, _, _, _, _, _], []⟩ : Act) v
       have q := hc.1.2 8 _ rfl
       refine wpOp_step rfl (fun K' hK' => ?_)
       go_simp
       exact hK' _ _ (hK _ _ (Below.refl _ _) (at_of rfl (rfl)))
      ·obtain ⟨x, rfl⟩ := upd_of (show x 15 = .int .u8 f3 from hd 15 _ (by simp) (by decide) (by decide) rfl)
       show wpOp Try.prog _ _ 16 K (⟨#[_, _, _, _, _, _, _, _, _, _, _, _, _, _, _, _, _, _, _, _, _, _, _, _, _, _, _, _, _, _, _, _, x 0, x 1, x 2, x 3, x 4, x 5, x 6, x 7, x 8, x 9, x 10, x 11, x 12, x 13, x 14, .int .u8 f3, x 16, x 17, x 18, x 19, _, _, _, _, _, _], []⟩ : Act) v
       refine wpOp_step rfl (fun K' hK' => ?_)
       go_simp
       exact hK' _ _ (hK _ _ (Below.refl _ _) (at_of rfl (rfl)))
      ·obtain ⟨x, rfl⟩ := upd_of (show x 16 = .int .i64 f3 from hd 16 _ (by simp) (by decide) (by decide) rfl)
       show wpOp Try.prog _ _ 17 K (⟨#[_, _, _, _, _, _, _, _, _, _, _, _, _, _, _, _, _, _, _, _, _, _, _, _, _, _, _, _, _, _, _, _, x 0, x 1, x 2, x 3, x 4, x 5, x 6, x 7, x 8, x 9, x 10, x 11, x 12, x 13, x 14, x 15, .int .i64 f3, x 17, x 18, x 19, _, _, _, _, _, _], []⟩ : Act) v
       refine wpOp_step rfl (fun K' hK' => ?_)
       go_simp
       have gA := Gr.al v (.cells (List.toArray [.int .i64 f3]) 3)
       exact hK' _ _ (hK _ _ gA (at_of rfl ⟨v.heap.size, rfl, hc.2.2.2.2, Box.new v [.int .i64 f3] 3 v.heap.size rfl⟩))
      ·show wpOp Try.prog _ _ 19 K (⟨#[_, _, _, _, _, _, _, _, _, _, _, _, _, _, _, _, _, _, _, _, _, _, _, _, _, _, _, _, _, _, _, _, x 0, x 1, x 2, x 3, x 4, x 5, x 6, x 7, x 8, x 9, x 10, x 11, x 12, x 13, x 14, x 15, x 16, x 17, x 18, x 19, _, _, _, _, _, _], []⟩ : Act) v
       refine wpOp_step rfl (fun K' hK' => ?_)
       go_simp
       exact hK' _ _ (hK _ _ (Below.refl _ _) (at_of rfl (rfl)))
     case ppB =>
      rintro x v hc ⟨gv, o1, o2⟩ hd K hK
      obtain ⟨x, rfl⟩ := upd_of (show x 1 = s from hd 1 _ (by simp) (by decide) (by decide) rfl)
      obtain ⟨t7, e7, hb7, hx7⟩ := hd 7 _ (by simp) (by decide) (by decide) rfl
      obtain ⟨x, rfl⟩ := upd_of (show x 7 = .slice (some ⟨t7, 0, none⟩) 1 1 from e7)
      show wpOp Try.prog _ _ 8 K (⟨#[_, _, _, _, _, _, _, _, _, _, _, _, _, _, _, _, _, _, _, _, _, _, _, _, _, _, _, _, _, _, _, _, x 0, s, x 2, x 3, x 4, x 5, x 6, .slice (some ⟨t7, 0, none⟩) 1 1, x 8, x 9, x 10, x 11, x 12, x 13, x 14, x 15, x 16, x 17, x 18, x 19, _, _, _, _, _, _], []⟩ : Act) v
      refine wpOp_step rfl (fun K' hK' => ?_)
      refine step_append_lies _ (by rfl) _ _ 22 (by rfl) M 3 i0 (.int .i64 0) 1 8 Try.underlying22 hi hz0 hz1 hz2 rfl (by decide) s 1 _ (by rfl) o1 ⟨t7, 0, none⟩ 1 1 ([f1].map (fun n => Value.int .i64 n)) (by rfl) (by rfl) (fun j u hu => by have := hx7.2 j u hu; unfold Addr.add; split <;> simp_all) (ints_one _) (by omega) (by unfold maxLen; omega) (by omega) ?_ _ rfl ?_
      ·have := hc.2.2.2.2
       omega
      intro g cp y4 o4 hg4 ha4 hl4
      have hkx : Kx (fun r => M ≤ r ∧ r < D) v y4 := Kx.grown hg4 (fun r e => .inl (hsD r e))
      have gY := gv.grown' o1 (by omega) hg4
      have hap4 : ApartS (.slice (some ⟨g, 0, none⟩) (1 + 1) cp) b := (ApartS.after (ApartS.symm hap) ha4 (fun r e => (o2.lt r e).2)).symm
      exact hK' _ _ (hK _ _ hkx ⟨gY, o4, owns_apartS o2 hg4 (ApartS.symm hap), hap4⟩)
     case qqB =>
      rintro x v hc ⟨gv, o1, o2, hap1⟩ hd K hK
      obtain ⟨g1, hg1⟩ : ∃ r, x 8 = r := ⟨_, rfl⟩
      rw [hg1] at o1 hap1 hK
      obtain ⟨x, rfl⟩ := upd_of hg1
      obtain ⟨x, rfl⟩ := upd_of (show x 10 = b from hd 10 _ (by simp) (by decide) (by decide) rfl)
      obtain ⟨t17, e17, hb17, hx17⟩ := hd 17 _ (by simp) (by decide) (by decide) rfl
      obtain ⟨x, rfl⟩ := upd_of (show x 17 = .slice (some ⟨t17, 0, none⟩) 1 1 from e17)
      show wpOp Try.prog _ _ 18 K (⟨#[_, _, _, _, _, _, _, _, _, _, _, _, _, _, _, _, _, _, _, _, _, _, _, _, _, _, _, _, _, _, _, _, x 0, x 1, x 2, x 3, x 4, x 5, x 6, x 7, g1, x 9, b, x 11, x 12, x 13, x 14, x 15, x 16, .slice (some ⟨t17, 0, none⟩) 1 1, x 18, x 19, _, _, _, _, _, _], []⟩ : Act) v
      refine wpOp_step rfl (fun K' hK' => ?_)
      refine step_append_lies _ (by rfl) _ _ 22 (by rfl) M 3 i0 (.int .i64 0) 1 8 Try.underlying22 hi hz0 hz1 hz2 rfl (by decide) b 1 _ (by rfl) o2 ⟨t17, 0, none⟩ 1 1 ([f3].map (fun n => Value.int .i64 n)) (by rfl) (by rfl) (fun j u hu => by have := hx17.2 j u hu; unfold Addr.add; split <;> simp_all) (ints_one _) (by omega) (by unfold maxLen; omega) (by omega) ?_ _ rfl ?_
      ·have := hc.2.2.2.2
       omega
      intro g cp y4 o4 hg4 ha4 hl4
      have hkx : Kx (fun r => M ≤ r ∧ r < D) v y4 := Kx.grown hg4 (fun r e => .inl (hbD r e))
      have gY := gv.grown' o2 (by omega) hg4
      have hap4 : ApartS g1 (.slice (some ⟨g, 0, none⟩) (1 + 1) cp) := ApartS.after hap1 ha4 (fun r e => (o1.lt r e).2)
      exact hK' _ _ (hK _ _ hkx ⟨gY, owns_apartS o1 hg4 hap1, o4, hap4⟩)
     case finB =>
      rintro x v hc ⟨gv, o1, o2, hap1⟩ hd
      obtain ⟨x, rfl⟩ := upd_of (show x 19 = .pointer (some ⟨(w.heap.size + 1 + 1), 3, none⟩) from hd 19 _ (by omega) (by decide) (by decide) rfl)
      clear hd
      obtain ⟨g1, hg1⟩ : ∃ r, upd x 19 (.pointer (some ⟨(w.heap.size + 1 + 1), 3, none⟩)) 8 = r := ⟨_, rfl⟩
      obtain ⟨g2, hg2⟩ : ∃ r, upd x 19 (.pointer (some ⟨(w.heap.size + 1 + 1), 3, none⟩)) 18 = r := ⟨_, rfl⟩
      rw [hg1, hg2] at hap1
      rw [hg1] at o1
      rw [hg2] at o2
      rw [upd_ne _ _ (by decide)] at hg1 hg2
      obtain ⟨x, rfl⟩ := upd_of hg1
      obtain ⟨x, rfl⟩ := upd_of (show x 18 = g2 from by rw [← hg2, upd_ne]; decide)
      show wpList Try.prog _ _ (List.drop 20 _) (⟨#[_, _, _, _, _, _, _, _, _, _, _, _, _, _, _, _, _, _, _, _, _, _, _, _, _, _, _, _, _, _, _, _, x 0, x 1, x 2, x 3, x 4, x 5, x 6, x 7, g1, x 9, x 10, x 11, x 12, x 13, x 14, x 15, x 16, x 17, g2, .pointer (some ⟨(w.heap.size + 1 + 1), 3, none⟩), _, _, _, _, _, _], []⟩ : Act) v
      simp only [List.drop_succ_cons, List.drop_zero]
      obtain ⟨h1, h2, h3, r1, lZ⟩ := hc
      have s1 := h3.1.2 3 _ rfl
      have s2 := h3.1.2 4 _ rfl
      have z1 := h3.2 3
      have z2 := h3.2 4
      clear k0 k1 hC0 hS0
      clear hg1 hg2
      obtain ⟨_, _, rfl, _, _⟩ := o1.form (by omega)
      obtain ⟨_, _, rfl, _, _⟩ := o2.form (by omega)
      go_wp2
      go_roundw
      case rel =>
       refine Lib.hid ⟨_, _, (gv.setCell (p := ⟨(w.heap.size + 1 + 1), 3, none⟩) (show w.heap.size ≤ w.heap.size + 1 + 1 by omega) _).setCell (p := ⟨(w.heap.size + 1 + 1), 4, none⟩) (show w.heap.size ≤ w.heap.size + 1 + 1 by omega) _, (h1.other (by omega)).other (by omega), (h2.other (by omega)).other (by omega), (h3.set (i := 3) (by simp)).set (i := 4) (by simp), ?_, ?_, hap1, .inr (.inr (⟨rfl, owns_other (owns_other o1 (by omega)) (by omega), owns_other (owns_other o2 (by omega)) (by omega)⟩))⟩
       ·have : M ≤ v.heap.size := by omega
        simpa using this
       ·have hm : NewAt N a1 := M1.out
        exact (r1.other hm (by omega)).other hm (by omega)
      case measure => simp [intOf]
    ·obtain ⟨a2, n2, hv2, r2, m2⟩ := owns_row_new (enc := encI) (l := [f0, f1]) (fun _ => rfl) (by simp) hs
     obtain ⟨a3, n3, hv3, r3, m3⟩ := owns_row_new (enc := encI) (l := [f2, f3]) (fun _ => rfl) (by simp) hb
     subst hv2
     subst hv3
     have h3 : Own wr (w.heap.size + 1 + 1) [.int .i64 30, (.slice a1 4 n1), .int .i64 (40 + h), (.slice a2 2 n2), (.slice a3 2 n3), .int .i64 9, .bool o] := h3
     have HR1 := Lib.hid r1
     have HR2 := Lib.hid r2
     have HR3 := Lib.hid r3
     have HM1 := Lib.hid (show NewAt N a1 from M1.out)
     have HM2 := Lib.hid (m2.le lM)
     have HM3 := Lib.hid (m3.le lM)
     clear r1 r2 r3 m2 m3 hs hb hap
     obtain ⟨s0, s1, s2, s3, s4, s5, s6⟩ := h3.1.c7
     have z3 := h3.2 3
     obtain ⟨y0, y1, y2, y3, y4, y5, y6⟩ := h2.1.c7
     have x0 := h2.2 0
     have x1 := h2.2 1
     have x2 := h2.2 2
     have x3 := h2.2 3
     have x4 := h2.2 4
     have x5 := h2.2 5
     have x6 := h2.2 6
     have q9 := h1.2 9 _ rfl
     have hgr : w.heap.size + 1 + 1 < wr.heap.size := h3.1.1
     have hle : w.heap.size ≤ w.heap.size + 1 := Nat.le_succ _
     have hle3 : w.heap.size ≤ w.heap.size + 1 + 1 := by omega
     have hbN : w.heap.size + 1 < N := by omega
     have hbN3 : w.heap.size + 1 + 1 < N := by omega
     have n23 : w.heap.size + 1 ≠ w.heap.size + 1 + 1 := by omega
     clear hp0 hp1 hp2 hp3 hf0 hf1 hf2 hf3 HM u0 u1 lM lX lN h1 hi hz0 hz1 hz2
     cases o
     case false =>
      clear h2 h3
      go_wp2
      refine bodyPost_ret (v := .agg #[.int .i64 30, .slice a1 4 n1, .int .i64 (40 + h), .slice a2 2 n2, .slice a3 2 n3, .int .i64 9, .bool false]) (by simp [results, Try.results39, go_sem, y0, y1, y2, y3, y4, y5, y6]) rfl ⟨_, _, _, _, _, _, rfl, ?_, ?_, ?_, ?_, ?_⟩
      ·exact (((((((gX.setCell (p := ⟨(w.heap.size + 1), 0, none⟩) hle _).setCell (p := ⟨(w.heap.size + 1), 1, none⟩) hle _).setCell (p := ⟨(w.heap.size + 1), 2, none⟩) hle _).setCell (p := ⟨(w.heap.size + 1), 3, none⟩) hle _).setCell (p := ⟨(w.heap.size + 1), 4, none⟩) hle _).setCell (p := ⟨(w.heap.size + 1), 5, none⟩) hle _).setCell (p := ⟨(w.heap.size + 1), 6, none⟩) hle _)
      ·exact (((((((HR1.out.other HM1.out hbN).other HM1.out hbN).other HM1.out hbN).other HM1.out hbN).other HM1.out hbN).other HM1.out hbN).other HM1.out hbN)
      ·exact (((((((HR2.out.other HM2.out hbN).other HM2.out hbN).other HM2.out hbN).other HM2.out hbN).other HM2.out hbN).other HM2.out hbN).other HM2.out hbN)
      ·exact (((((((HR3.out.other HM3.out hbN).other HM3.out hbN).other HM3.out hbN).other HM3.out hbN).other HM3.out hbN).other HM3.out hbN).other HM3.out hbN)
      ·have hN0 : w.heap.size ≤ N := by omega
       exact ⟨HM1.out.le hN0, HM2.out.le hN0, HM3.out.le hN0⟩
     case true =>
      clear s0 s1 s2 s3 s4 s5 s6 z3 y0 y1 y2 y3 y4 y5 y6 x0 x1 x2 x3 x4 x5 x6
      have s3 := h3.1.2 3 _ rfl
      have z3 := h3.2 3
      go_upto_region 12 with fail
      obtain ⟨T, hTT⟩ : ∃ T, wr.heap.size = T := ⟨_, rfl⟩
      rw [hTT]
      have hmT : NewAt (w.heap.size + 1 + 1 + 1) (some (⟨T, 0, none⟩ : Addr)) := fun b f c e => by
       cases e
       have := hgr
       omega
      refine wp_abs (fun Y => Gr w Y ∧ Own Y (w.heap.size + 1) [.int .i64 0, .slice none 0 0, .int .i64 0, .slice none 0 0, .slice none 0 0, .int .i64 0, .bool false] ∧ Own Y (w.heap.size + 1 + 1) [.int .i64 30, (.slice a1 4 n1), .int .i64 (40 + h), (.slice (some ⟨T, 0, none⟩) 2 2), (.slice a3 2 n3), .int .i64 9, .bool true] ∧ IRow Y a1 [60 + p0, 60 + p1, 60 + p2, 60 + p3] ∧ IRow Y (some ⟨T, 0, none⟩) [0, 0] ∧ IRow Y a3 [f2, f3]) ⟨Gr.tr (gX.setCell (p := ⟨w.heap.size + 1 + 1, 3, none⟩) hle3 _) (Gr.al _ _), (h2.other n23).keep (Gr.al _ _), (h3.set (i := 3) (by simp)).keep (Gr.al _ _), (HR1.out.other HM1.out hbN3).grow (Gr.al _ _), IRow.new' _ 3 [0, 0] (by simp) T (by simp [hTT]) _ rfl, (HR3.out.other HM3.out hbN3).grow (Gr.al _ _)⟩ ?_
      clear gX h2 h3 s3 z3 HR1 HR2 HR3
      rintro Y ⟨gX, h2, h3, r1, rT, r3⟩
      have HR1 := Lib.hid r1
      have HR2 := Lib.hid rT
      have HR3 := Lib.hid r3
      have HMT := Lib.hid hmT
      clear r1 rT r3 hmT
      obtain ⟨s0, s1, s2, s3, s4, s5, s6⟩ := h3.1.c7
      obtain ⟨y0, y1, y2, y3, y4, y5, y6⟩ := h2.1.c7
      have x0 := h2.2 0
      have x1 := h2.2 1
      have x2 := h2.2 2
      have x3 := h2.2 3
      have x4 := h2.2 4
      have x5 := h2.2 5
      have x6 := h2.2 6
      clear h2 h3
      go_wp2
      refine bodyPost_ret (v := .agg #[.int .i64 30, (.slice a1 4 n1), .int .i64 (40 + h), (.slice (some ⟨T, 0, none⟩) 2 2), (.slice a3 2 n3), .int .i64 9, .bool true]) (by simp [results, Try.results39, go_sem, y0, y1, y2, y3, y4, y5, y6]) rfl ⟨_, _, _, _, _, _, rfl, ?_, ?_, ?_, ?_, ?_⟩
      ·exact (((((((gX.setCell (p := ⟨(w.heap.size + 1), 0, none⟩) hle _).setCell (p := ⟨(w.heap.size + 1), 1, none⟩) hle _).setCell (p := ⟨(w.heap.size + 1), 2, none⟩) hle _).setCell (p := ⟨(w.heap.size + 1), 3, none⟩) hle _).setCell (p := ⟨(w.heap.size + 1), 4, none⟩) hle _).setCell (p := ⟨(w.heap.size + 1), 5, none⟩) hle _).setCell (p := ⟨(w.heap.size + 1), 6, none⟩) hle _)
      ·exact (((((((HR1.out.other HM1.out hbN).other HM1.out hbN).other HM1.out hbN).other HM1.out hbN).other HM1.out hbN).other HM1.out hbN).other HM1.out hbN)
      ·exact (((((((HR2.out.other HMT.out (by omega)).other HMT.out (by omega)).other HMT.out (by omega)).other HMT.out (by omega)).other HMT.out (by omega)).other HMT.out (by omega)).other HMT.out (by omega))
      ·exact (((((((HR3.out.other HM3.out hbN).other HM3.out hbN).other HM3.out hbN).other HM3.out hbN).other HM3.out hbN).other HM3.out hbN).other HM3.out hbN)
      ·have hN0 : w.heap.size ≤ N := by omega
       exact ⟨HM1.out.le hN0, HMT.out.le (by omega), HM3.out.le hN0⟩

end Go.Proofs.Ytafkoococfnakaa

namespace Go.Proofs.Ytafkoococfnakaa
set_option linter.unusedVariables false
set_option linter.unusedSimpArgs false
open Go.RowKit

set_option maxRecDepth 100000 in
theorem sheetCal_any (p0 p1 p2 p3 h f0 f1 f2 f3 : Int) (o : Bool) (c0 c1 w0 w1 w2 w3 w4 : Int) (hc0 : By c0) (hc1 : By c1) (w : World) :
  Calls Try.prog 40 #[.agg #[.int .u8 p0, .int .u8 p1, .int .u8 p2, .int .u8 p3, .int .u8 h, .int .u8 f0, .int .u8 f1, .int .u8 f2, .int .u8 f3, .bool o, .int .u8 c0, .int .u8 c1, .int .u8 w0, .int .u8 w1, .int .u8 w2, .int .u8 w3, .int .u8 w4]] w fun e w' => e = .returned (.agg #[.int .i64 (1500 + 20 * c0), .int .i64 (1500 + 20 * c0 + 2 * c1)]) ∧ Gr w w' := by
 have gg := (Gr.al w (.cells #[.int .u8 p0, .int .u8 p1, .int .u8 p2, .int .u8 p3, .int .u8 h, .int .u8 f0, .int .u8 f1, .int .u8 f2, .int .u8 f3, .bool o, .int .u8 c0, .int .u8 c1, .int .u8 w0, .int .u8 w1, .int .u8 w2, .int .u8 w3, .int .u8 w4] 69)).tr (Gr.al _ (.cells #[.int .i64 0, .int .i64 0] 37))
 have h1 := (Box.new w [.int .u8 p0, .int .u8 p1, .int .u8 p2, .int .u8 p3, .int .u8 h, .int .u8 f0, .int .u8 f1, .int .u8 f2, .int .u8 f3, .bool o, .int .u8 c0, .int .u8 c1, .int .u8 w0, .int .u8 w1, .int .u8 w2, .int .u8 w3, .int .u8 w4] 69 w.heap.size rfl).keep (Gr.al _ (.cells #[.int .i64 0, .int .i64 0] 37))
 have h2 := Own.new (w.alloc (.cells #[.int .u8 p0, .int .u8 p1, .int .u8 p2, .int .u8 p3, .int .u8 h, .int .u8 f0, .int .u8 f1, .int .u8 f2, .int .u8 f3, .bool o, .int .u8 c0, .int .u8 c1, .int .u8 w0, .int .u8 w1, .int .u8 w2, .int .u8 w3, .int .u8 w4] 69)) [.int .i64 0, .int .i64 0] 37 (w.heap.size + 1) (by simp)
 have q0 := h1.2 10 _ rfl
 have q1 := h1.2 11 _ rfl
 obtain ⟨u0, u1⟩ := hc0
 obtain ⟨u2, u3⟩ := hc1
 have k0 : IntKind.i64.wrap c0 = c0 := IntWalk.i64_in _ (by omega)
 have k1 : IntKind.i64.wrap c1 = c1 := IntWalk.i64_in _ (by omega)
 have k2 : IntKind.i64.wrap (20 * c0) = 20 * c0 := IntWalk.i64_in _ (by omega)
 have k3 : IntKind.i64.wrap (1500 + 20 * c0) = 1500 + 20 * c0 := IntWalk.i64_in _ (by omega)
 have k4 : IntKind.i64.wrap (2 * c1) = 2 * c1 := IntWalk.i64_in _ (by omega)
 have k5 : IntKind.i64.wrap (1500 + 20 * c0 + 2 * c1) = 1500 + 20 * c0 + 2 * c1 := IntWalk.i64_in _ (by omega)
 have hle : w.heap.size ≤ w.heap.size + 1 := Nat.le_succ _
 go_enter Try.func40, Try.ntmps40
 go_wp2_with (go_at_call 26; refine (span02_any _ _ _).mono ?_; rintro e w1 ⟨rfl, g1⟩; replace gg := gg.tr g1; replace h2 := h2.keep g1; clear q0 q1; obtain ⟨r0, r1⟩ := h2.1.c2; have z0 := h2.2 0; have z1 := h2.2 1)
 refine bodyPost_ret (v := .agg #[.int .i64 (1500 + 20 * c0), .int .i64 (1500 + 20 * c0 + 2 * c1)]) (by simp [results, Try.results40, go_sem, r0, r1]) rfl ⟨rfl, ?_⟩
 exact (gg.setCell hle _).setCell hle _

theorem up_pos (n : Int) (h0 : 0 ≤ n) (h1 : n ≤ 1000000000) (w : World) : Calls Try.prog 87 #[.int .i64 n] w fun e w' => e = .returned (.int .i64 ((n + 999) / 1000)) ∧ Gr w w' := by
 have k0 : IntKind.i64.wrap (n + 999) = n + 999 := IntWalk.i64_in _ (by omega)
 have k1 : (n + 999).tdiv 1000 = (n + 999) / 1000 := Int.tdiv_eq_ediv_of_nonneg (by omega)
 have k2 : IntKind.i64.wrap ((n + 999) / 1000) = (n + 999) / 1000 := IntWalk.i64_in _ (by omega)
 have k3 : ¬ n < 0 := by omega
 go_enter Try.func87, Try.ntmps87
 go_wp2
 go_ret
 exact ⟨rfl, Below.refl _ _⟩

theorem down_pos (n : Int) (h0 : 0 ≤ n) (h1 : n ≤ 1000000000) (w : World) : Calls Try.prog 49 #[.int .i64 n] w fun e w' => e = .returned (.int .i64 (n / 1000)) ∧ Gr w w' := by
 have k1 : n.tdiv 1000 = n / 1000 := Int.tdiv_eq_ediv_of_nonneg (by omega)
 have k2 : IntKind.i64.wrap (n / 1000) = n / 1000 := IntWalk.i64_in _ (by omega)
 have k3 : ¬ n < 0 := by omega
 go_enter Try.func49, Try.ntmps49
 go_wp2
 go_ret
 exact ⟨rfl, Below.refl _ _⟩

theorem down_any (n : Int) (h0 : -1000000000 ≤ n) (h1 : n ≤ 1000000000) (w : World) : Calls Try.prog 49 #[.int .i64 n] w fun e w' => e = .returned (.int .i64 (n / 1000)) ∧ Gr w w' := by
 by_cases hn : n < 0
 ·obtain ⟨m, hm⟩ : ∃ m, (-n + 999) / 1000 = m := ⟨_, rfl⟩
  have k0 : IntKind.i64.wrap (-n) = -n := IntWalk.i64_in _ (by omega)
  have k1 : IntKind.i64.wrap (-m) = -m := IntWalk.i64_in _ (by omega)
  have E := Lib.hid (show -m = n / 1000 by omega)
  have HM := Lib.hid hm
  clear hm
  go_enter Try.func49, Try.ntmps49
  go_wp2_with (go_at_call 87; refine (up_pos (-n) (by omega) (by omega) _).mono ?_; rintro e w1 ⟨rfl, g1⟩; rw [HM.out])
  go_ret
  exact ⟨ret_int E.out, g1⟩
 ·exact down_pos n (by omega) h1 w

theorem up_any (n : Int) (h0 : -1000000000 ≤ n) (h1 : n ≤ 1000000000) (w : World) : Calls Try.prog 87 #[.int .i64 n] w fun e w' => e = .returned (.int .i64 ((n + 999) / 1000)) ∧ Gr w w' := by
 by_cases hn : n < 0
 ·obtain ⟨m, hm⟩ : ∃ m, -n / 1000 = m := ⟨_, rfl⟩
  have k0 : IntKind.i64.wrap (-n) = -n := IntWalk.i64_in _ (by omega)
  have k1 : IntKind.i64.wrap (-m) = -m := IntWalk.i64_in _ (by omega)
  have E := Lib.hid (show -m = (n + 999) / 1000 by omega)
  have HM := Lib.hid hm
  clear hm
  go_enter Try.func87, Try.ntmps87
  go_wp2_with (go_at_call 49; refine (down_pos (-n) (by omega) (by omega) _).mono ?_; rintro e w1 ⟨rfl, g1⟩; rw [HM.out])
  go_ret
  exact ⟨ret_int E.out, g1⟩
 ·exact up_pos n (by omega) h1 w

def micH (hei : Int) (opn : Bool) (c : Int) : Int := if opn = true then 1000 * hei - 2 * c + c else 1000 * hei - 2 * c

theorem Box.c9 {w : World} {b : Nat} {x0 x1 x2 x3 x4 x5 x6 x7 x8 : Value} (h : Box w b [x0, x1, x2, x3, x4, x5, x6, x7, x8]) : w.cell? ⟨b, 0, none⟩ = some x0 ∧ w.cell? ⟨b, 1, none⟩ = some x1 ∧ w.cell? ⟨b, 2, none⟩ = some x2 ∧ w.cell? ⟨b, 3, none⟩ = some x3 ∧ w.cell? ⟨b, 4, none⟩ = some x4 ∧ w.cell? ⟨b, 5, none⟩ = some x5 ∧ w.cell? ⟨b, 6, none⟩ = some x6 ∧ w.cell? ⟨b, 7, none⟩ = some x7 ∧ w.cell? ⟨b, 8, none⟩ = some x8 :=
 ⟨h.2 0 _ rfl, h.2 1 _ rfl, h.2 2 _ rfl, h.2 3 _ rfl, h.2 4 _ rfl, h.2 5 _ rfl, h.2 6 _ rfl, h.2 7 _ rfl, h.2 8 _ rfl⟩

set_option maxRecDepth 100000 in
set_option maxHeartbeats 8000000 in
theorem micros_any (tab hei slo : Int) (p0 p1 p2 p3 t0 t1 s0 s1 : Int) (pa ta ba : Option Addr) (pc tc bc : Nat) (opn : Bool) (c : Int) (hB : inB 0 100000 [p0, p1, p2, p3, t0, t1, s0, s1, hei, c] = true) (w : World) (hp : IRow w pa [p0, p1, p2, p3]) (ht : IRow w ta [t0, t1]) (hb : IRow w ba [s0, s1]) :
  Calls Try.prog 44 #[.agg #[.int .i64 tab, .slice pa 4 pc, .int .i64 hei, .slice ta 2 tc, .slice ba 2 bc, .int .i64 slo, .bool opn], .int .i64 c] w fun e w' => e = .returned (.agg #[.int .i64 (1000 * p0 - c), .int .i64 (1000 * p1 - c), .int .i64 (1000 * p2 - c), .int .i64 (1000 * p3 - c), .int .i64 (micH hei opn c), .int .i64 (1000 * p1 - c - 2000 * t0), .int .i64 (1000 * p0 - c - 2000 * t1), .int .i64 (1000 * p1 - c - 2000 * s0), .int .i64 (1000 * p0 - c - 2000 * s1)]) ∧ Gr w w' := by
 have gg := ((Gr.al w (.cells #[.int .i64 tab, .slice pa 4 pc, .int .i64 hei, .slice ta 2 tc, .slice ba 2 bc, .int .i64 slo, .bool opn] 24)).tr (Gr.al _ (.cells #[.int .i64 0, .int .i64 0, .int .i64 0, .int .i64 0, .int .i64 0, .int .i64 0, .int .i64 0, .int .i64 0, .int .i64 0] 78))).tr (Gr.al _ (.cells #[.int .i64 0, .int .i64 0, .int .i64 0, .int .i64 0, .int .i64 0, .int .i64 0, .int .i64 0, .int .i64 0, .int .i64 0] 78))
 have h1 := (Box.new w [.int .i64 tab, .slice pa 4 pc, .int .i64 hei, .slice ta 2 tc, .slice ba 2 bc, .int .i64 slo, .bool opn] 24 w.heap.size rfl).keep ((Gr.al _ (.cells #[.int .i64 0, .int .i64 0, .int .i64 0, .int .i64 0, .int .i64 0, .int .i64 0, .int .i64 0, .int .i64 0, .int .i64 0] 78)).tr (Gr.al _ (.cells #[.int .i64 0, .int .i64 0, .int .i64 0, .int .i64 0, .int .i64 0, .int .i64 0, .int .i64 0, .int .i64 0, .int .i64 0] 78)))
 have h2 := (Own.new (w.alloc (.cells #[.int .i64 tab, .slice pa 4 pc, .int .i64 hei, .slice ta 2 tc, .slice ba 2 bc, .int .i64 slo, .bool opn] 24)) [.int .i64 0, .int .i64 0, .int .i64 0, .int .i64 0, .int .i64 0, .int .i64 0, .int .i64 0, .int .i64 0, .int .i64 0] 78 (w.heap.size + 1) (by simp)).keep (Gr.al _ (.cells #[.int .i64 0, .int .i64 0, .int .i64 0, .int .i64 0, .int .i64 0, .int .i64 0, .int .i64 0, .int .i64 0, .int .i64 0] 78))
 have h3 := Own.new ((w.alloc (.cells #[.int .i64 tab, .slice pa 4 pc, .int .i64 hei, .slice ta 2 tc, .slice ba 2 bc, .int .i64 slo, .bool opn] 24)).alloc (.cells #[.int .i64 0, .int .i64 0, .int .i64 0, .int .i64 0, .int .i64 0, .int .i64 0, .int .i64 0, .int .i64 0, .int .i64 0] 78)) [.int .i64 0, .int .i64 0, .int .i64 0, .int .i64 0, .int .i64 0, .int .i64 0, .int .i64 0, .int .i64 0, .int .i64 0] 78 (w.heap.size + 1 + 1) (by simp)
 obtain ⟨pb, pf, rfl, lp, _⟩ := IRow.get hp (j := 0) rfl
 obtain ⟨tb, tf, rfl, lt, _⟩ := IRow.get ht (j := 0) rfl
 obtain ⟨bb, bf, rfl, lb, _⟩ := IRow.get hb (j := 0) rfl
 simp only [inB, in1, List.all_cons, List.all_nil, Bool.and_true, Bool.and_eq_true, decide_eq_true_eq] at hB
 obtain ⟨⟨a0, b0⟩, ⟨a1, b1⟩, ⟨a2, b2⟩, ⟨a3, b3⟩, ⟨a4, b4⟩, ⟨a5, b5⟩, ⟨a6, b6⟩, ⟨a7, b7⟩, ⟨a8, b8⟩, ⟨a9, b9⟩⟩ := hB
 have hle2 : w.heap.size ≤ w.heap.size + 1 := Nat.le_succ _
 have hle3 : w.heap.size ≤ w.heap.size + 1 + 1 := by omega
 have n23 : w.heap.size + 1 ≠ w.heap.size + 1 + 1 := by omega
 have n13 : w.heap.size ≠ w.heap.size + 1 + 1 := by omega
 go_enter Try.func44, Try.ntmps44
 go_upto_region 2 with fail
 refine wp_abs (fun X => Gr w X ∧ Box X w.heap.size [.int .i64 tab, .slice (some ⟨pb, pf, none⟩) 4 pc, .int .i64 hei, .slice (some ⟨tb, tf, none⟩) 2 tc, .slice (some ⟨bb, bf, none⟩) 2 bc, .int .i64 slo, .bool opn] ∧ Own X (w.heap.size + 1) [.int .i64 0, .int .i64 0, .int .i64 0, .int .i64 0, .int .i64 0, .int .i64 0, .int .i64 0, .int .i64 0, .int .i64 0] ∧ Own X (w.heap.size + 1 + 1) [.int .i64 0, .int .i64 0, .int .i64 0, .int .i64 0, .int .i64 0, .int .i64 0, .int .i64 0, .int .i64 0, .int .i64 0]) ⟨gg, h1, h2, h3⟩ ?_
 clear gg h1 h2 h3
 rintro X ⟨gX, h1, h2, h3⟩
 go_wp2
 go_loopw [6] (fun t wr => Hid (Gr w wr ∧ Box wr w.heap.size [.int .i64 tab, .slice (some ⟨pb, pf, none⟩) 4 pc, .int .i64 hei, .slice (some ⟨tb, tf, none⟩) 2 tc, .slice (some ⟨bb, bf, none⟩) 2 bc, .int .i64 slo, .bool opn] ∧ Own wr (w.heap.size + 1) [.int .i64 0, .int .i64 0, .int .i64 0, .int .i64 0, .int .i64 0, .int .i64 0, .int .i64 0, .int .i64 0, .int .i64 0] ∧ ((t = .int .i64 0 ∧ Own wr (w.heap.size + 1 + 1) [.int .i64 0, .int .i64 0, .int .i64 0, .int .i64 0, .int .i64 0, .int .i64 0, .int .i64 0, .int .i64 0, .int .i64 0]) ∨ (t = .int .i64 1 ∧ Own wr (w.heap.size + 1 + 1) [.int .i64 (1000 * p0 - c), .int .i64 0, .int .i64 0, .int .i64 0, .int .i64 0, .int .i64 0, .int .i64 0, .int .i64 0, .int .i64 0]) ∨ (t = .int .i64 2 ∧ Own wr (w.heap.size + 1 + 1) [.int .i64 (1000 * p0 - c), .int .i64 (1000 * p1 - c), .int .i64 0, .int .i64 0, .int .i64 0, .int .i64 0, .int .i64 0, .int .i64 0, .int .i64 0]) ∨ (t = .int .i64 3 ∧ Own wr (w.heap.size + 1 + 1) [.int .i64 (1000 * p0 - c), .int .i64 (1000 * p1 - c), .int .i64 (1000 * p2 - c), .int .i64 0, .int .i64 0, .int .i64 0, .int .i64 0, .int .i64 0, .int .i64 0]) ∨ (t = .int .i64 4 ∧ Own wr (w.heap.size + 1 + 1) [.int .i64 (1000 * p0 - c), .int .i64 (1000 * p1 - c), .int .i64 (1000 * p2 - c), .int .i64 (1000 * p3 - c), .int .i64 0, .int .i64 0, .int .i64 0, .int .i64 0, .int .i64 0])))) (fun t _ => 4 - (intOf t).toNat)
 case atStart => exact Lib.hid ⟨gX, h1, h2, .inl ⟨rfl, h3⟩⟩
 case round =>
  clear gX h1 h2 h3
  obtain ⟨gX, h1, h2, hx⟩ := hrel.out
  clear hrel
  rcases hx with ⟨rfl, h3⟩ | ⟨rfl, h3⟩ | ⟨rfl, h3⟩ | ⟨rfl, h3⟩ | ⟨rfl, h3⟩
  ·have q1 := h1.2 1 _ rfl
   obtain ⟨_, _, e9, _, c9⟩ := IRow.get (hp.grow gX) (j := 0) rfl
   cases e9
   try simp only [Nat.add_zero] at c9
   have z0 := h3.2 0
   have q3 := h3.1.2 0 _ rfl
   have k0 : IntKind.i64.wrap (1000 * p0) = 1000 * p0 := IntWalk.i64_in _ (by omega)
   have k1 : IntKind.i64.wrap (1000 * p0 - c) = 1000 * p0 - c := IntWalk.i64_in _ (by omega)
   go_wp2
   go_roundw
   case rel => exact Lib.hid ⟨gX.setCell (p := ⟨w.heap.size + 1 + 1, 0, none⟩) hle3 _, Box.other h1 n13, h2.other n23, .inr (.inl ⟨rfl, h3.set (i := 0) (by simp)⟩)⟩
   case measure => simp [intOf]
  ·have q1 := h1.2 1 _ rfl
   obtain ⟨_, _, e9, _, c9⟩ := IRow.get (hp.grow gX) (j := 1) rfl
   cases e9
   try simp only [Nat.add_zero] at c9
   have z0 := h3.2 1
   have q3 := h3.1.2 1 _ rfl
   have k0 : IntKind.i64.wrap (1000 * p1) = 1000 * p1 := IntWalk.i64_in _ (by omega)
   have k1 : IntKind.i64.wrap (1000 * p1 - c) = 1000 * p1 - c := IntWalk.i64_in _ (by omega)
   go_wp2
   go_roundw
   case rel => exact Lib.hid ⟨gX.setCell (p := ⟨w.heap.size + 1 + 1, 1, none⟩) hle3 _, Box.other h1 n13, h2.other n23, .inr (.inr (.inl ⟨rfl, h3.set (i := 1) (by simp)⟩))⟩
   case measure => simp [intOf]
  ·have q1 := h1.2 1 _ rfl
   obtain ⟨_, _, e9, _, c9⟩ := IRow.get (hp.grow gX) (j := 2) rfl
   cases e9
   try simp only [Nat.add_zero] at c9
   have z0 := h3.2 2
   have q3 := h3.1.2 2 _ rfl
   have k0 : IntKind.i64.wrap (1000 * p2) = 1000 * p2 := IntWalk.i64_in _ (by omega)
   have k1 : IntKind.i64.wrap (1000 * p2 - c) = 1000 * p2 - c := IntWalk.i64_in _ (by omega)
   go_wp2
   go_roundw
   case rel => exact Lib.hid ⟨gX.setCell (p := ⟨w.heap.size + 1 + 1, 2, none⟩) hle3 _, Box.other h1 n13, h2.other n23, .inr (.inr (.inr (.inl ⟨rfl, h3.set (i := 2) (by simp)⟩)))⟩
   case measure => simp [intOf]
  ·have q1 := h1.2 1 _ rfl
   obtain ⟨_, _, e9, _, c9⟩ := IRow.get (hp.grow gX) (j := 3) rfl
   cases e9
   try simp only [Nat.add_zero] at c9
   have z0 := h3.2 3
   have q3 := h3.1.2 3 _ rfl
   have k0 : IntKind.i64.wrap (1000 * p3) = 1000 * p3 := IntWalk.i64_in _ (by omega)
   have k1 : IntKind.i64.wrap (1000 * p3 - c) = 1000 * p3 - c := IntWalk.i64_in _ (by omega)
   go_wp2
   go_roundw
   case rel => exact Lib.hid ⟨gX.setCell (p := ⟨w.heap.size + 1 + 1, 3, none⟩) hle3 _, Box.other h1 n13, h2.other n23, .inr (.inr (.inr (.inr (⟨rfl, h3.set (i := 3) (by simp)⟩))))⟩
   case measure => simp [intOf]
  ·cases opn
   case true =>
    have q2 := h1.2 2 _ rfl
    have q6 := h1.2 6 _ rfl
    have z4 := h3.2 4
    have q4 := h3.1.2 4 _ rfl
    have k0 : IntKind.i64.wrap (1000 * hei) = 1000 * hei := IntWalk.i64_in _ (by omega)
    have k1 : IntKind.i64.wrap (2 * c) = 2 * c := IntWalk.i64_in _ (by omega)
    have k2 : IntKind.i64.wrap (1000 * hei - 2 * c) = 1000 * hei - 2 * c := IntWalk.i64_in _ (by omega)
    have k3 : IntKind.i64.wrap (1000 * hei - 2 * c + c) = 1000 * hei - 2 * c + c := IntWalk.i64_in _ (by omega)
    go_upto_region 9 with fail
    refine wp_abs (fun Y => Gr w Y ∧ Box Y w.heap.size [.int .i64 tab, .slice (some ⟨pb, pf, none⟩) 4 pc, .int .i64 hei, .slice (some ⟨tb, tf, none⟩) 2 tc, .slice (some ⟨bb, bf, none⟩) 2 bc, .int .i64 slo, .bool true] ∧ Own Y (w.heap.size + 1) [.int .i64 0, .int .i64 0, .int .i64 0, .int .i64 0, .int .i64 0, .int .i64 0, .int .i64 0, .int .i64 0, .int .i64 0] ∧ Own Y (w.heap.size + 1 + 1) [.int .i64 (1000 * p0 - c), .int .i64 (1000 * p1 - c), .int .i64 (1000 * p2 - c), .int .i64 (1000 * p3 - c), .int .i64 (micH hei true c), .int .i64 0, .int .i64 0, .int .i64 0, .int .i64 0]) ⟨(gX.setCell (p := ⟨w.heap.size + 1 + 1, 4, none⟩) hle3 _).setCell (p := ⟨w.heap.size + 1 + 1, 4, none⟩) hle3 _, Box.other (Box.other h1 n13) n13, (h2.other n23).other n23, (h3.set (i := 4) (by simp)).set (i := 4) (by simp)⟩ ?_
    clear gX h1 h2 h3 q2 q6 z4 q4 k0 k1 k2 k3
    rintro Y ⟨gX, h1, h2, h3⟩
    go_wp2
    go_loopw [7] (fun t wr => Hid (Gr w wr ∧ Box wr w.heap.size [.int .i64 tab, .slice (some ⟨pb, pf, none⟩) 4 pc, .int .i64 hei, .slice (some ⟨tb, tf, none⟩) 2 tc, .slice (some ⟨bb, bf, none⟩) 2 bc, .int .i64 slo, .bool true] ∧ Own wr (w.heap.size + 1) [.int .i64 0, .int .i64 0, .int .i64 0, .int .i64 0, .int .i64 0, .int .i64 0, .int .i64 0, .int .i64 0, .int .i64 0] ∧ ((t = .int .i64 0 ∧ Own wr (w.heap.size + 1 + 1) [.int .i64 (1000 * p0 - c), .int .i64 (1000 * p1 - c), .int .i64 (1000 * p2 - c), .int .i64 (1000 * p3 - c), .int .i64 (micH hei true c), .int .i64 0, .int .i64 0, .int .i64 0, .int .i64 0]) ∨ (t = .int .i64 1 ∧ Own wr (w.heap.size + 1 + 1) [.int .i64 (1000 * p0 - c), .int .i64 (1000 * p1 - c), .int .i64 (1000 * p2 - c), .int .i64 (1000 * p3 - c), .int .i64 (micH hei true c), .int .i64 (1000 * p1 - c - 2000 * t0), .int .i64 0, .int .i64 0, .int .i64 0]) ∨ (t = .int .i64 2 ∧ Own wr (w.heap.size + 1 + 1) [.int .i64 (1000 * p0 - c), .int .i64 (1000 * p1 - c), .int .i64 (1000 * p2 - c), .int .i64 (1000 * p3 - c), .int .i64 (micH hei true c), .int .i64 (1000 * p1 - c - 2000 * t0), .int .i64 (1000 * p0 - c - 2000 * t1), .int .i64 0, .int .i64 0]) ∨ (t = .int .i64 3 ∧ Own wr (w.heap.size + 1 + 1) [.int .i64 (1000 * p0 - c), .int .i64 (1000 * p1 - c), .int .i64 (1000 * p2 - c), .int .i64 (1000 * p3 - c), .int .i64 (micH hei true c), .int .i64 (1000 * p1 - c - 2000 * t0), .int .i64 (1000 * p0 - c - 2000 * t1), .int .i64 (1000 * p1 - c - 2000 * s0), .int .i64 0]) ∨ (t = .int .i64 4 ∧ Own wr (w.heap.size + 1 + 1) [.int .i64 (1000 * p0 - c), .int .i64 (1000 * p1 - c), .int .i64 (1000 * p2 - c), .int .i64 (1000 * p3 - c), .int .i64 (micH hei true c), .int .i64 (1000 * p1 - c - 2000 * t0), .int .i64 (1000 * p0 - c - 2000 * t1), .int .i64 (1000 * p1 - c - 2000 * s0), .int .i64 (1000 * p0 - c - 2000 * s1)])))) (fun t _ => 4 - (intOf t).toNat)
    case atStart => exact Lib.hid ⟨gX, h1, h2, .inl ⟨rfl, h3⟩⟩
    case round =>
     clear gX h1 h2 h3
     obtain ⟨gX, h1, h2, hx⟩ := hrel.out
     clear hrel
     rcases hx with ⟨rfl, h3⟩ | ⟨rfl, h3⟩ | ⟨rfl, h3⟩ | ⟨rfl, h3⟩ | ⟨rfl, h3⟩
     ·have q3 := h1.2 3 _ rfl
      have q4 := h1.2 4 _ rfl
      obtain ⟨_, _, e9, _, c9⟩ := IRow.get (hb.grow gX) (j := 0) rfl
      cases e9
      obtain ⟨_, _, e9, _, c8⟩ := IRow.get (ht.grow gX) (j := 0) rfl
      cases e9
      try simp only [Nat.add_zero] at c8 c9
      have z0 := h3.2 5
      have w0 := h3.1.2 5 _ rfl
      have w1 := h3.1.2 1 _ rfl
      have k0 : IntKind.i64.wrap (2000 * t0) = 2000 * t0 := IntWalk.i64_in _ (by omega)
      have k1 : IntKind.i64.wrap (1000 * p1 - c - 2000 * t0) = 1000 * p1 - c - 2000 * t0 := IntWalk.i64_in _ (by omega)
      go_wp2
      go_roundw
      case rel => exact Lib.hid ⟨gX.setCell (p := ⟨w.heap.size + 1 + 1, 5, none⟩) hle3 _, Box.other h1 n13, h2.other n23, .inr (.inl ⟨rfl, h3.set (i := 5) (by simp)⟩)⟩
      case measure => simp [intOf]
     ·have q3 := h1.2 3 _ rfl
      have q4 := h1.2 4 _ rfl
      obtain ⟨_, _, e9, _, c9⟩ := IRow.get (hb.grow gX) (j := 1) rfl
      cases e9
      obtain ⟨_, _, e9, _, c8⟩ := IRow.get (ht.grow gX) (j := 1) rfl
      cases e9
      try simp only [Nat.add_zero] at c8 c9
      have z0 := h3.2 6
      have w0 := h3.1.2 6 _ rfl
      have w1 := h3.1.2 0 _ rfl
      have k0 : IntKind.i64.wrap (2000 * t1) = 2000 * t1 := IntWalk.i64_in _ (by omega)
      have k1 : IntKind.i64.wrap (1000 * p0 - c - 2000 * t1) = 1000 * p0 - c - 2000 * t1 := IntWalk.i64_in _ (by omega)
      go_wp2
      go_roundw
      case rel => exact Lib.hid ⟨gX.setCell (p := ⟨w.heap.size + 1 + 1, 6, none⟩) hle3 _, Box.other h1 n13, h2.other n23, .inr (.inr (.inl ⟨rfl, h3.set (i := 6) (by simp)⟩))⟩
      case measure => simp [intOf]
     ·have q3 := h1.2 3 _ rfl
      have q4 := h1.2 4 _ rfl
      obtain ⟨_, _, e9, _, c9⟩ := IRow.get (hb.grow gX) (j := 0) rfl
      cases e9
      obtain ⟨_, _, e9, _, c8⟩ := IRow.get (ht.grow gX) (j := 0) rfl
      cases e9
      try simp only [Nat.add_zero] at c8 c9
      have z0 := h3.2 7
      have w0 := h3.1.2 7 _ rfl
      have w1 := h3.1.2 1 _ rfl
      have k0 : IntKind.i64.wrap (2000 * s0) = 2000 * s0 := IntWalk.i64_in _ (by omega)
      have k1 : IntKind.i64.wrap (1000 * p1 - c - 2000 * s0) = 1000 * p1 - c - 2000 * s0 := IntWalk.i64_in _ (by omega)
      go_wp2
      go_roundw
      case rel => exact Lib.hid ⟨gX.setCell (p := ⟨w.heap.size + 1 + 1, 7, none⟩) hle3 _, Box.other h1 n13, h2.other n23, .inr (.inr (.inr (.inl ⟨rfl, h3.set (i := 7) (by simp)⟩)))⟩
      case measure => simp [intOf]
     ·have q3 := h1.2 3 _ rfl
      have q4 := h1.2 4 _ rfl
      obtain ⟨_, _, e9, _, c9⟩ := IRow.get (hb.grow gX) (j := 1) rfl
      cases e9
      obtain ⟨_, _, e9, _, c8⟩ := IRow.get (ht.grow gX) (j := 1) rfl
      cases e9
      try simp only [Nat.add_zero] at c8 c9
      have z0 := h3.2 8
      have w0 := h3.1.2 8 _ rfl
      have w1 := h3.1.2 0 _ rfl
      have k0 : IntKind.i64.wrap (2000 * s1) = 2000 * s1 := IntWalk.i64_in _ (by omega)
      have k1 : IntKind.i64.wrap (1000 * p0 - c - 2000 * s1) = 1000 * p0 - c - 2000 * s1 := IntWalk.i64_in _ (by omega)
      go_wp2
      go_roundw
      case rel => exact Lib.hid ⟨gX.setCell (p := ⟨w.heap.size + 1 + 1, 8, none⟩) hle3 _, Box.other h1 n13, h2.other n23, .inr (.inr (.inr (.inr (⟨rfl, h3.set (i := 8) (by simp)⟩))))⟩
      case measure => simp [intOf]
     ·obtain ⟨w0, w1, w2, w3, w4, w5, w6, w7, w8⟩ := h3.1.c9
      obtain ⟨y0, y1, y2, y3, y4, y5, y6, y7, y8⟩ := h2.1.c9
      have x0 := h2.2 0
      have x1 := h2.2 1
      have x2 := h2.2 2
      have x3 := h2.2 3
      have x4 := h2.2 4
      have x5 := h2.2 5
      have x6 := h2.2 6
      have x7 := h2.2 7
      have x8 := h2.2 8
      clear h1 h2 h3
      go_wp2
      refine bodyPost_ret (v := .agg #[.int .i64 (1000 * p0 - c), .int .i64 (1000 * p1 - c), .int .i64 (1000 * p2 - c), .int .i64 (1000 * p3 - c), .int .i64 (micH hei true c), .int .i64 (1000 * p1 - c - 2000 * t0), .int .i64 (1000 * p0 - c - 2000 * t1), .int .i64 (1000 * p1 - c - 2000 * s0), .int .i64 (1000 * p0 - c - 2000 * s1)]) (by simp [results, Try.results44, go_sem, y0, y1, y2, y3, y4, y5, y6, y7, y8]) rfl ⟨rfl, ?_⟩
      exact (((((((((gX.setCell (p := ⟨w.heap.size + 1, 0, none⟩) hle2 _).setCell (p := ⟨w.heap.size + 1, 1, none⟩) hle2 _).setCell (p := ⟨w.heap.size + 1, 2, none⟩) hle2 _).setCell (p := ⟨w.heap.size + 1, 3, none⟩) hle2 _).setCell (p := ⟨w.heap.size + 1, 4, none⟩) hle2 _).setCell (p := ⟨w.heap.size + 1, 5, none⟩) hle2 _).setCell (p := ⟨w.heap.size + 1, 6, none⟩) hle2 _).setCell (p := ⟨w.heap.size + 1, 7, none⟩) hle2 _).setCell (p := ⟨w.heap.size + 1, 8, none⟩) hle2 _)
   case false =>
    have q2 := h1.2 2 _ rfl
    have q6 := h1.2 6 _ rfl
    have z4 := h3.2 4
    have q4 := h3.1.2 4 _ rfl
    have k0 : IntKind.i64.wrap (1000 * hei) = 1000 * hei := IntWalk.i64_in _ (by omega)
    have k1 : IntKind.i64.wrap (2 * c) = 2 * c := IntWalk.i64_in _ (by omega)
    have k2 : IntKind.i64.wrap (1000 * hei - 2 * c) = 1000 * hei - 2 * c := IntWalk.i64_in _ (by omega)
    have k3 : IntKind.i64.wrap (1000 * hei - 2 * c + c) = 1000 * hei - 2 * c + c := IntWalk.i64_in _ (by omega)
    go_upto_region 9 with fail
    refine wp_abs (fun Y => Gr w Y ∧ Box Y w.heap.size [.int .i64 tab, .slice (some ⟨pb, pf, none⟩) 4 pc, .int .i64 hei, .slice (some ⟨tb, tf, none⟩) 2 tc, .slice (some ⟨bb, bf, none⟩) 2 bc, .int .i64 slo, .bool false] ∧ Own Y (w.heap.size + 1) [.int .i64 0, .int .i64 0, .int .i64 0, .int .i64 0, .int .i64 0, .int .i64 0, .int .i64 0, .int .i64 0, .int .i64 0] ∧ Own Y (w.heap.size + 1 + 1) [.int .i64 (1000 * p0 - c), .int .i64 (1000 * p1 - c), .int .i64 (1000 * p2 - c), .int .i64 (1000 * p3 - c), .int .i64 (micH hei false c), .int .i64 0, .int .i64 0, .int .i64 0, .int .i64 0]) ⟨gX.setCell (p := ⟨w.heap.size + 1 + 1, 4, none⟩) hle3 _, Box.other h1 n13, h2.other n23, h3.set (i := 4) (by simp)⟩ ?_
    clear gX h1 h2 h3 q2 q6 z4 q4 k0 k1 k2 k3
    rintro Y ⟨gX, h1, h2, h3⟩
    go_wp2
    go_loopw [7] (fun t wr => Hid (Gr w wr ∧ Box wr w.heap.size [.int .i64 tab, .slice (some ⟨pb, pf, none⟩) 4 pc, .int .i64 hei, .slice (some ⟨tb, tf, none⟩) 2 tc, .slice (some ⟨bb, bf, none⟩) 2 bc, .int .i64 slo, .bool false] ∧ Own wr (w.heap.size + 1) [.int .i64 0, .int .i64 0, .int .i64 0, .int .i64 0, .int .i64 0, .int .i64 0, .int .i64 0, .int .i64 0, .int .i64 0] ∧ ((t = .int .i64 0 ∧ Own wr (w.heap.size + 1 + 1) [.int .i64 (1000 * p0 - c), .int .i64 (1000 * p1 - c), .int .i64 (1000 * p2 - c), .int .i64 (1000 * p3 - c), .int .i64 (micH hei false c), .int .i64 0, .int .i64 0, .int .i64 0, .int .i64 0]) ∨ (t = .int .i64 1 ∧ Own wr (w.heap.size + 1 + 1) [.int .i64 (1000 * p0 - c), .int .i64 (1000 * p1 - c), .int .i64 (1000 * p2 - c), .int .i64 (1000 * p3 - c), .int .i64 (micH hei false c), .int .i64 (1000 * p1 - c - 2000 * t0), .int .i64 0, .int .i64 0, .int .i64 0]) ∨ (t = .int .i64 2 ∧ Own wr (w.heap.size + 1 + 1) [.int .i64 (1000 * p0 - c), .int .i64 (1000 * p1 - c), .int .i64 (1000 * p2 - c), .int .i64 (1000 * p3 - c), .int .i64 (micH hei false c), .int .i64 (1000 * p1 - c - 2000 * t0), .int .i64 (1000 * p0 - c - 2000 * t1), .int .i64 0, .int .i64 0]) ∨ (t = .int .i64 3 ∧ Own wr (w.heap.size + 1 + 1) [.int .i64 (1000 * p0 - c), .int .i64 (1000 * p1 - c), .int .i64 (1000 * p2 - c), .int .i64 (1000 * p3 - c), .int .i64 (micH hei false c), .int .i64 (1000 * p1 - c - 2000 * t0), .int .i64 (1000 * p0 - c - 2000 * t1), .int .i64 (1000 * p1 - c - 2000 * s0), .int .i64 0]) ∨ (t = .int .i64 4 ∧ Own wr (w.heap.size + 1 + 1) [.int .i64 (1000 * p0 - c), .int .i64 (1000 * p1 - c), .int .i64 (1000 * p2 - c), .int .i64 (1000 * p3 - c), .int .i64 (micH hei false c), .int .i64 (1000 * p1 - c - 2000 * t0), .int .i64 (1000 * p0 - c - 2000 * t1), .int .i64 (1000 * p1 - c - 2000 * s0), .int .i64 (1000 * p0 - c - 2000 * s1)])))) (fun t _ => 4 - (intOf t).toNat)
    case atStart => exact Lib.hid ⟨gX, h1, h2, .inl ⟨rfl, h3⟩⟩
    case round =>
     clear gX h1 h2 h3
     obtain ⟨gX, h1, h2, hx⟩ := hrel.out
     clear hrel
     rcases hx with ⟨rfl, h3⟩ | ⟨rfl, h3⟩ | ⟨rfl, h3⟩ | ⟨rfl, h3⟩ | ⟨rfl, h3⟩
     ·have q3 := h1.2 3 _ rfl
      have q4 := h1.2 4 _ rfl
      obtain ⟨_, _, e9, _, c9⟩ := IRow.get (hb.grow gX) (j := 0) rfl
      cases e9
      obtain ⟨_, _, e9, _, c8⟩ := IRow.get (ht.grow gX) (j := 0) rfl
      cases e9
      try simp only [Nat.add_zero] at c8 c9
      have z0 := h3.2 5
      have w0 := h3.1.2 5 _ rfl
      have w1 := h3.1.2 1 _ rfl
      have k0 : IntKind.i64.wrap (2000 * t0) = 2000 * t0 := IntWalk.i64_in _ (by omega)
      have k1 : IntKind.i64.wrap (1000 * p1 - c - 2000 * t0) = 1000 * p1 - c - 2000 * t0 := IntWalk.i64_in _ (by omega)
      go_wp2
      go_roundw
      case rel => exact Lib.hid ⟨gX.setCell (p := ⟨w.heap.size + 1 + 1, 5, none⟩) hle3 _, Box.other h1 n13, h2.other n23, .inr (.inl ⟨rfl, h3.set (i := 5) (by simp)⟩)⟩
      case measure => simp [intOf]
     ·have q3 := h1.2 3 _ rfl
      have q4 := h1.2 4 _ rfl
      obtain ⟨_, _, e9, _, c9⟩ := IRow.get (hb.grow gX) (j := 1) rfl
      cases e9
      obtain ⟨_, _, e9, _, c8⟩ := IRow.get (ht.grow gX) (j := 1) rfl
      cases e9
      try simp only [Nat.add_zero] at c8 c9
      have z0 := h3.2 6
      have w0 := h3.1.2 6 _ rfl
      have w1 := h3.1.2 0 _ rfl
      have k0 : IntKind.i64.wrap (2000 * t1) = 2000 * t1 := IntWalk.i64_in _ (by omega)
      have k1 : IntKind.i64.wrap (1000 * p0 - c - 2000 * t1) = 1000 * p0 - c - 2000 * t1 := IntWalk.i64_in _ (by omega)
      go_wp2
      go_roundw
      case rel => exact Lib.hid ⟨gX.setCell (p := ⟨w.heap.size + 1 + 1, 6, none⟩) hle3 _, Box.other h1 n13, h2.other n23, .inr (.inr (.inl ⟨rfl, h3.set (i := 6) (by simp)⟩))⟩
      case measure => simp [intOf]
     ·have q3 := h1.2 3 _ rfl
      have q4 := h1.2 4 _ rfl
      obtain ⟨_, _, e9, _, c9⟩ := IRow.get (hb.grow gX) (j := 0) rfl
      cases e9
      obtain ⟨_, _, e9, _, c8⟩ := IRow.get (ht.grow gX) (j := 0) rfl
      cases e9
      try simp only [Nat.add_zero] at c8 c9
      have z0 := h3.2 7
      have w0 := h3.1.2 7 _ rfl
      have w1 := h3.1.2 1 _ rfl
      have k0 : IntKind.i64.wrap (2000 * s0) = 2000 * s0 := IntWalk.i64_in _ (by omega)
      have k1 : IntKind.i64.wrap (1000 * p1 - c - 2000 * s0) = 1000 * p1 - c - 2000 * s0 := IntWalk.i64_in _ (by omega)
      go_wp2
      go_roundw
      case rel => exact Lib.hid ⟨gX.setCell (p := ⟨w.heap.size + 1 + 1, 7, none⟩) hle3 _, Box.other h1 n13, h2.other n23, .inr (.inr (.inr (.inl ⟨rfl, h3.set (i := 7) (by simp)⟩)))⟩
      case measure => simp [intOf]
     ·have q3 := h1.2 3 _ rfl
      have q4 := h1.2 4 _ rfl
      obtain ⟨_, _, e9, _, c9⟩ := IRow.get (hb.grow gX) (j := 1) rfl
      cases e9
      obtain ⟨_, _, e9, _, c8⟩ := IRow.get (ht.grow gX) (j := 1) rfl
      cases e9
      try simp only [Nat.add_zero] at c8 c9
      have z0 := h3.2 8
      have w0 := h3.1.2 8 _ rfl
      have w1 := h3.1.2 0 _ rfl
      have k0 : IntKind.i64.wrap (2000 * s1) = 2000 * s1 := IntWalk.i64_in _ (by omega)
      have k1 : IntKind.i64.wrap (1000 * p0 - c - 2000 * s1) = 1000 * p0 - c - 2000 * s1 := IntWalk.i64_in _ (by omega)
      go_wp2
      go_roundw
      case rel => exact Lib.hid ⟨gX.setCell (p := ⟨w.heap.size + 1 + 1, 8, none⟩) hle3 _, Box.other h1 n13, h2.other n23, .inr (.inr (.inr (.inr (⟨rfl, h3.set (i := 8) (by simp)⟩))))⟩
      case measure => simp [intOf]
     ·obtain ⟨w0, w1, w2, w3, w4, w5, w6, w7, w8⟩ := h3.1.c9
      obtain ⟨y0, y1, y2, y3, y4, y5, y6, y7, y8⟩ := h2.1.c9
      have x0 := h2.2 0
      have x1 := h2.2 1
      have x2 := h2.2 2
      have x3 := h2.2 3
      have x4 := h2.2 4
      have x5 := h2.2 5
      have x6 := h2.2 6
      have x7 := h2.2 7
      have x8 := h2.2 8
      clear h1 h2 h3
      go_wp2
      refine bodyPost_ret (v := .agg #[.int .i64 (1000 * p0 - c), .int .i64 (1000 * p1 - c), .int .i64 (1000 * p2 - c), .int .i64 (1000 * p3 - c), .int .i64 (micH hei false c), .int .i64 (1000 * p1 - c - 2000 * t0), .int .i64 (1000 * p0 - c - 2000 * t1), .int .i64 (1000 * p1 - c - 2000 * s0), .int .i64 (1000 * p0 - c - 2000 * s1)]) (by simp [results, Try.results44, go_sem, y0, y1, y2, y3, y4, y5, y6, y7, y8]) rfl ⟨rfl, ?_⟩
      exact (((((((((gX.setCell (p := ⟨w.heap.size + 1, 0, none⟩) hle2 _).setCell (p := ⟨w.heap.size + 1, 1, none⟩) hle2 _).setCell (p := ⟨w.heap.size + 1, 2, none⟩) hle2 _).setCell (p := ⟨w.heap.size + 1, 3, none⟩) hle2 _).setCell (p := ⟨w.heap.size + 1, 4, none⟩) hle2 _).setCell (p := ⟨w.heap.size + 1, 5, none⟩) hle2 _).setCell (p := ⟨w.heap.size + 1, 6, none⟩) hle2 _).setCell (p := ⟨w.heap.size + 1, 7, none⟩) hle2 _).setCell (p := ⟨w.heap.size + 1, 8, none⟩) hle2 _)

end Go.Proofs.Ytafkoococfnakaa

namespace Go.Proofs.Ytafkoococfnakaa
set_option linter.unusedVariables false
set_option linter.unusedSimpArgs false
open Go.RowKit

theorem Own.part {w : World} {b : Nat} {vs us : List Value} (h : Own w b (vs ++ us)) : Own w b vs := by
  refine ⟨⟨h.1.1, fun i v hv => h.1.2 i v ?_⟩, h.2⟩
  have hi : i < vs.length := (List.getElem?_eq_some_iff.1 hv).1
  rw [List.getElem?_append_left hi]
  exact hv

theorem Own.row {w : World} {b : Nat} {l : List Int} (h : Own w b (l.map (fun n => Value.int .i64 n))) (hl : l.length ≤ 9223372036854775807) : IRow w (some ⟨b, 0, none⟩) l := by
  refine ⟨hl, fun j x hx => ⟨b, 0, rfl, h.1.1, fun i u hu => ?_⟩⟩
  cases i with
  | succ i => simp [encI] at hu
  | zero =>
    simp only [encI, List.getElem?_cons_zero, Option.some.injEq] at hu
    subst hu
    have := h.1.2 j (.int .i64 x) (by rw [List.getElem?_map, hx]; rfl)
    simpa using this

theorem app_own (v : World) (b : Nat) (a : Option Addr) (l : List Int) (c : Nat) (hr : IRow v a l) (h0 : 0 < l.length) (hl : l.length ≤ 1000) :
    ∃ v' c', (Builtin.append_ #[22, 22] 22 #[.slice (some ⟨b, 0, none⟩) 0 0, .slice a l.length c]).run Try.prog v = .ok (.slice (some ⟨v.heap.size, 0, none⟩) l.length c') v' ∧ Gr v v' ∧ Own v' v.heap.size (l.map (fun n => Value.int .i64 n)) := by
  obtain ⟨i, hi, hz, hs, hb⟩ := info_parts infoIntS
  have ht := Try.underlying22
  obtain ⟨B, O, rfl, _⟩ := hr.addr h0
  have hn : (l.map fun n => Value.int .i64 n).length = l.length * i.size := by rw [hs]; simp
  have hcell : ∀ j u, (l.map fun n => Value.int .i64 n)[j]? = some u → v.cell? ((⟨B, O, none⟩ : Addr).add j) = some u := by
    intro j u hu
    rw [List.getElem?_map] at hu
    cases hx : l[j]? with
    | none => rw [hx] at hu; cases hu
    | some x =>
      rw [hx] at hu
      cases hu
      obtain ⟨_, _, e, _, hc⟩ := IRow.get hr hx
      cases e
      rw [Addr.add_lit]
      exact hc
  have h := run_append_grow (P := Try.prog) v 22 22 3 i _ ht hi hz ⟨b, 0, none⟩ 0 0 [] (by simp) (by simp) ⟨B, O, none⟩ l.length c (l.map fun n => Value.int .i64 n) hn hcell (by omega) (by omega) (growslice_fits (by omega) (by rw [hb]; omega))
  refine ⟨_, grownCap v (0 + l.length) 0 3, by rw [Nat.zero_add] at h ⊢; exact h, (Gr.dr v).tr (Gr.al _ _), ?_⟩
  have ho := Own.new v.drew ((l.map fun n => Value.int .i64 n) ++ (Builtin.zeroCells (Value.int .i64 0).cells (grownCap v (0 + l.length) 0 3 - (0 + l.length))).toList) 3 v.heap.size (by simp)
  have ho2 := Own.part ho
  have e : ∀ (A : List Value) (B : Array Value), (A ++ B.toList).toArray = A.toArray ++ B := fun A B => by apply Array.ext'; simp
  rw [e] at ho2
  simpa using ho2

def OwnPost (tab hei slo : Int) (pan top bot : List Int) (opn : Bool) (w : World) (e : Ending) (w' : World) : Prop :=
  ∃ r3 c3 r7 c7 r11 c11, e = .returned (.agg #[.int .i64 tab, .slice (some ⟨r3, 0, none⟩) pan.length c3, .int .i64 hei, .slice (some ⟨r7, 0, none⟩) top.length c7, .slice (some ⟨r11, 0, none⟩) bot.length c11, .int .i64 slo, .bool opn]) ∧ Gr w w' ∧ Own w' r3 (pan.map (fun n => Value.int .i64 n)) ∧ Own w' r7 (top.map (fun n => Value.int .i64 n)) ∧ Own w' r11 (bot.map (fun n => Value.int .i64 n)) ∧ (w.heap.size ≤ r3 ∧ w.heap.size ≤ r7 ∧ w.heap.size ≤ r11) ∧ r3 ≠ r7 ∧ r3 ≠ r11 ∧ r7 ≠ r11

set_option maxRecDepth 100000 in
set_option maxHeartbeats 4000000 in
theorem copy02_own (tab hei slo : Int) (pan top bot : List Int) (pa ta ba : Option Addr) (pc tc bc : Nat) (opn : Bool) (l1 : 0 < pan.length ∧ pan.length ≤ 1000) (l2 : 0 < top.length ∧ top.length ≤ 1000) (l3 : 0 < bot.length ∧ bot.length ≤ 1000) (w : World) (hp : IRow w pa pan) (ht : IRow w ta top) (hb : IRow w ba bot) :
    Calls Try.prog 62 #[.agg #[.int .i64 tab, .slice pa pan.length pc, .int .i64 hei, .slice ta top.length tc, .slice ba bot.length bc, .int .i64 slo, .bool opn]] w (OwnPost tab hei slo pan top bot opn w) := by
  have gg := (Gr.al w (.cells #[.int .i64 tab, .slice pa pan.length pc, .int .i64 hei, .slice ta top.length tc, .slice ba bot.length bc, .int .i64 slo, .bool opn] 24)).tr (Gr.al _ (.cells #[.int .i64 0, .slice none 0 0, .int .i64 0, .slice none 0 0, .slice none 0 0, .int .i64 0, .bool false] 24))
  have oB := (Own.new w [.int .i64 tab, .slice pa pan.length pc, .int .i64 hei, .slice ta top.length tc, .slice ba bot.length bc, .int .i64 slo, .bool opn] 24 w.heap.size rfl).keep (Gr.al _ (.cells #[.int .i64 0, .slice none 0 0, .int .i64 0, .slice none 0 0, .slice none 0 0, .int .i64 0, .bool false] 24))
  have oZ := Own.new (w.alloc (.cells #[.int .i64 tab, .slice pa pan.length pc, .int .i64 hei, .slice ta top.length tc, .slice ba bot.length bc, .int .i64 slo, .bool opn] 24)) [.int .i64 0, .slice none 0 0, .int .i64 0, .slice none 0 0, .slice none 0 0, .int .i64 0, .bool false] 24 (w.heap.size + 1) (by simp)
  have HP := Lib.hid hp
  have HT := Lib.hid ht
  have HB := Lib.hid hb
  have HL := Lib.hid (And.intro l1 (And.intro l2 l3))
  clear hp ht hb l1 l2 l3
  have hle : w.heap.size ≤ w.heap.size := Nat.le_refl _
  go_enter Try.func62, Try.ntmps62
  go_upto_region 1 with fail
  refine wp_abs (fun U => Gr w U ∧ Own U w.heap.size [.int .i64 tab, .slice pa pan.length pc, .int .i64 hei, .slice ta top.length tc, .slice ba bot.length bc, .int .i64 slo, .bool opn] ∧ Own U (w.heap.size + 1) [.int .i64 0, .slice none 0 0, .int .i64 0, .slice none 0 0, .slice none 0 0, .int .i64 0, .bool false]) ⟨gg, oB, oZ⟩ ?_
  clear gg oB oZ
  rintro U ⟨gU, oB, oZ⟩
  obtain ⟨N, hN⟩ : ∃ N, U.heap.size = N := ⟨_, rfl⟩
  have hB := oB.1
  have lN : w.heap.size + 1 < N := hN ▸ oZ.1.1
  have HN := Lib.hid hN
  clear hN
  refine wp_region_apart 13 [(2, 1), (3, 0), (3, 2), (6, 5), (7, 4), (7, 6), (10, 9), (11, 8), (11, 10)] [3, 7, 11] (fun x => ⟨#[.agg #[.int .i64 tab, .slice pa pan.length pc, .int .i64 hei, .slice ta top.length tc, .slice ba bot.length bc, .int .i64 slo, .bool opn], .pointer (some ⟨w.heap.size, 0, none⟩), .pointer (some ⟨(w.heap.size + 1), 0, none⟩), x 0, x 1, x 2, x 3, x 4, x 5, x 6, x 7, x 8, x 9, x 10, x 11, x 12, undef, undef, undef], []⟩) (fun _ => undef) [fun v x => ∃ b, x = .slice (some ⟨b, 0, none⟩) 0 0, fun _ x => x = .pointer (some ⟨w.heap.size, 1, none⟩), fun _ x => x = .slice pa pan.length pc, fun v x => ∃ r c, x = .slice (some ⟨r, 0, none⟩) pan.length c ∧ Own v r (pan.map (fun n => Value.int .i64 n)) ∧ N ≤ r, fun v x => ∃ b, x = .slice (some ⟨b, 0, none⟩) 0 0, fun _ x => x = .pointer (some ⟨w.heap.size, 3, none⟩), fun _ x => x = .slice ta top.length tc, fun v x => ∃ r c, x = .slice (some ⟨r, 0, none⟩) top.length c ∧ Own v r (top.map (fun n => Value.int .i64 n)) ∧ N ≤ r, fun v x => ∃ b, x = .slice (some ⟨b, 0, none⟩) 0 0, fun _ x => x = .pointer (some ⟨w.heap.size, 4, none⟩), fun _ x => x = .slice ba bot.length bc, fun v x => ∃ r c, x = .slice (some ⟨r, 0, none⟩) bot.length c ∧ Own v r (bot.map (fun n => Value.int .i64 n)) ∧ N ≤ r, fun _ x => x = .pointer (some ⟨w.heap.size, 1, none⟩)] (by rfl) (by kernel_rfl) (by kernel_rfl) (by kernel_rfl) (stays_cons ((show Stays (fun v x => ∃ b, x = .slice (some ⟨b, 0, none⟩) 0 0) from fun v v' x g ⟨b, h⟩ => ⟨b, h⟩)) (stays_cons (Stays.eq _) (stays_cons (Stays.eq _) (stays_cons ((show Stays (fun v x => ∃ r c, x = .slice (some ⟨r, 0, none⟩) pan.length c ∧ Own v r (pan.map (fun n => Value.int .i64 n)) ∧ N ≤ r) from fun v v' x g ⟨r, c, h, o, n⟩ => ⟨r, c, h, o.keep g, n⟩)) (stays_cons ((show Stays (fun v x => ∃ b, x = .slice (some ⟨b, 0, none⟩) 0 0) from fun v v' x g ⟨b, h⟩ => ⟨b, h⟩)) (stays_cons (Stays.eq _) (stays_cons (Stays.eq _) (stays_cons ((show Stays (fun v x => ∃ r c, x = .slice (some ⟨r, 0, none⟩) top.length c ∧ Own v r (top.map (fun n => Value.int .i64 n)) ∧ N ≤ r) from fun v v' x g ⟨r, c, h, o, n⟩ => ⟨r, c, h, o.keep g, n⟩)) (stays_cons ((show Stays (fun v x => ∃ b, x = .slice (some ⟨b, 0, none⟩) 0 0) from fun v v' x g ⟨b, h⟩ => ⟨b, h⟩)) (stays_cons (Stays.eq _) (stays_cons (Stays.eq _) (stays_cons ((show Stays (fun v x => ∃ r c, x = .slice (some ⟨r, 0, none⟩) bot.length c ∧ Own v r (bot.map (fun n => Value.int .i64 n)) ∧ N ≤ r) from fun v v' x g ⟨r, c, h, o, n⟩ => ⟨r, c, h, o.keep g, n⟩)) (stays_cons (Stays.eq _) stays_nil))))))))))))) ?step1 ?fin1
  case step1 =>
    rintro i hi x v gv hd K hK
    have hi8 : i = 0 ∨ i = 1 ∨ i = 2 ∨ i = 3 ∨ i = 4 ∨ i = 5 ∨ i = 6 ∨ i = 7 ∨ i = 8 ∨ i = 9 ∨ i = 10 ∨ i = 11 ∨ i = 12 := by omega
    rcases hi8 with rfl | rfl | rfl | rfl | rfl | rfl | rfl | rfl | rfl | rfl | rfl | rfl | rfl
    · show wpOp Try.prog _ _ 0 K (⟨#[_, _, _, x 0, x 1, x 2, x 3, x 4, x 5, x 6, x 7, x 8, x 9, x 10, x 11, x 12, _, _, _], []⟩ : Act) v
      refine wpOp_step rfl (fun K' hK' => ?_)
      go_simp
      have hg := Gr.al v (.cells #[] 3)
      exact hK' _ _ (hK _ _ hg (at_of rfl (⟨_, rfl⟩)) (fun h => absurd h (by simp)))
    · show wpOp Try.prog _ _ 1 K (⟨#[_, _, _, x 0, x 1, x 2, x 3, x 4, x 5, x 6, x 7, x 8, x 9, x 10, x 11, x 12, _, _, _], []⟩ : Act) v
      refine wpOp_step rfl (fun K' hK' => ?_)
      go_simp
      exact hK' _ _ (hK _ _ (Below.refl _ _) (at_of rfl (rfl)) (fun h => absurd h (by simp)))
    · obtain ⟨x, rfl⟩ := upd_of (show x 1 = .pointer (some ⟨w.heap.size, 1, none⟩) from hd 1 _ (by simp) rfl)
      show wpOp Try.prog _ _ 2 K (⟨#[_, _, _, x 0, .pointer (some ⟨w.heap.size, 1, none⟩), x 2, x 3, x 4, x 5, x 6, x 7, x 8, x 9, x 10, x 11, x 12, _, _, _], []⟩ : Act) v
      refine wpOp_step rfl (fun K' hK' => ?_)
      have q := (hB.keep gv).2 1 _ rfl
      go_simp
      exact hK' _ _ (hK _ _ (Below.refl _ _) (at_of rfl (rfl)) (fun h => absurd h (by simp)))
    · obtain ⟨b0, e0⟩ := hd 0 _ (by simp) rfl
      obtain ⟨x, rfl⟩ := upd_of (show x 0 = .slice (some ⟨b0, 0, none⟩) 0 0 from e0)
      obtain ⟨x, rfl⟩ := upd_of (show x 2 = .slice pa pan.length pc from hd 2 _ (by simp) rfl)
      show wpOp Try.prog _ _ 3 K (⟨#[_, _, _, .slice (some ⟨b0, 0, none⟩) 0 0, x 1, .slice pa pan.length pc, x 3, x 4, x 5, x 6, x 7, x 8, x 9, x 10, x 11, x 12, _, _, _], []⟩ : Act) v
      obtain ⟨v', c', hrun, hg, ho⟩ := app_own v b0 pa pan pc (HP.out.grow (gU.tr gv)) HL.out.1.1 HL.out.1.2
      have hn2 : N ≤ v.heap.size := HN.out ▸ gv.size
      refine wpOp_append (Operand.tmp 3) (Operand.tmp 5) 22 rfl rfl rfl (.slice (some ⟨b0, 0, none⟩) 0 0) (.slice pa pan.length pc) _ v' rfl rfl hrun (fun K' hK' => ?_)
      exact hK' _ _ (hK _ _ hg (at_of rfl (⟨_, _, rfl, ho, hn2⟩)) (fun _ b hb => by simp [hasB, blkOf] at hb; subst hb; exact ⟨Nat.le_refl _, ho.1.1⟩))
    · show wpOp Try.prog _ _ 4 K (⟨#[_, _, _, x 0, x 1, x 2, x 3, x 4, x 5, x 6, x 7, x 8, x 9, x 10, x 11, x 12, _, _, _], []⟩ : Act) v
      refine wpOp_step rfl (fun K' hK' => ?_)
      go_simp
      have hg := Gr.al v (.cells #[] 3)
      exact hK' _ _ (hK _ _ hg (at_of rfl (⟨_, rfl⟩)) (fun h => absurd h (by simp)))
    · show wpOp Try.prog _ _ 5 K (⟨#[_, _, _, x 0, x 1, x 2, x 3, x 4, x 5, x 6, x 7, x 8, x 9, x 10, x 11, x 12, _, _, _], []⟩ : Act) v
      refine wpOp_step rfl (fun K' hK' => ?_)
      go_simp
      exact hK' _ _ (hK _ _ (Below.refl _ _) (at_of rfl (rfl)) (fun h => absurd h (by simp)))
    · obtain ⟨x, rfl⟩ := upd_of (show x 5 = .pointer (some ⟨w.heap.size, 3, none⟩) from hd 5 _ (by simp) rfl)
      show wpOp Try.prog _ _ 6 K (⟨#[_, _, _, x 0, x 1, x 2, x 3, x 4, .pointer (some ⟨w.heap.size, 3, none⟩), x 6, x 7, x 8, x 9, x 10, x 11, x 12, _, _, _], []⟩ : Act) v
      refine wpOp_step rfl (fun K' hK' => ?_)
      have q := (hB.keep gv).2 3 _ rfl
      go_simp
      exact hK' _ _ (hK _ _ (Below.refl _ _) (at_of rfl (rfl)) (fun h => absurd h (by simp)))
    · obtain ⟨b4, e4⟩ := hd 4 _ (by simp) rfl
      obtain ⟨x, rfl⟩ := upd_of (show x 4 = .slice (some ⟨b4, 0, none⟩) 0 0 from e4)
      obtain ⟨x, rfl⟩ := upd_of (show x 6 = .slice ta top.length tc from hd 6 _ (by simp) rfl)
      show wpOp Try.prog _ _ 7 K (⟨#[_, _, _, x 0, x 1, x 2, x 3, .slice (some ⟨b4, 0, none⟩) 0 0, x 5, .slice ta top.length tc, x 7, x 8, x 9, x 10, x 11, x 12, _, _, _], []⟩ : Act) v
      obtain ⟨v', c', hrun, hg, ho⟩ := app_own v b4 ta top tc (HT.out.grow (gU.tr gv)) HL.out.2.1.1 HL.out.2.1.2
      have hn2 : N ≤ v.heap.size := HN.out ▸ gv.size
      refine wpOp_append (Operand.tmp 7) (Operand.tmp 9) 22 rfl rfl rfl (.slice (some ⟨b4, 0, none⟩) 0 0) (.slice ta top.length tc) _ v' rfl rfl hrun (fun K' hK' => ?_)
      exact hK' _ _ (hK _ _ hg (at_of rfl (⟨_, _, rfl, ho, hn2⟩)) (fun _ b hb => by simp [hasB, blkOf] at hb; subst hb; exact ⟨Nat.le_refl _, ho.1.1⟩))
    · show wpOp Try.prog _ _ 8 K (⟨#[_, _, _, x 0, x 1, x 2, x 3, x 4, x 5, x 6, x 7, x 8, x 9, x 10, x 11, x 12, _, _, _], []⟩ : Act) v
      refine wpOp_step rfl (fun K' hK' => ?_)
      go_simp
      have hg := Gr.al v (.cells #[] 3)
      exact hK' _ _ (hK _ _ hg (at_of rfl (⟨_, rfl⟩)) (fun h => absurd h (by simp)))
    · show wpOp Try.prog _ _ 9 K (⟨#[_, _, _, x 0, x 1, x 2, x 3, x 4, x 5, x 6, x 7, x 8, x 9, x 10, x 11, x 12, _, _, _], []⟩ : Act) v
      refine wpOp_step rfl (fun K' hK' => ?_)
      go_simp
      exact hK' _ _ (hK _ _ (Below.refl _ _) (at_of rfl (rfl)) (fun h => absurd h (by simp)))
    · obtain ⟨x, rfl⟩ := upd_of (show x 9 = .pointer (some ⟨w.heap.size, 4, none⟩) from hd 9 _ (by simp) rfl)
      show wpOp Try.prog _ _ 10 K (⟨#[_, _, _, x 0, x 1, x 2, x 3, x 4, x 5, x 6, x 7, x 8, .pointer (some ⟨w.heap.size, 4, none⟩), x 10, x 11, x 12, _, _, _], []⟩ : Act) v
      refine wpOp_step rfl (fun K' hK' => ?_)
      have q := (hB.keep gv).2 4 _ rfl
      go_simp
      exact hK' _ _ (hK _ _ (Below.refl _ _) (at_of rfl (rfl)) (fun h => absurd h (by simp)))
    · obtain ⟨b8, e8⟩ := hd 8 _ (by simp) rfl
      obtain ⟨x, rfl⟩ := upd_of (show x 8 = .slice (some ⟨b8, 0, none⟩) 0 0 from e8)
      obtain ⟨x, rfl⟩ := upd_of (show x 10 = .slice ba bot.length bc from hd 10 _ (by simp) rfl)
      show wpOp Try.prog _ _ 11 K (⟨#[_, _, _, x 0, x 1, x 2, x 3, x 4, x 5, x 6, x 7, .slice (some ⟨b8, 0, none⟩) 0 0, x 9, .slice ba bot.length bc, x 11, x 12, _, _, _], []⟩ : Act) v
      obtain ⟨v', c', hrun, hg, ho⟩ := app_own v b8 ba bot bc (HB.out.grow (gU.tr gv)) HL.out.2.2.1 HL.out.2.2.2
      have hn2 : N ≤ v.heap.size := HN.out ▸ gv.size
      refine wpOp_append (Operand.tmp 11) (Operand.tmp 13) 22 rfl rfl rfl (.slice (some ⟨b8, 0, none⟩) 0 0) (.slice ba bot.length bc) _ v' rfl rfl hrun (fun K' hK' => ?_)
      exact hK' _ _ (hK _ _ hg (at_of rfl (⟨_, _, rfl, ho, hn2⟩)) (fun _ b hb => by simp [hasB, blkOf] at hb; subst hb; exact ⟨Nat.le_refl _, ho.1.1⟩))
    · show wpOp Try.prog _ _ 12 K (⟨#[_, _, _, x 0, x 1, x 2, x 3, x 4, x 5, x 6, x 7, x 8, x 9, x 10, x 11, x 12, _, _, _], []⟩ : Act) v
      refine wpOp_step rfl (fun K' hK' => ?_)
      go_simp
      exact hK' _ _ (hK _ _ (Below.refl _ _) (at_of rfl (rfl)) (fun h => absurd h (by simp)))
  case fin1 =>
    rintro x v gv hd hap
    obtain ⟨r3, c3, e3, o3, n3⟩ := hd 3 _ (by omega) rfl
    obtain ⟨x, rfl⟩ := upd_of (show x 3 = .slice (some ⟨r3, 0, none⟩) pan.length c3 from e3)
    obtain ⟨r7, c7, e7, o7, n7⟩ := hd 7 _ (by omega) rfl
    obtain ⟨x, rfl⟩ := upd_of (show x 7 = .slice (some ⟨r7, 0, none⟩) top.length c7 from e7)
    obtain ⟨r11, c11, e11, o11, n11⟩ := hd 11 _ (by omega) rfl
    obtain ⟨x, rfl⟩ := upd_of (show x 11 = .slice (some ⟨r11, 0, none⟩) bot.length c11 from e11)
    obtain ⟨x, rfl⟩ := upd_of (show x 12 = .pointer (some ⟨w.heap.size, 1, none⟩) from hd 12 _ (by omega) rfl)
    clear hd
    show wpList Try.prog _ _ (List.drop 13 _) (⟨#[_, _, _, x 0, x 1, x 2, .slice (some ⟨r3, 0, none⟩) pan.length c3, x 4, x 5, x 6, .slice (some ⟨r7, 0, none⟩) top.length c7, x 8, x 9, x 10, .slice (some ⟨r11, 0, none⟩) bot.length c11, .pointer (some ⟨w.heap.size, 1, none⟩), _, _, _], []⟩ : Act) v
    simp only [List.drop_succ_cons, List.drop_zero]
    have n37 : r3 ≠ r7 := (fun e => hap 3 7 (by simp) (by simp) (by simp) (by omega) (by omega) r3 (by rw [e3]; simp [hasB, blkOf]) (by rw [e7, ← e]; simp [hasB, blkOf]))
    have n3b : r3 ≠ r11 := (fun e => hap 3 11 (by simp) (by simp) (by simp) (by omega) (by omega) r3 (by rw [e3]; simp [hasB, blkOf]) (by rw [e11, ← e]; simp [hasB, blkOf]))
    have n7b : r7 ≠ r11 := (fun e => hap 7 11 (by simp) (by simp) (by simp) (by omega) (by omega) r7 (by rw [e7]; simp [hasB, blkOf]) (by rw [e11, ← e]; simp [hasB, blkOf]))
    clear hap e3 e7 e11
    replace gU := gU.tr gv
    replace oB := oB.keep gv
    replace oZ := oZ.keep gv
    clear gv hB HP HT HB HN
    have z1 := oB.2 1
    have z3 := oB.2 3
    have z4 := oB.2 4
    have q1 := oB.1.2 1 _ rfl
    have q3 := oB.1.2 3 _ rfl
    have q4 := oB.1.2 4 _ rfl
    go_upto_region 2 with fail
    refine wp_abs (fun V => Gr w V ∧ Own V w.heap.size [.int .i64 tab, .slice (some ⟨r3, 0, none⟩) pan.length c3, .int .i64 hei, .slice (some ⟨r7, 0, none⟩) top.length c7, .slice (some ⟨r11, 0, none⟩) bot.length c11, .int .i64 slo, .bool opn] ∧ Own V (w.heap.size + 1) [.int .i64 0, .slice none 0 0, .int .i64 0, .slice none 0 0, .slice none 0 0, .int .i64 0, .bool false] ∧ Own V r3 (pan.map (fun n => Value.int .i64 n)) ∧ Own V r7 (top.map (fun n => Value.int .i64 n)) ∧ Own V r11 (bot.map (fun n => Value.int .i64 n))) ⟨((gU.setCell (p := ⟨w.heap.size, 1, none⟩) hle _).setCell (p := ⟨w.heap.size, 3, none⟩) hle _).setCell (p := ⟨w.heap.size, 4, none⟩) hle _, ((oB.set (i := 1) (by simp)).set (i := 3) (by simp)).set (i := 4) (by simp), ((oZ.other (by omega)).other (by omega)).other (by omega), ((((o3).other (by omega)).other (by omega)).other (by omega)), ((((o7).other (by omega)).other (by omega)).other (by omega)), ((((o11).other (by omega)).other (by omega)).other (by omega))⟩ ?_
    clear gU oB oZ z1 z3 z4 q1 q3 q4 o3 o7 o11
    rintro V ⟨gV, oB, oZ, o3, o7, o11⟩
    obtain ⟨q0, q1, q2, q3, q4, q5, q6⟩ := oB.1.c7
    have p0 := oZ.1.2 0 _ rfl
    have z0 := oZ.2 0
    have p1 := oZ.1.2 1 _ rfl
    have z1 := oZ.2 1
    have p2 := oZ.1.2 2 _ rfl
    have z2 := oZ.2 2
    have p3 := oZ.1.2 3 _ rfl
    have z3 := oZ.2 3
    have p4 := oZ.1.2 4 _ rfl
    have z4 := oZ.2 4
    have p5 := oZ.1.2 5 _ rfl
    have z5 := oZ.2 5
    have p6 := oZ.1.2 6 _ rfl
    have z6 := oZ.2 6
    have hl1 : w.heap.size ≤ w.heap.size + 1 := Nat.le_succ _
    have m3 : r3 ≠ w.heap.size + 1 := by omega
    have m7 : r7 ≠ w.heap.size + 1 := by omega
    have m11 : r11 ≠ w.heap.size + 1 := by omega
    have le3 : w.heap.size ≤ r3 ∧ w.heap.size ≤ r7 ∧ w.heap.size ≤ r11 := by omega
    clear oB oZ lN n3 n7 n11
    go_wp2
    refine bodyPost_ret (v := .agg #[.int .i64 tab, .slice (some ⟨r3, 0, none⟩) pan.length c3, .int .i64 hei, .slice (some ⟨r7, 0, none⟩) top.length c7, .slice (some ⟨r11, 0, none⟩) bot.length c11, .int .i64 slo, .bool opn]) (by simp [results, Try.results62, go_sem, p0, p1, p2, p3, p4, p5, p6]) rfl ⟨_, _, _, _, _, _, rfl, ?_, ?_, ?_, ?_, le3, n37, n3b, n7b⟩
    · exact (((((((gV.setCell (p := ⟨w.heap.size + 1, 0, none⟩) hl1 _).setCell (p := ⟨w.heap.size + 1, 1, none⟩) hl1 _).setCell (p := ⟨w.heap.size + 1, 2, none⟩) hl1 _).setCell (p := ⟨w.heap.size + 1, 3, none⟩) hl1 _).setCell (p := ⟨w.heap.size + 1, 4, none⟩) hl1 _).setCell (p := ⟨w.heap.size + 1, 5, none⟩) hl1 _).setCell (p := ⟨w.heap.size + 1, 6, none⟩) hl1 _)
    · exact (((((((o3.other m3).other m3).other m3).other m3).other m3).other m3).other m3)
    · exact (((((((o7.other m7).other m7).other m7).other m7).other m7).other m7).other m7)
    · exact (((((((o11.other m11).other m11).other m11).other m11).other m11).other m11).other m11)

set_option maxRecDepth 100000 in
set_option maxHeartbeats 4000000 in
theorem own02_own (tab hei slo : Int) (pan top bot : List Int) (pa ta ba : Option Addr) (pc tc bc : Nat) (opn : Bool) (l1 : 0 < pan.length ∧ pan.length ≤ 1000) (l2 : 0 < top.length ∧ top.length ≤ 1000) (l3 : 0 < bot.length ∧ bot.length ≤ 1000) (w : World) (hp : IRow w pa pan) (ht : IRow w ta top) (hb : IRow w ba bot) :
    Calls Try.prog 16 #[.agg #[.int .i64 tab, .slice pa pan.length pc, .int .i64 hei, .slice ta top.length tc, .slice ba bot.length bc, .int .i64 slo, .bool opn]] w (OwnPost tab hei slo pan top bot opn w) := by
  have gg := (Gr.al w (.cells #[.int .i64 tab, .slice pa pan.length pc, .int .i64 hei, .slice ta top.length tc, .slice ba bot.length bc, .int .i64 slo, .bool opn] 24)).tr (Gr.al _ (.cells #[.int .i64 0, .slice none 0 0, .int .i64 0, .slice none 0 0, .slice none 0 0, .int .i64 0, .bool false] 24))
  have oB := (Box.new w [.int .i64 tab, .slice pa pan.length pc, .int .i64 hei, .slice ta top.length tc, .slice ba bot.length bc, .int .i64 slo, .bool opn] 24 w.heap.size rfl).keep (Gr.al _ (.cells #[.int .i64 0, .slice none 0 0, .int .i64 0, .slice none 0 0, .slice none 0 0, .int .i64 0, .bool false] 24))
  have oZ := Own.new (w.alloc (.cells #[.int .i64 tab, .slice pa pan.length pc, .int .i64 hei, .slice ta top.length tc, .slice ba bot.length bc, .int .i64 slo, .bool opn] 24)) [.int .i64 0, .slice none 0 0, .int .i64 0, .slice none 0 0, .slice none 0 0, .int .i64 0, .bool false] 24 (w.heap.size + 1) (by simp)
  have HP := Lib.hid hp
  have HT := Lib.hid ht
  have HB := Lib.hid hb
  clear hp ht hb
  have hl1 : w.heap.size ≤ w.heap.size + 1 := Nat.le_succ _
  go_enter Try.func16, Try.ntmps16
  go_upto_region 1 with fail
  refine wp_abs (fun U => Gr w U ∧ Box U w.heap.size [.int .i64 tab, .slice pa pan.length pc, .int .i64 hei, .slice ta top.length tc, .slice ba bot.length bc, .int .i64 slo, .bool opn] ∧ Own U (w.heap.size + 1) [.int .i64 0, .slice none 0 0, .int .i64 0, .slice none 0 0, .slice none 0 0, .int .i64 0, .bool false]) ⟨gg, oB, oZ⟩ ?_
  clear gg oB oZ
  rintro U ⟨gU, oB, oZ⟩
  obtain ⟨b0, b1, b2, b3, b4, b5, b6⟩ := oB.c7
  have hlt : w.heap.size + 1 < U.heap.size := oZ.1.1
  go_wp2_with (go_at_call 62; refine (copy02_own tab hei slo pan top bot pa ta ba pc tc bc opn l1 l2 l3 U (HP.out.grow gU) (HT.out.grow gU) (HB.out.grow gU)).mono ?_; rintro e w1 ⟨r3, c3, r7, c7, r11, c11, rfl, g1, o3, o7, o11, ⟨n3, n7, n11⟩, n37, n3b, n7b⟩; have hsz := gU.size; replace gU := gU.tr g1; replace oZ := oZ.keep g1; clear b0 b1 b2 b3 b4 b5 b6 oB; have m3 : r3 ≠ w.heap.size + 1 := (by omega); have m7 : r7 ≠ w.heap.size + 1 := (by omega); have m11 : r11 ≠ w.heap.size + 1 := (by omega); have le3 : w.heap.size ≤ r3 ∧ w.heap.size ≤ r7 ∧ w.heap.size ≤ r11 := (by omega); have p0 := oZ.1.2 0 _ rfl; have z0 := oZ.2 0; have p1 := oZ.1.2 1 _ rfl; have z1 := oZ.2 1; have p2 := oZ.1.2 2 _ rfl; have z2 := oZ.2 2; have p3 := oZ.1.2 3 _ rfl; have z3 := oZ.2 3; have p4 := oZ.1.2 4 _ rfl; have z4 := oZ.2 4; have p5 := oZ.1.2 5 _ rfl; have z5 := oZ.2 5; have p6 := oZ.1.2 6 _ rfl; have z6 := oZ.2 6; clear hsz n3 n7 n11 hlt oZ)
  refine bodyPost_ret (v := .agg #[.int .i64 tab, .slice (some ⟨r3, 0, none⟩) pan.length c3, .int .i64 hei, .slice (some ⟨r7, 0, none⟩) top.length c7, .slice (some ⟨r11, 0, none⟩) bot.length c11, .int .i64 slo, .bool opn]) (by simp [results, Try.results16, go_sem, p0, p1, p2, p3, p4, p5, p6]) rfl ⟨_, _, _, _, _, _, rfl, ?_, ?_, ?_, ?_, le3, n37, n3b, n7b⟩
  · exact (((((((gU.setCell (p := ⟨w.heap.size + 1, 0, none⟩) hl1 _).setCell (p := ⟨w.heap.size + 1, 1, none⟩) hl1 _).setCell (p := ⟨w.heap.size + 1, 2, none⟩) hl1 _).setCell (p := ⟨w.heap.size + 1, 3, none⟩) hl1 _).setCell (p := ⟨w.heap.size + 1, 4, none⟩) hl1 _).setCell (p := ⟨w.heap.size + 1, 5, none⟩) hl1 _).setCell (p := ⟨w.heap.size + 1, 6, none⟩) hl1 _)
  · exact (((((((o3.other m3).other m3).other m3).other m3).other m3).other m3).other m3)
  · exact (((((((o7.other m7).other m7).other m7).other m7).other m7).other m7).other m7)
  · exact (((((((o11.other m11).other m11).other m11).other m11).other m11).other m11).other m11)

end Go.Proofs.Ytafkoococfnakaa

namespace Go.Proofs.Ytafkoococfnakaa
set_option linter.unusedVariables false
set_option linter.unusedSimpArgs false
open Go.RowKit

theorem row_lt1 {w : World} {a : Option Addr} {x : Int} {l : List Int} (h : IRow w a (x :: l)) : ∀ ad, a = some ad → ad.block < w.heap.size := by
  obtain ⟨b, o, rfl, hb, _⟩ := IRow.get h (j := 0) rfl
  rintro ad ⟨⟩
  exact hb

def Blank4 (p0 p1 p2 p3 t0 t1 s0 s1 hei : Int) (o : Bool) : Prop :=
  (1 ≤ p0 ∧ p0 ≤ 3000) ∧ (1 ≤ p1 ∧ p1 ≤ 3000) ∧ (1 ≤ p2 ∧ p2 ≤ 3000) ∧ (1 ≤ p3 ∧ p3 ≤ 3000) ∧ (0 ≤ t0 ∧ t0 ≤ 3000) ∧ (0 ≤ t1 ∧ t1 ≤ 3000) ∧ (0 ≤ s0 ∧ s0 ≤ 3000) ∧ (0 ≤ s1 ∧ s1 ≤ 3000) ∧ (1 ≤ hei ∧ hei ≤ 3000) ∧ (o = true → t0 = 0 ∧ t1 = 0)

theorem Blank4.good {p0 p1 p2 p3 t0 t1 s0 s1 hei : Int} {o : Bool} (h : Blank4 p0 p1 p2 p3 t0 t1 s0 s1 hei o) : GoodB 30 hei 9 [p0, p1, p2, p3] [t0, t1] [s0, s1] o := by
  obtain ⟨h0, h1, h2, h3, h4, h5, h6, h7, h8, h9⟩ := h
  refine ⟨rfl, rfl, rfl, by decide, ?_, ?_, ?_, ?_, by decide, fun e => ?_⟩
  · simp only [inB, in1, List.all_cons, List.all_nil, Bool.and_true, Bool.and_eq_true, decide_eq_true_eq]; omega
  · simp only [inB, in1, List.all_cons, List.all_nil, Bool.and_true, Bool.and_eq_true, decide_eq_true_eq]; omega
  · simp only [inB, in1, List.all_cons, List.all_nil, Bool.and_true, Bool.and_eq_true, decide_eq_true_eq]; omega
  · simp only [inB, in1, List.all_cons, List.all_nil, Bool.and_true, Bool.and_eq_true, decide_eq_true_eq]; omega
  · obtain ⟨rfl, rfl⟩ := h9 e
    decide

def Cal2 (cl ch : Int) : Prop := 1 ≤ cl ∧ cl ≤ ch ∧ ch ≤ 10000

theorem Cal2.ok {cl ch : Int} (h : Cal2 cl ch) : okSpan 1 10000 cl ch = true := by
  obtain ⟨h0, h1, h2⟩ := h
  simp only [okSpan, inB, in1, List.all_cons, List.all_nil, Bool.and_true, Bool.and_eq_true, decide_eq_true_eq]
  omega

def Own4 (p0 p1 p2 p3 t0 t1 s0 s1 hei : Int) (o : Bool) (w : World) (e : Ending) (w' : World) : Prop :=
  ∃ a3 c3 a7 c7 a11 c11, e = .returned (.agg #[.int .i64 30, .slice a3 4 c3, .int .i64 hei, .slice a7 2 c7, .slice a11 2 c11, .int .i64 9, .bool o]) ∧ Gr w w' ∧ IRow w' a3 [p0, p1, p2, p3] ∧ IRow w' a7 [t0, t1] ∧ IRow w' a11 [s0, s1]

theorem own4_any (p0 p1 p2 p3 t0 t1 s0 s1 hei : Int) (o : Bool) (pa ta ba : Option Addr) (pc tc bc : Nat) (w : World) (hp : IRow w pa [p0, p1, p2, p3]) (ht : IRow w ta [t0, t1]) (hb : IRow w ba [s0, s1]) :
    Calls Try.prog 16 #[.agg #[.int .i64 30, .slice pa 4 pc, .int .i64 hei, .slice ta 2 tc, .slice ba 2 bc, .int .i64 9, .bool o]] w (Own4 p0 p1 p2 p3 t0 t1 s0 s1 hei o w) := by
  refine (own02_own 30 hei 9 [p0, p1, p2, p3] [t0, t1] [s0, s1] pa ta ba pc tc bc o (by simp) (by simp) (by simp) w hp ht hb).mono ?_
  rintro e w' ⟨r3, c3, r7, c7, r11, c11, he, g, o3, o7, o11, _⟩
  exact ⟨_, c3, _, c7, _, c11, he, g, Own.row (l := [p0, p1, p2, p3]) o3 (by simp), Own.row (l := [t0, t1]) o7 (by simp), Own.row (l := [s0, s1]) o11 (by simp)⟩

def Long4 (p0 p1 p2 p3 t0 t1 s0 s1 hei : Int) (o : Bool) (w : World) (e : Ending) (w' : World) : Prop :=
  ∃ r3 c3 r7 c7 r11 c11, e = .returned (.agg #[.int .i64 30, .slice (some ⟨r3, 0, none⟩) 4 c3, .int .i64 hei, .slice (some ⟨r7, 0, none⟩) 2 c7, .slice (some ⟨r11, 0, none⟩) 2 c11, .int .i64 9, .bool o]) ∧ Gr w w' ∧ Own w' r3 [.int .i64 p0, .int .i64 p1, .int .i64 p2, .int .i64 p3] ∧ IRow w' (some ⟨r7, 0, none⟩) [t0, t1] ∧ IRow w' (some ⟨r11, 0, none⟩) [s0, s1] ∧ w.heap.size ≤ r3 ∧ r3 ≠ r7 ∧ r3 ≠ r11

theorem long4_any (p0 p1 p2 p3 t0 t1 s0 s1 hei : Int) (o : Bool) (pa ta ba : Option Addr) (pc tc bc : Nat) (w : World) (hp : IRow w pa [p0, p1, p2, p3]) (ht : IRow w ta [t0, t1]) (hb : IRow w ba [s0, s1]) :
    Calls Try.prog 16 #[.agg #[.int .i64 30, .slice pa 4 pc, .int .i64 hei, .slice ta 2 tc, .slice ba 2 bc, .int .i64 9, .bool o]] w (Long4 p0 p1 p2 p3 t0 t1 s0 s1 hei o w) := by
  refine (own02_own 30 hei 9 [p0, p1, p2, p3] [t0, t1] [s0, s1] pa ta ba pc tc bc o (by simp) (by simp) (by simp) w hp ht hb).mono ?_
  rintro e w' ⟨r3, c3, r7, c7, r11, c11, he, g, o3, o7, o11, ⟨l3, _, _⟩, n1, n2, _⟩
  exact ⟨r3, c3, r7, c7, r11, c11, he, g, o3, Own.row (l := [t0, t1]) o7 (by simp), Own.row (l := [s0, s1]) o11 (by simp), l3, n1, n2⟩

def playX (p q cl ch cl' ch' : Int) : Sp := ⟨1000 * p - ch - 1000 * q - ch', 1000 * p - cl - 1000 * q - cl'⟩

theorem play4_any (p0 p1 p2 p3 t0 t1 s0 s1 hei : Int) (o : Bool) (q0 q1 q2 q3 u0 u1 v0 v1 hei' : Int) (o' : Bool) (cl ch cl' ch' : Int) (h : Blank4 p0 p1 p2 p3 t0 t1 s0 s1 hei o) (h' : Blank4 q0 q1 q2 q3 u0 u1 v0 v1 hei' o') (k : Cal2 cl ch) (k' : Cal2 cl' ch') (pa ta ba pa' ta' ba' : Option Addr) (pc tc bc pc' tc' bc' : Nat) (w : World)
    (hp : IRow w pa [p0, p1, p2, p3]) (ht : IRow w ta [t0, t1]) (hb : IRow w ba [s0, s1]) (hp' : IRow w pa' [q0, q1, q2, q3]) (ht' : IRow w ta' [u0, u1]) (hb' : IRow w ba' [v0, v1]) :
    Calls Try.prog 32 #[.agg #[.int .i64 30, .slice pa 4 pc, .int .i64 hei, .slice ta 2 tc, .slice ba 2 bc, .int .i64 9, .bool o], .agg #[.int .i64 30, .slice pa' 4 pc', .int .i64 hei', .slice ta' 2 tc', .slice ba' 2 bc', .int .i64 9, .bool o'], .agg #[.int .i64 cl, .int .i64 ch], .agg #[.int .i64 cl', .int .i64 ch']] w fun e w' =>
      ∃ b off cap, e = .returned (.tuple #[.slice (some ⟨b, off, none⟩) 4 cap, .int .i64 0]) ∧ Gr w w' ∧ SRow w' (some ⟨b, off, none⟩) [playX p0 q0 cl ch cl' ch', playX p1 q1 cl ch cl' ch', playX p2 q2 cl ch cl' ch', playX p3 q3 cl ch cl' ch'] := by
  refine play_ok4 30 hei 9 [p0, p1, p2, p3] [t0, t1] [s0, s1] pa ta ba pc tc bc o 30 hei' 9 [q0, q1, q2, q3] [u0, u1] [v0, v1] pa' ta' ba' pc' tc' bc' o' cl ch cl' ch' h.good h'.good k.ok k'.ok _ ?_ w hp ht hb hp' ht' hb'
  obtain ⟨h0, h1, h2, h3, h4, h5, h6, h7, h8, h9⟩ := h
  obtain ⟨g0, g1, g2, g3, g4, g5, g6, g7, g8, g9⟩ := h'
  obtain ⟨k0, k1, k2⟩ := k
  obtain ⟨j0, j1, j2⟩ := k'
  have one : ∀ (i : Nat) (p q : Int), i < 4 → [p0, p1, p2, p3][i]? = some p → [q0, q1, q2, q3][i]? = some q → (1 ≤ p ∧ p ≤ 3000) → (1 ≤ q ∧ q ≤ 3000) → playAt hei [p0, p1, p2, p3] [t0, t1] [s0, s1] o cl ch hei' [q0, q1, q2, q3] [u0, u1] [v0, v1] o' cl' ch' i = playX p q cl ch cl' ch' := by
    intro i p q hi hp hq bp bq
    have e4 : ¬ ((i : Int) = 4 ∧ o = false) := by omega
    simp only [playAt, lessL, List.foldl, less1, innerAt, insideS, flatAt, if_pos hi, lostL, if_neg e4, getD_eq hp, getD_eq hq, nearL, playX]
    congr 1 <;> omega
  show [playAt _ _ _ _ _ _ _ _ _ _ _ _ _ _ 0, playAt _ _ _ _ _ _ _ _ _ _ _ _ _ _ 1, playAt _ _ _ _ _ _ _ _ _ _ _ _ _ _ 2, playAt _ _ _ _ _ _ _ _ _ _ _ _ _ _ 3] = _
  rw [one 0 p0 q0 (by omega) rfl rfl h0 g0, one 1 p1 q1 (by omega) rfl rfl h1 g1, one 2 p2 q2 (by omega) rfl rfl h2 g2, one 3 p3 q3 (by omega) rfl rfl h3 g3]

theorem box_four {p0 p1 p2 p3 t0 t1 s0 s1 hei : Int} {o : Bool} (h : Blank4 p0 p1 p2 p3 t0 t1 s0 s1 hei o) (c : Int) : fitsBox 0 hei [p0, p1, p2, p3] [t0, t1] [s0, s1] o c = [min (1000 * p0 - c) (1000 * p2 - c), min (1000 * p1 - c) (1000 * p3 - c), micH hei o c] := by
  obtain ⟨h0, h1, h2, h3, h4, h5, h6, h7, h8, h9⟩ := h
  have one : ∀ (i : Nat) (p : Int), i < 4 → [p0, p1, p2, p3][i]? = some p → (1 ≤ p ∧ p ≤ 3000) → (innerAt 0 hei [p0, p1, p2, p3] [t0, t1] [s0, s1] o c c i).lo = 1000 * p - c := by
    intro i p hi hp bp
    have e4 : ¬ ((i : Int) = 4 ∧ o = false) := by omega
    simp only [innerAt, insideS, flatAt, if_pos hi, lostL, if_neg e4, getD_eq hp, nearL]
    omega
  have hh : (innerAt 0 hei [p0, p1, p2, p3] [t0, t1] [s0, s1] o c c 4).lo = micH hei o c := by
    cases o <;> simp [innerAt, insideS, flatAt, lostL, nearL, micH] <;> omega
  unfold fitsBox
  rw [one 0 p0 (by omega) rfl h0, one 1 p1 (by omega) rfl h1, one 2 p2 (by omega) rfl h2, one 3 p3 (by omega) rfl h3, hh]

theorem holds4_any (p0 p1 p2 p3 t0 t1 s0 s1 hei : Int) (o : Bool) (cl ch : Int) (h : Blank4 p0 p1 p2 p3 t0 t1 s0 s1 hei o) (k : Cal2 cl ch) (x y z : Int) (hx : 0 ≤ x ∧ x ≤ 3000) (hy : 0 ≤ y ∧ y ≤ 3000) (hz : 0 ≤ z ∧ z ≤ 3000) (pa ta ba td : Option Addr) (pc tc bc tcap : Nat) (w : World)
    (hp : IRow w pa [p0, p1, p2, p3]) (ht : IRow w ta [t0, t1]) (hb : IRow w ba [s0, s1]) (htd : IRow w td [x, y, z]) (f1 f2 : Bool)
    (e1 : fitsL [x, y, z] [min (1000 * p0 - ch) (1000 * p2 - ch), min (1000 * p1 - ch) (1000 * p3 - ch), micH hei o ch] = f1) (e2 : fitsL [x, y, z] [min (1000 * p0 - cl) (1000 * p2 - cl), min (1000 * p1 - cl) (1000 * p3 - cl), micH hei o cl] = f2) :
    Calls Try.prog 35 #[.agg #[.int .i64 30, .slice pa 4 pc, .int .i64 hei, .slice ta 2 tc, .slice ba 2 bc, .int .i64 9, .bool o], .agg #[.int .i64 cl, .int .i64 ch], .slice td 3 tcap] w fun e w' => e = .returned (.tuple #[.bool f1, .bool f2, .int .i64 0]) ∧ Gr w w' := by
  have h9 := holds_ok 30 hei 9 [p0, p1, p2, p3] [t0, t1] [s0, s1] pa ta ba pc tc bc o cl ch [x, y, z] h.good k.ok rfl (by simp only [inB, in1, List.all_cons, List.all_nil, Bool.and_true, Bool.and_eq_true, decide_eq_true_eq]; omega) td tcap w hp ht hb htd
  rw [box_four h, box_four h, e1, e2] at h9
  exact h9

theorem micH_le {hei : Int} {o : Bool} {c c' : Int} (h : c ≤ c') : micH hei o c' ≤ micH hei o c := by
  unfold micH; split <;> omega

theorem fits_self (x y z : Int) : fitsL [x, y, z] [1000 * x, 1000 * y, 1000 * z] = true := by
  rw [fits3]
  omega

/-- As great as the box is inside: it fits. -/
theorem fits_floor {x y z A B C : Int} (h1 : 1000 * x ≤ A) (h2 : 1000 * y ≤ B) (h3 : 1000 * z ≤ C) : fitsL [x, y, z] [A, B, C] = true := fits_mono h1 h2 h3 (fits_self x y z)

theorem fits_turn {x y z A B C : Int} (h : fitsL [z, x, y] [C, A, B] = true) : fitsL [z, x, y] [A, B, C] = true := by
  rw [fits3] at h ⊢
  obtain ⟨a, b, c⟩ := h
  refine ⟨?_, ?_, ?_⟩
  · omega
  · omega
  · omega

theorem fits_not {x y z A B C : Int} (h1 : A < 1000 * x) (h2 : B < 1000 * y) (h3 : C < 1000 * z) : fitsL [x, y, z] [A, B, C] = false := by
  cases h : fitsL [x, y, z] [A, B, C] with
  | false => rfl
  | true =>
    rw [fits3] at h
    obtain ⟨a, b, c⟩ := h
    omega

theorem ints3_any (x y z : Int) (td : Option Addr) (tcap : Nat) (w : World) (htd : IRow w td [x, y, z]) :
    Calls Try.prog 34 #[.slice td 3 tcap] w fun e w' => ∃ a c, e = .returned (.slice a 3 c) ∧ Gr w w' ∧ IRow w' a [x, y, z] :=
  ints02c_any [x, y, z] (by simp) td tcap w htd

/-- A sheet's blank, in letters. -/
def BlankNew (p0 p1 p2 p3 t0 t1 s0 s1 hei : Int) (o : Bool) (w : World) (e : Ending) (w' : World) : Prop :=
  ∃ a c a' c' a'' c'', e = .returned (.agg #[.int .i64 30, .slice a 4 c, .int .i64 hei, .slice a' 2 c', .slice a'' 2 c'', .int .i64 9, .bool o]) ∧ Gr w w' ∧ (IRow w' a [p0, p1, p2, p3] ∧ IRow w' a' [t0, t1] ∧ IRow w' a'' [s0, s1]) ∧ (∀ ad, a = some ad → w.heap.size ≤ ad.block ∧ ad.block < w'.heap.size) ∧ (∀ ad, a' = some ad → w.heap.size ≤ ad.block ∧ ad.block < w'.heap.size) ∧ (∀ ad, a'' = some ad → w.heap.size ≤ ad.block ∧ ad.block < w'.heap.size)

theorem SheetPost.new {p0 p1 p2 p3 t0 t1 s0 s1 h : Int} {o : Bool} {w : World} {e : Ending} {w' : World} (H : SheetPost [p0, p1, p2, p3] [t0, t1] [s0, s1] h o w e w') : BlankNew p0 p1 p2 p3 t0 t1 s0 s1 (40 + h) o w e w' := by
  obtain ⟨a, c, a', c', a'', c'', rfl, g, r1, r2, r3, n1, n2, n3⟩ := H
  have one : ∀ (a : Option Addr) (x : Int) (l : List Int), IRow w' a (x :: l) → NewAt w.heap.size a → ∀ ad, a = some ad → w.heap.size ≤ ad.block ∧ ad.block < w'.heap.size := by
    intro a x l r n ad e
    refine ⟨?_, row_lt1 r ad e⟩
    cases ad with
    | mk b o c => exact n b o c e
-- row_lt1 r ad e⟩
  exact ⟨a, c, a', c', a'', c'', rfl, g, ⟨r1, r2, r3⟩, one _ _ _ r1 n1, one _ _ _ r2 n2, one _ _ _ r3 n3⟩

end Go.Proofs.Ytafkoococfnakaa
