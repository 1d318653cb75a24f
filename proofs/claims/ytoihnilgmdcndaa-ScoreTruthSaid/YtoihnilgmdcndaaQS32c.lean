/- score's search in memory: where it lies; holds, rise, fall, draw. (Made by gen_s22.py.) score's flaps: the shortest flaps over a panel. (Made by gen_s23.py.) Append onto a row: its block behind the append is the row's own or a new one. The iterators each and starts of score. (Made by gen_s24.py.) A region that draws its order, in which two rows are appended to, one after the other: the facts of the other operations stay while blocks of Z alone turn; the rows' state goes from S0 to S1 to S2. A region that draws its order, in which two variables are made and written once each, among reads. A region of calls, loads and allocations in many orders, within a round of a range over a function. A region that draws its order, within a round, in which one operation turns what others keep: a call that turns blocks of Z. score's panel: the smallest panel with its flaps. (Made by gen_s25.py.) wp_region_facts, and some of the values lie in blocks of their own, none of which is another's. score's empty and smallest. (Made by gen_s26.py.) score.Blank in general. (Made by gen_s27.py.) -/
import Derived.Test.YtoihnilgmdcndaaQS32b
import Derived.Test.YtoihnilgmdcndaaQS32a
import Derived.Shelf.Abstract
import Derived.Deep.MidRow
import Derived.Deep.CutRange
import Derived.OwnWalkIn
import Derived.RangeFuncBound
import Derived.RangeFuncCalls
import Derived.RangeFuncLeaves
import Derived.Shelf.RegionOpen
import Derived.TacticsInMore
import Derived.LoopNIn
import Derived.LoopIn
import Derived.OrdersIn
import Derived.Lib.MinMax
import Derived.Sort.CutIn
import Derived.Deep.OwnRows
namespace Go.Proofs.Ytoihnilgmdcndaa
set_option linter.unusedVariables false
set_option linter.unusedSimpArgs false
open Go.RowKit Go.Shelf

set_option maxRecDepth 100000 in
set_option maxHeartbeats 2000000 in
/-- sort.Search with a function that keeps memory: whatever it keeps holds afterwards. -/
theorem search5 (n : Int) (h0 : 0 ≤ n) (h1 : n ≤ 1000000000000) (p : Int → Bool) (hm : ∀ a b, 0 ≤ a → a ≤ b → b < n → p a = true → p b = true) (fid : FuncId) (c0 c1 c2 c3 c4 : Value) (K : World → Prop) (w : World) (hK : K w)
  (hcall : ∀ (args : Array Value) (W : World), (callFunc fid args).run Try.prog W = .ok (.enter fid args) W)
  (hf : ∀ (h : Int) (W : World), K W → 0 ≤ h → h < n → Calls Try.prog fid #[.int .i64 h, c0, c1, c2, c3, c4] W fun e W' => e = .returned (.bool (p h)) ∧ K W') :
  Calls Try.prog 144 #[.int .i64 n, .func (.func fid) #[] #[c0, c1, c2, c3, c4]] w fun e w' => ∃ r, e = .returned (.int .i64 r) ∧ 0 ≤ r ∧ r ≤ n ∧ (∀ a, 0 ≤ a → a < r → p a = false) ∧ (∀ a, r ≤ a → a < n → p a = true) ∧ K w' := by
 have HM := Lib.hid hm
 have HF := Lib.hid hf
 clear hm hf
 go_enter Try.func144, Try.ntmps144
 go_wp2
 go_loopw [5, 6] (fun x y wr => Hid (∃ i j : Int, x = .int .i64 i ∧ y = .int .i64 j ∧ 0 ≤ i ∧ i ≤ j ∧ j ≤ n ∧ (∀ a, 0 ≤ a → a < i → p a = false) ∧ (∀ a, j ≤ a → a < n → p a = true) ∧ K wr)) (fun x y wr => (intOf y - intOf x).toNat)
 case atStart => exact Lib.hid ⟨0, n, rfl, rfl, by omega, h0, by omega, fun a a0 a1 => by omega, fun a a0 a1 => by omega, hK⟩
 case round =>
  obtain ⟨i, j, rfl, rfl, i0, ij, jn, hlo, hhi, gW⟩ := hrel.out
  clear hrel
  have HL := Lib.hid hlo
  have HH := Lib.hid hhi
  clear hlo hhi
  by_cases hlt : i < j
  ·have hw1 : IntKind.i64.wrap (i + j) = i + j := IntWalk.i64_in _ (by omega)
   go_wp2_with fail
   refine (HF.out _ wr gW (by omega) (by omega)).mono ?_
   rintro e w2 ⟨rfl, hy⟩
   cases hp : p ((i + j) / 2) with
   | true =>
    have Hp := Lib.hid hp
    clear hp
    go_wp2
    go_roundw
    case rel => exact Lib.hid ⟨i, (i + j) / 2, rfl, rfl, i0, by omega, by omega, HL.out, fun a a0 a1 => HM.out ((i + j) / 2) a (by omega) a0 a1 Hp.out, hy⟩
    case measure => simp [intOf]; omega
   | false =>
    have Hp := Lib.hid hp
    clear hp
    have hw2 : IntKind.i64.wrap ((i + j) / 2 + 1) = (i + j) / 2 + 1 := IntWalk.i64_in _ (by omega)
    go_wp2
    go_roundw
    case rel =>
     refine Lib.hid ⟨(i + j) / 2 + 1, j, rfl, rfl, by omega, by omega, jn, fun a a0 a1 => ?_, HH.out, hy⟩
     cases hq : p a with
     | false => rfl
     | true =>
      have := HM.out a ((i + j) / 2) a0 (by omega) (by omega) hq
      rw [Hp.out] at this
      cases this
    case measure => simp [intOf]; omega
  ·obtain rfl : i = j := by omega
   go_wp2
   go_ret
   exact ⟨i, rfl, i0, jn, HL.out, HH.out, gW⟩

/-- Where a search lies, and what stays of it. -/
structure Sx where
 S : Nat
 P : Nat
 T : Nat
 B : Nat
 pc : Nat
 tc : Nat
 bc : Nat
 tab : Int
 ra : Option Addr
 rt : Option Addr
 rb : Option Addr
 rac : Nat
 rtc : Nat
 rbc : Nat
 R : Rm
 W : Wi
 cl : Int
 ch : Int

def Sx.room (X : Sx) : List Value := [.int .i64 X.tab, .slice X.ra X.R.pan.length X.rac, .int .i64 X.R.hei, .slice X.rt X.R.top.length X.rtc, .slice X.rb X.R.bot.length X.rbc, .int .i64 X.R.slo, .bool X.R.opn, .int .i64 X.R.off, .slice X.rt X.R.top.length X.rtc, .slice X.rb X.R.bot.length X.rbc]

def Wi.cells (W : Wi) : List Value := [.int .i64 W.ll, .int .i64 W.lh, .int .i64 W.wl, .int .i64 W.wh, .int .i64 W.hl, .int .i64 W.hh, .int .i64 W.ol, .int .i64 W.oh, .int .i64 W.il, .int .i64 W.ih, .bool W.wo]

def Sx.drawn (X : Sx) (d : Dr) : List Value := [.int .i64 X.tab, .slice (some ⟨X.P, 0, none⟩) 4 X.pc, .int .i64 d.hei, .slice (some ⟨X.T, 0, none⟩) 2 X.tc, .slice (some ⟨X.B, 0, none⟩) 2 X.bc, .int .i64 d.slo, .bool X.R.opn, .int .i64 0, .slice (some ⟨X.T, 0, none⟩) 2 X.tc, .slice (some ⟨X.B, 0, none⟩) 2 X.bc]

def Sx.cells (X : Sx) (d : Dr) : List Value := X.room ++ (X.W.cells ++ ([.int .i64 X.cl, .int .i64 X.ch] ++ X.drawn d))

def Sx.Z (X : Sx) (k : Nat) : Prop := k = X.S ∨ k = X.P ∨ k = X.T ∨ k = X.B

/-- The search's blocks are four. -/
structure Sx.Dis (X : Sx) : Prop where
 sp : X.S ≠ X.P
 st : X.S ≠ X.T
 sb : X.S ≠ X.B
 pt : X.P ≠ X.T
 pb : X.P ≠ X.B
 tb : X.T ≠ X.B

abbrev encN (n : Int) : Value := .int .i64 n

/-- A search, and the blank that it has drawn so far. -/
structure Se (X : Sx) (d : Dr) (w : World) : Prop where
 s : Own w X.S (X.cells d)
 p : Own w X.P (d.p.map encN)
 t : Own w X.T (d.t.map encN)
 b : Own w X.B (d.b.map encN)

theorem Se.gr {X : Sx} {d : Dr} {w w' : World} (h : Se X d w) (g : Gr w w') : Se X d w' := ⟨h.s.keep g, h.p.keep g, h.t.keep g, h.b.keep g⟩

theorem Se.lt {X : Sx} {d : Dr} {w : World} (h : Se X d w) {k : Nat} (hk : X.Z k) : k < w.heap.size := by
 rcases hk with rfl | rfl | rfl | rfl
 ·exact h.s.1.1
 ·exact h.p.1.1
 ·exact h.t.1.1
 ·exact h.b.1.1

theorem Se.kx {X : Sx} {d : Dr} {Z : Nat → Prop} {w w' : World} (h : Se X d w) (k : Kx Z w w') (hz : ∀ i, X.Z i → ¬ Z i) : Se X d w' :=
 ⟨h.s.kx k (hz _ (.inl rfl)), h.p.kx k (hz _ (.inr (.inl rfl))), h.t.kx k (hz _ (.inr (.inr (.inl rfl)))), h.b.kx k (hz _ (.inr (.inr (.inr rfl))))⟩

theorem Own.irow {w : World} {b : Nat} {l : List Int} (h : Own w b (l.map encN)) (hl : l.length ≤ 9223372036854775807) : IRow w (some ⟨b, 0, none⟩) l := by
 refine ⟨hl, fun j x hx => ⟨b, 0, rfl, h.1.1, fun i v hv => ?_⟩⟩
 cases i with
 | succ i => simp [encI] at hv
 | zero =>
  simp only [encI, List.getElem?_cons_zero, Option.some.injEq] at hv
  subst hv
  have := h.1.2 j (.int .i64 x) (by simp [hx])
  simpa using this

theorem Se.at23 {X : Sx} {d : Dr} {w : World} (h : Se X d w) (j : Nat) (u : Value) (hu : (X.drawn d)[j]? = some u) : w.cell? ⟨X.S, 23 + j, none⟩ = some u := by
 refine h.s.1.2 (23 + j) u ?_
 have e : X.cells d = (X.room ++ (X.W.cells ++ [Value.int .i64 X.cl, Value.int .i64 X.ch])) ++ X.drawn d := by simp [Sx.cells]
 have hl : (X.room ++ (X.W.cells ++ [Value.int .i64 X.cl, Value.int .i64 X.ch])).length = 23 := rfl
 rw [e, List.getElem?_append_right (by rw [hl]; exact Nat.le_add_right 23 j), hl, Nat.add_sub_cancel_left]
 exact hu

theorem Se.at10 {X : Sx} {d : Dr} {w : World} (h : Se X d w) (j : Nat) (u : Value) (hu : X.W.cells[j]? = some u) : w.cell? ⟨X.S, 10 + j, none⟩ = some u := by
 refine h.s.1.2 (10 + j) u ?_
 have hl : X.room.length = 10 := rfl
 have hj : j < X.W.cells.length := (List.getElem?_eq_some_iff.1 hu).1
 unfold Sx.cells
 rw [List.getElem?_append_right (by rw [hl]; exact Nat.le_add_right 10 j), hl, Nat.add_sub_cancel_left, List.getElem?_append_left hj]
 exact hu

theorem Se.at0 {X : Sx} {d : Dr} {w : World} (h : Se X d w) (j : Nat) (u : Value) (hu : X.room[j]? = some u) : w.cell? ⟨X.S, 0 + j, none⟩ = some u := by
 rw [Nat.zero_add]
 refine h.s.1.2 j u ?_
 have hj : j < X.room.length := (List.getElem?_eq_some_iff.1 hu).1
 unfold Sx.cells
 rw [List.getElem?_append_left hj]
 exact hu

theorem Se.c21 {X : Sx} {d : Dr} {w : World} (h : Se X d w) : w.cell? ⟨X.S, 21, none⟩ = some (.int .i64 X.cl) := h.s.1.2 21 _ rfl

theorem Se.c22 {X : Sx} {d : Dr} {w : World} (h : Se X d w) : w.cell? ⟨X.S, 22, none⟩ = some (.int .i64 X.ch) := h.s.1.2 22 _ rfl

/-- Where a measure lies. -/
structure MeAt (X : Sx) (m : Me) (mb mo : Nat) : Prop where
 z : X.Z mb
 cell : ∀ d w, DrL d → Se X d w → (∃ u, w.cell? ⟨mb, mo, none⟩ = some u) ∧ w.frozen? ⟨mb, mo, none⟩ = false
 put : ∀ d w v, DrL d → Se X d w → Se X (d.put m v) (w.setCell ⟨mb, mo, none⟩ (.int .i64 v))

theorem MeAt.pan {X : Sx} (D : X.Dis) {i : Nat} (hi : i < 4) : MeAt X (.pan i) X.P i := by
 refine ⟨.inr (.inl rfl), fun d w hd h => ⟨?_, h.p.2 i⟩, fun d w v hd h => ⟨?_, ?_, ?_, ?_⟩⟩
 ·obtain ⟨x, hx⟩ := get_of_lt (show i < d.p.length by rw [hd.p]; exact hi)
  exact ⟨_, h.p.1.2 i (.int .i64 x) (by simp [hx])⟩
 ·exact h.s.other D.sp
 ·have := h.p.set (i := i) (v := .int .i64 v) (by simp [hd.p]; exact hi)
  rw [← List.map_set (f := encN)] at this
  exact this
 ·exact h.t.other D.pt.symm
 ·exact h.b.other D.pb.symm

theorem MeAt.top {X : Sx} (D : X.Dis) {i : Nat} (hi : i < 2) : MeAt X (.top i) X.T i := by
 refine ⟨.inr (.inr (.inl rfl)), fun d w hd h => ⟨?_, h.t.2 i⟩, fun d w v hd h => ⟨?_, ?_, ?_, ?_⟩⟩
 ·obtain ⟨x, hx⟩ := get_of_lt (show i < d.t.length by rw [hd.t]; exact hi)
  exact ⟨_, h.t.1.2 i (.int .i64 x) (by simp [hx])⟩
 ·exact h.s.other D.st
 ·exact h.p.other D.pt
 ·have := h.t.set (i := i) (v := .int .i64 v) (by simp [hd.t]; exact hi)
  rw [← List.map_set (f := encN)] at this
  exact this
 ·exact h.b.other D.tb.symm

theorem MeAt.bot {X : Sx} (D : X.Dis) {i : Nat} (hi : i < 2) : MeAt X (.bot i) X.B i := by
 refine ⟨.inr (.inr (.inr rfl)), fun d w hd h => ⟨?_, h.b.2 i⟩, fun d w v hd h => ⟨?_, ?_, ?_, ?_⟩⟩
 ·obtain ⟨x, hx⟩ := get_of_lt (show i < d.b.length by rw [hd.b]; exact hi)
  exact ⟨_, h.b.1.2 i (.int .i64 x) (by simp [hx])⟩
 ·exact h.s.other D.sb
 ·exact h.p.other D.pb
 ·exact h.t.other D.tb
 ·have := h.b.set (i := i) (v := .int .i64 v) (by simp [hd.b]; exact hi)
  rw [← List.map_set (f := encN)] at this
  exact this

theorem MeAt.hei {X : Sx} (D : X.Dis) : MeAt X .hei X.S 25 := by
 refine ⟨.inl rfl, fun d w hd h => ⟨⟨_, h.s.1.2 25 _ rfl⟩, h.s.2 25⟩, fun d w v hd h => ⟨?_, ?_, ?_, ?_⟩⟩
 ·exact h.s.set (i := 25) (v := .int .i64 v) (by show 25 < 33; omega)
 ·exact h.p.other D.sp.symm
 ·exact h.t.other D.st.symm
 ·exact h.b.other D.sb.symm

theorem MeAt.slo {X : Sx} (D : X.Dis) : MeAt X .slo X.S 28 := by
 refine ⟨.inl rfl, fun d w hd h => ⟨⟨_, h.s.1.2 28 _ rfl⟩, h.s.2 28⟩, fun d w v hd h => ⟨?_, ?_, ?_, ?_⟩⟩
 ·exact h.s.set (i := 28) (v := .int .i64 v) (by show 28 < 33; omega)
 ·exact h.p.other D.sp.symm
 ·exact h.t.other D.st.symm
 ·exact h.b.other D.sb.symm

theorem within_2 (lo hi x y : Int) (a : Option Addr) (cap : Nat) (w : World) (hr : IRow w a [x, y]) :
  Calls Try.prog 63 #[.int .i64 lo, .int .i64 hi, .slice a 2 cap] w fun e w' => e = .returned (.bool (inB lo hi [x, y])) ∧ Gr w w' := within_any lo hi [x, y] _ rfl a cap w hr

theorem holdS (X : Sx) (d : Dr) (k : Nat) (hk : k < 10) (hd : DrL d) (hK : DrK d k) (hW : X.W.ok) (w : World) (h : Se X d w) :
  Calls Try.prog 84 #[.agg #[.int .i64 X.tab, .slice (some ⟨X.P, 0, none⟩) 4 X.pc, .int .i64 d.hei, .slice (some ⟨X.T, 0, none⟩) 2 X.tc, .slice (some ⟨X.B, 0, none⟩) 2 X.bc, .int .i64 d.slo, .bool X.R.opn, .int .i64 0, .slice (some ⟨X.T, 0, none⟩) 2 X.tc, .slice (some ⟨X.B, 0, none⟩) 2 X.bc], .agg #[.int .i64 X.W.ll, .int .i64 X.W.lh, .int .i64 X.W.wl, .int .i64 X.W.wh, .int .i64 X.W.hl, .int .i64 X.W.hh, .int .i64 X.W.ol, .int .i64 X.W.oh, .int .i64 X.W.il, .int .i64 X.W.ih, .bool X.W.wo], .int .i64 k] w fun e w' => e = .returned (.agg #[.int .i64 (hL X.R.opn X.W d k).lo, .int .i64 (hL X.R.opn X.W d k).hi]) ∧ Gr w w' := by
 have hp := h.p.irow (by rw [hd.p]; decide)
 have ht := h.t.irow (by rw [hd.t]; decide)
 have hb := h.b.irow (by rw [hd.b]; decide)
 have := holding_any X.tab d.hei d.slo 0 d.p d.t d.b (some ⟨X.P, 0, none⟩) (some ⟨X.T, 0, none⟩) (some ⟨X.B, 0, none⟩) X.pc X.tc X.bc X.R.opn X.W.wo X.W.ll X.W.lh X.W.wl X.W.wh X.W.hl X.W.hh X.W.ol X.W.oh X.W.il X.W.ih k hk hK hW (by omega) (by omega) w hp ht hb
 rw [hd.p, hd.t, hd.b] at this
 exact this

set_option maxRecDepth 100000 in
set_option maxHeartbeats 4000000 in
theorem holds_any (X : Sx) (d : Dr) (k : Nat) (hk : k < 10) (hD : DrL d) (hQ : DrK d k) (hW : X.W.ok) (w : World) (hS : Se X d w) :
  Calls Try.prog 125 #[.pointer (some ⟨X.S, 0, none⟩), .int .i64 k] w fun e w' => e = .returned (.bool (okAll (hL X.R.opn X.W d k) X.cl X.ch)) ∧ Gr w w' := by
 go_enter Try.func125, Try.ntmps125
 go_upto_region 1 with fail
 refine wp_region_facts 11 [(1, 0), (2, 1), (3, 2), (5, 4), (6, 5), (7, 6), (9, 3), (9, 7), (9, 8)] (fun x => ⟨#[.pointer (some ⟨X.S, 0, none⟩), .int .i64 k, undef, undef, .bool false, x 10, x 0, x 1, x 2, x 3, x 4, x 5, x 6, x 7, x 8, x 9, undef, undef, undef, undef, undef, undef, undef, undef, undef, undef, undef, undef, undef, undef, undef, undef], []⟩) (fun _ => undef) [fun _ x => x = .pointer (some ⟨X.S, 0, none⟩), fun _ x => x = .pointer (some ⟨X.S, 0, none⟩), fun _ x => x = .pointer (some ⟨X.S, 23, none⟩), fun _ x => x = .agg #[.int .i64 X.tab, .slice (some ⟨X.P, 0, none⟩) 4 X.pc, .int .i64 d.hei, .slice (some ⟨X.T, 0, none⟩) 2 X.tc, .slice (some ⟨X.B, 0, none⟩) 2 X.bc, .int .i64 d.slo, .bool X.R.opn, .int .i64 0, .slice (some ⟨X.T, 0, none⟩) 2 X.tc, .slice (some ⟨X.B, 0, none⟩) 2 X.bc], fun _ x => x = .pointer (some ⟨X.S, 0, none⟩), fun _ x => x = .pointer (some ⟨X.S, 0, none⟩), fun _ x => x = .pointer (some ⟨X.S, 10, none⟩), fun _ x => x = .agg #[.int .i64 X.W.ll, .int .i64 X.W.lh, .int .i64 X.W.wl, .int .i64 X.W.wh, .int .i64 X.W.hl, .int .i64 X.W.hh, .int .i64 X.W.ol, .int .i64 X.W.oh, .int .i64 X.W.il, .int .i64 X.W.ih, .bool X.W.wo], fun _ x => x = .int .i64 k, fun _ x => x = .agg #[.int .i64 (hL X.R.opn X.W d k).lo, .int .i64 (hL X.R.opn X.W d k).hi], fun v x => ∃ b, x = .pointer (some ⟨b, 0, none⟩) ∧ w.heap.size ≤ b ∧ Own v b [.int .i64 0, .int .i64 0]] (by rfl) (by kernel_rfl) (by kernel_rfl) (by kernel_rfl) (stays_cons (Stays.eq _) (stays_cons (Stays.eq _) (stays_cons (Stays.eq _) (stays_cons (Stays.eq _) (stays_cons (Stays.eq _) (stays_cons (Stays.eq _) (stays_cons (Stays.eq _) (stays_cons (Stays.eq _) (stays_cons (Stays.eq _) (stays_cons (Stays.eq _) (stays_cons ((show Stays (fun v x => ∃ b, x = .pointer (some ⟨b, 0, none⟩) ∧ w.heap.size ≤ b ∧ Own v b [.int .i64 0, .int .i64 0]) from fun v v' x g ⟨b, e, h, o⟩ => ⟨b, e, h, o.keep g⟩)) stays_nil))))))))))) ?step1 ?fin1
 case step1 =>
  rintro i hi x v gv hd K hK
  have hi8 : i = 0 ∨ i = 1 ∨ i = 2 ∨ i = 3 ∨ i = 4 ∨ i = 5 ∨ i = 6 ∨ i = 7 ∨ i = 8 ∨ i = 9 ∨ i = 10 := by omega
  rcases hi8 with rfl | rfl | rfl | rfl | rfl | rfl | rfl | rfl | rfl | rfl | rfl
  ·try dsimp only [upd, Nat.reduceBEq, cond_true, cond_false]
   refine wpOp_step rfl (fun K' hK' => ?_)
   go_simp
   exact hK' _ _ (hK _ _ (Below.refl _ _) (at_of rfl (rfl)))
  ·obtain ⟨x, rfl⟩ := upd_of (show x 0 = .pointer (some ⟨X.S, 0, none⟩) from hd 0 _ (by simp) rfl)
   try dsimp only [upd, Nat.reduceBEq, cond_true, cond_false]
   refine wpOp_step rfl (fun K' hK' => ?_)
   go_simp
   exact hK' _ _ (hK _ _ (Below.refl _ _) (at_of rfl (rfl)))
  ·obtain ⟨x, rfl⟩ := upd_of (show x 1 = .pointer (some ⟨X.S, 0, none⟩) from hd 1 _ (by simp) rfl)
   try dsimp only [upd, Nat.reduceBEq, cond_true, cond_false]
   refine wpOp_step rfl (fun K' hK' => ?_)
   go_simp
   exact hK' _ _ (hK _ _ (Below.refl _ _) (at_of rfl (rfl)))
  ·obtain ⟨x, rfl⟩ := upd_of (show x 2 = .pointer (some ⟨X.S, 23, none⟩) from hd 2 _ (by simp) rfl)
   try dsimp only [upd, Nat.reduceBEq, cond_true, cond_false]
   refine wpOp_step rfl (fun K' hK' => ?_)
   rw [if_pos (by rfl)]
   refine wp_load_mid 124 _ rfl X.S 23 (by rfl) [.int .i64 X.tab, .slice (some ⟨X.P, 0, none⟩) 4 X.pc, .int .i64 d.hei, .slice (some ⟨X.T, 0, none⟩) 2 X.tc, .slice (some ⟨X.B, 0, none⟩) 2 X.bc, .int .i64 d.slo, .bool X.R.opn, .int .i64 0, .slice (some ⟨X.T, 0, none⟩) 2 X.tc, .slice (some ⟨X.B, 0, none⟩) 2 X.bc] _ (fun j u hu => (hS.gr gv).at23 j u hu) Try.underlying124 rfl (by kernel_rfl) ?_
   exact hK' _ _ (hK _ _ (Below.refl _ _) (at_of rfl (rfl)))
  ·try dsimp only [upd, Nat.reduceBEq, cond_true, cond_false]
   refine wpOp_step rfl (fun K' hK' => ?_)
   go_simp
   exact hK' _ _ (hK _ _ (Below.refl _ _) (at_of rfl (rfl)))
  ·obtain ⟨x, rfl⟩ := upd_of (show x 4 = .pointer (some ⟨X.S, 0, none⟩) from hd 4 _ (by simp) rfl)
   try dsimp only [upd, Nat.reduceBEq, cond_true, cond_false]
   refine wpOp_step rfl (fun K' hK' => ?_)
   go_simp
   exact hK' _ _ (hK _ _ (Below.refl _ _) (at_of rfl (rfl)))
  ·obtain ⟨x, rfl⟩ := upd_of (show x 5 = .pointer (some ⟨X.S, 0, none⟩) from hd 5 _ (by simp) rfl)
   try dsimp only [upd, Nat.reduceBEq, cond_true, cond_false]
   refine wpOp_step rfl (fun K' hK' => ?_)
   go_simp
   exact hK' _ _ (hK _ _ (Below.refl _ _) (at_of rfl (rfl)))
  ·obtain ⟨x, rfl⟩ := upd_of (show x 6 = .pointer (some ⟨X.S, 10, none⟩) from hd 6 _ (by simp) rfl)
   try dsimp only [upd, Nat.reduceBEq, cond_true, cond_false]
   refine wpOp_step rfl (fun K' hK' => ?_)
   rw [if_pos (by rfl)]
   refine wp_load_mid 133 _ rfl X.S 10 (by rfl) [.int .i64 X.W.ll, .int .i64 X.W.lh, .int .i64 X.W.wl, .int .i64 X.W.wh, .int .i64 X.W.hl, .int .i64 X.W.hh, .int .i64 X.W.ol, .int .i64 X.W.oh, .int .i64 X.W.il, .int .i64 X.W.ih, .bool X.W.wo] _ (fun j u hu => (hS.gr gv).at10 j u hu) Try.underlying133 rfl (by kernel_rfl) ?_
   exact hK' _ _ (hK _ _ (Below.refl _ _) (at_of rfl (rfl)))
  ·try dsimp only [upd, Nat.reduceBEq, cond_true, cond_false]
   refine wpOp_step rfl (fun K' hK' => ?_)
   go_simp
   exact hK' _ _ (hK _ _ (Below.refl _ _) (at_of rfl (rfl)))
  ·obtain ⟨x, rfl⟩ := upd_of (show x 3 = .agg #[.int .i64 X.tab, .slice (some ⟨X.P, 0, none⟩) 4 X.pc, .int .i64 d.hei, .slice (some ⟨X.T, 0, none⟩) 2 X.tc, .slice (some ⟨X.B, 0, none⟩) 2 X.bc, .int .i64 d.slo, .bool X.R.opn, .int .i64 0, .slice (some ⟨X.T, 0, none⟩) 2 X.tc, .slice (some ⟨X.B, 0, none⟩) 2 X.bc] from hd 3 _ (by simp) rfl)
   obtain ⟨x, rfl⟩ := upd_of (show x 7 = .agg #[.int .i64 X.W.ll, .int .i64 X.W.lh, .int .i64 X.W.wl, .int .i64 X.W.wh, .int .i64 X.W.hl, .int .i64 X.W.hh, .int .i64 X.W.ol, .int .i64 X.W.oh, .int .i64 X.W.il, .int .i64 X.W.ih, .bool X.W.wo] from hd 7 _ (by simp) rfl)
   obtain ⟨x, rfl⟩ := upd_of (show x 8 = .int .i64 k from hd 8 _ (by simp) rfl)
   try dsimp only [upd, Nat.reduceBEq, cond_true, cond_false]
   refine wpOp_step rfl (fun K' hK' => ?_)
   go_simp
   refine (holdS X d k hk hD hQ hW v (hS.gr gv)).mono ?_
   rintro e v' ⟨rfl, hg⟩
   exact hK' _ _ (hK _ _ hg (at_of rfl (rfl)))
  ·try dsimp only [upd, Nat.reduceBEq, cond_true, cond_false]
   refine wpOp_step rfl (fun K' hK' => ?_)
   go_simp
   have hg := Gr.al v (.cells (List.toArray [.int .i64 0, .int .i64 0]) 37)
   exact hK' _ _ (hK _ _ hg (at_of rfl (⟨v.heap.size, rfl, gv.size, Own.new v [.int .i64 0, .int .i64 0] 37 v.heap.size rfl⟩)))
 case fin1 =>
  rintro x v gv hd
  obtain ⟨x, rfl⟩ := upd_of (show x 9 = .agg #[.int .i64 (hL X.R.opn X.W d k).lo, .int .i64 (hL X.R.opn X.W d k).hi] from hd 9 _ (by omega) rfl)
  obtain ⟨b5, e10, hb5, o5⟩ := hd 10 _ (by omega) rfl
  obtain ⟨x, rfl⟩ := upd_of (show x 10 = .pointer (some ⟨b5, 0, none⟩) from e10)
  clear hd
  show wpList Try.prog _ _ (List.drop 11 _) (⟨#[_, _, _, _, _, .pointer (some ⟨b5, 0, none⟩), x 0, x 1, x 2, x 3, x 4, x 5, x 6, x 7, x 8, .agg #[.int .i64 (hL X.R.opn X.W d k).lo, .int .i64 (hL X.R.opn X.W d k).hi], _, _, _, _, _, _, _, _, _, _, _, _, _, _, _, _], []⟩ : Act) v
  simp only [List.drop_succ_cons, List.drop_zero]
  obtain ⟨u0, u1⟩ := o5.1.c2
  have z0 := o5.2 0
  have z1 := o5.2 1
  have n5 : ∀ k, X.Z k → k ≠ b5 := fun k hz => by have := hS.lt hz; omega
  go_upto_region 2 with fail
  refine wp_abs (fun U => Gr w U ∧ Own U b5 [.int .i64 (hL X.R.opn X.W d k).lo, .int .i64 (hL X.R.opn X.W d k).hi]) ⟨(gv.setCell (p := ⟨b5, 0, none⟩) hb5 _).setCell (p := ⟨b5, 1, none⟩) hb5 _, (o5.set (i := 0) (v := .int .i64 (hL X.R.opn X.W d k).lo) (by simp)).set (i := 1) (v := .int .i64 (hL X.R.opn X.W d k).hi) (by simp)⟩ ?_
  clear u0 u1 z0 z1 o5 gv n5
  rintro U ⟨gU, o5⟩
  have hU := hS.gr gU
  have q0 := o5.1.2 0 _ rfl
  have q1 := o5.1.2 1 _ rfl
  refine (show (∀ s : Nat → Value, Code.wp Try.prog _ _ ⟨#[.pointer (some ⟨X.S, 0, none⟩), .int .i64 k, undef, undef, .bool false, .pointer (some ⟨b5, 0, none⟩), s 6, s 7, s 8, s 9, s 10, s 11, s 12, s 13, s 14, s 15, undef, undef, undef, undef, undef, undef, undef, undef, undef, undef, undef, undef, undef, undef, undef, undef], []⟩ _) → _ from fun h => h ((fun l : List Value => fun i => l.getD i undef) [undef, undef, undef, undef, undef, undef, _, _, _, _, _, _, _, _, _, _])) ?_
  intro s
  refine wp_region_facts 16 [(1, 0), (3, 2), (5, 4), (6, 5), (7, 6), (8, 7), (10, 9), (11, 10), (12, 11), (13, 12), (14, 8), (14, 13), (15, 1), (15, 3), (15, 14)] (fun x => ⟨#[.pointer (some ⟨X.S, 0, none⟩), .int .i64 k, undef, undef, .bool false, .pointer (some ⟨b5, 0, none⟩), s 6, s 7, s 8, s 9, s 10, s 11, s 12, s 13, s 14, s 15, x 0, x 1, x 2, x 3, x 4, x 5, x 6, x 7, x 8, x 9, x 10, x 11, x 12, x 13, x 14, x 15], []⟩) (fun _ => undef) [fun _ x => x = .pointer (some ⟨b5, 0, none⟩), fun _ x => x = .int .i64 (hL X.R.opn X.W d k).lo, fun _ x => x = .pointer (some ⟨b5, 1, none⟩), fun _ x => x = .int .i64 (hL X.R.opn X.W d k).hi, fun _ x => x = .pointer (some ⟨X.S, 0, none⟩), fun _ x => x = .pointer (some ⟨X.S, 0, none⟩), fun _ x => x = .pointer (some ⟨X.S, 21, none⟩), fun _ x => x = .pointer (some ⟨X.S, 21, none⟩), fun _ x => x = .int .i64 X.cl, fun _ x => x = .pointer (some ⟨X.S, 0, none⟩), fun _ x => x = .pointer (some ⟨X.S, 0, none⟩), fun _ x => x = .pointer (some ⟨X.S, 21, none⟩), fun _ x => x = .pointer (some ⟨X.S, 22, none⟩), fun _ x => x = .int .i64 X.ch, fun v x => ∃ a, x = .slice a 2 2 ∧ IRow v a [X.cl, X.ch], fun _ x => x = .bool (okAll (hL X.R.opn X.W d k) X.cl X.ch)] (by rfl) (by kernel_rfl) (by kernel_rfl) (by kernel_rfl) (stays_cons (Stays.eq _) (stays_cons (Stays.eq _) (stays_cons (Stays.eq _) (stays_cons (Stays.eq _) (stays_cons (Stays.eq _) (stays_cons (Stays.eq _) (stays_cons (Stays.eq _) (stays_cons (Stays.eq _) (stays_cons (Stays.eq _) (stays_cons (Stays.eq _) (stays_cons (Stays.eq _) (stays_cons (Stays.eq _) (stays_cons (Stays.eq _) (stays_cons (Stays.eq _) (stays_cons ((show Stays (fun v x => ∃ a, x = .slice a 2 2 ∧ IRow v a [X.cl, X.ch]) from fun v v' x g ⟨a, e, r⟩ => ⟨a, e, r.grow g⟩)) (stays_cons (Stays.eq _) stays_nil)))))))))))))))) ?step2 ?fin2
  case step2 =>
   rintro i hi x v gv hd K hK
   have hi8 : i = 0 ∨ i = 1 ∨ i = 2 ∨ i = 3 ∨ i = 4 ∨ i = 5 ∨ i = 6 ∨ i = 7 ∨ i = 8 ∨ i = 9 ∨ i = 10 ∨ i = 11 ∨ i = 12 ∨ i = 13 ∨ i = 14 ∨ i = 15 := by omega
   rcases hi8 with rfl | rfl | rfl | rfl | rfl | rfl | rfl | rfl | rfl | rfl | rfl | rfl | rfl | rfl | rfl | rfl
   ·try dsimp only [upd, Nat.reduceBEq, cond_true, cond_false]
    refine wpOp_step rfl (fun K' hK' => ?_)
    go_simp
    exact hK' _ _ (hK _ _ (Below.refl _ _) (at_of rfl (rfl)))
   ·obtain ⟨x, rfl⟩ := upd_of (show x 0 = .pointer (some ⟨b5, 0, none⟩) from hd 0 _ (by simp) rfl)
    try dsimp only [upd, Nat.reduceBEq, cond_true, cond_false]
    refine wpOp_step rfl (fun K' hK' => ?_)
    have q := gv.keep q0
    go_simp
    exact hK' _ _ (hK _ _ (Below.refl _ _) (at_of rfl (rfl)))
   ·try dsimp only [upd, Nat.reduceBEq, cond_true, cond_false]
    refine wpOp_step rfl (fun K' hK' => ?_)
    go_simp
    exact hK' _ _ (hK _ _ (Below.refl _ _) (at_of rfl (rfl)))
   ·obtain ⟨x, rfl⟩ := upd_of (show x 2 = .pointer (some ⟨b5, 1, none⟩) from hd 2 _ (by simp) rfl)
    try dsimp only [upd, Nat.reduceBEq, cond_true, cond_false]
    refine wpOp_step rfl (fun K' hK' => ?_)
    have q := gv.keep q1
    go_simp
    exact hK' _ _ (hK _ _ (Below.refl _ _) (at_of rfl (rfl)))
   ·try dsimp only [upd, Nat.reduceBEq, cond_true, cond_false]
    refine wpOp_step rfl (fun K' hK' => ?_)
    go_simp
    exact hK' _ _ (hK _ _ (Below.refl _ _) (at_of rfl (rfl)))
   ·obtain ⟨x, rfl⟩ := upd_of (show x 4 = .pointer (some ⟨X.S, 0, none⟩) from hd 4 _ (by simp) rfl)
    try dsimp only [upd, Nat.reduceBEq, cond_true, cond_false]
    refine wpOp_step rfl (fun K' hK' => ?_)
    go_simp
    exact hK' _ _ (hK _ _ (Below.refl _ _) (at_of rfl (rfl)))
   ·obtain ⟨x, rfl⟩ := upd_of (show x 5 = .pointer (some ⟨X.S, 0, none⟩) from hd 5 _ (by simp) rfl)
    try dsimp only [upd, Nat.reduceBEq, cond_true, cond_false]
    refine wpOp_step rfl (fun K' hK' => ?_)
    go_simp
    exact hK' _ _ (hK _ _ (Below.refl _ _) (at_of rfl (rfl)))
   ·obtain ⟨x, rfl⟩ := upd_of (show x 6 = .pointer (some ⟨X.S, 21, none⟩) from hd 6 _ (by simp) rfl)
    try dsimp only [upd, Nat.reduceBEq, cond_true, cond_false]
    refine wpOp_step rfl (fun K' hK' => ?_)
    go_simp
    exact hK' _ _ (hK _ _ (Below.refl _ _) (at_of rfl (rfl)))
   ·obtain ⟨x, rfl⟩ := upd_of (show x 7 = .pointer (some ⟨X.S, 21, none⟩) from hd 7 _ (by simp) rfl)
    try dsimp only [upd, Nat.reduceBEq, cond_true, cond_false]
    refine wpOp_step rfl (fun K' hK' => ?_)
    have q := gv.keep hU.c21
    go_simp
    exact hK' _ _ (hK _ _ (Below.refl _ _) (at_of rfl (rfl)))
   ·try dsimp only [upd, Nat.reduceBEq, cond_true, cond_false]
    refine wpOp_step rfl (fun K' hK' => ?_)
    go_simp
    exact hK' _ _ (hK _ _ (Below.refl _ _) (at_of rfl (rfl)))
   ·obtain ⟨x, rfl⟩ := upd_of (show x 9 = .pointer (some ⟨X.S, 0, none⟩) from hd 9 _ (by simp) rfl)
    try dsimp only [upd, Nat.reduceBEq, cond_true, cond_false]
    refine wpOp_step rfl (fun K' hK' => ?_)
    go_simp
    exact hK' _ _ (hK _ _ (Below.refl _ _) (at_of rfl (rfl)))
   ·obtain ⟨x, rfl⟩ := upd_of (show x 10 = .pointer (some ⟨X.S, 0, none⟩) from hd 10 _ (by simp) rfl)
    try dsimp only [upd, Nat.reduceBEq, cond_true, cond_false]
    refine wpOp_step rfl (fun K' hK' => ?_)
    go_simp
    exact hK' _ _ (hK _ _ (Below.refl _ _) (at_of rfl (rfl)))
   ·obtain ⟨x, rfl⟩ := upd_of (show x 11 = .pointer (some ⟨X.S, 21, none⟩) from hd 11 _ (by simp) rfl)
    try dsimp only [upd, Nat.reduceBEq, cond_true, cond_false]
    refine wpOp_step rfl (fun K' hK' => ?_)
    go_simp
    exact hK' _ _ (hK _ _ (Below.refl _ _) (at_of rfl (rfl)))
   ·obtain ⟨x, rfl⟩ := upd_of (show x 12 = .pointer (some ⟨X.S, 22, none⟩) from hd 12 _ (by simp) rfl)
    try dsimp only [upd, Nat.reduceBEq, cond_true, cond_false]
    refine wpOp_step rfl (fun K' hK' => ?_)
    have q := gv.keep hU.c22
    go_simp
    exact hK' _ _ (hK _ _ (Below.refl _ _) (at_of rfl (rfl)))
   ·obtain ⟨x, rfl⟩ := upd_of (show x 8 = .int .i64 X.cl from hd 8 _ (by simp) rfl)
    obtain ⟨x, rfl⟩ := upd_of (show x 13 = .int .i64 X.ch from hd 13 _ (by simp) rfl)
    try dsimp only [upd, Nat.reduceBEq, cond_true, cond_false]
    refine wpOp_step rfl (fun K' hK' => ?_)
    go_simp
    have hg := Gr.al v (.cells (List.toArray [.int .i64 X.cl, .int .i64 X.ch]) 3)
    exact hK' _ _ (hK _ _ hg (at_of rfl (⟨_, rfl, IRow.new' v 3 [X.cl, X.ch] (by simp) v.heap.size rfl _ (by rfl)⟩)))
   ·obtain ⟨x, rfl⟩ := upd_of (show x 1 = .int .i64 (hL X.R.opn X.W d k).lo from hd 1 _ (by simp) rfl)
    obtain ⟨x, rfl⟩ := upd_of (show x 3 = .int .i64 (hL X.R.opn X.W d k).hi from hd 3 _ (by simp) rfl)
    obtain ⟨a14, e14, r14⟩ := hd 14 _ (by simp) rfl
    obtain ⟨x, rfl⟩ := upd_of (show x 14 = .slice a14 2 2 from e14)
    try dsimp only [upd, Nat.reduceBEq, cond_true, cond_false]
    refine wpOp_step rfl (fun K' hK' => ?_)
    go_simp
    refine (within_2 (hL X.R.opn X.W d k).lo (hL X.R.opn X.W d k).hi X.cl X.ch a14 2 v r14).mono ?_
    rintro e v' ⟨rfl, hg⟩
    exact hK' _ _ (hK _ _ hg (at_of rfl (rfl)))
  case fin2 =>
   rintro x v gv hd
   obtain ⟨x, rfl⟩ := upd_of (show x 15 = .bool (okAll (hL X.R.opn X.W d k) X.cl X.ch) from hd 15 _ (by omega) rfl)
   clear hd
   show wpList Try.prog _ _ (List.drop 16 _) (⟨#[_, _, _, _, _, _, _, _, _, _, _, _, _, _, _, _, x 0, x 1, x 2, x 3, x 4, x 5, x 6, x 7, x 8, x 9, x 10, x 11, x 12, x 13, x 14, .bool (okAll (hL X.R.opn X.W d k) X.cl X.ch)], []⟩ : Act) v
   simp only [List.drop_succ_cons, List.drop_zero]
   go_wp2
   go_ret
   exact ⟨rfl, gU.tr gv⟩

set_option maxRecDepth 100000 in
set_option maxHeartbeats 2000000 in
theorem rise1_any (X : Sx) (d : Dr) (s : Sp) (gb : Nat) (w : World) (hS : Se X d w) (hg : w.cell? ⟨gb, 0, none⟩ = some (.pointer (some ⟨X.S, 0, none⟩))) :
  Calls Try.prog 128 #[.agg #[.int .i64 s.lo, .int .i64 s.hi], .pointer (some ⟨gb, 0, none⟩)] w fun e w' => e = .returned (.bool (riseE X.ch s)) ∧ Gr w w' := by
 have g0 := Gr.al w (.cells #[.int .i64 s.lo, .int .i64 s.hi] 37)
 have b0 := Box.new w [.int .i64 s.lo, .int .i64 s.hi] 37 w.heap.size rfl
 have HS := hS.gr g0
 have hg' := g0.keep hg
 go_enter Try.func128, Try.ntmps128
 go_upto_region 1 with fail
 refine wp_abs (fun U => Gr w U ∧ Box U w.heap.size [.int .i64 s.lo, .int .i64 s.hi] ∧ Se X d U ∧ U.cell? ⟨gb, 0, none⟩ = some (.pointer (some ⟨X.S, 0, none⟩))) ⟨g0, b0, HS, hg'⟩ ?_
 clear g0 b0 HS hg' hS hg
 rintro U ⟨g0, b0, hS, hg⟩
 have q := b0.2 1 _ rfl
 refine wp_region_facts 8 [(1, 0), (3, 2), (4, 3), (5, 4), (6, 5), (7, 1), (7, 6)] (fun x => ⟨#[.agg #[.int .i64 s.lo, .int .i64 s.hi], .pointer (some ⟨gb, 0, none⟩), .pointer (some ⟨w.heap.size, 0, none⟩), .bool false, x 0, x 1, x 2, x 3, x 4, x 5, x 6, x 7], []⟩) (fun _ => undef) [fun _ x => x = .pointer (some ⟨w.heap.size, 1, none⟩), fun _ x => x = .int .i64 s.hi, fun _ x => x = .pointer (some ⟨X.S, 0, none⟩), fun _ x => x = .pointer (some ⟨X.S, 0, none⟩), fun _ x => x = .pointer (some ⟨X.S, 21, none⟩), fun _ x => x = .pointer (some ⟨X.S, 22, none⟩), fun _ x => x = .int .i64 X.ch, fun _ x => x = .bool (decide (X.ch ≤ s.hi))] (by rfl) (by kernel_rfl) (by kernel_rfl) (by kernel_rfl) (stays_cons (Stays.eq _) (stays_cons (Stays.eq _) (stays_cons (Stays.eq _) (stays_cons (Stays.eq _) (stays_cons (Stays.eq _) (stays_cons (Stays.eq _) (stays_cons (Stays.eq _) (stays_cons (Stays.eq _) stays_nil)))))))) ?step1 ?fin1
 case step1 =>
  rintro i hi x v gv hd K hK
  have hi8 : i = 0 ∨ i = 1 ∨ i = 2 ∨ i = 3 ∨ i = 4 ∨ i = 5 ∨ i = 6 ∨ i = 7 := by omega
  rcases hi8 with rfl | rfl | rfl | rfl | rfl | rfl | rfl | rfl
  ·try dsimp only [upd, Nat.reduceBEq, cond_true, cond_false]
   refine wpOp_step rfl (fun K' hK' => ?_)
   go_simp
   exact hK' _ _ (hK _ _ (Below.refl _ _) (at_of rfl (rfl)))
  ·obtain ⟨x, rfl⟩ := upd_of (show x 0 = .pointer (some ⟨w.heap.size, 1, none⟩) from hd 0 _ (by simp) rfl)
   try dsimp only [upd, Nat.reduceBEq, cond_true, cond_false]
   refine wpOp_step rfl (fun K' hK' => ?_)
   have q := gv.keep q
   go_simp
   exact hK' _ _ (hK _ _ (Below.refl _ _) (at_of rfl (rfl)))
  ·try dsimp only [upd, Nat.reduceBEq, cond_true, cond_false]
   refine wpOp_step rfl (fun K' hK' => ?_)
   have q := gv.keep hg
   go_simp
   exact hK' _ _ (hK _ _ (Below.refl _ _) (at_of rfl (rfl)))
  ·obtain ⟨x, rfl⟩ := upd_of (show x 2 = .pointer (some ⟨X.S, 0, none⟩) from hd 2 _ (by simp) rfl)
   try dsimp only [upd, Nat.reduceBEq, cond_true, cond_false]
   refine wpOp_step rfl (fun K' hK' => ?_)
   go_simp
   exact hK' _ _ (hK _ _ (Below.refl _ _) (at_of rfl (rfl)))
  ·obtain ⟨x, rfl⟩ := upd_of (show x 3 = .pointer (some ⟨X.S, 0, none⟩) from hd 3 _ (by simp) rfl)
   try dsimp only [upd, Nat.reduceBEq, cond_true, cond_false]
   refine wpOp_step rfl (fun K' hK' => ?_)
   go_simp
   exact hK' _ _ (hK _ _ (Below.refl _ _) (at_of rfl (rfl)))
  ·obtain ⟨x, rfl⟩ := upd_of (show x 4 = .pointer (some ⟨X.S, 21, none⟩) from hd 4 _ (by simp) rfl)
   try dsimp only [upd, Nat.reduceBEq, cond_true, cond_false]
   refine wpOp_step rfl (fun K' hK' => ?_)
   go_simp
   exact hK' _ _ (hK _ _ (Below.refl _ _) (at_of rfl (rfl)))
  ·obtain ⟨x, rfl⟩ := upd_of (show x 5 = .pointer (some ⟨X.S, 22, none⟩) from hd 5 _ (by simp) rfl)
   try dsimp only [upd, Nat.reduceBEq, cond_true, cond_false]
   refine wpOp_step rfl (fun K' hK' => ?_)
   have q := gv.keep hS.c22
   go_simp
   exact hK' _ _ (hK _ _ (Below.refl _ _) (at_of rfl (rfl)))
  ·obtain ⟨x, rfl⟩ := upd_of (show x 1 = .int .i64 s.hi from hd 1 _ (by simp) rfl)
   obtain ⟨x, rfl⟩ := upd_of (show x 6 = .int .i64 X.ch from hd 6 _ (by simp) rfl)
   try dsimp only [upd, Nat.reduceBEq, cond_true, cond_false]
   refine wpOp_step rfl (fun K' hK' => ?_)
   go_simp
   exact hK' _ _ (hK _ _ (Below.refl _ _) (at_of rfl (rfl)))
 case fin1 =>
  rintro x v gv hd
  obtain ⟨x, rfl⟩ := upd_of (show x 7 = .bool (decide (X.ch ≤ s.hi)) from hd 7 _ (by omega) rfl)
  clear hd
  show wpList Try.prog _ _ (List.drop 8 _) (⟨#[_, _, _, _, x 0, x 1, x 2, x 3, x 4, x 5, x 6, .bool (decide (X.ch ≤ s.hi))], []⟩ : Act) v
  simp only [List.drop_succ_cons, List.drop_zero]
  go_wp2
  go_ret
  exact ⟨rfl, g0.tr gv⟩

set_option maxRecDepth 100000 in
set_option maxHeartbeats 2000000 in
theorem fall1_any (X : Sx) (d : Dr) (s : Sp) (gb : Nat) (w : World) (hS : Se X d w) (hg : w.cell? ⟨gb, 0, none⟩ = some (.pointer (some ⟨X.S, 0, none⟩))) :
  Calls Try.prog 162 #[.agg #[.int .i64 s.lo, .int .i64 s.hi], .pointer (some ⟨gb, 0, none⟩)] w fun e w' => e = .returned (.bool (fallE X.cl s)) ∧ Gr w w' := by
 have g0 := Gr.al w (.cells #[.int .i64 s.lo, .int .i64 s.hi] 37)
 have b0 := Box.new w [.int .i64 s.lo, .int .i64 s.hi] 37 w.heap.size rfl
 have HS := hS.gr g0
 have hg' := g0.keep hg
 go_enter Try.func162, Try.ntmps162
 go_upto_region 1 with fail
 refine wp_abs (fun U => Gr w U ∧ Box U w.heap.size [.int .i64 s.lo, .int .i64 s.hi] ∧ Se X d U ∧ U.cell? ⟨gb, 0, none⟩ = some (.pointer (some ⟨X.S, 0, none⟩))) ⟨g0, b0, HS, hg'⟩ ?_
 clear g0 b0 HS hg' hS hg
 rintro U ⟨g0, b0, hS, hg⟩
 have q := b0.2 0 _ rfl
 refine wp_region_facts 8 [(1, 0), (3, 2), (4, 3), (5, 4), (6, 5), (7, 1), (7, 6)] (fun x => ⟨#[.agg #[.int .i64 s.lo, .int .i64 s.hi], .pointer (some ⟨gb, 0, none⟩), .pointer (some ⟨w.heap.size, 0, none⟩), .bool false, x 0, x 1, x 2, x 3, x 4, x 5, x 6, x 7], []⟩) (fun _ => undef) [fun _ x => x = .pointer (some ⟨w.heap.size, 0, none⟩), fun _ x => x = .int .i64 s.lo, fun _ x => x = .pointer (some ⟨X.S, 0, none⟩), fun _ x => x = .pointer (some ⟨X.S, 0, none⟩), fun _ x => x = .pointer (some ⟨X.S, 21, none⟩), fun _ x => x = .pointer (some ⟨X.S, 21, none⟩), fun _ x => x = .int .i64 X.cl, fun _ x => x = .bool (decide (s.lo ≤ X.cl))] (by rfl) (by kernel_rfl) (by kernel_rfl) (by kernel_rfl) (stays_cons (Stays.eq _) (stays_cons (Stays.eq _) (stays_cons (Stays.eq _) (stays_cons (Stays.eq _) (stays_cons (Stays.eq _) (stays_cons (Stays.eq _) (stays_cons (Stays.eq _) (stays_cons (Stays.eq _) stays_nil)))))))) ?step1 ?fin1
 case step1 =>
  rintro i hi x v gv hd K hK
  have hi8 : i = 0 ∨ i = 1 ∨ i = 2 ∨ i = 3 ∨ i = 4 ∨ i = 5 ∨ i = 6 ∨ i = 7 := by omega
  rcases hi8 with rfl | rfl | rfl | rfl | rfl | rfl | rfl | rfl
  ·try dsimp only [upd, Nat.reduceBEq, cond_true, cond_false]
   refine wpOp_step rfl (fun K' hK' => ?_)
   go_simp
   exact hK' _ _ (hK _ _ (Below.refl _ _) (at_of rfl (rfl)))
  ·obtain ⟨x, rfl⟩ := upd_of (show x 0 = .pointer (some ⟨w.heap.size, 0, none⟩) from hd 0 _ (by simp) rfl)
   try dsimp only [upd, Nat.reduceBEq, cond_true, cond_false]
   refine wpOp_step rfl (fun K' hK' => ?_)
   have q := gv.keep q
   go_simp
   exact hK' _ _ (hK _ _ (Below.refl _ _) (at_of rfl (rfl)))
  ·try dsimp only [upd, Nat.reduceBEq, cond_true, cond_false]
   refine wpOp_step rfl (fun K' hK' => ?_)
   have q := gv.keep hg
   go_simp
   exact hK' _ _ (hK _ _ (Below.refl _ _) (at_of rfl (rfl)))
  ·obtain ⟨x, rfl⟩ := upd_of (show x 2 = .pointer (some ⟨X.S, 0, none⟩) from hd 2 _ (by simp) rfl)
   try dsimp only [upd, Nat.reduceBEq, cond_true, cond_false]
   refine wpOp_step rfl (fun K' hK' => ?_)
   go_simp
   exact hK' _ _ (hK _ _ (Below.refl _ _) (at_of rfl (rfl)))
  ·obtain ⟨x, rfl⟩ := upd_of (show x 3 = .pointer (some ⟨X.S, 0, none⟩) from hd 3 _ (by simp) rfl)
   try dsimp only [upd, Nat.reduceBEq, cond_true, cond_false]
   refine wpOp_step rfl (fun K' hK' => ?_)
   go_simp
   exact hK' _ _ (hK _ _ (Below.refl _ _) (at_of rfl (rfl)))
  ·obtain ⟨x, rfl⟩ := upd_of (show x 4 = .pointer (some ⟨X.S, 21, none⟩) from hd 4 _ (by simp) rfl)
   try dsimp only [upd, Nat.reduceBEq, cond_true, cond_false]
   refine wpOp_step rfl (fun K' hK' => ?_)
   go_simp
   exact hK' _ _ (hK _ _ (Below.refl _ _) (at_of rfl (rfl)))
  ·obtain ⟨x, rfl⟩ := upd_of (show x 5 = .pointer (some ⟨X.S, 21, none⟩) from hd 5 _ (by simp) rfl)
   try dsimp only [upd, Nat.reduceBEq, cond_true, cond_false]
   refine wpOp_step rfl (fun K' hK' => ?_)
   have q := gv.keep hS.c21
   go_simp
   exact hK' _ _ (hK _ _ (Below.refl _ _) (at_of rfl (rfl)))
  ·obtain ⟨x, rfl⟩ := upd_of (show x 1 = .int .i64 s.lo from hd 1 _ (by simp) rfl)
   obtain ⟨x, rfl⟩ := upd_of (show x 6 = .int .i64 X.cl from hd 6 _ (by simp) rfl)
   try dsimp only [upd, Nat.reduceBEq, cond_true, cond_false]
   refine wpOp_step rfl (fun K' hK' => ?_)
   go_simp
   exact hK' _ _ (hK _ _ (Below.refl _ _) (at_of rfl (rfl)))
 case fin1 =>
  rintro x v gv hd
  obtain ⟨x, rfl⟩ := upd_of (show x 7 = .bool (decide (s.lo ≤ X.cl)) from hd 7 _ (by omega) rfl)
  clear hd
  show wpList Try.prog _ _ (List.drop 8 _) (⟨#[_, _, _, _, x 0, x 1, x 2, x 3, x 4, x 5, x 6, .bool (decide (s.lo ≤ X.cl))], []⟩ : Act) v
  simp only [List.drop_succ_cons, List.drop_zero]
  go_wp2
  go_ret
  exact ⟨rfl, g0.tr gv⟩

/-- What draw keeps for its function. -/
structure DrBox (X : Sx) (k : Nat) (room : Sp) (mb mo : Nat) (g gb : Nat) (b5 : Nat) (w : World) : Prop where
 s : Box w b5 [.pointer (some ⟨X.S, 0, none⟩)]
 c : Box w (b5 + 1) [.int .i64 k]
 r : Box w (b5 + 1 + 1) [.int .i64 room.lo, .int .i64 room.hi]
 m : Box w (b5 + 1 + 1 + 1) [.pointer (some ⟨mb, mo, none⟩)]
 e : Box w (b5 + 1 + 1 + 1 + 1) [.func (.func g) #[] #[.pointer (some ⟨gb, 0, none⟩)]]

theorem Box.kx {Z : Nat → Prop} {w w' : World} {b : Nat} {vs : List Value} (h : Box w b vs) (k : Kx Z w w') (hz : ¬ Z b) : Box w' b vs := by
 have hb := k.block b h.1 hz
 exact ⟨Nat.lt_of_lt_of_le h.1 k.size, fun i v hv => (World.cell?_of_block (w := w) (a := ⟨b, i, none⟩) hb).trans (h.2 i v hv)⟩

theorem DrBox.kx {X : Sx} {k : Nat} {room : Sp} {mb mo g gb b5 : Nat} {w w' : World} (h : DrBox X k room mb mo g gb b5 w) (hk : Kx X.Z w w') (hz : ∀ i, X.Z i → i < b5) : DrBox X k room mb mo g gb b5 w' :=
 ⟨h.s.kx hk (fun e => by have := hz _ e; omega), h.c.kx hk (fun e => by have := hz _ e; omega), h.r.kx hk (fun e => by have := hz _ e; omega), h.m.kx hk (fun e => by have := hz _ e; omega), h.e.kx hk (fun e => by have := hz _ e; omega)⟩

set_option maxRecDepth 100000 in
set_option maxHeartbeats 4000000 in
theorem draw1_any (X : Sx) (d : Dr) (m : Me) (mb mo : Nat) (hM : MeAt X m mb mo) (k : Nat) (hk : k < 10) (room : Sp) (r0 : 0 ≤ room.lo) (r2 : room.hi ≤ 3000) (en : Sp → Bool) (g gb b5 : Nat) (hd : DrL d) (hW : X.W.ok) (h : Int) (h0 : 0 ≤ h) (h1 : h < room.hi - room.lo + 1)
  (hKk : DrK (d.put m (room.lo + h)) k) (hcall : ∀ (args : Array Value) (W : World), (callFunc g args).run Try.prog W = .ok (.enter g args) W) (w : World) (hS : Se X d w) (hB : DrBox X k room mb mo g gb b5 w) (hz : ∀ i, X.Z i → i < b5)
  (hen : ∀ (s : Sp) W, Se X (d.put m (room.lo + h)) W → Kx X.Z w W → Calls Try.prog g #[.agg #[.int .i64 s.lo, .int .i64 s.hi], .pointer (some ⟨gb, 0, none⟩)] W fun e W' => e = .returned (.bool (en s)) ∧ Gr W W') :
  Calls Try.prog 145 #[.int .i64 h, .pointer (some ⟨(b5 + 1 + 1), 0, none⟩), .pointer (some ⟨(b5 + 1 + 1 + 1), 0, none⟩), .pointer (some ⟨(b5 + 1 + 1 + 1 + 1), 0, none⟩), .pointer (some ⟨b5, 0, none⟩), .pointer (some ⟨(b5 + 1), 0, none⟩)] w fun e w' => e = .returned (.bool (en (hL X.R.opn X.W (d.put m (room.lo + h)) k))) ∧ Se X (d.put m (room.lo + h)) w' ∧ Kx X.Z w w' := by
 have q8 := hB.m.c1
 obtain ⟨q7, q7'⟩ := hB.r.c2
 have v0 : IntKind.i64.wrap (room.lo + h) = room.lo + h := IntWalk.i64_in _ (by omega)
 obtain ⟨⟨u, hu⟩, hfr⟩ := hM.cell d w hd hS
 go_enter Try.func145, Try.ntmps145
 go_upto_region 2 with fail
 have k1 : Kx X.Z w (w.setCell ⟨mb, mo, none⟩ (.int .i64 (room.lo + h))) := Kx.set (p := ⟨mb, mo, none⟩) hM.z _
 refine wp_abs (fun U => Kx X.Z w U ∧ Se X (d.put m (room.lo + h)) U ∧ DrBox X k room mb mo g gb b5 U) ⟨k1, hM.put d w _ hd hS, hB.kx k1 hz⟩ ?_
 clear q8 q7 q7' hu hfr k1 hS hB
 rintro U ⟨kU, hS, hB⟩
 have hd2 : DrL (d.put m (room.lo + h)) := hd.put m _
 have p3 := hB.e.c1
 have p4 := hB.s.c1
 have p5 := hB.c.c1
 obtain ⟨d2, e2⟩ : ∃ d2, d2 = (d.put m (room.lo + h)) := ⟨_, rfl⟩
 rw [← e2] at hS hd2 hKk hen
 have E2 := Lib.hid e2
 clear e2
 refine (show (∀ s : Nat → Value, Code.wp Try.prog _ _ ⟨#[.int .i64 h, .pointer (some ⟨(b5 + 1 + 1), 0, none⟩), .pointer (some ⟨(b5 + 1 + 1 + 1), 0, none⟩), .pointer (some ⟨(b5 + 1 + 1 + 1 + 1), 0, none⟩), .pointer (some ⟨b5, 0, none⟩), .pointer (some ⟨(b5 + 1), 0, none⟩), undef, .bool false, s 8, s 9, s 10, s 11, s 12, s 13, undef, undef, undef, undef, undef, undef, undef, undef, undef, undef, undef, undef], []⟩ _) → _ from fun h => h ((fun l : List Value => fun i => l.getD i undef) [undef, undef, undef, undef, undef, undef, undef, undef, _, _, _, _, _, _])) ?_
 intro s
 refine wp_region_facts 12 [(2, 1), (3, 2), (4, 3), (6, 5), (7, 6), (8, 7), (10, 4), (10, 8), (10, 9), (11, 0), (11, 10)] (fun x => ⟨#[.int .i64 h, .pointer (some ⟨(b5 + 1 + 1), 0, none⟩), .pointer (some ⟨(b5 + 1 + 1 + 1), 0, none⟩), .pointer (some ⟨(b5 + 1 + 1 + 1 + 1), 0, none⟩), .pointer (some ⟨b5, 0, none⟩), .pointer (some ⟨(b5 + 1), 0, none⟩), undef, .bool false, s 8, s 9, s 10, s 11, s 12, s 13, x 0, x 1, x 2, x 3, x 4, x 5, x 6, x 7, x 8, x 9, x 10, x 11], []⟩) (fun _ => undef) [fun _ x => x = .func (.func g) #[] #[.pointer (some ⟨gb, 0, none⟩)], fun _ x => x = .pointer (some ⟨X.S, 0, none⟩), fun _ x => x = .pointer (some ⟨X.S, 0, none⟩), fun _ x => x = .pointer (some ⟨X.S, 23, none⟩), fun _ x => x = .agg #[.int .i64 X.tab, .slice (some ⟨X.P, 0, none⟩) 4 X.pc, .int .i64 d2.hei, .slice (some ⟨X.T, 0, none⟩) 2 X.tc, .slice (some ⟨X.B, 0, none⟩) 2 X.bc, .int .i64 d2.slo, .bool X.R.opn, .int .i64 0, .slice (some ⟨X.T, 0, none⟩) 2 X.tc, .slice (some ⟨X.B, 0, none⟩) 2 X.bc], fun _ x => x = .pointer (some ⟨X.S, 0, none⟩), fun _ x => x = .pointer (some ⟨X.S, 0, none⟩), fun _ x => x = .pointer (some ⟨X.S, 10, none⟩), fun _ x => x = .agg #[.int .i64 X.W.ll, .int .i64 X.W.lh, .int .i64 X.W.wl, .int .i64 X.W.wh, .int .i64 X.W.hl, .int .i64 X.W.hh, .int .i64 X.W.ol, .int .i64 X.W.oh, .int .i64 X.W.il, .int .i64 X.W.ih, .bool X.W.wo], fun _ x => x = .int .i64 k, fun _ x => x = .agg #[.int .i64 (hL X.R.opn X.W d2 k).lo, .int .i64 (hL X.R.opn X.W d2 k).hi], fun _ x => x = .bool (en (hL X.R.opn X.W d2 k))] (by rfl) (by kernel_rfl) (by kernel_rfl) (by kernel_rfl) (stays_cons (Stays.eq _) (stays_cons (Stays.eq _) (stays_cons (Stays.eq _) (stays_cons (Stays.eq _) (stays_cons (Stays.eq _) (stays_cons (Stays.eq _) (stays_cons (Stays.eq _) (stays_cons (Stays.eq _) (stays_cons (Stays.eq _) (stays_cons (Stays.eq _) (stays_cons (Stays.eq _) (stays_cons (Stays.eq _) stays_nil)))))))))))) ?step2 ?fin2
 case step2 =>
  rintro i hi x v gv hd K hK
  have hi8 : i = 0 ∨ i = 1 ∨ i = 2 ∨ i = 3 ∨ i = 4 ∨ i = 5 ∨ i = 6 ∨ i = 7 ∨ i = 8 ∨ i = 9 ∨ i = 10 ∨ i = 11 := by omega
  rcases hi8 with rfl | rfl | rfl | rfl | rfl | rfl | rfl | rfl | rfl | rfl | rfl | rfl
  ·try dsimp only [upd, Nat.reduceBEq, cond_true, cond_false]
   refine wpOp_step rfl (fun K' hK' => ?_)
   have q := gv.keep p3
   go_simp
   exact hK' _ _ (hK _ _ (Below.refl _ _) (at_of rfl (rfl)))
  ·try dsimp only [upd, Nat.reduceBEq, cond_true, cond_false]
   refine wpOp_step rfl (fun K' hK' => ?_)
   have q := gv.keep p4
   go_simp
   exact hK' _ _ (hK _ _ (Below.refl _ _) (at_of rfl (rfl)))
  ·obtain ⟨x, rfl⟩ := upd_of (show x 1 = .pointer (some ⟨X.S, 0, none⟩) from hd 1 _ (by simp) rfl)
   try dsimp only [upd, Nat.reduceBEq, cond_true, cond_false]
   refine wpOp_step rfl (fun K' hK' => ?_)
   go_simp
   exact hK' _ _ (hK _ _ (Below.refl _ _) (at_of rfl (rfl)))
  ·obtain ⟨x, rfl⟩ := upd_of (show x 2 = .pointer (some ⟨X.S, 0, none⟩) from hd 2 _ (by simp) rfl)
   try dsimp only [upd, Nat.reduceBEq, cond_true, cond_false]
   refine wpOp_step rfl (fun K' hK' => ?_)
   go_simp
   exact hK' _ _ (hK _ _ (Below.refl _ _) (at_of rfl (rfl)))
  ·obtain ⟨x, rfl⟩ := upd_of (show x 3 = .pointer (some ⟨X.S, 23, none⟩) from hd 3 _ (by simp) rfl)
   try dsimp only [upd, Nat.reduceBEq, cond_true, cond_false]
   refine wpOp_step rfl (fun K' hK' => ?_)
   rw [if_pos (by rfl)]
   refine wp_load_mid 124 _ rfl X.S 23 (by rfl) [.int .i64 X.tab, .slice (some ⟨X.P, 0, none⟩) 4 X.pc, .int .i64 d2.hei, .slice (some ⟨X.T, 0, none⟩) 2 X.tc, .slice (some ⟨X.B, 0, none⟩) 2 X.bc, .int .i64 d2.slo, .bool X.R.opn, .int .i64 0, .slice (some ⟨X.T, 0, none⟩) 2 X.tc, .slice (some ⟨X.B, 0, none⟩) 2 X.bc] _ (fun j u hu => (hS.gr gv).at23 j u hu) Try.underlying124 rfl (by kernel_rfl) ?_
   exact hK' _ _ (hK _ _ (Below.refl _ _) (at_of rfl (rfl)))
  ·try dsimp only [upd, Nat.reduceBEq, cond_true, cond_false]
   refine wpOp_step rfl (fun K' hK' => ?_)
   have q := gv.keep p4
   go_simp
   exact hK' _ _ (hK _ _ (Below.refl _ _) (at_of rfl (rfl)))
  ·obtain ⟨x, rfl⟩ := upd_of (show x 5 = .pointer (some ⟨X.S, 0, none⟩) from hd 5 _ (by simp) rfl)
   try dsimp only [upd, Nat.reduceBEq, cond_true, cond_false]
   refine wpOp_step rfl (fun K' hK' => ?_)
   go_simp
   exact hK' _ _ (hK _ _ (Below.refl _ _) (at_of rfl (rfl)))
  ·obtain ⟨x, rfl⟩ := upd_of (show x 6 = .pointer (some ⟨X.S, 0, none⟩) from hd 6 _ (by simp) rfl)
   try dsimp only [upd, Nat.reduceBEq, cond_true, cond_false]
   refine wpOp_step rfl (fun K' hK' => ?_)
   go_simp
   exact hK' _ _ (hK _ _ (Below.refl _ _) (at_of rfl (rfl)))
  ·obtain ⟨x, rfl⟩ := upd_of (show x 7 = .pointer (some ⟨X.S, 10, none⟩) from hd 7 _ (by simp) rfl)
   try dsimp only [upd, Nat.reduceBEq, cond_true, cond_false]
   refine wpOp_step rfl (fun K' hK' => ?_)
   rw [if_pos (by rfl)]
   refine wp_load_mid 133 _ rfl X.S 10 (by rfl) [.int .i64 X.W.ll, .int .i64 X.W.lh, .int .i64 X.W.wl, .int .i64 X.W.wh, .int .i64 X.W.hl, .int .i64 X.W.hh, .int .i64 X.W.ol, .int .i64 X.W.oh, .int .i64 X.W.il, .int .i64 X.W.ih, .bool X.W.wo] _ (fun j u hu => (hS.gr gv).at10 j u hu) Try.underlying133 rfl (by kernel_rfl) ?_
   exact hK' _ _ (hK _ _ (Below.refl _ _) (at_of rfl (rfl)))
  ·try dsimp only [upd, Nat.reduceBEq, cond_true, cond_false]
   refine wpOp_step rfl (fun K' hK' => ?_)
   have q := gv.keep p5
   go_simp
   exact hK' _ _ (hK _ _ (Below.refl _ _) (at_of rfl (rfl)))
  ·obtain ⟨x, rfl⟩ := upd_of (show x 4 = .agg #[.int .i64 X.tab, .slice (some ⟨X.P, 0, none⟩) 4 X.pc, .int .i64 d2.hei, .slice (some ⟨X.T, 0, none⟩) 2 X.tc, .slice (some ⟨X.B, 0, none⟩) 2 X.bc, .int .i64 d2.slo, .bool X.R.opn, .int .i64 0, .slice (some ⟨X.T, 0, none⟩) 2 X.tc, .slice (some ⟨X.B, 0, none⟩) 2 X.bc] from hd 4 _ (by simp) rfl)
   obtain ⟨x, rfl⟩ := upd_of (show x 8 = .agg #[.int .i64 X.W.ll, .int .i64 X.W.lh, .int .i64 X.W.wl, .int .i64 X.W.wh, .int .i64 X.W.hl, .int .i64 X.W.hh, .int .i64 X.W.ol, .int .i64 X.W.oh, .int .i64 X.W.il, .int .i64 X.W.ih, .bool X.W.wo] from hd 8 _ (by simp) rfl)
   obtain ⟨x, rfl⟩ := upd_of (show x 9 = .int .i64 k from hd 9 _ (by simp) rfl)
   try dsimp only [upd, Nat.reduceBEq, cond_true, cond_false]
   refine wpOp_step rfl (fun K' hK' => ?_)
   go_simp
   refine (holdS X d2 k hk hd2 hKk hW v (hS.gr gv)).mono ?_
   rintro e v' ⟨rfl, hg⟩
   exact hK' _ _ (hK _ _ hg (at_of rfl (rfl)))
  ·obtain ⟨x, rfl⟩ := upd_of (show x 0 = .func (.func g) #[] #[.pointer (some ⟨gb, 0, none⟩)] from hd 0 _ (by simp) rfl)
   obtain ⟨x, rfl⟩ := upd_of (show x 10 = .agg #[.int .i64 (hL X.R.opn X.W d2 k).lo, .int .i64 (hL X.R.opn X.W d2 k).hi] from hd 10 _ (by simp) rfl)
   try dsimp only [upd, Nat.reduceBEq, cond_true, cond_false]
   refine wpOp_step rfl (fun K' hK' => ?_)
   go_simp
   refine (hen (hL X.R.opn X.W d2 k) v (hS.gr gv) (kU.tr (Kx.gr gv))).mono ?_
   rintro e v' ⟨rfl, hg⟩
   exact hK' _ _ (hK _ _ hg (at_of rfl (rfl)))
 case fin2 =>
  rintro x v gv hd
  obtain ⟨x, rfl⟩ := upd_of (show x 11 = .bool (en (hL X.R.opn X.W d2 k)) from hd 11 _ (by omega) rfl)
  clear hd
  show wpList Try.prog _ _ (List.drop 12 _) (⟨#[_, _, _, _, _, _, _, _, _, _, _, _, _, _, x 0, x 1, x 2, x 3, x 4, x 5, x 6, x 7, x 8, x 9, x 10, .bool (en (hL X.R.opn X.W d2 k))], []⟩ : Act) v
  simp only [List.drop_succ_cons, List.drop_zero]
  go_wp2
  go_ret
  have e2 := E2.out
  subst e2
  exact ⟨rfl, hS.gr gv, kU.tr (Kx.gr gv)⟩

set_option maxRecDepth 100000 in
set_option maxHeartbeats 4000000 in
theorem draw_any (X : Sx) (d : Dr) (m : Me) (mb mo : Nat) (hM : MeAt X m mb mo) (k : Nat) (hk : k < 10) (room : Sp) (r0 : 0 ≤ room.lo) (r1 : room.lo ≤ room.hi) (r2 : room.hi ≤ 3000) (en : Sp → Bool) (g gb : Nat) (hd : DrL d) (hW : X.W.ok)
  (hKk : ∀ v, room.lo ≤ v → v ≤ room.hi → DrK (d.put m v) k) (hmono : ∀ u v, u ≤ v → en (hL X.R.opn X.W (d.put m u) k) = true → en (hL X.R.opn X.W (d.put m v) k) = true)
  (hcall : ∀ (args : Array Value) (W : World), (callFunc g args).run Try.prog W = .ok (.enter g args) W) (w : World) (hS : Se X d w)
  (hen : ∀ (s : Sp) (d' : Dr) W, Se X d' W → Kx X.Z w W → Calls Try.prog g #[.agg #[.int .i64 s.lo, .int .i64 s.hi], .pointer (some ⟨gb, 0, none⟩)] W fun e W' => e = .returned (.bool (en s)) ∧ Gr W W') :
  Calls Try.prog 127 #[.pointer (some ⟨X.S, 0, none⟩), .int .i64 k, .agg #[.int .i64 room.lo, .int .i64 room.hi], .pointer (some ⟨mb, mo, none⟩), .func (.func g) #[] #[.pointer (some ⟨gb, 0, none⟩)]] w fun e w' =>
   e = .returned (.bool (drawD X.R.opn X.W X.cl X.ch en k room m d).2) ∧ Se X (drawD X.R.opn X.W X.cl X.ch en k room m d).1 w' ∧ Kx X.Z w w' := by
 have hz : ∀ i, X.Z i → i < w.heap.size := fun i e => hS.lt e
 have hB : DrBox X k room mb mo g gb w.heap.size (((((w.alloc (.cells #[.pointer (some ⟨X.S, 0, none⟩)] 184)).alloc (.cells #[.int .i64 k] 3)).alloc (.cells #[.int .i64 room.lo, .int .i64 room.hi] 37)).alloc (.cells #[.pointer (some ⟨mb, mo, none⟩)] 168)).alloc (.cells #[.func (.func g) #[] #[.pointer (some ⟨gb, 0, none⟩)]] 186)) :=
  ⟨(Box.new w [.pointer (some ⟨X.S, 0, none⟩)] _ _ rfl).keep ((Gr.al _ _).tr ((Gr.al _ _).tr ((Gr.al _ _).tr (Gr.al _ _)))), (Box.new _ [.int .i64 k] _ _ (by simp)).keep ((Gr.al _ _).tr ((Gr.al _ _).tr (Gr.al _ _))), (Box.new _ [.int .i64 room.lo, .int .i64 room.hi] _ _ (by simp)).keep ((Gr.al _ _).tr (Gr.al _ _)), (Box.new _ [.pointer (some ⟨mb, mo, none⟩)] _ _ (by simp)).keep (Gr.al _ _), Box.new _ [.func (.func g) #[] #[.pointer (some ⟨gb, 0, none⟩)]] _ _ (by simp)⟩
 have gB := (Gr.al w (.cells #[.pointer (some ⟨X.S, 0, none⟩)] 184)).tr ((Gr.al _ (.cells #[.int .i64 k] 3)).tr ((Gr.al _ (.cells #[.int .i64 room.lo, .int .i64 room.hi] 37)).tr ((Gr.al _ (.cells #[.pointer (some ⟨mb, mo, none⟩)] 168)).tr (Gr.al _ (.cells #[.func (.func g) #[] #[.pointer (some ⟨gb, 0, none⟩)]] 186)))))
 have v1 : IntKind.i64.wrap (room.hi - room.lo) = room.hi - room.lo := IntWalk.i64_in _ (by omega)
 have v2 : IntKind.i64.wrap (room.hi - room.lo + 1) = room.hi - room.lo + 1 := IntWalk.i64_in _ (by omega)
 have HM := Lib.hid hmono
 have HK := Lib.hid hKk
 have HZ := Lib.hid hz
 have HE := Lib.hid hen
 have HW := Lib.hid hW
 clear hmono hKk hz hen hW
 go_enter Try.func127, Try.ntmps127
 go_upto_region 1 with fail
 obtain ⟨b5, hb5⟩ : ∃ b5, b5 = w.heap.size := ⟨_, rfl⟩
 rw [← hb5] at hB ⊢
 refine wp_abs (fun U => Gr w U ∧ Se X d U ∧ DrBox X k room mb mo g gb b5 U) ⟨gB, hS.gr gB, hB⟩ ?_
 clear gB hB hS
 rintro U ⟨gU, hS, hB⟩
 have hz5 : ∀ i, X.Z i → i < b5 := fun i e => hb5 ▸ HZ.out i e
 have HZ5 := Lib.hid hz5
 clear hz5 hb5 HZ
 obtain ⟨q0, q1⟩ := hB.r.c2
 have hK0 : ∃ d', Se X d' U ∧ DrL d' ∧ (∀ v, d'.put m v = d.put m v) ∧ Kx X.Z U U := ⟨d, hS, hd, fun _ => rfl, Kx.refl _ _⟩
 have hf : ∀ (h : Int) (V : World), (∃ d', Se X d' V ∧ DrL d' ∧ (∀ v, d'.put m v = d.put m v) ∧ Kx X.Z U V) → 0 ≤ h → h < room.hi - room.lo + 1 →
   Calls Try.prog 145 #[.int .i64 h, .pointer (some ⟨(b5 + 1 + 1), 0, none⟩), .pointer (some ⟨(b5 + 1 + 1 + 1), 0, none⟩), .pointer (some ⟨(b5 + 1 + 1 + 1 + 1), 0, none⟩), .pointer (some ⟨b5, 0, none⟩), .pointer (some ⟨(b5 + 1), 0, none⟩)] V fun e V' => e = .returned (.bool (en (hL X.R.opn X.W (d.put m (room.lo + h)) k))) ∧ ∃ d', Se X d' V' ∧ DrL d' ∧ (∀ v, d'.put m v = d.put m v) ∧ Kx X.Z U V' := by
  rintro h V ⟨d', h1, h2, h3, h4⟩ h0 hlt
  have := draw1_any X d' m mb mo hM k hk room r0 r2 en g gb b5 h2 HW.out h h0 hlt (by rw [h3]; exact HK.out _ (by omega) (by omega)) hcall V h1 (hB.kx h4 HZ5.out) HZ5.out (fun s W hs hk' => HE.out s _ W hs ((Kx.gr gU).tr (h4.tr hk')))
  rw [h3] at this
  exact this.mono fun e V' ⟨he, hs, hk'⟩ => ⟨he, _, hs, hd.put m _, fun v => Dr.put_put d m _ v, h4.tr hk'⟩
 have HF := Lib.hid hf
 have HK0 := Lib.hid hK0
 have hpm : ∀ a b, 0 ≤ a → a ≤ b → b < room.hi - room.lo + 1 → en (hL X.R.opn X.W (d.put m (room.lo + a)) k) = true → en (hL X.R.opn X.W (d.put m (room.lo + b)) k) = true := fun a b _ hab _ h => HM.out _ _ (by omega) h
 have HPM := Lib.hid hpm
 have ec := enters_of Try.func145 (by kernel_rfl) rfl
 clear hf hK0 hpm
 go_upto_region 3 with (go_at_call 144; refine (search5 (room.hi - room.lo + 1) (by omega) (by omega) (fun h => en (hL X.R.opn X.W (d.put m (room.lo + h)) k)) HPM.out 145 _ _ _ _ _ _ _ HK0.out ec HF.out).mono ?_; rintro e w2 ⟨r, rfl, hr0, hr1, hlo, hhi, d', hS', hd', hp', hk'⟩)
 clear q0 q1 HF HK0 HPM ec
 have eq : leastD X.R.opn X.W en k room m d = r.toNat := by
  unfold leastD
  refine firstN_is (by omega) (fun i hi => hlo (i : Int) (by omega) (by omega)) (fun hlt => ?_)
  have := hhi r (by omega) (by omega)
  rw [show ((r.toNat : Nat) : Int) = r by omega]
  exact this
 obtain ⟨q, hq⟩ : ∃ q : Nat, r = (q : Int) := ⟨r.toNat, by omega⟩
 subst hq
 rw [Int.toNat_natCast] at eq
 have EQ := Lib.hid eq
 have HLO := Lib.hid hlo
 have HHI := Lib.hid hhi
 clear eq hlo hhi
 have hB2 := hB.kx hk' HZ5.out
 have q8 := hB2.m.c1
 obtain ⟨q7, q7'⟩ := hB2.r.c2
 have v3 : IntKind.i64.wrap (room.lo + (q : Int)) = room.lo + (q : Int) := IntWalk.i64_in _ (by omega)
 obtain ⟨⟨u, hu⟩, hfr⟩ := hM.cell d' w2 hd' hS'
 go_upto_region 4 with fail
 have k1 : Kx X.Z w2 (w2.setCell ⟨mb, mo, none⟩ (.int .i64 (room.lo + (q : Int)))) := Kx.set (p := ⟨mb, mo, none⟩) hM.z _
 have hS3 := hM.put d' w2 (room.lo + (q : Int)) hd' hS'
 rw [hp'] at hS3
 have kU : Kx X.Z w w2 := (Kx.gr gU).tr hk'
 refine wp_abs (fun V => Kx X.Z w V ∧ Se X (d.put m (room.lo + (q : Int))) V ∧ DrBox X k room mb mo g gb b5 V) ⟨kU.tr k1, hS3, hB2.kx k1 HZ5.out⟩ ?_
 clear hu hfr q8 q7 q7' hB2 hS' hk' kU k1 hS3 hB hS gU
 rintro V ⟨kV, hS, hB⟩
 have q5 := hB.s.c1
 have q6 := hB.c.c1
 have eD1 : (drawD X.R.opn X.W X.cl X.ch en k room m d).1 = d.put m (room.lo + (q : Int)) := by simp only [drawD]; rw [EQ.out]
 have eD2 : (drawD X.R.opn X.W X.cl X.ch en k room m d).2 = (decide (q < (room.hi - room.lo + 1).toNat) && okAll (hL X.R.opn X.W (d.put m (room.lo + (q : Int))) k) X.cl X.ch) := by simp only [drawD]; rw [EQ.out]
 have HD1 := Lib.hid eD1
 have HD2 := Lib.hid eD2
 clear eD1 eD2
 by_cases hlt : (q : Int) < room.hi - room.lo + 1
 ·have e1 : decide (q < (room.hi - room.lo + 1).toNat) = true := by rw [decide_eq_true_eq]; omega
  have E1 := Lib.hid e1
  clear e1
  go_wp2_with (go_at_call 125; refine (holds_any X (d.put m (room.lo + (q : Int))) k hk (hd.put m _) (HK.out _ (by omega) (by omega)) HW.out V hS).mono ?_; rintro e w4 ⟨rfl, g4⟩)
  go_ret
  rw [HD1.out, HD2.out, E1.out, Bool.true_and]
  exact ⟨rfl, hS.gr g4, kV.tr (Kx.gr g4)⟩
 ·have e1 : decide (q < (room.hi - room.lo + 1).toNat) = false := by rw [decide_eq_false_iff_not]; omega
  have E1 := Lib.hid e1
  clear e1
  go_wp2
  go_ret
  rw [HD1.out, HD2.out, E1.out, Bool.false_and]
  exact ⟨rfl, hS, kV⟩

set_option maxRecDepth 100000 in
set_option maxHeartbeats 4000000 in
theorem rise_any (X : Sx) (d : Dr) (m : Me) (mb mo : Nat) (hM : MeAt X m mb mo) (k : Nat) (hk : k < 10) (room : Sp) (r0 : 0 ≤ room.lo) (r1 : room.lo ≤ room.hi) (r2 : room.hi ≤ 3000) (hd : DrL d) (hW : X.W.ok)
  (hKk : ∀ v, room.lo ≤ v → v ≤ room.hi → DrK (d.put m v) k) (hmono : ∀ u v, u ≤ v → riseE X.ch (hL X.R.opn X.W (d.put m u) k) = true → riseE X.ch (hL X.R.opn X.W (d.put m v) k) = true) (w : World) (hS : Se X d w) :
  Calls Try.prog 99 #[.pointer (some ⟨X.S, 0, none⟩), .int .i64 k, .agg #[.int .i64 room.lo, .int .i64 room.hi], .pointer (some ⟨mb, mo, none⟩)] w fun e w' =>
   e = .returned (.bool (drawD X.R.opn X.W X.cl X.ch (riseE X.ch) k room m d).2) ∧ Se X (drawD X.R.opn X.W X.cl X.ch (riseE X.ch) k room m d).1 w' ∧ Kx X.Z w w' := by
 have gB := (Gr.al w (.cells #[.pointer (some ⟨X.S, 0, none⟩)] 184)).tr (Gr.al _ (.cells #[.int .i64 room.lo, .int .i64 room.hi] 37))
 have b4 := (Box.new w [.pointer (some ⟨X.S, 0, none⟩)] 184 w.heap.size rfl).keep (Gr.al _ (.cells #[.int .i64 room.lo, .int .i64 room.hi] 37))
 have b6 := Box.new (w.alloc (.cells #[.pointer (some ⟨X.S, 0, none⟩)] 184)) [.int .i64 room.lo, .int .i64 room.hi] 37 (w.heap.size + 1) (by simp)
 have hz : ∀ i, X.Z i → i < w.heap.size := fun i e => hS.lt e
 have HM := Lib.hid hmono
 have HK := Lib.hid hKk
 have HZ := Lib.hid hz
 have HW := Lib.hid hW
 clear hmono hKk hz hW
 go_enter Try.func99, Try.ntmps99
 go_upto_region 1 with fail
 obtain ⟨gb, hgb⟩ : ∃ gb, gb = w.heap.size := ⟨_, rfl⟩
 rw [← hgb] at b4 b6 ⊢
 refine wp_abs (fun U => Gr w U ∧ Se X d U ∧ Box U gb [.pointer (some ⟨X.S, 0, none⟩)] ∧ Box U (gb + 1) [.int .i64 room.lo, .int .i64 room.hi]) ⟨gB, hS.gr gB, b4, b6⟩ ?_
 clear gB b4 b6 hS
 rintro U ⟨gU, hS, b4, b6⟩
 have hzg : ¬ X.Z gb := fun e => by have := HZ.out _ e; omega
 clear hgb HZ
 have HZG := Lib.hid hzg
 clear hzg
 have q4 := b4.c1
 obtain ⟨q6, q6'⟩ := b6.c2
 have ec := enters_of Try.func128 (by kernel_rfl) rfl
 go_wp2_with (go_at_call 127; refine (draw_any X d m mb mo hM k hk room r0 r1 r2 (riseE X.ch) 128 gb hd HW.out HK.out HM.out ec U hS (fun s d' W hs hk' => rise1_any X d' s gb W hs (b4.kx hk' HZG.out).c1)).mono ?_; rintro e w2 ⟨rfl, hS2, k2⟩)
 go_ret
 exact ⟨rfl, hS2, (Kx.gr gU).tr k2⟩

set_option maxRecDepth 100000 in
set_option maxHeartbeats 4000000 in
theorem fall_any (X : Sx) (d : Dr) (m : Me) (mb mo : Nat) (hM : MeAt X m mb mo) (k : Nat) (hk : k < 10) (room : Sp) (r0 : 0 ≤ room.lo) (r1 : room.lo ≤ room.hi) (r2 : room.hi ≤ 3000) (hd : DrL d) (hW : X.W.ok)
  (hKk : ∀ v, room.lo ≤ v → v ≤ room.hi → DrK (d.put m v) k) (hmono : ∀ u v, u ≤ v → fallE X.cl (hL X.R.opn X.W (d.put m u) k) = true → fallE X.cl (hL X.R.opn X.W (d.put m v) k) = true) (w : World) (hS : Se X d w) :
  Calls Try.prog 143 #[.pointer (some ⟨X.S, 0, none⟩), .int .i64 k, .agg #[.int .i64 room.lo, .int .i64 room.hi], .pointer (some ⟨mb, mo, none⟩)] w fun e w' =>
   e = .returned (.bool (drawD X.R.opn X.W X.cl X.ch (fallE X.cl) k room m d).2) ∧ Se X (drawD X.R.opn X.W X.cl X.ch (fallE X.cl) k room m d).1 w' ∧ Kx X.Z w w' := by
 have gB := (Gr.al w (.cells #[.pointer (some ⟨X.S, 0, none⟩)] 184)).tr (Gr.al _ (.cells #[.int .i64 room.lo, .int .i64 room.hi] 37))
 have b4 := (Box.new w [.pointer (some ⟨X.S, 0, none⟩)] 184 w.heap.size rfl).keep (Gr.al _ (.cells #[.int .i64 room.lo, .int .i64 room.hi] 37))
 have b6 := Box.new (w.alloc (.cells #[.pointer (some ⟨X.S, 0, none⟩)] 184)) [.int .i64 room.lo, .int .i64 room.hi] 37 (w.heap.size + 1) (by simp)
 have hz : ∀ i, X.Z i → i < w.heap.size := fun i e => hS.lt e
 have HM := Lib.hid hmono
 have HK := Lib.hid hKk
 have HZ := Lib.hid hz
 have HW := Lib.hid hW
 clear hmono hKk hz hW
 go_enter Try.func143, Try.ntmps143
 go_upto_region 1 with fail
 obtain ⟨gb, hgb⟩ : ∃ gb, gb = w.heap.size := ⟨_, rfl⟩
 rw [← hgb] at b4 b6 ⊢
 refine wp_abs (fun U => Gr w U ∧ Se X d U ∧ Box U gb [.pointer (some ⟨X.S, 0, none⟩)] ∧ Box U (gb + 1) [.int .i64 room.lo, .int .i64 room.hi]) ⟨gB, hS.gr gB, b4, b6⟩ ?_
 clear gB b4 b6 hS
 rintro U ⟨gU, hS, b4, b6⟩
 have hzg : ¬ X.Z gb := fun e => by have := HZ.out _ e; omega
 clear hgb HZ
 have HZG := Lib.hid hzg
 clear hzg
 have q4 := b4.c1
 obtain ⟨q6, q6'⟩ := b6.c2
 have ec := enters_of Try.func162 (by kernel_rfl) rfl
 go_wp2_with (go_at_call 127; refine (draw_any X d m mb mo hM k hk room r0 r1 r2 (fallE X.cl) 162 gb hd HW.out HK.out HM.out ec U hS (fun s d' W hs hk' => fall1_any X d' s gb W hs (b4.kx hk' HZG.out).c1)).mono ?_; rintro e w2 ⟨rfl, hS2, k2⟩)
 go_ret
 exact ⟨rfl, hS2, (Kx.gr gU).tr k2⟩

end Go.Proofs.Ytoihnilgmdcndaa

namespace Go.Proofs.Ytoihnilgmdcndaa
set_option linter.unusedVariables false
set_option linter.unusedSimpArgs false
open Go.RowKit Go.Shelf

/-- The sheet's measures lie within limits, and each can be something. -/
structure RmOk (R : Rm) : Prop where
 l4 : R.pan.length = 4
 t2 : R.top.length = 2
 b2 : R.bot.length = 2
 gpan : inB 0 3000 R.pan = true
 ppos : ∀ v ∈ R.pan, 1 ≤ v + R.off
 ghei : 0 ≤ R.hei ∧ R.hei ≤ 3000 ∧ 1 ≤ R.hei + R.off
 gtop : inB 0 3000 R.top = true
 gbot : inB 0 3000 R.bot = true
 gslo : 0 ≤ R.slo ∧ R.slo ≤ 20
 o0 : 0 ≤ R.off
 o1 : R.off ≤ 3000

/-- A room: something from 0 to 3000. -/
structure RoomOk (s : Sp) : Prop where
 r0 : 0 ≤ s.lo
 r1 : s.lo ≤ s.hi
 r2 : s.hi ≤ 3000

theorem RmOk.fl {R : Rm} (H : RmOk R) {k : Nat} (h5 : 5 ≤ k) (h8 : k ≤ 8) : RoomOk (R.fl k) := by
 obtain ⟨x, hx⟩ := get_of_lt (show (k - 5) % 2 < R.top.length by rw [H.t2]; omega)
 obtain ⟨y, hy⟩ := get_of_lt (show (k - 5) % 2 < R.bot.length by rw [H.b2]; omega)
 obtain ⟨a0, a1⟩ := in_at H.gtop hx
 obtain ⟨b0, b1⟩ := in_at H.gbot hy
 have o0 := H.o0
 have o1 := H.o1
 unfold Rm.fl flapS
 split
 ·split
  ·exact ⟨by simp, by simp, by simp⟩
  ·rw [getD_eq hx]; exact ⟨by simp only [nearL]; omega, by simp only [nearL]; omega, by simp only [nearL]; omega⟩
 ·rw [getD_eq hy]; exact ⟨by simp only [nearL]; omega, by simp only [nearL]; omega, by simp only [nearL]; omega⟩

theorem RmOk.pn {R : Rm} (H : RmOk R) {i : Nat} (hi : i < 4) : RoomOk (R.pn i) ∧ 1 ≤ (R.pn i).lo := by
 obtain ⟨x, hx⟩ := get_of_lt (show i < R.pan.length by rw [H.l4]; omega)
 obtain ⟨a0, a1⟩ := in_at H.gpan hx
 have hp := H.ppos x (List.mem_of_getElem? hx)
 have o0 := H.o0
 have o1 := H.o1
 unfold Rm.pn
 rw [getD_eq hx]
 exact ⟨⟨by simp only [nearL]; omega, by simp only [nearL]; omega, by simp only [nearL]; omega⟩, by simp only [nearL]; omega⟩

theorem RmOk.he {R : Rm} (H : RmOk R) : RoomOk R.he := by
 obtain ⟨a0, a1, hp⟩ := H.ghei
 have o0 := H.o0
 have o1 := H.o1
 exact ⟨by simp only [nearL, Rm.he]; omega, by simp only [nearL, Rm.he]; omega, by simp only [nearL, Rm.he]; omega⟩

theorem RmOk.sl {R : Rm} (H : RmOk R) : RoomOk R.sl := by
 obtain ⟨a0, a1⟩ := H.gslo
 have o0 := H.o0
 have o1 := H.o1
 exact ⟨by simp only [nearL, Rm.sl]; omega, by simp only [nearL, Rm.sl]; omega, by simp only [nearL, Rm.sl]; omega⟩

/-- The rows of the sheet lie as they lay. -/
def RoomRows (X : Sx) (w : World) : Prop := St X.Z (fun V => IRow V X.ra X.R.pan ∧ IRow V X.rt X.R.top ∧ IRow V X.rb X.R.bot) w

theorem RoomRows.kx {X : Sx} {w w' : World} (h : RoomRows X w) (k : Kx X.Z w w') : RoomRows X w' := fun B hB => h B (k.tr hB)

def Sx.mb (X : Sx) (k : Nat) : Nat := if k < 7 then X.T else X.B

def Sx.mc (X : Sx) (k : Nat) : Nat := if k < 7 then X.tc else X.bc

theorem ends_cell {X : Sx} {d : Dr} {w : World} (h : Se X d w) {k : Nat} (h5 : 5 ≤ k) (h8 : k ≤ 8) : w.cell? ⟨X.S, 31 + (k - 5) / 2, none⟩ = some (.slice (some ⟨X.mb k, 0, none⟩) 2 (X.mc k)) := by
 unfold Sx.mb Sx.mc
 by_cases h7 : k < 7
 ·rw [if_pos h7, if_pos h7, show (k - 5) / 2 = 0 by omega]
  exact h.s.1.2 31 _ rfl
 ·rw [if_neg h7, if_neg h7, show (k - 5) / 2 = 1 by omega]
  exact h.s.1.2 32 _ rfl

theorem MeAt.gap {X : Sx} (D : X.Dis) {k : Nat} (h5 : 5 ≤ k) (h8 : k ≤ 8) : MeAt X (meOf k) (X.mb k) ((k - 5) % 2) := by
 unfold Sx.mb meOf
 by_cases h7 : k < 7
 ·rw [if_pos h7, if_pos h7]
  exact MeAt.top D (by omega)
 ·rw [if_neg h7, if_neg h7]
  exact MeAt.bot D (by omega)

theorem put_meOf (d : Dr) (k : Nat) (v : Int) : (d.put (meOf k) v).p = d.p ∧ (d.put (meOf k) v).hei = d.hei ∧ (d.put (meOf k) v).slo = d.slo := by
 unfold meOf
 split <;> exact ⟨rfl, rfl, rfl⟩

theorem set_get {l : List Int} {i : Nat} {v u : Int} (h : (l.set i v)[i]? = some u) : u = v := by
 rw [List.getElem?_set] at h
 split at h
 ·split at h <;> simp_all
 ·simp_all

theorem gapK {d : Dr} {k : Nat} (h5 : 5 ≤ k) (h8 : k ≤ 8) (hD : DrL d) (hp : ∀ v, d.p[1 - (k - 5) % 2]? = some v → 0 ≤ v ∧ v ≤ 3000) {v : Int} (v0 : 0 ≤ v) (v1 : v ≤ 3000) : DrK (d.put (meOf k) v) k := by
 have hL := hD.put (meOf k) v
 refine ⟨hL.p, hL.t, hL.b, fun h => by omega, fun _ _ u hu => hp u (by rw [(put_meOf d k v).1] at hu; exact hu), fun h => by omega, fun _ h6 u hu => ?_, fun h7 _ u hu => ?_, fun h => by omega⟩
 ·unfold meOf at hu
  rw [if_pos (by omega)] at hu
  obtain rfl := set_get hu
  exact ⟨v0, v1⟩
 ·unfold meOf at hu
  rw [if_neg (by omega)] at hu
  obtain rfl := set_get hu
  exact ⟨v0, v1⟩

theorem flapR (X : Sx) (hR : RmOk X.R) {k : Nat} (h5 : 5 ≤ k) (h8 : k ≤ 8) (w : World) (ht : IRow w X.rt X.R.top) (hb : IRow w X.rb X.R.bot) :
  Calls Try.prog 106 #[.agg #[.int .i64 X.tab, .slice X.ra X.R.pan.length X.rac, .int .i64 X.R.hei, .slice X.rt X.R.top.length X.rtc, .slice X.rb X.R.bot.length X.rbc, .int .i64 X.R.slo, .bool X.R.opn, .int .i64 X.R.off, .slice X.rt X.R.top.length X.rtc, .slice X.rb X.R.bot.length X.rbc], .int .i64 (((k - 5) / 2 : Nat) : Int), .int .i64 (((k - 5) % 2 : Nat) : Int)] w fun e w' => e = .returned (.agg #[.int .i64 (X.R.fl k).lo, .int .i64 (X.R.fl k).hi]) ∧ Gr w w' := by
 obtain ⟨x, hx⟩ := get_of_lt (show (k - 5) % 2 < X.R.top.length by rw [hR.t2]; omega)
 obtain ⟨y, hy⟩ := get_of_lt (show (k - 5) % 2 < X.R.bot.length by rw [hR.b2]; omega)
 obtain ⟨a0, a1⟩ := in_at hR.gtop hx
 obtain ⟨b0, b1⟩ := in_at hR.gbot hy
 unfold Rm.fl
 by_cases h7 : k < 7
 ·rw [show (k - 5) / 2 = 0 by omega]
  cases ho : X.R.opn with
  | true => exact flap_open _ _ _ _ _ _ _ _ _ _ _ _ _ _ _
  | false =>
   have E2 : flapS false X.R.off X.R.top X.R.bot 0 ((k - 5) % 2) = nearL X.R.off x 0 3000 := by unfold flapS; rw [getD_eq hx]; rfl
   rw [E2]
   exact flap_top _ _ _ _ _ _ _ _ _ _ _ _ _ ((k - 5) % 2) x _ rfl hx a0 a1 hR.o0 hR.o1 w ht
 ·rw [show (k - 5) / 2 = 1 by omega]
  have E2 : flapS X.R.opn X.R.off X.R.top X.R.bot 1 ((k - 5) % 2) = nearL X.R.off y 0 3000 := by unfold flapS; rw [getD_eq hy]; rfl
  rw [E2]
  exact flap_bot _ _ _ _ _ _ _ _ _ _ _ _ _ _ ((k - 5) % 2) y _ rfl hy b0 b1 hR.o0 hR.o1 w hb

theorem gapN (k : Nat) (h5 : 5 ≤ k) (h8 : k ≤ 8) (w : World) :
  Calls Try.prog 104 #[.int .i64 (k : Int)] w fun e w' => e = .returned (.tuple #[.int .i64 (((k - 5) / 2 : Nat) : Int), .int .i64 (((k - 5) % 2 : Nat) : Int)]) ∧ w = w' := by
 have h := gap_any (k : Int) (by omega) (by omega) w
 rw [show ((k : Int) - 5) / 2 = (((k - 5) / 2 : Nat) : Int) by omega, show ((k : Int) - 5) % 2 = (((k - 5) % 2 : Nat) : Int) by omega] at h
 exact h

theorem overG (b : Nat) (hb : b < 2) (w : World) : Calls Try.prog 105 #[.int .i64 b] w fun e w' => e = .returned (.int .i64 (1 - (b : Int))) ∧ Gr w w' :=
 (over_any b (by omega) (by omega) w).mono fun _ _ ⟨he, hw⟩ => ⟨he, hw ▸ Below.refl _ _⟩

theorem flapsFrom_skip {R : Rm} {W : Wi} {cl ch : Int} {i n k : Nat} {d : Dr} (h : ¬ 1 - (k - 5) % 2 = i) : flapsFrom R W cl ch i (n + 1) k d = flapsFrom R W cl ch i n (k + 1) d := by
 rw [flapsFrom, if_neg h]

theorem flapsFrom_go {R : Rm} {W : Wi} {cl ch : Int} {i n k : Nat} {d d' : Dr} (h : 1 - (k - 5) % 2 = i) (hr : drawD R.opn W cl ch (fallE cl) k (R.fl k) (meOf k) d = (d', true)) : flapsFrom R W cl ch i (n + 1) k d = flapsFrom R W cl ch i n (k + 1) d' := by
 rw [flapsFrom, if_pos h, hr, if_pos rfl]

theorem flapsFrom_no {R : Rm} {W : Wi} {cl ch : Int} {i n k : Nat} {d d' : Dr} (h : 1 - (k - 5) % 2 = i) (hr : drawD R.opn W cl ch (fallE cl) k (R.fl k) (meOf k) d = (d', false)) : flapsFrom R W cl ch i (n + 1) k d = (d', k) := by
 rw [flapsFrom, if_pos h, hr, if_neg (by simp)]

set_option maxRecDepth 100000 in
set_option maxHeartbeats 4000000 in
theorem flaps_any (X : Sx) (D : X.Dis) (hR : RmOk X.R) (i : Nat) (hi : i < 4) (d : Dr) (hD : DrL d) (hW : X.W.ok) (hp : ∀ v, d.p[i]? = some v → 0 ≤ v ∧ v ≤ 3000) (w : World) (hS : Se X d w) (hr : RoomRows X w) :
  Calls Try.prog 126 #[.pointer (some ⟨X.S, 0, none⟩), .int .i64 i] w fun e w' => e = .returned (.int .i64 ((flapsD X.R X.W X.cl X.ch i d).2 : Int)) ∧ Se X (flapsD X.R X.W X.cl X.ch i d).1 w' ∧ Kx X.Z w w' := by
 obtain ⟨r0, hr0⟩ : ∃ r0, r0 = flapsD X.R X.W X.cl X.ch i d := ⟨_, rfl⟩
 rw [← hr0]
 have HR0 := Lib.hid hr0
 have HR := Lib.hid hr
 have HP := Lib.hid hp
 clear hr0 hr hp
 go_enter Try.func126, Try.ntmps126
 go_wp2
 go_loopw [5] (fun x wr => Hid (∃ k : Nat, 5 ≤ k ∧ k ≤ 9 ∧ x = .int .i64 k ∧ ∃ d1, flapsFrom X.R X.W X.cl X.ch i (9 - k) k d1 = r0 ∧ DrL d1 ∧ d1.p = d.p ∧ Se X d1 wr ∧ Kx X.Z w wr)) (fun x wr => 9 - (intOf x).toNat)
 case atStart => exact Lib.hid ⟨5, by omega, by omega, rfl, d, HR0.out.symm, hD, rfl, hS, Kx.refl _ _⟩
 case round =>
  obtain ⟨k, h5, h9, rfl, d1, hf, hD1, hp1, hS1, kW⟩ := hrel.out
  clear hrel hS hD
  by_cases hlt : k < 9
  case neg =>
   obtain rfl : k = 9 := by omega
   have e : r0 = (d1, 10) := hf.symm
   subst e
   clear hf
   go_wp2
   go_ret
   exact ⟨rfl, hS1, kW⟩
  have hF := Lib.hid hf
  have HS1 := Lib.hid hS1
  have HP1 := Lib.hid hp1
  have h8 : k ≤ 8 := by omega
  have e9 : 9 - k = (8 - k) + 1 := by omega
  have e8 : 9 - (k + 1) = 8 - k := by omega
  have E9 := Lib.hid e9
  have E8 := Lib.hid e8
  clear hf hp1 e9 e8
  have hgap := fun (v : World) => gapN k h5 h8 v
  have q31 := ends_cell hS1 h5 h8
  have hM := MeAt.gap D h5 h8
  have hfl := fun (v : World) (ht : IRow v X.rt X.R.top) (hb : IRow v X.rb X.R.bot) => flapR X hR h5 h8 v ht hb
  have ha : (k - 5) / 2 < 2 := by omega
  have hb : (k - 5) % 2 < 2 := by omega
  have hrows := HR.out wr kW
  obtain ⟨a, ea⟩ : ∃ a, a = (k - 5) / 2 := ⟨_, rfl⟩
  obtain ⟨b, eb⟩ : ∃ b, b = (k - 5) % 2 := ⟨_, rfl⟩
  obtain ⟨mb, em⟩ : ∃ mb, mb = X.mb k := ⟨_, rfl⟩
  obtain ⟨mc, ec⟩ : ∃ mc, mc = X.mc k := ⟨_, rfl⟩
  rw [← ea] at q31 ha hfl hgap
  rw [← eb] at hb hM hfl hgap
  rw [← em] at q31 hM
  rw [← ec] at q31
  have EB := Lib.hid eb
  have HG := Lib.hid hgap
  have HFL := Lib.hid hfl
  have ha' : (a : Int) < 2 := by omega
  have hb' : (b : Int) < 2 := by omega
  have HMA := Lib.hid hM
  clear ea eb em ec hgap hfl hM
  go_upto_region 5 with (go_at_call 104; refine (HG.out _).mono ?_; rintro e w4 ⟨rfl, rfl⟩)
  by_cases hov : 1 - b = i
  case neg =>
   have hov' : (1 - (b : Int) == (i : Int)) = false := by rw [beq_eq_false_iff_ne]; omega
   have HOV := Lib.hid hov'
   have hnx := flapsFrom_skip (R := X.R) (W := X.W) (cl := X.cl) (ch := X.ch) (n := 8 - k) (d := d1) (show ¬ 1 - (k - 5) % 2 = i by rw [← EB.out]; exact hov)
   have HNX := Lib.hid (hnx.symm.trans ((congrArg (fun n => flapsFrom X.R X.W X.cl X.ch i n k d1) E9.out).symm.trans hF.out))
   clear hov hov' hnx
   refine (show (∀ s : Nat → Value, Code.wp Try.prog _ _ ⟨#[.pointer (some ⟨X.S, 0, none⟩), .int .i64 i, undef, undef, s 4, .int .i64 k, .int .i64 a, .int .i64 b, s 8, s 9, s 10, s 11, s 12, s 13, s 14, s 15, s 16, s 17, s 18, s 19, s 20, s 21, s 22, s 23, s 24, s 25, s 26, s 27, s 28, s 29, s 30, s 31, s 32, s 33, s 34, s 35, s 36, s 37, s 38, s 39, s 40, s 41, s 42, s 43], []⟩ _) → _ from fun h => h ((fun l : List Value => fun i => l.getD i undef) [undef, undef, undef, undef, _, undef, undef, undef, _, _, _, _, _, _, _, _, _, _, _, _, _, _, _, _, _, _, _, _, _, _, _, _, _, _, _, _, _, _, _, _, _, _, _, _])) ?_
   intro s
   refine wp_region_facts 23 [(1, 0), (3, 1), (3, 2), (4, 3), (5, 4), (6, 4), (7, 4), (8, 4), (9, 4), (10, 4), (11, 4), (12, 4), (13, 4), (14, 4), (15, 4), (16, 4), (17, 4), (18, 4), (19, 4), (20, 4), (21, 4), (22, 4)] (fun x => ⟨#[.pointer (some ⟨X.S, 0, none⟩), .int .i64 i, undef, undef, s 4, .int .i64 k, .int .i64 a, .int .i64 b, s 8, s 9, s 10, s 11, s 12, s 13, s 14, s 15, s 16, x 0, x 1, x 2, x 3, x 4, x 5, x 6, x 7, x 8, x 9, x 10, x 11, x 12, x 13, x 14, x 15, x 16, x 17, x 18, x 19, x 20, x 21, x 22, s 40, s 41, s 42, s 43], []⟩) (fun j => s (17 + j)) [fun _ x => x = .int .i64 b, fun _ x => x = .int .i64 (1 - (b : Int)), fun _ x => x = .int .i64 i, fun _ x => x = .bool false, fun _ x => x = .bool false, fun _ x => x = undef, fun _ x => x = undef, fun _ x => x = undef, fun _ x => x = undef, fun _ x => x = undef, fun _ x => x = undef, fun _ x => x = undef, fun _ x => x = undef, fun _ x => x = undef, fun _ x => x = undef, fun _ x => x = undef, fun _ x => x = undef, fun _ x => x = undef, fun _ x => x = undef, fun _ x => x = undef, fun _ x => x = undef, fun _ x => x = undef, fun _ x => x = undef] (by rfl) (by kernel_rfl) (by kernel_rfl) (by kernel_rfl) (stays_cons (Stays.eq _) (stays_cons (Stays.eq _) (stays_cons (Stays.eq _) (stays_cons (Stays.eq _) (stays_cons (Stays.eq _) (stays_cons (Stays.eq _) (stays_cons (Stays.eq _) (stays_cons (Stays.eq _) (stays_cons (Stays.eq _) (stays_cons (Stays.eq _) (stays_cons (Stays.eq _) (stays_cons (Stays.eq _) (stays_cons (Stays.eq _) (stays_cons (Stays.eq _) (stays_cons (Stays.eq _) (stays_cons (Stays.eq _) (stays_cons (Stays.eq _) (stays_cons (Stays.eq _) (stays_cons (Stays.eq _) (stays_cons (Stays.eq _) (stays_cons (Stays.eq _) (stays_cons (Stays.eq _) (stays_cons (Stays.eq _) stays_nil))))))))))))))))))))))) ?step5f ?fin5f
   case step5f =>
    rintro i hi x v gv hd K hK
    have hi8 : i = 0 ∨ i = 1 ∨ i = 2 ∨ i = 3 ∨ i = 4 ∨ i = 5 ∨ i = 6 ∨ i = 7 ∨ i = 8 ∨ i = 9 ∨ i = 10 ∨ i = 11 ∨ i = 12 ∨ i = 13 ∨ i = 14 ∨ i = 15 ∨ i = 16 ∨ i = 17 ∨ i = 18 ∨ i = 19 ∨ i = 20 ∨ i = 21 ∨ i = 22 := by omega
    rcases hi8 with rfl | rfl | rfl | rfl | rfl | rfl | rfl | rfl | rfl | rfl | rfl | rfl | rfl | rfl | rfl | rfl | rfl | rfl | rfl | rfl | rfl | rfl | rfl
    ·dsimp only [upd, Nat.reduceBEq, cond_true, cond_false]
     refine wpOp_step rfl (fun K' hK' => ?_)
     go_simp
     exact hK' _ _ (hK _ _ (Below.refl _ _) (at_of rfl (rfl)))
    ·obtain ⟨x, rfl⟩ := upd_of (show x 0 = .int .i64 b from hd 0 _ (by simp) rfl)
     dsimp only [upd, Nat.reduceBEq, cond_true, cond_false]
     refine wpOp_step rfl (fun K' hK' => ?_)
     go_simp
     refine (overG b hb v).mono ?_
     rintro e v' ⟨rfl, hg⟩
     exact hK' _ _ (hK _ _ hg (at_of rfl (rfl)))
    ·dsimp only [upd, Nat.reduceBEq, cond_true, cond_false]
     refine wpOp_step rfl (fun K' hK' => ?_)
     go_simp
     exact hK' _ _ (hK _ _ (Below.refl _ _) (at_of rfl (rfl)))
    ·obtain ⟨x, rfl⟩ := upd_of (show x 1 = .int .i64 (1 - (b : Int)) from hd 1 _ (by simp) rfl)
     obtain ⟨x, rfl⟩ := upd_of (show x 2 = .int .i64 i from hd 2 _ (by simp) rfl)
     dsimp only [upd, Nat.reduceBEq, cond_true, cond_false]
     refine wpOp_step rfl (fun K' hK' => ?_)
     have q := HOV.out
     go_simp
     exact hK' _ _ (hK _ _ (Below.refl _ _) (at_of rfl (rfl)))
    ·obtain ⟨x, rfl⟩ := upd_of (show x 3 = .bool false from hd 3 _ (by simp) rfl)
     dsimp only [upd, Nat.reduceBEq, cond_true, cond_false]
     refine wpOp_step rfl (fun K' hK' => ?_)
     go_simp
     exact hK' _ _ (hK _ _ (Below.refl _ _) (at_of rfl (rfl)))
    ·obtain ⟨x, rfl⟩ := upd_of (show x 4 = .bool false from hd 4 _ (by simp) rfl)
     dsimp only [upd, Nat.reduceBEq, cond_true, cond_false]
     refine wpOp_step rfl (fun K' hK' => ?_)
     go_simp
     exact hK' _ _ (hK _ _ (Below.refl _ _) (at_of rfl (rfl)))
    ·obtain ⟨x, rfl⟩ := upd_of (show x 4 = .bool false from hd 4 _ (by simp) rfl)
     dsimp only [upd, Nat.reduceBEq, cond_true, cond_false]
     refine wpOp_step rfl (fun K' hK' => ?_)
     go_simp
     exact hK' _ _ (hK _ _ (Below.refl _ _) (at_of rfl (rfl)))
    ·obtain ⟨x, rfl⟩ := upd_of (show x 4 = .bool false from hd 4 _ (by simp) rfl)
     dsimp only [upd, Nat.reduceBEq, cond_true, cond_false]
     refine wpOp_step rfl (fun K' hK' => ?_)
     go_simp
     exact hK' _ _ (hK _ _ (Below.refl _ _) (at_of rfl (rfl)))
    ·obtain ⟨x, rfl⟩ := upd_of (show x 4 = .bool false from hd 4 _ (by simp) rfl)
     dsimp only [upd, Nat.reduceBEq, cond_true, cond_false]
     refine wpOp_step rfl (fun K' hK' => ?_)
     go_simp
     exact hK' _ _ (hK _ _ (Below.refl _ _) (at_of rfl (rfl)))
    ·obtain ⟨x, rfl⟩ := upd_of (show x 4 = .bool false from hd 4 _ (by simp) rfl)
     dsimp only [upd, Nat.reduceBEq, cond_true, cond_false]
     refine wpOp_step rfl (fun K' hK' => ?_)
     go_simp
     exact hK' _ _ (hK _ _ (Below.refl _ _) (at_of rfl (rfl)))
    ·obtain ⟨x, rfl⟩ := upd_of (show x 4 = .bool false from hd 4 _ (by simp) rfl)
     dsimp only [upd, Nat.reduceBEq, cond_true, cond_false]
     refine wpOp_step rfl (fun K' hK' => ?_)
     go_simp
     exact hK' _ _ (hK _ _ (Below.refl _ _) (at_of rfl (rfl)))
    ·obtain ⟨x, rfl⟩ := upd_of (show x 4 = .bool false from hd 4 _ (by simp) rfl)
     dsimp only [upd, Nat.reduceBEq, cond_true, cond_false]
     refine wpOp_step rfl (fun K' hK' => ?_)
     go_simp
     exact hK' _ _ (hK _ _ (Below.refl _ _) (at_of rfl (rfl)))
    ·obtain ⟨x, rfl⟩ := upd_of (show x 4 = .bool false from hd 4 _ (by simp) rfl)
     dsimp only [upd, Nat.reduceBEq, cond_true, cond_false]
     refine wpOp_step rfl (fun K' hK' => ?_)
     go_simp
     exact hK' _ _ (hK _ _ (Below.refl _ _) (at_of rfl (rfl)))
    ·obtain ⟨x, rfl⟩ := upd_of (show x 4 = .bool false from hd 4 _ (by simp) rfl)
     dsimp only [upd, Nat.reduceBEq, cond_true, cond_false]
     refine wpOp_step rfl (fun K' hK' => ?_)
     go_simp
     exact hK' _ _ (hK _ _ (Below.refl _ _) (at_of rfl (rfl)))
    ·obtain ⟨x, rfl⟩ := upd_of (show x 4 = .bool false from hd 4 _ (by simp) rfl)
     dsimp only [upd, Nat.reduceBEq, cond_true, cond_false]
     refine wpOp_step rfl (fun K' hK' => ?_)
     go_simp
     exact hK' _ _ (hK _ _ (Below.refl _ _) (at_of rfl (rfl)))
    ·obtain ⟨x, rfl⟩ := upd_of (show x 4 = .bool false from hd 4 _ (by simp) rfl)
     dsimp only [upd, Nat.reduceBEq, cond_true, cond_false]
     refine wpOp_step rfl (fun K' hK' => ?_)
     go_simp
     exact hK' _ _ (hK _ _ (Below.refl _ _) (at_of rfl (rfl)))
    ·obtain ⟨x, rfl⟩ := upd_of (show x 4 = .bool false from hd 4 _ (by simp) rfl)
     dsimp only [upd, Nat.reduceBEq, cond_true, cond_false]
     refine wpOp_step rfl (fun K' hK' => ?_)
     go_simp
     exact hK' _ _ (hK _ _ (Below.refl _ _) (at_of rfl (rfl)))
    ·obtain ⟨x, rfl⟩ := upd_of (show x 4 = .bool false from hd 4 _ (by simp) rfl)
     dsimp only [upd, Nat.reduceBEq, cond_true, cond_false]
     refine wpOp_step rfl (fun K' hK' => ?_)
     go_simp
     exact hK' _ _ (hK _ _ (Below.refl _ _) (at_of rfl (rfl)))
    ·obtain ⟨x, rfl⟩ := upd_of (show x 4 = .bool false from hd 4 _ (by simp) rfl)
     dsimp only [upd, Nat.reduceBEq, cond_true, cond_false]
     refine wpOp_step rfl (fun K' hK' => ?_)
     go_simp
     exact hK' _ _ (hK _ _ (Below.refl _ _) (at_of rfl (rfl)))
    ·obtain ⟨x, rfl⟩ := upd_of (show x 4 = .bool false from hd 4 _ (by simp) rfl)
     dsimp only [upd, Nat.reduceBEq, cond_true, cond_false]
     refine wpOp_step rfl (fun K' hK' => ?_)
     go_simp
     exact hK' _ _ (hK _ _ (Below.refl _ _) (at_of rfl (rfl)))
    ·obtain ⟨x, rfl⟩ := upd_of (show x 4 = .bool false from hd 4 _ (by simp) rfl)
     dsimp only [upd, Nat.reduceBEq, cond_true, cond_false]
     refine wpOp_step rfl (fun K' hK' => ?_)
     go_simp
     exact hK' _ _ (hK _ _ (Below.refl _ _) (at_of rfl (rfl)))
    ·obtain ⟨x, rfl⟩ := upd_of (show x 4 = .bool false from hd 4 _ (by simp) rfl)
     dsimp only [upd, Nat.reduceBEq, cond_true, cond_false]
     refine wpOp_step rfl (fun K' hK' => ?_)
     go_simp
     exact hK' _ _ (hK _ _ (Below.refl _ _) (at_of rfl (rfl)))
    ·obtain ⟨x, rfl⟩ := upd_of (show x 4 = .bool false from hd 4 _ (by simp) rfl)
     dsimp only [upd, Nat.reduceBEq, cond_true, cond_false]
     refine wpOp_step rfl (fun K' hK' => ?_)
     go_simp
     exact hK' _ _ (hK _ _ (Below.refl _ _) (at_of rfl (rfl)))
   case fin5f =>
    rintro x v gv hd
    obtain ⟨x, rfl⟩ := upd_of (show x 4 = .bool false from hd 4 _ (by omega) rfl)
    clear hd
    show wpList Try.prog _ _ (List.drop 23 _) (⟨#[_, _, _, _, _, _, _, _, _, _, _, _, _, _, _, _, _, x 0, x 1, x 2, x 3, .bool false, x 5, x 6, x 7, x 8, x 9, x 10, x 11, x 12, x 13, x 14, x 15, x 16, x 17, x 18, x 19, x 20, x 21, x 22, _, _, _, _], []⟩ : Act) v
    simp only [List.drop_succ_cons, List.drop_zero]
    go_wp2
    go_roundw
    case rel => exact Lib.hid ⟨k + 1, by omega, by omega, by go_num, d1, by rw [E8.out]; exact HNX.out, hD1, HP1.out, hS1.gr gv, kW.tr (Kx.gr gv)⟩
    case measure => simp [intOf]; omega
  case pos =>
   have hov' : (1 - (b : Int) == (i : Int)) = true := by rw [beq_iff_eq]; omega
   have HOV := Lib.hid hov'
   have hov2 : 1 - (k - 5) % 2 = i := by rw [← EB.out]; exact hov
   have HOV2 := Lib.hid hov2
   clear hov hov' hov2
   refine (show (∀ s : Nat → Value, Code.wp Try.prog _ _ ⟨#[.pointer (some ⟨X.S, 0, none⟩), .int .i64 i, undef, undef, s 4, .int .i64 k, .int .i64 a, .int .i64 b, s 8, s 9, s 10, s 11, s 12, s 13, s 14, s 15, s 16, s 17, s 18, s 19, s 20, s 21, s 22, s 23, s 24, s 25, s 26, s 27, s 28, s 29, s 30, s 31, s 32, s 33, s 34, s 35, s 36, s 37, s 38, s 39, s 40, s 41, s 42, s 43], []⟩ _) → _ from fun h => h ((fun l : List Value => fun i => l.getD i undef) [undef, undef, undef, undef, _, undef, undef, undef, _, _, _, _, _, _, _, _, _, _, _, _, _, _, _, _, _, _, _, _, _, _, _, _, _, _, _, _, _, _, _, _, _, _, _, _])) ?_
   intro s
   refine wp_region_facts 23 [(1, 0), (3, 1), (3, 2), (4, 3), (5, 4), (6, 4), (7, 4), (8, 4), (8, 7), (9, 4), (9, 8), (10, 4), (10, 9), (11, 4), (12, 4), (13, 4), (13, 10), (13, 11), (13, 12), (14, 4), (15, 4), (16, 4), (16, 14), (17, 4), (17, 16), (18, 4), (18, 17), (19, 4), (19, 15), (19, 18), (20, 4), (20, 19), (21, 4), (22, 4), (22, 20), (22, 21)] (fun x => ⟨#[.pointer (some ⟨X.S, 0, none⟩), .int .i64 i, undef, undef, s 4, .int .i64 k, .int .i64 a, .int .i64 b, s 8, s 9, s 10, s 11, s 12, s 13, s 14, s 15, s 16, x 0, x 1, x 2, x 3, x 4, x 5, x 6, x 7, x 8, x 9, x 10, x 11, x 12, x 13, x 14, x 15, x 16, x 17, x 18, x 19, x 20, x 21, x 22, s 40, s 41, s 42, s 43], []⟩) (fun j => s (17 + j)) [fun _ x => x = .int .i64 b, fun _ x => x = .int .i64 (1 - (b : Int)), fun _ x => x = .int .i64 i, fun _ x => x = .bool true, fun _ x => x = .bool true, fun _ x => x = .pointer (some ⟨X.S, 0, none⟩), fun _ x => x = .int .i64 k, fun _ x => x = .pointer (some ⟨X.S, 0, none⟩), fun _ x => x = .pointer (some ⟨X.S, 0, none⟩), fun _ x => x = .pointer (some ⟨X.S, 0, none⟩), fun _ x => x = .agg #[.int .i64 X.tab, .slice X.ra X.R.pan.length X.rac, .int .i64 X.R.hei, .slice X.rt X.R.top.length X.rtc, .slice X.rb X.R.bot.length X.rbc, .int .i64 X.R.slo, .bool X.R.opn, .int .i64 X.R.off, .slice X.rt X.R.top.length X.rtc, .slice X.rb X.R.bot.length X.rbc], fun _ x => x = .int .i64 a, fun _ x => x = .int .i64 b, fun _ x => x = .agg #[.int .i64 (X.R.fl k).lo, .int .i64 (X.R.fl k).hi], fun _ x => x = .pointer (some ⟨X.S, 0, none⟩), fun _ x => x = .int .i64 a, fun _ x => x = .pointer (some ⟨X.S, 0, none⟩), fun _ x => x = .pointer (some ⟨X.S, 23, none⟩), fun _ x => x = .pointer (some ⟨X.S, 31, none⟩), fun _ x => x = .pointer (some ⟨X.S, 31 + a, none⟩), fun _ x => x = .slice (some ⟨mb, 0, none⟩) 2 mc, fun _ x => x = .int .i64 b, fun _ x => x = .pointer (some ⟨mb, b, none⟩)] (by rfl) (by kernel_rfl) (by kernel_rfl) (by kernel_rfl) (stays_cons (Stays.eq _) (stays_cons (Stays.eq _) (stays_cons (Stays.eq _) (stays_cons (Stays.eq _) (stays_cons (Stays.eq _) (stays_cons (Stays.eq _) (stays_cons (Stays.eq _) (stays_cons (Stays.eq _) (stays_cons (Stays.eq _) (stays_cons (Stays.eq _) (stays_cons (Stays.eq _) (stays_cons (Stays.eq _) (stays_cons (Stays.eq _) (stays_cons (Stays.eq _) (stays_cons (Stays.eq _) (stays_cons (Stays.eq _) (stays_cons (Stays.eq _) (stays_cons (Stays.eq _) (stays_cons (Stays.eq _) (stays_cons (Stays.eq _) (stays_cons (Stays.eq _) (stays_cons (Stays.eq _) (stays_cons (Stays.eq _) stays_nil))))))))))))))))))))))) ?step5t ?fin5t
   case step5t =>
    rintro i hi x v gv hd K hK
    have hi8 : i = 0 ∨ i = 1 ∨ i = 2 ∨ i = 3 ∨ i = 4 ∨ i = 5 ∨ i = 6 ∨ i = 7 ∨ i = 8 ∨ i = 9 ∨ i = 10 ∨ i = 11 ∨ i = 12 ∨ i = 13 ∨ i = 14 ∨ i = 15 ∨ i = 16 ∨ i = 17 ∨ i = 18 ∨ i = 19 ∨ i = 20 ∨ i = 21 ∨ i = 22 := by omega
    rcases hi8 with rfl | rfl | rfl | rfl | rfl | rfl | rfl | rfl | rfl | rfl | rfl | rfl | rfl | rfl | rfl | rfl | rfl | rfl | rfl | rfl | rfl | rfl | rfl
    ·dsimp only [upd, Nat.reduceBEq, cond_true, cond_false]
     refine wpOp_step rfl (fun K' hK' => ?_)
     go_simp
     exact hK' _ _ (hK _ _ (Below.refl _ _) (at_of rfl (rfl)))
    ·obtain ⟨x, rfl⟩ := upd_of (show x 0 = .int .i64 b from hd 0 _ (by simp) rfl)
     dsimp only [upd, Nat.reduceBEq, cond_true, cond_false]
     refine wpOp_step rfl (fun K' hK' => ?_)
     go_simp
     refine (overG b hb v).mono ?_
     rintro e v' ⟨rfl, hg⟩
     exact hK' _ _ (hK _ _ hg (at_of rfl (rfl)))
    ·dsimp only [upd, Nat.reduceBEq, cond_true, cond_false]
     refine wpOp_step rfl (fun K' hK' => ?_)
     go_simp
     exact hK' _ _ (hK _ _ (Below.refl _ _) (at_of rfl (rfl)))
    ·obtain ⟨x, rfl⟩ := upd_of (show x 1 = .int .i64 (1 - (b : Int)) from hd 1 _ (by simp) rfl)
     obtain ⟨x, rfl⟩ := upd_of (show x 2 = .int .i64 i from hd 2 _ (by simp) rfl)
     dsimp only [upd, Nat.reduceBEq, cond_true, cond_false]
     refine wpOp_step rfl (fun K' hK' => ?_)
     have q := HOV.out
     go_simp
     exact hK' _ _ (hK _ _ (Below.refl _ _) (at_of rfl (rfl)))
    ·obtain ⟨x, rfl⟩ := upd_of (show x 3 = .bool true from hd 3 _ (by simp) rfl)
     dsimp only [upd, Nat.reduceBEq, cond_true, cond_false]
     refine wpOp_step rfl (fun K' hK' => ?_)
     go_simp
     exact hK' _ _ (hK _ _ (Below.refl _ _) (at_of rfl (rfl)))
    ·obtain ⟨x, rfl⟩ := upd_of (show x 4 = .bool true from hd 4 _ (by simp) rfl)
     dsimp only [upd, Nat.reduceBEq, cond_true, cond_false]
     refine wpOp_step rfl (fun K' hK' => ?_)
     go_simp
     exact hK' _ _ (hK _ _ (Below.refl _ _) (at_of rfl (rfl)))
    ·obtain ⟨x, rfl⟩ := upd_of (show x 4 = .bool true from hd 4 _ (by simp) rfl)
     dsimp only [upd, Nat.reduceBEq, cond_true, cond_false]
     refine wpOp_step rfl (fun K' hK' => ?_)
     go_simp
     exact hK' _ _ (hK _ _ (Below.refl _ _) (at_of rfl (rfl)))
    ·obtain ⟨x, rfl⟩ := upd_of (show x 4 = .bool true from hd 4 _ (by simp) rfl)
     dsimp only [upd, Nat.reduceBEq, cond_true, cond_false]
     refine wpOp_step rfl (fun K' hK' => ?_)
     go_simp
     exact hK' _ _ (hK _ _ (Below.refl _ _) (at_of rfl (rfl)))
    ·obtain ⟨x, rfl⟩ := upd_of (show x 4 = .bool true from hd 4 _ (by simp) rfl)
     obtain ⟨x, rfl⟩ := upd_of (show x 7 = .pointer (some ⟨X.S, 0, none⟩) from hd 7 _ (by simp) rfl)
     dsimp only [upd, Nat.reduceBEq, cond_true, cond_false]
     refine wpOp_step rfl (fun K' hK' => ?_)
     go_simp
     exact hK' _ _ (hK _ _ (Below.refl _ _) (at_of rfl (rfl)))
    ·obtain ⟨x, rfl⟩ := upd_of (show x 4 = .bool true from hd 4 _ (by simp) rfl)
     obtain ⟨x, rfl⟩ := upd_of (show x 8 = .pointer (some ⟨X.S, 0, none⟩) from hd 8 _ (by simp) rfl)
     dsimp only [upd, Nat.reduceBEq, cond_true, cond_false]
     refine wpOp_step rfl (fun K' hK' => ?_)
     go_simp
     exact hK' _ _ (hK _ _ (Below.refl _ _) (at_of rfl (rfl)))
    ·obtain ⟨x, rfl⟩ := upd_of (show x 4 = .bool true from hd 4 _ (by simp) rfl)
     obtain ⟨x, rfl⟩ := upd_of (show x 9 = .pointer (some ⟨X.S, 0, none⟩) from hd 9 _ (by simp) rfl)
     dsimp only [upd, Nat.reduceBEq, cond_true, cond_false]
     refine wpOp_step rfl (fun K' hK' => ?_)
     rw [if_pos (by rfl)]
     refine wp_load_mid 124 _ rfl X.S 0 (by rfl) [.int .i64 X.tab, .slice X.ra X.R.pan.length X.rac, .int .i64 X.R.hei, .slice X.rt X.R.top.length X.rtc, .slice X.rb X.R.bot.length X.rbc, .int .i64 X.R.slo, .bool X.R.opn, .int .i64 X.R.off, .slice X.rt X.R.top.length X.rtc, .slice X.rb X.R.bot.length X.rbc] _ (fun j u hu => (HS1.out.gr gv).at0 j u hu) Try.underlying124 rfl (by kernel_rfl) ?_
     exact hK' _ _ (hK _ _ (Below.refl _ _) (at_of rfl (rfl)))
    ·obtain ⟨x, rfl⟩ := upd_of (show x 4 = .bool true from hd 4 _ (by simp) rfl)
     dsimp only [upd, Nat.reduceBEq, cond_true, cond_false]
     refine wpOp_step rfl (fun K' hK' => ?_)
     go_simp
     exact hK' _ _ (hK _ _ (Below.refl _ _) (at_of rfl (rfl)))
    ·obtain ⟨x, rfl⟩ := upd_of (show x 4 = .bool true from hd 4 _ (by simp) rfl)
     dsimp only [upd, Nat.reduceBEq, cond_true, cond_false]
     refine wpOp_step rfl (fun K' hK' => ?_)
     go_simp
     exact hK' _ _ (hK _ _ (Below.refl _ _) (at_of rfl (rfl)))
    ·obtain ⟨x, rfl⟩ := upd_of (show x 4 = .bool true from hd 4 _ (by simp) rfl)
     obtain ⟨x, rfl⟩ := upd_of (show x 10 = .agg #[.int .i64 X.tab, .slice X.ra X.R.pan.length X.rac, .int .i64 X.R.hei, .slice X.rt X.R.top.length X.rtc, .slice X.rb X.R.bot.length X.rbc, .int .i64 X.R.slo, .bool X.R.opn, .int .i64 X.R.off, .slice X.rt X.R.top.length X.rtc, .slice X.rb X.R.bot.length X.rbc] from hd 10 _ (by simp) rfl)
     obtain ⟨x, rfl⟩ := upd_of (show x 11 = .int .i64 a from hd 11 _ (by simp) rfl)
     obtain ⟨x, rfl⟩ := upd_of (show x 12 = .int .i64 b from hd 12 _ (by simp) rfl)
     dsimp only [upd, Nat.reduceBEq, cond_true, cond_false]
     refine wpOp_step rfl (fun K' hK' => ?_)
     go_simp
     refine (HFL.out v (hrows.2.1.grow gv) (hrows.2.2.grow gv)).mono ?_
     rintro e v' ⟨rfl, hg⟩
     exact hK' _ _ (hK _ _ hg (at_of rfl (rfl)))
    ·obtain ⟨x, rfl⟩ := upd_of (show x 4 = .bool true from hd 4 _ (by simp) rfl)
     dsimp only [upd, Nat.reduceBEq, cond_true, cond_false]
     refine wpOp_step rfl (fun K' hK' => ?_)
     go_simp
     exact hK' _ _ (hK _ _ (Below.refl _ _) (at_of rfl (rfl)))
    ·obtain ⟨x, rfl⟩ := upd_of (show x 4 = .bool true from hd 4 _ (by simp) rfl)
     dsimp only [upd, Nat.reduceBEq, cond_true, cond_false]
     refine wpOp_step rfl (fun K' hK' => ?_)
     go_simp
     exact hK' _ _ (hK _ _ (Below.refl _ _) (at_of rfl (rfl)))
    ·obtain ⟨x, rfl⟩ := upd_of (show x 4 = .bool true from hd 4 _ (by simp) rfl)
     obtain ⟨x, rfl⟩ := upd_of (show x 14 = .pointer (some ⟨X.S, 0, none⟩) from hd 14 _ (by simp) rfl)
     dsimp only [upd, Nat.reduceBEq, cond_true, cond_false]
     refine wpOp_step rfl (fun K' hK' => ?_)
     go_simp
     exact hK' _ _ (hK _ _ (Below.refl _ _) (at_of rfl (rfl)))
    ·obtain ⟨x, rfl⟩ := upd_of (show x 4 = .bool true from hd 4 _ (by simp) rfl)
     obtain ⟨x, rfl⟩ := upd_of (show x 16 = .pointer (some ⟨X.S, 0, none⟩) from hd 16 _ (by simp) rfl)
     dsimp only [upd, Nat.reduceBEq, cond_true, cond_false]
     refine wpOp_step rfl (fun K' hK' => ?_)
     go_simp
     exact hK' _ _ (hK _ _ (Below.refl _ _) (at_of rfl (rfl)))
    ·obtain ⟨x, rfl⟩ := upd_of (show x 4 = .bool true from hd 4 _ (by simp) rfl)
     obtain ⟨x, rfl⟩ := upd_of (show x 17 = .pointer (some ⟨X.S, 23, none⟩) from hd 17 _ (by simp) rfl)
     dsimp only [upd, Nat.reduceBEq, cond_true, cond_false]
     refine wpOp_step rfl (fun K' hK' => ?_)
     go_simp
     exact hK' _ _ (hK _ _ (Below.refl _ _) (at_of rfl (rfl)))
    ·obtain ⟨x, rfl⟩ := upd_of (show x 4 = .bool true from hd 4 _ (by simp) rfl)
     obtain ⟨x, rfl⟩ := upd_of (show x 15 = .int .i64 a from hd 15 _ (by simp) rfl)
     obtain ⟨x, rfl⟩ := upd_of (show x 18 = .pointer (some ⟨X.S, 31, none⟩) from hd 18 _ (by simp) rfl)
     dsimp only [upd, Nat.reduceBEq, cond_true, cond_false]
     refine wpOp_step rfl (fun K' hK' => ?_)
     go_simp
     exact hK' _ _ (hK _ _ (Below.refl _ _) (at_of rfl (rfl)))
    ·obtain ⟨x, rfl⟩ := upd_of (show x 4 = .bool true from hd 4 _ (by simp) rfl)
     obtain ⟨x, rfl⟩ := upd_of (show x 19 = .pointer (some ⟨X.S, 31 + a, none⟩) from hd 19 _ (by simp) rfl)
     dsimp only [upd, Nat.reduceBEq, cond_true, cond_false]
     refine wpOp_step rfl (fun K' hK' => ?_)
     have q := gv.keep q31
     go_simp
     exact hK' _ _ (hK _ _ (Below.refl _ _) (at_of rfl (rfl)))
    ·obtain ⟨x, rfl⟩ := upd_of (show x 4 = .bool true from hd 4 _ (by simp) rfl)
     dsimp only [upd, Nat.reduceBEq, cond_true, cond_false]
     refine wpOp_step rfl (fun K' hK' => ?_)
     go_simp
     exact hK' _ _ (hK _ _ (Below.refl _ _) (at_of rfl (rfl)))
    ·obtain ⟨x, rfl⟩ := upd_of (show x 4 = .bool true from hd 4 _ (by simp) rfl)
     obtain ⟨x, rfl⟩ := upd_of (show x 20 = .slice (some ⟨mb, 0, none⟩) 2 mc from hd 20 _ (by simp) rfl)
     obtain ⟨x, rfl⟩ := upd_of (show x 21 = .int .i64 b from hd 21 _ (by simp) rfl)
     dsimp only [upd, Nat.reduceBEq, cond_true, cond_false]
     refine wpOp_step rfl (fun K' hK' => ?_)
     go_simp
     exact hK' _ _ (hK _ _ (Below.refl _ _) (at_of rfl (rfl)))
   case fin5t =>
    rintro x v gv hd
    obtain ⟨x, rfl⟩ := upd_of (show x 4 = .bool true from hd 4 _ (by omega) rfl)
    obtain ⟨x, rfl⟩ := upd_of (show x 5 = .pointer (some ⟨X.S, 0, none⟩) from hd 5 _ (by omega) rfl)
    obtain ⟨x, rfl⟩ := upd_of (show x 6 = .int .i64 k from hd 6 _ (by omega) rfl)
    obtain ⟨x, rfl⟩ := upd_of (show x 13 = .agg #[.int .i64 (X.R.fl k).lo, .int .i64 (X.R.fl k).hi] from hd 13 _ (by omega) rfl)
    obtain ⟨x, rfl⟩ := upd_of (show x 22 = .pointer (some ⟨mb, b, none⟩) from hd 22 _ (by omega) rfl)
    clear hd
    show wpList Try.prog _ _ (List.drop 23 _) (⟨#[_, _, _, _, _, _, _, _, _, _, _, _, _, _, _, _, _, x 0, x 1, x 2, x 3, .bool true, .pointer (some ⟨X.S, 0, none⟩), .int .i64 k, x 7, x 8, x 9, x 10, x 11, x 12, .agg #[.int .i64 (X.R.fl k).lo, .int .i64 (X.R.fl k).hi], x 14, x 15, x 16, x 17, x 18, x 19, x 20, x 21, .pointer (some ⟨mb, b, none⟩), _, _, _, _], []⟩ : Act) v
    simp only [List.drop_succ_cons, List.drop_zero]
    obtain ⟨⟨d2, ok⟩, hdr⟩ : ∃ r, drawD X.R.opn X.W X.cl X.ch (fallE X.cl) k (X.R.fl k) (meOf k) d1 = r := ⟨_, rfl⟩
    have HDR := Lib.hid hdr
    have hfall : Calls Try.prog 143 #[.pointer (some ⟨X.S, 0, none⟩), .int .i64 k, .agg #[.int .i64 (X.R.fl k).lo, .int .i64 (X.R.fl k).hi], .pointer (some ⟨mb, b, none⟩)] v fun e w' => e = .returned (.bool ok) ∧ Se X d2 w' ∧ Kx X.Z v w' := by
     have ho := hR.fl h5 h8
     have := fall_any X d1 (meOf k) mb b HMA.out k (by omega) (X.R.fl k) ho.r0 ho.r1 ho.r2 hD1 hW (fun u u0 u1 => gapK h5 h8 hD1 (fun z hz => HP.out z (by rw [HOV2.out, HP1.out] at hz; exact hz)) (by have := ho.r0; omega) (by have := ho.r2; omega)) (fun u v' huv he => fall_mono h5 h8 hD1 huv he) v (hS1.gr gv)
     rw [hdr] at this
     exact this
    clear hdr
    have hD2 : DrL d2 ∧ d2.p = d.p := by
     have e : d2 = (drawD X.R.opn X.W X.cl X.ch (fallE X.cl) k (X.R.fl k) (meOf k) d1).1 := by rw [HDR.out]
     rw [e]
     exact ⟨hD1.put _ _, (put_meOf _ _ _).1.trans HP1.out⟩
    cases ok with
    | true =>
     have HNX := Lib.hid ((flapsFrom_go (R := X.R) (n := 8 - k) HOV2.out HDR.out).symm.trans ((congrArg (fun n => flapsFrom X.R X.W X.cl X.ch i n k d1) E9.out).symm.trans hF.out))
     go_wp2_with (go_at_call 143; refine hfall.mono ?_; rintro e w5 ⟨rfl, hS5, k5⟩)
     go_roundw
     case rel => exact Lib.hid ⟨k + 1, by omega, by omega, by go_num, d2, by rw [E8.out]; exact HNX.out, hD2.1, hD2.2, hS5, kW.tr ((Kx.gr gv).tr k5)⟩
     case measure => simp [intOf]; omega
    | false =>
     have HNX : Hid ((d2, k) = r0) := Lib.hid ((flapsFrom_no (R := X.R) (n := 8 - k) HOV2.out HDR.out).symm.trans ((congrArg (fun n => flapsFrom X.R X.W X.cl X.ch i n k d1) E9.out).symm.trans hF.out))
     go_wp2_with (go_at_call 143; refine hfall.mono ?_; rintro e w5 ⟨rfl, hS5, k5⟩)
     go_ret
     rw [← HNX.out]
     exact ⟨rfl, hS5, kW.tr ((Kx.gr gv).tr k5)⟩

end Go.Proofs.Ytoihnilgmdcndaa

namespace Go.Proofs.Ytoihnilgmdcndaa
open Go.RowKit

end Go.Proofs.Ytoihnilgmdcndaa

namespace Go.Proofs.Ytoihnilgmdcndaa
set_option linter.unusedVariables false
set_option linter.unusedSimpArgs false
open Go.RowKit Go.Shelf
attribute [local go_sem] Oper.semAt_some

def encE (x : Int) : Array Value := #[.int .i64 x]

theorem each_any (lo hi : Int) (w : World) :
  Calls Try.prog 124 #[.agg #[.int .i64 lo, .int .i64 hi]] w fun e w' => ∃ b, e = .returned (.func (.func 142) #[] #[.pointer (some ⟨b, 0, none⟩)]) ∧ w.heap.size ≤ b ∧ Own w' b [.int .i64 lo, .int .i64 hi] ∧ Gr w w' := by
 have g := Gr.al w (.cells #[.int .i64 lo, .int .i64 hi] 37)
 have o := Own.new w [.int .i64 lo, .int .i64 hi] 37 w.heap.size rfl
 go_enter Try.func124, Try.ntmps124
 go_wp2
 go_ret
 exact ⟨_, rfl, Nat.le_refl _, o, g⟩

theorem starts_any (lo hi : Int) (w : World) :
  Calls Try.prog 86 #[.agg #[.int .i64 lo, .int .i64 hi]] w fun e w' => ∃ b, e = .returned (.func (.func 112) #[] #[.pointer (some ⟨b, 0, none⟩)]) ∧ w.heap.size ≤ b ∧ Own w' b [.int .i64 lo, .int .i64 hi] ∧ Gr w w' := by
 have g := Gr.al w (.cells #[.int .i64 lo, .int .i64 hi] 37)
 have o := Own.new w [.int .i64 lo, .int .i64 hi] 37 w.heap.size rfl
 go_enter Try.func86, Try.ntmps86
 go_wp2
 go_ret
 exact ⟨_, rfl, Nat.le_refl _, o, g⟩

/-- The first k that come. -/
def comeTo (f : Nat → Int) (k : Nat) : List Int := (List.range k).map f

theorem comeTo_succ (f : Nat → Int) (k : Nat) : comeTo f (k + 1) = comeTo f k ++ [f k] := by simp [comeTo, List.range_succ]

theorem comeTo_len (f : Nat → Int) (k : Nat) : (comeTo f k).length = k := by simp [comeTo]

def eachAt (lo : Int) (k : Nat) : Int := lo + (k : Int)

def startAt (lo : Int) : Nat → Int
 | 0 => lo
 | k + 1 => (startAt lo k / 500 + 1) * 500

theorem start_up (lo : Int) (k : Nat) : startAt lo k < startAt lo (k + 1) := by
 show startAt lo k < (startAt lo k / 500 + 1) * 500
 omega

theorem start_ge (lo : Int) : ∀ k, lo ≤ startAt lo k
 | 0 => Int.le_refl _
 | k + 1 => by have := start_ge lo k; have := start_up lo k; omega

set_option maxRecDepth 100000 in
set_option maxHeartbeats 2000000 in
theorem each_seq (n : Nat) (hn : 1 ≤ n) (b : Nat) (lo hi : Int) (l0 : -1000000 ≤ lo) (h1 : hi ≤ 1000000) (Z0 : Nat → Prop) (w0 : World) (hst : St Z0 (fun V => Own V b [.int .i64 lo, .int .i64 hi]) w0) :
  SeqX Fence.wide n Try.prog 142 #[.pointer (some ⟨b, 0, none⟩)] encE (fun pre _ x _ => x = eachAt lo pre.length ∧ x ≤ hi) (fun xs => ∃ k, xs = comeTo (eachAt lo) k ∧ hi < eachAt lo k ∧ ∀ j, j < k → eachAt lo j ≤ hi) (fun pre => ∃ k, pre = comeTo (eachAt lo) k ∧ ∀ j, j < k → eachAt lo j ≤ hi) Z0 w0 := by
 intro i0 J Jx X0 W hk0 hX0 hJ hJx hY h0
 refine callsIn_of_wp Try.func142 rfl trivial ?_ rfl
 simp only [Try.ntmps142, List.size_toArray, List.length_cons, List.length_nil, Nat.reduceAdd, Nat.reduceSub, Array.replicate_succ, Array.replicate_zero, List.push_toArray, List.append_toArray, List.nil_append, List.cons_append]
 have HY := Lib.hid hY
 have HJ := Lib.hid hJ
 have HS := Lib.hid hst
 have H0 := Lib.hid h0
 have HK := Lib.hid hk0
 have HX0 := Lib.hid hX0
 clear hY hJ hX0 hst hJx h0 hk0
 have d0 := HS.out W HK.out
 obtain ⟨q0, q1⟩ := d0.1.c2
 gi_wp2
 clear q0 q1 d0
 gi_loopw [3] (fun i wr => Hid (∃ k : Nat, (∀ j, j < k → eachAt lo j ≤ hi) ∧ i = .int .i64 (eachAt lo k) ∧ ∃ X, J (comeTo (eachAt lo) k) X noBlock wr ∧ (∀ i, X i → i < wr.heap.size ∧ (Z0 i ∨ w0.heap.size ≤ i)) ∧ Kx Z0 w0 wr)) (fun i _ => (hi + 1 - intOf i).toNat)
 case atStart => exact Lib.hid ⟨0, fun j h => by omega, by simp [eachAt], X0, H0.out, HX0.out, HK.out⟩
 case round =>
  obtain ⟨k, hk, rfl, X, hj, hX, hkV⟩ := hrel.out
  clear hrel
  have d1 := HS.out wr hkV
  obtain ⟨q0, q1⟩ := d1.1.c2
  have HX := Lib.hid hX
  have HKV := Lib.hid hkV
  have HK' := Lib.hid hk
  have hM := comeTo_succ (eachAt lo) k
  have hU : eachAt lo k < eachAt lo (k + 1) := by simp only [eachAt]; omega
  have hE : eachAt lo (k + 1) = eachAt lo k + 1 := by simp only [eachAt]; omega
  have hG : lo ≤ eachAt lo k := by simp only [eachAt]; omega
  have HE := Lib.hid hE
  have hlen := comeTo_len (eachAt lo) k
  have HL := Lib.hid hlen
  clear hX hkV d1 hk hlen
  obtain ⟨c, hc⟩ : ∃ c, c = eachAt lo k := ⟨_, rfl⟩
  have HC := Lib.hid hc
  rw [← hc] at hM hU hE hG ⊢
  have HM := Lib.hid hM
  have HU := Lib.hid hU
  rw [hE] at hU
  clear hM hE hc
  by_cases hle : c ≤ hi
  ·have v0 : IntKind.i64.wrap (c + 1) = c + 1 := IntWalk.i64_in _ (by omega)
   obtain ⟨fn, tmps, assign, body, hy, hRR⟩ := HY.out (comeTo (eachAt lo) k) c X noBlock wr hj ⟨by rw [HL.out]; exact HC.out, hle⟩ ⟨fun i e => (HX.out i e).1, fun i e => e.elim, fun i e e' => e'⟩
   dsimp only [encE] at hy
   clear hj
   gi_wp2
   refine hRR.mono ?_
   clear hRR hy q0 q1
   rintro e W3 ⟨hk3, (⟨rfl, X', hJ3, hX3⟩ | ⟨rfl, hJx3⟩)⟩
   ·have HJ3 := Lib.hid hJ3
    have HX3 := Lib.hid hX3
    have Hk3 := Lib.hid hk3
    clear hJ3 hX3 hk3
    gi_wp2
    go_roundw
    case rel =>
     have hw := HKV.out.size
     refine Lib.hid ⟨k + 1, fun j hj' => ?_, by rw [HE.out, ← HC.out], X', by rw [HM.out]; exact HJ3.out, fun i e => ⟨(HX3.out i e).1, ?_⟩, HKV.out.th Hk3.out fun i e => (HX.out i e).2⟩
     ·rcases Nat.lt_or_ge j k with h | h
      ·exact HK'.out j h
      ·obtain rfl : j = k := by omega
       rw [← HC.out]
       exact hle
     ·rcases (HX3.out i e).2 with h | h
      ·exact (HX.out i h).2
      ·exact .inr (by omega)
    case measure => simp [intOf]; omega
   ·gi_wp2
    refine bodyPost_ret (results_none rfl _ _ _) rfl ?_
    refine ⟨⟨_, rfl⟩, .inr ⟨_, _, ⟨k + 1, HM.out.symm, fun j hj' => ?_⟩, hJx3⟩⟩
    rcases Nat.lt_or_ge j k with h | h
    ·exact HK'.out j h
    ·obtain rfl : j = k := by omega
     rw [← HC.out]
     exact hle
  ·gi_wp2
   go_end0
   exact ⟨⟨_, rfl⟩, .inl ⟨_, ⟨k, rfl, by rw [← HC.out]; omega, HK'.out⟩, X, _, hj⟩⟩

set_option maxRecDepth 100000 in
set_option maxHeartbeats 2000000 in
theorem starts_seq (n : Nat) (hn : 1 ≤ n) (b : Nat) (lo hi : Int) (l0 : 1 ≤ lo) (h1 : hi ≤ 1000000) (Z0 : Nat → Prop) (w0 : World) (hst : St Z0 (fun V => Own V b [.int .i64 lo, .int .i64 hi]) w0) :
  SeqX Fence.wide n Try.prog 112 #[.pointer (some ⟨b, 0, none⟩)] encE (fun pre _ x _ => x = startAt lo pre.length ∧ x ≤ hi) (fun xs => ∃ k, xs = comeTo (startAt lo) k ∧ hi < startAt lo k ∧ ∀ j, j < k → startAt lo j ≤ hi) (fun pre => ∃ k, pre = comeTo (startAt lo) k ∧ ∀ j, j < k → startAt lo j ≤ hi) Z0 w0 := by
 intro i0 J Jx X0 W hk0 hX0 hJ hJx hY h0
 refine callsIn_of_wp Try.func112 rfl trivial ?_ rfl
 simp only [Try.ntmps112, List.size_toArray, List.length_cons, List.length_nil, Nat.reduceAdd, Nat.reduceSub, Array.replicate_succ, Array.replicate_zero, List.push_toArray, List.append_toArray, List.nil_append, List.cons_append]
 have HY := Lib.hid hY
 have HJ := Lib.hid hJ
 have HS := Lib.hid hst
 have H0 := Lib.hid h0
 have HK := Lib.hid hk0
 have HX0 := Lib.hid hX0
 clear hY hJ hX0 hst hJx h0 hk0
 have d0 := HS.out W HK.out
 obtain ⟨q0, q1⟩ := d0.1.c2
 gi_wp2
 clear q0 q1 d0
 gi_loopw [3] (fun i wr => Hid (∃ k : Nat, (∀ j, j < k → startAt lo j ≤ hi) ∧ i = .int .i64 (startAt lo k) ∧ ∃ X, J (comeTo (startAt lo) k) X noBlock wr ∧ (∀ i, X i → i < wr.heap.size ∧ (Z0 i ∨ w0.heap.size ≤ i)) ∧ Kx Z0 w0 wr)) (fun i _ => (hi + 1 - intOf i).toNat)
 case atStart => exact Lib.hid ⟨0, fun j h => by omega, by rfl, X0, H0.out, HX0.out, HK.out⟩
 case round =>
  obtain ⟨k, hk, rfl, X, hj, hX, hkV⟩ := hrel.out
  clear hrel
  have d1 := HS.out wr hkV
  obtain ⟨q0, q1⟩ := d1.1.c2
  have HX := Lib.hid hX
  have HKV := Lib.hid hkV
  have HK' := Lib.hid hk
  have hM := comeTo_succ (startAt lo) k
  have hU : startAt lo k < startAt lo (k + 1) := by exact start_up lo k
  have hE : startAt lo (k + 1) = (startAt lo k / 500 + 1) * 500 := by rfl
  have hG : lo ≤ startAt lo k := by exact start_ge lo k
  have HE := Lib.hid hE
  have hlen := comeTo_len (startAt lo) k
  have HL := Lib.hid hlen
  clear hX hkV d1 hk hlen
  obtain ⟨c, hc⟩ : ∃ c, c = startAt lo k := ⟨_, rfl⟩
  have HC := Lib.hid hc
  rw [← hc] at hM hU hE hG ⊢
  have HM := Lib.hid hM
  have HU := Lib.hid hU
  rw [hE] at hU
  clear hM hE hc
  by_cases hle : c ≤ hi
  ·have v0 : IntKind.i64.wrap (c / 500 + 1) = c / 500 + 1 := IntWalk.i64_in _ (by omega)
   have v1 : IntKind.i64.wrap ((c / 500 + 1) * 500) = (c / 500 + 1) * 500 := IntWalk.i64_in _ (by omega)
   have v2 : c.tdiv 500 = c / 500 := Int.tdiv_eq_ediv_of_nonneg (by omega)
   have v3 : IntKind.i64.wrap (c / 500) = c / 500 := IntWalk.i64_in _ (by omega)
   obtain ⟨fn, tmps, assign, body, hy, hRR⟩ := HY.out (comeTo (startAt lo) k) c X noBlock wr hj ⟨by rw [HL.out]; exact HC.out, hle⟩ ⟨fun i e => (HX.out i e).1, fun i e => e.elim, fun i e e' => e'⟩
   dsimp only [encE] at hy
   clear hj
   gi_wp2
   refine hRR.mono ?_
   clear hRR hy q0 q1
   rintro e W3 ⟨hk3, (⟨rfl, X', hJ3, hX3⟩ | ⟨rfl, hJx3⟩)⟩
   ·have HJ3 := Lib.hid hJ3
    have HX3 := Lib.hid hX3
    have Hk3 := Lib.hid hk3
    clear hJ3 hX3 hk3
    gi_wp2
    go_roundw
    case rel =>
     have hw := HKV.out.size
     refine Lib.hid ⟨k + 1, fun j hj' => ?_, by rw [HE.out, ← HC.out], X', by rw [HM.out]; exact HJ3.out, fun i e => ⟨(HX3.out i e).1, ?_⟩, HKV.out.th Hk3.out fun i e => (HX.out i e).2⟩
     ·rcases Nat.lt_or_ge j k with h | h
      ·exact HK'.out j h
      ·obtain rfl : j = k := by omega
       rw [← HC.out]
       exact hle
     ·rcases (HX3.out i e).2 with h | h
      ·exact (HX.out i h).2
      ·exact .inr (by omega)
    case measure => simp [intOf]; omega
   ·gi_wp2
    refine bodyPost_ret (results_none rfl _ _ _) rfl ?_
    refine ⟨⟨_, rfl⟩, .inr ⟨_, _, ⟨k + 1, HM.out.symm, fun j hj' => ?_⟩, hJx3⟩⟩
    rcases Nat.lt_or_ge j k with h | h
    ·exact HK'.out j h
    ·obtain rfl : j = k := by omega
     rw [← HC.out]
     exact hle
  ·gi_wp2
   go_end0
   exact ⟨⟨_, rfl⟩, .inl ⟨_, ⟨k, rfl, by rw [← HC.out]; omega, HK'.out⟩, X, _, hj⟩⟩

end Go.Proofs.Ytoihnilgmdcndaa

namespace Go.Proofs.Ytoihnilgmdcndaa
set_option linter.unusedVariables false
set_option linter.unusedSimpArgs false
open Go.RowKit

/-- What is said of a value stays while blocks of Z alone turn. -/
def StaysZ (Z : Nat → Prop) (F : World → Value → Prop) : Prop := ∀ v v' x, Kx Z v v' → F v x → F v' x

theorem StaysZ.eq (Z : Nat → Prop) (u : Value) : StaysZ Z (fun _ x => x = u) := fun _ _ _ _ h => h

theorem staysZ_nil {Z : Nat → Prop} : ∀ (i : Nat) (F : World → Value → Prop), ([] : List (World → Value → Prop))[i]? = some F → StaysZ Z F := fun i F h => by simp at h

theorem staysZ_cons {Z : Nat → Prop} {G : World → Value → Prop} {Fs : List (World → Value → Prop)} (h : StaysZ Z G) (hs : ∀ (i : Nat) (F : World → Value → Prop), Fs[i]? = some F → StaysZ Z F) : ∀ (i : Nat) (F : World → Value → Prop), (G :: Fs)[i]? = some F → StaysZ Z F
  | 0, F, e => by simp at e; subst e; exact h
  | i + 1, F, e => hs i F (by simpa using e)

theorem getD_hun {listed : Array Bool} {i : Nat} (h : listed.getD i true = false) : listed.getD i false = false ∧ (listed.setIfInBounds i true).getD i false = true := by
  by_cases hi : i < listed.size
  · simp [hi] at h ⊢
    exact h
  · simp [hi] at h

theorem wp_region_two {P : Program} {Q : Exit → Act → World → Prop} {id : Nat} {W : World} {l : List Oper} (Z : Nat → Prop) (n p q : Nat) (ds : List (Nat × Nat)) (fr : (Nat → Value) → Act) (x0 : Nat → Value) (Fs : List (World → Value → Prop)) (C : World → Prop) (S0 : World → Prop) (S1 : World → Value → Prop) (S2 : World → Value → Value → Prop) {a : Act} (ha : a = fr x0) (hm : P.follows .mixedOrders = true)
    (hB : (decide (n < l.toArray.size) && Region.sinkB .any l.toArray n && Region.chainB .any l.toArray n && minB .any l.toArray n && Region.seqB .any l.toArray (l.toArray.size - n) n (Array.replicate n true ++ Array.replicate (l.toArray.size - n) false)) = true)
    (hD : depB .any l.toArray ds = true) (hpq : (q, p) ∈ ds) (hne : p ≠ q) (hpn : p < n) (hqn : q < n)
    (hst : ∀ (i : Nat) (F : World → Value → Prop), Fs[i]? = some F → StaysZ Z F) (hC : ∀ v v', Kx Z v v' → C v → C v')
    (h0 : ∀ v v', Gr v v' → S0 v → S0 v') (h1 : ∀ v v' x, Gr v v' → S1 v x → S1 v' x) (h2 : ∀ v v' x y, Gr v v' → S2 v x y → S2 v' x y)
    (hC0 : C W.drew) (hS0 : S0 W.drew)
    (hstep : ∀ i, i < n → i ≠ p → i ≠ q → ∀ x v, C v → (∀ (j : Nat) (F : World → Value → Prop), (i, j) ∈ ds → j ≠ p → j ≠ q → Fs[j]? = some F → F v (x j)) → ∀ K : Act → World → Prop, (∀ u v', Gr v v' → (∀ F : World → Value → Prop, Fs[i]? = some F → F v' u) → K (fr (upd x i u)) v') → wpOp P l.toArray Q i K (fr x) v)
    (hp : ∀ x v, C v → S0 v → (∀ (j : Nat) (F : World → Value → Prop), (p, j) ∈ ds → j ≠ p → j ≠ q → Fs[j]? = some F → F v (x j)) → ∀ K : Act → World → Prop, (∀ u v', Kx Z v v' → S1 v' u → K (fr (upd x p u)) v') → wpOp P l.toArray Q p K (fr x) v)
    (hq : ∀ x v, C v → S1 v (x p) → (∀ (j : Nat) (F : World → Value → Prop), (q, j) ∈ ds → j ≠ p → j ≠ q → Fs[j]? = some F → F v (x j)) → ∀ K : Act → World → Prop, (∀ u v', Kx Z v v' → S2 v' (x p) u → K (fr (upd x q u)) v') → wpOp P l.toArray Q q K (fr x) v)
    (hend : ∀ x v, C v → S2 v (x p) (x q) → (∀ (j : Nat) (F : World → Value → Prop), j < n → j ≠ p → j ≠ q → Fs[j]? = some F → F v (x j)) → wpList P l.toArray Q (l.drop n) (fr x) v) : (Code.region id l.toArray true).wp P Q a W := by
  subst ha
  refine wp_region_inv' n ds (fun _ listed a v => ∃ x, a = fr x ∧ C v ∧ (∀ (j : Nat) (F : World → Value → Prop), j ≠ p → j ≠ q → Fs[j]? = some F → listed.getD j false = true → F v (x j)) ∧ (listed.getD q false = true → listed.getD p false = true ∧ S2 v (x p) (x q)) ∧ (listed.getD q false = false → listed.getD p false = true → S1 v (x p)) ∧ (listed.getD p false = false → S0 v)) hm hB hD ⟨x0, rfl, hC0, fun j F _ _ _ h => (by rw [getD_replicate_false] at h; cases h), fun h => (by rw [getD_replicate_false] at h; cases h), fun _ h => (by rw [getD_replicate_false] at h; cases h), fun _ => hS0⟩ ?_ ?_
  · rintro i hi listed a v hun hdep ⟨x, rfl, hc, hf, a2, a1, a0⟩
    have hdf : ∀ (j : Nat) (F : World → Value → Prop), (i, j) ∈ ds → j ≠ p → j ≠ q → Fs[j]? = some F → F v (x j) := fun j F hj e1 e2 hF => hf j F e1 e2 hF (hdep j hj)
    by_cases ep : i = p
    · subst ep
      have hpf := (getD_hun hun).1
      have hqf : listed.getD q false = false := by
        cases hb : listed.getD q false with
        | false => rfl
        | true =>
          have := (a2 hb).1
          rw [hpf] at this
          cases this
      refine hp x v hc (a0 hpf) hdf _ (fun u v' hg hu => ⟨upd x i u, rfl, hC v v' hg hc, fun j F e1 e2 hF hl => ?_, fun h => ?_, fun _ _ => ?_, fun h => ?_⟩)
      · rw [upd_ne x u e1]
        exact hst j F hF v v' _ hg (hf j F e1 e2 hF (by rwa [getD_set_ne false (fun e' => e1 e'.symm)] at hl))
      · rw [getD_set_ne false hne, hqf] at h
        cases h
      · rw [upd_at]
        exact hu
      · rw [(getD_hun hun).2] at h
        cases h
    · by_cases eq : i = q
      · subst eq
        have hpt := hdep p hpq
        have hqf := (getD_hun hun).1
        refine hq x v hc (a1 hqf hpt) hdf _ (fun u v' hg hu => ⟨upd x i u, rfl, hC v v' hg hc, fun j F e1 e2 hF hl => ?_, fun h => ⟨?_, ?_⟩, fun h => ?_, fun h => ?_⟩)
        · rw [upd_ne x u e2]
          exact hst j F hF v v' _ hg (hf j F e1 e2 hF (by rwa [getD_set_ne false (fun e' => e2 e'.symm)] at hl))
        · rw [getD_set_ne false (fun e => hne e.symm)]
          exact hpt
        · rw [upd_at, upd_ne x u hne]
          exact hu
        · rw [(getD_hun hun).2] at h
          cases h
        · rw [getD_set_ne false (fun e => hne e.symm), hpt] at h
          cases h
      · refine hstep i hi ep eq x v hc hdf _ (fun u v' hg hu => ⟨upd x i u, rfl, hC v v' (Kx.gr hg) hc, fun j F e1 e2 hF hl => ?_, fun h => ?_, fun h h' => ?_, fun h => ?_⟩)
        · by_cases e : j = i
          · subst e
            rw [upd_at]
            exact hu F hF
          · rw [upd_ne x u e]
            exact hst j F hF v v' _ (Kx.gr hg) (hf j F e1 e2 hF (by rwa [getD_set_ne false (fun e' => e e'.symm)] at hl))
        · rw [getD_set_ne false eq] at h
          rw [getD_set_ne false ep, upd_ne x u (fun e => ep e.symm), upd_ne x u (fun e => eq e.symm)]
          exact ⟨(a2 h).1, h2 v v' _ _ hg (a2 h).2⟩
        · rw [getD_set_ne false eq] at h
          rw [getD_set_ne false ep] at h'
          rw [upd_ne x u (fun e => ep e.symm)]
          exact h1 v v' _ hg (a1 h h')
        · rw [getD_set_ne false ep] at h
          exact h0 v v' hg (a0 h)
  · rintro listed a v hs hall ⟨x, rfl, hc, hf, a2, a1, a0⟩
    have hl : ∀ j, j < n → listed.getD j false = true := fun j hj => by
      have e1 := hall j hj
      have hl : j < listed.size := by omega
      simp [hl] at e1 ⊢
      exact e1
    exact hend x v hc (a2 (hl q hqn)).2 (fun j F hj e1 e2 hF => hf j F e1 e2 hF (hl j hj))

end Go.Proofs.Ytoihnilgmdcndaa

namespace Go.Proofs.Ytoihnilgmdcndaa
set_option linter.unusedVariables false
set_option linter.unusedSimpArgs false
open Go.RowKit

/-- A variable that was made holds what it was made with, and once written what was written. -/
def PairHeld (W : World) (x : Nat → Value) (v : World) (l : Array Bool) (p q : Nat) (c c' : List Value) : Prop := l.getD p false = true → ∃ b, x p = .pointer (some ⟨b, 0, none⟩) ∧ W.heap.size ≤ b ∧ Own v b (if l.getD q false = true then c' else c)

theorem PairHeld.gr {W v v' : World} {x : Nat → Value} {l : Array Bool} {p q i : Nat} {c c' : List Value} (h : PairHeld W x v l p q c c') (g : Gr v v') (u : Value) (hp : i ≠ p) (hq : i ≠ q) : PairHeld W (upd x i u) v' (l.setIfInBounds i true) p q c c' := by
 intro e
 rw [getD_set_ne false hp] at e
 obtain ⟨b, h1, h2, h3⟩ := h e
 refine ⟨b, ?_, h2, ?_⟩
 ·rw [upd_ne x u (fun e => hp e.symm)]
  exact h1
 ·rw [getD_set_ne false hq]
  exact h3.keep g

theorem PairHeld.kx {W v v' : World} {x : Nat → Value} {l : Array Bool} {p q i : Nat} {c c' : List Value} (h : PairHeld W x v l p q c c') {d : Nat} (g : Kx (fun b => b = d) v v') (hne : l.getD p false = true → x p ≠ .pointer (some ⟨d, 0, none⟩)) (hp : i ≠ p) (hq : i ≠ q) : PairHeld W x v' (l.setIfInBounds i true) p q c c' := by
 intro e
 rw [getD_set_ne false hp] at e
 obtain ⟨b, h1, h2, h3⟩ := h e
 refine ⟨b, h1, h2, ?_⟩
 rw [getD_set_ne false hq]
 exact h3.kx g (fun e2 => hne e (by rw [h1, e2]))

theorem wp_region_fresh2 {P : Program} {Q : Exit → Act → World → Prop} {id : Nat} {W : World} {l : List Oper} (n p1 q1 p2 q2 : Nat) (c1 d1 c2 d2 : List Value) (t1 t2 : TypeId) (ds : List (Nat × Nat)) (fr : (Nat → Value) → Act) (x0 : Nat → Value) (Fs : List (World → Value → Prop)) {a : Act} (ha : a = fr x0) (hm : P.follows .mixedOrders = true)
  (hB : (decide (n < l.toArray.size) && Region.sinkB .any l.toArray n && Region.chainB .any l.toArray n && minB .any l.toArray n && Region.seqB .any l.toArray (l.toArray.size - n) n (Array.replicate n true ++ Array.replicate (l.toArray.size - n) false)) = true)
  (hD : depB .any l.toArray ds = true) (hd1 : (q1, p1) ∈ ds) (hd2 : q2 < n → (q2, p2) ∈ ds) (hne : [p1, q1, p2, q2].Nodup) (hn : p1 < n ∧ q1 < n ∧ p2 < n)
  (hst : ∀ (i : Nat) (F : World → Value → Prop), Fs[i]? = some F → StaysZ (fun b => W.heap.size ≤ b) F)
  (hstep : ∀ i, i < n → i ≠ p1 → i ≠ q1 → i ≠ p2 → i ≠ q2 → ∀ x v, Gr W v → (∀ (j : Nat) (F : World → Value → Prop), (i, j) ∈ ds → ¬ j ∈ [p1, q1, p2, q2] → Fs[j]? = some F → F v (x j)) → ∀ K : Act → World → Prop, (∀ u v', Gr v v' → (∀ F : World → Value → Prop, Fs[i]? = some F → F v' u) → K (fr (upd x i u)) v') → wpOp P l.toArray Q i K (fr x) v)
  (hp1 : ∀ x v, Gr W v → ∀ K : Act → World → Prop, K (fr (upd x p1 (.pointer (some ⟨v.heap.size, 0, none⟩)))) (v.alloc (.cells c1.toArray t1)) → wpOp P l.toArray Q p1 K (fr x) v)
  (hp2 : ∀ x v, Gr W v → ∀ K : Act → World → Prop, K (fr (upd x p2 (.pointer (some ⟨v.heap.size, 0, none⟩)))) (v.alloc (.cells c2.toArray t2)) → wpOp P l.toArray Q p2 K (fr x) v)
  (hq1 : ∀ x v b, Gr W v → W.heap.size ≤ b → x p1 = .pointer (some ⟨b, 0, none⟩) → Own v b c1 → (∀ (j : Nat) (F : World → Value → Prop), (q1, j) ∈ ds → ¬ j ∈ [p1, q1, p2, q2] → Fs[j]? = some F → F v (x j)) → ∀ K : Act → World → Prop, (∀ v', Kx (fun k => k = b) v v' → Own v' b d1 → K (fr x) v') → wpOp P l.toArray Q q1 K (fr x) v)
  (hq2 : q2 < n → ∀ x v b, Gr W v → W.heap.size ≤ b → x p2 = .pointer (some ⟨b, 0, none⟩) → Own v b c2 → (∀ (j : Nat) (F : World → Value → Prop), (q2, j) ∈ ds → ¬ j ∈ [p1, q1, p2, q2] → Fs[j]? = some F → F v (x j)) → ∀ K : Act → World → Prop, (∀ v', Kx (fun k => k = b) v v' → Own v' b d2 → K (fr x) v') → wpOp P l.toArray Q q2 K (fr x) v)
  (hend : ∀ x v b1 b2, Gr W v → W.heap.size ≤ b1 → W.heap.size ≤ b2 → b1 ≠ b2 → x p1 = .pointer (some ⟨b1, 0, none⟩) → x p2 = .pointer (some ⟨b2, 0, none⟩) → Own v b1 d1 → Own v b2 (if q2 < n then d2 else c2) → (∀ (j : Nat) (F : World → Value → Prop), j < n → ¬ j ∈ [p1, q1, p2, q2] → Fs[j]? = some F → F v (x j)) → wpList P l.toArray Q (l.drop n) (fr x) v) : (Code.region id l.toArray true).wp P Q a W := by
 subst ha
 obtain ⟨hn1, hn2, hn3⟩ := hn
 simp only [List.nodup_cons, List.mem_cons, List.not_mem_nil, not_or, or_false, not_false_eq_true, List.nodup_nil, and_true] at hne
 obtain ⟨⟨e1, e2, e3⟩, ⟨e4, e5⟩, e6⟩ := hne
 have kz : ∀ {v v' : World}, Gr v v' → Kx (fun b => W.heap.size ≤ b) v v' := fun g => Kx.gr g
 have kb : ∀ {v v' : World} {b : Nat}, W.heap.size ≤ b → Kx (fun k => k = b) v v' → Kx (fun b => W.heap.size ≤ b) v v' := fun hb g => g.mono (fun i e => .inl (by subst e; exact hb))
 have kg : ∀ {v v' : World} {b : Nat}, Gr W v → W.heap.size ≤ b → Kx (fun k => k = b) v v' → Gr W v' := fun hg hb g => Kx.toGr ((Kx.gr (Z := noBlock) hg).th g (fun i e => .inr (by subst e; exact hb)))
 have ptr_lt : ∀ {v : World} {b : Nat} {cs : List Value}, Own v b cs → (Value.pointer (some ⟨b, 0, none⟩)) ≠ .pointer (some ⟨v.heap.size, 0, none⟩) := fun o e => by
  have := o.1.1
  simp only [Value.pointer.injEq, Option.some.injEq, Addr.mk.injEq, and_true] at e
  omega
 refine wp_region_inv' n ds (fun _ listed a v => ∃ x, a = fr x ∧ Gr W v ∧ (∀ (j : Nat) (F : World → Value → Prop), ¬ j ∈ [p1, q1, p2, q2] → Fs[j]? = some F → listed.getD j false = true → F v (x j)) ∧ PairHeld W x v listed p1 q1 c1 d1 ∧ PairHeld W x v listed p2 q2 c2 d2 ∧ (listed.getD p1 false = true → listed.getD p2 false = true → x p1 ≠ x p2) ∧ (listed.getD q1 false = true → listed.getD p1 false = true) ∧ (listed.getD q2 false = true → listed.getD p2 false = true) ∧ (listed.getD q2 false = true → q2 < n)) hm hB hD ⟨x0, rfl, Gr.dr W, fun j F _ _ h => (by rw [getD_replicate_false] at h; cases h), fun h => (by rw [getD_replicate_false] at h; cases h), fun h => (by rw [getD_replicate_false] at h; cases h), fun h => (by rw [getD_replicate_false] at h; cases h), fun h => (by rw [getD_replicate_false] at h; cases h), fun h => (by rw [getD_replicate_false] at h; cases h), fun h => (by rw [getD_replicate_false] at h; cases h)⟩ ?_ ?_
 ·rintro i hi listed a v hun hdep ⟨x, rfl, gv, hf, h1, h2, h3, h4, h5, h6⟩
  have hdf : ∀ (j : Nat) (F : World → Value → Prop), (i, j) ∈ ds → ¬ j ∈ [p1, q1, p2, q2] → Fs[j]? = some F → F v (x j) := fun j F hj e1 hF => hf j F e1 hF (hdep j hj)
  have fkeep : ∀ {v' : World} (u : Value), Kx (fun b => W.heap.size ≤ b) v v' → i ∈ [p1, q1, p2, q2] → ∀ (j : Nat) (F : World → Value → Prop), ¬ j ∈ [p1, q1, p2, q2] → Fs[j]? = some F → (listed.setIfInBounds i true).getD j false = true → F v' (upd x i u j) := fun u k hi j F hj hF hl => by
   have hji : j ≠ i := fun e => hj (e ▸ hi)
   rw [upd_ne x u hji]
   exact hst j F hF v _ _ k (hf j F hj hF (by rwa [getD_set_ne false (fun e => hji e.symm)] at hl))
  have fkeep' : ∀ {v' : World}, Kx (fun b => W.heap.size ≤ b) v v' → i ∈ [p1, q1, p2, q2] → ∀ (j : Nat) (F : World → Value → Prop), ¬ j ∈ [p1, q1, p2, q2] → Fs[j]? = some F → (listed.setIfInBounds i true).getD j false = true → F v' (x j) := fun k hi j F hj hF hl => by
   have hji : j ≠ i := fun e => hj (e ▸ hi)
   exact hst j F hF v _ _ k (hf j F hj hF (by rwa [getD_set_ne false (fun e => hji e.symm)] at hl))
  obtain ⟨hif, hit⟩ := getD_hun hun
  by_cases a1 : i = p1
  ·subst a1
   have hg := Gr.al v (.cells c1.toArray t1)
   have hqf : listed.getD q1 false = false := by
    cases hb : listed.getD q1 false with
    | false => rfl
    | true =>
     have := h4 hb
     rw [hif] at this
     cases this
   refine hp1 x v gv _ ⟨_, rfl, gv.tr hg, fkeep _ (kz hg) (by simp), fun _ => ⟨_, upd_at _ _ _, gv.size, ?_⟩, h2.gr hg _ e2 e3, fun _ hl => ?_, fun _ => hit, fun hl => ?_, fun hl => ?_⟩
   ·rw [getD_set_ne false e1, hqf]
    exact Own.new v c1 t1 _ rfl
   ·rw [getD_set_ne false e2] at hl
    obtain ⟨b, g1, g2, g3⟩ := h2 hl
    rw [upd_at, upd_ne x _ (fun e => e2 e.symm), g1]
    exact fun e => ptr_lt g3 e.symm
   ·rw [getD_set_ne false e3] at hl
    rw [getD_set_ne false e2]
    exact h5 hl
   ·rw [getD_set_ne false e3] at hl
    exact h6 hl
  ·by_cases a2 : i = p2
   ·subst a2
    have hg := Gr.al v (.cells c2.toArray t2)
    have hqf : listed.getD q2 false = false := by
     cases hb : listed.getD q2 false with
     | false => rfl
     | true =>
      have := h5 hb
      rw [hif] at this
      cases this
    refine hp2 x v gv _ ⟨_, rfl, gv.tr hg, fkeep _ (kz hg) (by simp), h1.gr hg _ a1 (fun e => e4 e.symm), fun _ => ⟨_, upd_at _ _ _, gv.size, ?_⟩, fun hl _ => ?_, fun hl => ?_, fun _ => hit, fun hl => ?_⟩
    ·rw [getD_set_ne false e6, hqf]
     exact Own.new v c2 t2 _ rfl
    ·rw [getD_set_ne false a1] at hl
     obtain ⟨b, g1, g2, g3⟩ := h1 hl
     rw [upd_at, upd_ne x _ (fun e => a1 e.symm), g1]
     exact fun e => ptr_lt g3 e
    ·rw [getD_set_ne false (fun e => e4 e.symm)] at hl
     rw [getD_set_ne false a1]
     exact h4 hl
    ·rw [getD_set_ne false e6] at hl
     exact h6 hl
   ·by_cases a3 : i = q1
    ·subst a3
     have hpt := hdep p1 hd1
     obtain ⟨b, g1, g2, g3⟩ := h1 hpt
     rw [hif] at g3
     refine hq1 x v b gv g2 g1 g3 hdf _ (fun v' k o => ⟨x, rfl, kg gv g2 k, fkeep' (kb g2 k) (by simp), fun _ => ⟨b, g1, g2, ?_⟩, h2.kx k (fun hl e => h3 hpt hl (by rw [g1, e])) e4 e5, fun ha hb => ?_, fun _ => ?_, fun hl => ?_, fun hl => ?_⟩)
     ·rw [hit]
      exact o
     ·rw [getD_set_ne false (fun e => e1 e.symm)] at ha
      rw [getD_set_ne false e4] at hb
      exact h3 ha hb
     ·rw [getD_set_ne false (fun e => e1 e.symm)]
      exact hpt
     ·rw [getD_set_ne false e5] at hl
      rw [getD_set_ne false e4]
      exact h5 hl
     ·rw [getD_set_ne false e5] at hl
      exact h6 hl
    ·by_cases a4 : i = q2
     ·subst a4
      have hpt := hdep p2 (hd2 hi)
      obtain ⟨b, g1, g2, g3⟩ := h2 hpt
      rw [hif] at g3
      refine hq2 hi x v b gv g2 g1 g3 hdf _ (fun v' k o => ⟨x, rfl, kg gv g2 k, fkeep' (kb g2 k) (by simp), h1.kx k (fun hl e => h3 hl hpt (by rw [g1, e])) a1 a3, fun _ => ⟨b, g1, g2, ?_⟩, fun ha hb => ?_, fun hl => ?_, fun _ => ?_, fun _ => hi⟩)
      ·rw [hit]
       exact o
      ·rw [getD_set_ne false a1] at ha
       rw [getD_set_ne false a2] at hb
       exact h3 ha hb
      ·rw [getD_set_ne false a3] at hl
       rw [getD_set_ne false a1]
       exact h4 hl
      ·rw [getD_set_ne false a2]
       exact hpt
     ·refine hstep i hi a1 a3 a2 a4 x v gv hdf _ (fun u v' hg hu => ⟨upd x i u, rfl, gv.tr hg, fun j F hj hF hl => ?_, h1.gr hg u a1 a3, h2.gr hg u a2 a4, fun ha hb => ?_, fun hl => ?_, fun hl => ?_, fun hl => ?_⟩)
      ·by_cases e : j = i
       ·subst e
        rw [upd_at]
        exact hu F hF
       ·rw [upd_ne x u e]
        exact hst j F hF v v' _ (kz hg) (hf j F hj hF (by rwa [getD_set_ne false (fun e' => e e'.symm)] at hl))
      ·rw [getD_set_ne false a1] at ha
       rw [getD_set_ne false a2] at hb
       rw [upd_ne x u (fun e => a1 e.symm), upd_ne x u (fun e => a2 e.symm)]
       exact h3 ha hb
      ·rw [getD_set_ne false a3] at hl
       rw [getD_set_ne false a1]
       exact h4 hl
      ·rw [getD_set_ne false a4] at hl
       rw [getD_set_ne false a2]
       exact h5 hl
      ·rw [getD_set_ne false a4] at hl
       exact h6 hl
 ·rintro listed a v hs hall ⟨x, rfl, gv, hf, h1, h2, h3, h4, h5, h6⟩
  have hl : ∀ j, j < n → listed.getD j false = true := fun j hj => by
   have e1 := hall j hj
   have hl : j < listed.size := by omega
   simp [hl] at e1 ⊢
   exact e1
  obtain ⟨b1, g1, g2, g3⟩ := h1 (hl _ hn1)
  obtain ⟨b2, g4, g5, g6⟩ := h2 (hl _ hn3)
  rw [hl _ hn2] at g3
  have e7 : (if q2 < n then d2 else c2) = (if listed.getD q2 false = true then d2 else c2) := by
   by_cases e : q2 < n
   ·rw [if_pos e, hl _ e, if_pos rfl]
   ·rw [if_neg e, if_neg (fun e' => e (h6 e'))]
  rw [← e7] at g6
  exact hend x v b1 b2 gv g2 g5 (fun e => h3 (hl _ hn1) (hl _ hn3) (by rw [g1, g4, e])) g1 g4 g3 g6 (fun j F hj e1 hF => hf j F e1 hF (hl j hj))

end Go.Proofs.Ytoihnilgmdcndaa

namespace Go.Proofs.Ytoihnilgmdcndaa
set_option linter.unusedVariables false
set_option linter.unusedSimpArgs false
open Go.RowKit

section
variable {P : Program} {Q : Exit → Act → World → Prop} {l₀ m : Nat}

theorem rowsIn_round {row : String} {args : Array Value} {w : World} {R : Value → World → Prop} (h : Rows P row args w R) : RowsIn (Fence.wide.inRound l₀) m P row args w R :=
  fun c cs _ => let ⟨v, w', r, s⟩ := h c cs; ⟨v, w', r, stepsIn_wide.2 s⟩

theorem operIn_of {o : Oper} {a : Act} {w : World} {K : Act → World → Prop} (hd : ∀ c, o.op ≠ .defer c) (h : o.wp P a w K Q) : o.wpIn (Fence.wide.inRound l₀) m P a w K Q := by
  unfold Oper.wpIn
  refine ⟨fun _ _ => trivial, ?_⟩
  rw [Oper.semAt_plain _ _ _ hd]
  unfold Oper.wp at h
  generalize (execOp a.eval o).run P w = r at *
  cases r with
  | ok x w' =>
    cases x <;> simp only [Oper.upon, Oper.uponIn] at h ⊢ <;>
      first
        | exact h
        | exact ⟨fun e => (by cases e), CallsIn.inRound l₀ (callsIn_wide.2 h)⟩
        | exact ⟨fun e => (by cases e), rowsIn_round h⟩
  | halt x w' => cases x <;> simp only [Oper.upon, Oper.uponIn] at h ⊢ <;> exact h

theorem opIn_of {ops : Array Oper} {i : Nat} {K : Act → World → Prop} {a : Act} {w : World} (hd : ∀ o, ops[i]? = some o → ∀ c, o.op ≠ .defer c) (hq : ¬ LetsOut Q) (h : wpOp P ops Q i K a w) : wpOpIn (Fence.wide.inRound l₀) m P ops Q i K a w := by
  unfold wpOp at h
  unfold wpOpIn
  cases ho : ops[i]? with
  | none => rw [ho] at h; exact h
  | some o =>
    rw [ho] at h
    simp only at h ⊢
    split
    · rename_i hw
      rw [if_pos hw] at h
      rcases h with h | h
      · exact operIn_of (hd o ho) h
      · exact absurd h.2 hq
    · rename_i hw
      rw [if_neg hw] at h
      exact ⟨fun _ _ => trivial, h⟩

theorem anyIn_of {md : Region.Mode} {ops : Array Oper} (hd : ∀ (i : Nat) (o : Oper), ops[i]? = some o → ∀ c, o.op ≠ .defer c) (hq : ¬ LetsOut Q) : ∀ (fuel : Nat) (listed : Array Bool) (a : Act) (w : World), wpAny P md ops Q fuel listed a w → wpAnyIn (Fence.wide.inRound l₀) m P md ops Q fuel listed a w
  | 0, _, _, _, h => h
  | fuel + 1, listed, a, w, h => ⟨h.1, fun i hi => wpOpIn_mono (fun a' w' h' => anyIn_of hd hq fuel _ a' w' h') (opIn_of (hd i) hq (h.2 i hi))⟩

def noDefer (ops : Array Oper) : Bool := ops.all fun o => match o.op with | .defer _ => false | _ => true

theorem noDefer_spec {ops : Array Oper} (h : noDefer ops = true) : ∀ (i : Nat) (o : Oper), ops[i]? = some o → ∀ c, o.op ≠ .defer c := by
  intro i o ho c e
  have hm : o ∈ ops := Array.mem_of_getElem? ho
  have := (Array.all_eq_true_iff_forall_mem.1 h) o hm
  rw [e] at this
  cases this

theorem any_region_inv {a : Act} {w : World} {l : List Oper} (n : Nat) (J : Array Bool → Act → World → Prop)
    (hB : (decide (n < l.toArray.size) && Region.sinkB .any l.toArray n && Region.chainB .any l.toArray n && minB .any l.toArray n && Region.seqB .any l.toArray (l.toArray.size - n) n (Array.replicate n true ++ Array.replicate (l.toArray.size - n) false)) = true)
    (hJ : J (Array.replicate l.toArray.size false) a w.drew)
    (hstep : ∀ i o, i < n → l.toArray[i]? = some o → ∀ listed a w, listed.size = l.toArray.size → listed.getD i true = false → (∀ e ∈ o.after, Region.binds .any e = true → listed.getD e.on false = true) → J listed a w → wpOp P l.toArray Q i (fun a' w' => J (listed.setIfInBounds i true) a' w') a w)
    (hend : ∀ listed a w, listed.size = l.toArray.size → (∀ j, j < n → listed.getD j true = true) → J listed a w → wpList P l.toArray Q (l.drop n) a w) : wpAny P .any l.toArray Q l.toArray.size (Array.replicate l.toArray.size false) a w.drew := by
  simp only [Bool.and_eq_true, decide_eq_true_eq] at hB
  obtain ⟨⟨⟨⟨hn, hs⟩, hc⟩, hmin⟩, hseq⟩ := hB
  have hn' : n < l.length := by simpa using hn
  have hdl : (l.drop n).length = l.toArray.size - n := by simp
  have inv0 : HeadInv .any l.toArray n (Array.replicate l.toArray.size false) :=
    ⟨by simp, fun j oj _ hl => (by rw [getD_replicate_false] at hl; cases hl), fun t _ ht => getD_in (by simpa using ht) (getD_replicate_false _ _)⟩
  have := wpAny_inv (md := .any) (g := l.toArray.size - n) (Q := Q) hs hc hn hmin J hstep (fun listed a' w' inv hall hJ' => by
    have e : listed = Array.replicate n true ++ Array.replicate (l.toArray.size - n) false := by
      apply Array.ext
      · rw [inv.size]; simp; omega
      · intro j h1 h2
        rcases Nat.lt_or_ge j n with h | h
        · have := hall j h
          simp [h1] at this
          rw [this, Array.getElem_append_left (by simpa using h)]
          simp
        · have := inv.tail j h (by rw [inv.size] at h1; exact h1)
          simp [h1] at this
          rw [this, Array.getElem_append_right (by simpa using h)]
          simp
    have h := wpAny_of_seq (md := .any) (Q' := Q) (l.drop n) n listed a' w' (fun j => by simp [List.getElem?_drop]) (by rw [hdl, e]; exact hseq) (hend listed a' w' inv.size hall hJ')
    rwa [hdl] at h) n (Array.replicate l.toArray.size false) a w.drew inv0 (remN_full _ n (by omega)) hJ
  rw [show n + (l.toArray.size - n) = l.toArray.size by omega] at this
  exact this

end

end Go.Proofs.Ytoihnilgmdcndaa

namespace Go.Proofs.Ytoihnilgmdcndaa
set_option linter.unusedVariables false
set_option linter.unusedSimpArgs false
open Go.RowKit

theorem wpIn_region_turn {P : Program} {Q : Exit → Act → World → Prop} {l₀ m : Nat} {id : Nat} {W : World} {l : List Oper} (n q : Nat) (Z : Nat → Prop) (T T' : World → Prop) (ds : List (Nat × Nat)) (fr : (Nat → Value) → Act) (x0 : Nat → Value) (Fs : List (World → Value → Prop)) {a : Act} (ha : a = fr x0) (hm : P.follows .mixedOrders = true)
    (hB : (decide (n < l.toArray.size) && Region.sinkB .any l.toArray n && Region.chainB .any l.toArray n && minB .any l.toArray n && Region.seqB .any l.toArray (l.toArray.size - n) n (Array.replicate n true ++ Array.replicate (l.toArray.size - n) false)) = true)
    (hD : depB .any l.toArray ds = true) (hnd : noDefer l.toArray = true) (hq : ¬ LetsOut Q) (hqn : q < n)
    (hT : ∀ v v', Gr v v' → T v → T v') (hT' : ∀ v v', Gr v v' → T' v → T' v') (h0 : T W)
    (hst : ∀ (i : Nat) (F : World → Value → Prop), Fs[i]? = some F → StaysZ Z F)
    (hstep : ∀ i, i < n → i ≠ q → ∀ x v, Kx Z W v → (∀ (j : Nat) (F : World → Value → Prop), (i, j) ∈ ds → Fs[j]? = some F → F v (x j)) → ∀ K : Act → World → Prop, (∀ u v', Gr v v' → (∀ F : World → Value → Prop, Fs[i]? = some F → F v' u) → K (fr (upd x i u)) v') → wpOp P l.toArray Q i K (fr x) v)
    (hturn : ∀ x v, Kx Z W v → T v → (∀ (j : Nat) (F : World → Value → Prop), (q, j) ∈ ds → Fs[j]? = some F → F v (x j)) → ∀ K : Act → World → Prop, (∀ u v', Kx Z v v' → T' v' → (∀ F : World → Value → Prop, Fs[q]? = some F → F v' u) → K (fr (upd x q u)) v') → wpOp P l.toArray Q q K (fr x) v)
    (hend : ∀ x v, Kx Z W v → T' v → (∀ (j : Nat) (F : World → Value → Prop), j < n → Fs[j]? = some F → F v (x j)) → wpList P l.toArray Q (l.drop n) (fr x) v) : (Code.region id l.toArray true).wpIn (Fence.wide.inRound l₀) m P Q a W := by
  subst ha
  refine wpIn_region_any hm (anyIn_of (noDefer_spec hnd) hq _ _ _ _ ?_)
  refine any_region_inv (w := W) n (fun listed a v => ∃ x, a = fr x ∧ Kx Z W v ∧ (listed.getD q false = false → T v) ∧ (listed.getD q false = true → T' v) ∧ ∀ (j : Nat) (F : World → Value → Prop), Fs[j]? = some F → listed.getD j false = true → F v (x j)) hB
    ⟨x0, rfl, Kx.dr Z W, fun _ => hT _ _ (Gr.dr W) h0, fun h => (by rw [getD_replicate_false] at h; cases h), fun j F _ h => by rw [getD_replicate_false] at h; cases h⟩ ?_ ?_
  · rintro i o hi ho listed a v hsz hun hdep ⟨x, rfl, gv, t1, t2, hf⟩
    have hin : i < listed.size := by rw [hsz]; exact (Array.getElem?_eq_some_iff.1 ho).1
    have hdf : ∀ (j : Nat) (F : World → Value → Prop), (i, j) ∈ ds → Fs[j]? = some F → F v (x j) := fun j F hj hF => hf j F hF (by
      obtain ⟨e, he, hb, hj'⟩ := depB_spec hD hj ho
      rw [← hj']
      exact hdep e he hb)
    have hnext : ∀ {v' : World} (u : Value), Kx Z v v' → (∀ F : World → Value → Prop, Fs[i]? = some F → F v' u) → ∀ (j : Nat) (F : World → Value → Prop), Fs[j]? = some F → (listed.setIfInBounds i true).getD j false = true → F v' (upd x i u j) := fun u k hu j F hF hl => by
      by_cases e : j = i
      · subst e
        rw [upd_at]
        exact hu F hF
      · rw [upd_ne x u e]
        exact hst j F hF v _ _ k (hf j F hF (by rwa [getD_set_ne false (fun e' => e e'.symm)] at hl))
    by_cases hiq : i = q
    · subst hiq
      have hT0 : T v := t1 (by
        have : listed.getD i true = listed.getD i false := by simp [hin]
        rw [← this]; exact hun)
      refine hturn x v gv hT0 hdf _ (fun u v' hk ht hu => ⟨upd x i u, rfl, gv.tr hk, fun h => ?_, fun _ => ht, hnext u hk hu⟩)
      simp [hin] at h
    · refine hstep i hi hiq x v gv hdf _ (fun u v' hg hu => ⟨upd x i u, rfl, gv.tr (Kx.gr hg), fun h => hT _ _ hg (t1 (by rwa [getD_set_ne false hiq] at h)), fun h => hT' _ _ hg (t2 (by rwa [getD_set_ne false hiq] at h)), hnext u (Kx.gr hg) hu⟩)
  · rintro listed a v hs hall ⟨x, rfl, gv, t1, t2, hf⟩
    have hn : n < l.toArray.size := by
      simp only [Bool.and_eq_true, decide_eq_true_eq] at hB
      exact hB.1.1.1.1
    have hl : ∀ j, j < n → listed.getD j false = true := fun j hj => by
      have h1 := hall j hj
      have hl : j < listed.size := by omega
      simp [hl] at h1 ⊢
      exact h1
    exact hend x v gv (t2 (hl q hqn)) (fun j F hj hF => hf j F hF (hl j hj))

end Go.Proofs.Ytoihnilgmdcndaa

namespace Go.Proofs.Ytoihnilgmdcndaa
set_option linter.unusedVariables false
set_option linter.unusedSimpArgs false
open Go.RowKit Go.Shelf
attribute [local go_sem] Oper.semAt_some

theorem panelR (X : Sx) (hR : RmOk X.R) {i : Nat} (hi : i < 4) (w : World) (hr : IRow w X.ra X.R.pan) :
  Calls Try.prog 103 #[.agg #[.int .i64 X.tab, .slice X.ra X.R.pan.length X.rac, .int .i64 X.R.hei, .slice X.rt X.R.top.length X.rtc, .slice X.rb X.R.bot.length X.rbc, .int .i64 X.R.slo, .bool X.R.opn, .int .i64 X.R.off, .slice X.rt X.R.top.length X.rtc, .slice X.rb X.R.bot.length X.rbc], .int .i64 i] w fun e w' => e = .returned (.agg #[.int .i64 (X.R.pn i).lo, .int .i64 (X.R.pn i).hi]) ∧ Gr w w' := by
 obtain ⟨x, hx⟩ := get_of_lt (show i < X.R.pan.length by rw [hR.l4]; exact hi)
 obtain ⟨a, b⟩ := in_at hR.gpan hx
 unfold Rm.pn
 rw [getD_eq hx]
 exact panel_any _ _ _ _ _ _ _ _ _ _ _ _ _ _ i x hx a b hR.o0 hR.o1 w hr

theorem panK {d : Dr} {k : Nat} (h4 : k < 4) (hD : DrL d) {v : Int} (v0 : 0 ≤ v) (v1 : v ≤ 3000) : DrK (d.put (.pan k) v) k := by
 have hL := hD.put (.pan k) v
 refine ⟨hL.p, hL.t, hL.b, fun _ u hu => ?_, fun h => by omega, fun h => by omega, fun h => by omega, fun h => by omega, fun h => by omega⟩
 obtain rfl := set_get hu
 exact ⟨v0, v1⟩

theorem heiK {d : Dr} (hD : DrL d) {v : Int} (v0 : 0 ≤ v) (v1 : v ≤ 3000) : DrK (d.put .hei v) 4 :=
 ⟨hD.p, hD.t, hD.b, fun h => by omega, fun h => by omega, fun _ => ⟨v0, v1⟩, fun h => by omega, fun h => by omega, fun h => by omega⟩

theorem sloK {d : Dr} (hD : DrL d) {v : Int} (v0 : 0 ≤ v) (v1 : v ≤ 3000) : DrK (d.put .slo v) 9 :=
 ⟨hD.p, hD.t, hD.b, fun h => by omega, fun _ h => by omega, fun h => by omega, fun _ h => by omega, fun _ h => by omega, fun _ => ⟨v0, v1⟩⟩

def markS (D : Nat) : Deferred := { target := .collected D, args := #[] }

theorem leaves_markS {F : Fence} {n : Nat} {P : Program} {fn : Func} {tmps : Array Value} {R : Ending → World → Prop} : ∀ (Ds : List Nat) (w : World), (∀ D ∈ Ds, w.heap[D]? = some (.deferred (some []))) → Ds.Nodup →
  (∀ w', Kx (fun b => b ∈ Ds) w w' → LeavesIn F n P fn tmps R [] .returning w') → LeavesInM F n P fn tmps R (Ds.map markS) .returning w
 | [], w, _, _, h => h w (Kx.refl _ _)
 | D :: Ds, w, hm, hn, h => by
  have hD := hm D (by simp)
  obtain ⟨hn1, hn2⟩ := List.nodup_cons.1 hn
  refine ⟨by simp, .inl ⟨D, _, rfl, run_takeDeferred hD, leaves_markS Ds _ (fun E hE => ?_) hn2 (fun w' hk => h w' ?_)⟩⟩
  ·exact (World.putObj_heap_other (k := E) (r := D) (by rintro rfl; exact hn1 hE)).trans (hm E (by simp [hE]))
  ·exact (Kx.put (Z := fun b => b ∈ D :: Ds) (by simp) _).th hk fun i e => .inl (by simp [e])

theorem wpIn_abs {F : Fence} {n : Nat} {P : Program} {c : Code} {Q : Exit → Act → World → Prop} {a : Act} {w : World} (p : World → Prop) (h : p w) (k : ∀ W, p W → c.wpIn F n P Q a W) : c.wpIn F n P Q a w := k w h

theorem flapsFrom_L {R : Rm} {W : Wi} {cl ch : Int} {i : Nat} : ∀ (n k : Nat) (d : Dr), DrL d → DrL (flapsFrom R W cl ch i n k d).1
 | 0, _, _, h => h
 | n + 1, k, d, h => by
  rw [flapsFrom]
  split
  ·split
   ·exact flapsFrom_L n _ _ (h.put _ _)
   ·exact h.put _ _
  ·exact flapsFrom_L n _ _ h

/-- Between the rounds: what is drawn, how far the checks came. -/
def PInv (X : Sx) (i : Nat) (P0 : Int) (N b4 : Nat) (r0 : Dr × Nat) (X0 : Nat → Prop) (W4 : World) (pre : List Int) (X' Y : Nat → Prop) (W : World) : Prop :=
 X' = X0 ∧ (∀ k, Y k → W4.heap.size ≤ k) ∧ Kx X0 W4 W ∧ pre.length ≤ N ∧ ∃ (d' : Dr) (f : Nat), Se X d' W ∧ Own W b4 [.int .i64 (f : Int)] ∧ DrL d' ∧ panelFrom X.R X.W X.cl X.ch i (N - pre.length) (P0 + (pre.length : Int)) d' f = r0

theorem PInv.ab {X : Sx} {i : Nat} {P0 : Int} {N b4 : Nat} {r0 : Dr × Nat} {X0 : Nat → Prop} {W4 : World} (hZ : ∀ k, X.Z k → k < W4.heap.size) (h4 : b4 < W4.heap.size) (pre : List Int) (X' : Nat → Prop) : Ab (PInv X i P0 N b4 r0 X0 W4 pre X') := by
 rintro Y Y' A B ⟨h1, h2, h3, h5, d', f, h6, h7, h8, h9⟩ hk hy
 have hs := h3.size
 refine ⟨h1, fun k e => ?_, h3.th hk fun k e => .inr (h2 k e), h5, d', f, h6.kx hk (fun k e e' => ?_), h7.kx hk (fun e => ?_), h8, h9⟩
 ·rcases hy k e with e | e
  ·exact h2 k e
  ·omega
 ·have := hZ k e; have := h2 k e'; omega
 ·have := h2 _ e; omega

/-- Behind a round that was the last one. -/
def PEnd (X : Sx) (b4 : Nat) (r0 : Dr × Nat) (X0 : Nat → Prop) (W4 : World) (c : Code) (pre : List Int) (Y : Nat → Prop) (W : World) : Prop :=
 c = .exit 0 ∧ (∀ k, Y k → W4.heap.size ≤ k) ∧ Kx X0 W4 W ∧ ∃ (d' : Dr) (f : Nat), Se X d' W ∧ Own W b4 [.int .i64 (f : Int)] ∧ (d', f) = r0

theorem PEnd.ab {X : Sx} {b4 : Nat} {r0 : Dr × Nat} {X0 : Nat → Prop} {W4 : World} (hZ : ∀ k, X.Z k → k < W4.heap.size) (h4 : b4 < W4.heap.size) (c : Code) (pre : List Int) : Ab (PEnd X b4 r0 X0 W4 c pre) := by
 rintro Y Y' A B ⟨h1, h2, h3, d', f, h6, h7, h9⟩ hk hy
 have hs := h3.size
 refine ⟨h1, fun k e => ?_, h3.th hk fun k e => .inr (h2 k e), d', f, h6.kx hk (fun k e e' => ?_), h7.kx hk (fun e => ?_), h9⟩
 ·rcases hy k e with e | e
  ·exact h2 k e
  ·omega
 ·have := hZ k e; have := h2 k e'; omega
 ·have := h2 _ e; omega

set_option maxRecDepth 100000 in
set_option maxHeartbeats 8000000 in
theorem panelS_any (X : Sx) (D : X.Dis) (hR : RmOk X.R) (i : Nat) (hi : i < 4) (d : Dr) (hD : DrL d) (hW : X.W.ok) (w : World) (hS : Se X d w) (hr : RoomRows X w) :
  Calls Try.prog 98 #[.pointer (some ⟨X.S, 0, none⟩), .int .i64 i] w fun e w' => e = .returned (.int .i64 ((panelD X.R X.W X.cl X.ch i d).2 : Int)) ∧ Se X (panelD X.R X.W X.cl X.ch i d).1 w' ∧ Kx X.Z w w' := by
 refine (callsIn_wide (n := 20)).1 ?_
 obtain ⟨r0, hr0⟩ : ∃ r0, r0 = panelD X.R X.W X.cl X.ch i d := ⟨_, rfl⟩
 rw [← hr0]
 have HR0 := Lib.hid hr0
 have hz : ∀ k, X.Z k → k < w.heap.size := fun k e => hS.lt e
 have gg := ((Gr.al w (.cells #[.pointer (some ⟨X.S, 0, none⟩)] 184)).tr (Gr.al _ (.cells #[.int .i64 (i : Int)] 3))).tr (Gr.al _ (.cells #[.int .i64 0] 3))
 have o2 := (Own.new w [.pointer (some ⟨X.S, 0, none⟩)] 184 w.heap.size rfl).keep ((Gr.al _ (.cells #[.int .i64 (i : Int)] 3)).tr (Gr.al _ (.cells #[.int .i64 0] 3)))
 have o3 := (Own.new (w.alloc (.cells #[.pointer (some ⟨X.S, 0, none⟩)] 184)) [.int .i64 (i : Int)] 3 (w.heap.size + 1) (by simp)).keep (Gr.al _ (.cells #[.int .i64 0] 3))
 have o4 := Own.new ((w.alloc (.cells #[.pointer (some ⟨X.S, 0, none⟩)] 184)).alloc (.cells #[.int .i64 (i : Int)] 3)) [.int .i64 0] 3 (w.heap.size + 1 + 1) (by simp)
 have hS0 := hS.gr gg
 clear hr0
 refine callsIn_of_wp_marks Try.func98 rfl trivial ?_ rfl
 simp only [Try.ntmps98, List.size_toArray, List.length_cons, List.length_nil, Nat.reduceAdd, Nat.reduceSub, Array.replicate_succ, Array.replicate_zero, List.push_toArray, List.append_toArray, List.nil_append, List.cons_append]
 refine wpIn_wide.2 ?_
 go_upto_region 1 with fail
 refine wp_abs (fun U => Gr w U ∧ Se X d U ∧ Own U w.heap.size [.pointer (some ⟨X.S, 0, none⟩)] ∧ Own U (w.heap.size + 1) [.int .i64 (i : Int)] ∧ Own U (w.heap.size + 1 + 1) [.int .i64 0]) ⟨gg, hS0, o2, o3, o4⟩ ?_
 clear gg hS0 o2 o3 o4
 rintro U ⟨gU, hS1, o2, o3, o4⟩
 have hrU : IRow U X.ra X.R.pan := (hr U (Kx.gr gU)).1
 have i2 := o2.1.c1
 have i3 := o3.1.c1
 have hi4 : (i : Int) < 4 := by omega
 refine wp_region_fresh2 17 14 16 15 17 [.int .i64 0, .int .i64 0] [.int .i64 (X.R.pn i).lo, .int .i64 (X.R.pn i).hi] [.pointer none] [.pointer none] 37 168 [(1, 0), (2, 1), (3, 2), (5, 3), (5, 4), (7, 6), (8, 7), (9, 8), (10, 9), (11, 10), (13, 11), (13, 12), (16, 5), (16, 14)] (fun x => ⟨#[.pointer (some ⟨X.S, 0, none⟩), .int .i64 (i : Int), .pointer (some ⟨w.heap.size, 0, none⟩), .pointer (some ⟨(w.heap.size + 1), 0, none⟩), .pointer (some ⟨(w.heap.size + 1 + 1), 0, none⟩), x 14, x 15, undef, x 0, x 1, x 2, x 3, x 4, x 5, x 6, x 7, x 8, x 9, x 10, x 11, x 12, x 13, undef, undef, undef, undef, undef, undef, undef, undef, undef, undef, undef, undef, undef, undef, undef, undef, undef, undef, undef, undef, undef, undef, undef, undef, undef, undef, undef, undef, undef, undef, undef], []⟩) (fun _ => undef) [fun _ x => x = .pointer (some ⟨X.S, 0, none⟩), fun _ x => x = .pointer (some ⟨X.S, 0, none⟩), fun _ x => x = .pointer (some ⟨X.S, 0, none⟩), fun _ x => x = .agg #[.int .i64 X.tab, .slice X.ra X.R.pan.length X.rac, .int .i64 X.R.hei, .slice X.rt X.R.top.length X.rtc, .slice X.rb X.R.bot.length X.rbc, .int .i64 X.R.slo, .bool X.R.opn, .int .i64 X.R.off, .slice X.rt X.R.top.length X.rtc, .slice X.rb X.R.bot.length X.rbc], fun _ x => x = .int .i64 (i : Int), fun _ x => x = .agg #[.int .i64 (X.R.pn i).lo, .int .i64 (X.R.pn i).hi], fun _ x => x = .pointer (some ⟨X.S, 0, none⟩), fun _ x => x = .pointer (some ⟨X.S, 0, none⟩), fun _ x => x = .pointer (some ⟨X.S, 23, none⟩), fun _ x => x = .pointer (some ⟨X.S, 23, none⟩), fun _ x => x = .pointer (some ⟨X.S, 24, none⟩), fun _ x => x = .slice (some ⟨X.P, 0, none⟩) 4 X.pc, fun _ x => x = .int .i64 (i : Int), fun _ x => x = .pointer (some ⟨X.P, i, none⟩), fun _ _ => True, fun _ _ => True, fun _ _ => True] (by rfl) (by kernel_rfl) (by kernel_rfl) (by kernel_rfl) (by simp) (fun h => absurd h (by omega)) (by decide) (by omega) (staysZ_cons (StaysZ.eq _ _) (staysZ_cons (StaysZ.eq _ _) (staysZ_cons (StaysZ.eq _ _) (staysZ_cons (StaysZ.eq _ _) (staysZ_cons (StaysZ.eq _ _) (staysZ_cons (StaysZ.eq _ _) (staysZ_cons (StaysZ.eq _ _) (staysZ_cons (StaysZ.eq _ _) (staysZ_cons (StaysZ.eq _ _) (staysZ_cons (StaysZ.eq _ _) (staysZ_cons (StaysZ.eq _ _) (staysZ_cons (StaysZ.eq _ _) (staysZ_cons (StaysZ.eq _ _) (staysZ_cons (StaysZ.eq _ _) (staysZ_cons (fun _ _ _ _ _ => trivial) (staysZ_cons (fun _ _ _ _ _ => trivial) (staysZ_cons (fun _ _ _ _ _ => trivial) staysZ_nil))))))))))))))))) ?step1 ?pa1 ?pb1 ?qa1 ?qb1 ?fin1
 case step1 =>
  rintro i8 hi8 n1 n2 n3 n4 x v gv hd K hK
  have hi9 : i8 = 0 ∨ i8 = 1 ∨ i8 = 2 ∨ i8 = 3 ∨ i8 = 4 ∨ i8 = 5 ∨ i8 = 6 ∨ i8 = 7 ∨ i8 = 8 ∨ i8 = 9 ∨ i8 = 10 ∨ i8 = 11 ∨ i8 = 12 ∨ i8 = 13 := by omega
  rcases hi9 with rfl | rfl | rfl | rfl | rfl | rfl | rfl | rfl | rfl | rfl | rfl | rfl | rfl | rfl
  ·try dsimp only [upd, Nat.reduceBEq, cond_true, cond_false]
   have q := gv.keep i2
   refine wpOp_step rfl (fun K' hK' => ?_)
   go_simp
   exact hK' _ _ (hK _ _ (Below.refl _ _) (at_of rfl rfl))
  ·obtain ⟨x, rfl⟩ := upd_of (show x 0 = .pointer (some ⟨X.S, 0, none⟩) from hd 0 _ (by simp) (by decide) rfl)
   try dsimp only [upd, Nat.reduceBEq, cond_true, cond_false]
   refine wpOp_step rfl (fun K' hK' => ?_)
   go_simp
   exact hK' _ _ (hK _ _ (Below.refl _ _) (at_of rfl rfl))
  ·obtain ⟨x, rfl⟩ := upd_of (show x 1 = .pointer (some ⟨X.S, 0, none⟩) from hd 1 _ (by simp) (by decide) rfl)
   try dsimp only [upd, Nat.reduceBEq, cond_true, cond_false]
   refine wpOp_step rfl (fun K' hK' => ?_)
   go_simp
   exact hK' _ _ (hK _ _ (Below.refl _ _) (at_of rfl rfl))
  ·obtain ⟨x, rfl⟩ := upd_of (show x 2 = .pointer (some ⟨X.S, 0, none⟩) from hd 2 _ (by simp) (by decide) rfl)
   try dsimp only [upd, Nat.reduceBEq, cond_true, cond_false]
   refine wpOp_step rfl (fun K' hK' => ?_)
   rw [if_pos (by rfl)]
   refine wp_load_mid 124 _ rfl X.S 0 (by rfl) [.int .i64 X.tab, .slice X.ra X.R.pan.length X.rac, .int .i64 X.R.hei, .slice X.rt X.R.top.length X.rtc, .slice X.rb X.R.bot.length X.rbc, .int .i64 X.R.slo, .bool X.R.opn, .int .i64 X.R.off, .slice X.rt X.R.top.length X.rtc, .slice X.rb X.R.bot.length X.rbc] _ (fun j u hu => (hS1.gr gv).at0 j u hu) Try.underlying124 rfl (by kernel_rfl) ?_
   exact hK' _ _ (hK _ _ (Below.refl _ _) (at_of rfl rfl))
  ·try dsimp only [upd, Nat.reduceBEq, cond_true, cond_false]
   have q := gv.keep i3
   refine wpOp_step rfl (fun K' hK' => ?_)
   go_simp
   exact hK' _ _ (hK _ _ (Below.refl _ _) (at_of rfl rfl))
  ·obtain ⟨x, rfl⟩ := upd_of (show x 3 = .agg #[.int .i64 X.tab, .slice X.ra X.R.pan.length X.rac, .int .i64 X.R.hei, .slice X.rt X.R.top.length X.rtc, .slice X.rb X.R.bot.length X.rbc, .int .i64 X.R.slo, .bool X.R.opn, .int .i64 X.R.off, .slice X.rt X.R.top.length X.rtc, .slice X.rb X.R.bot.length X.rbc] from hd 3 _ (by simp) (by decide) rfl)
   obtain ⟨x, rfl⟩ := upd_of (show x 4 = .int .i64 (i : Int) from hd 4 _ (by simp) (by decide) rfl)
   try dsimp only [upd, Nat.reduceBEq, cond_true, cond_false]
   refine wpOp_step rfl (fun K' hK' => ?_)
   go_simp
   refine (panelR X hR hi v (hrU.grow gv)).mono ?_
   rintro e v' ⟨rfl, hg⟩
   exact hK' _ _ (hK _ _ hg (at_of rfl rfl))
  ·try dsimp only [upd, Nat.reduceBEq, cond_true, cond_false]
   have q := gv.keep i2
   refine wpOp_step rfl (fun K' hK' => ?_)
   go_simp
   exact hK' _ _ (hK _ _ (Below.refl _ _) (at_of rfl rfl))
  ·obtain ⟨x, rfl⟩ := upd_of (show x 6 = .pointer (some ⟨X.S, 0, none⟩) from hd 6 _ (by simp) (by decide) rfl)
   try dsimp only [upd, Nat.reduceBEq, cond_true, cond_false]
   refine wpOp_step rfl (fun K' hK' => ?_)
   go_simp
   exact hK' _ _ (hK _ _ (Below.refl _ _) (at_of rfl rfl))
  ·obtain ⟨x, rfl⟩ := upd_of (show x 7 = .pointer (some ⟨X.S, 0, none⟩) from hd 7 _ (by simp) (by decide) rfl)
   try dsimp only [upd, Nat.reduceBEq, cond_true, cond_false]
   refine wpOp_step rfl (fun K' hK' => ?_)
   go_simp
   exact hK' _ _ (hK _ _ (Below.refl _ _) (at_of rfl rfl))
  ·obtain ⟨x, rfl⟩ := upd_of (show x 8 = .pointer (some ⟨X.S, 23, none⟩) from hd 8 _ (by simp) (by decide) rfl)
   try dsimp only [upd, Nat.reduceBEq, cond_true, cond_false]
   refine wpOp_step rfl (fun K' hK' => ?_)
   go_simp
   exact hK' _ _ (hK _ _ (Below.refl _ _) (at_of rfl rfl))
  ·obtain ⟨x, rfl⟩ := upd_of (show x 9 = .pointer (some ⟨X.S, 23, none⟩) from hd 9 _ (by simp) (by decide) rfl)
   try dsimp only [upd, Nat.reduceBEq, cond_true, cond_false]
   refine wpOp_step rfl (fun K' hK' => ?_)
   go_simp
   exact hK' _ _ (hK _ _ (Below.refl _ _) (at_of rfl rfl))
  ·obtain ⟨x, rfl⟩ := upd_of (show x 10 = .pointer (some ⟨X.S, 24, none⟩) from hd 10 _ (by simp) (by decide) rfl)
   try dsimp only [upd, Nat.reduceBEq, cond_true, cond_false]
   have q := (hS1.gr gv).s.1.2 24 _ rfl
   refine wpOp_step rfl (fun K' hK' => ?_)
   go_simp
   exact hK' _ _ (hK _ _ (Below.refl _ _) (at_of rfl rfl))
  ·try dsimp only [upd, Nat.reduceBEq, cond_true, cond_false]
   have q := gv.keep i3
   refine wpOp_step rfl (fun K' hK' => ?_)
   go_simp
   exact hK' _ _ (hK _ _ (Below.refl _ _) (at_of rfl rfl))
  ·obtain ⟨x, rfl⟩ := upd_of (show x 11 = .slice (some ⟨X.P, 0, none⟩) 4 X.pc from hd 11 _ (by simp) (by decide) rfl)
   obtain ⟨x, rfl⟩ := upd_of (show x 12 = .int .i64 (i : Int) from hd 12 _ (by simp) (by decide) rfl)
   try dsimp only [upd, Nat.reduceBEq, cond_true, cond_false]
   refine wpOp_step rfl (fun K' hK' => ?_)
   go_simp
   exact hK' _ _ (hK _ _ (Below.refl _ _) (at_of rfl rfl))
 case pa1 =>
  rintro x v gv K hK
  try dsimp only [upd, Nat.reduceBEq, cond_true, cond_false]
  refine wpOp_step rfl (fun K' hK' => ?_)
  go_simp
  exact hK' _ _ hK
 case pb1 =>
  rintro x v gv K hK
  try dsimp only [upd, Nat.reduceBEq, cond_true, cond_false]
  refine wpOp_step rfl (fun K' hK' => ?_)
  go_simp
  exact hK' _ _ hK
 case qa1 =>
  rintro x v bb gv hbb e ho hd K hK
  obtain ⟨x, rfl⟩ := upd_of (show x 5 = .agg #[.int .i64 (X.R.pn i).lo, .int .i64 (X.R.pn i).hi] from hd 5 _ (by simp) (by decide) rfl)
  obtain ⟨x, rfl⟩ := upd_of (show x 14 = .pointer (some ⟨bb, 0, none⟩) from by simpa [upd] using e)
  try dsimp only [upd, Nat.reduceBEq, cond_true, cond_false]
  obtain ⟨t0, t1⟩ := ho.1.c2
  have f0 := ho.2 0
  have f1 := ho.2 1
  refine wpOp_step rfl (fun K' hK' => ?_)
  go_simp
  exact hK' _ _ (hK _ ((Kx.set (Z := fun k => k = bb) (p := ⟨bb, 0, none⟩) rfl _).tr (Kx.set (Z := fun k => k = bb) (p := ⟨bb, 1, none⟩) rfl _)) ((ho.set (i := 0) (v := .int .i64 (X.R.pn i).lo) (by simp)).set (i := 1) (v := .int .i64 (X.R.pn i).hi) (by simp)))
 case qb1 =>
  exact fun h => absurd h (by omega)
 case fin1 =>
  rintro x v c5 c6 gv h5 h6 hne e1 e2 o5 o6 hd
  rw [if_neg (by omega)] at o6
  obtain ⟨x, rfl⟩ := upd_of (show x 13 = .pointer (some ⟨X.P, i, none⟩) from hd 13 _ (by omega) (by decide) rfl)
  obtain ⟨x, rfl⟩ := upd_of (show x 14 = .pointer (some ⟨c5, 0, none⟩) from by simpa [upd] using e1)
  obtain ⟨x, rfl⟩ := upd_of (show x 15 = .pointer (some ⟨c6, 0, none⟩) from by simpa [upd] using e2)
  clear hd e1 e2
  show wpList Try.prog _ _ (List.drop 17 _) (⟨#[.pointer (some ⟨X.S, 0, none⟩), .int .i64 (i : Int), .pointer (some ⟨w.heap.size, 0, none⟩), .pointer (some ⟨(w.heap.size + 1), 0, none⟩), .pointer (some ⟨(w.heap.size + 1 + 1), 0, none⟩), .pointer (some ⟨c5, 0, none⟩), .pointer (some ⟨c6, 0, none⟩), undef, x 0, x 1, x 2, x 3, x 4, x 5, x 6, x 7, x 8, x 9, x 10, x 11, x 12, .pointer (some ⟨X.P, i, none⟩), undef, undef, undef, undef, undef, undef, undef, undef, undef, undef, undef, undef, undef, undef, undef, undef, undef, undef, undef, undef, undef, undef, undef, undef, undef, undef, undef, undef, undef, undef, undef], []⟩ : Act) v
  simp only [List.drop_succ_cons, List.drop_zero]
  have t0 := o6.1.c1
  have f0 := o6.2 0
  go_upto_region 2 with fail
  have sU := gU.size
  have s2 := o4.1.1
  have z4 : ∀ k, X.Z k → k < w.heap.size := fun k e => hz k e
  have gk : Gr w (v.setCell ⟨c6, 0, none⟩ (.pointer (some ⟨X.P, i, none⟩))) := (gU.tr gv).setCell (p := ⟨c6, 0, none⟩) (by dsimp only; omega) _
  refine wp_abs (fun V => Gr w V ∧ Se X d V ∧ Own V w.heap.size [.pointer (some ⟨X.S, 0, none⟩)] ∧ Own V (w.heap.size + 1) [.int .i64 (i : Int)] ∧ Own V (w.heap.size + 1 + 1) [.int .i64 0] ∧ Own V c5 [.int .i64 (X.R.pn i).lo, .int .i64 (X.R.pn i).hi] ∧ Own V c6 [.pointer (some ⟨X.P, i, none⟩)]) ⟨gk, hS.gr gk, (o2.keep gv).other (by omega), (o3.keep gv).other (by omega), (o4.keep gv).other (by omega), o5.other hne, o6.set (i := 0) (v := .pointer (some ⟨X.P, i, none⟩)) (by simp)⟩ ?_
  clear t0 f0 gk o2 o3 o4 o5 o6 gv gU i2 i3 hrU hS1 hS
  rintro V ⟨gV, hS, o2, o3, o4, o5, o6⟩
  obtain ⟨⟨d1, ok⟩, hdr⟩ : ∃ r, riseD X.R X.W X.cl X.ch i (X.R.pn i) (.pan i) d = r := ⟨_, rfl⟩
  have HDR := Lib.hid hdr
  obtain ⟨ho, hlo1⟩ := hR.pn hi
  have z5 : ∀ k, X.Z k → k ≠ c5 ∧ k ≠ c6 ∧ k ≠ w.heap.size ∧ k ≠ w.heap.size + 1 ∧ k ≠ w.heap.size + 1 + 1 := fun k e => by have := z4 k e; omega
  have Z5 := Lib.hid z5
  have hrise : Calls Try.prog 99 #[.pointer (some ⟨X.S, 0, none⟩), .int .i64 i, .agg #[.int .i64 (X.R.pn i).lo, .int .i64 (X.R.pn i).hi], .pointer (some ⟨X.P, i, none⟩)] V fun e w' => e = .returned (.bool ok) ∧ Se X d1 w' ∧ Kx X.Z V w' := by
   have := rise_any X d (.pan i) X.P i (MeAt.pan D hi) i (by omega) (X.R.pn i) ho.r0 ho.r1 ho.r2 hD hW (fun u u0 u1 => panK hi hD (by omega) (by have := ho.r2; omega)) (fun u v' huv he => rise_mono (.inl ⟨hi, rfl⟩) hD huv he) V hS
   have e : drawD X.R.opn X.W X.cl X.ch (riseE X.ch) i (X.R.pn i) (.pan i) d = (d1, ok) := hdr
   rw [e] at this
   exact this
  have hd1 : ∃ L : Nat, d1 = d.put (.pan i) ((X.R.pn i).lo + (L : Int)) ∧ L ≤ ((X.R.pn i).hi - (X.R.pn i).lo + 1).toNat ∧ (ok = true → L < ((X.R.pn i).hi - (X.R.pn i).lo + 1).toNat) := by
   have e1 : d1 = (riseD X.R X.W X.cl X.ch i (X.R.pn i) (.pan i) d).1 := by rw [hdr]
   have e2 : ok = (riseD X.R X.W X.cl X.ch i (X.R.pn i) (.pan i) d).2 := by rw [hdr]
   refine ⟨leastD X.R.opn X.W (riseE X.ch) i (X.R.pn i) (.pan i) d, e1, firstN_le _ _, fun h => ?_⟩
   rw [e2] at h
   simp only [riseD, drawD, Bool.and_eq_true, decide_eq_true_eq] at h
   exact h.1
  clear hdr z5
  have i2 := o2.1.c1
  have i3 := o3.1.c1
  obtain ⟨j0, j1⟩ := o5.1.c2
  have i6 := o6.1.c1
  obtain ⟨L, hd1, hL, hLok⟩ := hd1
  have HD1 := Lib.hid hd1
  have HV := Lib.hid hS
  cases ok with
  | false =>
   have HR1 : Hid (r0 = (d1, i)) := Lib.hid (HR0.out.trans (by unfold panelD; rw [HDR.out, if_neg (by simp)]))
   clear hd1
   go_upto_region 3 with (go_at_call 99; refine hrise.mono ?_; rintro e w3 ⟨rfl, hS3, k3⟩)
   have p3 := (o3.kx k3 (fun e => (Z5.out _ e).2.2.2.1 rfl)).1.c1
   have o4' := o4.kx k3 (fun e => (Z5.out _ e).2.2.2.2 rfl)
   have p4 := o4'.1.c1
   have f4 := o4'.2 0
   clear i2 i3 j0 j1 i6
   go_wp2
   refine leaves_markS [] _ (by simp) (by simp) fun w' hk => ?_
   have oz := (o4'.set (i := 0) (v := .int .i64 (i : Int)) (by simp)).kx hk (by simp)
   have pz := oz.1.c1
   refine ⟨.int .i64 (i : Int), by simp [results, Try.results98, go_sem, pz], ?_, ?_, ?_⟩
   ·rw [HR1.out]
   ·rw [HR1.out]
    exact (hS3.kx (Kx.set (Z := fun k => k = w.heap.size + 1 + 1) (p := ⟨w.heap.size + 1 + 1, 0, none⟩) rfl _) (fun k e => (Z5.out _ e).2.2.2.2)).kx hk (by simp)
   ·exact ((Kx.gr gV).tr k3).th ((Kx.set (Z := fun k => k = w.heap.size + 1 + 1) (p := ⟨w.heap.size + 1 + 1, 0, none⟩) rfl _).tr (hk.mono (by simp))) (fun k e => .inr (by omega))
  | true =>
   obtain ⟨P0, eP0⟩ : ∃ P0, P0 = (X.R.pn i).lo + (L : Int) := ⟨_, rfl⟩
   rw [← eP0] at hd1
   have hP0 : d1.p.getD i 0 = P0 := by rw [hd1]; exact getD_set (by rw [hD.p]; exact hi) P0
   have hPi : d1.p[i]? = some P0 := by
    rw [hd1]
    exact List.getElem?_set_self (by rw [hD.p]; exact hi)
   have HR1 : Hid (panelFrom X.R X.W X.cl X.ch i ((X.R.pn i).hi - P0 + 1).toNat P0 d1 i = r0) := Lib.hid (HR0.out.trans (by unfold panelD; rw [HDR.out, if_pos rfl, hP0])).symm
   have hD1 : DrL d1 := by rw [hd1]; exact hD.put _ _
   have hLt := hLok rfl
   have hr2 := ho.r2
   have p0 : 1 ≤ P0 := by omega
   have p1 : P0 ≤ (X.R.pn i).hi := by omega
   have HPI := Lib.hid hPi
   clear hd1 hP0 hL hLok hPi eP0 hLt HD1
   go_upto_region 4 with (go_at_call 99; refine hrise.mono ?_; rintro e w3 ⟨rfl, hS3, k3⟩)
   have o2' := o2.kx k3 (fun e => (Z5.out _ e).2.2.1 rfl)
   have o3' := o3.kx k3 (fun e => (Z5.out _ e).2.2.2.1 rfl)
   have o4' := o4.kx k3 (fun e => (Z5.out _ e).2.2.2.2 rfl)
   have o5' := o5.kx k3 (fun e => (Z5.out _ e).1 rfl)
   have o6' := o6.kx k3 (fun e => (Z5.out _ e).2.1 rfl)
   have p3 := o3'.1.c1
   have p4 := o4'.1.c1
   have f4 := o4'.2 0
   clear i2 i3 j0 j1 i6
   go_upto_region 5 with fail
   have k4 : Kx (fun k => k = w.heap.size + 1 + 1) w3 (w3.setCell ⟨w.heap.size + 1 + 1, 0, none⟩ (.int .i64 (i : Int))) := Kx.set (Z := fun k => k = w.heap.size + 1 + 1) (p := ⟨w.heap.size + 1 + 1, 0, none⟩) rfl _
   have kw : Kx X.Z w (w3.setCell ⟨w.heap.size + 1 + 1, 0, none⟩ (.int .i64 (i : Int))) := ((Kx.gr gV).tr k3).th k4 (fun k e => .inr (by omega))
   have hne5 : c5 ≠ w.heap.size + 1 + 1 := by omega
   have hne6 : c6 ≠ w.heap.size + 1 + 1 := by omega
   refine wp_abs (fun W5 => Kx X.Z w W5 ∧ Se X d1 W5 ∧ Own W5 w.heap.size [.pointer (some ⟨X.S, 0, none⟩)] ∧ Own W5 (w.heap.size + 1) [.int .i64 (i : Int)] ∧ Own W5 (w.heap.size + 1 + 1) [.int .i64 (i : Int)] ∧ Own W5 c5 [.int .i64 (X.R.pn i).lo, .int .i64 (X.R.pn i).hi] ∧ Own W5 c6 [.pointer (some ⟨X.P, i, none⟩)]) ⟨kw, hS3.kx k4 (fun k e => (Z5.out _ e).2.2.2.2), o2'.other (by omega), o3'.other (by omega), o4'.set (i := 0) (v := .int .i64 (i : Int)) (by simp), o5'.other hne5, o6'.other hne6⟩ ?_
   clear kw k4 p3 p4 f4 o2' o3' o4' o5' o6' hS3 k3 hrise o2 o3 o4 o5 o6 hS HV gV
   rintro W5 ⟨kW, hS, o2, o3, o4, o5, o6⟩
   have j1 := o5.1.2 1 _ rfl
   have i6 := o6.1.c1
   have ip : W5.cell? ⟨X.P, i, none⟩ = some (.int .i64 P0) := hS.p.1.2 i (.int .i64 P0) (by simp [HPI.out])
   refine (show (∀ s : Nat → Value, Code.wp Try.prog _ _ ⟨#[.pointer (some ⟨X.S, 0, none⟩), .int .i64 (i : Int), .pointer (some ⟨w.heap.size, 0, none⟩), .pointer (some ⟨(w.heap.size + 1), 0, none⟩), .pointer (some ⟨(w.heap.size + 1 + 1), 0, none⟩), .pointer (some ⟨c5, 0, none⟩), .pointer (some ⟨c6, 0, none⟩), undef, s 8, s 9, s 10, s 11, s 12, s 13, s 14, s 15, s 16, s 17, s 18, s 19, s 20, s 21, s 22, s 23, s 24, s 25, s 26, s 27, s 28, s 29, undef, undef, undef, undef, undef, undef, undef, undef, undef, undef, undef, undef, undef, undef, undef, undef, undef, undef, undef, undef, undef, undef, undef], []⟩ _) → _ from fun h => h ((fun l : List Value => fun i => l.getD i undef) [undef, undef, undef, undef, undef, undef, undef, undef, _, _, _, _, _, _, _, _, _, _, _, _, _, _, _, _, _, _, _, _, _, _])) ?_
   intro s
   refine wp_region_facts 6 [(1, 0), (2, 1), (4, 3), (5, 2), (5, 4)] (fun x => ⟨#[.pointer (some ⟨X.S, 0, none⟩), .int .i64 (i : Int), .pointer (some ⟨w.heap.size, 0, none⟩), .pointer (some ⟨(w.heap.size + 1), 0, none⟩), .pointer (some ⟨(w.heap.size + 1 + 1), 0, none⟩), .pointer (some ⟨c5, 0, none⟩), .pointer (some ⟨c6, 0, none⟩), undef, s 8, s 9, s 10, s 11, s 12, s 13, s 14, s 15, s 16, s 17, s 18, s 19, s 20, s 21, s 22, s 23, s 24, s 25, s 26, s 27, s 28, s 29, x 0, x 1, x 2, x 3, x 4, x 5, undef, undef, undef, undef, undef, undef, undef, undef, undef, undef, undef, undef, undef, undef, undef, undef, undef], []⟩) (fun _ => undef) [fun _ x => x = .pointer (some ⟨X.P, i, none⟩), fun _ x => x = .pointer (some ⟨X.P, i, none⟩), fun _ x => x = .int .i64 P0, fun _ x => x = .pointer (some ⟨c5, 1, none⟩), fun _ x => x = .int .i64 (X.R.pn i).hi, fun _ x => x = .agg #[.int .i64 P0, .int .i64 (X.R.pn i).hi]] (by rfl) (by kernel_rfl) (by kernel_rfl) (by kernel_rfl) (stays_cons (Stays.eq _) (stays_cons (Stays.eq _) (stays_cons (Stays.eq _) (stays_cons (Stays.eq _) (stays_cons (Stays.eq _) (stays_cons (Stays.eq _) stays_nil)))))) ?step5 ?fin5
   case step5 =>
    rintro i hi x v gv hd K hK
    have hi8 : i = 0 ∨ i = 1 ∨ i = 2 ∨ i = 3 ∨ i = 4 ∨ i = 5 := by omega
    rcases hi8 with rfl | rfl | rfl | rfl | rfl | rfl
    ·try dsimp only [upd, Nat.reduceBEq, cond_true, cond_false]
     refine wpOp_step rfl (fun K' hK' => ?_)
     have q := gv.keep i6
     go_simp
     exact hK' _ _ (hK _ _ (Below.refl _ _) (at_of rfl (rfl)))
    ·obtain ⟨x, rfl⟩ := upd_of (show x 0 = .pointer (some ⟨X.P, i, none⟩) from hd 0 _ (by simp) rfl)
     try dsimp only [upd, Nat.reduceBEq, cond_true, cond_false]
     refine wpOp_step rfl (fun K' hK' => ?_)
     go_simp
     exact hK' _ _ (hK _ _ (Below.refl _ _) (at_of rfl (rfl)))
    ·obtain ⟨x, rfl⟩ := upd_of (show x 1 = .pointer (some ⟨X.P, i, none⟩) from hd 1 _ (by simp) rfl)
     try dsimp only [upd, Nat.reduceBEq, cond_true, cond_false]
     refine wpOp_step rfl (fun K' hK' => ?_)
     have q := gv.keep ip
     go_simp
     exact hK' _ _ (hK _ _ (Below.refl _ _) (at_of rfl (rfl)))
    ·try dsimp only [upd, Nat.reduceBEq, cond_true, cond_false]
     refine wpOp_step rfl (fun K' hK' => ?_)
     go_simp
     exact hK' _ _ (hK _ _ (Below.refl _ _) (at_of rfl (rfl)))
    ·obtain ⟨x, rfl⟩ := upd_of (show x 3 = .pointer (some ⟨c5, 1, none⟩) from hd 3 _ (by simp) rfl)
     try dsimp only [upd, Nat.reduceBEq, cond_true, cond_false]
     refine wpOp_step rfl (fun K' hK' => ?_)
     have q := gv.keep j1
     go_simp
     exact hK' _ _ (hK _ _ (Below.refl _ _) (at_of rfl (rfl)))
    ·obtain ⟨x, rfl⟩ := upd_of (show x 2 = .int .i64 P0 from hd 2 _ (by simp) rfl)
     obtain ⟨x, rfl⟩ := upd_of (show x 4 = .int .i64 (X.R.pn i).hi from hd 4 _ (by simp) rfl)
     try dsimp only [upd, Nat.reduceBEq, cond_true, cond_false]
     refine wpOp_step rfl (fun K' hK' => ?_)
     go_simp
     exact hK' _ _ (hK _ _ (Below.refl _ _) (at_of rfl (rfl)))
   case fin5 =>
    rintro x v gv hd
    obtain ⟨x, rfl⟩ := upd_of (show x 5 = .agg #[.int .i64 P0, .int .i64 (X.R.pn i).hi] from hd 5 _ (by omega) rfl)
    clear hd
    show wpList Try.prog _ _ (List.drop 6 _) (⟨#[_, _, _, _, _, _, _, _, _, _, _, _, _, _, _, _, _, _, _, _, _, _, _, _, _, _, _, _, _, _, x 0, x 1, x 2, x 3, x 4, .agg #[.int .i64 P0, .int .i64 (X.R.pn i).hi], _, _, _, _, _, _, _, _, _, _, _, _, _, _, _, _, _], []⟩ : Act) v
    simp only [List.drop_succ_cons, List.drop_zero]
    clear i6 j1 ip
    go_wp2_with (go_at_call 124; refine (each_any P0 (X.R.pn i).hi _).mono ?_; rintro e W6 ⟨b, rfl, hb, hO, g6⟩)

    skip
    refine (show (∀ s : Nat → Value, Code.wp Try.prog _ _ ⟨#[.pointer (some ⟨X.S, 0, none⟩), .int .i64 (i : Int), .pointer (some ⟨w.heap.size, 0, none⟩), .pointer (some ⟨(w.heap.size + 1), 0, none⟩), .pointer (some ⟨(w.heap.size + 1 + 1), 0, none⟩), .pointer (some ⟨c5, 0, none⟩), .pointer (some ⟨c6, 0, none⟩), undef, s 8, s 9, s 10, s 11, s 12, s 13, s 14, s 15, s 16, s 17, s 18, s 19, s 20, s 21, s 22, s 23, s 24, s 25, s 26, s 27, s 28, s 29, s 30, s 31, s 32, s 33, s 34, s 35, .func (.func 142) #[] #[.pointer (some ⟨b, 0, none⟩)], undef, undef, undef, undef, undef, undef, undef, undef, undef, undef, undef, undef, undef, undef, undef, undef], []⟩ _) → _ from fun h => h ((fun l : List Value => fun i => l.getD i undef) [undef, undef, undef, undef, undef, undef, undef, undef, _, _, _, _, _, _, _, _, _, _, _, _, _, _, _, _, _, _, _, _, _, _, _, _, _, _, _, _])) ?_
    clear s
    intro s
    refine (wpIn_wide (n := 20)).1 ?_
    have gk := gv.tr g6
    have hS6 := hS.gr gk
    have z6 : ∀ k, X.Z k → k < W6.heap.size := fun k e => hS6.lt e
    have s5 := gv.size
    have hb5 : W5.heap.size ≤ b := by omega
    have l4 := o4.1.1
    have l5 := o5.1.1
    have l6 := o6.1.1
    have l46 : w.heap.size + 1 + 1 < W6.heap.size := by have := gk.size; omega
    obtain ⟨X0, hX0⟩ : ∃ X0 : Nat → Prop, X0 = fun k => X.Z k ∨ k = w.heap.size + 1 + 1 := ⟨_, rfl⟩
    have x0 : ∀ k, X0 k → X.Z k ∨ k = w.heap.size + 1 + 1 := fun k e => by rw [hX0] at e; exact e
    have x0' : ∀ k, X.Z k ∨ k = w.heap.size + 1 + 1 → X0 k := fun k e => by rw [hX0]; exact e
    clear hX0
    have nb : ¬ X0 b := fun e => by rcases x0 _ e with e | e <;> (try have := z4 _ e) <;> omega
    have HO2 : Hid (∀ V, Kx X0 W6 V → V.cell? ⟨w.heap.size, 0, none⟩ = some (.pointer (some ⟨X.S, 0, none⟩))) := Lib.hid fun V k => ((o2.keep gk).kx k (fun e => by rcases x0 _ e with e | e <;> (try have := z4 _ e) <;> omega)).1.c1
    have HO3 : Hid (∀ V, Kx X0 W6 V → V.cell? ⟨w.heap.size + 1, 0, none⟩ = some (.int .i64 (i : Int))) := Lib.hid fun V k => ((o3.keep gk).kx k (fun e => by rcases x0 _ e with e | e <;> (try have := z4 _ e) <;> omega)).1.c1
    have HO6 : Hid (∀ V, Kx X0 W6 V → V.cell? ⟨c6, 0, none⟩ = some (.pointer (some ⟨X.P, i, none⟩))) := Lib.hid fun V k => ((o6.keep gk).kx k (fun e => by rcases x0 _ e with e | e <;> (try have := z4 _ e) <;> omega)).1.c1
    have HKW : Hid (∀ V, Kx X0 W6 V → Kx X.Z w V) := Lib.hid fun V k => (kW.tr (Kx.gr gk)).th k (fun j e => by rcases x0 _ e with e | e; exact .inl e; exact .inr (by omega))
    have O4 := Lib.hid (o4.keep gk)
    have HS6 := Lib.hid hS6
    have HRR := Lib.hid hr
    have HOst : Hid (St X0 (fun V => Own V b [.int .i64 P0, .int .i64 (X.R.pn i).hi]) W6) := Lib.hid (hO.st nb)
    obtain ⟨N, hN⟩ : ∃ N, N = ((X.R.pn i).hi - P0 + 1).toNat := ⟨_, rfl⟩
    have HR2 : Hid (panelFrom X.R X.W X.cl X.ch i N P0 d1 i = r0) := Lib.hid (by rw [hN]; exact HR1.out)
    have hMp := MeAt.pan D hi
    have HN := Lib.hid hN
    clear o2 o3 o4 o5 o6 hS hS6 kW gk gv g6 hO hr HR1 hN
    refine wpIn_rangeX (F := Fence.wide) rfl (by omega) (gf := 142) (lb := #[.pointer (some ⟨b, 0, none⟩)]) rfl trivial (enters_of Try.func142 (by kernel_rfl) rfl)
     (each_seq 19 (by omega) b P0 (X.R.pn i).hi (by omega) (by omega) X0 W6 HOst.out) (Kx.refl _ _) (fun _ => rfl) X0 (fun k e => ⟨by rcases x0 _ e with e | e; exact z6 _ e; omega, .inl e⟩)
     (PInv X i P0 N (w.heap.size + 1 + 1) r0 X0 W6) (PEnd X (w.heap.size + 1 + 1) r0 X0 W6) (fun s' X' => PInv.ab z6 l46 s' X') (fun c s' => PEnd.ab z6 l46 c s') ?start
     (fun pre x a' X' Y W => PInv X i P0 N (w.heap.size + 1 + 1) r0 X0 W6 pre X' Y W ∧ x = eachAt P0 pre.length ∧ x ≤ (X.R.pn i).hi ∧ a' = ⟨#[.pointer (some ⟨X.S, 0, none⟩), .int .i64 (i : Int), .pointer (some ⟨w.heap.size, 0, none⟩), .pointer (some ⟨(w.heap.size + 1), 0, none⟩), .pointer (some ⟨(w.heap.size + 1 + 1), 0, none⟩), .pointer (some ⟨c5, 0, none⟩), .pointer (some ⟨c6, 0, none⟩), .int .i64 x, s 8, s 9, s 10, s 11, s 12, s 13, s 14, s 15, s 16, s 17, s 18, s 19, s 20, s 21, s 22, s 23, s 24, s 25, s 26, s 27, s 28, s 29, s 30, s 31, s 32, s 33, s 34, s 35, .func (.func 142) #[] #[.pointer (some ⟨b, 0, none⟩)], .int .i64 x, undef, undef, undef, undef, undef, undef, undef, undef, undef, undef, undef, undef, undef, undef, undef], []⟩) ?abA ?assign ?body ?done ?stop
    case start => exact ⟨rfl, fun k e => e.elim, Kx.refl _ _, by simp, d1, i, HS6.out, O4.out, hD1, by simpa using HR2.out⟩
    case abA =>
     rintro s' x a' X' Y Y' A B ⟨h1, h2, h3, h4⟩ hk hy
     exact ⟨PInv.ab z6 l46 _ _ _ _ _ _ h1 hk hy, h2, h3, h4⟩
    case assign =>
     rintro l1 pre x X' Y W K hI hG hDj hK
     have HK := Lib.hid hK
     have HI := Lib.hid hI
     have HG := Lib.hid hG
     clear hK hI hG
     dsimp only [encE]
     gi_wp2
     exact HK.out _ X' _ ⟨HI.out, HG.out.1, HG.out.2, rfl⟩ (Kx.refl _ _) (fun k e => ⟨hDj.x _ e, .inl e⟩)
    case body =>
     rintro l1 pre x a' X' Y W ⟨⟨hXe, hY, h3, hlen, d', f, hS', oF, hD', hF⟩, hx, hle, rfl⟩ hDj hYl hrec
     obtain rfl := hXe.symm
     obtain ⟨m, hm⟩ : ∃ m, N - pre.length = m + 1 := ⟨N - pre.length - 1, by have hN := HN.out; simp only [eachAt] at hx; omega⟩
     have hm' : N - (pre ++ [x]).length = m := by simp; omega
     have hlen' : (pre ++ [x]).length ≤ N := by simp; omega
     have hx' : P0 + (((pre ++ [x]).length : Nat) : Int) = x + 1 := by simp only [eachAt] at hx; simp; omega
     have hxP : P0 + (pre.length : Int) = x := hx.symm
     have x1 : 1 ≤ x := by simp only [eachAt] at hx; omega
     rw [hm, hxP] at hF
     have HF := Lib.hid hF
     have HX := Lib.hid (And.intro hm' (And.intro hlen' hx'))
     have HY := Lib.hid hY
     have H3 := Lib.hid h3
     have i6 := HO6.out W h3
     obtain ⟨⟨u, hu⟩, hfr⟩ := hMp.cell d' W hD' hS'
     obtain ⟨d2, hd2⟩ : ∃ d2, d2 = d'.put (.pan i) x := ⟨_, rfl⟩
     have hS2 := hMp.put d' W x hD' hS'
     rw [← hd2] at hS2
     have hD2 : DrL d2 := by rw [hd2]; exact hD'.put _ _
     have hK2 : DrK d2 i := by rw [hd2]; exact panK hi hD' (by omega) (by omega)
     have hp2 : d2.p[i]? = some x := by rw [hd2]; exact List.getElem?_set_self (by rw [hD'.p]; exact hi)
     have HD2 := Lib.hid hd2
     have HP2 := Lib.hid hp2
     clear hF hx hm hm' hlen' hx' hxP hY h3 hd2 hp2 hD' hDj hYl hrec hlen
     gi_upto_region 8 with fail
     have zP : X.Z X.P := .inr (.inl rfl)
     have k7 : Kx X.Z W (W.setCell ⟨X.P, i, none⟩ (.int .i64 x)) := Kx.set (p := ⟨X.P, i, none⟩) zP _
     have k7' : Kx X0 W (W.setCell ⟨X.P, i, none⟩ (.int .i64 x)) := k7.mono (fun j e => .inl (x0' _ (.inl e)))
     have n4 : w.heap.size + 1 + 1 ≠ X.P := fun e => by have := z4 _ zP; omega
     refine wpIn_abs (fun V => Kx X0 W V ∧ Se X d2 V ∧ Own V (w.heap.size + 1 + 1) [.int .i64 (f : Int)]) ⟨k7', hS2, oF.other n4⟩ ?_
     clear k7 k7' hS2 oF hu hfr i6 hS'
     rintro V ⟨kV, hS2, oF⟩
     have k6V := H3.out.tr kV
     have i2 := HO2.out V k6V
     have i3 := HO3.out V k6V
     obtain ⟨g, hg⟩ : ∃ g, okAll (hL X.R.opn X.W d2 i) X.cl X.ch = g := ⟨_, rfl⟩
     have hhold := holds_any X d2 i (by omega) hD2 hK2 hW V hS2
     rw [hg] at hhold
     have HGG := Lib.hid hg
     clear hg
     cases g with
     | false =>
      gi_wp2_with (refine ⟨trivial, ?_⟩; gi_at_call 125; refine (CallsIn.inRound l1 (callsIn_wide.2 hhold)).mono ?_; rintro e w8 ⟨rfl, g8⟩)
      refine ⟨kV.tr (Kx.gr g8), rfl, HY.out, k6V.tr (Kx.gr g8), d2, f, hS2.gr g8, oF.keep g8, ?_⟩
      have h := HF.out
      rw [panelFrom, ← HD2.out, if_neg (by rw [HGG.out]; simp)] at h
      exact h
     | true =>
      gi_upto_region 9 with (refine ⟨trivial, ?_⟩; gi_at_call 125; refine (CallsIn.inRound l1 (callsIn_wide.2 hhold)).mono ?_; rintro e w8 ⟨rfl, g8⟩)
      have k8 := k6V.tr (Kx.gr g8)
      have kW8 := kV.tr (Kx.gr g8)
      have hS8 := hS2.gr g8
      have oF8 := oF.keep g8
      clear i2 i3 hS2 oF hhold kV k6V g8
      have i2 := HO2.out w8 k8
      have i3 := HO3.out w8 k8
      have i4 := oF8.1.c1
      have hrr := HRR.out.kx (HKW.out w8 k8)
      obtain ⟨⟨d3, f3⟩, hfl⟩ : ∃ r, flapsD X.R X.W X.cl X.ch i d2 = r := ⟨_, rfl⟩
      have hflaps := fun v (hs : Se X d2 v) (hrw : RoomRows X v) => flaps_any X D hR i hi d2 hD2 hW (fun v hv => by rw [HP2.out] at hv; cases hv; exact ⟨by omega, by omega⟩) v hs hrw
      rw [hfl] at hflaps
      have HFL := Lib.hid hfl
      have HFLAPS := Lib.hid hflaps
      have n4Z : ¬ X.Z (w.heap.size + 1 + 1) := fun e => by have := z4 _ e; omega
      have n2Z : ¬ X.Z w.heap.size := fun e => by have := z4 _ e; omega
      have n3Z : ¬ X.Z (w.heap.size + 1) := fun e => by have := z4 _ e; omega
      clear hfl hflaps
      refine (show (∀ s : Nat → Value, Code.wpIn _ _ Try.prog _ _ ⟨#[.pointer (some ⟨X.S, 0, none⟩), .int .i64 (i : Int), .pointer (some ⟨w.heap.size, 0, none⟩), .pointer (some ⟨(w.heap.size + 1), 0, none⟩), .pointer (some ⟨(w.heap.size + 1 + 1), 0, none⟩), .pointer (some ⟨c5, 0, none⟩), .pointer (some ⟨c6, 0, none⟩), .int .i64 x, s 8, s 9, s 10, s 11, s 12, s 13, s 14, s 15, s 16, s 17, s 18, s 19, s 20, s 21, s 22, s 23, s 24, s 25, s 26, s 27, s 28, s 29, s 30, s 31, s 32, s 33, s 34, s 35, .func (.func 142) #[] #[.pointer (some ⟨b, 0, none⟩)], .int .i64 x, s 38, s 39, s 40, s 41, s 42, s 43, s 44, undef, undef, undef, undef, undef, undef, undef, undef], []⟩ _) → _ from fun h => h ((fun l : List Value => fun i => l.getD i undef) [undef, undef, undef, undef, undef, undef, undef, undef, _, _, _, _, _, _, _, _, _, _, _, _, _, _, _, _, _, _, _, _, _, _, _, _, _, _, _, _, undef, undef, _, _, _, _, _, _, _])) ?_
      clear s
      intro s
      refine wpIn_region_turn 4 3 X.Z (Se X d2) (Se X d3) [(3, 1), (3, 2)] (fun x9 => ⟨#[.pointer (some ⟨X.S, 0, none⟩), .int .i64 (i : Int), .pointer (some ⟨w.heap.size, 0, none⟩), .pointer (some ⟨(w.heap.size + 1), 0, none⟩), .pointer (some ⟨(w.heap.size + 1 + 1), 0, none⟩), .pointer (some ⟨c5, 0, none⟩), .pointer (some ⟨c6, 0, none⟩), .int .i64 x, s 8, s 9, s 10, s 11, s 12, s 13, s 14, s 15, s 16, s 17, s 18, s 19, s 20, s 21, s 22, s 23, s 24, s 25, s 26, s 27, s 28, s 29, s 30, s 31, s 32, s 33, s 34, s 35, .func (.func 142) #[] #[.pointer (some ⟨b, 0, none⟩)], .int .i64 x, s 38, s 39, s 40, s 41, s 42, s 43, s 44, x9 0, x9 1, x9 2, x9 3, undef, undef, undef, undef], []⟩) (fun _ => undef) [fun _ z => z = .int .i64 (f : Int), fun _ z => z = .pointer (some ⟨X.S, 0, none⟩), fun _ z => z = .int .i64 (i : Int), fun _ z => z = .int .i64 (f3 : Int)] (by rfl) (by kernel_rfl) (by kernel_rfl) (by kernel_rfl) (by kernel_rfl) (by rintro ⟨_, _, h⟩; exact h) (by omega) (fun _ _ g h => h.gr g) (fun _ _ g h => h.gr g) hS8 (staysZ_cons (StaysZ.eq _ _) (staysZ_cons (StaysZ.eq _ _) (staysZ_cons (StaysZ.eq _ _) (staysZ_cons (StaysZ.eq _ _) staysZ_nil)))) ?step9 ?turn9 ?fin9
      case step9 =>
       rintro j hj hj3 x9 v kv hd K hK
       have hj8 : j = 0 ∨ j = 1 ∨ j = 2 := by omega
       rcases hj8 with rfl | rfl | rfl
       ·try dsimp only [upd, Nat.reduceBEq, cond_true, cond_false]
        have q := (oF8.kx kv n4Z).1.c1
        refine wpOp_step rfl (fun K' hK' => ?_)
        go_simp
        exact hK' _ _ (hK _ _ (Below.refl _ _) (at_of rfl rfl))
       ·try dsimp only [upd, Nat.reduceBEq, cond_true, cond_false]
        have q := HO2.out v (k8.tr (kv.mono (fun j e => .inl (x0' _ (.inl e)))))
        refine wpOp_step rfl (fun K' hK' => ?_)
        go_simp
        exact hK' _ _ (hK _ _ (Below.refl _ _) (at_of rfl rfl))
       ·try dsimp only [upd, Nat.reduceBEq, cond_true, cond_false]
        have q := HO3.out v (k8.tr (kv.mono (fun j e => .inl (x0' _ (.inl e)))))
        refine wpOp_step rfl (fun K' hK' => ?_)
        go_simp
        exact hK' _ _ (hK _ _ (Below.refl _ _) (at_of rfl rfl))
      case turn9 =>
       rintro x9 v kv ht hd K hK
       obtain ⟨x9, rfl⟩ := upd_of (show x9 1 = .pointer (some ⟨X.S, 0, none⟩) from hd 1 _ (by simp) rfl)
       obtain ⟨x9, rfl⟩ := upd_of (show x9 2 = .int .i64 (i : Int) from hd 2 _ (by simp) rfl)
       try dsimp only [upd, Nat.reduceBEq, cond_true, cond_false]
       refine wpOp_step rfl (fun K' hK' => ?_)
       go_simp
       refine (HFLAPS.out v ht (hrr.kx kv)).mono ?_
       rintro e v' ⟨rfl, hs', hk'⟩
       exact hK' _ _ (hK _ _ hk' hs' (at_of rfl rfl))
      case fin9 =>
       rintro x9 v kv ht hd
       obtain ⟨x9, rfl⟩ := upd_of (show x9 0 = .int .i64 (f : Int) from hd 0 _ (by omega) rfl)
       obtain ⟨x9, rfl⟩ := upd_of (show x9 3 = .int .i64 (f3 : Int) from hd 3 _ (by omega) rfl)
       clear hd
       show wpList Try.prog _ _ (List.drop 4 _) (⟨#[.pointer (some ⟨X.S, 0, none⟩), .int .i64 (i : Int), .pointer (some ⟨w.heap.size, 0, none⟩), .pointer (some ⟨(w.heap.size + 1), 0, none⟩), .pointer (some ⟨(w.heap.size + 1 + 1), 0, none⟩), .pointer (some ⟨c5, 0, none⟩), .pointer (some ⟨c6, 0, none⟩), .int .i64 x, s 8, s 9, s 10, s 11, s 12, s 13, s 14, s 15, s 16, s 17, s 18, s 19, s 20, s 21, s 22, s 23, s 24, s 25, s 26, s 27, s 28, s 29, s 30, s 31, s 32, s 33, s 34, s 35, .func (.func 142) #[] #[.pointer (some ⟨b, 0, none⟩)], .int .i64 x, s 38, s 39, s 40, s 41, s 42, s 43, s 44, .int .i64 (f : Int), x9 1, x9 2, .int .i64 (f3 : Int), undef, undef, undef, undef], []⟩ : Act) v
       simp only [List.drop_succ_cons, List.drop_zero]
       have oFv := oF8.kx kv n4Z
       have q4 := oFv.1.c1
       have f4 := oFv.2 0
       obtain ⟨fm, hfm⟩ : ∃ fm, fm = max f f3 := ⟨_, rfl⟩
       have hmax : max (f : Int) (f3 : Int) = (fm : Int) := by omega
       have HFM := Lib.hid hfm
       clear hfm i2 i3 i4
       have kx0 : Kx X0 w8 v := kv.mono (fun j e => .inl (x0' _ (.inl e)))
       have kx1 : Kx X0 v (v.setCell ⟨w.heap.size + 1 + 1, 0, none⟩ (.int .i64 (fm : Int))) := Kx.set (p := ⟨w.heap.size + 1 + 1, 0, none⟩) (x0' _ (.inr rfl)) _
       have ht9 : Se X d3 (v.setCell ⟨w.heap.size + 1 + 1, 0, none⟩ (.int .i64 (fm : Int))) := ht.kx (Kx.set (Z := fun k => k = w.heap.size + 1 + 1) (p := ⟨w.heap.size + 1 + 1, 0, none⟩) rfl _) (fun k e e' => n4Z (by rw [← e']; exact e))
       have oF9 := oFv.set (i := 0) (v := .int .i64 (fm : Int)) (by simp)
       have kA := kW8.tr (kx0.tr kx1)
       have kB := k8.tr (kx0.tr kx1)
       have hD3 : DrL d3 := by
        have h := flapsFrom_L (R := X.R) (W := X.W) (cl := X.cl) (ch := X.ch) (i := i) 4 5 d2 hD2
        have e : flapsFrom X.R X.W X.cl X.ch i 4 5 d2 = (d3, f3) := HFL.out
        rw [e] at h
        exact h
       by_cases h10 : fm = 10
       ·have h10' : ((fm : Int) == 10) = true := by rw [beq_iff_eq]; omega
        have hfin := HF.out
        rw [panelFrom, ← HD2.out, if_pos HGG.out, HFL.out, if_pos (by show max f f3 = 10; rw [← HFM.out]; exact h10)] at hfin
        have HFIN := Lib.hid hfin
        have H10 := Lib.hid h10
        clear hfin h10
        go_wp2
        gi_wp2
        refine ⟨kA, rfl, HY.out, kB, d3, fm, ht9, oF9, ?_⟩
        rw [H10.out]
        exact HFIN.out
       ·have h10' : ((fm : Int) == 10) = false := by rw [beq_eq_false_iff_ne]; omega
        have hfin := HF.out
        rw [panelFrom, ← HD2.out, if_pos HGG.out, HFL.out, if_neg (by show ¬ max f f3 = 10; rw [← HFM.out]; exact h10)] at hfin
        have HFIN := Lib.hid hfin
        clear hfin h10
        go_wp2
        gi_wp2
        refine ⟨kA, X0, ⟨rfl, HY.out, kB, HX.out.2.1, d3, fm, ht9, oF9, hD3, ?_⟩, fun k e => ⟨?_, .inl e⟩⟩
        ·rw [HX.out.1, HX.out.2.2]
         have h := HFIN.out
         have e : max f f3 = fm := HFM.out.symm
         rw [e] at h
         exact h
        ·have := kB.size
         rcases x0 _ e with e | e
         ·have := z6 _ e; omega
         ·omega
    case done =>
     rintro Dd xs X' Y W hDd ⟨k, rfl, hk1, hk2⟩ ⟨hXe, hY, h3, hlen, d', f, hS', oF, hD', hF⟩ hYD hKD
     obtain rfl := hXe.symm
     rw [comeTo_len] at hF hlen
     have e0 : N - k = 0 := by have hN := HN.out; simp only [eachAt] at hk1; omega
     rw [e0] at hF
     have HF := Lib.hid (show (d', f) = r0 from hF)
     have kw := HKW.out W h3
     have p4 := oF.1.c1
     have f4 := oF.2 0
     have hs3 := h3.size
     clear hF e0 hk1 hk2 hlen
     go_wp2
     have hn : ∀ k, X.Z k → ¬ k = Dd := fun k e e' => by have := z6 k e; omega
     refine leaves_markS [Dd] _ (fun E hE => ?_) (by simp) fun w' hk => ?_
     ·simp only [List.mem_singleton] at hE
      subst hE
      exact (Below.heap_setCell _ _ _ _ (by dsimp only; omega)).trans hKD
     ·have oz := (oF.set (i := 0) (v := .int .i64 (f : Int)) (by simp)).kx hk (fun e => by simp only [List.mem_singleton] at e; omega)
      have pz := oz.1.c1
      refine ⟨.int .i64 (f : Int), by simp [results, Try.results98, go_sem, pz], ?_, ?_, ?_⟩
      ·rw [← HF.out]
      ·rw [← HF.out]
       exact (hS'.kx (Kx.set (Z := fun k => k = w.heap.size + 1 + 1) (p := ⟨w.heap.size + 1 + 1, 0, none⟩) rfl _) (fun k e e' => by have := z4 k e; omega)).kx hk (fun k e e' => by simp only [List.mem_singleton] at e'; exact hn k e e')
      ·exact (kw.th (Kx.set (Z := fun k => k = w.heap.size + 1 + 1) (p := ⟨w.heap.size + 1 + 1, 0, none⟩) rfl _) (fun k e => .inr (by omega))).th hk (fun k e => .inr (by simp only [List.mem_singleton] at e; omega))
    case stop =>
     rintro Dd c pre Y W hDd hSp ⟨rfl, hY, h3, d', f, hS', oF, hF⟩ hYD hKD
     have HF := Lib.hid hF
     have kw := HKW.out W h3
     have p4 := oF.1.c1
     have f4 := oF.2 0
     have hs3 := h3.size
     clear hF
     refine wpIn_wide.2 ?_
     go_wp2
     have hn : ∀ k, X.Z k → ¬ k = Dd := fun k e e' => by have := z6 k e; omega
     refine leaves_markS [Dd] _ (fun E hE => ?_) (by simp) fun w' hk => ?_
     ·simp only [List.mem_singleton] at hE
      subst hE
      exact (Below.heap_setCell _ _ _ _ (by dsimp only; omega)).trans hKD
     ·have oz := (oF.set (i := 0) (v := .int .i64 (f : Int)) (by simp)).kx hk (fun e => by simp only [List.mem_singleton] at e; omega)
      have pz := oz.1.c1
      refine ⟨.int .i64 (f : Int), by simp [results, Try.results98, go_sem, pz], ?_, ?_, ?_⟩
      ·rw [← HF.out]
      ·rw [← HF.out]
       exact (hS'.kx (Kx.set (Z := fun k => k = w.heap.size + 1 + 1) (p := ⟨w.heap.size + 1 + 1, 0, none⟩) rfl _) (fun k e e' => by have := z4 k e; omega)).kx hk (fun k e e' => by simp only [List.mem_singleton] at e'; exact hn k e e')
      ·exact (kw.th (Kx.set (Z := fun k => k = w.heap.size + 1 + 1) (p := ⟨w.heap.size + 1 + 1, 0, none⟩) rfl _) (fun k e => .inr (by omega))).th hk (fun k e => .inr (by simp only [List.mem_singleton] at e; omega))

end Go.Proofs.Ytoihnilgmdcndaa

namespace Go.Proofs.Ytoihnilgmdcndaa
set_option linter.unusedVariables false
set_option linter.unusedSimpArgs false
open Go.RowKit

def blkOf : Value → Option Nat
  | .slice (some a) _ _ => some a.block
  | .pointer (some a) => some a.block
  | _ => none

/-- The value leads to block b. -/
def hasB (v : Value) (b : Nat) : Prop := blkOf v = some b ∨ ∃ cs, v = .agg cs ∧ ∃ c ∈ cs, blkOf c = some b

theorem wp_region_apart {P : Program} {Q : Exit → Act → World → Prop} {id : Nat} {W : World} {l : List Oper} (n : Nat) (ds : List (Nat × Nat)) (D : List Nat) (fr : (Nat → Value) → Act) (x0 : Nat → Value) (Fs : List (World → Value → Prop)) {a : Act} (ha : a = fr x0) (hm : P.follows .mixedOrders = true)
    (hB : (decide (n < l.toArray.size) && Region.sinkB .any l.toArray n && Region.chainB .any l.toArray n && minB .any l.toArray n && Region.seqB .any l.toArray (l.toArray.size - n) n (Array.replicate n true ++ Array.replicate (l.toArray.size - n) false)) = true)
    (hD : depB .any l.toArray ds = true)
    (hst : ∀ (i : Nat) (F : World → Value → Prop), Fs[i]? = some F → Stays F)
    (hstep : ∀ i, i < n → ∀ x v, Gr W v → (∀ (j : Nat) (F : World → Value → Prop), (i, j) ∈ ds → Fs[j]? = some F → F v (x j)) → ∀ K : Act → World → Prop, (∀ u v', Gr v v' → (∀ F : World → Value → Prop, Fs[i]? = some F → F v' u) → (i ∈ D → ∀ b, hasB u b → v.heap.size ≤ b ∧ b < v'.heap.size) → K (fr (upd x i u)) v') → wpOp P l.toArray Q i K (fr x) v)
    (hend : ∀ x v, Gr W v → (∀ (j : Nat) (F : World → Value → Prop), j < n → Fs[j]? = some F → F v (x j)) → (∀ i j, i ∈ D → j ∈ D → i ≠ j → i < n → j < n → ∀ b, hasB (x i) b → ¬ hasB (x j) b) → wpList P l.toArray Q (l.drop n) (fr x) v) : (Code.region id l.toArray true).wp P Q a W := by
  subst ha
  refine wp_region_inv' n ds (fun _ listed a v => ∃ x, a = fr x ∧ Gr W v ∧ (∀ (j : Nat) (F : World → Value → Prop), Fs[j]? = some F → listed.getD j false = true → F v (x j)) ∧ (∀ j ∈ D, listed.getD j false = true → ∀ b, hasB (x j) b → b < v.heap.size) ∧
      (∀ i j, i ∈ D → j ∈ D → i ≠ j → listed.getD i false = true → listed.getD j false = true → ∀ b, hasB (x i) b → ¬ hasB (x j) b)) hm hB hD
    ⟨x0, rfl, Gr.dr W, fun j F _ h => (by rw [getD_replicate_false] at h; cases h), fun j _ h => (by rw [getD_replicate_false] at h; cases h), fun i j _ _ _ h => (by rw [getD_replicate_false] at h; cases h)⟩ ?_ ?_
  · rintro i hi listed a v hun hdep ⟨x, rfl, gv, hf, hb, hap⟩
    refine hstep i hi x v gv (fun j F hj hF => hf j F hF (hdep j hj)) _ (fun u v' hg hu hn => ⟨upd x i u, rfl, gv.tr hg, fun j F hF hl => ?_, fun j hj hl b hbb => ?_, fun j k hj hk hjk hl1 hl2 b hb1 hb2 => ?_⟩)
    · by_cases e : j = i
      · subst e
        rw [upd_at]
        exact hu F hF
      · rw [upd_ne x u e]
        exact hst j F hF v v' _ hg (hf j F hF (by rwa [getD_set_ne false (fun e' => e e'.symm)] at hl))
    · by_cases e : j = i
      · subst e
        rw [upd_at] at hbb
        exact (hn hj b hbb).2
      · rw [upd_ne x u e] at hbb
        exact Nat.lt_of_lt_of_le (hb j hj (by rwa [getD_set_ne false (fun e' => e e'.symm)] at hl) b hbb) hg.size
    · by_cases e1 : j = i
      · subst e1
        have e2 : ¬ k = j := fun e => hjk e.symm
        rw [upd_at] at hb1
        rw [upd_ne x u e2] at hb2
        have h1 := (hn hj b hb1).1
        have h2 := hb k hk (by rwa [getD_set_ne false (fun e' => e2 e'.symm)] at hl2) b hb2
        omega
      · rw [upd_ne x u e1] at hb1
        have h3 : listed.getD j false = true := by rwa [getD_set_ne false (fun e' => e1 e'.symm)] at hl1
        by_cases e2 : k = i
        · subst e2
          rw [upd_at] at hb2
          have h1 := (hn hk b hb2).1
          have h2 := hb j hj h3 b hb1
          omega
        · rw [upd_ne x u e2] at hb2
          exact hap j k hj hk hjk h3 (by rwa [getD_set_ne false (fun e' => e2 e'.symm)] at hl2) b hb1 hb2
  · rintro listed a v hs hall ⟨x, rfl, gv, hf, hb, hap⟩
    have hl1 : ∀ j, j < n → listed.getD j false = true := fun j hj => by
      have h1 := hall j hj
      have hl : j < listed.size := by omega
      simp [hl] at h1 ⊢
      exact h1
    exact hend x v gv (fun j F hj hF => hf j F hF (hl1 j hj)) (fun i j hi hj hij hin hjn => hap i j hi hj hij (hl1 i hin) (hl1 j hjn))

end Go.Proofs.Ytoihnilgmdcndaa

namespace Go.Proofs.Ytoihnilgmdcndaa
set_option linter.unusedVariables false
set_option linter.unusedSimpArgs false
open Go.RowKit Go.Shelf

theorem wp_abs_list {P : Program} {ops : Array Oper} {rest : List Oper} {Q : Exit → Act → World → Prop} {a : Act} {w : World} (F : World → Prop) (h : F w) (k : ∀ W, F W → wpList P ops Q rest a W) : wpList P ops Q rest a w := k w h

theorem infoInt' : (Try.prog.info? 3).map (fun i => (i.zero, i.size, i.bytes)) = some (some (.int .i64 0), 1, 8) := by kernel_rfl

theorem made_4 (w : World) : (Instr.makeSlice 22 (.int .i64 4) (.int .i64 4)).run Try.prog w = .ok (.slice (some ⟨w.heap.size, 0, none⟩) 4 4) (w.alloc (.cells #[.int .i64 0, .int .i64 0, .int .i64 0, .int .i64 0] 3)) := by
 have h := run_make_row' 22 3 (.int .i64 0) 8 Try.underlying22 infoInt' rfl .i64 .i64 4 (by omega) (by omega) w
 have e : madeCells #[Value.int .i64 0] 4 = #[.int .i64 0, .int .i64 0, .int .i64 0, .int .i64 0] := by first | rfl | kernel_rfl | simp [madeCells]
 rw [e] at h
 exact h

theorem made_2 (w : World) : (Instr.makeSlice 22 (.int .i64 2) (.int .i64 2)).run Try.prog w = .ok (.slice (some ⟨w.heap.size, 0, none⟩) 2 2) (w.alloc (.cells #[.int .i64 0, .int .i64 0] 3)) := by
 have h := run_make_row' 22 3 (.int .i64 0) 8 Try.underlying22 infoInt' rfl .i64 .i64 2 (by omega) (by omega) w
 have e : madeCells #[Value.int .i64 0] 2 = #[.int .i64 0, .int .i64 0] := by first | rfl | kernel_rfl | simp [madeCells]
 rw [e] at h
 exact h

theorem own_of_block {w : World} {b : Nat} {vs : List Value} {t : TypeId} (h : w.heap[b]? = some (.cells vs.toArray t)) : Own w b vs := by
 refine ⟨⟨(Array.getElem?_eq_some_iff.1 h).1, fun i v hv => ?_⟩, fun i => ?_⟩
 ·simp only [World.cell?, h]
  simpa using hv
 ·simp [World.frozen?, h]

theorem block_gr {w w' : World} {b : Nat} {o : Obj} (h : w.heap[b]? = some o) (g : Gr w w') : w'.heap[b]? = some o := (g.block b (Array.getElem?_eq_some_iff.1 h).1).trans h

theorem block_set {w : World} {b c i : Nat} {o : Obj} {v : Value} (h : w.heap[c]? = some o) (hne : c ≠ b) : (w.setCell ⟨b, i, none⟩ v).heap[c]? = some o := (Below.heap_setCell _ _ _ _ hne).trans h

/-- Three rows of zeros, none of which is another. -/
structure Zeros (w w' : World) (a b c : Nat) : Prop where
 ha : w'.heap[a]? = some (.cells #[.int .i64 0, .int .i64 0, .int .i64 0, .int .i64 0] 3)
 hb : w'.heap[b]? = some (.cells #[.int .i64 0, .int .i64 0] 3)
 hc : w'.heap[c]? = some (.cells #[.int .i64 0, .int .i64 0] 3)
 la : w.heap.size ≤ a
 lb : w.heap.size ≤ b
 lc : w.heap.size ≤ c
 ab : a ≠ b
 ac : a ≠ c
 bc : b ≠ c

set_option maxRecDepth 100000 in
set_option maxHeartbeats 4000000 in
theorem empty_any (tab : Int) (opn : Bool) (w : World) :
  Calls Try.prog 74 #[.int .i64 tab, .bool opn] w fun e w' => ∃ a b c, e = .returned (.agg #[.int .i64 tab, .slice (some ⟨a, 0, none⟩) 4 4, .int .i64 0, .slice (some ⟨b, 0, none⟩) 2 2, .slice (some ⟨c, 0, none⟩) 2 2, .int .i64 0, .bool opn]) ∧ Zeros w w' a b c ∧ Gr w w' := by
 have g0 := Gr.al w (.cells #[.int .i64 0, .slice none 0 0, .int .i64 0, .slice none 0 0, .slice none 0 0, .int .i64 0, .bool false] 24)
 have o0 := Own.new w [.int .i64 0, .slice none 0 0, .int .i64 0, .slice none 0 0, .slice none 0 0, .int .i64 0, .bool false] 24 w.heap.size rfl
 go_enter Try.func74, Try.ntmps74
 go_upto_region 1 with fail
 refine wp_abs (fun U => Gr w U ∧ Own U w.heap.size [.int .i64 0, .slice none 0 0, .int .i64 0, .slice none 0 0, .slice none 0 0, .int .i64 0, .bool false]) ⟨g0, o0⟩ ?_
 clear g0 o0
 rintro U ⟨gU, o0⟩
 refine wp_region_apart 5 [] [1, 2, 3] (fun x => ⟨#[.int .i64 tab, .bool opn, undef, undef, .pointer (some ⟨w.heap.size, 0, none⟩), x 0, x 1, x 2, x 3, x 4, undef], []⟩) (fun _ => undef) [fun _ x => x = .int .i64 tab, fun v x => ∃ a, x = .slice (some ⟨a, 0, none⟩) 4 4 ∧ U.heap.size ≤ a ∧ v.heap[a]? = some (.cells #[.int .i64 0, .int .i64 0, .int .i64 0, .int .i64 0] 3), fun v x => ∃ a, x = .slice (some ⟨a, 0, none⟩) 2 2 ∧ U.heap.size ≤ a ∧ v.heap[a]? = some (.cells #[.int .i64 0, .int .i64 0] 3), fun v x => ∃ a, x = .slice (some ⟨a, 0, none⟩) 2 2 ∧ U.heap.size ≤ a ∧ v.heap[a]? = some (.cells #[.int .i64 0, .int .i64 0] 3), fun _ x => x = .bool opn] (by rfl) (by kernel_rfl) (by kernel_rfl) (by kernel_rfl) (stays_cons (Stays.eq _) (stays_cons ((show Stays (fun v x => ∃ a, x = .slice (some ⟨a, 0, none⟩) 4 4 ∧ U.heap.size ≤ a ∧ v.heap[a]? = some (.cells #[.int .i64 0, .int .i64 0, .int .i64 0, .int .i64 0] 3)) from fun v v' x g ⟨a, e, l, o⟩ => ⟨a, e, l, block_gr o g⟩)) (stays_cons ((show Stays (fun v x => ∃ a, x = .slice (some ⟨a, 0, none⟩) 2 2 ∧ U.heap.size ≤ a ∧ v.heap[a]? = some (.cells #[.int .i64 0, .int .i64 0] 3)) from fun v v' x g ⟨a, e, l, o⟩ => ⟨a, e, l, block_gr o g⟩)) (stays_cons ((show Stays (fun v x => ∃ a, x = .slice (some ⟨a, 0, none⟩) 2 2 ∧ U.heap.size ≤ a ∧ v.heap[a]? = some (.cells #[.int .i64 0, .int .i64 0] 3)) from fun v v' x g ⟨a, e, l, o⟩ => ⟨a, e, l, block_gr o g⟩)) (stays_cons (Stays.eq _) stays_nil))))) ?step1 ?fin1
 case step1 =>
  rintro i hi x v gv hd K hK
  have hi8 : i = 0 ∨ i = 1 ∨ i = 2 ∨ i = 3 ∨ i = 4 := by omega
  rcases hi8 with rfl | rfl | rfl | rfl | rfl
  ·try dsimp only [upd, Nat.reduceBEq, cond_true, cond_false]
   refine wpOp_step rfl (fun K' hK' => ?_)
   go_simp
   exact hK' _ _ (hK _ _ (Below.refl _ _) (at_of rfl (rfl)) (fun h => absurd h (by simp)))
  ·try dsimp only [upd, Nat.reduceBEq, cond_true, cond_false]
   refine wpOp_step rfl (fun K' hK' => ?_)
   have hm := made_4 v
   go_simp
   have hg := Gr.al v (.cells #[.int .i64 0, .int .i64 0, .int .i64 0, .int .i64 0] 3)
   exact hK' _ _ (hK _ _ hg (at_of rfl (⟨_, rfl, gv.size, World.alloc_heap_new v _⟩)) (fun _ b hb => by simp [hasB, blkOf] at hb; subst hb; simp))
  ·try dsimp only [upd, Nat.reduceBEq, cond_true, cond_false]
   refine wpOp_step rfl (fun K' hK' => ?_)
   have hm := made_2 v
   go_simp
   have hg := Gr.al v (.cells #[.int .i64 0, .int .i64 0] 3)
   exact hK' _ _ (hK _ _ hg (at_of rfl (⟨_, rfl, gv.size, World.alloc_heap_new v _⟩)) (fun _ b hb => by simp [hasB, blkOf] at hb; subst hb; simp))
  ·try dsimp only [upd, Nat.reduceBEq, cond_true, cond_false]
   refine wpOp_step rfl (fun K' hK' => ?_)
   have hm := made_2 v
   go_simp
   have hg := Gr.al v (.cells #[.int .i64 0, .int .i64 0] 3)
   exact hK' _ _ (hK _ _ hg (at_of rfl (⟨_, rfl, gv.size, World.alloc_heap_new v _⟩)) (fun _ b hb => by simp [hasB, blkOf] at hb; subst hb; simp))
  ·try dsimp only [upd, Nat.reduceBEq, cond_true, cond_false]
   refine wpOp_step rfl (fun K' hK' => ?_)
   go_simp
   exact hK' _ _ (hK _ _ (Below.refl _ _) (at_of rfl (rfl)) (fun h => absurd h (by simp)))
 case fin1 =>
  rintro x v gv hd hap
  obtain ⟨x, rfl⟩ := upd_of (show x 0 = .int .i64 tab from hd 0 _ (by omega) rfl)
  obtain ⟨a1, e1, l1, o1⟩ := hd 1 _ (by omega) rfl
  obtain ⟨x, rfl⟩ := upd_of (show x 1 = .slice (some ⟨a1, 0, none⟩) 4 4 from e1)
  obtain ⟨a2, e2, l2, o2⟩ := hd 2 _ (by omega) rfl
  obtain ⟨x, rfl⟩ := upd_of (show x 2 = .slice (some ⟨a2, 0, none⟩) 2 2 from e2)
  obtain ⟨a3, e3, l3, o3⟩ := hd 3 _ (by omega) rfl
  obtain ⟨x, rfl⟩ := upd_of (show x 3 = .slice (some ⟨a3, 0, none⟩) 2 2 from e3)
  obtain ⟨x, rfl⟩ := upd_of (show x 4 = .bool opn from hd 4 _ (by omega) rfl)
  clear hd
  show wpList Try.prog _ _ (List.drop 5 _) (⟨#[_, _, _, _, _, .int .i64 tab, .slice (some ⟨a1, 0, none⟩) 4 4, .slice (some ⟨a2, 0, none⟩) 2 2, .slice (some ⟨a3, 0, none⟩) 2 2, .bool opn, _], []⟩ : Act) v
  simp only [List.drop_succ_cons, List.drop_zero]
  have n12 : a1 ≠ a2 := fun e => hap 1 2 (by simp) (by simp) (by simp) (by omega) (by omega) a1 (by rw [e1]; simp [hasB, blkOf]) (by rw [e2, e]; simp [hasB, blkOf])
  have n13 : a1 ≠ a3 := fun e => hap 1 3 (by simp) (by simp) (by simp) (by omega) (by omega) a1 (by rw [e1]; simp [hasB, blkOf]) (by rw [e3, e]; simp [hasB, blkOf])
  have n23 : a2 ≠ a3 := fun e => hap 2 3 (by simp) (by simp) (by simp) (by omega) (by omega) a2 (by rw [e2]; simp [hasB, blkOf]) (by rw [e3, e]; simp [hasB, blkOf])
  clear hap e1 e2 e3
  have ov := o0.keep gv
  have lU := gU.size
  have l0 := o0.1.1
  have q0 := ov.1.2 0 _ rfl
  have q1 := ov.1.2 1 _ rfl
  have q2 := ov.1.2 2 _ rfl
  have q3 := ov.1.2 3 _ rfl
  have q4 := ov.1.2 4 _ rfl
  have q5 := ov.1.2 5 _ rfl
  have q6 := ov.1.2 6 _ rfl
  have z0 := ov.2 0
  have z1 := ov.2 1
  have z2 := ov.2 2
  have z3 := ov.2 3
  have z4 := ov.2 4
  have z5 := ov.2 5
  have z6 := ov.2 6
  go_wp2
  refine bodyPost_ret (v := .agg #[.int .i64 tab, .slice (some ⟨a1, 0, none⟩) 4 4, .int .i64 0, .slice (some ⟨a2, 0, none⟩) 2 2, .slice (some ⟨a3, 0, none⟩) 2 2, .int .i64 0, .bool opn]) (by simp [results, Try.results74, go_sem, q0, q1, q2, q3, q4, q5, q6]) rfl ⟨a1, a2, a3, rfl, ⟨(block_set (block_set (block_set (block_set (block_set (block_set (block_set o1 (by omega)) (by omega)) (by omega)) (by omega)) (by omega)) (by omega)) (by omega)), (block_set (block_set (block_set (block_set (block_set (block_set (block_set o2 (by omega)) (by omega)) (by omega)) (by omega)) (by omega)) (by omega)) (by omega)), (block_set (block_set (block_set (block_set (block_set (block_set (block_set o3 (by omega)) (by omega)) (by omega)) (by omega)) (by omega)) (by omega)) (by omega)), by omega, by omega, by omega, n12, n13, n23⟩, ?_⟩
  exact ((((((((gU.tr gv).setCell (p := ⟨w.heap.size, 0, none⟩) (by simp) _).setCell (p := ⟨w.heap.size, 1, none⟩) (by simp) _).setCell (p := ⟨w.heap.size, 2, none⟩) (by simp) _).setCell (p := ⟨w.heap.size, 3, none⟩) (by simp) _).setCell (p := ⟨w.heap.size, 4, none⟩) (by simp) _).setCell (p := ⟨w.heap.size, 5, none⟩) (by simp) _).setCell (p := ⟨w.heap.size, 6, none⟩) (by simp) _)

theorem Zeros.gr {w v v' : World} {a b c : Nat} (h : Zeros w v a b c) (g : Gr v v') : Zeros w v' a b c := ⟨block_gr h.ha g, block_gr h.hb g, block_gr h.hc g, h.la, h.lb, h.lc, h.ab, h.ac, h.bc⟩

theorem Zeros.up {w v v' : World} {a b c : Nat} (g : Gr w v) (h : Zeros v v' a b c) : Zeros w v' a b c := ⟨h.ha, h.hb, h.hc, Nat.le_trans g.size h.la, Nat.le_trans g.size h.lb, Nat.le_trans g.size h.lc, h.ab, h.ac, h.bc⟩

theorem layZ (tab : Int) (opn : Bool) (a b c : Nat) (w : World) :
  Calls Try.prog 68 #[.agg #[.int .i64 tab, .slice (some ⟨a, 0, none⟩) 4 4, .int .i64 0, .slice (some ⟨b, 0, none⟩) 2 2, .slice (some ⟨c, 0, none⟩) 2 2, .int .i64 0, .bool opn], .int .i64 0] w fun e w' => e = .returned (.agg #[.int .i64 tab, .slice (some ⟨a, 0, none⟩) 4 4, .int .i64 0, .slice (some ⟨b, 0, none⟩) 2 2, .slice (some ⟨c, 0, none⟩) 2 2, .int .i64 0, .bool opn, .int .i64 0, .slice (some ⟨b, 0, none⟩) 2 2, .slice (some ⟨c, 0, none⟩) 2 2]) ∧ Gr w w' :=
 layS_any tab 0 0 0 [0, 0, 0, 0] [0, 0] [0, 0] (some ⟨a, 0, none⟩) (some ⟨b, 0, none⟩) (some ⟨c, 0, none⟩) 4 2 2 opn w

theorem row_lt {w : World} {a : Option Addr} {l : List Int} (h : IRow w a l) (hl : 0 < l.length) : ∀ b off, a = some ⟨b, off, none⟩ → b < w.heap.size := fun b off e => by
 obtain ⟨x, hx⟩ := get_of_lt hl
 obtain ⟨b', off', e', hb, _⟩ := h.2 0 x hx
 rw [e] at e'
 injection e' with e'
 injection e' with e1 _
 omega

theorem min_cast {a b : Nat} : min (a : Int) (b : Int) = ((min a b : Nat) : Int) := by omega

theorem panelsD_L {R : Rm} {W : Wi} {cl ch : Int} {i : Nat} : ∀ (n : Nat) (long : Int) (d : Dr) (f : Nat), DrL d → DrL (panelFrom R W cl ch i n long d f).1
 | 0, _, _, _, h => h
 | n + 1, long, d, f, h => by
  rw [panelFrom]
  split
  ·split
   ·exact flapsFrom_L 4 5 _ (h.put _ _)
   ·exact panelsD_L n _ _ _ (flapsFrom_L 4 5 _ (h.put _ _))
  ·exact (h.put (.pan i) long : DrL (d.put (.pan i) long))

theorem panelD_L {R : Rm} {W : Wi} {cl ch : Int} {i : Nat} {d : Dr} (h : DrL d) : DrL (panelD R W cl ch i d).1 := by
 have h1 : DrL (riseD R W cl ch i (R.pn i) (.pan i) d).1 := (h.put (.pan i) ((R.pn i).lo + (leastD R.opn W (riseE ch) i (R.pn i) (.pan i) d : Int)) : _)
 unfold panelD
 split
 ·exact panelsD_L _ _ _ _ h1
 ·exact h1

theorem panels_L {R : Rm} {W : Wi} {cl ch : Int} : ∀ n, DrL (panelsD R W cl ch n).1
 | 0 => ⟨rfl, rfl, rfl⟩
 | n + 1 => panelD_L (panels_L n)

set_option maxRecDepth 100000 in
set_option maxHeartbeats 8000000 in
theorem smallest_any (tab : Int) (ra rt rb : Option Addr) (rac rtc rbc : Nat) (R : Rm) (W : Wi) (cl ch : Int) (hR : RmOk R) (hW : W.ok) (w : World) (hra : IRow w ra R.pan) (hrt : IRow w rt R.top) (hrb : IRow w rb R.bot) :
  Calls Try.prog 75 #[.agg #[.int .i64 tab, .slice ra R.pan.length rac, .int .i64 R.hei, .slice rt R.top.length rtc, .slice rb R.bot.length rbc, .int .i64 R.slo, .bool R.opn, .int .i64 R.off, .slice rt R.top.length rtc, .slice rb R.bot.length rbc], .agg #[.int .i64 W.ll, .int .i64 W.lh, .int .i64 W.wl, .int .i64 W.wh, .int .i64 W.hl, .int .i64 W.hh, .int .i64 W.ol, .int .i64 W.oh, .int .i64 W.il, .int .i64 W.ih, .bool W.wo], .agg #[.int .i64 cl, .int .i64 ch]] w fun e w' => ∃ P T B, e = .returned (.tuple #[.agg #[.int .i64 tab, .slice (some ⟨P, 0, none⟩) 4 4, .int .i64 (smallD R W cl ch).1.hei, .slice (some ⟨T, 0, none⟩) 2 2, .slice (some ⟨B, 0, none⟩) 2 2, .int .i64 (smallD R W cl ch).1.slo, .bool R.opn], .int .i64 ((smallD R W cl ch).2 : Int)]) ∧
   Own w' P ((smallD R W cl ch).1.p.map encN) ∧ Own w' T ((smallD R W cl ch).1.t.map encN) ∧ Own w' B ((smallD R W cl ch).1.b.map encN) ∧ w.heap.size ≤ P ∧ w.heap.size ≤ T ∧ w.heap.size ≤ B ∧ Gr w w' := by
 obtain ⟨⟨d0, f0⟩, hr0⟩ : ∃ r, smallD R W cl ch = r := ⟨_, rfl⟩
 rw [hr0]
 have HR0 := Lib.hid hr0
 clear hr0
 have gg := (((Gr.al w (.cells #[.int .i64 tab, .slice ra R.pan.length rac, .int .i64 R.hei, .slice rt R.top.length rtc, .slice rb R.bot.length rbc, .int .i64 R.slo, .bool R.opn, .int .i64 R.off, .slice rt R.top.length rtc, .slice rb R.bot.length rbc] 124)).tr (Gr.al _ (.cells #[.int .i64 W.ll, .int .i64 W.lh, .int .i64 W.wl, .int .i64 W.wh, .int .i64 W.hl, .int .i64 W.hh, .int .i64 W.ol, .int .i64 W.oh, .int .i64 W.il, .int .i64 W.ih, .bool W.wo] 133))).tr (Gr.al _ (.cells #[.int .i64 cl, .int .i64 ch] 37))).tr (Gr.al _ (.cells #[.int .i64 0, .slice none 0 0, .int .i64 0, .slice none 0 0, .slice none 0 0, .int .i64 0, .bool false] 24))
 have o3 := (Own.new w [.int .i64 tab, .slice ra R.pan.length rac, .int .i64 R.hei, .slice rt R.top.length rtc, .slice rb R.bot.length rbc, .int .i64 R.slo, .bool R.opn, .int .i64 R.off, .slice rt R.top.length rtc, .slice rb R.bot.length rbc] 124 w.heap.size rfl).keep (((Gr.al _ (.cells #[.int .i64 W.ll, .int .i64 W.lh, .int .i64 W.wl, .int .i64 W.wh, .int .i64 W.hl, .int .i64 W.hh, .int .i64 W.ol, .int .i64 W.oh, .int .i64 W.il, .int .i64 W.ih, .bool W.wo] 133)).tr (Gr.al _ (.cells #[.int .i64 cl, .int .i64 ch] 37))).tr (Gr.al _ (.cells #[.int .i64 0, .slice none 0 0, .int .i64 0, .slice none 0 0, .slice none 0 0, .int .i64 0, .bool false] 24)))
 have o4 := (Own.new (w.alloc (.cells #[.int .i64 tab, .slice ra R.pan.length rac, .int .i64 R.hei, .slice rt R.top.length rtc, .slice rb R.bot.length rbc, .int .i64 R.slo, .bool R.opn, .int .i64 R.off, .slice rt R.top.length rtc, .slice rb R.bot.length rbc] 124)) [.int .i64 W.ll, .int .i64 W.lh, .int .i64 W.wl, .int .i64 W.wh, .int .i64 W.hl, .int .i64 W.hh, .int .i64 W.ol, .int .i64 W.oh, .int .i64 W.il, .int .i64 W.ih, .bool W.wo] 133 (w.heap.size + 1) (by simp)).keep ((Gr.al _ (.cells #[.int .i64 cl, .int .i64 ch] 37)).tr (Gr.al _ (.cells #[.int .i64 0, .slice none 0 0, .int .i64 0, .slice none 0 0, .slice none 0 0, .int .i64 0, .bool false] 24)))
 have o5 := (Own.new ((w.alloc (.cells #[.int .i64 tab, .slice ra R.pan.length rac, .int .i64 R.hei, .slice rt R.top.length rtc, .slice rb R.bot.length rbc, .int .i64 R.slo, .bool R.opn, .int .i64 R.off, .slice rt R.top.length rtc, .slice rb R.bot.length rbc] 124)).alloc (.cells #[.int .i64 W.ll, .int .i64 W.lh, .int .i64 W.wl, .int .i64 W.wh, .int .i64 W.hl, .int .i64 W.hh, .int .i64 W.ol, .int .i64 W.oh, .int .i64 W.il, .int .i64 W.ih, .bool W.wo] 133)) [.int .i64 cl, .int .i64 ch] 37 (w.heap.size + 1 + 1) (by simp)).keep (Gr.al _ (.cells #[.int .i64 0, .slice none 0 0, .int .i64 0, .slice none 0 0, .slice none 0 0, .int .i64 0, .bool false] 24))
 have o6 := Own.new (((w.alloc (.cells #[.int .i64 tab, .slice ra R.pan.length rac, .int .i64 R.hei, .slice rt R.top.length rtc, .slice rb R.bot.length rbc, .int .i64 R.slo, .bool R.opn, .int .i64 R.off, .slice rt R.top.length rtc, .slice rb R.bot.length rbc] 124)).alloc (.cells #[.int .i64 W.ll, .int .i64 W.lh, .int .i64 W.wl, .int .i64 W.wh, .int .i64 W.hl, .int .i64 W.hh, .int .i64 W.ol, .int .i64 W.oh, .int .i64 W.il, .int .i64 W.ih, .bool W.wo] 133)).alloc (.cells #[.int .i64 cl, .int .i64 ch] 37)) [.int .i64 0, .slice none 0 0, .int .i64 0, .slice none 0 0, .slice none 0 0, .int .i64 0, .bool false] 24 (w.heap.size + 1 + 1 + 1) (by simp)
 go_enter Try.func75, Try.ntmps75
 go_upto_region 1 with fail
 refine wp_abs (fun U => Gr w U ∧ Own U w.heap.size [.int .i64 tab, .slice ra R.pan.length rac, .int .i64 R.hei, .slice rt R.top.length rtc, .slice rb R.bot.length rbc, .int .i64 R.slo, .bool R.opn, .int .i64 R.off, .slice rt R.top.length rtc, .slice rb R.bot.length rbc] ∧ Own U (w.heap.size + 1) [.int .i64 W.ll, .int .i64 W.lh, .int .i64 W.wl, .int .i64 W.wh, .int .i64 W.hl, .int .i64 W.hh, .int .i64 W.ol, .int .i64 W.oh, .int .i64 W.il, .int .i64 W.ih, .bool W.wo] ∧ Own U (w.heap.size + 1 + 1) [.int .i64 cl, .int .i64 ch] ∧ Own U (w.heap.size + 1 + 1 + 1) [.int .i64 0, .slice none 0 0, .int .i64 0, .slice none 0 0, .slice none 0 0, .int .i64 0, .bool false]) ⟨gg, o3, o4, o5, o6⟩ ?_
 clear gg o3 o4 o5 o6
 rintro U ⟨gU, o3, o4, o5, o6⟩
 have hX := o3.1
 have hWs := o4.1
 have hCs := o5.1
 refine wp_region_facts 13 [(4, 3), (5, 4), (7, 6), (8, 7), (9, 5), (9, 8), (10, 9), (11, 0), (11, 1), (11, 2), (11, 10)] (fun x => ⟨#[.agg #[.int .i64 tab, .slice ra R.pan.length rac, .int .i64 R.hei, .slice rt R.top.length rtc, .slice rb R.bot.length rbc, .int .i64 R.slo, .bool R.opn, .int .i64 R.off, .slice rt R.top.length rtc, .slice rb R.bot.length rbc], .agg #[.int .i64 W.ll, .int .i64 W.lh, .int .i64 W.wl, .int .i64 W.wh, .int .i64 W.hl, .int .i64 W.hh, .int .i64 W.ol, .int .i64 W.oh, .int .i64 W.il, .int .i64 W.ih, .bool W.wo], .agg #[.int .i64 cl, .int .i64 ch], .pointer (some ⟨w.heap.size, 0, none⟩), .pointer (some ⟨(w.heap.size + 1), 0, none⟩), .pointer (some ⟨(w.heap.size + 1 + 1), 0, none⟩), .pointer (some ⟨(w.heap.size + 1 + 1 + 1), 0, none⟩), .int .i64 0, x 12, undef, x 0, x 1, x 2, x 3, x 4, x 5, x 6, x 7, x 8, x 9, x 10, x 11, undef, undef, undef, undef, undef, undef, undef, undef, undef, undef, undef, undef, undef, undef, undef, undef, undef, undef, undef, undef, undef, undef, undef, undef, undef, undef, undef, undef, undef, undef], []⟩) (fun _ => undef) [fun _ x => x = .agg #[.int .i64 tab, .slice ra R.pan.length rac, .int .i64 R.hei, .slice rt R.top.length rtc, .slice rb R.bot.length rbc, .int .i64 R.slo, .bool R.opn, .int .i64 R.off, .slice rt R.top.length rtc, .slice rb R.bot.length rbc], fun _ x => x = .agg #[.int .i64 W.ll, .int .i64 W.lh, .int .i64 W.wl, .int .i64 W.wh, .int .i64 W.hl, .int .i64 W.hh, .int .i64 W.ol, .int .i64 W.oh, .int .i64 W.il, .int .i64 W.ih, .bool W.wo], fun _ x => x = .agg #[.int .i64 cl, .int .i64 ch], fun _ x => x = .pointer (some ⟨w.heap.size, 0, none⟩), fun _ x => x = .pointer (some ⟨w.heap.size, 0, none⟩), fun _ x => x = .int .i64 tab, fun _ x => x = .pointer (some ⟨w.heap.size, 0, none⟩), fun _ x => x = .pointer (some ⟨w.heap.size, 6, none⟩), fun _ x => x = .bool R.opn, fun v x => ∃ a b c, x = .agg #[.int .i64 tab, .slice (some ⟨a, 0, none⟩) 4 4, .int .i64 0, .slice (some ⟨b, 0, none⟩) 2 2, .slice (some ⟨c, 0, none⟩) 2 2, .int .i64 0, .bool R.opn] ∧ Zeros U v a b c, fun v x => ∃ a b c, x = .agg #[.int .i64 tab, .slice (some ⟨a, 0, none⟩) 4 4, .int .i64 0, .slice (some ⟨b, 0, none⟩) 2 2, .slice (some ⟨c, 0, none⟩) 2 2, .int .i64 0, .bool R.opn, .int .i64 0, .slice (some ⟨b, 0, none⟩) 2 2, .slice (some ⟨c, 0, none⟩) 2 2] ∧ Zeros U v a b c, fun v x => ∃ a b c, x = .agg #[.int .i64 tab, .slice ra R.pan.length rac, .int .i64 R.hei, .slice rt R.top.length rtc, .slice rb R.bot.length rbc, .int .i64 R.slo, .bool R.opn, .int .i64 R.off, .slice rt R.top.length rtc, .slice rb R.bot.length rbc, .int .i64 W.ll, .int .i64 W.lh, .int .i64 W.wl, .int .i64 W.wh, .int .i64 W.hl, .int .i64 W.hh, .int .i64 W.ol, .int .i64 W.oh, .int .i64 W.il, .int .i64 W.ih, .bool W.wo, .int .i64 cl, .int .i64 ch, .int .i64 tab, .slice (some ⟨a, 0, none⟩) 4 4, .int .i64 0, .slice (some ⟨b, 0, none⟩) 2 2, .slice (some ⟨c, 0, none⟩) 2 2, .int .i64 0, .bool R.opn, .int .i64 0, .slice (some ⟨b, 0, none⟩) 2 2, .slice (some ⟨c, 0, none⟩) 2 2] ∧ Zeros U v a b c, fun v x => ∃ s, x = .pointer (some ⟨s, 0, none⟩) ∧ U.heap.size ≤ s ∧ v.heap[s]? = some (.cells #[.int .i64 0, .slice none 0 0, .int .i64 0, .slice none 0 0, .slice none 0 0, .int .i64 0, .bool false, .int .i64 0, .slice none 0 0, .slice none 0 0, .int .i64 0, .int .i64 0, .int .i64 0, .int .i64 0, .int .i64 0, .int .i64 0, .int .i64 0, .int .i64 0, .int .i64 0, .int .i64 0, .bool false, .int .i64 0, .int .i64 0, .int .i64 0, .slice none 0 0, .int .i64 0, .slice none 0 0, .slice none 0 0, .int .i64 0, .bool false, .int .i64 0, .slice none 0 0, .slice none 0 0] 166)] (by rfl) (by kernel_rfl) (by kernel_rfl) (by kernel_rfl) (stays_cons (Stays.eq _) (stays_cons (Stays.eq _) (stays_cons (Stays.eq _) (stays_cons (Stays.eq _) (stays_cons (Stays.eq _) (stays_cons (Stays.eq _) (stays_cons (Stays.eq _) (stays_cons (Stays.eq _) (stays_cons (Stays.eq _) (stays_cons ((show Stays (fun v x => ∃ a b c, x = .agg #[.int .i64 tab, .slice (some ⟨a, 0, none⟩) 4 4, .int .i64 0, .slice (some ⟨b, 0, none⟩) 2 2, .slice (some ⟨c, 0, none⟩) 2 2, .int .i64 0, .bool R.opn] ∧ Zeros U v a b c) from fun v v' x g ⟨a, b, c, e, z⟩ => ⟨a, b, c, e, z.gr g⟩)) (stays_cons ((show Stays (fun v x => ∃ a b c, x = .agg #[.int .i64 tab, .slice (some ⟨a, 0, none⟩) 4 4, .int .i64 0, .slice (some ⟨b, 0, none⟩) 2 2, .slice (some ⟨c, 0, none⟩) 2 2, .int .i64 0, .bool R.opn, .int .i64 0, .slice (some ⟨b, 0, none⟩) 2 2, .slice (some ⟨c, 0, none⟩) 2 2] ∧ Zeros U v a b c) from fun v v' x g ⟨a, b, c, e, z⟩ => ⟨a, b, c, e, z.gr g⟩)) (stays_cons ((show Stays (fun v x => ∃ a b c, x = .agg #[.int .i64 tab, .slice ra R.pan.length rac, .int .i64 R.hei, .slice rt R.top.length rtc, .slice rb R.bot.length rbc, .int .i64 R.slo, .bool R.opn, .int .i64 R.off, .slice rt R.top.length rtc, .slice rb R.bot.length rbc, .int .i64 W.ll, .int .i64 W.lh, .int .i64 W.wl, .int .i64 W.wh, .int .i64 W.hl, .int .i64 W.hh, .int .i64 W.ol, .int .i64 W.oh, .int .i64 W.il, .int .i64 W.ih, .bool W.wo, .int .i64 cl, .int .i64 ch, .int .i64 tab, .slice (some ⟨a, 0, none⟩) 4 4, .int .i64 0, .slice (some ⟨b, 0, none⟩) 2 2, .slice (some ⟨c, 0, none⟩) 2 2, .int .i64 0, .bool R.opn, .int .i64 0, .slice (some ⟨b, 0, none⟩) 2 2, .slice (some ⟨c, 0, none⟩) 2 2] ∧ Zeros U v a b c) from fun v v' x g ⟨a, b, c, e, z⟩ => ⟨a, b, c, e, z.gr g⟩)) (stays_cons ((show Stays (fun v x => ∃ s, x = .pointer (some ⟨s, 0, none⟩) ∧ U.heap.size ≤ s ∧ v.heap[s]? = some (.cells #[.int .i64 0, .slice none 0 0, .int .i64 0, .slice none 0 0, .slice none 0 0, .int .i64 0, .bool false, .int .i64 0, .slice none 0 0, .slice none 0 0, .int .i64 0, .int .i64 0, .int .i64 0, .int .i64 0, .int .i64 0, .int .i64 0, .int .i64 0, .int .i64 0, .int .i64 0, .int .i64 0, .bool false, .int .i64 0, .int .i64 0, .int .i64 0, .slice none 0 0, .int .i64 0, .slice none 0 0, .slice none 0 0, .int .i64 0, .bool false, .int .i64 0, .slice none 0 0, .slice none 0 0] 166)) from fun v v' x g ⟨s, e, l, o⟩ => ⟨s, e, l, block_gr o g⟩)) stays_nil))))))))))))) ?step1 ?fin1
 case step1 =>
  rintro i hi x v gv hd K hK
  have hi8 : i = 0 ∨ i = 1 ∨ i = 2 ∨ i = 3 ∨ i = 4 ∨ i = 5 ∨ i = 6 ∨ i = 7 ∨ i = 8 ∨ i = 9 ∨ i = 10 ∨ i = 11 ∨ i = 12 := by omega
  rcases hi8 with rfl | rfl | rfl | rfl | rfl | rfl | rfl | rfl | rfl | rfl | rfl | rfl | rfl
  ·try dsimp only [upd, Nat.reduceBEq, cond_true, cond_false]
   refine wpOp_step rfl (fun K' hK' => ?_)
   rw [if_pos (by rfl)]
   refine wp_load_mid 124 _ rfl w.heap.size 0 (by rfl) [.int .i64 tab, .slice ra R.pan.length rac, .int .i64 R.hei, .slice rt R.top.length rtc, .slice rb R.bot.length rbc, .int .i64 R.slo, .bool R.opn, .int .i64 R.off, .slice rt R.top.length rtc, .slice rb R.bot.length rbc] _ (fun j u hu => by rw [Nat.zero_add]; exact (hX.keep gv).2 j u hu) Try.underlying124 rfl (by kernel_rfl) ?_
   exact hK' _ _ (hK _ _ (Below.refl _ _) (at_of rfl (rfl)))
  ·try dsimp only [upd, Nat.reduceBEq, cond_true, cond_false]
   refine wpOp_step rfl (fun K' hK' => ?_)
   rw [if_pos (by rfl)]
   refine wp_load_mid 133 _ rfl (w.heap.size + 1) 0 (by rfl) [.int .i64 W.ll, .int .i64 W.lh, .int .i64 W.wl, .int .i64 W.wh, .int .i64 W.hl, .int .i64 W.hh, .int .i64 W.ol, .int .i64 W.oh, .int .i64 W.il, .int .i64 W.ih, .bool W.wo] _ (fun j u hu => by rw [Nat.zero_add]; exact (hWs.keep gv).2 j u hu) Try.underlying133 rfl (by kernel_rfl) ?_
   exact hK' _ _ (hK _ _ (Below.refl _ _) (at_of rfl (rfl)))
  ·try dsimp only [upd, Nat.reduceBEq, cond_true, cond_false]
   refine wpOp_step rfl (fun K' hK' => ?_)
   rw [if_pos (by rfl)]
   refine wp_load_mid 37 _ rfl (w.heap.size + 1 + 1) 0 (by rfl) [.int .i64 cl, .int .i64 ch] _ (fun j u hu => by rw [Nat.zero_add]; exact (hCs.keep gv).2 j u hu) Try.underlying37 rfl (by kernel_rfl) ?_
   exact hK' _ _ (hK _ _ (Below.refl _ _) (at_of rfl (rfl)))
  ·try dsimp only [upd, Nat.reduceBEq, cond_true, cond_false]
   refine wpOp_step rfl (fun K' hK' => ?_)
   go_simp
   exact hK' _ _ (hK _ _ (Below.refl _ _) (at_of rfl (rfl)))
  ·obtain ⟨x, rfl⟩ := upd_of (show x 3 = .pointer (some ⟨w.heap.size, 0, none⟩) from hd 3 _ (by simp) rfl)
   try dsimp only [upd, Nat.reduceBEq, cond_true, cond_false]
   refine wpOp_step rfl (fun K' hK' => ?_)
   go_simp
   exact hK' _ _ (hK _ _ (Below.refl _ _) (at_of rfl (rfl)))
  ·obtain ⟨x, rfl⟩ := upd_of (show x 4 = .pointer (some ⟨w.heap.size, 0, none⟩) from hd 4 _ (by simp) rfl)
   try dsimp only [upd, Nat.reduceBEq, cond_true, cond_false]
   refine wpOp_step rfl (fun K' hK' => ?_)
   have q := gv.keep (hX.2 0 _ rfl)
   go_simp
   exact hK' _ _ (hK _ _ (Below.refl _ _) (at_of rfl (rfl)))
  ·try dsimp only [upd, Nat.reduceBEq, cond_true, cond_false]
   refine wpOp_step rfl (fun K' hK' => ?_)
   go_simp
   exact hK' _ _ (hK _ _ (Below.refl _ _) (at_of rfl (rfl)))
  ·obtain ⟨x, rfl⟩ := upd_of (show x 6 = .pointer (some ⟨w.heap.size, 0, none⟩) from hd 6 _ (by simp) rfl)
   try dsimp only [upd, Nat.reduceBEq, cond_true, cond_false]
   refine wpOp_step rfl (fun K' hK' => ?_)
   go_simp
   exact hK' _ _ (hK _ _ (Below.refl _ _) (at_of rfl (rfl)))
  ·obtain ⟨x, rfl⟩ := upd_of (show x 7 = .pointer (some ⟨w.heap.size, 6, none⟩) from hd 7 _ (by simp) rfl)
   try dsimp only [upd, Nat.reduceBEq, cond_true, cond_false]
   refine wpOp_step rfl (fun K' hK' => ?_)
   have q := gv.keep (hX.2 6 _ rfl)
   go_simp
   exact hK' _ _ (hK _ _ (Below.refl _ _) (at_of rfl (rfl)))
  ·obtain ⟨x, rfl⟩ := upd_of (show x 5 = .int .i64 tab from hd 5 _ (by simp) rfl)
   obtain ⟨x, rfl⟩ := upd_of (show x 8 = .bool R.opn from hd 8 _ (by simp) rfl)
   try dsimp only [upd, Nat.reduceBEq, cond_true, cond_false]
   refine wpOp_step rfl (fun K' hK' => ?_)
   go_simp
   refine (empty_any tab R.opn v).mono ?_
   rintro e v' ⟨a, b, c, rfl, hz, hg⟩
   exact hK' _ _ (hK _ _ hg (at_of rfl (⟨a, b, c, rfl, hz.up gv⟩)))
  ·obtain ⟨a9, b9, c9, e9, z9⟩ := hd 9 _ (by simp) rfl
   obtain ⟨x, rfl⟩ := upd_of (show x 9 = .agg #[.int .i64 tab, .slice (some ⟨a9, 0, none⟩) 4 4, .int .i64 0, .slice (some ⟨b9, 0, none⟩) 2 2, .slice (some ⟨c9, 0, none⟩) 2 2, .int .i64 0, .bool R.opn] from e9)
   try dsimp only [upd, Nat.reduceBEq, cond_true, cond_false]
   refine wpOp_step rfl (fun K' hK' => ?_)
   go_simp
   refine (layZ tab R.opn a9 b9 c9 v).mono ?_
   rintro e v' ⟨rfl, hg⟩
   exact hK' _ _ (hK _ _ hg (at_of rfl (⟨a9, b9, c9, rfl, z9.gr hg⟩)))
  ·obtain ⟨x, rfl⟩ := upd_of (show x 0 = .agg #[.int .i64 tab, .slice ra R.pan.length rac, .int .i64 R.hei, .slice rt R.top.length rtc, .slice rb R.bot.length rbc, .int .i64 R.slo, .bool R.opn, .int .i64 R.off, .slice rt R.top.length rtc, .slice rb R.bot.length rbc] from hd 0 _ (by simp) rfl)
   obtain ⟨x, rfl⟩ := upd_of (show x 1 = .agg #[.int .i64 W.ll, .int .i64 W.lh, .int .i64 W.wl, .int .i64 W.wh, .int .i64 W.hl, .int .i64 W.hh, .int .i64 W.ol, .int .i64 W.oh, .int .i64 W.il, .int .i64 W.ih, .bool W.wo] from hd 1 _ (by simp) rfl)
   obtain ⟨x, rfl⟩ := upd_of (show x 2 = .agg #[.int .i64 cl, .int .i64 ch] from hd 2 _ (by simp) rfl)
   obtain ⟨a10, b10, c10, e10, z10⟩ := hd 10 _ (by simp) rfl
   obtain ⟨x, rfl⟩ := upd_of (show x 10 = .agg #[.int .i64 tab, .slice (some ⟨a10, 0, none⟩) 4 4, .int .i64 0, .slice (some ⟨b10, 0, none⟩) 2 2, .slice (some ⟨c10, 0, none⟩) 2 2, .int .i64 0, .bool R.opn, .int .i64 0, .slice (some ⟨b10, 0, none⟩) 2 2, .slice (some ⟨c10, 0, none⟩) 2 2] from e10)
   try dsimp only [upd, Nat.reduceBEq, cond_true, cond_false]
   refine wpOp_step rfl (fun K' hK' => ?_)
   go_simp
   exact hK' _ _ (hK _ _ (Below.refl _ _) (at_of rfl (⟨a10, b10, c10, rfl, z10⟩)))
  ·try dsimp only [upd, Nat.reduceBEq, cond_true, cond_false]
   refine wpOp_step rfl (fun K' hK' => ?_)
   go_simp
   have hg := Gr.al v (.cells #[.int .i64 0, .slice none 0 0, .int .i64 0, .slice none 0 0, .slice none 0 0, .int .i64 0, .bool false, .int .i64 0, .slice none 0 0, .slice none 0 0, .int .i64 0, .int .i64 0, .int .i64 0, .int .i64 0, .int .i64 0, .int .i64 0, .int .i64 0, .int .i64 0, .int .i64 0, .int .i64 0, .bool false, .int .i64 0, .int .i64 0, .int .i64 0, .slice none 0 0, .int .i64 0, .slice none 0 0, .slice none 0 0, .int .i64 0, .bool false, .int .i64 0, .slice none 0 0, .slice none 0 0] 166)
   exact hK' _ _ (hK _ _ hg (at_of rfl (⟨_, rfl, gv.size, World.alloc_heap_new v _⟩)))
 case fin1 =>
  rintro x v gv hd
  obtain ⟨a11, b11, c11, e11, z11⟩ := hd 11 _ (by omega) rfl
  obtain ⟨x, rfl⟩ := upd_of (show x 11 = .agg #[.int .i64 tab, .slice ra R.pan.length rac, .int .i64 R.hei, .slice rt R.top.length rtc, .slice rb R.bot.length rbc, .int .i64 R.slo, .bool R.opn, .int .i64 R.off, .slice rt R.top.length rtc, .slice rb R.bot.length rbc, .int .i64 W.ll, .int .i64 W.lh, .int .i64 W.wl, .int .i64 W.wh, .int .i64 W.hl, .int .i64 W.hh, .int .i64 W.ol, .int .i64 W.oh, .int .i64 W.il, .int .i64 W.ih, .bool W.wo, .int .i64 cl, .int .i64 ch, .int .i64 tab, .slice (some ⟨a11, 0, none⟩) 4 4, .int .i64 0, .slice (some ⟨b11, 0, none⟩) 2 2, .slice (some ⟨c11, 0, none⟩) 2 2, .int .i64 0, .bool R.opn, .int .i64 0, .slice (some ⟨b11, 0, none⟩) 2 2, .slice (some ⟨c11, 0, none⟩) 2 2] from e11)
  obtain ⟨sb, e12, lsb, hsb⟩ := hd 12 _ (by omega) rfl
  obtain ⟨x, rfl⟩ := upd_of (show x 12 = .pointer (some ⟨sb, 0, none⟩) from e12)
  clear hd
  show wpList Try.prog _ _ (List.drop 13 _) (⟨#[_, _, _, _, _, _, _, _, .pointer (some ⟨sb, 0, none⟩), _, x 0, x 1, x 2, x 3, x 4, x 5, x 6, x 7, x 8, x 9, x 10, .agg #[.int .i64 tab, .slice ra R.pan.length rac, .int .i64 R.hei, .slice rt R.top.length rtc, .slice rb R.bot.length rbc, .int .i64 R.slo, .bool R.opn, .int .i64 R.off, .slice rt R.top.length rtc, .slice rb R.bot.length rbc, .int .i64 W.ll, .int .i64 W.lh, .int .i64 W.wl, .int .i64 W.wh, .int .i64 W.hl, .int .i64 W.hh, .int .i64 W.ol, .int .i64 W.oh, .int .i64 W.il, .int .i64 W.ih, .bool W.wo, .int .i64 cl, .int .i64 ch, .int .i64 tab, .slice (some ⟨a11, 0, none⟩) 4 4, .int .i64 0, .slice (some ⟨b11, 0, none⟩) 2 2, .slice (some ⟨c11, 0, none⟩) 2 2, .int .i64 0, .bool R.opn, .int .i64 0, .slice (some ⟨b11, 0, none⟩) 2 2, .slice (some ⟨c11, 0, none⟩) 2 2], _, _, _, _, _, _, _, _, _, _, _, _, _, _, _, _, _, _, _, _, _, _, _, _, _, _, _, _, _, _], []⟩ : Act) v
  simp only [List.drop_succ_cons, List.drop_zero]
  have na : sb ≠ a11 := fun e => by rw [e, z11.ha] at hsb; simp at hsb
  have nb : sb ≠ b11 := fun e => by rw [e, z11.hb] at hsb; simp at hsb
  have nc : sb ≠ c11 := fun e => by rw [e, z11.hc] at hsb; simp at hsb
  clear e11 e12
  refine wpList_store_row rfl 166 _ _ rfl sb #[.int .i64 tab, .slice ra R.pan.length rac, .int .i64 R.hei, .slice rt R.top.length rtc, .slice rb R.bot.length rbc, .int .i64 R.slo, .bool R.opn, .int .i64 R.off, .slice rt R.top.length rtc, .slice rb R.bot.length rbc, .int .i64 W.ll, .int .i64 W.lh, .int .i64 W.wl, .int .i64 W.wh, .int .i64 W.hl, .int .i64 W.hh, .int .i64 W.ol, .int .i64 W.oh, .int .i64 W.il, .int .i64 W.ih, .bool W.wo, .int .i64 cl, .int .i64 ch, .int .i64 tab, .slice (some ⟨a11, 0, none⟩) 4 4, .int .i64 0, .slice (some ⟨b11, 0, none⟩) 2 2, .slice (some ⟨c11, 0, none⟩) 2 2, .int .i64 0, .bool R.opn, .int .i64 0, .slice (some ⟨b11, 0, none⟩) 2 2, .slice (some ⟨c11, 0, none⟩) 2 2] rfl rfl 166 #[.int .i64 0, .slice none 0 0, .int .i64 0, .slice none 0 0, .slice none 0 0, .int .i64 0, .bool false, .int .i64 0, .slice none 0 0, .slice none 0 0, .int .i64 0, .int .i64 0, .int .i64 0, .int .i64 0, .int .i64 0, .int .i64 0, .int .i64 0, .int .i64 0, .int .i64 0, .int .i64 0, .bool false, .int .i64 0, .int .i64 0, .int .i64 0, .slice none 0 0, .int .i64 0, .slice none 0 0, .slice none 0 0, .int .i64 0, .bool false, .int .i64 0, .slice none 0 0, .slice none 0 0] hsb (by kernel_rfl) rfl (by simp [Value.oneCell']) ?_
  obtain ⟨X, hXe⟩ : ∃ X : Sx, X = ⟨sb, a11, b11, c11, 4, 2, 2, tab, ra, rt, rb, rac, rtc, rbc, R, W, cl, ch⟩ := ⟨_, rfl⟩
  have hS0 : Se X Dr.zero (v.setRow sb #[.int .i64 tab, .slice ra R.pan.length rac, .int .i64 R.hei, .slice rt R.top.length rtc, .slice rb R.bot.length rbc, .int .i64 R.slo, .bool R.opn, .int .i64 R.off, .slice rt R.top.length rtc, .slice rb R.bot.length rbc, .int .i64 W.ll, .int .i64 W.lh, .int .i64 W.wl, .int .i64 W.wh, .int .i64 W.hl, .int .i64 W.hh, .int .i64 W.ol, .int .i64 W.oh, .int .i64 W.il, .int .i64 W.ih, .bool W.wo, .int .i64 cl, .int .i64 ch, .int .i64 tab, .slice (some ⟨a11, 0, none⟩) 4 4, .int .i64 0, .slice (some ⟨b11, 0, none⟩) 2 2, .slice (some ⟨c11, 0, none⟩) 2 2, .int .i64 0, .bool R.opn, .int .i64 0, .slice (some ⟨b11, 0, none⟩) 2 2, .slice (some ⟨c11, 0, none⟩) 2 2]) := by
   subst hXe
   exact ⟨own_of_block (setRow_heap _ _ _ _ _ _ hsb), own_of_block ((setRow_other _ _ _ _ na.symm).trans z11.ha), own_of_block ((setRow_other _ _ _ _ nb.symm).trans z11.hb), own_of_block ((setRow_other _ _ _ _ nc.symm).trans z11.hc)⟩
  have D : X.Dis := by subst hXe; exact ⟨na, nb, nc, z11.ab, z11.ac, z11.bc⟩
  have hZU : ∀ k, X.Z k → U.heap.size ≤ k := fun k e => by
   subst hXe
   rcases e with rfl | rfl | rfl | rfl
   ·exact lsb
   ·exact z11.la
   ·exact z11.lb
   ·exact z11.lc
  have kS : Kx X.Z v (v.setRow sb #[.int .i64 tab, .slice ra R.pan.length rac, .int .i64 R.hei, .slice rt R.top.length rtc, .slice rb R.bot.length rbc, .int .i64 R.slo, .bool R.opn, .int .i64 R.off, .slice rt R.top.length rtc, .slice rb R.bot.length rbc, .int .i64 W.ll, .int .i64 W.lh, .int .i64 W.wl, .int .i64 W.wh, .int .i64 W.hl, .int .i64 W.hh, .int .i64 W.ol, .int .i64 W.oh, .int .i64 W.il, .int .i64 W.ih, .bool W.wo, .int .i64 cl, .int .i64 ch, .int .i64 tab, .slice (some ⟨a11, 0, none⟩) 4 4, .int .i64 0, .slice (some ⟨b11, 0, none⟩) 2 2, .slice (some ⟨c11, 0, none⟩) 2 2, .int .i64 0, .bool R.opn, .int .i64 0, .slice (some ⟨b11, 0, none⟩) 2 2, .slice (some ⟨c11, 0, none⟩) 2 2]) := ⟨rfl, rfl, rfl, by simp [World.setRow], fun k _ hk => setRow_other _ _ _ _ (fun e => hk (by subst hXe; exact .inl e))⟩
  have kU : Kx X.Z U (v.setRow sb #[.int .i64 tab, .slice ra R.pan.length rac, .int .i64 R.hei, .slice rt R.top.length rtc, .slice rb R.bot.length rbc, .int .i64 R.slo, .bool R.opn, .int .i64 R.off, .slice rt R.top.length rtc, .slice rb R.bot.length rbc, .int .i64 W.ll, .int .i64 W.lh, .int .i64 W.wl, .int .i64 W.wh, .int .i64 W.hl, .int .i64 W.hh, .int .i64 W.ol, .int .i64 W.oh, .int .i64 W.il, .int .i64 W.ih, .bool W.wo, .int .i64 cl, .int .i64 ch, .int .i64 tab, .slice (some ⟨a11, 0, none⟩) 4 4, .int .i64 0, .slice (some ⟨b11, 0, none⟩) 2 2, .slice (some ⟨c11, 0, none⟩) 2 2, .int .i64 0, .bool R.opn, .int .i64 0, .slice (some ⟨b11, 0, none⟩) 2 2, .slice (some ⟨c11, 0, none⟩) 2 2]) := (Kx.gr gv).tr kS
  have eS : X.S = sb := by rw [hXe]
  have eP : X.P = a11 ∧ X.T = b11 ∧ X.B = c11 := by rw [hXe]; exact ⟨rfl, rfl, rfl⟩
  have eR : X.R = R ∧ X.W = W ∧ X.cl = cl ∧ X.ch = ch ∧ X.tab = tab ∧ X.pc = 4 ∧ X.tc = 2 ∧ X.bc = 2 := by rw [hXe]; exact ⟨rfl, rfl, rfl, rfl, rfl, rfl, rfl, rfl⟩
  have hrr : RoomRows X U := by
   intro V k
   subst hXe
   have lU := gU.size
   have up : ∀ {a : Option Addr} {l : List Int}, IRow w a l → 0 < l.length → IRow V a l := fun {a l} h hl => (h.grow gU).kx k (fun b off e e' => by have := row_lt h hl b off e; have := hZU b e'; omega)
   exact ⟨up hra (by rw [hR.l4]; omega), up hrt (by rw [hR.t2]; omega), up hrb (by rw [hR.b2]; omega)⟩
  have hXZ : ∀ k, X.Z k → k < (v.setRow sb #[.int .i64 tab, .slice ra R.pan.length rac, .int .i64 R.hei, .slice rt R.top.length rtc, .slice rb R.bot.length rbc, .int .i64 R.slo, .bool R.opn, .int .i64 R.off, .slice rt R.top.length rtc, .slice rb R.bot.length rbc, .int .i64 W.ll, .int .i64 W.lh, .int .i64 W.wl, .int .i64 W.wh, .int .i64 W.hl, .int .i64 W.hh, .int .i64 W.ol, .int .i64 W.oh, .int .i64 W.il, .int .i64 W.ih, .bool W.wo, .int .i64 cl, .int .i64 ch, .int .i64 tab, .slice (some ⟨a11, 0, none⟩) 4 4, .int .i64 0, .slice (some ⟨b11, 0, none⟩) 2 2, .slice (some ⟨c11, 0, none⟩) 2 2, .int .i64 0, .bool R.opn, .int .i64 0, .slice (some ⟨b11, 0, none⟩) 2 2, .slice (some ⟨c11, 0, none⟩) 2 2]).heap.size := fun k e => hS0.lt e
  obtain ⟨eR1, eR2, eR3, eR4, eR5, eR6, eR7, eR8⟩ := eR
  obtain ⟨eP1, eP2, eP3⟩ := eP
  have HXE := Lib.hid hXe
  have lU := gU.size
  have l6 := o6.1.1
  have z6 : ∀ k, X.Z k → k ≠ w.heap.size ∧ k ≠ w.heap.size + 1 + 1 + 1 := fun k e => by have := hZU k e; omega
  have Z6 := Lib.hid z6
  have hRX : RmOk X.R := by rw [eR1]; exact hR
  have hWX : X.W.ok := by rw [eR2]; exact hW
  have hDF : ∀ n, X.Z n → True := fun _ _ => trivial
  have HPAN : Hid (∀ (n : Nat) (d : Dr) (V : World), n < 4 → DrL d → Se X d V → Kx X.Z U V → Calls Try.prog 98 #[.pointer (some ⟨sb, 0, none⟩), .int .i64 n] V fun e w' => e = .returned (.int .i64 ((panelD R W cl ch n d).2 : Int)) ∧ Se X (panelD R W cl ch n d).1 w' ∧ Kx X.Z V w') := by
   subst hXe
   exact Lib.hid fun n d V hn hd hs hk => panelS_any _ D hRX n hn d hd hWX V hs (hrr.kx hk)
  have HHEI : Hid (∀ (d : Dr) (V : World), DrL d → Se X d V → Calls Try.prog 99 #[.pointer (some ⟨sb, 0, none⟩), .int .i64 4, .agg #[.int .i64 R.he.lo, .int .i64 R.he.hi], .pointer (some ⟨sb, 25, none⟩)] V fun e w' => e = .returned (.bool (riseD R W cl ch 4 R.he .hei d).2) ∧ Se X (riseD R W cl ch 4 R.he .hei d).1 w' ∧ Kx X.Z V w') := by
   subst hXe
   have ho := hR.he
   exact Lib.hid fun d V hd hs => rise_any _ d .hei sb 25 (MeAt.hei D) 4 (by omega) R.he ho.r0 ho.r1 ho.r2 hd hWX (fun u u0 u1 => heiK hd (by have := ho.r0; omega) (by have := ho.r2; omega)) (fun u v' huv he => rise_mono (.inr (.inl ⟨rfl, rfl⟩)) hd huv he) V hs
  have HSLO : Hid (∀ (d : Dr) (V : World), DrL d → Se X d V → Calls Try.prog 99 #[.pointer (some ⟨sb, 0, none⟩), .int .i64 9, .agg #[.int .i64 R.sl.lo, .int .i64 R.sl.hi], .pointer (some ⟨sb, 28, none⟩)] V fun e w' => e = .returned (.bool (riseD R W cl ch 9 R.sl .slo d).2) ∧ Se X (riseD R W cl ch 9 R.sl .slo d).1 w' ∧ Kx X.Z V w') := by
   subst hXe
   have ho := hR.sl
   exact Lib.hid fun d V hd hs => rise_any _ d .slo sb 28 (MeAt.slo D) 9 (by omega) R.sl ho.r0 ho.r1 ho.r2 hd hWX (fun u u0 u1 => sloK hd (by have := ho.r0; omega) (by have := ho.r2; omega)) (fun u v' huv he => rise_mono (.inr (.inr ⟨rfl, rfl⟩)) hd huv he) V hs
  have HC : Hid (∀ (d : Dr) (V : World), Se X d V → V.cell? ⟨sb, 23, none⟩ = some (.int .i64 tab) ∧ V.cell? ⟨sb, 24, none⟩ = some (.slice (some ⟨a11, 0, none⟩) 4 4) ∧ V.cell? ⟨sb, 25, none⟩ = some (.int .i64 d.hei) ∧ V.cell? ⟨sb, 26, none⟩ = some (.slice (some ⟨b11, 0, none⟩) 2 2) ∧ V.cell? ⟨sb, 27, none⟩ = some (.slice (some ⟨c11, 0, none⟩) 2 2) ∧ V.cell? ⟨sb, 28, none⟩ = some (.int .i64 d.slo) ∧ V.cell? ⟨sb, 29, none⟩ = some (.bool R.opn)) := by
   subst hXe
   exact Lib.hid fun d V h => ⟨h.s.1.2 23 _ rfl, h.s.1.2 24 _ rfl, h.s.1.2 25 _ rfl, h.s.1.2 26 _ rfl, h.s.1.2 27 _ rfl, h.s.1.2 28 _ rfl, h.s.1.2 29 _ rfl⟩
  have HOW : Hid (∀ (d : Dr) (V : World), Se X d V → Own V a11 (d.p.map encN) ∧ Own V b11 (d.t.map encN) ∧ Own V c11 (d.b.map encN)) := by
   subst hXe
   exact Lib.hid fun d V h => ⟨h.p, h.t, h.b⟩
  have HLA : Hid (U.heap.size ≤ a11 ∧ U.heap.size ≤ b11 ∧ U.heap.size ≤ c11) := Lib.hid ⟨z11.la, z11.lb, z11.lc⟩
  have HSB : Hid (U.heap.size ≤ sb) := Lib.hid lsb
  refine wp_abs_list (fun V => Se X Dr.zero V ∧ Kx X.Z U V) ⟨hS0, kU⟩ ?_
  clear kS kU hS0 hsb z11 hXZ gv hXe lsb na nb nc hDF eS eP1 eP2 eP3 eR1 eR2 eR3 eR4 eR5 eR6 eR7 eR8 hRX hWX hrr z6
  rintro V ⟨hS, kV⟩
  have HZU := Lib.hid hZU
  have HR2 := Lib.hid hR
  clear hZU hR HXE D
  go_upto_region 3 with fail
  refine (show (∀ s : Nat → Value, Code.wp Try.prog _ _ ⟨#[.agg #[.int .i64 tab, .slice ra R.pan.length rac, .int .i64 R.hei, .slice rt R.top.length rtc, .slice rb R.bot.length rbc, .int .i64 R.slo, .bool R.opn, .int .i64 R.off, .slice rt R.top.length rtc, .slice rb R.bot.length rbc], .agg #[.int .i64 W.ll, .int .i64 W.lh, .int .i64 W.wl, .int .i64 W.wh, .int .i64 W.hl, .int .i64 W.hh, .int .i64 W.ol, .int .i64 W.oh, .int .i64 W.il, .int .i64 W.ih, .bool W.wo], .agg #[.int .i64 cl, .int .i64 ch], .pointer (some ⟨w.heap.size, 0, none⟩), .pointer (some ⟨(w.heap.size + 1), 0, none⟩), .pointer (some ⟨(w.heap.size + 1 + 1), 0, none⟩), .pointer (some ⟨(w.heap.size + 1 + 1 + 1), 0, none⟩), .int .i64 10, .pointer (some ⟨sb, 0, none⟩), undef, s 10, s 11, s 12, s 13, s 14, s 15, s 16, s 17, s 18, s 19, s 20, s 21, undef, undef, undef, undef, undef, undef, undef, undef, undef, undef, undef, undef, undef, undef, undef, undef, undef, undef, undef, undef, undef, undef, undef, undef, undef, undef, undef, undef, undef, undef], []⟩ _) → _ from fun h => h ((fun l : List Value => fun i => l.getD i undef) [undef, undef, undef, undef, undef, undef, undef, undef, undef, undef, _, _, _, _, _, _, _, _, _, _, _, _])) ?_
  intro s
  go_wp2
  go_loopw [22, 7] (fun x y wr => Hid (∃ n : Nat, n ≤ 4 ∧ x = .int .i64 n ∧ y = .int .i64 ((panelsD R W cl ch n).2 : Int) ∧ Se X (panelsD R W cl ch n).1 wr ∧ Kx X.Z U wr)) (fun x y wr => 4 - (intOf x).toNat)
  case atStart => exact Lib.hid ⟨0, by omega, rfl, rfl, hS, kV⟩
  case round =>
   obtain ⟨n, hn4, rfl, rfl, hSn, kn⟩ := hrel.out
   clear hrel hS kV
   by_cases hlt : n < 4
   ·have hL : DrL (panelsD R W cl ch n).1 := panels_L n
    have hnext : panelsD R W cl ch (n + 1) = ((panelD R W cl ch n (panelsD R W cl ch n).1).1, min (panelsD R W cl ch n).2 (panelD R W cl ch n (panelsD R W cl ch n).1).2) := rfl
    have HN := Lib.hid hnext
    clear hnext
    obtain ⟨⟨dn, fn⟩, hdn⟩ : ∃ r, panelsD R W cl ch n = r := ⟨_, rfl⟩
    have HDN := Lib.hid hdn
    rw [hdn] at hSn hL ⊢
    obtain ⟨⟨dm, fm⟩, hdm⟩ : ∃ r, panelD R W cl ch n dn = r := ⟨_, rfl⟩
    have hp := HPAN.out n dn wr hlt hL hSn kn
    rw [hdm] at hp
    have HNX : Hid (panelsD R W cl ch (n + 1) = (dm, min fn fm)) := Lib.hid (by rw [HN.out, hdn]; dsimp only; rw [hdm])
    clear hdn hdm
    have hmin : min (fn : Int) (fm : Int) = ((min fn fm : Nat) : Int) := min_cast
    dsimp only
    go_wp2_with (go_at_call 98; refine hp.mono ?_; rintro e w3 ⟨rfl, hS3, k3⟩)
    go_roundw
    case rel => exact Lib.hid ⟨n + 1, by omega, by go_num, by rw [HNX.out], by rw [HNX.out]; exact hS3, kn.tr k3⟩
    case measure => simp [intOf]; omega
   ·obtain rfl : n = 4 := by omega
    obtain ⟨⟨dn, fn⟩, hdn⟩ : ∃ r, panelsD R W cl ch 4 = r := ⟨_, rfl⟩
    have hL : DrL dn := by have := panels_L (R := R) (W := W) (cl := cl) (ch := ch) 4; rw [hdn] at this; exact this
    rw [hdn] at hSn ⊢
    dsimp only
    have HDN := Lib.hid hdn
    obtain ⟨⟨dh, oh⟩, hdh⟩ : ∃ r, riseD R W cl ch 4 R.he .hei dn = r := ⟨_, rfl⟩
    have hh := fun V hV => HHEI.out dn V hL hV
    rw [hdh] at hh
    have HHEI2 := Lib.hid hh
    clear hh
    have hLh : DrL dh := by
     have e : dh = (riseD R W cl ch 4 R.he .hei dn).1 := by rw [hdh]
     rw [e]
     exact (hL.put .hei _ : DrL (dn.put .hei _))
    obtain ⟨⟨ds, os⟩, hds⟩ : ∃ r, riseD R W cl ch 9 R.sl .slo dh = r := ⟨_, rfl⟩
    have hs := fun V hV => HSLO.out dh V hLh hV
    rw [hds] at hs
    have HRES : Hid ((d0, f0) = (ds, failIf os (failIf oh fn 4) 9)) := Lib.hid (by
     rw [← HR0.out]
     unfold smallD slotD heightD
     rw [hdn]
     dsimp only
     rw [hdh]
     dsimp only
     rw [hds])
    have HS2 := Lib.hid hs
    clear hdn hdh hds hs hn4
    have HX2 := Lib.hid hX
    have H3 := Lib.hid o3
    have H6 := Lib.hid o6
    have hm4 : min (fn : Int) 4 = ((min fn 4 : Nat) : Int) := by omega
    have n36 : ∀ k, X.Z k → k ≠ w.heap.size ∧ k ≠ w.heap.size + 1 + 1 + 1 := fun k e => Z6.out k e
    have N36 := Lib.hid n36
    clear n36 hX o3 o6 hWs hCs o4 o5
    obtain ⟨x0, x1, x2, x3, x4, x5, x6, x7, x8, x9⟩ := ((H3.out.kx kn (fun e => (N36.out _ e).1 rfl)).1).c10
    obtain ⟨a0, a1, a2⟩ := HR2.out.ghei
    have o0 := HR2.out.o0
    have o1 := HR2.out.o1
    obtain ⟨l0, l1⟩ := HR2.out.gslo
    cases oh with
    | true =>
     go_upto_region 10 with (first
      | (go_at_call 100; refine (height_any _ _ _ _ _ _ _ _ _ _ _ _ _ _ a0 a1 o0 o1 _).mono ?_; rintro e wh ⟨rfl, gh⟩)
      | (go_at_call 99; refine (HHEI2.out wh (hSn.gr gh)).mono ?_; rintro e w4 ⟨rfl, hS4, k4⟩))
     clear x0 x1 x2 x3 x4 x5 x6 x7 x8 x9
     obtain ⟨x0, x1, x2, x3, x4, x5, x6, x7, x8, x9⟩ := ((H3.out.kx (kn.tr (Kx.tr (Kx.gr gh) k4)) (fun e => (N36.out _ e).1 rfl)).1).c10
     cases os with
     | true =>
      go_upto_region 12 with (first
       | (go_at_call 101; refine (slot_any _ _ _ _ _ _ _ _ _ _ _ _ _ _ l0 (by omega) o0 o1 _).mono ?_; rintro e wg ⟨rfl, gs⟩)
       | (go_at_call 99; refine (HS2.out wg (hS4.gr gs)).mono ?_; rintro e w5 ⟨rfl, hS5, k5⟩))
      clear x0 x1 x2 x3 x4 x5 x6 x7 x8 x9
      have e4 := H6.out.kx (kn.tr (Kx.tr (Kx.gr gh) (k4.tr (Kx.tr (Kx.gr gs) k5)))) (fun e => (N36.out _ e).2 rfl)
      obtain ⟨c0, c1, c2, c3, c4, c5, c6⟩ := HC.out ds w5 hS5
      have q0 := e4.1.2 0 _ rfl
      have q1 := e4.1.2 1 _ rfl
      have q2 := e4.1.2 2 _ rfl
      have q3 := e4.1.2 3 _ rfl
      have q4 := e4.1.2 4 _ rfl
      have q5 := e4.1.2 5 _ rfl
      have q6 := e4.1.2 6 _ rfl
      have z0 := e4.2 0
      have z1 := e4.2 1
      have z2 := e4.2 2
      have z3 := e4.2 3
      have z4 := e4.2 4
      have z5 := e4.2 5
      have z6 := e4.2 6
      have hsb : ¬ sb = w.heap.size + 1 + 1 + 1 := by have := HSB.out; omega
      have hsb' : ¬ w.heap.size + 1 + 1 + 1 = sb := fun e => hsb e.symm
      go_wp2
      obtain ⟨r1, r2, r3⟩ := HOW.out ds w5 hS5
      obtain ⟨l1', l2', l3'⟩ := HLA.out
      have hres := HRES.out
      simp only [failIf, if_true, if_false, Bool.false_eq_true, Prod.mk.injEq] at hres
      obtain ⟨hr1, hr2⟩ := hres
      have kf : Kx X.Z U w5 := kn.tr (Kx.tr (Kx.gr gh) (k4.tr (Kx.tr (Kx.gr gs) k5)))
      have gf : Gr w w5 := Kx.toGr ((Kx.gr (Z := noBlock) gU).th kf (fun k e => .inr (by have := HZU.out k e; omega)))
      have l6' : w.heap.size + 1 + 1 + 1 < w5.heap.size := e4.1.1
      refine bodyPost_ret (v := .tuple #[.agg #[.int .i64 tab, .slice (some ⟨a11, 0, none⟩) 4 4, .int .i64 ds.hei, .slice (some ⟨b11, 0, none⟩) 2 2, .slice (some ⟨c11, 0, none⟩) 2 2, .int .i64 ds.slo, .bool R.opn], .int .i64 ((fn : Nat) : Int)]) (by simp [results, Try.results75, go_sem, q0, q1, q2, q3, q4, q5, q6]) rfl ⟨a11, b11, c11, by rw [hr1, hr2], by rw [hr1]; exact (((((((r1.other (by omega)).other (by omega)).other (by omega)).other (by omega)).other (by omega)).other (by omega)).other (by omega)), by rw [hr1]; exact (((((((r2.other (by omega)).other (by omega)).other (by omega)).other (by omega)).other (by omega)).other (by omega)).other (by omega)), by rw [hr1]; exact (((((((r3.other (by omega)).other (by omega)).other (by omega)).other (by omega)).other (by omega)).other (by omega)).other (by omega)), by omega, by omega, by omega, ?_⟩
      exact (((((((gf.setCell (p := ⟨w.heap.size + 1 + 1 + 1, 0, none⟩) (by dsimp only; omega) _).setCell (p := ⟨w.heap.size + 1 + 1 + 1, 1, none⟩) (by dsimp only; omega) _).setCell (p := ⟨w.heap.size + 1 + 1 + 1, 2, none⟩) (by dsimp only; omega) _).setCell (p := ⟨w.heap.size + 1 + 1 + 1, 3, none⟩) (by dsimp only; omega) _).setCell (p := ⟨w.heap.size + 1 + 1 + 1, 4, none⟩) (by dsimp only; omega) _).setCell (p := ⟨w.heap.size + 1 + 1 + 1, 5, none⟩) (by dsimp only; omega) _).setCell (p := ⟨w.heap.size + 1 + 1 + 1, 6, none⟩) (by dsimp only; omega) _)
     | false =>
      have hm9 : min ((fn : Nat) : Int) 9 = ((min (fn) 9 : Nat) : Int) := by omega
      go_upto_region 12 with (first
       | (go_at_call 101; refine (slot_any _ _ _ _ _ _ _ _ _ _ _ _ _ _ l0 (by omega) o0 o1 _).mono ?_; rintro e wg ⟨rfl, gs⟩)
       | (go_at_call 99; refine (HS2.out wg (hS4.gr gs)).mono ?_; rintro e w5 ⟨rfl, hS5, k5⟩))
      clear x0 x1 x2 x3 x4 x5 x6 x7 x8 x9
      have e4 := H6.out.kx (kn.tr (Kx.tr (Kx.gr gh) (k4.tr (Kx.tr (Kx.gr gs) k5)))) (fun e => (N36.out _ e).2 rfl)
      obtain ⟨c0, c1, c2, c3, c4, c5, c6⟩ := HC.out ds w5 hS5
      have q0 := e4.1.2 0 _ rfl
      have q1 := e4.1.2 1 _ rfl
      have q2 := e4.1.2 2 _ rfl
      have q3 := e4.1.2 3 _ rfl
      have q4 := e4.1.2 4 _ rfl
      have q5 := e4.1.2 5 _ rfl
      have q6 := e4.1.2 6 _ rfl
      have z0 := e4.2 0
      have z1 := e4.2 1
      have z2 := e4.2 2
      have z3 := e4.2 3
      have z4 := e4.2 4
      have z5 := e4.2 5
      have z6 := e4.2 6
      have hsb : ¬ sb = w.heap.size + 1 + 1 + 1 := by have := HSB.out; omega
      have hsb' : ¬ w.heap.size + 1 + 1 + 1 = sb := fun e => hsb e.symm
      go_wp2
      obtain ⟨r1, r2, r3⟩ := HOW.out ds w5 hS5
      obtain ⟨l1', l2', l3'⟩ := HLA.out
      have hres := HRES.out
      simp only [failIf, if_true, if_false, Bool.false_eq_true, Prod.mk.injEq] at hres
      obtain ⟨hr1, hr2⟩ := hres
      have kf : Kx X.Z U w5 := kn.tr (Kx.tr (Kx.gr gh) (k4.tr (Kx.tr (Kx.gr gs) k5)))
      have gf : Gr w w5 := Kx.toGr ((Kx.gr (Z := noBlock) gU).th kf (fun k e => .inr (by have := HZU.out k e; omega)))
      have l6' : w.heap.size + 1 + 1 + 1 < w5.heap.size := e4.1.1
      refine bodyPost_ret (v := .tuple #[.agg #[.int .i64 tab, .slice (some ⟨a11, 0, none⟩) 4 4, .int .i64 ds.hei, .slice (some ⟨b11, 0, none⟩) 2 2, .slice (some ⟨c11, 0, none⟩) 2 2, .int .i64 ds.slo, .bool R.opn], .int .i64 ((min (fn) 9 : Nat) : Int)]) (by simp [results, Try.results75, go_sem, q0, q1, q2, q3, q4, q5, q6]) rfl ⟨a11, b11, c11, by rw [hr1, hr2], by rw [hr1]; exact (((((((r1.other (by omega)).other (by omega)).other (by omega)).other (by omega)).other (by omega)).other (by omega)).other (by omega)), by rw [hr1]; exact (((((((r2.other (by omega)).other (by omega)).other (by omega)).other (by omega)).other (by omega)).other (by omega)).other (by omega)), by rw [hr1]; exact (((((((r3.other (by omega)).other (by omega)).other (by omega)).other (by omega)).other (by omega)).other (by omega)).other (by omega)), by omega, by omega, by omega, ?_⟩
      exact (((((((gf.setCell (p := ⟨w.heap.size + 1 + 1 + 1, 0, none⟩) (by dsimp only; omega) _).setCell (p := ⟨w.heap.size + 1 + 1 + 1, 1, none⟩) (by dsimp only; omega) _).setCell (p := ⟨w.heap.size + 1 + 1 + 1, 2, none⟩) (by dsimp only; omega) _).setCell (p := ⟨w.heap.size + 1 + 1 + 1, 3, none⟩) (by dsimp only; omega) _).setCell (p := ⟨w.heap.size + 1 + 1 + 1, 4, none⟩) (by dsimp only; omega) _).setCell (p := ⟨w.heap.size + 1 + 1 + 1, 5, none⟩) (by dsimp only; omega) _).setCell (p := ⟨w.heap.size + 1 + 1 + 1, 6, none⟩) (by dsimp only; omega) _)
    | false =>
     go_upto_region 10 with (first
      | (go_at_call 100; refine (height_any _ _ _ _ _ _ _ _ _ _ _ _ _ _ a0 a1 o0 o1 _).mono ?_; rintro e wh ⟨rfl, gh⟩)
      | (go_at_call 99; refine (HHEI2.out wh (hSn.gr gh)).mono ?_; rintro e w4 ⟨rfl, hS4, k4⟩))
     clear x0 x1 x2 x3 x4 x5 x6 x7 x8 x9
     obtain ⟨x0, x1, x2, x3, x4, x5, x6, x7, x8, x9⟩ := ((H3.out.kx (kn.tr (Kx.tr (Kx.gr gh) k4)) (fun e => (N36.out _ e).1 rfl)).1).c10
     cases os with
     | true =>
      go_upto_region 12 with (first
       | (go_at_call 101; refine (slot_any _ _ _ _ _ _ _ _ _ _ _ _ _ _ l0 (by omega) o0 o1 _).mono ?_; rintro e wg ⟨rfl, gs⟩)
       | (go_at_call 99; refine (HS2.out wg (hS4.gr gs)).mono ?_; rintro e w5 ⟨rfl, hS5, k5⟩))
      clear x0 x1 x2 x3 x4 x5 x6 x7 x8 x9
      have e4 := H6.out.kx (kn.tr (Kx.tr (Kx.gr gh) (k4.tr (Kx.tr (Kx.gr gs) k5)))) (fun e => (N36.out _ e).2 rfl)
      obtain ⟨c0, c1, c2, c3, c4, c5, c6⟩ := HC.out ds w5 hS5
      have q0 := e4.1.2 0 _ rfl
      have q1 := e4.1.2 1 _ rfl
      have q2 := e4.1.2 2 _ rfl
      have q3 := e4.1.2 3 _ rfl
      have q4 := e4.1.2 4 _ rfl
      have q5 := e4.1.2 5 _ rfl
      have q6 := e4.1.2 6 _ rfl
      have z0 := e4.2 0
      have z1 := e4.2 1
      have z2 := e4.2 2
      have z3 := e4.2 3
      have z4 := e4.2 4
      have z5 := e4.2 5
      have z6 := e4.2 6
      have hsb : ¬ sb = w.heap.size + 1 + 1 + 1 := by have := HSB.out; omega
      have hsb' : ¬ w.heap.size + 1 + 1 + 1 = sb := fun e => hsb e.symm
      go_wp2
      obtain ⟨r1, r2, r3⟩ := HOW.out ds w5 hS5
      obtain ⟨l1', l2', l3'⟩ := HLA.out
      have hres := HRES.out
      simp only [failIf, if_true, if_false, Bool.false_eq_true, Prod.mk.injEq] at hres
      obtain ⟨hr1, hr2⟩ := hres
      have kf : Kx X.Z U w5 := kn.tr (Kx.tr (Kx.gr gh) (k4.tr (Kx.tr (Kx.gr gs) k5)))
      have gf : Gr w w5 := Kx.toGr ((Kx.gr (Z := noBlock) gU).th kf (fun k e => .inr (by have := HZU.out k e; omega)))
      have l6' : w.heap.size + 1 + 1 + 1 < w5.heap.size := e4.1.1
      refine bodyPost_ret (v := .tuple #[.agg #[.int .i64 tab, .slice (some ⟨a11, 0, none⟩) 4 4, .int .i64 ds.hei, .slice (some ⟨b11, 0, none⟩) 2 2, .slice (some ⟨c11, 0, none⟩) 2 2, .int .i64 ds.slo, .bool R.opn], .int .i64 ((min fn 4 : Nat) : Int)]) (by simp [results, Try.results75, go_sem, q0, q1, q2, q3, q4, q5, q6]) rfl ⟨a11, b11, c11, by rw [hr1, hr2], by rw [hr1]; exact (((((((r1.other (by omega)).other (by omega)).other (by omega)).other (by omega)).other (by omega)).other (by omega)).other (by omega)), by rw [hr1]; exact (((((((r2.other (by omega)).other (by omega)).other (by omega)).other (by omega)).other (by omega)).other (by omega)).other (by omega)), by rw [hr1]; exact (((((((r3.other (by omega)).other (by omega)).other (by omega)).other (by omega)).other (by omega)).other (by omega)).other (by omega)), by omega, by omega, by omega, ?_⟩
      exact (((((((gf.setCell (p := ⟨w.heap.size + 1 + 1 + 1, 0, none⟩) (by dsimp only; omega) _).setCell (p := ⟨w.heap.size + 1 + 1 + 1, 1, none⟩) (by dsimp only; omega) _).setCell (p := ⟨w.heap.size + 1 + 1 + 1, 2, none⟩) (by dsimp only; omega) _).setCell (p := ⟨w.heap.size + 1 + 1 + 1, 3, none⟩) (by dsimp only; omega) _).setCell (p := ⟨w.heap.size + 1 + 1 + 1, 4, none⟩) (by dsimp only; omega) _).setCell (p := ⟨w.heap.size + 1 + 1 + 1, 5, none⟩) (by dsimp only; omega) _).setCell (p := ⟨w.heap.size + 1 + 1 + 1, 6, none⟩) (by dsimp only; omega) _)
     | false =>
      have hm9 : min ((min fn 4 : Nat) : Int) 9 = ((min (min fn 4) 9 : Nat) : Int) := by omega
      go_upto_region 12 with (first
       | (go_at_call 101; refine (slot_any _ _ _ _ _ _ _ _ _ _ _ _ _ _ l0 (by omega) o0 o1 _).mono ?_; rintro e wg ⟨rfl, gs⟩)
       | (go_at_call 99; refine (HS2.out wg (hS4.gr gs)).mono ?_; rintro e w5 ⟨rfl, hS5, k5⟩))
      clear x0 x1 x2 x3 x4 x5 x6 x7 x8 x9
      have e4 := H6.out.kx (kn.tr (Kx.tr (Kx.gr gh) (k4.tr (Kx.tr (Kx.gr gs) k5)))) (fun e => (N36.out _ e).2 rfl)
      obtain ⟨c0, c1, c2, c3, c4, c5, c6⟩ := HC.out ds w5 hS5
      have q0 := e4.1.2 0 _ rfl
      have q1 := e4.1.2 1 _ rfl
      have q2 := e4.1.2 2 _ rfl
      have q3 := e4.1.2 3 _ rfl
      have q4 := e4.1.2 4 _ rfl
      have q5 := e4.1.2 5 _ rfl
      have q6 := e4.1.2 6 _ rfl
      have z0 := e4.2 0
      have z1 := e4.2 1
      have z2 := e4.2 2
      have z3 := e4.2 3
      have z4 := e4.2 4
      have z5 := e4.2 5
      have z6 := e4.2 6
      have hsb : ¬ sb = w.heap.size + 1 + 1 + 1 := by have := HSB.out; omega
      have hsb' : ¬ w.heap.size + 1 + 1 + 1 = sb := fun e => hsb e.symm
      go_wp2
      obtain ⟨r1, r2, r3⟩ := HOW.out ds w5 hS5
      obtain ⟨l1', l2', l3'⟩ := HLA.out
      have hres := HRES.out
      simp only [failIf, if_true, if_false, Bool.false_eq_true, Prod.mk.injEq] at hres
      obtain ⟨hr1, hr2⟩ := hres
      have kf : Kx X.Z U w5 := kn.tr (Kx.tr (Kx.gr gh) (k4.tr (Kx.tr (Kx.gr gs) k5)))
      have gf : Gr w w5 := Kx.toGr ((Kx.gr (Z := noBlock) gU).th kf (fun k e => .inr (by have := HZU.out k e; omega)))
      have l6' : w.heap.size + 1 + 1 + 1 < w5.heap.size := e4.1.1
      refine bodyPost_ret (v := .tuple #[.agg #[.int .i64 tab, .slice (some ⟨a11, 0, none⟩) 4 4, .int .i64 ds.hei, .slice (some ⟨b11, 0, none⟩) 2 2, .slice (some ⟨c11, 0, none⟩) 2 2, .int .i64 ds.slo, .bool R.opn], .int .i64 ((min (min fn 4) 9 : Nat) : Int)]) (by simp [results, Try.results75, go_sem, q0, q1, q2, q3, q4, q5, q6]) rfl ⟨a11, b11, c11, by rw [hr1, hr2], by rw [hr1]; exact (((((((r1.other (by omega)).other (by omega)).other (by omega)).other (by omega)).other (by omega)).other (by omega)).other (by omega)), by rw [hr1]; exact (((((((r2.other (by omega)).other (by omega)).other (by omega)).other (by omega)).other (by omega)).other (by omega)).other (by omega)), by rw [hr1]; exact (((((((r3.other (by omega)).other (by omega)).other (by omega)).other (by omega)).other (by omega)).other (by omega)).other (by omega)), by omega, by omega, by omega, ?_⟩
      exact (((((((gf.setCell (p := ⟨w.heap.size + 1 + 1 + 1, 0, none⟩) (by dsimp only; omega) _).setCell (p := ⟨w.heap.size + 1 + 1 + 1, 1, none⟩) (by dsimp only; omega) _).setCell (p := ⟨w.heap.size + 1 + 1 + 1, 2, none⟩) (by dsimp only; omega) _).setCell (p := ⟨w.heap.size + 1 + 1 + 1, 3, none⟩) (by dsimp only; omega) _).setCell (p := ⟨w.heap.size + 1 + 1 + 1, 4, none⟩) (by dsimp only; omega) _).setCell (p := ⟨w.heap.size + 1 + 1 + 1, 5, none⟩) (by dsimp only; omega) _).setCell (p := ⟨w.heap.size + 1 + 1 + 1, 6, none⟩) (by dsimp only; omega) _)

end Go.Proofs.Ytoihnilgmdcndaa

namespace Go.Proofs.Ytoihnilgmdcndaa
set_option linter.unusedVariables false
set_option linter.unusedSimpArgs false
open Go.RowKit Go.Shelf

/-- The error of a wish. -/
def Wi.err (W : Wi) : Int := wishE W.ll W.lh W.wl W.wh W.hl W.hh W.ol W.oh W.il W.ih

theorem Wi.ok_of {W : Wi} (h : W.err = 0) : W.ok := goodW_of h

theorem wiErr_any (W : Wi) (w : World) : Calls Try.prog 73 #[.agg #[.int .i64 W.ll, .int .i64 W.lh, .int .i64 W.wl, .int .i64 W.wh, .int .i64 W.hl, .int .i64 W.hh, .int .i64 W.ol, .int .i64 W.oh, .int .i64 W.il, .int .i64 W.ih, .bool W.wo]] w fun e w' => e = .returned (.int .i64 W.err) ∧ Gr w w' := wishes_any W.ll W.lh W.wl W.wh W.hl W.hh W.ol W.oh W.il W.ih W.wo w

/-- The sheet of which nothing is known. -/
def wholeR (wo : Bool) : Rm := ⟨3000, 0, 0, [0, 0, 0, 0], [0, 0], [0, 0], wo⟩

theorem wholeR_ok (wo : Bool) : RmOk (wholeR wo) := ⟨rfl, rfl, rfl, rfl, by simp [wholeR], by simp [wholeR], rfl, rfl, by simp [wholeR], by simp [wholeR], by simp [wholeR]⟩

theorem layW (tab : Int) (wo : Bool) (a b c : Nat) (w : World) :
  Calls Try.prog 68 #[.agg #[.int .i64 tab, .slice (some ⟨a, 0, none⟩) 4 4, .int .i64 0, .slice (some ⟨b, 0, none⟩) 2 2, .slice (some ⟨c, 0, none⟩) 2 2, .int .i64 0, .bool wo], .int .i64 3000] w fun e w' =>
   e = .returned (.agg #[.int .i64 tab, .slice (some ⟨a, 0, none⟩) 4 4, .int .i64 0, .slice (some ⟨b, 0, none⟩) 2 2, .slice (some ⟨c, 0, none⟩) 2 2, .int .i64 0, .bool wo, .int .i64 3000, .slice (some ⟨b, 0, none⟩) 2 2, .slice (some ⟨c, 0, none⟩) 2 2]) ∧ Gr w w' :=
 layS_any tab 0 0 3000 [0, 0, 0, 0] [0, 0] [0, 0] (some ⟨a, 0, none⟩) (some ⟨b, 0, none⟩) (some ⟨c, 0, none⟩) 4 2 2 wo w

theorem smallW (tab : Int) (W : Wi) (cl ch : Int) (hW : W.ok) (a b c : Nat) (w0 w : World) (hz : Zeros w0 w a b c) :
  Calls Try.prog 75 #[.agg #[.int .i64 tab, .slice (some ⟨a, 0, none⟩) 4 4, .int .i64 0, .slice (some ⟨b, 0, none⟩) 2 2, .slice (some ⟨c, 0, none⟩) 2 2, .int .i64 0, .bool W.wo, .int .i64 3000, .slice (some ⟨b, 0, none⟩) 2 2, .slice (some ⟨c, 0, none⟩) 2 2], .agg #[.int .i64 W.ll, .int .i64 W.lh, .int .i64 W.wl, .int .i64 W.wh, .int .i64 W.hl, .int .i64 W.hh, .int .i64 W.ol, .int .i64 W.oh, .int .i64 W.il, .int .i64 W.ih, .bool W.wo], .agg #[.int .i64 cl, .int .i64 ch]] w fun e w' =>
   ∃ P T B, e = .returned (.tuple #[.agg #[.int .i64 tab, .slice (some ⟨P, 0, none⟩) 4 4, .int .i64 (smallD (wholeR W.wo) W cl ch).1.hei, .slice (some ⟨T, 0, none⟩) 2 2, .slice (some ⟨B, 0, none⟩) 2 2, .int .i64 (smallD (wholeR W.wo) W cl ch).1.slo, .bool W.wo], .int .i64 ((smallD (wholeR W.wo) W cl ch).2 : Int)]) ∧
    Own w' P ((smallD (wholeR W.wo) W cl ch).1.p.map encN) ∧ Own w' T ((smallD (wholeR W.wo) W cl ch).1.t.map encN) ∧ Own w' B ((smallD (wholeR W.wo) W cl ch).1.b.map encN) ∧ w.heap.size ≤ P ∧ w.heap.size ≤ T ∧ w.heap.size ≤ B ∧ Gr w w' :=
 smallest_any tab (some ⟨a, 0, none⟩) (some ⟨b, 0, none⟩) (some ⟨c, 0, none⟩) 4 2 2 (wholeR W.wo) W cl ch (wholeR_ok W.wo) hW w
  (Own.irow (l := [0, 0, 0, 0]) (own_of_block hz.ha) (by decide)) (Own.irow (l := [0, 0]) (own_of_block hz.hb) (by decide)) (Own.irow (l := [0, 0]) (own_of_block hz.hc) (by decide))

/-- What Blank returns: a blank, or no blank. -/
def SBlankPost (W : Wi) (cl ch tab : Int) (w : World) (e : Ending) (w' : World) : Prop :=
 Gr w w' ∧ ((firstE [W.err, measE [⟨cl, ch⟩]] ≠ 0 ∧ e = .returned (.tuple #[.agg #[.int .i64 0, .slice none 0 0, .int .i64 0, .slice none 0 0, .slice none 0 0, .int .i64 0, .bool false], .int .i64 0, .int .i64 (firstE [W.err, measE [⟨cl, ch⟩]])])) ∨
  (firstE [W.err, measE [⟨cl, ch⟩]] = 0 ∧ inB 0 100 [tab] = false ∧ e = .returned (.tuple #[.agg #[.int .i64 0, .slice none 0 0, .int .i64 0, .slice none 0 0, .slice none 0 0, .int .i64 0, .bool false], .int .i64 0, .int .i64 5])) ∨
  (firstE [W.err, measE [⟨cl, ch⟩]] = 0 ∧ inB 0 100 [tab] = true ∧ (smallD (wholeR W.wo) W cl ch).2 < 10 ∧ e = .returned (.tuple #[.agg #[.int .i64 0, .slice none 0 0, .int .i64 0, .slice none 0 0, .slice none 0 0, .int .i64 0, .bool false], .int .i64 ((smallD (wholeR W.wo) W cl ch).2 : Int), .int .i64 9])) ∨
  (firstE [W.err, measE [⟨cl, ch⟩]] = 0 ∧ inB 0 100 [tab] = true ∧ ¬ (smallD (wholeR W.wo) W cl ch).2 < 10 ∧ ∃ P T B, e = .returned (.tuple #[.agg #[.int .i64 tab, .slice (some ⟨P, 0, none⟩) 4 4, .int .i64 (smallD (wholeR W.wo) W cl ch).1.hei, .slice (some ⟨T, 0, none⟩) 2 2, .slice (some ⟨B, 0, none⟩) 2 2, .int .i64 (smallD (wholeR W.wo) W cl ch).1.slo, .bool W.wo], .int .i64 0, .int .i64 0]) ∧
    IRow w' (some ⟨P, 0, none⟩) (smallD (wholeR W.wo) W cl ch).1.p ∧ IRow w' (some ⟨T, 0, none⟩) (smallD (wholeR W.wo) W cl ch).1.t ∧ IRow w' (some ⟨B, 0, none⟩) (smallD (wholeR W.wo) W cl ch).1.b))

theorem firstE_0 {l : List Int} (h : firstE l = 0) : ∀ x ∈ l, x = 0 := by
 induction l with
 | nil => intro x hx; cases hx
 | cons y l ih =>
  unfold firstE at h
  split at h
  ·intro x hx
   rcases List.mem_cons.1 hx with rfl | hx
   ·assumption
   ·exact ih h x hx
  ·exact absurd h (by assumption)

theorem small_L (R : Rm) (W : Wi) (cl ch : Int) : DrL (smallD R W cl ch).1 :=
 (DrL.put (DrL.put (panels_L 4) .hei _) .slo _ : _)

set_option maxRecDepth 100000 in
set_option maxHeartbeats 8000000 in
theorem blankF_any (W : Wi) (cl ch tab : Int) (w : World) :
  Calls Try.prog 29 #[.agg #[.int .i64 W.ll, .int .i64 W.lh, .int .i64 W.wl, .int .i64 W.wh, .int .i64 W.hl, .int .i64 W.hh, .int .i64 W.ol, .int .i64 W.oh, .int .i64 W.il, .int .i64 W.ih, .bool W.wo], .agg #[.int .i64 cl, .int .i64 ch], .int .i64 tab] w (SBlankPost W cl ch tab w) := by
 have gg := ((Gr.al w (.cells #[.int .i64 W.ll, .int .i64 W.lh, .int .i64 W.wl, .int .i64 W.wh, .int .i64 W.hl, .int .i64 W.hh, .int .i64 W.ol, .int .i64 W.oh, .int .i64 W.il, .int .i64 W.ih, .bool W.wo] 48)).tr (Gr.al _ (.cells #[.int .i64 cl, .int .i64 ch] 37))).tr (Gr.al _ (.cells #[.int .i64 0, .slice none 0 0, .int .i64 0, .slice none 0 0, .slice none 0 0, .int .i64 0, .bool false] 24))
 have hWs := (Box.new w [.int .i64 W.ll, .int .i64 W.lh, .int .i64 W.wl, .int .i64 W.wh, .int .i64 W.hl, .int .i64 W.hh, .int .i64 W.ol, .int .i64 W.oh, .int .i64 W.il, .int .i64 W.ih, .bool W.wo] 48 w.heap.size rfl).keep ((Gr.al _ (.cells #[.int .i64 cl, .int .i64 ch] 37)).tr (Gr.al _ (.cells #[.int .i64 0, .slice none 0 0, .int .i64 0, .slice none 0 0, .slice none 0 0, .int .i64 0, .bool false] 24)))
 have hCs := (Box.new (w.alloc (.cells #[.int .i64 W.ll, .int .i64 W.lh, .int .i64 W.wl, .int .i64 W.wh, .int .i64 W.hl, .int .i64 W.hh, .int .i64 W.ol, .int .i64 W.oh, .int .i64 W.il, .int .i64 W.ih, .bool W.wo] 48)) [.int .i64 cl, .int .i64 ch] 37 (w.heap.size + 1) (by simp)).keep (Gr.al _ (.cells #[.int .i64 0, .slice none 0 0, .int .i64 0, .slice none 0 0, .slice none 0 0, .int .i64 0, .bool false] 24))
 have o6 := Own.new ((w.alloc (.cells #[.int .i64 W.ll, .int .i64 W.lh, .int .i64 W.wl, .int .i64 W.wh, .int .i64 W.hl, .int .i64 W.hh, .int .i64 W.ol, .int .i64 W.oh, .int .i64 W.il, .int .i64 W.ih, .bool W.wo] 48)).alloc (.cells #[.int .i64 cl, .int .i64 ch] 37)) [.int .i64 0, .slice none 0 0, .int .i64 0, .slice none 0 0, .slice none 0 0, .int .i64 0, .bool false] 24 (w.heap.size + 1 + 1) (by simp)
 obtain ⟨eW, heW⟩ : ∃ e, W.err = e := ⟨_, rfl⟩
 obtain ⟨eM, heM⟩ : ∃ e, measE [⟨cl, ch⟩] = e := ⟨_, rfl⟩
 obtain ⟨E, heE⟩ : ∃ e, firstE [eW, eM] = e := ⟨_, rfl⟩
 have HPost : Hid (∀ e w', (SBlankPost W cl ch tab w e w' ↔ Gr w w' ∧ ((E ≠ 0 ∧ e = .returned (.tuple #[.agg #[.int .i64 0, .slice none 0 0, .int .i64 0, .slice none 0 0, .slice none 0 0, .int .i64 0, .bool false], .int .i64 0, .int .i64 E])) ∨
  (E = 0 ∧ inB 0 100 [tab] = false ∧ e = .returned (.tuple #[.agg #[.int .i64 0, .slice none 0 0, .int .i64 0, .slice none 0 0, .slice none 0 0, .int .i64 0, .bool false], .int .i64 0, .int .i64 5])) ∨
  (E = 0 ∧ inB 0 100 [tab] = true ∧ (smallD (wholeR W.wo) W cl ch).2 < 10 ∧ e = .returned (.tuple #[.agg #[.int .i64 0, .slice none 0 0, .int .i64 0, .slice none 0 0, .slice none 0 0, .int .i64 0, .bool false], .int .i64 ((smallD (wholeR W.wo) W cl ch).2 : Int), .int .i64 9])) ∨
  (E = 0 ∧ inB 0 100 [tab] = true ∧ ¬ (smallD (wholeR W.wo) W cl ch).2 < 10 ∧ ∃ P T B, e = .returned (.tuple #[.agg #[.int .i64 tab, .slice (some ⟨P, 0, none⟩) 4 4, .int .i64 (smallD (wholeR W.wo) W cl ch).1.hei, .slice (some ⟨T, 0, none⟩) 2 2, .slice (some ⟨B, 0, none⟩) 2 2, .int .i64 (smallD (wholeR W.wo) W cl ch).1.slo, .bool W.wo], .int .i64 0, .int .i64 0]) ∧
    IRow w' (some ⟨P, 0, none⟩) (smallD (wholeR W.wo) W cl ch).1.p ∧ IRow w' (some ⟨T, 0, none⟩) (smallD (wholeR W.wo) W cl ch).1.t ∧ IRow w' (some ⟨B, 0, none⟩) (smallD (wholeR W.wo) W cl ch).1.b)))) := Lib.hid (by
  intro e w'
  unfold SBlankPost
  rw [heW, heM, heE])
 have cW := fun v => wiErr_any W v
 rw [heW] at cW
 have cM := fun a v (h : SRow v a [⟨cl, ch⟩]) => measured_one cl ch a 1 v h
 rw [heM] at cM
 have cE := fun a v (h : IRow v a [eW, eM]) => first_2 eW eM a 2 v h
 rw [heE] at cE
 have CW := Lib.hid cW
 have CM := Lib.hid cM
 have CE := Lib.hid cE
 have HW0 : Hid (E = 0 → W.ok) := Lib.hid (fun h => Wi.ok_of (heW.trans (firstE_0 (heE.trans h) eW (by simp))))
 clear cW cM cE heW heM heE
 go_enter Try.func29, Try.ntmps29
 go_upto_region 1 with fail
 refine wp_abs (fun U => Gr w U ∧ Box U w.heap.size [.int .i64 W.ll, .int .i64 W.lh, .int .i64 W.wl, .int .i64 W.wh, .int .i64 W.hl, .int .i64 W.hh, .int .i64 W.ol, .int .i64 W.oh, .int .i64 W.il, .int .i64 W.ih, .bool W.wo] ∧ Box U (w.heap.size + 1) [.int .i64 cl, .int .i64 ch] ∧ Own U (w.heap.size + 1 + 1) [.int .i64 0, .slice none 0 0, .int .i64 0, .slice none 0 0, .slice none 0 0, .int .i64 0, .bool false]) ⟨gg, hWs, hCs, o6⟩ ?_
 clear gg hWs hCs o6
 rintro U ⟨gU, hWs, hCs, o6⟩
 refine wp_region_facts 7 [(1, 0), (3, 2), (4, 3), (5, 1), (5, 4), (6, 5)] (fun x => ⟨#[.agg #[.int .i64 W.ll, .int .i64 W.lh, .int .i64 W.wl, .int .i64 W.wh, .int .i64 W.hl, .int .i64 W.hh, .int .i64 W.ol, .int .i64 W.oh, .int .i64 W.il, .int .i64 W.ih, .bool W.wo], .agg #[.int .i64 cl, .int .i64 ch], .int .i64 tab, .pointer (some ⟨w.heap.size, 0, none⟩), .pointer (some ⟨(w.heap.size + 1), 0, none⟩), undef, .pointer (some ⟨(w.heap.size + 1 + 1), 0, none⟩), .int .i64 0, .int .i64 0, undef, undef, x 0, x 1, x 2, x 3, x 4, x 5, x 6, undef, undef, undef, undef, undef, undef, undef, undef, undef, undef, undef, undef, undef, undef, undef, undef, undef, undef, undef, undef, undef, undef, undef, undef, undef, undef, undef], []⟩) (fun _ => undef) [fun _ x => x = .agg #[.int .i64 W.ll, .int .i64 W.lh, .int .i64 W.wl, .int .i64 W.wh, .int .i64 W.hl, .int .i64 W.hh, .int .i64 W.ol, .int .i64 W.oh, .int .i64 W.il, .int .i64 W.ih, .bool W.wo], fun _ x => x = .int .i64 eW, fun _ x => x = .agg #[.int .i64 cl, .int .i64 ch], fun v x => ∃ a, x = .slice a 1 1 ∧ SRow v a [⟨cl, ch⟩], fun _ x => x = .int .i64 eM, fun v x => ∃ a, x = .slice a 2 2 ∧ IRow v a [eW, eM], fun _ x => x = .int .i64 E] (by rfl) (by kernel_rfl) (by kernel_rfl) (by kernel_rfl) (stays_cons (Stays.eq _) (stays_cons (Stays.eq _) (stays_cons (Stays.eq _) (stays_cons ((show Stays (fun v x => ∃ a, x = .slice a 1 1 ∧ SRow v a [⟨cl, ch⟩]) from fun v v' x g ⟨a, e, r⟩ => ⟨a, e, r.grow g⟩)) (stays_cons (Stays.eq _) (stays_cons ((show Stays (fun v x => ∃ a, x = .slice a 2 2 ∧ IRow v a [eW, eM]) from fun v v' x g ⟨a, e, r⟩ => ⟨a, e, r.grow g⟩)) (stays_cons (Stays.eq _) stays_nil))))))) ?step1 ?fin1
 case step1 =>
  rintro i hi x v gv hd K hK
  have hi8 : i = 0 ∨ i = 1 ∨ i = 2 ∨ i = 3 ∨ i = 4 ∨ i = 5 ∨ i = 6 := by omega
  rcases hi8 with rfl | rfl | rfl | rfl | rfl | rfl | rfl
  ·try dsimp only [upd, Nat.reduceBEq, cond_true, cond_false]
   refine wpOp_step rfl (fun K' hK' => ?_)
   rw [if_pos (by rfl)]
   refine wp_load_mid 48 _ rfl w.heap.size 0 (by rfl) [.int .i64 W.ll, .int .i64 W.lh, .int .i64 W.wl, .int .i64 W.wh, .int .i64 W.hl, .int .i64 W.hh, .int .i64 W.ol, .int .i64 W.oh, .int .i64 W.il, .int .i64 W.ih, .bool W.wo] _ (fun j u hu => by rw [Nat.zero_add]; exact (hWs.keep gv).2 j u hu) Try.underlying48 rfl (by kernel_rfl) ?_
   exact hK' _ _ (hK _ _ (Below.refl _ _) (at_of rfl (rfl)))
  ·obtain ⟨x, rfl⟩ := upd_of (show x 0 = .agg #[.int .i64 W.ll, .int .i64 W.lh, .int .i64 W.wl, .int .i64 W.wh, .int .i64 W.hl, .int .i64 W.hh, .int .i64 W.ol, .int .i64 W.oh, .int .i64 W.il, .int .i64 W.ih, .bool W.wo] from hd 0 _ (by simp) rfl)
   try dsimp only [upd, Nat.reduceBEq, cond_true, cond_false]
   refine wpOp_step rfl (fun K' hK' => ?_)
   go_simp
   refine (CW.out v).mono ?_
   rintro e v' ⟨rfl, hg⟩
   exact hK' _ _ (hK _ _ hg (at_of rfl (rfl)))
  ·try dsimp only [upd, Nat.reduceBEq, cond_true, cond_false]
   refine wpOp_step rfl (fun K' hK' => ?_)
   rw [if_pos (by rfl)]
   refine wp_load_mid 37 _ rfl (w.heap.size + 1) 0 (by rfl) [.int .i64 cl, .int .i64 ch] _ (fun j u hu => by rw [Nat.zero_add]; exact (hCs.keep gv).2 j u hu) Try.underlying37 rfl (by kernel_rfl) ?_
   exact hK' _ _ (hK _ _ (Below.refl _ _) (at_of rfl (rfl)))
  ·obtain ⟨x, rfl⟩ := upd_of (show x 2 = .agg #[.int .i64 cl, .int .i64 ch] from hd 2 _ (by simp) rfl)
   try dsimp only [upd, Nat.reduceBEq, cond_true, cond_false]
   refine wpOp_step rfl (fun K' hK' => ?_)
   go_simp
   have hg := Gr.al v (.cells (List.toArray [.int .i64 cl, .int .i64 ch]) 37)
   exact hK' _ _ (hK _ _ hg (at_of rfl (⟨_, rfl, SRow.new1 v 37 cl ch v.heap.size rfl⟩)))
  ·obtain ⟨a3, e3, r3⟩ := hd 3 _ (by simp) rfl
   obtain ⟨x, rfl⟩ := upd_of (show x 3 = .slice a3 1 1 from e3)
   try dsimp only [upd, Nat.reduceBEq, cond_true, cond_false]
   refine wpOp_step rfl (fun K' hK' => ?_)
   go_simp
   refine (CM.out a3 v r3).mono ?_
   rintro e v' ⟨rfl, hg⟩
   exact hK' _ _ (hK _ _ hg (at_of rfl (rfl)))
  ·obtain ⟨x, rfl⟩ := upd_of (show x 1 = .int .i64 eW from hd 1 _ (by simp) rfl)
   obtain ⟨x, rfl⟩ := upd_of (show x 4 = .int .i64 eM from hd 4 _ (by simp) rfl)
   try dsimp only [upd, Nat.reduceBEq, cond_true, cond_false]
   refine wpOp_step rfl (fun K' hK' => ?_)
   go_simp
   have hg := Gr.al v (.cells (List.toArray [.int .i64 eW, .int .i64 eM]) 28)
   exact hK' _ _ (hK _ _ hg (at_of rfl (⟨_, rfl, IRow.new' v 28 [eW, eM] (by simp) v.heap.size rfl _ (by rfl)⟩)))
  ·obtain ⟨a5, e5, r5⟩ := hd 5 _ (by simp) rfl
   obtain ⟨x, rfl⟩ := upd_of (show x 5 = .slice a5 2 2 from e5)
   try dsimp only [upd, Nat.reduceBEq, cond_true, cond_false]
   refine wpOp_step rfl (fun K' hK' => ?_)
   go_simp
   refine (CE.out a5 v r5).mono ?_
   rintro e v' ⟨rfl, hg⟩
   exact hK' _ _ (hK _ _ hg (at_of rfl (rfl)))
 case fin1 =>
  rintro x v gv hd
  obtain ⟨x, rfl⟩ := upd_of (show x 6 = .int .i64 E from hd 6 _ (by omega) rfl)
  clear hd
  show wpList Try.prog _ _ (List.drop 7 _) (⟨#[_, _, _, _, _, _, _, _, _, _, _, x 0, x 1, x 2, x 3, x 4, x 5, .int .i64 E, _, _, _, _, _, _, _, _, _, _, _, _, _, _, _, _, _, _, _, _, _, _, _, _, _, _, _], []⟩ : Act) v
  simp only [List.drop_succ_cons, List.drop_zero]
  have hle6 : w.heap.size ≤ w.heap.size + 1 + 1 := by omega
  have oV := o6.keep gv
  have q0 := oV.1.2 0 _ rfl
  have z0 := oV.2 0
  have q1 := oV.1.2 1 _ rfl
  have z1 := oV.2 1
  have q2 := oV.1.2 2 _ rfl
  have z2 := oV.2 2
  have q3 := oV.1.2 3 _ rfl
  have z3 := oV.2 3
  have q4 := oV.1.2 4 _ rfl
  have z4 := oV.2 4
  have q5 := oV.1.2 5 _ rfl
  have z5 := oV.2 5
  have q6 := oV.1.2 6 _ rfl
  have z6 := oV.2 6
  have gV := gU.tr gv
  by_cases h0 : E = 0
  case neg =>
   have h0' : (E != 0) = true := by rw [bne_iff_ne]; exact h0
   have H0 := Lib.hid h0
   clear h0
   go_wp2
   refine bodyPost_ret (v := .tuple #[.agg #[.int .i64 0, .slice none 0 0, .int .i64 0, .slice none 0 0, .slice none 0 0, .int .i64 0, .bool false], .int .i64 0, .int .i64 E]) (by simp [results, Try.results29, go_sem, q0, q1, q2, q3, q4, q5, q6]) rfl ?_
   exact (HPost.out _ _).2 ⟨(((((((gV.setCell (p := ⟨w.heap.size + 1 + 1, 0, none⟩) hle6 _).setCell (p := ⟨w.heap.size + 1 + 1, 1, none⟩) hle6 _).setCell (p := ⟨w.heap.size + 1 + 1, 2, none⟩) hle6 _).setCell (p := ⟨w.heap.size + 1 + 1, 3, none⟩) hle6 _).setCell (p := ⟨w.heap.size + 1 + 1, 4, none⟩) hle6 _).setCell (p := ⟨w.heap.size + 1 + 1, 5, none⟩) hle6 _).setCell (p := ⟨w.heap.size + 1 + 1, 6, none⟩) hle6 _), .inl ⟨H0.out, rfl⟩⟩
  subst h0
  have hW := HW0.out rfl
  obtain ⟨bt, hbt⟩ : ∃ b, inB 0 100 [tab] = b := ⟨_, rfl⟩
  have HBT := Lib.hid hbt
  have hwn := fun (u : World) => within_any 0 100 [tab] bt hbt (some ⟨u.heap.size, 0, none⟩) 1 _ (IRow.new' u 3 [tab] (by simp) u.heap.size rfl #[.int .i64 tab] (by simp))
  have HWN := Lib.hid hwn
  clear hbt hwn
  cases bt with
  | false =>
   go_wp2_with (go_at_call 63; refine (HWN.out _).mono ?_; rintro e w3 ⟨rfl, g3⟩; clear q0 z0 q1 z1 q2 z2 q3 z3 q4 z4 q5 z5 q6 z6; have oV := oV.keep ((Gr.al _ _).tr g3); have q0 := oV.1.2 0 _ rfl; have q1 := oV.1.2 1 _ rfl; have q2 := oV.1.2 2 _ rfl; have q3 := oV.1.2 3 _ rfl; have q4 := oV.1.2 4 _ rfl; have q5 := oV.1.2 5 _ rfl; have q6 := oV.1.2 6 _ rfl; have z0 := oV.2 0; have z1 := oV.2 1; have z2 := oV.2 2; have z3 := oV.2 3; have z4 := oV.2 4; have z5 := oV.2 5; have z6 := oV.2 6)
   refine bodyPost_ret (v := .tuple #[.agg #[.int .i64 0, .slice none 0 0, .int .i64 0, .slice none 0 0, .slice none 0 0, .int .i64 0, .bool false], .int .i64 0, .int .i64 5]) (by simp [results, Try.results29, go_sem, q0, q1, q2, q3, q4, q5, q6]) rfl ?_
   have gV3 := gV.tr ((Gr.al _ _).tr g3)
   exact (HPost.out _ _).2 ⟨(((((((gV3.setCell (p := ⟨w.heap.size + 1 + 1, 0, none⟩) hle6 _).setCell (p := ⟨w.heap.size + 1 + 1, 1, none⟩) hle6 _).setCell (p := ⟨w.heap.size + 1 + 1, 2, none⟩) hle6 _).setCell (p := ⟨w.heap.size + 1 + 1, 3, none⟩) hle6 _).setCell (p := ⟨w.heap.size + 1 + 1, 4, none⟩) hle6 _).setCell (p := ⟨w.heap.size + 1 + 1, 5, none⟩) hle6 _).setCell (p := ⟨w.heap.size + 1 + 1, 6, none⟩) hle6 _), .inr (.inl ⟨by trivial, HBT.out, rfl⟩)⟩
  | true =>
   have hb5 := hWs.keep gv
   have hc5 := hCs.keep gv
   go_upto_region 6 with (go_at_call 63; refine (HWN.out _).mono ?_; rintro e w3 ⟨rfl, g3⟩)
   have g3' := (Gr.al v (.cells #[.int .i64 tab] 3)).tr g3
   clear q0 z0 q1 z1 q2 z2 q3 z3 q4 z4 q5 z5 q6 z6
   refine wp_abs (fun V => Gr w V ∧ Box V w.heap.size [.int .i64 W.ll, .int .i64 W.lh, .int .i64 W.wl, .int .i64 W.wh, .int .i64 W.hl, .int .i64 W.hh, .int .i64 W.ol, .int .i64 W.oh, .int .i64 W.il, .int .i64 W.ih, .bool W.wo] ∧ Box V (w.heap.size + 1) [.int .i64 cl, .int .i64 ch] ∧ Own V (w.heap.size + 1 + 1) [.int .i64 0, .slice none 0 0, .int .i64 0, .slice none 0 0, .slice none 0 0, .int .i64 0, .bool false]) ⟨gV.tr g3', hb5.keep g3', hc5.keep g3', oV.keep g3'⟩ ?_
   clear gV hb5 hc5 oV g3 g3' gv hWs hCs o6 gU
   rintro V ⟨gV, hWs, hCs, oV⟩
   have wo5 := hWs.2 10 _ rfl
   go_upto_region 7 with (first
    | (go_at_call 74; refine (empty_any tab W.wo _).mono ?_; rintro e w4 ⟨a, b, c, rfl, hz, g4⟩)
    | (go_at_call 68; refine (layW tab W.wo a b c _).mono ?_; rintro e w5 ⟨rfl, g5⟩))
   have hz5 := hz.gr (g5.tr (Gr.al w5 (.cells #[.int .i64 tab, .slice (some ⟨a, 0, none⟩) 4 4, .int .i64 0, .slice (some ⟨b, 0, none⟩) 2 2, .slice (some ⟨c, 0, none⟩) 2 2, .int .i64 0, .bool W.wo, .int .i64 3000, .slice (some ⟨b, 0, none⟩) 2 2, .slice (some ⟨c, 0, none⟩) 2 2] 124)))
   have gA := (g4.tr g5).tr (Gr.al w5 (.cells #[.int .i64 tab, .slice (some ⟨a, 0, none⟩) 4 4, .int .i64 0, .slice (some ⟨b, 0, none⟩) 2 2, .slice (some ⟨c, 0, none⟩) 2 2, .int .i64 0, .bool W.wo, .int .i64 3000, .slice (some ⟨b, 0, none⟩) 2 2, .slice (some ⟨c, 0, none⟩) 2 2] 124))
   have bL := Box.new w5 [.int .i64 tab, .slice (some ⟨a, 0, none⟩) 4 4, .int .i64 0, .slice (some ⟨b, 0, none⟩) 2 2, .slice (some ⟨c, 0, none⟩) 2 2, .int .i64 0, .bool W.wo, .int .i64 3000, .slice (some ⟨b, 0, none⟩) 2 2, .slice (some ⟨c, 0, none⟩) 2 2] 124 w5.heap.size rfl
   refine wp_abs (fun Y => Gr w Y ∧ Box Y w.heap.size [.int .i64 W.ll, .int .i64 W.lh, .int .i64 W.wl, .int .i64 W.wh, .int .i64 W.hl, .int .i64 W.hh, .int .i64 W.ol, .int .i64 W.oh, .int .i64 W.il, .int .i64 W.ih, .bool W.wo] ∧ Box Y (w.heap.size + 1) [.int .i64 cl, .int .i64 ch] ∧ Own Y (w.heap.size + 1 + 1) [.int .i64 0, .slice none 0 0, .int .i64 0, .slice none 0 0, .slice none 0 0, .int .i64 0, .bool false] ∧ Box Y w5.heap.size [.int .i64 tab, .slice (some ⟨a, 0, none⟩) 4 4, .int .i64 0, .slice (some ⟨b, 0, none⟩) 2 2, .slice (some ⟨c, 0, none⟩) 2 2, .int .i64 0, .bool W.wo, .int .i64 3000, .slice (some ⟨b, 0, none⟩) 2 2, .slice (some ⟨c, 0, none⟩) 2 2] ∧ Zeros V Y a b c) ⟨gV.tr gA, hWs.keep gA, hCs.keep gA, oV.keep gA, bL, hz5⟩ ?_
   clear wo5 gA hz5 bL hz gV hWs hCs oV
   rintro Y ⟨gV, hWs, hCs, oV, bL, hz⟩
   obtain ⟨y0, y1, y2, y3, y4, y5, y6, y7, y8, y9⟩ := bL.c10
   have p0 := hWs.2 0 _ rfl
   have p1 := hWs.2 1 _ rfl
   have p2 := hWs.2 2 _ rfl
   have p3 := hWs.2 3 _ rfl
   have p4 := hWs.2 4 _ rfl
   have p5 := hWs.2 5 _ rfl
   have p6 := hWs.2 6 _ rfl
   have p7 := hWs.2 7 _ rfl
   have p8 := hWs.2 8 _ rfl
   have p9 := hWs.2 9 _ rfl
   have p10 := hWs.2 10 _ rfl
   obtain ⟨c0, c1⟩ := hCs.c2
   have HSM := Lib.hid (smallW tab W cl ch hW a b c V Y hz)
   have HLL := Lib.hid (small_L (wholeR W.wo) W cl ch)
   obtain ⟨⟨d0, f0⟩, hd0⟩ : ∃ r, smallD (wholeR W.wo) W cl ch = r := ⟨_, rfl⟩
   rw [hd0] at HSM HPost HLL
   clear hd0
   have l6 := oV.1.1
   go_upto_region 8 with (go_at_call 75; refine HSM.out.mono ?_; rintro e w8 ⟨P, T, B, rfl, oP, oT, oB, lP, lT, lB, g8⟩; clear p0 p1 p2 p3 p4 p5 p6 p7 p8 p9 p10 y0 y1 y2 y3 y4 y5 y6 y7 y8 y9 c0 c1; have oV := oV.keep g8; have q0 := oV.1.2 0 _ rfl; have q1 := oV.1.2 1 _ rfl; have q2 := oV.1.2 2 _ rfl; have q3 := oV.1.2 3 _ rfl; have q4 := oV.1.2 4 _ rfl; have q5 := oV.1.2 5 _ rfl; have q6 := oV.1.2 6 _ rfl; have z0 := oV.2 0; have z1 := oV.2 1; have z2 := oV.2 2; have z3 := oV.2 3; have z4 := oV.2 4; have z5 := oV.2 5; have z6 := oV.2 6; have LP := Lib.hid lP; have LT := Lib.hid lT; have LB := Lib.hid lB; clear lP lT lB; have OP := Lib.hid oP; have OT := Lib.hid oT; have OB := Lib.hid oB; clear oP oT oB)
   have gV8 := gV.tr g8
   have lP := LP.out
   have lT := LT.out
   have lB := LB.out
   have nP6 : P ≠ w.heap.size + 1 + 1 := by omega
   have nT6 : T ≠ w.heap.size + 1 + 1 := by omega
   have nB6 : B ≠ w.heap.size + 1 + 1 := by omega
   refine wp_abs (fun Z => Gr w Z ∧ Own Z (w.heap.size + 1 + 1) [.int .i64 tab, .slice (some ⟨P, 0, none⟩) 4 4, .int .i64 d0.hei, .slice (some ⟨T, 0, none⟩) 2 2, .slice (some ⟨B, 0, none⟩) 2 2, .int .i64 d0.slo, .bool W.wo] ∧ Own Z P (d0.p.map encN) ∧ Own Z T (d0.t.map encN) ∧ Own Z B (d0.b.map encN)) ⟨(((((((gV8.setCell (p := ⟨w.heap.size + 1 + 1, 0, none⟩) hle6 _).setCell (p := ⟨w.heap.size + 1 + 1, 1, none⟩) hle6 _).setCell (p := ⟨w.heap.size + 1 + 1, 2, none⟩) hle6 _).setCell (p := ⟨w.heap.size + 1 + 1, 3, none⟩) hle6 _).setCell (p := ⟨w.heap.size + 1 + 1, 4, none⟩) hle6 _).setCell (p := ⟨w.heap.size + 1 + 1, 5, none⟩) hle6 _).setCell (p := ⟨w.heap.size + 1 + 1, 6, none⟩) hle6 _), (((((((oV.set (i := 0) (v := .int .i64 tab) (by simp)).set (i := 1) (v := .slice (some ⟨P, 0, none⟩) 4 4) (by simp)).set (i := 2) (v := .int .i64 d0.hei) (by simp)).set (i := 3) (v := .slice (some ⟨T, 0, none⟩) 2 2) (by simp)).set (i := 4) (v := .slice (some ⟨B, 0, none⟩) 2 2) (by simp)).set (i := 5) (v := .int .i64 d0.slo) (by simp)).set (i := 6) (v := .bool W.wo) (by simp)), (((((((OP.out.other nP6).other nP6).other nP6).other nP6).other nP6).other nP6).other nP6), (((((((OT.out.other nT6).other nT6).other nT6).other nT6).other nT6).other nT6).other nT6), (((((((OB.out.other nB6).other nB6).other nB6).other nB6).other nB6).other nB6).other nB6)⟩ ?_
   clear lP lT lB gV8 gV q0 z0 q1 z1 q2 z2 q3 z3 q4 z4 q5 z5 q6 z6 oV g8 OP OT OB LP LT LB hz bL hWs hCs
   rintro Z ⟨gZ, oZ, oP, oT, oB⟩
   have q0 := oZ.1.2 0 _ rfl
   have q1 := oZ.1.2 1 _ rfl
   have q2 := oZ.1.2 2 _ rfl
   have q3 := oZ.1.2 3 _ rfl
   have q4 := oZ.1.2 4 _ rfl
   have q5 := oZ.1.2 5 _ rfl
   have q6 := oZ.1.2 6 _ rfl
   have z0 := oZ.2 0
   have z1 := oZ.2 1
   have z2 := oZ.2 2
   have z3 := oZ.2 3
   have z4 := oZ.2 4
   have z5 := oZ.2 5
   have z6 := oZ.2 6
   by_cases hf : f0 < 10
   ·have hf' : (f0 : Int) < 10 := by omega
    have HF := Lib.hid hf
    clear hf
    go_wp2
    refine bodyPost_ret (v := .tuple #[.agg #[.int .i64 0, .slice none 0 0, .int .i64 0, .slice none 0 0, .slice none 0 0, .int .i64 0, .bool false], .int .i64 (f0 : Int), .int .i64 9]) (by simp [results, Try.results29, go_sem, q0, q1, q2, q3, q4, q5, q6]) rfl ?_
    exact (HPost.out _ _).2 ⟨(((((((gZ.setCell (p := ⟨w.heap.size + 1 + 1, 0, none⟩) hle6 _).setCell (p := ⟨w.heap.size + 1 + 1, 1, none⟩) hle6 _).setCell (p := ⟨w.heap.size + 1 + 1, 2, none⟩) hle6 _).setCell (p := ⟨w.heap.size + 1 + 1, 3, none⟩) hle6 _).setCell (p := ⟨w.heap.size + 1 + 1, 4, none⟩) hle6 _).setCell (p := ⟨w.heap.size + 1 + 1, 5, none⟩) hle6 _).setCell (p := ⟨w.heap.size + 1 + 1, 6, none⟩) hle6 _), .inr (.inr (.inl ⟨by trivial, HBT.out, HF.out, rfl⟩))⟩
   ·have hf' : ¬ (f0 : Int) < 10 := by omega
    have HF := Lib.hid hf
    clear hf
    have HP := Lib.hid oP
    have HT := Lib.hid oT
    have HB := Lib.hid oB
    clear oP oT oB
    go_wp2
    refine bodyPost_ret (v := .tuple #[.agg #[.int .i64 tab, .slice (some ⟨P, 0, none⟩) 4 4, .int .i64 d0.hei, .slice (some ⟨T, 0, none⟩) 2 2, .slice (some ⟨B, 0, none⟩) 2 2, .int .i64 d0.slo, .bool W.wo], .int .i64 0, .int .i64 0]) (by simp [results, Try.results29, go_sem, q0, q1, q2, q3, q4, q5, q6]) rfl ?_
    refine (HPost.out _ _).2 ⟨(((((((gZ.setCell (p := ⟨w.heap.size + 1 + 1, 0, none⟩) hle6 _).setCell (p := ⟨w.heap.size + 1 + 1, 1, none⟩) hle6 _).setCell (p := ⟨w.heap.size + 1 + 1, 2, none⟩) hle6 _).setCell (p := ⟨w.heap.size + 1 + 1, 3, none⟩) hle6 _).setCell (p := ⟨w.heap.size + 1 + 1, 4, none⟩) hle6 _).setCell (p := ⟨w.heap.size + 1 + 1, 5, none⟩) hle6 _).setCell (p := ⟨w.heap.size + 1 + 1, 6, none⟩) hle6 _), .inr (.inr (.inr ⟨by trivial, HBT.out, HF.out, P, T, B, rfl, ?_, ?_, ?_⟩))⟩
    ·exact Own.irow ((((((((HP.out.other nP6).other nP6).other nP6).other nP6).other nP6).other nP6).other nP6)) (by rw [HLL.out.p]; decide)
    ·exact Own.irow ((((((((HT.out.other nT6).other nT6).other nT6).other nT6).other nT6).other nT6).other nT6)) (by rw [HLL.out.t]; decide)
    ·exact Own.irow ((((((((HB.out.other nB6).other nB6).other nB6).other nB6).other nB6).other nB6).other nB6)) (by rw [HLL.out.b]; decide)

end Go.Proofs.Ytoihnilgmdcndaa
