/- Four rows of integers apart from each other, each appended to. Boxes picked by their numbers: the law's picked and smaller; when they stand. The law's smaller of chapter 3. Orders of boxes, without memory: full orders, prefixes, and what Most picks. The reference's Table, Through, Stacks and Tables of chapter 3. CrushHighs' own body. CrushFalls' own body. (Made by gen_j8.py.) A row of boxes of one's own, of which one box is written. The reference's Decide of chapter 3. (Made by gen_o6.py.) CrushSure's calls: the copy of readings, Decide. CrushFew: the fewest tests. The law's ints of any slice; the reference's Need of chapter 3. (Made by gen_o7.py.) What CrushStacked's body calls: Order, Most, Fall and picked, in one form each. (Made by gen_z5.py.) -/
import Derived.Test.YtcdilmagcdbogaaQZ7a
import Derived.Deep.CutRange
import Derived.Deep.AppendLies
import Derived.Test.YtcdilmagcdbogaaQI33c
import Derived.Test.YtcdilmagcdbogaaQI33b
namespace Go.Proofs.Ytcdilmagcdbogaa
set_option linter.unusedVariables false
set_option linter.unusedSimpArgs false
open Go.RowKit

structure Four (v : World) (B0 : Nat) (s t p q : Value) (a b c d : List Int) : Prop where
  o1 : v.ownsRow B0 3 1 s a.length (a.flatMap encI)
  o2 : v.ownsRow B0 3 1 t b.length (b.flatMap encI)
  o3 : v.ownsRow B0 3 1 p c.length (c.flatMap encI)
  o4 : v.ownsRow B0 3 1 q d.length (d.flatMap encI)
  a12 : Apart s t
  a13 : Apart s p
  a14 : Apart s q
  a23 : Apart t p
  a24 : Apart t q
  a34 : Apart p q

theorem Four.keep {v v' : World} {B0 : Nat} {s t p q : Value} {a b c d : List Int} (h : Four v B0 s t p q a b c d) (g : Gr v v') : Four v' B0 s t p q a b c d :=
  ⟨owns_keep h.o1 g, owns_keep h.o2 g, owns_keep h.o3 g, owns_keep h.o4 g, h.a12, h.a13, h.a14, h.a23, h.a24, h.a34⟩

theorem Four.turn {v : World} {B0 : Nat} {s t p q : Value} {a b c d : List Int} (h : Four v B0 s t p q a b c d) : Four v B0 t p q s b c d a :=
  ⟨h.o2, h.o3, h.o4, h.o1, h.a23, h.a24, h.a12.symm, h.a34, h.a13.symm, h.a14.symm⟩

theorem Four.add {v w : World} {B0 k : Nat} {s t p q : Value} {a b c d : List Int} {x : Int} {g cp H : Nat} (h : Four v B0 s t p q a b c d) (hk : a.length = k) (hH : v.heap.size = H) (o : w.ownsRow B0 3 1 (.slice (some ⟨g, 0, none⟩) (k + 1) cp) (k + 1) (a.flatMap encI ++ [.int .i64 x])) (hg : v.grownBy w s.ownBlock) (ha : s.ownBlock = some g ∨ g = H) :
    Four w B0 (.slice (some ⟨g, 0, none⟩) (k + 1) cp) t p q (a ++ [x]) b c d := by
  subst hk
  subst hH
  refine ⟨?_, owns_apart h.o2 hg h.a12.symm, owns_apart h.o3 hg h.a13.symm, owns_apart h.o4 hg h.a14.symm, (Apart.after h.a12.symm ha (fun b e => (h.o2.lt b e).2)).symm, (Apart.after h.a13.symm ha (fun b e => (h.o3.lt b e).2)).symm, (Apart.after h.a14.symm ha (fun b e => (h.o4.lt b e).2)).symm, h.a23, h.a24, h.a34⟩
  rw [flat_snoc, List.length_append]
  exact o

theorem Four.lt {v : World} {B0 : Nat} {s t p q : Value} {a b c d : List Int} (h : Four v B0 s t p q a b c d) : ∀ k, s.ownBlock = some k → B0 ≤ k ∧ k < v.heap.size := h.o1.lt

theorem Four.row {v : World} {B0 : Nat} {s t p q : Value} {a b c d : List Int} (h : Four v B0 s t p q a b c d) (hl : a.length ≤ 1000) : ∃ ad cap, s = .slice ad a.length cap ∧ IRow v ad a := by
  obtain ⟨ad, cap, h1, h2, _⟩ := owns_row_cap (enc := encI) (l := a) (fun _ => rfl) (by omega) h.o1
  exact ⟨ad, cap, h1, h2⟩

/-- A pile in bytes: its boxes and its table, what they are, and the call. -/
theorem pile_law (X : List V4) (S : List V2) (most : Nat) (hX : ∀ v ∈ X, B4 v) (hS : ∀ v ∈ S, B2 v) (hm2 : most ≤ 50) (xa sa : Option Addr) (xc sc : Nat) :
    ∃ (l : List Ld) (n : Nat), l.length ≤ most ∧ n ≤ 6 ∧ (∀ x ∈ l, LdOk x ∧ x.sl ≤ x.sh ∧ x.wl ≤ x.wh ∧ x.sh ≤ 1069 ∧ x.wh ≤ 284) ∧
      (∀ (k : Nat) (mx days : Int), (most : Int) ≤ mx → 0 ≤ days → days ≤ 10000 → storedL mx (l.take k) (tabW S n) days = 0) ∧
      ∀ W, Row4 W xa X → Row2 W sa S → Calls Try.prog 54 #[.agg #[.slice xa X.length xc, .slice sa S.length sc], .int .i64 (most : Int)] W fun e w' =>
        ∃ b c d f, e = .returned (.tuple #[.slice (some ⟨b, 0, none⟩) l.length c, .slice (some ⟨d, 0, none⟩) (tabW S n).length f]) ∧ LRow w' (some ⟨b, 0, none⟩) l ∧ TRow w' (some ⟨d, 0, none⟩) (tabW S n) ∧ l.length ≤ c ∧ (tabW S n).length ≤ f ∧ Gr W w' := by
  have hml : min X.length most ≤ X.length := Nat.min_le_left _ _
  have hle := boxesW_len hml
  refine ⟨boxesW X (min X.length most), min S.length 6, by rw [hle]; exact Nat.min_le_right _ _, Nat.min_le_right _ _, fun x hx => boxesW_mem hX hx, fun k mx days h1 h2 h3 => ?_, fun W rx rs => ?_⟩
  · have e : (boxesW X (min X.length most)).take k = boxesW X (min k (min X.length most)) := by
      unfold boxesW
      rw [← List.map_take, List.take_take]
    rw [e]
    exact pile_stored hX hS (by have := Nat.min_le_right k (min X.length most); have := Nat.min_le_right X.length most; omega) (by have := Nat.min_le_right k (min X.length most); omega) (Nat.min_le_right _ _) h2 h3
  · have h := pile_any X S most (min X.length most) (min S.length 6) hX hS rfl hm2 rfl xa sa xc sc W rx rs
    rw [hle, tabW_len]
    exact h

/-- Four new rows. -/
theorem Four.start {v : World} {B0 : Nat} {n1 n2 n3 n4 : Nat} (h1 : v.ownsRow B0 3 1 (.slice (some ⟨n1, 0, none⟩) 0 0) 0 []) (h2 : v.ownsRow B0 3 1 (.slice (some ⟨n2, 0, none⟩) 0 0) 0 []) (h3 : v.ownsRow B0 3 1 (.slice (some ⟨n3, 0, none⟩) 0 0) 0 []) (h4 : v.ownsRow B0 3 1 (.slice (some ⟨n4, 0, none⟩) 0 0) 0 [])
    (hn : n1 < n2 ∧ n2 < n3 ∧ n3 < n4) : Four v B0 (.slice (some ⟨n1, 0, none⟩) 0 0) (.slice (some ⟨n2, 0, none⟩) 0 0) (.slice (some ⟨n3, 0, none⟩) 0 0) (.slice (some ⟨n4, 0, none⟩) 0 0) [] [] [] [] :=
  ⟨h1, h2, h3, h4, Apart.lit (by omega), Apart.lit (by omega), Apart.lit (by omega), Apart.lit (by omega), Apart.lit (by omega), Apart.lit (by omega)⟩

theorem four_new (U : World) : Four ((((U.alloc (.cells #[] 3)).alloc (.cells #[] 3)).alloc (.cells #[] 3)).alloc (.cells #[] 3)) U.heap.size (.slice (some ⟨U.heap.size, 0, none⟩) 0 0) (.slice (some ⟨U.heap.size + 1, 0, none⟩) 0 0) (.slice (some ⟨U.heap.size + 1 + 1, 0, none⟩) 0 0) (.slice (some ⟨U.heap.size + 1 + 1 + 1, 0, none⟩) 0 0) [] [] [] [] := by
  have h (V : World) (hV : U.heap.size ≤ V.heap.size) := owns_base (owns_empty V 3 1) hV
  have g (V : World) := Gr.al V (.cells #[] 3)
  have h1 := owns_keep (h U (Nat.le_refl _)) ((g _).tr ((g _).tr (g _)))
  have h2 := owns_keep (h (U.alloc (.cells #[] 3)) (by simp)) ((g _).tr (g _))
  have h3 := owns_keep (h ((U.alloc (.cells #[] 3)).alloc (.cells #[] 3)) (by simp; omega)) (g _)
  have h4 := h (((U.alloc (.cells #[] 3)).alloc (.cells #[] 3)).alloc (.cells #[] 3)) (by simp; omega)
  simp only [World.size_alloc] at h2 h3 h4
  exact Four.start h1 h2 h3 h4 (by omega)

end Go.Proofs.Ytcdilmagcdbogaa

namespace Go.Proofs.Ytcdilmagcdbogaa
set_option linter.unusedVariables false
set_option linter.unusedSimpArgs false
open Go.RowKit

def pickL (l : List Ld) (o : List Nat) : List Ld := o.map (fun i => l.getD i ⟨0, 0, 0, 0⟩)

theorem pickL_len (l : List Ld) (o : List Nat) : (pickL l o).length = o.length := by simp [pickL]

theorem pick_wh (l : List Ld) (i : Nat) : (l.getD i ⟨0, 0, 0, 0⟩).wh = whAt l i := by
  unfold whAt
  rw [List.getD_eq_getElem?_getD]
  cases l[i]? <;> rfl

theorem pick_sl (l : List Ld) (i : Nat) : (l.getD i ⟨0, 0, 0, 0⟩).sl = slAt l i := by
  unfold slAt
  rw [List.getD_eq_getElem?_getD]
  cases l[i]? <;> rfl

theorem sumHi_pick (l : List Ld) : ∀ o : List Nat, sumHi (pickL l o) = sumW l o
  | [] => rfl
  | x :: o => by
    show (l.getD x ⟨0, 0, 0, 0⟩).wh + sumHi (pickL l o) = whAt l x + sumW l o
    rw [sumHi_pick l o, pick_wh]

theorem weakO_cons {x : Ld} {l : List Ld} {q : Int} : weakO (x :: l) q = none ↔ ¬ x.sl * q / 1000 < sumHi l ∧ weakO l q = none := by
  have h0 : weakAt (x :: l) q 0 = decide (x.sl * q / 1000 < sumHi l) := rfl
  have hs : ∀ k, weakAt (x :: l) q (k + 1) = weakAt l q k := fun k => by
    unfold weakAt
    simp
  constructor
  · intro h
    refine ⟨?_, weakO_none (fun k hk => ?_)⟩
    · have := weakO_at h (i := 0) (by simp)
      rw [h0] at this
      simpa using this
    · have := weakO_at h (i := k + 1) (by simpa using hk)
      rwa [hs] at this
  · rintro ⟨h1, h2⟩
    refine weakO_none (fun k hk => ?_)
    cases k with
    | zero =>
      rw [h0]
      simpa using h1
    | succ k =>
      rw [hs]
      exact weakO_at h2 (by simpa using hk)

/-- A picked stack stands just if the order does. -/
theorem weak_pick (l : List Ld) (q : Int) : ∀ o : List Nat, weakO (pickL l o) q = none ↔ standB l q o = true
  | [] => by simp [standB, pickL, weakO]
  | x :: o => by
    have ih := weak_pick l q o
    show weakO (l.getD x ⟨0, 0, 0, 0⟩ :: pickL l o) q = none ↔ _
    rw [weakO_cons, ih, sumHi_pick, pick_sl]
    have e : standB l q (x :: o) = (decide (sumW l o ≤ slAt l x * q / 1000) && standB l q o) := rfl
    rw [e]
    simp only [Bool.and_eq_true, decide_eq_true_eq]
    constructor
    · rintro ⟨a, b⟩
      exact ⟨by omega, b⟩
    · rintro ⟨a, b⟩
      exact ⟨by omega, b⟩

theorem MapB.grownRowZ {w w' : World} {b n : Nat} {f : Int → Bool} {row : Option Nat} (h : MapB w b n f) (hg : w.grownBy w' row) (hne : ∀ r, row = some r → b ≠ r) : MapB w' b n f := by
  have hlt := h.lt
  obtain ⟨D, hD, ⟨es, clock, hb, F, hs, hd⟩, ha⟩ := h
  exact ⟨D, hD, ⟨es, clock, (hg.block b hlt (fun e => hne b e.symm rfl)).trans hb, F, hs, hd⟩, ha⟩

def memZ (o : List Nat) (y : Int) : Bool := decide (y ∈ intsN o)

theorem memZ_snoc (o : List Nat) (x : Nat) (y : Int) : memZ (o ++ [x]) y = if y = (x : Int) then true else memZ o y := by
  unfold memZ intsN
  by_cases e : y = (x : Int)
  · simp [e]
  · simp [e]

set_option maxRecDepth 100000 in
set_option maxHeartbeats 2000000 in
theorem picked_any (l : List Ld) (o : List Nat) (hn : l.length ≤ 100) (ho : o.Nodup) (hl : ∀ i ∈ o, i < l.length) (ho100 : o.length ≤ 100) (la oa : Option Addr) (lc oc : Nat) (w : World) (rl : LRow w la l) (ro : IRow w oa (intsN o)) :
    Calls Try.prog 57 #[.slice la l.length lc, .slice oa o.length oc] w fun e w' => ∃ a c, e = .returned (.tuple #[.slice a o.length c, .bool true]) ∧ LRow w' a (pickL l o) ∧ Gr w w' := by
  obtain ⟨i0, hi, hz0, hz1, hz2⟩ := info_parts infoLd
  have HL := Lib.hid hl
  have HO := Lib.hid ho
  clear hl ho
  have oA := owns_keep (owns_empty w 70 4) (Gr.al _ (.map #[] 0))
  have hm := MapB.made (w.alloc (.cells #[] 70))
  have gA := (Gr.al w (.cells #[] 70)).tr (Gr.al _ (.map #[] 0))
  rw [show (w.alloc (.cells #[] 70)).heap.size = w.heap.size + 1 by simp] at hm
  go_enter Try.func57, Try.ntmps57
  have hmm := @run_makeMap Try.prog
  go_upto_region 2 with fail
  clear hmm
  obtain ⟨E0, hE0⟩ : ∃ E, E = w.heap.size := ⟨_, rfl⟩
  have hE1 : w.heap.size ≤ E0 ∧ E0 ≤ w.heap.size := by omega
  rw [← hE0] at oA hm ⊢
  clear hE0
  refine wp_abs (fun V => Gr w V ∧ V.ownsRow E0 70 4 (.slice (some ⟨E0, 0, none⟩) 0 0) 0 [] ∧ MapB V (E0 + 1) 0 (fun _ => false)) ⟨gA, oA, hm⟩ ?_
  clear gA oA hm
  rintro V ⟨gA, oA, hm⟩
  go_wp2
  go_loopw [8, 6] (fun i s wr => Hid (∃ j g cap : Nat, j ≤ o.length ∧ i = .int .i64 j ∧ s = .slice (some ⟨g, 0, none⟩) j cap ∧ g ≠ E0 + 1 ∧ Gr w wr ∧ MapB wr (E0 + 1) j (memZ (o.take j)) ∧ wr.ownsRow E0 70 4 (.slice (some ⟨g, 0, none⟩) j cap) j ((pickL l (o.take j)).flatMap encL))) (fun i _ _ => o.length - (intOf i).toNat)
  case atStart => exact Lib.hid ⟨0, E0, 0, Nat.zero_le _, rfl, rfl, by omega, gA, hm.congr (Nat.le_refl _) (fun y => by simp [memZ, intsN]), by simpa [pickL] using oA⟩
  case round =>
    clear gA oA hm
    obtain ⟨j, g, cap, hj, rfl, rfl, hg, gW, hm, oA⟩ := hrel.out
    clear hrel
    by_cases hlt : j < o.length
    · obtain ⟨n, hx⟩ : ∃ n, o[j]? = some n := ⟨o[j], by simp [hlt]⟩
      have hnl := HL.out n (List.mem_of_getElem? hx)
      have hxi : (intsN o)[j]? = some (n : Int) := by unfold intsN; rw [List.getElem?_map, hx]; rfl
      obtain ⟨b1, o1, rfl, _, c1⟩ := IRow.get (ro.grow gW) hxi
      obtain ⟨⟨sl, sh, wl, wh⟩, hy⟩ : ∃ y, l[n]? = some y := ⟨l[n], by simp [hnl]⟩
      obtain ⟨b2, o2, rfl, _, q0, q1, q2, q3⟩ := LRow.get (rl.grow gW) hy
      dsimp only at q0 q1 q2 q3
      have hnot : memZ (o.take j) (n : Int) = false := by
        unfold memZ intsN
        simp only [decide_eq_false_iff_not, List.mem_map, not_exists, not_and]
        intro m hm2 he
        have : m = n := by omega
        subst this
        have hnd := HO.out
        rw [← List.take_append_drop j o] at hnd
        have hd : m ∈ o.drop j := by
          rw [List.mem_iff_getElem?]
          exact ⟨0, by rw [List.getElem?_drop]; exact hx⟩
        exact (List.nodup_append.1 hnd).2.2 m hm2 m hd rfl
      have htk : o.take (j + 1) = o.take j ++ [n] := by rw [List.take_add_one, hx]; rfl
      have hlook := hm.look (n : Int) (wf64 (by omega) (by omega))
      rw [hnot] at hlook
      obtain ⟨w5, hput, m5, hg5⟩ := hm.put (by omega) (n : Int) true (wf64 (by omega) (by omega))
      have gW5 : Gr w w5 := Kx.toGr ((Kx.gr (Z := noBlock) gW).th (Kx.grown (Z := fun b => b = E0 + 1) hg5 (fun r e => .inl (by cases e; rfl))) (fun i e => .inr (by subst e; omega)))
      have oA5 := oA.kept hg5 (.inr (by simp only [Value.ownBlock, ne_eq, Option.some.injEq]; exact hg))
      obtain ⟨_, _, _, _, r0, r1, r2, r3⟩ := LRow.get (rl.grow gW5) hy
      have hpk : (pickL l (o.take (j + 1))).flatMap encL = (pickL l (o.take j)).flatMap encL ++ [sl, sh, wl, wh].map (fun n => Value.int .i64 n) := by
        rw [htk]
        unfold pickL
        rw [List.map_append, List.flatMap_append]
        congr 1
        simp only [List.map_cons, List.map_nil, List.flatMap_cons, List.flatMap_nil, List.append_nil, List.getD_eq_getElem?_getD, hy]
        rfl
      have HPK := Lib.hid hpk
      have HTK := Lib.hid htk
      have M5 := Lib.hid m5
      have k1 : j + 1 ≤ maxLen := by unfold maxLen; omega
      have k2 : (j + 1) * 32 ≤ 140737488355328 := by omega
      have hn0 : decide ((n : Int) < 0) = false := by simp
      have hn1 : decide ((l.length : Int) ≤ (n : Int)) = false := by simp; omega
      have hn2 : ¬ l.length ≤ n := by omega
      have gAl := Gr.al w5 (.cells #[.int .i64 sl, .int .i64 sh, .int .i64 wl, .int .i64 wh] 70)
      have hlM := hm.lt
      have hM5 := hg5.size
      clear hpk htk hnot hx hxi hy m5 q0 q1 q2 q3
      go_wp2_with (at_builtin; refine wpList_append_lies _ rfl _ _ 53 rfl E0 70 i0 _ 4 32 Try.underlying53 hi hz0 hz1 hz2 rfl (by decide) (.slice (some ⟨g, 0, none⟩) j cap) j _ rfl (owns_keep oA5 gAl) ⟨w5.heap.size, 0, none⟩ 1 1 ([sl, sh, wl, wh].map (fun n => Value.int .i64 n)) rfl rfl (cell_news _ _ _) (ints_one _) (by omega) k1 k2 (by have := gAl.size; omega) _ rfl ?_; intro g2 cap2 Y hA2 hgr hat hlt2)
      go_roundw
      case rel =>
        have gY := (gW5.tr gAl).grown' (owns_keep oA5 gAl) hE1.1 hgr
        have hne : g2 ≠ E0 + 1 := by
          rcases hat with h | h
          · simp only [Value.ownBlock, Option.some.injEq] at h
            omega
          · have := gAl.size
            simp at h
            omega
        have hmY := (M5.out.keep gAl).grownRowZ hgr (fun r e => by simp only [Value.ownBlock, Option.some.injEq] at e; omega)
        refine ⟨_, _, _, .int .i64 ((j + 1 : Nat) : Int), Lib.hid ⟨j + 1, by omega, rfl, g2, cap2, rfl, hne, gY, hmY.congr (Nat.le_refl _) (fun y => by rw [HTK.out, memZ_snoc]), ?_⟩, rfl, rfl, rfl, by go_num⟩
        rw [HPK.out]
        exact hA2
      case measure => simp [intOf]; omega
    · obtain rfl : j = o.length := by omega
      rw [List.take_length] at oA
      have hpl := pickL_len l o
      obtain ⟨a3, c3, e3, h3⟩ := owns_row (enc := encL) (l := pickL l o) (fun _ => rfl) (by omega) (by rw [hpl]; exact oA)
      rw [hpl] at e3
      have H3 := Lib.hid h3
      have E3 := Lib.hid e3
      clear e3 h3 hpl hlt hj oA
      go_wp2
      exact bodyPost_ret (v := .tuple #[.slice (some ⟨g, 0, none⟩) o.length cap, .bool true]) (by simp [results, Try.results57, go_sem]) rfl ⟨a3, c3, by rw [E3.out], H3.out, gW⟩

end Go.Proofs.Ytcdilmagcdbogaa

namespace Go.Proofs.Ytcdilmagcdbogaa
set_option linter.unusedVariables false
set_option linter.unusedSimpArgs false
open Go.RowKit

set_option maxRecDepth 100000 in
set_option maxHeartbeats 2000000 in
theorem smaller_any (l m : List Int) (a b : Option Addr) (c d : Nat) (w : World) (hl : IRow w a l) (hm : IRow w b m) (hlen : l.length = m.length) :
    Calls Try.prog 58 #[.slice a l.length c, .slice b m.length d] w fun e w' => e = .returned (.bool (lexI l m)) ∧ Gr w w' := by
  have hl0 := hl.1
  have hm0 := hm.1
  obtain ⟨R, hR2⟩ : ∃ R, lexI l m = R := ⟨_, rfl⟩
  have HR := Lib.hid hR2
  have HR2 := Lib.hid hR2
  have HLen := Lib.hid hlen
  clear hR2 hlen
  go_enter Try.func58, Try.ntmps58
  go_wp2
  go_loopw [5] (fun t wr => Hid (∃ k : Nat, k ≤ l.length ∧ t = .int .i64 k ∧ Gr w wr ∧ l.take k = m.take k)) (fun t _ => l.length - (intOf t).toNat)
  case atStart => exact Lib.hid ⟨0, Nat.zero_le _, rfl, Below.refl _ _, by simp⟩
  case round =>
    obtain ⟨k, hk, rfl, gW, ht⟩ := hrel.out
    clear hrel
    by_cases hlt : k < l.length
    · have hlt2 : k < m.length := by have := HLen.out; omega
      obtain ⟨x, hx⟩ : ∃ x, l[k]? = some x := ⟨l[k], by simp [hlt]⟩
      obtain ⟨y, hy⟩ : ∃ y, m[k]? = some y := ⟨m[k], by simp [hlt2]⟩
      obtain ⟨b1, o1, rfl, h1, c1⟩ := IRow.get (hl.grow gW) hx
      obtain ⟨b2, o2, rfl, h2, c2⟩ := IRow.get (hm.grow gW) hy
      by_cases hxy : x = y
      · have hne : (x != y) = false := by simpa using hxy
        have ht' : l.take (k + 1) = m.take (k + 1) := by rw [List.take_add_one, List.take_add_one, hx, hy, ht, hxy]
        have HT := Lib.hid ht'
        clear ht ht' hx hy hxy
        go_upto_region 6 with fail
        go_quiet (fail)
        go_wp2
        go_roundw
        case rel => exact Lib.hid ⟨k + 1, by omega, by go_num, Gr.drewN gW _, HT.out⟩
        case measure => simp [intOf]; omega
      · have hne : (x != y) = true := by simpa using hxy
        have E := Lib.hid (show R = decide (x < y) by rw [← HR2.out]; exact lexI_at l m k x y ht hx hy hxy)
        clear ht hx hy hxy
        go_upto_region 6 with fail
        go_quiet (fail)
        have c1' := (Gr.drewN (Below.refl wr.heap.size wr) nq).keep c1
        have c2' := (Gr.drewN (Below.refl wr.heap.size wr) nq).keep c2
        have gN := Gr.drewN gW nq
        generalize wr.drewN nq = Z at *
        go_upto_region 7 with fail
        go_quiet (fail)
        go_wp2
        go_ret
        exact ⟨ret_bool (by rw [HR.out, E.out]), Gr.drewN gN _⟩
    · obtain rfl : k = l.length := by omega
      have E := Lib.hid (show R = false by
        rw [List.take_length, List.take_of_length_le (by have := HLen.out; omega)] at ht
        rw [← HR2.out, ht]
        exact lexI_self m)
      clear ht
      go_wp2
      go_ret
      exact ⟨ret_bool (by rw [HR.out, E.out]), gW⟩

end Go.Proofs.Ytcdilmagcdbogaa

namespace Go.Proofs.Ytcdilmagcdbogaa
set_option linter.unusedVariables false
set_option linter.unusedSimpArgs false
open Go.RowKit

theorem allN_succ (l : List Ld) : allN l + 1 = 2 ^ l.length := by
  have := Nat.two_pow_pos l.length
  unfold allN
  omega

theorem setO_lt2 {n : Nat} : ∀ {o : List Nat}, (∀ x ∈ o, x < n) → setO o < 2 ^ n
  | [], _ => Nat.two_pow_pos n
  | x :: o, h => by
    have ih := setO_lt2 (o := o) (fun y hy => h y (List.mem_cons_of_mem _ hy))
    have hx : 2 ^ x < 2 ^ n := Nat.pow_lt_pow_right (by decide) (h x List.mem_cons_self)
    show setO o ^^^ 2 ^ x < 2 ^ n
    exact Nat.xor_lt_two_pow ih hx

theorem setO_all {l : List Ld} {o : List Nat} (hl : ∀ x ∈ o, x < l.length) : setO o < allN l + 1 := by
  rw [allN_succ]
  exact setO_lt2 hl

/-- What stands in some order stands as a set. -/
theorem stack_set {l : List Ld} (h10 : l.length ≤ 10) {q : Int} {o : List Nat} (hn : o.Nodup) (hl : ∀ x ∈ o, x < l.length) (hs : standB l q o = true) : standsTo l q (allN l + 1) ((setO o : Nat) : Int) = true :=
  set_stands h10 hn hl (setO_all hl) (fun o' ho' => setO_all (fun x hx => hl x (ho'.subset hx))) hs

theorem setO_len {l : List Ld} (h10 : l.length ≤ 10) {o : List Nat} (hn : o.Nodup) (hl : ∀ x ∈ o, x < l.length) : (membL (setO o)).length = o.length :=
  (memb_perm hn (fun x hx => Nat.lt_of_lt_of_le (hl x hx) h10)).length_eq

/-- No order that stands is longer than Most's answer. -/
theorem prefix_most {l : List Ld} (h10 : l.length ≤ 10) {q : Int} {o : List Nat} (hn : o.Nodup) (hl : ∀ x ∈ o, x < l.length) (hs : standB l q o = true) : o.length ≤ (mostTo (standsTo l q (allN l + 1)) (allN l + 1)).length := by
  have h := most_ge (allN l + 1) (setO o) (setO_all hl) (stack_set h10 hn hl hs)
  rw [setO_len h10 hn hl] at h
  exact h

theorem memb_in {l : List Ld} (h10 : l.length ≤ 10) {y : Nat} (hy : y < allN l + 1) : membL y = (List.range l.length).filter (fun i => y.testBit i) := by
  rw [allN_succ] at hy
  exact (membL_end (Nat.div_eq_of_lt hy) h10).symm

theorem memb_le {l : List Ld} (h10 : l.length ≤ 10) {y : Nat} (hy : y < allN l + 1) : (membL y).length ≤ l.length := by
  rw [memb_in h10 hy]
  have := List.length_filter_le (fun i => y.testBit i) (List.range l.length)
  simpa using this

theorem allN_bit (l : List Ld) (i : Nat) : (allN l).testBit i = decide (i < l.length) := by
  unfold allN
  exact Nat.testBit_two_pow_sub_one _ _

theorem memb_full {l : List Ld} (h10 : l.length ≤ 10) {y : Nat} (hy : y < allN l + 1) (hlen : (membL y).length = l.length) : y = allN l := by
  have h := memb_in h10 hy
  rw [h] at hlen
  have h2 : ((List.range l.length).filter (fun i => y.testBit i)).length = (List.range l.length).length := by rw [hlen]; simp
  rw [List.length_filter_eq_length_iff] at h2
  apply Nat.eq_of_testBit_eq
  intro i
  rw [allN_bit]
  by_cases e : i < l.length
  · rw [h2 i (List.mem_range.2 e)]
    simp [e]
  · rw [allN_succ] at hy
    rw [Nat.testBit_lt_two_pow (Nat.lt_of_lt_of_le hy (Nat.pow_le_pow_right (by decide) (by omega)))]
    simp [e]

theorem memb_all {l : List Ld} (h10 : l.length ≤ 10) : (membL (allN l)).length = l.length := by
  rw [memb_in h10 (Nat.lt_succ_self _)]
  rw [List.filter_eq_self.2 (fun i hi => by rw [allN_bit]; simpa using hi)]
  simp

theorem full_set {l : List Ld} (h10 : l.length ≤ 10) {o : List Nat} (hn : o.Nodup) (hl : ∀ x ∈ o, x < l.length) (hlen : o.length = l.length) : setO o = allN l :=
  memb_full h10 (setO_all hl) (by rw [setO_len h10 hn hl, hlen])

theorem most_le {l : List Ld} (h10 : l.length ≤ 10) (f : Int → Bool) : (mostTo f (allN l + 1)).length ≤ l.length := by
  rcases most_some (f := f) (allN l + 1) with e | ⟨y, h1, h2, h3⟩
  · rw [e]
    simp
  · rw [h3]
    exact memb_le h10 h1

/-- Most takes all boxes just if all of them stand. -/
theorem most_full {l : List Ld} (h10 : l.length ≤ 10) {q : Int} : (mostTo (standsTo l q (allN l + 1)) (allN l + 1)).length = l.length ↔ standsTo l q (allN l + 1) ((allN l : Nat) : Int) = true := by
  constructor
  · intro h
    rcases most_some (f := standsTo l q (allN l + 1)) (allN l + 1) with e | ⟨y, h1, h2, h3⟩
    · rw [e] at h
      have e0 : allN l = 0 := by
        unfold allN
        rw [← h]
        rfl
      rw [e0]
      exact stands_zero 1
    · rw [h3] at h
      have e := memb_full h10 h1 h
      rw [e] at h2
      exact h2
  · intro h
    have h1 := most_ge (allN l + 1) (allN l) (Nat.lt_succ_self _) h
    rw [memb_all h10] at h1
    have h2 := most_le h10 (standsTo l q (allN l + 1))
    omega

theorem idx_at {m : List Nat} {x : Nat} (h : x ∈ m) : m[m.idxOf x]? = some x := by
  have h1 := List.idxOf_lt_length_of_mem h
  rw [List.getElem?_eq_getElem h1, List.getElem_idxOf]

/-- What Most picks has an order. -/
theorem most_order {l : List Ld} (h10 : l.length ≤ 10) {q : Int} {m : List Nat} (hm : mostTo (standsTo l q (allN l + 1)) (allN l + 1) = m) :
    m.Nodup ∧ (∀ i ∈ m, i < l.length) ∧ standsTo (pickL l m) q (allN (pickL l m) + 1) ((allN (pickL l m) : Nat) : Int) = true := by
  rcases most_some (f := standsTo l q (allN l + 1)) (allN l + 1) with e | ⟨y, h1, h2, h3⟩
  · rw [e] at hm
    subst hm
    exact ⟨List.nodup_nil, by simp, stands_zero 1⟩
  · have hK : allN l + 1 ≤ 1024 := by
      rw [allN_succ]
      exact Nat.pow_le_pow_right (n := 2) (by decide) h10
    obtain ⟨a1, a2, a3, a4, _⟩ := order_good h10 hK y h1 h2
    generalize orderL l q (standsTo l q (allN l + 1)) y = o at a1 a2 a3 a4
    rw [h3] at hm
    have hy : setO o = y := set_of_mem (by omega) a1 a2
    have hp : m.Perm o := by
      rw [← hm, ← hy]
      exact memb_perm a1 (fun x hx => Nat.lt_of_lt_of_le (a3 x hx) h10)
    have hmn : m.Nodup := hp.nodup_iff.2 a1
    have hml : ∀ i ∈ m, i < l.length := fun i hi => a3 i (hp.mem_iff.1 hi)
    refine ⟨hmn, hml, ?_⟩
    have hin : ∀ x ∈ o, m[m.idxOf x]? = some x := fun x hx => idx_at (hp.mem_iff.2 hx)
    have hpl := pickL_len l m
    have hml10 : m.length ≤ l.length := by
      rw [← hm]
      exact memb_le h10 h1
    have b1 : (o.map (fun x => m.idxOf x)).Nodup := by
      unfold List.Nodup
      rw [List.pairwise_map]
      refine List.Pairwise.imp_of_mem (fun {a b} ha hb hab e => hab ?_) a1
      have ea := hin a ha
      have eb := hin b hb
      rw [e, eb] at ea
      injection ea with ea
      exact ea.symm
    have b2 : ∀ i ∈ o.map (fun x => m.idxOf x), i < (pickL l m).length := by
      intro i hi
      obtain ⟨x, hx, rfl⟩ := List.mem_map.1 hi
      rw [hpl]
      exact List.idxOf_lt_length_of_mem (hp.mem_iff.2 hx)
    have b3 : pickL (pickL l m) (o.map (fun x => m.idxOf x)) = pickL l o := by
      unfold pickL
      rw [List.map_map]
      refine List.map_congr_left (fun x hx => ?_)
      show (m.map _).getD (m.idxOf x) _ = _
      rw [List.getD_eq_getElem?_getD, List.getElem?_map, hin x hx]
      rfl
    have b4 : standB (pickL l m) q (o.map (fun x => m.idxOf x)) = true := by
      rw [← weak_pick, b3, weak_pick]
      exact a4
    have hq10 : (pickL l m).length ≤ 10 := by omega
    have hs := stack_set hq10 b1 b2 b4
    rw [full_set hq10 b1 b2 (by rw [List.length_map, hpl, hp.length_eq])] at hs
    exact hs

/-- An order of all boxes that stands is not smaller than that of Order. -/
theorem order_least {l : List Ld} (h10 : l.length ≤ 10) {q : Int} {o : List Nat} (hn : o.Nodup) (hl : ∀ x ∈ o, x < l.length) (hlen : o.length = l.length) (hs : standB l q o = true) :
    standsTo l q (allN l + 1) ((allN l : Nat) : Int) = true ∧ lexI (intsN o) (intsN (orderL l q (standsTo l q (allN l + 1)) (allN l))) = false := by
  have hK : allN l + 1 ≤ 1024 := by
    rw [allN_succ]
    exact Nat.pow_le_pow_right (n := 2) (by decide) h10
  have e := full_set h10 hn hl hlen
  have h1 := stack_set h10 hn hl hs
  rw [e] at h1
  refine ⟨h1, (order_good h10 hK (allN l) (Nat.lt_succ_self _) h1).2.2.2.2 o hn (fun i => ?_) hl hs⟩
  rw [← e, setO_bit hn]
  simp

end Go.Proofs.Ytcdilmagcdbogaa

namespace Go.Proofs.Ytcdilmagcdbogaa
set_option linter.unusedVariables false
set_option linter.unusedSimpArgs false
open Go.RowKit

/-- What is asked of a step of a table, besides the first one's day. -/
def okS (t : List Stp) (k : Nat) (s : Stp) : Prop := (0 ≤ s.day ∧ s.day ≤ 10000) ∧ (0 ≤ s.keep ∧ s.keep ≤ 1000) ∧ ∀ p, 0 < k → t[k - 1]? = some p → p.day < s.day ∧ s.keep ≤ p.keep

def prevS (d kk : Int) (l : List Stp) (k : Nat) : Stp := if k = 0 then ⟨d, kk⟩ else l.getD (k - 1) ⟨0, 0⟩

theorem prevS_zero (d kk : Int) (l : List Stp) : prevS d kk l 0 = ⟨d, kk⟩ := rfl

theorem chain_iff : ∀ (l : List Stp) (d kk : Int), chainL d kk l = true ↔ ∀ (k : Nat) (s : Stp), l[k]? = some s → (prevS d kk l k).day < s.day ∧ s.day ≤ 10000 ∧ 0 ≤ s.keep ∧ s.keep ≤ (prevS d kk l k).keep
  | [], d, kk => by simp [chainL]
  | x :: l, d, kk => by
    have ih := chain_iff l x.day x.keep
    have hp : ∀ k, prevS d kk (x :: l) (k + 1) = prevS x.day x.keep l k := fun k => by
      unfold prevS
      cases k with
      | zero => simp
      | succ k => simp
    constructor
    · intro h k s hs
      simp only [chainL, inB, in1, List.all_cons, List.all_nil, Bool.and_true, Bool.and_eq_true, decide_eq_true_eq] at h
      obtain ⟨⟨⟨h1, h2⟩, h3, h4⟩, h5⟩ := h
      cases k with
      | zero =>
        simp at hs
        subst hs
        rw [prevS_zero]
        dsimp only
        exact ⟨by omega, by omega, by omega, by omega⟩
      | succ k =>
        rw [hp]
        exact ih.1 h5 k s (by simpa using hs)
    · intro h
      have h0 := h 0 x rfl
      rw [prevS_zero] at h0
      dsimp only at h0
      have h5 := ih.2 (fun k s hs => by
        have := h (k + 1) s (by simpa using hs)
        rwa [hp] at this)
      simp only [chainL, inB, in1, List.all_cons, List.all_nil, Bool.and_true, Bool.and_eq_true, decide_eq_true_eq]
      exact ⟨⟨⟨by omega, by omega⟩, by omega, by omega⟩, h5⟩

theorem prevS_at {d kk : Int} {l : List Stp} {k : Nat} (h0 : 0 < k) {p : Stp} (hp : l[k - 1]? = some p) : prevS d kk l k = p := by
  unfold prevS
  rw [if_neg (by omega), List.getD_eq_getElem?_getD, hp]
  rfl

theorem chain_ok {t : List Stp} (h : chainL (-1) 1000 t = true) {k : Nat} {s : Stp} (hs : t[k]? = some s) : okS t k s := by
  have h1 := (chain_parts t _ _ h).1 s (List.mem_of_getElem? hs)
  have h2 := (chain_iff t _ _).1 h k s hs
  refine ⟨by omega, by omega, fun p h0 hp => ?_⟩
  rw [prevS_at h0 hp] at h2
  omega

theorem chain_of {t : List Stp} (h : ∀ (k : Nat) (s : Stp), t[k]? = some s → okS t k s) : chainL (-1) 1000 t = true := by
  refine (chain_iff t _ _).2 (fun k s hs => ?_)
  obtain ⟨h1, h2, h3⟩ := h k s hs
  rcases Nat.eq_zero_or_pos k with rfl | h0
  · rw [prevS_zero]
    dsimp only
    omega
  · have hlt := (List.getElem?_eq_some_iff.1 hs).1
    obtain ⟨p, hp⟩ : ∃ p, t[k - 1]? = some p := ⟨t[k - 1]'(by omega), by simp⟩
    rw [prevS_at h0 hp]
    have := h3 p h0 hp
    omega

set_option maxRecDepth 100000 in
set_option maxHeartbeats 4000000 in
theorem refTable_any (t : List Stp) (d : Bool) (hd : tableL t = d) (ta : Option Addr) (tc : Nat) (w : World) (rt : TRow w ta t) :
    Calls Try.prog 92 #[.slice ta t.length tc] w fun e w' => e = .returned (.bool d) ∧ Gr w w' := by
  have ht0 := rt.1
  cases c : in1 1 10 (t.length : Int) with
  | false =>
    have E := Lib.hid (show d = false by
      rw [← hd]
      unfold tableL
      simp only [inB, List.all_cons, List.all_nil, Bool.and_true, c, Bool.false_and])
    clear hd
    go_enter Try.func92, Try.ntmps92
    go_wp2_with (go_at_call 27; refine (refIn_any (t.length : Int) 1 10 false c _).mono ?_; rintro e w1 ⟨rfl, g1⟩)
    go_ret
    exact ⟨ret_bool E.out.symm, g1⟩
  | true =>
    have hlen : 1 ≤ t.length ∧ t.length ≤ 10 := by simp [in1] at c; omega
    obtain ⟨⟨s0, k0⟩, hx0⟩ : ∃ x, t[0]? = some x := ⟨t[0]'(by omega), by simp⟩
    obtain ⟨b0, o0, ea0, _, p0, _⟩ := TRow.get rt hx0
    dsimp only at p0
    rw [Nat.zero_mul, Nat.add_zero] at p0
    have hlt0 : 0 < t.length := by omega
    by_cases h0 : s0 = 0
    · have hT : tableL t = chainL (-1) 1000 t := by
        cases ht : t with
        | nil => rw [ht] at hlen; simp at hlen
        | cons y ys =>
          rw [ht] at hx0 c
          simp at hx0
          unfold tableL
          simp only [inB, List.all_cons, List.all_nil, Bool.and_true, c, Bool.true_and]
          rw [hx0]
          simp [h0]
      rw [hT] at hd
      have HD := Lib.hid hd
      subst h0
      subst ea0
      clear hd hT hx0
      have HC := Lib.hid c
      clear c
      go_enter Try.func92, Try.ntmps92
      go_upto_region 3 with (go_at_call 27; refine (refIn_any (t.length : Int) 1 10 true HC.out _).mono ?_; rintro e w1 ⟨rfl, g1⟩; replace p0 := g1.keep p0)
      clear p0
      go_wp2
      go_loopw [3] (fun i wr => Hid (∃ k : Nat, k ≤ t.length ∧ i = .int .i64 k ∧ Gr w wr ∧ ∀ (j : Nat) (s : Stp), j < k → t[j]? = some s → okS t j s)) (fun i _ => t.length - (intOf i).toNat)
      case atStart => exact Lib.hid ⟨0, Nat.zero_le _, rfl, g1, fun j s hj => by omega⟩
      case round =>
        obtain ⟨k, hk, rfl, gW, hp⟩ := hrel.out
        clear hrel
        have HP := Lib.hid hp
        clear hp g1
        by_cases hlt : k < t.length
        · obtain ⟨⟨sd, sk⟩, hx⟩ : ∃ x, t[k]? = some x := ⟨t[k], by simp [hlt]⟩
          obtain ⟨b1, o1, ea, _, q0, q1⟩ := TRow.get (rt.grow gW) hx
          injection ea with ea
          injection ea with e1 e2 _
          subst e1
          subst e2
          dsimp only at q0 q1
          have HX := Lib.hid hx
          clear hx
          have bad : ¬ okS t k ⟨sd, sk⟩ → d = false := fun h => by
            rw [← HD.out]
            cases hc : chainL (-1) 1000 t with
            | false => rfl
            | true => exact absurd (chain_ok hc HX.out) h
          have good : okS t k ⟨sd, sk⟩ → ∀ (j : Nat) (s : Stp), j < k + 1 → t[j]? = some s → okS t j s := fun h j s hj hs => by
            rcases Nat.lt_or_ge j k with e | e
            · exact HP.out j s e hs
            · obtain rfl : j = k := by omega
              have := HX.out
              rw [hs] at this
              cases this
              exact h
          have HI1 := Lib.hid (fun (c0 : Bool) (h : in1 0 10000 sd = c0) (W' : World) => refIn_any sd 0 10000 c0 h W')
          have HI2 := Lib.hid (fun (c0 : Bool) (h : in1 0 1000 sk = c0) (W' : World) => refIn_any sk 0 1000 c0 h W')
          have y0 := From.keep q0
          have y1 := From.keep q1
          cases c0 : in1 0 10000 sd with
          | false =>
            have E := Lib.hid (bad (fun h => by
              have h1 := h.1
              simp [in1] at c0
              dsimp only at h1
              omega))
            have C0 := Lib.hid (fun W' => HI1.out false c0 W')
            clear bad good c0 HI1 HI2 q0 q1
            go_upto_region 6 with fail
            refine wp_region_gr (by kernel_rfl) (by kernel_rfl) ?_
            repeat (go_big_quiet_step (first
              | (go_at_call 27; (with_reducible exact Calls.gr (C0.out _)))))
            refine wpQuiet_nil ?_
            rintro _ ⟨u, rfl⟩
            clear y0 y1
            go_wp2
            go_ret
            exact ⟨ret_bool E.out.symm, gW.tr u.property⟩
          | true =>
            have C0 := Lib.hid (fun W' => HI1.out true c0 W')
            cases c1 : in1 0 1000 sk with
            | false =>
              have E := Lib.hid (bad (fun h => by
                have h1 := h.2.1
                simp [in1] at c1
                dsimp only at h1
                omega))
              have C1 := Lib.hid (fun W' => HI2.out false c1 W')
              clear bad good c0 c1 HI1 HI2 q0 q1
              go_upto_region 6 with fail
              refine wp_region_gr (by kernel_rfl) (by kernel_rfl) ?_
              repeat (go_big_quiet_step (first
                | (go_at_call 27; (with_reducible exact Calls.gr (C0.out _)))
                | (go_at_call 27; (with_reducible exact Calls.gr (C1.out _)))))
              refine wpQuiet_nil ?_
              rintro _ ⟨u, rfl⟩
              clear y0 y1
              go_wp2
              go_ret
              exact ⟨ret_bool E.out.symm, gW.tr u.property⟩
            | true =>
              have C1 := Lib.hid (fun W' => HI2.out true c1 W')
              by_cases hk0 : k = 0
              · have HG := Lib.hid (good ⟨by simp [in1] at c0; dsimp only; omega, by simp [in1] at c1; dsimp only; omega, fun p h0 => by omega⟩)
                subst hk0
                simp only [Nat.zero_mul, Nat.add_zero] at y0 y1
                clear bad good c0 c1 HI1 HI2 q0 q1
                go_upto_region 6 with fail
                refine wp_region_gr (by kernel_rfl) (by kernel_rfl) ?_
                repeat (go_big_quiet_step (first
                  | (go_at_call 27; (with_reducible exact Calls.gr (C0.out _)))
                  | (go_at_call 27; (with_reducible exact Calls.gr (C1.out _)))))
                refine wpQuiet_nil ?_
                rintro _ ⟨u, rfl⟩
                clear y0 y1
                go_wp2
                go_roundw
                case rel => exact Lib.hid ⟨0 + 1, by omega, by go_num, gW.tr u.property, HG.out⟩
                case measure => simp [intOf]; omega
              · obtain ⟨P, hP⟩ : ∃ P, k = P + 1 := ⟨k - 1, by omega⟩
                have hkp : (0 : Int) < (k : Int) := by omega
                have hkn : 0 < k := by omega
                have hPt : P < t.length := by omega
                obtain ⟨⟨pd, pk⟩, hy⟩ : ∃ x, t[P]? = some x := ⟨t[P], by simp [hPt]⟩
                obtain ⟨b2, o2, ea, _, q2, q3⟩ := TRow.get (rt.grow gW) hy
                injection ea with ea
                injection ea with e1 e2 _
                subst e1
                subst e2
                dsimp only at q2 q3
                have y2 := From.keep q2
                have y3 := From.keep q3
                have zk : IntKind.i64.wrap ((k : Int) - 1) = (P : Int) := by rw [show (k : Int) - 1 = (P : Int) by omega]; exact IntWalk.i64_in _ (by omega)
                have hy2 : t[k - 1]? = some ⟨pd, pk⟩ := by rw [hP]; exact hy
                by_cases h2 : sd ≤ pd
                · have E := Lib.hid (bad (fun h => by
                    have := h.2.2 _ (by omega) hy2
                    dsimp only at this
                    omega))
                  clear bad good c0 c1 HI1 HI2 q0 q1 q2 q3 hP hy hy2 hk0
                  go_upto_region 6 with fail
                  refine wp_region_gr (by kernel_rfl) (by kernel_rfl) ?_
                  repeat (go_big_quiet_step (first
                    | (go_at_call 27; (with_reducible exact Calls.gr (C0.out _)))
                    | (go_at_call 27; (with_reducible exact Calls.gr (C1.out _)))))
                  refine wpQuiet_nil ?_
                  rintro _ ⟨u, rfl⟩
                  clear y0 y1 y2 y3
                  go_wp2
                  go_ret
                  exact ⟨ret_bool E.out.symm, gW.tr u.property⟩
                · by_cases h3 : pk < sk
                  · have E := Lib.hid (bad (fun h => by
                      have := h.2.2 _ (by omega) hy2
                      dsimp only at this
                      omega))
                    have h2' : decide (sd ≤ pd) = false := by simpa using h2
                    clear bad good c0 c1 HI1 HI2 q0 q1 q2 q3 hP hy hy2 hk0
                    go_upto_region 6 with fail
                    refine wp_region_gr (by kernel_rfl) (by kernel_rfl) ?_
                    repeat (go_big_quiet_step (first
                      | (go_at_call 27; (with_reducible exact Calls.gr (C0.out _)))
                      | (go_at_call 27; (with_reducible exact Calls.gr (C1.out _)))))
                    refine wpQuiet_nil ?_
                    rintro _ ⟨u, rfl⟩
                    clear y0 y1 y2 y3
                    go_wp2
                    go_ret
                    exact ⟨ret_bool E.out.symm, gW.tr u.property⟩
                  · have HG := Lib.hid (good ⟨by simp [in1] at c0; dsimp only; omega, by simp [in1] at c1; dsimp only; omega, fun p h0 hp => by
                      rw [hy2] at hp
                      cases hp
                      dsimp only
                      omega⟩)
                    have h2' : decide (sd ≤ pd) = false := by simpa using h2
                    have h3' : decide (pk < sk) = false := by simpa using h3
                    clear bad good c0 c1 HI1 HI2 q0 q1 q2 q3 hP hy hy2 hk0
                    go_upto_region 6 with fail
                    refine wp_region_gr (by kernel_rfl) (by kernel_rfl) ?_
                    repeat (go_big_quiet_step (first
                      | (go_at_call 27; (with_reducible exact Calls.gr (C0.out _)))
                      | (go_at_call 27; (with_reducible exact Calls.gr (C1.out _)))))
                    refine wpQuiet_nil ?_
                    rintro _ ⟨u, rfl⟩
                    clear y0 y1 y2 y3
                    go_wp2
                    go_roundw
                    case rel => exact Lib.hid ⟨k + 1, by omega, by go_num, gW.tr u.property, HG.out⟩
                    case measure => simp [intOf]; omega
        · obtain rfl : k = t.length := by omega
          have E := Lib.hid (show d = true by
            rw [← HD.out]
            exact chain_of (fun k s hs => HP.out k s (List.getElem?_eq_some_iff.1 hs).1 hs))
          clear hlt hk
          go_wp2
          go_ret
          exact ⟨ret_bool E.out.symm, gW⟩
    · have E := Lib.hid (show d = false by
        rw [← hd]
        cases ht : t with
        | nil => rw [ht] at hlen; simp at hlen
        | cons y ys =>
          rw [ht] at hx0
          simp at hx0
          unfold tableL
          rw [hx0]
          simp [h0])
      have h0' : (s0 != 0) = true := by simpa using h0
      subst ea0
      have HC := Lib.hid c
      clear hd hx0 c
      go_enter Try.func92, Try.ntmps92
      go_wp2_with (go_at_call 27; refine (refIn_any (t.length : Int) 1 10 true HC.out _).mono ?_; rintro e w1 ⟨rfl, g1⟩; replace p0 := g1.keep p0)
      go_ret
      exact ⟨ret_bool E.out.symm, g1⟩

/-- The error of a table and days. -/
def throughL (t : List Stp) (days : Int) : Int := if tableL t = false then 4 else if inB 0 10000 [days] = false then 3 else 0

set_option maxRecDepth 100000 in
theorem refThrough_any (t : List Stp) (days R : Int) (hR : throughL t days = R) (ta : Option Addr) (tc : Nat) (w : World) (rt : TRow w ta t) :
    Calls Try.prog 43 #[.slice ta t.length tc, .int .i64 days] w fun e w' => e = .returned (.int .i64 R) ∧ Gr w w' := by
  unfold throughL at hR
  cases c : tableL t with
  | false =>
    obtain rfl : R = 4 := by rw [← hR, if_pos c]
    have H1 := Lib.hid (refTable_any t false c ta tc w rt)
    clear hR c
    go_enter Try.func43, Try.ntmps43
    go_wp2_with (go_at_call 92; refine H1.out.mono ?_; rintro e w1 ⟨rfl, g1⟩)
    go_ret
    exact ⟨rfl, g1⟩
  | true =>
    have H1 := Lib.hid (refTable_any t true c ta tc w rt)
    rw [if_neg (by rw [c]; decide)] at hR
    have hb : inB 0 10000 [days] = in1 0 10000 days := by simp [inB]
    rw [hb] at hR
    cases c1 : in1 0 10000 days with
    | false =>
      obtain rfl : R = 3 := by rw [← hR, if_pos c1]
      have H2 := Lib.hid (fun W' => refIn_any days 0 10000 false c1 W')
      clear hR c hb c1
      go_enter Try.func43, Try.ntmps43
      go_wp2_with (first
        | (go_at_call 92; refine H1.out.mono ?_; rintro e w1 ⟨rfl, g1⟩)
        | (go_at_call 27; refine (H2.out _).mono ?_; rintro e w2 ⟨rfl, g2⟩))
      go_ret
      exact ⟨rfl, g1.tr g2⟩
    | true =>
      obtain rfl : R = 0 := by rw [← hR, if_neg (by rw [c1]; decide)]
      have H2 := Lib.hid (fun W' => refIn_any days 0 10000 true c1 W')
      clear hR c hb c1
      go_enter Try.func43, Try.ntmps43
      go_wp2_with (first
        | (go_at_call 92; refine H1.out.mono ?_; rintro e w1 ⟨rfl, g1⟩)
        | (go_at_call 27; refine (H2.out _).mono ?_; rintro e w2 ⟨rfl, g2⟩))
      go_ret
      exact ⟨rfl, g1.tr g2⟩

set_option maxRecDepth 100000 in
set_option maxHeartbeats 2000000 in
theorem refStacks_any (l : List Ld) (a b : Option Addr) (c d : Nat) (w : World) (hl : LRow w a l) (hm : LRow w b l) :
    Calls Try.prog 39 #[.slice a l.length c, .slice b l.length d] w fun e w' => e = .returned (.bool true) ∧ Gr w w' := by
  have h0 := hl.1
  go_enter Try.func39, Try.ntmps39
  go_wp2
  go_loopw [5] (fun i wr => Hid (∃ k : Nat, k ≤ l.length ∧ i = .int .i64 k ∧ Gr w wr)) (fun i _ => l.length - (intOf i).toNat)
  case atStart => exact Lib.hid ⟨0, Nat.zero_le _, rfl, Below.refl _ _⟩
  case round =>
    obtain ⟨k, hk, rfl, gW⟩ := hrel.out
    clear hrel
    by_cases hlt : k < l.length
    · obtain ⟨⟨sl, sh, wl, wh⟩, hx⟩ : ∃ x, l[k]? = some x := ⟨l[k], by simp [hlt]⟩
      obtain ⟨b1, o1, rfl, _, q0, q1, q2, q3⟩ := LRow.get (hl.grow gW) hx
      obtain ⟨b2, o2, rfl, _, r0, r1, r2, r3⟩ := LRow.get (hm.grow gW) hx
      dsimp only at q0 q1 q2 q3 r0 r1 r2 r3
      clear hx
      go_upto_region 6 with fail
      go_quiet (fail)
      go_wp2
      go_roundw
      case rel => exact Lib.hid ⟨k + 1, by omega, by go_num, Gr.drewN gW _⟩
      case measure => simp [intOf]; omega
    · obtain rfl : k = l.length := by omega
      go_wp2
      go_ret
      exact ⟨rfl, gW⟩

set_option maxRecDepth 100000 in
set_option maxHeartbeats 2000000 in
theorem refTables_any (l : List Stp) (a b : Option Addr) (c d : Nat) (w : World) (hl : TRow w a l) (hm : TRow w b l) :
    Calls Try.prog 40 #[.slice a l.length c, .slice b l.length d] w fun e w' => e = .returned (.bool true) ∧ Gr w w' := by
  have h0 := hl.1
  go_enter Try.func40, Try.ntmps40
  go_wp2
  go_loopw [5] (fun i wr => Hid (∃ k : Nat, k ≤ l.length ∧ i = .int .i64 k ∧ Gr w wr)) (fun i _ => l.length - (intOf i).toNat)
  case atStart => exact Lib.hid ⟨0, Nat.zero_le _, rfl, Below.refl _ _⟩
  case round =>
    obtain ⟨k, hk, rfl, gW⟩ := hrel.out
    clear hrel
    by_cases hlt : k < l.length
    · obtain ⟨⟨sd, sk⟩, hx⟩ : ∃ x, l[k]? = some x := ⟨l[k], by simp [hlt]⟩
      obtain ⟨b1, o1, rfl, _, q0, q1⟩ := TRow.get (hl.grow gW) hx
      obtain ⟨b2, o2, rfl, _, r0, r1⟩ := TRow.get (hm.grow gW) hx
      dsimp only at q0 q1 r0 r1
      clear hx
      go_upto_region 6 with fail
      go_quiet (fail)
      go_wp2
      go_roundw
      case rel => exact Lib.hid ⟨k + 1, by omega, by go_num, Gr.drewN gW _⟩
      case measure => simp [intOf]; omega
    · obtain rfl : k = l.length := by omega
      go_wp2
      go_ret
      exact ⟨rfl, gW⟩

end Go.Proofs.Ytcdilmagcdbogaa

namespace Go.Proofs.Ytcdilmagcdbogaa
set_option linter.unusedVariables false
set_option linter.unusedSimpArgs false
open Go.RowKit

set_option maxRecDepth 100000 in
set_option maxHeartbeats 400000 in
/-- A copy of a table, also of an empty one. -/
theorem lsteps_gen (l : List Stp) (hl : l.length ≤ 1000) (a : Option Addr) (cap : Nat) (w : World) (hr : TRow w a l) :
    Calls Try.prog 36 #[.slice a l.length cap] w fun e w' => ∃ a' cap', e = .returned (.slice a' l.length cap') ∧ TRow w' a' l ∧ l.length ≤ cap' ∧ Gr w w' := by
  rcases Nat.eq_zero_or_pos l.length with h0 | h0
  · obtain rfl : l = [] := List.eq_nil_of_length_eq_zero h0
    cases a with
    | none =>
      go_enter Try.func36, Try.ntmps36
      go_wp2
      go_ret
      exact ⟨some ⟨w.heap.size, 0, none⟩, 0, rfl, RowOf.nil, Nat.le_refl _, Gr.al _ _⟩
    | some ad =>
      obtain ⟨i0, hi, hz0, hz1, hz2⟩ := info_parts infoSt2
      go_enter Try.func36, Try.ntmps36
      go_wp2_with (at_builtin; refine wpList_append_own _ rfl _ _ 54 rfl w.heap.size 138 i0 _ 2 16 Try.underlying54 hi hz0 hz1 hz2 rfl (by decide) _ _ _ rfl (owns_empty w _ _) ad 0 cap [] rfl rfl (fun j u h => by simp at h) (fun u h => by cases h) (by decide) (by decide) (by simp) ?_; intro v' w1 hown hgrow _)
      obtain ⟨a', cap', hv, hr2, hn2, hc2⟩ := owns_row_cap (enc := encT) (l := []) (fun _ => rfl) (by simp) (by simpa using hown)
      subst hv
      have Hr2 := Lib.hid hr2
      have Hn2 := Lib.hid hn2
      clear hr2 hn2 hown
      go_wp2
      go_ret
      first | exact ⟨a', ⟨cap', rfl⟩, Hr2.out, (Gr.al w _).grown' (owns_empty w _ 2) (Nat.le_refl _) hgrow⟩ | exact ⟨a', cap', rfl, Hr2.out, Nat.zero_le _, (Gr.al w _).grown' (owns_empty w _ 2) (Nat.le_refl _) hgrow⟩ | exact ⟨a', cap', rfl, Hr2.out, (Gr.al w _).grown' (owns_empty w _ 2) (Nat.le_refl _) hgrow⟩
  · obtain ⟨b, off, e, _⟩ := hr.addr h0
    subst e
    refine (lsteps_any l hl b off cap w hr).mono ?_
    rintro e w' ⟨v, rfl, ho, hg⟩
    obtain ⟨a', cp, hv, hr2, _, hc2⟩ := owns_row_cap (enc := encT) (l := l) (fun _ => rfl) (by omega) ho
    exact ⟨a', cp, by rw [hv], hr2, hc2, hg⟩

set_option maxRecDepth 100000 in
set_option maxHeartbeats 2000000 in
/-- High of what is not valid. -/
theorem high_err (x : Ld) (t : List Stp) (days R : Int) (hs : storedL 1 [x] t days = R) (hR : R ≠ 0) (c : Option Addr) (cc : Nat) (w : World) (ht : TRow w c t) :
    Calls Try.prog 45 #[.agg #[.int .i64 x.sl, .int .i64 x.sh, .int .i64 x.wl, .int .i64 x.wh], .slice c t.length cc, .int .i64 days] w fun e w' => e = .returned (.tuple #[.int .i64 0, .int .i64 R]) ∧ Gr w w' := by
  have HS := Lib.hid hs
  clear hs
  have hne : (R != 0) = true := by simpa using hR
  go_enter Try.func45, Try.ntmps45
  go_upto_region 2 with fail
  have gU := (Gr.al w (.cells #[.int .i64 x.sl, .int .i64 x.sh, .int .i64 x.wl, .int .i64 x.wh] 70)).tr ((Gr.al _ (.cells #[.int .i64 x.sl, .int .i64 x.sh, .int .i64 x.wl, .int .i64 x.wh] 70)).tr (Gr.al _ (.cells #[.slice (some ⟨w.heap.size + 1, 0, none⟩) 1 1] 53)))
  have oB := (Own.new (w.alloc (.cells #[.int .i64 x.sl, .int .i64 x.sh, .int .i64 x.wl, .int .i64 x.wh] 70)) [.int .i64 x.sl, .int .i64 x.sh, .int .i64 x.wl, .int .i64 x.wh] 70 (w.heap.size + 1) (by simp)).keep (Gr.al _ (.cells #[.slice (some ⟨w.heap.size + 1, 0, none⟩) 1 1] 53))
  have o8 := Own.new ((w.alloc (.cells #[.int .i64 x.sl, .int .i64 x.sh, .int .i64 x.wl, .int .i64 x.wh] 70)).alloc (.cells #[.int .i64 x.sl, .int .i64 x.sh, .int .i64 x.wl, .int .i64 x.wh] 70)) [.slice (some ⟨w.heap.size + 1, 0, none⟩) 1 1] 53 (w.heap.size + 1 + 1) (by simp)
  refine wp_abs (fun U => Gr w U ∧ Own U (w.heap.size + 1) [.int .i64 x.sl, .int .i64 x.sh, .int .i64 x.wl, .int .i64 x.wh] ∧ Own U (w.heap.size + 1 + 1) [.slice (some ⟨w.heap.size + 1, 0, none⟩) 1 1]) ⟨gU, oB, o8⟩ ?_
  clear gU oB o8
  rintro U ⟨gU, oB, o8⟩
  have rB : LRow U (some ⟨w.heap.size + 1, 0, none⟩) [x] := by
    refine ⟨by simp, fun j y hy => ?_⟩
    have hj : j = 0 := by
      have := (List.getElem?_eq_some_iff.1 hy).1
      simpa using this
    subst hj
    have ey : x = y := by simpa using hy
    subst ey
    exact ⟨_, _, rfl, oB.1.1, fun i v hv => by simpa using oB.1.2 i v hv⟩
  have q8 := o8.1.c1
  have cS := stored_any 1 [x] t days (some ⟨w.heap.size + 1, 0, none⟩) c 1 cc U rB (ht.grow gU)
  rw [HS.out] at cS
  have CS := Lib.hid cS
  have GU := Lib.hid gU
  clear cS oB o8 rB gU
  go_wp2_with (go_at_call 88; refine CS.out.mono ?_; rintro e w1 ⟨rfl, g1⟩)
  go_ret2
  exact ⟨rfl, GU.out.tr g1⟩

theorem stored_split (x : Ld) (t : List Stp) (days : Int) (most : Int) (l : List Ld) : storedL most l t days = if boxedL most l = 0 then throughL t days else boxedL most l := rfl

theorem row_one {U : World} {b : Nat} {x : Ld} (oB : Box U b [.int .i64 x.sl, .int .i64 x.sh, .int .i64 x.wl, .int .i64 x.wh]) : LRow U (some ⟨b, 0, none⟩) [x] := by
  refine ⟨by simp, fun j y hy => ?_⟩
  have hj : j = 0 := by
    have := (List.getElem?_eq_some_iff.1 hy).1
    simpa using this
  subst hj
  have ey : x = y := by simpa using hy
  subst ey
  exact ⟨_, _, rfl, oB.1, fun i v hv => by simpa using oB.2 i v hv⟩

/-- How many stand, by both. -/
theorem high_same {x : Ld} (hx : LdOk x) {t : List Stp} {days : Int} (h : TabOk t days) {r : Int} (r0 : 0 ≤ r) (r1 : r ≤ 50) (h1 : ∀ a, 0 ≤ a → a < r → decide (x.sl * lastL t days / 1000 < x.wh * a) = false) (h2 : ∀ a, r ≤ a → a < 50 → decide (x.sl * lastL t days / 1000 < x.wh * a) = true) : r = ((hiTo (stB x t days) 50 : Nat) : Int) := by
  have e := hiTo_is (p := stB x t days) (r := r.toNat) (fun a ha => by
    have := h1 (a : Int) (by omega) (by omega)
    rw [stB_is hx h a]
    simpa using this) 50 (fun a ha ha2 => by
    have := h2 (a : Int) (by omega) (by omega)
    rw [stB_is hx h a]
    simpa using this)
  rw [e]
  omega

set_option maxRecDepth 100000 in
set_option maxHeartbeats 4000000 in
theorem crushHighs_any (x : Ld) (t : List Stp) (days : Int) (ta : Option Addr) (tc : Nat) (w : World) (rt : TRow w ta t) :
    Calls Try.prog 7 #[.agg #[.int .i64 x.sl, .int .i64 x.sh, .int .i64 x.wl, .int .i64 x.wh], .slice ta t.length tc, .int .i64 days] w fun e w' => e = .returned (.bool true) ∧ Gr w w' := by
  have gg := Gr.al w (.cells #[.int .i64 x.sl, .int .i64 x.sh, .int .i64 x.wl, .int .i64 x.wh] 70)
  have hb := Box.new w [.int .i64 x.sl, .int .i64 x.sh, .int .i64 x.wl, .int .i64 x.wh] 70 w.heap.size rfl
  have ht0 := rt.1
  by_cases h15 : 15 < t.length
  · have d0 : decide ((15 : Int) < (t.length : Int)) = true := by simp; omega
    go_enter Try.func7, Try.ntmps7
    go_wp2_with (go_at_call 18; refine (known_any _).mono ?_; rintro e w6 ⟨rfl, g6⟩)
    go_ret
    exact ⟨rfl, gg.tr g6⟩
  · have d0 : decide ((15 : Int) < (t.length : Int)) = false := by simp; omega
    have t15 : t.length ≤ 15 := by omega
    clear h15
    have HSp : Hid (∀ (W' : World), Gr w W' → Calls Try.prog 36 #[.slice ta t.length tc] W' fun e w' => ∃ a cp, e = .returned (.slice a t.length cp) ∧ TRow w' a t ∧ t.length ≤ cp ∧ Gr W' w') := Lib.hid (fun W' g => lsteps_gen t (by omega) ta tc W' (rt.grow g))
    have HTb : Hid (∀ (a : Option Addr) (c : Nat) (W' : World), TRow W' a t → Gr w W' → Calls Try.prog 40 #[.slice a t.length c, .slice ta t.length tc] W' fun e w' => e = .returned (.bool true) ∧ Gr W' w') := Lib.hid (fun a c W' hr g => refTables_any t a ta c tc W' hr (rt.grow g))
    obtain ⟨R1, hR1⟩ : ∃ R, boxedL 1 [x] = R := ⟨_, rfl⟩
    obtain ⟨R2, hR2⟩ : ∃ R, throughL t days = R := ⟨_, rfl⟩
    have hS := stored_split x t days 1 [x]
    rw [hR1, hR2] at hS
    have HSt : Hid (∀ (W' : World), Calls Try.prog 41 #[.slice (some ⟨W'.heap.size, 0, none⟩) 1 1, .int .i64 1] (W'.alloc (.cells #[.int .i64 x.sl, .int .i64 x.sh, .int .i64 x.wl, .int .i64 x.wh] 70)) fun e w' => e = .returned (.int .i64 R1) ∧ Gr W' w') := Lib.hid (fun W' => by
      have := refStack_any 1 [x] R1 hR1 (some ⟨W'.heap.size, 0, none⟩) 1 _ (row_one (Box.new W' [.int .i64 x.sl, .int .i64 x.sh, .int .i64 x.wl, .int .i64 x.wh] 70 W'.heap.size rfl))
      exact this.mono (fun e w' ⟨h1, h2⟩ => ⟨h1, (Gr.al W' _).tr h2⟩))
    have HTh : Hid (∀ (W' : World), Gr w W' → Calls Try.prog 43 #[.slice ta t.length tc, .int .i64 days] W' fun e w' => e = .returned (.int .i64 R2) ∧ Gr W' w') := Lib.hid (fun W' g => refThrough_any t days R2 hR2 ta tc W' (rt.grow g))
    obtain ⟨q0, q1, q2, q3⟩ := hb.c4'
    by_cases h1 : R1 = 0
    · rw [if_pos h1] at hS
      subst h1
      by_cases h2 : R2 = 0
      · subst h2
        obtain ⟨⟨_, hl⟩, hT⟩ := stored_parts hS
        have hx := (hl x (by simp)).1
        have hTS : TabS t days := ⟨hT, table_strict (by
          unfold throughL at hR2
          cases c : tableL t with
          | true => rfl
          | false => rw [c] at hR2; simp at hR2)⟩
        obtain ⟨k0, k1⟩ := last_bd hT
        have HHi : Hid (∀ (a : Option Addr) (c : Nat) (W' : World), TRow W' a t → t.length ≤ c → Calls Try.prog 45 #[.agg #[.int .i64 x.sl, .int .i64 x.sh, .int .i64 x.wl, .int .i64 x.wh], .slice a t.length c, .int .i64 days] W' fun e w' => e = .returned (.tuple #[.int .i64 ((hiTo (stB x t days) 50 : Nat) : Int), .int .i64 0]) ∧ Gr W' w') := Lib.hid (fun a c W' hr hc => by
          refine (high_ok x hx t days hS (by omega) hT.day (until_pos hT) (until_len t days) k0 k1 a c hc W' hr).mono ?_
          rintro e w' ⟨r, rfl, r0, r1, h1, h2, g⟩
          exact ⟨by rw [high_same hx hT r0 r1 h1 h2], g⟩)
        have HRH : Hid (∀ (W' : World), Gr w W' → Calls Try.prog 46 #[.agg #[.int .i64 x.sl, .int .i64 x.sh, .int .i64 x.wl, .int .i64 x.wh], .slice ta t.length tc, .int .i64 days] W' fun e w' => e = .returned (.int .i64 ((hiTo (stB x t days) 50 : Nat) : Int)) ∧ Gr W' w') := Lib.hid (fun W' g => refHigh_any x hx t days hTS ta tc W' (rt.grow g))
        obtain ⟨N, hN⟩ : ∃ N : Int, ((hiTo (stB x t days) 50 : Nat) : Int) = N := ⟨_, rfl⟩
        rw [hN] at HHi HRH
        clear hN hS hR1 hR2 hl hT hx hTS k0 k1
        go_enter Try.func7, Try.ntmps7
        go_wp2_with (first
          | (go_at_call 36; refine (HSp.out _ gg).mono ?_; rintro e w1 ⟨a1, c1, rfl, r1, hc1, g1⟩; replace hb := hb.keep g1; clear q0 q1 q2 q3; obtain ⟨q0, q1, q2, q3⟩ := hb.c4')
          | (go_at_call 45; refine (HHi.out a1 c1 _ r1 hc1).mono ?_; rintro e w2 ⟨rfl, g2⟩; replace hb := hb.keep g2; clear q0 q1 q2 q3; obtain ⟨q0, q1, q2, q3⟩ := hb.c4')
          | (go_at_call 40; refine (HTb.out a1 c1 _ (r1.grow g2) (gg.tr (g1.tr g2))).mono ?_; rintro e w3 ⟨rfl, g3⟩; replace hb := hb.keep g3; clear q0 q1 q2 q3; obtain ⟨q0, q1, q2, q3⟩ := hb.c4')
          | (go_at_call 41; refine (HSt.out w3).mono ?_; rintro e w4 ⟨rfl, g4⟩; replace hb := hb.keep g4; clear q0 q1 q2 q3; obtain ⟨q0, q1, q2, q3⟩ := hb.c4')
          | (go_at_call 43; refine (HTh.out _ (gg.tr (g1.tr (g2.tr (g3.tr g4))))).mono ?_; rintro e w5 ⟨rfl, g5⟩; replace hb := hb.keep g5; clear q0 q1 q2 q3; obtain ⟨q0, q1, q2, q3⟩ := hb.c4')
          | (go_at_call 46; refine (HRH.out _ (gg.tr (g1.tr (g2.tr (g3.tr (g4.tr g5)))))).mono ?_; rintro e w6 ⟨rfl, g6⟩)
          | (go_at_call 18; refine (known_any _).mono ?_; rintro e w7 ⟨rfl, g7⟩))
        go_ret
        exact ⟨rfl, gg.tr (g1.tr (g2.tr (g3.tr (g4.tr (g5.tr (g6.tr g7))))))⟩
      · have hne : (R2 != 0) = true := by simpa using h2
        have HHi : Hid (∀ (a : Option Addr) (c : Nat) (W' : World), TRow W' a t → Calls Try.prog 45 #[.agg #[.int .i64 x.sl, .int .i64 x.sh, .int .i64 x.wl, .int .i64 x.wh], .slice a t.length c, .int .i64 days] W' fun e w' => e = .returned (.tuple #[.int .i64 0, .int .i64 R2]) ∧ Gr W' w') := Lib.hid (fun a c W' hr => high_err x t days R2 hS h2 a c W' hr)
        clear hS hR1 hR2 h2
        go_enter Try.func7, Try.ntmps7
        go_wp2_with (first
          | (go_at_call 36; refine (HSp.out _ gg).mono ?_; rintro e w1 ⟨a1, c1, rfl, r1, hc1, g1⟩; replace hb := hb.keep g1; clear q0 q1 q2 q3; obtain ⟨q0, q1, q2, q3⟩ := hb.c4')
          | (go_at_call 45; refine (HHi.out a1 c1 _ r1).mono ?_; rintro e w2 ⟨rfl, g2⟩; replace hb := hb.keep g2; clear q0 q1 q2 q3; obtain ⟨q0, q1, q2, q3⟩ := hb.c4')
          | (go_at_call 40; refine (HTb.out a1 c1 _ (r1.grow g2) (gg.tr (g1.tr g2))).mono ?_; rintro e w3 ⟨rfl, g3⟩; replace hb := hb.keep g3; clear q0 q1 q2 q3; obtain ⟨q0, q1, q2, q3⟩ := hb.c4')
          | (go_at_call 41; refine (HSt.out w3).mono ?_; rintro e w4 ⟨rfl, g4⟩; replace hb := hb.keep g4; clear q0 q1 q2 q3; obtain ⟨q0, q1, q2, q3⟩ := hb.c4')
          | (go_at_call 43; refine (HTh.out _ (gg.tr (g1.tr (g2.tr (g3.tr g4))))).mono ?_; rintro e w5 ⟨rfl, g5⟩; replace hb := hb.keep g5; clear q0 q1 q2 q3; obtain ⟨q0, q1, q2, q3⟩ := hb.c4')
          | (go_at_call 18; refine (known_any _).mono ?_; rintro e w7 ⟨rfl, g7⟩))
        go_ret
        exact ⟨rfl, gg.tr (g1.tr (g2.tr (g3.tr (g4.tr (g5.tr g7)))))⟩
    · rw [if_neg h1] at hS
      have hne : (R1 != 0) = true := by simpa using h1
      have hne2 : (R1 == 0) = false := by simpa using h1
      have HHi : Hid (∀ (a : Option Addr) (c : Nat) (W' : World), TRow W' a t → Calls Try.prog 45 #[.agg #[.int .i64 x.sl, .int .i64 x.sh, .int .i64 x.wl, .int .i64 x.wh], .slice a t.length c, .int .i64 days] W' fun e w' => e = .returned (.tuple #[.int .i64 0, .int .i64 R1]) ∧ Gr W' w') := Lib.hid (fun a c W' hr => high_err x t days R1 hS h1 a c W' hr)
      clear hS hR1 hR2 h1
      go_enter Try.func7, Try.ntmps7
      go_wp2_with (first
        | (go_at_call 36; refine (HSp.out _ gg).mono ?_; rintro e w1 ⟨a1, c1, rfl, r1, hc1, g1⟩; replace hb := hb.keep g1; clear q0 q1 q2 q3; obtain ⟨q0, q1, q2, q3⟩ := hb.c4')
        | (go_at_call 45; refine (HHi.out a1 c1 _ r1).mono ?_; rintro e w2 ⟨rfl, g2⟩; replace hb := hb.keep g2; clear q0 q1 q2 q3; obtain ⟨q0, q1, q2, q3⟩ := hb.c4')
        | (go_at_call 40; refine (HTb.out a1 c1 _ (r1.grow g2) (gg.tr (g1.tr g2))).mono ?_; rintro e w3 ⟨rfl, g3⟩; replace hb := hb.keep g3; clear q0 q1 q2 q3; obtain ⟨q0, q1, q2, q3⟩ := hb.c4')
        | (go_at_call 41; refine (HSt.out w3).mono ?_; rintro e w4 ⟨rfl, g4⟩; replace hb := hb.keep g4; clear q0 q1 q2 q3; obtain ⟨q0, q1, q2, q3⟩ := hb.c4')
        | (go_at_call 18; refine (known_any _).mono ?_; rintro e w7 ⟨rfl, g7⟩))
      go_ret
      exact ⟨rfl, gg.tr (g1.tr (g2.tr (g3.tr (g4.tr g7))))⟩

end Go.Proofs.Ytcdilmagcdbogaa

namespace Go.Proofs.Ytcdilmagcdbogaa
set_option linter.unusedVariables false
set_option linter.unusedSimpArgs false
open Go.RowKit

set_option maxRecDepth 100000 in
set_option maxHeartbeats 400000 in
/-- A copy of boxes, also of none. -/
theorem lboxes_gen (l : List Ld) (hl : l.length ≤ 1000) (a : Option Addr) (cap : Nat) (w : World) (hr : LRow w a l) :
    Calls Try.prog 35 #[.slice a l.length cap] w fun e w' => ∃ a' cap', e = .returned (.slice a' l.length cap') ∧ LRow w' a' l ∧ l.length ≤ cap' ∧ Gr w w' := by
  rcases Nat.eq_zero_or_pos l.length with h0 | h0
  · obtain rfl : l = [] := List.eq_nil_of_length_eq_zero h0
    cases a with
    | none =>
      go_enter Try.func35, Try.ntmps35
      go_wp2
      go_ret
      exact ⟨some ⟨w.heap.size, 0, none⟩, 0, rfl, RowOf.nil, Nat.le_refl _, Gr.al _ _⟩
    | some ad =>
      obtain ⟨i0, hi, hz0, hz1, hz2⟩ := info_parts infoLd
      go_enter Try.func35, Try.ntmps35
      go_wp2_with (at_builtin; refine wpList_append_own _ rfl _ _ 53 rfl w.heap.size 70 i0 _ 4 32 Try.underlying53 hi hz0 hz1 hz2 rfl (by decide) _ _ _ rfl (owns_empty w _ _) ad 0 cap [] rfl rfl (fun j u h => by simp at h) (fun u h => by cases h) (by decide) (by decide) (by simp) ?_; intro v' w1 hown hgrow _)
      obtain ⟨a', cap', hv, hr2, hn2, hc2⟩ := owns_row_cap (enc := encL) (l := []) (fun _ => rfl) (by simp) (by simpa using hown)
      subst hv
      have Hr2 := Lib.hid hr2
      have Hn2 := Lib.hid hn2
      clear hr2 hn2 hown
      go_wp2
      go_ret
      first | exact ⟨a', ⟨cap', rfl⟩, Hr2.out, (Gr.al w _).grown' (owns_empty w _ 4) (Nat.le_refl _) hgrow⟩ | exact ⟨a', cap', rfl, Hr2.out, Nat.zero_le _, (Gr.al w _).grown' (owns_empty w _ 4) (Nat.le_refl _) hgrow⟩
  · obtain ⟨b, off, e, _⟩ := hr.addr h0
    subst e
    refine (lboxes_any l hl b off cap w hr).mono ?_
    rintro e w' ⟨v, rfl, ho, hg⟩
    obtain ⟨a', cp, hv, hr2, _, hc2⟩ := owns_row_cap (enc := encL) (l := l) (fun _ => rfl) (by omega) ho
    exact ⟨a', cp, by rw [hv], hr2, hc2, hg⟩

set_option maxRecDepth 100000 in
set_option maxHeartbeats 1000000 in
/-- Fall of what is not valid. -/
theorem fall_err (l : List Ld) (t : List Stp) (days R : Int) (hs : storedL 50 l t days = R) (hR : R ≠ 0) (a c : Option Addr) (cap cc : Nat) (w : World) (hr : LRow w a l) (ht : TRow w c t) :
    Calls Try.prog 38 #[.slice a l.length cap, .slice c t.length cc, .int .i64 days] w fun e w' => e = .returned (.tuple #[.int .i64 0, .int .i64 0, .int .i64 R]) ∧ Gr w w' := by
  have cS := stored_any 50 l t days a c cap cc w hr ht
  rw [hs] at cS
  have CS := Lib.hid cS
  clear cS hs
  have hne : (R != 0) = true := by simpa using hR
  go_enter Try.func38, Try.ntmps38
  go_wp2_with (go_at_call 88; refine CS.out.mono ?_; rintro e w1 ⟨rfl, g1⟩)
  exact bodyPost_ret (v := .tuple #[.int .i64 0, .int .i64 0, .int .i64 R]) (by simp [results, Try.results38, go_sem]) rfl ⟨rfl, g1⟩

set_option maxRecDepth 100000 in
set_option maxHeartbeats 1000000 in
/-- Loads of what is not valid. -/
theorem loads_err (l : List Ld) (R : Int) (hs : boxedL 50 l = R) (hR : R ≠ 0) (a : Option Addr) (cap : Nat) (w : World) (hr : LRow w a l) :
    Calls Try.prog 37 #[.slice a l.length cap] w fun e w' => e = .returned (.tuple #[.slice none 0 0, .int .i64 R]) ∧ Gr w w' := by
  refine (callsIn_wide (n := 20)).1 ?_
  have cS := boxed_any 50 l a cap w hr
  rw [hs] at cS
  have CS := Lib.hid cS
  clear cS hs
  have hne : (R != 0) = true := by simpa using hR
  refine callsIn_of_wp_marks Try.func37 rfl trivial ?_ rfl
  simp only [Try.ntmps37, List.size_toArray, List.length_cons, List.length_nil, Nat.reduceAdd, Nat.reduceSub, Array.replicate_succ, Array.replicate_zero, List.push_toArray, List.append_toArray, List.nil_append, List.cons_append]
  gi_wp2_with (refine ⟨trivial, ?_⟩; gi_at_call 86; refine (callsIn_wide.2 CS.out).mono ?_; rintro e w1 ⟨rfl, g1⟩)
  refine leaves_marks [] _ (fun E hE => by cases hE) (by simp) fun w' hk' => ?_
  exact ⟨.tuple #[.slice none 0 0, .int .i64 R], by simp [results, Try.results37, go_sem], rfl, g1.tr (Kx.toGr (hk'.mono (fun i e => by simp at e)))⟩

set_option maxRecDepth 100000 in
set_option maxHeartbeats 4000000 in
theorem crushFalls_any (l : List Ld) (t : List Stp) (days : Int) (la ta : Option Addr) (lc tc : Nat) (w : World) (rl : LRow w la l) (rt : TRow w ta t) :
    Calls Try.prog 6 #[.slice la l.length lc, .slice ta t.length tc, .int .i64 days] w fun e w' => e = .returned (.bool true) ∧ Gr w w' := by
  have hl0 := rl.1
  have ht0 := rt.1
  by_cases h60 : 60 < l.length
  · have d0 : decide ((60 : Int) < (l.length : Int)) = true := by simp; omega
    go_enter Try.func6, Try.ntmps6
    go_wp2_with (go_at_call 18; refine (known_any _).mono ?_; rintro e w9 ⟨rfl, g9⟩)
    go_ret
    exact ⟨rfl, g9⟩
  have d0 : decide ((60 : Int) < (l.length : Int)) = false := by simp; omega
  have l60 : l.length ≤ 60 := by omega
  clear h60
  by_cases h15 : 15 < t.length
  · have d1 : decide ((15 : Int) < (t.length : Int)) = true := by simp; omega
    go_enter Try.func6, Try.ntmps6
    go_wp2_with (go_at_call 18; refine (known_any _).mono ?_; rintro e w9 ⟨rfl, g9⟩)
    go_ret
    exact ⟨rfl, g9⟩
  have d1 : decide ((15 : Int) < (t.length : Int)) = false := by simp; omega
  have t15 : t.length ≤ 15 := by omega
  clear h15
  have HBx : Hid (∀ (W' : World), Gr w W' → Calls Try.prog 35 #[.slice la l.length lc] W' fun e w' => ∃ a cp, e = .returned (.slice a l.length cp) ∧ LRow w' a l ∧ l.length ≤ cp ∧ Gr W' w') := Lib.hid (fun W' g => lboxes_gen l (by omega) la lc W' (rl.grow g))
  have HSp : Hid (∀ (W' : World), Gr w W' → Calls Try.prog 36 #[.slice ta t.length tc] W' fun e w' => ∃ a cp, e = .returned (.slice a t.length cp) ∧ TRow w' a t ∧ t.length ≤ cp ∧ Gr W' w') := Lib.hid (fun W' g => lsteps_gen t (by omega) ta tc W' (rt.grow g))
  have HTb : Hid (∀ (a : Option Addr) (c : Nat) (W' : World), TRow W' a t → Gr w W' → Calls Try.prog 40 #[.slice a t.length c, .slice ta t.length tc] W' fun e w' => e = .returned (.bool true) ∧ Gr W' w') := Lib.hid (fun a c W' hr g => refTables_any t a ta c tc W' hr (rt.grow g))
  have HSk : Hid (∀ (a : Option Addr) (c : Nat) (W' : World), LRow W' a l → Gr w W' → Calls Try.prog 39 #[.slice a l.length c, .slice la l.length lc] W' fun e w' => e = .returned (.bool true) ∧ Gr W' w') := Lib.hid (fun a c W' hr g => refStacks_any l a la c lc W' hr (rl.grow g))
  obtain ⟨R1, hR1⟩ : ∃ R, boxedL 50 l = R := ⟨_, rfl⟩
  obtain ⟨R2, hR2⟩ : ∃ R, throughL t days = R := ⟨_, rfl⟩
  have hS : storedL 50 l t days = if boxedL 50 l = 0 then throughL t days else boxedL 50 l := rfl
  rw [hR1, hR2] at hS
  have HSt : Hid (∀ (W' : World), Gr w W' → Calls Try.prog 41 #[.slice la l.length lc, .int .i64 50] W' fun e w' => e = .returned (.int .i64 R1) ∧ Gr W' w') := Lib.hid (fun W' g => refStack_any 50 l R1 hR1 la lc W' (rl.grow g))
  have HTh : Hid (∀ (W' : World), Gr w W' → Calls Try.prog 43 #[.slice ta t.length tc, .int .i64 days] W' fun e w' => e = .returned (.int .i64 R2) ∧ Gr W' w') := Lib.hid (fun W' g => refThrough_any t days R2 hR2 ta tc W' (rt.grow g))
  by_cases h1 : R1 = 0
  · rw [if_pos h1] at hS
    subst h1
    have hok := (boxed_parts hR1).2
    have HLd : Hid (∀ (i : Nat) (W' : World), i < l.length → Gr w W' → Calls Try.prog 42 #[.slice la l.length lc, .int .i64 (i : Int)] W' fun e w' => e = .returned (.agg #[.int .i64 (sumLo (l.drop (i + 1))), .int .i64 (sumHi (l.drop (i + 1)))]) ∧ Gr W' w') := Lib.hid (fun i W' hi g => refLoad_any l (fun x hx => (hok x hx).1) (by omega) i (by omega) la lc W' (rl.grow g))
    obtain ⟨LL, hLL⟩ : ∃ L, spansL l = L := ⟨_, rfl⟩
    have lLL : LL.length = l.length := by rw [← hLL]; exact spansL_len l
    have HLo : Hid (∀ (a : Option Addr) (cp : Nat) (W' : World), LRow W' a l → Calls Try.prog 37 #[.slice a l.length cp] W' fun e w' => ∃ b c, e = .returned (.tuple #[.slice b l.length c, .int .i64 0]) ∧ SRow w' b LL ∧ Gr W' w') := Lib.hid (fun a cp W' hr => by
      have := loads_ok l hR1 a cp W' hr
      rw [hLL, lLL] at this
      exact this)
    have HLL := Lib.hid hLL
    clear lLL hLL
    by_cases h2 : R2 = 0
    · subst h2
      have hT := (stored_parts hS).2
      have hTS : TabS t days := ⟨hT, table_strict (by
        unfold throughL at hR2
        cases c : tableL t with
        | true => rfl
        | false => rw [c] at hR2; simp at hR2)⟩
      have HRF0 := Lib.hid (fun (W' : World) (g : Gr w W') => refFall_any l (fun x hx => (hok x hx).1) (by omega) t days hTS la ta lc tc W' (rl.grow g) (rt.grow g))
      have HFa0 := Lib.hid (fun (a c : Option Addr) (cp cc : Nat) (W' : World) (hcc : t.length ≤ cc) (hr : LRow W' a l) (ht : TRow W' c t) => fall_ok l t days hS a c cp cc hcc W' hr ht)
      clear hok hS hR1 hR2 hT hTS
      cases hO : fallO l (untilL t days) with
      | none =>
        have HRF := HRF0.out
        rw [fallT_none hO] at HRF
        have HFa := HFa0.out
        rw [fallV_none hO] at HFa
        replace HRF := Lib.hid HRF
        replace HFa := Lib.hid HFa
        clear HRF0 HFa0 hO
        go_enter Try.func6, Try.ntmps6
        go_upto_region 13 with (first
            | (go_at_call 35; refine (HBx.out _ (Below.refl _ _)).mono ?_; rintro e w1 ⟨a1, c1, rfl, r1, hc1, g1⟩)
            | (go_at_call 36; refine (HSp.out _ g1).mono ?_; rintro e w2 ⟨a2, c2, rfl, r2, hc2, g2⟩)
            | (go_at_call 37; refine (HLo.out a1 c1 _ (r1.grow g2)).mono ?_; rintro e w3 ⟨x4, y4, rfl, r4, g3⟩)
            | (go_at_call 38; refine (HFa.out a1 a2 c1 c2 _ hc2 (r1.grow (g2.tr g3)) (r2.grow g3)).mono ?_; rintro e w4 ⟨rfl, g4⟩)
            | (go_at_call 39; refine (HSk.out a1 c1 _ (r1.grow (g2.tr (g3.tr g4))) (g1.tr (g2.tr (g3.tr g4)))).mono ?_; rintro e w5 ⟨rfl, g5⟩)
            | (go_at_call 40; refine (HTb.out a2 c2 _ (r2.grow (g3.tr (g4.tr g5))) (g1.tr (g2.tr (g3.tr (g4.tr g5))))).mono ?_; rintro e w6 ⟨rfl, g6⟩)
            | (go_at_call 41; refine (HSt.out _ (g1.tr (g2.tr (g3.tr (g4.tr (g5.tr g6)))))).mono ?_; rintro e w7 ⟨rfl, g7⟩))
        refine wp_abs (fun X => Gr w X ∧ SRow X x4 LL) ⟨g1.tr (g2.tr (g3.tr (g4.tr (g5.tr (g6.tr g7))))), r4.grow (g4.tr (g5.tr (g6.tr g7)))⟩ ?_
        clear r1 r2 r4 g1 g2 g3 g4 g5 g6 g7 HFa HLo HBx HSp HTb HSk HSt
        rintro X ⟨gX, r4⟩
        go_wp2
        go_loopw [15] (fun i wr => Hid (∃ k : Nat, k ≤ l.length ∧ i = .int .i64 k ∧ Gr X wr)) (fun i _ => l.length - (intOf i).toNat)
        case atStart => exact Lib.hid ⟨0, Nat.zero_le _, rfl, Below.refl _ _⟩
        case round =>
          obtain ⟨k, hk, rfl, gW⟩ := hrel.out
          clear hrel
          by_cases hlt : k < l.length
          · have hlm := spans_at hlt
            rw [HLL.out] at hlm
            have hld := HLd.out k
            obtain ⟨lo, hlo⟩ : ∃ z, sumLo (l.drop (k + 1)) = z := ⟨_, rfl⟩
            obtain ⟨hi', hhi⟩ : ∃ z, sumHi (l.drop (k + 1)) = z := ⟨_, rfl⟩
            rw [hlo, hhi] at hlm hld
            have HLk := Lib.hid hld
            clear hld
            obtain ⟨bs, os, rfl, _, c0, c1⟩ := SRow.get (r4.grow gW) hlm
            dsimp only at c0 c1
            have y0 := From.keep c0
            have y1 := From.keep c1
            clear hlm hlo hhi c0 c1
            go_upto_region 16 with fail
            refine wp_region_gr (by kernel_rfl) (by kernel_rfl) ?_
            repeat (go_big_quiet_step (first
              | (go_at_call 42; (with_reducible exact Calls.gr (HLk.out _ hlt (gX.tr (gW.tr (From.property _))))))))
            refine wpQuiet_nil ?_
            rintro _ ⟨u, rfl⟩
            clear y0 y1
            go_wp2
            go_roundw
            case rel => exact Lib.hid ⟨k + 1, by omega, by go_num, gW.tr u.property⟩
            case measure => simp [intOf]; omega
          · obtain rfl : k = l.length := by omega
            clear hlt hk
            have gZ := gX.tr gW
            go_wp2_with (first
              | (go_at_call 43; refine (HTh.out _ gZ).mono ?_; rintro e w8 ⟨rfl, g8⟩)
              | (go_at_call 44; refine (HRF.out _ (gZ.tr g8)).mono ?_; rintro e w10 ⟨rfl, g10⟩)
              | (go_at_call 18; refine (known_any _).mono ?_; rintro e w9 ⟨rfl, g9⟩))
            go_ret
            exact ⟨rfl, gZ.tr (g8.tr (g10.tr g9))⟩
      | some q =>
        obtain ⟨s, i⟩ := q
        have HRF := HRF0.out
        rw [fallT_some hO] at HRF
        have HFa := HFa0.out
        rw [fallV_some hO] at HFa
        replace HRF := Lib.hid HRF
        replace HFa := Lib.hid HFa
        clear HRF0 HFa0 hO
        go_enter Try.func6, Try.ntmps6
        go_upto_region 13 with (first
            | (go_at_call 35; refine (HBx.out _ (Below.refl _ _)).mono ?_; rintro e w1 ⟨a1, c1, rfl, r1, hc1, g1⟩)
            | (go_at_call 36; refine (HSp.out _ g1).mono ?_; rintro e w2 ⟨a2, c2, rfl, r2, hc2, g2⟩)
            | (go_at_call 37; refine (HLo.out a1 c1 _ (r1.grow g2)).mono ?_; rintro e w3 ⟨x4, y4, rfl, r4, g3⟩)
            | (go_at_call 38; refine (HFa.out a1 a2 c1 c2 _ hc2 (r1.grow (g2.tr g3)) (r2.grow g3)).mono ?_; rintro e w4 ⟨rfl, g4⟩)
            | (go_at_call 39; refine (HSk.out a1 c1 _ (r1.grow (g2.tr (g3.tr g4))) (g1.tr (g2.tr (g3.tr g4)))).mono ?_; rintro e w5 ⟨rfl, g5⟩)
            | (go_at_call 40; refine (HTb.out a2 c2 _ (r2.grow (g3.tr (g4.tr g5))) (g1.tr (g2.tr (g3.tr (g4.tr g5))))).mono ?_; rintro e w6 ⟨rfl, g6⟩)
            | (go_at_call 41; refine (HSt.out _ (g1.tr (g2.tr (g3.tr (g4.tr (g5.tr g6)))))).mono ?_; rintro e w7 ⟨rfl, g7⟩))
        refine wp_abs (fun X => Gr w X ∧ SRow X x4 LL) ⟨g1.tr (g2.tr (g3.tr (g4.tr (g5.tr (g6.tr g7))))), r4.grow (g4.tr (g5.tr (g6.tr g7)))⟩ ?_
        clear r1 r2 r4 g1 g2 g3 g4 g5 g6 g7 HFa HLo HBx HSp HTb HSk HSt
        rintro X ⟨gX, r4⟩
        go_wp2
        go_loopw [15] (fun i wr => Hid (∃ k : Nat, k ≤ l.length ∧ i = .int .i64 k ∧ Gr X wr)) (fun i _ => l.length - (intOf i).toNat)
        case atStart => exact Lib.hid ⟨0, Nat.zero_le _, rfl, Below.refl _ _⟩
        case round =>
          obtain ⟨k, hk, rfl, gW⟩ := hrel.out
          clear hrel
          by_cases hlt : k < l.length
          · have hlm := spans_at hlt
            rw [HLL.out] at hlm
            have hld := HLd.out k
            obtain ⟨lo, hlo⟩ : ∃ z, sumLo (l.drop (k + 1)) = z := ⟨_, rfl⟩
            obtain ⟨hi', hhi⟩ : ∃ z, sumHi (l.drop (k + 1)) = z := ⟨_, rfl⟩
            rw [hlo, hhi] at hlm hld
            have HLk := Lib.hid hld
            clear hld
            obtain ⟨bs, os, rfl, _, c0, c1⟩ := SRow.get (r4.grow gW) hlm
            dsimp only at c0 c1
            have y0 := From.keep c0
            have y1 := From.keep c1
            clear hlm hlo hhi c0 c1
            go_upto_region 16 with fail
            refine wp_region_gr (by kernel_rfl) (by kernel_rfl) ?_
            repeat (go_big_quiet_step (first
              | (go_at_call 42; (with_reducible exact Calls.gr (HLk.out _ hlt (gX.tr (gW.tr (From.property _))))))))
            refine wpQuiet_nil ?_
            rintro _ ⟨u, rfl⟩
            clear y0 y1
            go_wp2
            go_roundw
            case rel => exact Lib.hid ⟨k + 1, by omega, by go_num, gW.tr u.property⟩
            case measure => simp [intOf]; omega
          · obtain rfl : k = l.length := by omega
            clear hlt hk
            have gZ := gX.tr gW
            go_wp2_with (first
              | (go_at_call 43; refine (HTh.out _ gZ).mono ?_; rintro e w8 ⟨rfl, g8⟩)
              | (go_at_call 44; refine (HRF.out _ (gZ.tr g8)).mono ?_; rintro e w10 ⟨rfl, g10⟩)
              | (go_at_call 18; refine (known_any _).mono ?_; rintro e w9 ⟨rfl, g9⟩))
            go_ret
            exact ⟨rfl, gZ.tr (g8.tr (g10.tr g9))⟩
    · have HFa := Lib.hid (fun (a c : Option Addr) (cp cc : Nat) (W' : World) (hcc : t.length ≤ cc) (hr : LRow W' a l) (ht : TRow W' c t) => fall_err l t days R2 hS h2 a c cp cc W' hr ht)
      have hne : (R2 == 0) = false := by simpa using h2
      clear hok hS hR1 hR2 h2
      go_enter Try.func6, Try.ntmps6
      go_upto_region 13 with (first
          | (go_at_call 35; refine (HBx.out _ (Below.refl _ _)).mono ?_; rintro e w1 ⟨a1, c1, rfl, r1, hc1, g1⟩)
          | (go_at_call 36; refine (HSp.out _ g1).mono ?_; rintro e w2 ⟨a2, c2, rfl, r2, hc2, g2⟩)
          | (go_at_call 37; refine (HLo.out a1 c1 _ (r1.grow g2)).mono ?_; rintro e w3 ⟨x4, y4, rfl, r4, g3⟩)
          | (go_at_call 38; refine (HFa.out a1 a2 c1 c2 _ hc2 (r1.grow (g2.tr g3)) (r2.grow g3)).mono ?_; rintro e w4 ⟨rfl, g4⟩)
          | (go_at_call 39; refine (HSk.out a1 c1 _ (r1.grow (g2.tr (g3.tr g4))) (g1.tr (g2.tr (g3.tr g4)))).mono ?_; rintro e w5 ⟨rfl, g5⟩)
          | (go_at_call 40; refine (HTb.out a2 c2 _ (r2.grow (g3.tr (g4.tr g5))) (g1.tr (g2.tr (g3.tr (g4.tr g5))))).mono ?_; rintro e w6 ⟨rfl, g6⟩)
          | (go_at_call 41; refine (HSt.out _ (g1.tr (g2.tr (g3.tr (g4.tr (g5.tr g6)))))).mono ?_; rintro e w7 ⟨rfl, g7⟩))
      refine wp_abs (fun X => Gr w X ∧ SRow X x4 LL) ⟨g1.tr (g2.tr (g3.tr (g4.tr (g5.tr (g6.tr g7))))), r4.grow (g4.tr (g5.tr (g6.tr g7)))⟩ ?_
      clear r1 r2 r4 g1 g2 g3 g4 g5 g6 g7 HFa HLo HBx HSp HTb HSk HSt
      rintro X ⟨gX, r4⟩
      go_wp2
      go_loopw [15] (fun i wr => Hid (∃ k : Nat, k ≤ l.length ∧ i = .int .i64 k ∧ Gr X wr)) (fun i _ => l.length - (intOf i).toNat)
      case atStart => exact Lib.hid ⟨0, Nat.zero_le _, rfl, Below.refl _ _⟩
      case round =>
        obtain ⟨k, hk, rfl, gW⟩ := hrel.out
        clear hrel
        by_cases hlt : k < l.length
        · have hlm := spans_at hlt
          rw [HLL.out] at hlm
          have hld := HLd.out k
          obtain ⟨lo, hlo⟩ : ∃ z, sumLo (l.drop (k + 1)) = z := ⟨_, rfl⟩
          obtain ⟨hi', hhi⟩ : ∃ z, sumHi (l.drop (k + 1)) = z := ⟨_, rfl⟩
          rw [hlo, hhi] at hlm hld
          have HLk := Lib.hid hld
          clear hld
          obtain ⟨bs, os, rfl, _, c0, c1⟩ := SRow.get (r4.grow gW) hlm
          dsimp only at c0 c1
          have y0 := From.keep c0
          have y1 := From.keep c1
          clear hlm hlo hhi c0 c1
          go_upto_region 16 with fail
          refine wp_region_gr (by kernel_rfl) (by kernel_rfl) ?_
          repeat (go_big_quiet_step (first
            | (go_at_call 42; (with_reducible exact Calls.gr (HLk.out _ hlt (gX.tr (gW.tr (From.property _))))))))
          refine wpQuiet_nil ?_
          rintro _ ⟨u, rfl⟩
          clear y0 y1
          go_wp2
          go_roundw
          case rel => exact Lib.hid ⟨k + 1, by omega, by go_num, gW.tr u.property⟩
          case measure => simp [intOf]; omega
        · obtain rfl : k = l.length := by omega
          clear hlt hk
          have gZ := gX.tr gW
          go_wp2_with (first
            | (go_at_call 43; refine (HTh.out _ gZ).mono ?_; rintro e w8 ⟨rfl, g8⟩)
            | (go_at_call 18; refine (known_any _).mono ?_; rintro e w9 ⟨rfl, g9⟩))
          go_ret
          exact ⟨rfl, gZ.tr (g8.tr g9)⟩
  · rw [if_neg h1] at hS
    have hne : (R1 != 0) = true := by simpa using h1
    have HLo := Lib.hid (fun (a : Option Addr) (cp : Nat) (W' : World) (hr : LRow W' a l) => loads_err l R1 hR1 h1 a cp W' hr)
    have HFa := Lib.hid (fun (a c : Option Addr) (cp cc : Nat) (W' : World) (hcc : t.length ≤ cc) (hr : LRow W' a l) (ht : TRow W' c t) => fall_err l t days R1 hS h1 a c cp cc W' hr ht)
    clear hS hR1 hR2 h1
    go_enter Try.func6, Try.ntmps6
    go_wp2_with (first
        | (go_at_call 35; refine (HBx.out _ (Below.refl _ _)).mono ?_; rintro e w1 ⟨a1, c1, rfl, r1, hc1, g1⟩)
        | (go_at_call 36; refine (HSp.out _ g1).mono ?_; rintro e w2 ⟨a2, c2, rfl, r2, hc2, g2⟩)
        | (go_at_call 37; refine (HLo.out a1 c1 _ (r1.grow g2)).mono ?_; rintro e w3 ⟨rfl, g3⟩)
        | (go_at_call 38; refine (HFa.out a1 a2 c1 c2 _ hc2 (r1.grow (g2.tr g3)) (r2.grow g3)).mono ?_; rintro e w4 ⟨rfl, g4⟩)
        | (go_at_call 39; refine (HSk.out a1 c1 _ (r1.grow (g2.tr (g3.tr g4))) (g1.tr (g2.tr (g3.tr g4)))).mono ?_; rintro e w5 ⟨rfl, g5⟩)
        | (go_at_call 40; refine (HTb.out a2 c2 _ (r2.grow (g3.tr (g4.tr g5))) (g1.tr (g2.tr (g3.tr (g4.tr g5))))).mono ?_; rintro e w6 ⟨rfl, g6⟩)
        | (go_at_call 41; refine (HSt.out _ (g1.tr (g2.tr (g3.tr (g4.tr (g5.tr g6)))))).mono ?_; rintro e w7 ⟨rfl, g7⟩)
        | (go_at_call 18; refine (known_any _).mono ?_; rintro e w9 ⟨rfl, g9⟩))
    go_ret
    exact ⟨rfl, g1.tr (g2.tr (g3.tr (g4.tr (g5.tr (g6.tr (g7.tr g9))))))⟩

end Go.Proofs.Ytcdilmagcdbogaa

namespace Go.Proofs.Ytcdilmagcdbogaa
set_option linter.unusedVariables false
set_option linter.unusedSimpArgs false
open Go.RowKit

theorem owns_own {w : World} {base : Nat} {ty : TypeId} {v : Value} {l : List Ld} (h : w.ownsRow base ty 4 v l.length (l.flatMap encL)) (h0 : 0 < l.length) : ∃ g cap, v = .slice (some ⟨g, 0, none⟩) l.length cap ∧ base ≤ g ∧ Own w g (l.flatMap encL) := by
  obtain ⟨h1, h2⟩ := h
  rcases h2 with ⟨hv, hn⟩ | ⟨g, cap, cur, hv, hb, hh, hcap, hmax, hsz, hx⟩
  · omega
  · have hB : Blk w g cur.toList ty := by
      unfold Blk
      rw [hh]
    have hO := hB.own
    refine ⟨g, cap, hv, hb, ⟨hO.1.1, fun i u hu => hO.1.2 i u ?_⟩, hO.2⟩
    rw [← hx] at hu
    have hlt := (List.getElem?_eq_some_iff.1 hu).1
    rw [List.length_take] at hlt
    rwa [List.getElem?_take_of_lt (by omega)] at hu

theorem owns_both {w : World} {base : Nat} {ty : TypeId} {v : Value} {l : List Ld} (h : w.ownsRow base ty 4 v l.length (l.flatMap encL)) (hl : l.length ≤ 1000) : ∃ a cap, v = .slice a l.length cap ∧ LRow w a l ∧ (0 < l.length → ∃ g, a = some ⟨g, 0, none⟩ ∧ base ≤ g ∧ Own w g (l.flatMap encL)) := by
  obtain ⟨a, cap, hv, hr⟩ := owns_row (enc := encL) (l := l) (fun _ => rfl) (by omega) h
  refine ⟨a, cap, hv, hr, fun h0 => ?_⟩
  obtain ⟨g, cap2, hv2, hb, ho⟩ := owns_own h h0
  rw [hv] at hv2
  injection hv2 with e _ _
  exact ⟨g, e, hb, ho⟩

theorem own_lrow {w : World} {g : Nat} {l : List Ld} (h : Own w g (l.flatMap encL)) (hl : l.length ≤ 1000) : LRow w (some ⟨g, 0, none⟩) l :=
  ⟨by omega, fun j x hj => ⟨g, 0, rfl, h.1.1, fun i u hu => by
    rw [Nat.zero_add]
    exact h.1.2 _ u (flat_get (enc := encL) (sz := 4) (fun _ => rfl) l j i x u hj hu)⟩⟩

theorem set_strong : ∀ (l : List Ld) (i : Nat) (x : Ld) (a b : Int), l[i]? = some x → ((l.flatMap encL).set (i * 4) (.int .i64 a)).set (i * 4 + 1) (.int .i64 b) = (l.set i ⟨a, b, x.wl, x.wh⟩).flatMap encL
  | [], i, x, a, b, h => by simp at h
  | y :: l, 0, x, a, b, h => by
    simp at h
    subst h
    simp [encL]
  | y :: l, i + 1, x, a, b, h => by
    have ih := set_strong l i x a b (by simpa using h)
    have e1 : (i + 1) * 4 = i * 4 + 1 + 1 + 1 + 1 := by omega
    rw [e1]
    simp only [List.flatMap_cons, encL, List.cons_append, List.nil_append, List.set_cons_succ]
    rw [ih]

theorem set_light : ∀ (l : List Ld) (i : Nat) (x : Ld) (a b : Int), l[i]? = some x → ((l.flatMap encL).set (i * 4 + 2) (.int .i64 a)).set (i * 4 + 3) (.int .i64 b) = (l.set i ⟨x.sl, x.sh, a, b⟩).flatMap encL
  | [], i, x, a, b, h => by simp at h
  | y :: l, 0, x, a, b, h => by
    simp at h
    subst h
    simp [encL]
  | y :: l, i + 1, x, a, b, h => by
    have ih := set_light l i x a b (by simpa using h)
    rw [show (i + 1) * 4 + 2 = (i * 4 + 2) + 1 + 1 + 1 + 1 by omega, show (i + 1) * 4 + 3 = (i * 4 + 3) + 1 + 1 + 1 + 1 by omega]
    simp only [List.flatMap_cons, encL, List.cons_append, List.nil_append, List.set_cons_succ]
    rw [ih]

/-- Both stores into a box of a row. -/
theorem own_better {w : World} {g i : Nat} {l : List Ld} {x : Ld} (hx : l[i]? = some x) {a b : Int} (h : Own w g (l.flatMap encL)) : Own ((w.setCell ⟨g, i * 4, none⟩ (.int .i64 a)).setCell ⟨g, i * 4 + 1, none⟩ (.int .i64 b)) g ((l.set i ⟨a, b, x.wl, x.wh⟩).flatMap encL) := by
  have hlt := (List.getElem?_eq_some_iff.1 hx).1
  have hlen := flat_len (enc := encL) (sz := 4) (fun _ => rfl) l
  rw [← set_strong l i x a b hx]
  exact (h.set (i := i * 4) (v := .int .i64 a) (by omega)).set (i := i * 4 + 1) (v := .int .i64 b) (by rw [List.length_set]; omega)

theorem own_lighter {w : World} {g i : Nat} {l : List Ld} {x : Ld} (hx : l[i]? = some x) {a b : Int} (h : Own w g (l.flatMap encL)) : Own ((w.setCell ⟨g, i * 4 + 2, none⟩ (.int .i64 a)).setCell ⟨g, i * 4 + 3, none⟩ (.int .i64 b)) g ((l.set i ⟨x.sl, x.sh, a, b⟩).flatMap encL) := by
  have hlt := (List.getElem?_eq_some_iff.1 hx).1
  have hlen := flat_len (enc := encL) (sz := 4) (fun _ => rfl) l
  rw [← set_light l i x a b hx]
  exact (h.set (i := i * 4 + 2) (v := .int .i64 a) (by omega)).set (i := i * 4 + 3) (v := .int .i64 b) (by rw [List.length_set]; omega)

theorem stored_of {most : Int} {l : List Ld} {t : List Stp} {days : Int} (hm : (l.length : Int) ≤ most) (hl : ∀ x ∈ l, LdOk x ∧ x.sl ≤ x.sh ∧ x.wl ≤ x.wh ∧ x.sh ≤ 20000000 ∧ x.wh ≤ 100000) (ht : tableL t = true) (d0 : 0 ≤ days) (d1 : days ≤ 10000) : storedL most l t days = 0 := by
  have h1 : boxedL most l = 0 := by
    unfold boxedL
    rw [if_neg (by omega)]
    have : l.all okLd = true := by
      rw [List.all_eq_true]
      intro x hx
      obtain ⟨⟨⟨a, b, c, d⟩, e, f⟩, g, hh, i, j⟩ := hl x hx
      simp [okLd, okSpan, inB, in1]
      omega
    rw [this]
    rfl
  unfold storedL
  rw [h1, ht]
  simp [inB, in1]
  omega

theorem high_at {x : Ld} {t : List Stp} {days : Int} (hs : storedL 1 [x] t days = 0) (a : Option Addr) (c : Nat) (W : World) (hr : TRow W a t) (hc : t.length ≤ c) :
    Calls Try.prog 45 #[.agg #[.int .i64 x.sl, .int .i64 x.sh, .int .i64 x.wl, .int .i64 x.wh], .slice a t.length c, .int .i64 days] W fun e w' => e = .returned (.tuple #[.int .i64 ((hiTo (stB x t days) 50 : Nat) : Int), .int .i64 0]) ∧ Gr W w' := by
  obtain ⟨⟨_, hl⟩, hT⟩ := stored_parts hs
  have hx := (hl x (by simp)).1
  obtain ⟨k0, k1⟩ := last_bd hT
  have := hT.t10
  refine (high_ok x hx t days hs (by omega) hT.day (until_pos hT) (until_len t days) k0 k1 a c hc W hr).mono ?_
  rintro e w' ⟨r, rfl, r0, r1, h1, h2, g⟩
  exact ⟨by rw [high_same hx hT r0 r1 h1 h2], g⟩

/-- What a better box is. -/
theorem better_ok {l : List Ld} {i : Nat} {x : Ld} {b0 b1 : Int} (hl : ∀ x ∈ l, LdOk x ∧ x.sl ≤ x.sh ∧ x.wl ≤ x.wh ∧ x.sh ≤ 1069 ∧ x.wh ≤ 284) (hx : l[i]? = some x) (h0 : 0 ≤ b0 ∧ b0 ≤ 255) (h1 : 0 ≤ b1 ∧ b1 ≤ 255) :
    Better l (l.set i ⟨x.sl + b0, x.sh + b0, max 0 (x.wl - b1), max 0 (x.wh - b1)⟩) ∧ ∀ y ∈ l.set i ⟨x.sl + b0, x.sh + b0, max 0 (x.wl - b1), max 0 (x.wh - b1)⟩, LdOk y ∧ y.sl ≤ y.sh ∧ y.wl ≤ y.wh ∧ y.sh ≤ 20000000 ∧ y.wh ≤ 100000 := by
  have h2 := hl x (List.mem_of_getElem? hx)
  obtain ⟨⟨⟨p1, p2, p3, p4⟩, p5, p6⟩, p7, p8, p9, p10⟩ := h2
  refine ⟨Better.set hx (by dsimp only; omega) (by dsimp only; omega), fun y hy => ?_⟩
  rcases List.mem_or_eq_of_mem_set hy with h | rfl
  · obtain ⟨a, b, c, d, e⟩ := hl y h
    exact ⟨a, b, c, by omega, by omega⟩
  · unfold LdOk LdB
    dsimp only
    omega

theorem one_ok {x : Ld} {b0 b1 : Int} (hx : LdOk x ∧ x.sl ≤ x.sh ∧ x.wl ≤ x.wh ∧ x.sh ≤ 1069 ∧ x.wh ≤ 284) (h0 : 0 ≤ b0 ∧ b0 ≤ 255) (h1 : 0 ≤ b1 ∧ b1 ≤ 255) : LdOk ⟨x.sl + b0, x.sh + b0, max 0 (x.wl - b1), max 0 (x.wh - b1)⟩ ∧ x.sl + b0 ≤ x.sh + b0 ∧ max 0 (x.wl - b1) ≤ max 0 (x.wh - b1) ∧ x.sh + b0 ≤ 20000000 ∧ max 0 (x.wh - b1) ≤ 100000 := by
  obtain ⟨⟨⟨p1, p2, p3, p4⟩, p5, p6⟩, p7, p8, p9, p10⟩ := hx
  unfold LdOk LdB
  dsimp only
  omega

/-- Fall of so many equal boxes. -/
theorem fall_rep {x : Ld} {t : List Stp} {days : Int} {m : Nat} (hs : storedL 50 (List.replicate m x) t days = 0) (a c : Option Addr) (cap cc : Nat) (hcc : t.length ≤ cc) (W : World) (hr : LRow W a (List.replicate m x)) (ht : TRow W c t) :
    Calls Try.prog 38 #[.slice a m cap, .slice c t.length cc, .int .i64 days] W fun e w' => (∃ y z v, e = .returned (.tuple #[.int .i64 y, .int .i64 z, .int .i64 v]) ∧ (stB x t days m = true → v = 7) ∧ (stB x t days m = false → v = 0)) ∧ Gr W w' := by
  have h := fall_ok (List.replicate m x) t days hs a c cap cc hcc W hr ht
  rw [List.length_replicate] at h
  refine h.mono ?_
  rintro e w' ⟨rfl, g⟩
  refine ⟨?_, g⟩
  unfold stB
  cases hO : fallO (List.replicate m x) (untilL t days) with
  | none => exact ⟨0, 0, 7, by rw [fallV_none hO], ⟨fun _ => rfl, fun h => by simp at h⟩⟩
  | some q =>
    obtain ⟨s, i⟩ := q
    exact ⟨s.day, (i : Int), 0, by rw [fallV_some hO], ⟨fun h => by simp at h, fun _ => rfl⟩⟩

end Go.Proofs.Ytcdilmagcdbogaa

namespace Go.Proofs.Ytcdilmagcdbogaa
set_option linter.unusedVariables false
set_option linter.unusedSimpArgs false
open Go.RowKit

set_option maxRecDepth 100000 in
set_option maxHeartbeats 8000000 in
theorem refDecide_any (n : Nat) (me lo ba off : Int) (l : List Int) (n1 : 1 ≤ n) (n2 : n ≤ 20) (m0 : 0 ≤ me) (m1 : me ≤ 100000) (o0 : 0 ≤ off) (o1 : off ≤ 1000) (hl : l.length ≤ 100) (hB : ∀ r ∈ l, 0 ≤ r ∧ r ≤ 100000) (a : Option Addr) (cap : Nat) (w : World) (hr : IRow w a l) :
    Calls Try.prog 25 #[.agg #[.int .i64 (n : Int), .int .i64 me, .int .i64 lo, .int .i64 ba], .slice a l.length cap, .int .i64 off] w fun e w' => e = .returned (.int .i64 (stateL (n : Int) me lo ba (truthsL n off l))) ∧ Gr w w' := by
  have gg := Gr.al w (.cells #[.int .i64 (n : Int), .int .i64 me, .int .i64 lo, .int .i64 ba] 23)
  have hb := Box.new w [.int .i64 (n : Int), .int .i64 me, .int .i64 lo, .int .i64 ba] 23 w.heap.size rfl
  have HB := Lib.hid hB
  clear hB
  go_enter Try.func25, Try.ntmps25
  go_upto_region 1 with fail
  refine wp_abs (fun U => Gr w U ∧ Box U w.heap.size [.int .i64 (n : Int), .int .i64 me, .int .i64 lo, .int .i64 ba]) ⟨gg, hb⟩ ?_
  clear gg hb
  rintro U ⟨gg, hb⟩
  go_upto_region 2 with fail
  have oA := owns_keep (owns_empty U 3 1) (Gr.al _ (.cells #[] 3))
  have oR := owns_base (owns_empty (U.alloc (.cells #[] 3)) 3 1) (show U.heap.size ≤ (U.alloc (.cells #[] 3)).heap.size by simp)
  have gU := (Gr.al U (.cells #[] 3)).tr (Gr.al _ (.cells #[] 3))
  have hap0 : Apart (.slice (some ⟨U.heap.size, 0, none⟩) 0 0) (.slice (some ⟨(U.alloc (.cells #[] 3)).heap.size, 0, none⟩) 0 0) := Apart.lit (by simp)
  rw [show (U.alloc (.cells #[] 3)).heap.size = U.heap.size + 1 by simp] at oR hap0
  obtain ⟨B0, hB0⟩ : ∃ B0, B0 = U.heap.size := ⟨_, rfl⟩
  have hB1 : U.heap.size ≤ B0 ∧ B0 ≤ U.heap.size := by omega
  rw [← hB0] at oA oR hap0 ⊢
  clear hB0
  obtain ⟨i0, hi, hz0, hz1, hz2⟩ := info_parts infoInt
  refine wp_abs (fun V => Gr U V ∧ V.ownsRow B0 3 1 (.slice (some ⟨B0, 0, none⟩) 0 0) 0 [] ∧ V.ownsRow B0 3 1 (.slice (some ⟨B0 + 1, 0, none⟩) 0 0) 0 []) ⟨gU, oA, oR⟩ ?_
  clear gU oA oR
  rintro V ⟨gU, oA, oR⟩
  refine (show (∀ s : Nat → Value, Code.wp Try.prog _ _ ⟨#[s 0, .slice a l.length cap, .int .i64 off, .pointer (some ⟨w.heap.size, 0, none⟩), s 4, s 5, s 6, .slice (some ⟨B0, 0, none⟩) 0 0, .slice (some ⟨B0 + 1, 0, none⟩) 0 0, undef, undef, s 11, s 12, undef, undef, undef, undef, undef, undef, undef, undef, undef, undef, undef, undef, undef, undef, undef, undef, undef, undef, undef, undef, undef, undef, undef, undef, undef, undef, undef, undef, undef, undef, undef, undef, undef, undef], []⟩ _) → _ from fun h => h ((fun l : List Value => fun i => l.getD i undef) [_, undef, undef, undef, _, _, _, undef, undef, undef, undef, _, _])) ?_
  intro s
  dsimp only
  go_wp2
  go_loopw [9, 7, 8] (fun i s t wr => Hid (∃ k : Nat, k ≤ n ∧ i = .int .i64 k ∧ Gr U wr ∧ wr.ownsRow B0 3 1 s k ((endsL false off l k).flatMap encI) ∧ wr.ownsRow B0 3 1 t k ((endsL true off l k).flatMap encI) ∧ Apart s t)) (fun i _ _ _ => n - (intOf i).toNat)
  case atStart => exact Lib.hid ⟨0, Nat.zero_le _, rfl, gU, oA, oR, hap0⟩
  case round =>
    clear gU oA oR hap0
    obtain ⟨k, hk, rfl, gW, oA, oR, hap⟩ := hrel.out
    clear hrel
    by_cases hlt : k < n
    · obtain ⟨lw, hw, htr⟩ : ∃ a b, truthAt off l k = (a, b) := ⟨_, _, rfl⟩
      have HA := Lib.hid (show endsL false off l (k + 1) = endsL false off l k ++ [lw] by rw [endsL_succ, htr]; rfl)
      have HH := Lib.hid (show endsL true off l (k + 1) = endsL true off l k ++ [hw] by rw [endsL_succ, htr]; rfl)
      obtain ⟨q0, q1, q2, q3⟩ := (hb.keep gW).c4'
      by_cases hx : k < l.length
      · obtain ⟨x, hxx⟩ : ∃ x, l[k]? = some x := ⟨l[k], by simp [hx]⟩
        obtain ⟨x0, x1⟩ := HB.out x (List.mem_of_getElem? hxx)
        obtain ⟨e1, e2⟩ : max 0 (x - off) = lw ∧ min 100000 (x + off) = hw := by
          have : (max 0 (x - off), min 100000 (x + off)) = (lw, hw) := by rw [← htr]; unfold truthAt; rw [hxx]
          injection this with e1 e2
          exact ⟨e1, e2⟩
        have HTR := Lib.hid (fun W => (show Calls Try.prog 77 #[.int .i64 x, .int .i64 off] W fun e w' => e = .returned (.agg #[.int .i64 lw, .int .i64 hw]) ∧ Gr W w' by rw [← e1, ← e2]; exact refTruth_any x off x0 x1 o0 o1 W))
        obtain ⟨b1, of1, rfl, _, cx⟩ := IRow.get (hr.grow (gg.tr gW)) hxx
        have cx2 := (Gr.al wr (.cells #[.int .i64 0, .int .i64 100000] 45)).keep cx
        have oX0 := Own.new wr [.int .i64 0, .int .i64 100000] 45 wr.heap.size rfl
        clear hxx htr e1 e2
        go_upto_region 8 with (go_at_call 77; refine (HTR.out _).mono ?_; rintro e w2 ⟨rfl, g2⟩; have oX1 := oX0.keep g2; (obtain ⟨t0, t1⟩ := oX1.1.c2); have f0 := oX1.2 0; have f1 := oX1.2 1)
        have gX := (((Gr.al wr (.cells #[.int .i64 0, .int .i64 100000] 45)).tr g2).setCell (p := ⟨wr.heap.size, 0, none⟩) (Nat.le_refl wr.heap.size) (.int .i64 lw)).setCell (p := ⟨wr.heap.size, 1, none⟩) (Nat.le_refl wr.heap.size) (.int .i64 hw)
        have oX := ((oX1.set (i := 0) (v := .int .i64 lw) (by simp)).set (i := 1) (v := .int .i64 hw) (by simp)).1
        clear oX0 oX1 t0 t1 f0 f1 cx cx2 HTR
        obtain ⟨D, hD⟩ : ∃ D, D = wr.heap.size := ⟨_, rfl⟩
        rw [← hD] at oX ⊢
        have gX : Gr wr ((w2.setCell ⟨D, 0, none⟩ (.int .i64 lw)).setCell ⟨D, 1, none⟩ (.int .i64 hw)) := by subst hD; exact gX
        clear q0 q1 q2 q3
        have k1 : k + 1 ≤ maxLen := by unfold maxLen; omega
        have k2 : (k + 1) * 8 ≤ 140737488355328 := by omega
        have hsD : ∀ b, u7.ownBlock = some b → B0 ≤ b ∧ b < D := fun b e => by have := oA.lt b e; omega
        have htD : ∀ b, u8.ownBlock = some b → B0 ≤ b ∧ b < D := fun b e => by have := oR.lt b e; omega
        have hD1 : wr.heap.size ≤ D ∧ D ≤ wr.heap.size := by omega
        clear hD
        refine wp_abs (fun X => Gr wr X ∧ Box X D [.int .i64 lw, .int .i64 hw]) ⟨gX, oX⟩ ?_
        clear gX oX
        rintro X ⟨gX, hbx⟩
        have oA := owns_keep oA gX
        have oR := owns_keep oR gX
        have gX := gW.tr gX
        refine (show (∀ y : Nat → Value, Code.wp Try.prog _ _ ⟨#[s 0, .slice (some ⟨b1, of1, none⟩) l.length cap, .int .i64 off, .pointer (some ⟨w.heap.size, 0, none⟩), s 4, s 5, s 6, u7, u8, .int .i64 (k : Int), .pointer (some ⟨D, 0, none⟩), s 11, s 12, y 13, y 14, y 15, y 16, y 17, y 18, y 19, y 20, y 21, y 22, y 23, y 24, y 25, y 26, y 27, y 28, y 29, y 30, y 31, y 32, y 33, y 34, y 35, y 36, y 37, y 38, y 39, undef, undef, undef, undef, undef, undef, undef], []⟩ _) → _ from fun h => h ((fun l : List Value => fun i => l.getD i undef) [undef, undef, undef, undef, undef, undef, undef, undef, undef, undef, undef, undef, undef, _, _, _, _, _, _, _, _, _, _, _, _, _, _, _, _, _, _, _, _, _, _, _, _, _, _, _])) ?_
        intro y
        dsimp only
        refine wp_region_two (fun b => b < D) 10 4 9 [(2, 1), (3, 2), (4, 0), (4, 3), (7, 6), (8, 7), (9, 5), (9, 8), (9, 4)] (fun x => ⟨#[s 0, .slice (some ⟨b1, of1, none⟩) l.length cap, .int .i64 off, .pointer (some ⟨w.heap.size, 0, none⟩), s 4, s 5, s 6, u7, u8, .int .i64 (k : Int), .pointer (some ⟨D, 0, none⟩), s 11, s 12, y 13, y 14, y 15, y 16, y 17, y 18, y 19, y 20, y 21, y 22, y 23, y 24, y 25, y 26, y 27, y 28, y 29, x 0, x 1, x 2, x 3, x 4, x 5, x 6, x 7, x 8, x 9, undef, undef, undef, undef, undef, undef, undef], []⟩) (fun i => [y 30, y 31, y 32, y 33, y 34, y 35, y 36, y 37, y 38, y 39].getD i undef) [fun _ x => x = u7, fun _ x => x = .pointer (some ⟨D, 0, none⟩), fun _ x => x = .int .i64 lw, fun v x => ∃ b, x = .slice (some ⟨b, 0, none⟩) 1 1 ∧ D ≤ b ∧ Box v b [.int .i64 lw], fun _ _ => True, fun _ x => x = u8, fun _ x => x = .pointer (some ⟨D, 1, none⟩), fun _ x => x = .int .i64 hw, fun v x => ∃ b, x = .slice (some ⟨b, 0, none⟩) 1 1 ∧ D ≤ b ∧ Box v b [.int .i64 hw], fun _ _ => True] (fun v => Box v D [.int .i64 lw, .int .i64 hw]) (fun v => Gr U v ∧ v.ownsRow B0 3 1 u7 k ((endsL false off l k).flatMap encI) ∧ v.ownsRow B0 3 1 u8 k ((endsL true off l k).flatMap encI)) (fun v x => Gr U v ∧ v.ownsRow B0 3 1 x (k + 1) ((endsL false off l (k + 1)).flatMap encI) ∧ v.ownsRow B0 3 1 u8 k ((endsL true off l k).flatMap encI) ∧ Apart x u8) (fun v x y => Gr U v ∧ v.ownsRow B0 3 1 x (k + 1) ((endsL false off l (k + 1)).flatMap encI) ∧ v.ownsRow B0 3 1 y (k + 1) ((endsL true off l (k + 1)).flatMap encI) ∧ Apart x y) (by rfl) (by kernel_rfl) (by kernel_rfl) (by kernel_rfl) (by simp) (by omega) (by omega) (by omega) (staysZ_cons (StaysZ.eq _ _) (staysZ_cons (StaysZ.eq _ _) (staysZ_cons (StaysZ.eq _ _) (staysZ_cons (show StaysZ (fun b => b < D) (fun v x => ∃ b, x = .slice (some ⟨b, 0, none⟩) 1 1 ∧ D ≤ b ∧ Box v b [.int .i64 lw]) from fun v v' x g ⟨b, h, h1, h2⟩ => ⟨b, h, h1, h2.kx g (by omega)⟩) (staysZ_cons (fun _ _ _ _ _ => trivial) (staysZ_cons (StaysZ.eq _ _) (staysZ_cons (StaysZ.eq _ _) (staysZ_cons (StaysZ.eq _ _) (staysZ_cons (show StaysZ (fun b => b < D) (fun v x => ∃ b, x = .slice (some ⟨b, 0, none⟩) 1 1 ∧ D ≤ b ∧ Box v b [.int .i64 hw]) from fun v v' x g ⟨b, h, h1, h2⟩ => ⟨b, h, h1, h2.kx g (by omega)⟩) (staysZ_cons (fun _ _ _ _ _ => trivial) staysZ_nil))))))))))
          (fun v v' g h => h.kx g (by omega)) (fun v v' g h => ⟨h.1.tr g, owns_keep h.2.1 g, owns_keep h.2.2 g⟩) (fun v v' x g h => ⟨h.1.tr g, owns_keep h.2.1 g, owns_keep h.2.2.1 g, h.2.2.2⟩) (fun v v' x y g h => ⟨h.1.tr g, owns_keep h.2.1 g, owns_keep h.2.2.1 g, h.2.2.2⟩) (hbx.keep (Gr.dr _)) ⟨gX.tr (Gr.dr _), owns_keep oA (Gr.dr _), owns_keep oR (Gr.dr _)⟩ ?stepA ?ppA ?qqA ?finA
        case stepA =>
          rintro i hi np nq x v hc hd K hK
          have hi8 : i = 0 ∨ i = 1 ∨ i = 2 ∨ i = 3 ∨ i = 5 ∨ i = 6 ∨ i = 7 ∨ i = 8 := by omega
          rcases hi8 with rfl | rfl | rfl | rfl | rfl | rfl | rfl | rfl
          · show wpOp Try.prog _ _ 0 K (⟨#[_, _, _, _, _, _, _, _, _, _, _, _, _, _, _, _, _, _, _, _, _, _, _, _, _, _, _, _, _, _, x 0, x 1, x 2, x 3, x 4, x 5, x 6, x 7, x 8, x 9, _, _, _, _, _, _, _], []⟩ : Act) v
            refine wpOp_step rfl (fun K' hK' => ?_)
            go_simp
            exact hK' _ _ (hK _ _ (Below.refl _ _) (at_of rfl (rfl)))
          · show wpOp Try.prog _ _ 1 K (⟨#[_, _, _, _, _, _, _, _, _, _, _, _, _, _, _, _, _, _, _, _, _, _, _, _, _, _, _, _, _, _, x 0, x 1, x 2, x 3, x 4, x 5, x 6, x 7, x 8, x 9, _, _, _, _, _, _, _], []⟩ : Act) v
            refine wpOp_step rfl (fun K' hK' => ?_)
            go_simp
            exact hK' _ _ (hK _ _ (Below.refl _ _) (at_of rfl (rfl)))
          · obtain ⟨x, rfl⟩ := upd_of (show x 1 = .pointer (some ⟨D, 0, none⟩) from hd 1 _ (by simp) (by decide) (by decide) rfl)
            show wpOp Try.prog _ _ 2 K (⟨#[_, _, _, _, _, _, _, _, _, _, _, _, _, _, _, _, _, _, _, _, _, _, _, _, _, _, _, _, _, _, x 0, .pointer (some ⟨D, 0, none⟩), x 2, x 3, x 4, x 5, x 6, x 7, x 8, x 9, _, _, _, _, _, _, _], []⟩ : Act) v
            have q := hc.2 0 _ rfl
            refine wpOp_step rfl (fun K' hK' => ?_)
            go_simp
            exact hK' _ _ (hK _ _ (Below.refl _ _) (at_of rfl (rfl)))
          · obtain ⟨x, rfl⟩ := upd_of (show x 2 = .int .i64 lw from hd 2 _ (by simp) (by decide) (by decide) rfl)
            show wpOp Try.prog _ _ 3 K (⟨#[_, _, _, _, _, _, _, _, _, _, _, _, _, _, _, _, _, _, _, _, _, _, _, _, _, _, _, _, _, _, x 0, x 1, .int .i64 lw, x 3, x 4, x 5, x 6, x 7, x 8, x 9, _, _, _, _, _, _, _], []⟩ : Act) v
            refine wpOp_step rfl (fun K' hK' => ?_)
            go_simp
            have gA := Gr.al v (.cells (List.toArray [.int .i64 lw]) 3)
            exact hK' _ _ (hK _ _ gA (at_of rfl ⟨v.heap.size, rfl, Nat.le_of_lt hc.1, Box.new v [.int .i64 lw] 3 v.heap.size rfl⟩))
          · show wpOp Try.prog _ _ 5 K (⟨#[_, _, _, _, _, _, _, _, _, _, _, _, _, _, _, _, _, _, _, _, _, _, _, _, _, _, _, _, _, _, x 0, x 1, x 2, x 3, x 4, x 5, x 6, x 7, x 8, x 9, _, _, _, _, _, _, _], []⟩ : Act) v
            refine wpOp_step rfl (fun K' hK' => ?_)
            go_simp
            exact hK' _ _ (hK _ _ (Below.refl _ _) (at_of rfl (rfl)))
          · show wpOp Try.prog _ _ 6 K (⟨#[_, _, _, _, _, _, _, _, _, _, _, _, _, _, _, _, _, _, _, _, _, _, _, _, _, _, _, _, _, _, x 0, x 1, x 2, x 3, x 4, x 5, x 6, x 7, x 8, x 9, _, _, _, _, _, _, _], []⟩ : Act) v
            refine wpOp_step rfl (fun K' hK' => ?_)
            go_simp
            exact hK' _ _ (hK _ _ (Below.refl _ _) (at_of rfl (rfl)))
          · obtain ⟨x, rfl⟩ := upd_of (show x 6 = .pointer (some ⟨D, 1, none⟩) from hd 6 _ (by simp) (by decide) (by decide) rfl)
            show wpOp Try.prog _ _ 7 K (⟨#[_, _, _, _, _, _, _, _, _, _, _, _, _, _, _, _, _, _, _, _, _, _, _, _, _, _, _, _, _, _, x 0, x 1, x 2, x 3, x 4, x 5, .pointer (some ⟨D, 1, none⟩), x 7, x 8, x 9, _, _, _, _, _, _, _], []⟩ : Act) v
            have q := hc.2 1 _ rfl
            refine wpOp_step rfl (fun K' hK' => ?_)
            go_simp
            exact hK' _ _ (hK _ _ (Below.refl _ _) (at_of rfl (rfl)))
          · obtain ⟨x, rfl⟩ := upd_of (show x 7 = .int .i64 hw from hd 7 _ (by simp) (by decide) (by decide) rfl)
            show wpOp Try.prog _ _ 8 K (⟨#[_, _, _, _, _, _, _, _, _, _, _, _, _, _, _, _, _, _, _, _, _, _, _, _, _, _, _, _, _, _, x 0, x 1, x 2, x 3, x 4, x 5, x 6, .int .i64 hw, x 8, x 9, _, _, _, _, _, _, _], []⟩ : Act) v
            refine wpOp_step rfl (fun K' hK' => ?_)
            go_simp
            have gA := Gr.al v (.cells (List.toArray [.int .i64 hw]) 3)
            exact hK' _ _ (hK _ _ gA (at_of rfl ⟨v.heap.size, rfl, Nat.le_of_lt hc.1, Box.new v [.int .i64 hw] 3 v.heap.size rfl⟩))
        case ppA =>
          rintro x v hc ⟨gv, o1, o2⟩ hd K hK
          obtain ⟨x, rfl⟩ := upd_of (show x 0 = u7 from hd 0 _ (by simp) (by decide) (by decide) rfl)
          obtain ⟨b3, e3, hb3, hx3⟩ := hd 3 _ (by simp) (by decide) (by decide) rfl
          obtain ⟨x, rfl⟩ := upd_of (show x 3 = .slice (some ⟨b3, 0, none⟩) 1 1 from e3)
          show wpOp Try.prog _ _ 4 K (⟨#[_, _, _, _, _, _, _, _, _, _, _, _, _, _, _, _, _, _, _, _, _, _, _, _, _, _, _, _, _, _, u7, x 1, x 2, .slice (some ⟨b3, 0, none⟩) 1 1, x 4, x 5, x 6, x 7, x 8, x 9, _, _, _, _, _, _, _], []⟩ : Act) v
          refine wpOp_step rfl (fun K' hK' => ?_)
          refine step_append_lies _ (by rfl) _ _ 24 (by rfl) B0 3 i0 (.int .i64 0) 1 8 Try.underlying24 hi hz0 hz1 hz2 rfl (by decide) u7 k _ (by rfl) o1 ⟨b3, 0, none⟩ 1 1 ([lw].map (fun n => Value.int .i64 n)) (by rfl) (by rfl) (fun j u hu => by have := hx3.2 j u hu; unfold Addr.add; split <;> simp_all) (ints_one _) (by omega) k1 k2 ?_ _ rfl ?_
          · have := gv.size
            omega
          intro g cp w4 o4 hg4 ha4 hl4
          have hkx : Kx (fun b => b < D) v w4 := Kx.grown hg4 (fun r e => .inl (hsD r e).2)
          have gY := gv.grown' o1 (by omega) hg4
          have hap4 : Apart (.slice (some ⟨g, 0, none⟩) (k + 1) cp) u8 := (Apart.after hap.symm ha4 (fun b e => (o2.lt b e).2)).symm
          exact hK' _ _ (hK _ _ hkx ⟨gY, (by rw [HA.out, flat_snoc]; exact o4), owns_apart o2 hg4 hap.symm, hap4⟩)
        case qqA =>
          rintro x v hc ⟨gv, o1, o2, hap1⟩ hd K hK
          obtain ⟨r1, hr1⟩ : ∃ r, x 4 = r := ⟨_, rfl⟩
          rw [hr1] at o1 hap1 hK
          obtain ⟨x, rfl⟩ := upd_of hr1
          obtain ⟨x, rfl⟩ := upd_of (show x 5 = u8 from hd 5 _ (by simp) (by decide) (by decide) rfl)
          obtain ⟨b8, e8, hb8, hx8⟩ := hd 8 _ (by simp) (by decide) (by decide) rfl
          obtain ⟨x, rfl⟩ := upd_of (show x 8 = .slice (some ⟨b8, 0, none⟩) 1 1 from e8)
          show wpOp Try.prog _ _ 9 K (⟨#[_, _, _, _, _, _, _, _, _, _, _, _, _, _, _, _, _, _, _, _, _, _, _, _, _, _, _, _, _, _, x 0, x 1, x 2, x 3, r1, u8, x 6, x 7, .slice (some ⟨b8, 0, none⟩) 1 1, x 9, _, _, _, _, _, _, _], []⟩ : Act) v
          refine wpOp_step rfl (fun K' hK' => ?_)
          refine step_append_lies _ (by rfl) _ _ 24 (by rfl) B0 3 i0 (.int .i64 0) 1 8 Try.underlying24 hi hz0 hz1 hz2 rfl (by decide) u8 k _ (by rfl) o2 ⟨b8, 0, none⟩ 1 1 ([hw].map (fun n => Value.int .i64 n)) (by rfl) (by rfl) (fun j u hu => by have := hx8.2 j u hu; unfold Addr.add; split <;> simp_all) (ints_one _) (by omega) k1 k2 ?_ _ rfl ?_
          · have := gv.size
            omega
          intro g cp w4 o4 hg4 ha4 hl4
          have hkx : Kx (fun b => b < D) v w4 := Kx.grown hg4 (fun r e => .inl (htD r e).2)
          have gY := gv.grown' o2 (by omega) hg4
          have hap4 : Apart r1 (.slice (some ⟨g, 0, none⟩) (k + 1) cp) := Apart.after hap1 ha4 (fun b e => (o1.lt b e).2)
          exact hK' _ _ (hK _ _ hkx ⟨gY, owns_apart o1 hg4 hap1, (by rw [HH.out, flat_snoc]; exact o4), hap4⟩)
        case finA =>
          rintro x v hc ⟨gv, o1, o2, hap1⟩ hd
          clear hd
          obtain ⟨r1, hr1⟩ : ∃ r, x 4 = r := ⟨_, rfl⟩
          obtain ⟨r2, hr2⟩ : ∃ r, x 9 = r := ⟨_, rfl⟩
          rw [hr1, hr2] at hap1
          rw [hr1] at o1
          rw [hr2] at o2
          obtain ⟨x, rfl⟩ := upd_of hr1
          obtain ⟨x, rfl⟩ := upd_of (show x 9 = r2 from by rw [← hr2, upd_ne]; decide)
          show wpList Try.prog _ _ (List.drop 10 _) (⟨#[_, _, _, _, _, _, _, _, _, _, _, _, _, _, _, _, _, _, _, _, _, _, _, _, _, _, _, _, _, _, x 0, x 1, x 2, x 3, r1, x 5, x 6, x 7, x 8, r2, _, _, _, _, _, _, _], []⟩ : Act) v
          simp only [List.drop_succ_cons, List.drop_zero]
          go_wp2
          go_roundw
          case rel => exact Lib.hid ⟨k + 1, by omega, by go_num, gv, o1, o2, hap1⟩
          case measure => simp [intOf]; omega
      · obtain ⟨e1, e2⟩ : 0 = lw ∧ 100000 = hw := by
          have : ((0 : Int), (100000 : Int)) = (lw, hw) := by rw [← htr]; unfold truthAt; rw [List.getElem?_eq_none (by omega)]
          injection this with e1 e2
          exact ⟨e1, e2⟩
        have HE := Lib.hid (And.intro e1 e2)
        clear e1 e2
        go_upto_region 8 with fail
        have gX := Gr.al wr (.cells #[.int .i64 0, .int .i64 100000] 45)
        have oX := Box.new wr [.int .i64 0, .int .i64 100000] 45 wr.heap.size rfl
        obtain ⟨D, hD⟩ : ∃ D, D = wr.heap.size := ⟨_, rfl⟩
        rw [← hD] at oX ⊢
        have oX : Box (wr.alloc (.cells #[.int .i64 0, .int .i64 100000] 45)) D [.int .i64 lw, .int .i64 hw] := by rw [← HE.out.1, ← HE.out.2]; exact oX
        clear HE htr
        clear q0 q1 q2 q3
        have k1 : k + 1 ≤ maxLen := by unfold maxLen; omega
        have k2 : (k + 1) * 8 ≤ 140737488355328 := by omega
        have hsD : ∀ b, u7.ownBlock = some b → B0 ≤ b ∧ b < D := fun b e => by have := oA.lt b e; omega
        have htD : ∀ b, u8.ownBlock = some b → B0 ≤ b ∧ b < D := fun b e => by have := oR.lt b e; omega
        have hD1 : wr.heap.size ≤ D ∧ D ≤ wr.heap.size := by omega
        clear hD
        refine wp_abs (fun X => Gr wr X ∧ Box X D [.int .i64 lw, .int .i64 hw]) ⟨gX, oX⟩ ?_
        clear gX oX
        rintro X ⟨gX, hbx⟩
        have oA := owns_keep oA gX
        have oR := owns_keep oR gX
        have gX := gW.tr gX
        refine (show (∀ y : Nat → Value, Code.wp Try.prog _ _ ⟨#[s 0, .slice a l.length cap, .int .i64 off, .pointer (some ⟨w.heap.size, 0, none⟩), s 4, s 5, s 6, u7, u8, .int .i64 (k : Int), .pointer (some ⟨D, 0, none⟩), s 11, s 12, y 13, y 14, y 15, y 16, y 17, y 18, y 19, y 20, y 21, y 22, y 23, y 24, y 25, y 26, y 27, y 28, y 29, y 30, y 31, y 32, y 33, y 34, y 35, y 36, y 37, y 38, y 39, undef, undef, undef, undef, undef, undef, undef], []⟩ _) → _ from fun h => h ((fun l : List Value => fun i => l.getD i undef) [undef, undef, undef, undef, undef, undef, undef, undef, undef, undef, undef, undef, undef, _, _, _, _, _, _, _, _, _, _, _, _, _, _, _, _, _, _, _, _, _, _, _, _, _, _, _])) ?_
        intro y
        dsimp only
        refine wp_region_two (fun b => b < D) 10 4 9 [(2, 1), (3, 2), (4, 0), (4, 3), (7, 6), (8, 7), (9, 5), (9, 8), (9, 4)] (fun x => ⟨#[s 0, .slice a l.length cap, .int .i64 off, .pointer (some ⟨w.heap.size, 0, none⟩), s 4, s 5, s 6, u7, u8, .int .i64 (k : Int), .pointer (some ⟨D, 0, none⟩), s 11, s 12, y 13, y 14, y 15, y 16, y 17, y 18, y 19, y 20, y 21, y 22, y 23, y 24, y 25, y 26, y 27, y 28, y 29, x 0, x 1, x 2, x 3, x 4, x 5, x 6, x 7, x 8, x 9, undef, undef, undef, undef, undef, undef, undef], []⟩) (fun i => [y 30, y 31, y 32, y 33, y 34, y 35, y 36, y 37, y 38, y 39].getD i undef) [fun _ x => x = u7, fun _ x => x = .pointer (some ⟨D, 0, none⟩), fun _ x => x = .int .i64 lw, fun v x => ∃ b, x = .slice (some ⟨b, 0, none⟩) 1 1 ∧ D ≤ b ∧ Box v b [.int .i64 lw], fun _ _ => True, fun _ x => x = u8, fun _ x => x = .pointer (some ⟨D, 1, none⟩), fun _ x => x = .int .i64 hw, fun v x => ∃ b, x = .slice (some ⟨b, 0, none⟩) 1 1 ∧ D ≤ b ∧ Box v b [.int .i64 hw], fun _ _ => True] (fun v => Box v D [.int .i64 lw, .int .i64 hw]) (fun v => Gr U v ∧ v.ownsRow B0 3 1 u7 k ((endsL false off l k).flatMap encI) ∧ v.ownsRow B0 3 1 u8 k ((endsL true off l k).flatMap encI)) (fun v x => Gr U v ∧ v.ownsRow B0 3 1 x (k + 1) ((endsL false off l (k + 1)).flatMap encI) ∧ v.ownsRow B0 3 1 u8 k ((endsL true off l k).flatMap encI) ∧ Apart x u8) (fun v x y => Gr U v ∧ v.ownsRow B0 3 1 x (k + 1) ((endsL false off l (k + 1)).flatMap encI) ∧ v.ownsRow B0 3 1 y (k + 1) ((endsL true off l (k + 1)).flatMap encI) ∧ Apart x y) (by rfl) (by kernel_rfl) (by kernel_rfl) (by kernel_rfl) (by simp) (by omega) (by omega) (by omega) (staysZ_cons (StaysZ.eq _ _) (staysZ_cons (StaysZ.eq _ _) (staysZ_cons (StaysZ.eq _ _) (staysZ_cons (show StaysZ (fun b => b < D) (fun v x => ∃ b, x = .slice (some ⟨b, 0, none⟩) 1 1 ∧ D ≤ b ∧ Box v b [.int .i64 lw]) from fun v v' x g ⟨b, h, h1, h2⟩ => ⟨b, h, h1, h2.kx g (by omega)⟩) (staysZ_cons (fun _ _ _ _ _ => trivial) (staysZ_cons (StaysZ.eq _ _) (staysZ_cons (StaysZ.eq _ _) (staysZ_cons (StaysZ.eq _ _) (staysZ_cons (show StaysZ (fun b => b < D) (fun v x => ∃ b, x = .slice (some ⟨b, 0, none⟩) 1 1 ∧ D ≤ b ∧ Box v b [.int .i64 hw]) from fun v v' x g ⟨b, h, h1, h2⟩ => ⟨b, h, h1, h2.kx g (by omega)⟩) (staysZ_cons (fun _ _ _ _ _ => trivial) staysZ_nil))))))))))
          (fun v v' g h => h.kx g (by omega)) (fun v v' g h => ⟨h.1.tr g, owns_keep h.2.1 g, owns_keep h.2.2 g⟩) (fun v v' x g h => ⟨h.1.tr g, owns_keep h.2.1 g, owns_keep h.2.2.1 g, h.2.2.2⟩) (fun v v' x y g h => ⟨h.1.tr g, owns_keep h.2.1 g, owns_keep h.2.2.1 g, h.2.2.2⟩) (hbx.keep (Gr.dr _)) ⟨gX.tr (Gr.dr _), owns_keep oA (Gr.dr _), owns_keep oR (Gr.dr _)⟩ ?stepB ?ppB ?qqB ?finB
        case stepB =>
          rintro i hi np nq x v hc hd K hK
          have hi8 : i = 0 ∨ i = 1 ∨ i = 2 ∨ i = 3 ∨ i = 5 ∨ i = 6 ∨ i = 7 ∨ i = 8 := by omega
          rcases hi8 with rfl | rfl | rfl | rfl | rfl | rfl | rfl | rfl
          · show wpOp Try.prog _ _ 0 K (⟨#[_, _, _, _, _, _, _, _, _, _, _, _, _, _, _, _, _, _, _, _, _, _, _, _, _, _, _, _, _, _, x 0, x 1, x 2, x 3, x 4, x 5, x 6, x 7, x 8, x 9, _, _, _, _, _, _, _], []⟩ : Act) v
            refine wpOp_step rfl (fun K' hK' => ?_)
            go_simp
            exact hK' _ _ (hK _ _ (Below.refl _ _) (at_of rfl (rfl)))
          · show wpOp Try.prog _ _ 1 K (⟨#[_, _, _, _, _, _, _, _, _, _, _, _, _, _, _, _, _, _, _, _, _, _, _, _, _, _, _, _, _, _, x 0, x 1, x 2, x 3, x 4, x 5, x 6, x 7, x 8, x 9, _, _, _, _, _, _, _], []⟩ : Act) v
            refine wpOp_step rfl (fun K' hK' => ?_)
            go_simp
            exact hK' _ _ (hK _ _ (Below.refl _ _) (at_of rfl (rfl)))
          · obtain ⟨x, rfl⟩ := upd_of (show x 1 = .pointer (some ⟨D, 0, none⟩) from hd 1 _ (by simp) (by decide) (by decide) rfl)
            show wpOp Try.prog _ _ 2 K (⟨#[_, _, _, _, _, _, _, _, _, _, _, _, _, _, _, _, _, _, _, _, _, _, _, _, _, _, _, _, _, _, x 0, .pointer (some ⟨D, 0, none⟩), x 2, x 3, x 4, x 5, x 6, x 7, x 8, x 9, _, _, _, _, _, _, _], []⟩ : Act) v
            have q := hc.2 0 _ rfl
            refine wpOp_step rfl (fun K' hK' => ?_)
            go_simp
            exact hK' _ _ (hK _ _ (Below.refl _ _) (at_of rfl (rfl)))
          · obtain ⟨x, rfl⟩ := upd_of (show x 2 = .int .i64 lw from hd 2 _ (by simp) (by decide) (by decide) rfl)
            show wpOp Try.prog _ _ 3 K (⟨#[_, _, _, _, _, _, _, _, _, _, _, _, _, _, _, _, _, _, _, _, _, _, _, _, _, _, _, _, _, _, x 0, x 1, .int .i64 lw, x 3, x 4, x 5, x 6, x 7, x 8, x 9, _, _, _, _, _, _, _], []⟩ : Act) v
            refine wpOp_step rfl (fun K' hK' => ?_)
            go_simp
            have gA := Gr.al v (.cells (List.toArray [.int .i64 lw]) 3)
            exact hK' _ _ (hK _ _ gA (at_of rfl ⟨v.heap.size, rfl, Nat.le_of_lt hc.1, Box.new v [.int .i64 lw] 3 v.heap.size rfl⟩))
          · show wpOp Try.prog _ _ 5 K (⟨#[_, _, _, _, _, _, _, _, _, _, _, _, _, _, _, _, _, _, _, _, _, _, _, _, _, _, _, _, _, _, x 0, x 1, x 2, x 3, x 4, x 5, x 6, x 7, x 8, x 9, _, _, _, _, _, _, _], []⟩ : Act) v
            refine wpOp_step rfl (fun K' hK' => ?_)
            go_simp
            exact hK' _ _ (hK _ _ (Below.refl _ _) (at_of rfl (rfl)))
          · show wpOp Try.prog _ _ 6 K (⟨#[_, _, _, _, _, _, _, _, _, _, _, _, _, _, _, _, _, _, _, _, _, _, _, _, _, _, _, _, _, _, x 0, x 1, x 2, x 3, x 4, x 5, x 6, x 7, x 8, x 9, _, _, _, _, _, _, _], []⟩ : Act) v
            refine wpOp_step rfl (fun K' hK' => ?_)
            go_simp
            exact hK' _ _ (hK _ _ (Below.refl _ _) (at_of rfl (rfl)))
          · obtain ⟨x, rfl⟩ := upd_of (show x 6 = .pointer (some ⟨D, 1, none⟩) from hd 6 _ (by simp) (by decide) (by decide) rfl)
            show wpOp Try.prog _ _ 7 K (⟨#[_, _, _, _, _, _, _, _, _, _, _, _, _, _, _, _, _, _, _, _, _, _, _, _, _, _, _, _, _, _, x 0, x 1, x 2, x 3, x 4, x 5, .pointer (some ⟨D, 1, none⟩), x 7, x 8, x 9, _, _, _, _, _, _, _], []⟩ : Act) v
            have q := hc.2 1 _ rfl
            refine wpOp_step rfl (fun K' hK' => ?_)
            go_simp
            exact hK' _ _ (hK _ _ (Below.refl _ _) (at_of rfl (rfl)))
          · obtain ⟨x, rfl⟩ := upd_of (show x 7 = .int .i64 hw from hd 7 _ (by simp) (by decide) (by decide) rfl)
            show wpOp Try.prog _ _ 8 K (⟨#[_, _, _, _, _, _, _, _, _, _, _, _, _, _, _, _, _, _, _, _, _, _, _, _, _, _, _, _, _, _, x 0, x 1, x 2, x 3, x 4, x 5, x 6, .int .i64 hw, x 8, x 9, _, _, _, _, _, _, _], []⟩ : Act) v
            refine wpOp_step rfl (fun K' hK' => ?_)
            go_simp
            have gA := Gr.al v (.cells (List.toArray [.int .i64 hw]) 3)
            exact hK' _ _ (hK _ _ gA (at_of rfl ⟨v.heap.size, rfl, Nat.le_of_lt hc.1, Box.new v [.int .i64 hw] 3 v.heap.size rfl⟩))
        case ppB =>
          rintro x v hc ⟨gv, o1, o2⟩ hd K hK
          obtain ⟨x, rfl⟩ := upd_of (show x 0 = u7 from hd 0 _ (by simp) (by decide) (by decide) rfl)
          obtain ⟨b3, e3, hb3, hx3⟩ := hd 3 _ (by simp) (by decide) (by decide) rfl
          obtain ⟨x, rfl⟩ := upd_of (show x 3 = .slice (some ⟨b3, 0, none⟩) 1 1 from e3)
          show wpOp Try.prog _ _ 4 K (⟨#[_, _, _, _, _, _, _, _, _, _, _, _, _, _, _, _, _, _, _, _, _, _, _, _, _, _, _, _, _, _, u7, x 1, x 2, .slice (some ⟨b3, 0, none⟩) 1 1, x 4, x 5, x 6, x 7, x 8, x 9, _, _, _, _, _, _, _], []⟩ : Act) v
          refine wpOp_step rfl (fun K' hK' => ?_)
          refine step_append_lies _ (by rfl) _ _ 24 (by rfl) B0 3 i0 (.int .i64 0) 1 8 Try.underlying24 hi hz0 hz1 hz2 rfl (by decide) u7 k _ (by rfl) o1 ⟨b3, 0, none⟩ 1 1 ([lw].map (fun n => Value.int .i64 n)) (by rfl) (by rfl) (fun j u hu => by have := hx3.2 j u hu; unfold Addr.add; split <;> simp_all) (ints_one _) (by omega) k1 k2 ?_ _ rfl ?_
          · have := gv.size
            omega
          intro g cp w4 o4 hg4 ha4 hl4
          have hkx : Kx (fun b => b < D) v w4 := Kx.grown hg4 (fun r e => .inl (hsD r e).2)
          have gY := gv.grown' o1 (by omega) hg4
          have hap4 : Apart (.slice (some ⟨g, 0, none⟩) (k + 1) cp) u8 := (Apart.after hap.symm ha4 (fun b e => (o2.lt b e).2)).symm
          exact hK' _ _ (hK _ _ hkx ⟨gY, (by rw [HA.out, flat_snoc]; exact o4), owns_apart o2 hg4 hap.symm, hap4⟩)
        case qqB =>
          rintro x v hc ⟨gv, o1, o2, hap1⟩ hd K hK
          obtain ⟨r1, hr1⟩ : ∃ r, x 4 = r := ⟨_, rfl⟩
          rw [hr1] at o1 hap1 hK
          obtain ⟨x, rfl⟩ := upd_of hr1
          obtain ⟨x, rfl⟩ := upd_of (show x 5 = u8 from hd 5 _ (by simp) (by decide) (by decide) rfl)
          obtain ⟨b8, e8, hb8, hx8⟩ := hd 8 _ (by simp) (by decide) (by decide) rfl
          obtain ⟨x, rfl⟩ := upd_of (show x 8 = .slice (some ⟨b8, 0, none⟩) 1 1 from e8)
          show wpOp Try.prog _ _ 9 K (⟨#[_, _, _, _, _, _, _, _, _, _, _, _, _, _, _, _, _, _, _, _, _, _, _, _, _, _, _, _, _, _, x 0, x 1, x 2, x 3, r1, u8, x 6, x 7, .slice (some ⟨b8, 0, none⟩) 1 1, x 9, _, _, _, _, _, _, _], []⟩ : Act) v
          refine wpOp_step rfl (fun K' hK' => ?_)
          refine step_append_lies _ (by rfl) _ _ 24 (by rfl) B0 3 i0 (.int .i64 0) 1 8 Try.underlying24 hi hz0 hz1 hz2 rfl (by decide) u8 k _ (by rfl) o2 ⟨b8, 0, none⟩ 1 1 ([hw].map (fun n => Value.int .i64 n)) (by rfl) (by rfl) (fun j u hu => by have := hx8.2 j u hu; unfold Addr.add; split <;> simp_all) (ints_one _) (by omega) k1 k2 ?_ _ rfl ?_
          · have := gv.size
            omega
          intro g cp w4 o4 hg4 ha4 hl4
          have hkx : Kx (fun b => b < D) v w4 := Kx.grown hg4 (fun r e => .inl (htD r e).2)
          have gY := gv.grown' o2 (by omega) hg4
          have hap4 : Apart r1 (.slice (some ⟨g, 0, none⟩) (k + 1) cp) := Apart.after hap1 ha4 (fun b e => (o1.lt b e).2)
          exact hK' _ _ (hK _ _ hkx ⟨gY, owns_apart o1 hg4 hap1, (by rw [HH.out, flat_snoc]; exact o4), hap4⟩)
        case finB =>
          rintro x v hc ⟨gv, o1, o2, hap1⟩ hd
          clear hd
          obtain ⟨r1, hr1⟩ : ∃ r, x 4 = r := ⟨_, rfl⟩
          obtain ⟨r2, hr2⟩ : ∃ r, x 9 = r := ⟨_, rfl⟩
          rw [hr1, hr2] at hap1
          rw [hr1] at o1
          rw [hr2] at o2
          obtain ⟨x, rfl⟩ := upd_of hr1
          obtain ⟨x, rfl⟩ := upd_of (show x 9 = r2 from by rw [← hr2, upd_ne]; decide)
          show wpList Try.prog _ _ (List.drop 10 _) (⟨#[_, _, _, _, _, _, _, _, _, _, _, _, _, _, _, _, _, _, _, _, _, _, _, _, _, _, _, _, _, _, x 0, x 1, x 2, x 3, r1, x 5, x 6, x 7, x 8, r2, _, _, _, _, _, _, _], []⟩ : Act) v
          simp only [List.drop_succ_cons, List.drop_zero]
          go_wp2
          go_roundw
          case rel => exact Lib.hid ⟨k + 1, by omega, by go_num, gv, o1, o2, hap1⟩
          case measure => simp [intOf]; omega
    · obtain rfl : n = k := by omega
      clear hlt hk
      have e1 := endsL_len false off l n
      have e2 := endsL_len true off l n
      obtain ⟨ra, rc, hva, rA, _, _⟩ := owns_row_cap (enc := encI) (l := endsL false off l n) (fun _ => rfl) (by omega) (by rw [e1]; exact oA)
      obtain ⟨rb, rd, hvb, rB, _, _⟩ := owns_row_cap (enc := encI) (l := endsL true off l n) (fun _ => rfl) (by omega) (by rw [e2]; exact oR)
      rw [e1] at hva
      rw [e2] at hvb
      subst hva
      subst hvb
      obtain ⟨p1, hp1⟩ : ∃ p, passB false (n : Int) me lo ba (truthsL n off l) = p := ⟨_, rfl⟩
      obtain ⟨p2, hp2⟩ : ∃ p, passB true (n : Int) me lo ba (truthsL n off l) = p := ⟨_, rfl⟩
      have E : stateL (n : Int) me lo ba (truthsL n off l) = if p1 = true then 1 else if p2 = true then 3 else 2 := by unfold stateL; rw [hp1, hp2]
      have HE := Lib.hid E
      have H1 : Hid (∀ W, Gr wr W → Calls Try.prog 78 #[.agg #[.int .i64 (n : Int), .int .i64 me, .int .i64 lo, .int .i64 ba], .slice ra n rc] W fun e w' => e = .returned (.bool p1) ∧ Gr W w') := Lib.hid (fun W g => by
        have h := refPasses_any (n : Int) me lo ba (endsL false off l n) (by omega) (endsL_bd o0 o1 HB.out) (by omega) (by omega) m0 m1 ra rc W (rA.grow g)
        rw [ends_pass, hp1, e1] at h
        exact h)
      have H2 : Hid (∀ W, Gr wr W → Calls Try.prog 78 #[.agg #[.int .i64 (n : Int), .int .i64 me, .int .i64 lo, .int .i64 ba], .slice rb n rd] W fun e w' => e = .returned (.bool p2) ∧ Gr W w') := Lib.hid (fun W g => by
        have h := refPasses_any (n : Int) me lo ba (endsL true off l n) (by omega) (endsL_bd o0 o1 HB.out) (by omega) (by omega) m0 m1 rb rd W (rB.grow g)
        rw [ends_pass, hp2, e2] at h
        exact h)
      clear E hp1 hp2 e1 e2 rA rB oA oR hap
      have hbw := hb.keep gW
      obtain ⟨q0, q1, q2, q3⟩ := hbw.c4'
      have tok0 : True := trivial
      cases p1 with
      | true =>
        go_wp2_with (go_at_call 78; refine (H1.out _ (Below.refl _ _)).mono ?_; rintro e w5 ⟨rfl, g5⟩)
        go_ret
        exact ⟨by rw [HE.out]; rfl, gg.tr (gW.tr g5)⟩
      | false =>
        cases p2 with
        | true =>
          go_wp2_with (first
            | (have _t := tok0; clear tok0 _t; go_at_call 78; refine (H1.out _ (Below.refl _ _)).mono ?_; rintro e w5 ⟨rfl, g5⟩; (obtain ⟨x0, x1, x2, x3⟩ := (hbw.keep g5).c4'))
            | (go_at_call 78; refine (H2.out _ g5).mono ?_; rintro e w6 ⟨rfl, g6⟩))
          go_ret
          exact ⟨by rw [HE.out]; rfl, gg.tr (gW.tr (g5.tr g6))⟩
        | false =>
          go_wp2_with (first
            | (have _t := tok0; clear tok0 _t; go_at_call 78; refine (H1.out _ (Below.refl _ _)).mono ?_; rintro e w5 ⟨rfl, g5⟩; (obtain ⟨x0, x1, x2, x3⟩ := (hbw.keep g5).c4'))
            | (go_at_call 78; refine (H2.out _ g5).mono ?_; rintro e w6 ⟨rfl, g6⟩))
          go_ret
          exact ⟨by rw [HE.out]; rfl, gg.tr (gW.tr (g5.tr g6))⟩

end Go.Proofs.Ytcdilmagcdbogaa

namespace Go.Proofs.Ytcdilmagcdbogaa
set_option linter.unusedVariables false
set_option linter.unusedSimpArgs false
open Go.RowKit

theorem lints_at (L : List Int) (k : Nat) (hk : k ≤ L.length) (hl : L.length ≤ 1000) (b off cap : Nat) (w : World) (hr : IRow w (some ⟨b, off, none⟩) L) :
    Calls Try.prog 19 #[.slice (some ⟨b, off, none⟩) k cap] w fun e w' => ∃ a' cap', e = .returned (.slice a' k cap') ∧ IRow w' a' (L.take k) ∧ (a' = none → cap' = 0) ∧ k ≤ cap' ∧ Gr w w' := by
  have h := lints_any (L.take k) (by simp; omega) b off cap w (hr.take31 k)
  rw [List.length_take, Nat.min_eq_left hk] at h
  exact h

/-- What Decide says after so many readings. -/
def stK (T : List V2) (n : Nat) (me lo ba off : Int) (k : Nat) : Int := stateL (n : Int) me lo ba (truthsL n off ((lotRea T off n).take k))

/-- Whether the lot passes. -/
def lotP (T : List V2) (n : Nat) (me lo ba : Int) : Bool := passB false (n : Int) me lo ba (diag (lotTru T n))

theorem decide_at (T : List V2) (hT : ∀ v ∈ T, B2 v) (n : Nat) (n1 : 1 ≤ n) (n2 : n ≤ 8) (me lo ba off : Int) (m0 : 0 ≤ me) (m1 : me ≤ 255) (l0 : 0 ≤ lo) (l1 : lo ≤ 255) (b0 : 0 ≤ ba) (b1 : ba ≤ (n : Int)) (o0 : 0 ≤ off) (o1 : off ≤ 39) (k : Nat) (hk : k ≤ n)
    (a : Option Addr) (cap : Nat) (w : World) (hr : IRow w a ((lotRea T off n).take k)) (hn : a = none → cap = 0) :
    Calls Try.prog 21 #[.agg #[.int .i64 (n : Int), .int .i64 me, .int .i64 lo, .int .i64 ba], .slice a k cap, .int .i64 off] w fun e w' => e = .returned (.tuple #[.int .i64 (stK T n me lo ba off k), .int .i64 0]) ∧ Gr w w' := by
  have hl : ((lotRea T off n).take k).length = k := by rw [List.length_take, lotRea_len, Nat.min_eq_left hk]
  have h := decide_ok (n : Int) me lo ba off ((lotRea T off n).take k) (lot_rule n1 (by omega) m0 (by omega) l0 (by omega) b0 b1 o0 (by omega) (by omega) (fun r hr => by have := lotRea_mem hT o0 o1 (List.mem_of_mem_take hr); omega)) a cap w hr hn
  rw [hl, Int.toNat_natCast] at h
  exact h

theorem decide_end (T : List V2) (hT : ∀ v ∈ T, B2 v) (n : Nat) (n1 : 1 ≤ n) (n2 : n ≤ 8) (me lo ba : Int) (m0 : 0 ≤ me) (m1 : me ≤ 255) (l0 : 0 ≤ lo) (l1 : lo ≤ 255) (b0 : 0 ≤ ba) (b1 : ba ≤ (n : Int))
    (a : Option Addr) (cap : Nat) (w : World) (hr : IRow w a ((lotTru T n).take n)) (hn : a = none → cap = 0) :
    Calls Try.prog 21 #[.agg #[.int .i64 (n : Int), .int .i64 me, .int .i64 lo, .int .i64 ba], .slice a n cap, .int .i64 0] w fun e w' => e = .returned (.tuple #[.int .i64 (if lotP T n me lo ba = true then 1 else 2), .int .i64 0]) ∧ Gr w w' := by
  have hl := lotTru_len T n
  rw [List.take_of_length_le (by omega)] at hr
  have h := decide_ok (n : Int) me lo ba 0 (lotTru T n) (lot_rule n1 (by omega) m0 (by omega) l0 (by omega) b0 b1 (by omega) (by omega) (by omega) (fun r hr => by have := lotTru_mem hT hr; omega)) a cap w hr hn
  rw [hl, Int.toNat_natCast, exact_diag hT] at h
  have e : stateL (n : Int) me lo ba (diag (lotTru T n)) = if lotP T n me lo ba = true then 1 else 2 := by
    unfold lotP stateL
    rw [diag_pass true]
    split <;> rfl
  rw [e] at h
  exact h

theorem passes_at (T : List V2) (hT : ∀ v ∈ T, B2 v) (n : Nat) (n2 : n ≤ 8) (me lo ba : Int) (m0 : 0 ≤ me) (m1 : me ≤ 255) (p : Bool) (hp : lotP T n me lo ba = p) (a : Option Addr) (cap : Nat) (w : World) (hr : IRow w a (lotTru T n)) :
    Calls Try.prog 52 #[.agg #[.int .i64 (n : Int), .int .i64 me, .int .i64 lo, .int .i64 ba], .slice a n cap] w fun e w' => e = .returned (.bool p) ∧ Gr w w' := by
  have hl := lotTru_len T n
  have h := lpasses_any (n : Int) me lo ba (lotTru T n) (by omega) (fun x hx => by have := lotTru_mem hT hx; omega) (by omega) (by omega) m0 (by omega) a cap w hr
  rw [hl] at h
  rw [← hp]
  exact h

theorem sure_at (T : List V2) (hT : ∀ v ∈ T, B2 v) (n : Nat) (me lo ba off : Int) (o0 : 0 ≤ off) (o1 : off ≤ 39) (k : Nat) :
    (stK T n me lo ba off k = 3 ∨ (stK T n me lo ba off k = 1 ∧ lotP T n me lo ba = true) ∨ (stK T n me lo ba off k = 2 ∧ lotP T n me lo ba = false)) ∧ (stK T n me lo ba off k = 3 ∨ stK T n me lo ba off (k + 1) = stK T n me lo ba off k) := by
  have hw := tru_within hT o0 o1 n k
  have hw1 := tru_within hT o0 o1 n (k + 1)
  have ht := take_within n off (lotRea T off n) k
  unfold stK lotP
  by_cases h3 : stateL (n : Int) me lo ba (truthsL n off ((lotRea T off n).take k)) = 3
  · exact ⟨.inl h3, .inl h3⟩
  · refine ⟨.inr ?_, .inr (state_up ht hw1 h3)⟩
    have hi := state_in hw h3
    rcases state_bd (n : Int) me lo ba (truthsL n off ((lotRea T off n).take k)) with h | h | h
    · exact .inl ⟨h, hi.1 h⟩
    · refine .inr ⟨h, ?_⟩
      cases hp : passB false (n : Int) me lo ba (diag (lotTru T n)) with
      | false => rfl
      | true =>
        have := hi.2 hp
        omega
    · exact absurd h h3

end Go.Proofs.Ytcdilmagcdbogaa

namespace Go.Proofs.Ytcdilmagcdbogaa
set_option linter.unusedVariables false
set_option linter.unusedSimpArgs false
open Go.RowKit

/-- Truths, each one beneath the other. -/
def Beneath : List (Int × Int) → List (Int × Int) → Prop
  | [], [] => True
  | x :: l, y :: m => (x.1 ≤ y.1 ∧ x.2 ≤ y.2) ∧ Beneath l m
  | _, _ => False

theorem beneath_sum (hi : Bool) : ∀ {l m : List (Int × Int)}, Beneath l m → sumS hi l ≤ sumS hi m
  | [], [], _ => Int.le_refl _
  | x :: l, y :: m, h => by
    obtain ⟨⟨a, b⟩, c⟩ := h
    have := beneath_sum hi c
    simp only [sumS]
    cases hi <;> simp <;> omega
  | [], _ :: _, h => h.elim
  | _ :: _, [], h => h.elim

theorem beneath_bad (hi : Bool) (low : Int) : ∀ {l m : List (Int × Int)}, Beneath l m → badS hi low m ≤ badS hi low l
  | [], [], _ => Int.le_refl _
  | x :: l, y :: m, h => by
    obtain ⟨⟨a, b⟩, c⟩ := h
    have := beneath_bad hi low c
    have h1 : (if (if hi then y.2 else y.1) < low then (1 : Int) else 0) ≤ if (if hi then x.2 else x.1) < low then 1 else 0 := by
      cases hi <;> simp only [Bool.false_eq_true, if_false, if_true] <;> split <;> split <;> omega
    simp only [badS]
    omega
  | [], _ :: _, h => h.elim
  | _ :: _, [], h => h.elim

theorem beneath_pass {hi : Bool} {te me low ba : Int} {l m : List (Int × Int)} (h : Beneath l m) (hp : passB hi te me low ba l = true) : passB hi te me low ba m = true := by
  rw [passB_iff] at hp ⊢
  have h1 := beneath_sum hi h
  have h2 := beneath_bad hi low h
  omega

theorem beneath_map {f g : Nat → Int × Int} : ∀ L : List Nat, (∀ k ∈ L, (f k).1 ≤ (g k).1 ∧ (f k).2 ≤ (g k).2) → Beneath (L.map f) (L.map g)
  | [], _ => trivial
  | x :: L, h => ⟨h x List.mem_cons_self, beneath_map L (fun k hk => h k (List.mem_cons_of_mem _ hk))⟩

theorem few_pass (n : Nat) (off : Int) (l xs : List Int) (hx : ∀ x ∈ xs, x ≤ 100000) : Beneath (truthsL n off (l ++ xs)) (truthsL n off (l ++ List.replicate xs.length 100000)) := by
  refine beneath_map _ (fun i _ => ?_)
  unfold truthAt
  by_cases hi : i < l.length
  · rw [List.getElem?_append_left hi, List.getElem?_append_left hi]
    exact ⟨Int.le_refl _, Int.le_refl _⟩
  · rw [List.getElem?_append_right (by omega), List.getElem?_append_right (by omega), List.getElem?_replicate]
    cases hc : xs[i - l.length]? with
    | none =>
      have := List.getElem?_eq_none_iff.1 hc
      rw [if_neg (by omega)]
      exact ⟨Int.le_refl _, Int.le_refl _⟩
    | some r =>
      have h1 := (List.getElem?_eq_some_iff.1 hc).1
      have h2 := hx r (List.mem_of_getElem? hc)
      rw [if_pos h1]
      dsimp only
      omega

theorem few_fail (n : Nat) (off : Int) (l xs : List Int) (hx : ∀ x ∈ xs, 0 ≤ x) : Beneath (truthsL n off (l ++ List.replicate xs.length 0)) (truthsL n off (l ++ xs)) := by
  refine beneath_map _ (fun i _ => ?_)
  unfold truthAt
  by_cases hi : i < l.length
  · rw [List.getElem?_append_left hi, List.getElem?_append_left hi]
    exact ⟨Int.le_refl _, Int.le_refl _⟩
  · rw [List.getElem?_append_right (by omega), List.getElem?_append_right (by omega), List.getElem?_replicate]
    cases hc : xs[i - l.length]? with
    | none =>
      have := List.getElem?_eq_none_iff.1 hc
      rw [if_neg (by omega)]
      exact ⟨Int.le_refl _, Int.le_refl _⟩
    | some r =>
      have h1 := (List.getElem?_eq_some_iff.1 hc).1
      have h2 := hx r (List.mem_of_getElem? hc)
      rw [if_pos h1]
      dsimp only
      omega

/-- The worst and the best rest of the tests decide. -/
theorem few_sure {n : Nat} {me lo ba off : Int} {l xs : List Int} {st rd : Int} (hs : (st = 1 ∧ rd = 100000) ∨ (st = 2 ∧ rd = 0)) (hx : ∀ x ∈ xs, 0 ≤ x ∧ x ≤ 100000) (h : stateL (n : Int) me lo ba (truthsL n off (l ++ xs)) = st) : stAt n me lo ba off l rd xs.length = st := by
  unfold stAt
  rcases hs with ⟨rfl, rfl⟩ | ⟨rfl, rfl⟩
  · rw [state_one] at h ⊢
    exact beneath_pass (few_pass n off l xs (fun x hx' => (hx x hx').2)) h
  · rw [state_two] at h ⊢
    have hb := few_fail n off l xs (fun x hx' => (hx x hx').1)
    constructor
    · cases hp : passB false (n : Int) me lo ba (truthsL n off (l ++ List.replicate xs.length 0)) with
      | false => rfl
      | true =>
        rw [beneath_pass hb hp] at h
        exact absurd h.1 (by decide)
    · cases hp : passB true (n : Int) me lo ba (truthsL n off (l ++ List.replicate xs.length 0)) with
      | false => rfl
      | true =>
        rw [beneath_pass hb hp] at h
        exact absurd h.2 (by decide)

theorem need_spec {n : Nat} {me lo ba off : Int} {l : List Int} {st rd N : Int} (hl : l.length ≤ n) (hN : needL n me lo ba off l st rd = N) :
    (-1 ≤ N ∧ N ≤ (n : Int) - (l.length : Int)) ∧ (0 ≤ N → stAt n me lo ba off l rd N.toNat = st) ∧ (∀ j : Nat, ((j : Int) < N ∨ (N < 0 ∧ (j : Int) ≤ (n : Int) - (l.length : Int))) → stAt n me lo ba off l rd j ≠ st) := by
  unfold needL at hN
  cases hf : (List.range (n + 1 - l.length)).find? (fun k => decide (stAt n me lo ba off l rd k = st)) with
  | none =>
    rw [hf] at hN
    have hN' : -1 = N := hN
    subst hN'
    rw [List.find?_range_eq_none] at hf
    refine ⟨⟨by omega, by omega⟩, fun h => by omega, fun j hj => ?_⟩
    have := hf j (by omega)
    simpa using this
  | some k =>
    rw [hf] at hN
    have hN' : (k : Int) = N := hN
    subst hN'
    have hf' := List.find?_range_eq_some.1 hf
    have hk := List.mem_range.1 hf'.2.1
    refine ⟨⟨by omega, by omega⟩, fun _ => by simpa using hf'.1, fun j hj => ?_⟩
    have := hf'.2.2 j (by omega)
    simpa using this

/-- The rest of the tests by a list. -/
def anyAt (Q : List Int) (rd : Int) (i : Nat) : Int := match Q[i]? with
  | some v => v
  | none => rd

def anyL (Q : List Int) (rd : Int) (n : Nat) : List Int := (List.range n).map (anyAt Q rd)

theorem anyL_succ (Q : List Int) (rd : Int) (n : Nat) : anyL Q rd (n + 1) = anyL Q rd n ++ [anyAt Q rd n] := by simp [anyL, List.range_succ]

theorem anyL_len (Q : List Int) (rd : Int) (n : Nat) : (anyL Q rd n).length = n := by simp [anyL]

theorem anyAt_bd {Q : List Int} {rd : Int} (hQ : ∀ x ∈ Q, 0 ≤ x ∧ x ≤ 65535) (r0 : 0 ≤ rd) (r1 : rd ≤ 100000) (i : Nat) : 0 ≤ anyAt Q rd i ∧ anyAt Q rd i ≤ 100000 := by
  unfold anyAt
  split
  · rename_i v hv
    have := hQ v (List.mem_of_getElem? hv)
    omega
  · omega

theorem anyL_bd {Q : List Int} {rd : Int} (hQ : ∀ x ∈ Q, 0 ≤ x ∧ x ≤ 65535) (r0 : 0 ≤ rd) (r1 : rd ≤ 100000) {n : Nat} {x : Int} (hx : x ∈ anyL Q rd n) : 0 ≤ x ∧ x ≤ 100000 := by
  simp only [anyL, List.mem_map, List.mem_range] at hx
  obtain ⟨i, _, rfl⟩ := hx
  exact anyAt_bd hQ r0 r1 i

def encH (n : Int) : List Value := [.int .u16 n]

abbrev HRow := RowOf 1 encH

theorem HRow.get {w : World} {a : Option Addr} {l : List Int} (h : HRow w a l) {j : Nat} {x : Int} (hx : l[j]? = some x) :
    ∃ b off, a = some ⟨b, off, none⟩ ∧ b < w.heap.size ∧ w.cell? ⟨b, off + j, none⟩ = some (.int .u16 x) := by
  obtain ⟨b, off, ha, hb, hc⟩ := h.2 j x hx
  have := hc 0 (.int .u16 x) rfl
  exact ⟨b, off, ha, hb, by simpa using this⟩

/-- The copy, as a row of the call's own. -/
theorem lints_own (l : List Int) (hl : l.length ≤ 1000) (b off cap : Nat) (w : World) (hr : IRow w (some ⟨b, off, none⟩) l) :
    Calls Try.prog 19 #[.slice (some ⟨b, off, none⟩) l.length cap] w fun e w' => ∃ v, e = .returned v ∧ w'.ownsRow w.heap.size 3 1 v l.length (l.flatMap encI) ∧ Gr w w' := by
  obtain ⟨i0, hi, hz0, hz1, hz2⟩ := info_parts infoInt
  have hr1 := hr.grow (Gr.al w (.cells #[] 3))
  have h1 : 0 + l.length ≤ maxLen := by unfold maxLen; omega
  have h2 : (0 + l.length) * 8 ≤ 140737488355328 := by omega
  have hfl := flat_len (enc := encI) (sz := 1) (fun _ => rfl) l
  have hnews := row_news (enc := encI) (sz := 1) (fun _ => rfl) hr1
  have Hfl := Lib.hid hfl
  have Hnews := Lib.hid hnews
  clear hfl hnews
  go_enter Try.func19, Try.ntmps19
  go_wp2_with (at_builtin; refine wpList_append_own _ rfl _ _ 24 rfl w.heap.size 3 i0 (.int .i64 0) 1 8 Try.underlying24 hi hz0 hz1 hz2 rfl (by decide) _ _ _ rfl (owns_empty w _ _) ⟨b, off, none⟩ l.length cap (l.flatMap encI) rfl Hfl.out Hnews.out (one_flat (fun x u hu => by simp [encI] at hu; subst hu; rfl) l) h1 h2 (by simp) ?_; intro v' w1 hown hgrow _)
  have Ho := Lib.hid (show w1.ownsRow w.heap.size 3 1 v' l.length (l.flatMap encI) by simpa using hown)
  clear hown
  go_wp2
  go_ret
  exact ⟨v', rfl, Ho.out, (Gr.al w _).grown' (owns_empty w _ 1) (Nat.le_refl _) hgrow⟩

theorem lints_own_at (L : List Int) (k : Nat) (hk : k ≤ L.length) (hl : L.length ≤ 1000) (b off cap : Nat) (w : World) (hr : IRow w (some ⟨b, off, none⟩) L) :
    Calls Try.prog 19 #[.slice (some ⟨b, off, none⟩) k cap] w fun e w' => ∃ v, e = .returned v ∧ w'.ownsRow w.heap.size 3 1 v k ((L.take k).flatMap encI) ∧ Gr w w' := by
  have h := lints_own (L.take k) (by simp; omega) b off cap w (hr.take31 k)
  rw [List.length_take, Nat.min_eq_left hk] at h
  exact h

/-- Need after so many readings. -/
theorem need_at (T : List V2) (hT : ∀ v ∈ T, B2 v) (n : Nat) (n1 : 1 ≤ n) (n2 : n ≤ 8) (me lo ba off : Int) (m0 : 0 ≤ me) (m1 : me ≤ 255) (l0 : 0 ≤ lo) (l1 : lo ≤ 255) (b0 : 0 ≤ ba) (b1 : ba ≤ (n : Int)) (o0 : 0 ≤ off) (o1 : off ≤ 39) (k : Nat) (hk : k ≤ n)
    (a : Option Addr) (cap : Nat) (w : World) (hr : IRow w a ((lotRea T off n).take k)) (hn : a = none → cap = 0) :
    Calls Try.prog 22 #[.agg #[.int .i64 (n : Int), .int .i64 me, .int .i64 lo, .int .i64 ba], .slice a k cap, .int .i64 off] w fun e w' => e = .returned (.tuple #[.int .i64 (needL n me lo ba off ((lotRea T off n).take k) 1 100000), .int .i64 (needL n me lo ba off ((lotRea T off n).take k) 2 0), .int .i64 0]) ∧ Gr w w' := by
  have hl : ((lotRea T off n).take k).length = k := by rw [List.length_take, lotRea_len, Nat.min_eq_left hk]
  have h := needF_ok (n : Int) me lo ba off ((lotRea T off n).take k) (lot_rule n1 (by omega) m0 (by omega) l0 (by omega) b0 b1 o0 (by omega) (by omega) (fun r hr => by have := lotRea_mem hT o0 o1 (List.mem_of_mem_take hr); omega)) a cap w hr hn
  rw [hl, Int.toNat_natCast] at h
  exact h

/-- Decide of the readings and some more. -/
theorem decide_more (l : List Int) (n : Nat) (n1 : 1 ≤ n) (n2 : n ≤ 8) (me lo ba off : Int) (m0 : 0 ≤ me) (m1 : me ≤ 255) (l0 : 0 ≤ lo) (l1 : lo ≤ 255) (b0 : 0 ≤ ba) (b1 : ba ≤ (n : Int)) (o0 : 0 ≤ off) (o1 : off ≤ 39) (k : Nat) (hk : l.length = k) (hkn : k ≤ n) (hB : ∀ r ∈ l, 0 ≤ r ∧ r ≤ 100000)
    (s : Int) (hs : stateL (n : Int) me lo ba (truthsL n off l) = s) (a : Option Addr) (cap : Nat) (w : World) (hr : IRow w a l) (hn : a = none → cap = 0) :
    Calls Try.prog 21 #[.agg #[.int .i64 (n : Int), .int .i64 me, .int .i64 lo, .int .i64 ba], .slice a k cap, .int .i64 off] w fun e w' => e = .returned (.tuple #[.int .i64 s, .int .i64 0]) ∧ Gr w w' := by
  have h := decide_ok (n : Int) me lo ba off l (lot_rule n1 (by omega) m0 (by omega) l0 (by omega) b0 b1 o0 (by omega) (by omega) hB) a cap w hr hn
  rw [hk, Int.toNat_natCast, hs] at h
  exact h

end Go.Proofs.Ytcdilmagcdbogaa

namespace Go.Proofs.Ytcdilmagcdbogaa
set_option linter.unusedVariables false
set_option linter.unusedSimpArgs false
open Go.RowKit

set_option maxRecDepth 100000 in
theorem lints_gen (l : List Int) (hl : l.length ≤ 1000) (a : Option Addr) (cap : Nat) (w : World) (hr : IRow w a l) :
    Calls Try.prog 19 #[.slice a l.length cap] w fun e w' => ∃ a' cap', e = .returned (.slice a' l.length cap') ∧ IRow w' a' l ∧ (a' = none → cap' = 0) ∧ l.length ≤ cap' ∧ Gr w w' := by
  cases a with
  | none =>
    obtain rfl : l = [] := irow_nil hr
    go_enter Try.func19, Try.ntmps19
    go_wp2
    go_ret
    exact ⟨some ⟨w.heap.size, 0, none⟩, 0, rfl, RowOf.nil, fun h => (by cases h), Nat.le_refl _, Gr.al _ _⟩
  | some ad =>
    rcases Nat.eq_zero_or_pos l.length with h0 | h0
    · obtain rfl : l = [] := List.eq_nil_of_length_eq_zero h0
      obtain ⟨i0, hi, hz0, hz1, hz2⟩ := info_parts infoInt
      go_enter Try.func19, Try.ntmps19
      go_wp2_with (at_builtin; refine wpList_append_own _ rfl _ _ 24 rfl w.heap.size 3 i0 (.int .i64 0) 1 8 Try.underlying24 hi hz0 hz1 hz2 rfl (by decide) _ _ _ rfl (owns_empty w _ _) ad 0 cap [] rfl rfl (fun j u h => by simp at h) (fun u h => by cases h) (by decide) (by decide) (by simp) ?_; intro v' w1 hown hgrow _)
      obtain ⟨a', cap', hv, hr2, hn2, hc2⟩ := owns_row_cap (enc := encI) (l := []) (fun _ => rfl) (by simp) (by simpa using hown)
      subst hv
      have Hr2 := Lib.hid hr2
      have Hn2 := Lib.hid hn2
      clear hr2 hn2 hown
      go_wp2
      go_ret
      first | exact ⟨a', cap', rfl, Hr2.out, Hn2.out, Nat.zero_le _, (Gr.al w _).grown' (owns_empty w _ 1) (Nat.le_refl _) hgrow⟩ | exact ⟨a', cap', rfl, Hr2.out, Hn2.out, (Gr.al w _).grown' (owns_empty w _ 1) (Nat.le_refl _) hgrow⟩
    · obtain ⟨b, off, e, _⟩ := hr.addr h0
      injection e with e
      subst e
      exact lints_any l hl b off cap w hr

theorem needL_some {n : Nat} {me lo ba off : Int} {l : List Int} {st rd : Int} {k : Nat} (hk : l.length + k ≤ n) (h : stAt n me lo ba off l rd k = st) (hb : ∀ j, j < k → stAt n me lo ba off l rd j ≠ st) : needL n me lo ba off l st rd = (k : Int) := by
  have hf : (List.range (n + 1 - l.length)).find? (fun k => decide (stAt n me lo ba off l rd k = st)) = some k := by
    rw [List.find?_range_eq_some]
    exact ⟨by simp [h], List.mem_range.2 (by omega), fun j hj => by simpa using hb j hj⟩
  unfold needL
  rw [hf]

theorem needL_none {n : Nat} {me lo ba off : Int} {l : List Int} {st rd : Int} (hb : ∀ j, j < n + 1 - l.length → stAt n me lo ba off l rd j ≠ st) : needL n me lo ba off l st rd = -1 := by
  have hf : (List.range (n + 1 - l.length)).find? (fun k => decide (stAt n me lo ba off l rd k = st)) = none := by
    rw [List.find?_range_eq_none]
    intro j hj
    simpa using hb j hj
  unfold needL
  rw [hf]

set_option maxRecDepth 100000 in
set_option maxHeartbeats 8000000 in
theorem refNeed_any (n : Nat) (me lo ba off : Int) (l : List Int) (st rd : Int) (n1 : 1 ≤ n) (n2 : n ≤ 20) (m0 : 0 ≤ me) (m1 : me ≤ 100000) (o0 : 0 ≤ off) (o1 : off ≤ 1000) (hl : l.length ≤ n) (hB : ∀ r ∈ l, 0 ≤ r ∧ r ≤ 100000) (rd0 : 0 ≤ rd) (rd1 : rd ≤ 100000) (a : Option Addr) (cap : Nat) (w : World) (hr : IRow w a l) :
    Calls Try.prog 26 #[.agg #[.int .i64 (n : Int), .int .i64 me, .int .i64 lo, .int .i64 ba], .slice a l.length cap, .int .i64 off, .int .i64 rd, .int .i64 st] w fun e w' => e = .returned (.int .i64 (needL n me lo ba off l st rd)) ∧ Gr w w' := by
  have gg := Gr.al w (.cells #[.int .i64 (n : Int), .int .i64 me, .int .i64 lo, .int .i64 ba] 23)
  have hb := Box.new w [.int .i64 (n : Int), .int .i64 me, .int .i64 lo, .int .i64 ba] 23 w.heap.size rfl
  have HB := Lib.hid hB
  clear hB
  obtain ⟨i0, hi, hz0, hz1, hz2⟩ := info_parts infoInt
  go_enter Try.func26, Try.ntmps26
  go_upto_region 1 with fail
  refine wp_abs (fun U => Gr w U ∧ Box U w.heap.size [.int .i64 (n : Int), .int .i64 me, .int .i64 lo, .int .i64 ba]) ⟨gg, hb⟩ ?_
  clear gg hb
  rintro U ⟨gg, hb⟩
  have hrU := hr.grow gg
  obtain ⟨B0, hB0⟩ : ∃ B0, B0 = U.heap.size := ⟨_, rfl⟩
  have hB1 : U.heap.size ≤ B0 ∧ B0 ≤ U.heap.size := by omega
  have g1 := Gr.al U (.cells #[] 3)
  have oE := owns_empty U 3 1
  have h1 : 0 + l.length ≤ maxLen := by unfold maxLen; omega
  have h2 : (0 + l.length) * 8 ≤ 140737488355328 := by omega
  have hfl := flat_len (enc := encI) (sz := 1) (fun _ => rfl) l
  rcases Nat.eq_zero_or_pos l.length with h0 | h0
  · obtain rfl : l = [] := List.eq_nil_of_length_eq_zero h0
    simp only [List.length_nil]
    clear h0 h1 h2 hfl
    cases a with
    | none =>
      go_upto_region 2 with fail
      rw [← hB0] at oE ⊢
      clear hB0
      refine wp_abs (fun V => Gr U V ∧ V.ownsRow B0 3 1 (.slice (some ⟨B0, 0, none⟩) 0 0) ([] : List Int).length (([] : List Int).flatMap encI)) ⟨g1, oE⟩ ?_
      clear g1 oE
      rintro V ⟨gV, oV⟩
      obtain ⟨m, hm⟩ : ∃ m, ([] : List Int).length = m := ⟨_, rfl⟩
      rw [hm] at hl
      have HM := Lib.hid hm
      rw [hm] at oV
      clear hm
      go_wp2
      go_loopw [12, 11] (fun i s wr => Hid (∃ k : Nat, m + k ≤ n + 1 ∧ i = .int .i64 k ∧ Gr U wr ∧ wr.ownsRow B0 3 1 s (m + k) ((([] : List Int) ++ List.replicate k rd).flatMap encI) ∧ ∀ j, j < k → stAt n me lo ba off ([] : List Int) rd j ≠ st)) (fun i _ _ => n + 1 - m - (intOf i).toNat)
      case atStart => exact Lib.hid ⟨0, by omega, rfl, gV, (by simpa using oV), fun j hj => by omega⟩
      case round =>
        clear gV oV
        obtain ⟨k, hk, rfl, gW, oW, hp⟩ := hrel.out
        clear hrel
        have HP := Lib.hid hp
        clear hp
        have hGl : (([] : List Int) ++ List.replicate k rd).length = m + k := by rw [List.length_append, List.length_replicate, HM.out]
        obtain ⟨ra, rc, hva, rA, _, _⟩ := owns_row_cap (enc := encI) (l := ([] : List Int) ++ List.replicate k rd) (fun _ => rfl) (by omega) (by rw [hGl]; exact oW)
        rw [hGl] at hva
        subst hva
        have hbw := hb.keep gW
        obtain ⟨q0, q1, q2, q3⟩ := hbw.c4'
        by_cases hlt : m + k ≤ n
        · obtain ⟨s, hs⟩ : ∃ s, stAt n me lo ba off ([] : List Int) rd k = s := ⟨_, rfl⟩
          have hD := refDecide_any n me lo ba off (([] : List Int) ++ List.replicate k rd) n1 n2 m0 m1 o0 o1 (by omega) (fun r hr' => by
            rcases List.mem_append.1 hr' with h | h
            · exact HB.out r h
            · obtain ⟨_, rfl⟩ := List.mem_replicate.1 h
              omega) ra rc wr rA
          unfold stAt at hs
          rw [hs, hGl] at hD
          have hs' : stAt n me lo ba off ([] : List Int) rd k = s := hs
          have HD := Lib.hid hD
          have HSS := Lib.hid hs'
          clear hD hs hs' hGl
          have c1 : ((m + k : Nat) : Int) ≤ (n : Int) := by omega
          have c1' : (m : Int) + (k : Int) ≤ (n : Int) := by omega
          by_cases hst : s = st
          · have d0 : (s == st) = true := by simpa using hst
            have E := Lib.hid (needL_some (by rw [HM.out]; exact hlt) (HSS.out.trans hst) HP.out)
            clear hst
            go_wp2_with (go_at_call 25; refine HD.out.mono ?_; rintro e w5 ⟨rfl, g5⟩)
            go_ret
            exact ⟨by rw [E.out]; rfl, gg.tr (gW.tr g5)⟩
          · have d0 : (s == st) = false := by simpa using hst
            have HP2 := Lib.hid (show ∀ j, j < k + 1 → stAt n me lo ba off ([] : List Int) rd j ≠ st from fun j hj => by
              rcases Nat.lt_or_ge j k with h | h
              · exact HP.out j h
              · obtain rfl : j = k := by omega
                rw [HSS.out]
                exact hst)
            have k1 : m + k + 1 ≤ maxLen := by unfold maxLen; omega
            have k2 : (m + k + 1) * 8 ≤ 140737488355328 := by omega
            clear hst
            go_wp2_with (first
              | (go_at_call 25; refine HD.out.mono ?_; rintro e w5 ⟨rfl, g5⟩)
              | (at_builtin; refine wpList_append_own _ rfl _ _ 24 rfl B0 3 i0 (.int .i64 0) 1 8 Try.underlying24 hi hz0 hz1 hz2 rfl (by decide) (.slice ra (m + k) rc) (m + k) _ rfl (owns_keep oW (g5.tr (Gr.al w5 (.cells #[.int .i64 rd] 3)))) ⟨w5.heap.size, 0, none⟩ 1 1 ([(rd : Int)].map (fun n => Value.int .i64 n)) rfl rfl (cell_news _ _ _) (ints_one _) k1 k2 (by have := (gW.tr (g5.tr (Gr.al w5 (.cells #[.int .i64 rd] 3)))).size; omega) ?_; intro v' w6 hown' hgrow' _))
            go_roundw
            case rel =>
              have gN := g5.tr (Gr.al w5 (.cells #[.int .i64 rd] 3))
              have gZ := (gW.tr gN).grown' (owns_keep oW gN) (by omega) hgrow'
              exact Lib.hid ⟨k + 1, by omega, by go_num, gZ, (by rw [List.replicate_succ', ← List.append_assoc, flat_snoc]; exact hown'), HP2.out⟩
            case measure => simp [intOf]; omega
        · have c1 : ¬ ((m + k : Nat) : Int) ≤ (n : Int) := by omega
          have c1' : ¬ (m : Int) + (k : Int) ≤ (n : Int) := by omega
          have c2 : decide ((m : Int) + (k : Int) ≤ (n : Int)) = false := by simpa using c1'
          have E := Lib.hid (needL_none (n := n) (me := me) (lo := lo) (ba := ba) (off := off) (l := ([] : List Int)) (st := st) (rd := rd) (fun j hj => HP.out j (by rw [HM.out] at hj; omega)))
          go_wp2
          go_ret
          exact ⟨by rw [E.out]; rfl, gg.tr gW⟩
    | some ad =>
      go_upto_region 2 with (at_builtin; refine wpList_append_own _ rfl _ _ 24 rfl U.heap.size 3 i0 (.int .i64 0) 1 8 Try.underlying24 hi hz0 hz1 hz2 rfl (by decide) _ _ _ rfl oE ad 0 cap [] rfl rfl (fun j u h => by simp at h) (fun u h => by cases h) (by decide) (by decide) (by simp) ?_; intro v' w1 hown hgrow _)
      have gV := g1.grown' oE (Nat.le_refl _) hgrow
      have oV : w1.ownsRow U.heap.size 3 1 v' ([] : List Int).length (([] : List Int).flatMap encI) := by simpa using hown
      rw [← hB0] at oV
      clear hB0 hown hgrow oE g1
      refine wp_abs (fun V => Gr U V ∧ V.ownsRow B0 3 1 v' ([] : List Int).length (([] : List Int).flatMap encI)) ⟨gV, oV⟩ ?_
      clear gV oV
      rintro V ⟨gV, oV⟩
      obtain ⟨m, hm⟩ : ∃ m, ([] : List Int).length = m := ⟨_, rfl⟩
      rw [hm] at hl
      have HM := Lib.hid hm
      rw [hm] at oV
      clear hm
      go_wp2
      go_loopw [12, 11] (fun i s wr => Hid (∃ k : Nat, m + k ≤ n + 1 ∧ i = .int .i64 k ∧ Gr U wr ∧ wr.ownsRow B0 3 1 s (m + k) ((([] : List Int) ++ List.replicate k rd).flatMap encI) ∧ ∀ j, j < k → stAt n me lo ba off ([] : List Int) rd j ≠ st)) (fun i _ _ => n + 1 - m - (intOf i).toNat)
      case atStart => exact Lib.hid ⟨0, by omega, rfl, gV, (by simpa using oV), fun j hj => by omega⟩
      case round =>
        clear gV oV
        obtain ⟨k, hk, rfl, gW, oW, hp⟩ := hrel.out
        clear hrel
        have HP := Lib.hid hp
        clear hp
        have hGl : (([] : List Int) ++ List.replicate k rd).length = m + k := by rw [List.length_append, List.length_replicate, HM.out]
        obtain ⟨ra, rc, hva, rA, _, _⟩ := owns_row_cap (enc := encI) (l := ([] : List Int) ++ List.replicate k rd) (fun _ => rfl) (by omega) (by rw [hGl]; exact oW)
        rw [hGl] at hva
        subst hva
        have hbw := hb.keep gW
        obtain ⟨q0, q1, q2, q3⟩ := hbw.c4'
        by_cases hlt : m + k ≤ n
        · obtain ⟨s, hs⟩ : ∃ s, stAt n me lo ba off ([] : List Int) rd k = s := ⟨_, rfl⟩
          have hD := refDecide_any n me lo ba off (([] : List Int) ++ List.replicate k rd) n1 n2 m0 m1 o0 o1 (by omega) (fun r hr' => by
            rcases List.mem_append.1 hr' with h | h
            · exact HB.out r h
            · obtain ⟨_, rfl⟩ := List.mem_replicate.1 h
              omega) ra rc wr rA
          unfold stAt at hs
          rw [hs, hGl] at hD
          have hs' : stAt n me lo ba off ([] : List Int) rd k = s := hs
          have HD := Lib.hid hD
          have HSS := Lib.hid hs'
          clear hD hs hs' hGl
          have c1 : ((m + k : Nat) : Int) ≤ (n : Int) := by omega
          have c1' : (m : Int) + (k : Int) ≤ (n : Int) := by omega
          by_cases hst : s = st
          · have d0 : (s == st) = true := by simpa using hst
            have E := Lib.hid (needL_some (by rw [HM.out]; exact hlt) (HSS.out.trans hst) HP.out)
            clear hst
            go_wp2_with (go_at_call 25; refine HD.out.mono ?_; rintro e w5 ⟨rfl, g5⟩)
            go_ret
            exact ⟨by rw [E.out]; rfl, gg.tr (gW.tr g5)⟩
          · have d0 : (s == st) = false := by simpa using hst
            have HP2 := Lib.hid (show ∀ j, j < k + 1 → stAt n me lo ba off ([] : List Int) rd j ≠ st from fun j hj => by
              rcases Nat.lt_or_ge j k with h | h
              · exact HP.out j h
              · obtain rfl : j = k := by omega
                rw [HSS.out]
                exact hst)
            have k1 : m + k + 1 ≤ maxLen := by unfold maxLen; omega
            have k2 : (m + k + 1) * 8 ≤ 140737488355328 := by omega
            clear hst
            go_wp2_with (first
              | (go_at_call 25; refine HD.out.mono ?_; rintro e w5 ⟨rfl, g5⟩)
              | (at_builtin; refine wpList_append_own _ rfl _ _ 24 rfl B0 3 i0 (.int .i64 0) 1 8 Try.underlying24 hi hz0 hz1 hz2 rfl (by decide) (.slice ra (m + k) rc) (m + k) _ rfl (owns_keep oW (g5.tr (Gr.al w5 (.cells #[.int .i64 rd] 3)))) ⟨w5.heap.size, 0, none⟩ 1 1 ([(rd : Int)].map (fun n => Value.int .i64 n)) rfl rfl (cell_news _ _ _) (ints_one _) k1 k2 (by have := (gW.tr (g5.tr (Gr.al w5 (.cells #[.int .i64 rd] 3)))).size; omega) ?_; intro v' w6 hown' hgrow' _))
            go_roundw
            case rel =>
              have gN := g5.tr (Gr.al w5 (.cells #[.int .i64 rd] 3))
              have gZ := (gW.tr gN).grown' (owns_keep oW gN) (by omega) hgrow'
              exact Lib.hid ⟨k + 1, by omega, by go_num, gZ, (by rw [List.replicate_succ', ← List.append_assoc, flat_snoc]; exact hown'), HP2.out⟩
            case measure => simp [intOf]; omega
        · have c1 : ¬ ((m + k : Nat) : Int) ≤ (n : Int) := by omega
          have c1' : ¬ (m : Int) + (k : Int) ≤ (n : Int) := by omega
          have c2 : decide ((m : Int) + (k : Int) ≤ (n : Int)) = false := by simpa using c1'
          have E := Lib.hid (needL_none (n := n) (me := me) (lo := lo) (ba := ba) (off := off) (l := ([] : List Int)) (st := st) (rd := rd) (fun j hj => HP.out j (by rw [HM.out] at hj; omega)))
          go_wp2
          go_ret
          exact ⟨by rw [E.out]; rfl, gg.tr gW⟩
  · obtain ⟨b, of1, rfl, _⟩ := hrU.addr h0
    have hnews := row_news (enc := encI) (sz := 1) (fun _ => rfl) (hrU.grow g1)
    have Hnews := Lib.hid hnews
    have Hfl := Lib.hid hfl
    clear hnews hfl
    go_upto_region 2 with (at_builtin; refine wpList_append_own _ rfl _ _ 24 rfl U.heap.size 3 i0 (.int .i64 0) 1 8 Try.underlying24 hi hz0 hz1 hz2 rfl (by decide) _ _ _ rfl oE ⟨b, of1, none⟩ l.length cap (l.flatMap encI) rfl Hfl.out Hnews.out (one_flat (fun x u hu => by simp [encI] at hu; subst hu; rfl) l) h1 h2 (by simp) ?_; intro v' w1 hown hgrow _)
    have gV := g1.grown' oE (Nat.le_refl _) hgrow
    have oV : w1.ownsRow U.heap.size 3 1 v' l.length (l.flatMap encI) := by simpa using hown
    rw [← hB0] at oV
    clear hB0 hown hgrow oE g1 Hnews Hfl
    refine wp_abs (fun V => Gr U V ∧ V.ownsRow B0 3 1 v' l.length (l.flatMap encI)) ⟨gV, oV⟩ ?_
    clear gV oV
    rintro V ⟨gV, oV⟩
    obtain ⟨m, hm⟩ : ∃ m, l.length = m := ⟨_, rfl⟩
    rw [hm] at hl
    have HM := Lib.hid hm
    rw [hm] at oV
    clear hm
    go_wp2
    go_loopw [12, 11] (fun i s wr => Hid (∃ k : Nat, m + k ≤ n + 1 ∧ i = .int .i64 k ∧ Gr U wr ∧ wr.ownsRow B0 3 1 s (m + k) ((l ++ List.replicate k rd).flatMap encI) ∧ ∀ j, j < k → stAt n me lo ba off l rd j ≠ st)) (fun i _ _ => n + 1 - m - (intOf i).toNat)
    case atStart => exact Lib.hid ⟨0, by omega, rfl, gV, (by simpa using oV), fun j hj => by omega⟩
    case round =>
      clear gV oV
      obtain ⟨k, hk, rfl, gW, oW, hp⟩ := hrel.out
      clear hrel
      have HP := Lib.hid hp
      clear hp
      have hGl : (l ++ List.replicate k rd).length = m + k := by rw [List.length_append, List.length_replicate, HM.out]
      obtain ⟨ra, rc, hva, rA, _, _⟩ := owns_row_cap (enc := encI) (l := l ++ List.replicate k rd) (fun _ => rfl) (by omega) (by rw [hGl]; exact oW)
      rw [hGl] at hva
      subst hva
      have hbw := hb.keep gW
      obtain ⟨q0, q1, q2, q3⟩ := hbw.c4'
      by_cases hlt : m + k ≤ n
      · obtain ⟨s, hs⟩ : ∃ s, stAt n me lo ba off l rd k = s := ⟨_, rfl⟩
        have hD := refDecide_any n me lo ba off (l ++ List.replicate k rd) n1 n2 m0 m1 o0 o1 (by omega) (fun r hr' => by
          rcases List.mem_append.1 hr' with h | h
          · exact HB.out r h
          · obtain ⟨_, rfl⟩ := List.mem_replicate.1 h
            omega) ra rc wr rA
        unfold stAt at hs
        rw [hs, hGl] at hD
        have hs' : stAt n me lo ba off l rd k = s := hs
        have HD := Lib.hid hD
        have HSS := Lib.hid hs'
        clear hD hs hs' hGl
        have c1 : ((m + k : Nat) : Int) ≤ (n : Int) := by omega
        have c1' : (m : Int) + (k : Int) ≤ (n : Int) := by omega
        by_cases hst : s = st
        · have d0 : (s == st) = true := by simpa using hst
          have E := Lib.hid (needL_some (by rw [HM.out]; exact hlt) (HSS.out.trans hst) HP.out)
          clear hst
          go_wp2_with (go_at_call 25; refine HD.out.mono ?_; rintro e w5 ⟨rfl, g5⟩)
          go_ret
          exact ⟨by rw [E.out]; rfl, gg.tr (gW.tr g5)⟩
        · have d0 : (s == st) = false := by simpa using hst
          have HP2 := Lib.hid (show ∀ j, j < k + 1 → stAt n me lo ba off l rd j ≠ st from fun j hj => by
            rcases Nat.lt_or_ge j k with h | h
            · exact HP.out j h
            · obtain rfl : j = k := by omega
              rw [HSS.out]
              exact hst)
          have k1 : m + k + 1 ≤ maxLen := by unfold maxLen; omega
          have k2 : (m + k + 1) * 8 ≤ 140737488355328 := by omega
          clear hst
          go_wp2_with (first
            | (go_at_call 25; refine HD.out.mono ?_; rintro e w5 ⟨rfl, g5⟩)
            | (at_builtin; refine wpList_append_own _ rfl _ _ 24 rfl B0 3 i0 (.int .i64 0) 1 8 Try.underlying24 hi hz0 hz1 hz2 rfl (by decide) (.slice ra (m + k) rc) (m + k) _ rfl (owns_keep oW (g5.tr (Gr.al w5 (.cells #[.int .i64 rd] 3)))) ⟨w5.heap.size, 0, none⟩ 1 1 ([(rd : Int)].map (fun n => Value.int .i64 n)) rfl rfl (cell_news _ _ _) (ints_one _) k1 k2 (by have := (gW.tr (g5.tr (Gr.al w5 (.cells #[.int .i64 rd] 3)))).size; omega) ?_; intro v' w6 hown' hgrow' _))
          go_roundw
          case rel =>
            have gN := g5.tr (Gr.al w5 (.cells #[.int .i64 rd] 3))
            have gZ := (gW.tr gN).grown' (owns_keep oW gN) (by omega) hgrow'
            exact Lib.hid ⟨k + 1, by omega, by go_num, gZ, (by rw [List.replicate_succ', ← List.append_assoc, flat_snoc]; exact hown'), HP2.out⟩
          case measure => simp [intOf]; omega
      · have c1 : ¬ ((m + k : Nat) : Int) ≤ (n : Int) := by omega
        have c1' : ¬ (m : Int) + (k : Int) ≤ (n : Int) := by omega
        have c2 : decide ((m : Int) + (k : Int) ≤ (n : Int)) = false := by simpa using c1'
        have E := Lib.hid (needL_none (n := n) (me := me) (lo := lo) (ba := ba) (off := off) (l := l) (st := st) (rd := rd) (fun j hj => HP.out j (by rw [HM.out] at hj; omega)))
        go_wp2
        go_ret
        exact ⟨by rw [E.out]; rfl, gg.tr gW⟩

end Go.Proofs.Ytcdilmagcdbogaa

namespace Go.Proofs.Ytcdilmagcdbogaa
set_option linter.unusedVariables false
set_option linter.unusedSimpArgs false
open Go.RowKit

/-- Fall of boxes picked by an order: Never, just if the order stands. -/
theorem fall_pick (l : List Ld) (o : List Nat) (t : List Stp) (days : Int) (hs : storedL 50 (pickL l o) t days = 0) (a c : Option Addr) (cap cc : Nat) (hcc : t.length ≤ cc) (w : World) (hr : LRow w a (pickL l o)) (ht : TRow w c t) :
    Calls Try.prog 38 #[.slice a o.length cap, .slice c t.length cc, .int .i64 days] w fun e w' => (∃ y z v, e = .returned (.tuple #[.int .i64 y, .int .i64 z, .int .i64 v]) ∧ (standB l (lastL t days) o = true → v = 7) ∧ (standB l (lastL t days) o = false → v = 0)) ∧ Gr w w' := by
  have h := fall_ok (pickL l o) t days hs a c cap cc hcc w hr ht
  rw [pickL_len] at h
  refine h.mono ?_
  rintro e w' ⟨rfl, g⟩
  refine ⟨?_, g⟩
  obtain ⟨⟨_, hl⟩, hT⟩ := stored_parts hs
  have hf := fall_last (l := pickL l o) (fun x hx => (hl x hx).1.2.1) hT
  have hw := weak_pick l (lastL t days) o
  cases hO : fallO (pickL l o) (untilL t days) with
  | none => exact ⟨0, 0, 7, by rw [fallV_none hO], ⟨fun _ => rfl, fun h => by rw [hw.1 (hf.1 hO)] at h; cases h⟩⟩
  | some p =>
    obtain ⟨s, i⟩ := p
    refine ⟨s.day, (i : Int), 0, by rw [fallV_some hO], ⟨fun h => ?_, fun _ => rfl⟩⟩
    have := hf.2 (hw.2 h)
    rw [hO] at this
    cases this

theorem pick_mem {l : List Ld} {o : List Nat} (ho : ∀ i ∈ o, i < l.length) : ∀ x ∈ pickL l o, x ∈ l := by
  intro x hx
  obtain ⟨i, hi, rfl⟩ := List.mem_map.1 hx
  rw [List.getD_eq_getElem?_getD, List.getElem?_eq_getElem (ho i hi)]
  exact List.getElem_mem (ho i hi)

/-- What CrushStacked's body wants to know of the boxes, the table and the two answers; ol: Order's list, ev: its error, ml: Most's list. -/
structure Stk8 (l : List Ld) (t : List Stp) (days : Int) (ol ml : List Nat) (ev : Int) : Prop where
  l8 : l.length ≤ 8
  t7 : t.length ≤ 7
  order : ∀ (a c : Option Addr) (cap cc : Nat) (w : World), t.length ≤ cc → LRow w a l → TRow w c t → Calls Try.prog 47 #[.slice a l.length cap, .slice c t.length cc, .int .i64 days] w fun e w' => ∃ b d, e = .returned (.tuple #[.slice b ol.length d, .int .i64 ev]) ∧ IRow w' b (intsN ol) ∧ Gr w w'
  most : ∀ (a c : Option Addr) (cap cc : Nat) (w : World), t.length ≤ cc → LRow w a l → TRow w c t → Calls Try.prog 48 #[.slice a l.length cap, .slice c t.length cc, .int .i64 days] w fun e w' => ∃ b d, e = .returned (.tuple #[.slice b ml.length d, .int .i64 0]) ∧ IRow w' b (intsN ml) ∧ Gr w w'
  again : ∀ (a c : Option Addr) (cap cc : Nat) (w : World), t.length ≤ cc → LRow w a (pickL l ml) → TRow w c t → Calls Try.prog 47 #[.slice a ml.length cap, .slice c t.length cc, .int .i64 days] w fun e w' => ∃ b n d, e = .returned (.tuple #[.slice b n d, .int .i64 0]) ∧ Gr w w'
  fall : ∀ (o : List Nat) (a c : Option Addr) (cap cc : Nat) (w : World), o.length ≤ 8 → (∀ i ∈ o, i < l.length) → t.length ≤ cc → LRow w a (pickL l o) → TRow w c t → Calls Try.prog 38 #[.slice a o.length cap, .slice c t.length cc, .int .i64 days] w fun e w' => (∃ y z v, e = .returned (.tuple #[.int .i64 y, .int .i64 z, .int .i64 v]) ∧ (standB l (lastL t days) o = true → v = 7) ∧ (standB l (lastL t days) o = false → v = 0)) ∧ Gr w w'
  mostN : ml.Nodup ∧ (∀ i ∈ ml, i < l.length) ∧ ml.length ≤ l.length
  yes : ev = 0 → ml.length = l.length ∧ ol.Nodup ∧ (∀ i ∈ ol, i < l.length) ∧ ol.length = l.length ∧ standB l (lastL t days) ol = true
  no : ev ≠ 0 → ev = 9 ∧ ml.length < l.length
  pre : ∀ o : List Nat, o.Nodup → (∀ i ∈ o, i < l.length) → standB l (lastL t days) o = true → o.length ≤ ml.length
  least : ∀ o : List Nat, o.Nodup → (∀ i ∈ o, i < l.length) → o.length = l.length → standB l (lastL t days) o = true → ol.length = l.length ∧ lexI (intsN o) (intsN ol) = false

theorem stk8 {l : List Ld} {t : List Stp} {days : Int} (l8 : l.length ≤ 8) (t7 : t.length ≤ 7) (hl : ∀ x ∈ l, LdOk x ∧ x.sl ≤ x.sh ∧ x.wl ≤ x.wh ∧ x.sh ≤ 1069 ∧ x.wh ≤ 284) (ht : tableL t = true) (d0 : 0 ≤ days) (d1 : days ≤ 255) : ∃ ol ml ev, Stk8 l t days ol ml ev := by
  have h10 : l.length ≤ 10 := by omega
  have hl' : ∀ x ∈ l, LdOk x ∧ x.sl ≤ x.sh ∧ x.wl ≤ x.wh ∧ x.sh ≤ 20000000 ∧ x.wh ≤ 100000 := fun x hx => by
    obtain ⟨a, b, c, d, e⟩ := hl x hx
    exact ⟨a, b, c, by omega, by omega⟩
  have st : storedL 10 l t days = 0 := stored_of (by omega) hl' ht d0 (by omega)
  have stp : ∀ (m : Int) (o : List Nat), (∀ i ∈ o, i < l.length) → (o.length : Int) ≤ m → storedL m (pickL l o) t days = 0 := fun m o ho hm => stored_of (by rw [pickL_len]; exact hm) (fun x hx => hl' x (pick_mem ho x hx)) ht d0 (by omega)
  obtain ⟨m1, m2, m3⟩ := most_order h10 (q := lastL t days) rfl
  have m4 := most_le h10 (standsTo l (lastL t days) (allN l + 1))
  have mf := most_full h10 (q := lastL t days)
  obtain ⟨ml, hml⟩ : ∃ m, mostTo (setsL l t days) (allN l + 1) = m := ⟨_, rfl⟩
  have hml' : mostTo (standsTo l (lastL t days) (allN l + 1)) (allN l + 1) = ml := hml
  rw [hml'] at m1 m2 m3 m4 mf
  have cM : ∀ (a c : Option Addr) (cap cc : Nat) (w : World), t.length ≤ cc → LRow w a l → TRow w c t → Calls Try.prog 48 #[.slice a l.length cap, .slice c t.length cc, .int .i64 days] w fun e w' => ∃ b d, e = .returned (.tuple #[.slice b ml.length d, .int .i64 0]) ∧ IRow w' b (intsN ml) ∧ Gr w w' := fun a c cap cc w h1 h2 h3 => by
    have := most_ok l t days st a c cap cc h1 w h2 h3
    rw [hml, intsN_len] at this
    exact this
  have cA : ∀ (a c : Option Addr) (cap cc : Nat) (w : World), t.length ≤ cc → LRow w a (pickL l ml) → TRow w c t → Calls Try.prog 47 #[.slice a ml.length cap, .slice c t.length cc, .int .i64 days] w fun e w' => ∃ b n d, e = .returned (.tuple #[.slice b n d, .int .i64 0]) ∧ Gr w w' := fun a c cap cc w h1 h2 h3 => by
    have := order_some (pickL l ml) t days (stp 10 ml m2 (by omega)) m3 a c cap cc h1 w h2 h3
    rw [pickL_len] at this
    refine this.mono ?_
    rintro e w' ⟨b, d, rfl, _, g⟩
    exact ⟨b, _, d, rfl, g⟩
  have cF : ∀ (o : List Nat) (a c : Option Addr) (cap cc : Nat) (w : World), o.length ≤ 8 → (∀ i ∈ o, i < l.length) → t.length ≤ cc → LRow w a (pickL l o) → TRow w c t → Calls Try.prog 38 #[.slice a o.length cap, .slice c t.length cc, .int .i64 days] w fun e w' => (∃ y z v, e = .returned (.tuple #[.int .i64 y, .int .i64 z, .int .i64 v]) ∧ (standB l (lastL t days) o = true → v = 7) ∧ (standB l (lastL t days) o = false → v = 0)) ∧ Gr w w' := fun o a c cap cc w h0 ho h1 h2 h3 => fall_pick l o t days (stp 50 o ho (by omega)) a c cap cc h1 w h2 h3
  have hpre : ∀ o : List Nat, o.Nodup → (∀ i ∈ o, i < l.length) → standB l (lastL t days) o = true → o.length ≤ ml.length := fun o h1 h2 h3 => by
    have := prefix_most h10 h1 h2 h3
    rw [hml'] at this
    exact this
  cases hF : setsL l t days ((allN l : Nat) : Int) with
  | true =>
    have hK : allN l + 1 ≤ 1024 := by
      rw [allN_succ]
      exact Nat.pow_le_pow_right (n := 2) (by decide) h10
    obtain ⟨a1, a2, a3, a4, _⟩ := order_good h10 hK (allN l) (Nat.lt_succ_self _) hF
    have hlo : (orderL l (lastL t days) (setsL l t days) (allN l)).length = l.length := by
      have e := setO_len h10 a1 a3
      rw [set_of_mem (by omega) a1 a2, memb_all h10] at e
      exact e.symm
    refine ⟨orderL l (lastL t days) (setsL l t days) (allN l), ml, 0, l8, t7, fun a c cap cc w h1 h2 h3 => ?_, cM, cA, cF, ⟨m1, m2, m4⟩, fun _ => ⟨mf.2 hF, a1, a3, hlo, a4⟩, fun h => absurd rfl h, hpre, fun o h1 h2 h3 h4 => ⟨hlo, (order_least h10 h1 h2 h3 h4).2⟩⟩
    have := order_some l t days st hF a c cap cc h1 w h2 h3
    rw [intsN_len] at this
    exact this
  | false =>
    have hne : ml.length ≠ l.length := fun e => by
      have := mf.1 e
      rw [show standsTo l (lastL t days) (allN l + 1) = setsL l t days from rfl, hF] at this
      cases this
    refine ⟨[], ml, 9, l8, t7, fun a c cap cc w h1 h2 h3 => ?_, cM, cA, cF, ⟨m1, m2, m4⟩, fun h => by omega, fun _ => ⟨rfl, by omega⟩, hpre, fun o h1 h2 h3 h4 => ?_⟩
    · refine (order_none l t days st hF a c cap cc h1 w h2 h3).mono ?_
      rintro e w' ⟨rfl, g⟩
      exact ⟨none, 0, rfl, RowOf.nil, g⟩
    · have := (order_least h10 h1 h2 h3 h4).1
      rw [show standsTo l (lastL t days) (allN l + 1) = setsL l t days from rfl, hF] at this
      cases this

end Go.Proofs.Ytcdilmagcdbogaa
