/- crush's truths: the iterator's contract. (Made by gen_i8.py.) slices.Grow of nil, slices.Concat of two rows of ints. crush: what a lot's truths are made of. -/
import Derived.Test.YtkfhmfidgdpeiaaQi
import Derived.Test.YtkfhmfidgdpeiaaR5
import Derived.Deep.MidRow
import Derived.Lib.AppendZerosOnto
import Derived.Lib.SliceRun
import Derived.Laws.Append
import Derived.Deep.OwnRows
import Derived.Laws.AppendOwnNone
import Derived.Laws.AppendOwn
import Derived.OwnWalk
namespace Go.Proofs.Ytkfhmfidgdpeiaa
set_option linter.unusedVariables false
set_option linter.unusedSimpArgs false
open Go.RowKit Go.Shelf
attribute [local go_sem] Oper.semAt_some

/-- What can be true of the test at a place. -/
def truthAt (off : Int) (made : List Int) (k : Nat) : Int × Int := match made[k]? with
  | some r => (max 0 (r - off), min 100000 (r + off))
  | none => (0, 100000)

def truthsL (tests : Nat) (off : Int) (made : List Int) : List (Int × Int) := (List.range tests).map (truthAt off made)

def encTr (x : Int × Int) : Array Value := #[.agg #[.int .i64 x.1, .int .i64 x.2]]

theorem truthsL_take {tests : Nat} {off : Int} {made : List Int} {k : Nat} (hk : k < tests) : (truthsL tests off made).take (k + 1) = (truthsL tests off made).take k ++ [truthAt off made k] := by
  rw [List.take_add_one]
  congr 1
  simp [truthsL, hk]

def TrB (x : Int × Int) : Prop := 0 ≤ x.1 ∧ x.1 ≤ 100000 ∧ 0 ≤ x.2 ∧ x.2 ≤ 100000

theorem truthAt_bd {off : Int} {made : List Int} (o0 : 0 ≤ off) (o1 : off ≤ 1000) (hB : ∀ r ∈ made, 0 ≤ r ∧ r ≤ 100000) (k : Nat) : TrB (truthAt off made k) := by
  unfold truthAt TrB
  split
  · rename_i r hr
    obtain ⟨h0, h1⟩ := hB r (List.mem_of_getElem? hr)
    dsimp only
    omega
  · dsimp only
    omega

set_option maxRecDepth 100000 in
set_option maxHeartbeats 4000000 in
theorem truths_seq (n : Nat) (hn : 1 ≤ n) (b1 b2 : Nat) (tests : Nat) (mean low bad off : Int) (rv : Value) (a : Option Addr) (cap : Nat) (made : List Int) (ht : tests ≤ 1000000) (o0 : 0 ≤ off) (o1 : off ≤ 1000) (hB : ∀ r ∈ made, 0 ≤ r ∧ r ≤ 100000)
    (Z0 : Nat → Prop) (w0 : World) (hst : St Z0 (fun V => Own V b1 [.int .i64 (tests : Int), .int .i64 mean, .int .i64 low, .int .i64 bad, .int .i64 off, rv] ∧ Own V b2 [.slice a made.length cap] ∧ IRow V a made) w0) :
    SeqX Fence.wide n Try.prog 118 #[.pointer (some ⟨b1, 0, none⟩), .pointer (some ⟨b2, 0, none⟩)] encTr (fun _ _ x _ => TrB x) (fun xs => xs = truthsL tests off made) (fun pre => ∃ k, k ≤ tests ∧ pre = (truthsL tests off made).take k) Z0 w0 := by
  intro i0 J Jx X0 W hk0 hX0 hJ hJx hY h0
  refine callsIn_of_wp Try.func118 rfl trivial ?_ rfl
  simp only [Try.ntmps118, List.size_toArray, List.length_cons, List.length_nil, Nat.reduceAdd, Nat.reduceSub, Array.replicate_succ, Array.replicate_zero, List.push_toArray, List.append_toArray, List.nil_append, List.cons_append]
  have HY := Lib.hid hY
  have HJ := Lib.hid hJ
  have HS := Lib.hid hst
  have HB := Lib.hid hB
  obtain ⟨h1, _, _⟩ := hst W hk0
  have q0 := h1.1.2 0 _ rfl
  have H0 := Lib.hid h0
  have HK := Lib.hid hk0
  have HX0 := Lib.hid hX0
  clear hY hJ hX0 hst hB hJx h0 hk0 h1
  gi_wp2
  clear q0
  gi_loopw [9] (fun i wr => ∃ k : Nat, k ≤ tests ∧ i = .int .i64 k ∧ ∃ pre X, pre = (truthsL tests off made).take k ∧ J pre X noBlock wr ∧ (∀ i, X i → i < wr.heap.size ∧ (Z0 i ∨ w0.heap.size ≤ i)) ∧ Kx Z0 w0 wr) (fun i _ => tests - (intOf i).toNat)
  case atStart => exact ⟨0, Nat.zero_le _, rfl, [], X0, rfl, H0.out, HX0.out, HK.out⟩
  case round =>
    obtain ⟨k, hk, rfl, pre, X, hpre, hj, hX, hkV⟩ := hrel
    obtain ⟨d1, d2, hrow⟩ := HS.out wr hkV
    by_cases hlt : k < tests
    · have gU := Gr.al wr (.cells #[.int .i64 0, .int .i64 100000] 45)
      have oU := Own.new wr [.int .i64 0, .int .i64 100000] 45 wr.heap.size rfl
      have p2 := (d2.keep gU).1.c1
      have HT := Lib.hid (truthAt_bd o0 o1 HB.out k)
      have HX := Lib.hid hX
      have HKV := Lib.hid hkV
      have HP := Lib.hid hpre
      have HJJ := Lib.hid hj
      have D1 := Lib.hid d1
      have D2 := Lib.hid d2
      have HR := Lib.hid hrow
      have GU := Lib.hid gU
      have OU := Lib.hid oU
      clear d1 hX hkV hpre hj gU oU
      by_cases hm : k < made.length
      · obtain ⟨r, hrm⟩ : ∃ r, made[k]? = some r := ⟨made[k], by simp [hm]⟩
        obtain ⟨r0, r1⟩ := HB.out r (List.mem_of_getElem? hrm)
        have hT : truthAt off made k = (max 0 (r - off), min 100000 (r + off)) := by simp [truthAt, hrm]
        obtain ⟨c, o, rfl, hc, hcell⟩ := IRow.get HR.out hrm
        have HT1 := Lib.hid hT
        clear hT
        gi_wp2
        refine wpIn_wide.2 ?_
        refine wp_region_facts 7 [(1, 0), (4, 2), (4, 3), (5, 4), (6, 1), (6, 5)] (fun x => ⟨#[.func (.yield i0) #[] #[], .pointer (some ⟨b1, 0, none⟩), .pointer (some ⟨b2, 0, none⟩), undef, .int .i64 (k : Int), .pointer (some ⟨wr.heap.size, 0, none⟩), .pointer (some ⟨b1, 0, none⟩), .pointer (some ⟨b1, 0, none⟩), .int .i64 (tests : Int), .int .i64 (k : Int), .bool true, .int .i64 (k : Int), .agg #[.int .i64 0, .int .i64 100000], .int .i64 (k : Int), .slice (some ⟨c, o, none⟩) made.length cap, .int .i64 (made.length : Int), .bool true, x 0, x 1, x 2, x 3, x 4, x 5, x 6, u24, u25, u26, u27, u28], []⟩) (fun i => [u17, u18, u19, u20, u21, u22, u23].getD i undef) [fun _ x => x = .pointer (some ⟨b1, 4, none⟩), fun _ x => x = .agg #[.int .i64 off], fun _ x => x = .slice (some ⟨c, o, none⟩) made.length cap, fun _ x => x = .int .i64 (k : Int), fun _ x => x = .pointer (some ⟨c, o + k, none⟩), fun _ x => x = .int .i64 r, fun _ x => x = .agg #[.int .i64 (max 0 (r - off)), .int .i64 (min 100000 (r + off))]] (by rfl) (by kernel_rfl) (by kernel_rfl) (by kernel_rfl) (stays_cons (Stays.eq _) (stays_cons (Stays.eq _) (stays_cons (Stays.eq _) (stays_cons (Stays.eq _) (stays_cons (Stays.eq _) (stays_cons (Stays.eq _) (stays_cons (Stays.eq _) stays_nil))))))) ?step5 ?fin5
        case step5 =>
          rintro i hi x v gv hd K hK
          have hi8 : i = 0 ∨ i = 1 ∨ i = 2 ∨ i = 3 ∨ i = 4 ∨ i = 5 ∨ i = 6 := by omega
          rcases hi8 with rfl | rfl | rfl | rfl | rfl | rfl | rfl
          · show wpOp Try.prog _ _ 0 K (⟨#[.func (.yield i0) #[] #[], .pointer (some ⟨b1, 0, none⟩), .pointer (some ⟨b2, 0, none⟩), undef, .int .i64 (k : Int), .pointer (some ⟨wr.heap.size, 0, none⟩), .pointer (some ⟨b1, 0, none⟩), .pointer (some ⟨b1, 0, none⟩), .int .i64 (tests : Int), .int .i64 (k : Int), .bool true, .int .i64 (k : Int), .agg #[.int .i64 0, .int .i64 100000], .int .i64 (k : Int), .slice (some ⟨c, o, none⟩) made.length cap, .int .i64 (made.length : Int), .bool true, x 0, x 1, x 2, x 3, x 4, x 5, x 6, u24, u25, u26, u27, u28], []⟩ : Act) v
            refine wpOp_step rfl (fun K' hK' => ?_)
            go_simp
            exact hK' _ _ (hK _ _ (Below.refl _ _) (at_of rfl (rfl)))
          · obtain ⟨x, rfl⟩ := upd_of (show x 0 = .pointer (some ⟨b1, 4, none⟩) from hd 0 _ (by simp) rfl)
            show wpOp Try.prog _ _ 1 K (⟨#[.func (.yield i0) #[] #[], .pointer (some ⟨b1, 0, none⟩), .pointer (some ⟨b2, 0, none⟩), undef, .int .i64 (k : Int), .pointer (some ⟨wr.heap.size, 0, none⟩), .pointer (some ⟨b1, 0, none⟩), .pointer (some ⟨b1, 0, none⟩), .int .i64 (tests : Int), .int .i64 (k : Int), .bool true, .int .i64 (k : Int), .agg #[.int .i64 0, .int .i64 100000], .int .i64 (k : Int), .slice (some ⟨c, o, none⟩) made.length cap, .int .i64 (made.length : Int), .bool true, .pointer (some ⟨b1, 4, none⟩), x 1, x 2, x 3, x 4, x 5, x 6, u24, u25, u26, u27, u28], []⟩ : Act) v
            refine wpOp_step rfl (fun K' hK' => ?_)
            have q := ((D1.out.keep GU.out).keep gv).1.2 4 _ rfl
            go_simp
            exact hK' _ _ (hK _ _ (Below.refl _ _) (at_of rfl (rfl)))
          · show wpOp Try.prog _ _ 2 K (⟨#[.func (.yield i0) #[] #[], .pointer (some ⟨b1, 0, none⟩), .pointer (some ⟨b2, 0, none⟩), undef, .int .i64 (k : Int), .pointer (some ⟨wr.heap.size, 0, none⟩), .pointer (some ⟨b1, 0, none⟩), .pointer (some ⟨b1, 0, none⟩), .int .i64 (tests : Int), .int .i64 (k : Int), .bool true, .int .i64 (k : Int), .agg #[.int .i64 0, .int .i64 100000], .int .i64 (k : Int), .slice (some ⟨c, o, none⟩) made.length cap, .int .i64 (made.length : Int), .bool true, x 0, x 1, x 2, x 3, x 4, x 5, x 6, u24, u25, u26, u27, u28], []⟩ : Act) v
            refine wpOp_step rfl (fun K' hK' => ?_)
            have q := ((D2.out.keep GU.out).keep gv).1.c1
            go_simp
            exact hK' _ _ (hK _ _ (Below.refl _ _) (at_of rfl (rfl)))
          · show wpOp Try.prog _ _ 3 K (⟨#[.func (.yield i0) #[] #[], .pointer (some ⟨b1, 0, none⟩), .pointer (some ⟨b2, 0, none⟩), undef, .int .i64 (k : Int), .pointer (some ⟨wr.heap.size, 0, none⟩), .pointer (some ⟨b1, 0, none⟩), .pointer (some ⟨b1, 0, none⟩), .int .i64 (tests : Int), .int .i64 (k : Int), .bool true, .int .i64 (k : Int), .agg #[.int .i64 0, .int .i64 100000], .int .i64 (k : Int), .slice (some ⟨c, o, none⟩) made.length cap, .int .i64 (made.length : Int), .bool true, x 0, x 1, x 2, x 3, x 4, x 5, x 6, u24, u25, u26, u27, u28], []⟩ : Act) v
            refine wpOp_step rfl (fun K' hK' => ?_)
            go_simp
            exact hK' _ _ (hK _ _ (Below.refl _ _) (at_of rfl (rfl)))
          · obtain ⟨x, rfl⟩ := upd_of (show x 2 = .slice (some ⟨c, o, none⟩) made.length cap from hd 2 _ (by simp) rfl)
            obtain ⟨x, rfl⟩ := upd_of (show x 3 = .int .i64 (k : Int) from hd 3 _ (by simp) rfl)
            show wpOp Try.prog _ _ 4 K (⟨#[.func (.yield i0) #[] #[], .pointer (some ⟨b1, 0, none⟩), .pointer (some ⟨b2, 0, none⟩), undef, .int .i64 (k : Int), .pointer (some ⟨wr.heap.size, 0, none⟩), .pointer (some ⟨b1, 0, none⟩), .pointer (some ⟨b1, 0, none⟩), .int .i64 (tests : Int), .int .i64 (k : Int), .bool true, .int .i64 (k : Int), .agg #[.int .i64 0, .int .i64 100000], .int .i64 (k : Int), .slice (some ⟨c, o, none⟩) made.length cap, .int .i64 (made.length : Int), .bool true, x 0, x 1, .slice (some ⟨c, o, none⟩) made.length cap, .int .i64 (k : Int), x 4, x 5, x 6, u24, u25, u26, u27, u28], []⟩ : Act) v
            refine wpOp_step rfl (fun K' hK' => ?_)
            go_simp
            exact hK' _ _ (hK _ _ (Below.refl _ _) (at_of rfl (rfl)))
          · obtain ⟨x, rfl⟩ := upd_of (show x 4 = .pointer (some ⟨c, o + k, none⟩) from hd 4 _ (by simp) rfl)
            show wpOp Try.prog _ _ 5 K (⟨#[.func (.yield i0) #[] #[], .pointer (some ⟨b1, 0, none⟩), .pointer (some ⟨b2, 0, none⟩), undef, .int .i64 (k : Int), .pointer (some ⟨wr.heap.size, 0, none⟩), .pointer (some ⟨b1, 0, none⟩), .pointer (some ⟨b1, 0, none⟩), .int .i64 (tests : Int), .int .i64 (k : Int), .bool true, .int .i64 (k : Int), .agg #[.int .i64 0, .int .i64 100000], .int .i64 (k : Int), .slice (some ⟨c, o, none⟩) made.length cap, .int .i64 (made.length : Int), .bool true, x 0, x 1, x 2, x 3, .pointer (some ⟨c, o + k, none⟩), x 5, x 6, u24, u25, u26, u27, u28], []⟩ : Act) v
            refine wpOp_step rfl (fun K' hK' => ?_)
            have q := (GU.out.tr gv).keep hcell
            go_simp
            exact hK' _ _ (hK _ _ (Below.refl _ _) (at_of rfl (rfl)))
          · obtain ⟨x, rfl⟩ := upd_of (show x 1 = .agg #[.int .i64 off] from hd 1 _ (by simp) rfl)
            obtain ⟨x, rfl⟩ := upd_of (show x 5 = .int .i64 r from hd 5 _ (by simp) rfl)
            show wpOp Try.prog _ _ 6 K (⟨#[.func (.yield i0) #[] #[], .pointer (some ⟨b1, 0, none⟩), .pointer (some ⟨b2, 0, none⟩), undef, .int .i64 (k : Int), .pointer (some ⟨wr.heap.size, 0, none⟩), .pointer (some ⟨b1, 0, none⟩), .pointer (some ⟨b1, 0, none⟩), .int .i64 (tests : Int), .int .i64 (k : Int), .bool true, .int .i64 (k : Int), .agg #[.int .i64 0, .int .i64 100000], .int .i64 (k : Int), .slice (some ⟨c, o, none⟩) made.length cap, .int .i64 (made.length : Int), .bool true, x 0, .agg #[.int .i64 off], x 2, x 3, x 4, .int .i64 r, x 6, u24, u25, u26, u27, u28], []⟩ : Act) v
            refine wpOp_step rfl (fun K' hK' => ?_)
            go_simp
            refine (truth_any off r o0 o1 r0 r1 v).mono ?_
            rintro e v' ⟨rfl, hg⟩
            exact hK' _ _ (hK _ _ hg (at_of rfl (rfl)))
        case fin5 =>
          rintro x v gv hd
          obtain ⟨x, rfl⟩ := upd_of (show x 6 = .agg #[.int .i64 (max 0 (r - off)), .int .i64 (min 100000 (r + off))] from hd 6 _ (by omega) rfl)
          clear hd
          show wpList Try.prog _ _ (List.drop 7 _) (⟨#[.func (.yield i0) #[] #[], .pointer (some ⟨b1, 0, none⟩), .pointer (some ⟨b2, 0, none⟩), undef, .int .i64 (k : Int), .pointer (some ⟨wr.heap.size, 0, none⟩), .pointer (some ⟨b1, 0, none⟩), .pointer (some ⟨b1, 0, none⟩), .int .i64 (tests : Int), .int .i64 (k : Int), .bool true, .int .i64 (k : Int), .agg #[.int .i64 0, .int .i64 100000], .int .i64 (k : Int), .slice (some ⟨c, o, none⟩) made.length cap, .int .i64 (made.length : Int), .bool true, x 0, x 1, x 2, x 3, x 4, x 5, .agg #[.int .i64 (max 0 (r - off)), .int .i64 (min 100000 (r + off))], u24, u25, u26, u27, u28], []⟩ : Act) v
          simp only [List.drop_succ_cons, List.drop_zero]
          have oV := OU.out.keep gv
          obtain ⟨p4, p5⟩ := oV.1.c2
          have z4 := oV.2 0
          have z5 := oV.2 1
          have OV := Lib.hid oV
          have GV := Lib.hid (GU.out.tr gv)
          clear oV gv
          go_wp2
          clear p4 p5 z4 z5
          have oE := (OV.out.set (i := 0) (v := .int .i64 (max 0 (r - off))) (by simp)).set (i := 1) (v := .int .i64 (min 100000 (r + off))) (by simp)
          have gE := (GV.out.setCell (p := ⟨wr.heap.size, 0, none⟩) (Nat.le_refl _) (.int .i64 (max 0 (r - off)))).setCell (p := ⟨wr.heap.size, 1, none⟩) (Nat.le_refl _) (.int .i64 (min 100000 (r + off)))
          obtain ⟨E, hE⟩ : ∃ E, (v.setCell ⟨wr.heap.size, 0, none⟩ (.int .i64 (max 0 (r - off)))).setCell ⟨wr.heap.size, 1, none⟩ (.int .i64 (min 100000 (r + off))) = E := ⟨_, rfl⟩
          dsimp only [List.set] at oE
          rw [hE] at oE gE ⊢
          clear hE
          have hT := HT1.out
          have jE : J pre X noBlock E := HJ.out pre X _ _ _ _ HJJ.out (Kx.gr gE) (fun i e => .inl e)
          obtain ⟨fn, tmps, assign, body, hy, hRR⟩ := HY.out pre (max 0 (r - off), min 100000 (r + off)) X noBlock E jE (by have := HT.out; rw [hT] at this; exact this) ⟨fun i e => by have := (HX.out i e).1; have := gE.size; omega, fun i e => e.elim, fun i e e' => e'⟩
          dsimp only [encTr] at hy
          obtain ⟨p4, p5⟩ := oE.1.c2
          have GE := Lib.hid gE
          have HTT := Lib.hid hT
          clear jE gE oE hT
          gi_wp2
          refine hRR.mono ?_
          clear hRR hy p4 p5
          rintro e W3 ⟨hk3, (⟨rfl, X', hJ3, hX3⟩ | ⟨rfl, hJx3⟩)⟩
          · have HJ3 := Lib.hid hJ3
            have HX3 := Lib.hid hX3
            have Hk3 := Lib.hid hk3
            clear hJ3 hX3 hk3
            gi_wp2
            go_roundw
            case rel =>
              have hw := HKV.out.size
              have hw' := GE.out.size
              refine ⟨k + 1, by omega, by go_num, _, X', ?_, HJ3.out, fun i e => ⟨(HX3.out i e).1, ?_⟩, (HKV.out.th (Kx.gr (Z := noBlock) GE.out) fun i e => e.elim).th Hk3.out fun i e => (HX.out i e).2⟩
              · rw [truthsL_take hlt, HTT.out, HP.out]
              · rcases (HX3.out i e).2 with h | h
                · exact (HX.out i h).2
                · exact .inr (by omega)
            case measure => simp [intOf]; omega
          · gi_wp2
            refine bodyPost_ret (results_none rfl _ _ _) rfl ?_
            refine ⟨⟨_, rfl⟩, .inr ⟨_, _, ⟨k + 1, by omega, ?_⟩, hJx3⟩⟩
            rw [truthsL_take hlt, HTT.out, HP.out]
      · have hT : truthAt off made k = (0, 100000) := by
          have : made[k]? = none := by simp; omega
          simp [truthAt, this]
        have HT1 := Lib.hid hT
        clear hT
        obtain ⟨E, hE⟩ : ∃ E, wr.alloc (.cells #[.int .i64 0, .int .i64 100000] 45) = E := ⟨_, rfl⟩
        have oE := OU.out
        have gE := GU.out
        rw [hE] at oE gE
        have hT := HT1.out
        have jE : J pre X noBlock E := HJ.out pre X _ _ _ _ HJJ.out (Kx.gr gE) (fun i e => .inl e)
        obtain ⟨fn, tmps, assign, body, hy, hRR⟩ := HY.out pre (0, 100000) X noBlock E jE (by have := HT.out; rw [hT] at this; exact this) ⟨fun i e => by have := (HX.out i e).1; have := gE.size; omega, fun i e => e.elim, fun i e e' => e'⟩
        dsimp only [encTr] at hy
        obtain ⟨p4, p5⟩ := oE.1.c2
        have GE := Lib.hid gE
        have HTT := Lib.hid hT
        clear jE gE oE hT
        subst hE
        gi_wp2
        refine hRR.mono ?_
        clear hRR hy p4 p5
        rintro e W3 ⟨hk3, (⟨rfl, X', hJ3, hX3⟩ | ⟨rfl, hJx3⟩)⟩
        · have HJ3 := Lib.hid hJ3
          have HX3 := Lib.hid hX3
          have Hk3 := Lib.hid hk3
          clear hJ3 hX3 hk3
          gi_wp2
          go_roundw
          case rel =>
            have hw := HKV.out.size
            have hw' := GE.out.size
            refine ⟨k + 1, by omega, by go_num, _, X', ?_, HJ3.out, fun i e => ⟨(HX3.out i e).1, ?_⟩, (HKV.out.th (Kx.gr (Z := noBlock) GE.out) fun i e => e.elim).th Hk3.out fun i e => (HX.out i e).2⟩
            · rw [truthsL_take hlt, HTT.out, HP.out]
            · rcases (HX3.out i e).2 with h | h
              · exact (HX.out i h).2
              · exact .inr (by omega)
          case measure => simp [intOf]; omega
        · gi_wp2
          refine bodyPost_ret (results_none rfl _ _ _) rfl ?_
          refine ⟨⟨_, rfl⟩, .inr ⟨_, _, ⟨k + 1, by omega, ?_⟩, hJx3⟩⟩
          rw [truthsL_take hlt, HTT.out, HP.out]
    · obtain rfl : k = tests := by omega
      gi_wp2
      go_end0
      refine ⟨⟨_, rfl⟩, .inl ⟨pre, X, _, ?_, hj⟩⟩
      rw [hpre]
      exact List.take_of_length_le (by simp [truthsL])

end Go.Proofs.Ytkfhmfidgdpeiaa

namespace Go.Proofs.Ytkfhmfidgdpeiaa
set_option linter.unusedVariables false
set_option linter.unusedSimpArgs false
open Go.RowKit

theorem infoInt' : (Try.prog.info? 3).map (fun i => (i.zero, i.size, i.bytes)) = some (some (.int .i64 0), 1, 8) := by kernel_rfl

set_option maxRecDepth 100000 in
set_option maxHeartbeats 2000000 in
theorem grow_nil (n : Nat) (h2 : n ≤ 100000) (w : World) :
    Calls Try.prog 120 #[.slice none 0 0, .int .i64 (n : Int)] w fun e w' => ∃ v, e = .returned v ∧ w'.ownsRow w.heap.size 3 1 v 0 [] ∧ Gr w w' := by
  obtain ⟨i0, hi, hz⟩ := Option.map_eq_some_iff.1 infoInt'
  simp only [Prod.mk.injEq] at hz
  obtain ⟨hz0, hz1, hz2⟩ := hz
  have d0 : decide ((n : Int) < 0) = false := by simp
  by_cases h0 : n = 0
  · subst h0
    go_enter Try.func120, Try.ntmps120
    go_wp2
    go_ret
    exact ⟨_, rfl, ⟨rfl, .inl ⟨rfl, rfl⟩⟩, Below.refl _ _⟩
  · have hold : (Builtin.firstCells i0.size 0 (.slice none 0 0)).run Try.prog w.drew = .ok ([] : List Value).toArray w.drew := run_firstCells_none w.drew i0.size 0 0 0
    have hrz := Lib.run_append_grow_zeros (P := Try.prog) w 24 3 24 3 i0 (.int .i64 0) .i64 .i64 Try.underlying24 Try.underlying3 hi hz0 none 0 0 [] hold n (by omega) (by omega) (by omega) (by omega) (by rw [hz2]; omega) (by rw [hz2]; exact growslice_fits (by omega) (by omega))
    simp only [Nat.zero_add, Nat.sub_zero] at hrz
    have hGn : n ≤ grownCap w n 0 3 := grownCap_ge w _ _ _
    have hG63 := grownCap_le_maxLen w n 0 3 (by unfold maxLen; omega)
    obtain ⟨G, hG⟩ : ∃ G, G = grownCap w n 0 3 := ⟨_, rfl⟩
    rw [← hG] at hrz hGn hG63
    have d1 : decide ((0 : Int) < (n : Int)) = true := by simp; omega
    have v0 : IntKind.i64.wrap (n : Int) = (n : Int) := IntWalk.i64_in _ (by omega)
    clear hold hG
    go_enter Try.func120, Try.ntmps120
    go_wp2_with (at_builtin; refine Lib.wpList_append_run _ rfl _ _ _ _ rfl _ _ rfl rfl _ _ hrz ?_)
    go_ret
    refine ⟨_, rfl, ⟨rfl, .inr ⟨_, G, Builtin.zeroCells #[.int .i64 0] n ++ Builtin.zeroCells #[.int .i64 0] (G - n), rfl, Nat.le_refl _, ?_, Nat.zero_le _, hG63, ?_, rfl⟩⟩, (Gr.al w _).tr (Gr.dr _)⟩
    · exact World.alloc_heap_new w _
    · simp [Builtin.zeroCells]
      omega

theorem ints_news {w : World} {ad : Addr} {l : List Int} (h : IRow w (some ad) l) : ∀ j u, (l.flatMap encI)[j]? = some u → w.cell? (ad.add j) = some u := by
  intro j u hu
  have e : l.flatMap encI = l.map (Value.int .i64) := by
    clear h hu
    induction l with
    | nil => rfl
    | cons x l ih => simp [encI, ih]
  rw [e, List.getElem?_map] at hu
  cases hn : l[j]? with
  | none => rw [hn] at hu; cases hu
  | some n =>
    rw [hn] at hu
    have eu : Value.int .i64 n = u := by simpa using hu
    obtain ⟨b, off, ea, _, hc⟩ := h.2 j n hn
    injection ea with ea
    subst ea
    have := hc 0 _ rfl
    rw [WideShapes.add_plain, ← eu]
    simpa using this

theorem ints_one9 (l : List Int) : ∀ u ∈ l.flatMap encI, u.oneCell' = true := by
  intro u hu
  obtain ⟨x, _, hx⟩ := List.mem_flatMap.1 hu
  have hx' : u ∈ [Value.int .i64 x] := hx
  rw [List.mem_singleton.1 hx']
  rfl

theorem ints_len (l : List Int) : (l.flatMap encI).length = l.length := by
  induction l with
  | nil => rfl
  | cons x l ih => simp [encI, ih]

theorem irow_nil {w : World} {l : List Int} (h : IRow w none l) : l = [] := by
  cases l with
  | nil => rfl
  | cons x l =>
    obtain ⟨b, off, e, _⟩ := h.2 0 x rfl
    cases e

/-- A slice of ints as a value: where, what, its room. -/
structure SJ where
  a : Option Addr
  l : List Int
  c : Nat

def encJ (s : SJ) : List Value := [.slice s.a s.l.length s.c]

abbrev JRow := RowOf 1 encJ

def catL (cs : List SJ) : List Int := cs.flatMap (·.l)

theorem catL_take {cs : List SJ} {k : Nat} {x : SJ} (h : cs[k]? = some x) : catL (cs.take (k + 1)) = catL (cs.take k) ++ x.l := by
  rw [List.take_add_one, h]
  simp [catL]

theorem catL_le : ∀ (cs : List SJ) (k : Nat), (catL (cs.take k)).length ≤ (catL cs).length
  | [], k => by simp [catL]
  | c :: cs, 0 => by simp [catL]
  | c :: cs, k + 1 => by
    have := catL_le cs k
    simp [catL] at this ⊢
    exact this

theorem flatI (l : List Int) : l.flatMap encI = l.map (Value.int .i64) := by induction l with
  | nil => rfl
  | cons x l ih => simp [encI, ih]

set_option maxRecDepth 100000 in
set_option maxHeartbeats 4000000 in
theorem concat_any (cs : List SJ) (hc : cs.length ≤ 100) (hl : (catL cs).length ≤ 100000) (p : Option Addr) (pc : Nat) (w : World) (hp : JRow w p cs) (hr : ∀ c ∈ cs, IRow w c.a c.l ∧ (c.a = none → c.c = 0)) :
    Calls Try.prog 117 #[.slice p cs.length pc] w fun e w' => ∃ v, e = .returned v ∧ w'.ownsRow w.heap.size 3 1 v (catL cs).length ((catL cs).flatMap encI) ∧ Gr w w' := by
  obtain ⟨i0, hi, hz⟩ := Option.map_eq_some_iff.1 infoInt'
  simp only [Prod.mk.injEq] at hz
  obtain ⟨hz0, hz1, hz2⟩ := hz
  have HR := Lib.hid hr
  have HP := Lib.hid hp
  clear hr hp
  go_enter Try.func117, Try.ntmps117
  go_wp2
  go_loopw [11, 3] (fun i t wr => Hid (∃ k : Nat, k ≤ cs.length ∧ i = .int .i64 k ∧ t = .int .i64 ((catL (cs.take k)).length : Int) ∧ wr = w)) (fun i _ _ => cs.length - (intOf i).toNat)
  case atStart => exact Lib.hid ⟨0, Nat.zero_le _, rfl, rfl, rfl⟩
  case round =>
    obtain ⟨k, hk, rfl, rfl, rfl⟩ := hrel.out
    clear hrel
    by_cases hlt : k < cs.length
    · obtain ⟨x, hx⟩ : ∃ x, cs[k]? = some x := ⟨cs[k], by simp [hlt]⟩
      obtain ⟨b, off, rfl, hb, hcell⟩ := HP.out.2 k x hx
      have q := hcell 0 _ rfl
      have e1 := congrArg List.length (catL_take hx)
      rw [List.length_append] at e1
      have e2 := catL_le cs (k + 1)
      have v0 : IntKind.i64.wrap (((catL (cs.take k)).length : Int) + (x.l.length : Int)) = ((catL (cs.take (k + 1))).length : Int) := by rw [IntWalk.i64_in _ (by omega)]; omega
      have d0 : decide (((catL (cs.take (k + 1))).length : Int) < 0) = false := by simp
      simp only [Nat.mul_one, Nat.add_zero] at q
      clear hcell e1 e2 hx
      go_wp2
      go_roundw
      case rel => exact Lib.hid ⟨k + 1, by omega, by go_num, by first | rfl | trivial, by first | rfl | trivial⟩
      case measure => simp [intOf]; omega
    · obtain rfl : k = cs.length := by omega
      rw [List.take_length]
      clear hlt hk
      go_wp2_with (go_at_call 120; refine (grow_nil (catL cs).length hl _).mono ?_; rintro e w1 ⟨v0, rfl, ho, g1⟩)
      have HO := Lib.hid ho
      have G1 := Lib.hid g1
      clear ho g1
      go_loopw [27, 6] (fun i t w2 => Hid (∃ k : Nat, k ≤ cs.length ∧ i = .int .i64 k ∧ w2.ownsRow wr.heap.size 3 1 t (catL (cs.take k)).length ((catL (cs.take k)).flatMap encI) ∧ Gr wr w2)) (fun i _ _ => cs.length - (intOf i).toNat)
      case atStart => exact Lib.hid ⟨0, Nat.zero_le _, rfl, HO.out, G1.out⟩
      case round =>
        rename World => V
        obtain ⟨k, hk, rfl, hown, gV⟩ := hrel.out
        clear hrel
        by_cases hlt : k < cs.length
        · obtain ⟨x, hx⟩ : ∃ x, cs[k]? = some x := ⟨cs[k], by simp [hlt]⟩
          obtain ⟨b, off, rfl, hb, hcell⟩ := (HP.out.grow gV).2 k x hx
          have q := hcell 0 _ rfl
          simp only [Nat.mul_one, Nat.add_zero] at q
          have e1 := catL_take hx
          have e2 := catL_le cs (k + 1)
          obtain ⟨hxr, hxn⟩ := HR.out x (List.mem_of_getElem? hx)
          have hxV := hxr.grow gV
          obtain ⟨xa, xl, xc⟩ := x
          dsimp only at hxr hxn hxV e1 q
          rw [e1, List.length_append] at e2
          have E1 := Lib.hid e1
          have HW := Lib.hid hown
          have GV := Lib.hid gV
          clear hcell hx hxr e1 hown gV
          cases xa with
          | none =>
            obtain rfl := irow_nil hxV
            obtain rfl := hxn rfl
            go_wp2_with (at_builtin; refine wpList_append_own_none rfl _ _ 24 rfl wr.heap.size 3 i0 1 Try.underlying24 hi _ _ _ rfl HW.out rfl ?_)
            go_roundw
            case rel =>
              refine Lib.hid ⟨k + 1, by omega, by go_num, ?_, GV.out⟩
              rw [E1.out, List.append_nil]
              exact HW.out
            case measure => simp [intOf]; omega
          | some ad =>
            have hnews := ints_news hxV
            have HN := Lib.hid hnews
            clear hnews hxV
            have hbase : wr.heap.size ≤ V.heap.size := GV.out.size
            go_wp2_with (at_builtin; refine wpList_append_own _ rfl _ _ 24 rfl wr.heap.size 3 i0 (.int .i64 0) 1 8 Try.underlying24 hi hz0 hz1 hz2 rfl (by decide) _ _ _ rfl HW.out ad xl.length xc (xl.flatMap encI) rfl (by rw [ints_len, Nat.mul_one]) HN.out (ints_one9 xl) (by unfold maxLen; omega) (by omega) hbase ?_; intro v' w' hown' hgr _)
            have HO' := Lib.hid hown'
            have HG' := Lib.hid (GV.out.grown' HW.out (Nat.le_refl _) hgr)
            clear hown' hgr
            go_wp2
            go_roundw
            case rel =>
              refine Lib.hid ⟨k + 1, by omega, by go_num, ?_, HG'.out⟩
              rw [E1.out, List.length_append, List.flatMap_append]
              exact HO'.out
            case measure => simp [intOf]; omega
        · obtain rfl : k = cs.length := by omega
          rw [List.take_length] at hown
          go_wp2
          go_ret
          exact ⟨_, rfl, hown, gV⟩

end Go.Proofs.Ytkfhmfidgdpeiaa

namespace Go.Proofs.Ytkfhmfidgdpeiaa
set_option linter.unusedVariables false
set_option linter.unusedSimpArgs false
open Go.RowKit

set_option maxRecDepth 100000 in
set_option maxHeartbeats 2000000 in
theorem truths_any (te me lo ba off : Int) (rl ml : List Int) (ra ma : Option Addr) (rc mc : Nat) (hl : (rl ++ ml).length ≤ 100000) (w : World) (hr : IRow w ra rl) (hrn : ra = none → rc = 0) (hm : IRow w ma ml) (hmn : ma = none → mc = 0) :
    Calls Try.prog 109 #[.agg #[.int .i64 te, .int .i64 me, .int .i64 lo, .int .i64 ba, .int .i64 off, .slice ra rl.length rc], .slice ma ml.length mc] w fun e w' => ∃ b1 b2 a cap, e = .returned (.func (.func 118) #[] #[.pointer (some ⟨b1, 0, none⟩), .pointer (some ⟨b2, 0, none⟩)]) ∧
      w.heap.size ≤ b1 ∧ w.heap.size ≤ b2 ∧ Own w' b1 [.int .i64 te, .int .i64 me, .int .i64 lo, .int .i64 ba, .int .i64 off, .slice ra rl.length rc] ∧ Own w' b2 [.slice a (rl ++ ml).length cap] ∧ IRow w' a (rl ++ ml) ∧ NewAt w.heap.size a ∧ Gr w w' := by
  have hl63 : (rl ++ ml).length ≤ 9223372036854775807 := by omega
  obtain ⟨cs, hcs⟩ : ∃ cs : List SJ, cs = [⟨ra, rl, rc⟩, ⟨ma, ml, mc⟩] := ⟨_, rfl⟩
  have hcat : catL cs = rl ++ ml := by rw [hcs]; simp [catL]
  have o1 := (Own.new w [.int .i64 te, .int .i64 me, .int .i64 lo, .int .i64 ba, .int .i64 off, .slice ra rl.length rc] 123 w.heap.size rfl).keep (Gr.al _ (.cells #[.slice ra rl.length rc, .slice ma ml.length mc] 24))
  have gg := (Gr.al w (.cells #[.int .i64 te, .int .i64 me, .int .i64 lo, .int .i64 ba, .int .i64 off, .slice ra rl.length rc] 123)).tr (Gr.al _ (.cells #[.slice ra rl.length rc, .slice ma ml.length mc] 24))
  have ob := Own.new (w.alloc (.cells #[.int .i64 te, .int .i64 me, .int .i64 lo, .int .i64 ba, .int .i64 off, .slice ra rl.length rc] 123)) [.slice ra rl.length rc, .slice ma ml.length mc] 24 (w.heap.size + 1) (by simp)
  have q5 := (Own.new w [.int .i64 te, .int .i64 me, .int .i64 lo, .int .i64 ba, .int .i64 off, .slice ra rl.length rc] 123 w.heap.size rfl).1.2 5 _ rfl
  have hp : JRow ((w.alloc (.cells #[.int .i64 te, .int .i64 me, .int .i64 lo, .int .i64 ba, .int .i64 off, .slice ra rl.length rc] 123)).alloc (.cells #[.slice ra rl.length rc, .slice ma ml.length mc] 24)) (some ⟨w.heap.size + 1, 0, none⟩) cs := by
    rw [hcs]
    refine ⟨by simp, fun j x hx => ⟨_, 0, rfl, ob.1.1, fun i v hv => ?_⟩⟩
    have hj : j = 0 ∨ j = 1 := by
      have := (List.getElem?_eq_some_iff.1 hx).1
      simp at this
      omega
    have hi : i = 0 := by
      have := (List.getElem?_eq_some_iff.1 hv).1
      simpa [encJ] using this
    subst hi
    rcases hj with rfl | rfl <;> (simp at hx; subst hx; simp [encJ] at hv; subst hv)
    · exact ob.1.2 0 _ rfl
    · exact ob.1.2 1 _ rfl
  have hC := concat_any cs (by rw [hcs]; simp) (by rw [hcat]; exact hl) (some ⟨w.heap.size + 1, 0, none⟩) 2 _ hp (by
    rw [hcs]
    intro c hc
    simp only [List.mem_cons, List.not_mem_nil, or_false] at hc
    rcases hc with rfl | rfl
    · exact ⟨hr.grow gg, hrn⟩
    · exact ⟨hm.grow gg, hmn⟩)
  rw [hcat, show cs.length = 2 by rw [hcs]; rfl] at hC
  have HC := Lib.hid hC
  have O1 := Lib.hid o1
  have GG := Lib.hid gg
  clear hC hp ob o1 gg hcat hcs
  go_enter Try.func109, Try.ntmps109
  go_wp2_with (go_at_call 117; refine HC.out.mono ?_; rintro e w1 ⟨v, rfl, ho, g1⟩; obtain ⟨a, cap, rfl, hrow, hnew⟩ := owns_row_new (enc := encI) (sz := 1) (l := rl ++ ml) (fun _ => rfl) hl63 ho; have HR := Lib.hid hrow; have HN := Lib.hid hnew; have G1 := Lib.hid g1; clear ho hrow hnew g1)
  go_ret
  refine ⟨_, _, a, cap, rfl, Nat.le_refl _, ?_, (O1.out.keep G1.out).keep (Gr.al _ _), by rw [List.length_append]; exact Own.new w1 [_] 24 _ rfl, HR.out.grow (Gr.al _ _), HN.out.le GG.out.size, (GG.out.tr G1.out).tr (Gr.al _ _)⟩
  have := (GG.out.tr G1.out).size
  exact this

end Go.Proofs.Ytkfhmfidgdpeiaa
