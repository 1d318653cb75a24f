/- crush's weight of a set. (Made by gen_i21.py from XI21.part.) -/
import Derived.Test.YtkfhmfidgdpeiaaI20
import Derived.Test.YtkfhmfidgdpeiaaI5
import Derived.Test.YtkfhmfidgdpeiaaI11
namespace Go.Proofs.Ytkfhmfidgdpeiaa
set_option linter.unusedVariables false
set_option linter.unusedSimpArgs false
open Go.RowKit Go.Shelf
attribute [local go_sem] Oper.semAt_some

def whAt (l : List Ld) (x : Nat) : Int := match l[x]? with
  | some y => y.wh
  | none => 0

def sumW (l : List Ld) : List Nat → Int
  | [] => 0
  | x :: r => whAt l x + sumW l r

theorem sumW_app (l : List Ld) (x : Nat) : ∀ r : List Nat, sumW l (r ++ [x]) = sumW l r + whAt l x
  | [] => by simp [sumW]
  | y :: r => by
    simp only [List.cons_append, sumW, sumW_app l x r]
    omega

theorem whAt_bd {l : List Ld} (hB : ∀ x ∈ l, LdB x) (x : Nat) : 0 ≤ whAt l x ∧ whAt l x ≤ 1000000000 := by
  unfold whAt
  cases h : l[x]? with
  | none => simp
  | some y => exact ⟨(hB y (List.mem_of_getElem? h)).2.2.1, (hB y (List.mem_of_getElem? h)).2.2.2⟩

theorem sumW_bd {l : List Ld} (hB : ∀ x ∈ l, LdB x) : ∀ r : List Nat, 0 ≤ sumW l r ∧ sumW l r ≤ 1000000000 * (r.length : Int)
  | [] => by simp [sumW]
  | y :: r => by
    obtain ⟨a, b⟩ := sumW_bd hB r
    obtain ⟨c, d⟩ := whAt_bd hB y
    simp only [sumW, List.length_cons]
    omega

/-- What the boxes of a set weigh at most. -/
def weightW (l : List Ld) (s : Nat) : Int := sumW l (membL s)

theorem weightW_bd {l : List Ld} (hB : ∀ x ∈ l, LdB x) (s : Nat) : 0 ≤ weightW l s ∧ weightW l s ≤ 10000000000 := by
  obtain ⟨a, b⟩ := sumW_bd hB (membL s)
  have := membTo_len s 10
  unfold membL at b
  unfold weightW membL at *
  omega

theorem bit_lt {s n x : Nat} (hs : s < 2 ^ n) (h : s.testBit x = true) : x < n := by
  rcases Nat.lt_or_ge x n with h1 | h1
  · exact h1
  · rw [Nat.testBit_lt_two_pow (Nat.lt_of_lt_of_le hs (Nat.pow_le_pow_right (by decide) h1))] at h
    cases h

theorem pow_le_1024 {n : Nat} (h : n ≤ 10) : 2 ^ n ≤ 1024 := Nat.pow_le_pow_right (n := 2) (by decide) h

/-- While weight adds. -/
def InvS (l : List Ld) (b5 : Nat) (X0 : Nat → Prop) (w4 : World) (pre : List Nat) (X Y : Nat → Prop) (W : World) : Prop :=
  X = X0 ∧ (∀ i, Y i → w4.heap.size ≤ i) ∧ Kx X0 w4 W ∧ Own W b5 [.int .i64 (IntKind.i64.wrap (sumW l pre))]

theorem InvS.ab {l : List Ld} {b5 : Nat} {X0 : Nat → Prop} {w4 : World} (h5 : b5 < w4.heap.size) (s : List Nat) (X : Nat → Prop) : Ab (InvS l b5 X0 w4 s X) := by
  rintro Y Y' A B ⟨h1, h2, h3, h4⟩ hk hy
  have hs := h3.size
  refine ⟨h1, fun i e => ?_, h3.th hk fun i e => .inr (h2 i e), h4.kx hk fun e => ?_⟩
  · rcases hy i e with e | e
    · exact h2 i e
    · omega
  · have := h2 _ e; omega

theorem members_any' (set : Int) (w : World) :
    Calls Try.prog 108 #[.int .i64 set] w fun e w' => ∃ b, e = .returned (.func (.func 116) #[] #[.pointer (some ⟨b, 0, none⟩)]) ∧ w.heap.size ≤ b ∧ Own w' b [.int .i64 set] ∧ Gr w w' :=
  (members_any set w).mono fun _ _ h => ⟨w.heap.size, h.1, Nat.le_refl _, h.2.1, h.2.2⟩

set_option maxRecDepth 100000 in
set_option maxHeartbeats 4000000 in
theorem weight_set (l : List Ld) (h10 : l.length ≤ 10) (hB : ∀ x ∈ l, LdB x) (s : Nat) (hs : s < 2 ^ l.length) (a : Option Addr) (cap : Nat) (keep : Int) (mv : Option Nat) (w : World) (hr : LRow w a l) :
    Calls Try.prog 114 #[.agg #[.slice a l.length cap, .int .i64 keep, .map mv], .int .i64 (s : Int)] w fun e w' => e = .returned (.int .i64 (weightW l s)) ∧ Gr w w' := by
  refine (callsIn_wide (n := 20)).1 ?_
  have hs10 : s < 1024 := Nat.lt_of_lt_of_le hs (pow_le_1024 h10)
  have gg := (Gr.al w (.cells #[.slice a l.length cap, .int .i64 keep, .map mv] 146)).tr (Gr.al _ (.cells #[.int .i64 0] 3))
  have o2 := (Own.new w [.slice a l.length cap, .int .i64 keep, .map mv] 146 w.heap.size rfl).keep (Gr.al _ (.cells #[.int .i64 0] 3))
  have o5 := Own.new (w.alloc (.cells #[.slice a l.length cap, .int .i64 keep, .map mv] 146)) [.int .i64 0] 3 (w.heap.size + 1) (by simp)
  refine callsIn_of_wp_marks Try.func114 rfl trivial ?_ rfl
  simp only [Try.ntmps114, List.size_toArray, List.length_cons, List.length_nil, Nat.reduceAdd, Nat.reduceSub, Array.replicate_succ, Array.replicate_zero, List.push_toArray, List.append_toArray, List.nil_append, List.cons_append]
  gi_wp2_with (refine ⟨trivial, ?_⟩; gi_at_call 108; refine (callsIn_wide.2 (members_any' (s : Int) _)).mono ?_; rintro e w4 ⟨b, rfl, hb, hO, h4⟩; have HO := Lib.hid hO; have O2 := Lib.hid (o2.keep h4); have O5 := Lib.hid (o5.keep h4); have G4 := Lib.hid (gg.tr h4); clear hO h4)
  have hb2 : w.heap.size + 2 ≤ b := by simpa using hb
  have s4 : w.heap.size + 2 ≤ w4.heap.size := by have := O5.out.1.1; omega
  clear hb gg o2 o5
  obtain ⟨X0, hX0⟩ : ∃ X0 : Nat → Prop, X0 = fun i => i = w.heap.size + 1 := ⟨_, rfl⟩
  have x0 : ∀ i, X0 i → i = w.heap.size + 1 := fun i e => by rw [hX0] at e; exact e
  have x5 : X0 (w.heap.size + 1) := by rw [hX0]
  have hst : St X0 (fun V => Own V b [.int .i64 (s : Int)]) w4 := fun B hB => HO.out.kx hB fun e => by have := x0 _ e; omega
  have hrw : St X0 (fun V => LRow V a l) w4 := fun B hB => by
    by_cases h0 : 0 < l.length
    · obtain ⟨b2, off2, e2, hb2', _⟩ := hr.2 0 l[0] (by simp)
      refine RowOf.kx (hr.grow G4.out) hB fun b' off e e' => ?_
      have := x0 _ e'
      rw [e] at e2
      injection e2 with e2
      injection e2 with e2 _
      omega
    · obtain rfl : l = [] := by simpa using h0
      exact RowOf.nil
  have Hx0 := Lib.hid x0
  have X5 := Lib.hid x5
  have Hst := Lib.hid hst
  have HRW := Lib.hid hrw
  have HB := Lib.hid hB
  clear hX0 x0 x5 hst hrw hB hr
  refine wpIn_rangeX (F := Fence.wide) rfl (by omega) (gf := 116) (lb := #[.pointer (some ⟨b, 0, none⟩)]) rfl trivial (enters_of Try.func116 (by kernel_rfl) rfl)
    (members_seq 19 (by omega) b s hs10 X0 w4 Hst.out) (Kx.refl _ _) (fun _ => rfl) X0 (fun i e => ⟨by have := Hx0.out i e; omega, .inl e⟩)
    (InvS l (w.heap.size + 1) X0 w4) (fun _ _ _ _ => False) (fun s X => InvS.ab (by omega) s X) ?abX ?start
    (fun pre x a' X Y W => InvS l (w.heap.size + 1) X0 w4 pre X Y W ∧ s.testBit x = true ∧ a' = ⟨#[.agg #[.slice a l.length cap, .int .i64 keep, .map mv], .int .i64 (s : Int), .pointer (some ⟨w.heap.size, 0, none⟩), undef, .int .i64 0, .pointer (some ⟨w.heap.size + 1, 0, none⟩), .int .i64 (x : Int), .int .i64 (s : Int), .func (.func 116) #[] #[.pointer (some ⟨b, 0, none⟩)], .int .i64 (x : Int), undef, undef, undef, undef, undef, undef, undef, undef, undef, undef], []⟩)
    ?abA ?assign ?body ?done ?stop
  case start => exact ⟨rfl, fun i e => e.elim, Kx.refl _ _, O5.out⟩
  case abX => rintro c s Y Y' A B h _ _; exact h
  case abA =>
    rintro s' x a' X Y Y' A B ⟨h1, hm, h7⟩ hk hy
    exact ⟨InvS.ab (by omega) _ _ _ _ _ _ h1 hk hy, hm, h7⟩
  case assign =>
    rintro l1 pre x X Y W K hI hG hD hK
    dsimp only [encM]
    gi_wp2
    exact hK _ X _ ⟨hI, hG.2.1, rfl⟩ (Kx.refl _ _) (fun i e => ⟨by have := hD.x _ e; omega, .inl e⟩)
  case body =>
    rintro l1 pre xn a' X Y W ⟨⟨rfl, hY, hk, h5⟩, hT, rfl⟩ hD hYl hrec
    have hx : xn < l.length := bit_lt hs hT
    obtain ⟨y, hy⟩ : ∃ y, l[xn]? = some y := ⟨l[xn], by simp [hx]⟩
    obtain ⟨c, off, rfl, hc, r0, r1, r2, r3⟩ := LRow.get (HRW.out W hk) hy
    have f2 := O2.out.kx hk (fun e => by have := Hx0.out _ e; omega)
    have q2 := f2.1.2 0 _ rfl
    have q5 := h5.1.c1
    have z5 := h5.2 0
    have hsum : sumW l (pre ++ [xn]) = sumW l pre + y.wh := by rw [sumW_app]; simp [whAt, hy]
    have v0 : IntKind.i64.wrap (IntKind.i64.wrap (sumW l pre) + y.wh) = IntKind.i64.wrap (sumW l (pre ++ [xn])) := by rw [hsum, wrap_add]
    obtain ⟨S', hS'⟩ : ∃ S', IntKind.i64.wrap (sumW l (pre ++ [xn])) = S' := ⟨_, rfl⟩
    rw [hS'] at v0
    obtain ⟨Pv, hPv⟩ : ∃ Pv, IntKind.i64.wrap (sumW l pre) = Pv := ⟨_, rfl⟩
    rw [hPv] at v0 h5 q5
    have H5 := Lib.hid h5
    have HK := Lib.hid hk
    have HY := Lib.hid hY
    have HSS := Lib.hid hS'
    clear h5 hk hY hS' hsum hD hYl hrec hPv f2 hT hy r0 r1 r2
    gi_wp2
    refine wpIn_region_facts 9 [(2, 1), (4, 2), (4, 3), (5, 4), (6, 5), (7, 6), (8, 0), (8, 7)] (fun x => ⟨#[.agg #[.slice (some ⟨c, off, none⟩) l.length cap, .int .i64 keep, .map mv], .int .i64 (s : Int), .pointer (some ⟨w.heap.size, 0, none⟩), undef, .int .i64 0, .pointer (some ⟨(w.heap.size + 1), 0, none⟩), .int .i64 (xn : Int), .int .i64 (s : Int), .func (.func 116) #[] #[.pointer (some ⟨b, 0, none⟩)], .int .i64 (xn : Int), x 0, x 1, x 2, x 3, x 4, x 5, x 6, x 7, x 8, undef], []⟩) (fun _ => undef) [fun _ x => x = .int .i64 Pv, fun _ x => x = .pointer (some ⟨w.heap.size, 0, none⟩), fun _ x => x = .slice (some ⟨c, off, none⟩) l.length cap, fun _ x => x = .int .i64 (xn : Int), fun _ x => x = .pointer (some ⟨c, off + xn * 4, none⟩), fun _ x => x = .pointer (some ⟨c, off + xn * 4 + 2, none⟩), fun _ x => x = .pointer (some ⟨c, off + xn * 4 + 3, none⟩), fun _ x => x = .int .i64 y.wh, fun _ x => x = .int .i64 S'] (by rfl) (by kernel_rfl) (by kernel_rfl) (by kernel_rfl) (by kernel_rfl) (by rintro ⟨_, _, h⟩; exact h) (stays_cons (Stays.eq _) (stays_cons (Stays.eq _) (stays_cons (Stays.eq _) (stays_cons (Stays.eq _) (stays_cons (Stays.eq _) (stays_cons (Stays.eq _) (stays_cons (Stays.eq _) (stays_cons (Stays.eq _) (stays_cons (Stays.eq _) stays_nil))))))))) ?step4 ?fin4
    case step4 =>
      rintro i hi x v gv hd K hK
      have hi8 : i = 0 ∨ i = 1 ∨ i = 2 ∨ i = 3 ∨ i = 4 ∨ i = 5 ∨ i = 6 ∨ i = 7 ∨ i = 8 := by omega
      rcases hi8 with rfl | rfl | rfl | rfl | rfl | rfl | rfl | rfl | rfl
      · show wpOp Try.prog _ _ 0 K (⟨#[.agg #[.slice (some ⟨c, off, none⟩) l.length cap, .int .i64 keep, .map mv], .int .i64 (s : Int), .pointer (some ⟨w.heap.size, 0, none⟩), undef, .int .i64 0, .pointer (some ⟨(w.heap.size + 1), 0, none⟩), .int .i64 (xn : Int), .int .i64 (s : Int), .func (.func 116) #[] #[.pointer (some ⟨b, 0, none⟩)], .int .i64 (xn : Int), x 0, x 1, x 2, x 3, x 4, x 5, x 6, x 7, x 8, undef], []⟩ : Act) v
        refine wpOp_step rfl (fun K' hK' => ?_)
        have q := gv.keep q5
        go_simp
        exact hK' _ _ (hK _ _ (Below.refl _ _) (at_of rfl (rfl)))
      · show wpOp Try.prog _ _ 1 K (⟨#[.agg #[.slice (some ⟨c, off, none⟩) l.length cap, .int .i64 keep, .map mv], .int .i64 (s : Int), .pointer (some ⟨w.heap.size, 0, none⟩), undef, .int .i64 0, .pointer (some ⟨(w.heap.size + 1), 0, none⟩), .int .i64 (xn : Int), .int .i64 (s : Int), .func (.func 116) #[] #[.pointer (some ⟨b, 0, none⟩)], .int .i64 (xn : Int), x 0, x 1, x 2, x 3, x 4, x 5, x 6, x 7, x 8, undef], []⟩ : Act) v
        refine wpOp_step rfl (fun K' hK' => ?_)
        go_simp
        exact hK' _ _ (hK _ _ (Below.refl _ _) (at_of rfl (rfl)))
      · obtain ⟨x, rfl⟩ := upd_of (show x 1 = .pointer (some ⟨w.heap.size, 0, none⟩) from hd 1 _ (by simp) rfl)
        show wpOp Try.prog _ _ 2 K (⟨#[.agg #[.slice (some ⟨c, off, none⟩) l.length cap, .int .i64 keep, .map mv], .int .i64 (s : Int), .pointer (some ⟨w.heap.size, 0, none⟩), undef, .int .i64 0, .pointer (some ⟨(w.heap.size + 1), 0, none⟩), .int .i64 (xn : Int), .int .i64 (s : Int), .func (.func 116) #[] #[.pointer (some ⟨b, 0, none⟩)], .int .i64 (xn : Int), x 0, .pointer (some ⟨w.heap.size, 0, none⟩), x 2, x 3, x 4, x 5, x 6, x 7, x 8, undef], []⟩ : Act) v
        refine wpOp_step rfl (fun K' hK' => ?_)
        have q := gv.keep q2
        go_simp
        exact hK' _ _ (hK _ _ (Below.refl _ _) (at_of rfl (rfl)))
      · show wpOp Try.prog _ _ 3 K (⟨#[.agg #[.slice (some ⟨c, off, none⟩) l.length cap, .int .i64 keep, .map mv], .int .i64 (s : Int), .pointer (some ⟨w.heap.size, 0, none⟩), undef, .int .i64 0, .pointer (some ⟨(w.heap.size + 1), 0, none⟩), .int .i64 (xn : Int), .int .i64 (s : Int), .func (.func 116) #[] #[.pointer (some ⟨b, 0, none⟩)], .int .i64 (xn : Int), x 0, x 1, x 2, x 3, x 4, x 5, x 6, x 7, x 8, undef], []⟩ : Act) v
        refine wpOp_step rfl (fun K' hK' => ?_)
        go_simp
        exact hK' _ _ (hK _ _ (Below.refl _ _) (at_of rfl (rfl)))
      · obtain ⟨x, rfl⟩ := upd_of (show x 2 = .slice (some ⟨c, off, none⟩) l.length cap from hd 2 _ (by simp) rfl)
        obtain ⟨x, rfl⟩ := upd_of (show x 3 = .int .i64 (xn : Int) from hd 3 _ (by simp) rfl)
        show wpOp Try.prog _ _ 4 K (⟨#[.agg #[.slice (some ⟨c, off, none⟩) l.length cap, .int .i64 keep, .map mv], .int .i64 (s : Int), .pointer (some ⟨w.heap.size, 0, none⟩), undef, .int .i64 0, .pointer (some ⟨(w.heap.size + 1), 0, none⟩), .int .i64 (xn : Int), .int .i64 (s : Int), .func (.func 116) #[] #[.pointer (some ⟨b, 0, none⟩)], .int .i64 (xn : Int), x 0, x 1, .slice (some ⟨c, off, none⟩) l.length cap, .int .i64 (xn : Int), x 4, x 5, x 6, x 7, x 8, undef], []⟩ : Act) v
        refine wpOp_step rfl (fun K' hK' => ?_)
        go_simp
        exact hK' _ _ (hK _ _ (Below.refl _ _) (at_of rfl (rfl)))
      · obtain ⟨x, rfl⟩ := upd_of (show x 4 = .pointer (some ⟨c, off + xn * 4, none⟩) from hd 4 _ (by simp) rfl)
        show wpOp Try.prog _ _ 5 K (⟨#[.agg #[.slice (some ⟨c, off, none⟩) l.length cap, .int .i64 keep, .map mv], .int .i64 (s : Int), .pointer (some ⟨w.heap.size, 0, none⟩), undef, .int .i64 0, .pointer (some ⟨(w.heap.size + 1), 0, none⟩), .int .i64 (xn : Int), .int .i64 (s : Int), .func (.func 116) #[] #[.pointer (some ⟨b, 0, none⟩)], .int .i64 (xn : Int), x 0, x 1, x 2, x 3, .pointer (some ⟨c, off + xn * 4, none⟩), x 5, x 6, x 7, x 8, undef], []⟩ : Act) v
        refine wpOp_step rfl (fun K' hK' => ?_)
        go_simp
        exact hK' _ _ (hK _ _ (Below.refl _ _) (at_of rfl (rfl)))
      · obtain ⟨x, rfl⟩ := upd_of (show x 5 = .pointer (some ⟨c, off + xn * 4 + 2, none⟩) from hd 5 _ (by simp) rfl)
        show wpOp Try.prog _ _ 6 K (⟨#[.agg #[.slice (some ⟨c, off, none⟩) l.length cap, .int .i64 keep, .map mv], .int .i64 (s : Int), .pointer (some ⟨w.heap.size, 0, none⟩), undef, .int .i64 0, .pointer (some ⟨(w.heap.size + 1), 0, none⟩), .int .i64 (xn : Int), .int .i64 (s : Int), .func (.func 116) #[] #[.pointer (some ⟨b, 0, none⟩)], .int .i64 (xn : Int), x 0, x 1, x 2, x 3, x 4, .pointer (some ⟨c, off + xn * 4 + 2, none⟩), x 6, x 7, x 8, undef], []⟩ : Act) v
        refine wpOp_step rfl (fun K' hK' => ?_)
        go_simp
        exact hK' _ _ (hK _ _ (Below.refl _ _) (at_of rfl (rfl)))
      · obtain ⟨x, rfl⟩ := upd_of (show x 6 = .pointer (some ⟨c, off + xn * 4 + 3, none⟩) from hd 6 _ (by simp) rfl)
        show wpOp Try.prog _ _ 7 K (⟨#[.agg #[.slice (some ⟨c, off, none⟩) l.length cap, .int .i64 keep, .map mv], .int .i64 (s : Int), .pointer (some ⟨w.heap.size, 0, none⟩), undef, .int .i64 0, .pointer (some ⟨(w.heap.size + 1), 0, none⟩), .int .i64 (xn : Int), .int .i64 (s : Int), .func (.func 116) #[] #[.pointer (some ⟨b, 0, none⟩)], .int .i64 (xn : Int), x 0, x 1, x 2, x 3, x 4, x 5, .pointer (some ⟨c, off + xn * 4 + 3, none⟩), x 7, x 8, undef], []⟩ : Act) v
        refine wpOp_step rfl (fun K' hK' => ?_)
        have q := gv.keep r3
        go_simp
        exact hK' _ _ (hK _ _ (Below.refl _ _) (at_of rfl (rfl)))
      · obtain ⟨x, rfl⟩ := upd_of (show x 0 = .int .i64 Pv from hd 0 _ (by simp) rfl)
        obtain ⟨x, rfl⟩ := upd_of (show x 7 = .int .i64 y.wh from hd 7 _ (by simp) rfl)
        show wpOp Try.prog _ _ 8 K (⟨#[.agg #[.slice (some ⟨c, off, none⟩) l.length cap, .int .i64 keep, .map mv], .int .i64 (s : Int), .pointer (some ⟨w.heap.size, 0, none⟩), undef, .int .i64 0, .pointer (some ⟨(w.heap.size + 1), 0, none⟩), .int .i64 (xn : Int), .int .i64 (s : Int), .func (.func 116) #[] #[.pointer (some ⟨b, 0, none⟩)], .int .i64 (xn : Int), .int .i64 Pv, x 1, x 2, x 3, x 4, x 5, x 6, .int .i64 y.wh, x 8, undef], []⟩ : Act) v
        refine wpOp_step rfl (fun K' hK' => ?_)
        go_simp
        exact hK' _ _ (hK _ _ (Below.refl _ _) (at_of rfl (rfl)))
    case fin4 =>
      rintro x v gv hd
      obtain ⟨x, rfl⟩ := upd_of (show x 8 = .int .i64 S' from hd 8 _ (by omega) rfl)
      clear hd
      show wpList Try.prog _ _ (List.drop 9 _) (⟨#[.agg #[.slice (some ⟨c, off, none⟩) l.length cap, .int .i64 keep, .map mv], .int .i64 (s : Int), .pointer (some ⟨w.heap.size, 0, none⟩), undef, .int .i64 0, .pointer (some ⟨(w.heap.size + 1), 0, none⟩), .int .i64 (xn : Int), .int .i64 (s : Int), .func (.func 116) #[] #[.pointer (some ⟨b, 0, none⟩)], .int .i64 (xn : Int), x 0, x 1, x 2, x 3, x 4, x 5, x 6, x 7, .int .i64 S', undef], []⟩ : Act) v
      simp only [List.drop_succ_cons, List.drop_zero]
      have d5 := H5.out.keep gv
      have p5 := d5.1.c1
      have y5 := d5.2 0
      have D5 := Lib.hid d5
      have GV := Lib.hid gv
      clear d5 gv z5 q5 q2 r3
      go_wp2
      have kk : Kx X W (v.setCell ⟨w.heap.size + 1, 0, none⟩ (.int .i64 S')) := (Kx.gr GV.out).tr (Kx.set (Z := X) (p := ⟨w.heap.size + 1, 0, none⟩) X5.out _)
      refine ⟨kk, X, ⟨rfl, HY.out, HK.out.tr kk, ?_⟩, fun i e => ⟨by have := Hx0.out i e; have := HK.out.size; have := kk.size; omega, .inl e⟩⟩
      rw [HSS.out]
      exact D5.out.set (i := 0) (v := .int .i64 S') (by simp)
  case done =>
    rintro D xs X Y W hD rfl ⟨rfl, hY, hk, h5⟩ hYD hK
    obtain ⟨w0, w1⟩ := weightW_bd HB.out s
    have e5 : IntKind.i64.wrap (sumW l (membL s)) = weightW l s := IntWalk.i64_in (weightW l s) (by omega)
    rw [e5] at h5
    have c5 := h5.1.c1
    have HKK := Lib.hid hk
    clear h5 hk hY e5 w0 w1 hYD
    gi_wp2
    refine leaves_marks [D] _ (fun E hE => ?_) (by simp) fun w' hk' => ?_
    · simp only [List.mem_singleton] at hE
      subst hE
      exact hK
    · refine ⟨.int .i64 (weightW l s), by simp [results, Try.results114, go_sem], rfl, Kx.toGr (((Kx.gr (Z := noBlock) G4.out).th HKK.out fun i e => ?_).th hk' fun i e => ?_)⟩
      · have := Hx0.out i e
        exact .inr (by omega)
      · simp only [List.mem_singleton] at e
        exact .inr (by omega)
  case stop =>
    rintro D c pre Y W hD _ hF
    exact hF.elim

end Go.Proofs.Ytkfhmfidgdpeiaa
