/- crush's lowest box of a set. (Made by gen_i23.py from XI23.part.) -/
import Derived.Test.YtkfhmfidgdpeiaaI22
namespace Go.Proofs.Ytkfhmfidgdpeiaa
set_option linter.unusedVariables false
set_option linter.unusedSimpArgs false
open Go.RowKit Go.Shelf
attribute [local go_sem] Oper.semAt_some

/-- Whether a box bears all others of a set, which stand. -/
def lowB (l : List Ld) (keep : Int) (f : Int → Bool) (s x : Nat) : Bool := match l[x]? with
  | some y => f ((without s x : Nat) : Int) && decide (weightW l (without s x) ≤ y.sl * keep / 1000)
  | none => false

def lowO (l : List Ld) (keep : Int) (f : Int → Bool) (s : Nat) : Option Nat := (membL s).find? (lowB l keep f s)

def lowV (l : List Ld) (keep : Int) (f : Int → Bool) (s : Nat) : Value := match lowO l keep f s with
  | none => .tuple #[.int .i64 0, .bool false]
  | some k => .tuple #[.int .i64 (k : Int), .bool true]

theorem wrap_small (N : Nat) (h : N < 1024) : IntKind.i64.wrap (N : Int) = N := IntWalk.i64_in _ (by omega)

theorem membTo_add (s k : Nat) : ∀ n, ∃ t, membTo s (k + n) = membTo s k ++ t
  | 0 => ⟨[], by simp⟩
  | n + 1 => by
    obtain ⟨t, ht⟩ := membTo_add s k n
    rw [show k + (n + 1) = (k + n) + 1 by omega, membTo_succ, ht]
    split
    · exact ⟨t ++ [k + n], by simp⟩
    · exact ⟨t, rfl⟩

theorem membL_pre {s k : Nat} (hk : k ≤ 10) : ∃ t, membL s = membTo s k ++ t := by
  obtain ⟨t, ht⟩ := membTo_add s k (10 - k)
  rw [show k + (10 - k) = 10 by omega] at ht
  exact ⟨t, ht⟩

theorem find_first {p : Nat → Bool} {pre t : List Nat} {x : Nat} (h : ∀ y ∈ pre, p y = false) (hx : p x = true) : ((pre ++ [x]) ++ t).find? p = some x := by
  rw [List.find?_append, List.find?_append]
  have : pre.find? p = none := by
    rw [List.find?_eq_none]
    intro y hy
    rw [h y hy]
    decide
  simp [this, hx]

theorem find_no {p : Nat → Bool} {l : List Nat} (h : ∀ y ∈ l, p y = false) : l.find? p = none := by
  rw [List.find?_eq_none]
  intro y hy
  rw [h y hy]
  decide

/-- While a condition is looked for: what the rounds have not turned; none that has come fulfils it. -/
def InvQ (p : Nat → Bool) (X0 : Nat → Prop) (w4 : World) (pre : List Nat) (X Y : Nat → Prop) (W : World) : Prop :=
  X = X0 ∧ (∀ i, Y i → w4.heap.size ≤ i) ∧ Gr w4 W ∧ ∀ y ∈ pre, p y = false

theorem InvQ.ab {p : Nat → Bool} {X0 : Nat → Prop} {w4 : World} (s : List Nat) (X : Nat → Prop) : Ab (InvQ p X0 w4 s X) := by
  rintro Y Y' A B ⟨h1, h2, h3, h4⟩ hk hy
  have hs := h3.size
  refine ⟨h1, fun i e => ?_, Kx.toGr ((Kx.gr (Z := noBlock) h3).th hk fun i e => .inr (h2 i e)), h4⟩
  rcases hy i e with e | e
  · exact h2 i e
  · omega

theorem InvQ.next {p : Nat → Bool} {X0 : Nat → Prop} {w4 : World} {pre : List Nat} {x : Nat} {X Y : Nat → Prop} {W W' : World} (hx : p x = false) (h : InvQ p X0 w4 pre X Y W) (g : Gr W W') : InvQ p X0 w4 (pre ++ [x]) X Y W' := by
  obtain ⟨h1, h2, h3, h4⟩ := h
  refine ⟨h1, h2, h3.tr g, fun y hy => ?_⟩
  rcases List.mem_append.1 hy with hy | hy
  · exact h4 y hy
  · simp only [List.mem_singleton] at hy
    subst hy
    exact hx

def FndQ (p : Nat → Bool) (X0 : Nat → Prop) (w4 : World) (b4 b5 : Nat) (c : Code) (pre : List Nat) (Y : Nat → Prop) (W : World) : Prop :=
  c = .ret ∧ (∀ i, Y i → w4.heap.size ≤ i) ∧ Kx X0 w4 W ∧ ∃ pre' x, pre = pre' ++ [x] ∧ (∀ y ∈ pre', p y = false) ∧ p x = true ∧ Own W b4 [.int .i64 (x : Int)] ∧ Own W b5 [.bool true]

set_option maxRecDepth 100000 in
set_option maxHeartbeats 4000000 in
theorem lowest_set (l : List Ld) (h10 : l.length ≤ 10) (hB : ∀ x ∈ l, LdOk x) (s : Nat) (hs : s < 2 ^ l.length) (a : Option Addr) (cap : Nat) (keep : Int) (k0 : 0 ≤ keep) (k1 : keep ≤ 1000) (m n : Nat) (f : Int → Bool) (w : World) (hr : LRow w a l) (hm : MapB w m n f) :
    Calls Try.prog 106 #[.agg #[.slice a l.length cap, .int .i64 keep, .map (some m)], .int .i64 (s : Int)] w fun e w' => e = .returned (lowV l keep f s) ∧ Gr w w' := by
  refine (callsIn_wide (n := 20)).1 ?_
  have hs10 : s < 1024 := Nat.lt_of_lt_of_le hs (pow_le_1024 h10)
  have gg := ((Gr.al w (.cells #[.slice a l.length cap, .int .i64 keep, .map (some m)] 146)).tr (Gr.al _ (.cells #[.int .i64 (s : Int)] 3))).tr ((Gr.al _ (.cells #[.int .i64 0] 3)).tr (Gr.al _ (.cells #[.bool false] 4)))
  have o2 := (Own.new w [.slice a l.length cap, .int .i64 keep, .map (some m)] 146 w.heap.size rfl).keep ((Gr.al _ (.cells #[.int .i64 (s : Int)] 3)).tr ((Gr.al _ (.cells #[.int .i64 0] 3)).tr (Gr.al _ (.cells #[.bool false] 4))))
  have o3 := (Own.new (w.alloc (.cells #[.slice a l.length cap, .int .i64 keep, .map (some m)] 146)) [.int .i64 (s : Int)] 3 (w.heap.size + 1) (by simp)).keep ((Gr.al _ (.cells #[.int .i64 0] 3)).tr (Gr.al _ (.cells #[.bool false] 4)))
  have o4 := (Own.new ((w.alloc (.cells #[.slice a l.length cap, .int .i64 keep, .map (some m)] 146)).alloc (.cells #[.int .i64 (s : Int)] 3)) [.int .i64 0] 3 (w.heap.size + 1 + 1) (by simp)).keep (Gr.al _ (.cells #[.bool false] 4))
  have o5 := Own.new (((w.alloc (.cells #[.slice a l.length cap, .int .i64 keep, .map (some m)] 146)).alloc (.cells #[.int .i64 (s : Int)] 3)).alloc (.cells #[.int .i64 0] 3)) [.bool false] 4 (w.heap.size + 1 + 1 + 1) (by simp)
  have q3 := o3.1.c1
  refine callsIn_of_wp_marks Try.func106 rfl trivial ?_ rfl
  simp only [Try.ntmps106, List.size_toArray, List.length_cons, List.length_nil, Nat.reduceAdd, Nat.reduceSub, Array.replicate_succ, Array.replicate_zero, List.push_toArray, List.append_toArray, List.nil_append, List.cons_append]
  gi_wp2_with (refine ⟨trivial, ?_⟩; gi_at_call 108; refine (callsIn_wide.2 (members_any' (s : Int) _)).mono ?_; rintro e w4 ⟨b, rfl, hb, hO, h4⟩; have HO := Lib.hid hO; have O2 := Lib.hid (o2.keep h4); have O3 := Lib.hid (o3.keep h4); have O4 := Lib.hid (o4.keep h4); have O5 := Lib.hid (o5.keep h4); have G4 := Lib.hid (gg.tr h4); clear hO h4)
  have hb4 : w.heap.size + 4 ≤ b := by simpa using hb
  have s4 : w.heap.size + 4 ≤ w4.heap.size := by have := O5.out.1.1; omega
  clear hb gg o2 o3 o4 o5 q3
  obtain ⟨X0, hX0⟩ : ∃ X0 : Nat → Prop, X0 = fun i => i = w.heap.size + 1 + 1 ∨ i = w.heap.size + 1 + 1 + 1 := ⟨_, rfl⟩
  have x0 : ∀ i, X0 i → i < w.heap.size + 4 ∧ w.heap.size + 2 ≤ i := fun i e => by rw [hX0] at e; rcases e with e | e <;> omega
  have hst : St X0 (fun V => Own V b [.int .i64 (s : Int)]) w4 := fun B hB => HO.out.kx hB fun e => by have := x0 _ e; omega
  have HX0 := Lib.hid hX0
  have Hx0 := Lib.hid x0
  have Hst := Lib.hid hst
  have HB := Lib.hid hB
  have HR := Lib.hid hr
  have HMp := Lib.hid hm
  clear hX0 x0 hst hB hr hm
  obtain ⟨p, hp⟩ : ∃ p, p = lowB l keep f s := ⟨_, rfl⟩
  refine wpIn_rangeX (F := Fence.wide) rfl (by omega) (gf := 116) (lb := #[.pointer (some ⟨b, 0, none⟩)]) rfl trivial (enters_of Try.func116 (by kernel_rfl) rfl)
    (members_seq 19 (by omega) b s hs10 X0 w4 Hst.out) (Kx.refl _ _) (fun _ => rfl) X0 (fun i e => ⟨by have := Hx0.out i e; omega, .inl e⟩)
    (InvQ p X0 w4) (FndQ p X0 w4 (w.heap.size + 1 + 1) (w.heap.size + 1 + 1 + 1)) (fun s X => InvQ.ab s X) ?abX ?start
    (fun pre x a' X Y W => InvQ p X0 w4 pre X Y W ∧ s.testBit x = true ∧ a' = ⟨#[.agg #[.slice a l.length cap, .int .i64 keep, .map (some m)], .int .i64 (s : Int), .pointer (some ⟨w.heap.size, 0, none⟩), .pointer (some ⟨w.heap.size + 1, 0, none⟩), .pointer (some ⟨w.heap.size + 1 + 1, 0, none⟩), .pointer (some ⟨w.heap.size + 1 + 1 + 1, 0, none⟩), .int .i64 (x : Int), undef, .int .i64 (s : Int), .func (.func 116) #[] #[.pointer (some ⟨b, 0, none⟩)], .int .i64 (x : Int), undef, undef, undef, undef, undef, undef, undef, undef, undef, undef, undef, undef, undef, undef, undef, undef, undef, undef, undef, undef, undef, undef, undef], []⟩)
    ?abA ?assign ?body ?done ?stop
  case start => exact ⟨rfl, fun i e => e.elim, Below.refl _ _, fun y hy => by cases hy⟩
  case abX =>
    rintro c s Y Y' A B ⟨h1, h2, h3, pre', x, h4, h5, h6, h7, h8⟩ hk hy
    have hs := h3.size
    refine ⟨h1, fun i e => ?_, h3.th hk fun i e => .inr (h2 i e), pre', x, h4, h5, h6, h7.kx hk fun e => ?_, h8.kx hk fun e => ?_⟩
    · rcases hy i e with e | e
      · exact h2 i e
      · omega
    · have := h2 _ e; omega
    · have := h2 _ e; omega
  case abA =>
    rintro s' x a' X Y Y' A B ⟨h1, hm, h7⟩ hk hy
    exact ⟨InvQ.ab _ _ _ _ _ _ h1 hk hy, hm, h7⟩
  case assign =>
    rintro l1 pre x X Y W K hI hG hD hK
    dsimp only [encM]
    gi_wp2
    exact hK _ X _ ⟨hI, hG.2.1, rfl⟩ (Kx.refl _ _) (fun i e => ⟨by have := hD.x _ e; omega, .inl e⟩)
  case body =>
    rintro l1 pre xn a' X Y W ⟨⟨rfl, hY, hg, hpre⟩, hT, rfl⟩ hD hYl hrec
    have hx : xn < l.length := bit_lt hs hT
    obtain ⟨y, hy⟩ : ∃ y, l[xn]? = some y := ⟨l[xn], by simp [hx]⟩
    obtain ⟨y1, y2, y3⟩ := HB.out y (List.mem_of_getElem? hy)
    obtain ⟨c, off, rfl, hc, r0, r1, r2, r3⟩ := LRow.get (HR.out.grow (G4.out.tr hg)) hy
    obtain ⟨O, hOt⟩ : ∃ O, without s xn = O := ⟨_, rfl⟩
    have hbits := without_bits hs10 (show xn < 10 by omega) hT
    have hlt := without_lt hs10 (show xn < 10 by omega) hT
    have hpw : IntKind.i64.wrap ((2 : Int) ^ xn) = (2 : Int) ^ xn := by
      have h2 := pow_1024 (show xn < 10 by omega)
      rw [show (2 : Int) ^ xn = ((2 ^ xn : Nat) : Int) by simp]
      exact wrap_small _ h2
    rw [hOt] at hbits hlt
    have hO10 : O < 1024 := by omega
    have hOl : O < 2 ^ l.length := by omega
    have E : p xn = (f ((O : Nat) : Int) && decide (weightW l O ≤ y.sl * keep / 1000)) := by rw [hp]; simp [lowB, hy, hOt]
    obtain ⟨P2, hP2⟩ : ∃ P2, (2 : Int) ^ xn = P2 := ⟨_, rfl⟩
    rw [hP2] at hbits hpw
    have i2 := O2.out.keep hg
    have i3 := (O3.out.keep hg).1.c1
    have HI2 := Lib.hid i2
    have HG := Lib.hid hg
    have HY := Lib.hid hY
    have HP := Lib.hid hpre
    have HE := Lib.hid E
    have HI := Lib.hid (show InvQ p X w4 pre X Y W from ⟨rfl, hY, hg, hpre⟩)
    have HP2 := Lib.hid hP2
    have HRW := Lib.hid (HR.out.grow (G4.out.tr hg))
    have HMW := Lib.hid (HMp.out.keep (G4.out.tr hg))
    have hLB : ∀ x ∈ l, LdB x := fun x hx => (HB.out x hx).1
    have HLB := Lib.hid hLB
    clear hg hY hpre hy E hD hYl hrec hT hlt hOt i2 hLB
    gi_wp2
    refine wpIn_region_facts 4 [(2, 1), (3, 0), (3, 2)] (fun x => ⟨#[.agg #[.slice (some ⟨c, off, none⟩) l.length cap, .int .i64 keep, .map (some m)], .int .i64 (s : Int), .pointer (some ⟨w.heap.size, 0, none⟩), .pointer (some ⟨(w.heap.size + 1), 0, none⟩), .pointer (some ⟨(w.heap.size + 1 + 1), 0, none⟩), .pointer (some ⟨(w.heap.size + 1 + 1 + 1), 0, none⟩), .int .i64 (xn : Int), undef, .int .i64 (s : Int), .func (.func 116) #[] #[.pointer (some ⟨b, 0, none⟩)], .int .i64 (xn : Int), x 0, x 1, x 2, x 3, undef, undef, undef, undef, undef, undef, undef, undef, undef, undef, undef, undef, undef, undef, undef, undef, undef, undef, undef], []⟩) (fun _ => undef) [fun _ x => x = .int .i64 (s : Int), fun _ x => x = .int .i64 (xn : Int), fun _ x => x = .int .i64 P2, fun _ x => x = .int .i64 (O : Int)] (by rfl) (by kernel_rfl) (by kernel_rfl) (by kernel_rfl) (by kernel_rfl) (by rintro ⟨_, _, h⟩; exact h) (stays_cons (Stays.eq _) (stays_cons (Stays.eq _) (stays_cons (Stays.eq _) (stays_cons (Stays.eq _) stays_nil)))) ?step3 ?fin3
    case step3 =>
      rintro i hi x v gv hd K hK
      have hi8 : i = 0 ∨ i = 1 ∨ i = 2 ∨ i = 3 := by omega
      rcases hi8 with rfl | rfl | rfl | rfl
      · show wpOp Try.prog _ _ 0 K (⟨#[.agg #[.slice (some ⟨c, off, none⟩) l.length cap, .int .i64 keep, .map (some m)], .int .i64 (s : Int), .pointer (some ⟨w.heap.size, 0, none⟩), .pointer (some ⟨(w.heap.size + 1), 0, none⟩), .pointer (some ⟨(w.heap.size + 1 + 1), 0, none⟩), .pointer (some ⟨(w.heap.size + 1 + 1 + 1), 0, none⟩), .int .i64 (xn : Int), undef, .int .i64 (s : Int), .func (.func 116) #[] #[.pointer (some ⟨b, 0, none⟩)], .int .i64 (xn : Int), x 0, x 1, x 2, x 3, undef, undef, undef, undef, undef, undef, undef, undef, undef, undef, undef, undef, undef, undef, undef, undef, undef, undef, undef], []⟩ : Act) v
        refine wpOp_step rfl (fun K' hK' => ?_)
        have q := gv.keep i3
        go_simp
        exact hK' _ _ (hK _ _ (Below.refl _ _) (at_of rfl (rfl)))
      · show wpOp Try.prog _ _ 1 K (⟨#[.agg #[.slice (some ⟨c, off, none⟩) l.length cap, .int .i64 keep, .map (some m)], .int .i64 (s : Int), .pointer (some ⟨w.heap.size, 0, none⟩), .pointer (some ⟨(w.heap.size + 1), 0, none⟩), .pointer (some ⟨(w.heap.size + 1 + 1), 0, none⟩), .pointer (some ⟨(w.heap.size + 1 + 1 + 1), 0, none⟩), .int .i64 (xn : Int), undef, .int .i64 (s : Int), .func (.func 116) #[] #[.pointer (some ⟨b, 0, none⟩)], .int .i64 (xn : Int), x 0, x 1, x 2, x 3, undef, undef, undef, undef, undef, undef, undef, undef, undef, undef, undef, undef, undef, undef, undef, undef, undef, undef, undef], []⟩ : Act) v
        refine wpOp_step rfl (fun K' hK' => ?_)
        go_simp
        exact hK' _ _ (hK _ _ (Below.refl _ _) (at_of rfl (rfl)))
      · obtain ⟨x, rfl⟩ := upd_of (show x 1 = .int .i64 (xn : Int) from hd 1 _ (by simp) rfl)
        show wpOp Try.prog _ _ 2 K (⟨#[.agg #[.slice (some ⟨c, off, none⟩) l.length cap, .int .i64 keep, .map (some m)], .int .i64 (s : Int), .pointer (some ⟨w.heap.size, 0, none⟩), .pointer (some ⟨(w.heap.size + 1), 0, none⟩), .pointer (some ⟨(w.heap.size + 1 + 1), 0, none⟩), .pointer (some ⟨(w.heap.size + 1 + 1 + 1), 0, none⟩), .int .i64 (xn : Int), undef, .int .i64 (s : Int), .func (.func 116) #[] #[.pointer (some ⟨b, 0, none⟩)], .int .i64 (xn : Int), x 0, .int .i64 (xn : Int), x 2, x 3, undef, undef, undef, undef, undef, undef, undef, undef, undef, undef, undef, undef, undef, undef, undef, undef, undef, undef, undef], []⟩ : Act) v
        refine wpOp_step rfl (fun K' hK' => ?_)
        have hP2 := HP2.out
        go_simp
        exact hK' _ _ (hK _ _ (Below.refl _ _) (at_of rfl (rfl)))
      · obtain ⟨x, rfl⟩ := upd_of (show x 0 = .int .i64 (s : Int) from hd 0 _ (by simp) rfl)
        obtain ⟨x, rfl⟩ := upd_of (show x 2 = .int .i64 P2 from hd 2 _ (by simp) rfl)
        show wpOp Try.prog _ _ 3 K (⟨#[.agg #[.slice (some ⟨c, off, none⟩) l.length cap, .int .i64 keep, .map (some m)], .int .i64 (s : Int), .pointer (some ⟨w.heap.size, 0, none⟩), .pointer (some ⟨(w.heap.size + 1), 0, none⟩), .pointer (some ⟨(w.heap.size + 1 + 1), 0, none⟩), .pointer (some ⟨(w.heap.size + 1 + 1 + 1), 0, none⟩), .int .i64 (xn : Int), undef, .int .i64 (s : Int), .func (.func 116) #[] #[.pointer (some ⟨b, 0, none⟩)], .int .i64 (xn : Int), .int .i64 (s : Int), x 1, .int .i64 P2, x 3, undef, undef, undef, undef, undef, undef, undef, undef, undef, undef, undef, undef, undef, undef, undef, undef, undef, undef, undef], []⟩ : Act) v
        refine wpOp_step rfl (fun K' hK' => ?_)
        go_simp
        exact hK' _ _ (hK _ _ (Below.refl _ _) (at_of rfl (rfl)))
    case fin3 =>
      rintro x v gv hd
      obtain ⟨x, rfl⟩ := upd_of (show x 3 = .int .i64 (O : Int) from hd 3 _ (by omega) rfl)
      clear hd
      show wpList Try.prog _ _ (List.drop 4 _) (⟨#[.agg #[.slice (some ⟨c, off, none⟩) l.length cap, .int .i64 keep, .map (some m)], .int .i64 (s : Int), .pointer (some ⟨w.heap.size, 0, none⟩), .pointer (some ⟨(w.heap.size + 1), 0, none⟩), .pointer (some ⟨(w.heap.size + 1 + 1), 0, none⟩), .pointer (some ⟨(w.heap.size + 1 + 1 + 1), 0, none⟩), .int .i64 (xn : Int), undef, .int .i64 (s : Int), .func (.func 116) #[] #[.pointer (some ⟨b, 0, none⟩)], .int .i64 (xn : Int), x 0, x 1, x 2, .int .i64 (O : Int), undef, undef, undef, undef, undef, undef, undef, undef, undef, undef, undef, undef, undef, undef, undef, undef, undef, undef, undef], []⟩ : Act) v
      simp only [List.drop_succ_cons, List.drop_zero]
      clear i3 hbits hpw
      obtain ⟨z, hz⟩ : ∃ z : Nat → Value, z = x := ⟨_, rfl⟩
      subst hz
      have GV := Lib.hid gv
      clear gv
      go_wp2
      gi_wp2
      obtain ⟨Wt, hWt⟩ : ∃ Wt, weightW l O = Wt := ⟨_, rfl⟩
      have HWt := Lib.hid hWt
      rw [hWt] at HE
      clear hWt
      have i20 := (HI2.out.keep GV.out).1.2 0 _ rfl
      have i21 := (HI2.out.keep GV.out).1.2 1 _ rfl
      have i22 := (HI2.out.keep GV.out).1.2 2 _ rfl
      have hlook := fun W' (g : Gr v W') => ((HMW.out.keep GV.out).keep g).look (O : Int) (wf64 (by omega) (by omega))
      have HLK := Lib.hid hlook
      have ps0 := GV.out.keep r0
      have ps1 := GV.out.keep r1
      have ps2 := GV.out.keep r2
      have ps3 := GV.out.keep r3
      clear hlook r0 r1 r2 r3
      obtain ⟨B, hBf⟩ : ∃ B, f ((O : Nat) : Int) = B := ⟨_, rfl⟩
      rw [hBf] at HE HLK
      clear hBf
      cases B with
      | false =>
        refine wpIn_region_facts 17 [(1, 0), (3, 1), (3, 2), (4, 3), (5, 4), (6, 4), (7, 4), (8, 4), (9, 4), (10, 4), (11, 4), (12, 4), (13, 4), (14, 4), (15, 4), (16, 4)] (fun x => ⟨#[.agg #[.slice (some ⟨c, off, none⟩) l.length cap, .int .i64 keep, .map (some m)], .int .i64 (s : Int), .pointer (some ⟨w.heap.size, 0, none⟩), .pointer (some ⟨(w.heap.size + 1), 0, none⟩), .pointer (some ⟨(w.heap.size + 1 + 1), 0, none⟩), .pointer (some ⟨(w.heap.size + 1 + 1 + 1), 0, none⟩), .int .i64 (xn : Int), .int .i64 (O : Int), .int .i64 (s : Int), .func (.func 116) #[] #[.pointer (some ⟨b, 0, none⟩)], .int .i64 (xn : Int), z 0, z 1, z 2, .int .i64 (O : Int), x 0, x 1, x 2, x 3, x 4, x 5, x 6, x 7, x 8, x 9, x 10, x 11, x 12, x 13, x 14, x 15, x 16, undef, undef], []⟩) (fun _ => undef) [fun _ x => x = .pointer (some ⟨w.heap.size, 2, none⟩), fun _ x => x = .map (some m), fun _ x => x = .int .i64 (O : Int), fun _ x => x = .bool false, fun _ x => x = .bool false, fun _ x => x = undef, fun _ x => x = undef, fun _ x => x = undef, fun _ x => x = undef, fun _ x => x = undef, fun _ x => x = undef, fun _ x => x = undef, fun _ x => x = undef, fun _ x => x = undef, fun _ x => x = undef, fun _ x => x = undef, fun _ x => x = undef] (by rfl) (by kernel_rfl) (by kernel_rfl) (by kernel_rfl) (by kernel_rfl) (by rintro ⟨_, _, h⟩; exact h) (stays_cons (Stays.eq _) (stays_cons (Stays.eq _) (stays_cons (Stays.eq _) (stays_cons (Stays.eq _) (stays_cons (Stays.eq _) (stays_cons (Stays.eq _) (stays_cons (Stays.eq _) (stays_cons (Stays.eq _) (stays_cons (Stays.eq _) (stays_cons (Stays.eq _) (stays_cons (Stays.eq _) (stays_cons (Stays.eq _) (stays_cons (Stays.eq _) (stays_cons (Stays.eq _) (stays_cons (Stays.eq _) (stays_cons (Stays.eq _) (stays_cons (Stays.eq _) stays_nil))))))))))))))))) ?step4f ?fin4f
        case step4f =>
          rintro i hi x v gv hd K hK
          have hi8 : i = 0 ∨ i = 1 ∨ i = 2 ∨ i = 3 ∨ i = 4 ∨ i = 5 ∨ i = 6 ∨ i = 7 ∨ i = 8 ∨ i = 9 ∨ i = 10 ∨ i = 11 ∨ i = 12 ∨ i = 13 ∨ i = 14 ∨ i = 15 ∨ i = 16 := by omega
          rcases hi8 with rfl | rfl | rfl | rfl | rfl | rfl | rfl | rfl | rfl | rfl | rfl | rfl | rfl | rfl | rfl | rfl | rfl
          · show wpOp Try.prog _ _ 0 K (⟨#[.agg #[.slice (some ⟨c, off, none⟩) l.length cap, .int .i64 keep, .map (some m)], .int .i64 (s : Int), .pointer (some ⟨w.heap.size, 0, none⟩), .pointer (some ⟨(w.heap.size + 1), 0, none⟩), .pointer (some ⟨(w.heap.size + 1 + 1), 0, none⟩), .pointer (some ⟨(w.heap.size + 1 + 1 + 1), 0, none⟩), .int .i64 (xn : Int), .int .i64 (O : Int), .int .i64 (s : Int), .func (.func 116) #[] #[.pointer (some ⟨b, 0, none⟩)], .int .i64 (xn : Int), z 0, z 1, z 2, .int .i64 (O : Int), x 0, x 1, x 2, x 3, x 4, x 5, x 6, x 7, x 8, x 9, x 10, x 11, x 12, x 13, x 14, x 15, x 16, undef, undef], []⟩ : Act) v
            refine wpOp_step rfl (fun K' hK' => ?_)
            go_simp
            exact hK' _ _ (hK _ _ (Below.refl _ _) (at_of rfl (rfl)))
          · obtain ⟨x, rfl⟩ := upd_of (show x 0 = .pointer (some ⟨w.heap.size, 2, none⟩) from hd 0 _ (by simp) rfl)
            show wpOp Try.prog _ _ 1 K (⟨#[.agg #[.slice (some ⟨c, off, none⟩) l.length cap, .int .i64 keep, .map (some m)], .int .i64 (s : Int), .pointer (some ⟨w.heap.size, 0, none⟩), .pointer (some ⟨(w.heap.size + 1), 0, none⟩), .pointer (some ⟨(w.heap.size + 1 + 1), 0, none⟩), .pointer (some ⟨(w.heap.size + 1 + 1 + 1), 0, none⟩), .int .i64 (xn : Int), .int .i64 (O : Int), .int .i64 (s : Int), .func (.func 116) #[] #[.pointer (some ⟨b, 0, none⟩)], .int .i64 (xn : Int), z 0, z 1, z 2, .int .i64 (O : Int), .pointer (some ⟨w.heap.size, 2, none⟩), x 1, x 2, x 3, x 4, x 5, x 6, x 7, x 8, x 9, x 10, x 11, x 12, x 13, x 14, x 15, x 16, undef, undef], []⟩ : Act) v
            refine wpOp_step rfl (fun K' hK' => ?_)
            have q := gv.keep i22
            go_simp
            exact hK' _ _ (hK _ _ (Below.refl _ _) (at_of rfl (rfl)))
          · show wpOp Try.prog _ _ 2 K (⟨#[.agg #[.slice (some ⟨c, off, none⟩) l.length cap, .int .i64 keep, .map (some m)], .int .i64 (s : Int), .pointer (some ⟨w.heap.size, 0, none⟩), .pointer (some ⟨(w.heap.size + 1), 0, none⟩), .pointer (some ⟨(w.heap.size + 1 + 1), 0, none⟩), .pointer (some ⟨(w.heap.size + 1 + 1 + 1), 0, none⟩), .int .i64 (xn : Int), .int .i64 (O : Int), .int .i64 (s : Int), .func (.func 116) #[] #[.pointer (some ⟨b, 0, none⟩)], .int .i64 (xn : Int), z 0, z 1, z 2, .int .i64 (O : Int), x 0, x 1, x 2, x 3, x 4, x 5, x 6, x 7, x 8, x 9, x 10, x 11, x 12, x 13, x 14, x 15, x 16, undef, undef], []⟩ : Act) v
            refine wpOp_step rfl (fun K' hK' => ?_)
            go_simp
            exact hK' _ _ (hK _ _ (Below.refl _ _) (at_of rfl (rfl)))
          · obtain ⟨x, rfl⟩ := upd_of (show x 1 = .map (some m) from hd 1 _ (by simp) rfl)
            obtain ⟨x, rfl⟩ := upd_of (show x 2 = .int .i64 (O : Int) from hd 2 _ (by simp) rfl)
            show wpOp Try.prog _ _ 3 K (⟨#[.agg #[.slice (some ⟨c, off, none⟩) l.length cap, .int .i64 keep, .map (some m)], .int .i64 (s : Int), .pointer (some ⟨w.heap.size, 0, none⟩), .pointer (some ⟨(w.heap.size + 1), 0, none⟩), .pointer (some ⟨(w.heap.size + 1 + 1), 0, none⟩), .pointer (some ⟨(w.heap.size + 1 + 1 + 1), 0, none⟩), .int .i64 (xn : Int), .int .i64 (O : Int), .int .i64 (s : Int), .func (.func 116) #[] #[.pointer (some ⟨b, 0, none⟩)], .int .i64 (xn : Int), z 0, z 1, z 2, .int .i64 (O : Int), x 0, .map (some m), .int .i64 (O : Int), x 3, x 4, x 5, x 6, x 7, x 8, x 9, x 10, x 11, x 12, x 13, x 14, x 15, x 16, undef, undef], []⟩ : Act) v
            refine wpOp_step rfl (fun K' hK' => ?_)
            have q := HLK.out v gv
            go_simp
            exact hK' _ _ (hK _ _ (Below.refl _ _) (at_of rfl (rfl)))
          · obtain ⟨x, rfl⟩ := upd_of (show x 3 = .bool false from hd 3 _ (by simp) rfl)
            show wpOp Try.prog _ _ 4 K (⟨#[.agg #[.slice (some ⟨c, off, none⟩) l.length cap, .int .i64 keep, .map (some m)], .int .i64 (s : Int), .pointer (some ⟨w.heap.size, 0, none⟩), .pointer (some ⟨(w.heap.size + 1), 0, none⟩), .pointer (some ⟨(w.heap.size + 1 + 1), 0, none⟩), .pointer (some ⟨(w.heap.size + 1 + 1 + 1), 0, none⟩), .int .i64 (xn : Int), .int .i64 (O : Int), .int .i64 (s : Int), .func (.func 116) #[] #[.pointer (some ⟨b, 0, none⟩)], .int .i64 (xn : Int), z 0, z 1, z 2, .int .i64 (O : Int), x 0, x 1, x 2, .bool false, x 4, x 5, x 6, x 7, x 8, x 9, x 10, x 11, x 12, x 13, x 14, x 15, x 16, undef, undef], []⟩ : Act) v
            refine wpOp_step rfl (fun K' hK' => ?_)
            go_simp
            exact hK' _ _ (hK _ _ (Below.refl _ _) (at_of rfl (rfl)))
          · obtain ⟨x, rfl⟩ := upd_of (show x 4 = .bool false from hd 4 _ (by simp) rfl)
            show wpOp Try.prog _ _ 5 K (⟨#[.agg #[.slice (some ⟨c, off, none⟩) l.length cap, .int .i64 keep, .map (some m)], .int .i64 (s : Int), .pointer (some ⟨w.heap.size, 0, none⟩), .pointer (some ⟨(w.heap.size + 1), 0, none⟩), .pointer (some ⟨(w.heap.size + 1 + 1), 0, none⟩), .pointer (some ⟨(w.heap.size + 1 + 1 + 1), 0, none⟩), .int .i64 (xn : Int), .int .i64 (O : Int), .int .i64 (s : Int), .func (.func 116) #[] #[.pointer (some ⟨b, 0, none⟩)], .int .i64 (xn : Int), z 0, z 1, z 2, .int .i64 (O : Int), x 0, x 1, x 2, x 3, .bool false, x 5, x 6, x 7, x 8, x 9, x 10, x 11, x 12, x 13, x 14, x 15, x 16, undef, undef], []⟩ : Act) v
            refine wpOp_step rfl (fun K' hK' => ?_)
            go_simp
            exact hK' _ _ (hK _ _ (Below.refl _ _) (at_of rfl (rfl)))
          · obtain ⟨x, rfl⟩ := upd_of (show x 4 = .bool false from hd 4 _ (by simp) rfl)
            show wpOp Try.prog _ _ 6 K (⟨#[.agg #[.slice (some ⟨c, off, none⟩) l.length cap, .int .i64 keep, .map (some m)], .int .i64 (s : Int), .pointer (some ⟨w.heap.size, 0, none⟩), .pointer (some ⟨(w.heap.size + 1), 0, none⟩), .pointer (some ⟨(w.heap.size + 1 + 1), 0, none⟩), .pointer (some ⟨(w.heap.size + 1 + 1 + 1), 0, none⟩), .int .i64 (xn : Int), .int .i64 (O : Int), .int .i64 (s : Int), .func (.func 116) #[] #[.pointer (some ⟨b, 0, none⟩)], .int .i64 (xn : Int), z 0, z 1, z 2, .int .i64 (O : Int), x 0, x 1, x 2, x 3, .bool false, x 5, x 6, x 7, x 8, x 9, x 10, x 11, x 12, x 13, x 14, x 15, x 16, undef, undef], []⟩ : Act) v
            refine wpOp_step rfl (fun K' hK' => ?_)
            go_simp
            exact hK' _ _ (hK _ _ (Below.refl _ _) (at_of rfl (rfl)))
          · obtain ⟨x, rfl⟩ := upd_of (show x 4 = .bool false from hd 4 _ (by simp) rfl)
            show wpOp Try.prog _ _ 7 K (⟨#[.agg #[.slice (some ⟨c, off, none⟩) l.length cap, .int .i64 keep, .map (some m)], .int .i64 (s : Int), .pointer (some ⟨w.heap.size, 0, none⟩), .pointer (some ⟨(w.heap.size + 1), 0, none⟩), .pointer (some ⟨(w.heap.size + 1 + 1), 0, none⟩), .pointer (some ⟨(w.heap.size + 1 + 1 + 1), 0, none⟩), .int .i64 (xn : Int), .int .i64 (O : Int), .int .i64 (s : Int), .func (.func 116) #[] #[.pointer (some ⟨b, 0, none⟩)], .int .i64 (xn : Int), z 0, z 1, z 2, .int .i64 (O : Int), x 0, x 1, x 2, x 3, .bool false, x 5, x 6, x 7, x 8, x 9, x 10, x 11, x 12, x 13, x 14, x 15, x 16, undef, undef], []⟩ : Act) v
            refine wpOp_step rfl (fun K' hK' => ?_)
            go_simp
            exact hK' _ _ (hK _ _ (Below.refl _ _) (at_of rfl (rfl)))
          · obtain ⟨x, rfl⟩ := upd_of (show x 4 = .bool false from hd 4 _ (by simp) rfl)
            show wpOp Try.prog _ _ 8 K (⟨#[.agg #[.slice (some ⟨c, off, none⟩) l.length cap, .int .i64 keep, .map (some m)], .int .i64 (s : Int), .pointer (some ⟨w.heap.size, 0, none⟩), .pointer (some ⟨(w.heap.size + 1), 0, none⟩), .pointer (some ⟨(w.heap.size + 1 + 1), 0, none⟩), .pointer (some ⟨(w.heap.size + 1 + 1 + 1), 0, none⟩), .int .i64 (xn : Int), .int .i64 (O : Int), .int .i64 (s : Int), .func (.func 116) #[] #[.pointer (some ⟨b, 0, none⟩)], .int .i64 (xn : Int), z 0, z 1, z 2, .int .i64 (O : Int), x 0, x 1, x 2, x 3, .bool false, x 5, x 6, x 7, x 8, x 9, x 10, x 11, x 12, x 13, x 14, x 15, x 16, undef, undef], []⟩ : Act) v
            refine wpOp_step rfl (fun K' hK' => ?_)
            go_simp
            exact hK' _ _ (hK _ _ (Below.refl _ _) (at_of rfl (rfl)))
          · obtain ⟨x, rfl⟩ := upd_of (show x 4 = .bool false from hd 4 _ (by simp) rfl)
            show wpOp Try.prog _ _ 9 K (⟨#[.agg #[.slice (some ⟨c, off, none⟩) l.length cap, .int .i64 keep, .map (some m)], .int .i64 (s : Int), .pointer (some ⟨w.heap.size, 0, none⟩), .pointer (some ⟨(w.heap.size + 1), 0, none⟩), .pointer (some ⟨(w.heap.size + 1 + 1), 0, none⟩), .pointer (some ⟨(w.heap.size + 1 + 1 + 1), 0, none⟩), .int .i64 (xn : Int), .int .i64 (O : Int), .int .i64 (s : Int), .func (.func 116) #[] #[.pointer (some ⟨b, 0, none⟩)], .int .i64 (xn : Int), z 0, z 1, z 2, .int .i64 (O : Int), x 0, x 1, x 2, x 3, .bool false, x 5, x 6, x 7, x 8, x 9, x 10, x 11, x 12, x 13, x 14, x 15, x 16, undef, undef], []⟩ : Act) v
            refine wpOp_step rfl (fun K' hK' => ?_)
            go_simp
            exact hK' _ _ (hK _ _ (Below.refl _ _) (at_of rfl (rfl)))
          · obtain ⟨x, rfl⟩ := upd_of (show x 4 = .bool false from hd 4 _ (by simp) rfl)
            show wpOp Try.prog _ _ 10 K (⟨#[.agg #[.slice (some ⟨c, off, none⟩) l.length cap, .int .i64 keep, .map (some m)], .int .i64 (s : Int), .pointer (some ⟨w.heap.size, 0, none⟩), .pointer (some ⟨(w.heap.size + 1), 0, none⟩), .pointer (some ⟨(w.heap.size + 1 + 1), 0, none⟩), .pointer (some ⟨(w.heap.size + 1 + 1 + 1), 0, none⟩), .int .i64 (xn : Int), .int .i64 (O : Int), .int .i64 (s : Int), .func (.func 116) #[] #[.pointer (some ⟨b, 0, none⟩)], .int .i64 (xn : Int), z 0, z 1, z 2, .int .i64 (O : Int), x 0, x 1, x 2, x 3, .bool false, x 5, x 6, x 7, x 8, x 9, x 10, x 11, x 12, x 13, x 14, x 15, x 16, undef, undef], []⟩ : Act) v
            refine wpOp_step rfl (fun K' hK' => ?_)
            go_simp
            exact hK' _ _ (hK _ _ (Below.refl _ _) (at_of rfl (rfl)))
          · obtain ⟨x, rfl⟩ := upd_of (show x 4 = .bool false from hd 4 _ (by simp) rfl)
            show wpOp Try.prog _ _ 11 K (⟨#[.agg #[.slice (some ⟨c, off, none⟩) l.length cap, .int .i64 keep, .map (some m)], .int .i64 (s : Int), .pointer (some ⟨w.heap.size, 0, none⟩), .pointer (some ⟨(w.heap.size + 1), 0, none⟩), .pointer (some ⟨(w.heap.size + 1 + 1), 0, none⟩), .pointer (some ⟨(w.heap.size + 1 + 1 + 1), 0, none⟩), .int .i64 (xn : Int), .int .i64 (O : Int), .int .i64 (s : Int), .func (.func 116) #[] #[.pointer (some ⟨b, 0, none⟩)], .int .i64 (xn : Int), z 0, z 1, z 2, .int .i64 (O : Int), x 0, x 1, x 2, x 3, .bool false, x 5, x 6, x 7, x 8, x 9, x 10, x 11, x 12, x 13, x 14, x 15, x 16, undef, undef], []⟩ : Act) v
            refine wpOp_step rfl (fun K' hK' => ?_)
            go_simp
            exact hK' _ _ (hK _ _ (Below.refl _ _) (at_of rfl (rfl)))
          · obtain ⟨x, rfl⟩ := upd_of (show x 4 = .bool false from hd 4 _ (by simp) rfl)
            show wpOp Try.prog _ _ 12 K (⟨#[.agg #[.slice (some ⟨c, off, none⟩) l.length cap, .int .i64 keep, .map (some m)], .int .i64 (s : Int), .pointer (some ⟨w.heap.size, 0, none⟩), .pointer (some ⟨(w.heap.size + 1), 0, none⟩), .pointer (some ⟨(w.heap.size + 1 + 1), 0, none⟩), .pointer (some ⟨(w.heap.size + 1 + 1 + 1), 0, none⟩), .int .i64 (xn : Int), .int .i64 (O : Int), .int .i64 (s : Int), .func (.func 116) #[] #[.pointer (some ⟨b, 0, none⟩)], .int .i64 (xn : Int), z 0, z 1, z 2, .int .i64 (O : Int), x 0, x 1, x 2, x 3, .bool false, x 5, x 6, x 7, x 8, x 9, x 10, x 11, x 12, x 13, x 14, x 15, x 16, undef, undef], []⟩ : Act) v
            refine wpOp_step rfl (fun K' hK' => ?_)
            go_simp
            exact hK' _ _ (hK _ _ (Below.refl _ _) (at_of rfl (rfl)))
          · obtain ⟨x, rfl⟩ := upd_of (show x 4 = .bool false from hd 4 _ (by simp) rfl)
            show wpOp Try.prog _ _ 13 K (⟨#[.agg #[.slice (some ⟨c, off, none⟩) l.length cap, .int .i64 keep, .map (some m)], .int .i64 (s : Int), .pointer (some ⟨w.heap.size, 0, none⟩), .pointer (some ⟨(w.heap.size + 1), 0, none⟩), .pointer (some ⟨(w.heap.size + 1 + 1), 0, none⟩), .pointer (some ⟨(w.heap.size + 1 + 1 + 1), 0, none⟩), .int .i64 (xn : Int), .int .i64 (O : Int), .int .i64 (s : Int), .func (.func 116) #[] #[.pointer (some ⟨b, 0, none⟩)], .int .i64 (xn : Int), z 0, z 1, z 2, .int .i64 (O : Int), x 0, x 1, x 2, x 3, .bool false, x 5, x 6, x 7, x 8, x 9, x 10, x 11, x 12, x 13, x 14, x 15, x 16, undef, undef], []⟩ : Act) v
            refine wpOp_step rfl (fun K' hK' => ?_)
            go_simp
            exact hK' _ _ (hK _ _ (Below.refl _ _) (at_of rfl (rfl)))
          · obtain ⟨x, rfl⟩ := upd_of (show x 4 = .bool false from hd 4 _ (by simp) rfl)
            show wpOp Try.prog _ _ 14 K (⟨#[.agg #[.slice (some ⟨c, off, none⟩) l.length cap, .int .i64 keep, .map (some m)], .int .i64 (s : Int), .pointer (some ⟨w.heap.size, 0, none⟩), .pointer (some ⟨(w.heap.size + 1), 0, none⟩), .pointer (some ⟨(w.heap.size + 1 + 1), 0, none⟩), .pointer (some ⟨(w.heap.size + 1 + 1 + 1), 0, none⟩), .int .i64 (xn : Int), .int .i64 (O : Int), .int .i64 (s : Int), .func (.func 116) #[] #[.pointer (some ⟨b, 0, none⟩)], .int .i64 (xn : Int), z 0, z 1, z 2, .int .i64 (O : Int), x 0, x 1, x 2, x 3, .bool false, x 5, x 6, x 7, x 8, x 9, x 10, x 11, x 12, x 13, x 14, x 15, x 16, undef, undef], []⟩ : Act) v
            refine wpOp_step rfl (fun K' hK' => ?_)
            go_simp
            exact hK' _ _ (hK _ _ (Below.refl _ _) (at_of rfl (rfl)))
          · obtain ⟨x, rfl⟩ := upd_of (show x 4 = .bool false from hd 4 _ (by simp) rfl)
            show wpOp Try.prog _ _ 15 K (⟨#[.agg #[.slice (some ⟨c, off, none⟩) l.length cap, .int .i64 keep, .map (some m)], .int .i64 (s : Int), .pointer (some ⟨w.heap.size, 0, none⟩), .pointer (some ⟨(w.heap.size + 1), 0, none⟩), .pointer (some ⟨(w.heap.size + 1 + 1), 0, none⟩), .pointer (some ⟨(w.heap.size + 1 + 1 + 1), 0, none⟩), .int .i64 (xn : Int), .int .i64 (O : Int), .int .i64 (s : Int), .func (.func 116) #[] #[.pointer (some ⟨b, 0, none⟩)], .int .i64 (xn : Int), z 0, z 1, z 2, .int .i64 (O : Int), x 0, x 1, x 2, x 3, .bool false, x 5, x 6, x 7, x 8, x 9, x 10, x 11, x 12, x 13, x 14, x 15, x 16, undef, undef], []⟩ : Act) v
            refine wpOp_step rfl (fun K' hK' => ?_)
            go_simp
            exact hK' _ _ (hK _ _ (Below.refl _ _) (at_of rfl (rfl)))
          · obtain ⟨x, rfl⟩ := upd_of (show x 4 = .bool false from hd 4 _ (by simp) rfl)
            show wpOp Try.prog _ _ 16 K (⟨#[.agg #[.slice (some ⟨c, off, none⟩) l.length cap, .int .i64 keep, .map (some m)], .int .i64 (s : Int), .pointer (some ⟨w.heap.size, 0, none⟩), .pointer (some ⟨(w.heap.size + 1), 0, none⟩), .pointer (some ⟨(w.heap.size + 1 + 1), 0, none⟩), .pointer (some ⟨(w.heap.size + 1 + 1 + 1), 0, none⟩), .int .i64 (xn : Int), .int .i64 (O : Int), .int .i64 (s : Int), .func (.func 116) #[] #[.pointer (some ⟨b, 0, none⟩)], .int .i64 (xn : Int), z 0, z 1, z 2, .int .i64 (O : Int), x 0, x 1, x 2, x 3, .bool false, x 5, x 6, x 7, x 8, x 9, x 10, x 11, x 12, x 13, x 14, x 15, x 16, undef, undef], []⟩ : Act) v
            refine wpOp_step rfl (fun K' hK' => ?_)
            go_simp
            exact hK' _ _ (hK _ _ (Below.refl _ _) (at_of rfl (rfl)))
        case fin4f =>
          rintro x v gv hd
          obtain ⟨x, rfl⟩ := upd_of (show x 4 = .bool false from hd 4 _ (by omega) rfl)
          obtain ⟨x, rfl⟩ := upd_of (show x 16 = undef from hd 16 _ (by omega) rfl)
          clear hd
          show wpList Try.prog _ _ (List.drop 17 _) (⟨#[.agg #[.slice (some ⟨c, off, none⟩) l.length cap, .int .i64 keep, .map (some m)], .int .i64 (s : Int), .pointer (some ⟨w.heap.size, 0, none⟩), .pointer (some ⟨(w.heap.size + 1), 0, none⟩), .pointer (some ⟨(w.heap.size + 1 + 1), 0, none⟩), .pointer (some ⟨(w.heap.size + 1 + 1 + 1), 0, none⟩), .int .i64 (xn : Int), .int .i64 (O : Int), .int .i64 (s : Int), .func (.func 116) #[] #[.pointer (some ⟨b, 0, none⟩)], .int .i64 (xn : Int), z 0, z 1, z 2, .int .i64 (O : Int), x 0, x 1, x 2, x 3, .bool false, x 5, x 6, x 7, x 8, x 9, x 10, x 11, x 12, x 13, x 14, x 15, undef, undef, undef], []⟩ : Act) v
          simp only [List.drop_succ_cons, List.drop_zero]
          clear ps0 ps1 ps2 ps3 i20 i21 i22
          go_wp2
          gi_wp2
          have GZ := Lib.hid (GV.out.tr gv)
          clear gv
          exact ⟨Kx.gr GZ.out, X, InvQ.next (by rw [HE.out]; rfl) HI.out GZ.out, fun i e => ⟨by have := Hx0.out i e; have := GZ.out.size; have := HG.out.size; omega, .inl e⟩⟩
      | true =>
        obtain ⟨Dd, hDd⟩ : ∃ Dd, decide (Wt ≤ y.sl * keep / 1000) = Dd := ⟨_, rfl⟩
        rw [hDd] at HE
        refine wpIn_region_facts 17 [(1, 0), (3, 1), (3, 2), (4, 3), (5, 4), (6, 4), (7, 4), (7, 5), (7, 6), (8, 4), (9, 4), (9, 8), (10, 4), (11, 4), (11, 9), (11, 10), (12, 4), (12, 11), (13, 4), (14, 4), (14, 13), (15, 4), (15, 12), (15, 14), (16, 4), (16, 7), (16, 15)] (fun x => ⟨#[.agg #[.slice (some ⟨c, off, none⟩) l.length cap, .int .i64 keep, .map (some m)], .int .i64 (s : Int), .pointer (some ⟨w.heap.size, 0, none⟩), .pointer (some ⟨(w.heap.size + 1), 0, none⟩), .pointer (some ⟨(w.heap.size + 1 + 1), 0, none⟩), .pointer (some ⟨(w.heap.size + 1 + 1 + 1), 0, none⟩), .int .i64 (xn : Int), .int .i64 (O : Int), .int .i64 (s : Int), .func (.func 116) #[] #[.pointer (some ⟨b, 0, none⟩)], .int .i64 (xn : Int), z 0, z 1, z 2, .int .i64 (O : Int), x 0, x 1, x 2, x 3, x 4, x 5, x 6, x 7, x 8, x 9, x 10, x 11, x 12, x 13, x 14, x 15, x 16, undef, undef], []⟩) (fun _ => undef) [fun _ x => x = .pointer (some ⟨w.heap.size, 2, none⟩), fun _ x => x = .map (some m), fun _ x => x = .int .i64 (O : Int), fun _ x => x = .bool true, fun _ x => x = .bool true, fun _ x => x = .agg #[.slice (some ⟨c, off, none⟩) l.length cap, .int .i64 keep, .map (some m)], fun _ x => x = .int .i64 (O : Int), fun _ x => x = .int .i64 Wt, fun _ x => x = .pointer (some ⟨w.heap.size, 0, none⟩), fun _ x => x = .slice (some ⟨c, off, none⟩) l.length cap, fun _ x => x = .int .i64 (xn : Int), fun _ x => x = .pointer (some ⟨c, off + xn * 4, none⟩), fun _ x => x = .agg #[.int .i64 y.sl, .int .i64 y.sh, .int .i64 y.wl, .int .i64 y.wh], fun _ x => x = .pointer (some ⟨w.heap.size, 1, none⟩), fun _ x => x = .int .i64 keep, fun _ x => x = .int .i64 (y.sl * keep / 1000), fun _ x => x = .bool Dd] (by rfl) (by kernel_rfl) (by kernel_rfl) (by kernel_rfl) (by kernel_rfl) (by rintro ⟨_, _, h⟩; exact h) (stays_cons (Stays.eq _) (stays_cons (Stays.eq _) (stays_cons (Stays.eq _) (stays_cons (Stays.eq _) (stays_cons (Stays.eq _) (stays_cons (Stays.eq _) (stays_cons (Stays.eq _) (stays_cons (Stays.eq _) (stays_cons (Stays.eq _) (stays_cons (Stays.eq _) (stays_cons (Stays.eq _) (stays_cons (Stays.eq _) (stays_cons (Stays.eq _) (stays_cons (Stays.eq _) (stays_cons (Stays.eq _) (stays_cons (Stays.eq _) (stays_cons (Stays.eq _) stays_nil))))))))))))))))) ?step4t ?fin4t
        case step4t =>
          rintro i hi x v gv hd K hK
          have hi8 : i = 0 ∨ i = 1 ∨ i = 2 ∨ i = 3 ∨ i = 4 ∨ i = 5 ∨ i = 6 ∨ i = 7 ∨ i = 8 ∨ i = 9 ∨ i = 10 ∨ i = 11 ∨ i = 12 ∨ i = 13 ∨ i = 14 ∨ i = 15 ∨ i = 16 := by omega
          rcases hi8 with rfl | rfl | rfl | rfl | rfl | rfl | rfl | rfl | rfl | rfl | rfl | rfl | rfl | rfl | rfl | rfl | rfl
          · show wpOp Try.prog _ _ 0 K (⟨#[.agg #[.slice (some ⟨c, off, none⟩) l.length cap, .int .i64 keep, .map (some m)], .int .i64 (s : Int), .pointer (some ⟨w.heap.size, 0, none⟩), .pointer (some ⟨(w.heap.size + 1), 0, none⟩), .pointer (some ⟨(w.heap.size + 1 + 1), 0, none⟩), .pointer (some ⟨(w.heap.size + 1 + 1 + 1), 0, none⟩), .int .i64 (xn : Int), .int .i64 (O : Int), .int .i64 (s : Int), .func (.func 116) #[] #[.pointer (some ⟨b, 0, none⟩)], .int .i64 (xn : Int), z 0, z 1, z 2, .int .i64 (O : Int), x 0, x 1, x 2, x 3, x 4, x 5, x 6, x 7, x 8, x 9, x 10, x 11, x 12, x 13, x 14, x 15, x 16, undef, undef], []⟩ : Act) v
            refine wpOp_step rfl (fun K' hK' => ?_)
            go_simp
            exact hK' _ _ (hK _ _ (Below.refl _ _) (at_of rfl (rfl)))
          · obtain ⟨x, rfl⟩ := upd_of (show x 0 = .pointer (some ⟨w.heap.size, 2, none⟩) from hd 0 _ (by simp) rfl)
            show wpOp Try.prog _ _ 1 K (⟨#[.agg #[.slice (some ⟨c, off, none⟩) l.length cap, .int .i64 keep, .map (some m)], .int .i64 (s : Int), .pointer (some ⟨w.heap.size, 0, none⟩), .pointer (some ⟨(w.heap.size + 1), 0, none⟩), .pointer (some ⟨(w.heap.size + 1 + 1), 0, none⟩), .pointer (some ⟨(w.heap.size + 1 + 1 + 1), 0, none⟩), .int .i64 (xn : Int), .int .i64 (O : Int), .int .i64 (s : Int), .func (.func 116) #[] #[.pointer (some ⟨b, 0, none⟩)], .int .i64 (xn : Int), z 0, z 1, z 2, .int .i64 (O : Int), .pointer (some ⟨w.heap.size, 2, none⟩), x 1, x 2, x 3, x 4, x 5, x 6, x 7, x 8, x 9, x 10, x 11, x 12, x 13, x 14, x 15, x 16, undef, undef], []⟩ : Act) v
            refine wpOp_step rfl (fun K' hK' => ?_)
            have q := gv.keep i22
            go_simp
            exact hK' _ _ (hK _ _ (Below.refl _ _) (at_of rfl (rfl)))
          · show wpOp Try.prog _ _ 2 K (⟨#[.agg #[.slice (some ⟨c, off, none⟩) l.length cap, .int .i64 keep, .map (some m)], .int .i64 (s : Int), .pointer (some ⟨w.heap.size, 0, none⟩), .pointer (some ⟨(w.heap.size + 1), 0, none⟩), .pointer (some ⟨(w.heap.size + 1 + 1), 0, none⟩), .pointer (some ⟨(w.heap.size + 1 + 1 + 1), 0, none⟩), .int .i64 (xn : Int), .int .i64 (O : Int), .int .i64 (s : Int), .func (.func 116) #[] #[.pointer (some ⟨b, 0, none⟩)], .int .i64 (xn : Int), z 0, z 1, z 2, .int .i64 (O : Int), x 0, x 1, x 2, x 3, x 4, x 5, x 6, x 7, x 8, x 9, x 10, x 11, x 12, x 13, x 14, x 15, x 16, undef, undef], []⟩ : Act) v
            refine wpOp_step rfl (fun K' hK' => ?_)
            go_simp
            exact hK' _ _ (hK _ _ (Below.refl _ _) (at_of rfl (rfl)))
          · obtain ⟨x, rfl⟩ := upd_of (show x 1 = .map (some m) from hd 1 _ (by simp) rfl)
            obtain ⟨x, rfl⟩ := upd_of (show x 2 = .int .i64 (O : Int) from hd 2 _ (by simp) rfl)
            show wpOp Try.prog _ _ 3 K (⟨#[.agg #[.slice (some ⟨c, off, none⟩) l.length cap, .int .i64 keep, .map (some m)], .int .i64 (s : Int), .pointer (some ⟨w.heap.size, 0, none⟩), .pointer (some ⟨(w.heap.size + 1), 0, none⟩), .pointer (some ⟨(w.heap.size + 1 + 1), 0, none⟩), .pointer (some ⟨(w.heap.size + 1 + 1 + 1), 0, none⟩), .int .i64 (xn : Int), .int .i64 (O : Int), .int .i64 (s : Int), .func (.func 116) #[] #[.pointer (some ⟨b, 0, none⟩)], .int .i64 (xn : Int), z 0, z 1, z 2, .int .i64 (O : Int), x 0, .map (some m), .int .i64 (O : Int), x 3, x 4, x 5, x 6, x 7, x 8, x 9, x 10, x 11, x 12, x 13, x 14, x 15, x 16, undef, undef], []⟩ : Act) v
            refine wpOp_step rfl (fun K' hK' => ?_)
            have q := HLK.out v gv
            go_simp
            exact hK' _ _ (hK _ _ (Below.refl _ _) (at_of rfl (rfl)))
          · obtain ⟨x, rfl⟩ := upd_of (show x 3 = .bool true from hd 3 _ (by simp) rfl)
            show wpOp Try.prog _ _ 4 K (⟨#[.agg #[.slice (some ⟨c, off, none⟩) l.length cap, .int .i64 keep, .map (some m)], .int .i64 (s : Int), .pointer (some ⟨w.heap.size, 0, none⟩), .pointer (some ⟨(w.heap.size + 1), 0, none⟩), .pointer (some ⟨(w.heap.size + 1 + 1), 0, none⟩), .pointer (some ⟨(w.heap.size + 1 + 1 + 1), 0, none⟩), .int .i64 (xn : Int), .int .i64 (O : Int), .int .i64 (s : Int), .func (.func 116) #[] #[.pointer (some ⟨b, 0, none⟩)], .int .i64 (xn : Int), z 0, z 1, z 2, .int .i64 (O : Int), x 0, x 1, x 2, .bool true, x 4, x 5, x 6, x 7, x 8, x 9, x 10, x 11, x 12, x 13, x 14, x 15, x 16, undef, undef], []⟩ : Act) v
            refine wpOp_step rfl (fun K' hK' => ?_)
            go_simp
            exact hK' _ _ (hK _ _ (Below.refl _ _) (at_of rfl (rfl)))
          · obtain ⟨x, rfl⟩ := upd_of (show x 4 = .bool true from hd 4 _ (by simp) rfl)
            show wpOp Try.prog _ _ 5 K (⟨#[.agg #[.slice (some ⟨c, off, none⟩) l.length cap, .int .i64 keep, .map (some m)], .int .i64 (s : Int), .pointer (some ⟨w.heap.size, 0, none⟩), .pointer (some ⟨(w.heap.size + 1), 0, none⟩), .pointer (some ⟨(w.heap.size + 1 + 1), 0, none⟩), .pointer (some ⟨(w.heap.size + 1 + 1 + 1), 0, none⟩), .int .i64 (xn : Int), .int .i64 (O : Int), .int .i64 (s : Int), .func (.func 116) #[] #[.pointer (some ⟨b, 0, none⟩)], .int .i64 (xn : Int), z 0, z 1, z 2, .int .i64 (O : Int), x 0, x 1, x 2, x 3, .bool true, x 5, x 6, x 7, x 8, x 9, x 10, x 11, x 12, x 13, x 14, x 15, x 16, undef, undef], []⟩ : Act) v
            refine wpOp_step rfl (fun K' hK' => ?_)
            have q0 := gv.keep i20
            have q1 := gv.keep i21
            have q2 := gv.keep i22
            go_simp
            exact hK' _ _ (hK _ _ (Below.refl _ _) (at_of rfl (rfl)))
          · obtain ⟨x, rfl⟩ := upd_of (show x 4 = .bool true from hd 4 _ (by simp) rfl)
            show wpOp Try.prog _ _ 6 K (⟨#[.agg #[.slice (some ⟨c, off, none⟩) l.length cap, .int .i64 keep, .map (some m)], .int .i64 (s : Int), .pointer (some ⟨w.heap.size, 0, none⟩), .pointer (some ⟨(w.heap.size + 1), 0, none⟩), .pointer (some ⟨(w.heap.size + 1 + 1), 0, none⟩), .pointer (some ⟨(w.heap.size + 1 + 1 + 1), 0, none⟩), .int .i64 (xn : Int), .int .i64 (O : Int), .int .i64 (s : Int), .func (.func 116) #[] #[.pointer (some ⟨b, 0, none⟩)], .int .i64 (xn : Int), z 0, z 1, z 2, .int .i64 (O : Int), x 0, x 1, x 2, x 3, .bool true, x 5, x 6, x 7, x 8, x 9, x 10, x 11, x 12, x 13, x 14, x 15, x 16, undef, undef], []⟩ : Act) v
            refine wpOp_step rfl (fun K' hK' => ?_)
            go_simp
            exact hK' _ _ (hK _ _ (Below.refl _ _) (at_of rfl (rfl)))
          · obtain ⟨x, rfl⟩ := upd_of (show x 4 = .bool true from hd 4 _ (by simp) rfl)
            obtain ⟨x, rfl⟩ := upd_of (show x 5 = .agg #[.slice (some ⟨c, off, none⟩) l.length cap, .int .i64 keep, .map (some m)] from hd 5 _ (by simp) rfl)
            obtain ⟨x, rfl⟩ := upd_of (show x 6 = .int .i64 (O : Int) from hd 6 _ (by simp) rfl)
            show wpOp Try.prog _ _ 7 K (⟨#[.agg #[.slice (some ⟨c, off, none⟩) l.length cap, .int .i64 keep, .map (some m)], .int .i64 (s : Int), .pointer (some ⟨w.heap.size, 0, none⟩), .pointer (some ⟨(w.heap.size + 1), 0, none⟩), .pointer (some ⟨(w.heap.size + 1 + 1), 0, none⟩), .pointer (some ⟨(w.heap.size + 1 + 1 + 1), 0, none⟩), .int .i64 (xn : Int), .int .i64 (O : Int), .int .i64 (s : Int), .func (.func 116) #[] #[.pointer (some ⟨b, 0, none⟩)], .int .i64 (xn : Int), z 0, z 1, z 2, .int .i64 (O : Int), x 0, x 1, x 2, x 3, .bool true, .agg #[.slice (some ⟨c, off, none⟩) l.length cap, .int .i64 keep, .map (some m)], .int .i64 (O : Int), x 7, x 8, x 9, x 10, x 11, x 12, x 13, x 14, x 15, x 16, undef, undef], []⟩ : Act) v
            refine wpOp_step rfl (fun K' hK' => ?_)
            go_simp
            refine ((HWt.out ▸ weight_set l h10 HLB.out O hOl (some ⟨c, off, none⟩) cap keep (some m) v ((HRW.out.grow GV.out).grow gv) : Calls Try.prog 114 #[.agg #[.slice (some ⟨c, off, none⟩) l.length cap, .int .i64 keep, .map (some m)], .int .i64 (O : Int)] v fun e w' => e = .returned (.int .i64 Wt) ∧ Gr v w')).mono ?_
            rintro e v' ⟨rfl, hg⟩
            exact hK' _ _ (hK _ _ hg (at_of rfl (rfl)))
          · obtain ⟨x, rfl⟩ := upd_of (show x 4 = .bool true from hd 4 _ (by simp) rfl)
            show wpOp Try.prog _ _ 8 K (⟨#[.agg #[.slice (some ⟨c, off, none⟩) l.length cap, .int .i64 keep, .map (some m)], .int .i64 (s : Int), .pointer (some ⟨w.heap.size, 0, none⟩), .pointer (some ⟨(w.heap.size + 1), 0, none⟩), .pointer (some ⟨(w.heap.size + 1 + 1), 0, none⟩), .pointer (some ⟨(w.heap.size + 1 + 1 + 1), 0, none⟩), .int .i64 (xn : Int), .int .i64 (O : Int), .int .i64 (s : Int), .func (.func 116) #[] #[.pointer (some ⟨b, 0, none⟩)], .int .i64 (xn : Int), z 0, z 1, z 2, .int .i64 (O : Int), x 0, x 1, x 2, x 3, .bool true, x 5, x 6, x 7, x 8, x 9, x 10, x 11, x 12, x 13, x 14, x 15, x 16, undef, undef], []⟩ : Act) v
            refine wpOp_step rfl (fun K' hK' => ?_)
            go_simp
            exact hK' _ _ (hK _ _ (Below.refl _ _) (at_of rfl (rfl)))
          · obtain ⟨x, rfl⟩ := upd_of (show x 4 = .bool true from hd 4 _ (by simp) rfl)
            obtain ⟨x, rfl⟩ := upd_of (show x 8 = .pointer (some ⟨w.heap.size, 0, none⟩) from hd 8 _ (by simp) rfl)
            show wpOp Try.prog _ _ 9 K (⟨#[.agg #[.slice (some ⟨c, off, none⟩) l.length cap, .int .i64 keep, .map (some m)], .int .i64 (s : Int), .pointer (some ⟨w.heap.size, 0, none⟩), .pointer (some ⟨(w.heap.size + 1), 0, none⟩), .pointer (some ⟨(w.heap.size + 1 + 1), 0, none⟩), .pointer (some ⟨(w.heap.size + 1 + 1 + 1), 0, none⟩), .int .i64 (xn : Int), .int .i64 (O : Int), .int .i64 (s : Int), .func (.func 116) #[] #[.pointer (some ⟨b, 0, none⟩)], .int .i64 (xn : Int), z 0, z 1, z 2, .int .i64 (O : Int), x 0, x 1, x 2, x 3, .bool true, x 5, x 6, x 7, .pointer (some ⟨w.heap.size, 0, none⟩), x 9, x 10, x 11, x 12, x 13, x 14, x 15, x 16, undef, undef], []⟩ : Act) v
            refine wpOp_step rfl (fun K' hK' => ?_)
            have q := gv.keep i20
            go_simp
            exact hK' _ _ (hK _ _ (Below.refl _ _) (at_of rfl (rfl)))
          · obtain ⟨x, rfl⟩ := upd_of (show x 4 = .bool true from hd 4 _ (by simp) rfl)
            show wpOp Try.prog _ _ 10 K (⟨#[.agg #[.slice (some ⟨c, off, none⟩) l.length cap, .int .i64 keep, .map (some m)], .int .i64 (s : Int), .pointer (some ⟨w.heap.size, 0, none⟩), .pointer (some ⟨(w.heap.size + 1), 0, none⟩), .pointer (some ⟨(w.heap.size + 1 + 1), 0, none⟩), .pointer (some ⟨(w.heap.size + 1 + 1 + 1), 0, none⟩), .int .i64 (xn : Int), .int .i64 (O : Int), .int .i64 (s : Int), .func (.func 116) #[] #[.pointer (some ⟨b, 0, none⟩)], .int .i64 (xn : Int), z 0, z 1, z 2, .int .i64 (O : Int), x 0, x 1, x 2, x 3, .bool true, x 5, x 6, x 7, x 8, x 9, x 10, x 11, x 12, x 13, x 14, x 15, x 16, undef, undef], []⟩ : Act) v
            refine wpOp_step rfl (fun K' hK' => ?_)
            go_simp
            exact hK' _ _ (hK _ _ (Below.refl _ _) (at_of rfl (rfl)))
          · obtain ⟨x, rfl⟩ := upd_of (show x 4 = .bool true from hd 4 _ (by simp) rfl)
            obtain ⟨x, rfl⟩ := upd_of (show x 9 = .slice (some ⟨c, off, none⟩) l.length cap from hd 9 _ (by simp) rfl)
            obtain ⟨x, rfl⟩ := upd_of (show x 10 = .int .i64 (xn : Int) from hd 10 _ (by simp) rfl)
            show wpOp Try.prog _ _ 11 K (⟨#[.agg #[.slice (some ⟨c, off, none⟩) l.length cap, .int .i64 keep, .map (some m)], .int .i64 (s : Int), .pointer (some ⟨w.heap.size, 0, none⟩), .pointer (some ⟨(w.heap.size + 1), 0, none⟩), .pointer (some ⟨(w.heap.size + 1 + 1), 0, none⟩), .pointer (some ⟨(w.heap.size + 1 + 1 + 1), 0, none⟩), .int .i64 (xn : Int), .int .i64 (O : Int), .int .i64 (s : Int), .func (.func 116) #[] #[.pointer (some ⟨b, 0, none⟩)], .int .i64 (xn : Int), z 0, z 1, z 2, .int .i64 (O : Int), x 0, x 1, x 2, x 3, .bool true, x 5, x 6, x 7, x 8, .slice (some ⟨c, off, none⟩) l.length cap, .int .i64 (xn : Int), x 11, x 12, x 13, x 14, x 15, x 16, undef, undef], []⟩ : Act) v
            refine wpOp_step rfl (fun K' hK' => ?_)
            go_simp
            exact hK' _ _ (hK _ _ (Below.refl _ _) (at_of rfl (rfl)))
          · obtain ⟨x, rfl⟩ := upd_of (show x 4 = .bool true from hd 4 _ (by simp) rfl)
            obtain ⟨x, rfl⟩ := upd_of (show x 11 = .pointer (some ⟨c, off + xn * 4, none⟩) from hd 11 _ (by simp) rfl)
            show wpOp Try.prog _ _ 12 K (⟨#[.agg #[.slice (some ⟨c, off, none⟩) l.length cap, .int .i64 keep, .map (some m)], .int .i64 (s : Int), .pointer (some ⟨w.heap.size, 0, none⟩), .pointer (some ⟨(w.heap.size + 1), 0, none⟩), .pointer (some ⟨(w.heap.size + 1 + 1), 0, none⟩), .pointer (some ⟨(w.heap.size + 1 + 1 + 1), 0, none⟩), .int .i64 (xn : Int), .int .i64 (O : Int), .int .i64 (s : Int), .func (.func 116) #[] #[.pointer (some ⟨b, 0, none⟩)], .int .i64 (xn : Int), z 0, z 1, z 2, .int .i64 (O : Int), x 0, x 1, x 2, x 3, .bool true, x 5, x 6, x 7, x 8, x 9, x 10, .pointer (some ⟨c, off + xn * 4, none⟩), x 12, x 13, x 14, x 15, x 16, undef, undef], []⟩ : Act) v
            refine wpOp_step rfl (fun K' hK' => ?_)
            have q0 := gv.keep ps0
            have q1 := gv.keep ps1
            have q2 := gv.keep ps2
            have q3 := gv.keep ps3
            go_simp
            exact hK' _ _ (hK _ _ (Below.refl _ _) (at_of rfl (rfl)))
          · obtain ⟨x, rfl⟩ := upd_of (show x 4 = .bool true from hd 4 _ (by simp) rfl)
            show wpOp Try.prog _ _ 13 K (⟨#[.agg #[.slice (some ⟨c, off, none⟩) l.length cap, .int .i64 keep, .map (some m)], .int .i64 (s : Int), .pointer (some ⟨w.heap.size, 0, none⟩), .pointer (some ⟨(w.heap.size + 1), 0, none⟩), .pointer (some ⟨(w.heap.size + 1 + 1), 0, none⟩), .pointer (some ⟨(w.heap.size + 1 + 1 + 1), 0, none⟩), .int .i64 (xn : Int), .int .i64 (O : Int), .int .i64 (s : Int), .func (.func 116) #[] #[.pointer (some ⟨b, 0, none⟩)], .int .i64 (xn : Int), z 0, z 1, z 2, .int .i64 (O : Int), x 0, x 1, x 2, x 3, .bool true, x 5, x 6, x 7, x 8, x 9, x 10, x 11, x 12, x 13, x 14, x 15, x 16, undef, undef], []⟩ : Act) v
            refine wpOp_step rfl (fun K' hK' => ?_)
            go_simp
            exact hK' _ _ (hK _ _ (Below.refl _ _) (at_of rfl (rfl)))
          · obtain ⟨x, rfl⟩ := upd_of (show x 4 = .bool true from hd 4 _ (by simp) rfl)
            obtain ⟨x, rfl⟩ := upd_of (show x 13 = .pointer (some ⟨w.heap.size, 1, none⟩) from hd 13 _ (by simp) rfl)
            show wpOp Try.prog _ _ 14 K (⟨#[.agg #[.slice (some ⟨c, off, none⟩) l.length cap, .int .i64 keep, .map (some m)], .int .i64 (s : Int), .pointer (some ⟨w.heap.size, 0, none⟩), .pointer (some ⟨(w.heap.size + 1), 0, none⟩), .pointer (some ⟨(w.heap.size + 1 + 1), 0, none⟩), .pointer (some ⟨(w.heap.size + 1 + 1 + 1), 0, none⟩), .int .i64 (xn : Int), .int .i64 (O : Int), .int .i64 (s : Int), .func (.func 116) #[] #[.pointer (some ⟨b, 0, none⟩)], .int .i64 (xn : Int), z 0, z 1, z 2, .int .i64 (O : Int), x 0, x 1, x 2, x 3, .bool true, x 5, x 6, x 7, x 8, x 9, x 10, x 11, x 12, .pointer (some ⟨w.heap.size, 1, none⟩), x 14, x 15, x 16, undef, undef], []⟩ : Act) v
            refine wpOp_step rfl (fun K' hK' => ?_)
            have q := gv.keep i21
            go_simp
            exact hK' _ _ (hK _ _ (Below.refl _ _) (at_of rfl (rfl)))
          · obtain ⟨x, rfl⟩ := upd_of (show x 4 = .bool true from hd 4 _ (by simp) rfl)
            obtain ⟨x, rfl⟩ := upd_of (show x 12 = .agg #[.int .i64 y.sl, .int .i64 y.sh, .int .i64 y.wl, .int .i64 y.wh] from hd 12 _ (by simp) rfl)
            obtain ⟨x, rfl⟩ := upd_of (show x 14 = .int .i64 keep from hd 14 _ (by simp) rfl)
            show wpOp Try.prog _ _ 15 K (⟨#[.agg #[.slice (some ⟨c, off, none⟩) l.length cap, .int .i64 keep, .map (some m)], .int .i64 (s : Int), .pointer (some ⟨w.heap.size, 0, none⟩), .pointer (some ⟨(w.heap.size + 1), 0, none⟩), .pointer (some ⟨(w.heap.size + 1 + 1), 0, none⟩), .pointer (some ⟨(w.heap.size + 1 + 1 + 1), 0, none⟩), .int .i64 (xn : Int), .int .i64 (O : Int), .int .i64 (s : Int), .func (.func 116) #[] #[.pointer (some ⟨b, 0, none⟩)], .int .i64 (xn : Int), z 0, z 1, z 2, .int .i64 (O : Int), x 0, x 1, x 2, x 3, .bool true, x 5, x 6, x 7, x 8, x 9, x 10, x 11, .agg #[.int .i64 y.sl, .int .i64 y.sh, .int .i64 y.wl, .int .i64 y.wh], x 13, .int .i64 keep, x 15, x 16, undef, undef], []⟩ : Act) v
            refine wpOp_step rfl (fun K' hK' => ?_)
            go_simp
            refine (bears_any y.sl y.sh y.wl y.wh keep y2 y3 k0 k1 v).mono ?_
            rintro e v' ⟨rfl, hg⟩
            exact hK' _ _ (hK _ _ hg (at_of rfl (rfl)))
          · obtain ⟨x, rfl⟩ := upd_of (show x 4 = .bool true from hd 4 _ (by simp) rfl)
            obtain ⟨x, rfl⟩ := upd_of (show x 7 = .int .i64 Wt from hd 7 _ (by simp) rfl)
            obtain ⟨x, rfl⟩ := upd_of (show x 15 = .int .i64 (y.sl * keep / 1000) from hd 15 _ (by simp) rfl)
            show wpOp Try.prog _ _ 16 K (⟨#[.agg #[.slice (some ⟨c, off, none⟩) l.length cap, .int .i64 keep, .map (some m)], .int .i64 (s : Int), .pointer (some ⟨w.heap.size, 0, none⟩), .pointer (some ⟨(w.heap.size + 1), 0, none⟩), .pointer (some ⟨(w.heap.size + 1 + 1), 0, none⟩), .pointer (some ⟨(w.heap.size + 1 + 1 + 1), 0, none⟩), .int .i64 (xn : Int), .int .i64 (O : Int), .int .i64 (s : Int), .func (.func 116) #[] #[.pointer (some ⟨b, 0, none⟩)], .int .i64 (xn : Int), z 0, z 1, z 2, .int .i64 (O : Int), x 0, x 1, x 2, x 3, .bool true, x 5, x 6, .int .i64 Wt, x 8, x 9, x 10, x 11, x 12, x 13, x 14, .int .i64 (y.sl * keep / 1000), x 16, undef, undef], []⟩ : Act) v
            refine wpOp_step rfl (fun K' hK' => ?_)
            have q := hDd
            go_simp
            exact hK' _ _ (hK _ _ (Below.refl _ _) (at_of rfl (rfl)))
        case fin4t =>
          rintro x v gv hd
          obtain ⟨x, rfl⟩ := upd_of (show x 4 = .bool true from hd 4 _ (by omega) rfl)
          obtain ⟨x, rfl⟩ := upd_of (show x 16 = .bool Dd from hd 16 _ (by omega) rfl)
          clear hd
          show wpList Try.prog _ _ (List.drop 17 _) (⟨#[.agg #[.slice (some ⟨c, off, none⟩) l.length cap, .int .i64 keep, .map (some m)], .int .i64 (s : Int), .pointer (some ⟨w.heap.size, 0, none⟩), .pointer (some ⟨(w.heap.size + 1), 0, none⟩), .pointer (some ⟨(w.heap.size + 1 + 1), 0, none⟩), .pointer (some ⟨(w.heap.size + 1 + 1 + 1), 0, none⟩), .int .i64 (xn : Int), .int .i64 (O : Int), .int .i64 (s : Int), .func (.func 116) #[] #[.pointer (some ⟨b, 0, none⟩)], .int .i64 (xn : Int), z 0, z 1, z 2, .int .i64 (O : Int), x 0, x 1, x 2, x 3, .bool true, x 5, x 6, x 7, x 8, x 9, x 10, x 11, x 12, x 13, x 14, x 15, .bool Dd, undef, undef], []⟩ : Act) v
          simp only [List.drop_succ_cons, List.drop_zero]
          clear ps0 ps1 ps2 ps3 i20 i21 i22 hDd
          cases Dd with
          | false =>
            go_wp2
            gi_wp2
            have GZ := Lib.hid (GV.out.tr gv)
            clear gv
            exact ⟨Kx.gr GZ.out, X, InvQ.next (by rw [HE.out]; rfl) HI.out GZ.out, fun i e => ⟨by have := Hx0.out i e; have := GZ.out.size; have := HG.out.size; omega, .inl e⟩⟩
          | true =>
            have gZ := GV.out.tr gv
            go_wp2
            have d4 := (O4.out.keep HG.out).keep gZ
            have d5 := (O5.out.keep HG.out).keep gZ
            have e4 := d4.1.c1
            have e5 := d5.1.c1
            have z4 := d4.2 0
            have z5 := d5.2 0
            have n45 : ¬ w.heap.size + 1 + 1 = w.heap.size + 1 + 1 + 1 := by omega
            have n54 : ¬ w.heap.size + 1 + 1 + 1 = w.heap.size + 1 + 1 := by omega
            have D4 := Lib.hid d4
            have D5 := Lib.hid d5
            have GZ := Lib.hid gZ
            clear d4 d5 gZ gv
            gi_wp2
            have x4 : X (w.heap.size + 1 + 1) := by rw [HX0.out]; exact .inl rfl
            have x5 : X (w.heap.size + 1 + 1 + 1) := by rw [HX0.out]; exact .inr rfl
            have kk : Kx X W ((v.setCell ⟨w.heap.size + 1 + 1, 0, none⟩ (.int .i64 (xn : Int))).setCell ⟨w.heap.size + 1 + 1 + 1, 0, none⟩ (.bool true)) :=
              (Kx.gr GZ.out).tr ((Kx.set (Z := X) (p := ⟨w.heap.size + 1 + 1, 0, none⟩) x4 _).tr (Kx.set (Z := X) (p := ⟨w.heap.size + 1 + 1 + 1, 0, none⟩) x5 _))
            refine ⟨kk, rfl, HY.out, (Kx.gr HG.out).tr kk, pre, xn, rfl, HP.out, by rw [HE.out]; rfl, ?_, ?_⟩
            · exact (D4.out.set (i := 0) (v := .int .i64 (xn : Int)) (by simp)).other n45
            · exact (D5.out.other n54).set (i := 0) (v := .bool true) (by simp)
  case done =>
    rintro D xs X Y W hD rfl ⟨rfl, hY, hg, hpre⟩ hYD hK
    have d4 := O4.out.keep hg
    have d5 := O5.out.keep hg
    have e4 := d4.1.c1
    have e5 := d5.1.c1
    have z4 := d4.2 0
    have z5 := d5.2 0
    have n45 : ¬ w.heap.size + 1 + 1 = w.heap.size + 1 + 1 + 1 := by omega
    have n54 : ¬ w.heap.size + 1 + 1 + 1 = w.heap.size + 1 + 1 := by omega
    have D4 := Lib.hid d4
    have D5 := Lib.hid d5
    have HG := Lib.hid (G4.out.tr hg)
    have HD := Lib.hid hD
    have HK := Lib.hid hK
    have HP := Lib.hid hpre
    clear d4 d5 hg hD hK hpre hY hYD
    gi_wp2
    have oz : Own ((W.setCell ⟨w.heap.size + 1 + 1, 0, none⟩ (.int .i64 0)).setCell ⟨w.heap.size + 1 + 1 + 1, 0, none⟩ (.bool false)) (w.heap.size + 1 + 1) [.int .i64 0] := (D4.out.set (i := 0) (v := .int .i64 0) (by simp)).other n45
    have oy : Own ((W.setCell ⟨w.heap.size + 1 + 1, 0, none⟩ (.int .i64 0)).setCell ⟨w.heap.size + 1 + 1 + 1, 0, none⟩ (.bool false)) (w.heap.size + 1 + 1 + 1) [.bool false] := (D5.out.other n54).set (i := 0) (v := .bool false) (by simp)
    have gz : Gr w ((W.setCell ⟨w.heap.size + 1 + 1, 0, none⟩ (.int .i64 0)).setCell ⟨w.heap.size + 1 + 1 + 1, 0, none⟩ (.bool false)) :=
      (HG.out.setCell (p := ⟨w.heap.size + 1 + 1, 0, none⟩) (by dsimp only; omega) _).setCell (p := ⟨w.heap.size + 1 + 1 + 1, 0, none⟩) (by dsimp only; omega) _
    have hD := HD.out
    refine leaves_marks [D] _ (fun E hE => ?_) (by simp) fun w' hk => ?_
    · simp only [List.mem_singleton] at hE
      subst hE
      exact (Below.heap_setCell _ _ _ _ (by dsimp only; omega)).trans ((Below.heap_setCell _ _ _ _ (by dsimp only; omega)).trans HK.out)
    · have p0 := (oz.kx hk (fun e => by simp only [List.mem_singleton] at e; omega)).1.c1
      have p1 := (oy.kx hk (fun e => by simp only [List.mem_singleton] at e; omega)).1.c1
      refine ⟨.tuple #[.int .i64 0, .bool false], by simp [results, Try.results106, go_sem, p0, p1], ?_, Kx.toGr ((Kx.gr (Z := noBlock) gz).th hk fun i e => ?_)⟩
      · unfold lowV lowO
        rw [← hp, find_no HP.out]
      · simp only [List.mem_singleton] at e
        exact .inr (by omega)
  case stop =>
    rintro D c pre Y W hD ⟨m', hm', hpm⟩ ⟨rfl, hY, hk, pre', x, rfl, hpf, hx, d4, d5⟩ hYD hK
    gi_wp2
    refine leaves_marks [D] _ (fun E hE => ?_) (by simp) fun w' hk' => ?_
    · simp only [List.mem_singleton] at hE
      subst hE
      exact hK
    · have p0 := (d4.kx hk' (fun e => by simp only [List.mem_singleton] at e; omega)).1.c1
      have p1 := (d5.kx hk' (fun e => by simp only [List.mem_singleton] at e; omega)).1.c1
      refine ⟨.tuple #[.int .i64 (x : Int), .bool true], by simp [results, Try.results106, go_sem, p0, p1], ?_, Kx.toGr (((Kx.gr (Z := noBlock) G4.out).th hk fun i e => ?_).th hk' fun i e => ?_)⟩
      · obtain ⟨t, ht⟩ := membL_pre (s := s) hm'
        unfold lowV lowO
        rw [← hp, ht, ← hpm, find_first hpf hx]
      · have := Hx0.out i e
        exact .inr (by omega)
      · simp only [List.mem_singleton] at e
        exact .inr (by omega)

end Go.Proofs.Ytkfhmfidgdpeiaa
