/- The contracts of score.Wish and score.Close, of a valid blank and a valid wish. (Made by gen_s14.py.) -/
import Derived.Test.YtaommdjekddgiaaS13
import Derived.Test.YtaommdjekddgiaaS8
namespace Go.Proofs.Ytaommdjekddgiaa
set_option linter.unusedVariables false
set_option linter.unusedSimpArgs false
open Go.RowKit

theorem GoodWish.sp {ll lh wl wh hl hh ol oh il ih : Int} (H : GoodWish ll lh wl wh hl hh ol oh il ih) : ([⟨ll, lh⟩, ⟨wl, wh⟩, ⟨hl, hh⟩] : List Sp).all (okSp 0 3000) = true ∧ ([⟨ol, oh⟩, ⟨il, ih⟩] : List Sp).all (okSp (-3000) 3000) = true := by
  obtain ⟨a0, a1, a2⟩ := H.len
  obtain ⟨b0, b1, b2⟩ := H.wid
  obtain ⟨c0, c1, c2⟩ := H.hei
  obtain ⟨d0, d1, d2⟩ := H.out
  obtain ⟨e0, e1, e2⟩ := H.inn
  constructor <;> simp [okSp, okSpan, inB, in1] <;> omega

theorem SRow.new3 (w : World) (t : TypeId) (a b c d e f : Int) (n : Nat) (hn : n = w.heap.size) : SRow (w.alloc (.cells #[.int .i64 a, .int .i64 b, .int .i64 c, .int .i64 d, .int .i64 e, .int .i64 f] t)) (some ⟨n, 0, none⟩) [⟨a, b⟩, ⟨c, d⟩, ⟨e, f⟩] := by
  subst hn
  have h := Box.new w [.int .i64 a, .int .i64 b, .int .i64 c, .int .i64 d, .int .i64 e, .int .i64 f] t w.heap.size rfl
  refine ⟨by simp, fun j x hx => ⟨w.heap.size, 0, rfl, h.1, fun i v hv => ?_⟩⟩
  match j, hx with
  | 0, hx => (simp at hx; subst hx; match i, hv with
    | 0, hv => exact h.2 0 v hv
    | 1, hv => exact h.2 1 v hv
    | i + 2, hv => simp [encS] at hv)
  | 1, hx => (simp at hx; subst hx; match i, hv with
    | 0, hv => exact h.2 2 v hv
    | 1, hv => exact h.2 3 v hv
    | i + 2, hv => simp [encS] at hv)
  | 2, hx => (simp at hx; subst hx; match i, hv with
    | 0, hv => exact h.2 4 v hv
    | 1, hv => exact h.2 5 v hv
    | i + 2, hv => simp [encS] at hv)
  | j + 3, hx => simp at hx

theorem valid3 (lo hi a b c d e f : Int) (h : ([⟨a, b⟩, ⟨c, d⟩, ⟨e, f⟩] : List Sp).all (okSp lo hi) = true) (ad : Option Addr) (cap : Nat) (w : World) (hr : SRow w ad [⟨a, b⟩, ⟨c, d⟩, ⟨e, f⟩]) :
    Calls Try.prog 83 #[.int .i64 lo, .int .i64 hi, .slice ad 3 cap] w fun e w' => e = .returned (.bool true) ∧ Gr w w' := valids_any lo hi [⟨a, b⟩, ⟨c, d⟩, ⟨e, f⟩] true h ad cap w hr

theorem valid2 (lo hi a b c d : Int) (h : ([⟨a, b⟩, ⟨c, d⟩] : List Sp).all (okSp lo hi) = true) (ad : Option Addr) (cap : Nat) (w : World) (hr : SRow w ad [⟨a, b⟩, ⟨c, d⟩]) :
    Calls Try.prog 83 #[.int .i64 lo, .int .i64 hi, .slice ad 2 cap] w fun e w' => e = .returned (.bool true) ∧ Gr w w' := valids_any lo hi [⟨a, b⟩, ⟨c, d⟩] true h ad cap w hr

set_option maxRecDepth 100000 in
set_option maxHeartbeats 1000000 in
theorem wish_ok (ll lh wl wh hl hh ol oh il ih : Int) (wo : Bool) (H : GoodWish ll lh wl wh hl hh ol oh il ih) (w : World) :
    Calls Try.prog 45 #[.agg #[.int .i64 ll, .int .i64 lh, .int .i64 wl, .int .i64 wh, .int .i64 hl, .int .i64 hh, .int .i64 ol, .int .i64 oh, .int .i64 il, .int .i64 ih, .bool wo]] w fun e w' => e = .returned (.int .i64 0) ∧ Gr w w' := by
  have gg := Gr.al w (.cells #[.int .i64 ll, .int .i64 lh, .int .i64 wl, .int .i64 wh, .int .i64 hl, .int .i64 hh, .int .i64 ol, .int .i64 oh, .int .i64 il, .int .i64 ih, .bool wo] 56)
  have hb := Box.new w [.int .i64 ll, .int .i64 lh, .int .i64 wl, .int .i64 wh, .int .i64 hl, .int .i64 hh, .int .i64 ol, .int .i64 oh, .int .i64 il, .int .i64 ih, .bool wo] 56 w.heap.size rfl
  obtain ⟨s3, s2⟩ := H.sp
  have S3 := Lib.hid s3
  have S2 := Lib.hid s2
  clear H s3 s2
  have q0 := hb.2 0 _ rfl
  have q1 := hb.2 1 _ rfl
  have q2 := hb.2 2 _ rfl
  have q3 := hb.2 3 _ rfl
  have q4 := hb.2 4 _ rfl
  have q5 := hb.2 5 _ rfl
  go_enter Try.func45, Try.ntmps45
  go_wp2_with fail
  refine (valid3 0 3000 ll lh wl wh hl hh S3.out _ _ _ (SRow.new3 _ _ _ _ _ _ _ _ _ (by simp))).mono ?_
  rintro e w1 ⟨rfl, hx⟩
  have g1 := (Gr.al _ _).tr hx
  clear q0 q1 q2 q3 q4 q5
  have hb1 := hb.keep g1
  have q6 := hb1.2 6 _ rfl
  have q7 := hb1.2 7 _ rfl
  have q8 := hb1.2 8 _ rfl
  have q9 := hb1.2 9 _ rfl
  go_wp2_with fail
  refine (valid2 (-3000) 3000 ol oh il ih S2.out _ _ _ (SRow.new2 _ _ _ _ _ _ _ rfl)).mono ?_
  rintro e w2 ⟨rfl, hy⟩
  clear q6 q7 q8 q9
  go_wp2
  go_ret
  exact ⟨rfl, (gg.tr g1).tr ((Gr.al _ _).tr hy)⟩

/-- A check that does not hold, with its caliper. -/
def encB (x : Int × Int) : List Value := [.int .i64 x.1, .int .i64 x.2]

abbrev BRow := RowOf 2 encB

theorem infoBad : (Try.prog.info? 136).map (fun i => (i.zero, i.size, i.bytes)) = some (some (.agg #[.int .i64 0, .int .i64 0]), 2, 16) := by kernel_rfl

/-- The checks below n that do not hold, by the calipers with which each holds. -/
def badL (cl ch : Int) (hold : Nat → Sp) : Nat → List (Int × Int)
  | 0 => []
  | n + 1 => badL cl ch hold n ++ (if outB cl ch (hold n).lo (hold n).hi = true then [((n : Int), outN cl ch (hold n).lo (hold n).hi)] else [])

theorem badL_len (cl ch : Int) (hold : Nat → Sp) : ∀ n, (badL cl ch hold n).length ≤ n
  | 0 => by simp [badL]
  | n + 1 => by
    have := badL_len cl ch hold n
    unfold badL
    split <;> simp <;> omega

/-- A list of bad checks is handed back, and no error. -/
def BadPost (l : List (Int × Int)) (w : World) (e : Ending) (w' : World) : Prop := ∃ a cap, e = .returned (.tuple #[.slice a l.length cap, .int .i64 0]) ∧ Gr w w' ∧ BRow w' a l

set_option maxRecDepth 100000 in
set_option maxHeartbeats 4000000 in
theorem close_ok (tab hei slo : Int) (pan top bot : List Int) (pa ta ba : Option Addr) (pc tc bc : Nat) (opn : Bool) (ll lh wl wh hl hh ol oh il ih : Int) (wo : Bool) (cl ch : Int) (G : GoodB tab hei slo pan top bot opn) (H : GoodWish ll lh wl wh hl hh ol oh il ih) (hc : okSpan 1 10000 cl ch = true) (w : World) (hp : IRow w pa pan) (ht : IRow w ta top) (hb : IRow w ba bot) :
    Calls Try.prog 21 #[.agg #[.int .i64 tab, .slice pa pan.length pc, .int .i64 hei, .slice ta top.length tc, .slice ba bot.length bc, .int .i64 slo, .bool opn], .agg #[.int .i64 ll, .int .i64 lh, .int .i64 wl, .int .i64 wh, .int .i64 hl, .int .i64 hh, .int .i64 ol, .int .i64 oh, .int .i64 il, .int .i64 ih, .bool wo], .agg #[.int .i64 cl, .int .i64 ch]] w (BadPost (badL cl ch (holdL 0 hei slo pan top bot opn ll lh wl wh hl hh ol oh il ih wo) 10) w) := by
  have gg := ((Gr.al w (.cells #[.int .i64 tab, .slice pa pan.length pc, .int .i64 hei, .slice ta top.length tc, .slice ba bot.length bc, .int .i64 slo, .bool opn] 58)).tr (Gr.al _ (.cells #[.int .i64 ll, .int .i64 lh, .int .i64 wl, .int .i64 wh, .int .i64 hl, .int .i64 hh, .int .i64 ol, .int .i64 oh, .int .i64 il, .int .i64 ih, .bool wo] 56))).tr (Gr.al _ (.cells #[.int .i64 cl, .int .i64 ch] 38))
  have hB := ((Box.new w [.int .i64 tab, .slice pa pan.length pc, .int .i64 hei, .slice ta top.length tc, .slice ba bot.length bc, .int .i64 slo, .bool opn] 58 w.heap.size rfl).keep (Gr.al _ (.cells #[.int .i64 ll, .int .i64 lh, .int .i64 wl, .int .i64 wh, .int .i64 hl, .int .i64 hh, .int .i64 ol, .int .i64 oh, .int .i64 il, .int .i64 ih, .bool wo] 56))).keep (Gr.al _ (.cells #[.int .i64 cl, .int .i64 ch] 38))
  have hW := (Box.new (w.alloc (.cells #[.int .i64 tab, .slice pa pan.length pc, .int .i64 hei, .slice ta top.length tc, .slice ba bot.length bc, .int .i64 slo, .bool opn] 58)) [.int .i64 ll, .int .i64 lh, .int .i64 wl, .int .i64 wh, .int .i64 hl, .int .i64 hh, .int .i64 ol, .int .i64 oh, .int .i64 il, .int .i64 ih, .bool wo] 56 (w.heap.size + 1) (by simp)).keep (Gr.al _ (.cells #[.int .i64 cl, .int .i64 ch] 38))
  have hC := Box.new ((w.alloc (.cells #[.int .i64 tab, .slice pa pan.length pc, .int .i64 hei, .slice ta top.length tc, .slice ba bot.length bc, .int .i64 slo, .bool opn] 58)).alloc (.cells #[.int .i64 ll, .int .i64 lh, .int .i64 wl, .int .i64 wh, .int .i64 hl, .int .i64 hh, .int .i64 ol, .int .i64 oh, .int .i64 il, .int .i64 ih, .bool wo] 56)) [.int .i64 cl, .int .i64 ch] 38 (w.heap.size + 1 + 1) (by simp)
  have HG := Lib.hid G
  have HH := Lib.hid H
  have hcs : ([⟨cl, ch⟩] : List Sp).all (okSp 1 10000) = true := by simpa [okSp] using hc
  have HCS := Lib.hid hcs
  have HS := Lib.hid G.sh
  have hcb : 0 ≤ cl ∧ cl ≤ 10000 ∧ 0 ≤ ch ∧ ch ≤ 10000 := by
    simp only [okSpan, inB, in1, List.all_cons, List.all_nil, Bool.and_true, Bool.and_eq_true, decide_eq_true_eq] at hc
    omega
  obtain ⟨cb0, cb1, cb2, cb3⟩ := hcb
  clear G H hc hcs
  go_enter Try.func21, Try.ntmps21
  go_upto_region 1 with fail
  refine wp_abs (fun W => Gr w W ∧ Box W w.heap.size [.int .i64 tab, .slice pa pan.length pc, .int .i64 hei, .slice ta top.length tc, .slice ba bot.length bc, .int .i64 slo, .bool opn] ∧ Box W (w.heap.size + 1) [.int .i64 ll, .int .i64 lh, .int .i64 wl, .int .i64 wh, .int .i64 hl, .int .i64 hh, .int .i64 ol, .int .i64 oh, .int .i64 il, .int .i64 ih, .bool wo] ∧ Box W (w.heap.size + 1 + 1) [.int .i64 cl, .int .i64 ch]) ⟨gg, hB, hW, hC⟩ ?_
  clear gg hB hW hC
  rintro W ⟨gg, hB, hW, hC⟩
  refine wp_region_facts 9 [(1, 0), (3, 2), (5, 4), (6, 5), (7, 1), (7, 3), (7, 6), (8, 7)] (fun x => ⟨#[.agg #[.int .i64 tab, .slice pa pan.length pc, .int .i64 hei, .slice ta top.length tc, .slice ba bot.length bc, .int .i64 slo, .bool opn], .agg #[.int .i64 ll, .int .i64 lh, .int .i64 wl, .int .i64 wh, .int .i64 hl, .int .i64 hh, .int .i64 ol, .int .i64 oh, .int .i64 il, .int .i64 ih, .bool wo], .agg #[.int .i64 cl, .int .i64 ch], .pointer (some ⟨w.heap.size, 0, none⟩), .pointer (some ⟨(w.heap.size + 1), 0, none⟩), .pointer (some ⟨(w.heap.size + 1 + 1), 0, none⟩), .slice none 0 0, .int .i64 0, undef, undef, undef, undef, undef, undef, x 0, x 1, x 2, x 3, x 4, x 5, x 6, x 7, x 8, undef, undef, undef, undef, undef, undef, undef, undef, undef, undef, undef, undef, undef, undef, undef, undef, undef, undef, undef, undef, undef, undef, undef, undef, undef, undef, undef], []⟩) (fun _ => undef) [fun _ x => x = .agg #[.int .i64 tab, .slice pa pan.length pc, .int .i64 hei, .slice ta top.length tc, .slice ba bot.length bc, .int .i64 slo, .bool opn], fun _ x => x = .int .i64 0, fun _ x => x = .agg #[.int .i64 ll, .int .i64 lh, .int .i64 wl, .int .i64 wh, .int .i64 hl, .int .i64 hh, .int .i64 ol, .int .i64 oh, .int .i64 il, .int .i64 ih, .bool wo], fun _ x => x = .int .i64 0, fun _ x => x = .agg #[.int .i64 cl, .int .i64 ch], fun v x => ∃ a, x = .slice a 1 1 ∧ SRow v a [⟨cl, ch⟩], fun _ x => x = .int .i64 0, fun v x => ∃ a, x = .slice a 3 3 ∧ IRow v a [0, 0, 0], fun _ x => x = .int .i64 0] (by rfl) (by kernel_rfl) (by kernel_rfl) (by kernel_rfl) (stays_cons (Stays.eq _) (stays_cons (Stays.eq _) (stays_cons (Stays.eq _) (stays_cons (Stays.eq _) (stays_cons (Stays.eq _) (stays_cons (fun v v' x g ⟨a, e, r⟩ => ⟨a, e, r.grow g⟩) (stays_cons (Stays.eq _) (stays_cons (fun v v' x g ⟨a, e, r⟩ => ⟨a, e, r.grow g⟩) (stays_cons (Stays.eq _) stays_nil))))))))) ?step1 ?fin1
  case step1 =>
    rintro i hi x v gv hd K hK
    have hi8 : i = 0 ∨ i = 1 ∨ i = 2 ∨ i = 3 ∨ i = 4 ∨ i = 5 ∨ i = 6 ∨ i = 7 ∨ i = 8 := by omega
    rcases hi8 with rfl | rfl | rfl | rfl | rfl | rfl | rfl | rfl | rfl
    · show wpOp Try.prog _ _ 0 K (⟨#[.agg #[.int .i64 tab, .slice pa pan.length pc, .int .i64 hei, .slice ta top.length tc, .slice ba bot.length bc, .int .i64 slo, .bool opn], .agg #[.int .i64 ll, .int .i64 lh, .int .i64 wl, .int .i64 wh, .int .i64 hl, .int .i64 hh, .int .i64 ol, .int .i64 oh, .int .i64 il, .int .i64 ih, .bool wo], .agg #[.int .i64 cl, .int .i64 ch], .pointer (some ⟨w.heap.size, 0, none⟩), .pointer (some ⟨(w.heap.size + 1), 0, none⟩), .pointer (some ⟨(w.heap.size + 1 + 1), 0, none⟩), .slice none 0 0, .int .i64 0, undef, undef, undef, undef, undef, undef, x 0, x 1, x 2, x 3, x 4, x 5, x 6, x 7, x 8, undef, undef, undef, undef, undef, undef, undef, undef, undef, undef, undef, undef, undef, undef, undef, undef, undef, undef, undef, undef, undef, undef, undef, undef, undef, undef, undef], []⟩ : Act) v
      refine wpOp_step rfl (fun K' hK' => ?_)
      rw [if_pos (by rfl)]
      refine wp_load_mid 58 _ rfl w.heap.size 0 (by rfl) [.int .i64 tab, .slice pa pan.length pc, .int .i64 hei, .slice ta top.length tc, .slice ba bot.length bc, .int .i64 slo, .bool opn] _ (fun j u hu => by rw [Nat.zero_add]; exact (hB.keep gv).2 j u hu) Try.underlying58 rfl (by kernel_rfl) ?_
      exact hK' _ _ (hK _ _ (Below.refl _ _) (at_of rfl (rfl)))
    · obtain ⟨x, rfl⟩ := upd_of (show x 0 = .agg #[.int .i64 tab, .slice pa pan.length pc, .int .i64 hei, .slice ta top.length tc, .slice ba bot.length bc, .int .i64 slo, .bool opn] from hd 0 _ (by simp) rfl)
      show wpOp Try.prog _ _ 1 K (⟨#[.agg #[.int .i64 tab, .slice pa pan.length pc, .int .i64 hei, .slice ta top.length tc, .slice ba bot.length bc, .int .i64 slo, .bool opn], .agg #[.int .i64 ll, .int .i64 lh, .int .i64 wl, .int .i64 wh, .int .i64 hl, .int .i64 hh, .int .i64 ol, .int .i64 oh, .int .i64 il, .int .i64 ih, .bool wo], .agg #[.int .i64 cl, .int .i64 ch], .pointer (some ⟨w.heap.size, 0, none⟩), .pointer (some ⟨(w.heap.size + 1), 0, none⟩), .pointer (some ⟨(w.heap.size + 1 + 1), 0, none⟩), .slice none 0 0, .int .i64 0, undef, undef, undef, undef, undef, undef, .agg #[.int .i64 tab, .slice pa pan.length pc, .int .i64 hei, .slice ta top.length tc, .slice ba bot.length bc, .int .i64 slo, .bool opn], x 1, x 2, x 3, x 4, x 5, x 6, x 7, x 8, undef, undef, undef, undef, undef, undef, undef, undef, undef, undef, undef, undef, undef, undef, undef, undef, undef, undef, undef, undef, undef, undef, undef, undef, undef, undef, undef], []⟩ : Act) v
      refine wpOp_step rfl (fun K' hK' => ?_)
      go_simp
      refine (checkB_ok _ _ _ _ _ _ _ _ _ _ _ _ _ HG.out v (hp.grow (gg.tr gv)) (ht.grow (gg.tr gv)) (hb.grow (gg.tr gv))).mono ?_
      rintro e v' ⟨rfl, hg⟩
      exact hK' _ _ (hK _ _ hg (at_of rfl (rfl)))
    · show wpOp Try.prog _ _ 2 K (⟨#[.agg #[.int .i64 tab, .slice pa pan.length pc, .int .i64 hei, .slice ta top.length tc, .slice ba bot.length bc, .int .i64 slo, .bool opn], .agg #[.int .i64 ll, .int .i64 lh, .int .i64 wl, .int .i64 wh, .int .i64 hl, .int .i64 hh, .int .i64 ol, .int .i64 oh, .int .i64 il, .int .i64 ih, .bool wo], .agg #[.int .i64 cl, .int .i64 ch], .pointer (some ⟨w.heap.size, 0, none⟩), .pointer (some ⟨(w.heap.size + 1), 0, none⟩), .pointer (some ⟨(w.heap.size + 1 + 1), 0, none⟩), .slice none 0 0, .int .i64 0, undef, undef, undef, undef, undef, undef, x 0, x 1, x 2, x 3, x 4, x 5, x 6, x 7, x 8, undef, undef, undef, undef, undef, undef, undef, undef, undef, undef, undef, undef, undef, undef, undef, undef, undef, undef, undef, undef, undef, undef, undef, undef, undef, undef, undef], []⟩ : Act) v
      refine wpOp_step rfl (fun K' hK' => ?_)
      rw [if_pos (by rfl)]
      refine wp_load_mid 56 _ rfl (w.heap.size + 1) 0 (by rfl) [.int .i64 ll, .int .i64 lh, .int .i64 wl, .int .i64 wh, .int .i64 hl, .int .i64 hh, .int .i64 ol, .int .i64 oh, .int .i64 il, .int .i64 ih, .bool wo] _ (fun j u hu => by rw [Nat.zero_add]; exact (hW.keep gv).2 j u hu) Try.underlying56 rfl (by kernel_rfl) ?_
      exact hK' _ _ (hK _ _ (Below.refl _ _) (at_of rfl (rfl)))
    · obtain ⟨x, rfl⟩ := upd_of (show x 2 = .agg #[.int .i64 ll, .int .i64 lh, .int .i64 wl, .int .i64 wh, .int .i64 hl, .int .i64 hh, .int .i64 ol, .int .i64 oh, .int .i64 il, .int .i64 ih, .bool wo] from hd 2 _ (by simp) rfl)
      show wpOp Try.prog _ _ 3 K (⟨#[.agg #[.int .i64 tab, .slice pa pan.length pc, .int .i64 hei, .slice ta top.length tc, .slice ba bot.length bc, .int .i64 slo, .bool opn], .agg #[.int .i64 ll, .int .i64 lh, .int .i64 wl, .int .i64 wh, .int .i64 hl, .int .i64 hh, .int .i64 ol, .int .i64 oh, .int .i64 il, .int .i64 ih, .bool wo], .agg #[.int .i64 cl, .int .i64 ch], .pointer (some ⟨w.heap.size, 0, none⟩), .pointer (some ⟨(w.heap.size + 1), 0, none⟩), .pointer (some ⟨(w.heap.size + 1 + 1), 0, none⟩), .slice none 0 0, .int .i64 0, undef, undef, undef, undef, undef, undef, x 0, x 1, .agg #[.int .i64 ll, .int .i64 lh, .int .i64 wl, .int .i64 wh, .int .i64 hl, .int .i64 hh, .int .i64 ol, .int .i64 oh, .int .i64 il, .int .i64 ih, .bool wo], x 3, x 4, x 5, x 6, x 7, x 8, undef, undef, undef, undef, undef, undef, undef, undef, undef, undef, undef, undef, undef, undef, undef, undef, undef, undef, undef, undef, undef, undef, undef, undef, undef, undef, undef], []⟩ : Act) v
      refine wpOp_step rfl (fun K' hK' => ?_)
      go_simp
      refine (wish_ok ll lh wl wh hl hh ol oh il ih wo HH.out v).mono ?_
      rintro e v' ⟨rfl, hg⟩
      exact hK' _ _ (hK _ _ hg (at_of rfl (rfl)))
    · show wpOp Try.prog _ _ 4 K (⟨#[.agg #[.int .i64 tab, .slice pa pan.length pc, .int .i64 hei, .slice ta top.length tc, .slice ba bot.length bc, .int .i64 slo, .bool opn], .agg #[.int .i64 ll, .int .i64 lh, .int .i64 wl, .int .i64 wh, .int .i64 hl, .int .i64 hh, .int .i64 ol, .int .i64 oh, .int .i64 il, .int .i64 ih, .bool wo], .agg #[.int .i64 cl, .int .i64 ch], .pointer (some ⟨w.heap.size, 0, none⟩), .pointer (some ⟨(w.heap.size + 1), 0, none⟩), .pointer (some ⟨(w.heap.size + 1 + 1), 0, none⟩), .slice none 0 0, .int .i64 0, undef, undef, undef, undef, undef, undef, x 0, x 1, x 2, x 3, x 4, x 5, x 6, x 7, x 8, undef, undef, undef, undef, undef, undef, undef, undef, undef, undef, undef, undef, undef, undef, undef, undef, undef, undef, undef, undef, undef, undef, undef, undef, undef, undef, undef], []⟩ : Act) v
      refine wpOp_step rfl (fun K' hK' => ?_)
      rw [if_pos (by rfl)]
      refine wp_load_mid 38 _ rfl (w.heap.size + 1 + 1) 0 (by rfl) [.int .i64 cl, .int .i64 ch] _ (fun j u hu => by rw [Nat.zero_add]; exact (hC.keep gv).2 j u hu) Try.underlying38 rfl (by kernel_rfl) ?_
      exact hK' _ _ (hK _ _ (Below.refl _ _) (at_of rfl (rfl)))
    · obtain ⟨x, rfl⟩ := upd_of (show x 4 = .agg #[.int .i64 cl, .int .i64 ch] from hd 4 _ (by simp) rfl)
      show wpOp Try.prog _ _ 5 K (⟨#[.agg #[.int .i64 tab, .slice pa pan.length pc, .int .i64 hei, .slice ta top.length tc, .slice ba bot.length bc, .int .i64 slo, .bool opn], .agg #[.int .i64 ll, .int .i64 lh, .int .i64 wl, .int .i64 wh, .int .i64 hl, .int .i64 hh, .int .i64 ol, .int .i64 oh, .int .i64 il, .int .i64 ih, .bool wo], .agg #[.int .i64 cl, .int .i64 ch], .pointer (some ⟨w.heap.size, 0, none⟩), .pointer (some ⟨(w.heap.size + 1), 0, none⟩), .pointer (some ⟨(w.heap.size + 1 + 1), 0, none⟩), .slice none 0 0, .int .i64 0, undef, undef, undef, undef, undef, undef, x 0, x 1, x 2, x 3, .agg #[.int .i64 cl, .int .i64 ch], x 5, x 6, x 7, x 8, undef, undef, undef, undef, undef, undef, undef, undef, undef, undef, undef, undef, undef, undef, undef, undef, undef, undef, undef, undef, undef, undef, undef, undef, undef, undef, undef], []⟩ : Act) v
      refine wpOp_step rfl (fun K' hK' => ?_)
      go_simp
      have hg := Gr.al v (.cells (List.toArray [.int .i64 cl, .int .i64 ch]) 38)
      exact hK' _ _ (hK _ _ hg (at_of rfl (⟨_, rfl, SRow.new1 v 38 cl ch v.heap.size rfl⟩)))
    · obtain ⟨a5, e5, r5⟩ := hd 5 _ (by simp) rfl
      obtain ⟨x, rfl⟩ := upd_of (show x 5 = .slice a5 1 1 from e5)
      show wpOp Try.prog _ _ 6 K (⟨#[.agg #[.int .i64 tab, .slice pa pan.length pc, .int .i64 hei, .slice ta top.length tc, .slice ba bot.length bc, .int .i64 slo, .bool opn], .agg #[.int .i64 ll, .int .i64 lh, .int .i64 wl, .int .i64 wh, .int .i64 hl, .int .i64 hh, .int .i64 ol, .int .i64 oh, .int .i64 il, .int .i64 ih, .bool wo], .agg #[.int .i64 cl, .int .i64 ch], .pointer (some ⟨w.heap.size, 0, none⟩), .pointer (some ⟨(w.heap.size + 1), 0, none⟩), .pointer (some ⟨(w.heap.size + 1 + 1), 0, none⟩), .slice none 0 0, .int .i64 0, undef, undef, undef, undef, undef, undef, x 0, x 1, x 2, x 3, x 4, .slice a5 1 1, x 6, x 7, x 8, undef, undef, undef, undef, undef, undef, undef, undef, undef, undef, undef, undef, undef, undef, undef, undef, undef, undef, undef, undef, undef, undef, undef, undef, undef, undef, undef], []⟩ : Act) v
      refine wpOp_step rfl (fun K' hK' => ?_)
      go_simp
      refine (measured_ok [⟨cl, ch⟩] HCS.out a5 1 v r5).mono ?_
      rintro e v' ⟨rfl, hg⟩
      exact hK' _ _ (hK _ _ hg (at_of rfl (rfl)))
    · obtain ⟨x, rfl⟩ := upd_of (show x 1 = .int .i64 0 from hd 1 _ (by simp) rfl)
      obtain ⟨x, rfl⟩ := upd_of (show x 3 = .int .i64 0 from hd 3 _ (by simp) rfl)
      obtain ⟨x, rfl⟩ := upd_of (show x 6 = .int .i64 0 from hd 6 _ (by simp) rfl)
      show wpOp Try.prog _ _ 7 K (⟨#[.agg #[.int .i64 tab, .slice pa pan.length pc, .int .i64 hei, .slice ta top.length tc, .slice ba bot.length bc, .int .i64 slo, .bool opn], .agg #[.int .i64 ll, .int .i64 lh, .int .i64 wl, .int .i64 wh, .int .i64 hl, .int .i64 hh, .int .i64 ol, .int .i64 oh, .int .i64 il, .int .i64 ih, .bool wo], .agg #[.int .i64 cl, .int .i64 ch], .pointer (some ⟨w.heap.size, 0, none⟩), .pointer (some ⟨(w.heap.size + 1), 0, none⟩), .pointer (some ⟨(w.heap.size + 1 + 1), 0, none⟩), .slice none 0 0, .int .i64 0, undef, undef, undef, undef, undef, undef, x 0, .int .i64 0, x 2, .int .i64 0, x 4, x 5, .int .i64 0, x 7, x 8, undef, undef, undef, undef, undef, undef, undef, undef, undef, undef, undef, undef, undef, undef, undef, undef, undef, undef, undef, undef, undef, undef, undef, undef, undef, undef, undef], []⟩ : Act) v
      refine wpOp_step rfl (fun K' hK' => ?_)
      go_simp
      have hg := Gr.al v (.cells (List.toArray [.int .i64 0, .int .i64 0, .int .i64 0]) 39)
      exact hK' _ _ (hK _ _ hg (at_of rfl (⟨_, rfl, zeros_row v 39⟩)))
    · obtain ⟨a7, e7, r7⟩ := hd 7 _ (by simp) rfl
      obtain ⟨x, rfl⟩ := upd_of (show x 7 = .slice a7 3 3 from e7)
      show wpOp Try.prog _ _ 8 K (⟨#[.agg #[.int .i64 tab, .slice pa pan.length pc, .int .i64 hei, .slice ta top.length tc, .slice ba bot.length bc, .int .i64 slo, .bool opn], .agg #[.int .i64 ll, .int .i64 lh, .int .i64 wl, .int .i64 wh, .int .i64 hl, .int .i64 hh, .int .i64 ol, .int .i64 oh, .int .i64 il, .int .i64 ih, .bool wo], .agg #[.int .i64 cl, .int .i64 ch], .pointer (some ⟨w.heap.size, 0, none⟩), .pointer (some ⟨(w.heap.size + 1), 0, none⟩), .pointer (some ⟨(w.heap.size + 1 + 1), 0, none⟩), .slice none 0 0, .int .i64 0, undef, undef, undef, undef, undef, undef, x 0, x 1, x 2, x 3, x 4, x 5, x 6, .slice a7 3 3, x 8, undef, undef, undef, undef, undef, undef, undef, undef, undef, undef, undef, undef, undef, undef, undef, undef, undef, undef, undef, undef, undef, undef, undef, undef, undef, undef, undef], []⟩ : Act) v
      refine wpOp_step rfl (fun K' hK' => ?_)
      go_simp
      refine (first_three a7 3 v r7).mono ?_
      rintro e v' ⟨rfl, hg⟩
      exact hK' _ _ (hK _ _ hg (at_of rfl (rfl)))
  case fin1 =>
    rintro x v gv hd
    obtain ⟨x, rfl⟩ := upd_of (show x 8 = .int .i64 0 from hd 8 _ (by omega) rfl)
    clear hd
    show wpList Try.prog _ _ (List.drop 9 _) (⟨#[.agg #[.int .i64 tab, .slice pa pan.length pc, .int .i64 hei, .slice ta top.length tc, .slice ba bot.length bc, .int .i64 slo, .bool opn], .agg #[.int .i64 ll, .int .i64 lh, .int .i64 wl, .int .i64 wh, .int .i64 hl, .int .i64 hh, .int .i64 ol, .int .i64 oh, .int .i64 il, .int .i64 ih, .bool wo], .agg #[.int .i64 cl, .int .i64 ch], .pointer (some ⟨w.heap.size, 0, none⟩), .pointer (some ⟨(w.heap.size + 1), 0, none⟩), .pointer (some ⟨(w.heap.size + 1 + 1), 0, none⟩), .slice none 0 0, .int .i64 0, undef, undef, undef, undef, undef, undef, x 0, x 1, x 2, x 3, x 4, x 5, x 6, x 7, .int .i64 0, undef, undef, undef, undef, undef, undef, undef, undef, undef, undef, undef, undef, undef, undef, undef, undef, undef, undef, undef, undef, undef, undef, undef, undef, undef, undef, undef], []⟩ : Act) v
    simp only [List.drop_succ_cons, List.drop_zero]
    have hB := hB.keep gv
    have hW := hW.keep gv
    have hC := hC.keep gv
    have gg := gg.tr gv
    clear gv
    obtain ⟨e0, e1, e2, e3, e4, e5, e6⟩ := hB.c7
    go_wp2_with (go_at_call 48; (refine (layS_any _ _ _ _ _ _ _ _ _ _ _ _ _ _ _).mono ?_); rintro e w8 ⟨rfl, hx⟩)
    have gV := (gg.tr hx).tr (Gr.al w8 (.cells #[.int .i64 tab, .slice pa pan.length pc, .int .i64 hei, .slice ta top.length tc, .slice ba bot.length bc, .int .i64 slo, .bool opn, .int .i64 0, .slice ta top.length tc, .slice ba bot.length bc] 124))
    have bX := Box.new w8 [.int .i64 tab, .slice pa pan.length pc, .int .i64 hei, .slice ta top.length tc, .slice ba bot.length bc, .int .i64 slo, .bool opn, .int .i64 0, .slice ta top.length tc, .slice ba bot.length bc] 124 w8.heap.size rfl
    have bW := hW.keep (hx.tr (Gr.al w8 (.cells #[.int .i64 tab, .slice pa pan.length pc, .int .i64 hei, .slice ta top.length tc, .slice ba bot.length bc, .int .i64 slo, .bool opn, .int .i64 0, .slice ta top.length tc, .slice ba bot.length bc] 124)))
    have bC := hC.keep (hx.tr (Gr.al w8 (.cells #[.int .i64 tab, .slice pa pan.length pc, .int .i64 hei, .slice ta top.length tc, .slice ba bot.length bc, .int .i64 slo, .bool opn, .int .i64 0, .slice ta top.length tc, .slice ba bot.length bc] 124)))
    clear e0 e1 e2 e3 e4 e5 e6 hB hW hC gg
    obtain ⟨D, hD⟩ : ∃ D, D = w8.heap.size := ⟨_, rfl⟩
    rw [← hD] at bX ⊢
    refine wp_abs (fun U => Gr w U ∧ Box U D [.int .i64 tab, .slice pa pan.length pc, .int .i64 hei, .slice ta top.length tc, .slice ba bot.length bc, .int .i64 slo, .bool opn, .int .i64 0, .slice ta top.length tc, .slice ba bot.length bc] ∧ Box U (w.heap.size + 1) [.int .i64 ll, .int .i64 lh, .int .i64 wl, .int .i64 wh, .int .i64 hl, .int .i64 hh, .int .i64 ol, .int .i64 oh, .int .i64 il, .int .i64 ih, .bool wo] ∧ Box U (w.heap.size + 1 + 1) [.int .i64 cl, .int .i64 ch]) ⟨gV, bX, bW, bC⟩ ?_
    clear gV bX bW bC hx hD
    rintro U ⟨gg, bX, hW, hC⟩
    obtain ⟨i0, hi, hz0, hz1, hz2⟩ := info_parts infoBad
    refine (show (∀ s : Nat → Value, Code.wp Try.prog _ _ ⟨#[s 0, s 1, s 2, .pointer (some ⟨w.heap.size, 0, none⟩), .pointer (some ⟨(w.heap.size + 1), 0, none⟩), .pointer (some ⟨(w.heap.size + 1 + 1), 0, none⟩), .slice none 0 0, .int .i64 0, s 8, .pointer (some ⟨D, 0, none⟩), .slice none 0 0, undef, undef, undef, s 14, s 15, s 16, s 17, s 18, s 19, s 20, s 21, s 22, s 23, s 24, s 25, s 26, s 27, .int .i64 0, undef, undef, undef, undef, undef, undef, undef, undef, undef, undef, undef, undef, undef, undef, undef, undef, undef, undef, undef, undef, undef], []⟩ _) → _ from fun h => h ((fun l : List Value => fun i => l.getD i undef) [_, _, _, undef, undef, undef, undef, undef, _, undef, undef, undef, undef, undef, _, _, _, _, _, _, _, _, _, _, _, _, _, _])) ?_
    intro s
    dsimp only
    go_loopw [28, 10] (fun i v wr => Hid (∃ (k : Nat) (vv : Value), k ≤ 10 ∧ i = .int .i64 k ∧ v = vv ∧ Gr U wr ∧ wr.ownsRow U.heap.size 136 2 vv (badL cl ch (holdL 0 hei slo pan top bot opn ll lh wl wh hl hh ol oh il ih wo) k).length ((badL cl ch (holdL 0 hei slo pan top bot opn ll lh wl wh hl hh ol oh il ih wo) k).flatMap encB))) (fun i v wr => 10 - (intOf i).toNat)
    case atStart => exact Lib.hid ⟨0, _, Nat.zero_le _, rfl, rfl, Below.refl _ _, World.ownsRow_nil _ _ _ _⟩
    case round =>
      obtain ⟨k, vv, hk, rfl, hvv, gV, hown⟩ := hrel.out
      obtain rfl := hvv.symm
      clear hrel
      by_cases hlt : k < 10
      · have g9 := gg.tr gV
        have hlen := badL_len cl ch (holdL 0 hei slo pan top bot opn ll lh wl wh hl hh ol oh il ih wo) k
        have hk1 : (badL cl ch (holdL 0 hei slo pan top bot opn ll lh wl wh hl hh ol oh il ih wo) k).length + 1 ≤ maxLen := by unfold maxLen; omega
        have hk2 : ((badL cl ch (holdL 0 hei slo pan top bot opn ll lh wl wh hl hh ol oh il ih wo) k).length + 1) * 16 ≤ 140737488355328 := by omega
        obtain ⟨hb0, hb1, hb2, hb3⟩ := hold_bd (off := 0) (opn := opn) (wo := wo) HS.out HH.out (by omega) (by omega) hlt
        go_upto_region 9 with fail
        have bX1 := bX.keep gV
        have bW1 := hW.keep gV
        have bC1 := hC.keep gV
        refine (show (∀ r : Nat → Value, Code.wp Try.prog _ _ ⟨#[s 0, s 1, s 2, .pointer (some ⟨w.heap.size, 0, none⟩), .pointer (some ⟨(w.heap.size + 1), 0, none⟩), .pointer (some ⟨(w.heap.size + 1 + 1), 0, none⟩), .slice none 0 0, .int .i64 0, s 8, .pointer (some ⟨D, 0, none⟩), vv, .int .i64 k, r 12, r 13, s 14, s 15, s 16, s 17, s 18, s 19, s 20, s 21, s 22, s 23, s 24, s 25, s 26, s 27, .int .i64 k, r 29, r 30, r 31, r 32, r 33, r 34, r 35, r 36, r 37, r 38, r 39, r 40, r 41, r 42, r 43, r 44, r 45, r 46, r 47, r 48, undef], []⟩ _) → _ from fun h => h ((fun l : List Value => fun i => l.getD i undef) [undef, undef, undef, undef, undef, undef, undef, undef, undef, undef, undef, undef, _, _, undef, undef, undef, undef, undef, undef, undef, undef, undef, undef, undef, undef, undef, undef, undef, _, _, _, _, _, _, _, _, _, _, _, _, _, _, _, _, _, _, _, _])) ?_
        intro r
        dsimp only
        refine wp_region_facts 11 [(3, 2), (5, 1), (5, 3), (5, 4), (6, 0), (6, 5), (7, 6), (8, 7), (9, 7), (10, 8)] (fun x => ⟨#[s 0, s 1, s 2, .pointer (some ⟨w.heap.size, 0, none⟩), .pointer (some ⟨(w.heap.size + 1), 0, none⟩), .pointer (some ⟨(w.heap.size + 1 + 1), 0, none⟩), .slice none 0 0, .int .i64 0, s 8, .pointer (some ⟨D, 0, none⟩), vv, .int .i64 k, x 10, r 13, s 14, s 15, s 16, s 17, s 18, s 19, s 20, s 21, s 22, s 23, s 24, s 25, s 26, s 27, .int .i64 k, r 29, r 30, x 7, x 0, x 1, x 2, x 3, x 4, x 5, x 6, x 8, x 9, r 41, r 42, r 43, r 44, r 45, r 46, r 47, r 48, undef], []⟩) (fun i => [r 32, r 33, r 34, r 35, r 36, r 37, r 38, r 31, r 39, r 40, r 12].getD i undef) [fun _ x => x = .agg #[.int .i64 cl, .int .i64 ch], fun _ x => x = .agg #[.int .i64 tab, .slice pa pan.length pc, .int .i64 hei, .slice ta top.length tc, .slice ba bot.length bc, .int .i64 slo, .bool opn, .int .i64 0, .slice ta top.length tc, .slice ba bot.length bc], fun _ x => x = .agg #[.int .i64 ll, .int .i64 lh, .int .i64 wl, .int .i64 wh, .int .i64 hl, .int .i64 hh, .int .i64 ol, .int .i64 oh, .int .i64 il, .int .i64 ih, .bool wo], fun _ x => x = .agg #[.int .i64 ll, .int .i64 lh, .int .i64 wl, .int .i64 wh, .int .i64 hl, .int .i64 hh, .int .i64 ol, .int .i64 oh, .int .i64 il, .int .i64 ih, .bool wo], fun _ x => x = .int .i64 k, fun _ x => x = .agg #[.int .i64 (holdL 0 hei slo pan top bot opn ll lh wl wh hl hh ol oh il ih wo k).lo, .int .i64 (holdL 0 hei slo pan top bot opn ll lh wl wh hl hh ol oh il ih wo k).hi], fun _ x => x = .tuple #[.int .i64 (outN cl ch (holdL 0 hei slo pan top bot opn ll lh wl wh hl hh ol oh il ih wo k).lo (holdL 0 hei slo pan top bot opn ll lh wl wh hl hh ol oh il ih wo k).hi), .bool (outB cl ch (holdL 0 hei slo pan top bot opn ll lh wl wh hl hh ol oh il ih wo k).lo (holdL 0 hei slo pan top bot opn ll lh wl wh hl hh ol oh il ih wo k).hi)], fun _ x => x = .tuple #[.int .i64 (outN cl ch (holdL 0 hei slo pan top bot opn ll lh wl wh hl hh ol oh il ih wo k).lo (holdL 0 hei slo pan top bot opn ll lh wl wh hl hh ol oh il ih wo k).hi), .bool (outB cl ch (holdL 0 hei slo pan top bot opn ll lh wl wh hl hh ol oh il ih wo k).lo (holdL 0 hei slo pan top bot opn ll lh wl wh hl hh ol oh il ih wo k).hi)], fun _ x => x = .int .i64 (outN cl ch (holdL 0 hei slo pan top bot opn ll lh wl wh hl hh ol oh il ih wo k).lo (holdL 0 hei slo pan top bot opn ll lh wl wh hl hh ol oh il ih wo k).hi), fun _ x => x = .bool (outB cl ch (holdL 0 hei slo pan top bot opn ll lh wl wh hl hh ol oh il ih wo k).lo (holdL 0 hei slo pan top bot opn ll lh wl wh hl hh ol oh il ih wo k).hi), fun _ x => x = .int .i64 (outN cl ch (holdL 0 hei slo pan top bot opn ll lh wl wh hl hh ol oh il ih wo k).lo (holdL 0 hei slo pan top bot opn ll lh wl wh hl hh ol oh il ih wo k).hi)] (by rfl) (by kernel_rfl) (by kernel_rfl) (by kernel_rfl) (stays_cons (Stays.eq _) (stays_cons (Stays.eq _) (stays_cons (Stays.eq _) (stays_cons (Stays.eq _) (stays_cons (Stays.eq _) (stays_cons (Stays.eq _) (stays_cons (Stays.eq _) (stays_cons (Stays.eq _) (stays_cons (Stays.eq _) (stays_cons (Stays.eq _) (stays_cons (Stays.eq _) stays_nil))))))))))) ?step9 ?fin9
        case step9 =>
          rintro i hi x v gv hd K hK
          have hi8 : i = 0 ∨ i = 1 ∨ i = 2 ∨ i = 3 ∨ i = 4 ∨ i = 5 ∨ i = 6 ∨ i = 7 ∨ i = 8 ∨ i = 9 ∨ i = 10 := by omega
          rcases hi8 with rfl | rfl | rfl | rfl | rfl | rfl | rfl | rfl | rfl | rfl | rfl
          · show wpOp Try.prog _ _ 0 K (⟨#[s 0, s 1, s 2, .pointer (some ⟨w.heap.size, 0, none⟩), .pointer (some ⟨(w.heap.size + 1), 0, none⟩), .pointer (some ⟨(w.heap.size + 1 + 1), 0, none⟩), .slice none 0 0, .int .i64 0, s 8, .pointer (some ⟨D, 0, none⟩), vv, .int .i64 k, x 10, r 13, s 14, s 15, s 16, s 17, s 18, s 19, s 20, s 21, s 22, s 23, s 24, s 25, s 26, s 27, .int .i64 k, r 29, r 30, x 7, x 0, x 1, x 2, x 3, x 4, x 5, x 6, x 8, x 9, r 41, r 42, r 43, r 44, r 45, r 46, r 47, r 48, undef], []⟩ : Act) v
            refine wpOp_step rfl (fun K' hK' => ?_)
            rw [if_pos (by rfl)]
            refine wp_load_mid 38 _ rfl (w.heap.size + 1 + 1) 0 (by rfl) [.int .i64 cl, .int .i64 ch] _ (fun j u hu => by rw [Nat.zero_add]; exact (bC1.keep gv).2 j u hu) Try.underlying38 rfl (by kernel_rfl) ?_
            exact hK' _ _ (hK _ _ (Below.refl _ _) (at_of rfl (rfl)))
          · show wpOp Try.prog _ _ 1 K (⟨#[s 0, s 1, s 2, .pointer (some ⟨w.heap.size, 0, none⟩), .pointer (some ⟨(w.heap.size + 1), 0, none⟩), .pointer (some ⟨(w.heap.size + 1 + 1), 0, none⟩), .slice none 0 0, .int .i64 0, s 8, .pointer (some ⟨D, 0, none⟩), vv, .int .i64 k, x 10, r 13, s 14, s 15, s 16, s 17, s 18, s 19, s 20, s 21, s 22, s 23, s 24, s 25, s 26, s 27, .int .i64 k, r 29, r 30, x 7, x 0, x 1, x 2, x 3, x 4, x 5, x 6, x 8, x 9, r 41, r 42, r 43, r 44, r 45, r 46, r 47, r 48, undef], []⟩ : Act) v
            refine wpOp_step rfl (fun K' hK' => ?_)
            rw [if_pos (by rfl)]
            refine wp_load_mid 124 _ rfl D 0 (by rfl) [.int .i64 tab, .slice pa pan.length pc, .int .i64 hei, .slice ta top.length tc, .slice ba bot.length bc, .int .i64 slo, .bool opn, .int .i64 0, .slice ta top.length tc, .slice ba bot.length bc] _ (fun j u hu => by rw [Nat.zero_add]; exact (bX1.keep gv).2 j u hu) Try.underlying124 rfl (by kernel_rfl) ?_
            exact hK' _ _ (hK _ _ (Below.refl _ _) (at_of rfl (rfl)))
          · show wpOp Try.prog _ _ 2 K (⟨#[s 0, s 1, s 2, .pointer (some ⟨w.heap.size, 0, none⟩), .pointer (some ⟨(w.heap.size + 1), 0, none⟩), .pointer (some ⟨(w.heap.size + 1 + 1), 0, none⟩), .slice none 0 0, .int .i64 0, s 8, .pointer (some ⟨D, 0, none⟩), vv, .int .i64 k, x 10, r 13, s 14, s 15, s 16, s 17, s 18, s 19, s 20, s 21, s 22, s 23, s 24, s 25, s 26, s 27, .int .i64 k, r 29, r 30, x 7, x 0, x 1, x 2, x 3, x 4, x 5, x 6, x 8, x 9, r 41, r 42, r 43, r 44, r 45, r 46, r 47, r 48, undef], []⟩ : Act) v
            refine wpOp_step rfl (fun K' hK' => ?_)
            rw [if_pos (by rfl)]
            refine wp_load_mid 56 _ rfl (w.heap.size + 1) 0 (by rfl) [.int .i64 ll, .int .i64 lh, .int .i64 wl, .int .i64 wh, .int .i64 hl, .int .i64 hh, .int .i64 ol, .int .i64 oh, .int .i64 il, .int .i64 ih, .bool wo] _ (fun j u hu => by rw [Nat.zero_add]; exact (bW1.keep gv).2 j u hu) Try.underlying56 rfl (by kernel_rfl) ?_
            exact hK' _ _ (hK _ _ (Below.refl _ _) (at_of rfl (rfl)))
          · obtain ⟨x, rfl⟩ := upd_of (show x 2 = .agg #[.int .i64 ll, .int .i64 lh, .int .i64 wl, .int .i64 wh, .int .i64 hl, .int .i64 hh, .int .i64 ol, .int .i64 oh, .int .i64 il, .int .i64 ih, .bool wo] from hd 2 _ (by simp) rfl)
            show wpOp Try.prog _ _ 3 K (⟨#[s 0, s 1, s 2, .pointer (some ⟨w.heap.size, 0, none⟩), .pointer (some ⟨(w.heap.size + 1), 0, none⟩), .pointer (some ⟨(w.heap.size + 1 + 1), 0, none⟩), .slice none 0 0, .int .i64 0, s 8, .pointer (some ⟨D, 0, none⟩), vv, .int .i64 k, x 10, r 13, s 14, s 15, s 16, s 17, s 18, s 19, s 20, s 21, s 22, s 23, s 24, s 25, s 26, s 27, .int .i64 k, r 29, r 30, x 7, x 0, x 1, .agg #[.int .i64 ll, .int .i64 lh, .int .i64 wl, .int .i64 wh, .int .i64 hl, .int .i64 hh, .int .i64 ol, .int .i64 oh, .int .i64 il, .int .i64 ih, .bool wo], x 3, x 4, x 5, x 6, x 8, x 9, r 41, r 42, r 43, r 44, r 45, r 46, r 47, r 48, undef], []⟩ : Act) v
            refine wpOp_step rfl (fun K' hK' => ?_)
            go_simp
            exact hK' _ _ (hK _ _ (Below.refl _ _) (at_of rfl (rfl)))
          · show wpOp Try.prog _ _ 4 K (⟨#[s 0, s 1, s 2, .pointer (some ⟨w.heap.size, 0, none⟩), .pointer (some ⟨(w.heap.size + 1), 0, none⟩), .pointer (some ⟨(w.heap.size + 1 + 1), 0, none⟩), .slice none 0 0, .int .i64 0, s 8, .pointer (some ⟨D, 0, none⟩), vv, .int .i64 k, x 10, r 13, s 14, s 15, s 16, s 17, s 18, s 19, s 20, s 21, s 22, s 23, s 24, s 25, s 26, s 27, .int .i64 k, r 29, r 30, x 7, x 0, x 1, x 2, x 3, x 4, x 5, x 6, x 8, x 9, r 41, r 42, r 43, r 44, r 45, r 46, r 47, r 48, undef], []⟩ : Act) v
            refine wpOp_step rfl (fun K' hK' => ?_)
            go_simp
            exact hK' _ _ (hK _ _ (Below.refl _ _) (at_of rfl (rfl)))
          · obtain ⟨x, rfl⟩ := upd_of (show x 1 = .agg #[.int .i64 tab, .slice pa pan.length pc, .int .i64 hei, .slice ta top.length tc, .slice ba bot.length bc, .int .i64 slo, .bool opn, .int .i64 0, .slice ta top.length tc, .slice ba bot.length bc] from hd 1 _ (by simp) rfl)
            obtain ⟨x, rfl⟩ := upd_of (show x 3 = .agg #[.int .i64 ll, .int .i64 lh, .int .i64 wl, .int .i64 wh, .int .i64 hl, .int .i64 hh, .int .i64 ol, .int .i64 oh, .int .i64 il, .int .i64 ih, .bool wo] from hd 3 _ (by simp) rfl)
            obtain ⟨x, rfl⟩ := upd_of (show x 4 = .int .i64 k from hd 4 _ (by simp) rfl)
            show wpOp Try.prog _ _ 5 K (⟨#[s 0, s 1, s 2, .pointer (some ⟨w.heap.size, 0, none⟩), .pointer (some ⟨(w.heap.size + 1), 0, none⟩), .pointer (some ⟨(w.heap.size + 1 + 1), 0, none⟩), .slice none 0 0, .int .i64 0, s 8, .pointer (some ⟨D, 0, none⟩), vv, .int .i64 k, x 10, r 13, s 14, s 15, s 16, s 17, s 18, s 19, s 20, s 21, s 22, s 23, s 24, s 25, s 26, s 27, .int .i64 k, r 29, r 30, x 7, x 0, .agg #[.int .i64 tab, .slice pa pan.length pc, .int .i64 hei, .slice ta top.length tc, .slice ba bot.length bc, .int .i64 slo, .bool opn, .int .i64 0, .slice ta top.length tc, .slice ba bot.length bc], x 2, .agg #[.int .i64 ll, .int .i64 lh, .int .i64 wl, .int .i64 wh, .int .i64 hl, .int .i64 hh, .int .i64 ol, .int .i64 oh, .int .i64 il, .int .i64 ih, .bool wo], .int .i64 k, x 5, x 6, x 8, x 9, r 41, r 42, r 43, r 44, r 45, r 46, r 47, r 48, undef], []⟩ : Act) v
            refine wpOp_step rfl (fun K' hK' => ?_)
            go_simp
            refine (holding_any _ _ _ _ _ _ _ _ _ _ _ _ _ _ _ ll lh wl wh hl hh ol oh il ih k hlt HS.out HH.out (by omega) (by omega) v (hp.grow (g9.tr gv)) (ht.grow (g9.tr gv)) (hb.grow (g9.tr gv))).mono ?_
            rintro e v' ⟨rfl, hg⟩
            exact hK' _ _ (hK _ _ hg (at_of rfl (rfl)))
          · obtain ⟨x, rfl⟩ := upd_of (show x 0 = .agg #[.int .i64 cl, .int .i64 ch] from hd 0 _ (by simp) rfl)
            obtain ⟨x, rfl⟩ := upd_of (show x 5 = .agg #[.int .i64 (holdL 0 hei slo pan top bot opn ll lh wl wh hl hh ol oh il ih wo k).lo, .int .i64 (holdL 0 hei slo pan top bot opn ll lh wl wh hl hh ol oh il ih wo k).hi] from hd 5 _ (by simp) rfl)
            show wpOp Try.prog _ _ 6 K (⟨#[s 0, s 1, s 2, .pointer (some ⟨w.heap.size, 0, none⟩), .pointer (some ⟨(w.heap.size + 1), 0, none⟩), .pointer (some ⟨(w.heap.size + 1 + 1), 0, none⟩), .slice none 0 0, .int .i64 0, s 8, .pointer (some ⟨D, 0, none⟩), vv, .int .i64 k, x 10, r 13, s 14, s 15, s 16, s 17, s 18, s 19, s 20, s 21, s 22, s 23, s 24, s 25, s 26, s 27, .int .i64 k, r 29, r 30, x 7, .agg #[.int .i64 cl, .int .i64 ch], x 1, x 2, x 3, x 4, .agg #[.int .i64 (holdL 0 hei slo pan top bot opn ll lh wl wh hl hh ol oh il ih wo k).lo, .int .i64 (holdL 0 hei slo pan top bot opn ll lh wl wh hl hh ol oh il ih wo k).hi], x 6, x 8, x 9, r 41, r 42, r 43, r 44, r 45, r 46, r 47, r 48, undef], []⟩ : Act) v
            refine wpOp_step rfl (fun K' hK' => ?_)
            go_simp
            refine (outside_any cl ch (holdL 0 hei slo pan top bot opn ll lh wl wh hl hh ol oh il ih wo k).lo (holdL 0 hei slo pan top bot opn ll lh wl wh hl hh ol oh il ih wo k).hi (by omega) (by omega) v).mono ?_
            rintro e v' ⟨rfl, hg⟩
            exact hK' _ _ (hK _ _ hg (at_of rfl (rfl)))
          · obtain ⟨x, rfl⟩ := upd_of (show x 6 = .tuple #[.int .i64 (outN cl ch (holdL 0 hei slo pan top bot opn ll lh wl wh hl hh ol oh il ih wo k).lo (holdL 0 hei slo pan top bot opn ll lh wl wh hl hh ol oh il ih wo k).hi), .bool (outB cl ch (holdL 0 hei slo pan top bot opn ll lh wl wh hl hh ol oh il ih wo k).lo (holdL 0 hei slo pan top bot opn ll lh wl wh hl hh ol oh il ih wo k).hi)] from hd 6 _ (by simp) rfl)
            show wpOp Try.prog _ _ 7 K (⟨#[s 0, s 1, s 2, .pointer (some ⟨w.heap.size, 0, none⟩), .pointer (some ⟨(w.heap.size + 1), 0, none⟩), .pointer (some ⟨(w.heap.size + 1 + 1), 0, none⟩), .slice none 0 0, .int .i64 0, s 8, .pointer (some ⟨D, 0, none⟩), vv, .int .i64 k, x 10, r 13, s 14, s 15, s 16, s 17, s 18, s 19, s 20, s 21, s 22, s 23, s 24, s 25, s 26, s 27, .int .i64 k, r 29, r 30, x 7, x 0, x 1, x 2, x 3, x 4, x 5, .tuple #[.int .i64 (outN cl ch (holdL 0 hei slo pan top bot opn ll lh wl wh hl hh ol oh il ih wo k).lo (holdL 0 hei slo pan top bot opn ll lh wl wh hl hh ol oh il ih wo k).hi), .bool (outB cl ch (holdL 0 hei slo pan top bot opn ll lh wl wh hl hh ol oh il ih wo k).lo (holdL 0 hei slo pan top bot opn ll lh wl wh hl hh ol oh il ih wo k).hi)], x 8, x 9, r 41, r 42, r 43, r 44, r 45, r 46, r 47, r 48, undef], []⟩ : Act) v
            refine wpOp_step rfl (fun K' hK' => ?_)
            go_simp
            exact hK' _ _ (hK _ _ (Below.refl _ _) (at_of rfl (rfl)))
          · obtain ⟨x, rfl⟩ := upd_of (show x 7 = .tuple #[.int .i64 (outN cl ch (holdL 0 hei slo pan top bot opn ll lh wl wh hl hh ol oh il ih wo k).lo (holdL 0 hei slo pan top bot opn ll lh wl wh hl hh ol oh il ih wo k).hi), .bool (outB cl ch (holdL 0 hei slo pan top bot opn ll lh wl wh hl hh ol oh il ih wo k).lo (holdL 0 hei slo pan top bot opn ll lh wl wh hl hh ol oh il ih wo k).hi)] from hd 7 _ (by simp) rfl)
            show wpOp Try.prog _ _ 8 K (⟨#[s 0, s 1, s 2, .pointer (some ⟨w.heap.size, 0, none⟩), .pointer (some ⟨(w.heap.size + 1), 0, none⟩), .pointer (some ⟨(w.heap.size + 1 + 1), 0, none⟩), .slice none 0 0, .int .i64 0, s 8, .pointer (some ⟨D, 0, none⟩), vv, .int .i64 k, x 10, r 13, s 14, s 15, s 16, s 17, s 18, s 19, s 20, s 21, s 22, s 23, s 24, s 25, s 26, s 27, .int .i64 k, r 29, r 30, .tuple #[.int .i64 (outN cl ch (holdL 0 hei slo pan top bot opn ll lh wl wh hl hh ol oh il ih wo k).lo (holdL 0 hei slo pan top bot opn ll lh wl wh hl hh ol oh il ih wo k).hi), .bool (outB cl ch (holdL 0 hei slo pan top bot opn ll lh wl wh hl hh ol oh il ih wo k).lo (holdL 0 hei slo pan top bot opn ll lh wl wh hl hh ol oh il ih wo k).hi)], x 0, x 1, x 2, x 3, x 4, x 5, x 6, x 8, x 9, r 41, r 42, r 43, r 44, r 45, r 46, r 47, r 48, undef], []⟩ : Act) v
            refine wpOp_step rfl (fun K' hK' => ?_)
            go_simp
            exact hK' _ _ (hK _ _ (Below.refl _ _) (at_of rfl (rfl)))
          · obtain ⟨x, rfl⟩ := upd_of (show x 7 = .tuple #[.int .i64 (outN cl ch (holdL 0 hei slo pan top bot opn ll lh wl wh hl hh ol oh il ih wo k).lo (holdL 0 hei slo pan top bot opn ll lh wl wh hl hh ol oh il ih wo k).hi), .bool (outB cl ch (holdL 0 hei slo pan top bot opn ll lh wl wh hl hh ol oh il ih wo k).lo (holdL 0 hei slo pan top bot opn ll lh wl wh hl hh ol oh il ih wo k).hi)] from hd 7 _ (by simp) rfl)
            show wpOp Try.prog _ _ 9 K (⟨#[s 0, s 1, s 2, .pointer (some ⟨w.heap.size, 0, none⟩), .pointer (some ⟨(w.heap.size + 1), 0, none⟩), .pointer (some ⟨(w.heap.size + 1 + 1), 0, none⟩), .slice none 0 0, .int .i64 0, s 8, .pointer (some ⟨D, 0, none⟩), vv, .int .i64 k, x 10, r 13, s 14, s 15, s 16, s 17, s 18, s 19, s 20, s 21, s 22, s 23, s 24, s 25, s 26, s 27, .int .i64 k, r 29, r 30, .tuple #[.int .i64 (outN cl ch (holdL 0 hei slo pan top bot opn ll lh wl wh hl hh ol oh il ih wo k).lo (holdL 0 hei slo pan top bot opn ll lh wl wh hl hh ol oh il ih wo k).hi), .bool (outB cl ch (holdL 0 hei slo pan top bot opn ll lh wl wh hl hh ol oh il ih wo k).lo (holdL 0 hei slo pan top bot opn ll lh wl wh hl hh ol oh il ih wo k).hi)], x 0, x 1, x 2, x 3, x 4, x 5, x 6, x 8, x 9, r 41, r 42, r 43, r 44, r 45, r 46, r 47, r 48, undef], []⟩ : Act) v
            refine wpOp_step rfl (fun K' hK' => ?_)
            go_simp
            exact hK' _ _ (hK _ _ (Below.refl _ _) (at_of rfl (rfl)))
          · obtain ⟨x, rfl⟩ := upd_of (show x 8 = .int .i64 (outN cl ch (holdL 0 hei slo pan top bot opn ll lh wl wh hl hh ol oh il ih wo k).lo (holdL 0 hei slo pan top bot opn ll lh wl wh hl hh ol oh il ih wo k).hi) from hd 8 _ (by simp) rfl)
            show wpOp Try.prog _ _ 10 K (⟨#[s 0, s 1, s 2, .pointer (some ⟨w.heap.size, 0, none⟩), .pointer (some ⟨(w.heap.size + 1), 0, none⟩), .pointer (some ⟨(w.heap.size + 1 + 1), 0, none⟩), .slice none 0 0, .int .i64 0, s 8, .pointer (some ⟨D, 0, none⟩), vv, .int .i64 k, x 10, r 13, s 14, s 15, s 16, s 17, s 18, s 19, s 20, s 21, s 22, s 23, s 24, s 25, s 26, s 27, .int .i64 k, r 29, r 30, x 7, x 0, x 1, x 2, x 3, x 4, x 5, x 6, .int .i64 (outN cl ch (holdL 0 hei slo pan top bot opn ll lh wl wh hl hh ol oh il ih wo k).lo (holdL 0 hei slo pan top bot opn ll lh wl wh hl hh ol oh il ih wo k).hi), x 9, r 41, r 42, r 43, r 44, r 45, r 46, r 47, r 48, undef], []⟩ : Act) v
            refine wpOp_step rfl (fun K' hK' => ?_)
            go_simp
            exact hK' _ _ (hK _ _ (Below.refl _ _) (at_of rfl (rfl)))
        case fin9 =>
          rintro x v gv hd
          obtain ⟨x, rfl⟩ := upd_of (show x 9 = .bool (outB cl ch (holdL 0 hei slo pan top bot opn ll lh wl wh hl hh ol oh il ih wo k).lo (holdL 0 hei slo pan top bot opn ll lh wl wh hl hh ol oh il ih wo k).hi) from hd 9 _ (by omega) rfl)
          obtain ⟨x, rfl⟩ := upd_of (show x 10 = .int .i64 (outN cl ch (holdL 0 hei slo pan top bot opn ll lh wl wh hl hh ol oh il ih wo k).lo (holdL 0 hei slo pan top bot opn ll lh wl wh hl hh ol oh il ih wo k).hi) from hd 10 _ (by omega) rfl)
          clear hd
          show wpList Try.prog _ _ (List.drop 11 _) (⟨#[s 0, s 1, s 2, .pointer (some ⟨w.heap.size, 0, none⟩), .pointer (some ⟨(w.heap.size + 1), 0, none⟩), .pointer (some ⟨(w.heap.size + 1 + 1), 0, none⟩), .slice none 0 0, .int .i64 0, s 8, .pointer (some ⟨D, 0, none⟩), vv, .int .i64 k, .int .i64 (outN cl ch (holdL 0 hei slo pan top bot opn ll lh wl wh hl hh ol oh il ih wo k).lo (holdL 0 hei slo pan top bot opn ll lh wl wh hl hh ol oh il ih wo k).hi), r 13, s 14, s 15, s 16, s 17, s 18, s 19, s 20, s 21, s 22, s 23, s 24, s 25, s 26, s 27, .int .i64 k, r 29, r 30, x 7, x 0, x 1, x 2, x 3, x 4, x 5, x 6, x 8, .bool (outB cl ch (holdL 0 hei slo pan top bot opn ll lh wl wh hl hh ol oh il ih wo k).lo (holdL 0 hei slo pan top bot opn ll lh wl wh hl hh ol oh il ih wo k).hi), r 41, r 42, r 43, r 44, r 45, r 46, r 47, r 48, undef], []⟩ : Act) v
          simp only [List.drop_succ_cons, List.drop_zero]
          have hO := hown
          have gk := gV.tr gv
          clear hb0 hb1 hb2 hb3 bX1 bW1 bC1
          cases hO : outB cl ch (holdL 0 hei slo pan top bot opn ll lh wl wh hl hh ol oh il ih wo k).lo (holdL 0 hei slo pan top bot opn ll lh wl wh hl hh ol oh il ih wo k).hi with
          | false =>
            have eL : badL cl ch (holdL 0 hei slo pan top bot opn ll lh wl wh hl hh ol oh il ih wo) (k + 1) = badL cl ch (holdL 0 hei slo pan top bot opn ll lh wl wh hl hh ol oh il ih wo) k := by
              show _ ++ _ = _
              rw [if_neg (by rw [hO]; decide)]
              simp
            have EL := Lib.hid eL
            clear eL hO
            go_wp2
            go_roundw
            case rel =>
              have h2 : Hid (∃ (k' : Nat) (vv' : Value), k' ≤ 10 ∧ Value.int .i64 ((k : Int) + 1) = .int .i64 k' ∧ vv = vv' ∧ Gr U v ∧ v.ownsRow U.heap.size 136 2 vv' (badL cl ch (holdL 0 hei slo pan top bot opn ll lh wl wh hl hh ol oh il ih wo) k').length ((badL cl ch (holdL 0 hei slo pan top bot opn ll lh wl wh hl hh ol oh il ih wo) k').flatMap encB)) :=
                Lib.hid ⟨k + 1, _, by omega, by go_num, rfl, gk, by rw [EL.out]; exact owns_keep hown gv⟩
              exact h2
            case measure => simp [intOf]; omega
          | true =>
            have eL : badL cl ch (holdL 0 hei slo pan top bot opn ll lh wl wh hl hh ol oh il ih wo) (k + 1) = badL cl ch (holdL 0 hei slo pan top bot opn ll lh wl wh hl hh ol oh il ih wo) k ++ [((k : Int), outN cl ch (holdL 0 hei slo pan top bot opn ll lh wl wh hl hh ol oh il ih wo k).lo (holdL 0 hei slo pan top bot opn ll lh wl wh hl hh ol oh il ih wo k).hi)] := by
              show _ ++ _ = _
              rw [if_pos hO]
            have EL := Lib.hid eL
            clear eL hO
            generalize outN cl ch (holdL 0 hei slo pan top bot opn ll lh wl wh hl hh ol oh il ih wo k).lo (holdL 0 hei slo pan top bot opn ll lh wl wh hl hh ol oh il ih wo k).hi = on at *
            have hoA := owns_keep hown (gv.tr (Gr.al v (.cells #[.int .i64 (k : Int), .int .i64 on] 136)))
            go_wp2_with (at_builtin; refine wpList_append_own _ rfl _ _ 61 rfl U.heap.size 136 i0 (.agg #[.int .i64 0, .int .i64 0]) 2 16 Try.underlying61 hi hz0 hz1 hz2 rfl (by decide) _ _ _ rfl hoA ⟨v.heap.size, 0, none⟩ 1 1 ([(k : Int), on].map (fun n => Value.int .i64 n)) rfl rfl (cell_news _ _ _) (ints_one _) hk1 hk2 (gk.tr (Gr.al _ _)).size ?_; intro v' w6 hown' hgrow' _)
            go_roundw
            case rel =>
              have hR : Gr U w6 := (gk.tr (Gr.al _ _)).grown' hoA (Nat.le_refl _) hgrow'
              have hLL : w6.ownsRow U.heap.size 136 2 v' (badL cl ch (holdL 0 hei slo pan top bot opn ll lh wl wh hl hh ol oh il ih wo) (k + 1)).length ((badL cl ch (holdL 0 hei slo pan top bot opn ll lh wl wh hl hh ol oh il ih wo) (k + 1)).flatMap encB) := by
                rw [EL.out, flat_snoc, List.length_append]
                exact hown'
              have h2 : Hid (∃ (k' : Nat) (vv' : Value), k' ≤ 10 ∧ Value.int .i64 ((k : Int) + 1) = .int .i64 k' ∧ v' = vv' ∧ Gr U w6 ∧ w6.ownsRow U.heap.size 136 2 vv' (badL cl ch (holdL 0 hei slo pan top bot opn ll lh wl wh hl hh ol oh il ih wo) k').length ((badL cl ch (holdL 0 hei slo pan top bot opn ll lh wl wh hl hh ol oh il ih wo) k').flatMap encB)) :=
                Lib.hid ⟨k + 1, _, by omega, by go_num, rfl, hR, hLL⟩
              exact h2
            case measure => simp [intOf]; omega
      · obtain rfl : k = 10 := by omega
        obtain ⟨a, cap, hv, hr⟩ := owns_row (enc := encB) (l := badL cl ch (holdL 0 hei slo pan top bot opn ll lh wl wh hl hh ol oh il ih wo) 10) (fun _ => rfl) (by have := badL_len cl ch (holdL 0 hei slo pan top bot opn ll lh wl wh hl hh ol oh il ih wo) 10; omega) hown
        subst hv
        have Hr := Lib.hid hr
        clear hr
        go_wp2
        go_ret2
        exact ⟨a, cap, rfl, gg.tr gV, Hr.out⟩

end Go.Proofs.Ytaommdjekddgiaa
