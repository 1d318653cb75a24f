/- Flat of all ten checks, of a sheet whose measures lie within limits (they may be 0). Contract of a wish's in. (Made by gen_s10.py.) Contracts of meet and outside. -/
import Derived.Test.YtaommdjekddgiaaS7
import Derived.Test.YtaommdjekddgiaaS4
import Derived.Lib.MinMax
namespace Go.Proofs.Ytaommdjekddgiaa
set_option linter.unusedVariables false
set_option linter.unusedSimpArgs false
open Go.RowKit

/-- A sheet's measures lie within limits. -/
structure ShB (hei slo : Int) (pan top bot : List Int) : Prop where
  l4 : pan.length = 4
  t2 : top.length = 2
  b2 : bot.length = 2
  gpan : inB 0 3000 pan = true
  ghei : 0 ≤ hei ∧ hei ≤ 3000
  gtop : inB 0 3000 top = true
  gbot : inB 0 3000 bot = true
  gslo : 0 ≤ slo ∧ slo ≤ 3000

theorem inB_mono {a b c d : Int} {l : List Int} (h : inB a b l = true) (h1 : c ≤ a) (h2 : b ≤ d) : inB c d l = true := by
  unfold inB at *
  rw [List.all_eq_true] at *
  intro x hx
  have := h x hx
  simp only [in1, Bool.and_eq_true, decide_eq_true_eq] at *
  omega

theorem GoodB.sh {tab hei slo : Int} {pan top bot : List Int} {opn : Bool} (G : GoodB tab hei slo pan top bot opn) : ShB hei slo pan top bot := by
  have h1 := in_one G.ghei
  have h2 := in_one G.gslo
  exact ⟨G.l4, G.t2, G.b2, inB_mono G.gpan (by omega) (by omega), ⟨by omega, by omega⟩, G.gtop, G.gbot, ⟨by omega, by omega⟩⟩

def flatS (off hei slo : Int) (pan top bot : List Int) (opn : Bool) (k : Nat) : Sp :=
  if k = 9 then ⟨1000 * (nearL off slo 0 20).lo, 1000 * (nearL off slo 0 20).hi⟩ else flatAt off hei pan top bot opn k

theorem flatS_bd {hei slo off : Int} {pan top bot : List Int} {opn : Bool} (G : ShB hei slo pan top bot) (h2 : 0 ≤ off) (h3 : off ≤ 3000) {k : Nat} (hk : k < 10) : SpB 10000000 (flatS off hei slo pan top bot opn k) := by
  obtain ⟨e0, e1⟩ := G.ghei
  obtain ⟨s0, s1⟩ := G.gslo
  unfold flatS
  split
  · obtain ⟨n0, n1, n2, n3⟩ := near_bd (lo := 0) (hi := 20) s0 s1 h2 h3 (by omega) (by omega) (by omega) (by omega)
    exact ⟨by simp only; omega, by simp only; omega, by simp only; omega, by simp only; omega⟩
  · unfold flatAt
    split
    · rename_i h4
      obtain ⟨x, hx⟩ := get_of_lt (show k < pan.length by rw [G.l4]; omega)
      obtain ⟨a, b⟩ := in_at G.gpan hx
      obtain ⟨n0, n1, n2, n3⟩ := near_bd (lo := 1) (hi := 3000) a b h2 h3 (by omega) (by omega) (by omega) (by omega)
      rw [getD_eq hx]
      exact ⟨by simp only; omega, by simp only; omega, by simp only; omega, by simp only; omega⟩
    · split
      · obtain ⟨n0, n1, n2, n3⟩ := near_bd (lo := 1) (hi := 3000) e0 e1 h2 h3 (by omega) (by omega) (by omega) (by omega)
        exact ⟨by simp only; omega, by simp only; omega, by simp only; omega, by simp only; omega⟩
      · obtain ⟨x, hx⟩ := get_of_lt (show 1 - (k - 5) % 2 < pan.length by rw [G.l4]; omega)
        obtain ⟨a, b⟩ := in_at G.gpan hx
        obtain ⟨n0, n1, n2, n3⟩ := near_bd (lo := 1) (hi := 3000) a b h2 h3 (by omega) (by omega) (by omega) (by omega)
        obtain ⟨f0, f1, f2, f3⟩ := flap_bd (opn := opn) (en := (k - 5) / 2) G.gtop G.gbot G.t2 G.b2 h2 h3 (show (k - 5) % 2 < 2 by omega)
        rw [getD_eq hx]
        exact ⟨by simp only [gapS]; omega, by simp only [gapS]; omega, by simp only [gapS]; omega, by simp only [gapS]; omega⟩

set_option maxRecDepth 100000 in
set_option maxHeartbeats 1000000 in
theorem flat_slot (tab hei slo off : Int) (pan top bot : List Int) (pa ta ba : Option Addr) (pc tc bc : Nat) (opn : Bool) (h0 : 0 ≤ slo) (h1 : slo ≤ 3000) (h2 : 0 ≤ off) (h3 : off ≤ 3000) (w : World) :
    Calls Try.prog 60 #[.agg #[.int .i64 tab, .slice pa pan.length pc, .int .i64 hei, .slice ta top.length tc, .slice ba bot.length bc, .int .i64 slo, .bool opn, .int .i64 off, .slice ta top.length tc, .slice ba bot.length bc], .int .i64 9] w fun e w' => e = .returned (.agg #[.int .i64 (1000 * (nearL off slo 0 20).lo), .int .i64 (1000 * (nearL off slo 0 20).hi)]) ∧ Gr w w' := by
  have gg := (Gr.al w (.cells #[.int .i64 tab, .slice pa pan.length pc, .int .i64 hei, .slice ta top.length tc, .slice ba bot.length bc, .int .i64 slo, .bool opn, .int .i64 off, .slice ta top.length tc, .slice ba bot.length bc] 124)).tr (Gr.al _ (.cells #[.int .i64 0, .int .i64 0] 38))
  have ob := Own.new (w.alloc (.cells #[.int .i64 tab, .slice pa pan.length pc, .int .i64 hei, .slice ta top.length tc, .slice ba bot.length bc, .int .i64 slo, .bool opn, .int .i64 off, .slice ta top.length tc, .slice ba bot.length bc] 124)) [.int .i64 0, .int .i64 0] 38 (w.heap.size + 1) (by simp)
  obtain ⟨n0, n1, n2, n3⟩ := near_bd (lo := 0) (hi := 20) h0 h1 h2 h3 (by omega) (by omega) (by omega) (by omega)
  go_enter Try.func60, Try.ntmps60
  go_wp2_with fail
  refine (slot_any _ _ _ _ _ _ _ _ _ _ _ _ _ _ h0 h1 h2 h3 _).mono ?_
  rintro e w2 ⟨rfl, hx⟩
  go_wp2_with fail
  refine (times_any 1000 _ _ (by omega) (by omega) (by omega) (by omega) _).mono ?_
  rintro e w3 ⟨rfl, hy⟩
  have ob2 := ob.keep (hx.tr hy)
  obtain ⟨u0, u1⟩ := ob2.1.c2
  have z0 := ob2.2 0
  have z1 := ob2.2 1
  go_wp2
  refine bodyPost_ret (v := .agg #[.int .i64 (1000 * (nearL off slo 0 20).lo), .int .i64 (1000 * (nearL off slo 0 20).hi)]) (by simp [results, Try.results60, go_sem, u0, u1]) rfl ⟨rfl, ?_⟩
  exact ((gg.tr (hx.tr hy)).setCell (by simp) _).setCell (by simp) _

theorem flatS_all (tab hei slo off : Int) (pan top bot : List Int) (pa ta ba : Option Addr) (pc tc bc : Nat) (opn : Bool) (G : ShB hei slo pan top bot) (h2 : 0 ≤ off) (h3 : off ≤ 3000) (k : Nat) (hk : k < 10) (w : World) (hp : IRow w pa pan) (ht : IRow w ta top) (hb : IRow w ba bot) :
    Calls Try.prog 60 #[.agg #[.int .i64 tab, .slice pa pan.length pc, .int .i64 hei, .slice ta top.length tc, .slice ba bot.length bc, .int .i64 slo, .bool opn, .int .i64 off, .slice ta top.length tc, .slice ba bot.length bc], .int .i64 k] w fun e w' => e = .returned (.agg #[.int .i64 (flatS off hei slo pan top bot opn k).lo, .int .i64 (flatS off hei slo pan top bot opn k).hi]) ∧ Gr w w' := by
  obtain ⟨e0, e1⟩ := G.ghei
  by_cases h9 : k = 9
  · subst h9
    exact flat_slot _ _ _ _ _ _ _ _ _ _ _ _ _ _ G.gslo.1 G.gslo.2 h2 h3 w
  have E9 : flatS off hei slo pan top bot opn k = flatAt off hei pan top bot opn k := by unfold flatS; rw [if_neg h9]
  rw [E9]
  by_cases h4 : k < 4
  · obtain ⟨x, hx⟩ := get_of_lt (show k < pan.length by rw [G.l4]; omega)
    obtain ⟨a, b⟩ := in_at G.gpan hx
    have E : flatAt off hei pan top bot opn k = ⟨1000 * (nearL off x 1 3000).lo, 1000 * (nearL off x 1 3000).hi⟩ := by unfold flatAt; rw [if_pos h4, getD_eq hx]
    rw [E]
    exact flat_panel _ _ _ _ _ _ _ _ _ _ _ _ _ _ k x h4 hx a b h2 h3 w hp
  · by_cases h5 : k = 4
    · subst h5
      have E : flatAt off hei pan top bot opn 4 = ⟨1000 * (nearL off hei 1 3000).lo, 1000 * (nearL off hei 1 3000).hi⟩ := by unfold flatAt; rw [if_neg h4, if_pos rfl]
      rw [E]
      exact flat_height _ _ _ _ _ _ _ _ _ _ _ _ _ _ e0 e1 h2 h3 w
    · have E : flatAt off hei pan top bot opn k = gapS (nearL off (pan.getD (1 - (k - 5) % 2) 0) 1 3000) (flapS opn off top bot ((k - 5) / 2) ((k - 5) % 2)) := by unfold flatAt; rw [if_neg h4, if_neg h5]
      obtain ⟨x, hx⟩ := get_of_lt (show 1 - (k - 5) % 2 < pan.length by rw [G.l4]; omega)
      obtain ⟨a, b⟩ := in_at G.gpan hx
      obtain ⟨f0, f1, f2, f3⟩ := flap_bd (opn := opn) (en := (k - 5) / 2) G.gtop G.gbot G.t2 G.b2 h2 h3 (show (k - 5) % 2 < 2 by omega)
      rw [E, getD_eq hx]
      refine flat_gap _ _ _ _ _ _ _ _ _ _ _ _ _ _ (k : Int) (((k - 5) % 2 : Nat) : Int) (1 - (k - 5) % 2) x _ (by omega) (by omega) (by omega) (by omega) hx a b h2 h3 f0 f1 f2 f3 w hp ?_
      intro W hW
      obtain ⟨y, hy⟩ := get_of_lt (show (k - 5) % 2 < top.length by rw [G.t2]; omega)
      obtain ⟨z, hz⟩ := get_of_lt (show (k - 5) % 2 < bot.length by rw [G.b2]; omega)
      obtain ⟨c0, c1⟩ := in_at G.gtop hy
      obtain ⟨d0, d1⟩ := in_at G.gbot hz
      by_cases h7 : k < 7
      · rw [show ((k : Int) - 5) / 2 = 0 by omega, show (k - 5) / 2 = 0 by omega]
        cases opn with
        | true =>
          have E2 : flapS true off top bot 0 ((k - 5) % 2) = ⟨0, 0⟩ := rfl
          rw [E2]
          exact flap_open _ _ _ _ _ _ _ _ _ _ _ _ _ _ _
        | false =>
          have E2 : flapS false off top bot 0 ((k - 5) % 2) = nearL off y 0 3000 := by unfold flapS; rw [getD_eq hy]; rfl
          rw [E2]
          exact flap_top _ _ _ _ _ _ _ _ _ _ _ _ _ ((k - 5) % 2) y _ rfl hy c0 c1 h2 h3 W (ht.grow hW)
      · rw [show ((k : Int) - 5) / 2 = 1 by omega, show (k - 5) / 2 = 1 by omega]
        have E2 : flapS opn off top bot 1 ((k - 5) % 2) = nearL off z 0 3000 := by unfold flapS; rw [getD_eq hz]; rfl
        rw [E2]
        exact flap_bot _ _ _ _ _ _ _ _ _ _ _ _ _ _ ((k - 5) % 2) z _ rfl hz d0 d1 h2 h3 W (hb.grow hW)


end Go.Proofs.Ytaommdjekddgiaa

namespace Go.Proofs.Ytaommdjekddgiaa
set_option linter.unusedVariables false
set_option linter.unusedSimpArgs false
open Go.RowKit

/-- A valid wish. -/
structure GoodWish (ll lh wl wh hl hh ol oh il ih : Int) : Prop where
  len : 0 ≤ ll ∧ ll ≤ lh ∧ lh ≤ 3000
  wid : 0 ≤ wl ∧ wl ≤ wh ∧ wh ≤ 3000
  hei : 0 ≤ hl ∧ hl ≤ hh ∧ hh ≤ 3000
  out : -3000 ≤ ol ∧ ol ≤ oh ∧ oh ≤ 3000
  inn : -3000 ≤ il ∧ il ≤ ih ∧ ih ≤ 3000

/-- In what the measure of a check must be. -/
def inS (ll lh wl wh hl hh ol oh il ih : Int) (k : Nat) : Sp :=
  if k = 0 ∨ k = 2 then ⟨1000 * ll, 1000 * lh⟩ else if k = 1 ∨ k = 3 then ⟨1000 * wl, 1000 * wh⟩ else if k = 4 then ⟨1000 * hl, 1000 * hh⟩ else if k = 9 then ⟨0, 20000⟩ else if (k - 5) % 2 = 0 then ⟨1000 * ol, 1000 * oh⟩ else ⟨1000 * il, 1000 * ih⟩

theorem inS_bd {ll lh wl wh hl hh ol oh il ih : Int} (G : GoodWish ll lh wl wh hl hh ol oh il ih) (k : Nat) : SpB 3000000 (inS ll lh wl wh hl hh ol oh il ih k) := by
  obtain ⟨a0, a1, a2⟩ := G.len
  obtain ⟨b0, b1, b2⟩ := G.wid
  obtain ⟨c0, c1, c2⟩ := G.hei
  obtain ⟨d0, d1, d2⟩ := G.out
  obtain ⟨e0, e1, e2⟩ := G.inn
  unfold inS
  (repeat' split) <;> exact ⟨by simp only; omega, by simp only; omega, by simp only; omega, by simp only; omega⟩


set_option maxRecDepth 100000 in
theorem in_0 (ll lh wl wh hl hh ol oh il ih : Int) (wo : Bool) (G : GoodWish ll lh wl wh hl hh ol oh il ih) (w : World) :
    Calls Try.prog 94 #[.agg #[.int .i64 ll, .int .i64 lh, .int .i64 wl, .int .i64 wh, .int .i64 hl, .int .i64 hh, .int .i64 ol, .int .i64 oh, .int .i64 il, .int .i64 ih, .bool wo], .int .i64 0] w fun e w' => e = .returned (.agg #[.int .i64 (1000 * ll), .int .i64 (1000 * lh)]) ∧ Gr w w' := by
  have gg := (Gr.al w (.cells #[.int .i64 ll, .int .i64 lh, .int .i64 wl, .int .i64 wh, .int .i64 hl, .int .i64 hh, .int .i64 ol, .int .i64 oh, .int .i64 il, .int .i64 ih, .bool wo] 130)).tr (Gr.al _ (.cells #[.int .i64 0, .int .i64 0] 38))
  have hb := (Box.new w [.int .i64 ll, .int .i64 lh, .int .i64 wl, .int .i64 wh, .int .i64 hl, .int .i64 hh, .int .i64 ol, .int .i64 oh, .int .i64 il, .int .i64 ih, .bool wo] 130 w.heap.size rfl).keep (Gr.al _ (.cells #[.int .i64 0, .int .i64 0] 38))
  have ob := Own.new (w.alloc (.cells #[.int .i64 ll, .int .i64 lh, .int .i64 wl, .int .i64 wh, .int .i64 hl, .int .i64 hh, .int .i64 ol, .int .i64 oh, .int .i64 il, .int .i64 ih, .bool wo] 130)) [.int .i64 0, .int .i64 0] 38 (w.heap.size + 1) (by simp)
  obtain ⟨a0, a1, a2⟩ := G.len
  obtain ⟨b0, b1, b2⟩ := G.wid
  obtain ⟨c0, c1, c2⟩ := G.hei
  obtain ⟨d0, d1, d2⟩ := G.out
  obtain ⟨e0, e1, e2⟩ := G.inn

  have q0 := hb.2 0 _ rfl
  have q1 := hb.2 1 _ rfl
  go_enter Try.func94, Try.ntmps94
  go_wp2_with fail
  refine (times_any 1000 ll lh (by omega) (by omega) (by omega) (by omega) _).mono ?_
  rintro e w2 ⟨rfl, hx⟩
  have ob2 := ob.keep hx
  obtain ⟨u0, u1⟩ := ob2.1.c2
  have z0 := ob2.2 0
  have z1 := ob2.2 1
  go_wp2
  refine bodyPost_ret (v := .agg #[.int .i64 (1000 * ll), .int .i64 (1000 * lh)]) (by simp [results, Try.results94, go_sem, u0, u1]) rfl ⟨rfl, ?_⟩
  exact ((gg.tr hx).setCell (by simp) _).setCell (by simp) _

set_option maxRecDepth 100000 in
theorem in_1 (ll lh wl wh hl hh ol oh il ih : Int) (wo : Bool) (G : GoodWish ll lh wl wh hl hh ol oh il ih) (w : World) :
    Calls Try.prog 94 #[.agg #[.int .i64 ll, .int .i64 lh, .int .i64 wl, .int .i64 wh, .int .i64 hl, .int .i64 hh, .int .i64 ol, .int .i64 oh, .int .i64 il, .int .i64 ih, .bool wo], .int .i64 1] w fun e w' => e = .returned (.agg #[.int .i64 (1000 * wl), .int .i64 (1000 * wh)]) ∧ Gr w w' := by
  have gg := (Gr.al w (.cells #[.int .i64 ll, .int .i64 lh, .int .i64 wl, .int .i64 wh, .int .i64 hl, .int .i64 hh, .int .i64 ol, .int .i64 oh, .int .i64 il, .int .i64 ih, .bool wo] 130)).tr (Gr.al _ (.cells #[.int .i64 0, .int .i64 0] 38))
  have hb := (Box.new w [.int .i64 ll, .int .i64 lh, .int .i64 wl, .int .i64 wh, .int .i64 hl, .int .i64 hh, .int .i64 ol, .int .i64 oh, .int .i64 il, .int .i64 ih, .bool wo] 130 w.heap.size rfl).keep (Gr.al _ (.cells #[.int .i64 0, .int .i64 0] 38))
  have ob := Own.new (w.alloc (.cells #[.int .i64 ll, .int .i64 lh, .int .i64 wl, .int .i64 wh, .int .i64 hl, .int .i64 hh, .int .i64 ol, .int .i64 oh, .int .i64 il, .int .i64 ih, .bool wo] 130)) [.int .i64 0, .int .i64 0] 38 (w.heap.size + 1) (by simp)
  obtain ⟨a0, a1, a2⟩ := G.len
  obtain ⟨b0, b1, b2⟩ := G.wid
  obtain ⟨c0, c1, c2⟩ := G.hei
  obtain ⟨d0, d1, d2⟩ := G.out
  obtain ⟨e0, e1, e2⟩ := G.inn

  have q0 := hb.2 2 _ rfl
  have q1 := hb.2 3 _ rfl
  go_enter Try.func94, Try.ntmps94
  go_wp2_with fail
  refine (times_any 1000 wl wh (by omega) (by omega) (by omega) (by omega) _).mono ?_
  rintro e w2 ⟨rfl, hx⟩
  have ob2 := ob.keep hx
  obtain ⟨u0, u1⟩ := ob2.1.c2
  have z0 := ob2.2 0
  have z1 := ob2.2 1
  go_wp2
  refine bodyPost_ret (v := .agg #[.int .i64 (1000 * wl), .int .i64 (1000 * wh)]) (by simp [results, Try.results94, go_sem, u0, u1]) rfl ⟨rfl, ?_⟩
  exact ((gg.tr hx).setCell (by simp) _).setCell (by simp) _

set_option maxRecDepth 100000 in
theorem in_2 (ll lh wl wh hl hh ol oh il ih : Int) (wo : Bool) (G : GoodWish ll lh wl wh hl hh ol oh il ih) (w : World) :
    Calls Try.prog 94 #[.agg #[.int .i64 ll, .int .i64 lh, .int .i64 wl, .int .i64 wh, .int .i64 hl, .int .i64 hh, .int .i64 ol, .int .i64 oh, .int .i64 il, .int .i64 ih, .bool wo], .int .i64 2] w fun e w' => e = .returned (.agg #[.int .i64 (1000 * ll), .int .i64 (1000 * lh)]) ∧ Gr w w' := by
  have gg := (Gr.al w (.cells #[.int .i64 ll, .int .i64 lh, .int .i64 wl, .int .i64 wh, .int .i64 hl, .int .i64 hh, .int .i64 ol, .int .i64 oh, .int .i64 il, .int .i64 ih, .bool wo] 130)).tr (Gr.al _ (.cells #[.int .i64 0, .int .i64 0] 38))
  have hb := (Box.new w [.int .i64 ll, .int .i64 lh, .int .i64 wl, .int .i64 wh, .int .i64 hl, .int .i64 hh, .int .i64 ol, .int .i64 oh, .int .i64 il, .int .i64 ih, .bool wo] 130 w.heap.size rfl).keep (Gr.al _ (.cells #[.int .i64 0, .int .i64 0] 38))
  have ob := Own.new (w.alloc (.cells #[.int .i64 ll, .int .i64 lh, .int .i64 wl, .int .i64 wh, .int .i64 hl, .int .i64 hh, .int .i64 ol, .int .i64 oh, .int .i64 il, .int .i64 ih, .bool wo] 130)) [.int .i64 0, .int .i64 0] 38 (w.heap.size + 1) (by simp)
  obtain ⟨a0, a1, a2⟩ := G.len
  obtain ⟨b0, b1, b2⟩ := G.wid
  obtain ⟨c0, c1, c2⟩ := G.hei
  obtain ⟨d0, d1, d2⟩ := G.out
  obtain ⟨e0, e1, e2⟩ := G.inn

  have q0 := hb.2 0 _ rfl
  have q1 := hb.2 1 _ rfl
  go_enter Try.func94, Try.ntmps94
  go_wp2_with fail
  refine (times_any 1000 ll lh (by omega) (by omega) (by omega) (by omega) _).mono ?_
  rintro e w2 ⟨rfl, hx⟩
  have ob2 := ob.keep hx
  obtain ⟨u0, u1⟩ := ob2.1.c2
  have z0 := ob2.2 0
  have z1 := ob2.2 1
  go_wp2
  refine bodyPost_ret (v := .agg #[.int .i64 (1000 * ll), .int .i64 (1000 * lh)]) (by simp [results, Try.results94, go_sem, u0, u1]) rfl ⟨rfl, ?_⟩
  exact ((gg.tr hx).setCell (by simp) _).setCell (by simp) _

set_option maxRecDepth 100000 in
theorem in_3 (ll lh wl wh hl hh ol oh il ih : Int) (wo : Bool) (G : GoodWish ll lh wl wh hl hh ol oh il ih) (w : World) :
    Calls Try.prog 94 #[.agg #[.int .i64 ll, .int .i64 lh, .int .i64 wl, .int .i64 wh, .int .i64 hl, .int .i64 hh, .int .i64 ol, .int .i64 oh, .int .i64 il, .int .i64 ih, .bool wo], .int .i64 3] w fun e w' => e = .returned (.agg #[.int .i64 (1000 * wl), .int .i64 (1000 * wh)]) ∧ Gr w w' := by
  have gg := (Gr.al w (.cells #[.int .i64 ll, .int .i64 lh, .int .i64 wl, .int .i64 wh, .int .i64 hl, .int .i64 hh, .int .i64 ol, .int .i64 oh, .int .i64 il, .int .i64 ih, .bool wo] 130)).tr (Gr.al _ (.cells #[.int .i64 0, .int .i64 0] 38))
  have hb := (Box.new w [.int .i64 ll, .int .i64 lh, .int .i64 wl, .int .i64 wh, .int .i64 hl, .int .i64 hh, .int .i64 ol, .int .i64 oh, .int .i64 il, .int .i64 ih, .bool wo] 130 w.heap.size rfl).keep (Gr.al _ (.cells #[.int .i64 0, .int .i64 0] 38))
  have ob := Own.new (w.alloc (.cells #[.int .i64 ll, .int .i64 lh, .int .i64 wl, .int .i64 wh, .int .i64 hl, .int .i64 hh, .int .i64 ol, .int .i64 oh, .int .i64 il, .int .i64 ih, .bool wo] 130)) [.int .i64 0, .int .i64 0] 38 (w.heap.size + 1) (by simp)
  obtain ⟨a0, a1, a2⟩ := G.len
  obtain ⟨b0, b1, b2⟩ := G.wid
  obtain ⟨c0, c1, c2⟩ := G.hei
  obtain ⟨d0, d1, d2⟩ := G.out
  obtain ⟨e0, e1, e2⟩ := G.inn

  have q0 := hb.2 2 _ rfl
  have q1 := hb.2 3 _ rfl
  go_enter Try.func94, Try.ntmps94
  go_wp2_with fail
  refine (times_any 1000 wl wh (by omega) (by omega) (by omega) (by omega) _).mono ?_
  rintro e w2 ⟨rfl, hx⟩
  have ob2 := ob.keep hx
  obtain ⟨u0, u1⟩ := ob2.1.c2
  have z0 := ob2.2 0
  have z1 := ob2.2 1
  go_wp2
  refine bodyPost_ret (v := .agg #[.int .i64 (1000 * wl), .int .i64 (1000 * wh)]) (by simp [results, Try.results94, go_sem, u0, u1]) rfl ⟨rfl, ?_⟩
  exact ((gg.tr hx).setCell (by simp) _).setCell (by simp) _

set_option maxRecDepth 100000 in
theorem in_4 (ll lh wl wh hl hh ol oh il ih : Int) (wo : Bool) (G : GoodWish ll lh wl wh hl hh ol oh il ih) (w : World) :
    Calls Try.prog 94 #[.agg #[.int .i64 ll, .int .i64 lh, .int .i64 wl, .int .i64 wh, .int .i64 hl, .int .i64 hh, .int .i64 ol, .int .i64 oh, .int .i64 il, .int .i64 ih, .bool wo], .int .i64 4] w fun e w' => e = .returned (.agg #[.int .i64 (1000 * hl), .int .i64 (1000 * hh)]) ∧ Gr w w' := by
  have gg := (Gr.al w (.cells #[.int .i64 ll, .int .i64 lh, .int .i64 wl, .int .i64 wh, .int .i64 hl, .int .i64 hh, .int .i64 ol, .int .i64 oh, .int .i64 il, .int .i64 ih, .bool wo] 130)).tr (Gr.al _ (.cells #[.int .i64 0, .int .i64 0] 38))
  have hb := (Box.new w [.int .i64 ll, .int .i64 lh, .int .i64 wl, .int .i64 wh, .int .i64 hl, .int .i64 hh, .int .i64 ol, .int .i64 oh, .int .i64 il, .int .i64 ih, .bool wo] 130 w.heap.size rfl).keep (Gr.al _ (.cells #[.int .i64 0, .int .i64 0] 38))
  have ob := Own.new (w.alloc (.cells #[.int .i64 ll, .int .i64 lh, .int .i64 wl, .int .i64 wh, .int .i64 hl, .int .i64 hh, .int .i64 ol, .int .i64 oh, .int .i64 il, .int .i64 ih, .bool wo] 130)) [.int .i64 0, .int .i64 0] 38 (w.heap.size + 1) (by simp)
  obtain ⟨a0, a1, a2⟩ := G.len
  obtain ⟨b0, b1, b2⟩ := G.wid
  obtain ⟨c0, c1, c2⟩ := G.hei
  obtain ⟨d0, d1, d2⟩ := G.out
  obtain ⟨e0, e1, e2⟩ := G.inn

  have q0 := hb.2 4 _ rfl
  have q1 := hb.2 5 _ rfl
  go_enter Try.func94, Try.ntmps94
  go_wp2_with fail
  refine (times_any 1000 hl hh (by omega) (by omega) (by omega) (by omega) _).mono ?_
  rintro e w2 ⟨rfl, hx⟩
  have ob2 := ob.keep hx
  obtain ⟨u0, u1⟩ := ob2.1.c2
  have z0 := ob2.2 0
  have z1 := ob2.2 1
  go_wp2
  refine bodyPost_ret (v := .agg #[.int .i64 (1000 * hl), .int .i64 (1000 * hh)]) (by simp [results, Try.results94, go_sem, u0, u1]) rfl ⟨rfl, ?_⟩
  exact ((gg.tr hx).setCell (by simp) _).setCell (by simp) _

set_option maxRecDepth 100000 in
theorem in_5 (ll lh wl wh hl hh ol oh il ih : Int) (wo : Bool) (G : GoodWish ll lh wl wh hl hh ol oh il ih) (w : World) :
    Calls Try.prog 94 #[.agg #[.int .i64 ll, .int .i64 lh, .int .i64 wl, .int .i64 wh, .int .i64 hl, .int .i64 hh, .int .i64 ol, .int .i64 oh, .int .i64 il, .int .i64 ih, .bool wo], .int .i64 5] w fun e w' => e = .returned (.agg #[.int .i64 (1000 * ol), .int .i64 (1000 * oh)]) ∧ Gr w w' := by
  have gg := (Gr.al w (.cells #[.int .i64 ll, .int .i64 lh, .int .i64 wl, .int .i64 wh, .int .i64 hl, .int .i64 hh, .int .i64 ol, .int .i64 oh, .int .i64 il, .int .i64 ih, .bool wo] 130)).tr (Gr.al _ (.cells #[.int .i64 0, .int .i64 0] 38))
  have hb := (Box.new w [.int .i64 ll, .int .i64 lh, .int .i64 wl, .int .i64 wh, .int .i64 hl, .int .i64 hh, .int .i64 ol, .int .i64 oh, .int .i64 il, .int .i64 ih, .bool wo] 130 w.heap.size rfl).keep (Gr.al _ (.cells #[.int .i64 0, .int .i64 0] 38))
  have ob := Own.new (w.alloc (.cells #[.int .i64 ll, .int .i64 lh, .int .i64 wl, .int .i64 wh, .int .i64 hl, .int .i64 hh, .int .i64 ol, .int .i64 oh, .int .i64 il, .int .i64 ih, .bool wo] 130)) [.int .i64 0, .int .i64 0] 38 (w.heap.size + 1) (by simp)
  obtain ⟨a0, a1, a2⟩ := G.len
  obtain ⟨b0, b1, b2⟩ := G.wid
  obtain ⟨c0, c1, c2⟩ := G.hei
  obtain ⟨d0, d1, d2⟩ := G.out
  obtain ⟨e0, e1, e2⟩ := G.inn

  have q0 := hb.2 6 _ rfl
  have q1 := hb.2 7 _ rfl
  go_enter Try.func94, Try.ntmps94
  go_wp2_with fail
  refine (gap_any 5 (by omega) (by omega) _).mono ?_
  rintro e w' ⟨rfl, rfl⟩
  go_wp2_with fail
  refine (times_any 1000 ol oh (by omega) (by omega) (by omega) (by omega) _).mono ?_
  rintro e w2 ⟨rfl, hx⟩
  have ob2 := ob.keep hx
  obtain ⟨u0, u1⟩ := ob2.1.c2
  have z0 := ob2.2 0
  have z1 := ob2.2 1
  go_wp2
  refine bodyPost_ret (v := .agg #[.int .i64 (1000 * ol), .int .i64 (1000 * oh)]) (by simp [results, Try.results94, go_sem, u0, u1]) rfl ⟨rfl, ?_⟩
  exact ((gg.tr hx).setCell (by simp) _).setCell (by simp) _

set_option maxRecDepth 100000 in
theorem in_6 (ll lh wl wh hl hh ol oh il ih : Int) (wo : Bool) (G : GoodWish ll lh wl wh hl hh ol oh il ih) (w : World) :
    Calls Try.prog 94 #[.agg #[.int .i64 ll, .int .i64 lh, .int .i64 wl, .int .i64 wh, .int .i64 hl, .int .i64 hh, .int .i64 ol, .int .i64 oh, .int .i64 il, .int .i64 ih, .bool wo], .int .i64 6] w fun e w' => e = .returned (.agg #[.int .i64 (1000 * il), .int .i64 (1000 * ih)]) ∧ Gr w w' := by
  have gg := (Gr.al w (.cells #[.int .i64 ll, .int .i64 lh, .int .i64 wl, .int .i64 wh, .int .i64 hl, .int .i64 hh, .int .i64 ol, .int .i64 oh, .int .i64 il, .int .i64 ih, .bool wo] 130)).tr (Gr.al _ (.cells #[.int .i64 0, .int .i64 0] 38))
  have hb := (Box.new w [.int .i64 ll, .int .i64 lh, .int .i64 wl, .int .i64 wh, .int .i64 hl, .int .i64 hh, .int .i64 ol, .int .i64 oh, .int .i64 il, .int .i64 ih, .bool wo] 130 w.heap.size rfl).keep (Gr.al _ (.cells #[.int .i64 0, .int .i64 0] 38))
  have ob := Own.new (w.alloc (.cells #[.int .i64 ll, .int .i64 lh, .int .i64 wl, .int .i64 wh, .int .i64 hl, .int .i64 hh, .int .i64 ol, .int .i64 oh, .int .i64 il, .int .i64 ih, .bool wo] 130)) [.int .i64 0, .int .i64 0] 38 (w.heap.size + 1) (by simp)
  obtain ⟨a0, a1, a2⟩ := G.len
  obtain ⟨b0, b1, b2⟩ := G.wid
  obtain ⟨c0, c1, c2⟩ := G.hei
  obtain ⟨d0, d1, d2⟩ := G.out
  obtain ⟨e0, e1, e2⟩ := G.inn

  have q0 := hb.2 8 _ rfl
  have q1 := hb.2 9 _ rfl
  go_enter Try.func94, Try.ntmps94
  go_wp2_with fail
  refine (gap_any 6 (by omega) (by omega) _).mono ?_
  rintro e w' ⟨rfl, rfl⟩
  go_wp2_with fail
  refine (times_any 1000 il ih (by omega) (by omega) (by omega) (by omega) _).mono ?_
  rintro e w2 ⟨rfl, hx⟩
  have ob2 := ob.keep hx
  obtain ⟨u0, u1⟩ := ob2.1.c2
  have z0 := ob2.2 0
  have z1 := ob2.2 1
  go_wp2
  refine bodyPost_ret (v := .agg #[.int .i64 (1000 * il), .int .i64 (1000 * ih)]) (by simp [results, Try.results94, go_sem, u0, u1]) rfl ⟨rfl, ?_⟩
  exact ((gg.tr hx).setCell (by simp) _).setCell (by simp) _

set_option maxRecDepth 100000 in
theorem in_7 (ll lh wl wh hl hh ol oh il ih : Int) (wo : Bool) (G : GoodWish ll lh wl wh hl hh ol oh il ih) (w : World) :
    Calls Try.prog 94 #[.agg #[.int .i64 ll, .int .i64 lh, .int .i64 wl, .int .i64 wh, .int .i64 hl, .int .i64 hh, .int .i64 ol, .int .i64 oh, .int .i64 il, .int .i64 ih, .bool wo], .int .i64 7] w fun e w' => e = .returned (.agg #[.int .i64 (1000 * ol), .int .i64 (1000 * oh)]) ∧ Gr w w' := by
  have gg := (Gr.al w (.cells #[.int .i64 ll, .int .i64 lh, .int .i64 wl, .int .i64 wh, .int .i64 hl, .int .i64 hh, .int .i64 ol, .int .i64 oh, .int .i64 il, .int .i64 ih, .bool wo] 130)).tr (Gr.al _ (.cells #[.int .i64 0, .int .i64 0] 38))
  have hb := (Box.new w [.int .i64 ll, .int .i64 lh, .int .i64 wl, .int .i64 wh, .int .i64 hl, .int .i64 hh, .int .i64 ol, .int .i64 oh, .int .i64 il, .int .i64 ih, .bool wo] 130 w.heap.size rfl).keep (Gr.al _ (.cells #[.int .i64 0, .int .i64 0] 38))
  have ob := Own.new (w.alloc (.cells #[.int .i64 ll, .int .i64 lh, .int .i64 wl, .int .i64 wh, .int .i64 hl, .int .i64 hh, .int .i64 ol, .int .i64 oh, .int .i64 il, .int .i64 ih, .bool wo] 130)) [.int .i64 0, .int .i64 0] 38 (w.heap.size + 1) (by simp)
  obtain ⟨a0, a1, a2⟩ := G.len
  obtain ⟨b0, b1, b2⟩ := G.wid
  obtain ⟨c0, c1, c2⟩ := G.hei
  obtain ⟨d0, d1, d2⟩ := G.out
  obtain ⟨e0, e1, e2⟩ := G.inn

  have q0 := hb.2 6 _ rfl
  have q1 := hb.2 7 _ rfl
  go_enter Try.func94, Try.ntmps94
  go_wp2_with fail
  refine (gap_any 7 (by omega) (by omega) _).mono ?_
  rintro e w' ⟨rfl, rfl⟩
  go_wp2_with fail
  refine (times_any 1000 ol oh (by omega) (by omega) (by omega) (by omega) _).mono ?_
  rintro e w2 ⟨rfl, hx⟩
  have ob2 := ob.keep hx
  obtain ⟨u0, u1⟩ := ob2.1.c2
  have z0 := ob2.2 0
  have z1 := ob2.2 1
  go_wp2
  refine bodyPost_ret (v := .agg #[.int .i64 (1000 * ol), .int .i64 (1000 * oh)]) (by simp [results, Try.results94, go_sem, u0, u1]) rfl ⟨rfl, ?_⟩
  exact ((gg.tr hx).setCell (by simp) _).setCell (by simp) _

set_option maxRecDepth 100000 in
theorem in_8 (ll lh wl wh hl hh ol oh il ih : Int) (wo : Bool) (G : GoodWish ll lh wl wh hl hh ol oh il ih) (w : World) :
    Calls Try.prog 94 #[.agg #[.int .i64 ll, .int .i64 lh, .int .i64 wl, .int .i64 wh, .int .i64 hl, .int .i64 hh, .int .i64 ol, .int .i64 oh, .int .i64 il, .int .i64 ih, .bool wo], .int .i64 8] w fun e w' => e = .returned (.agg #[.int .i64 (1000 * il), .int .i64 (1000 * ih)]) ∧ Gr w w' := by
  have gg := (Gr.al w (.cells #[.int .i64 ll, .int .i64 lh, .int .i64 wl, .int .i64 wh, .int .i64 hl, .int .i64 hh, .int .i64 ol, .int .i64 oh, .int .i64 il, .int .i64 ih, .bool wo] 130)).tr (Gr.al _ (.cells #[.int .i64 0, .int .i64 0] 38))
  have hb := (Box.new w [.int .i64 ll, .int .i64 lh, .int .i64 wl, .int .i64 wh, .int .i64 hl, .int .i64 hh, .int .i64 ol, .int .i64 oh, .int .i64 il, .int .i64 ih, .bool wo] 130 w.heap.size rfl).keep (Gr.al _ (.cells #[.int .i64 0, .int .i64 0] 38))
  have ob := Own.new (w.alloc (.cells #[.int .i64 ll, .int .i64 lh, .int .i64 wl, .int .i64 wh, .int .i64 hl, .int .i64 hh, .int .i64 ol, .int .i64 oh, .int .i64 il, .int .i64 ih, .bool wo] 130)) [.int .i64 0, .int .i64 0] 38 (w.heap.size + 1) (by simp)
  obtain ⟨a0, a1, a2⟩ := G.len
  obtain ⟨b0, b1, b2⟩ := G.wid
  obtain ⟨c0, c1, c2⟩ := G.hei
  obtain ⟨d0, d1, d2⟩ := G.out
  obtain ⟨e0, e1, e2⟩ := G.inn

  have q0 := hb.2 8 _ rfl
  have q1 := hb.2 9 _ rfl
  go_enter Try.func94, Try.ntmps94
  go_wp2_with fail
  refine (gap_any 8 (by omega) (by omega) _).mono ?_
  rintro e w' ⟨rfl, rfl⟩
  go_wp2_with fail
  refine (times_any 1000 il ih (by omega) (by omega) (by omega) (by omega) _).mono ?_
  rintro e w2 ⟨rfl, hx⟩
  have ob2 := ob.keep hx
  obtain ⟨u0, u1⟩ := ob2.1.c2
  have z0 := ob2.2 0
  have z1 := ob2.2 1
  go_wp2
  refine bodyPost_ret (v := .agg #[.int .i64 (1000 * il), .int .i64 (1000 * ih)]) (by simp [results, Try.results94, go_sem, u0, u1]) rfl ⟨rfl, ?_⟩
  exact ((gg.tr hx).setCell (by simp) _).setCell (by simp) _

set_option maxRecDepth 100000 in
theorem in_9 (ll lh wl wh hl hh ol oh il ih : Int) (wo : Bool) (G : GoodWish ll lh wl wh hl hh ol oh il ih) (w : World) :
    Calls Try.prog 94 #[.agg #[.int .i64 ll, .int .i64 lh, .int .i64 wl, .int .i64 wh, .int .i64 hl, .int .i64 hh, .int .i64 ol, .int .i64 oh, .int .i64 il, .int .i64 ih, .bool wo], .int .i64 9] w fun e w' => e = .returned (.agg #[.int .i64 0, .int .i64 20000]) ∧ Gr w w' := by
  have gg := (Gr.al w (.cells #[.int .i64 ll, .int .i64 lh, .int .i64 wl, .int .i64 wh, .int .i64 hl, .int .i64 hh, .int .i64 ol, .int .i64 oh, .int .i64 il, .int .i64 ih, .bool wo] 130)).tr (Gr.al _ (.cells #[.int .i64 0, .int .i64 0] 38))
  have hb := (Box.new w [.int .i64 ll, .int .i64 lh, .int .i64 wl, .int .i64 wh, .int .i64 hl, .int .i64 hh, .int .i64 ol, .int .i64 oh, .int .i64 il, .int .i64 ih, .bool wo] 130 w.heap.size rfl).keep (Gr.al _ (.cells #[.int .i64 0, .int .i64 0] 38))
  have ob := Own.new (w.alloc (.cells #[.int .i64 ll, .int .i64 lh, .int .i64 wl, .int .i64 wh, .int .i64 hl, .int .i64 hh, .int .i64 ol, .int .i64 oh, .int .i64 il, .int .i64 ih, .bool wo] 130)) [.int .i64 0, .int .i64 0] 38 (w.heap.size + 1) (by simp)
  obtain ⟨a0, a1, a2⟩ := G.len
  obtain ⟨b0, b1, b2⟩ := G.wid
  obtain ⟨c0, c1, c2⟩ := G.hei
  obtain ⟨d0, d1, d2⟩ := G.out
  obtain ⟨e0, e1, e2⟩ := G.inn

  go_enter Try.func94, Try.ntmps94
  obtain ⟨u0, u1⟩ := ob.1.c2
  have z0 := ob.2 0
  have z1 := ob.2 1
  go_wp2
  refine bodyPost_ret (v := .agg #[.int .i64 0, .int .i64 20000]) (by simp [results, Try.results94, go_sem, u0, u1]) rfl ⟨rfl, ?_⟩
  exact (Gr.al _ _).tr (Gr.al _ _)

theorem in_any (ll lh wl wh hl hh ol oh il ih : Int) (wo : Bool) (G : GoodWish ll lh wl wh hl hh ol oh il ih) (k : Nat) (hk : k < 10) (w : World) :
    Calls Try.prog 94 #[.agg #[.int .i64 ll, .int .i64 lh, .int .i64 wl, .int .i64 wh, .int .i64 hl, .int .i64 hh, .int .i64 ol, .int .i64 oh, .int .i64 il, .int .i64 ih, .bool wo], .int .i64 k] w fun e w' => e = .returned (.agg #[.int .i64 (inS ll lh wl wh hl hh ol oh il ih k).lo, .int .i64 (inS ll lh wl wh hl hh ol oh il ih k).hi]) ∧ Gr w w' := by
  have h : k = 0 ∨ k = 1 ∨ k = 2 ∨ k = 3 ∨ k = 4 ∨ k = 5 ∨ k = 6 ∨ k = 7 ∨ k = 8 ∨ k = 9 := by omega
  rcases h with rfl | rfl | rfl | rfl | rfl | rfl | rfl | rfl | rfl | rfl
  · exact in_0 ll lh wl wh hl hh ol oh il ih wo G w
  · exact in_1 ll lh wl wh hl hh ol oh il ih wo G w
  · exact in_2 ll lh wl wh hl hh ol oh il ih wo G w
  · exact in_3 ll lh wl wh hl hh ol oh il ih wo G w
  · exact in_4 ll lh wl wh hl hh ol oh il ih wo G w
  · exact in_5 ll lh wl wh hl hh ol oh il ih wo G w
  · exact in_6 ll lh wl wh hl hh ol oh il ih wo G w
  · exact in_7 ll lh wl wh hl hh ol oh il ih wo G w
  · exact in_8 ll lh wl wh hl hh ol oh il ih wo G w
  · exact in_9 ll lh wl wh hl hh ol oh il ih wo G w

end Go.Proofs.Ytaommdjekddgiaa

namespace Go.Proofs.Ytaommdjekddgiaa
set_option linter.unusedVariables false
set_option linter.unusedSimpArgs false
open Go.RowKit

def meet1 (s x : Sp) : Sp := ⟨max s.lo x.lo, min s.hi x.hi⟩

def meetL (s : Sp) (l : List Sp) : Sp := l.foldl meet1 s

theorem meet_take {s : Sp} {l : List Sp} {k : Nat} {x : Sp} (hx : l[k]? = some x) : meetL s (l.take (k + 1)) = meet1 (meetL s (l.take k)) x := by
  unfold meetL
  rw [List.take_add_one, hx]
  simp

set_option maxRecDepth 100000 in
set_option maxHeartbeats 1000000 in
theorem meet_any (s : Sp) (l : List Sp) (hn : l.length ≤ 10) (a : Option Addr) (cap : Nat) (w : World) (hr : SRow w a l) :
    Calls Try.prog 54 #[.agg #[.int .i64 s.lo, .int .i64 s.hi], .slice a l.length cap] w fun e w' => e = .returned (.agg #[.int .i64 (meetL s l).lo, .int .i64 (meetL s l).hi]) ∧ Gr w w' := by
  have gg := (Gr.al w (.cells #[.int .i64 s.lo, .int .i64 s.hi] 38)).tr (Gr.al _ (.cells #[.int .i64 0, .int .i64 0] 38))
  have o1 := (Own.new w [.int .i64 s.lo, .int .i64 s.hi] 38 w.heap.size rfl).keep (Gr.al _ (.cells #[.int .i64 0, .int .i64 0] 38))
  have o2 := Own.new (w.alloc (.cells #[.int .i64 s.lo, .int .i64 s.hi] 38)) [.int .i64 0, .int .i64 0] 38 (w.heap.size + 1) (by simp)
  go_enter Try.func54, Try.ntmps54
  go_wp2
  refine wp_abs (fun W => Gr w W ∧ Own W w.heap.size [.int .i64 s.lo, .int .i64 s.hi] ∧ Own W (w.heap.size + 1) [.int .i64 0, .int .i64 0]) ⟨gg, o1, o2⟩ ?_
  clear gg o1 o2
  rintro W ⟨gg, o1, o2⟩
  go_loopw [9] (fun i wr => ∃ k : Nat, k ≤ l.length ∧ i = .int .i64 k ∧ Gr w wr ∧ Own wr w.heap.size [.int .i64 (meetL s (l.take k)).lo, .int .i64 (meetL s (l.take k)).hi] ∧ Own wr (w.heap.size + 1) [.int .i64 0, .int .i64 0]) (fun i wr => l.length - (intOf i).toNat)
  case atStart => exact ⟨0, Nat.zero_le _, rfl, gg, o1, o2⟩
  case round =>
    clear gg o1 o2
    obtain ⟨k, hk, rfl, gg, o1, o2⟩ := hrel
    by_cases hlt : k < l.length
    · obtain ⟨x, hx⟩ := get_of_lt hlt
      obtain ⟨b0, off, rfl, hb, hc0, hc1⟩ := SRow.get (hr.grow gg) hx
      have et := meet_take (s := s) hx
      have Et := Lib.hid et
      clear et hx
      generalize meetL s (l.take k) = c at *
      obtain ⟨cl, ch⟩ := c
      obtain ⟨xl, xh⟩ := x
      simp only [meet1] at hc0 hc1
      have gn := Gr.al wr (.cells #[.int .i64 xl, .int .i64 xh] 38)
      have p1 := o1.keep gn
      have p2 := o2.keep gn
      have p3 := Own.new wr [.int .i64 xl, .int .i64 xh] 38 wr.heap.size rfl
      have hne : wr.heap.size ≠ w.heap.size := by have := o2.1.1; omega
      obtain ⟨q0, q1⟩ := p1.1.c2
      have z0 := p1.2 0
      have z1 := p1.2 1
      obtain ⟨r0, r1⟩ := p3.1.c2
      have HN := Lib.hid hne
      have g3 := gg.tr gn
      go_wp2
      go_roundw
      case rel =>
        refine ⟨k + 1, by omega, by go_num, (g3.setCell (by simp) _).setCell (by simp) _, ?_, (p2.other (by omega)).other (by omega)⟩
        rw [Et.out]
        exact (p1.set (i := 0) (by simp)).set (i := 1) (by simp)
      case measure => simp [intOf]; omega
    · obtain rfl : k = l.length := by omega
      rw [List.take_length] at o1
      obtain ⟨q0, q1⟩ := o1.1.c2
      obtain ⟨r0, r1⟩ := o2.1.c2
      have z0 := o2.2 0
      have z1 := o2.2 1
      go_wp2
      refine bodyPost_ret (v := .agg #[.int .i64 (meetL s l).lo, .int .i64 (meetL s l).hi]) (by simp [results, Try.results54, go_sem, r0, r1]) rfl ⟨rfl, ?_⟩
      exact (gg.setCell (by simp) _).setCell (by simp) _

theorem meet_one (s : Sp) (c d : Int) (ad : Option Addr) (cap : Nat) (w : World) (hr : SRow w ad [⟨c, d⟩]) :
    Calls Try.prog 54 #[.agg #[.int .i64 s.lo, .int .i64 s.hi], .slice ad 1 cap] w fun e w' => e = .returned (.agg #[.int .i64 (max s.lo c), .int .i64 (min s.hi d)]) ∧ Gr w w' :=
  meet_any s [⟨c, d⟩] (by simp) ad cap w hr

/-- The first number of a span that is not in another one. -/
def outN (sl sh ol oh : Int) : Int := if sl < ol ∨ oh < sl then sl else if oh < sh then oh + 1 else 0

def outB (sl sh ol oh : Int) : Bool := decide (sl < ol) || decide (oh < sl) || decide (oh < sh)

set_option maxHeartbeats 1000000 in
theorem outside_any (sl sh ol oh : Int) (h0 : -1000000000 ≤ oh) (h1 : oh ≤ 1000000000) (w : World) :
    Calls Try.prog 52 #[.agg #[.int .i64 sl, .int .i64 sh], .agg #[.int .i64 ol, .int .i64 oh]] w fun e w' => e = .returned (.tuple #[.int .i64 (outN sl sh ol oh), .bool (outB sl sh ol oh)]) ∧ Gr w w' := by
  have gg := (Gr.al w (.cells #[.int .i64 sl, .int .i64 sh] 38)).tr (Gr.al _ (.cells #[.int .i64 ol, .int .i64 oh] 38))
  have hb := (Box.new w [.int .i64 sl, .int .i64 sh] 38 w.heap.size rfl).keep (Gr.al _ (.cells #[.int .i64 ol, .int .i64 oh] 38))
  have hc := Box.new (w.alloc (.cells #[.int .i64 sl, .int .i64 sh] 38)) [.int .i64 ol, .int .i64 oh] 38 (w.heap.size + 1) (by simp)
  obtain ⟨q0, q1⟩ := hb.c2
  obtain ⟨q2, q3⟩ := hc.c2
  by_cases c0 : sl < ol
  · have E : outN sl sh ol oh = sl ∧ outB sl sh ol oh = true := by simp [outN, outB, c0]
    rw [E.1, E.2]
    clear E
    have d0 : decide (sl < ol) = true := by simpa using c0
    go_enter Try.func52, Try.ntmps52
    go_wp2
    go_ret2
    exact ⟨rfl, gg⟩
  · have d0 : decide (sl < ol) = false := by simpa using c0
    by_cases c1 : oh < sl
    · have E : outN sl sh ol oh = sl ∧ outB sl sh ol oh = true := by simp [outN, outB, c1]
      rw [E.1, E.2]
      clear E
      have d1 : decide (oh < sl) = true := by simpa using c1
      go_enter Try.func52, Try.ntmps52
      go_wp2
      go_ret2
      exact ⟨rfl, gg⟩
    · have d1 : decide (oh < sl) = false := by simpa using c1
      by_cases c2 : oh < sh
      · have E : outN sl sh ol oh = oh + 1 ∧ outB sl sh ol oh = true := by simp [outN, outB, c0, c1, c2]
        rw [E.1, E.2]
        clear E
        have d2 : decide (oh < sh) = true := by simpa using c2
        go_enter Try.func52, Try.ntmps52
        go_wp2
        go_ret2
        exact ⟨rfl, gg⟩
      · have E : outN sl sh ol oh = 0 ∧ outB sl sh ol oh = false := by simp [outN, outB, c0, c1, c2]
        rw [E.1, E.2]
        clear E
        have d2 : decide (oh < sh) = false := by simpa using c2
        go_enter Try.func52, Try.ntmps52
        go_wp2
        go_ret2
        exact ⟨rfl, gg⟩

end Go.Proofs.Ytaommdjekddgiaa
