/- Contracts of a sheet's flat and inside, for all checks, and of Inner, of a valid blank. -/
import Derived.Test.YtaommdjekddgiaaS6
namespace Go.Proofs.Ytaommdjekddgiaa
set_option linter.unusedVariables false
set_option linter.unusedSimpArgs false
open Go.RowKit

def flapS (opn : Bool) (off : Int) (top bot : List Int) (en kind : Nat) : Sp :=
  if en = 0 then (if opn then ⟨0, 0⟩ else nearL off (top.getD kind 0) 0 3000) else nearL off (bot.getD kind 0) 0 3000

/-- What the measure of check k is while no caliper is lost. -/
def flatAt (off hei : Int) (pan top bot : List Int) (opn : Bool) (k : Nat) : Sp :=
  if k < 4 then ⟨1000 * (nearL off (pan.getD k 0) 1 3000).lo, 1000 * (nearL off (pan.getD k 0) 1 3000).hi⟩
  else if k = 4 then ⟨1000 * (nearL off hei 1 3000).lo, 1000 * (nearL off hei 1 3000).hi⟩
  else gapS (nearL off (pan.getD (1 - (k - 5) % 2) 0) 1 3000) (flapS opn off top bot ((k - 5) / 2) ((k - 5) % 2))

theorem getD_eq {l : List Int} {k : Nat} {x : Int} (h : l[k]? = some x) : l.getD k 0 = x := by simp [h]

theorem flap_bd {opn : Bool} {off : Int} {top bot : List Int} (gt : inB 0 3000 top = true) (gb : inB 0 3000 bot = true) (lt : top.length = 2) (lb : bot.length = 2) (h2 : 0 ≤ off) (h3 : off ≤ 3000) {en kind : Nat} (hk : kind < 2) :
    0 ≤ (flapS opn off top bot en kind).lo ∧ (flapS opn off top bot en kind).lo ≤ 3000 ∧ 0 ≤ (flapS opn off top bot en kind).hi ∧ (flapS opn off top bot en kind).hi ≤ 3000 := by
  obtain ⟨x, hx⟩ := get_of_lt (show kind < top.length by omega)
  obtain ⟨y, hy⟩ := get_of_lt (show kind < bot.length by omega)
  obtain ⟨a, b⟩ := in_at gt hx
  obtain ⟨c, d⟩ := in_at gb hy
  unfold flapS
  rw [getD_eq hx, getD_eq hy]
  split
  · split
    · simp
    · exact near_bd a b h2 h3 (by omega) (by omega) (by omega) (by omega)
  · exact near_bd c d h2 h3 (by omega) (by omega) (by omega) (by omega)

theorem flat_bd {tab hei slo off : Int} {pan top bot : List Int} {opn : Bool} (G : GoodB tab hei slo pan top bot opn) (h2 : 0 ≤ off) (h3 : off ≤ 3000) {k : Nat} (hk : k < 9) : SpB 10000000 (flatAt off hei pan top bot opn k) := by
  obtain ⟨e0, e1⟩ := in_one G.ghei
  unfold flatAt
  split
  · rename_i h4
    obtain ⟨x, hx⟩ := get_of_lt (show k < pan.length by rw [G.l4]; omega)
    obtain ⟨a, b⟩ := in_at G.gpan hx
    obtain ⟨n0, n1, n2, n3⟩ := near_bd (lo := 1) (hi := 3000) (m := x) (by omega) b h2 h3 (by omega) (by omega) (by omega) (by omega)
    rw [getD_eq hx]
    exact ⟨by simp only; omega, by simp only; omega, by simp only; omega, by simp only; omega⟩
  · split
    · obtain ⟨n0, n1, n2, n3⟩ := near_bd (lo := 1) (hi := 3000) (m := hei) (by omega) e1 h2 h3 (by omega) (by omega) (by omega) (by omega)
      exact ⟨by simp only; omega, by simp only; omega, by simp only; omega, by simp only; omega⟩
    · obtain ⟨x, hx⟩ := get_of_lt (show 1 - (k - 5) % 2 < pan.length by rw [G.l4]; omega)
      obtain ⟨a, b⟩ := in_at G.gpan hx
      obtain ⟨n0, n1, n2, n3⟩ := near_bd (lo := 1) (hi := 3000) (m := x) (by omega) b h2 h3 (by omega) (by omega) (by omega) (by omega)
      obtain ⟨f0, f1, f2, f3⟩ := flap_bd (opn := opn) (en := (k - 5) / 2) G.gtop G.gbot G.t2 G.b2 h2 h3 (show (k - 5) % 2 < 2 by omega)
      rw [getD_eq hx]
      exact ⟨by simp only [gapS]; omega, by simp only [gapS]; omega, by simp only [gapS]; omega, by simp only [gapS]; omega⟩

theorem flat_all (tab hei slo off : Int) (pan top bot : List Int) (pa ta ba : Option Addr) (pc tc bc : Nat) (opn : Bool) (G : GoodB tab hei slo pan top bot opn) (h2 : 0 ≤ off) (h3 : off ≤ 3000) (k : Nat) (hk : k < 9) (w : World) (hp : IRow w pa pan) (ht : IRow w ta top) (hb : IRow w ba bot) :
    Calls Try.prog 60 #[.agg #[.int .i64 tab, .slice pa pan.length pc, .int .i64 hei, .slice ta top.length tc, .slice ba bot.length bc, .int .i64 slo, .bool opn, .int .i64 off, .slice ta top.length tc, .slice ba bot.length bc], .int .i64 k] w fun e w' => e = .returned (.agg #[.int .i64 (flatAt off hei pan top bot opn k).lo, .int .i64 (flatAt off hei pan top bot opn k).hi]) ∧ Gr w w' := by
  obtain ⟨e0, e1⟩ := in_one G.ghei
  by_cases h4 : k < 4
  · obtain ⟨x, hx⟩ := get_of_lt (show k < pan.length by rw [G.l4]; omega)
    obtain ⟨a, b⟩ := in_at G.gpan hx
    have E : flatAt off hei pan top bot opn k = ⟨1000 * (nearL off x 1 3000).lo, 1000 * (nearL off x 1 3000).hi⟩ := by unfold flatAt; rw [if_pos h4, getD_eq hx]
    rw [E]
    exact flat_panel _ _ _ _ _ _ _ _ _ _ _ _ _ _ k x h4 hx (by omega) b h2 h3 w hp
  · by_cases h5 : k = 4
    · subst h5
      have E : flatAt off hei pan top bot opn 4 = ⟨1000 * (nearL off hei 1 3000).lo, 1000 * (nearL off hei 1 3000).hi⟩ := by unfold flatAt; rw [if_neg h4, if_pos rfl]
      rw [E]
      exact flat_height _ _ _ _ _ _ _ _ _ _ _ _ _ _ (by omega) e1 h2 h3 w
    · have E : flatAt off hei pan top bot opn k = gapS (nearL off (pan.getD (1 - (k - 5) % 2) 0) 1 3000) (flapS opn off top bot ((k - 5) / 2) ((k - 5) % 2)) := by unfold flatAt; rw [if_neg h4, if_neg h5]
      obtain ⟨x, hx⟩ := get_of_lt (show 1 - (k - 5) % 2 < pan.length by rw [G.l4]; omega)
      obtain ⟨a, b⟩ := in_at G.gpan hx
      obtain ⟨f0, f1, f2, f3⟩ := flap_bd (opn := opn) (en := (k - 5) / 2) G.gtop G.gbot G.t2 G.b2 h2 h3 (show (k - 5) % 2 < 2 by omega)
      rw [E, getD_eq hx]
      refine flat_gap _ _ _ _ _ _ _ _ _ _ _ _ _ _ (k : Int) (((k - 5) % 2 : Nat) : Int) (1 - (k - 5) % 2) x _ (by omega) (by omega) (by omega) (by omega) hx (by omega) b h2 h3 f0 f1 f2 f3 w hp ?_
      intro W hW
      obtain ⟨y, hy⟩ := get_of_lt (show (k - 5) % 2 < top.length by rw [G.t2]; omega)
      obtain ⟨z, hz⟩ := get_of_lt (show (k - 5) % 2 < bot.length by rw [G.b2]; omega)
      obtain ⟨c0, c1⟩ := in_at G.gtop hy
      obtain ⟨d0, d1⟩ := in_at G.gbot hz
      by_cases h7 : k < 7
      · rw [show ((k : Int) - 5) / 2 = 0 by omega, show (k - 5) / 2 = 0 by omega]
        cases opn with
        | true =>
          have E2 : flapS true off top bot 0 ((k - 5) % 2) = ⟨0, 0⟩ := rfl
          rw [E2]
          exact flap_open _ _ _ _ _ _ _ _ _ _ _ _ _ _ _
        | false =>
          have E2 : flapS false off top bot 0 ((k - 5) % 2) = nearL off y 0 3000 := by unfold flapS; rw [getD_eq hy]; rfl
          rw [E2]
          exact flap_top _ _ _ _ _ _ _ _ _ _ _ _ _ ((k - 5) % 2) y _ rfl hy c0 c1 h2 h3 W (ht.grow hW)
      · rw [show ((k : Int) - 5) / 2 = 1 by omega, show (k - 5) / 2 = 1 by omega]
        have E2 : flapS opn off top bot 1 ((k - 5) % 2) = nearL off z 0 3000 := by unfold flapS; rw [getD_eq hz]; rfl
        rw [E2]
        exact flap_bot _ _ _ _ _ _ _ _ _ _ _ _ _ _ ((k - 5) % 2) z _ rfl hz d0 d1 h2 h3 W (hb.grow hW)

/-- The measure of check k with calipers. -/
def innerAt (off hei : Int) (pan top bot : List Int) (opn : Bool) (cl ch : Int) (k : Nat) : Sp := insideS (flatAt off hei pan top bot opn k) (lostL k opn) cl ch

theorem inside_all (tab hei slo off : Int) (pan top bot : List Int) (pa ta ba : Option Addr) (pc tc bc : Nat) (opn : Bool) (cl ch : Int) (G : GoodB tab hei slo pan top bot opn) (h2 : 0 ≤ off) (h3 : off ≤ 3000) (c0 : 0 ≤ cl) (c1 : cl ≤ 10000) (c2 : 0 ≤ ch) (c3 : ch ≤ 10000) (k : Nat) (hk : k < 9) (w : World) (hp : IRow w pa pan) (ht : IRow w ta top) (hb : IRow w ba bot) :
    Calls Try.prog 59 #[.agg #[.int .i64 tab, .slice pa pan.length pc, .int .i64 hei, .slice ta top.length tc, .slice ba bot.length bc, .int .i64 slo, .bool opn, .int .i64 off, .slice ta top.length tc, .slice ba bot.length bc], .int .i64 k, .agg #[.int .i64 cl, .int .i64 ch]] w fun e w' => e = .returned (.agg #[.int .i64 (innerAt off hei pan top bot opn cl ch k).lo, .int .i64 (innerAt off hei pan top bot opn cl ch k).hi]) ∧ Gr w w' :=
  inside_of _ _ _ _ _ _ _ _ _ _ _ _ _ _ k cl ch _ (flat_bd G h2 h3 hk) c0 c1 c2 c3 w (fun W hW => flat_all _ _ _ _ _ _ _ _ _ _ _ _ _ _ G h2 h3 k hk W (hp.grow hW) (ht.grow hW) (hb.grow hW))

end Go.Proofs.Ytaommdjekddgiaa
