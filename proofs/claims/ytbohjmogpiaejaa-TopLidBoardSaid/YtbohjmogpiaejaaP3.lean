/- Contract of pubOwn: a copy of a store. -/
import Derived.Test.YtbohjmogpiaejaaP2
import Derived.Deep.AppendLies
import Derived.Deep.RegionHeld3
namespace Go.Proofs.Ytbohjmogpiaejaa
set_option linter.unusedVariables false
set_option linter.unusedSimpArgs false
open Go.RowKit

theorem infoPaper : (Try.prog.info? 68).map (fun i => (i.zero, i.size, i.bytes)) = some (some (.agg #[.int .i64 0, .int .i64 0, .int .i64 0, .int .i64 0, .int .i64 0, .int .i64 0, .int .i64 0, .int .i64 0]), 8, 64) := by kernel_rfl
theorem infoFlute : (Try.prog.info? 70).map (fun i => (i.zero, i.size, i.bytes)) = some (some (.agg #[.int .i64 0, .int .i64 0, .int .i64 0, .int .i64 0]), 4, 32) := by kernel_rfl

/-- A store is handed back. -/
def StorePost (ps : List Paper) (fs : List Flute) (w : World) (e : Ending) (w' : World) : Prop := ∃ a ac g gc, e = .returned (.agg #[.slice a ps.length ac, .slice g fs.length gc]) ∧ Gr w w' ∧ PRow w' a ps ∧ FRow w' g fs ∧ NewAt w.heap.size a ∧ NewAt w.heap.size g

theorem ne_of_at {x y g H : Nat} (h : some x = some g ∨ g = H) (hx : x ≠ y) (hH : H ≠ y) : g ≠ y := by
  rcases h with h | h
  · injection h with h
    omega
  · omega

theorem oneP (x : Paper) : ∀ u ∈ encP x, u.oneCell' = true := by
  intro u hu
  simp only [encP, List.mem_cons, List.not_mem_nil, or_false] at hu
  rcases hu with rfl | rfl | rfl | rfl | rfl | rfl | rfl | rfl <;> rfl
theorem oneF (x : Flute) : ∀ u ∈ encF x, u.oneCell' = true := by
  intro u hu
  simp only [encF, List.mem_cons, List.not_mem_nil, or_false] at hu
  rcases hu with rfl | rfl | rfl | rfl <;> rfl

theorem Own.grownRow {w w' : World} {b : Nat} {vs : List Value} {row : Option Nat} (h : Own w b vs) (g : w.grownBy w' row) (hne : ∀ r, row = some r → b ≠ r) : Own w' b vs := by
  have hb := g.block b h.1.1 (fun e => hne b e.symm rfl)
  exact ⟨⟨Nat.lt_of_lt_of_le h.1.1 g.size, fun i v hv => (World.cell?_of_block (w := w) (a := ⟨b, i, none⟩) hb).trans (h.1.2 i v hv)⟩, fun i => (World.frozen?_of_block (w := w) (a := ⟨b, i, none⟩) hb).trans (h.2 i)⟩

set_option maxRecDepth 100000 in
set_option maxHeartbeats 4000000 in
theorem pubOwn_any (ps : List Paper) (fs : List Flute) (m0 : 0 < ps.length) (m1 : ps.length ≤ 1000) (n0 : 0 < fs.length) (n1 : fs.length ≤ 1000) (pa fa : Option Addr) (pc fc : Nat) (w : World) (hp : PRow w pa ps) (hf : FRow w fa fs) :
    Calls Try.prog 10 #[.agg #[.slice pa ps.length pc, .slice fa fs.length fc]] w (StorePost ps fs w) := by
  obtain ⟨b1, o1, rfl, hb1⟩ := hp.addr m0
  obtain ⟨b2, o2, rfl, hb2⟩ := hf.addr n0
  obtain ⟨ip, hip, hpz0, hpz1, hpz2⟩ := info_parts infoPaper
  obtain ⟨jf, hjf, hfz0, hfz1, hfz2⟩ := info_parts infoFlute
  have gg := (Gr.al w (.cells #[.slice (some ⟨b1, o1, none⟩) ps.length pc, .slice (some ⟨b2, o2, none⟩) fs.length fc] 33)).tr (Gr.al _ (.cells #[.slice none 0 0, .slice none 0 0] 33))
  have hb := (Box.new w [.slice (some ⟨b1, o1, none⟩) ps.length pc, .slice (some ⟨b2, o2, none⟩) fs.length fc] 33 w.heap.size rfl).keep (Gr.al _ (.cells #[.slice none 0 0, .slice none 0 0] 33))
  have ob := Own.new (w.alloc (.cells #[.slice (some ⟨b1, o1, none⟩) ps.length pc, .slice (some ⟨b2, o2, none⟩) fs.length fc] 33)) [.slice none 0 0, .slice none 0 0] 33 (w.heap.size + 1) (by simp)
  go_enter Try.func10, Try.ntmps10
  go_wp2
  refine wp_abs (fun W => Gr w W ∧ Box W w.heap.size [.slice (some ⟨b1, o1, none⟩) ps.length pc, .slice (some ⟨b2, o2, none⟩) fs.length fc] ∧ Own W (w.heap.size + 1) [.slice none 0 0, .slice none 0 0]) ⟨gg, hb, ob⟩ ?_
  clear gg hb ob
  rintro W ⟨gg, hb, ob⟩
  have hW := ob.1.1
  have gX := Gr.dr W
  obtain ⟨q0, q1⟩ := (hb.keep gX).c2
  have gA := (Gr.al W (.cells #[] 68)).tr (Gr.dr _)
  have gB := ((Gr.al W (.cells #[] 68)).tr (Gr.al _ (.cells #[] 70))).tr (Gr.dr _)
  have gC := ((Gr.al W (.cells #[] 70)).tr (Gr.al _ (.cells #[] 68))).tr (Gr.dr _)
  have oA := owns_keep (owns_empty W 68 8) (Gr.dr _)
  have oB := owns_keep (owns_empty W 68 8) ((Gr.al _ (.cells #[] 70)).tr (Gr.dr _))
  have oC : (((W.alloc (.cells #[] 70)).alloc (.cells #[] 68)).drew).ownsRow W.heap.size 68 8 (.slice (some ⟨W.heap.size + 1, 0, none⟩) 0 0) 0 [] := by
    have h := owns_keep (owns_empty (W.alloc (.cells #[] 70)) 68 8) (Gr.dr _)
    rw [show (W.alloc (.cells #[] 70)).heap.size = W.heap.size + 1 by simp] at h
    exact owns_base h (by omega)
  have pB := owns_keep (owns_base (base' := W.heap.size) (owns_empty (W.alloc (.cells #[] 68)) 70 4) (by simp)) (Gr.dr _)
  rw [show (W.alloc (.cells #[] 68)).heap.size = W.heap.size + 1 by simp] at pB
  have pC := owns_keep (owns_empty W 70 4) ((Gr.al _ (.cells #[] 68)).tr (Gr.dr _))
  have hfl1 := flat_len (enc := encP) (sz := 8) (fun _ => rfl) ps
  have hfl2 := flat_len (enc := encF) (sz := 4) (fun _ => rfl) fs
  have Hfl1 := Lib.hid hfl1
  have Hfl2 := Lib.hid hfl2
  have k1 : 0 + ps.length ≤ maxLen := by unfold maxLen; omega
  have k2 : (0 + ps.length) * 64 ≤ 140737488355328 := by omega
  have k3 : 0 + fs.length ≤ maxLen := by unfold maxLen; omega
  have k4 : (0 + fs.length) * 32 ≤ 140737488355328 := by omega
  clear hfl1 hfl2
  go_region_held3 (fun w' => w'.cell? ⟨w.heap.size, 0, none⟩ = some (.slice (some ⟨b1, o1, none⟩) ps.length pc) ∧ w'.cell? ⟨w.heap.size, 1, none⟩ = some (.slice (some ⟨b2, o2, none⟩) fs.length fc)) (first | exact ⟨q0, q1⟩ | exact (hb.keep gA).c2 | exact (hb.keep gB).c2 | exact (hb.keep gC).c2 | exact (hb.keep ((Gr.al W (.cells #[] 70)).tr (Gr.dr _))).c2 | go_keep) (first
    | ((refine step_append_lies _ (by rfl) _ _ 30 (by rfl) W.heap.size 68 ip _ 8 64 Try.underlying30 hip hpz0 hpz1 hpz2 rfl (by omega) _ 0 [] (by rfl) ?_ ⟨b1, o1, none⟩ ps.length pc (ps.flatMap encP) (by rfl) Hfl1.out (row_news (enc := encP) (sz := 8) (fun _ => rfl) ?_) (one_flat oneP ps) m0 k1 k2 ?_ _ rfl ?_);
        (first | exact oA | exact oB | exact oC); (first | exact hp.grow (gg.tr gA) | exact hp.grow (gg.tr gB) | exact hp.grow (gg.tr gC)); (first | exact gA.size | exact gB.size | exact gC.size);
        intro g1 cap1 w1 hown1 hgr1 hat1 hlt1; have gY : Gr W w1 := (by first | exact gA.grown' oA (Nat.le_refl _) hgr1 | exact gB.grown' oB (Nat.le_refl _) hgr1 | exact gC.grown' oC (Nat.le_refl _) hgr1); obtain ⟨q0, q1⟩ := (hb.keep gY).c2)
    | ((refine step_append_lies _ (by rfl) _ _ 31 (by rfl) W.heap.size 70 jf _ 4 32 Try.underlying31 hjf hfz0 hfz1 hfz2 rfl (by omega) _ 0 [] (by rfl) ?_ ⟨b2, o2, none⟩ fs.length fc (fs.flatMap encF) (by rfl) Hfl2.out (row_news (enc := encF) (sz := 4) (fun _ => rfl) ?_) (one_flat oneF fs) n0 k3 k4 ?_ _ rfl ?_);
        (first | exact owns_base (owns_empty w1 _ _) gY.size | exact pB.kept hgr1 (.inr (fun e => absurd (Option.some.inj (show some (W.heap.size + 1) = some W.heap.size from e)) (by omega))) | exact pC.kept hgr1 (.inr (fun e => absurd (Option.some.inj (show some W.heap.size = some (W.heap.size + 1) from e)) (by omega))));
        (first | exact hf.grow (gg.tr gY) | exact hf.grow (gg.tr (gY.tr (Gr.al _ _)))); (first | exact gY.size | exact (gY.tr (Gr.al _ _)).size);
        intro g2 cap2 w2 hown2 hgr2 hat2 hlt2; have gZ : Gr W w2 := (by first | exact gY.grown' (pB.kept hgr1 (.inr (fun e => absurd (Option.some.inj (show some (W.heap.size + 1) = some W.heap.size from e)) (by omega)))) (Nat.le_refl _) hgr2 | exact gY.grown' (pC.kept hgr1 (.inr (fun e => absurd (Option.some.inj (show some W.heap.size = some (W.heap.size + 1) from e)) (by omega)))) (Nat.le_refl _) hgr2 | exact (gY.tr (Gr.al _ _)).grown' (owns_base (owns_empty w1 70 4) gY.size) (Nat.le_refl _) hgr2);
        (obtain ⟨q0, q1⟩ := (hb.keep gZ).c2);
        have hown1' : w2.ownsRow W.heap.size 68 8 (.slice (some ⟨g1, 0, none⟩) (0 + ps.length) cap1) (0 + ps.length) ([] ++ ps.flatMap encP) := (by first
          | exact (hown1.alloc _).kept hgr2 (.inr (fun e => Nat.ne_of_lt hlt1 (Option.some.inj (show some g1 = some w1.heap.size from e))))
          | exact hown1.kept hgr2 (.inr (fun e => ne_of_at (x := W.heap.size) (y := W.heap.size + 1) hat1 (by omega) (by simp <;> omega) (Option.some.inj (show some g1 = some (W.heap.size + 1) from e))))
          | exact hown1.kept hgr2 (.inr (fun e => ne_of_at (x := W.heap.size + 1) (y := W.heap.size) hat1 (by omega) (by simp <;> omega) (Option.some.inj (show some g1 = some W.heap.size from e)))));
        have ob2 := ob.keep gZ; (obtain ⟨u0, u1⟩ := ob2.1.c2); have z0 := ob2.2 0; have z1 := ob2.2 1))
  all_goals
    obtain ⟨a1, c1, hv1, r1, n1'⟩ := owns_row_new (enc := encP) (l := ps) (fun _ => rfl) (by omega) (by simpa using hown1')
    obtain ⟨a2, c2, hv2, r2, n2'⟩ := owns_row_new (enc := encF) (l := fs) (fun _ => rfl) (by omega) (by simpa using hown2)
    rw [hv1, hv2]
    have R1 := Lib.hid r1
    have R2 := Lib.hid r2
    have N1 := Lib.hid n1'
    have N2 := Lib.hid n2'
    clear hv1 hv2 r1 r2 n1' n2' hown1 hown1' hown2 oA oB oC pB pC hat1 hat2 hgr1 hgr2
    go_wp2
    refine bodyPost_ret (v := .agg #[.slice a1 ps.length c1, .slice a2 fs.length c2]) (by simp [results, Try.results10, go_sem, u0, u1]) rfl ⟨a1, c1, a2, c2, rfl, ((gg.tr gZ).setCell (by simp) _).setCell (by simp) _, ?_, ?_, N1.out.le (by omega), N2.out.le (by omega)⟩
    · exact (R1.out.other N1.out hW).other N1.out hW
    · exact (R2.out.other N2.out hW).other N2.out hW

end Go.Proofs.Ytbohjmogpiaejaa
