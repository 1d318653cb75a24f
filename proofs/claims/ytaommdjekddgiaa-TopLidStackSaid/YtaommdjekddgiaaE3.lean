/- The contract of armScore: the document's example of chapter 2. (Made by gen_arm3.py.) -/
import Derived.Test.YtaommdjekddgiaaS14
import Derived.Test.YtaommdjekddgiaaS9
import Derived.Test.YtaommdjekddgiaaE1
namespace Go.Proofs.Ytaommdjekddgiaa
set_option linter.unusedVariables false
set_option linter.unusedSimpArgs false
open Go.RowKit

theorem goodBAS : GoodB 35 208 6 [304, 204, 304, 204] [101, 101] [101, 101] false := ⟨rfl, rfl, rfl, by decide, by decide, by decide, by decide, by decide, by decide, by simp⟩

theorem goodWAS : GoodWish 300 301 200 201 200 202 (-3) 0 0 200 := ⟨by decide, by decide, by decide, by decide, by decide⟩

theorem badAS : badL 3000 4000 (holdL 0 208 6 [304, 204, 304, 204] [101, 101] [101, 101] false 300 301 200 201 200 202 (-3) 0 0 200 false) 10 = [] := by decide +kernel

theorem sizeAS : acrossL 35 [304, 204, 304, 204] = 1051 ∧ alongL 208 [101, 101] [101, 101] = 410 := by decide +kernel

def ClosePostAS (w : World) (e : Ending) (w' : World) : Prop := ∃ a c, e = .returned (.tuple #[.slice a 0 c, .int .i64 0]) ∧ Gr w w'

theorem closeAS (pa ta ba : Option Addr) (w : World) (hp : IRow w pa [304, 204, 304, 204]) (ht : IRow w ta [101, 101]) (hb : IRow w ba [101, 101]) :
    Calls Try.prog 21 #[.agg #[.int .i64 35, .slice pa 4 4, .int .i64 208, .slice ta 2 2, .slice ba 2 2, .int .i64 6, .bool false], .agg #[.int .i64 300, .int .i64 301, .int .i64 200, .int .i64 201, .int .i64 200, .int .i64 202, .int .i64 (-3), .int .i64 0, .int .i64 0, .int .i64 200, .bool false], .agg #[.int .i64 3000, .int .i64 4000]] w (ClosePostAS w) := by
  have h := close_ok 35 208 6 [304, 204, 304, 204] [101, 101] [101, 101] pa ta ba 4 2 2 false 300 301 200 201 200 202 (-3) 0 0 200 false 3000 4000 goodBAS goodWAS (by decide) w hp ht hb
  rw [badAS] at h
  exact h.mono fun e w' ⟨a, c, he, hg, _⟩ => ⟨a, c, he, hg⟩

theorem sizeAS1 (pa ta ba : Option Addr) (w : World) (hp : IRow w pa [304, 204, 304, 204]) (ht : IRow w ta [101, 101]) (hb : IRow w ba [101, 101]) :
    Calls Try.prog 43 #[.agg #[.int .i64 35, .slice pa 4 4, .int .i64 208, .slice ta 2 2, .slice ba 2 2, .int .i64 6, .bool false]] w fun e w' => ∃ n, e = .returned (.tuple #[.int .i64 1051, .int .i64 410, .int .i64 n, .int .i64 0]) ∧ Gr w w' := by
  have h := size_ok 35 208 6 [304, 204, 304, 204] [101, 101] [101, 101] pa ta ba 4 2 2 false goodBAS w hp ht hb
  rw [sizeAS.1, sizeAS.2] at h
  exact h.mono fun e w' hh => ⟨_, hh⟩

set_option maxRecDepth 100000 in
set_option maxHeartbeats 4000000 in
theorem armScore_any (w : World) : Calls Try.prog 19 #[] w fun e w' => e = .returned (.bool true) ∧ Gr w w' := by
  go_enter Try.func19, Try.ntmps19
  go_upto_region 2 with fail
  refine wp_abs (fun W => Gr w W ∧ IRow W (some ⟨w.heap.size, 0, none⟩) [304, 204, 304, 204] ∧ IRow W (some ⟨w.heap.size + 1, 0, none⟩) [101, 101] ∧ IRow W (some ⟨w.heap.size + 1 + 1, 0, none⟩) [101, 101] ∧ Box W (w.heap.size + 1 + 1 + 1) [.int .i64 35, .slice (some ⟨w.heap.size, 0, none⟩) 4 4, .int .i64 208, .slice (some ⟨w.heap.size + 1, 0, none⟩) 2 2, .slice (some ⟨w.heap.size + 1 + 1, 0, none⟩) 2 2, .int .i64 6, .bool false])
    ⟨(((Gr.al _ _).tr (Gr.al _ _)).tr (Gr.al _ _)).tr (Gr.al _ _),
     (IRow.new' w 3 [304, 204, 304, 204] (by simp) w.heap.size rfl _ (by rfl)).grow (((Gr.al _ _).tr (Gr.al _ _)).tr (Gr.al _ _)),
     (IRow.new' _ 3 [101, 101] (by simp) (w.heap.size + 1) (by simp) _ (by rfl)).grow ((Gr.al _ _).tr (Gr.al _ _)),
     (IRow.new' _ 3 [101, 101] (by simp) (w.heap.size + 1 + 1) (by simp) _ (by rfl)).grow (Gr.al _ _),
     Box.new _ [.int .i64 35, .slice (some ⟨w.heap.size, 0, none⟩) 4 4, .int .i64 208, .slice (some ⟨w.heap.size + 1, 0, none⟩) 2 2, .slice (some ⟨w.heap.size + 1 + 1, 0, none⟩) 2 2, .int .i64 6, .bool false] 58 (w.heap.size + 1 + 1 + 1) (by simp)⟩ ?_
  rintro W ⟨gW, hp, ht, hb, b1⟩
  go_wp2_with fail
  refine (armSpan_any _ _ _).mono ?_
  rintro e w1 ⟨rfl, h1⟩
  go_wp2_with fail
  refine (armSpan_any _ _ _).mono ?_
  rintro e w2 ⟨rfl, h2⟩
  go_wp2_with fail
  refine (armSpan_any _ _ _).mono ?_
  rintro e w3 ⟨rfl, h3⟩
  go_wp2_with fail
  refine (armSpan_any _ _ _).mono ?_
  rintro e w4 ⟨rfl, h4⟩
  go_wp2_with fail
  refine (armSpan_any _ _ _).mono ?_
  rintro e w5 ⟨rfl, h5⟩
  go_upto_region 3 with fail
  have g5 := h1.tr (h2.tr (h3.tr (h4.tr h5)))
  refine wp_abs (fun V => Gr W V ∧ Box V w5.heap.size [.int .i64 300, .int .i64 301, .int .i64 200, .int .i64 201, .int .i64 200, .int .i64 202, .int .i64 (-3), .int .i64 0, .int .i64 0, .int .i64 200, .bool false]) ⟨g5.tr (Gr.al _ _), Box.new _ [.int .i64 300, .int .i64 301, .int .i64 200, .int .i64 201, .int .i64 200, .int .i64 202, .int .i64 (-3), .int .i64 0, .int .i64 0, .int .i64 200, .bool false] 56 w5.heap.size rfl⟩ ?_
  clear h1 h2 h3 h4 h5 g5
  rintro V ⟨gV, b2⟩
  have b1 := b1.keep gV
  refine (show (∀ s : Nat → Value, Code.wp Try.prog _ _ ⟨#[s 0, .pointer (some ⟨(w.heap.size + 1 + 1 + 1), 0, none⟩), .pointer (some ⟨w5.heap.size, 0, none⟩), undef, undef, undef, undef, undef, undef, s 9, s 10, s 11, s 12, s 13, s 14, s 15, s 16, s 17, s 18, undef, undef, undef, undef, undef, undef, undef, undef, undef, undef, undef, undef, undef, undef, undef, undef, undef, undef, undef, undef, undef, undef, undef, undef, undef, undef, undef, undef, undef, undef, undef, undef, undef], []⟩ _) → _ from fun h => h ((fun l : List Value => fun i => l.getD i undef) [_, undef, undef, undef, undef, undef, undef, undef, undef, _, _, _, _, _, _, _, _, _, _])) ?_
  intro s
  dsimp only
  refine wp_region_facts 8 [(3, 0), (3, 1), (3, 2), (4, 3), (5, 4), (6, 4), (7, 5)] (fun x => ⟨#[s 0, .pointer (some ⟨(w.heap.size + 1 + 1 + 1), 0, none⟩), .pointer (some ⟨w5.heap.size, 0, none⟩), x 7, undef, undef, undef, undef, undef, s 9, s 10, s 11, s 12, s 13, s 14, s 15, s 16, s 17, s 18, x 4, x 0, x 1, x 2, x 3, x 5, x 6, undef, undef, undef, undef, undef, undef, undef, undef, undef, undef, undef, undef, undef, undef, undef, undef, undef, undef, undef, undef, undef, undef, undef, undef, undef, undef], []⟩) (fun _ => undef) [fun _ x => x = .agg #[.int .i64 35, .slice (some ⟨w.heap.size, 0, none⟩) 4 4, .int .i64 208, .slice (some ⟨w.heap.size + 1, 0, none⟩) 2 2, .slice (some ⟨w.heap.size + 1 + 1, 0, none⟩) 2 2, .int .i64 6, .bool false], fun _ x => x = .agg #[.int .i64 300, .int .i64 301, .int .i64 200, .int .i64 201, .int .i64 200, .int .i64 202, .int .i64 (-3), .int .i64 0, .int .i64 0, .int .i64 200, .bool false], fun _ x => x = .agg #[.int .i64 3000, .int .i64 4000], fun v x => ∃ a c, x = .tuple #[.slice a 0 c, .int .i64 0], fun v x => ∃ a c, x = .tuple #[.slice a 0 c, .int .i64 0], fun v x => ∃ a c, x = .slice a 0 c, fun _ x => x = .int .i64 0, fun v x => ∃ a c, x = .slice a 0 c] (by rfl) (by kernel_rfl) (by kernel_rfl) (by kernel_rfl) (stays_cons (Stays.eq _) (stays_cons (Stays.eq _) (stays_cons (Stays.eq _) (stays_cons ((show Stays (fun v x => ∃ a c, x = .tuple #[.slice a 0 c, .int .i64 0]) from fun v v' x g h => h)) (stays_cons ((show Stays (fun v x => ∃ a c, x = .tuple #[.slice a 0 c, .int .i64 0]) from fun v v' x g h => h)) (stays_cons ((show Stays (fun v x => ∃ a c, x = .slice a 0 c) from fun v v' x g h => h)) (stays_cons (Stays.eq _) (stays_cons ((show Stays (fun v x => ∃ a c, x = .slice a 0 c) from fun v v' x g h => h)) stays_nil)))))))) ?step3 ?fin3
  case step3 =>
    rintro i hi x v gv hd K hK
    have hi8 : i = 0 ∨ i = 1 ∨ i = 2 ∨ i = 3 ∨ i = 4 ∨ i = 5 ∨ i = 6 ∨ i = 7 := by omega
    rcases hi8 with rfl | rfl | rfl | rfl | rfl | rfl | rfl | rfl
    · show wpOp Try.prog _ _ 0 K (⟨#[s 0, .pointer (some ⟨(w.heap.size + 1 + 1 + 1), 0, none⟩), .pointer (some ⟨w5.heap.size, 0, none⟩), x 7, undef, undef, undef, undef, undef, s 9, s 10, s 11, s 12, s 13, s 14, s 15, s 16, s 17, s 18, x 4, x 0, x 1, x 2, x 3, x 5, x 6, undef, undef, undef, undef, undef, undef, undef, undef, undef, undef, undef, undef, undef, undef, undef, undef, undef, undef, undef, undef, undef, undef, undef, undef, undef, undef], []⟩ : Act) v
      refine wpOp_step rfl (fun K' hK' => ?_)
      rw [if_pos (by rfl)]
      refine wp_load_mid 58 _ rfl (w.heap.size + 1 + 1 + 1) 0 (by rfl) [.int .i64 35, .slice (some ⟨w.heap.size, 0, none⟩) 4 4, .int .i64 208, .slice (some ⟨w.heap.size + 1, 0, none⟩) 2 2, .slice (some ⟨w.heap.size + 1 + 1, 0, none⟩) 2 2, .int .i64 6, .bool false] _ (fun j u hu => by rw [Nat.zero_add]; exact (b1.keep gv).2 j u hu) Try.underlying58 rfl (by kernel_rfl) ?_
      exact hK' _ _ (hK _ _ (Below.refl _ _) (at_of rfl (rfl)))
    · show wpOp Try.prog _ _ 1 K (⟨#[s 0, .pointer (some ⟨(w.heap.size + 1 + 1 + 1), 0, none⟩), .pointer (some ⟨w5.heap.size, 0, none⟩), x 7, undef, undef, undef, undef, undef, s 9, s 10, s 11, s 12, s 13, s 14, s 15, s 16, s 17, s 18, x 4, x 0, x 1, x 2, x 3, x 5, x 6, undef, undef, undef, undef, undef, undef, undef, undef, undef, undef, undef, undef, undef, undef, undef, undef, undef, undef, undef, undef, undef, undef, undef, undef, undef, undef], []⟩ : Act) v
      refine wpOp_step rfl (fun K' hK' => ?_)
      rw [if_pos (by rfl)]
      refine wp_load_mid 56 _ rfl w5.heap.size 0 (by rfl) [.int .i64 300, .int .i64 301, .int .i64 200, .int .i64 201, .int .i64 200, .int .i64 202, .int .i64 (-3), .int .i64 0, .int .i64 0, .int .i64 200, .bool false] _ (fun j u hu => by rw [Nat.zero_add]; exact (b2.keep gv).2 j u hu) Try.underlying56 rfl (by kernel_rfl) ?_
      exact hK' _ _ (hK _ _ (Below.refl _ _) (at_of rfl (rfl)))
    · show wpOp Try.prog _ _ 2 K (⟨#[s 0, .pointer (some ⟨(w.heap.size + 1 + 1 + 1), 0, none⟩), .pointer (some ⟨w5.heap.size, 0, none⟩), x 7, undef, undef, undef, undef, undef, s 9, s 10, s 11, s 12, s 13, s 14, s 15, s 16, s 17, s 18, x 4, x 0, x 1, x 2, x 3, x 5, x 6, undef, undef, undef, undef, undef, undef, undef, undef, undef, undef, undef, undef, undef, undef, undef, undef, undef, undef, undef, undef, undef, undef, undef, undef, undef, undef], []⟩ : Act) v
      refine wpOp_step rfl (fun K' hK' => ?_)
      go_simp
      refine (armSpan_any 3000 4000 v).mono ?_
      rintro e v' ⟨rfl, hg⟩
      exact hK' _ _ (hK _ _ hg (at_of rfl (rfl)))
    · obtain ⟨x, rfl⟩ := upd_of (show x 0 = .agg #[.int .i64 35, .slice (some ⟨w.heap.size, 0, none⟩) 4 4, .int .i64 208, .slice (some ⟨w.heap.size + 1, 0, none⟩) 2 2, .slice (some ⟨w.heap.size + 1 + 1, 0, none⟩) 2 2, .int .i64 6, .bool false] from hd 0 _ (by simp) rfl)
      obtain ⟨x, rfl⟩ := upd_of (show x 1 = .agg #[.int .i64 300, .int .i64 301, .int .i64 200, .int .i64 201, .int .i64 200, .int .i64 202, .int .i64 (-3), .int .i64 0, .int .i64 0, .int .i64 200, .bool false] from hd 1 _ (by simp) rfl)
      obtain ⟨x, rfl⟩ := upd_of (show x 2 = .agg #[.int .i64 3000, .int .i64 4000] from hd 2 _ (by simp) rfl)
      show wpOp Try.prog _ _ 3 K (⟨#[s 0, .pointer (some ⟨(w.heap.size + 1 + 1 + 1), 0, none⟩), .pointer (some ⟨w5.heap.size, 0, none⟩), x 7, undef, undef, undef, undef, undef, s 9, s 10, s 11, s 12, s 13, s 14, s 15, s 16, s 17, s 18, x 4, .agg #[.int .i64 35, .slice (some ⟨w.heap.size, 0, none⟩) 4 4, .int .i64 208, .slice (some ⟨w.heap.size + 1, 0, none⟩) 2 2, .slice (some ⟨w.heap.size + 1 + 1, 0, none⟩) 2 2, .int .i64 6, .bool false], .agg #[.int .i64 300, .int .i64 301, .int .i64 200, .int .i64 201, .int .i64 200, .int .i64 202, .int .i64 (-3), .int .i64 0, .int .i64 0, .int .i64 200, .bool false], .agg #[.int .i64 3000, .int .i64 4000], x 3, x 5, x 6, undef, undef, undef, undef, undef, undef, undef, undef, undef, undef, undef, undef, undef, undef, undef, undef, undef, undef, undef, undef, undef, undef, undef, undef, undef, undef], []⟩ : Act) v
      refine wpOp_step rfl (fun K' hK' => ?_)
      go_simp
      refine (closeAS _ _ _ v (hp.grow (gV.tr gv)) (ht.grow (gV.tr gv)) (hb.grow (gV.tr gv))).mono ?_
      rintro e v' ⟨a, c, rfl, hg⟩
      exact hK' _ _ (hK _ _ hg (at_of rfl (⟨_, _, rfl⟩)))
    · obtain ⟨a3, c3, e3⟩ := hd 3 _ (by simp) rfl
      obtain ⟨x, rfl⟩ := upd_of (show x 3 = .tuple #[.slice a3 0 c3, .int .i64 0] from e3)
      show wpOp Try.prog _ _ 4 K (⟨#[s 0, .pointer (some ⟨(w.heap.size + 1 + 1 + 1), 0, none⟩), .pointer (some ⟨w5.heap.size, 0, none⟩), x 7, undef, undef, undef, undef, undef, s 9, s 10, s 11, s 12, s 13, s 14, s 15, s 16, s 17, s 18, x 4, x 0, x 1, x 2, .tuple #[.slice a3 0 c3, .int .i64 0], x 5, x 6, undef, undef, undef, undef, undef, undef, undef, undef, undef, undef, undef, undef, undef, undef, undef, undef, undef, undef, undef, undef, undef, undef, undef, undef, undef, undef], []⟩ : Act) v
      refine wpOp_step rfl (fun K' hK' => ?_)
      go_simp
      exact hK' _ _ (hK _ _ (Below.refl _ _) (at_of rfl (⟨_, _, rfl⟩)))
    · obtain ⟨a4, c4, e4⟩ := hd 4 _ (by simp) rfl
      obtain ⟨x, rfl⟩ := upd_of (show x 4 = .tuple #[.slice a4 0 c4, .int .i64 0] from e4)
      show wpOp Try.prog _ _ 5 K (⟨#[s 0, .pointer (some ⟨(w.heap.size + 1 + 1 + 1), 0, none⟩), .pointer (some ⟨w5.heap.size, 0, none⟩), x 7, undef, undef, undef, undef, undef, s 9, s 10, s 11, s 12, s 13, s 14, s 15, s 16, s 17, s 18, .tuple #[.slice a4 0 c4, .int .i64 0], x 0, x 1, x 2, x 3, x 5, x 6, undef, undef, undef, undef, undef, undef, undef, undef, undef, undef, undef, undef, undef, undef, undef, undef, undef, undef, undef, undef, undef, undef, undef, undef, undef, undef], []⟩ : Act) v
      refine wpOp_step rfl (fun K' hK' => ?_)
      go_simp
      exact hK' _ _ (hK _ _ (Below.refl _ _) (at_of rfl (⟨_, _, rfl⟩)))
    · obtain ⟨a4, c4, e4⟩ := hd 4 _ (by simp) rfl
      obtain ⟨x, rfl⟩ := upd_of (show x 4 = .tuple #[.slice a4 0 c4, .int .i64 0] from e4)
      show wpOp Try.prog _ _ 6 K (⟨#[s 0, .pointer (some ⟨(w.heap.size + 1 + 1 + 1), 0, none⟩), .pointer (some ⟨w5.heap.size, 0, none⟩), x 7, undef, undef, undef, undef, undef, s 9, s 10, s 11, s 12, s 13, s 14, s 15, s 16, s 17, s 18, .tuple #[.slice a4 0 c4, .int .i64 0], x 0, x 1, x 2, x 3, x 5, x 6, undef, undef, undef, undef, undef, undef, undef, undef, undef, undef, undef, undef, undef, undef, undef, undef, undef, undef, undef, undef, undef, undef, undef, undef, undef, undef], []⟩ : Act) v
      refine wpOp_step rfl (fun K' hK' => ?_)
      go_simp
      exact hK' _ _ (hK _ _ (Below.refl _ _) (at_of rfl (rfl)))
    · obtain ⟨a5, c5, e5⟩ := hd 5 _ (by simp) rfl
      obtain ⟨x, rfl⟩ := upd_of (show x 5 = .slice a5 0 c5 from e5)
      show wpOp Try.prog _ _ 7 K (⟨#[s 0, .pointer (some ⟨(w.heap.size + 1 + 1 + 1), 0, none⟩), .pointer (some ⟨w5.heap.size, 0, none⟩), x 7, undef, undef, undef, undef, undef, s 9, s 10, s 11, s 12, s 13, s 14, s 15, s 16, s 17, s 18, x 4, x 0, x 1, x 2, x 3, .slice a5 0 c5, x 6, undef, undef, undef, undef, undef, undef, undef, undef, undef, undef, undef, undef, undef, undef, undef, undef, undef, undef, undef, undef, undef, undef, undef, undef, undef, undef], []⟩ : Act) v
      refine wpOp_step rfl (fun K' hK' => ?_)
      go_simp
      exact hK' _ _ (hK _ _ (Below.refl _ _) (at_of rfl (⟨_, _, rfl⟩)))
  case fin3 =>
    rintro x v gv hd
    obtain ⟨x, rfl⟩ := upd_of (show x 6 = .int .i64 0 from hd 6 _ (by omega) rfl)
    obtain ⟨a7, c7, e7⟩ := hd 7 _ (by omega) rfl
    obtain ⟨x, rfl⟩ := upd_of (show x 7 = .slice a7 0 c7 from e7)
    clear hd
    show wpList Try.prog _ _ (List.drop 8 _) (⟨#[s 0, .pointer (some ⟨(w.heap.size + 1 + 1 + 1), 0, none⟩), .pointer (some ⟨w5.heap.size, 0, none⟩), .slice a7 0 c7, undef, undef, undef, undef, undef, s 9, s 10, s 11, s 12, s 13, s 14, s 15, s 16, s 17, s 18, x 4, x 0, x 1, x 2, x 3, x 5, .int .i64 0, undef, undef, undef, undef, undef, undef, undef, undef, undef, undef, undef, undef, undef, undef, undef, undef, undef, undef, undef, undef, undef, undef, undef, undef, undef, undef], []⟩ : Act) v
    simp only [List.drop_succ_cons, List.drop_zero]
    have gX := gV.tr gv
    obtain ⟨e0, e1, e2, e3, e4, e5, e6⟩ := (b1.keep gv).c7
    go_wp2_with fail
    refine (sizeAS1 _ _ _ v (hp.grow gX) (ht.grow gX) (hb.grow gX)).mono ?_
    rintro e w6 ⟨n, rfl, h6⟩
    clear e0 e1 e2 e3 e4 e5 e6
    go_wp2
    go_ret
    exact ⟨rfl, gW.tr (gX.tr h6)⟩

end Go.Proofs.Ytaommdjekddgiaa
