/- What a region of calls and allocations leaves, whatever the order: rows that lie apart from the new variables. -/
import Derived.Test.YtaommdjekddgiaaQr
import Derived.Test.YtaommdjekddgiaaQp
import Derived.RangeFuncBox
namespace Go.Proofs.Ytaommdjekddgiaa
set_option linter.unusedVariables false
set_option linter.unusedSimpArgs false
open Go.RowKit

def CStore (ps : List Paper) (fs : List Flute) (v : World) (A : List (Option Addr)) (t : Value) : Prop := ∃ a ac g gc, t = .agg #[.slice a ps.length ac, .slice g fs.length gc] ∧ PRow v a ps ∧ FRow v g fs ∧ a ∈ A ∧ g ∈ A

def CMade (mp mf : List Int) (v : World) (A : List (Option Addr)) (t : Value) : Prop := ∃ a ac g gc, t = .agg #[.slice a mp.length ac, .slice g mf.length gc] ∧ IRow v a mp ∧ IRow v g mf ∧ a ∈ A ∧ g ∈ A

def CBlank (tab hei slo : Int) (pan top bot : List Int) (opn : Bool) (v : World) (A : List (Option Addr)) (t : Value) : Prop := ∃ pa pc ta tc ba bc, t = .agg #[.int .i64 tab, .slice pa pan.length pc, .int .i64 hei, .slice ta top.length tc, .slice ba bot.length bc, .int .i64 slo, .bool opn] ∧ IRow v pa pan ∧ IRow v ta top ∧ IRow v ba bot ∧ pa ∈ A ∧ ta ∈ A ∧ ba ∈ A

def CPtr (zs : List Value) (ty : TypeId) (v : World) (Bs : List Nat) (t : Value) : Prop := ∃ B, t = .pointer (some ⟨B, 0, none⟩) ∧ B ∈ Bs ∧ Blk v B zs ty

theorem CStore.up {ps : List Paper} {fs : List Flute} {v v' : World} {A A' : List (Option Addr)} {t : Value} (h : CStore ps fs v A t) (g : Gr v v') (hA : ∀ x ∈ A, x ∈ A') : CStore ps fs v' A' t := by
  obtain ⟨a, ac, b, bc, e, r1, r2, m1, m2⟩ := h
  exact ⟨a, ac, b, bc, e, r1.grow g, r2.grow g, hA _ m1, hA _ m2⟩

theorem CMade.up {mp mf : List Int} {v v' : World} {A A' : List (Option Addr)} {t : Value} (h : CMade mp mf v A t) (g : Gr v v') (hA : ∀ x ∈ A, x ∈ A') : CMade mp mf v' A' t := by
  obtain ⟨a, ac, b, bc, e, r1, r2, m1, m2⟩ := h
  exact ⟨a, ac, b, bc, e, r1.grow g, r2.grow g, hA _ m1, hA _ m2⟩

theorem CBlank.up {tab hei slo : Int} {pan top bot : List Int} {opn : Bool} {v v' : World} {A A' : List (Option Addr)} {t : Value} (h : CBlank tab hei slo pan top bot opn v A t) (g : Gr v v') (hA : ∀ x ∈ A, x ∈ A') : CBlank tab hei slo pan top bot opn v' A' t := by
  obtain ⟨pa, pc, ta, tc, ba, bc, e, r1, r2, r3, m1, m2, m3⟩ := h
  exact ⟨pa, pc, ta, tc, ba, bc, e, r1.grow g, r2.grow g, r3.grow g, hA _ m1, hA _ m2, hA _ m3⟩

theorem CPtr.up {zs : List Value} {ty : TypeId} {v v' : World} {Bs Bs' : List Nat} {t : Value} (h : CPtr zs ty v Bs t) (g : Gr v v') (hB : ∀ x ∈ Bs, x ∈ Bs') : CPtr zs ty v' Bs' t := by
  obtain ⟨B, e, m, k⟩ := h
  exact ⟨B, e, hB _ m, k.keep g⟩

theorem CPtr.new (w : World) (zs : List Value) (ty : TypeId) (Bs : List Nat) : CPtr zs ty (w.alloc (.cells zs.toArray ty)) (w.heap.size :: Bs) (.pointer (some ⟨w.heap.size, 0, none⟩)) := ⟨_, rfl, by simp, Blk.new w zs ty⟩

theorem Sep.st {w0 w : World} {A : List (Option Addr)} {Bs : List Nat} (h : Sep w0 w A Bs) {B : Nat} (hB : B ∈ Bs) (i : Nat) (u : Value) : Sep w0 (w.setCell ⟨B, i, none⟩ u) A Bs :=
  ⟨h.gr.setCell (h.bs B hB).1 u, fun C hC => ⟨(h.bs C hC).1, by simpa using (h.bs C hC).2⟩, fun x hx => by
    obtain ⟨b, off, e, hb, hne⟩ := h.ro x hx
    exact ⟨b, off, e, by simpa using hb, hne⟩⟩

theorem CStore.st {w0 v : World} {A : List (Option Addr)} {Bs : List Nat} {ps : List Paper} {fs : List Flute} {t : Value} (h : CStore ps fs v A t) (hs : Sep w0 v A Bs) {B : Nat} (hB : B ∈ Bs) (i : Nat) (u : Value) : CStore ps fs (v.setCell ⟨B, i, none⟩ u) A t := by
  obtain ⟨a, ac, b, bc, e, r1, r2, m1, m2⟩ := h
  exact ⟨a, ac, b, bc, e, r1.setAt (hs.apart m1 hB) i u, r2.setAt (hs.apart m2 hB) i u, m1, m2⟩

theorem CMade.st {w0 v : World} {A : List (Option Addr)} {Bs : List Nat} {mp mf : List Int} {t : Value} (h : CMade mp mf v A t) (hs : Sep w0 v A Bs) {B : Nat} (hB : B ∈ Bs) (i : Nat) (u : Value) : CMade mp mf (v.setCell ⟨B, i, none⟩ u) A t := by
  obtain ⟨a, ac, b, bc, e, r1, r2, m1, m2⟩ := h
  exact ⟨a, ac, b, bc, e, r1.setAt (hs.apart m1 hB) i u, r2.setAt (hs.apart m2 hB) i u, m1, m2⟩

/-- A pointer to a new variable of two cells, whatever they hold. -/
def CTwo (v : World) (Bs : List Nat) (t : Value) : Prop := ∃ B x y, t = .pointer (some ⟨B, 0, none⟩) ∧ B ∈ Bs ∧ Own v B [x, y]

theorem CTwo.up {v v' : World} {Bs Bs' : List Nat} {t : Value} (h : CTwo v Bs t) (g : Gr v v') (hB : ∀ x ∈ Bs, x ∈ Bs') : CTwo v' Bs' t := by
  obtain ⟨B, x, y, e, m, k⟩ := h
  exact ⟨B, x, y, e, hB _ m, k.keep g⟩

theorem CTwo.new (w : World) (x y : Value) (ty : TypeId) (Bs : List Nat) : CTwo (w.alloc (.cells #[x, y] ty)) (w.heap.size :: Bs) (.pointer (some ⟨w.heap.size, 0, none⟩)) := ⟨_, x, y, rfl, by simp, Own.new w [x, y] ty w.heap.size rfl⟩

theorem CTwo.st {v : World} {Bs : List Nat} {t : Value} (h : CTwo v Bs t) (C : Nat) (u0 u1 : Value) : CTwo ((v.setCell ⟨C, 0, none⟩ u0).setCell ⟨C, 1, none⟩ u1) Bs t := by
  obtain ⟨B, x, y, e, m, k⟩ := h
  by_cases hc : B = C
  · subst hc
    exact ⟨B, u0, u1, e, m, (k.set (i := 0) (v := u0) (by simp)).set (i := 1) (v := u1) (by simp)⟩
  · exact ⟨B, x, y, e, m, (k.other hc).other hc⟩

/-- .. and what it holds. -/
def CTold (vs : List Value) (v : World) (t : Value) : Prop := ∃ B, t = .pointer (some ⟨B, 0, none⟩) ∧ Box v B vs

theorem CTold.up {vs : List Value} {v v' : World} {t : Value} (h : CTold vs v t) (g : Gr v v') : CTold vs v' t := by
  obtain ⟨B, e, k⟩ := h
  exact ⟨B, e, k.keep g⟩

theorem two_new {m : Nat} {w : World} {a g : Option Addr} (n1 : NewAt m a) (n2 : NewAt m g) (h1 : ∃ b off, a = some ⟨b, off, none⟩ ∧ b < w.heap.size) (h2 : ∃ b off, g = some ⟨b, off, none⟩ ∧ b < w.heap.size) :
    ∀ x ∈ [a, g], NewAt m x ∧ ∃ b off, x = some ⟨b, off, none⟩ ∧ b < w.heap.size := by
  intro x hx
  rcases List.mem_cons.1 hx with rfl | hx
  · exact ⟨n1, h1⟩
  · rcases List.mem_singleton.1 hx with rfl
    exact ⟨n2, h2⟩

theorem three_new {m : Nat} {w : World} {a g k : Option Addr} (n1 : NewAt m a) (n2 : NewAt m g) (n3 : NewAt m k) (h1 : ∃ b off, a = some ⟨b, off, none⟩ ∧ b < w.heap.size) (h2 : ∃ b off, g = some ⟨b, off, none⟩ ∧ b < w.heap.size) (h3 : ∃ b off, k = some ⟨b, off, none⟩ ∧ b < w.heap.size) :
    ∀ x ∈ [a, g, k], NewAt m x ∧ ∃ b off, x = some ⟨b, off, none⟩ ∧ b < w.heap.size := by
  intro x hx
  rcases List.mem_cons.1 hx with rfl | hx
  · exact ⟨n1, h1⟩
  · exact two_new n2 n3 h2 h3 x hx

theorem mem_app {α : Type} (A' A : List α) : ∀ x ∈ A, x ∈ A' ++ A := fun _ h => List.mem_append_right _ h

theorem mem_con {α : Type} (B : α) (A : List α) : ∀ x ∈ A, x ∈ B :: A := fun _ h => List.mem_cons_of_mem _ h

theorem mem_same {α : Type} (A : List α) : ∀ x ∈ A, x ∈ A := fun _ h => h

end Go.Proofs.Ytaommdjekddgiaa
