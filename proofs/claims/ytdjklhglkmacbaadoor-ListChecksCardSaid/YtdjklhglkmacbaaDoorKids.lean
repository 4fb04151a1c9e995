/-
  A row of things that grows by append.
-/
import Derived.Test.YtdjklhglkmacbaaDoorThM
namespace Go.Proofs.YtdjklhglkmacbaaDoor
open Go.RowKit
set_option linter.unusedVariables false
set_option linter.unusedSimpArgs false

def bl (A : Option Addr) : List Nat := (blockOf A).toList
theorem mem_bl {A : Option Addr} {g : Nat} : g ∈ bl A ↔ blockOf A = some g := by
  unfold bl; cases blockOf A <;> simp [eq_comm]
theorem Off.push {xs ys : List Nat} {P : World → Prop} {w w' : World} {A : Option Addr} (h : Off xs P w) (hg : w.grownBy w' (blockOf A)) (hA : ∀ g, blockOf A = some g → g ∈ xs) (hx : ∀ g, g ∈ ys → g ∈ xs ∨ w.heap.size ≤ g) : Off ys P w' :=
  h.keep hg.size (fun g h1 h2 => hg.block g h2 (fun e => h1 (hA g e.symm))) hx
/-- A row of one's own of things; none of it lies in the blocks xs. -/
structure Kids (xs : List Nat) (A : Option Addr) (c n : Nat) (ks : List Lt) (w : World) : Prop where
  len : ks.length = n
  own : OwnV 31 3 w A c n (ks.flatMap lcell)
  off : ∀ g, blockOf A = some g → g ∉ xs
  each : ∀ x ∈ ks, Off (bl A ++ xs) (ThP x) w
section
variable {xs : List Nat} {A : Option Addr} {c n : Nat} {ks : List Lt} {w w' : World}
theorem Kids.nil (xs : List Nat) (w : World) : Kids xs none 0 0 [] w := ⟨rfl, OwnV.nil _ _ _, fun g h => by simp [blockOf] at h, fun x hx => by cases hx⟩
theorem Kids.under (h : Kids xs A c n ks w) (hb : Below w.heap.size w w') : Kids xs A c n ks w' :=
  ⟨h.len, h.own.keep fun g _ hg => hb.block g hg, h.off, fun x hx => (h.each x hx).under hb⟩
theorem Kids.lt (h : Kids xs A c n ks w) {g : Nat} (hg : blockOf A = some g) : g < w.heap.size := h.own.lt hg
theorem Kids.le (h : Kids xs A c n ks w) : n ≤ c ∧ c ≤ 9223372036854775807 := h.own.le
theorem Kids.one {t : Lt} (h : Off xs (ThP t) w) (hx : ∀ x ∈ xs, x < w.heap.size) : Kids xs (some ⟨w.heap.size, 0, none⟩) 1 1 [t] (w.alloc (.cells (lcell t).toArray 31)) := by
  have hH := Holds.fresh w 31 (lcell t).toArray
  refine ⟨rfl, ⟨by simp [lcell], .inr ⟨w.heap.size, 1, (lcell t).toArray, rfl, Nat.zero_le _, hH, Nat.le_refl _, by unfold maxLen; omega, by simp [lcell], by simp [lcell]⟩⟩, fun g hg hgx => ?_, fun x hx2 => ?_⟩
  · have : w.heap.size = g := by simpa [blockOf] using hg
    have := hx g hgx
    omega
  · rw [List.mem_singleton.1 hx2]
    exact ((h.new (Nat.le_refl _)).alloc _)
theorem Kids.push {t : Lt} {g' c' : Nat} (h : Kids xs A c n ks w) (ht : Off (bl A ++ xs) (ThP t) w) (ho : OwnV 31 3 w' (some ⟨g', 0, none⟩) c' (n + 1) (ks.flatMap lcell ++ lcell t)) (hg : w.grownBy w' (blockOf A))
    (ha : blockOf A = some g' ∨ g' = w.heap.size) (hx : ∀ x ∈ xs, x < w.heap.size) : Kids xs (some ⟨g', 0, none⟩) c' (n + 1) (ks ++ [t]) w' := by
  have hy : ∀ g, g ∈ bl (some ⟨g', 0, none⟩) ++ xs → g ∈ bl A ++ xs ∨ w.heap.size ≤ g := fun g hg => by
    rcases List.mem_append.1 hg with h1 | h1
    · have e := mem_bl.1 h1
      have e : g' = g := by simpa [blockOf] using e
      subst e
      rcases ha with h2 | h2
      · exact .inl (List.mem_append.2 (.inl (mem_bl.2 h2)))
      · exact .inr (by omega)
    · exact .inl (List.mem_append.2 (.inr h1))
  have hA : ∀ g, blockOf A = some g → g ∈ bl A ++ xs := fun g e => List.mem_append.2 (.inl (mem_bl.2 e))
  refine ⟨by simp [h.len], by rw [List.flatMap_append]; simpa using ho, fun g e hgx => ?_, fun x hx2 => ?_⟩
  · have e : g' = g := by simpa [blockOf] using e
    subst e
    rcases ha with h2 | h2
    · exact h.off _ h2 hgx
    · have := hx _ hgx; omega
  · rcases List.mem_append.1 hx2 with h1 | h1
    · exact (h.each x h1).push hg hA hy
    · rw [List.mem_singleton.1 h1]; exact ht.push hg hA hy
theorem Kids.ki (h : Kids xs A c n ks w) : Off xs (KiP A c ks) w := off_own h.len h.own h.off fun x hx => (h.each x hx).less fun g hg => List.mem_append.2 (.inr hg)
theorem Kids.bound (h : Kids xs A c n ks w) (hx : ∀ x ∈ xs, x < w.heap.size) : ∀ x ∈ bl A ++ xs, x < w.heap.size := fun x hx2 => by
  rcases List.mem_append.1 hx2 with h1 | h1
  · exact h.lt (mem_bl.1 h1)
  · exact hx x h1
end
/-- What a maker answers, with its cells written out. -/
theorem MadeT.open_ {w w' : World} {xs : List Nat} {T : Tr} {e : Ending} (h : MadeT w xs T e w') : ∃ lt : Lt, e = .returned (.agg #[.int .u8 (lt.tag : Int), .slice lt.ba lt.body.length lt.bc, .slice lt.ka lt.kids.length lt.kc]) ∧ lt.t = T ∧ Off xs (ThP lt) w' ∧ Below w.heap.size w w' := h
theorem lcell_eq (t : Lt) : lcell t = [.int .u8 (t.tag : Int), .slice t.ba t.body.length t.bc, .slice t.ka t.kids.length t.kc] := rfl
theorem lcell_one1 (t : Lt) : ∀ u ∈ lcell t, u.oneCell' = true := by
  intro u hu
  simp only [lcell, List.mem_cons, List.not_mem_nil, or_false] at hu
  rcases hu with rfl | rfl | rfl <;> rfl
/-- Only a row of one's own has grown. -/
theorem below_own {B : Nat} {a w w' : World} {A : Option Addr} (h : Below B a w) (hg : w.grownBy w' (blockOf A)) (hA : ∀ g, blockOf A = some g → B ≤ g) (hBa : B ≤ a.heap.size) : Below B a w' :=
  h.trans ⟨hg.os, hg.tape, hg.output, hg.size, fun k hk => hg.block k (by have := h.size; omega) (fun e => by have := hA k e.symm; omega)⟩
end Go.Proofs.YtdjklhglkmacbaaDoor
