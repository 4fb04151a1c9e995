/-
  Nodes that may not be, by hand.
-/
import Derived.Test.YtkfokgkehlcikaaNode11
namespace Go.Proofs.Ytkfokgkehlcikaa
open Go.RowKit
set_option linter.unusedVariables false

def P1 (w : World) : World := w.alloc (.cells #[.int .i64 40] 3)
def P2 (w : World) : World := (P1 w).alloc (.cells #[.int .i64 50, .int .i64 50] 3)
def P3 (w : World) : World := (P2 w).alloc (.cells #[.int .i64 65536] 3)
def P4 (w : World) : World := (P3 w).alloc (.cells #[.int .i64 1, .int .i64 2, .int .i64 3, .int .i64 4, .int .i64 5, .int .i64 6, .int .i64 7, .int .i64 8, .int .i64 9, .int .i64 10] 3)
/-- The long name. -/
def longName : ByteArray := ⟨#[48, 49, 50, 51, 52, 53, 54, 55, 56, 57, 48, 49, 50, 51, 52, 53, 54, 55, 56, 57, 48, 49, 50, 51, 52, 53, 54, 55, 56, 57, 48, 49, 50, 51, 52, 53, 54, 55, 56, 57, 120]⟩
def nineCells (w : World) : Array Value := #[.string ⟨#[]⟩, .int .i64 0, .slice none 0 0,
  .string ⟨#[97, 32, 98]⟩, .int .i64 0, .slice none 0 0,
  .string ⟨#[97]⟩, .int .i64 1, .slice none 0 0,
  .string ⟨#[97]⟩, .int .i64 0, .slice (some ⟨w.heap.size, 0, none⟩) 1 1,
  .string ⟨#[97]⟩, .int .i64 128, .slice (some ⟨w.heap.size + 1, 0, none⟩) 2 2,
  .string ⟨#[97]⟩, .int .i64 1, .slice (some ⟨w.heap.size + 1 + 1, 0, none⟩) 1 1,
  .string ⟨#[97]⟩, .int .i64 (-1), .slice none 0 0,
  .string ⟨#[97]⟩, .int .i64 601, .slice (some ⟨w.heap.size + 1 + 1 + 1, 0, none⟩) 10 10,
  .string longName, .int .i64 0, .slice none 0 0]
def P5 (w : World) : World := (P4 w).alloc (.cells (nineCells w) 25)
theorem P1_size (w : World) : (P1 w).heap.size = w.heap.size + 1 := by simp [P1]
theorem P2_size (w : World) : (P2 w).heap.size = w.heap.size + 1 + 1 := by simp [P2, P1_size]
theorem P3_size (w : World) : (P3 w).heap.size = w.heap.size + 1 + 1 + 1 := by simp [P3, P2_size]
theorem P4_size (w : World) : (P4 w).heap.size = w.heap.size + 1 + 1 + 1 + 1 := by simp [P4, P3_size]
theorem P5_size (w : World) : (P5 w).heap.size = w.heap.size + 1 + 1 + 1 + 1 + 1 := by simp [P5, P4_size]
theorem P5_below (w : World) : Below w.heap.size w (P5 w) :=
  (((((Below.refl _ w).alloc (Nat.le_refl _) _).alloc (by simp) _).alloc (by simp; omega) _).alloc (by simp; omega) _).alloc (by show _ ≤ (P4 w).heap.size; rw [P4_size]; omega) _
theorem P5_nine (w : World) : Holds (P5 w) (w.heap.size + 1 + 1 + 1 + 1) 25 (nineCells w) := by
  rw [← P4_size]; exact Holds.fresh _ _ _
theorem P5_p1 (w : World) : Holds (P5 w) w.heap.size 3 #[.int .i64 40] := (((((Holds.fresh w _ _).alloc _).alloc _).alloc _).alloc _)
theorem P5_p2 (w : World) : Holds (P5 w) (w.heap.size + 1) 3 #[.int .i64 50, .int .i64 50] := by
  rw [← P1_size]; exact ((((Holds.fresh (P1 w) _ _).alloc _).alloc _).alloc _)
theorem P5_p3 (w : World) : Holds (P5 w) (w.heap.size + 1 + 1) 3 #[.int .i64 65536] := by
  rw [← P2_size]; exact (((Holds.fresh (P2 w) _ _).alloc _).alloc _)
theorem P5_p4 (w : World) : Holds (P5 w) (w.heap.size + 1 + 1 + 1) 3 #[.int .i64 1, .int .i64 2, .int .i64 3, .int .i64 4, .int .i64 5, .int .i64 6, .int .i64 7, .int .i64 8, .int .i64 9, .int .i64 10] := by
  rw [← P3_size]; exact ((Holds.fresh (P3 w) _ _).alloc _)
theorem RdI.of_row {w : World} {g : Nat} {t : TypeId} {l : List Nat} {n : Nat} (h : Holds w g t (nums .i64 l)) (hn : l.length = n) (h63 : n ≤ 9223372036854775807) : RdI .i64 w w.heap.size (some ⟨g, 0, none⟩) n (l.map fun x : Nat => (x : Int)) :=
  RdI.of_rd (Row.rd_all (T := t) h hn h63)

theorem nine (w : World) (a0 : Int) (h0 : 0 ≤ a0) (h9 : a0 < 9) : ∃ s z A n c l, (P5 w).cell? ⟨w.heap.size + 1 + 1 + 1 + 1, a0.toNat * 3, none⟩ = some (.string s) ∧ (P5 w).cell? ⟨w.heap.size + 1 + 1 + 1 + 1, a0.toNat * 3 + 1, none⟩ = some (.int .i64 z) ∧ (P5 w).cell? ⟨w.heap.size + 1 + 1 + 1 + 1, a0.toNat * 3 + 2, none⟩ = some (.slice A n c) ∧
    l.length = n ∧ RdI .i64 (P5 w) (P5 w).heap.size A c l ∧ s.size ≤ 9223372036854775807 ∧ z ≤ 9223372036854775807 ∧ ¬ NodeOk s z l := by
  have hb := (P5_nine w).cell
  rcases (show a0 = 0 ∨ a0 = 1 ∨ a0 = 2 ∨ a0 = 3 ∨ a0 = 4 ∨ a0 = 5 ∨ a0 = 6 ∨ a0 = 7 ∨ a0 = 8 by omega) with rfl | rfl | rfl | rfl | rfl | rfl | rfl | rfl | rfl
  · exact ⟨_, _, _, _, _, [], hb _, hb _, hb _, rfl, RdI.nil_ _ _ _, by decide, by decide, fun h => by have := h.name.low; exact absurd this (by decide)⟩
  · exact ⟨_, _, _, _, _, [], hb _, hb _, hb _, rfl, RdI.nil_ _ _ _, by decide, by decide, fun h => by have := (h.name.all 1 (by decide)).1; exact absurd this (by decide)⟩
  · exact ⟨_, _, _, _, _, [], hb _, hb _, hb _, rfl, RdI.nil_ _ _ _, by decide, by decide, fun h => by have := h.len; exact absurd this (by decide)⟩
  · exact ⟨_, _, _, _, _, _, hb _, hb _, hb _, rfl, RdI.of_row (l := [40]) (P5_p1 w) rfl (by decide), by decide, by decide, fun h => by have := h.len; exact absurd this (by decide)⟩
  · exact ⟨_, _, _, _, _, _, hb _, hb _, hb _, rfl, RdI.of_row (l := [50, 50]) (P5_p2 w) rfl (by decide), by decide, by decide, fun h => by have := h.dist 1 0 (by decide) (by decide); exact absurd rfl this⟩
  · exact ⟨_, _, _, _, _, _, hb _, hb _, hb _, rfl, RdI.of_row (l := [65536]) (P5_p3 w) rfl (by decide), by decide, by decide, fun h => by have := (h.rng 0 (by decide)).2; exact absurd this (by decide)⟩
  · exact ⟨_, _, _, _, _, [], hb _, hb _, hb _, rfl, RdI.nil_ _ _ _, by decide, by decide, fun h => by have := h.z0; exact absurd this (by decide)⟩
  · exact ⟨_, _, _, _, _, _, hb _, hb _, hb _, rfl, RdI.of_row (l := [1, 2, 3, 4, 5, 6, 7, 8, 9, 10]) (P5_p4 w) rfl (by decide), by decide, by decide, fun h => by have := h.z600; exact absurd this (by decide)⟩
  · exact ⟨_, _, _, _, _, [], hb _, hb _, hb _, rfl, RdI.nil_ _ _ _, by decide, by decide, fun h => by have := h.name.high; exact absurd this (by decide)⟩
end Go.Proofs.Ytkfokgkehlcikaa
