/-
  Things that are no number, no truth, no text, no ID, by hand (statement AtomOdd): the law's walk.
-/
import Derived.Test.YtogbeiifnhegiaaDoorTx5
import Derived.Test.YtogbeiifnhegiaaDoorAt8
namespace Go.Proofs.YtogbeiifnhegiaaDoor
open Go.RowKit BigFrame
set_option linter.unusedVariables false
set_option linter.unusedSimpArgs false

theorem rd_block {W : World} {g : Nat} {cs : Array Value} {b : List Nat} (h : Holds W g 5 cs) (hn : b.length ≤ 100000) (hc : cs = (b.map fun x : Nat => Value.int .u8 (x : Int)).toArray) : Rd .u8 W W.heap.size (some ⟨g, 0, none⟩) b.length b :=
  ⟨Nat.le_refl _, by omega, fun _ => ⟨g, 0, rfl, h.lt, fun j hj => by rw [Nat.zero_add, h.cell, hc]; simp [List.getD, hj]⟩⟩
def oddW (w : World) : World := ((((((((((((w.alloc (.cells (#[.int .u8 0, .int .u8 5]) 5)).alloc (.cells (#[.int .u8 128]) 5)).alloc (.cells (#[.int .u8 1, .int .u8 0, .int .u8 0, .int .u8 0, .int .u8 0, .int .u8 0, .int .u8 0, .int .u8 0, .int .u8 0]) 5)).alloc (.cells (#[.int .u8 1]) 5)).alloc (.cells (#[.int .u8 255]) 5)).alloc (.cells (#[.int .u8 192, .int .u8 128]) 5)).alloc (.cells (#[.int .u8 237, .int .u8 160, .int .u8 128]) 5)).alloc (.cells (#[.int .u8 128, .int .u8 1]) 5)).alloc (.cells (#[.int .u8 129]) 5)).alloc (.cells (#[.int .u8 1, .int .u8 0]) 5)).alloc (.cells (Array.replicate 65 (Value.int .u8 0)) 5)).alloc (.cells (#[.int .u8 2, .slice none 0 0, .slice none 0 0, .int .u8 2, .slice (some ⟨w.heap.size, 0, none⟩) 2 2, .slice none 0 0, .int .u8 2, .slice (some ⟨w.heap.size + 1, 0, none⟩) 1 1, .slice none 0 0, .int .u8 2, .slice (some ⟨w.heap.size + 1 + 1, 0, none⟩) 9 9, .slice none 0 0, .int .u8 1, .slice (some ⟨w.heap.size + 1 + 1 + 1, 0, none⟩) 1 1, .slice none 0 0, .int .u8 1, .slice none 0 0, .slice none 0 0, .int .u8 12, .slice (some ⟨w.heap.size + 1 + 1 + 1 + 1, 0, none⟩) 1 1, .slice none 0 0, .int .u8 12, .slice (some ⟨w.heap.size + 1 + 1 + 1 + 1 + 1, 0, none⟩) 2 2, .slice none 0 0, .int .u8 12, .slice (some ⟨w.heap.size + 1 + 1 + 1 + 1 + 1 + 1, 0, none⟩) 3 3, .slice none 0 0, .int .u8 6, .slice none 0 0, .slice none 0 0, .int .u8 6, .slice (some ⟨w.heap.size + 1 + 1 + 1 + 1 + 1 + 1 + 1, 0, none⟩) 2 2, .slice none 0 0, .int .u8 6, .slice (some ⟨w.heap.size + 1 + 1 + 1 + 1 + 1 + 1 + 1 + 1, 0, none⟩) 1 1, .slice none 0 0, .int .u8 3, .slice none 0 0, .slice none 0 0, .int .u8 3, .slice (some ⟨w.heap.size + 1 + 1 + 1 + 1 + 1 + 1 + 1 + 1 + 1, 0, none⟩) 2 2, .slice none 0 0, .int .u8 12, .slice (some ⟨w.heap.size + 1 + 1 + 1 + 1 + 1 + 1 + 1 + 1 + 1 + 1, 0, none⟩) 65 65, .slice none 0 0]) 27))
theorem odd_row0 (w : World) : Holds (oddW w) (w.heap.size) 5 (#[.int .u8 0, .int .u8 5]) := by
  have h := Holds.fresh w 5 (#[.int .u8 0, .int .u8 5])
  have e : (w).heap.size = w.heap.size := by simp
  rw [e] at h
  exact ((((((((((h.alloc _).alloc _).alloc _).alloc _).alloc _).alloc _).alloc _).alloc _).alloc _).alloc _).alloc _
theorem odd_row1 (w : World) : Holds (oddW w) (w.heap.size + 1) 5 (#[.int .u8 128]) := by
  have h := Holds.fresh (w.alloc (.cells (#[.int .u8 0, .int .u8 5]) 5)) 5 (#[.int .u8 128])
  have e : ((w.alloc (.cells (#[.int .u8 0, .int .u8 5]) 5))).heap.size = w.heap.size + 1 := by simp
  rw [e] at h
  exact (((((((((h.alloc _).alloc _).alloc _).alloc _).alloc _).alloc _).alloc _).alloc _).alloc _).alloc _
theorem odd_row2 (w : World) : Holds (oddW w) (w.heap.size + 1 + 1) 5 (#[.int .u8 1, .int .u8 0, .int .u8 0, .int .u8 0, .int .u8 0, .int .u8 0, .int .u8 0, .int .u8 0, .int .u8 0]) := by
  have h := Holds.fresh ((w.alloc (.cells (#[.int .u8 0, .int .u8 5]) 5)).alloc (.cells (#[.int .u8 128]) 5)) 5 (#[.int .u8 1, .int .u8 0, .int .u8 0, .int .u8 0, .int .u8 0, .int .u8 0, .int .u8 0, .int .u8 0, .int .u8 0])
  have e : (((w.alloc (.cells (#[.int .u8 0, .int .u8 5]) 5)).alloc (.cells (#[.int .u8 128]) 5))).heap.size = w.heap.size + 1 + 1 := by simp
  rw [e] at h
  exact ((((((((h.alloc _).alloc _).alloc _).alloc _).alloc _).alloc _).alloc _).alloc _).alloc _
theorem odd_row3 (w : World) : Holds (oddW w) (w.heap.size + 1 + 1 + 1) 5 (#[.int .u8 1]) := by
  have h := Holds.fresh (((w.alloc (.cells (#[.int .u8 0, .int .u8 5]) 5)).alloc (.cells (#[.int .u8 128]) 5)).alloc (.cells (#[.int .u8 1, .int .u8 0, .int .u8 0, .int .u8 0, .int .u8 0, .int .u8 0, .int .u8 0, .int .u8 0, .int .u8 0]) 5)) 5 (#[.int .u8 1])
  have e : ((((w.alloc (.cells (#[.int .u8 0, .int .u8 5]) 5)).alloc (.cells (#[.int .u8 128]) 5)).alloc (.cells (#[.int .u8 1, .int .u8 0, .int .u8 0, .int .u8 0, .int .u8 0, .int .u8 0, .int .u8 0, .int .u8 0, .int .u8 0]) 5))).heap.size = w.heap.size + 1 + 1 + 1 := by simp
  rw [e] at h
  exact (((((((h.alloc _).alloc _).alloc _).alloc _).alloc _).alloc _).alloc _).alloc _
theorem odd_row4 (w : World) : Holds (oddW w) (w.heap.size + 1 + 1 + 1 + 1) 5 (#[.int .u8 255]) := by
  have h := Holds.fresh ((((w.alloc (.cells (#[.int .u8 0, .int .u8 5]) 5)).alloc (.cells (#[.int .u8 128]) 5)).alloc (.cells (#[.int .u8 1, .int .u8 0, .int .u8 0, .int .u8 0, .int .u8 0, .int .u8 0, .int .u8 0, .int .u8 0, .int .u8 0]) 5)).alloc (.cells (#[.int .u8 1]) 5)) 5 (#[.int .u8 255])
  have e : (((((w.alloc (.cells (#[.int .u8 0, .int .u8 5]) 5)).alloc (.cells (#[.int .u8 128]) 5)).alloc (.cells (#[.int .u8 1, .int .u8 0, .int .u8 0, .int .u8 0, .int .u8 0, .int .u8 0, .int .u8 0, .int .u8 0, .int .u8 0]) 5)).alloc (.cells (#[.int .u8 1]) 5))).heap.size = w.heap.size + 1 + 1 + 1 + 1 := by simp
  rw [e] at h
  exact ((((((h.alloc _).alloc _).alloc _).alloc _).alloc _).alloc _).alloc _
theorem odd_row5 (w : World) : Holds (oddW w) (w.heap.size + 1 + 1 + 1 + 1 + 1) 5 (#[.int .u8 192, .int .u8 128]) := by
  have h := Holds.fresh (((((w.alloc (.cells (#[.int .u8 0, .int .u8 5]) 5)).alloc (.cells (#[.int .u8 128]) 5)).alloc (.cells (#[.int .u8 1, .int .u8 0, .int .u8 0, .int .u8 0, .int .u8 0, .int .u8 0, .int .u8 0, .int .u8 0, .int .u8 0]) 5)).alloc (.cells (#[.int .u8 1]) 5)).alloc (.cells (#[.int .u8 255]) 5)) 5 (#[.int .u8 192, .int .u8 128])
  have e : ((((((w.alloc (.cells (#[.int .u8 0, .int .u8 5]) 5)).alloc (.cells (#[.int .u8 128]) 5)).alloc (.cells (#[.int .u8 1, .int .u8 0, .int .u8 0, .int .u8 0, .int .u8 0, .int .u8 0, .int .u8 0, .int .u8 0, .int .u8 0]) 5)).alloc (.cells (#[.int .u8 1]) 5)).alloc (.cells (#[.int .u8 255]) 5))).heap.size = w.heap.size + 1 + 1 + 1 + 1 + 1 := by simp
  rw [e] at h
  exact (((((h.alloc _).alloc _).alloc _).alloc _).alloc _).alloc _
theorem odd_row6 (w : World) : Holds (oddW w) (w.heap.size + 1 + 1 + 1 + 1 + 1 + 1) 5 (#[.int .u8 237, .int .u8 160, .int .u8 128]) := by
  have h := Holds.fresh ((((((w.alloc (.cells (#[.int .u8 0, .int .u8 5]) 5)).alloc (.cells (#[.int .u8 128]) 5)).alloc (.cells (#[.int .u8 1, .int .u8 0, .int .u8 0, .int .u8 0, .int .u8 0, .int .u8 0, .int .u8 0, .int .u8 0, .int .u8 0]) 5)).alloc (.cells (#[.int .u8 1]) 5)).alloc (.cells (#[.int .u8 255]) 5)).alloc (.cells (#[.int .u8 192, .int .u8 128]) 5)) 5 (#[.int .u8 237, .int .u8 160, .int .u8 128])
  have e : (((((((w.alloc (.cells (#[.int .u8 0, .int .u8 5]) 5)).alloc (.cells (#[.int .u8 128]) 5)).alloc (.cells (#[.int .u8 1, .int .u8 0, .int .u8 0, .int .u8 0, .int .u8 0, .int .u8 0, .int .u8 0, .int .u8 0, .int .u8 0]) 5)).alloc (.cells (#[.int .u8 1]) 5)).alloc (.cells (#[.int .u8 255]) 5)).alloc (.cells (#[.int .u8 192, .int .u8 128]) 5))).heap.size = w.heap.size + 1 + 1 + 1 + 1 + 1 + 1 := by simp
  rw [e] at h
  exact ((((h.alloc _).alloc _).alloc _).alloc _).alloc _
theorem odd_row7 (w : World) : Holds (oddW w) (w.heap.size + 1 + 1 + 1 + 1 + 1 + 1 + 1) 5 (#[.int .u8 128, .int .u8 1]) := by
  have h := Holds.fresh (((((((w.alloc (.cells (#[.int .u8 0, .int .u8 5]) 5)).alloc (.cells (#[.int .u8 128]) 5)).alloc (.cells (#[.int .u8 1, .int .u8 0, .int .u8 0, .int .u8 0, .int .u8 0, .int .u8 0, .int .u8 0, .int .u8 0, .int .u8 0]) 5)).alloc (.cells (#[.int .u8 1]) 5)).alloc (.cells (#[.int .u8 255]) 5)).alloc (.cells (#[.int .u8 192, .int .u8 128]) 5)).alloc (.cells (#[.int .u8 237, .int .u8 160, .int .u8 128]) 5)) 5 (#[.int .u8 128, .int .u8 1])
  have e : ((((((((w.alloc (.cells (#[.int .u8 0, .int .u8 5]) 5)).alloc (.cells (#[.int .u8 128]) 5)).alloc (.cells (#[.int .u8 1, .int .u8 0, .int .u8 0, .int .u8 0, .int .u8 0, .int .u8 0, .int .u8 0, .int .u8 0, .int .u8 0]) 5)).alloc (.cells (#[.int .u8 1]) 5)).alloc (.cells (#[.int .u8 255]) 5)).alloc (.cells (#[.int .u8 192, .int .u8 128]) 5)).alloc (.cells (#[.int .u8 237, .int .u8 160, .int .u8 128]) 5))).heap.size = w.heap.size + 1 + 1 + 1 + 1 + 1 + 1 + 1 := by simp
  rw [e] at h
  exact (((h.alloc _).alloc _).alloc _).alloc _
theorem odd_row8 (w : World) : Holds (oddW w) (w.heap.size + 1 + 1 + 1 + 1 + 1 + 1 + 1 + 1) 5 (#[.int .u8 129]) := by
  have h := Holds.fresh ((((((((w.alloc (.cells (#[.int .u8 0, .int .u8 5]) 5)).alloc (.cells (#[.int .u8 128]) 5)).alloc (.cells (#[.int .u8 1, .int .u8 0, .int .u8 0, .int .u8 0, .int .u8 0, .int .u8 0, .int .u8 0, .int .u8 0, .int .u8 0]) 5)).alloc (.cells (#[.int .u8 1]) 5)).alloc (.cells (#[.int .u8 255]) 5)).alloc (.cells (#[.int .u8 192, .int .u8 128]) 5)).alloc (.cells (#[.int .u8 237, .int .u8 160, .int .u8 128]) 5)).alloc (.cells (#[.int .u8 128, .int .u8 1]) 5)) 5 (#[.int .u8 129])
  have e : (((((((((w.alloc (.cells (#[.int .u8 0, .int .u8 5]) 5)).alloc (.cells (#[.int .u8 128]) 5)).alloc (.cells (#[.int .u8 1, .int .u8 0, .int .u8 0, .int .u8 0, .int .u8 0, .int .u8 0, .int .u8 0, .int .u8 0, .int .u8 0]) 5)).alloc (.cells (#[.int .u8 1]) 5)).alloc (.cells (#[.int .u8 255]) 5)).alloc (.cells (#[.int .u8 192, .int .u8 128]) 5)).alloc (.cells (#[.int .u8 237, .int .u8 160, .int .u8 128]) 5)).alloc (.cells (#[.int .u8 128, .int .u8 1]) 5))).heap.size = w.heap.size + 1 + 1 + 1 + 1 + 1 + 1 + 1 + 1 := by simp
  rw [e] at h
  exact ((h.alloc _).alloc _).alloc _
theorem odd_row9 (w : World) : Holds (oddW w) (w.heap.size + 1 + 1 + 1 + 1 + 1 + 1 + 1 + 1 + 1) 5 (#[.int .u8 1, .int .u8 0]) := by
  have h := Holds.fresh (((((((((w.alloc (.cells (#[.int .u8 0, .int .u8 5]) 5)).alloc (.cells (#[.int .u8 128]) 5)).alloc (.cells (#[.int .u8 1, .int .u8 0, .int .u8 0, .int .u8 0, .int .u8 0, .int .u8 0, .int .u8 0, .int .u8 0, .int .u8 0]) 5)).alloc (.cells (#[.int .u8 1]) 5)).alloc (.cells (#[.int .u8 255]) 5)).alloc (.cells (#[.int .u8 192, .int .u8 128]) 5)).alloc (.cells (#[.int .u8 237, .int .u8 160, .int .u8 128]) 5)).alloc (.cells (#[.int .u8 128, .int .u8 1]) 5)).alloc (.cells (#[.int .u8 129]) 5)) 5 (#[.int .u8 1, .int .u8 0])
  have e : ((((((((((w.alloc (.cells (#[.int .u8 0, .int .u8 5]) 5)).alloc (.cells (#[.int .u8 128]) 5)).alloc (.cells (#[.int .u8 1, .int .u8 0, .int .u8 0, .int .u8 0, .int .u8 0, .int .u8 0, .int .u8 0, .int .u8 0, .int .u8 0]) 5)).alloc (.cells (#[.int .u8 1]) 5)).alloc (.cells (#[.int .u8 255]) 5)).alloc (.cells (#[.int .u8 192, .int .u8 128]) 5)).alloc (.cells (#[.int .u8 237, .int .u8 160, .int .u8 128]) 5)).alloc (.cells (#[.int .u8 128, .int .u8 1]) 5)).alloc (.cells (#[.int .u8 129]) 5))).heap.size = w.heap.size + 1 + 1 + 1 + 1 + 1 + 1 + 1 + 1 + 1 := by simp
  rw [e] at h
  exact (h.alloc _).alloc _
theorem odd_row10 (w : World) : Holds (oddW w) (w.heap.size + 1 + 1 + 1 + 1 + 1 + 1 + 1 + 1 + 1 + 1) 5 (Array.replicate 65 (Value.int .u8 0)) := by
  have h := Holds.fresh ((((((((((w.alloc (.cells (#[.int .u8 0, .int .u8 5]) 5)).alloc (.cells (#[.int .u8 128]) 5)).alloc (.cells (#[.int .u8 1, .int .u8 0, .int .u8 0, .int .u8 0, .int .u8 0, .int .u8 0, .int .u8 0, .int .u8 0, .int .u8 0]) 5)).alloc (.cells (#[.int .u8 1]) 5)).alloc (.cells (#[.int .u8 255]) 5)).alloc (.cells (#[.int .u8 192, .int .u8 128]) 5)).alloc (.cells (#[.int .u8 237, .int .u8 160, .int .u8 128]) 5)).alloc (.cells (#[.int .u8 128, .int .u8 1]) 5)).alloc (.cells (#[.int .u8 129]) 5)).alloc (.cells (#[.int .u8 1, .int .u8 0]) 5)) 5 (Array.replicate 65 (Value.int .u8 0))
  have e : (((((((((((w.alloc (.cells (#[.int .u8 0, .int .u8 5]) 5)).alloc (.cells (#[.int .u8 128]) 5)).alloc (.cells (#[.int .u8 1, .int .u8 0, .int .u8 0, .int .u8 0, .int .u8 0, .int .u8 0, .int .u8 0, .int .u8 0, .int .u8 0]) 5)).alloc (.cells (#[.int .u8 1]) 5)).alloc (.cells (#[.int .u8 255]) 5)).alloc (.cells (#[.int .u8 192, .int .u8 128]) 5)).alloc (.cells (#[.int .u8 237, .int .u8 160, .int .u8 128]) 5)).alloc (.cells (#[.int .u8 128, .int .u8 1]) 5)).alloc (.cells (#[.int .u8 129]) 5)).alloc (.cells (#[.int .u8 1, .int .u8 0]) 5))).heap.size = w.heap.size + 1 + 1 + 1 + 1 + 1 + 1 + 1 + 1 + 1 + 1 := by simp
  rw [e] at h
  exact h.alloc _
theorem odd_row (w : World) : Holds (oddW w) (w.heap.size + 1 + 1 + 1 + 1 + 1 + 1 + 1 + 1 + 1 + 1 + 1) 27 (#[.int .u8 2, .slice none 0 0, .slice none 0 0, .int .u8 2, .slice (some ⟨w.heap.size, 0, none⟩) 2 2, .slice none 0 0, .int .u8 2, .slice (some ⟨w.heap.size + 1, 0, none⟩) 1 1, .slice none 0 0, .int .u8 2, .slice (some ⟨w.heap.size + 1 + 1, 0, none⟩) 9 9, .slice none 0 0, .int .u8 1, .slice (some ⟨w.heap.size + 1 + 1 + 1, 0, none⟩) 1 1, .slice none 0 0, .int .u8 1, .slice none 0 0, .slice none 0 0, .int .u8 12, .slice (some ⟨w.heap.size + 1 + 1 + 1 + 1, 0, none⟩) 1 1, .slice none 0 0, .int .u8 12, .slice (some ⟨w.heap.size + 1 + 1 + 1 + 1 + 1, 0, none⟩) 2 2, .slice none 0 0, .int .u8 12, .slice (some ⟨w.heap.size + 1 + 1 + 1 + 1 + 1 + 1, 0, none⟩) 3 3, .slice none 0 0, .int .u8 6, .slice none 0 0, .slice none 0 0, .int .u8 6, .slice (some ⟨w.heap.size + 1 + 1 + 1 + 1 + 1 + 1 + 1, 0, none⟩) 2 2, .slice none 0 0, .int .u8 6, .slice (some ⟨w.heap.size + 1 + 1 + 1 + 1 + 1 + 1 + 1 + 1, 0, none⟩) 1 1, .slice none 0 0, .int .u8 3, .slice none 0 0, .slice none 0 0, .int .u8 3, .slice (some ⟨w.heap.size + 1 + 1 + 1 + 1 + 1 + 1 + 1 + 1 + 1, 0, none⟩) 2 2, .slice none 0 0, .int .u8 12, .slice (some ⟨w.heap.size + 1 + 1 + 1 + 1 + 1 + 1 + 1 + 1 + 1 + 1, 0, none⟩) 65 65, .slice none 0 0]) := by
  have h := Holds.fresh (((((((((((w.alloc (.cells (#[.int .u8 0, .int .u8 5]) 5)).alloc (.cells (#[.int .u8 128]) 5)).alloc (.cells (#[.int .u8 1, .int .u8 0, .int .u8 0, .int .u8 0, .int .u8 0, .int .u8 0, .int .u8 0, .int .u8 0, .int .u8 0]) 5)).alloc (.cells (#[.int .u8 1]) 5)).alloc (.cells (#[.int .u8 255]) 5)).alloc (.cells (#[.int .u8 192, .int .u8 128]) 5)).alloc (.cells (#[.int .u8 237, .int .u8 160, .int .u8 128]) 5)).alloc (.cells (#[.int .u8 128, .int .u8 1]) 5)).alloc (.cells (#[.int .u8 129]) 5)).alloc (.cells (#[.int .u8 1, .int .u8 0]) 5)).alloc (.cells (Array.replicate 65 (Value.int .u8 0)) 5)) 27 (#[.int .u8 2, .slice none 0 0, .slice none 0 0, .int .u8 2, .slice (some ⟨w.heap.size, 0, none⟩) 2 2, .slice none 0 0, .int .u8 2, .slice (some ⟨w.heap.size + 1, 0, none⟩) 1 1, .slice none 0 0, .int .u8 2, .slice (some ⟨w.heap.size + 1 + 1, 0, none⟩) 9 9, .slice none 0 0, .int .u8 1, .slice (some ⟨w.heap.size + 1 + 1 + 1, 0, none⟩) 1 1, .slice none 0 0, .int .u8 1, .slice none 0 0, .slice none 0 0, .int .u8 12, .slice (some ⟨w.heap.size + 1 + 1 + 1 + 1, 0, none⟩) 1 1, .slice none 0 0, .int .u8 12, .slice (some ⟨w.heap.size + 1 + 1 + 1 + 1 + 1, 0, none⟩) 2 2, .slice none 0 0, .int .u8 12, .slice (some ⟨w.heap.size + 1 + 1 + 1 + 1 + 1 + 1, 0, none⟩) 3 3, .slice none 0 0, .int .u8 6, .slice none 0 0, .slice none 0 0, .int .u8 6, .slice (some ⟨w.heap.size + 1 + 1 + 1 + 1 + 1 + 1 + 1, 0, none⟩) 2 2, .slice none 0 0, .int .u8 6, .slice (some ⟨w.heap.size + 1 + 1 + 1 + 1 + 1 + 1 + 1 + 1, 0, none⟩) 1 1, .slice none 0 0, .int .u8 3, .slice none 0 0, .slice none 0 0, .int .u8 3, .slice (some ⟨w.heap.size + 1 + 1 + 1 + 1 + 1 + 1 + 1 + 1 + 1, 0, none⟩) 2 2, .slice none 0 0, .int .u8 12, .slice (some ⟨w.heap.size + 1 + 1 + 1 + 1 + 1 + 1 + 1 + 1 + 1 + 1, 0, none⟩) 65 65, .slice none 0 0])
  have e : ((((((((((((w.alloc (.cells (#[.int .u8 0, .int .u8 5]) 5)).alloc (.cells (#[.int .u8 128]) 5)).alloc (.cells (#[.int .u8 1, .int .u8 0, .int .u8 0, .int .u8 0, .int .u8 0, .int .u8 0, .int .u8 0, .int .u8 0, .int .u8 0]) 5)).alloc (.cells (#[.int .u8 1]) 5)).alloc (.cells (#[.int .u8 255]) 5)).alloc (.cells (#[.int .u8 192, .int .u8 128]) 5)).alloc (.cells (#[.int .u8 237, .int .u8 160, .int .u8 128]) 5)).alloc (.cells (#[.int .u8 128, .int .u8 1]) 5)).alloc (.cells (#[.int .u8 129]) 5)).alloc (.cells (#[.int .u8 1, .int .u8 0]) 5)).alloc (.cells (Array.replicate 65 (Value.int .u8 0)) 5))).heap.size = w.heap.size + 1 + 1 + 1 + 1 + 1 + 1 + 1 + 1 + 1 + 1 + 1 := by simp
  rw [e] at h
  exact h
theorem odd_below (w : World) : Below w.heap.size w (oddW w) := by
  unfold oddW
  refine ((((((((((((Below.refl _ _).alloc ?_ _).alloc ?_ _).alloc ?_ _).alloc ?_ _).alloc ?_ _).alloc ?_ _).alloc ?_ _).alloc ?_ _).alloc ?_ _).alloc ?_ _).alloc ?_ _).alloc ?_ _ <;> (simp <;> omega)
structure Odd (w : World) (k T n : Nat) (A : Option Addr) (b : List Nat) : Prop where
  c0 : (#[.int .u8 2, .slice none 0 0, .slice none 0 0, .int .u8 2, .slice (some ⟨w.heap.size, 0, none⟩) 2 2, .slice none 0 0, .int .u8 2, .slice (some ⟨w.heap.size + 1, 0, none⟩) 1 1, .slice none 0 0, .int .u8 2, .slice (some ⟨w.heap.size + 1 + 1, 0, none⟩) 9 9, .slice none 0 0, .int .u8 1, .slice (some ⟨w.heap.size + 1 + 1 + 1, 0, none⟩) 1 1, .slice none 0 0, .int .u8 1, .slice none 0 0, .slice none 0 0, .int .u8 12, .slice (some ⟨w.heap.size + 1 + 1 + 1 + 1, 0, none⟩) 1 1, .slice none 0 0, .int .u8 12, .slice (some ⟨w.heap.size + 1 + 1 + 1 + 1 + 1, 0, none⟩) 2 2, .slice none 0 0, .int .u8 12, .slice (some ⟨w.heap.size + 1 + 1 + 1 + 1 + 1 + 1, 0, none⟩) 3 3, .slice none 0 0, .int .u8 6, .slice none 0 0, .slice none 0 0, .int .u8 6, .slice (some ⟨w.heap.size + 1 + 1 + 1 + 1 + 1 + 1 + 1, 0, none⟩) 2 2, .slice none 0 0, .int .u8 6, .slice (some ⟨w.heap.size + 1 + 1 + 1 + 1 + 1 + 1 + 1 + 1, 0, none⟩) 1 1, .slice none 0 0, .int .u8 3, .slice none 0 0, .slice none 0 0, .int .u8 3, .slice (some ⟨w.heap.size + 1 + 1 + 1 + 1 + 1 + 1 + 1 + 1 + 1, 0, none⟩) 2 2, .slice none 0 0, .int .u8 12, .slice (some ⟨w.heap.size + 1 + 1 + 1 + 1 + 1 + 1 + 1 + 1 + 1 + 1, 0, none⟩) 65 65, .slice none 0 0] : Array Value)[k * 3]? = some (.int .u8 (T : Int))
  c1 : (#[.int .u8 2, .slice none 0 0, .slice none 0 0, .int .u8 2, .slice (some ⟨w.heap.size, 0, none⟩) 2 2, .slice none 0 0, .int .u8 2, .slice (some ⟨w.heap.size + 1, 0, none⟩) 1 1, .slice none 0 0, .int .u8 2, .slice (some ⟨w.heap.size + 1 + 1, 0, none⟩) 9 9, .slice none 0 0, .int .u8 1, .slice (some ⟨w.heap.size + 1 + 1 + 1, 0, none⟩) 1 1, .slice none 0 0, .int .u8 1, .slice none 0 0, .slice none 0 0, .int .u8 12, .slice (some ⟨w.heap.size + 1 + 1 + 1 + 1, 0, none⟩) 1 1, .slice none 0 0, .int .u8 12, .slice (some ⟨w.heap.size + 1 + 1 + 1 + 1 + 1, 0, none⟩) 2 2, .slice none 0 0, .int .u8 12, .slice (some ⟨w.heap.size + 1 + 1 + 1 + 1 + 1 + 1, 0, none⟩) 3 3, .slice none 0 0, .int .u8 6, .slice none 0 0, .slice none 0 0, .int .u8 6, .slice (some ⟨w.heap.size + 1 + 1 + 1 + 1 + 1 + 1 + 1, 0, none⟩) 2 2, .slice none 0 0, .int .u8 6, .slice (some ⟨w.heap.size + 1 + 1 + 1 + 1 + 1 + 1 + 1 + 1, 0, none⟩) 1 1, .slice none 0 0, .int .u8 3, .slice none 0 0, .slice none 0 0, .int .u8 3, .slice (some ⟨w.heap.size + 1 + 1 + 1 + 1 + 1 + 1 + 1 + 1 + 1, 0, none⟩) 2 2, .slice none 0 0, .int .u8 12, .slice (some ⟨w.heap.size + 1 + 1 + 1 + 1 + 1 + 1 + 1 + 1 + 1 + 1, 0, none⟩) 65 65, .slice none 0 0] : Array Value)[k * 3 + 1]? = some (.slice A n n)
  c2 : (#[.int .u8 2, .slice none 0 0, .slice none 0 0, .int .u8 2, .slice (some ⟨w.heap.size, 0, none⟩) 2 2, .slice none 0 0, .int .u8 2, .slice (some ⟨w.heap.size + 1, 0, none⟩) 1 1, .slice none 0 0, .int .u8 2, .slice (some ⟨w.heap.size + 1 + 1, 0, none⟩) 9 9, .slice none 0 0, .int .u8 1, .slice (some ⟨w.heap.size + 1 + 1 + 1, 0, none⟩) 1 1, .slice none 0 0, .int .u8 1, .slice none 0 0, .slice none 0 0, .int .u8 12, .slice (some ⟨w.heap.size + 1 + 1 + 1 + 1, 0, none⟩) 1 1, .slice none 0 0, .int .u8 12, .slice (some ⟨w.heap.size + 1 + 1 + 1 + 1 + 1, 0, none⟩) 2 2, .slice none 0 0, .int .u8 12, .slice (some ⟨w.heap.size + 1 + 1 + 1 + 1 + 1 + 1, 0, none⟩) 3 3, .slice none 0 0, .int .u8 6, .slice none 0 0, .slice none 0 0, .int .u8 6, .slice (some ⟨w.heap.size + 1 + 1 + 1 + 1 + 1 + 1 + 1, 0, none⟩) 2 2, .slice none 0 0, .int .u8 6, .slice (some ⟨w.heap.size + 1 + 1 + 1 + 1 + 1 + 1 + 1 + 1, 0, none⟩) 1 1, .slice none 0 0, .int .u8 3, .slice none 0 0, .slice none 0 0, .int .u8 3, .slice (some ⟨w.heap.size + 1 + 1 + 1 + 1 + 1 + 1 + 1 + 1 + 1, 0, none⟩) 2 2, .slice none 0 0, .int .u8 12, .slice (some ⟨w.heap.size + 1 + 1 + 1 + 1 + 1 + 1 + 1 + 1 + 1 + 1, 0, none⟩) 65 65, .slice none 0 0] : Array Value)[k * 3 + 2]? = some (.slice none 0 0)
  hn : b.length = n
  h65 : n ≤ 65
  ht : T < 256
  ho : ∀ x ∈ b, x < 256
  rd : Rd .u8 (oddW w) (oddW w).heap.size A n b
  sm : smallOf (if heldOk T 0 2 = true then gi b 9 else none) = none
  bo : boolOf T 0 b = none
  tx : txOf T 0 b = none
  id : (if (heldOk T 0 6 && idOk b) = true then some b else none) = none
  bi : bitsOf T 0 b = none
  oc : (if heldOk T 0 4 = true then some b else none) = none
theorem vd_bad {l : List Nat} (ho : ∀ x ∈ l, x < 256) (hl : 0 < l.length) (h : rn l = 0) : textOk l = false := by
  unfold textOk; rw [rn_no ho hl h, Bool.and_false]
theorem odd_is (w : World) (k : Nat) (hk : k < 15) : ∃ T n A b, Odd w k T n A b := by
  have : k = 0 ∨ k = 1 ∨ k = 2 ∨ k = 3 ∨ k = 4 ∨ k = 5 ∨ k = 6 ∨ k = 7 ∨ k = 8 ∨ k = 9 ∨ k = 10 ∨ k = 11 ∨ k = 12 ∨ k = 13 ∨ k = 14 := by omega
  rcases this with rfl | rfl | rfl | rfl | rfl | rfl | rfl | rfl | rfl | rfl | rfl | rfl | rfl | rfl | rfl
  · exact ⟨2, 0, none, [], rfl, rfl, rfl, by simp, by omega, by omega, by decide, Rd.nil_ _ _ _, by decide +kernel, by decide +kernel, by unfold txOf; rw [if_neg (fun h => by have := h.1; simp [heldOk] at this)], by decide +kernel, by decide +kernel, by decide +kernel⟩
  · exact ⟨2, 2, (some ⟨w.heap.size, 0, none⟩), [0, 5], rfl, rfl, rfl, by simp, by omega, by omega, by decide, rd_block (odd_row0 w) (by decide) rfl, by decide +kernel, by decide +kernel, by unfold txOf; rw [if_neg (fun h => by have := h.1; simp [heldOk] at this)], by decide +kernel, by decide +kernel, by decide +kernel⟩
  · exact ⟨2, 1, (some ⟨w.heap.size + 1, 0, none⟩), [128], rfl, rfl, rfl, by simp, by omega, by omega, by decide, rd_block (odd_row1 w) (by decide) rfl, by decide +kernel, by decide +kernel, by unfold txOf; rw [if_neg (fun h => by have := h.1; simp [heldOk] at this)], by decide +kernel, by decide +kernel, by decide +kernel⟩
  · exact ⟨2, 9, (some ⟨w.heap.size + 1 + 1, 0, none⟩), [1, 0, 0, 0, 0, 0, 0, 0, 0], rfl, rfl, rfl, by simp, by omega, by omega, by decide, rd_block (odd_row2 w) (by decide) rfl, by decide +kernel, by decide +kernel, by unfold txOf; rw [if_neg (fun h => by have := h.1; simp [heldOk] at this)], by decide +kernel, by decide +kernel, by decide +kernel⟩
  · exact ⟨1, 1, (some ⟨w.heap.size + 1 + 1 + 1, 0, none⟩), [1], rfl, rfl, rfl, by simp, by omega, by omega, by decide, rd_block (odd_row3 w) (by decide) rfl, by decide +kernel, by decide +kernel, by unfold txOf; rw [if_neg (fun h => by have := h.1; simp [heldOk] at this)], by decide +kernel, by decide +kernel, by decide +kernel⟩
  · exact ⟨1, 0, none, [], rfl, rfl, rfl, by simp, by omega, by omega, by decide, Rd.nil_ _ _ _, by decide +kernel, by decide +kernel, by unfold txOf; rw [if_neg (fun h => by have := h.1; simp [heldOk] at this)], by decide +kernel, by decide +kernel, by decide +kernel⟩
  · exact ⟨12, 1, (some ⟨w.heap.size + 1 + 1 + 1 + 1, 0, none⟩), [255], rfl, rfl, rfl, by simp, by omega, by omega, by decide, rd_block (odd_row4 w) (by decide) rfl, by decide +kernel, by decide +kernel, by unfold txOf; rw [if_neg (fun h => by have := h.2; rw [vd_bad (l := [255]) (by decide) (by decide) (by decide +kernel)] at this; cases this)], by decide +kernel, by decide +kernel, by decide +kernel⟩
  · exact ⟨12, 2, (some ⟨w.heap.size + 1 + 1 + 1 + 1 + 1, 0, none⟩), [192, 128], rfl, rfl, rfl, by simp, by omega, by omega, by decide, rd_block (odd_row5 w) (by decide) rfl, by decide +kernel, by decide +kernel, by unfold txOf; rw [if_neg (fun h => by have := h.2; rw [vd_bad (l := [192, 128]) (by decide) (by decide) (by decide +kernel)] at this; cases this)], by decide +kernel, by decide +kernel, by decide +kernel⟩
  · exact ⟨12, 3, (some ⟨w.heap.size + 1 + 1 + 1 + 1 + 1 + 1, 0, none⟩), [237, 160, 128], rfl, rfl, rfl, by simp, by omega, by omega, by decide, rd_block (odd_row6 w) (by decide) rfl, by decide +kernel, by decide +kernel, by unfold txOf; rw [if_neg (fun h => by have := h.2; rw [vd_bad (l := [237, 160, 128]) (by decide) (by decide) (by decide +kernel)] at this; cases this)], by decide +kernel, by decide +kernel, by decide +kernel⟩
  · exact ⟨6, 0, none, [], rfl, rfl, rfl, by simp, by omega, by omega, by decide, Rd.nil_ _ _ _, by decide +kernel, by decide +kernel, by unfold txOf; rw [if_neg (fun h => by have := h.1; simp [heldOk] at this)], by decide +kernel, by decide +kernel, by decide +kernel⟩
  · exact ⟨6, 2, (some ⟨w.heap.size + 1 + 1 + 1 + 1 + 1 + 1 + 1, 0, none⟩), [128, 1], rfl, rfl, rfl, by simp, by omega, by omega, by decide, rd_block (odd_row7 w) (by decide) rfl, by decide +kernel, by decide +kernel, by unfold txOf; rw [if_neg (fun h => by have := h.1; simp [heldOk] at this)], by decide +kernel, by decide +kernel, by decide +kernel⟩
  · exact ⟨6, 1, (some ⟨w.heap.size + 1 + 1 + 1 + 1 + 1 + 1 + 1 + 1, 0, none⟩), [129], rfl, rfl, rfl, by simp, by omega, by omega, by decide, rd_block (odd_row8 w) (by decide) rfl, by decide +kernel, by decide +kernel, by unfold txOf; rw [if_neg (fun h => by have := h.1; simp [heldOk] at this)], by decide +kernel, by decide +kernel, by decide +kernel⟩
  · exact ⟨3, 0, none, [], rfl, rfl, rfl, by simp, by omega, by omega, by decide, Rd.nil_ _ _ _, by decide +kernel, by decide +kernel, by unfold txOf; rw [if_neg (fun h => by have := h.1; simp [heldOk] at this)], by decide +kernel, by decide +kernel, by decide +kernel⟩
  · exact ⟨3, 2, (some ⟨w.heap.size + 1 + 1 + 1 + 1 + 1 + 1 + 1 + 1 + 1, 0, none⟩), [1, 0], rfl, rfl, rfl, by simp, by omega, by omega, by decide, rd_block (odd_row9 w) (by decide) rfl, by decide +kernel, by decide +kernel, by unfold txOf; rw [if_neg (fun h => by have := h.1; simp [heldOk] at this)], by decide +kernel, by decide +kernel, by decide +kernel⟩
  · exact ⟨12, 65, (some ⟨w.heap.size + 1 + 1 + 1 + 1 + 1 + 1 + 1 + 1 + 1 + 1, 0, none⟩), List.replicate 65 0, rfl, rfl, rfl, by simp, by omega, by omega, by intro x hx; have := List.eq_of_mem_replicate hx; omega, rd_block (odd_row10 w) (by decide) rfl, by decide +kernel, by decide +kernel, by unfold txOf; rw [if_neg (fun h => by have := h.2; simp [textOk] at this)], by decide +kernel, by decide +kernel, by decide +kernel⟩
set_option maxRecDepth 100000 in
set_option maxHeartbeats 8000000 in
theorem odd_yes (w : World) (hT : Lib.Utf8Tabs 0 1 w) (k : Nat) (hk : k < 15) :
    Calls Tryd.prog 4 #[.int .i64 k] w fun e w' => e = .returned (.bool true) ∧ Below w.heap.size w w' := by
  have d1 : decide ((k : Int) < 0) = false := decide_eq_false (by omega)
  have d2 : decide ((15 : Int) ≤ (k : Int)) = false := decide_eq_false (by omega)
  have hkI : (0 : Int) ≤ (k : Int) := by omega
  have hk15 : (k : Int) < 15 := by omega
  obtain ⟨T, n, A, b, ho⟩ := odd_is w k hk
  have HO := Lib.hid ho
  have HT := Lib.hid hT
  have hrow := odd_row w
  have c0 := (hrow.cell (k * 3)).trans ho.c0
  have c1 := (hrow.cell (k * 3 + 1)).trans ho.c1
  have c2 := (hrow.cell (k * 3 + 2)).trans ho.c2
  unfold oddW at c0 c1 c2
  have hmk : ∀ w, (Instr.makeSlice 22 (.int .i64 65) (.int .i64 65)).run Tryd.prog w = .ok (.slice (some ⟨w.heap.size, 0, none⟩) 65 65) (w.alloc (.cells (Array.replicate 65 (.int .u8 0)) 5)) := fun _ => by kernel_rfl
  have hz0 : Holds ((oddW w).alloc (.cells #[.int .u8 (T : Int), .slice A n n, .slice none 0 0] 27)) (w.heap.size + 1 + 1 + 1 + 1 + 1 + 1 + 1 + 1 + 1 + 1 + 1 + 1) 27 #[.int .u8 (T : Int), .slice A n n, .slice none 0 0] := by
    have h := Holds.fresh (oddW w) 27 #[.int .u8 (T : Int), .slice A n n, .slice none 0 0]
    have e : (oddW w).heap.size = w.heap.size + 1 + 1 + 1 + 1 + 1 + 1 + 1 + 1 + 1 + 1 + 1 + 1 := by unfold oddW; simp
    rw [e] at h
    exact h
  have HA0 : Hid (Below (oddW w).heap.size (oddW w) ((oddW w).alloc (.cells #[.int .u8 (T : Int), .slice A n n, .slice none 0 0] 27))) := Lib.hid ((Below.refl _ _).alloc (Nat.le_refl _) _)
  have HB0 := Lib.hid ((odd_below w).trans (HA0.out.mono (odd_below w).size))
  have z0 := hz0.cell 0
  have z1 := hz0.cell 1
  have z2 := hz0.cell 2
  unfold oddW at z0 z1 z2
  clear hT ho hrow
  go_enter Tryd.func4, Tryd.ntmps4
  go_wp2_with fail
  have hc0 := getSmall_any ((oddW w).alloc (.cells #[.int .u8 (T : Int), .slice A n n, .slice none 0 0] 27)) T n n 0 0 _ A none b (HO.out.rd.under HA0.out) HO.out.hn HA0.out.size HO.out.ho
  rw [HO.out.sm] at hc0
  have HC0 := Lib.hid hc0
  clear hc0
  refine HC0.out.mono ?_
  rintro e w1 ⟨rfl, hb⟩
  have HA1 := Lib.hid (HA0.out.trans (hb.mono HA0.out.size))
  have HB1 := Lib.hid (HB0.out.trans (hb.mono HB0.out.size))
  have hz1 := hz0.under hb hz0.lt
  have z0 := hz1.cell 0
  have z1 := hz1.cell 1
  have z2 := hz1.cell 2
  clear hb HC0 hz0
  go_wp2_with fail
  have hc1 := getBool_any w1 T n n 0 0 _ A none b (HO.out.rd.under HA1.out) HO.out.hn HA1.out.size
  rw [HO.out.bo] at hc1
  have HC1 := Lib.hid hc1
  clear hc1
  refine HC1.out.mono ?_
  rintro e w2 ⟨rfl, hb⟩
  have HA2 := Lib.hid (HA1.out.trans (hb.mono HA1.out.size))
  have HB2 := Lib.hid (HB1.out.trans (hb.mono HB1.out.size))
  have hz2 := hz1.under hb hz1.lt
  have z0 := hz2.cell 0
  have z1 := hz2.cell 1
  have z2 := hz2.cell 2
  clear hb HC1 hz1
  go_wp2_with fail
  have hc2 := getText_any w2 T n n 0 0 _ A none b (HO.out.rd.under HA2.out) HO.out.hn HA2.out.size HO.out.ho (Utf8Tabs_below HT.out HB2.out)
  rw [HO.out.tx] at hc2
  have HC2 := Lib.hid hc2
  clear hc2
  refine HC2.out.mono ?_
  rintro e w3 ⟨rfl, hb⟩
  have HA3 := Lib.hid (HA2.out.trans (hb.mono HA2.out.size))
  have HB3 := Lib.hid (HB2.out.trans (hb.mono HB2.out.size))
  have hz3 := hz2.under hb hz2.lt
  have z0 := hz3.cell 0
  have z1 := hz3.cell 1
  have z2 := hz3.cell 2
  clear hb HC2 hz2
  go_wp2_with fail
  have hc3 := getID_any w3 T n n 0 0 _ A none b (HO.out.rd.under HA3.out) HO.out.hn HA3.out.size HO.out.ho
  rw [HO.out.id] at hc3
  have HC3 := Lib.hid hc3
  clear hc3
  refine HC3.out.mono ?_
  rintro e w4 ⟨rfl, hb⟩
  have HA4 := Lib.hid (HA3.out.trans (hb.mono HA3.out.size))
  have HB4 := Lib.hid (HB3.out.trans (hb.mono HB3.out.size))
  have hz4 := hz3.under hb hz3.lt
  have z0 := hz4.cell 0
  have z1 := hz4.cell 1
  have z2 := hz4.cell 2
  clear hb HC3 hz3
  go_wp2_with fail
  have hc4 := getBits_any w4 T n n 0 0 _ A none b (HO.out.rd.under HA4.out) HO.out.hn HA4.out.size (Nat.le_trans HO.out.h65 (by decide))
  rw [HO.out.bi] at hc4
  have HC4 := Lib.hid hc4
  clear hc4
  refine HC4.out.mono ?_
  rintro e w5 ⟨rfl, hb⟩
  have HA5 := Lib.hid (HA4.out.trans (hb.mono HA4.out.size))
  have HB5 := Lib.hid (HB4.out.trans (hb.mono HB4.out.size))
  have hz5 := hz4.under hb hz4.lt
  have z0 := hz5.cell 0
  have z1 := hz5.cell 1
  have z2 := hz5.cell 2
  clear hb HC4 hz4
  go_wp2_with fail
  have hc5 := getOct_any w5 T n n 0 0 _ A none b (HO.out.rd.under HA5.out) HO.out.hn HA5.out.size (Nat.le_trans HO.out.h65 (by decide))
  rw [HO.out.oc] at hc5
  have HC5 := Lib.hid hc5
  clear hc5
  refine HC5.out.mono ?_
  rintro e w6 ⟨rfl, hb⟩
  have HA6 := Lib.hid (HA5.out.trans (hb.mono HA5.out.size))
  have HB6 := Lib.hid (HB5.out.trans (hb.mono HB5.out.size))
  have hz6 := hz5.under hb hz5.lt
  have z0 := hz6.cell 0
  have z1 := hz6.cell 1
  have z2 := hz6.cell 2
  clear hb HC5 hz5
  go_wp2_with fail
  refine (known_any _).mono ?_
  rintro e w7 ⟨rfl, hb⟩
  have HB7 := Lib.hid (HB6.out.trans (hb.mono HB6.out.size))
  clear hb
  go_wp2_with fail
  go_ret
  exact ⟨rfl, HB7.out⟩
set_option maxRecDepth 100000 in
set_option maxHeartbeats 8000000 in
theorem law_odd (w : World) (hT : Lib.Utf8Tabs 0 1 w) (k : Int) (hk : -9223372036854775808 ≤ k ∧ k ≤ 9223372036854775807) :
    Calls Tryd.prog 4 #[.int .i64 k] w fun e w' => e = .returned (.bool true) ∧ Below w.heap.size w w' := by
  by_cases h0 : 0 ≤ k ∧ k < 15
  · obtain ⟨m, rfl⟩ : ∃ m : Nat, k = (m : Int) := ⟨k.toNat, by omega⟩
    exact odd_yes w hT m (by omega)
  have hmk : ∀ w, (Instr.makeSlice 22 (.int .i64 65) (.int .i64 65)).run Tryd.prog w = .ok (.slice (some ⟨w.heap.size, 0, none⟩) 65 65) (w.alloc (.cells (Array.replicate 65 (.int .u8 0)) 5)) := fun _ => by kernel_rfl
  have HB : Hid (Below w.heap.size w (oddW w)) := Lib.hid (odd_below w)
  rcases (by omega : k < 0 ∨ (0 ≤ k ∧ 15 ≤ k)) with h | ⟨h, h'⟩
  · have d1 : decide (k < 0) = true := decide_eq_true h
    clear hT h0
    go_enter Tryd.func4, Tryd.ntmps4
    go_wp2_with fail
    go_ret
    exact ⟨rfl, HB.out⟩
  · have d1 : decide (k < 0) = false := decide_eq_false (by omega)
    have d2 : decide ((15 : Int) ≤ k) = true := decide_eq_true h'
    clear hT h0
    go_enter Tryd.func4, Tryd.ntmps4
    go_wp2_with fail
    go_ret
    exact ⟨rfl, HB.out⟩
end Go.Proofs.YtogbeiifnhegiaaDoor
