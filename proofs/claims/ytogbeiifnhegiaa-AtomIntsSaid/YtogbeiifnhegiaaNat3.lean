/-
  Sums: by nat, and by the document's own reckoning.
-/
import Derived.Test.YtogbeiifnhegiaaNat2
namespace Go.Proofs.Ytogbeiifnhegiaa
open Go.RowKit
set_option linter.unusedVariables false

theorem info_u32 : (Try.prog.info? 40).map (fun i => (i.zero, i.size, i.bytes)) = some (some (.int .u32 0), 1, 4) := by kernel_rfl
theorem info_u8 : (Try.prog.info? 5).map (fun i => (i.zero, i.size, i.bytes)) = some (some (.int .u8 0), 1, 1) := by kernel_rfl
/-- What 'make' lays: noughts. -/
theorem make_nat (z : Int) (n : Nat) (hz : z = n) (hn : n ≤ 1000000) (W : World) : (Instr.makeSlice 23 (.int .i64 z) (.int .i64 z)).run Try.prog W = .ok (.slice (some ⟨W.heap.size, 0, none⟩) n n) (W.alloc (.cells (nums .u32 (List.replicate n 0)) 40)) := by
  obtain ⟨i0, hi, hz0, hz1, hz2⟩ := info_parts info_u32
  have h := run_make (P := Try.prog) W 23 40 i0 (.int .u32 0) Try.underlying23 hi hz0 .i64 .i64 (n : Int) (n : Int) (by omega) (by omega) (by rw [hz2]; omega) (by omega)
  rw [hz, h, hz1, nums_noughts]
  simp [Value.cells]
theorem make_bytes (z : Int) (n : Nat) (hz : z = n) (hn : n ≤ 1000000) (W : World) : (Instr.makeSlice 26 (.int .i64 z) (.int .i64 z)).run Try.prog W = .ok (.slice (some ⟨W.heap.size, 0, none⟩) n n) (W.alloc (.cells (nums .u8 (List.replicate n 0)) 5)) := by
  obtain ⟨i0, hi, hz0, hz1, hz2⟩ := info_parts info_u8
  have h := run_make (P := Try.prog) W 26 5 i0 (.int .u8 0) Try.underlying26 hi hz0 .i64 .i64 (n : Int) (n : Int) (by omega) (by omega) (by rw [hz2]; omega) (by omega)
  rw [hz, h, hz1, nums_noughts]
  simp [Value.cells]

/-- An answer in new memory: the digits r, writable. -/
def Fresh (k : IntKind) (T : TypeId) (w' : World) (B : Nat) (A : Option Addr) (c : Nat) (r : List Nat) : Prop :=
  Rd k w' w'.heap.size A c r ∧ (0 < r.length → ∃ g L, A = some ⟨g, 0, none⟩ ∧ B ≤ g ∧ Row k T w' g L ∧ r = L.take r.length)

theorem fresh_row {k : IntKind} {T : TypeId} {w' : World} {B g n c : Nat} {L : List Nat} (h : Row k T w' g L) (hB : B ≤ g) (hn : n ≤ L.length) (hc : n ≤ c) (h63 : c ≤ 9223372036854775807) : Fresh k T w' B (some ⟨g, 0, none⟩) c (L.take n) :=
  ⟨(h.rd hn hc h63).more (Holds.lt h), fun _ => ⟨g, L, rfl, hB, h, by rw [List.length_take, Nat.min_eq_left hn]⟩⟩

theorem fresh_trl {k : IntKind} {T : TypeId} {w' : World} {B g c : Nat} {L : List Nat} (h : Row k T w' g L) (hB : B ≤ g) (hc : L.length ≤ c) (h63 : c ≤ 9223372036854775807) : Fresh k T w' B (some ⟨g, 0, none⟩) c (trl L) :=
  fresh_row h hB (tlen_le L _) (Nat.le_trans (tlen_le L _) hc) h63
theorem rd_whole {k : IntKind} {T : TypeId} {w : World} {g c : Nat} {L : List Nat} (h : Row k T w g L) (hc : L.length ≤ c) (h63 : c ≤ 9223372036854775807) : Rd k w (g + 1) (some ⟨g, 0, none⟩) c L := by
  have := h.rd (Nat.le_refl _) hc h63
  rwa [List.take_length] at this

end Go.Proofs.Ytogbeiifnhegiaa
