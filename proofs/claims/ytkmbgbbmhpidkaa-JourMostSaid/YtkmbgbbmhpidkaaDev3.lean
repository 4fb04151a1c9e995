/-
  A sector read.
-/
import Derived.Test.YtkmbgbbmhpidkaaDev2
import Derived.Laws.IdiomCopy
namespace Go.Proofs.Ytkmbgbbmhpidkaa
open Go.RowKit
set_option linter.unusedVariables false

theorem info_u8 : (Try.prog.info? 5).map (fun i => (i.zero, i.size, i.bytes)) = some (some (.int .u8 0), 1, 1) := by kernel_rfl
theorem size_u8 : (Try.prog.info? 5).map (·.size) = some 1 := by kernel_rfl
def zrow : Array Value := nums .u8 zsec
theorem make_row (W : World) : (Instr.makeSlice 40 (.int .i64 64) (.int .i64 64)).run Try.prog W = .ok (.slice (some ⟨W.heap.size, 0, none⟩) 64 64) (W.alloc (.cells zrow 5)) := by
  obtain ⟨i, hi, hz, hsize, hbytes⟩ := info_parts info_u8
  have h := run_make (P := Try.prog) W 40 5 i (.int .u8 0) Try.underlying40 hi hz .i64 .i64 64 64 (by omega) (Int.le_refl _) (by rw [hbytes]; omega) (by omega)
  rw [hsize] at h
  have e : (madeCells (Value.int .u8 0).cells (Int.toNat 64 * 1)) = zrow := (nums_noughts .u8 64).symm
  rw [e] at h
  exact h
/-- A whole row laid over a row of as many. -/
theorem row_setCells {w : World} {g : Nat} {T : TypeId} {l x : List Nat} (h : Row .u8 T w g l) (hl : x.length = l.length) : Row .u8 T (w.setCells g 0 (vals .u8 x)) g x := by
  obtain ⟨cur', a1, a2, a3, a4⟩ := setCells_whole (vals .u8 x) 0 w (nums .u8 l) h (by rw [vals_length, nums_size]; omega)
  have e : cur' = nums .u8 x := by
    apply Array.ext_getElem?
    intro j
    rcases Nat.lt_or_ge j x.length with hj | hj
    · have := a4 j (by rw [vals_length]; exact hj)
      rw [Nat.zero_add] at this
      rw [this, nums_at .u8 x hj, vals_at .u8 x hj]
    · rw [Array.getElem?_eq_none (by rw [a2, nums_size]; omega), Array.getElem?_eq_none (by rw [nums_size]; omega)]
  show _ = _
  rw [a1, e]
theorem row_there {w : World} {g : Nat} {T : TypeId} {l : List Nat} (h : Row .u8 T w g l) {n : Nat} (hn : n ≤ l.length) : w.there g 0 n := fun j hj =>
  ⟨by rw [Nat.zero_add, h.cell (by omega)]; rfl, h.open_ _⟩

theorem copy_row (W : World) (b b2 o2 : Nat) (x : List Nat) (hx : x.length = 64) (hr : W.rangeAt b2 o2 (vals .u8 x)) (ht : W.there b 0 64) :
    (Builtin.copy_ #[40, 40] 3 #[.slice (some ⟨b, 0, none⟩) 64 64, .slice (some ⟨b2, o2, none⟩) 64 64]).run Try.prog W = .ok (.int .i64 64) (W.setCells b 0 (vals .u8 x)) := by
  have h := run_copy_cells (P := Try.prog) W 40 40 3 5 b 0 64 64 ⟨b2, o2, none⟩ 64 64 (vals .u8 x) Try.underlying40 size_u8 (by rw [vals_length, hx]; rfl) (fun j v hv => by rw [Addr.add_mid]; exact hr j v hv)
    (fun j hj => (ht j (by rw [vals_length] at hj; omega)).1) (fun j hj => (ht j (by rw [vals_length] at hj; omega)).2) (vals_one _ _)
  rw [vals_length, hx] at h
  exact h

set_option maxRecDepth 100000 in
theorem read_no (w : World) (gd gn gl : Nat) (A : Option Addr) (cw : Nat) (K : Option Addr) (ck : Nat) (s : Dk) (h : DiskAt w gd gn gl A cw K ck s) (i : Int) (hi : ¬ (0 ≤ i ∧ i < (s.now.length : Int))) :
    Calls Try.prog 46 #[.pointer (some ⟨gd, 0, none⟩), .int .i64 i] w fun e w' => e = .returned (.slice none 0 0) ∧ w = w' := by
  have c0 : w.cell? ⟨gd, 0, none⟩ = some (.slice (some ⟨gn, 0, none⟩) s.now.length s.now.length) := h.hd.cell 0
  have HC := Lib.hid (has_any w gd _ _ _ i c0 false (by rw [Bool.eq_iff_iff]; simp; omega))
  clear h c0
  go_enter Try.func46, Try.ntmps46
  go_wp2_with (refine HC.out.mono ?_; rintro e w1 ⟨rfl, rfl⟩)
  go_ret
  exact ⟨rfl, rfl⟩
set_option maxRecDepth 100000 in
theorem read_yes (w : World) (gd gn gl : Nat) (A : Option Addr) (cw : Nat) (K : Option Addr) (ck : Nat) (s : Dk) (h : DiskAt w gd gn gl A cw K ck s) (i : Nat) (x : List Nat) (hx : s.now[i]? = some x) :
    Calls Try.prog 46 #[.pointer (some ⟨gd, 0, none⟩), .int .i64 i] w fun e w' => e = .returned (.slice (some ⟨w.heap.size, 0, none⟩) 64 64) ∧ Row .u8 5 w' w.heap.size x ∧ Below w.heap.size w w' := by
  have hin : i < s.now.length := (List.getElem?_eq_some_iff.1 hx).1
  have hlen := h.hn.len hx
  have c0 : w.cell? ⟨gd, 0, none⟩ = some (.slice (some ⟨gn, 0, none⟩) s.now.length s.now.length) := h.hd.cell 0
  have HC := Lib.hid (has_any w gd _ _ _ i c0 true (by rw [Bool.eq_iff_iff]; simp; omega))
  have hlt := Holds.lt h.hd
  have c1 : (w.alloc (.cells zrow 5)).cell? ⟨gd, 0, none⟩ = some (.slice (some ⟨gn, 0, none⟩) s.now.length s.now.length) := (h.hd.alloc _).cell 0
  have hrow : Row .u8 5 (w.alloc (.cells zrow 5)) w.heap.size zsec := Holds.fresh _ _ _
  have hrange := World.rangeAt_alloc (h.hn.range hx) (.cells zrow 5)
  have hb : Below w.heap.size w (w.alloc (.cells zrow 5)) := (Below.refl _ _).alloc (Nat.le_refl _) _
  have hmk := make_row
  have hcp := copy_row (w.alloc (.cells zrow 5)) w.heap.size gn (i * 64) x hlen hrange (row_there hrow (Nat.le_refl _))
  have hi0 : (0 : Int) ≤ (i : Int) := by omega
  have hiI : (i : Int) < (s.now.length : Int) := by omega
  generalize s.now.length = n at *
  clear h c0 hx
  have HL := Lib.hid hlen
  clear hlen
  go_enter Try.func46, Try.ntmps46
  go_wp2_with (refine HC.out.mono ?_; rintro e w1 ⟨rfl, rfl⟩)
  go_ret
  refine ⟨rfl, row_setCells hrow (by rw [HL.out]; rfl), ?_⟩
  exact (Only.setCells (F := fun k => w.heap.size ≤ k) (.inl (Nat.le_refl _)) _ 0 (Only.of_below hb)).below (fun k hk => hk) (Nat.le_refl _)
end Go.Proofs.Ytkmbgbbmhpidkaa
