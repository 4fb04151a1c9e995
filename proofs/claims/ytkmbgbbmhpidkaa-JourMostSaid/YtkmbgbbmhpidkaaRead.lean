/-
  A slice that reads as a list of natural numbers, nil let in; what keeps it.
-/
import Derived.Test.YtkmbgbbmhpidkaaMem
import Derived.Test.YtkmbgbbmhpidkaaPure
namespace Go.Proofs.Ytkmbgbbmhpidkaa
open Go.RowKit

/-- The slice '.slice A l.length c' reads as the numbers l of kind k; its cells lie below block B. -/
def Rd (k : IntKind) (w : World) (B : Nat) (A : Option Addr) (c : Nat) (l : List Nat) : Prop :=
  l.length ≤ c ∧ c ≤ 9223372036854775807 ∧ (0 < l.length → ∃ b off, A = some ⟨b, off, none⟩ ∧ b < B ∧ ∀ j, j < l.length → w.cell? ⟨b, off + j, none⟩ = some (.int k ((l.getD j 0 : Nat) : Int)))

section
variable {k : IntKind} {w w' : World} {B B' : Nat} {A : Option Addr} {c : Nat} {l : List Nat}
theorem Rd.at_ (h : Rd k w B A c l) {i : Nat} (hi : i < l.length) : ∃ b off x, A = some ⟨b, off, none⟩ ∧ b < B ∧ w.cell? ⟨b, off + i, none⟩ = some (.int k ((x : Nat) : Int)) ∧ Hid (x = l.getD i 0) := by
  obtain ⟨b, off, e, hb, hc⟩ := h.2.2 (by omega)
  exact ⟨b, off, _, e, hb, hc i hi, rfl⟩
theorem Rd.nil_ (k : IntKind) (w : World) (B : Nat) : Rd k w B none 0 [] := ⟨by simp, by omega, fun h => by simp at h⟩
theorem Rd.keep (h : Rd k w B A c l) (hk : ∀ b o, b < B → w'.cell? ⟨b, o, none⟩ = w.cell? ⟨b, o, none⟩) : Rd k w' B A c l :=
  ⟨h.1, h.2.1, fun hn => by
    obtain ⟨b, off, e, hb, hc⟩ := h.2.2 hn
    exact ⟨b, off, e, hb, fun j hj => (hk _ _ hb).trans (hc j hj)⟩⟩
theorem Rd.more (h : Rd k w B A c l) (hB : B ≤ B') : Rd k w B' A c l :=
  ⟨h.1, h.2.1, fun hn => by
    obtain ⟨b, off, e, hb, hc⟩ := h.2.2 hn
    exact ⟨b, off, e, by omega, hc⟩⟩
theorem Rd.under (h : Rd k w B A c l) (hb : Below B w w') : Rd k w' B A c l := h.keep fun b o hlt => hb.cell (p := ⟨b, o, none⟩) hlt
theorem Rd.alloc (h : Rd k w B A c l) (hB : B ≤ w.heap.size) (o : Obj) : Rd k (w.alloc o) B A c l := h.keep fun b o' hb => World.cell?_alloc_past _ b o' (by omega)
theorem Rd.drewN (h : Rd k w B A c l) (n : Nat) : Rd k (w.drewN n) B A c l := h
theorem Rd.cut (h : Rd k w B A c l) (n : Nat) : Rd k w B A c (l.take n) := by
  refine ⟨by have := h.1; simp; omega, h.2.1, fun hn => ?_⟩
  have hl : 0 < l.length := by simp at hn; omega
  obtain ⟨b, off, e, hb, hc⟩ := h.2.2 hl
  refine ⟨b, off, e, hb, fun j hj => ?_⟩
  have hj' : j < n ∧ j < l.length := by simp at hj; omega
  rw [hc j hj'.2]
  simp [List.getD, hj'.1]
end

/-- Numbers as cells. -/
def nums (k : IntKind) (l : List Nat) : Array Value := (l.map fun x : Nat => Value.int k (x : Int)).toArray
theorem nums_size (k : IntKind) (l : List Nat) : (nums k l).size = l.length := by simp [nums]
theorem nums_at (k : IntKind) (l : List Nat) {i : Nat} (h : i < l.length) : (nums k l)[i]? = some (.int k ((l.getD i 0 : Nat) : Int)) := by
  simp [nums, List.getD, h]
theorem nums_set (k : IntKind) (l : List Nat) (i x : Nat) : (nums k l).setIfInBounds i (.int k (x : Int)) = nums k (l.set i x) := by
  simp [nums, List.map_set]
theorem nums_noughts (k : IntKind) (n : Nat) : nums k (List.replicate n 0) = madeCells #[.int k 0] n := by
  apply Array.ext'
  simp only [nums, madeCells, List.map_replicate]
  apply List.ext_getElem <;> simp [Nat.mod_one]

/-- Block g is the numbers l. -/
def Row (k : IntKind) (T : TypeId) (w : World) (g : Nat) (l : List Nat) : Prop := Holds w g T (nums k l)
section
variable {k : IntKind} {T : TypeId} {w w' : World} {g : Nat} {l : List Nat}
theorem Row.cell (h : Row k T w g l) {i : Nat} (hi : i < l.length) : w.cell? ⟨g, i, none⟩ = some (.int k ((l.getD i 0 : Nat) : Int)) := (Holds.cell h i).trans (nums_at k l hi)
theorem Row.open_ (h : Row k T w g l) : ∀ i, w.frozen? ⟨g, i, none⟩ = false := Holds.open_ h
theorem Row.set (h : Row k T w g l) (i x : Nat) : Row k T (w.setCell ⟨g, i, none⟩ (.int k (x : Int))) g (l.set i x) := by
  have := Holds.stored h i (.int k (x : Int))
  rw [nums_set] at this
  exact this
theorem Row.rd (h : Row k T w g l) {n c : Nat} (hn : n ≤ l.length) (hc : n ≤ c) (h63 : c ≤ 9223372036854775807) : Rd k w (g + 1) (some ⟨g, 0, none⟩) c (l.take n) := by
  refine ⟨by simp; omega, h63, fun _ => ⟨g, 0, rfl, by omega, fun j hj => ?_⟩⟩
  have hj' : j < n := by simp at hj; omega
  rw [Nat.zero_add, h.cell (by omega)]
  simp [List.getD, hj']
end
end Go.Proofs.Ytkmbgbbmhpidkaa
