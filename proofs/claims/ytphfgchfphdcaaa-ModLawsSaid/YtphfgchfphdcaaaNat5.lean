/-
  A number out of bytes, and back: by nat, and by the document's own reckoning.
-/
import Derived.Test.YtphfgchfphdcaaaNat4
import Derived.RegionTactic
import Derived.ChangeAlike
import Derived.Laws.BitsAllLaws
namespace Go.Proofs.Ytphfgchfphdcaaa
open Go.RowKit
set_option linter.unusedVariables false

/-- The digits of bytes, the highest byte first. -/
def words (b : List Nat) : List Nat := (List.range ((b.length + 3) / 4)).map (part b.reverse 0)

theorem words_length (b : List Nat) : (words b).length = (b.length + 3) / 4 := by simp [words]
theorem words_at (b : List Nat) {j : Nat} (h : j < (b.length + 3) / 4) : (words b).getD j 0 = part b.reverse 0 j := by
  simp [words, List.getD, h]
theorem words_dg {b : List Nat} (h : Oct b.reverse) : Dg (words b) := fun x hx => by
  obtain ⟨j, _, rfl⟩ := List.mem_map.1 hx
  exact part_dg h 0 j
theorem words_eq {b L : List Nat} (hl : L.length = (b.length + 3) / 4) (h : ∀ j, j < L.length → L.getD j 0 = part b.reverse 0 j) : L = words b := by
  apply List.ext_getElem
  · rw [hl, words_length]
  · intro j j1 j2
    have e1 := h j j1
    have e2 := words_at b (j := j) (by omega)
    rw [← e2] at e1
    simpa [List.getD, j1, j2] using e1
theorem or_val {r : List Nat} (ho : Oct r) {k x y : Nat} (hx : x = r.getD k 0) (hy : y = part r (k + 1) (k / 4)) : bits .or .u32 (y : Int) ((x : Int) * 2 ^ (k % 4 * 8) % 4294967296) = ((part r k (k / 4) : Nat) : Int) := by
  have hx' : x < 256 := by rw [hx]; exact ho k
  have hs := shl_nat x (k % 4) hx' (Nat.mod_lt _ (by omega))
  have e1 : ((x : Int) * 2 ^ (k % 4 * 8) % 4294967296) = ((x * 2 ^ (8 * (k % 4)) : Nat) : Int) := by
    have e2 : ((x : Int) * 2 ^ (k % 4 * 8)) = ((x * 2 ^ (8 * (k % 4)) : Nat) : Int) := by rw [Nat.mul_comm 8]; push_cast; rfl
    rw [e2]
    omega
  rw [e1, u32_or_nat y _ (by rw [hy]; exact part_dg ho _ _) hs, ← part_step ho k, ← hx, ← hy, Nat.shiftLeft_eq]
theorem or_val' {r : List Nat} (ho : Oct r) {k x y : Nat} (hx : x = r.getD k 0) (hy : y = part r (k + 1) (k / 4)) : bits .or .u32 (y : Int) ((x : Int) * 2 ^ (8 * (k % 4)) % 4294967296) = ((part r k (k / 4) : Nat) : Int) := by
  rw [← or_val ho hx hy, Nat.mul_comm 8]
theorem put_at {r L : List Nat} {k : Nat} (h : ∀ j, j < L.length → L.getD j 0 = part r (k + 1) j) (hk : k / 4 < L.length) : ∀ j, j < (L.set (k / 4) (part r k (k / 4))).length → (L.set (k / 4) (part r k (k / 4))).getD j 0 = part r k j := by
  intro j hj
  rw [List.length_set] at hj
  by_cases e : j = k / 4
  · subst e
    simp [List.getD, hk]
  · rw [← part_far r k j e, ← h j hj]
    simp [List.getD, List.getElem?_set_ne (by omega : k / 4 ≠ j)]

theorem start_at (l : List Nat) : ∀ j, j < (List.replicate ((l.length + 3) / 4) 0).length → (List.replicate ((l.length + 3) / 4) 0).getD j 0 = part l.reverse (l.length - 0) j := by
  intro j hj
  have hz : ∀ k, l.length ≤ k → l.reverse.getD k 0 = 0 := fun k hk => by rw [List.getD, List.getElem?_eq_none (by simpa using hk)]; rfl
  have e : ∀ k, (if l.length - 0 ≤ k then l.reverse.getD k 0 else 0) = 0 := fun k => by
    split
    · exact hz k (by omega)
    · rfl
  unfold part
  rw [e, e, e, e]
  have hj' : j < (l.length + 3) / 4 := by simpa using hj
  simp [List.getD, hj']

end Go.Proofs.Ytphfgchfphdcaaa
