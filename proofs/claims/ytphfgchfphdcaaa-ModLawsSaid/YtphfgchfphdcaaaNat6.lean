/-
  A number as so many bytes: by nat, and by the document's own reckoning.
-/
import Derived.Test.YtphfgchfphdcaaaNat5
namespace Go.Proofs.Ytphfgchfphdcaaa
open Go.RowKit
set_option linter.unusedVariables false

theorem byte_val {l : List Nat} {k x : Nat} (hx : x = l.getD (k / 4) 0) : ((x : Int) / 2 ^ (k % 4 * 8) % 256) = ((byteAt l k : Nat) : Int) := by
  unfold byteAt
  rw [← hx, Nat.mul_comm 8, Int.natCast_emod, Int.natCast_ediv, Int.natCast_pow]
  rfl
theorem byte_val' {l : List Nat} {k x : Nat} (hx : x = l.getD (k / 4) 0) : ((x : Int) / 2 ^ (8 * (k % 4)) % 256) = ((byteAt l k : Nat) : Int) := by
  rw [← byte_val hx, Nat.mul_comm 8]
theorem fresh_whole {k : IntKind} {T : TypeId} {w' : World} {B g c : Nat} {L : List Nat} (h : Row k T w' g L) (hB : B ≤ g) (hc : L.length ≤ c) (h63 : c ≤ 9223372036854775807) : Fresh k T w' B (some ⟨g, 0, none⟩) c L := by
  have := fresh_row h hB (Nat.le_refl _) hc h63
  rwa [List.take_length] at this

end Go.Proofs.Ytphfgchfphdcaaa
