/-
  The law's own example, and the law of bytes: any bytes' number, and back.
-/
import Derived.Test.YtphfgchfphdcaaaNat7
import Derived.WalkSmall
namespace Go.Proofs.Ytphfgchfphdcaaa
open Go.RowKit
set_option linter.unusedVariables false

theorem num_known : numOf [1, 0, 0, 0, 0] = [0, 1] := by decide +kernel
theorem out_known : out [0, 1] 6 = [0, 1, 0, 0, 0, 0] := by decide +kernel
theorem fits_known : fits [0, 1] 6 = true := by decide +kernel
theorem nb_known : nb (trl [0, 1]) = 33 := by decide +kernel
theorem dg_known : Dg [0, 1] := fun x hx => by simp at hx; omega
theorem str_known : ((str [0, 1, 0, 0, 0, 0]).toList == [0, 1, 0, 0, 0, 0]) = true := by decide +kernel
theorem Fresh.rd {k : IntKind} {T : TypeId} {w' : World} {B : Nat} {A : Option Addr} {c : Nat} {r : List Nat} (h : Fresh k T w' B A c r) : Rd k w' w'.heap.size A c r := h.1

end Go.Proofs.Ytphfgchfphdcaaa
