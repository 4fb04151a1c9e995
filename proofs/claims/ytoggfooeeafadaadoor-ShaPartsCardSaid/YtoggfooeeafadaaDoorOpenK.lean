/-
  The words K out of the row's condition.
-/
import Derived.Test.YtoggfooeeafadaaDoorRows
import Derived.Test.YtoggfooeeafadaaDoorSha4
import Derived.Lib.LaidTab
import Derived.Lay
import Derived.LaidMore
import Derived.LaidOnce
import Derived.MakeChecks
namespace Go.Proofs.YtoggfooeeafadaaDoor
open Go.RowKit
set_option linter.unusedVariables false

theorem k_data : (Rows.laid_apostille_sha_k : DataW Unit) = Lib.tabData .u32 (KL.map fun x : Nat => (x : Int)) := rfl
theorem kmet_of {W : World} (h : laidMetH Tryd.prog [("apostille/sha.k", Rows.laid_apostille_sha_k)] W) : KMet W := by
  rw [MakeChecks.laidMetH_plain _ _ _ (by kernel_rfl), k_data] at h
  have hT := Lib.tabIs_of_head (P := Tryd.prog) (g := 0) (t := 39) (e := 27) (n := 64) (by kernel_rfl) (by kernel_rfl) Tryd.underlying39 Tryd.underlying27 (by kernel_rfl) (by kernel_rfl) h
  have hc : ∀ t, t < 64 → W.cell? ⟨0, t, none⟩ = some (.int .u32 ((KL.getD t 0 : Nat) : Int)) := fun t ht => by
    have hg0 : Tryd.prog.globalNamed "apostille/sha.k" = some 0 := by kernel_rfl
    have := hT.cell hg0 t (by exact ht)
    rw [this]
    congr 2
    simp [List.getD, show t < KL.length from ht]
  exact ⟨World.block_lt_of_cell? W _ (hc 0 (by omega)), hc⟩
end Go.Proofs.YtoggfooeeafadaaDoor
