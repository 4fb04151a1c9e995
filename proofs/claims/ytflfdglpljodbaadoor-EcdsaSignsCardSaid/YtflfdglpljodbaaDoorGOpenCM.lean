/-
  The field's three constants out of the row's condition.
-/
import Derived.Test.YtflfdglpljodbaaDoorRows
import Derived.Test.YtflfdglpljodbaaDoorGCvA
import Derived.Lib.LaidTab
import Derived.Lay
import Derived.LaidMore
import Derived.LaidOnce
import Derived.MakeChecks
namespace Go.Proofs.YtflfdglpljodbaaDoor
open Go.RowKit
set_option linter.unusedVariables false
theorem laid_tail {P:Program} {W:World} {x:String×DataW Unit} {rest:List (String×DataW Unit)} (h:laidMet P (x :: rest) W):laidMet P rest W:=by
 obtain ⟨ps,⟨g',t',cs,fuel,p,q,hg',ht',hvar,hd,hq,rfl⟩,hnd,hc⟩:=h
 exact ⟨q,hq,(List.nodup_append.1 hnd).2.1,fun b off hm=>hc b off (List.mem_append_right _ hm)⟩
theorem prime_data:(Rows.laid_apostille_curve_prime:DataW Unit)=Lib.tabData .u64 (pL.map fun x:Nat=>(x:Int)):=rfl
theorem square_data:(Rows.laid_apostille_curve_square:DataW Unit)=Lib.tabData .u64 (sL.map fun x:Nat=>(x:Int)):=rfl
theorem unit_data:(Rows.laid_apostille_curve_unit:DataW Unit)=Lib.tabData .u64 (uL.map fun x:Nat=>(x:Int)):=rfl
theorem prime_cells {W : World} {rest : List (String × DataW Unit)} (h : laidMet Tryd.prog (("apostille/curve.prime", Rows.laid_apostille_curve_prime) :: rest) W) :
  2 < W.heap.size∧∀ t,t<4→W.cell? ⟨2,t,none⟩=some (.int .u64 ((pL.getD t 0:Nat):Int)):=by
 rw [prime_data] at h
 have hT:=Lib.tabIs_of_head (P:=Tryd.prog) (g:=2) (t:=67) (e:=65) (n:=4) (by kernel_rfl) (by kernel_rfl) Tryd.underlying67 Tryd.underlying65 (by kernel_rfl) (by kernel_rfl) h
 have hc:∀ t,t<4→W.cell? ⟨2,t,none⟩=some (.int .u64 ((pL.getD t 0:Nat):Int)):=fun t ht=>by
  have hg0 : Tryd.prog.globalNamed "apostille/curve.prime" = some 2 := by kernel_rfl
  have:=hT.cell hg0 t (by exact ht)
  rw [this]
  congr 2
  simp [List.getD,show t<pL.length from ht]
 exact ⟨World.block_lt_of_cell? W _ (hc 0 (by omega)),hc⟩
theorem square_cells {W : World} {rest : List (String × DataW Unit)} (h : laidMet Tryd.prog (("apostille/curve.square", Rows.laid_apostille_curve_square) :: rest) W) :
  1 < W.heap.size∧∀ t,t<4→W.cell? ⟨1,t,none⟩=some (.int .u64 ((sL.getD t 0:Nat):Int)):=by
 rw [square_data] at h
 have hT:=Lib.tabIs_of_head (P:=Tryd.prog) (g:=1) (t:=67) (e:=65) (n:=4) (by kernel_rfl) (by kernel_rfl) Tryd.underlying67 Tryd.underlying65 (by kernel_rfl) (by kernel_rfl) h
 have hc:∀ t,t<4→W.cell? ⟨1,t,none⟩=some (.int .u64 ((sL.getD t 0:Nat):Int)):=fun t ht=>by
  have hg0 : Tryd.prog.globalNamed "apostille/curve.square" = some 1 := by kernel_rfl
  have:=hT.cell hg0 t (by exact ht)
  rw [this]
  congr 2
  simp [List.getD,show t<sL.length from ht]
 exact ⟨World.block_lt_of_cell? W _ (hc 0 (by omega)),hc⟩
theorem unit_cellsL {W : World} {rest : List (String × DataW Unit)} (h : laidMet Tryd.prog (("apostille/curve.unit", Rows.laid_apostille_curve_unit) :: rest) W) :
  0 < W.heap.size∧∀ t,t<4→W.cell? ⟨0,t,none⟩=some (.int .u64 ((uL.getD t 0:Nat):Int)):=by
 rw [unit_data] at h
 have hT:=Lib.tabIs_of_head (P:=Tryd.prog) (g:=0) (t:=67) (e:=65) (n:=4) (by kernel_rfl) (by kernel_rfl) Tryd.underlying67 Tryd.underlying65 (by kernel_rfl) (by kernel_rfl) h
 have hc:∀ t,t<4→W.cell? ⟨0,t,none⟩=some (.int .u64 ((uL.getD t 0:Nat):Int)):=fun t ht=>by
  have hg0 : Tryd.prog.globalNamed "apostille/curve.unit" = some 0 := by kernel_rfl
  have:=hT.cell hg0 t (by exact ht)
  rw [this]
  congr 2
  simp [List.getD,show t<uL.length from ht]
 exact ⟨World.block_lt_of_cell? W _ (hc 0 (by omega)),hc⟩
theorem cmet_of {W : World} (h : laidMetH Tryd.prog [("apostille/curve.prime", Rows.laid_apostille_curve_prime), ("apostille/curve.square", Rows.laid_apostille_curve_square), ("apostille/curve.unit", Rows.laid_apostille_curve_unit)] W) : CMet W := by
 rw [MakeChecks.laidMetH_plain _ _ _ (by kernel_rfl)] at h
 exact ⟨prime_cells h,square_cells (laid_tail h),unit_cellsL (laid_tail (laid_tail h))⟩
end Go.Proofs.YtflfdglpljodbaaDoor
