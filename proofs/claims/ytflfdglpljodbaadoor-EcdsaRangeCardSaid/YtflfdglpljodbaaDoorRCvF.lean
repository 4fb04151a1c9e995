/-
  The program: wide points as points. The program: a sum; a point, many times. The program: a point, many times. Two points that are one; the first point; numbers that are such.
-/
import Derived.Test.YtflfdglpljodbaaDoorRCv19
import Derived.Test.YtflfdglpljodbaaDoorRCvE
import Derived.Test.YtflfdglpljodbaaDoorRCvC
import Derived.Deep.RegionLaw
import Derived.Deep.RegionHeld3
import Derived.Deep.DrawnRows
import Derived.Test.YtflfdglpljodbaaDoorRModM
import Derived.Test.YtflfdglpljodbaaDoorRRefB
namespace Go.Proofs.YtflfdglpljodbaaDoor
open Go.RowKit
set_option linter.unusedVariables false
set_option linter.unusedSimpArgs false
def WdR (Q : Luc.Pt) (w : World) (e : Ending) (w' : World) : Prop :=
  ∃ (j : Luc.Jc) (x0 x1 x2 x3 y0 y1 y2 y3 z0 z1 z2 z3 : Nat), e = .returned (.agg #[.int .u64 (x0 : Int), .int .u64 (x1 : Int), .int .u64 (x2 : Int), .int .u64 (x3 : Int), .int .u64 (y0 : Int), .int .u64 (y1 : Int), .int .u64 (y2 : Int), .int .u64 (y3 : Int), .int .u64 (z0 : Int), .int .u64 (z1 : Int), .int .u64 (z2 : Int), .int .u64 (z3 : Int)]) ∧ (nm (en j.x) = [x0, x1, x2, x3] ∧ nm (en j.y) = [y0, y1, y2, y3] ∧ nm (en j.z) = [z0, z1, z2, z3]) ∧ Luc.Rep j = Q ∧ Below w.heap.size w w'
theorem lB_val : val lB = Luc.cBf.val := by decide +kernel
theorem rhs_on (u v : Luc.F) : v.val * v.val % cP = rhsR u.val ↔ Luc.On u v := by
  have h1 : (v * v).val = v.val * v.val % cP := Fin.val_mul _ _
  have h2 : (u * (u * u) - (u + (u + u)) + Luc.cBf).val = rhsR u.val := by
    unfold rhsR
    rw [lB_val, Fin.val_add]
    show (_ + _) % cP = _
    rw [← sub_val (f := u * (u * u)) (g := u + (u + u)) (a := u.val * (u.val * u.val % cP) % cP) (b := (u.val + (u.val + u.val) % cP) % cP) (by rw [Fin.val_mul, Fin.val_mul]; rfl) (by rw [Fin.val_add, Fin.val_add]; rfl)]
  rw [← h1, ← h2, ← Fin.ext_iff]
  unfold Luc.On
  have e : u * (u * u) - (u + (u + u)) + Luc.cBf = u * u * u - 3 * u + Luc.cBf := by grind
  rw [e]
theorem okN_yes {l : List Nat} (hl : l.length ≤ 8) (hn : nrm l) : okN l = true := by
  unfold okN
  rcases hn with h | h
  · rw [h]; rfl
  · rw [decide_eq_true (show l.length ≤ 256 by omega), beq_eq_false_iff_ne.2 h]; cases decide (l.length = 0) <;> rfl
theorem ptOk_yes {w : World} {Q : Luc.Pt} {A1 A2 : Option Addr} {c1 c2 : Nat} {l1 l2 : List Nat} {inf : Bool} (h : PtV Q w A1 c1 l1 A2 c2 l2 inf) (ho : Luc.OnC Q) : ptOk l1 l2 inf = true := by
  rcases Q with _ | ⟨u, v⟩
  · obtain rfl : inf = true := h.inf
    unfold ptOk
    rw [if_pos rfl, decide_eq_true (h.x.zero_iff.2 rfl), decide_eq_true (h.y.zero_iff.2 rfl)]
    rfl
  · obtain rfl : inf = false := h.inf
    have hx : NR w A1 c1 l1 u := h.x
    have hy : NR w A2 c2 l2 v := h.y
    unfold ptOk blw
    rw [if_neg (by simp), okN_yes hx.le hx.nrm, okN_yes hy.le hy.nrm, hx.val, hy.val, decide_eq_true (show u.val < cP from u.isLt), decide_eq_true (show v.val < cP from v.isLt), decide_eq_true ((rhs_on u v).2 ho)]
    rfl
end Go.Proofs.YtflfdglpljodbaaDoor
namespace Go.Proofs.YtflfdglpljodbaaDoor
open Go.RowKit
set_option linter.unusedVariables false
set_option linter.unusedSimpArgs false
end Go.Proofs.YtflfdglpljodbaaDoor
namespace Go.Proofs.YtflfdglpljodbaaDoor
open Go.RowKit
set_option linter.unusedVariables false
set_option linter.unusedSimpArgs false
theorem lN_val : val lN = Luc.cNn := by decide +kernel
theorem num_len8N {r : List Nat} {v : Nat} (h : NumIs r (v % val lN)) : r.length ≤ 8 := by
  refine num_len8 h (Nat.lt_of_lt_of_le (Nat.mod_lt _ (by rw [lN_val]; decide)) ?_)
  rw [lN_val]
  decide
end Go.Proofs.YtflfdglpljodbaaDoor
namespace Go.Proofs.YtflfdglpljodbaaDoor
open Go.RowKit
set_option linter.unusedVariables false
set_option linter.unusedSimpArgs false
def gP : Luc.Pt := some (Luc.gX, Luc.gY)
theorem gP_on : Luc.OnC gP := Luc.g_on
theorem gP_order : Luc.nmul gP Luc.cNn = none := Luc.g_order
theorem lX_num : NumIs lX Luc.gX.val := ⟨lX_ok.1, lX_ok.2.1, by decide +kernel⟩
theorem lY_num : NumIs lY Luc.gY.val := ⟨lY_ok.1, lY_ok.2.1, by decide +kernel⟩
theorem g_is {w : World} {e : Ending} {w' : World} (h : GAt w e w') : PtR gP w e w' := by
  obtain ⟨gx, gy, rfl, hx, hy, hb⟩ := h
  exact ⟨some ⟨gx, 0, none⟩, 8, lX, some ⟨gy, 0, none⟩, 8, lY, false, rfl, ⟨rfl, ⟨Eight.rd hx rfl, lX_num⟩, ⟨Eight.rd hy rfl, lY_num⟩⟩, hb⟩
theorem refGP (w : World) : Calls Tryd.prog 13 #[] w (PtR gP w) := (refG_any w).mono fun _ _ h => g_is h
theorem timesRP (w : World) {P : Luc.Pt} {A A1 A2 : Option Addr} {c c1 c2 : Nat} {l l1 l2 : List Nat} {inf : Bool} (hr : Rd .u32 w w.heap.size A c l) (hd : Dg l) (hs : l.length ≤ 1000) (hn : nrm l) (hp : PtV P w A1 c1 l1 A2 c2 l2 inf) (ho : Luc.OnC P) :
    Calls Tryd.prog 11 #[.slice A l.length c, .agg #[.slice A1 l1.length c1, .slice A2 l2.length c2, .bool inf]] w (PtR (Luc.nmul P (val l)) w) := by
  rcases P with _ | ⟨u, v⟩
  · obtain rfl : inf = true := hp.inf
    rw [Luc.nmul_none]
    exact timesR_none w hr hd hs
  · obtain rfl : inf = false := hp.inf
    exact timesR_some w u v ho hr hd hs hn hp.x hp.y
def Mul (Q : Luc.Pt) : Prop := ∃ k, Q = Luc.nmul gP k
theorem Mul.on {Q : Luc.Pt} (h : Mul Q) : Luc.OnC Q := by
  obtain ⟨k, rfl⟩ := h
  exact Luc.nmul_on gP_on k
theorem Mul.order {Q : Luc.Pt} (h : Mul Q) : Luc.nmul Q Luc.cNn = none := by
  obtain ⟨k, rfl⟩ := h
  exact Luc.nmul_order gP_on gP_order k
end Go.Proofs.YtflfdglpljodbaaDoor
