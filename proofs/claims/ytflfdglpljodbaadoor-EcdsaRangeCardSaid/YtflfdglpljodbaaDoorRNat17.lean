/-
  Division: quotient and rest.
-/
import Derived.Test.YtflfdglpljodbaaDoorRNat16
import Derived.Test.YtflfdglpljodbaaDoorRPure3
set_option maxRecDepth 100000
namespace Go.Proofs.YtflfdglpljodbaaDoor
open Go.RowKit
set_option linter.unusedVariables false
def Divided (w : World) (a b : Nat) (e : Ending) (w' : World) : Prop :=
  ∃ A2 c2 q A3 c3 r, e = .returned (.tuple #[.slice A2 q.length c2, .slice A3 r.length c3, .bool true]) ∧ NumIs q (a / b) ∧ NumIs r (a % b) ∧ Fresh .u32 22 w' w.heap.size A2 c2 q ∧ Fresh .u32 22 w' w.heap.size A3 c3 r ∧ Below w.heap.size w w'
theorem div_one (w : World) (B B' : Nat) (A A' : Option Addr) (c c' : Nat) (l l' : List Nat) (hr : Rd .u32 w B A c l) (hr' : Rd .u32 w B' A' c' l') (hB : B ≤ w.heap.size) (hB' : B' ≤ w.heap.size) (hd : Dg l) (hd' : Dg l') (hs : l.length ≤ 4000) (h1 : (trl l').length = 1) :
    Calls Tryd.prog 61 #[.slice A l.length c, .slice A' l'.length c'] w fun e w' => Divided w (val l) (val l') e w' := by
  have hrt := hr.cut (tlen l l.length)
  have hrt' := hr'.cut (tlen l' l'.length)
  change Rd .u32 w B A c (trl l) at hrt
  change Rd .u32 w B' A' c' (trl l') at hrt'
  have hl1 : (trl l).length ≤ 4000 := by rw [trl_length]; exact Nat.le_trans (tlen_le _ _) hs
  have hdt := trl_dg hd
  have hdt' := trl_dg hd'
  have hnt := trl_nrm l
  have hnt' := trl_nrm l'
  have Hvt := lH (trl_val l)
  have Hvt' := lH (trl_val l')
  go_enter Tryd.func61, Tryd.ntmps61
  go_wp2_with fail
  refine (trim_at w B A c _ l hr rfl).mono ?_
  rintro e w1 ⟨rfl, rfl⟩
  go_wp2_with fail
  refine (trim_at w B' A' c' _ l' hr' rfl).mono ?_
  rintro e w1 ⟨rfl, rfl⟩
  clear hr hr' hd hd'
  generalize trl l = t at *
  generalize trl l' = t' at *
  obtain ⟨x, rfl⟩ : ∃ x, t' = [x] := by
    match t', h1 with
    | [x], _ => exact ⟨x, rfl⟩
  obtain ⟨b', off', x', rfl, hb', hx, Hx⟩ := hrt'.at_ (i := 0) (by simp)
  obtain rfl : x' = x := Hx.out
  rw [Nat.add_zero] at hx
  have hx4 : x' < 4294967296 := hdt' x' (by simp)
  have hx0 : 0 < x' := by
    rcases hnt' with h | h
    · simp at h
    · have : x' ≠ 0 := by simpa using h
      omega
  have Hval1 := lH (show val [x'] = x' by simp [val])
  rw [h1]
  clear h1 Hx hnt' hdt'
  have hc1 : 1 ≤ c' := hrt'.1
  have hc63 : c' ≤ 9223372036854775807 := hrt'.2.1
  go_wp2_with fail
  refine (short_any w B A c t hrt hB hdt (by omega) x' hx0 hx4).mono ?_
  rintro e w1 ⟨A2, c2, q, A3, c3, r, rfl, hq, hrr, hf2, hf3, hbel⟩
  go_wp2_with fail
  go_ret3
  exact ⟨_, _, q, _, _, r, rfl, by rw [← Hvt.out, ← Hvt'.out, Hval1.out]; exact hq, by rw [← Hvt.out, ← Hvt'.out, Hval1.out]; exact hrr, hf2, hf3, hbel⟩
end Go.Proofs.YtflfdglpljodbaaDoor
