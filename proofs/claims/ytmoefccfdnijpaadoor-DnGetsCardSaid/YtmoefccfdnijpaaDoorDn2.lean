/-
  One name under another; a text of one byte.
-/
import Derived.Test.YtmoefccfdnijpaaDoorDn1
namespace Go.Proofs.YtmoefccfdnijpaaDoor
open Go.RowKit
set_option linter.unusedVariables false

set_option maxRecDepth 100000 in
theorem sameA_any (w : World) (B B' : Nat) (A A' : Option Addr) (c c' n n' : Nat) (l l' : List Att) (hn : l.length = n) (hn' : l'.length = n') (hr : RdA w B A c l) (hr' : RdA w B' A' c' l') (v : Bool) (hv : v = true ↔ l = l') :
    Calls Tryd.prog 7 #[.slice A n c, .slice A' n' c'] w fun e w' => e = .returned (.bool v) ∧ ∃ q, w' = w.drewN q := by
  have HC := Lib.hid (equalA_any w B B' A A' c c' n n' l l' hn hn' hr hr' v hv)
  clear hv
  go_enter Tryd.func7, Tryd.ntmps7
  go_wp2_with fail
  refine HC.out.mono ?_
  rintro e w1 ⟨rfl, q, rfl⟩
  go_wp2_with fail
  go_ret
  exact ⟨rfl, q, rfl⟩

set_option maxRecDepth 100000 in
theorem underA_any (w : World) (B B' : Nat) (A A' : Option Addr) (c c' n n' : Nat) (l l' : List Att) (hn : l.length = n) (hn' : l'.length = n') (hr : RdA w B A c l) (hr' : RdA w B' A' c' l') (v : Bool) (hv : v = true ↔ n' ≤ n ∧ l.take n' = l') :
    Calls Tryd.prog 6 #[.slice A n c, .slice A' n' c'] w fun e w' => e = .returned (.bool v) ∧ ∃ q, w' = w.drewN q := by
  have hlc := hr.1
  have hc63 := hr.2.1
  have hlc' := hr'.1
  have hc63' := hr'.2.1
  by_cases h : n' ≤ n
  case neg =>
    have b1 : decide ((n' : Int) ≤ (n : Int)) = false := decide_eq_false (by omega)
    have b2 : decide (n' ≤ n) = false := decide_eq_false h
    have HF : Hid (v = false) := Lib.hid (by
      cases v
      · rfl
      · exact absurd (hv.1 rfl).1 h)
    clear hv h
    go_enter Tryd.func6, Tryd.ntmps6
    go_wp2_with fail
    go_ret
    exact ⟨by rw [HF.out]; rfl, 0, rfl⟩
  case pos =>
  have b1 : decide ((n' : Int) ≤ (n : Int)) = true := decide_eq_true (by omega)
  have b2 : decide (n' ≤ n) = true := decide_eq_true h
  have hnc : n' ≤ c := by omega
  have hncI : (n' : Int) ≤ (c : Int) := by omega
  have hn0 : (0 : Int) ≤ (n' : Int) := by omega
  have HC := Lib.hid (sameA_any w B B' A A' c c' n' n' (l.take n') l' (by rw [List.length_take]; omega) hn' (hr.cut n') hr' v ⟨fun e => (hv.1 e).2, fun e => hv.2 ⟨h, e⟩⟩)
  clear hv h
  go_enter Tryd.func6, Tryd.ntmps6
  go_wp2_with fail
  refine HC.out.mono ?_
  rintro e w1 ⟨rfl, q, rfl⟩
  go_wp2_with fail
  go_ret
  exact ⟨rfl, q, rfl⟩

end Go.Proofs.YtmoefccfdnijpaaDoor
