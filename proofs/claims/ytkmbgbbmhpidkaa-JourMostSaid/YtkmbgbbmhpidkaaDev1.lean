/-
  A disk's small answers.
-/
import Derived.Test.YtkmbgbbmhpidkaaDev0
namespace Go.Proofs.Ytkmbgbbmhpidkaa
open Go.RowKit
set_option linter.unusedVariables false

set_option maxRecDepth 100000 in
theorem size_nil (w : World) : Calls Try.prog 60 #[.pointer none] w fun e w' => e = .returned (.int .i64 0) ∧ w = w' := by
  go_enter Try.func60, Try.ntmps60
  go_wp2_with fail
  go_ret
  exact ⟨rfl, rfl⟩
set_option maxRecDepth 100000 in
theorem size_any (w : World) (g : Nat) (G : Option Addr) (n c : Nat) (hc : w.cell? ⟨g, 0, none⟩ = some (.slice G n c)) : Calls Try.prog 60 #[.pointer (some ⟨g, 0, none⟩)] w fun e w' => e = .returned (.int .i64 n) ∧ w = w' := by
  go_enter Try.func60, Try.ntmps60
  go_wp2_with fail
  go_ret
  exact ⟨rfl, rfl⟩
set_option maxRecDepth 100000 in
theorem ops_nil (w : World) : Calls Try.prog 31 #[.pointer none] w fun e w' => e = .returned (.int .i64 0) ∧ w = w' := by
  go_enter Try.func31, Try.ntmps31
  go_wp2_with fail
  go_ret
  exact ⟨rfl, rfl⟩
set_option maxRecDepth 100000 in
theorem ops_any (w : World) (g : Nat) (x : Int) (hc : w.cell? ⟨g, 3, none⟩ = some (.int .i64 x)) : Calls Try.prog 31 #[.pointer (some ⟨g, 0, none⟩)] w fun e w' => e = .returned (.int .i64 x) ∧ w = w' := by
  go_enter Try.func31, Try.ntmps31
  go_wp2_with fail
  go_ret
  exact ⟨rfl, rfl⟩
set_option maxRecDepth 100000 in
theorem down_nil (w : World) : Calls Try.prog 44 #[.pointer none] w fun e w' => e = .returned (.bool true) ∧ w = w' := by
  go_enter Try.func44, Try.ntmps44
  go_wp2_with fail
  go_ret
  exact ⟨rfl, rfl⟩
set_option maxRecDepth 100000 in
theorem down_any (w : World) (g : Nat) (b : Bool) (hc : w.cell? ⟨g, 7, none⟩ = some (.bool b)) : Calls Try.prog 44 #[.pointer (some ⟨g, 0, none⟩)] w fun e w' => e = .returned (.bool b) ∧ w = w' := by
  go_enter Try.func44, Try.ntmps44
  go_wp2_with fail
  go_ret
  exact ⟨rfl, rfl⟩
set_option maxRecDepth 100000 in
theorem has_nil (w : World) (i : Int) : Calls Try.prog 55 #[.pointer none, .int .i64 i] w fun e w' => e = .returned (.bool false) ∧ w = w' := by
  by_cases h0 : 0 ≤ i
  · have h1 : decide (i < 0) = false := decide_eq_false (by omega)
    go_enter Try.func55, Try.ntmps55
    go_wp2_with (refine (size_nil _).mono ?_; rintro e w1 ⟨rfl, rfl⟩)
    go_ret
    exact ⟨rfl, rfl⟩
  · have h1 : decide (0 ≤ i) = false := decide_eq_false (by omega)
    go_enter Try.func55, Try.ntmps55
    go_wp2_with fail
    go_ret
    exact ⟨rfl, rfl⟩
set_option maxRecDepth 100000 in
theorem has_any (w : World) (g : Nat) (G : Option Addr) (n c : Nat) (i : Int) (hc : w.cell? ⟨g, 0, none⟩ = some (.slice G n c)) (v : Bool) (hv : v = decide (0 ≤ i ∧ i < (n : Int))) : Calls Try.prog 55 #[.pointer (some ⟨g, 0, none⟩), .int .i64 i] w fun e w' => e = .returned (.bool v) ∧ w = w' := by
  have HV := Lib.hid hv
  clear hv
  by_cases h0 : 0 ≤ i
  · have HW : Hid (v = decide (i < (n : Int))) := Lib.hid (by rw [HV.out, Bool.eq_iff_iff]; simp [h0])
    go_enter Try.func55, Try.ntmps55
    go_wp2_with (refine (size_any _ g G n c hc).mono ?_; rintro e w1 ⟨rfl, rfl⟩)
    go_ret
    exact ⟨by rw [HW.out]; rfl, rfl⟩
  · have h1 : decide (0 ≤ i) = false := decide_eq_false (by omega)
    have HW : Hid (v = false) := Lib.hid (by rw [HV.out, Bool.eq_iff_iff]; simp; omega)
    go_enter Try.func55, Try.ntmps55
    go_wp2_with fail
    go_ret
    exact ⟨by rw [HW.out]; rfl, rfl⟩
set_option maxRecDepth 100000 in
theorem due_any (w : World) (g : Nat) (x y : Int) (b : Bool) (h3 : w.cell? ⟨g, 3, none⟩ = some (.int .i64 x)) (h4 : w.cell? ⟨g, 4, none⟩ = some (.bool b)) (h5 : w.cell? ⟨g, 5, none⟩ = some (.int .i64 y)) (v : Bool) (hv : v = (b && decide (y ≤ x))) :
    Calls Try.prog 56 #[.pointer (some ⟨g, 0, none⟩)] w fun e w' => e = .returned (.bool v) ∧ ∃ q, w' = w.drewN q := by
  have HV := Lib.hid hv
  clear hv
  cases b
  · have HW : Hid (v = false) := Lib.hid HV.out
    go_enter Try.func56, Try.ntmps56
    go_wp2_with fail
    go_quiet (fail)
    go_wp2_with fail
    go_ret
    exact ⟨by rw [HW.out]; rfl, _, rfl⟩
  · have HW : Hid (v = decide (y ≤ x)) := Lib.hid (by rw [HV.out]; simp)
    go_enter Try.func56, Try.ntmps56
    go_wp2_with fail
    go_quiet (fail)
    go_wp2_with fail
    go_ret
    exact ⟨by rw [HW.out]; rfl, _, rfl⟩

set_option maxRecDepth 100000 in
theorem new_no (w : World) (n : Int) (h : n < 1 ∨ 2000 < n) : Calls Try.prog 8 #[.int .i64 n] w fun e w' => e = .returned (.pointer none) ∧ w = w' := by
  by_cases h1 : n < 1
  · go_enter Try.func8, Try.ntmps8
    go_wp2_with fail
    go_ret
    exact ⟨rfl, rfl⟩
  · have h2 : decide (2000 < n) = true := decide_eq_true (by omega)
    have h3 : decide (n < 1) = false := decide_eq_false h1
    go_enter Try.func8, Try.ntmps8
    go_wp2_with fail
    go_ret
    exact ⟨rfl, rfl⟩
end Go.Proofs.Ytkmbgbbmhpidkaa
