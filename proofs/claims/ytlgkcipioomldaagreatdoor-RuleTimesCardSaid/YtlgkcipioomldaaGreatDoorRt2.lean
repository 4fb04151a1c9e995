/-
  rule.Holds and its kin at a certificate without extensions.
-/
import Derived.Test.YtlgkcipioomldaaGreatDoorRt1
namespace Go.Proofs.YtlgkcipioomldaaGreatDoor
open Go.RowKit
/-- The cells of a certificate of which two times alone are told. -/
abbrev cells (a b : Int) : Array Value := #[.slice none 0 0, .slice none 0 0, .int .i64 a, .int .i64 b, .slice none 0 0, .int .i64 0, .slice none 0 0, .int .u32 0, .slice none 0 0, .slice none 0 0, .bool false, .slice none 0 0, .slice none 0 0]

set_option maxRecDepth 100000 in
theorem holds_early (a b t : Int) (h : t < a) (w : World) : Calls Tryz.prog 4 #[.agg (cells a b), .int .i64 t] w fun e w' => e = .returned (.bool false) ∧ Below w.heap.size w w' := by
  go_enter Tryz.func4, Tryz.ntmps4
  go_wp2_with fail
  go_ret
  exact ⟨rfl, (Below.refl _ _).alloc (Nat.le_refl _) _⟩
set_option maxRecDepth 100000 in
theorem holds_late (a b t : Int) (h : ¬ t < a) (h2 : b < t) (w : World) : Calls Tryz.prog 4 #[.agg (cells a b), .int .i64 t] w fun e w' => e = .returned (.bool false) ∧ Below w.heap.size w w' := by
  go_enter Tryz.func4, Tryz.ntmps4
  go_wp2_with fail
  go_ret
  exact ⟨rfl, (Below.refl _ _).alloc (Nat.le_refl _) _⟩
set_option maxRecDepth 100000 in
theorem holds_yes (a b t : Int) (h : ¬ t < a) (h2 : ¬ b < t) (w : World) : Calls Tryz.prog 4 #[.agg (cells a b), .int .i64 t] w fun e w' => e = .returned (.bool true) ∧ Below w.heap.size w w' := by
  go_enter Tryz.func4, Tryz.ntmps4
  go_wp2_with fail
  refine (odd_nil _).mono ?_
  rintro e w1 ⟨rfl, rfl⟩
  go_wp2_with fail
  refine (basic_nil _).mono ?_
  rintro e w1 ⟨rfl, hb⟩
  have hB1 := (Holds.fresh w 33 (cells a b)).under hb (by simp)
  have h1 : Below w.heap.size w w1 := ((Below.refl _ _).alloc (Nat.le_refl _) _).trans (hb.mono (by simp))
  have hc1 := hB1.cell
  have hz1 := hB1.lt
  go_wp2_with fail
  refine (usage_nil _).mono ?_
  rintro e w2 ⟨rfl, hb2⟩
  have hB2 := (hB1.alloc (.cells #[.bool false, .int .i64 (-1)] 39)).under hb2 (by simp; omega)
  have h2 : Below w.heap.size w w2 := (h1.alloc (by have := h1.size; omega) _).trans (hb2.mono (by simp; omega))
  have hc2 := hB2.cell
  have hz2 := hB2.lt
  go_wp2_with fail
  refine (uses_nil _).mono ?_
  rintro e w3 ⟨rfl, hb3⟩
  have hB3 := hB2.under hb3 (by omega)
  have h3 : Below w.heap.size w w3 := h2.trans (hb3.mono (by omega))
  have hc3 := hB3.cell
  go_wp2_with fail
  refine (only_nil _).mono ?_
  rintro e w4 ⟨rfl, hb4⟩
  have h4 : Below w.heap.size w w4 := h3.trans (hb4.mono (by have := hB3.lt; omega))
  go_wp2_with fail
  go_ret
  exact ⟨rfl, h4⟩
set_option maxRecDepth 100000 in
theorem usable_nil (a b : Int) (d : Int) (w : World) : Calls Tryz.prog 23 #[.agg (cells a b), .int .u8 d] w fun e w' => e = .returned (.bool true) ∧ Below w.heap.size w w' := by
  go_enter Tryz.func23, Tryz.ntmps23
  go_wp2_with fail
  refine (usage_nil _).mono ?_
  rintro e w1 ⟨rfl, hb⟩
  have h1 : Below w.heap.size w w1 := ((Below.refl _ _).alloc (Nat.le_refl _) _).trans (hb.mono (by simp))
  go_wp2_with fail
  go_ret
  exact ⟨rfl, h1⟩
set_option maxRecDepth 100000 in
theorem may_code (a b : Int) (w : World) : Calls Tryz.prog 11 #[.agg (cells a b), .int .i64 1] w fun e w' => e = .returned (.bool false) ∧ Below w.heap.size w w' := by
  go_enter Tryz.func11, Tryz.ntmps11
  go_wp2_with fail
  refine (uses_nil _).mono ?_
  rintro e w1 ⟨rfl, hb⟩
  have h1 : Below w.heap.size w w1 := ((Below.refl _ _).alloc (Nat.le_refl _) _).trans (hb.mono (by simp))
  go_wp2_with fail
  refine wp_loop_rounds 1 ?_
  rw [rounds_succ]
  go_wp2_with fail
  go_ret
  exact ⟨rfl, h1⟩
set_option maxRecDepth 100000 in
theorem over_nil (a b : Int) (n : Int) (w : World) : Calls Tryz.prog 12 #[.agg (cells a b), .int .i64 n] w fun e w' => e = .returned (.bool false) ∧ Below w.heap.size w w' := by
  go_enter Tryz.func12, Tryz.ntmps12
  go_wp2_with fail
  refine (basic_nil _).mono ?_
  rintro e w1 ⟨rfl, hb⟩
  have h1 : Below w.heap.size w w1 := ((Below.refl _ _).alloc (Nat.le_refl _) _).trans (hb.mono (by simp))
  go_wp2_with fail
  go_ret
  exact ⟨rfl, h1.alloc h1.size _⟩
set_option maxRecDepth 100000 in
theorem named_nil (a b : Int) (v : Value) (w : World) : Calls Tryz.prog 13 #[.agg (cells a b), v] w fun e w' => e = .returned (.bool true) ∧ Below w.heap.size w w' := by
  go_enter Tryz.func13, Tryz.ntmps13
  go_wp2_with fail
  refine (only_nil _).mono ?_
  rintro e w1 ⟨rfl, hb⟩
  have h1 : Below w.heap.size w w1 := ((Below.refl _ _).alloc (Nat.le_refl _) _).trans (hb.mono (by simp))
  go_wp2_with fail
  go_ret
  exact ⟨rfl, h1⟩
set_option maxRecDepth 100000 in
theorem gone_nil (a b a' b' : Int) (n : Int) (w : World) : Calls Tryz.prog 14 #[.agg (cells a b), .agg (cells a' b'), .slice none 0 0, .int .i64 n] w fun e w' => e = .returned (.bool false) ∧ Below w.heap.size w w' := by
  go_enter Tryz.func14, Tryz.ntmps14
  go_wp2_with fail
  refine (usable_nil _ _ _ _).mono ?_
  rintro e w1 ⟨rfl, hb⟩
  have h1 : Below w.heap.size w w1 := (((Below.refl _ _).alloc (Nat.le_refl _) _).alloc (by simp) _).trans (hb.mono (by simp; omega))
  go_wp2_with fail
  refine wp_loop_rounds 1 ?_
  rw [rounds_succ]
  go_wp2_with fail
  go_ret
  exact ⟨rfl, h1⟩
end Go.Proofs.YtlgkcipioomldaaGreatDoor
