/-
  The law of powers of two.
-/
import Derived.Test.YteamkobemmocfaaPure4
namespace Go.Proofs.Yteamkobemmocfaa
open Go.RowKit
set_option linter.unusedVariables false

theorem powers_mod (s : Nat) (h : s < 32) : ((2 : Int) ^ s % 4294967296) = ((2 ^ s : Nat) : Int) := by
  have h1 := two_lt s h
  have e : ((2 : Int) ^ s) = ((2 ^ s : Nat) : Int) := by rw [Int.natCast_pow]; rfl
  rw [e]
  exact Int.emod_eq_of_lt (Int.natCast_nonneg _) (by omega)
set_option maxRecDepth 100000 in
theorem power_any (w : World) (n : Nat) (hn : n ≤ 2000) :
    Calls Try.prog 28 #[.int .i64 n] w fun e w' => ∃ A c, e = .returned (.slice A (pow2 n).length c) ∧ Fresh .u32 39 w' w.heap.size A c (pow2 n) ∧ Below w.heap.size w w' := by
  have hmk := make_nat ((n : Int) / 32 + 1) (n / 32 + 1) (by omega) (by omega)
  have Hm := Lib.hid (powers_mod (n % 32) (by omega))
  have hat := nums_at .u32 (List.replicate (n / 32 + 1) 0) (i := n / 32) (by simp)
  rw [getD_noughts] at hat
  go_enter Try.func28, Try.ntmps28
  go_wp2_with fail
  have hR0 : Row .u32 39 (w.alloc (.cells (nums .u32 (List.replicate (n / 32 + 1) 0)) 39)) w.heap.size (List.replicate (n / 32 + 1) 0) := Holds.fresh _ _ _
  have hb0 : Below w.heap.size w (w.alloc (.cells (nums .u32 (List.replicate (n / 32 + 1) 0)) 39)) := (Below.refl _ _).alloc (Nat.le_refl _) _
  rw [Hm.out, nums_set]
  have hR : Row .u32 39 (w.alloc (.cells (nums .u32 (pow2 n)) 39)) w.heap.size (pow2 n) := Holds.fresh _ _ _
  have hb : Below w.heap.size w (w.alloc (.cells (nums .u32 (pow2 n)) 39)) := (Below.refl _ _).alloc (Nat.le_refl _) _
  have hl := pow2_len n
  go_ret
  exact ⟨_, n / 32 + 1, by rw [hl]; rfl, fresh_whole hR (Nat.le_refl _) (by omega) (by omega), hb⟩
end Go.Proofs.Yteamkobemmocfaa
