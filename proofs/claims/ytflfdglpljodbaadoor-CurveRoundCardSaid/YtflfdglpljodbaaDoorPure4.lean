/-
  Powers of two, plain.
-/
import Derived.Test.YtflfdglpljodbaaDoorNat18
namespace Go.Proofs.YtflfdglpljodbaaDoor
set_option linter.unusedVariables false

/-- The digits of a power of two. -/
def pow2 (n : Nat) : List Nat := (List.replicate (n / 32 + 1) 0).set (n / 32) (2 ^ (n % 32))
theorem pow2_len (n : Nat) : (pow2 n).length = n / 32 + 1 := by simp [pow2]
theorem two_lt (k : Nat) (h : k < 32) : 2 ^ k < 4294967296 := by
  have : 2 ^ k < 2 ^ 32 := Nat.pow_lt_pow_right (by omega) h
  omega
theorem pow2_dg (n : Nat) : Dg (pow2 n) := (Dg.noughts _).set _ _ (two_lt _ (Nat.mod_lt _ (by omega)))
theorem pow2_at (n j : Nat) : (pow2 n).getD j 0 = if j = n / 32 then 2 ^ (n % 32) else 0 := by
  rw [pow2, getD_set, List.length_replicate, getD_noughts]
  by_cases h : j = n / 32
  · rw [if_pos ⟨h.symm, by omega⟩, if_pos h]
  · rw [if_neg (by omega), if_neg h]
theorem pow2_val (n : Nat) : val (pow2 n) = 2 ^ n := by
  have h := set_val (List.replicate (n / 32 + 1) 0) (n / 32) (2 ^ (n % 32)) (by simp)
  rw [getD_noughts, val_noughts, Nat.mul_zero, Nat.add_zero, Nat.zero_add] at h
  have e : pw (n / 32) = 2 ^ (32 * (n / 32)) := by
    unfold pw
    rw [Nat.pow_mul]
  rw [pow2, h, e, ← Nat.pow_add]
  congr 1
  omega
theorem pow2_nrm (n : Nat) : nrm (pow2 n) := by
  right
  rw [pow2_len, Nat.add_sub_cancel, pow2_at, if_pos rfl]
  have : 0 < 2 ^ (n % 32) := Nat.pow_pos (by omega)
  omega
theorem pow2_num (n : Nat) : NumIs (pow2 n) (2 ^ n) := ⟨pow2_dg n, pow2_nrm n, pow2_val n⟩

/-- How many digits of two a number has. -/
theorem nb_bounds {r : List Nat} {v : Nat} (h : NumIs r v) (h0 : v ≠ 0) : 2 ^ (nb r - 1) ≤ v ∧ v < 2 ^ nb r ∧ 1 ≤ nb r := by
  obtain ⟨hd, hn, rfl⟩ := h
  rcases hm : r.length with _ | m
  · exfalso
    apply h0
    rw [List.eq_nil_of_length_eq_zero hm]
    rfl
  · rw [nb_succ hm]
    have ht : r.getD m 0 ≠ 0 := by
      rcases hn with h | h
      · omega
      · rwa [hm, Nat.add_sub_cancel] at h
    obtain ⟨b0, b1, b2⟩ := Lib.bitLenAux_bounds 64 (r.getD m 0) (by have := hd.at_ m; omega) ht
    change 1 ≤ Lib.bitLen (r.getD m 0) at b0
    change 2 ^ (Lib.bitLen (r.getD m 0) - 1) ≤ _ at b1
    change _ < 2 ^ Lib.bitLen (r.getD m 0) at b2
    generalize Lib.bitLen (r.getD m 0) = k at *
    have hv : val r = val (r.take m) + pw m * r.getD m 0 := by rw [← val_take_succ, val_take_all r _ (by omega)]
    have hlow : val (r.take m) < pw m := by
      have := val_lt (hd.take m)
      rwa [List.length_take, Nat.min_eq_left (by omega)] at this
    have e : pw m = 2 ^ (32 * m) := by unfold pw; rw [Nat.pow_mul]
    refine ⟨?_, ?_, by omega⟩
    · rw [show 32 * m + k - 1 = 32 * m + (k - 1) by omega, Nat.pow_add, ← e]
      have := Nat.mul_le_mul_left (pw m) b1
      omega
    · rw [Nat.pow_add, ← e]
      have : pw m * (r.getD m 0 + 1) ≤ pw m * 2 ^ k := Nat.mul_le_mul_left _ b2
      rw [Nat.mul_add] at this
      omega
theorem nb_eq {r : List Nat} {v k : Nat} (h : NumIs r v) (h1 : 2 ^ k ≤ v) (h2 : v < 2 ^ (k + 1)) : nb r = k + 1 := by
  have hp : 0 < 2 ^ k := Nat.pow_pos (by omega)
  obtain ⟨b1, b2, b3⟩ := nb_bounds h (by omega)
  have c1 : nb r - 1 < k + 1 := (Nat.pow_lt_pow_iff_right (by omega : 1 < 2)).1 (Nat.lt_of_le_of_lt b1 h2)
  have c2 : k < nb r := (Nat.pow_lt_pow_iff_right (by omega : 1 < 2)).1 (Nat.lt_of_le_of_lt h1 b2)
  omega
theorem nb_pow2 (n : Nat) : nb (pow2 n) = n + 1 := nb_eq (pow2_num n) (Nat.le_refl _) (Nat.pow_lt_pow_right (by omega) (by omega))
theorem nb_less {r : List Nat} {n : Nat} (h : NumIs r (2 ^ n - 1)) : nb r = n := by
  rcases n with _ | k
  · obtain rfl := num_one h num_nil
    rfl
  · have hp : 0 < 2 ^ k := Nat.pow_pos (by omega)
    exact nb_eq h (by rw [Nat.pow_succ]; omega) (by rw [Nat.pow_succ]; omega)
theorem pow_div {n m : Nat} (h : m ≤ n) : 2 ^ n / 2 ^ m = 2 ^ (n - m) ∧ 2 ^ n % 2 ^ m = 0 ∧ 2 ^ (n - m) * 2 ^ m = 2 ^ n := by
  have e : 2 ^ (n - m) * 2 ^ m = 2 ^ n := by rw [← Nat.pow_add, Nat.sub_add_cancel h]
  have hp : 0 < 2 ^ m := Nat.pow_pos (by omega)
  refine ⟨?_, ?_, e⟩
  · rw [← e, Nat.mul_div_cancel _ hp]
  · rw [← e, Nat.mul_mod_left]
theorem top_byte (n : Nat) : (bytesOf (pow2 n) (n / 8 + 1)).getD 0 0 = 2 ^ (n % 8) := by
  rw [bytesOf_at _ (by omega), byteAt, pow2_at]
  rw [show n / 8 + 1 - 1 - 0 = n / 8 by omega, show n / 8 / 4 = n / 32 by omega, if_pos rfl]
  have e : 2 ^ (n % 32) = 2 ^ (n % 8) * 2 ^ (8 * (n / 8 % 4)) := by
    rw [← Nat.pow_add]
    congr 1
    omega
  rw [e, Nat.mul_div_cancel _ (Nat.pow_pos (by omega))]
  apply Nat.mod_eq_of_lt
  have : 2 ^ (n % 8) < 2 ^ 8 := Nat.pow_lt_pow_right (by omega) (by omega)
  omega
theorem fits_not (n : Nat) : fits (pow2 n) ((n / 8 : Nat) : Int) = false := by
  unfold fits
  rw [nb_pow2]
  have : decide (((n + 1 : Nat) : Int) ≤ 8 * ((n / 8 : Nat) : Int)) = false := by rw [decide_eq_false_iff_not]; omega
  rw [this, Bool.and_false]
theorem fits_yes (n : Nat) (h : n ≤ 2000) : fits (pow2 n) ((n / 8 + 1 : Nat) : Int) = true := by
  unfold fits
  rw [nb_pow2]
  simp
  omega
theorem okN_pow2 (n : Nat) (h : n ≤ 2000) : okN (pow2 n) = true := okN_of (by rw [pow2_len]; omega) (pow2_nrm n)
end Go.Proofs.YtflfdglpljodbaaDoor
