/-
  A digest, plain: what stands behind the bytes, the blocks one after another, the words as bytes.
-/
import Derived.Test.YtebhpjbjfbadjaaSha7
namespace Go.Proofs.Ytebhpjbjfbadjaa
open Go.RowKit
set_option linter.unusedVariables false

/-- The words at the beginning. -/
def H0 : StS := ⟨0x6a09e667, 0xbb67ae85, 0x3c6ef372, 0xa54ff53a, 0x510e527f, 0x9b05688c, 0x1f83d9ab, 0x5be0cd19⟩
theorem h0_ok : H0.Ok := by unfold StS.Ok; decide
/-- How many noughts stand behind the 80. -/
def zeros (n : Nat) : Nat := (119 - n % 64) % 64
/-- Byte j of the count of digits. -/
def cnt8 (n j : Nat) : Nat := 8 * n / 2 ^ (56 - 8 * j) % 256
def cntL (n : Nat) : Nat → List Nat
  | 0 => []
  | j + 1 => cntL n j ++ [cnt8 n j]
theorem cntL_length (n : Nat) : ∀ j, (cntL n j).length = j
  | 0 => rfl
  | j + 1 => by rw [cntL, List.length_append, cntL_length n j]; rfl
/-- The bytes with what stands behind them. -/
def padded (l : List Nat) : List Nat := (l ++ (128 :: List.replicate (zeros l.length) 0)) ++ cntL l.length 8
theorem padded_length (l : List Nat) : (padded l).length = l.length + 9 + zeros l.length := by
  unfold padded
  rw [List.length_append, List.length_append, cntL_length, List.length_cons, List.length_replicate]
  omega
theorem padded_whole (l : List Nat) : (padded l).length % 64 = 0 := by
  rw [padded_length]; unfold zeros; omega
/-- A word's bytes. -/
def word4 (x : Nat) : List Nat := [x / 16777216 % 256, x / 65536 % 256, x / 256 % 256, x % 256]
def outL (s : StS) : Nat → List Nat
  | 0 => []
  | k + 1 => outL s k ++ word4 (s.list.getD k 0)
theorem outL_length (s : StS) : ∀ k, (outL s k).length = 4 * k
  | 0 => rfl
  | k + 1 => by rw [outL, List.length_append, outL_length s k]; simp [word4]; omega
/-- A digest. -/
def digest (l : List Nat) : List Nat := outL (chain H0 (padded l) ((padded l).length / 64)) 8
theorem digest_length (l : List Nat) : (digest l).length = 32 := outL_length _ 8
theorem outL_oct (s : StS) : ∀ k, ∀ x ∈ outL s k, x < 256
  | 0, x, h => by cases h
  | k + 1, x, h => by
    rw [outL] at h
    rcases List.mem_append.1 h with h | h
    · exact outL_oct s k x h
    · simp [word4] at h
      omega
theorem digest_oct (l : List Nat) : ∀ x ∈ digest l, x < 256 := outL_oct _ 8

theorem chain_pre (s : StS) (l r : List Nat) : ∀ q, 64 * q ≤ l.length → chain s (l ++ r) q = chain s l q
  | 0, _ => rfl
  | q + 1, h => by
    rw [chain, chain, chain_pre s l r q (by omega)]
    congr 1
    rw [List.drop_append_of_le_length (by omega), List.take_append_of_le_length (by rw [List.length_drop]; omega)]
theorem chain_add (s : StS) (l : List Nat) (q : Nat) : ∀ k, chain (chain s l q) (l.drop (64 * q)) k = chain s l (q + k)
  | 0 => rfl
  | k + 1 => by
    rw [chain, chain_add s l q k, ← Nat.add_assoc, chain]
    congr 2
    rw [List.drop_drop]
    congr 1
    omega
/-- A row more: the blocks, what is left. -/
theorem chain_more (s : StS) (M R : List Nat) : chain (chain s M (M.length / 64)) (M.drop (64 * (M.length / 64)) ++ R) ((M.length % 64 + R.length) / 64) = chain s (M ++ R) ((M ++ R).length / 64) ∧
    (M.drop (64 * (M.length / 64)) ++ R).drop (64 * ((M.length % 64 + R.length) / 64)) = (M ++ R).drop (64 * ((M ++ R).length / 64)) := by
  have e1 : M.drop (64 * (M.length / 64)) ++ R = (M ++ R).drop (64 * (M.length / 64)) := (List.drop_append_of_le_length (by omega)).symm
  have e2 : M.length / 64 + (M.length % 64 + R.length) / 64 = (M ++ R).length / 64 := by rw [List.length_append]; omega
  rw [e1]
  constructor
  · rw [← chain_pre s M R (M.length / 64) (by omega), chain_add, e2]
  · rw [List.drop_drop]
    congr 1
    omega
theorem oct_app {l r : List Nat} (h : Oct6 l) (h' : Oct6 r) : Oct6 (l ++ r) := fun i => by
  rcases Nat.lt_or_ge i l.length with hi | hi
  · have := h i
    rwa [List.getD, List.getElem?_append_left hi, ← List.getD]
  · have := h' (i - l.length)
    rwa [List.getD, List.getElem?_append_right hi, ← List.getD]
theorem oct_zeros (n : Nat) : Oct6 (128 :: List.replicate n 0) := fun i => by
  rcases i with _ | i
  · exact (by decide : 128 < 256)
  · rw [List.getD, List.getElem?_cons_succ, List.getElem?_replicate]
    split <;> exact (by decide : 0 < 256)
theorem oct_cnt (n : Nat) : ∀ j, Oct6 (cntL n j)
  | 0 => fun i => by simp [cntL]
  | j + 1 => by
    rw [cntL]
    refine oct_app (oct_cnt n j) fun i => ?_
    rcases i with _ | i
    · exact Nat.mod_lt _ (by omega)
    · simp
theorem of_known : digest [97, 98, 99] = [186, 120, 22, 191, 143, 1, 207, 234, 65, 65, 64, 222, 93, 174, 34, 35, 176, 3, 97, 163, 150, 23, 122, 156, 180, 16, 255, 97, 242, 0, 21, 173] := by decide +kernel
end Go.Proofs.Ytebhpjbjfbadjaa
