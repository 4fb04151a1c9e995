/-
  Slices cut; a length, read: as words.
-/
import Derived.Test.YtdjklhglkmacbaaDoorTlv14
namespace Go.Proofs.YtdjklhglkmacbaaDoor
open Go.RowKit
set_option linter.unusedVariables false
set_option linter.unusedSimpArgs false

/-- Where a slice goes on behind its first k elements. -/
def dropA (A : Option Addr) (k c : Nat) : Option Addr := if c = k then A else A.map fun a => a.add k
theorem under22 : Tryd.prog.underlying 28 = some (.slice (Tryd.prog.elem 28)) := by kernel_rfl
theorem size22 (W : World) : (sizeOf (Tryd.prog.elem 28)).run Tryd.prog W = .ok 1 W := by kernel_rfl
theorem run_drop (W : World) (A : Option Addr) (n c k : Nat) (hk : k ≤ n) (hn : n ≤ c) :
    (Instr.sliceAt 28 (.slice A n c) (some (.int .i64 (k : Int))) none none).run Tryd.prog W = .ok (.slice (dropA A k c) (n - k) (c - k)) W := by
  rw [run_sliceAt_slice _ _ _ _ _ _ under22, run_slice_l _ _ _ _ _ under22 .i64 (k : Int) (by omega) (by omega), size22]
  simp [Result.andThen, sliced, dropA]
theorem run_take (W : World) (A : Option Addr) (n c k : Nat) (hk : k ≤ n) (hn : n ≤ c) :
    (Instr.sliceAt 28 (.slice A n c) none (some (.int .i64 (k : Int))) none).run Tryd.prog W = .ok (.slice (dropA A 0 c) k c) W := by
  rw [run_sliceAt_slice _ _ _ _ _ _ under22, run_slice_h _ _ _ _ _ under22 .i64 (k : Int) (by omega) (by omega), size22]
  simp [Result.andThen, sliced, dropA]
theorem run_mid (W : World) (A : Option Addr) (n c l k : Nat) (hl : l ≤ k) (hk : k ≤ n) (hn : n ≤ c) :
    (Instr.sliceAt 28 (.slice A n c) (some (.int .i64 (l : Int))) (some (.int .i64 (k : Int))) none).run Tryd.prog W = .ok (.slice (dropA A l c) (k - l) (c - l)) W := by
  rw [run_sliceAt_slice _ _ _ _ _ _ under22, run_slice_lh _ _ _ _ _ under22 .i64 .i64 (l : Int) (k : Int) (by omega) (by omega) (by omega), size22]
  simp [Result.andThen, sliced, dropA]
theorem Rd.drop {k : IntKind} {w : World} {B : Nat} {A : Option Addr} {c : Nat} {l : List Nat} (h : Rd k w B A c l) (m : Nat) (hm : m ≤ l.length) : Rd k w B (dropA A m c) (c - m) (l.drop m) := by
  refine ⟨by rw [List.length_drop]; have := h.1; omega, by have := h.2.1; omega, fun hn => ?_⟩
  rw [List.length_drop] at hn
  obtain ⟨b, off, rfl, hb, hc⟩ := h.2.2 (by omega)
  have h1 := h.1
  refine ⟨b, off + m, ?_, hb, fun j hj => ?_⟩
  · unfold dropA
    rw [if_neg (by omega)]
    simp [Addr.add]
  · rw [List.length_drop] at hj
    rw [Nat.add_assoc, hc (m + j) (by omega)]
    simp [List.getD]
theorem dropA_zero {A : Option Addr} {c : Nat} {k : IntKind} {w : World} {B : Nat} {l : List Nat} (h : Rd k w B A c l) : Rd k w B (dropA A 0 c) c l := by
  have := h.drop 0 (Nat.zero_le _)
  rw [List.drop_zero, Nat.sub_zero] at this
  exact this
theorem Rd.mid {k : IntKind} {w : World} {B : Nat} {A : Option Addr} {c : Nat} {l : List Nat} (h : Rd k w B A c l) (m n : Nat) (hm : m ≤ l.length) : Rd k w B (dropA A m c) (c - m) ((l.drop m).take n) := (h.drop m hm).cut n

/-- Bytes as a number, the greatest first. -/
def big (l : List Nat) : Nat := l.foldl (fun a x => a * 256 + x) 0
theorem big_snoc (l : List Nat) (x : Nat) : big (l ++ [x]) = big l * 256 + x := by simp [big]
theorem foldl_ge : ∀ (r : List Nat) (a : Nat), a ≤ r.foldl (fun a x => a * 256 + x) a
  | [], a => Nat.le_refl _
  | x :: r, a => by
    rw [List.foldl_cons]
    have := foldl_ge r (a * 256 + x)
    omega
theorem big_le_append (l r : List Nat) : big l ≤ big (l ++ r) := by
  unfold big
  rw [List.foldl_append]
  exact foldl_ge r _
theorem big_take_le (l : List Nat) (k m : Nat) (h : k ≤ m) : big (l.take k) ≤ big (l.take m) := by
  have e : l.take m = l.take k ++ (l.take m).drop k := by
    have := List.take_append_drop k (l.take m)
    rw [List.take_take, Nat.min_eq_left h] at this
    exact this.symm
  rw [e]
  exact big_le_append _ _
/-- A length that bytes begin with, of what is behind it, and how many bytes it has; none: there is none. -/
def lenOf : List Nat → Option (Nat × Nat)
  | [] => none
  | x :: r => if x < 128 then (if x ≤ r.length then some (x, 1) else none)
    else if x ≠ 128 ∧ x - 128 ≤ r.length ∧ r.getD 0 0 ≠ 0 ∧ 128 ≤ big (r.take (x - 128)) ∧ big (r.take (x - 128)) ≤ r.length - (x - 128) then some (big (r.take (x - 128)), x - 127) else none
theorem lenOf_fits {b : List Nat} {k u : Nat} (h : lenOf b = some (k, u)) : 1 ≤ u ∧ u + k ≤ b.length := by
  cases b with
  | nil => simp [lenOf] at h
  | cons x r =>
    simp only [lenOf] at h
    by_cases h1 : x < 128
    · rw [if_pos h1] at h
      by_cases h2 : x ≤ r.length
      · rw [if_pos h2] at h
        injection h with h
        injection h with h3 h4
        rw [List.length_cons]
        omega
      · rw [if_neg h2] at h
        cases h
    · rw [if_neg h1] at h
      by_cases h2 : x ≠ 128 ∧ x - 128 ≤ r.length ∧ r.getD 0 0 ≠ 0 ∧ 128 ≤ big (r.take (x - 128)) ∧ big (r.take (x - 128)) ≤ r.length - (x - 128)
      · rw [if_pos h2] at h
        injection h with h
        injection h with h3 h4
        rw [List.length_cons]
        omega
      · rw [if_neg h2] at h
        cases h
end Go.Proofs.YtdjklhglkmacbaaDoor
