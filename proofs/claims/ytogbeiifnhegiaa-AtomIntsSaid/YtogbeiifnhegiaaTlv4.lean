/-
  A length's bytes: by the document, by the program.
-/
import Derived.Test.YtogbeiifnhegiaaTlv3
import Derived.Test.YtogbeiifnhegiaaMine
namespace Go.Proofs.Ytogbeiifnhegiaa
open Go.RowKit
set_option linter.unusedVariables false
set_option linter.unusedSimpArgs false

/-- A number's digits of 256, the greatest first. -/
def dig : Nat → Nat → List Nat
  | 0, _ => []
  | f + 1, n => if n = 0 then [] else dig f (n / 256) ++ [n % 256]
theorem dig_zero (f : Nat) : dig f 0 = [] := by cases f <;> simp [dig]
theorem dig_len : ∀ f n, (dig f n).length ≤ f
  | 0, _ => Nat.le_refl _
  | f + 1, n => by
    rw [dig]
    split
    · simp
    · rw [List.length_append]
      have := dig_len f (n / 256)
      simp
      omega
theorem dig_oct : ∀ f n, ∀ x ∈ dig f n, x < 256
  | 0, _, x, h => by cases h
  | f + 1, n, x, h => by
    rw [dig] at h
    split at h
    · cases h
    · rcases List.mem_append.1 h with h | h
      · exact dig_oct f _ x h
      · rw [List.mem_singleton.1 h]; omega
/-- A length's bytes. -/
def lenB (n : Nat) : List Nat := if n < 128 then [n] else (128 + (dig 6 n).length) :: dig 6 n
theorem lenB_len (n : Nat) : (lenB n).length ≤ 7 := by
  unfold lenB
  split
  · simp
  · have := dig_len 6 n
    simp
    omega
theorem lenB_oct (n : Nat) : ∀ x ∈ lenB n, x < 256 := by
  intro x hx
  unfold lenB at hx
  split at hx
  · rw [List.mem_singleton.1 hx]; omega
  · rcases List.mem_cons.1 hx with rfl | h
    · have := dig_len 6 n; omega
    · exact dig_oct 6 n x h
theorem info_u8 : (Try.prog.info? 5).map (fun i => (i.zero, i.size, i.bytes)) = some (some (.int .u8 0), 1, 1) := by kernel_rfl
theorem nums_cons (k : IntKind) (x : Nat) : nums k [x] = #[.int k (x : Int)] := rfl
theorem Mine.fresh1 (w : World) (B x : Nat) (hB : B ≤ w.heap.size) : Mine 5 (w.alloc (.cells #[.int .u8 (x : Int)] 5)) B (some ⟨w.heap.size, 0, none⟩) 1 [x] :=
  .inr ⟨w.heap.size, 0, #[.int .u8 (x : Int)], rfl, hB, Holds.fresh w _ _, Nat.le_refl _, by omega, by simp, fun j hj => by
    have : j = 0 := by simp at hj; omega
    subst this
    rfl⟩
theorem below_blk {w w' : World} {B : Nat} {A : Option Addr} (h : w.grownBy w' (blk_of A)) (hB : B ≤ w.heap.size) (hA : ∀ g, blk_of A = some g → B ≤ g) : Below B w w' :=
  ⟨h.os, h.tape, h.output, h.size, fun g hg => h.block g (by omega) (fun e => by have := hA g e.symm; omega)⟩

def RelL (w : World) (n : Nat) (v i : Value) (wr : World) : Prop :=
  ∃ (x f : Nat) (b : List Nat) (A' : Option Addr) (c' m : Nat), x ≤ n ∧ x < 256 ^ f ∧ i = .int .i64 (x : Int) ∧ v = .slice A' m c' ∧ Hid (b.length = m) ∧ f ≤ 6 ∧ Hid (b.length + f ≤ 6) ∧ Hid (dig 6 n = dig f x ++ b) ∧ Hid (Mine 5 wr w.heap.size A' c' b) ∧ Hid (Below w.heap.size w wr)
def RelL2 (w : World) (n : Nat) (i v : Value) (wr : World) : Prop := RelL w n v i wr
end Go.Proofs.Ytogbeiifnhegiaa
