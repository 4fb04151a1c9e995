/-
  Slices cut; a length, read: as words.
-/
import Derived.Test.YtebhpjbjfbadjaaRead
import Derived.Test.YtebhpjbjfbadjaaChecked
import Derived.WalkKit
import Derived.RegionTactic
namespace Go.Proofs.Ytebhpjbjfbadjaa
open Go.RowKit
set_option linter.unusedVariables false
set_option linter.unusedSimpArgs false

/-- Where a slice goes on behind its first k elements. -/
def dropA (A : Option Addr) (k c : Nat) : Option Addr := if c = k then A else A.map fun a => a.add k
theorem under22 : Try.prog.underlying 29 = some (.slice (Try.prog.elem 29)) := by kernel_rfl
theorem size22 (W : World) : (sizeOf (Try.prog.elem 29)).run Try.prog W = .ok 1 W := by kernel_rfl
theorem run_drop (W : World) (A : Option Addr) (n c k : Nat) (hk : k ≤ n) (hn : n ≤ c) :
    (Instr.sliceAt 29 (.slice A n c) (some (.int .i64 (k : Int))) none none).run Try.prog W = .ok (.slice (dropA A k c) (n - k) (c - k)) W := by
  rw [run_sliceAt_slice _ _ _ _ _ _ under22, run_slice_l _ _ _ _ _ under22 .i64 (k : Int) (by omega) (by omega), size22]
  simp [Result.andThen, sliced, dropA]
theorem run_take (W : World) (A : Option Addr) (n c k : Nat) (hk : k ≤ n) (hn : n ≤ c) :
    (Instr.sliceAt 29 (.slice A n c) none (some (.int .i64 (k : Int))) none).run Try.prog W = .ok (.slice (dropA A 0 c) k c) W := by
  rw [run_sliceAt_slice _ _ _ _ _ _ under22, run_slice_h _ _ _ _ _ under22 .i64 (k : Int) (by omega) (by omega), size22]
  simp [Result.andThen, sliced, dropA]
theorem run_mid (W : World) (A : Option Addr) (n c l k : Nat) (hl : l ≤ k) (hk : k ≤ n) (hn : n ≤ c) :
    (Instr.sliceAt 29 (.slice A n c) (some (.int .i64 (l : Int))) (some (.int .i64 (k : Int))) none).run Try.prog W = .ok (.slice (dropA A l c) (k - l) (c - l)) W := by
  rw [run_sliceAt_slice _ _ _ _ _ _ under22, run_slice_lh _ _ _ _ _ under22 .i64 .i64 (l : Int) (k : Int) (by omega) (by omega) (by omega), size22]
  simp [Result.andThen, sliced, dropA]
theorem Rd.drop {k : IntKind} {w : World} {B : Nat} {A : Option Addr} {c : Nat} {l : List Nat} (h : Rd k w B A c l) (m : Nat) (hm : m ≤ l.length) : Rd k w B (dropA A m c) (c - m) (l.drop m) := by
  refine ⟨by rw [List.length_drop]; have := h.1; omega, by have := h.2.1; omega, fun hn => ?_⟩
  rw [List.length_drop] at hn
  obtain ⟨b, off, rfl, hb, hc⟩ := h.2.2 (by omega)
  have h1 := h.1
  refine ⟨b, off + m, ?_, hb, fun j hj => ?_⟩
  · unfold dropA
    rw [if_neg (by omega)]
    simp [Addr.add]
  · rw [List.length_drop] at hj
    rw [Nat.add_assoc, hc (m + j) (by omega)]
    simp [List.getD]
end Go.Proofs.Ytebhpjbjfbadjaa
