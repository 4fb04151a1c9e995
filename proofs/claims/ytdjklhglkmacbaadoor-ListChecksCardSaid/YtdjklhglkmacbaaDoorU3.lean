/-
  What unicode/utf8.Valid of bytes reads: the bytes that are left.
-/
import Derived.Test.YtdjklhglkmacbaaDoorU2
import Derived.Shelf.Unicode.DecodeAny
import Derived.Laws.BitsAllLaws
import Derived.Laws.Slices
import Derived.Deep.LoopGhost
import Derived.Deep.DeepMust
import Derived.Deep.DeepBigQuietO
import Derived.Below
import Derived.Deep.CutBlock
import Derived.Deep.DeepCutAuto
namespace Go.Proofs.YtdjklhglkmacbaaDoor
open Go.RowKit
set_option linter.unusedVariables false
set_option linter.unusedSimpArgs false
attribute [local go_sem ↓] Go.wp_at_zero Go.wp_at_succ

theorem u8_slice : Tryd.prog.underlying 28 = some (.slice (Tryd.prog.elem 28)) := by kernel_rfl
theorem u8_size (W : World) : (sizeOf (Tryd.prog.elem 28)).run Tryd.prog W = .ok 1 W := by kernel_rfl
/-- Where a slice that is cut begins. -/
def cut (off n k : Nat) : Nat := if n = k then off else off + k
theorem cut_run (W : World) (b off n k : Nat) (hk : k ≤ n) :
    (Instr.sliceAt 28 (.slice (some ⟨b, off, none⟩) n n) (some (.int .i64 (k : Int))) none none).run Tryd.prog W = .ok (.slice (some ⟨b, cut off n k, none⟩) (n - k) (n - k)) W := by
  rw [run_sliceAt_slice _ _ _ _ _ _ u8_slice, run_slice_l _ _ _ _ _ u8_slice .i64 (k : Int) (by omega) (by omega), u8_size]
  by_cases h : n = k <;> simp [Result.andThen, sliced, cut, h, Addr.add]
theorem whole_run (W : World) (b off n c : Nat) (hc : n ≤ c) :
    (Instr.sliceAt 28 (.slice (some ⟨b, off, none⟩) n c) none (some (.int .i64 (n : Int))) (some (.int .i64 (n : Int)))).run Tryd.prog W = .ok (.slice (some ⟨b, off, none⟩) n n) W := by
  rw [run_sliceAt_slice _ _ _ _ _ _ u8_slice, run_slice_hm _ _ _ _ _ u8_slice .i64 .i64 (n : Int) (n : Int) (by omega) (by omega) (by omega), u8_size]
  by_cases h : n = 0 <;> simp [Result.andThen, sliced, h, Addr.add]
theorem drawn_below {B : Nat} {a w : World} (h : Below B a w) : ∀ q, Below B a (w.drewN q)
  | 0 => h
  | q + 1 => (drawn_below h q).drew
def dropA0 (A : Option Addr) (c : Nat) : Option Addr := A
/-- The bytes that are left, and where. -/
def Mem8 (w : World) (A : Option Addr) (n : Nat) (l : List Nat) : Prop := l.length = n ∧ (0 < n → ∃ b off, A = some ⟨b, off, none⟩ ∧ b < w.heap.size ∧ Lies w b off l) ∧ ∀ x ∈ l, x < 256
section
variable {w W : World} {A : Option Addr} {n : Nat} {l : List Nat}
theorem Mem8.cut (h : Mem8 w A n l) (m : Nat) (z : Int) (hz : z = (m : Int)) (hm : m ≤ n) (h0 : 0 < n) : ∃ A' k, (∀ W, (Instr.sliceAt 28 (.slice A n n) (some (.int .i64 z)) none none).run Tryd.prog W = .ok (.slice A' k k) W) ∧ Hid (Mem8 w A' k (l.drop m)) ∧ k + m = n := by
  subst hz
  obtain ⟨hn, hl, ho⟩ := h
  obtain ⟨b, off, rfl, hb, hL⟩ := hl h0
  refine ⟨_, n - m, fun W => cut_run W b off n m hm, Lib.hid ⟨by rw [List.length_drop, hn], fun h1 => ⟨b, off + m, ?_, hb, hL.drop m⟩, fun x hx => ho x (List.mem_of_mem_drop hx)⟩, by omega⟩
  unfold Go.Proofs.YtdjklhglkmacbaaDoor.cut
  rw [if_neg (by omega)]
theorem Mem8.start {B c : Nat} (hr : Rd .u8 w B A c l) (hn : l.length = n) (hB : B ≤ w.heap.size) (ho : ∀ x ∈ l, x < 256) : ∃ A', (∀ W, (Instr.sliceAt 28 (.slice A n c) none (some (.int .i64 (n : Int))) (some (.int .i64 (n : Int)))).run Tryd.prog W = .ok (.slice A' n n) W) ∧ Mem8 w A' n l := by
  have hc := hr.1
  by_cases h0 : n = 0
  · have hs : ∃ A', ∀ W, (Instr.sliceAt 28 (.slice A n c) none (some (.int .i64 (n : Int))) (some (.int .i64 (n : Int)))).run Tryd.prog W = .ok (.slice A' n n) W := by
      subst h0
      refine ⟨dropA0 A c, fun W => ?_⟩
      rw [run_sliceAt_slice _ _ _ _ _ _ u8_slice, run_slice_hm _ _ _ _ _ u8_slice .i64 .i64 ((0 : Nat) : Int) ((0 : Nat) : Int) (by omega) (by omega) (by omega), u8_size]
      simp [Result.andThen, sliced, dropA0]
    obtain ⟨A', hs⟩ := hs
    exact ⟨A', hs, hn, fun h => by omega, ho⟩
  · obtain ⟨b, off, rfl, hb, hL⟩ := hr.2.2 (by omega)
    exact ⟨_, fun W => whole_run W b off n c (by omega), hn, fun _ => ⟨b, off, rfl, by omega, hL⟩, ho⟩
theorem Mem8.word (h : Mem8 w A n l) (h8 : 8 ≤ n) (hW : Below w.heap.size w W) : Calls Tryd.prog 85 #[.slice A n n] W fun e w' => e = .returned (.int .u64 (w8 l : Int)) ∧ ∃ q, w' = W.drewN q := by
  obtain ⟨hn, hl, ho⟩ := h
  obtain ⟨b, off, rfl, hb, hL⟩ := hl (by omega)
  exact w8_any W b off n n l ho (fun j hj => (hW.cell (p := ⟨b, _, none⟩) hb).trans (hL j hj)) hn h8
/-- A byte's place. -/
theorem Mem8.at_ (h : Mem8 w A n l) (h0 : 0 < n) : ∃ b off, A = some ⟨b, off, none⟩ ∧ ∀ W, Below w.heap.size w W → ∀ j, j < n → W.cell? ⟨b, off + j, none⟩ = some (.int .u8 ((l.getD j 0 : Nat) : Int)) := by
  obtain ⟨hn, hl, ho⟩ := h
  obtain ⟨b, off, rfl, hb, hL⟩ := hl h0
  exact ⟨b, off, rfl, fun W hW j hj => (hW.cell (p := ⟨b, _, none⟩) hb).trans (hL j (by omega))⟩
end
theorem mask_word {l : List Nat} (h : Nat) : bits .and .u64 ((w8 l : Nat) : Int) 9259542123273814144 = ((w8 l &&& 9259542123273814144 : Nat) : Int) := u64_and_nat _ 9259542123273814144 (w8_lt l) (by omega)
end Go.Proofs.YtdjklhglkmacbaaDoor
