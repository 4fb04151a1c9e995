/-
  A digest: by the program.
-/
import Derived.Test.YtebhpjbjfbadjaaSha8
namespace Go.Proofs.Ytebhpjbjfbadjaa
open Go.RowKit
set_option linter.unusedVariables false
attribute [local go_sem ↓] Go.wp_at_zero Go.wp_at_succ

theorem grown_below {a w : World} {r : Option Nat} {B : Nat} (h : a.grownBy w r) (hr : ∀ g, r = some g → B ≤ g) (hs : B ≤ a.heap.size) : Below B a w :=
  ⟨h.os, h.tape, h.output, h.size, fun b hb => h.block b (by omega) (fun e => by have := hr b e.symm; omega)⟩
/-- An append beside: what lies below the block's bound lives on. -/
theorem Mine.grew {e : TypeId} {w w' : World} {B : Nat} {A : Option Addr} {c : Nat} {l : List Nat} (h : Mine e w (B + 1) A c l) (hg : w.grownBy w' (blk_of A)) (hs : B + 1 ≤ w.heap.size) : Below (B + 1) w w' :=
  grown_below hg (fun g e => (h.block e).1) hs

theorem rd_one (V : World) (e : TypeId) (x : Nat) : Rd .u8 (V.alloc (.cells #[.int .u8 (x : Int)] e)) (V.heap.size + 1) (some ⟨V.heap.size, 0, none⟩) 1 [x] :=
  ⟨Nat.le_refl _, by decide, fun _ => ⟨V.heap.size, 0, rfl, Nat.lt_succ_self _, fun j hj => by
    obtain rfl : j = 0 := by simpa using hj
    rw [cell_of_row _ _ _ _ e (0, 0) (heap_alloc_new V _)]
    rfl⟩⟩
theorem ix8_any (s : StS) (q : Nat) (h : q < 8) (W : World) : (Instr.index 57 (.agg (nums .u32 s.list)) (.int .i64 (q : Int))).run Try.prog W = .ok (.int .u32 ((s.list.getD q 0 : Nat) : Int)) W := by
  obtain ⟨a, b, c, d, e, f, g, i⟩ := s
  rcases (by omega : q = 0 ∨ q = 1 ∨ q = 2 ∨ q = 3 ∨ q = 4 ∨ q = 5 ∨ q = 6 ∨ q = 7) with rfl | rfl | rfl | rfl | rfl | rfl | rfl | rfl <;> kernel_rfl
theorem st_lt {s : StS} (hs : s.Ok) (q : Nat) : s.list.getD q 0 < 4294967296 := by
  obtain ⟨a, b, c, d, e, f, g, i⟩ := s
  obtain ⟨h0, h1, h2, h3, h4, h5, h6, h7⟩ := hs
  rcases Nat.lt_or_ge q 8 with h | h
  · rcases (by omega : q = 0 ∨ q = 1 ∨ q = 2 ∨ q = 3 ∨ q = 4 ∨ q = 5 ∨ q = 6 ∨ q = 7) with rfl | rfl | rfl | rfl | rfl | rfl | rfl | rfl <;> assumption
  · rw [List.getD, List.getElem?_eq_none (by exact h)]; exact (by decide : 0 < 4294967296)
theorem rd_four (V : World) (e : TypeId) (x y z u : Nat) : Rd .u8 (V.alloc (.cells #[.int .u8 (x : Int), .int .u8 (y : Int), .int .u8 (z : Int), .int .u8 (u : Int)] e)) (V.heap.size + 1) (some ⟨V.heap.size, 0, none⟩) 4 [x, y, z, u] :=
  ⟨Nat.le_refl _, by decide, fun _ => ⟨V.heap.size, 0, rfl, Nat.lt_succ_self _, fun j hj => by
    rw [cell_of_row _ _ _ _ e (0, 0) (heap_alloc_new V _)]
    have hj4 : j < 4 := hj
    rcases (by omega : j = 0 ∨ j = 1 ∨ j = 2 ∨ j = 3) with rfl | rfl | rfl | rfl <;> rfl⟩⟩
theorem rd_word (V : World) (e : TypeId) (x : Nat) (hx : x < 4294967296) : Rd .u8 (V.alloc (.cells #[.int .u8 ((x : Int) / 16777216), .int .u8 ((x : Int) / 65536 % 256), .int .u8 ((x : Int) / 256 % 256), .int .u8 ((x : Int) % 256)] e)) (V.heap.size + 1) (some ⟨V.heap.size, 0, none⟩) 4 (word4 x) := by
  have h := rd_four V e (x / 16777216 % 256) (x / 65536 % 256) (x / 256 % 256) (x % 256)
  have e1 : ((x / 16777216 % 256 : Nat) : Int) = (x : Int) / 16777216 := by omega
  have e2 : ((x / 65536 % 256 : Nat) : Int) = (x : Int) / 65536 % 256 := by omega
  have e3 : ((x / 256 % 256 : Nat) : Int) = (x : Int) / 256 % 256 := by omega
  have e4 : ((x % 256 : Nat) : Int) = (x : Int) % 256 := by omega
  rw [e1, e2, e3, e4] at h
  exact h
/-- Noughts behind. -/
def RelZ (w : World) (s : StS) (D : List Nat) (d z0 : Nat) (v : Value) (wr : World) : Prop :=
  ∃ (z : Nat) (A : Option Addr) (c : Nat), z ≤ z0 ∧ v = .slice A (d + z) c ∧ Mine 5 wr (w.heap.size + 1) A c (D ++ List.replicate z 0) ∧ Row .u32 57 wr w.heap.size s.list ∧ Below w.heap.size w wr
/-- The words' bytes, so many. -/
def RelO (w : World) (s : StS) (i v : Value) (wr : World) : Prop :=
  ∃ (k : Nat) (A : Option Addr) (c : Nat), k ≤ 8 ∧ i = .int .i64 k ∧ v = .slice A (4 * k) c ∧ Mine 5 wr (w.heap.size + 1) A c (outL s k) ∧ Below w.heap.size w wr ∧ w.heap.size < wr.heap.size
/-- The count's bytes behind. -/
def RelCS (w : World) (s : StS) (D : List Nat) (d N : Nat) (i v : Value) (wr : World) : Prop :=
  ∃ (j : Nat) (A : Option Addr) (c : Nat), j ≤ 8 ∧ i = .int .i64 (56 - 8 * (j : Int)) ∧ v = .slice A (d + j) c ∧ Mine 5 wr (w.heap.size + 1) A c (D ++ cntL N j) ∧ Row .u32 57 wr w.heap.size s.list ∧ Below w.heap.size w wr

/-- A row of a call. -/
structure Rw where
  a : Option Addr
  c : Nat
  l : List Nat
instance : Inhabited Rw := ⟨⟨none, 0, []⟩⟩
/-- The slice '.slice A rs.length c' reads as these rows. -/
def RdR (w : World) (B : Nat) (A : Option Addr) (c : Nat) (rs : List Rw) : Prop :=
  rs.length ≤ c ∧ c ≤ 9223372036854775807 ∧ (∀ j, j < rs.length → Rd .u8 w B (rs.getD j default).a (rs.getD j default).c (rs.getD j default).l) ∧
    (0 < rs.length → ∃ b off, A = some ⟨b, off, none⟩ ∧ b < B ∧ ∀ j, j < rs.length → w.cell? ⟨b, off + j, none⟩ = some (.slice (rs.getD j default).a (rs.getD j default).l.length (rs.getD j default).c))
theorem RdR.under {w w' : World} {B : Nat} {A : Option Addr} {c : Nat} {rs : List Rw} (h : RdR w B A c rs) (hb : Below B w w') : RdR w' B A c rs :=
  ⟨h.1, h.2.1, fun j hj => (h.2.2.1 j hj).under hb, fun hn => by
    obtain ⟨b, off, e, hlt, hc⟩ := h.2.2.2 hn
    exact ⟨b, off, e, hlt, fun j hj => (hb.cell (p := ⟨b, off + j, none⟩) hlt).trans (hc j hj)⟩⟩
/-- All bytes of the first k rows. -/
def flat (rs : List Rw) : Nat → List Nat
  | 0 => []
  | k + 1 => flat rs k ++ (rs.getD k default).l
theorem flat_mono (rs : List Rw) : ∀ {j k : Nat}, j ≤ k → (flat rs j).length ≤ (flat rs k).length
  | j, 0, h => by rw [show j = 0 by omega]; exact Nat.le_refl _
  | j, k + 1, h => by
    rcases Nat.lt_or_ge k j with h1 | h1
    · rw [show j = k + 1 by omega]; exact Nat.le_refl _
    · have := flat_mono rs h1
      rw [flat, List.length_append]; omega
theorem flat_oct (rs : List Rw) (h : ∀ j, Oct6 (rs.getD j default).l) : ∀ k, Oct6 (flat rs k)
  | 0 => fun i => by simp [flat]
  | k + 1 => oct_app (flat_oct rs h k) (h k)

/-- So many rows are worked off. -/
def RelA (rs : List Rw) (w : World) (B : Nat) (A : Option Addr) (c n : Nat) (cnt v i : Value) (wr : World) : Prop :=
  ∃ (k : Nat) (A' : Option Addr) (c' : Nat), k ≤ n ∧ i = .int .i64 k ∧ cnt = .int .u64 ((8 * (flat rs k).length : Nat) : Int) ∧ v = .slice A' ((flat rs k).length % 64) c' ∧
    Mine 5 wr (w.heap.size + 1) A' c' ((flat rs k).drop (64 * ((flat rs k).length / 64))) ∧ Row .u32 57 wr w.heap.size (chain H0 (flat rs k) ((flat rs k).length / 64)).list ∧ RdR wr B A c rs ∧ Below w.heap.size w wr

end Go.Proofs.Ytebhpjbjfbadjaa
