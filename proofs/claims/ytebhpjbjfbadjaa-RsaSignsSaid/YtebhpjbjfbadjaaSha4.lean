/-
  One block: by the program.
-/
import Derived.Test.YtebhpjbjfbadjaaSha3
import Derived.Deep.WholeRow
namespace Go.Proofs.Ytebhpjbjfbadjaa
open Go.RowKit
set_option linter.unusedVariables false
attribute [local go_sem ↓] Go.wp_at_zero Go.wp_at_succ

theorem z8 : (#[Value.int IntKind.u32 0, Value.int IntKind.u32 0, Value.int IntKind.u32 0, Value.int IntKind.u32 0, Value.int IntKind.u32 0, Value.int IntKind.u32 0, Value.int IntKind.u32 0, Value.int IntKind.u32 0] : Array Value) = nums .u32 (List.replicate 8 0) := rfl
def triI (x : Nat) (n m l : Int) : Nat := tri x n.toNat m.toNat l.toNat
theorem sched_lt {B : List Nat} (h : Oct6 B) : ∀ n, M32 (sched B n)
  | 0 => fun i => by simp [sched]
  | n + 1 => fun i => by
    rw [sched]
    rcases Nat.lt_or_ge i (sched B n).length with h1 | h1
    · rw [List.getD, List.getElem?_append_left h1]
      exact sched_lt h n i
    · rw [List.getD, List.getElem?_append_right h1]
      rcases Nat.eq_zero_or_pos (i - (sched B n).length) with h2 | h2
      · rw [h2]; exact nextW_lt h _ _
      · rw [List.getElem?_eq_none (by simp; omega)]; exact (by decide : (0 : Nat) < 4294967296)
theorem t1_lt (s : StS) (k w : Nat) : t1 s k w < 4294967296 := Nat.mod_lt _ (by omega)
theorem t2_lt (s : StS) : t2 s < 4294967296 := Nat.mod_lt _ (by omega)
theorem ch_eq {e f g : Nat} (he : e < 4294967296) (hf : f < 4294967296) (hg : g < 4294967296) :
    bits BinOp.xor IntKind.u32 (bits BinOp.and IntKind.u32 (e : Int) (f : Int)) (bits BinOp.and IntKind.u32 (bits BinOp.xor IntKind.u32 4294967295 (e : Int)) (g : Int)) = (((e &&& f) ^^^ ((4294967295 ^^^ e) &&& g) : Nat) : Int) := by
  have h1 := u32_and_nat e f he hf
  have h2 := u32_xor_nat 4294967295 e (by omega) he
  have h3 := u32_and_nat (4294967295 ^^^ e) g (lt32_xor (by omega) he) hg
  have h4 := u32_xor_nat (e &&& f) ((4294967295 ^^^ e) &&& g) (lt32_and he) (lt32_and (lt32_xor (by omega) he))
  rw [← h4, ← h3, ← h2, ← h1]
  rfl
theorem maj_eq {a b c : Nat} (ha : a < 4294967296) (hb : b < 4294967296) (hc : c < 4294967296) :
    bits BinOp.xor IntKind.u32 (bits BinOp.xor IntKind.u32 (bits BinOp.and IntKind.u32 (a : Int) (b : Int)) (bits BinOp.and IntKind.u32 (a : Int) (c : Int))) (bits BinOp.and IntKind.u32 (b : Int) (c : Int)) = (((a &&& b) ^^^ (a &&& c) ^^^ (b &&& c) : Nat) : Int) := by
  have h1 := u32_and_nat a b ha hb
  have h2 := u32_and_nat a c ha hc
  have h3 := u32_and_nat b c hb hc
  have h4 := u32_xor_nat (a &&& b) (a &&& c) (lt32_and ha) (lt32_and ha)
  have h5 := u32_xor_nat ((a &&& b) ^^^ (a &&& c)) (b &&& c) (lt32_xor (lt32_and ha) (lt32_and ha)) (lt32_and hb)
  rw [← h5, ← h4, ← h3, ← h2, ← h1]
theorem t1_eq (a b c d : Nat) {e f g h k w : Nat} (he : e < 4294967296) (hf : f < 4294967296) (hg : g < 4294967296) (hh : h < 4294967296) (hk : k < 4294967296) (hw : w < 4294967296) :
    ((((h : Int) + ((triI e 6 11 25 : Nat) : Int) + bits BinOp.xor IntKind.u32 (bits BinOp.and IntKind.u32 (e : Int) (f : Int)) (bits BinOp.and IntKind.u32 (bits BinOp.xor IntKind.u32 4294967295 (e : Int)) (g : Int)) + (k : Int)) % 4294967296 + (w : Int)) % 4294967296) = ((t1 ⟨a, b, c, d, e, f, g, h⟩ k w : Nat) : Int) := by
  rw [ch_eq he hf hg]
  unfold t1
  show _ = ((((((h + tri e 6 11 25) % 4294967296 + ((e &&& f) ^^^ ((4294967295 ^^^ e) &&& g))) % 4294967296 + k) % 4294967296 + w) % 4294967296 : Nat) : Int)
  have e1 : triI e 6 11 25 = tri e 6 11 25 := rfl
  rw [e1]
  generalize tri e 6 11 25 = p
  generalize ((e &&& f) ^^^ ((4294967295 ^^^ e) &&& g)) = q
  omega
theorem kl_lt : ∀ t, t < 64 → KL.getD t 0 < 4294967296 := by decide
theorem st_info (s : StS) : (Try.prog.info? 57).map (·.size) = some (nums .u32 s.list).size := by rw [nums_size]; kernel_rfl
theorem ws_info {L : List Nat} (h : L.length = 64) : (Try.prog.info? 68).map (·.size) = some (nums .u32 L).size := by rw [nums_size, h]; kernel_rfl

/-- The world in which a block is begun: the words handed in, a place for the answer. -/
theorem begun (w : World) (s : StS) : ∃ W, W = (w.alloc (.cells (nums .u32 s.list) 57)).alloc (.cells #[Value.int IntKind.u32 0, Value.int IntKind.u32 0, Value.int IntKind.u32 0, Value.int IntKind.u32 0, Value.int IntKind.u32 0, Value.int IntKind.u32 0, Value.int IntKind.u32 0, Value.int IntKind.u32 0] 57) ∧ Row .u32 57 W w.heap.size s.list ∧ Holds W (w.heap.size + 1) 57 #[Value.int IntKind.u32 0, Value.int IntKind.u32 0, Value.int IntKind.u32 0, Value.int IntKind.u32 0, Value.int IntKind.u32 0, Value.int IntKind.u32 0, Value.int IntKind.u32 0, Value.int IntKind.u32 0] ∧ Below w.heap.size w W ∧ W.heap.size = w.heap.size + 2 := by
  refine ⟨_, rfl, (Holds.fresh w 57 (nums .u32 s.list)).alloc _, ?_, ((Below.refl _ _).alloc (Nat.le_refl _) _).alloc (by simp) _, by simp⟩
  have h := Holds.fresh (w.alloc (.cells (nums .u32 s.list) 57)) 57 #[Value.int IntKind.u32 0, Value.int IntKind.u32 0, Value.int IntKind.u32 0, Value.int IntKind.u32 0, Value.int IntKind.u32 0, Value.int IntKind.u32 0, Value.int IntKind.u32 0, Value.int IntKind.u32 0]
  rwa [show (w.alloc (.cells (nums .u32 s.list) 57)).heap.size = w.heap.size + 1 by simp] at h

theorem one8 (x1 x2 x3 x4 x5 x6 x7 x8 : Int) : (#[.int .u32 x1, .int .u32 x2, .int .u32 x3, .int .u32 x4, .int .u32 x5, .int .u32 x6, .int .u32 x7, .int .u32 x8] : Array Value).all (·.oneCell') = true := by simp [Value.oneCell']
theorem size8 (S : StS) : (nums .u32 S.list).size = 8 := by rw [nums_size]; rfl
theorem holds_setRow {w : World} {k g : Nat} {T : TypeId} {cs : Array Value} (h : Holds w k T cs) (hne : k ≠ g) (x : Array Value) : Holds (w.setRow g x) k T cs := by
  have h' : w.heap[k]? = some (.cells cs T (0, 0)) := h
  show (w.heap.modify g _)[k]? = _
  rw [Array.getElem?_modify, if_neg (fun e => hne e.symm)]
  exact h'
theorem plus_at (s t : StS) : ∀ k, k < 8 → (s.plus t).list.getD k 0 = (s.list.getD k 0 + t.list.getD k 0) % 4294967296 := by
  intro k hk
  rcases (by omega : k = 0 ∨ k = 1 ∨ k = 2 ∨ k = 3 ∨ k = 4 ∨ k = 5 ∨ k = 6 ∨ k = 7) with rfl | rfl | rfl | rfl | rfl | rfl | rfl | rfl <;> rfl
theorem t2_eq {a b c : Nat} (d e f g h : Nat) (ha : a < 4294967296) (hb : b < 4294967296) (hc : c < 4294967296) :
    (((triI a 2 13 22 : Nat) : Int) + bits BinOp.xor IntKind.u32 (bits BinOp.xor IntKind.u32 (bits BinOp.and IntKind.u32 (a : Int) (b : Int)) (bits BinOp.and IntKind.u32 (a : Int) (c : Int))) (bits BinOp.and IntKind.u32 (b : Int) (c : Int))) % 4294967296 = ((t2 ⟨a, b, c, d, e, f, g, h⟩ : Nat) : Int) := by
  rw [maj_eq ha hb hc]
  unfold t2
  show _ = (((tri a 2 13 22 + ((a &&& b) ^^^ (a &&& c) ^^^ (b &&& c))) % 4294967296 : Nat) : Int)
  have e1 : triI a 2 13 22 = tri a 2 13 22 := rfl
  rw [e1]
  generalize tri a 2 13 22 = p
  generalize ((a &&& b) ^^^ (a &&& c) ^^^ (b &&& c)) = q
  omega
/-- The first k sums are written. -/
def RelP (s S : StS) (w : World) (g6 : Nat) (i : Value) (wr : World) : Prop :=
  ∃ (k : Nat) (L : List Nat), k ≤ 8 ∧ i = .int .i64 k ∧ Row .u32 57 wr w.heap.size L ∧ L.length = 8 ∧ Hid (∀ j, j < 8 → L.getD j 0 = if j < k then (s.plus S).list.getD j 0 else s.list.getD j 0) ∧ Row .u32 57 wr g6 S.list ∧ Holds wr (w.heap.size + 1) 57 #[Value.int IntKind.u32 0, Value.int IntKind.u32 0, Value.int IntKind.u32 0, Value.int IntKind.u32 0, Value.int IntKind.u32 0, Value.int IntKind.u32 0, Value.int IntKind.u32 0, Value.int IntKind.u32 0] ∧ Below w.heap.size w wr
theorem plus_store {s S : StS} {w wr : World} {g6 k : Nat} {L : List Nat} {x : Nat} (hrow : Row .u32 57 wr w.heap.size L) (hL : L.length = 8) (HL : ∀ j, j < 8 → L.getD j 0 = if j < k then (s.plus S).list.getD j 0 else s.list.getD j 0) (hS : Row .u32 57 wr g6 S.list) (hres : Holds wr (w.heap.size + 1) 57 #[Value.int IntKind.u32 0, Value.int IntKind.u32 0, Value.int IntKind.u32 0, Value.int IntKind.u32 0, Value.int IntKind.u32 0, Value.int IntKind.u32 0, Value.int IntKind.u32 0, Value.int IntKind.u32 0]) (hb : Below w.heap.size w wr) (hk : k < 8) (hg : w.heap.size + 1 < g6)
    (hx : x = (s.plus S).list.getD k 0) : RelP s S w g6 (.int .i64 ((k : Int) + 1)) ((wr.setCell ⟨w.heap.size, k, none⟩ (.int .u32 (x : Int))).drewN 1) := by
  have hgr : wr.grownBy ((wr.setCell ⟨w.heap.size, k, none⟩ (.int .u32 (x : Int))).drewN 1) (some w.heap.size) := one_drewN (one_setCell (World.grownBy.refl wr (some w.heap.size)) k _) 1
  have hlow := one_below hgr (Nat.le_refl _) hb.size
  refine ⟨k + 1, L.set k x, by omega, by go_num, (hrow.set k x).drewN 1, by rw [List.length_set]; exact hL, Lib.hid (fun j hj => ?_), Holds.grown hS hgr (by intro e; injection e; omega), Holds.grown hres hgr (by intro e; injection e; omega), hb.trans hlow⟩
  by_cases e : j = k
  · subst e
    rw [if_pos (by omega), ← hx]
    simp [List.getD, hL, hj]
  · have e2 : (L.set k x).getD j 0 = L.getD j 0 := by rw [List.getD, List.getElem?_set_ne (by omega), ← List.getD]
    rw [e2, HL j hj]
    by_cases c : j < k
    · rw [if_pos c, if_pos (by omega)]
    · rw [if_neg c, if_neg (by omega)]
end Go.Proofs.Ytebhpjbjfbadjaa
