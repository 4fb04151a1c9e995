/-
  A block's words: by the program.
-/
import Derived.Test.YtebhpjbjfbadjaaSha2
import Derived.BigRegion
import Derived.Laws.Tables
import Derived.Laws.CopyOwn
import Derived.Deep.RegionLaw
import Derived.Deep.DrawnRows
namespace Go.Proofs.Ytebhpjbjfbadjaa
open Go.RowKit
set_option linter.unusedVariables false
attribute [local go_sem ↓] Go.wp_at_zero Go.wp_at_succ

set_option maxRecDepth 100000 in
theorem z64 : (#[Value.int IntKind.u32 0, Value.int IntKind.u32 0, Value.int IntKind.u32 0, Value.int IntKind.u32 0, Value.int IntKind.u32 0, Value.int IntKind.u32 0, Value.int IntKind.u32 0, Value.int IntKind.u32 0, Value.int IntKind.u32 0, Value.int IntKind.u32 0, Value.int IntKind.u32 0, Value.int IntKind.u32 0, Value.int IntKind.u32 0, Value.int IntKind.u32 0, Value.int IntKind.u32 0, Value.int IntKind.u32 0, Value.int IntKind.u32 0, Value.int IntKind.u32 0, Value.int IntKind.u32 0, Value.int IntKind.u32 0, Value.int IntKind.u32 0, Value.int IntKind.u32 0, Value.int IntKind.u32 0, Value.int IntKind.u32 0, Value.int IntKind.u32 0, Value.int IntKind.u32 0, Value.int IntKind.u32 0, Value.int IntKind.u32 0, Value.int IntKind.u32 0, Value.int IntKind.u32 0, Value.int IntKind.u32 0, Value.int IntKind.u32 0, Value.int IntKind.u32 0, Value.int IntKind.u32 0, Value.int IntKind.u32 0, Value.int IntKind.u32 0, Value.int IntKind.u32 0, Value.int IntKind.u32 0, Value.int IntKind.u32 0, Value.int IntKind.u32 0, Value.int IntKind.u32 0, Value.int IntKind.u32 0, Value.int IntKind.u32 0, Value.int IntKind.u32 0, Value.int IntKind.u32 0, Value.int IntKind.u32 0, Value.int IntKind.u32 0, Value.int IntKind.u32 0, Value.int IntKind.u32 0, Value.int IntKind.u32 0, Value.int IntKind.u32 0, Value.int IntKind.u32 0, Value.int IntKind.u32 0, Value.int IntKind.u32 0, Value.int IntKind.u32 0, Value.int IntKind.u32 0, Value.int IntKind.u32 0, Value.int IntKind.u32 0, Value.int IntKind.u32 0, Value.int IntKind.u32 0, Value.int IntKind.u32 0, Value.int IntKind.u32 0, Value.int IntKind.u32 0, Value.int IntKind.u32 0] : Array Value) = nums .u32 (List.replicate 64 0) := rfl

/-- Block g is words of which the first k are the block's. -/
def WordsTo (l : List Nat) (w : World) (B : Nat) (A : Option Addr) (c k : Nat) (wr : World) : Prop :=
  ∃ L R : List Nat, Row .u32 68 wr (w.heap.size + 1) L ∧ L.length = 64 ∧ Hid (L.take k = sched l k) ∧ M32 L ∧ Row .u32 68 wr w.heap.size R ∧ R.length = 64 ∧ Rd .u8 wr B A c l ∧ Below w.heap.size w wr
def RelWS (l : List Nat) (w : World) (B : Nat) (A : Option Addr) (c n : Nat) (i : Value) (wr : World) : Prop :=
  ∃ k : Nat, k ≤ n ∧ i = .int .i64 k ∧ WordsTo l w B A c k wr

theorem words_store {l L : List Nat} {w wr W2 : World} {B : Nat} {A : Option Addr} {c k : Nat} {R : List Nat} {x : Nat} (hrow : Row .u32 68 wr (w.heap.size + 1) L) (hL : L.length = 64) (HL : L.take k = sched l k) (hm : M32 L) (hR : Row .u32 68 wr w.heap.size R) (hRl : R.length = 64) (hrd : Rd .u8 wr B A c l) (hb : Below w.heap.size w wr) (hB : B ≤ w.heap.size) (hk : k < 64)
    (hx : x = nextW l L k) (hx32 : x < 4294967296) (hW2 : W2 = (wr.setCell ⟨w.heap.size + 1, k, none⟩ (.int .u32 (x : Int))).drewN 1) : WordsTo l w B A c (k + 1) W2 := by
  subst hW2
  have hg : wr.grownBy ((wr.setCell ⟨w.heap.size + 1, k, none⟩ (.int .u32 (x : Int))).drewN 1) (some (w.heap.size + 1)) := one_drewN (one_setCell (World.grownBy.refl wr (some (w.heap.size + 1))) k _) 1
  have hlow := one_below hg (Nat.le_succ _) hb.size
  refine ⟨L.set k x, R, (hrow.set k x).drewN 1, by rw [List.length_set]; exact hL, Lib.hid (sched_put HL (by omega) x hx), m32_set hm k hx32, Holds.grown hR hg (by intro e; injection e; omega), hRl, hrd.under (hlow.mono hB), hb.trans hlow⟩

def RelX (l : List Nat) (w : World) (B : Nat) (A : Option Addr) (c : Nat) (i : Value) (wr : World) : Prop :=
  ∃ k : Nat, 16 ≤ k ∧ k ≤ 64 ∧ i = .int .i64 k ∧ WordsTo l w B A c k wr
theorem words_store' {l L : List Nat} {w wr W2 : World} {B : Nat} {A : Option Addr} {c k : Nat} {R : List Nat} {x : Nat} (hrow : Row .u32 68 wr (w.heap.size + 1) L) (hL : L.length = 64) (HL : L.take k = sched l k) (hm : M32 L) (hR : Row .u32 68 wr w.heap.size R) (hRl : R.length = 64) (hrd : Rd .u8 wr B A c l) (hb : Below w.heap.size w wr) (hB : B ≤ w.heap.size) (hk : k < 64)
    (V2 : World) (hV2 : ∃ n, V2 = wr.drewN n) (hx : x = nextW l L k) (hx32 : x < 4294967296) (hW2 : W2 = (V2.setCell ⟨w.heap.size + 1, k, none⟩ (.int .u32 (x : Int))).drewN 1) : WordsTo l w B A c (k + 1) W2 := by
  obtain ⟨n, rfl⟩ := hV2
  exact words_store (wr := wr.drewN n) (hrow.drewN n) hL HL hm (hR.drewN n) hRl (hrd.drewN n) ⟨hb.os, hb.tape, hb.output, hb.size, hb.block⟩ hB hk hx hx32 hW2
/-- A call that leaves the world alone, in a region's first draws. -/
theorem quiet_one {P : Program} {f : FuncId} {args : Array Value} {w : World} {n : Nat} {v : Value}
    (h : ∀ W : World, Calls P f args W fun e w' => e = .returned v ∧ W = w') : Calls P f args (w.drewN n) fun e w'' => e = .returned v ∧ ∃ m, w'' = w.drewN m :=
  (h _).mono fun _ _ hh => ⟨hh.1, n, hh.2.symm⟩
theorem nums_one (k : IntKind) (l : List Nat) : (nums k l).all (·.oneCell') = true := by
  rw [Array.all_eq_true_iff_forall_mem]
  intro v hv
  simp [nums] at hv
  obtain ⟨a, _, rfl⟩ := hv
  rfl
theorem xor3 {a b x : Nat} (ha : a < 4294967296) (hb : b < 4294967296) (hx : x < 4294967296) (p : Nat) : bits BinOp.xor IntKind.u32 (bits BinOp.xor IntKind.u32 (a : Int) (b : Int)) ((x : Int) / (p : Nat)) = (((a ^^^ b) ^^^ x / p : Nat) : Int) := by
  have e1 := u32_xor_nat a b ha hb
  have e2 := u32_xor_nat (a ^^^ b) (x / p) (lt32_xor ha hb) (Nat.lt_of_le_of_lt (Nat.div_le_self _ _) hx)
  rw [← e2, ← e1, Int.natCast_ediv]
theorem tn2 : Turns 2 := .inl rfl
theorem tn6 : Turns 6 := .inr (.inl rfl)
theorem tn7 : Turns 7 := .inr (.inr (.inl rfl))
theorem tn11 : Turns 11 := .inr (.inr (.inr (.inl rfl)))
theorem tn13 : Turns 13 := .inr (.inr (.inr (.inr (.inl rfl))))
theorem tn17 : Turns 17 := .inr (.inr (.inr (.inr (.inr (.inl rfl)))))
theorem tn18 : Turns 18 := .inr (.inr (.inr (.inr (.inr (.inr (.inl rfl))))))
theorem tn19 : Turns 19 := .inr (.inr (.inr (.inr (.inr (.inr (.inr (.inl rfl)))))))
theorem tn22 : Turns 22 := .inr (.inr (.inr (.inr (.inr (.inr (.inr (.inr (.inl rfl))))))))
instance (n : Nat) : Decidable (Turns n) := by unfold Turns; infer_instance
/-- x turned by a whole number of places. -/
def rotI (x : Nat) (z : Int) : Nat := rot x z.toNat
theorem tn25 : Turns 25 := .inr (.inr (.inr (.inr (.inr (.inr (.inr (.inr (.inr rfl))))))))

end Go.Proofs.Ytebhpjbjfbadjaa
