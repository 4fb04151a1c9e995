/-
  All whole blocks of a row: by the program.
-/
import Derived.Test.YtebhpjbjfbadjaaSha5
import Derived.Test.YtebhpjbjfbadjaaSha6
namespace Go.Proofs.Ytebhpjbjfbadjaa
open Go.RowKit
set_option linter.unusedVariables false
attribute [local go_sem ↓] Go.wp_at_zero Go.wp_at_succ

set_option maxRecDepth 100000 in
theorem slice_from (g off k c : Nat) (h1 : 64 ≤ k) (h2 : k ≤ c) (W : World) : (Instr.slice 29 (.slice (some ⟨g, off, none⟩) k c) (some (.int .i64 64)) none none).run Try.prog W = .ok (.slice (some ⟨g, if c = 64 then off else off + 64, none⟩) (k - 64) (c - 64)) W := by
  have hs : (sizeOf (Try.prog.elem 29)).run Try.prog W = .ok 1 W := by kernel_rfl
  have ht : Try.prog.underlying 29 = some (.slice (Try.prog.elem 29)) := by kernel_rfl
  rw [run_slice_l (P := Try.prog) (w := W) (t := 29) (ht := ht) (kl := .i64) (l := 64) (h0 := by omega) (h1 := by omega), hs]
  have e1 : (Int.toNat 64) = 64 := rfl
  rw [e1]
  simp only [Result.andThen, sliced, Nat.mul_one, Option.map_some]
  by_cases h : c = 64
  · rw [if_pos h, if_pos h]
  · rw [if_neg h, if_neg h, Addr.add_lit]
theorem results_row_tmp {P : Program} {fn : Func} {p u : Tmp} {ty : TypeId} (h : fn.results = #[.cell p ty, .tmp u]) (tmps : Array Value) (w : World) (g : Nat) (t : TypeId) (cs : Array Value) (fr : Nat × Nat) (d : TypeDesc)
    (hp : tmps.getD p undef = .pointer (some ⟨g, 0, none⟩)) (hg : w.heap[g]? = some (.cells cs t fr))
    (hu : P.underlying ty = some d) (hd : (match d with | .struct _ | .array _ _ => true | _ => false) = true) (hi : (P.info? ty).map (·.size) = some cs.size) (v : Value) (hv : tmps.getD u undef = v) :
    (results fn tmps).run P w = .ok (.tuple #[.agg cs, v]) w := by
  subst hv
  have hp' : tmps[p]?.getD undef = .pointer (some ⟨g, 0, none⟩) := by simpa using hp
  simp [results, h, hp', asAddr, run_loadVar_row w g t ty cs fr d hg hu hd hi]
theorem nums_list (s : StS) : nums .u32 s.list = #[.int .u32 (s.a : Int), .int .u32 (s.b : Int), .int .u32 (s.c : Int), .int .u32 (s.d : Int), .int .u32 (s.e : Int), .int .u32 (s.f : Int), .int .u32 (s.g : Int), .int .u32 (s.h : Int)] := rfl
theorem blk_short {s : StS} {l : List Nat} (h : l.length ≠ 64) : blk s l = s := by rw [blk, if_neg h]
theorem block'_any (w : World) (s : StS) (hs : s.Ok) (B : Nat) (A : Option Addr) (c n : Nat) (l : List Nat) (hl : l.length = n) (hr : Rd .u8 w B A c l) (hB : B ≤ w.heap.size) (ho : Oct6 l) :
    Calls Try.prog 35 #[.agg (nums .u32 s.list), .slice A n c] w fun e w' => e = .returned (.agg (nums .u32 (blk s l).list)) ∧ Below w.heap.size w w' := by
  by_cases h : n = 64
  · subst h
    exact block'_full w s hs B A c l hl hr hB ho
  · rw [blk_short (by omega)]
    exact block'_short w s A c n h
/-- So many blocks, one after another. -/
def chain (s : StS) (l : List Nat) : Nat → StS
  | 0 => s
  | q + 1 => blk (chain s l q) ((l.drop (64 * q)).take 64)
theorem chain_ok {s : StS} (h : s.Ok) (l : List Nat) : ∀ q, (chain s l q).Ok
  | 0 => h
  | q + 1 => blk_ok (chain_ok h l q) _
theorem oct_drop {l : List Nat} (h : Oct6 l) (n : Nat) : Oct6 (l.drop n) := fun i => by
  have := h (n + i)
  simpa [List.getD] using this
theorem oct_take {l : List Nat} (h : Oct6 l) (n : Nat) : Oct6 (l.take n) := fun i => by
  by_cases hi : i < n
  · rw [getD_take l hi]; exact h i
  · rw [List.getD, List.getElem?_eq_none (by simp; omega)]; exact (by decide : (0 : Nat) < 256)

def RelH (s : StS) (l : List Nat) (n : Nat) (w : World) (B : Nat) (v : Value) (wr : World) : Prop :=
  ∃ (q k : Nat) (A : Option Addr) (c : Nat), Hid (64 * q + k = n) ∧ v = .slice A k c ∧ Mine 5 wr B A c (l.drop (64 * q)) ∧ (∀ g, blk_of A = some g → g < w.heap.size) ∧ Row .u32 57 wr w.heap.size (chain s l q).list ∧ Holds wr (w.heap.size + 1) 57 #[Value.int IntKind.u32 0, Value.int IntKind.u32 0, Value.int IntKind.u32 0, Value.int IntKind.u32 0, Value.int IntKind.u32 0, Value.int IntKind.u32 0, Value.int IntKind.u32 0, Value.int IntKind.u32 0] ∧ Below w.heap.size w wr
/-- What is left behind whole blocks. -/
def WholePost (s : StS) (l : List Nat) (n : Nat) (w : World) (B : Nat) (e : Ending) (w' : World) : Prop :=
  ∃ (A : Option Addr) (c : Nat), e = .returned (.tuple #[.agg (nums .u32 (chain s l (n / 64)).list), .slice A (n % 64) c]) ∧ Mine 5 w' B A c (l.drop (64 * (n / 64))) ∧ Below w.heap.size w w'

end Go.Proofs.Ytebhpjbjfbadjaa
