/-
  How many bytes a thing has: by the program.
-/
import Derived.Test.YtdjklhglkmacbaaDoorTlv5
namespace Go.Proofs.YtdjklhglkmacbaaDoor
open Go.RowKit
set_option linter.unusedVariables false
set_option linter.unusedSimpArgs false

/-- How many bytes stand behind its length. -/
def Tr.inl : Tr → Nat
  | .mk _ body kids => body.length + (Tr.encs kids).length
theorem Tr.enc_len : ∀ t : Tr, t.enc.length = 1 + (lenB t.inl).length + t.inl
  | .mk _ body kids => by rw [Tr.enc, Tr.inl]; simp; omega
theorem Lt.val_eq (t : Lt) : t.val = .agg #[.int .u8 (t.tag : Int), .slice t.ba t.body.length t.bc, .slice t.ka t.kids.length t.kc] := rfl
def RelI (w : World) (cs : Array Value) (bl : Nat) (l : List Tr) (n : Nat) (v i : Value) (wr : World) : Prop :=
  ∃ k : Nat, k ≤ n ∧ i = .int .i64 k ∧ v = .int .i64 ((bl : Int) + ((Tr.encs (l.take k)).length : Int)) ∧ Hid (Below w.heap.size w wr)
end Go.Proofs.YtdjklhglkmacbaaDoor
