/-
  No cell of these rows narrows 'for every input' (looked for: loops, veiled, ifaces, maps, wideKeys, modest, calm, conditions, laid).
  DERIVED. THE GIVEN ROWS OF THIS SEAT. 6 by the template 'for every input the law returns true; each argument reads behind the call as it read before'; 0 by the template 'total and deterministic' (their statements: YtbenkffjfjddgaaTotals.lean).
  GIVEN WITH THE SEED: the statements are not yours to turn. If you find one false, say at which input.
  Laid BY PROGRAM, IN A SANDBOX (cutbox-rows.mjs): the forced cells as the released guide's own fill.sh prints them over the translation 91074bb0c25b5aad… (all of the seat's roots in one cut). By AI agents, Wed Nov 11 2026. No macro, syntax, notation, axiom, sorry.
-/
import Derived.Test.YtbenkffjfjddgaaChecked
import GoSem.Claim
import GoSem.ClaimJoined
import GoSem.ClaimMapViews
import Derived.JoinedTies
import Derived.KernelRfl
namespace Go.Proofs.Ytbenkffjfjddgaa
/- THE CELL 'sum', in the pinned program and in every row, IS THE sha256 OF THE DUMP (.gsa) THAT YtbenkffjfjddgaaProg.lean LOADS. Nothing in Lean hashes anything: it is a label: what it is worth is what the hold of that sum in a sandbox is worth. -/
noncomputable def Try.pinned : Pinned := { name := "ytbenkffjfjddgaa", sum := "91074bb0c25b5aadcbb8d29eb57510b124dc00a84b4ce0883d34157c6f4c6b3a", checked := Try.checked }
namespace Rows
def none {H : Type} : Left H := { results := [], args := [] }

/-- 'apostillelaw1.DevPlays': WHATEVER THE INPUT: true; the input reads as it did. -/
def devPlaysSpec : ChangeSpec := { name := "devPlays", fn := fun _ => fun
  | [d1, d2] => { results := [.lit (.bool true)], args := [d1, d2] }
  | _ => none }
def devPlaysRow : OpenClaim := { program := "ytbenkffjfjddgaa", sum := "91074bb0c25b5aadcbb8d29eb57510b124dc00a84b4ce0883d34157c6f4c6b3a", func := "apostille/apostillelaw1.DevPlays", spec := "devPlays", apart := false }
def DevPlaysSaid : Prop := devPlaysRow.holds Try.pinned (OpenSpec.ofChange devPlaysSpec)

/-- ITS FALSE NEIGHBOUR: 'it returns false'. Refute it at one input. -/
def devPlaysWrong : ChangeSpec := { name := "devPlays", fn := fun _ => fun
  | [d1, d2] => { results := [.lit (.bool false)], args := [d1, d2] }
  | _ => none }
def DevPlaysWrongFalsely : Prop := devPlaysRow.holds Try.pinned (OpenSpec.ofChange devPlaysWrong)

/-- 'apostillelaw1.DevKeeps': WHATEVER THE INPUT: true; the input reads as it did. -/
def devKeepsSpec : ChangeSpec := { name := "devKeeps", fn := fun _ => fun
  | [d1, d2] => { results := [.lit (.bool true)], args := [d1, d2] }
  | _ => none }
def devKeepsRow : OpenClaim := { program := "ytbenkffjfjddgaa", sum := "91074bb0c25b5aadcbb8d29eb57510b124dc00a84b4ce0883d34157c6f4c6b3a", func := "apostille/apostillelaw1.DevKeeps", spec := "devKeeps", apart := false }
def DevKeepsSaid : Prop := devKeepsRow.holds Try.pinned (OpenSpec.ofChange devKeepsSpec)

/-- ITS FALSE NEIGHBOUR: 'it returns false'. Refute it at one input. -/
def devKeepsWrong : ChangeSpec := { name := "devKeeps", fn := fun _ => fun
  | [d1, d2] => { results := [.lit (.bool false)], args := [d1, d2] }
  | _ => none }
def DevKeepsWrongFalsely : Prop := devKeepsRow.holds Try.pinned (OpenSpec.ofChange devKeepsWrong)

/-- 'apostillelaw1.DevFlushed': WHATEVER THE INPUT: true; the input reads as it did. -/
def devFlushedSpec : ChangeSpec := { name := "devFlushed", fn := fun _ => fun
  | [d1, d2, d3] => { results := [.lit (.bool true)], args := [d1, d2, d3] }
  | _ => none }
def devFlushedRow : OpenClaim := { program := "ytbenkffjfjddgaa", sum := "91074bb0c25b5aadcbb8d29eb57510b124dc00a84b4ce0883d34157c6f4c6b3a", func := "apostille/apostillelaw1.DevFlushed", spec := "devFlushed", apart := false }
def DevFlushedSaid : Prop := devFlushedRow.holds Try.pinned (OpenSpec.ofChange devFlushedSpec)

/-- ITS FALSE NEIGHBOUR: 'it returns false'. Refute it at one input. -/
def devFlushedWrong : ChangeSpec := { name := "devFlushed", fn := fun _ => fun
  | [d1, d2, d3] => { results := [.lit (.bool false)], args := [d1, d2, d3] }
  | _ => none }
def DevFlushedWrongFalsely : Prop := devFlushedRow.holds Try.pinned (OpenSpec.ofChange devFlushedWrong)

/-- 'apostillelaw1.DevOwn': WHATEVER THE INPUT: true; the input reads as it did. -/
def devOwnSpec : ChangeSpec := { name := "devOwn", fn := fun _ => fun
  | [d1, d2] => { results := [.lit (.bool true)], args := [d1, d2] }
  | _ => none }
def devOwnRow : OpenClaim := { program := "ytbenkffjfjddgaa", sum := "91074bb0c25b5aadcbb8d29eb57510b124dc00a84b4ce0883d34157c6f4c6b3a", func := "apostille/apostillelaw1.DevOwn", spec := "devOwn", apart := false }
def DevOwnSaid : Prop := devOwnRow.holds Try.pinned (OpenSpec.ofChange devOwnSpec)

/-- ITS FALSE NEIGHBOUR: 'it returns false'. Refute it at one input. -/
def devOwnWrong : ChangeSpec := { name := "devOwn", fn := fun _ => fun
  | [d1, d2] => { results := [.lit (.bool false)], args := [d1, d2] }
  | _ => none }
def DevOwnWrongFalsely : Prop := devOwnRow.holds Try.pinned (OpenSpec.ofChange devOwnWrong)

/-- 'apostillelaw1.DevWhere': WHATEVER THE INPUT: true; the input reads as it did. -/
def devWhereSpec : ChangeSpec := { name := "devWhere", fn := fun _ => fun
  | [d1, d2, d3] => { results := [.lit (.bool true)], args := [d1, d2, d3] }
  | _ => none }
def devWhereRow : OpenClaim := { program := "ytbenkffjfjddgaa", sum := "91074bb0c25b5aadcbb8d29eb57510b124dc00a84b4ce0883d34157c6f4c6b3a", func := "apostille/apostillelaw1.DevWhere", spec := "devWhere", apart := false }
def DevWhereSaid : Prop := devWhereRow.holds Try.pinned (OpenSpec.ofChange devWhereSpec)

/-- ITS FALSE NEIGHBOUR: 'it returns false'. Refute it at one input. -/
def devWhereWrong : ChangeSpec := { name := "devWhere", fn := fun _ => fun
  | [d1, d2, d3] => { results := [.lit (.bool false)], args := [d1, d2, d3] }
  | _ => none }
def DevWhereWrongFalsely : Prop := devWhereRow.holds Try.pinned (OpenSpec.ofChange devWhereWrong)

/-- 'apostillelaw1.DevAgain': WHATEVER THE INPUT: true; the input reads as it did. -/
def devAgainSpec : ChangeSpec := { name := "devAgain", fn := fun _ => fun
  | [d1, d2] => { results := [.lit (.bool true)], args := [d1, d2] }
  | _ => none }
def devAgainRow : OpenClaim := { program := "ytbenkffjfjddgaa", sum := "91074bb0c25b5aadcbb8d29eb57510b124dc00a84b4ce0883d34157c6f4c6b3a", func := "apostille/apostillelaw1.DevAgain", spec := "devAgain", apart := false }
def DevAgainSaid : Prop := devAgainRow.holds Try.pinned (OpenSpec.ofChange devAgainSpec)

/-- ITS FALSE NEIGHBOUR: 'it returns false'. Refute it at one input. -/
def devAgainWrong : ChangeSpec := { name := "devAgain", fn := fun _ => fun
  | [d1, d2] => { results := [.lit (.bool false)], args := [d1, d2] }
  | _ => none }
def DevAgainWrongFalsely : Prop := devAgainRow.holds Try.pinned (OpenSpec.ofChange devAgainWrong)

/- THE SECOND FORM. 'bulk': how many values and letters a reading holds, each counted each time it is reached (what is shared counts as often as it is met; a slice's spare places count too). A statement '..UptoSaid' is the law's where the arguments, and the package variables that the reading takes, are together of bulk at most 1048576: NARROWER than '..Said'. Prove '..Said' where nothing that the law and all that it calls make is longer than what came in: it says more and counts as full. Else prove '..UptoSaid'. A law counts once. -/
mutual
def uptoBulk {H : Type} : DataW H → Nat
  | .lit (.string bytes) => bytes.length + 1
  | .lit _ => 1
  | .nil => 1
  | .ptr d => uptoBulk d + 1
  | .slice elems spare => uptoBulkAll elems + uptoBulkAll spare + 1
  | .agg parts => uptoBulkAll parts + 1
  | .iface _ d => uptoBulk d + 1
  | .map entries => uptoBulkEntries entries + 1
  | .held _ => 1
def uptoBulkAll {H : Type} : List (DataW H) → Nat
  | [] => 0
  | d :: r => uptoBulk d + uptoBulkAll r
def uptoBulkEntries {H : Type} : List (Lit × DataW H) → Nat
  | [] => 0
  | x :: r => uptoBulkEntry x + uptoBulkEntries r
def uptoBulkEntry {H : Type} : Lit × DataW H → Nat
  | (.string bytes, d) => bytes.length + uptoBulk d + 1
  | (_, d) => uptoBulk d + 1
 end
def uptoSmall : (H : Type) → List (DataW H) → Bool := fun _ ds => decide (uptoBulkAll ds ≤ 1048576)
def OpenSpec.upto (s : _root_.Go.ChangeSpec) : _root_.Go.OpenSpec := { _root_.Go.OpenSpec.ofChange s with cond := some uptoSmall }

/-- 'apostillelaw1.DevPlays', WHERE WHAT IT READS IS OF BULK AT MOST 1048576: true; the input reads as it did. -/
def devPlaysUptoRow : OpenClaim := { program := "ytbenkffjfjddgaa", sum := "91074bb0c25b5aadcbb8d29eb57510b124dc00a84b4ce0883d34157c6f4c6b3a", func := "apostille/apostillelaw1.DevPlays", spec := "devPlays", apart := false, narrowed := true }
def DevPlaysUptoSaid : Prop := devPlaysUptoRow.holds Try.pinned (OpenSpec.upto devPlaysSpec)

/-- 'apostillelaw1.DevKeeps', WHERE WHAT IT READS IS OF BULK AT MOST 1048576: true; the input reads as it did. -/
def devKeepsUptoRow : OpenClaim := { program := "ytbenkffjfjddgaa", sum := "91074bb0c25b5aadcbb8d29eb57510b124dc00a84b4ce0883d34157c6f4c6b3a", func := "apostille/apostillelaw1.DevKeeps", spec := "devKeeps", apart := false, narrowed := true }
def DevKeepsUptoSaid : Prop := devKeepsUptoRow.holds Try.pinned (OpenSpec.upto devKeepsSpec)

/-- 'apostillelaw1.DevFlushed', WHERE WHAT IT READS IS OF BULK AT MOST 1048576: true; the input reads as it did. -/
def devFlushedUptoRow : OpenClaim := { program := "ytbenkffjfjddgaa", sum := "91074bb0c25b5aadcbb8d29eb57510b124dc00a84b4ce0883d34157c6f4c6b3a", func := "apostille/apostillelaw1.DevFlushed", spec := "devFlushed", apart := false, narrowed := true }
def DevFlushedUptoSaid : Prop := devFlushedUptoRow.holds Try.pinned (OpenSpec.upto devFlushedSpec)

/-- 'apostillelaw1.DevOwn', WHERE WHAT IT READS IS OF BULK AT MOST 1048576: true; the input reads as it did. -/
def devOwnUptoRow : OpenClaim := { program := "ytbenkffjfjddgaa", sum := "91074bb0c25b5aadcbb8d29eb57510b124dc00a84b4ce0883d34157c6f4c6b3a", func := "apostille/apostillelaw1.DevOwn", spec := "devOwn", apart := false, narrowed := true }
def DevOwnUptoSaid : Prop := devOwnUptoRow.holds Try.pinned (OpenSpec.upto devOwnSpec)

/-- 'apostillelaw1.DevWhere', WHERE WHAT IT READS IS OF BULK AT MOST 1048576: true; the input reads as it did. -/
def devWhereUptoRow : OpenClaim := { program := "ytbenkffjfjddgaa", sum := "91074bb0c25b5aadcbb8d29eb57510b124dc00a84b4ce0883d34157c6f4c6b3a", func := "apostille/apostillelaw1.DevWhere", spec := "devWhere", apart := false, narrowed := true }
def DevWhereUptoSaid : Prop := devWhereUptoRow.holds Try.pinned (OpenSpec.upto devWhereSpec)

/-- 'apostillelaw1.DevAgain', WHERE WHAT IT READS IS OF BULK AT MOST 1048576: true; the input reads as it did. -/
def devAgainUptoRow : OpenClaim := { program := "ytbenkffjfjddgaa", sum := "91074bb0c25b5aadcbb8d29eb57510b124dc00a84b4ce0883d34157c6f4c6b3a", func := "apostille/apostillelaw1.DevAgain", spec := "devAgain", apart := false, narrowed := true }
def DevAgainUptoSaid : Prop := devAgainUptoRow.holds Try.pinned (OpenSpec.upto devAgainSpec)

end Rows
end Go.Proofs.Ytbenkffjfjddgaa
