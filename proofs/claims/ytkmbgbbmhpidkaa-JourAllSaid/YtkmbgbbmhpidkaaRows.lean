/-
  No cell of these rows narrows 'for every input' (looked for: loops, veiled, ifaces, maps, wideKeys, modest, calm, conditions, laid).
  DERIVED. THE GIVEN ROWS OF THIS SEAT. 5 by the template 'for every input the law returns true; each argument reads behind the call as it read before'; 0 by the template 'total and deterministic' (their statements: YtkmbgbbmhpidkaaTotals.lean).
  GIVEN WITH THE SEED: the statements are not yours to turn. If you find one false, say at which input.
  Laid BY PROGRAM, IN A SANDBOX (cutbox-rows.mjs): the forced cells as the released guide's own fill.sh prints them over the translation 76a0e70ded4a00a1… (all of the seat's roots in one cut). By AI agents, Wed Nov 11 2026. No macro, syntax, notation, axiom, sorry.
-/
import Derived.Test.YtkmbgbbmhpidkaaChecked
import GoSem.Claim
import GoSem.ClaimJoined
import GoSem.ClaimMapViews
import Derived.JoinedTies
import Derived.KernelRfl
namespace Go.Proofs.Ytkmbgbbmhpidkaa
/- THE CELL 'sum', in the pinned program and in every row, IS THE sha256 OF THE DUMP (.gsa) THAT YtkmbgbbmhpidkaaProg.lean LOADS. Nothing in Lean hashes anything: it is a label: what it is worth is what the hold of that sum in a sandbox is worth. -/
noncomputable def Try.pinned : Pinned := { name := "ytkmbgbbmhpidkaa", sum := "76a0e70ded4a00a131d96a0d3daee30f1f69b25a07a5ff0064db74ccb0523e4a", checked := Try.checked }
namespace Rows
def none {H : Type} : Left H := { results := [], args := [] }

/-- 'apostillelaw2.JourPlays': WHATEVER THE INPUT: true; the input reads as it did. -/
def jourPlaysSpec : ChangeSpec := { name := "jourPlays", fn := fun _ => fun
  | [d1, d2] => { results := [.lit (.bool true)], args := [d1, d2] }
  | _ => none }
def jourPlaysRow : OpenClaim := { program := "ytkmbgbbmhpidkaa", sum := "76a0e70ded4a00a131d96a0d3daee30f1f69b25a07a5ff0064db74ccb0523e4a", func := "apostille/apostillelaw2.JourPlays", spec := "jourPlays", unfollowed := true, recurses := true, apart := false }
def JourPlaysSaid : Prop := jourPlaysRow.holds Try.pinned (OpenSpec.ofChange jourPlaysSpec)

/-- ITS FALSE NEIGHBOUR: 'it returns false'. Refute it at one input. -/
def jourPlaysWrong : ChangeSpec := { name := "jourPlays", fn := fun _ => fun
  | [d1, d2] => { results := [.lit (.bool false)], args := [d1, d2] }
  | _ => none }
def JourPlaysWrongFalsely : Prop := jourPlaysRow.holds Try.pinned (OpenSpec.ofChange jourPlaysWrong)

/-- 'apostillelaw2.JourAll': WHATEVER THE INPUT: true; the input reads as it did. -/
def jourAllSpec : ChangeSpec := { name := "jourAll", fn := fun _ => fun
  | [d1, d2, d3] => { results := [.lit (.bool true)], args := [d1, d2, d3] }
  | _ => none }
def jourAllRow : OpenClaim := { program := "ytkmbgbbmhpidkaa", sum := "76a0e70ded4a00a131d96a0d3daee30f1f69b25a07a5ff0064db74ccb0523e4a", func := "apostille/apostillelaw2.JourAll", spec := "jourAll", unfollowed := true, recurses := true, apart := false }
def JourAllSaid : Prop := jourAllRow.holds Try.pinned (OpenSpec.ofChange jourAllSpec)

/-- ITS FALSE NEIGHBOUR: 'it returns false'. Refute it at one input. -/
def jourAllWrong : ChangeSpec := { name := "jourAll", fn := fun _ => fun
  | [d1, d2, d3] => { results := [.lit (.bool false)], args := [d1, d2, d3] }
  | _ => none }
def JourAllWrongFalsely : Prop := jourAllRow.holds Try.pinned (OpenSpec.ofChange jourAllWrong)

/-- 'apostillelaw2.JourRefused': WHATEVER THE INPUT: true; the input reads as it did. -/
def jourRefusedSpec : ChangeSpec := { name := "jourRefused", fn := fun _ => fun
  | [d1, d2, d3] => { results := [.lit (.bool true)], args := [d1, d2, d3] }
  | _ => none }
def jourRefusedRow : OpenClaim := { program := "ytkmbgbbmhpidkaa", sum := "76a0e70ded4a00a131d96a0d3daee30f1f69b25a07a5ff0064db74ccb0523e4a", func := "apostille/apostillelaw2.JourRefused", spec := "jourRefused", unfollowed := true, recurses := true, apart := false }
def JourRefusedSaid : Prop := jourRefusedRow.holds Try.pinned (OpenSpec.ofChange jourRefusedSpec)

/-- ITS FALSE NEIGHBOUR: 'it returns false'. Refute it at one input. -/
def jourRefusedWrong : ChangeSpec := { name := "jourRefused", fn := fun _ => fun
  | [d1, d2, d3] => { results := [.lit (.bool false)], args := [d1, d2, d3] }
  | _ => none }
def JourRefusedWrongFalsely : Prop := jourRefusedRow.holds Try.pinned (OpenSpec.ofChange jourRefusedWrong)

/-- 'apostillelaw2.JourMark': WHATEVER THE INPUT: true; the input reads as it did. -/
def jourMarkSpec : ChangeSpec := { name := "jourMark", fn := fun _ => fun
  | [d1, d2, d3] => { results := [.lit (.bool true)], args := [d1, d2, d3] }
  | _ => none }
def jourMarkRow : OpenClaim := { program := "ytkmbgbbmhpidkaa", sum := "76a0e70ded4a00a131d96a0d3daee30f1f69b25a07a5ff0064db74ccb0523e4a", func := "apostille/apostillelaw2.JourMark", spec := "jourMark", unfollowed := true, recurses := true, apart := false }
def JourMarkSaid : Prop := jourMarkRow.holds Try.pinned (OpenSpec.ofChange jourMarkSpec)

/-- ITS FALSE NEIGHBOUR: 'it returns false'. Refute it at one input. -/
def jourMarkWrong : ChangeSpec := { name := "jourMark", fn := fun _ => fun
  | [d1, d2, d3] => { results := [.lit (.bool false)], args := [d1, d2, d3] }
  | _ => none }
def JourMarkWrongFalsely : Prop := jourMarkRow.holds Try.pinned (OpenSpec.ofChange jourMarkWrong)

/-- 'apostillelaw2.JourMost': WHATEVER THE INPUT: true; the input reads as it did. -/
def jourMostSpec : ChangeSpec := { name := "jourMost", fn := fun _ => fun
  | [d1, d2] => { results := [.lit (.bool true)], args := [d1, d2] }
  | _ => none }
def jourMostRow : OpenClaim := { program := "ytkmbgbbmhpidkaa", sum := "76a0e70ded4a00a131d96a0d3daee30f1f69b25a07a5ff0064db74ccb0523e4a", func := "apostille/apostillelaw2.JourMost", spec := "jourMost", unfollowed := true, recurses := true, apart := false }
def JourMostSaid : Prop := jourMostRow.holds Try.pinned (OpenSpec.ofChange jourMostSpec)

/-- ITS FALSE NEIGHBOUR: 'it returns false'. Refute it at one input. -/
def jourMostWrong : ChangeSpec := { name := "jourMost", fn := fun _ => fun
  | [d1, d2] => { results := [.lit (.bool false)], args := [d1, d2] }
  | _ => none }
def JourMostWrongFalsely : Prop := jourMostRow.holds Try.pinned (OpenSpec.ofChange jourMostWrong)

/- THE SECOND FORM. 'bulk': how many values and letters a reading holds, each counted each time it is reached (what is shared counts as often as it is met; a slice's spare places count too). A statement '..UptoSaid' is the law's where the arguments, and the package variables that the reading takes, are together of bulk at most 1048576: NARROWER than '..Said'. Prove '..Said' where nothing that the law and all that it calls make is longer than what came in: it says more and counts as full. Else prove '..UptoSaid'. A law counts once. -/
mutual
def uptoBulk {H : Type} : DataW H → Nat
  | .lit (.string bytes) => bytes.length + 1
  | .lit _ => 1
  | .nil => 1
  | .ptr d => uptoBulk d + 1
  | .slice elems spare => uptoBulkAll elems + uptoBulkAll spare + 1
  | .agg parts => uptoBulkAll parts + 1
  | .iface _ d => uptoBulk d + 1
  | .map entries => uptoBulkEntries entries + 1
  | .held _ => 1
def uptoBulkAll {H : Type} : List (DataW H) → Nat
  | [] => 0
  | d :: r => uptoBulk d + uptoBulkAll r
def uptoBulkEntries {H : Type} : List (Lit × DataW H) → Nat
  | [] => 0
  | x :: r => uptoBulkEntry x + uptoBulkEntries r
def uptoBulkEntry {H : Type} : Lit × DataW H → Nat
  | (.string bytes, d) => bytes.length + uptoBulk d + 1
  | (_, d) => uptoBulk d + 1
 end
def uptoSmall : (H : Type) → List (DataW H) → Bool := fun _ ds => decide (uptoBulkAll ds ≤ 1048576)
def OpenSpec.upto (s : _root_.Go.ChangeSpec) : _root_.Go.OpenSpec := { _root_.Go.OpenSpec.ofChange s with cond := some uptoSmall }

/-- 'apostillelaw2.JourPlays', WHERE WHAT IT READS IS OF BULK AT MOST 1048576: true; the input reads as it did. -/
def jourPlaysUptoRow : OpenClaim := { program := "ytkmbgbbmhpidkaa", sum := "76a0e70ded4a00a131d96a0d3daee30f1f69b25a07a5ff0064db74ccb0523e4a", func := "apostille/apostillelaw2.JourPlays", spec := "jourPlays", unfollowed := true, recurses := true, apart := false, narrowed := true }
def JourPlaysUptoSaid : Prop := jourPlaysUptoRow.holds Try.pinned (OpenSpec.upto jourPlaysSpec)

/-- 'apostillelaw2.JourAll', WHERE WHAT IT READS IS OF BULK AT MOST 1048576: true; the input reads as it did. -/
def jourAllUptoRow : OpenClaim := { program := "ytkmbgbbmhpidkaa", sum := "76a0e70ded4a00a131d96a0d3daee30f1f69b25a07a5ff0064db74ccb0523e4a", func := "apostille/apostillelaw2.JourAll", spec := "jourAll", unfollowed := true, recurses := true, apart := false, narrowed := true }
def JourAllUptoSaid : Prop := jourAllUptoRow.holds Try.pinned (OpenSpec.upto jourAllSpec)

/-- 'apostillelaw2.JourRefused', WHERE WHAT IT READS IS OF BULK AT MOST 1048576: true; the input reads as it did. -/
def jourRefusedUptoRow : OpenClaim := { program := "ytkmbgbbmhpidkaa", sum := "76a0e70ded4a00a131d96a0d3daee30f1f69b25a07a5ff0064db74ccb0523e4a", func := "apostille/apostillelaw2.JourRefused", spec := "jourRefused", unfollowed := true, recurses := true, apart := false, narrowed := true }
def JourRefusedUptoSaid : Prop := jourRefusedUptoRow.holds Try.pinned (OpenSpec.upto jourRefusedSpec)

/-- 'apostillelaw2.JourMark', WHERE WHAT IT READS IS OF BULK AT MOST 1048576: true; the input reads as it did. -/
def jourMarkUptoRow : OpenClaim := { program := "ytkmbgbbmhpidkaa", sum := "76a0e70ded4a00a131d96a0d3daee30f1f69b25a07a5ff0064db74ccb0523e4a", func := "apostille/apostillelaw2.JourMark", spec := "jourMark", unfollowed := true, recurses := true, apart := false, narrowed := true }
def JourMarkUptoSaid : Prop := jourMarkUptoRow.holds Try.pinned (OpenSpec.upto jourMarkSpec)

/-- 'apostillelaw2.JourMost', WHERE WHAT IT READS IS OF BULK AT MOST 1048576: true; the input reads as it did. -/
def jourMostUptoRow : OpenClaim := { program := "ytkmbgbbmhpidkaa", sum := "76a0e70ded4a00a131d96a0d3daee30f1f69b25a07a5ff0064db74ccb0523e4a", func := "apostille/apostillelaw2.JourMost", spec := "jourMost", unfollowed := true, recurses := true, apart := false, narrowed := true }
def JourMostUptoSaid : Prop := jourMostUptoRow.holds Try.pinned (OpenSpec.upto jourMostSpec)

end Rows
end Go.Proofs.Ytkmbgbbmhpidkaa
