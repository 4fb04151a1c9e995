/-
  No cell of these rows narrows 'for every input' (looked for: loops, veiled, ifaces, maps, wideKeys, modest, calm, conditions, laid).
  DERIVED. THE GIVEN ROWS OF THIS SEAT. 3 by the template 'for every input the law returns true; each argument reads behind the call as it read before'; 0 by the template 'total and deterministic' (their statements: YtaemjgemkgiahaaTotals.lean).
  GIVEN WITH THE SEED: the statements are not yours to turn. If you find one false, say at which input.
  Laid BY PROGRAM, IN A SANDBOX (cutbox-rows.mjs): the forced cells as the released guide's own fill.sh prints them over the translation 7123f95ad9f4c290… (all of the seat's roots in one cut). By AI agents, Wed Nov 11 2026. No macro, syntax, notation, axiom, sorry.
-/
import Derived.Test.YtaemjgemkgiahaaChecked
import GoSem.Claim
import GoSem.ClaimJoined
import GoSem.ClaimMapViews
import Derived.JoinedTies
import Derived.KernelRfl
namespace Go.Proofs.Ytaemjgemkgiahaa
/- THE CELL 'sum', in the pinned program and in every row, IS THE sha256 OF THE DUMP (.gsa) THAT YtaemjgemkgiahaaProg.lean LOADS. Nothing in Lean hashes anything: it is a label: what it is worth is what the hold of that sum in a sandbox is worth. -/
noncomputable def Try.pinned : Pinned := { name := "ytaemjgemkgiahaa", sum := "7123f95ad9f4c2900f3398fc8fb03c38e0afe75a65bc3d8bf93e29eb427b8657", checked := Try.checked }
namespace Rows
def none {H : Type} : Left H := { results := [], args := [] }

/-- 'apostillelaw17.ExtNodes': WHATEVER THE INPUT: true; the input reads as it did. -/
def extNodesSpec : ChangeSpec := { name := "extNodes", fn := fun _ => fun
  | [d1, d2] => { results := [.lit (.bool true)], args := [d1, d2] }
  | _ => none }
def extNodesRow : OpenClaim := { program := "ytaemjgemkgiahaa", sum := "7123f95ad9f4c2900f3398fc8fb03c38e0afe75a65bc3d8bf93e29eb427b8657", func := "apostille/apostillelaw17.ExtNodes", spec := "extNodes", inPlace := ["internal/bytealg.Compare"], recurses := true, apart := false }
def ExtNodesSaid : Prop := extNodesRow.holds Try.pinned (OpenSpec.ofChange extNodesSpec)

/-- ITS FALSE NEIGHBOUR: 'it returns false'. Refute it at one input. -/
def extNodesWrong : ChangeSpec := { name := "extNodes", fn := fun _ => fun
  | [d1, d2] => { results := [.lit (.bool false)], args := [d1, d2] }
  | _ => none }
def ExtNodesWrongFalsely : Prop := extNodesRow.holds Try.pinned (OpenSpec.ofChange extNodesWrong)

/-- 'apostillelaw17.ExtGets': WHATEVER THE INPUT: true; the input reads as it did. -/
def extGetsSpec : ChangeSpec := { name := "extGets", fn := fun _ => fun
  | [d] => { results := [.lit (.bool true)], args := [d] }
  | _ => none }
def extGetsRow : OpenClaim := { program := "ytaemjgemkgiahaa", sum := "7123f95ad9f4c2900f3398fc8fb03c38e0afe75a65bc3d8bf93e29eb427b8657", func := "apostille/apostillelaw17.ExtGets", spec := "extGets", inPlace := ["internal/bytealg.Compare"], recurses := true, apart := false }
def ExtGetsSaid : Prop := extGetsRow.holds Try.pinned (OpenSpec.ofChange extGetsSpec)

/-- ITS FALSE NEIGHBOUR: 'it returns false'. Refute it at one input. -/
def extGetsWrong : ChangeSpec := { name := "extGets", fn := fun _ => fun
  | [d] => { results := [.lit (.bool false)], args := [d] }
  | _ => none }
def ExtGetsWrongFalsely : Prop := extGetsRow.holds Try.pinned (OpenSpec.ofChange extGetsWrong)

/-- 'apostillelaw17.ExtUses': WHATEVER THE INPUT: true; the input reads as it did. -/
def extUsesSpec : ChangeSpec := { name := "extUses", fn := fun _ => fun
  | [d1, d2] => { results := [.lit (.bool true)], args := [d1, d2] }
  | _ => none }
def extUsesRow : OpenClaim := { program := "ytaemjgemkgiahaa", sum := "7123f95ad9f4c2900f3398fc8fb03c38e0afe75a65bc3d8bf93e29eb427b8657", func := "apostille/apostillelaw17.ExtUses", spec := "extUses", inPlace := ["internal/bytealg.Compare"], unfollowed := true, recurses := true, apart := false }
def ExtUsesSaid : Prop := extUsesRow.holds Try.pinned (OpenSpec.ofChange extUsesSpec)

/-- ITS FALSE NEIGHBOUR: 'it returns false'. Refute it at one input. -/
def extUsesWrong : ChangeSpec := { name := "extUses", fn := fun _ => fun
  | [d1, d2] => { results := [.lit (.bool false)], args := [d1, d2] }
  | _ => none }
def ExtUsesWrongFalsely : Prop := extUsesRow.holds Try.pinned (OpenSpec.ofChange extUsesWrong)

/- THE SECOND FORM. 'bulk': how many values and letters a reading holds, each counted each time it is reached (what is shared counts as often as it is met; a slice's spare places count too). A statement '..UptoSaid' is the law's where the arguments, and the package variables that the reading takes, are together of bulk at most 1048576: NARROWER than '..Said'. Prove '..Said' where nothing that the law and all that it calls make is longer than what came in: it says more and counts as full. Else prove '..UptoSaid'. A law counts once. -/
mutual
def uptoBulk {H : Type} : DataW H → Nat
  | .lit (.string bytes) => bytes.length + 1
  | .lit _ => 1
  | .nil => 1
  | .ptr d => uptoBulk d + 1
  | .slice elems spare => uptoBulkAll elems + uptoBulkAll spare + 1
  | .agg parts => uptoBulkAll parts + 1
  | .iface _ d => uptoBulk d + 1
  | .map entries => uptoBulkEntries entries + 1
  | .held _ => 1
def uptoBulkAll {H : Type} : List (DataW H) → Nat
  | [] => 0
  | d :: r => uptoBulk d + uptoBulkAll r
def uptoBulkEntries {H : Type} : List (Lit × DataW H) → Nat
  | [] => 0
  | x :: r => uptoBulkEntry x + uptoBulkEntries r
def uptoBulkEntry {H : Type} : Lit × DataW H → Nat
  | (.string bytes, d) => bytes.length + uptoBulk d + 1
  | (_, d) => uptoBulk d + 1
 end
def uptoSmall : (H : Type) → List (DataW H) → Bool := fun _ ds => decide (uptoBulkAll ds ≤ 1048576)
def OpenSpec.upto (s : _root_.Go.ChangeSpec) : _root_.Go.OpenSpec := { _root_.Go.OpenSpec.ofChange s with cond := some uptoSmall }

/-- 'apostillelaw17.ExtNodes', WHERE WHAT IT READS IS OF BULK AT MOST 1048576: true; the input reads as it did. -/
def extNodesUptoRow : OpenClaim := { program := "ytaemjgemkgiahaa", sum := "7123f95ad9f4c2900f3398fc8fb03c38e0afe75a65bc3d8bf93e29eb427b8657", func := "apostille/apostillelaw17.ExtNodes", spec := "extNodes", inPlace := ["internal/bytealg.Compare"], recurses := true, apart := false, narrowed := true }
def ExtNodesUptoSaid : Prop := extNodesUptoRow.holds Try.pinned (OpenSpec.upto extNodesSpec)

/-- 'apostillelaw17.ExtGets', WHERE WHAT IT READS IS OF BULK AT MOST 1048576: true; the input reads as it did. -/
def extGetsUptoRow : OpenClaim := { program := "ytaemjgemkgiahaa", sum := "7123f95ad9f4c2900f3398fc8fb03c38e0afe75a65bc3d8bf93e29eb427b8657", func := "apostille/apostillelaw17.ExtGets", spec := "extGets", inPlace := ["internal/bytealg.Compare"], recurses := true, apart := false, narrowed := true }
def ExtGetsUptoSaid : Prop := extGetsUptoRow.holds Try.pinned (OpenSpec.upto extGetsSpec)

/-- 'apostillelaw17.ExtUses', WHERE WHAT IT READS IS OF BULK AT MOST 1048576: true; the input reads as it did. -/
def extUsesUptoRow : OpenClaim := { program := "ytaemjgemkgiahaa", sum := "7123f95ad9f4c2900f3398fc8fb03c38e0afe75a65bc3d8bf93e29eb427b8657", func := "apostille/apostillelaw17.ExtUses", spec := "extUses", inPlace := ["internal/bytealg.Compare"], unfollowed := true, recurses := true, apart := false, narrowed := true }
def ExtUsesUptoSaid : Prop := extUsesUptoRow.holds Try.pinned (OpenSpec.upto extUsesSpec)

end Rows
end Go.Proofs.Ytaemjgemkgiahaa
