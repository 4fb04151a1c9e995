/-
  DERIVED. GIVEN WITH THE SEED: THE CARDS: each row of YtcibjcgipfpniaaGreatDoorRows.lean that lists a variable, with what it lists TIED to the program's text (the seventh form; the later family's looks); each row that meets fmt, with fmt's text TOLD by the authors' own Lean function (tested against real Go, not proved from fmt's source: count such statements apart). THE CARD IS WHAT COUNTS. Prove the row's statement (the work); the ties are given (YtcibjcgipfpniaaGreatDoorTie.lean); close each card by the builder's one call (the guide's Derived/Test/ToyasCard.lean, 'card_holds'). Laid BY PROGRAM, IN A SANDBOX (cutbox-door.mjs). By AI agents, Wed Nov 11 2026. No macro, syntax, notation, axiom, sorry.
-/
import Derived.Test.YtcibjcgipfpniaaGreatDoorRows
import GoSem.ClaimSeven
namespace Go.Proofs.YtcibjcgipfpniaaGreatDoor
namespace Rows

/-- THE TIED CARD OF 'apostillelaw19.CrlNodes'. -/
def crlNodesCard : Claim7 := { stood := { row := crlNodesRow, standIns := [], harness := (true, "8511b1358f536f959e3c2e95abd1ab73e4632cf05d9c8d5a4c79eca92bbf393c"), looks := false }, kinds := [], alts := [], laidByText := true, laidKinds := [.data, .data, .pinned], laidTests := true, laidLooks := .later }
def CrlNodesCardSaid : Prop := Claim7.holds Tryz.pinned (.plain (OpenSpec.ofChange crlNodesSpec)) crlNodesCard

/-- THE TIED CARD OF 'apostillelaw19.CrlGets'. -/
def crlGetsCard : Claim7 := { stood := { row := crlGetsRow, standIns := [], harness := (true, "8511b1358f536f959e3c2e95abd1ab73e4632cf05d9c8d5a4c79eca92bbf393c"), looks := false }, kinds := [], alts := [], laidByText := true, laidKinds := [.data, .data, .pinned], laidTests := true, laidLooks := .later }
def CrlGetsCardSaid : Prop := Claim7.holds Tryz.pinned (.plain (OpenSpec.ofChange crlGetsSpec)) crlGetsCard

/-- THE SECOND FORM's CARD OF 'apostillelaw19.CrlNodes'. -/
def crlNodesUptoCard : Claim7 := { stood := { row := crlNodesUptoRow, standIns := [], harness := (true, "8511b1358f536f959e3c2e95abd1ab73e4632cf05d9c8d5a4c79eca92bbf393c"), looks := false }, kinds := [], alts := [], laidByText := true, laidKinds := [.data, .data, .pinned], laidTests := true, laidLooks := .later }
def CrlNodesUptoCardSaid : Prop := Claim7.holds Tryz.pinned (.plain (OpenSpec.upto crlNodesSpec)) crlNodesUptoCard

/-- THE SECOND FORM's CARD OF 'apostillelaw19.CrlGets'. -/
def crlGetsUptoCard : Claim7 := { stood := { row := crlGetsUptoRow, standIns := [], harness := (true, "8511b1358f536f959e3c2e95abd1ab73e4632cf05d9c8d5a4c79eca92bbf393c"), looks := false }, kinds := [], alts := [], laidByText := true, laidKinds := [.data, .data, .pinned], laidTests := true, laidLooks := .later }
def CrlGetsUptoCardSaid : Prop := Claim7.holds Tryz.pinned (.plain (OpenSpec.upto crlGetsSpec)) crlGetsUptoCard
end Rows
end Go.Proofs.YtcibjcgipfpniaaGreatDoor
