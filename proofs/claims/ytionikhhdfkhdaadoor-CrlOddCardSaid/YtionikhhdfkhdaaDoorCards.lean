/-
  DERIVED. GIVEN WITH THE SEED: THE CARDS: each row of YtionikhhdfkhdaaDoorRows.lean that lists a variable, with what it lists TIED to the program's text (the seventh form; the later family's looks); each row that meets fmt, with fmt's text TOLD by the authors' own Lean function (tested against real Go, not proved from fmt's source: count such statements apart). THE CARD IS WHAT COUNTS. Prove the row's statement (the work); the ties are given (YtionikhhdfkhdaaDoorTie.lean); close each card by the builder's one call (the guide's Derived/Test/ToyasCard.lean, 'card_holds'). Laid BY PROGRAM, IN A SANDBOX (cutbox-door.mjs). By AI agents, Wed Nov 11 2026. No macro, syntax, notation, axiom, sorry.
-/
import Derived.Test.YtionikhhdfkhdaaDoorRows
import GoSem.ClaimSeven
namespace Go.Proofs.YtionikhhdfkhdaaDoor
namespace Rows

/-- THE TIED CARD OF 'apostillelaw19.CrlGone'. -/
def crlGoneCard : Claim7 := { stood := { row := crlGoneRow, standIns := [], harness := (true, "7aef3dfdc0b1d640d9aa6fae460ce3b1ca6b21a7de8ef0d8095032c1ce88e456"), looks := false }, kinds := [], alts := [], laidByText := true, laidKinds := [.data, .data, .pinned], laidTests := true, laidLooks := .later }
def CrlGoneCardSaid : Prop := Claim7.holds Tryd.pinned (.plain (OpenSpec.ofChange crlGoneSpec)) crlGoneCard

/-- THE TIED CARD OF 'apostillelaw19.CrlOdd'. -/
def crlOddCard : Claim7 := { stood := { row := crlOddRow, standIns := [], harness := (true, "7aef3dfdc0b1d640d9aa6fae460ce3b1ca6b21a7de8ef0d8095032c1ce88e456"), looks := false }, kinds := [], alts := [], laidByText := true, laidKinds := [.data, .data, .pinned], laidTests := true, laidLooks := .later }
def CrlOddCardSaid : Prop := Claim7.holds Tryd.pinned (.plain (OpenSpec.ofChange crlOddSpec)) crlOddCard

/-- THE SECOND FORM's CARD OF 'apostillelaw19.CrlGone'. -/
def crlGoneUptoCard : Claim7 := { stood := { row := crlGoneUptoRow, standIns := [], harness := (true, "7aef3dfdc0b1d640d9aa6fae460ce3b1ca6b21a7de8ef0d8095032c1ce88e456"), looks := false }, kinds := [], alts := [], laidByText := true, laidKinds := [.data, .data, .pinned], laidTests := true, laidLooks := .later }
def CrlGoneUptoCardSaid : Prop := Claim7.holds Tryd.pinned (.plain (OpenSpec.upto crlGoneSpec)) crlGoneUptoCard

/-- THE SECOND FORM's CARD OF 'apostillelaw19.CrlOdd'. -/
def crlOddUptoCard : Claim7 := { stood := { row := crlOddUptoRow, standIns := [], harness := (true, "7aef3dfdc0b1d640d9aa6fae460ce3b1ca6b21a7de8ef0d8095032c1ce88e456"), looks := false }, kinds := [], alts := [], laidByText := true, laidKinds := [.data, .data, .pinned], laidTests := true, laidLooks := .later }
def CrlOddUptoCardSaid : Prop := Claim7.holds Tryd.pinned (.plain (OpenSpec.upto crlOddSpec)) crlOddUptoCard
end Rows
end Go.Proofs.YtionikhhdfkhdaaDoor
