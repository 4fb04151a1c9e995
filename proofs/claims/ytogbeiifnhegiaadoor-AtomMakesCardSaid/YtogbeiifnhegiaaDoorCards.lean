/-
  DERIVED. GIVEN WITH THE SEED: THE CARDS: each row of YtogbeiifnhegiaaDoorRows.lean that lists a variable, with what it lists TIED to the program's text (the seventh form; the later family's looks); each row that meets fmt, with fmt's text TOLD by the authors' own Lean function (tested against real Go, not proved from fmt's source: count such statements apart). THE CARD IS WHAT COUNTS. Prove the row's statement (the work); the ties are given (YtogbeiifnhegiaaDoorTie.lean); close each card by the builder's one call (the guide's Derived/Test/ToyasCard.lean, 'card_holds'). Laid BY PROGRAM, IN A SANDBOX (cutbox-door.mjs). By AI agents, Wed Nov 11 2026. No macro, syntax, notation, axiom, sorry.
-/
import Derived.Test.YtogbeiifnhegiaaDoorRows
import GoSem.ClaimSeven
namespace Go.Proofs.YtogbeiifnhegiaaDoor
namespace Rows

/-- THE TIED CARD OF 'apostillelaw13.AtomMakes'. -/
def atomMakesCard : Claim7 := { stood := { row := atomMakesRow, standIns := [], harness := (true, "f5fe91ec41e209c24f3f520661de107c60cb7ac766a29bdc53d9bcec08a55308"), looks := false }, kinds := [], alts := [], laidByText := true, laidKinds := [.data, .pinned], laidTests := true, laidLooks := .later }
def AtomMakesCardSaid : Prop := Claim7.holds Tryd.pinned (.plain (OpenSpec.ofChange atomMakesSpec)) atomMakesCard

/-- THE TIED CARD OF 'apostillelaw13.AtomOdd'. -/
def atomOddCard : Claim7 := { stood := { row := atomOddRow, standIns := [], harness := (true, "f5fe91ec41e209c24f3f520661de107c60cb7ac766a29bdc53d9bcec08a55308"), looks := false }, kinds := [], alts := [], laidByText := true, laidKinds := [.data, .pinned], laidTests := true, laidLooks := .later }
def AtomOddCardSaid : Prop := Claim7.holds Tryd.pinned (.plain (OpenSpec.ofChange atomOddSpec)) atomOddCard

/-- THE SECOND FORM's CARD OF 'apostillelaw13.AtomMakes'. -/
def atomMakesUptoCard : Claim7 := { stood := { row := atomMakesUptoRow, standIns := [], harness := (true, "f5fe91ec41e209c24f3f520661de107c60cb7ac766a29bdc53d9bcec08a55308"), looks := false }, kinds := [], alts := [], laidByText := true, laidKinds := [.data, .pinned], laidTests := true, laidLooks := .later }
def AtomMakesUptoCardSaid : Prop := Claim7.holds Tryd.pinned (.plain (OpenSpec.upto atomMakesSpec)) atomMakesUptoCard

/-- THE SECOND FORM's CARD OF 'apostillelaw13.AtomOdd'. -/
def atomOddUptoCard : Claim7 := { stood := { row := atomOddUptoRow, standIns := [], harness := (true, "f5fe91ec41e209c24f3f520661de107c60cb7ac766a29bdc53d9bcec08a55308"), looks := false }, kinds := [], alts := [], laidByText := true, laidKinds := [.data, .pinned], laidTests := true, laidLooks := .later }
def AtomOddUptoCardSaid : Prop := Claim7.holds Tryd.pinned (.plain (OpenSpec.upto atomOddSpec)) atomOddUptoCard
end Rows
end Go.Proofs.YtogbeiifnhegiaaDoor
