/-
  DERIVED. GIVEN WITH THE SEED: THE CARDS: each row of YtgmipgofdclmiaaDoorRows.lean that lists a variable, with what it lists TIED to the program's text (the seventh form; the later family's looks); each row that meets fmt, with fmt's text TOLD by the authors' own Lean function (tested against real Go, not proved from fmt's source: count such statements apart). THE CARD IS WHAT COUNTS. Prove the row's statement (the work); the ties are given (YtgmipgofdclmiaaDoorTie.lean); close each card by the builder's one call (the guide's Derived/Test/ToyasCard.lean, 'card_holds'). Laid BY PROGRAM, IN A SANDBOX (cutbox-door.mjs). By AI agents, Wed Nov 11 2026. No macro, syntax, notation, axiom, sorry.
-/
import Derived.Test.YtgmipgofdclmiaaDoorRows
import GoSem.ClaimSeven
namespace Go.Proofs.YtgmipgofdclmiaaDoor
namespace Rows

/-- THE TIED CARD OF 'apostillelaw15.DnUnder'. -/
def dnUnderCard : Claim7 := { stood := { row := dnUnderRow, standIns := [], harness := (true, "8df935eddeca1eb62aeecc8dc6abb003ebb2399b572a38244017bf223e5e67af"), looks := false }, kinds := [], alts := [], laidByText := true, laidKinds := [.data, .pinned], laidTests := true, laidLooks := .later }
def DnUnderCardSaid : Prop := Claim7.holds Tryd.pinned (.plain (OpenSpec.ofChange dnUnderSpec)) dnUnderCard

/-- THE TIED CARD OF 'apostillelaw15.DnNames'. -/
def dnNamesCard : Claim7 := { stood := { row := dnNamesRow, standIns := [], harness := (true, "8df935eddeca1eb62aeecc8dc6abb003ebb2399b572a38244017bf223e5e67af"), looks := false }, kinds := [], alts := [], laidByText := true, laidKinds := [.data, .pinned], laidTests := true, laidLooks := .later }
def DnNamesCardSaid : Prop := Claim7.holds Tryd.pinned (.plain (OpenSpec.ofChange dnNamesSpec)) dnNamesCard

/-- THE SECOND FORM's CARD OF 'apostillelaw15.DnUnder'. -/
def dnUnderUptoCard : Claim7 := { stood := { row := dnUnderUptoRow, standIns := [], harness := (true, "8df935eddeca1eb62aeecc8dc6abb003ebb2399b572a38244017bf223e5e67af"), looks := false }, kinds := [], alts := [], laidByText := true, laidKinds := [.data, .pinned], laidTests := true, laidLooks := .later }
def DnUnderUptoCardSaid : Prop := Claim7.holds Tryd.pinned (.plain (OpenSpec.upto dnUnderSpec)) dnUnderUptoCard

/-- THE SECOND FORM's CARD OF 'apostillelaw15.DnNames'. -/
def dnNamesUptoCard : Claim7 := { stood := { row := dnNamesUptoRow, standIns := [], harness := (true, "8df935eddeca1eb62aeecc8dc6abb003ebb2399b572a38244017bf223e5e67af"), looks := false }, kinds := [], alts := [], laidByText := true, laidKinds := [.data, .pinned], laidTests := true, laidLooks := .later }
def DnNamesUptoCardSaid : Prop := Claim7.holds Tryd.pinned (.plain (OpenSpec.upto dnNamesSpec)) dnNamesUptoCard
end Rows
end Go.Proofs.YtgmipgofdclmiaaDoor
