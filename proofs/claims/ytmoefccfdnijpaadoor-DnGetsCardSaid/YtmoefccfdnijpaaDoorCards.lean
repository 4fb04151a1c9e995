/-
  DERIVED. GIVEN WITH THE SEED: THE CARDS: each row of YtmoefccfdnijpaaDoorRows.lean that lists a variable, with what it lists TIED to the program's text (the seventh form; the later family's looks); each row that meets fmt, with fmt's text TOLD by the authors' own Lean function (tested against real Go, not proved from fmt's source: count such statements apart). THE CARD IS WHAT COUNTS. Prove the row's statement (the work); the ties are given (YtmoefccfdnijpaaDoorTie.lean); close each card by the builder's one call (the guide's Derived/Test/ToyasCard.lean, 'card_holds'). Laid BY PROGRAM, IN A SANDBOX (cutbox-door.mjs). By AI agents, Wed Nov 11 2026. No macro, syntax, notation, axiom, sorry.
-/
import Derived.Test.YtmoefccfdnijpaaDoorRows
import GoSem.ClaimSeven
namespace Go.Proofs.YtmoefccfdnijpaaDoor
namespace Rows

/-- THE TIED CARD OF 'apostillelaw15.DnUnder'. -/
def dnUnderCard : Claim7 := { stood := { row := dnUnderRow, standIns := [], harness := (true, "eed58efed21e869a3d64d32a4e469b06fa050275c86717eb09e8df511b17b6a6"), looks := false }, kinds := [], alts := [], laidByText := true, laidKinds := [.data, .pinned], laidTests := true, laidLooks := .later }
def DnUnderCardSaid : Prop := Claim7.holds Tryd.pinned (.plain (OpenSpec.ofChange dnUnderSpec)) dnUnderCard

/-- THE TIED CARD OF 'apostillelaw15.DnNames'. -/
def dnNamesCard : Claim7 := { stood := { row := dnNamesRow, standIns := [], harness := (true, "eed58efed21e869a3d64d32a4e469b06fa050275c86717eb09e8df511b17b6a6"), looks := false }, kinds := [], alts := [], laidByText := true, laidKinds := [.data, .pinned], laidTests := true, laidLooks := .later }
def DnNamesCardSaid : Prop := Claim7.holds Tryd.pinned (.plain (OpenSpec.ofChange dnNamesSpec)) dnNamesCard

/-- THE TIED CARD OF 'apostillelaw15.DnGets'. -/
def dnGetsCard : Claim7 := { stood := { row := dnGetsRow, standIns := [], harness := (true, "eed58efed21e869a3d64d32a4e469b06fa050275c86717eb09e8df511b17b6a6"), looks := false }, kinds := [], alts := [], laidByText := true, laidKinds := [.data, .pinned], laidTests := true, laidLooks := .later }
def DnGetsCardSaid : Prop := Claim7.holds Tryd.pinned (.plain (OpenSpec.ofChange dnGetsSpec)) dnGetsCard

/-- THE SECOND FORM's CARD OF 'apostillelaw15.DnUnder'. -/
def dnUnderUptoCard : Claim7 := { stood := { row := dnUnderUptoRow, standIns := [], harness := (true, "eed58efed21e869a3d64d32a4e469b06fa050275c86717eb09e8df511b17b6a6"), looks := false }, kinds := [], alts := [], laidByText := true, laidKinds := [.data, .pinned], laidTests := true, laidLooks := .later }
def DnUnderUptoCardSaid : Prop := Claim7.holds Tryd.pinned (.plain (OpenSpec.upto dnUnderSpec)) dnUnderUptoCard

/-- THE SECOND FORM's CARD OF 'apostillelaw15.DnNames'. -/
def dnNamesUptoCard : Claim7 := { stood := { row := dnNamesUptoRow, standIns := [], harness := (true, "eed58efed21e869a3d64d32a4e469b06fa050275c86717eb09e8df511b17b6a6"), looks := false }, kinds := [], alts := [], laidByText := true, laidKinds := [.data, .pinned], laidTests := true, laidLooks := .later }
def DnNamesUptoCardSaid : Prop := Claim7.holds Tryd.pinned (.plain (OpenSpec.upto dnNamesSpec)) dnNamesUptoCard

/-- THE SECOND FORM's CARD OF 'apostillelaw15.DnGets'. -/
def dnGetsUptoCard : Claim7 := { stood := { row := dnGetsUptoRow, standIns := [], harness := (true, "eed58efed21e869a3d64d32a4e469b06fa050275c86717eb09e8df511b17b6a6"), looks := false }, kinds := [], alts := [], laidByText := true, laidKinds := [.data, .pinned], laidTests := true, laidLooks := .later }
def DnGetsUptoCardSaid : Prop := Claim7.holds Tryd.pinned (.plain (OpenSpec.upto dnGetsSpec)) dnGetsUptoCard
end Rows
end Go.Proofs.YtmoefccfdnijpaaDoor
