/-
  DERIVED. GIVEN WITH THE SEED: THE CARDS: each row of YtbdkopcmdefhoaaDoorRows.lean that lists a variable, with what it lists TIED to the program's text (the seventh form; the later family's looks); each row that meets fmt, with fmt's text TOLD by the authors' own Lean function (tested against real Go, not proved from fmt's source: count such statements apart). THE CARD IS WHAT COUNTS. Prove the row's statement (the work); the ties are given (YtbdkopcmdefhoaaDoorTie.lean); close each card by the builder's one call (the guide's Derived/Test/ToyasCard.lean, 'card_holds'). Laid BY PROGRAM, IN A SANDBOX (cutbox-door.mjs). By AI agents, Wed Nov 11 2026. No macro, syntax, notation, axiom, sorry.
-/
import Derived.Test.YtbdkopcmdefhoaaDoorRows
import GoSem.ClaimSeven
namespace Go.Proofs.YtbdkopcmdefhoaaDoor
namespace Rows

/-- THE TIED CARD OF 'apostillelaw17.ExtOdd'. -/
def extOddCard : Claim7 := { stood := { row := extOddRow, standIns := [], harness := (true, "32023e36e75208fe8c7a479dfece1165671e05c6ee65891a64d652a4564940e9"), looks := false }, kinds := [], alts := [], laidByText := true, laidKinds := [.data, .pinned], laidTests := true, laidLooks := .later }
def ExtOddCardSaid : Prop := Claim7.holds Tryd.pinned (.plain (OpenSpec.ofChange extOddSpec)) extOddCard

/-- THE SECOND FORM's CARD OF 'apostillelaw17.ExtOdd'. -/
def extOddUptoCard : Claim7 := { stood := { row := extOddUptoRow, standIns := [], harness := (true, "32023e36e75208fe8c7a479dfece1165671e05c6ee65891a64d652a4564940e9"), looks := false }, kinds := [], alts := [], laidByText := true, laidKinds := [.data, .pinned], laidTests := true, laidLooks := .later }
def ExtOddUptoCardSaid : Prop := Claim7.holds Tryd.pinned (.plain (OpenSpec.upto extOddSpec)) extOddUptoCard
end Rows
end Go.Proofs.YtbdkopcmdefhoaaDoor
