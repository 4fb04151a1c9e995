/-
  DERIVED. GIVEN WITH THE SEED: THE CARDS: each row of YtlgkcipioomldaaGreatDoorRows.lean that lists a variable, with what it lists TIED to the program's text (the seventh form; the later family's looks); each row that meets fmt, with fmt's text TOLD by the authors' own Lean function (tested against real Go, not proved from fmt's source: count such statements apart). THE CARD IS WHAT COUNTS. Prove the row's statement (the work); the ties are given (YtlgkcipioomldaaGreatDoorTie.lean); close each card by the builder's one call (the guide's Derived/Test/ToyasCard.lean, 'card_holds'). Laid BY PROGRAM, IN A SANDBOX (cutbox-door.mjs). By AI agents, Wed Nov 11 2026. No macro, syntax, notation, axiom, sorry.
-/
import Derived.Test.YtlgkcipioomldaaGreatDoorRows
import GoSem.ClaimSeven
namespace Go.Proofs.YtlgkcipioomldaaGreatDoor
namespace Rows

/-- THE TIED CARD OF 'apostillelaw25.RuleTimes'. -/
def ruleTimesCard : Claim7 := { stood := { row := ruleTimesRow, standIns := [], harness := (true, "5c3c38b9e4800e02cd497166f85d9fdb5af447cfdf7befb6b4a9d29ca0df667e"), looks := false }, kinds := [], alts := [], laidByText := true, laidKinds := [.data, .data, .data, .data, .data, .pinned], laidTests := true, laidLooks := .later }
def RuleTimesCardSaid : Prop := Claim7.holds Tryz.pinned (.plain (OpenSpec.ofChange ruleTimesSpec)) ruleTimesCard

/-- THE SECOND FORM's CARD OF 'apostillelaw25.RuleTimes'. -/
def ruleTimesUptoCard : Claim7 := { stood := { row := ruleTimesUptoRow, standIns := [], harness := (true, "5c3c38b9e4800e02cd497166f85d9fdb5af447cfdf7befb6b4a9d29ca0df667e"), looks := false }, kinds := [], alts := [], laidByText := true, laidKinds := [.data, .data, .data, .data, .data, .pinned], laidTests := true, laidLooks := .later }
def RuleTimesUptoCardSaid : Prop := Claim7.holds Tryz.pinned (.plain (OpenSpec.upto ruleTimesSpec)) ruleTimesUptoCard
end Rows
end Go.Proofs.YtlgkcipioomldaaGreatDoor
