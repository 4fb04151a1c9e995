/-
  DERIVED. GIVEN WITH THE SEED: THE CARDS: each row of YtdjklhglkmacbaaDoorRows.lean that lists a variable, with what it lists TIED to the program's text (the seventh form; the later family's looks); each row that meets fmt, with fmt's text TOLD by the authors' own Lean function (tested against real Go, not proved from fmt's source: count such statements apart). THE CARD IS WHAT COUNTS. Prove the row's statement (the work); the ties are given (YtdjklhglkmacbaaDoorTie.lean); close each card by the builder's one call (the guide's Derived/Test/ToyasCard.lean, 'card_holds'). Laid BY PROGRAM, IN A SANDBOX (cutbox-door.mjs). By AI agents, Wed Nov 11 2026. No macro, syntax, notation, axiom, sorry.
-/
import Derived.Test.YtdjklhglkmacbaaDoorRows
import GoSem.ClaimSeven
namespace Go.Proofs.YtdjklhglkmacbaaDoor
namespace Rows

/-- THE TIED CARD OF 'apostillelaw22.ListNodes'. -/
def listNodesCard : Claim7 := { stood := { row := listNodesRow, standIns := [], harness := (true, "f1ccec5eb783eecce86aeb2b0d6962dad22a6f4449d53ae9c98aba9ccea4e04b"), looks := false }, kinds := [], alts := [], laidByText := true, laidKinds := [.data, .data, .pinned], laidTests := true, laidLooks := .later }
def ListNodesCardSaid : Prop := Claim7.holds Tryd.pinned (.plain (OpenSpec.ofChange listNodesSpec)) listNodesCard

/-- THE TIED CARD OF 'apostillelaw22.ListChecks'. -/
def listChecksCard : Claim7 := { stood := { row := listChecksRow, standIns := [], harness := (true, "f1ccec5eb783eecce86aeb2b0d6962dad22a6f4449d53ae9c98aba9ccea4e04b"), looks := false }, kinds := [], alts := [], laidByText := true, laidKinds := [.data, .data, .pinned], laidTests := true, laidLooks := .later }
def ListChecksCardSaid : Prop := Claim7.holds Tryd.pinned (.plain (OpenSpec.ofChange listChecksSpec)) listChecksCard

/-- THE TIED CARD OF 'apostillelaw22.ListMade'. -/
def listMadeCard : Claim7 := { stood := { row := listMadeRow, standIns := [], harness := (true, "f1ccec5eb783eecce86aeb2b0d6962dad22a6f4449d53ae9c98aba9ccea4e04b"), looks := false }, kinds := [], alts := [], laidByText := true, laidKinds := [.data, .data, .pinned], laidTests := true, laidLooks := .later }
def ListMadeCardSaid : Prop := Claim7.holds Tryd.pinned (.plain (OpenSpec.ofChange listMadeSpec)) listMadeCard

/-- THE TIED CARD OF 'apostillelaw22.ListOrder'. -/
def listOrderCard : Claim7 := { stood := { row := listOrderRow, standIns := [], harness := (true, "f1ccec5eb783eecce86aeb2b0d6962dad22a6f4449d53ae9c98aba9ccea4e04b"), looks := false }, kinds := [], alts := [], laidByText := true, laidKinds := [.data, .data, .pinned], laidTests := true, laidLooks := .later }
def ListOrderCardSaid : Prop := Claim7.holds Tryd.pinned (.plain (OpenSpec.ofChange listOrderSpec)) listOrderCard

/-- THE SECOND FORM's CARD OF 'apostillelaw22.ListNodes'. -/
def listNodesUptoCard : Claim7 := { stood := { row := listNodesUptoRow, standIns := [], harness := (true, "f1ccec5eb783eecce86aeb2b0d6962dad22a6f4449d53ae9c98aba9ccea4e04b"), looks := false }, kinds := [], alts := [], laidByText := true, laidKinds := [.data, .data, .pinned], laidTests := true, laidLooks := .later }
def ListNodesUptoCardSaid : Prop := Claim7.holds Tryd.pinned (.plain (OpenSpec.upto listNodesSpec)) listNodesUptoCard

/-- THE SECOND FORM's CARD OF 'apostillelaw22.ListChecks'. -/
def listChecksUptoCard : Claim7 := { stood := { row := listChecksUptoRow, standIns := [], harness := (true, "f1ccec5eb783eecce86aeb2b0d6962dad22a6f4449d53ae9c98aba9ccea4e04b"), looks := false }, kinds := [], alts := [], laidByText := true, laidKinds := [.data, .data, .pinned], laidTests := true, laidLooks := .later }
def ListChecksUptoCardSaid : Prop := Claim7.holds Tryd.pinned (.plain (OpenSpec.upto listChecksSpec)) listChecksUptoCard

/-- THE SECOND FORM's CARD OF 'apostillelaw22.ListMade'. -/
def listMadeUptoCard : Claim7 := { stood := { row := listMadeUptoRow, standIns := [], harness := (true, "f1ccec5eb783eecce86aeb2b0d6962dad22a6f4449d53ae9c98aba9ccea4e04b"), looks := false }, kinds := [], alts := [], laidByText := true, laidKinds := [.data, .data, .pinned], laidTests := true, laidLooks := .later }
def ListMadeUptoCardSaid : Prop := Claim7.holds Tryd.pinned (.plain (OpenSpec.upto listMadeSpec)) listMadeUptoCard

/-- THE SECOND FORM's CARD OF 'apostillelaw22.ListOrder'. -/
def listOrderUptoCard : Claim7 := { stood := { row := listOrderUptoRow, standIns := [], harness := (true, "f1ccec5eb783eecce86aeb2b0d6962dad22a6f4449d53ae9c98aba9ccea4e04b"), looks := false }, kinds := [], alts := [], laidByText := true, laidKinds := [.data, .data, .pinned], laidTests := true, laidLooks := .later }
def ListOrderUptoCardSaid : Prop := Claim7.holds Tryd.pinned (.plain (OpenSpec.upto listOrderSpec)) listOrderUptoCard
end Rows
end Go.Proofs.YtdjklhglkmacbaaDoor
