/-
  DERIVED. GIVEN WITH THE SEED: THE CARDS: each row of YtflfdglpljodbaaDoorRows.lean that lists a variable, with what it lists TIED to the program's text (the seventh form; the later family's looks); each row that meets fmt, with fmt's text TOLD by the authors' own Lean function (tested against real Go, not proved from fmt's source: count such statements apart). THE CARD IS WHAT COUNTS. Prove the row's statement (the work); the ties are given (YtflfdglpljodbaaDoorTie.lean); close each card by the builder's one call (the guide's Derived/Test/ToyasCard.lean, 'card_holds'). Laid BY PROGRAM, IN A SANDBOX (cutbox-door.mjs). By AI agents, Wed Nov 11 2026. No macro, syntax, notation, axiom, sorry.
-/
import Derived.Test.YtflfdglpljodbaaDoorRows
import GoSem.ClaimSeven
namespace Go.Proofs.YtflfdglpljodbaaDoor
namespace Rows

/-- THE TIED CARD OF 'apostillelaw10.CurveAdds'. -/
def curveAddsCard : Claim7 := { stood := { row := curveAddsRow, standIns := [], harness := (true, "13ca9fdc41a62f489d857748061308bbdb387d270e31db274f8daff5bce7d698"), looks := false }, kinds := [], alts := [], laidByText := true, laidKinds := [.data, .data, .data], laidTests := true, laidLooks := .later }
def CurveAddsCardSaid : Prop := Claim7.holds Tryd.pinned (.plain (OpenSpec.ofChange curveAddsSpec)) curveAddsCard

/-- THE TIED CARD OF 'apostillelaw10.CurveTimes'. -/
def curveTimesCard : Claim7 := { stood := { row := curveTimesRow, standIns := [], harness := (true, "13ca9fdc41a62f489d857748061308bbdb387d270e31db274f8daff5bce7d698"), looks := false }, kinds := [], alts := [], laidByText := true, laidKinds := [.data, .data, .data], laidTests := true, laidLooks := .later }
def CurveTimesCardSaid : Prop := Claim7.holds Tryd.pinned (.plain (OpenSpec.ofChange curveTimesSpec)) curveTimesCard

/-- THE TIED CARD OF 'apostillelaw10.CurveRound'. -/
def curveRoundCard : Claim7 := { stood := { row := curveRoundRow, standIns := [], harness := (true, "13ca9fdc41a62f489d857748061308bbdb387d270e31db274f8daff5bce7d698"), looks := false }, kinds := [], alts := [], laidByText := true, laidKinds := [.data, .data, .data], laidTests := true, laidLooks := .later }
def CurveRoundCardSaid : Prop := Claim7.holds Tryd.pinned (.plain (OpenSpec.ofChange curveRoundSpec)) curveRoundCard

/-- THE TIED CARD OF 'apostillelaw10.CurveParts'. -/
def curvePartsCard : Claim7 := { stood := { row := curvePartsRow, standIns := [], harness := (true, "13ca9fdc41a62f489d857748061308bbdb387d270e31db274f8daff5bce7d698"), looks := false }, kinds := [], alts := [], laidByText := true, laidKinds := [.data, .data, .data], laidTests := true, laidLooks := .later }
def CurvePartsCardSaid : Prop := Claim7.holds Tryd.pinned (.plain (OpenSpec.ofChange curvePartsSpec)) curvePartsCard

/-- THE TIED CARD OF 'apostillelaw10.CurveTwice'. -/
def curveTwiceCard : Claim7 := { stood := { row := curveTwiceRow, standIns := [], harness := (true, "13ca9fdc41a62f489d857748061308bbdb387d270e31db274f8daff5bce7d698"), looks := false }, kinds := [], alts := [], laidByText := true, laidKinds := [.data, .data, .data], laidTests := true, laidLooks := .later }
def CurveTwiceCardSaid : Prop := Claim7.holds Tryd.pinned (.plain (OpenSpec.ofChange curveTwiceSpec)) curveTwiceCard

/-- THE TIED CARD OF 'apostillelaw11.EcdsaTells'. -/
def ecdsaTellsCard : Claim7 := { stood := { row := ecdsaTellsRow, standIns := [], harness := (true, "13ca9fdc41a62f489d857748061308bbdb387d270e31db274f8daff5bce7d698"), looks := false }, kinds := [], alts := [], laidByText := true, laidKinds := [.data, .data, .data], laidTests := true, laidLooks := .later }
def EcdsaTellsCardSaid : Prop := Claim7.holds Tryd.pinned (.plain (OpenSpec.ofChange ecdsaTellsSpec)) ecdsaTellsCard

/-- THE TIED CARD OF 'apostillelaw11.EcdsaSigns'. -/
def ecdsaSignsCard : Claim7 := { stood := { row := ecdsaSignsRow, standIns := [], harness := (true, "13ca9fdc41a62f489d857748061308bbdb387d270e31db274f8daff5bce7d698"), looks := false }, kinds := [], alts := [], laidByText := true, laidKinds := [.data, .data, .data], laidTests := true, laidLooks := .later }
def EcdsaSignsCardSaid : Prop := Claim7.holds Tryd.pinned (.plain (OpenSpec.ofChange ecdsaSignsSpec)) ecdsaSignsCard

/-- THE TIED CARD OF 'apostillelaw11.EcdsaRange'. -/
def ecdsaRangeCard : Claim7 := { stood := { row := ecdsaRangeRow, standIns := [], harness := (true, "13ca9fdc41a62f489d857748061308bbdb387d270e31db274f8daff5bce7d698"), looks := false }, kinds := [], alts := [], laidByText := true, laidKinds := [.data, .data, .data], laidTests := true, laidLooks := .later }
def EcdsaRangeCardSaid : Prop := Claim7.holds Tryd.pinned (.plain (OpenSpec.ofChange ecdsaRangeSpec)) ecdsaRangeCard

/-- THE SECOND FORM's CARD OF 'apostillelaw10.CurveAdds'. -/
def curveAddsUptoCard : Claim7 := { stood := { row := curveAddsUptoRow, standIns := [], harness := (true, "13ca9fdc41a62f489d857748061308bbdb387d270e31db274f8daff5bce7d698"), looks := false }, kinds := [], alts := [], laidByText := true, laidKinds := [.data, .data, .data], laidTests := true, laidLooks := .later }
def CurveAddsUptoCardSaid : Prop := Claim7.holds Tryd.pinned (.plain (OpenSpec.upto curveAddsSpec)) curveAddsUptoCard

/-- THE SECOND FORM's CARD OF 'apostillelaw10.CurveTimes'. -/
def curveTimesUptoCard : Claim7 := { stood := { row := curveTimesUptoRow, standIns := [], harness := (true, "13ca9fdc41a62f489d857748061308bbdb387d270e31db274f8daff5bce7d698"), looks := false }, kinds := [], alts := [], laidByText := true, laidKinds := [.data, .data, .data], laidTests := true, laidLooks := .later }
def CurveTimesUptoCardSaid : Prop := Claim7.holds Tryd.pinned (.plain (OpenSpec.upto curveTimesSpec)) curveTimesUptoCard

/-- THE SECOND FORM's CARD OF 'apostillelaw10.CurveRound'. -/
def curveRoundUptoCard : Claim7 := { stood := { row := curveRoundUptoRow, standIns := [], harness := (true, "13ca9fdc41a62f489d857748061308bbdb387d270e31db274f8daff5bce7d698"), looks := false }, kinds := [], alts := [], laidByText := true, laidKinds := [.data, .data, .data], laidTests := true, laidLooks := .later }
def CurveRoundUptoCardSaid : Prop := Claim7.holds Tryd.pinned (.plain (OpenSpec.upto curveRoundSpec)) curveRoundUptoCard

/-- THE SECOND FORM's CARD OF 'apostillelaw10.CurveParts'. -/
def curvePartsUptoCard : Claim7 := { stood := { row := curvePartsUptoRow, standIns := [], harness := (true, "13ca9fdc41a62f489d857748061308bbdb387d270e31db274f8daff5bce7d698"), looks := false }, kinds := [], alts := [], laidByText := true, laidKinds := [.data, .data, .data], laidTests := true, laidLooks := .later }
def CurvePartsUptoCardSaid : Prop := Claim7.holds Tryd.pinned (.plain (OpenSpec.upto curvePartsSpec)) curvePartsUptoCard

/-- THE SECOND FORM's CARD OF 'apostillelaw10.CurveTwice'. -/
def curveTwiceUptoCard : Claim7 := { stood := { row := curveTwiceUptoRow, standIns := [], harness := (true, "13ca9fdc41a62f489d857748061308bbdb387d270e31db274f8daff5bce7d698"), looks := false }, kinds := [], alts := [], laidByText := true, laidKinds := [.data, .data, .data], laidTests := true, laidLooks := .later }
def CurveTwiceUptoCardSaid : Prop := Claim7.holds Tryd.pinned (.plain (OpenSpec.upto curveTwiceSpec)) curveTwiceUptoCard

/-- THE SECOND FORM's CARD OF 'apostillelaw11.EcdsaTells'. -/
def ecdsaTellsUptoCard : Claim7 := { stood := { row := ecdsaTellsUptoRow, standIns := [], harness := (true, "13ca9fdc41a62f489d857748061308bbdb387d270e31db274f8daff5bce7d698"), looks := false }, kinds := [], alts := [], laidByText := true, laidKinds := [.data, .data, .data], laidTests := true, laidLooks := .later }
def EcdsaTellsUptoCardSaid : Prop := Claim7.holds Tryd.pinned (.plain (OpenSpec.upto ecdsaTellsSpec)) ecdsaTellsUptoCard

/-- THE SECOND FORM's CARD OF 'apostillelaw11.EcdsaSigns'. -/
def ecdsaSignsUptoCard : Claim7 := { stood := { row := ecdsaSignsUptoRow, standIns := [], harness := (true, "13ca9fdc41a62f489d857748061308bbdb387d270e31db274f8daff5bce7d698"), looks := false }, kinds := [], alts := [], laidByText := true, laidKinds := [.data, .data, .data], laidTests := true, laidLooks := .later }
def EcdsaSignsUptoCardSaid : Prop := Claim7.holds Tryd.pinned (.plain (OpenSpec.upto ecdsaSignsSpec)) ecdsaSignsUptoCard

/-- THE SECOND FORM's CARD OF 'apostillelaw11.EcdsaRange'. -/
def ecdsaRangeUptoCard : Claim7 := { stood := { row := ecdsaRangeUptoRow, standIns := [], harness := (true, "13ca9fdc41a62f489d857748061308bbdb387d270e31db274f8daff5bce7d698"), looks := false }, kinds := [], alts := [], laidByText := true, laidKinds := [.data, .data, .data], laidTests := true, laidLooks := .later }
def EcdsaRangeUptoCardSaid : Prop := Claim7.holds Tryd.pinned (.plain (OpenSpec.upto ecdsaRangeSpec)) ecdsaRangeUptoCard
end Rows
end Go.Proofs.YtflfdglpljodbaaDoor
