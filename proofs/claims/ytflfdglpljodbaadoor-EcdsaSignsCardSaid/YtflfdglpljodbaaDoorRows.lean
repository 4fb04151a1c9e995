/-
  NARROWER THAN 'FOR EVERY INPUT', by the rows' own cells (each row's printed sentence says how): CurveAdds: laid · CurveTimes: laid · CurveRound: laid · CurveParts: laid · CurveTwice: laid · EcdsaTells: laid · EcdsaSigns: laid · EcdsaRange: laid.
  DERIVED. THE GIVEN ROWS OF THIS SEAT. 8 by the template 'for every input the law returns true; each argument reads behind the call as it read before'; 0 by the template 'total and deterministic' (their statements: YtflfdglpljodbaaDoorTotals.lean).
  GIVEN WITH THE SEED: the statements are not yours to turn. If you find one false, say at which input.
  Laid BY PROGRAM, IN A SANDBOX (cutbox-rows.mjs): the forced cells as the released guide's own fill.sh prints them over the translation f3d7a72a0b74a043… (all of the seat's roots in one cut). By AI agents, Wed Nov 11 2026. No macro, syntax, notation, axiom, sorry.
-/
import Derived.Test.YtflfdglpljodbaaDoorChecked
import GoSem.Claim
import GoSem.ClaimJoined
import GoSem.ClaimMapViews
import Derived.JoinedTies
import Derived.KernelRfl
namespace Go.Proofs.YtflfdglpljodbaaDoor
/- THE CELL 'sum', in the pinned program and in every row, IS THE sha256 OF THE DUMP (.gsa) THAT YtflfdglpljodbaaDoorProg.lean LOADS. Nothing in Lean hashes anything: it is a label: what it is worth is what the hold of that sum in a sandbox is worth. -/
noncomputable def Tryd.pinned : Pinned := { name := "ytflfdglpljodbaadoor", sum := "f3d7a72a0b74a043086e293d0092fa42cc10b3d6f9d655ade4aaa320cc8a3425", checked := Tryd.checked }
namespace Rows
def none {H : Type} : Left H := { results := [], args := [] }

/- WHAT THE LISTED PACKAGE-LEVEL VARIABLES READ AS WHEN THE CALL BEGINS. Each datum BY PROGRAM (the guide's laid-datum.mjs) off the statement by which the dump's own 'gosem.cut.vars' lays the variable. In a bare row this is a premise. The card (YtflfdglpljodbaaDoorCards.lean) ties it to the program's text. -/
def laid_apostille_curve_prime {H : Type} : DataW H := .agg [.lit (.int .u64 18446744073709551615), .lit (.int .u64 4294967295), .lit (.int .u64 0), .lit (.int .u64 18446744069414584321)]
def laid_apostille_curve_square {H : Type} : DataW H := .agg [.lit (.int .u64 3), .lit (.int .u64 18446744056529682431), .lit (.int .u64 18446744073709551614), .lit (.int .u64 21474836477)]
def laid_apostille_curve_unit {H : Type} : DataW H := .agg [.lit (.int .u64 1), .lit (.int .u64 18446744069414584320), .lit (.int .u64 18446744073709551615), .lit (.int .u64 4294967294)]

/-- 'apostillelaw10.CurveAdds': WHATEVER THE INPUT: true; the input reads as it did. -/
def curveAddsSpec : ChangeSpec := { name := "curveAdds", fn := fun _ => fun
  | [d1, d2] => { results := [.lit (.bool true)], args := [d1, d2] }
  | _ => none }
def curveAddsRow : OpenClaim := { program := "ytflfdglpljodbaadoor", sum := "f3d7a72a0b74a043086e293d0092fa42cc10b3d6f9d655ade4aaa320cc8a3425", func := "apostille/apostillelaw10.CurveAdds", spec := "curveAdds", inPlace := ["math/bits.Add64", "math/bits.Sub64"], named := ["apostille/curve.unit", "apostille/curve.square", "apostille/curve.prime"], apart := false, laid := [("apostille/curve.prime", laid_apostille_curve_prime), ("apostille/curve.square", laid_apostille_curve_square), ("apostille/curve.unit", laid_apostille_curve_unit)] }
def CurveAddsSaid : Prop := curveAddsRow.holds Tryd.pinned (OpenSpec.ofChange curveAddsSpec)

/-- ITS FALSE NEIGHBOUR: 'it returns false'. Refute it at one input. -/
def curveAddsWrong : ChangeSpec := { name := "curveAdds", fn := fun _ => fun
  | [d1, d2] => { results := [.lit (.bool false)], args := [d1, d2] }
  | _ => none }
def CurveAddsWrongFalsely : Prop := curveAddsRow.holds Tryd.pinned (OpenSpec.ofChange curveAddsWrong)

/-- 'apostillelaw10.CurveTimes': WHATEVER THE INPUT: true; the input reads as it did. -/
def curveTimesSpec : ChangeSpec := { name := "curveTimes", fn := fun _ => fun
  | [d1, d2] => { results := [.lit (.bool true)], args := [d1, d2] }
  | _ => none }
def curveTimesRow : OpenClaim := { program := "ytflfdglpljodbaadoor", sum := "f3d7a72a0b74a043086e293d0092fa42cc10b3d6f9d655ade4aaa320cc8a3425", func := "apostille/apostillelaw10.CurveTimes", spec := "curveTimes", inPlace := ["math/bits.Add64", "math/bits.Sub64"], named := ["apostille/curve.unit", "apostille/curve.square", "apostille/curve.prime"], apart := false, laid := [("apostille/curve.prime", laid_apostille_curve_prime), ("apostille/curve.square", laid_apostille_curve_square), ("apostille/curve.unit", laid_apostille_curve_unit)] }
def CurveTimesSaid : Prop := curveTimesRow.holds Tryd.pinned (OpenSpec.ofChange curveTimesSpec)

/-- ITS FALSE NEIGHBOUR: 'it returns false'. Refute it at one input. -/
def curveTimesWrong : ChangeSpec := { name := "curveTimes", fn := fun _ => fun
  | [d1, d2] => { results := [.lit (.bool false)], args := [d1, d2] }
  | _ => none }
def CurveTimesWrongFalsely : Prop := curveTimesRow.holds Tryd.pinned (OpenSpec.ofChange curveTimesWrong)

/-- 'apostillelaw10.CurveRound': WHATEVER THE INPUT: true; the input reads as it did. -/
def curveRoundSpec : ChangeSpec := { name := "curveRound", fn := fun _ => fun
  | [d1, d2] => { results := [.lit (.bool true)], args := [d1, d2] }
  | _ => none }
def curveRoundRow : OpenClaim := { program := "ytflfdglpljodbaadoor", sum := "f3d7a72a0b74a043086e293d0092fa42cc10b3d6f9d655ade4aaa320cc8a3425", func := "apostille/apostillelaw10.CurveRound", spec := "curveRound", inPlace := ["math/bits.Add64", "math/bits.Sub64"], named := ["apostille/curve.unit", "apostille/curve.square", "apostille/curve.prime"], apart := false, laid := [("apostille/curve.prime", laid_apostille_curve_prime), ("apostille/curve.square", laid_apostille_curve_square), ("apostille/curve.unit", laid_apostille_curve_unit)] }
def CurveRoundSaid : Prop := curveRoundRow.holds Tryd.pinned (OpenSpec.ofChange curveRoundSpec)

/-- ITS FALSE NEIGHBOUR: 'it returns false'. Refute it at one input. -/
def curveRoundWrong : ChangeSpec := { name := "curveRound", fn := fun _ => fun
  | [d1, d2] => { results := [.lit (.bool false)], args := [d1, d2] }
  | _ => none }
def CurveRoundWrongFalsely : Prop := curveRoundRow.holds Tryd.pinned (OpenSpec.ofChange curveRoundWrong)

/-- 'apostillelaw10.CurveParts': WHATEVER THE INPUT: true; the input reads as it did. -/
def curvePartsSpec : ChangeSpec := { name := "curveParts", fn := fun _ => fun
  | [d1, d2] => { results := [.lit (.bool true)], args := [d1, d2] }
  | _ => none }
def curvePartsRow : OpenClaim := { program := "ytflfdglpljodbaadoor", sum := "f3d7a72a0b74a043086e293d0092fa42cc10b3d6f9d655ade4aaa320cc8a3425", func := "apostille/apostillelaw10.CurveParts", spec := "curveParts", inPlace := ["math/bits.Add64", "math/bits.Sub64"], named := ["apostille/curve.unit", "apostille/curve.square", "apostille/curve.prime"], apart := false, laid := [("apostille/curve.prime", laid_apostille_curve_prime), ("apostille/curve.square", laid_apostille_curve_square), ("apostille/curve.unit", laid_apostille_curve_unit)] }
def CurvePartsSaid : Prop := curvePartsRow.holds Tryd.pinned (OpenSpec.ofChange curvePartsSpec)

/-- ITS FALSE NEIGHBOUR: 'it returns false'. Refute it at one input. -/
def curvePartsWrong : ChangeSpec := { name := "curveParts", fn := fun _ => fun
  | [d1, d2] => { results := [.lit (.bool false)], args := [d1, d2] }
  | _ => none }
def CurvePartsWrongFalsely : Prop := curvePartsRow.holds Tryd.pinned (OpenSpec.ofChange curvePartsWrong)

/-- 'apostillelaw10.CurveTwice': WHATEVER THE INPUT: true; the input reads as it did. -/
def curveTwiceSpec : ChangeSpec := { name := "curveTwice", fn := fun _ => fun
  | [d] => { results := [.lit (.bool true)], args := [d] }
  | _ => none }
def curveTwiceRow : OpenClaim := { program := "ytflfdglpljodbaadoor", sum := "f3d7a72a0b74a043086e293d0092fa42cc10b3d6f9d655ade4aaa320cc8a3425", func := "apostille/apostillelaw10.CurveTwice", spec := "curveTwice", inPlace := ["math/bits.Add64", "math/bits.Sub64"], named := ["apostille/curve.unit", "apostille/curve.square", "apostille/curve.prime"], apart := false, laid := [("apostille/curve.prime", laid_apostille_curve_prime), ("apostille/curve.square", laid_apostille_curve_square), ("apostille/curve.unit", laid_apostille_curve_unit)] }
def CurveTwiceSaid : Prop := curveTwiceRow.holds Tryd.pinned (OpenSpec.ofChange curveTwiceSpec)

/-- ITS FALSE NEIGHBOUR: 'it returns false'. Refute it at one input. -/
def curveTwiceWrong : ChangeSpec := { name := "curveTwice", fn := fun _ => fun
  | [d] => { results := [.lit (.bool false)], args := [d] }
  | _ => none }
def CurveTwiceWrongFalsely : Prop := curveTwiceRow.holds Tryd.pinned (OpenSpec.ofChange curveTwiceWrong)

/-- 'apostillelaw11.EcdsaTells': WHATEVER THE INPUT: true; the input reads as it did. -/
def ecdsaTellsSpec : ChangeSpec := { name := "ecdsaTells", fn := fun _ => fun
  | [d1, d2, d3] => { results := [.lit (.bool true)], args := [d1, d2, d3] }
  | _ => none }
def ecdsaTellsRow : OpenClaim := { program := "ytflfdglpljodbaadoor", sum := "f3d7a72a0b74a043086e293d0092fa42cc10b3d6f9d655ade4aaa320cc8a3425", func := "apostille/apostillelaw11.EcdsaTells", spec := "ecdsaTells", inPlace := ["math/bits.Add64", "math/bits.Sub64"], named := ["apostille/curve.unit", "apostille/curve.square", "apostille/curve.prime"], apart := false, laid := [("apostille/curve.prime", laid_apostille_curve_prime), ("apostille/curve.square", laid_apostille_curve_square), ("apostille/curve.unit", laid_apostille_curve_unit)] }
def EcdsaTellsSaid : Prop := ecdsaTellsRow.holds Tryd.pinned (OpenSpec.ofChange ecdsaTellsSpec)

/-- ITS FALSE NEIGHBOUR: 'it returns false'. Refute it at one input. -/
def ecdsaTellsWrong : ChangeSpec := { name := "ecdsaTells", fn := fun _ => fun
  | [d1, d2, d3] => { results := [.lit (.bool false)], args := [d1, d2, d3] }
  | _ => none }
def EcdsaTellsWrongFalsely : Prop := ecdsaTellsRow.holds Tryd.pinned (OpenSpec.ofChange ecdsaTellsWrong)

/-- 'apostillelaw11.EcdsaSigns': WHATEVER THE INPUT: true; the input reads as it did. -/
def ecdsaSignsSpec : ChangeSpec := { name := "ecdsaSigns", fn := fun _ => fun
  | [d1, d2, d3, d4] => { results := [.lit (.bool true)], args := [d1, d2, d3, d4] }
  | _ => none }
def ecdsaSignsRow : OpenClaim := { program := "ytflfdglpljodbaadoor", sum := "f3d7a72a0b74a043086e293d0092fa42cc10b3d6f9d655ade4aaa320cc8a3425", func := "apostille/apostillelaw11.EcdsaSigns", spec := "ecdsaSigns", inPlace := ["math/bits.Add64", "math/bits.Sub64"], named := ["apostille/curve.unit", "apostille/curve.square", "apostille/curve.prime"], apart := false, laid := [("apostille/curve.prime", laid_apostille_curve_prime), ("apostille/curve.square", laid_apostille_curve_square), ("apostille/curve.unit", laid_apostille_curve_unit)] }
def EcdsaSignsSaid : Prop := ecdsaSignsRow.holds Tryd.pinned (OpenSpec.ofChange ecdsaSignsSpec)

/-- ITS FALSE NEIGHBOUR: 'it returns false'. Refute it at one input. -/
def ecdsaSignsWrong : ChangeSpec := { name := "ecdsaSigns", fn := fun _ => fun
  | [d1, d2, d3, d4] => { results := [.lit (.bool false)], args := [d1, d2, d3, d4] }
  | _ => none }
def EcdsaSignsWrongFalsely : Prop := ecdsaSignsRow.holds Tryd.pinned (OpenSpec.ofChange ecdsaSignsWrong)

/-- 'apostillelaw11.EcdsaRange': WHATEVER THE INPUT: true; the input reads as it did. -/
def ecdsaRangeSpec : ChangeSpec := { name := "ecdsaRange", fn := fun _ => fun
  | [d1, d2, d3] => { results := [.lit (.bool true)], args := [d1, d2, d3] }
  | _ => none }
def ecdsaRangeRow : OpenClaim := { program := "ytflfdglpljodbaadoor", sum := "f3d7a72a0b74a043086e293d0092fa42cc10b3d6f9d655ade4aaa320cc8a3425", func := "apostille/apostillelaw11.EcdsaRange", spec := "ecdsaRange", inPlace := ["math/bits.Add64", "math/bits.Sub64"], named := ["apostille/curve.unit", "apostille/curve.square", "apostille/curve.prime"], apart := false, laid := [("apostille/curve.prime", laid_apostille_curve_prime), ("apostille/curve.square", laid_apostille_curve_square), ("apostille/curve.unit", laid_apostille_curve_unit)] }
def EcdsaRangeSaid : Prop := ecdsaRangeRow.holds Tryd.pinned (OpenSpec.ofChange ecdsaRangeSpec)

/-- ITS FALSE NEIGHBOUR: 'it returns false'. Refute it at one input. -/
def ecdsaRangeWrong : ChangeSpec := { name := "ecdsaRange", fn := fun _ => fun
  | [d1, d2, d3] => { results := [.lit (.bool false)], args := [d1, d2, d3] }
  | _ => none }
def EcdsaRangeWrongFalsely : Prop := ecdsaRangeRow.holds Tryd.pinned (OpenSpec.ofChange ecdsaRangeWrong)

/- THE SECOND FORM. 'bulk': how many values and letters a reading holds, each counted each time it is reached (what is shared counts as often as it is met; a slice's spare places count too). A statement '..UptoSaid' is the law's where the arguments, and the package variables that the reading takes, are together of bulk at most 1048576: NARROWER than '..Said'. Prove '..Said' where nothing that the law and all that it calls make is longer than what came in: it says more and counts as full. Else prove '..UptoSaid'. A law counts once. -/
mutual
def uptoBulk {H : Type} : DataW H → Nat
  | .lit (.string bytes) => bytes.length + 1
  | .lit _ => 1
  | .nil => 1
  | .ptr d => uptoBulk d + 1
  | .slice elems spare => uptoBulkAll elems + uptoBulkAll spare + 1
  | .agg parts => uptoBulkAll parts + 1
  | .iface _ d => uptoBulk d + 1
  | .map entries => uptoBulkEntries entries + 1
  | .held _ => 1
def uptoBulkAll {H : Type} : List (DataW H) → Nat
  | [] => 0
  | d :: r => uptoBulk d + uptoBulkAll r
def uptoBulkEntries {H : Type} : List (Lit × DataW H) → Nat
  | [] => 0
  | x :: r => uptoBulkEntry x + uptoBulkEntries r
def uptoBulkEntry {H : Type} : Lit × DataW H → Nat
  | (.string bytes, d) => bytes.length + uptoBulk d + 1
  | (_, d) => uptoBulk d + 1
 end
def uptoSmall : (H : Type) → List (DataW H) → Bool := fun _ ds => decide (uptoBulkAll ds ≤ 1048576)
def OpenSpec.upto (s : _root_.Go.ChangeSpec) : _root_.Go.OpenSpec := { _root_.Go.OpenSpec.ofChange s with cond := some uptoSmall }

/-- 'apostillelaw10.CurveAdds', WHERE WHAT IT READS IS OF BULK AT MOST 1048576: true; the input reads as it did. -/
def curveAddsUptoRow : OpenClaim := { program := "ytflfdglpljodbaadoor", sum := "f3d7a72a0b74a043086e293d0092fa42cc10b3d6f9d655ade4aaa320cc8a3425", func := "apostille/apostillelaw10.CurveAdds", spec := "curveAdds", inPlace := ["math/bits.Add64", "math/bits.Sub64"], named := ["apostille/curve.unit", "apostille/curve.square", "apostille/curve.prime"], apart := false, laid := [("apostille/curve.prime", laid_apostille_curve_prime), ("apostille/curve.square", laid_apostille_curve_square), ("apostille/curve.unit", laid_apostille_curve_unit)], narrowed := true }
def CurveAddsUptoSaid : Prop := curveAddsUptoRow.holds Tryd.pinned (OpenSpec.upto curveAddsSpec)

/-- 'apostillelaw10.CurveTimes', WHERE WHAT IT READS IS OF BULK AT MOST 1048576: true; the input reads as it did. -/
def curveTimesUptoRow : OpenClaim := { program := "ytflfdglpljodbaadoor", sum := "f3d7a72a0b74a043086e293d0092fa42cc10b3d6f9d655ade4aaa320cc8a3425", func := "apostille/apostillelaw10.CurveTimes", spec := "curveTimes", inPlace := ["math/bits.Add64", "math/bits.Sub64"], named := ["apostille/curve.unit", "apostille/curve.square", "apostille/curve.prime"], apart := false, laid := [("apostille/curve.prime", laid_apostille_curve_prime), ("apostille/curve.square", laid_apostille_curve_square), ("apostille/curve.unit", laid_apostille_curve_unit)], narrowed := true }
def CurveTimesUptoSaid : Prop := curveTimesUptoRow.holds Tryd.pinned (OpenSpec.upto curveTimesSpec)

/-- 'apostillelaw10.CurveRound', WHERE WHAT IT READS IS OF BULK AT MOST 1048576: true; the input reads as it did. -/
def curveRoundUptoRow : OpenClaim := { program := "ytflfdglpljodbaadoor", sum := "f3d7a72a0b74a043086e293d0092fa42cc10b3d6f9d655ade4aaa320cc8a3425", func := "apostille/apostillelaw10.CurveRound", spec := "curveRound", inPlace := ["math/bits.Add64", "math/bits.Sub64"], named := ["apostille/curve.unit", "apostille/curve.square", "apostille/curve.prime"], apart := false, laid := [("apostille/curve.prime", laid_apostille_curve_prime), ("apostille/curve.square", laid_apostille_curve_square), ("apostille/curve.unit", laid_apostille_curve_unit)], narrowed := true }
def CurveRoundUptoSaid : Prop := curveRoundUptoRow.holds Tryd.pinned (OpenSpec.upto curveRoundSpec)

/-- 'apostillelaw10.CurveParts', WHERE WHAT IT READS IS OF BULK AT MOST 1048576: true; the input reads as it did. -/
def curvePartsUptoRow : OpenClaim := { program := "ytflfdglpljodbaadoor", sum := "f3d7a72a0b74a043086e293d0092fa42cc10b3d6f9d655ade4aaa320cc8a3425", func := "apostille/apostillelaw10.CurveParts", spec := "curveParts", inPlace := ["math/bits.Add64", "math/bits.Sub64"], named := ["apostille/curve.unit", "apostille/curve.square", "apostille/curve.prime"], apart := false, laid := [("apostille/curve.prime", laid_apostille_curve_prime), ("apostille/curve.square", laid_apostille_curve_square), ("apostille/curve.unit", laid_apostille_curve_unit)], narrowed := true }
def CurvePartsUptoSaid : Prop := curvePartsUptoRow.holds Tryd.pinned (OpenSpec.upto curvePartsSpec)

/-- 'apostillelaw10.CurveTwice', WHERE WHAT IT READS IS OF BULK AT MOST 1048576: true; the input reads as it did. -/
def curveTwiceUptoRow : OpenClaim := { program := "ytflfdglpljodbaadoor", sum := "f3d7a72a0b74a043086e293d0092fa42cc10b3d6f9d655ade4aaa320cc8a3425", func := "apostille/apostillelaw10.CurveTwice", spec := "curveTwice", inPlace := ["math/bits.Add64", "math/bits.Sub64"], named := ["apostille/curve.unit", "apostille/curve.square", "apostille/curve.prime"], apart := false, laid := [("apostille/curve.prime", laid_apostille_curve_prime), ("apostille/curve.square", laid_apostille_curve_square), ("apostille/curve.unit", laid_apostille_curve_unit)], narrowed := true }
def CurveTwiceUptoSaid : Prop := curveTwiceUptoRow.holds Tryd.pinned (OpenSpec.upto curveTwiceSpec)

/-- 'apostillelaw11.EcdsaTells', WHERE WHAT IT READS IS OF BULK AT MOST 1048576: true; the input reads as it did. -/
def ecdsaTellsUptoRow : OpenClaim := { program := "ytflfdglpljodbaadoor", sum := "f3d7a72a0b74a043086e293d0092fa42cc10b3d6f9d655ade4aaa320cc8a3425", func := "apostille/apostillelaw11.EcdsaTells", spec := "ecdsaTells", inPlace := ["math/bits.Add64", "math/bits.Sub64"], named := ["apostille/curve.unit", "apostille/curve.square", "apostille/curve.prime"], apart := false, laid := [("apostille/curve.prime", laid_apostille_curve_prime), ("apostille/curve.square", laid_apostille_curve_square), ("apostille/curve.unit", laid_apostille_curve_unit)], narrowed := true }
def EcdsaTellsUptoSaid : Prop := ecdsaTellsUptoRow.holds Tryd.pinned (OpenSpec.upto ecdsaTellsSpec)

/-- 'apostillelaw11.EcdsaSigns', WHERE WHAT IT READS IS OF BULK AT MOST 1048576: true; the input reads as it did. -/
def ecdsaSignsUptoRow : OpenClaim := { program := "ytflfdglpljodbaadoor", sum := "f3d7a72a0b74a043086e293d0092fa42cc10b3d6f9d655ade4aaa320cc8a3425", func := "apostille/apostillelaw11.EcdsaSigns", spec := "ecdsaSigns", inPlace := ["math/bits.Add64", "math/bits.Sub64"], named := ["apostille/curve.unit", "apostille/curve.square", "apostille/curve.prime"], apart := false, laid := [("apostille/curve.prime", laid_apostille_curve_prime), ("apostille/curve.square", laid_apostille_curve_square), ("apostille/curve.unit", laid_apostille_curve_unit)], narrowed := true }
def EcdsaSignsUptoSaid : Prop := ecdsaSignsUptoRow.holds Tryd.pinned (OpenSpec.upto ecdsaSignsSpec)

/-- 'apostillelaw11.EcdsaRange', WHERE WHAT IT READS IS OF BULK AT MOST 1048576: true; the input reads as it did. -/
def ecdsaRangeUptoRow : OpenClaim := { program := "ytflfdglpljodbaadoor", sum := "f3d7a72a0b74a043086e293d0092fa42cc10b3d6f9d655ade4aaa320cc8a3425", func := "apostille/apostillelaw11.EcdsaRange", spec := "ecdsaRange", inPlace := ["math/bits.Add64", "math/bits.Sub64"], named := ["apostille/curve.unit", "apostille/curve.square", "apostille/curve.prime"], apart := false, laid := [("apostille/curve.prime", laid_apostille_curve_prime), ("apostille/curve.square", laid_apostille_curve_square), ("apostille/curve.unit", laid_apostille_curve_unit)], narrowed := true }
def EcdsaRangeUptoSaid : Prop := ecdsaRangeUptoRow.holds Tryd.pinned (OpenSpec.upto ecdsaRangeSpec)

end Rows
end Go.Proofs.YtflfdglpljodbaaDoor
