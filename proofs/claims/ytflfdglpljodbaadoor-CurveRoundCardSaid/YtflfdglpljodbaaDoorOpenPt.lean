/-
  A point as an argument, opened.
-/
import Derived.Test.YtflfdglpljodbaaDoorOpenB
import Derived.Test.YtflfdglpljodbaaDoorNatA
import Derived.Lib.SmallJoins
namespace Go.Proofs.YtflfdglpljodbaaDoor
open Go.RowKit Go.ChangeShapes Go.WideShapes
set_option linter.unusedVariables false

theorem nat_open {H : Type} {enc : TypeId × Value → H} {w : World} {base : Nat} {held : Bool} {fuel : Nat} {v : Value} {x : DataW H × List MemPlace} (h : DataW.trod enc Tryd.prog w base (fun _ => true) held fuel 24 v.cells.toList = some x) (hv : ∃ a n c, v = .slice a n c) :
    ∃ (A : Option Addr) (n c : Nat) (l : List Nat), v = .slice A n c ∧ l.length = n ∧ Rd .u32 w w.heap.size A c l ∧ Dg l := by
  obtain ⟨a, n, c, rfl⟩ := hv
  rcases open_ints Tryd.underlying24 Tryd.underlying22 (by kernel_rfl) h with ⟨hcs, _⟩ | ⟨x, l, c', zs, hcs, _, hl, hm, hz, _, hcell, hwz⟩
  · simp [Value.cells] at hcs
    obtain ⟨rfl, rfl, rfl⟩ := hcs
    exact ⟨none, 0, 0, [], rfl, rfl, Rd.nil_ _ _ _, fun x hx => by cases hx⟩
  · simp [Value.cells] at hcs
    obtain ⟨rfl, rfl, rfl⟩ := hcs
    obtain ⟨b, h1, h2, h3⟩ := rd_of_row wf_u32 (w := w) (a := some x) (len := n) (cap := c) (zs := zs) (.inr ⟨x, rfl, hl, hm, by simpa using hz, hcell, hwz⟩)
    exact ⟨_, _, _, b, rfl, h1, h2, h3⟩
theorem slice_formC {H : Type} {enc : TypeId × Value → H} {P : Program} {w : World} {base : Nat} {sp : Nat → Bool} {held : Bool} {fuel : Nat} {t e : TypeId} {v : Value} {x : DataW H × List MemPlace} (ht : P.underlying t = some (.slice e)) (h : DataW.trod enc P w base sp held fuel t [v] = some x) : ∃ a n c, v = .slice a n c := by
  rcases Deep.open_slice ht h with ⟨hcs, _⟩ | ⟨a, len, cap, m, n, D, Pl, hcs, _⟩
  · exact ⟨none, 0, 0, by simpa using hcs⟩
  · exact ⟨some a, len, cap, by simpa using hcs⟩
theorem cells_nat : Tryd.prog.cellsOf 24 = 1 := by kernel_rfl
theorem cells_bool : Tryd.prog.cellsOf 4 = 1 := by kernel_rfl
theorem cells_point : Tryd.prog.cellsOf 26 = 3 := by kernel_rfl
theorem pt_openT {H : Type} {enc : TypeId × Value → H} {w : World} {base : Nat} {held : Bool} {fuel : Nat} {v0 v1 v2 : Value} {x : DataW H × List MemPlace} (h : DataW.trod enc Tryd.prog w base (fun _ => true) held fuel 26 [v0, v1, v2] = some x) :
    ∃ (xa : Option Addr) (xc : Nat) (xl : List Nat) (ya : Option Addr) (yc : Nat) (yl : List Nat) (inf : Bool), v0 = .slice xa xl.length xc ∧ v1 = .slice ya yl.length yc ∧ v2 = .bool inf ∧ Rd .u32 w w.heap.size xa xc xl ∧ Dg xl ∧ Rd .u32 w w.heap.size ya yc yl ∧ Dg yl := by
  obtain ⟨xs, k, _, hx, _, hlen, hf⟩ := DataW.trod_struct Tryd.underlying26 h
  obtain ⟨y0, y1, y2, rfl⟩ : ∃ y0 y1 y2, xs = [y0, y1, y2] := by
    match xs, hlen with
    | [y0, y1, y2], _ => exact ⟨y0, y1, y2, rfl⟩
  have g0 := hf 0 _ rfl
  have g1 := hf 1 _ rfl
  have g2 := hf 2 _ rfl
  simp [cells_nat, cells_bool] at g0 g1 g2
  obtain ⟨a0, n0, c0, rfl⟩ := slice_formC Tryd.underlying24 g0
  obtain ⟨a1, n1, c1, rfl⟩ := slice_formC Tryd.underlying24 g1
  obtain ⟨b, e2, _⟩ := DataW.trod_bool Tryd.underlying4 g2
  obtain ⟨A0, m0, d0, xl, f0, hl0, hr0, hd0⟩ := nat_open (v := .slice a0 n0 c0) g0 ⟨_, _, _, rfl⟩
  obtain ⟨A1, m1, d1, yl, f1, hl1, hr1, hd1⟩ := nat_open (v := .slice a1 n1 c1) g1 ⟨_, _, _, rfl⟩
  injection f0 with f0a f0b f0c
  injection f1 with f1a f1b f1c
  subst f0a f0b f0c f1a f1b f1c
  exact ⟨a0, c0, xl, a1, c1, yl, b, by rw [← hl0], by rw [← hl1], by simpa using e2, hr0, hd0, hr1, hd1⟩
theorem array3 {α : Type} {cs : Array α} (h : cs.size = 3) : ∃ a b c, cs = #[a, b, c] := by
  obtain ⟨l⟩ := cs
  rcases l with _ | ⟨a, _ | ⟨b, _ | ⟨c, _ | ⟨d, r⟩⟩⟩⟩ <;> first | (simp at h; done) | exact ⟨a, b, c, rfl⟩
/-- A point: its two numbers' rows. -/
structure Pt where
  (xa : Option Addr) (xc : Nat) (xl : List Nat) (ya : Option Addr) (yc : Nat) (yl : List Nat) (inf : Bool)
def ptcell (p : Pt) : Array Value := #[.slice p.xa p.xl.length p.xc, .slice p.ya p.yl.length p.yc, .bool p.inf]
structure PtP (p : Pt) (w : World) : Prop where
  (hx : Rd .u32 w w.heap.size p.xa p.xc p.xl) (dx : Dg p.xl) (hy : Rd .u32 w w.heap.size p.ya p.yc p.yl) (dy : Dg p.yl)
set_option maxRecDepth 100000 in
theorem point_open {H : Type} {enc : TypeId × Value → H} {w : World} {base b0 : Nat} {held : Bool} {r : Reach} {v : Value} {d : DataW H} {p : List MemPlace} (hv : Value.okWide Tryd.prog w r b0 26 v) (h : DataW.Trod enc Tryd.prog w base (fun _ => true) held 26 v d p) :
    ∃ k : Pt, v = .agg (ptcell k) ∧ PtP k w := by
  obtain ⟨cs, rfl, hsz⟩ := okWide_struct Tryd.underlying26 hv
  obtain ⟨v0, v1, v2, rfl⟩ := array3 (hsz.trans cells_point)
  obtain ⟨fuel, hf⟩ := h
  obtain ⟨xa, xc, xl, ya, yc, yl, inf, rfl, rfl, rfl, hx, dx, hy, dy⟩ := pt_openT hf
  exact ⟨⟨xa, xc, xl, ya, yc, yl, inf⟩, rfl, hx, dx, hy, dy⟩
end Go.Proofs.YtflfdglpljodbaaDoor
