/-
  A key as an argument, opened.
-/
import Derived.Test.YtebhpjbjfbadjaaOpenB
import Derived.Test.YtebhpjbjfbadjaaKrA
import Derived.Lib.SmallJoins
namespace Go.Proofs.Ytebhpjbjfbadjaa
open Go.RowKit Go.ChangeShapes Go.WideShapes
set_option linter.unusedVariables false

theorem nat_open {H : Type} {enc : TypeId × Value → H} {w : World} {base : Nat} {held : Bool} {fuel : Nat} {v : Value} {x : DataW H × List MemPlace} (h : DataW.trod enc Try.prog w base (fun _ => true) held fuel 23 v.cells.toList = some x) (hv : ∃ a n c, v = .slice a n c) :
    ∃ (A : Option Addr) (n c : Nat) (l : List Nat), v = .slice A n c ∧ l.length = n ∧ Rd .u32 w w.heap.size A c l ∧ Dg l := by
  obtain ⟨a, n, c, rfl⟩ := hv
  rcases open_ints Try.underlying23 Try.underlying24 (by kernel_rfl) h with ⟨hcs, _⟩ | ⟨x, l, c', zs, hcs, _, hl, hm, hz, _, hcell, hwz⟩
  · simp [Value.cells] at hcs
    obtain ⟨rfl, rfl, rfl⟩ := hcs
    exact ⟨none, 0, 0, [], rfl, rfl, Rd.nil_ _ _ _, fun x hx => by cases hx⟩
  · simp [Value.cells] at hcs
    obtain ⟨rfl, rfl, rfl⟩ := hcs
    obtain ⟨b, h1, h2, h3⟩ := rd_of_row wf_u32 (w := w) (a := some x) (len := n) (cap := c) (zs := zs) (.inr ⟨x, rfl, hl, hm, by simpa using hz, hcell, hwz⟩)
    exact ⟨_, _, _, b, rfl, h1, h2, h3⟩
theorem slice_formC {H : Type} {enc : TypeId × Value → H} {P : Program} {w : World} {base : Nat} {sp : Nat → Bool} {held : Bool} {fuel : Nat} {t e : TypeId} {v : Value} {x : DataW H × List MemPlace} (ht : P.underlying t = some (.slice e)) (h : DataW.trod enc P w base sp held fuel t [v] = some x) : ∃ a n c, v = .slice a n c := by
  rcases Deep.open_slice ht h with ⟨hcs, _⟩ | ⟨a, len, cap, m, n, D, Pl, hcs, _⟩
  · exact ⟨none, 0, 0, by simpa using hcs⟩
  · exact ⟨some a, len, cap, by simpa using hcs⟩
theorem cells_nat : Try.prog.cellsOf 23 = 1 := by kernel_rfl
theorem cells_int : Try.prog.cellsOf 3 = 1 := by kernel_rfl
theorem cells_u32 : Try.prog.cellsOf 24 = 1 := by kernel_rfl
theorem cells_bool : Try.prog.cellsOf 4 = 1 := by kernel_rfl
theorem cells_point : Try.prog.cellsOf 26 = 3 := by kernel_rfl
theorem cells_key : Try.prog.cellsOf 28 = 6 := by kernel_rfl
theorem list6 {α : Type} {l : List α} (h : l.length = 6) : ∃ c0 c1 c2 c3 c4 c5, l = [c0, c1, c2, c3, c4, c5] := by
  rcases l with _ | ⟨c0, _ | ⟨c1, _ | ⟨c2, _ | ⟨c3, _ | ⟨c4, _ | ⟨c5, _ | ⟨c6, r⟩⟩⟩⟩⟩⟩⟩ <;> first | (simp at h; done) | exact ⟨c0, c1, c2, c3, c4, c5, rfl⟩
theorem array6 {α : Type} {cs : Array α} (h : cs.size = 6) : ∃ c0 c1 c2 c3 c4 c5, cs = #[c0, c1, c2, c3, c4, c5] := by
  obtain ⟨l⟩ := cs
  obtain ⟨c0, c1, c2, c3, c4, c5, rfl⟩ := list6 (l := l) h
  exact ⟨c0, c1, c2, c3, c4, c5, rfl⟩
theorem pt_openT {H : Type} {enc : TypeId × Value → H} {w : World} {base : Nat} {held : Bool} {fuel : Nat} {v0 v1 v2 : Value} {x : DataW H × List MemPlace} (h : DataW.trod enc Try.prog w base (fun _ => true) held fuel 26 [v0, v1, v2] = some x) :
    ∃ (xa : Option Addr) (xc : Nat) (xl : List Nat) (ya : Option Addr) (yc : Nat) (yl : List Nat) (inf : Bool), v0 = .slice xa xl.length xc ∧ v1 = .slice ya yl.length yc ∧ v2 = .bool inf ∧ Rd .u32 w w.heap.size xa xc xl ∧ Dg xl ∧ Rd .u32 w w.heap.size ya yc yl ∧ Dg yl := by
  obtain ⟨xs, k, _, hx, _, hlen, hf⟩ := DataW.trod_struct Try.underlying26 h
  obtain ⟨y0, y1, y2, rfl⟩ : ∃ y0 y1 y2, xs = [y0, y1, y2] := by
    match xs, hlen with
    | [y0, y1, y2], _ => exact ⟨y0, y1, y2, rfl⟩
  have g0 := hf 0 _ rfl
  have g1 := hf 1 _ rfl
  have g2 := hf 2 _ rfl
  simp [cells_nat, cells_bool] at g0 g1 g2
  obtain ⟨a0, n0, c0, rfl⟩ := slice_formC Try.underlying23 g0
  obtain ⟨a1, n1, c1, rfl⟩ := slice_formC Try.underlying23 g1
  obtain ⟨b, e2, _⟩ := DataW.trod_bool Try.underlying4 g2
  obtain ⟨A0, m0, d0, xl, f0, hl0, hr0, hd0⟩ := nat_open (v := .slice a0 n0 c0) g0 ⟨_, _, _, rfl⟩
  obtain ⟨A1, m1, d1, yl, f1, hl1, hr1, hd1⟩ := nat_open (v := .slice a1 n1 c1) g1 ⟨_, _, _, rfl⟩
  injection f0 with f0a f0b f0c
  injection f1 with f1a f1b f1c
  subst f0a f0b f0c f1a f1b f1c
  exact ⟨a0, c0, xl, a1, c1, yl, b, by rw [← hl0], by rw [← hl1], by simpa using e2, hr0, hd0, hr1, hd1⟩
set_option maxRecDepth 100000 in
theorem key_openT {H : Type} {enc : TypeId × Value → H} {w : World} {base : Nat} {held : Bool} {fuel : Nat} {v0 v1 v2 v3 v4 v5 : Value} {x : DataW H × List MemPlace} (hf : DataW.trod enc Try.prog w base (fun _ => true) held fuel 28 [v0, v1, v2, v3, v4, v5] = some x) :
    ∃ k : Ky, [v0, v1, v2, v3, v4, v5] = kycell k ∧ KyP k w := by
  obtain ⟨xs, k, _, hx, _, hlen, hfs⟩ := DataW.trod_struct Try.underlying28 hf
  obtain ⟨y0, y1, y2, y3, rfl⟩ : ∃ y0 y1 y2 y3, xs = [y0, y1, y2, y3] := by
    match xs, hlen with
    | [y0, y1, y2, y3], _ => exact ⟨y0, y1, y2, y3, rfl⟩
  have g0 := hfs 0 _ rfl
  have g1 := hfs 1 _ rfl
  have g2 := hfs 2 _ rfl
  have g3 := hfs 3 _ rfl
  simp [cells_int, cells_nat, cells_u32, cells_point] at g0 g1 g2 g3
  obtain ⟨i0, e0, _, _⟩ := DataW.trod_int Try.underlying3 g0
  obtain ⟨a1, n1, c1, rfl⟩ := slice_formC Try.underlying23 g1
  obtain ⟨i2, e2, _, w2⟩ := DataW.trod_int Try.underlying24 g2
  obtain ⟨A1, m1, d1, n, f1, hl1, hr1, hd1⟩ := nat_open (v := .slice a1 n1 c1) g1 ⟨_, _, _, rfl⟩
  obtain ⟨xa, xc, xl, ya, yc, yl, inf, p0, p1, p2, hrx, hdx, hry, hdy⟩ := pt_openT g3
  injection f1 with f1a f1b f1c
  subst f1a f1b f1c
  have hb := bounds_u32 w2
  have e0 : v0 = .int .i64 i0 := by simpa using e0
  have e2 : v2 = .int .u32 i2 := by simpa using e2
  subst e0 e2 p0 p1 p2
  refine ⟨⟨i0, a1, c1, n, i2.toNat, xa, xc, xl, ya, yc, yl, inf⟩, ?_, hr1, hd1, hrx, hdx, hry, hdy, by show i2.toNat < _; omega⟩
  simp only [kycell]
  rw [hl1, Int.toNat_of_nonneg (by omega)]
set_option maxRecDepth 100000 in
theorem key_open {H : Type} {enc : TypeId × Value → H} {w : World} {base b0 : Nat} {held : Bool} {r : Reach} {v : Value} {d : DataW H} {p : List MemPlace} (hv : Value.okWide Try.prog w r b0 28 v) (h : DataW.Trod enc Try.prog w base (fun _ => true) held 28 v d p) :
    ∃ k : Ky, v = .agg (kycell k).toArray ∧ KyP k w := by
  obtain ⟨cs, rfl, hsz⟩ := okWide_struct Try.underlying28 hv
  obtain ⟨v0, v1, v2, v3, v4, v5, rfl⟩ := array6 (hsz.trans cells_key)
  obtain ⟨fuel, hf⟩ := h
  obtain ⟨k, hk, hp⟩ := key_openT hf
  exact ⟨k, by rw [← hk], hp⟩
end Go.Proofs.Ytebhpjbjfbadjaa
