/-
  A row of what was revoked as an argument, opened; how long its texts are.
-/
import Derived.Test.YtionikhhdfkhdaaDoorOpenAw
import Derived.Test.YtionikhhdfkhdaaDoorOpenB
import Derived.Test.YtionikhhdfkhdaaDoorGn1
import Derived.Lib.SmallJoins
namespace Go.Proofs.YtionikhhdfkhdaaDoor
open Go.RowKit Go.ChangeShapes Go.WideShapes
set_option linter.unusedVariables false

theorem nat_open {H : Type} {enc : TypeId × Value → H} {w : World} {base : Nat} {held : Bool} {fuel : Nat} {v : Value} {x : DataW H × List MemPlace} (h : DataW.trod enc Tryd.prog w base (fun _ => true) held fuel 28 v.cells.toList = some x) (hv : ∃ a n c, v = .slice a n c) :
    ∃ (A : Option Addr) (n c : Nat) (l : List Nat), v = .slice A n c ∧ l.length = n ∧ Rd .u32 w w.heap.size A c l ∧ Dg l := by
  obtain ⟨a, n, c, rfl⟩ := hv
  rcases open_ints Tryd.underlying28 Tryd.underlying36 (by kernel_rfl) h with ⟨hcs, _⟩ | ⟨x, l, c', zs, hcs, _, hl, hm, hz, _, hcell, hwz⟩
  · simp [Value.cells] at hcs
    obtain ⟨rfl, rfl, rfl⟩ := hcs
    exact ⟨none, 0, 0, [], rfl, rfl, Rd.nil_ _ _ _, fun x hx => by cases hx⟩
  · simp [Value.cells] at hcs
    obtain ⟨rfl, rfl, rfl⟩ := hcs
    obtain ⟨b, h1, h2, h3⟩ := rd_of_row wf_u32 (w := w) (a := some x) (len := n) (cap := c) (zs := zs) (.inr ⟨x, rfl, hl, hm, by simpa using hz, hcell, hwz⟩)
    exact ⟨_, _, _, b, rfl, h1, h2, h3⟩
theorem slice_formC {H : Type} {enc : TypeId × Value → H} {P : Program} {w : World} {base : Nat} {sp : Nat → Bool} {held : Bool} {fuel : Nat} {t e : TypeId} {v : Value} {x : DataW H × List MemPlace} (ht : P.underlying t = some (.slice e)) (h : DataW.trod enc P w base sp held fuel t [v] = some x) : ∃ a n c, v = .slice a n c := by
  rcases Deep.open_slice ht h with ⟨hcs, _⟩ | ⟨a, len, cap, m, n, D, Pl, hcs, _⟩
  · exact ⟨none, 0, 0, by simpa using hcs⟩
  · exact ⟨some a, len, cap, by simpa using hcs⟩
theorem cells_nat : Tryd.prog.cellsOf 28 = 1 := by kernel_rfl
theorem cells_i64 : Tryd.prog.cellsOf 2 = 1 := by kernel_rfl
theorem cells_gone : Tryd.prog.cellsOf 38 = 2 := by kernel_rfl
theorem cells_gones : Tryd.prog.cellsOf 23 = 1 := by kernel_rfl
theorem cells_attrs : Tryd.prog.cellsOf 22 = 1 := by kernel_rfl
theorem cells_u8s : Tryd.prog.cellsOf 24 = 1 := by kernel_rfl
theorem cells_crl : Tryd.prog.cellsOf 26 = 5 := by kernel_rfl
theorem gn_open {H : Type} {enc : TypeId × Value → H} {w : World} {base : Nat} {held : Bool} {n : Nat} {v0 v1 : Value} {x : DataW H × List MemPlace} (h : DataW.trod enc Tryd.prog w base (fun _ => true) held n 38 [v0, v1] = some x) :
    ∃ d : Gn, v0 = .slice d.sa d.ser.length d.sc ∧ v1 = .int .i64 d.tm ∧ GnP d w := by
  obtain ⟨xs, k, _, hx, _, hlen, hf⟩ := DataW.trod_struct Tryd.underlying38 h
  obtain ⟨y0, y1, rfl⟩ : ∃ y0 y1, xs = [y0, y1] := by
    match xs, hlen with
    | [y0, y1], _ => exact ⟨y0, y1, rfl⟩
  have g0 := hf 0 _ rfl
  have g1 := hf 1 _ rfl
  simp [cells_nat, cells_i64] at g0 g1
  obtain ⟨a0, n0, c0, rfl⟩ := slice_formC Tryd.underlying28 g0
  obtain ⟨i1, e1, _, _⟩ := DataW.trod_int Tryd.underlying2 g1
  obtain ⟨A, n2, c2, l, e2, hl, hr, hd⟩ := nat_open (v := .slice a0 n0 c0) g0 ⟨_, _, _, rfl⟩
  injection e2 with e2a e2b e2c
  subst e2a e2b e2c
  exact ⟨⟨a0, c0, l, i1⟩, by rw [← hl], by simpa using e1, hr, hd⟩
theorem gs_open {H : Type} {enc : TypeId × Value → H} {w : World} {base : Nat} {held : Bool} {fuel : Nat} {v : Value} {x : DataW H × List MemPlace} (h : DataW.trod enc Tryd.prog w base (fun _ => true) held fuel 23 v.cells.toList = some x) (hv : ∃ a n c, v = .slice a n c) :
    ∃ (A : Option Addr) (n c : Nat) (l : List Gn), v = .slice A n c ∧ l.length = n ∧ GsP A c l w := by
  obtain ⟨a, n, c, rfl⟩ := hv
  rcases Deep.open_slice Tryd.underlying23 h with ⟨hcs, _⟩ | ⟨a', len, cap, m, n', D, Pl, hcs, _, hl, hm, hmm, hx, hc⟩
  · simp [Value.cells] at hcs
    obtain ⟨rfl, rfl, rfl⟩ := hcs
    exact ⟨none, 0, 0, [], rfl, rfl, GsP.none _⟩
  · simp [Value.cells] at hcs
    obtain ⟨rfl, rfl, rfl⟩ := hcs
    have hlm : n ≤ m := by rw [hmm]; split <;> omega
    obtain ⟨l, hln, hlp⟩ := list_of (P := fun i (t : Gn) => (w.cell? (a'.add (i * 2)) = some (.slice t.sa t.ser.length t.sc) ∧ w.cell? (a'.add (i * 2 + 1)) = some (.int .i64 t.tm)) ∧ GnP t w) n (fun i hi => by
      obtain ⟨cs', h1, h2⟩ := hc i (by omega)
      rw [cells_gone] at h1
      obtain ⟨_, hlen, hcell⟩ := World.cells?_some h1
      match cs', hlen with
      | [v0, v1], _ =>
        obtain ⟨t, e0, e1, r1⟩ := gn_open h2
        have k0 := hcell 0 (by omega)
        have k1 := hcell 1 (by omega)
        rw [Deep.add_add] at k0 k1
        exact ⟨t, ⟨by rw [← e0]; simpa using k0, by rw [← e1]; simpa using k1⟩, r1⟩)
    refine ⟨some a', n, c, l, rfl, hln, ⟨by omega, by unfold maxLen at hm; exact hm, fun hn => ?_⟩, fun y hy => ?_⟩
    · obtain ⟨b, off, sp'⟩ := a'
      have hc0 := (hlp 0 (by omega)).1.1
      have hsp : sp' = none := by simpa [Addr.add] using World.cell?_spot hc0
      subst hsp
      have hadd : ∀ j, (⟨b, off, none⟩ : Addr).add j = ⟨b, off + j, none⟩ := fun j => by unfold Addr.add; split <;> simp_all
      refine ⟨b, off, rfl, ?_, fun j hj => ?_⟩
      · have := World.block_lt_of_cell? w _ hc0
        rw [hadd] at this
        exact this
      · obtain ⟨⟨k0, k1⟩, _⟩ := hlp j (by omega)
        rw [hadd] at k0 k1
        exact ⟨k0, by simpa [Nat.add_assoc] using k1⟩
    · obtain ⟨j, hj, rfl⟩ := List.getElem_of_mem hy
      have h2 := (hlp j (by omega)).2
      rwa [show l.getD j default = l[j] by simp [List.getD, hj]] at h2
theorem list5 {α : Type} {l : List α} (h : l.length = 5) : ∃ c0 c1 c2 c3 c4, l = [c0, c1, c2, c3, c4] := by
  rcases l with _ | ⟨c0, _ | ⟨c1, _ | ⟨c2, _ | ⟨c3, _ | ⟨c4, _ | ⟨c5, r⟩⟩⟩⟩⟩⟩
  · simp at h
  · simp at h
  · simp at h
  · simp at h
  · simp at h
  · exact ⟨c0, c1, c2, c3, c4, rfl⟩
  · simp at h
theorem array5 {α : Type} {cs : Array α} (h : cs.size = 5) : ∃ c0 c1 c2 c3 c4, cs = #[c0, c1, c2, c3, c4] := by
  obtain ⟨l⟩ := cs
  obtain ⟨c0, c1, c2, c3, c4, rfl⟩ := list5 (l := l) h
  exact ⟨c0, c1, c2, c3, c4, rfl⟩
set_option maxRecDepth 100000 in
theorem crl_open {H : Type} {enc : TypeId × Value → H} {w : World} {base b0 : Nat} {held : Bool} {r : Reach} {v : Value} {d : DataW H} {p : List MemPlace} (hv : Value.okWide Tryd.prog w r b0 26 v) (h : DataW.Trod enc Tryd.prog w base (fun _ => true) held 26 v d p) :
    ∃ cl : Cl, v = .agg (ccell cl).toArray ∧ ClP cl w ∧ ∀ y ∈ cl.iss, ∃ k ∈ d.weights Tryd.prog 26, (bts y.s).length ≤ k := by
  obtain ⟨cs, rfl, hsz⟩ := okWide_struct Tryd.underlying26 hv
  obtain ⟨v0, v1, v2, v3, v4, rfl⟩ := array5 (hsz.trans cells_crl)
  obtain ⟨fuel, hf⟩ := h
  obtain ⟨xs, k, _, hx, _, hlen, hfs⟩ := DataW.trod_struct Tryd.underlying26 hf
  obtain ⟨y0, y1, y2, y3, y4, rfl⟩ := list5 hlen
  have g0 := hfs 0 _ rfl
  have g1 := hfs 1 _ rfl
  have g2 := hfs 2 _ rfl
  have g3 := hfs 3 _ rfl
  have g4 := hfs 4 _ rfl
  simp [Value.cells, cells_attrs, cells_i64, cells_gones, cells_u8s] at g0 g1 g2 g3 g4
  obtain ⟨a0, n0, c0, rfl⟩ := slice_formC Tryd.underlying22 g0
  obtain ⟨i1, e1, _, _⟩ := DataW.trod_int Tryd.underlying2 g1
  obtain ⟨i2, e2, _, _⟩ := DataW.trod_int Tryd.underlying2 g2
  obtain ⟨a3, n3, c3, rfl⟩ := slice_formC Tryd.underlying23 g3
  obtain ⟨a4, n4, c4, rfl⟩ := slice_formC Tryd.underlying24 g4
  obtain ⟨A0, m0, d0, iss, f0, hl0, hr0, hw0⟩ := rdA_openW (v := .slice a0 n0 c0) g0 ⟨_, _, _, rfl⟩
  obtain ⟨A3, m3, d3, gone, f3, hl3, hr3⟩ := gs_open (v := .slice a3 n3 c3) g3 ⟨_, _, _, rfl⟩
  obtain ⟨A4, m4, d4, sig, f4, hl4, hr4, ho4⟩ := rd1_open (v := .slice a4 n4 c4) g4 ⟨_, _, _, rfl⟩
  injection f0 with f0a f0b f0c
  injection f3 with f3a f3b f3c
  injection f4 with f4a f4b f4c
  subst f0a f0b f0c f3a f3b f3c f4a f4b f4c
  have e1 : v1 = .int .i64 i1 := by simpa using e1
  have e2 : v2 = .int .i64 i2 := by simpa using e2
  subst e1 e2
  refine ⟨⟨a0, c0, iss, i1, i2, a3, c3, gone, a4, c4, sig⟩, by simp only [ccell]; rw [hl0, hl3, hl4], ⟨hr0, hr3, hr4, ho4⟩, fun y hy => ?_⟩
  obtain ⟨kk, hk, hle⟩ := hw0 y hy
  refine ⟨kk, ?_, hle⟩
  simp only [Prod.mk.injEq] at hx
  rw [hx.1]
  simp only [DataW.weights, Tryd.underlying26, List.map_cons, List.map_nil]
  exact DataW.weights_mem_each (j := 0) rfl rfl _ hk
end Go.Proofs.YtionikhhdfkhdaaDoor
