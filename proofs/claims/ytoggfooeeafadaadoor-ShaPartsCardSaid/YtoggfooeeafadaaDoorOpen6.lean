/-
  A row of bytes and eight words, opened.
-/
import Derived.Test.YtoggfooeeafadaaDoorOpen
import Derived.Test.YtoggfooeeafadaaDoorSha8
import Derived.ChangeSlices
import Derived.ChangeArms
import Derived.WideShapes
namespace Go.Proofs.YtoggfooeeafadaaDoor
open Go.RowKit Go.ChangeShapes Go.WideShapes
set_option linter.unusedVariables false

theorem oct_of6 {l : List Nat} (h : ∀ x ∈ l, x < 256) : Oct6 l := fun i => by
  rcases Nat.lt_or_ge i l.length with hi | hi
  · rw [List.getD, List.getElem?_eq_getElem hi]; exact h _ (List.getElem_mem hi)
  · rw [List.getD, List.getElem?_eq_none hi]; exact (by decide : (0 : Nat) < 256)
theorem rd8_open {H : Type} {enc : TypeId × Value → H} {w : World} {base : Nat} {held : Bool} {fuel : Nat} {v : Value} {x : DataW H × List MemPlace} (h : DataW.trod enc Tryd.prog w base (fun _ => true) held fuel 22 v.cells.toList = some x) (hv : ∃ a n c, v = .slice a n c) :
    ∃ (A : Option Addr) (n c : Nat) (l : List Nat), v = .slice A n c ∧ l.length = n ∧ Rd .u8 w w.heap.size A c l ∧ Oct6 l := by
  obtain ⟨a, n, c, rfl⟩ := hv
  rcases open_ints Tryd.underlying22 Tryd.underlying5 (by kernel_rfl) h with ⟨hcs, _⟩ | ⟨x, l, c', zs, hcs, _, hl, hm, hz, _, hcell, hwz⟩
  · simp [Value.cells] at hcs
    obtain ⟨rfl, rfl, rfl⟩ := hcs
    exact ⟨none, 0, 0, [], rfl, rfl, Rd.nil_ _ _ _, fun i => by simp⟩
  · simp [Value.cells] at hcs
    obtain ⟨rfl, rfl, rfl⟩ := hcs
    obtain ⟨b, h1, h2, h3⟩ := rd_of_row wf_u8 (w := w) (a := some x) (len := n) (cap := c) (zs := zs) (.inr ⟨x, rfl, hl, hm, by simpa using hz, hcell, hwz⟩)
    exact ⟨_, _, _, b, rfl, h1, h2, oct_of6 h3⟩
theorem okWide_arr {r : Reach} {P : Program} {w : World} {base : Nat} {t e : TypeId} {n : Nat} {v : Value} (ht : P.underlying t = some (.array n e)) (h : Value.okWide P w r base t v) : ∃ cs, v = .agg cs := by
  simp only [Value.okWide, ht] at h
  obtain ⟨cs, h1, _⟩ := h
  exact ⟨cs, h1⟩
theorem st_open {H : Type} {enc : TypeId × Value → H} {w : World} {base : Nat} {held : Bool} {sp : Nat → Bool} {fuel : Nat} {v : Value} {x : DataW H × List MemPlace} (hv : ∃ cs, v = .agg cs) (h : DataW.trod enc Tryd.prog w base sp held fuel 28 v.cells.toList = some x) :
    ∃ s : St, v = .agg (nums .u32 s.list) ∧ s.Ok := by
  obtain ⟨cs, rfl⟩ := hv
  obtain ⟨xs, m, rfl, rfl, hlen, hxs, hel⟩ := DataW.trod_array Tryd.underlying28 h
  have hce : Tryd.prog.cellsOf 27 = 1 := by kernel_rfl
  have hct : Tryd.prog.cellsOf 28 = 8 := by kernel_rfl
  rw [hct] at hlen
  have hlen' : cs.toList.length = 8 := hlen
  have key : ∀ i, i < 8 → ∃ m : Nat, m < 4294967296 ∧ cs.toList[i]? = some (.int .u32 (m : Int)) := fun i hi => by
    have h1 := hel i hi
    rw [hce, Nat.mul_one, List.getElem?_eq_getElem (by omega)] at h1
    obtain ⟨z, hz, _, hwf⟩ := DataW.trod_int Tryd.underlying27 h1
    have hb := wf_u32 z hwf
    refine ⟨z.toNat, by omega, ?_⟩
    have h2 := congrArg (fun l : List Value => l[0]?) hz
    simp only [List.getElem?_take, List.getElem?_drop, Nat.add_zero] at h2
    rw [Int.toNat_of_nonneg hb.1]
    simpa [Value.cells] using h2
  obtain ⟨m0, b0, e0⟩ := key 0 (by omega)
  obtain ⟨m1, b1, e1⟩ := key 1 (by omega)
  obtain ⟨m2, b2, e2⟩ := key 2 (by omega)
  obtain ⟨m3, b3, e3⟩ := key 3 (by omega)
  obtain ⟨m4, b4, e4⟩ := key 4 (by omega)
  obtain ⟨m5, b5, e5⟩ := key 5 (by omega)
  obtain ⟨m6, b6, e6⟩ := key 6 (by omega)
  obtain ⟨m7, b7, e7⟩ := key 7 (by omega)
  refine ⟨⟨m0, m1, m2, m3, m4, m5, m6, m7⟩, ?_, b0, b1, b2, b3, b4, b5, b6, b7⟩
  have : cs.toList = (nums .u32 (St.list ⟨m0, m1, m2, m3, m4, m5, m6, m7⟩)).toList := by
    apply List.ext_getElem?
    intro i
    rcases Nat.lt_or_ge i 8 with hi | hi
    · rcases (by omega : i = 0 ∨ i = 1 ∨ i = 2 ∨ i = 3 ∨ i = 4 ∨ i = 5 ∨ i = 6 ∨ i = 7) with rfl | rfl | rfl | rfl | rfl | rfl | rfl | rfl
      · rw [e0]; rfl
      · rw [e1]; rfl
      · rw [e2]; rfl
      · rw [e3]; rfl
      · rw [e4]; rfl
      · rw [e5]; rfl
      · rw [e6]; rfl
      · rw [e7]; rfl
    · rw [List.getElem?_eq_none (by omega), List.getElem?_eq_none (by exact hi)]
  rw [show cs = nums .u32 (St.list ⟨m0, m1, m2, m3, m4, m5, m6, m7⟩) from Array.toList_inj.1 this]
end Go.Proofs.YtoggfooeeafadaaDoor
