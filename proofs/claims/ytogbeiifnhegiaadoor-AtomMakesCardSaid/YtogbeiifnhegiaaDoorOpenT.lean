/-
  A thing as an argument, opened.
-/
import Derived.Test.YtogbeiifnhegiaaDoorOpen
import Derived.Test.YtogbeiifnhegiaaDoorTlv1
import Derived.Lib.SmallJoins
import Derived.Deep.Slices
import Derived.ChangeSlices
import Derived.ChangeArms
import Derived.WideShapes
namespace Go.Proofs.YtogbeiifnhegiaaDoor
open Go.RowKit Go.ChangeShapes Go.WideShapes
set_option linter.unusedVariables false

theorem rd1_open {H : Type} {enc : TypeId × Value → H} {w : World} {base : Nat} {held : Bool} {fuel : Nat} {v : Value} {x : DataW H × List MemPlace} (h : DataW.trod enc Tryd.prog w base (fun _ => true) held fuel 22 v.cells.toList = some x) (hv : ∃ a n c, v = .slice a n c) :
    ∃ (A : Option Addr) (n c : Nat) (l : List Nat), v = .slice A n c ∧ l.length = n ∧ Rd .u8 w w.heap.size A c l ∧ ∀ x ∈ l, x < 256 := by
  obtain ⟨a, n, c, rfl⟩ := hv
  rcases open_ints Tryd.underlying22 Tryd.underlying5 (by kernel_rfl) h with ⟨hcs, _⟩ | ⟨x, l, c', zs, hcs, _, hl, hm, hz, _, hcell, hwz⟩
  · simp [Value.cells] at hcs
    obtain ⟨rfl, rfl, rfl⟩ := hcs
    exact ⟨none, 0, 0, [], rfl, rfl, Rd.nil_ _ _ _, fun x hx => by cases hx⟩
  · simp [Value.cells] at hcs
    obtain ⟨rfl, rfl, rfl⟩ := hcs
    obtain ⟨b, h1, h2, h3⟩ := rd_of_row wf_u8 (w := w) (a := some x) (len := n) (cap := c) (zs := zs) (.inr ⟨x, rfl, hl, hm, by simpa using hz, hcell, hwz⟩)
    exact ⟨_, _, _, b, rfl, h1, h2, h3⟩
theorem list_of {α : Type} [Inhabited α] {P : Nat → α → Prop} : ∀ n, (∀ i, i < n → ∃ a, P i a) → ∃ l : List α, l.length = n ∧ ∀ i, i < n → P i (l.getD i default)
  | 0, _ => ⟨[], rfl, fun i h => absurd h (by omega)⟩
  | n + 1, h => by
    obtain ⟨l, hl, hp⟩ := list_of n (fun i hi => h i (by omega))
    obtain ⟨a, ha⟩ := h n (by omega)
    refine ⟨l ++ [a], by simp [hl], fun i hi => ?_⟩
    by_cases e : i = n
    · subst e
      have e2 : (l ++ [a]).getD i default = a := by simp [List.getD, ← hl]
      rw [e2]; exact ha
    · have e2 : (l ++ [a]).getD i default = l.getD i default := by simp [List.getD, List.getElem?_append_left (show i < l.length by omega)]
      rw [e2]; exact hp i (by omega)
theorem slice_form {H : Type} {enc : TypeId × Value → H} {P : Program} {w : World} {base : Nat} {sp : Nat → Bool} {held : Bool} {fuel : Nat} {t e : TypeId} {v : Value} {x : DataW H × List MemPlace} (ht : P.underlying t = some (.slice e)) (h : DataW.trod enc P w base sp held fuel t [v] = some x) : ∃ a n c, v = .slice a n c := by
  rcases Deep.open_slice ht h with ⟨hcs, _⟩ | ⟨a, len, cap, m, n, D, Pl, hcs, _⟩
  · exact ⟨none, 0, 0, by simpa using hcs⟩
  · exact ⟨some a, len, cap, by simpa using hcs⟩
theorem cells_node : Tryd.prog.cellsOf 27 = 3 := by kernel_rfl
theorem cells_byte : Tryd.prog.cellsOf 5 = 1 := by kernel_rfl
theorem cells_bytes : Tryd.prog.cellsOf 22 = 1 := by kernel_rfl
theorem cells_kids : Tryd.prog.cellsOf 23 = 1 := by kernel_rfl
theorem open_slice_n {H : Type} {enc : TypeId × Value → H} {P : Program} {w : World} {base : Nat} {sp : Nat → Bool} {held : Bool} {t e : TypeId} {fuel : Nat} {cs : List Value} {x : DataW H × List MemPlace} (ht : P.underlying t = some (.slice e)) (h : DataW.trod enc P w base sp held fuel t cs = some x) :
    cs = [.slice none 0 0] ∨ ∃ (a : Addr) (len cap n : Nat), fuel = n + 1 ∧ cs = [.slice (some a) len cap] ∧ len ≤ cap ∧ cap ≤ maxLen ∧
      ∀ i, i < len → ∃ cs' y, w.cells? base (a.add (i * P.cellsOf e)) (P.cellsOf e) = some cs' ∧ DataW.trod enc P w base sp held n e cs' = some y := by
  rcases DataW.trod_slice ht h with h0 | ⟨a, len, cap, elems, rest, n, hf, rfl, rfl, hb, hl, hm, hlen, hel, hsp, hns⟩
  · exact .inl h0.1
  · refine .inr ⟨a, len, cap, n, hf, rfl, hl, hm, fun i hi => ?_⟩
    have key := hel i hi
    rw [List.getElem?_eq_getElem (by omega)] at key
    obtain ⟨cs', h1, h2⟩ := Option.bind_eq_some_iff.1 key
    exact ⟨cs', _, h1, h2⟩
theorem thing_open {H : Type} {enc : TypeId × Value → H} {w : World} {base : Nat} {held : Bool} : ∀ (N n : Nat) (v0 v1 v2 : Value) (x : DataW H × List MemPlace), n < N → DataW.trod enc Tryd.prog w base (fun _ => true) held n 27 [v0, v1, v2] = some x →
    ∃ t : Lt, v0 = .int .u8 (t.tag : Int) ∧ v1 = .slice t.ba t.body.length t.bc ∧ v2 = .slice t.ka t.kids.length t.kc ∧ TrAt w w.heap.size t
  | 0, n, _, _, _, _, hn, _ => by omega
  | N + 1, n, v0, v1, v2, x, hn, h => by
    obtain ⟨xs, k, hk, _, _, hlen, hf⟩ := DataW.trod_struct Tryd.underlying27 h
    obtain ⟨y0, y1, y2, rfl⟩ : ∃ y0 y1 y2, xs = [y0, y1, y2] := by
      match xs, hlen with
      | [y0, y1, y2], _ => exact ⟨y0, y1, y2, rfl⟩
    have g0 := hf 0 _ rfl
    have g1 := hf 1 _ rfl
    have g2 := hf 2 _ rfl
    simp [cells_byte, cells_bytes, cells_kids] at g0 g1 g2
    obtain ⟨i0, e0, _, hw0⟩ := DataW.trod_int Tryd.underlying5 g0
    obtain ⟨a1, n1, c1, rfl⟩ := slice_form Tryd.underlying22 g1
    obtain ⟨A1, n1', c1', l1, e1, hl1, hr1, ho1⟩ := rd1_open (v := .slice a1 n1 c1) g1 ⟨_, _, _, rfl⟩
    injection e1 with e1a e1b e1c
    subst e1a e1b e1c
    have hb := bounds_u8 hw0
    obtain ⟨tag, rfl⟩ : ∃ m : Nat, i0 = (m : Int) := ⟨i0.toNat, by omega⟩
    have htag : tag < 256 := by omega
    have hv0 : v0 = .int .u8 (tag : Int) := by simpa using e0
    rcases open_slice_n Tryd.underlying23 g2 with hcs | ⟨a, len, cap, m, hm, hcs, hl, hmx, hel⟩
    · refine ⟨.mk tag a1 c1 l1 none 0 [], hv0, by rw [← hl1]; rfl, by show v2 = .slice none 0 0; simpa using hcs, ?_⟩
      rw [trAt_mk]
      exact ⟨htag, hr1, ho1, ⟨by simp, by omega, fun hn => by simp at hn⟩, fun j hj => by simp at hj⟩
    · obtain ⟨l, hln, hlp⟩ := list_of (P := fun i (t : Lt) => (w.cell? (a.add (i * 3)) = some (.int .u8 (t.tag : Int)) ∧ w.cell? (a.add (i * 3 + 1)) = some (.slice t.ba t.body.length t.bc) ∧ w.cell? (a.add (i * 3 + 2)) = some (.slice t.ka t.kids.length t.kc)) ∧ TrAt w w.heap.size t) len (fun i hi => by
        obtain ⟨cs', y, h1, h2⟩ := hel i hi
        rw [cells_node] at h1
        obtain ⟨_, hlen, hcell⟩ := World.cells?_some h1
        match cs', hlen with
        | [u0, u1, u2], _ =>
          obtain ⟨t, q0, q1, q2, q3⟩ := thing_open N m u0 u1 u2 y (by omega) h2
          have k0 := hcell 0 (by omega)
          have k1 := hcell 1 (by omega)
          have k2 := hcell 2 (by omega)
          rw [Deep.add_add] at k0 k1 k2
          exact ⟨t, ⟨by rw [← q0]; simpa using k0, by rw [← q1]; simpa using k1, by rw [← q2]; simpa using k2⟩, q3⟩)
      refine ⟨.mk tag a1 c1 l1 (some a) cap l, hv0, by rw [← hl1]; rfl, by show v2 = .slice (some a) l.length cap; rw [hln]; simpa using hcs, ?_⟩
      rw [trAt_mk]
      refine ⟨htag, hr1, ho1, ⟨by omega, by unfold maxLen at hmx; exact hmx, fun hn => ?_⟩, fun j hj => (hlp j (by omega)).2⟩
      obtain ⟨b, off, sp'⟩ := a
      have hc0 := (hlp 0 (by omega)).1.1
      have hsp : sp' = none := by simpa [Addr.add] using World.cell?_spot hc0
      subst hsp
      have hadd : ∀ j, (⟨b, off, none⟩ : Addr).add j = ⟨b, off + j, none⟩ := fun j => by unfold Addr.add; split <;> simp_all
      refine ⟨b, off, rfl, ?_, fun j hj => ?_⟩
      · have := World.block_lt_of_cell? w _ hc0
        rw [hadd] at this
        exact this
      · obtain ⟨⟨k0, k1, k2⟩, _⟩ := hlp j (by omega)
        rw [hadd] at k0 k1 k2
        exact ⟨k0, by rw [show off + j * 3 + 1 = off + (j * 3 + 1) by omega]; exact k1, by rw [show off + j * 3 + 2 = off + (j * 3 + 2) by omega]; exact k2⟩
/-- A thing's parts as an argument. -/
theorem arg_thing {H : Type} {enc : TypeId × Value → H} {w : World} {base : Nat} {held : Bool} {n : Nat} {v0 v1 v2 : Value} {y0 y1 y2 : DataW H × List MemPlace} (g0 : DataW.trod enc Tryd.prog w base (fun _ => true) held n 5 [v0] = some y0)
    (g1 : DataW.trod enc Tryd.prog w base (fun _ => true) held n 22 [v1] = some y1) (g2 : DataW.trod enc Tryd.prog w base (fun _ => true) held n 23 [v2] = some y2) :
    ∃ t : Lt, v0 = .int .u8 (t.tag : Int) ∧ v1 = .slice t.ba t.body.length t.bc ∧ v2 = .slice t.ka t.kids.length t.kc ∧ TrAt w w.heap.size t := by
  obtain ⟨i0, e0, _, hw0⟩ := DataW.trod_int Tryd.underlying5 g0
  obtain ⟨a1, n1, c1, rfl⟩ := slice_form Tryd.underlying22 g1
  obtain ⟨A1, n1', c1', l1, e1, hl1, hr1, ho1⟩ := rd1_open (v := .slice a1 n1 c1) g1 ⟨_, _, _, rfl⟩
  injection e1 with e1a e1b e1c
  subst e1a e1b e1c
  have hb := bounds_u8 hw0
  obtain ⟨tag, rfl⟩ : ∃ m : Nat, i0 = (m : Int) := ⟨i0.toNat, by omega⟩
  have htag : tag < 256 := by omega
  have hv0 : v0 = .int .u8 (tag : Int) := by simpa using e0
  rcases open_slice_n Tryd.underlying23 g2 with hcs | ⟨a, len, cap, m, hm, hcs, hl, hmx, hel⟩
  · refine ⟨.mk tag a1 c1 l1 none 0 [], hv0, by rw [← hl1]; rfl, by show v2 = .slice none 0 0; simpa using hcs, ?_⟩
    rw [trAt_mk]
    exact ⟨htag, hr1, ho1, ⟨by simp, by omega, fun hn => by simp at hn⟩, fun j hj => by simp at hj⟩
  · obtain ⟨l, hln, hlp⟩ := list_of (P := fun i (t : Lt) => (w.cell? (a.add (i * 3)) = some (.int .u8 (t.tag : Int)) ∧ w.cell? (a.add (i * 3 + 1)) = some (.slice t.ba t.body.length t.bc) ∧ w.cell? (a.add (i * 3 + 2)) = some (.slice t.ka t.kids.length t.kc)) ∧ TrAt w w.heap.size t) len (fun i hi => by
      obtain ⟨cs', y, h1, h2⟩ := hel i hi
      rw [cells_node] at h1
      obtain ⟨_, hlen, hcell⟩ := World.cells?_some h1
      match cs', hlen with
      | [u0, u1, u2], _ =>
        obtain ⟨t, q0, q1, q2, q3⟩ := thing_open (m + 1) m u0 u1 u2 y (by omega) h2
        have k0 := hcell 0 (by omega)
        have k1 := hcell 1 (by omega)
        have k2 := hcell 2 (by omega)
        rw [Deep.add_add] at k0 k1 k2
        exact ⟨t, ⟨by rw [← q0]; simpa using k0, by rw [← q1]; simpa using k1, by rw [← q2]; simpa using k2⟩, q3⟩)
    refine ⟨.mk tag a1 c1 l1 (some a) cap l, hv0, by rw [← hl1]; rfl, by show v2 = .slice (some a) l.length cap; rw [hln]; simpa using hcs, ?_⟩
    rw [trAt_mk]
    refine ⟨htag, hr1, ho1, ⟨by omega, by unfold maxLen at hmx; exact hmx, fun hn => ?_⟩, fun j hj => (hlp j (by omega)).2⟩
    obtain ⟨b, off, sp'⟩ := a
    have hc0 := (hlp 0 (by omega)).1.1
    have hsp : sp' = none := by simpa [Addr.add] using World.cell?_spot hc0
    subst hsp
    have hadd : ∀ j, (⟨b, off, none⟩ : Addr).add j = ⟨b, off + j, none⟩ := fun j => by unfold Addr.add; split <;> simp_all
    refine ⟨b, off, rfl, ?_, fun j hj => ?_⟩
    · have := World.block_lt_of_cell? w _ hc0
      rw [hadd] at this
      exact this
    · obtain ⟨⟨k0, k1, k2⟩, _⟩ := hlp j (by omega)
      rw [hadd] at k0 k1 k2
      exact ⟨k0, by rw [show off + j * 3 + 1 = off + (j * 3 + 1) by omega]; exact k1, by rw [show off + j * 3 + 2 = off + (j * 3 + 2) by omega]; exact k2⟩
end Go.Proofs.YtogbeiifnhegiaaDoor
