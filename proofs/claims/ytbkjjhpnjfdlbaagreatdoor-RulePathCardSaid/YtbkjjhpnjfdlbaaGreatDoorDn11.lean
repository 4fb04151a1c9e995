/-
  A thing as a part of a name, plainly; a thing's text by the document.
-/
import Derived.Test.YtbkjjhpnjfdlbaaGreatDoorDn8
namespace Go.Proofs.YtbkjjhpnjfdlbaaGreatDoor
open Go.RowKit
set_option linter.unusedVariables false
set_option linter.unusedSimpArgs false
attribute [local go_sem ↓] Go.wp_at_zero Go.wp_at_succ

theorem ret_att {R : Ending → World → Prop} {tmps : Array Value} {w : World} {g : Nat} {t : TypeId} {cs : Array Value} {v : Value} {fn : Func} {p u : Tmp}
    (hr : fn.results = #[.cell p 62, .tmp u]) (hp : tmps.getD p undef = .pointer (some ⟨g, 0, none⟩)) (hu : tmps.getD u undef = v) (hg : Holds w g t cs) (hcs : cs.size = 2) (hR : R (.returned (.tuple #[.agg cs, v])) w) :
    bodyPost Tryz.prog fn R .ret { tmps := tmps, defers := [] } w := by
  have hi : (Tryz.prog.info? 62).map (·.size) = some cs.size := by rw [hcs]; kernel_rfl
  refine bodyPost_ret (v := .tuple #[.agg cs, v]) ?_ rfl hR
  rw [results_cell_tmp hr]
  have hp' : tmps[p]?.getD undef = .pointer (some ⟨g, 0, none⟩) := by simpa using hp
  have hu' : tmps[u]?.getD undef = v := by simpa using hu
  simp [hp', hu', asAddr, run_loadVar_row w g t _ cs (0, 0) _ hg Tryz.underlying62 rfl hi, Result.andThen]
/-- The things of a Seq of a tag; none of another thing. -/
def seqK (k : Nat) (t : Tr) : List Tr := if seqOk t.tag t.body.length k = true then t.kids else []
def seqL (k : Nat) (t : Lt) : List Lt := if seqOk t.tag t.body.length k = true then t.kids else []
theorem t_parts (t : Lt) : t.t.tag = t.tag ∧ t.t.body = t.body ∧ t.t.kids = t.kids.map Lt.t := by
  rcases t with ⟨tag, ba, bc, body, ka, kc, kids⟩
  rw [Lt.t_mk]
  exact ⟨rfl, rfl, rfl⟩
theorem seq_map (k : Nat) (t : Lt) : seqK k t.t = (seqL k t).map Lt.t := by
  obtain ⟨h1, h2, h3⟩ := t_parts t
  unfold seqK seqL
  rw [h1, h2, h3]
  split <;> rfl
theorem seqL_mem {k : Nat} {t x : Lt} (h : x ∈ seqL k t) : x ∈ t.kids := by
  unfold seqL at h
  split at h
  · exact h
  · cases h
def idB (p : Tr) : List Nat := if (heldOk p.tag p.kids.length 6 && idOk p.body) = true then p.body else []
def txB (p : Tr) : Option (List Nat) := txOf p.tag p.kids.length p.body
/-- Are so many too few, or (strictly) not so many? -/
def bad (s : Bool) (k n : Nat) : Bool := if s = true then decide (n ≠ k) else decide (n < k)
/-- A thing as a part of a name. -/
def attrT (s : Bool) (t : Tr) : Option Att :=
  if bad s 1 (seqK 49 t).length = true then none
  else if bad s 2 (seqK 48 ((seqK 49 t).getD 0 default)).length = true then none
  else if (txB ((seqK 48 ((seqK 49 t).getD 0 default)).getD 1 default)).isSome = true ∧ (idB ((seqK 48 ((seqK 49 t).getD 0 default)).getD 0 default)).length = 3 then
    some ⟨((idB ((seqK 48 ((seqK 49 t).getD 0 default)).getD 0 default)).getD 2 0 : Nat), str ((seqK 48 ((seqK 49 t).getD 0 default)).getD 1 default).body⟩
  else none
def AttrP (w : World) : Option Att → Ending → World → Prop
  | none, e, w' => ∃ k s, e = .returned (.tuple #[.agg #[.int .i64 k, .string s], .bool false]) ∧ Below w.heap.size w w'
  | some a, e, w' => e = .returned (.tuple #[.agg #[.int .i64 a.k, .string a.s], .bool true]) ∧ Below w.heap.size w w'
theorem SeqPost.one {w : World} {xs : List Nat} {ks : List Lt} {b : Bool} {e : Ending} {w' : World} (h : SeqPost w xs ks b e w') : ∃ A c, e = .returned (.tuple #[.slice A (if b = true then ks else []).length c, .bool b]) ∧ Off xs (KiP A c (if b = true then ks else [])) w' ∧ Below w.heap.size w w' := by
  rcases b with _ | _
  · exact ⟨none, 0, h.1, off_none _ _, h.2⟩
  · exact h
/-- A thing that is small enough. -/
def FitA (t : Tr) : Prop := t.kids.length ≤ 12000 ∧ ∀ k ∈ t.kids, k.kids.length ≤ 12000 ∧ ∀ p ∈ k.kids, p.body.length ≤ 12000
theorem below_att {w w' : World} {h : Nat} (hb : Below w.heap.size w w') (hh : w.heap.size ≤ h) (a b : Value) : Below w.heap.size w ((w'.setCell ⟨h, 0, none⟩ a).setCell ⟨h, 1, none⟩ b) :=
  (hb.setCell (p := ⟨h, 0, none⟩) hh _).setCell (p := ⟨h, 1, none⟩) hh _
theorem lt_at {l : List Lt} {j : Nat} (h : j < l.length) : (l.map Lt.t).getD j default = (l.getD j default).t := by simp [List.getD, h]
/-- A thing in a row: its cells, and itself. -/
theorem KiP.cells {w : World} {A : Option Addr} {c j : Nat} {l : List Lt} (h : Off [] (KiP A c l) w) (hj : j < l.length) : ∃ g off, A = some ⟨g, off, none⟩ ∧ g < w.heap.size ∧
    (∀ W, Below w.heap.size w W → W.cell? ⟨g, off + j * 3, none⟩ = some (.int .u8 ((l.getD j default).tag : Int)) ∧ W.cell? ⟨g, off + j * 3 + 1, none⟩ = some (.slice (l.getD j default).ba (l.getD j default).body.length (l.getD j default).bc) ∧ W.cell? ⟨g, off + j * 3 + 2, none⟩ = some (.slice (l.getD j default).ka (l.getD j default).kids.length (l.getD j default).kc)) := by
  obtain ⟨g, off, e, hg, hc⟩ := h.at_.1.2.2 (by omega)
  obtain ⟨q0, q1, q2⟩ := hc j hj
  exact ⟨g, off, e, hg, fun W hW => ⟨(hW.cell (p := ⟨g, _, none⟩) hg).trans q0, (hW.cell (p := ⟨g, _, none⟩) hg).trans q1, (hW.cell (p := ⟨g, _, none⟩) hg).trans q2⟩⟩
end Go.Proofs.YtbkjjhpnjfdlbaaGreatDoor
