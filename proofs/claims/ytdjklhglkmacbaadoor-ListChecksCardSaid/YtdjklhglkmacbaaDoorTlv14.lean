/-
  Whether a thing may be: by the program.
-/
import Derived.Test.YtdjklhglkmacbaaDoorTlv13
namespace Go.Proofs.YtdjklhglkmacbaaDoor
open Go.RowKit Go.Shelf
set_option linter.unusedVariables false
set_option linter.unusedSimpArgs false
attribute [local go_sem] Oper.semAt_some

/-- Of one thing in a thing: it is not too deep, its tag and parts are such. -/
def fine (p : Nat × Lt) : Bool := ok1 p.2.tag p.2.body.length p.2.kids.length && decide (p.1 ≤ 12)
mutual
theorem Lt.fine_items : ∀ (t : Lt) (d : Nat), (∀ y ∈ t.items d, fine y = true) ↔ t.t.sound d = true
  | .mk tag ba bc body ka kc kids, d => by
    rw [Lt.items, Lt.t, Tr.sound, Bool.and_eq_true, ← Lt.fine_itemss kids (d + 1)]
    have hl : (Lt.ts kids).length = kids.length := by rw [Lt.ts_map, List.length_map]
    constructor
    · intro h
      refine ⟨?_, fun y hy => h y (List.mem_cons_of_mem _ hy)⟩
      have := h _ (List.mem_cons_self ..)
      rw [hl]
      simpa [fine, Lt.tag, Lt.body, Lt.kids] using this
    · rintro ⟨h1, h2⟩ y hy
      rcases List.mem_cons.1 hy with rfl | hy
      · rw [hl] at h1
        simpa [fine, Lt.tag, Lt.body, Lt.kids] using h1
      · exact h2 y hy
theorem Lt.fine_itemss : ∀ (l : List Lt) (d : Nat), (∀ y ∈ Lt.itemss l d, fine y = true) ↔ Tr.sounds (Lt.ts l) d = true
  | [], d => by simp [Lt.itemss, Lt.ts, Tr.sounds]
  | x :: r, d => by
    rw [Lt.itemss, Lt.ts, Tr.sounds, Bool.and_eq_true, ← Lt.fine_items x d, ← Lt.fine_itemss r d]
    constructor
    · intro h
      exact ⟨fun y hy => h y (List.mem_append_left _ hy), fun y hy => h y (List.mem_append_right _ hy)⟩
    · rintro ⟨h1, h2⟩ y hy
      rcases List.mem_append.1 hy with hy | hy
      · exact h1 y hy
      · exact h2 y hy
end
/-- What the loop holds to. -/
def IsI (b0 : Nat) (w : World) (cs : Array Value) (pre : List It) (W : World) : Prop :=
  (((W.cell? ⟨b0 + 2, 0, none⟩ = some (.int .i64 (pre.length : Int)) ∧ W.frozen? ⟨b0 + 2, 0, none⟩ = false) ∧ (W.cell? ⟨b0 + 1, 0, none⟩ = some (.bool false) ∧ W.frozen? ⟨b0 + 1, 0, none⟩ = false) ∧
    (W.cell? ⟨b0, 0, none⟩ = some (cs.getD 0 undef) ∧ W.cell? ⟨b0, 1, none⟩ = some (cs.getD 1 undef) ∧ W.cell? ⟨b0, 2, none⟩ = some (cs.getD 2 undef))) ∧ (∀ y ∈ pre, fine y.1 = true) ∧ pre.length ≤ 600) ∧ Below b0 w W
def IsX (b0 : Nat) (w : World) (c : Code) (pre : List It) (W : World) : Prop :=
  (c = .ret ∧ ((∃ y ∈ pre, fine y.1 = false) ∨ 600 < pre.length) ∧ W.cell? ⟨b0 + 1, 0, none⟩ = some (.bool false)) ∧ Below b0 w W
theorem isI_own {b0 : Nat} {w : World} {cs : Array Value} (hb : b0 ≤ w.heap.size) {B : Nat} (hB : b0 ≤ B) : OwnFrom B (IsI b0 w cs) :=
  OwnFrom.and (Own.from (fun s A B row hs hg hr => ⟨⟨⟨cell_kept hs.1.1.1 hg hr, (frozen_kept hs.1.1.1 hg hr).trans hs.1.1.2⟩, ⟨cell_kept hs.1.2.1.1 hg hr, (frozen_kept hs.1.2.1.1 hg hr).trans hs.1.2.1.2⟩, cell_kept hs.1.2.2.1 hg hr, cell_kept hs.1.2.2.2.1 hg hr, cell_kept hs.1.2.2.2.2 hg hr⟩, hs.2⟩) _) (ownFrom_below hb hB)
theorem isX_own {b0 : Nat} {w : World} (c : Code) (hb : b0 ≤ w.heap.size) {B : Nat} (hB : b0 ≤ B) : OwnFrom B (IsX b0 w c) :=
  OwnFrom.and (Own.from (fun s A B row hs hg hr => ⟨hs.1, hs.2.1, cell_kept hs.2.2 hg hr⟩) _) (ownFrom_below hb hB)
end Go.Proofs.YtdjklhglkmacbaaDoor
