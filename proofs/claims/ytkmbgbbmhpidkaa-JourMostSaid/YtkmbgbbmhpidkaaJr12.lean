/-
  Many sectors at once: rows of writes that lie off a disk; what the law knows of a commit.
-/
import Derived.Test.YtkmbgbbmhpidkaaJr11
import Derived.Test.YtkmbgbbmhpidkaaDev11
namespace Go.Proofs.Ytkmbgbbmhpidkaa
open Go.RowKit Go.Shelf
set_option linter.unusedVariables false
set_option linter.unusedSimpArgs false

/-- A row of writes with all blocks from B on. -/
structure RdWrG (B : Nat) (A : Option Addr) (c : Nat) (l : List Wr) (w : World) : Prop where
  rd : RdWr A c l w
  row : 0 < l.length → ∀ b o, A = some ⟨b, o, none⟩ → B ≤ b
  dat : ∀ j, j < l.length → 0 < (l.getD j default).d.length → ∀ b o, (l.getD j default).da = some ⟨b, o, none⟩ → B ≤ b
theorem cell_same {w w' : World} {b : Nat} (h : w'.heap[b]? = w.heap[b]?) (o : Nat) : w'.cell? ⟨b, o, none⟩ = w.cell? ⟨b, o, none⟩ := by simp only [World.cell?]; rw [h]
theorem RdWrG.off {B : Nat} {A : Option Addr} {c : Nat} {l : List Wr} {w : World} {F : Nat → Prop} (h : RdWrG B A c l w) (hF : ∀ k, F k → k < B) : OffF F (RdWr A c l) w := fun w' hs hk => by
  have hb : ∀ g, B ≤ g → g < w.heap.size → w'.heap[g]? = w.heap[g]? := fun g h1 h2 => hk g (fun h3 => by have := hF g h3; omega) h2
  refine ⟨h.rd.1, h.rd.2.1, fun j hj => ?_, fun hn => ?_⟩
  · have hr := h.rd.2.2.1 j hj
    refine ⟨hr.1, hr.2.1, fun hn => ?_⟩
    obtain ⟨b, off, e, hlt, hc⟩ := hr.2.2 hn
    exact ⟨b, off, e, by omega, fun i hi => (cell_same (hb b (h.dat j hj hn b off e) hlt) _).trans (hc i hi)⟩
  · obtain ⟨b, off, e, hlt, hc⟩ := h.rd.2.2.2 hn
    have hbb := hb b (h.row hn b off e) hlt
    exact ⟨b, off, e, by omega, fun j hj => ⟨(cell_same hbb _).trans (hc j hj).1, (cell_same hbb _).trans (hc j hj).2⟩⟩
def wrCells (x : Wr) : List Value := [.int .i64 x.at_, .slice x.da x.d.length x.dc]
theorem RdWrG.made {V : World} {B : Nat} (hB : B ≤ V.heap.size) (l : List Wr) (hl : ∀ x ∈ l, Rd .u8 V V.heap.size x.da x.dc x.d ∧ ∀ b o, x.da = some ⟨b, o, none⟩ → B ≤ b) (hn : l.length ≤ 1000) (cs : Array Value) (hcs : cs = (l.flatMap wrCells).toArray) (T : TypeId) (fr : Nat × Nat) :
    RdWrG B (some ⟨V.heap.size, 0, none⟩) l.length l (V.alloc (.cells cs T fr)) := by
  have hm : ∀ j, j < l.length → l.getD j default ∈ l := fun j hj => by
    rw [show l.getD j default = l[j] by simp [List.getD, hj]]
    exact List.getElem_mem hj
  refine ⟨⟨Nat.le_refl _, by omega, fun j hj => ((hl _ (hm j hj)).1.alloc (Nat.le_refl _) _).more (by simp), fun hn => ⟨V.heap.size, 0, rfl, by simp, fun j hj => ?_⟩⟩, fun _ b o e => by cases e; exact hB, fun j hj _ b o e => (hl _ (hm j hj)).2 b o e⟩
  have hx : l[j]? = some (l.getD j default) := by simp [List.getD, hj]
  have hc : ∀ i, (V.alloc (.cells cs T fr)).cell? ⟨V.heap.size, i, none⟩ = (l.flatMap wrCells)[i]? := fun i => by
    rw [cell_of_row _ _ _ _ T fr (heap_alloc_new V _), hcs, List.getElem?_toArray]
  have hf := fun i (hi : i < 2) => flat_at (f := wrCells) (m := 2) (L := l) (fun _ _ => rfl) (i := j) (j := i) hx hi
  refine ⟨?_, ?_⟩
  · rw [hc, show 0 + j * 2 = 2 * j + 0 by omega, hf 0 (by omega)]; rfl
  · rw [hc, show 0 + j * 2 + 1 = 2 * j + 1 by omega, hf 1 (by omega)]; rfl
def secX : List Nat := secOf [120]
def kS1 : Dk := (fresh 165).format.1
def kS2 : Dk := (kS1.commit [(3, secX)]).1
theorem kS_facts : (fresh 165).format.2 = 0 ∧ (kS1.commit [(3, secX)]).2 = 0 ∧ kS2.down = false ∧ kS2.many = 8 ∧ kS2.read 0 = apstB ∧ kS2.read 1 = zsec ∧ kS2.read (157 + 3) = secX ∧ kS1.waits.length ≤ 70000 ∧ kS1.ops ≤ 700000000 := by decide +kernel
end Go.Proofs.Ytkmbgbbmhpidkaa
