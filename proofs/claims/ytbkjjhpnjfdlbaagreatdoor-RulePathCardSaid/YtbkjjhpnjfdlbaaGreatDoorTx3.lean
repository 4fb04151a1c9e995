/-
  Text: is it one, by the document; a text's thing, by atom and by the document; a thing's text.
-/
import Derived.Test.YtbkjjhpnjfdlbaaGreatDoorTx2
import Derived.Test.YtbkjjhpnjfdlbaaGreatDoorU4
import Derived.Test.YtbkjjhpnjfdlbaaGreatDoorTh4
namespace Go.Proofs.YtbkjjhpnjfdlbaaGreatDoor
open Go.RowKit BigFrame
set_option linter.unusedVariables false
set_option linter.unusedSimpArgs false
attribute [local go_sem ↓] Go.wp_at_zero Go.wp_at_succ

/-- May it be a text? -/
def textOk (l : List Nat) : Bool := decide (l.length ≤ 64) && vd l
theorem str_list (l : List Nat) : (str l).data.toList = l.map UInt8.ofNat := by simp [str]
theorem str_extract (l : List Nat) (k : Nat) : (str l).extract k l.length = str (l.drop k) := by
  have h := Lib.ext_list (str l) k
  rw [str_len, str_list, ← List.map_drop] at h
  have e : ∀ a b : ByteArray, a.data.toList = b.data.toList → a = b := fun a b h => by
    cases a; cases b
    exact congrArg _ (Array.toList_inj.1 h)
  exact e _ _ (by rw [h, str_list])
theorem conv_bytes (b : List Nat) (ho : Oct8 b) (hl : b.length ≤ 9223372036854775807) : ∃ (cap : World → Nat) (o : World → Obj), (∀ W, (convert 9 22 (.string (str b))).run Tryz.prog W = .ok (.slice (some ⟨W.heap.size, 0, none⟩) b.length (cap W)) (W.drew.alloc (o W))) ∧
    ∀ W, Rd .u8 (W.drew.alloc (o W)) (W.heap.size + 1) (some ⟨W.heap.size, 0, none⟩) (cap W) b := by
  refine ⟨_, _, fun W => by rw [← str_len b]; exact run_bytes_of_string (P := Tryz.prog) W 9 22 5 (str b) Tryz.underlying9 Tryz.underlying22 Tryz.underlying5, fun W => ?_⟩
  have hg := grownCap_ge W (str b).size 0 5
  have hm := grownCap_le_maxLen W (str b).size 0 5 (by rw [str_len]; simp [maxLen]; omega)
  rw [str_len] at hg hm ⊢
  refine ⟨hg, by unfold maxLen at hm; exact hm, fun h0 => ⟨W.heap.size, 0, rfl, by omega, fun j hj => ?_⟩⟩
  rw [Nat.zero_add, cell_of_row (W.drew.alloc _) W.heap.size j _ 5 _ (heap_alloc_new W.drew _)]
  rw [bytesRow_at (str b) _ j (by simpa [str] using hj)]
  have hx := ho b[j] (List.getElem_mem hj)
  simp [str, List.getD, hj, Nat.mod_eq_of_lt hx]
theorem Off.of_new {k : IntKind} {xs : List Nat} {w : World} {B : Nat} {A : Option Addr} {c : Nat} {l : List Nat} (h : Rd k w B A c l) (hB : B ≤ w.heap.size) (hx : ∀ g, blk_of A = some g → g ∉ xs) : Off xs (fun w => Rd k w w.heap.size A c l) w := fun w' h2 h3 => by
  refine ⟨h.1, h.2.1, fun hn => ?_⟩
  obtain ⟨g, off, rfl, hlt, hc⟩ := h.2.2 hn
  refine ⟨g, off, rfl, by omega, fun j hj => ?_⟩
  simp only [World.cell?]
  rw [h3 g (hx g rfl) (by omega)]
  exact hc j hj
set_option maxRecDepth 100000 in
set_option maxHeartbeats 2000000 in
theorem text_any (w : World) (xs : List Nat) (l : List Nat) (ho : ∀ x ∈ l, x < 256) (hl : l.length ≤ 9223372036854775807) (hxs : ∀ x ∈ xs, x < w.heap.size) :
    Calls Tryz.prog 82 #[.string (str l)] w (MadeT w xs (.mk 12 l [])) := by
  obtain ⟨V, hV⟩ : ∃ V, V = w.alloc (.cells #[.int .u8 0, .slice none 0 0, .slice none 0 0] 31) := ⟨_, rfl⟩
  have hz : Holds V w.heap.size 31 #[.int .u8 0, .slice none 0 0, .slice none 0 0] := by rw [hV]; exact Holds.fresh _ _ _
  have HB0 : Hid (Below w.heap.size w V) := Lib.hid (by rw [hV]; exact (Below.refl _ _).alloc (Nat.le_refl _) _)
  have hVs : w.heap.size < V.heap.size := hz.lt
  obtain ⟨cap, o, hconv, hrd⟩ := conv_bytes l ho hl
  have hrun := hconv V
  have HR := Lib.hid (hrd V)
  have hz2 : Holds (V.drew.alloc (o V)) w.heap.size 31 #[.int .u8 0, .slice none 0 0, .slice none 0 0] := Holds.alloc (w := V.drew) hz (o V)
  have HQ2 : Hid (Below w.heap.size w (V.drew.alloc (o V))) := Lib.hid (HB0.out.drew.alloc HB0.out.size _)
  have HS2 : Hid (V.heap.size + 1 = (V.drew.alloc (o V)).heap.size) := Lib.hid (by simp)
  generalize hW2 : V.drew.alloc (o V) = W2 at *
  obtain ⟨G, hG⟩ : ∃ G, V.heap.size = G := ⟨_, rfl⟩
  obtain ⟨C, hC⟩ : ∃ C, cap V = C := ⟨_, rfl⟩
  rw [hG] at hrun HR HS2 hVs
  rw [hC] at hrun HR
  rw [hV] at hrun
  have z0 := hz2.cell 0
  have z1 := hz2.cell 1
  have z2 := hz2.cell 2
  have y0 := hz2.open_ 0
  have y1 := hz2.open_ 1
  have y2 := hz2.open_ 2
  have HV := Lib.hid hV
  have HO := Lib.hid ho
  clear hconv hrd hV ho hW2 hz hG hC HV
  go_enter Tryz.func82, Tryz.ntmps82
  go_wp2_with fail
  refine ret_one rfl rfl (((hz2.stored 0 _).stored 1 _).stored 2 _) rfl ?_
  refine ⟨.mk 12 (some ⟨G, 0, none⟩) C l none 0 [], rfl, rfl, made_out (off_body (Off.of_new HR.out (by rw [HS2.out]; exact Nat.le_refl _) fun g hg hx => ?_) (by omega) HO.out) _ _ _, below_out HQ2.out _ _ _⟩
  have hg' : G = g := by simpa [blk_of] using hg
  rcases List.mem_cons.1 hx with h2 | h2
  · omega
  · have := hxs g h2; omega
end Go.Proofs.YtbkjjhpnjfdlbaaGreatDoor
