/-
  A name of texts of one byte each; the known one.
-/
import Derived.Test.YtgmipgofdclmiaaDoorDn2
namespace Go.Proofs.YtgmipgofdclmiaaDoor
open Go.RowKit
set_option linter.unusedVariables false

theorem str_size (b : List Nat) : (str b).size = b.length := by simp [str, ByteArray.size]
theorem conv_bytes (b : List Nat) (ho : Oct8 b) (hl : b.length ≤ 100000) : ∃ (cap : World → Nat) (o : World → Obj), (∀ W, (convert 9 29 (.string (str b))).run Tryd.prog W = .ok (.slice (some ⟨W.heap.size, 0, none⟩) b.length (cap W)) (W.drew.alloc (o W))) ∧
    ∀ W, Rd .u8 (W.drew.alloc (o W)) (W.heap.size + 1) (some ⟨W.heap.size, 0, none⟩) (cap W) b := by
  refine ⟨_, _, fun W => by rw [← str_size b]; exact run_bytes_of_string (P := Tryd.prog) W 9 29 5 (str b) Tryd.underlying9 Tryd.underlying29 Tryd.underlying5, fun W => ?_⟩
  have hg := grownCap_ge W (str b).size 0 5
  have hm := grownCap_le_maxLen W (str b).size 0 5 (by rw [str_size]; simp [maxLen]; omega)
  rw [str_size] at hg hm ⊢
  refine ⟨hg, by unfold maxLen at hm; exact hm, fun h0 => ⟨W.heap.size, 0, rfl, by omega, fun j hj => ?_⟩⟩
  rw [Nat.zero_add, cell_of_row (W.drew.alloc _) W.heap.size j _ 5 _ (heap_alloc_new W.drew _)]
  rw [bytesRow_at (str b) _ j (by simpa [str] using hj)]
  have hx := ho b[j] (List.getElem_mem hj)
  simp [str, List.getD, hj, Nat.mod_eq_of_lt hx]

theorem cell_same {w w' : World} {b : Nat} (h : w'.heap[b]? = w.heap[b]?) (o : Nat) : w'.cell? ⟨b, o, none⟩ = w.cell? ⟨b, o, none⟩ := by
  simp only [World.cell?]
  rw [h]

set_option maxRecDepth 100000 in
set_option maxHeartbeats 1000000 in
theorem text_one (w : World) (x : Nat) (hx : x < 128) :
    Calls Tryd.prog 20 #[.string (str [x])] w fun e w' => ∃ g c, e = .returned (.agg #[.int .u8 12, .slice (some ⟨g, 0, none⟩) 1 c, .slice none 0 0]) ∧ Rd .u8 w' w'.heap.size (some ⟨g, 0, none⟩) c [x] ∧ Below w.heap.size w w' := by
  obtain ⟨cap, o, hcv, hrd⟩ := conv_bytes [x] (fun y hy => by simp at hy; omega) (by simp)
  have HR := Lib.hid hrd
  have hcv1 : ∀ W, (convert 9 29 (.string (str [x]))).run Tryd.prog W = .ok (.slice (some ⟨W.heap.size, 0, none⟩) 1 (cap W)) (W.drew.alloc (o W)) := hcv
  clear hrd hcv
  have hbox := Holds.fresh w 32 #[.int .u8 0, .slice none 0 0, .slice none 0 0]
  have hbel : Below w.heap.size w (w.alloc (.cells #[.int .u8 0, .slice none 0 0, .slice none 0 0] 32)) := (Below.refl _ _).alloc (Nat.le_refl _) _
  go_enter Tryd.func20, Tryd.ntmps20
  generalize str [x] = s at *
  go_wp2_with fail
  have hsz : (w.alloc (.cells #[.int .u8 0, .slice none 0 0, .slice none 0 0] 32)).heap.size = w.heap.size + 1 := by simp
  have hR := HR.out (w.alloc (.cells #[.int .u8 0, .slice none 0 0, .slice none 0 0] 32))
  rw [hsz] at hR
  generalize cap (w.alloc (.cells #[.int .u8 0, .slice none 0 0, .slice none 0 0] 32)) = cp at *
  generalize o (w.alloc (.cells #[.int .u8 0, .slice none 0 0, .slice none 0 0] 32)) = ob at *
  have hb1 : Below w.heap.size w (w.alloc (.cells #[.int .u8 12, .slice (some ⟨w.heap.size + 1, 0, none⟩) 1 cp, .slice none 0 0] 32)) := (Below.refl _ _).alloc (Nat.le_refl _) _
  have hb2 := (hb1.alloc hb1.size ob).drew
  have hrow := (Holds.fresh w 32 #[.int .u8 12, .slice (some ⟨w.heap.size + 1, 0, none⟩) 1 cp, .slice none 0 0]).alloc ob
  have hR2 : Rd .u8 ((w.alloc (.cells #[.int .u8 12, .slice (some ⟨w.heap.size + 1, 0, none⟩) 1 cp, .slice none 0 0] 32)).alloc ob).drew (w.heap.size + 2) (some ⟨w.heap.size + 1, 0, none⟩) cp [x] := by
    have e1 := heap_alloc_new (w.alloc (.cells #[.int .u8 0, .slice none 0 0, .slice none 0 0] 32)).drew ob
    have e2 := heap_alloc_new (w.alloc (.cells #[.int .u8 12, .slice (some ⟨w.heap.size + 1, 0, none⟩) 1 cp, .slice none 0 0] 32)) ob
    have hsz2 : (w.alloc (.cells #[.int .u8 12, .slice (some ⟨w.heap.size + 1, 0, none⟩) 1 cp, .slice none 0 0] 32)).heap.size = w.heap.size + 1 := by simp
    have hsz3 : (w.alloc (.cells #[.int .u8 0, .slice none 0 0, .slice none 0 0] 32)).drew.heap.size = w.heap.size + 1 := hsz
    rw [hsz3] at e1
    rw [hsz2] at e2
    refine ⟨hR.1, hR.2.1, fun h0 => ?_⟩
    obtain ⟨b, off, e, hb, hc⟩ := hR.2.2 h0
    obtain ⟨rfl, rfl⟩ : w.heap.size + 1 = b ∧ 0 = off := by injection e with e; injection e with e3 e4; exact ⟨e3, e4⟩
    refine ⟨_, _, rfl, by omega, fun j hj => ?_⟩
    rw [← hc j hj]
    exact cell_same (e2.trans e1.symm) _
  have hc := hrow.drew.cell
  have hsz4 : ((w.alloc (.cells #[.int .u8 12, .slice (some ⟨w.heap.size + 1, 0, none⟩) 1 cp, .slice none 0 0] 32)).alloc ob).drew.heap.size = w.heap.size + 2 := by
    show ((w.alloc _).alloc ob).heap.size = _
    simp
  generalize ((w.alloc (.cells #[.int .u8 12, .slice (some ⟨w.heap.size + 1, 0, none⟩) 1 cp, .slice none 0 0] 32)).alloc ob).drew = W at *
  refine bodyPost_ret (v := .agg #[.int .u8 12, .slice (some ⟨w.heap.size + 1, 0, none⟩) 1 cp, .slice none 0 0]) (by simp [results, Tryd.results20, go_sem, hc]) rfl ?_
  exact ⟨_, cp, rfl, hR2.more (by omega), hb2⟩

theorem kind_yes (w : World) (k : Int) (hk : k = 3 ∨ k = 6 ∨ k = 10 ∨ k = 11) :
    Calls Tryd.prog 18 #[.int .i64 k] w fun e w' => e = .returned (.bool true) ∧ w = w' := by
  rcases hk with rfl | rfl | rfl | rfl
  all_goals
    go_enter Tryd.func18, Tryd.ntmps18
    go_wp2_with fail
    go_ret
    exact ⟨rfl, rfl⟩
end Go.Proofs.YtgmipgofdclmiaaDoor
