/-
  The law of known digests.
-/
import Derived.Test.YtoggfooeeafadaaDoorSha11
import Derived.Deep.RegionLaw
import Derived.Deep.DrawnRows
import Derived.StillTailTactics
namespace Go.Proofs.YtoggfooeeafadaaDoor
open Go.RowKit
set_option linter.unusedVariables false
attribute [local go_sem ↓] Go.wp_at_zero Go.wp_at_succ

theorem dig_none : digest [] = [227, 176, 196, 66, 152, 252, 28, 20, 154, 251, 244, 200, 153, 111, 185, 36, 39, 174, 65, 228, 100, 155, 147, 76, 164, 149, 153, 27, 120, 82, 184, 85] := by decide +kernel
theorem dig_long : digest [97, 98, 99, 100, 98, 99, 100, 101, 99, 100, 101, 102, 100, 101, 102, 103, 101, 102, 103, 104, 102, 103, 104, 105, 103, 104, 105, 106, 104, 105, 106, 107, 105, 106, 107, 108, 106, 107, 108, 109, 107, 108, 109, 110, 108, 109, 110, 111, 109, 110, 111, 112, 110, 111, 112, 113] = [36, 141, 106, 97, 210, 6, 56, 184, 229, 192, 38, 147, 12, 62, 96, 57, 163, 60, 228, 89, 100, 255, 33, 103, 246, 236, 237, 212, 25, 219, 6, 193] := by decide +kernel
theorem str_size (b : List Nat) : (str b).size = b.length := by simp [str, ByteArray.size]
theorem conv_bytes (b : List Nat) (ho : ∀ x ∈ b, x < 256) (hl : b.length ≤ 100000) : ∃ (cap : World → Nat) (o : World → Obj), (∀ W, (convert 9 22 (.string (str b))).run Tryd.prog W = .ok (.slice (some ⟨W.heap.size, 0, none⟩) b.length (cap W)) (W.drew.alloc (o W))) ∧
    ∀ W, Rd .u8 (W.drew.alloc (o W)) (W.heap.size + 1) (some ⟨W.heap.size, 0, none⟩) (cap W) b := by
  refine ⟨_, _, fun W => by rw [← str_size b]; exact run_bytes_of_string (P := Tryd.prog) W 9 22 5 (str b) Tryd.underlying9 Tryd.underlying22 Tryd.underlying5, fun W => ?_⟩
  have hg := grownCap_ge W (str b).size 0 5
  have hm := grownCap_le_maxLen W (str b).size 0 5 (by rw [str_size]; simp [maxLen]; omega)
  rw [str_size] at hg hm ⊢
  refine ⟨hg, by unfold maxLen at hm; exact hm, fun h0 => ⟨W.heap.size, 0, rfl, by omega, fun j hj => ?_⟩⟩
  rw [Nat.zero_add, cell_of_row (W.drew.alloc _) W.heap.size j _ 5 _ (heap_alloc_new W.drew _)]
  rw [bytesRow_at (str b) _ j (by simpa [str] using hj)]
  have hx := ho b[j] (List.getElem_mem hj)
  simp [str, List.getD, hj, Nat.mod_eq_of_lt hx]

set_option maxRecDepth 100000 in
set_option maxHeartbeats 1000000 in
theorem law_known_at (w : World) (k : Nat) (hk2 : k < 2) (b : List Nat) (h1 : (#[.string ⟨#[]⟩, .string ⟨#[97, 98, 99, 100, 98, 99, 100, 101, 99, 100, 101, 102, 100, 101, 102, 103, 101, 102, 103, 104, 102, 103, 104, 105, 103, 104, 105, 106, 104, 105, 106, 107, 105, 106, 107, 108, 106, 107, 108, 109, 107, 108, 109, 110, 108, 109, 110, 111, 109, 110, 111, 112, 110, 111, 112, 113]⟩] : Array Value)[k]? = some (.string (str b))) (h2 : (#[.string ⟨#[227, 176, 196, 66, 152, 252, 28, 20, 154, 251, 244, 200, 153, 111, 185, 36, 39, 174, 65, 228, 100, 155, 147, 76, 164, 149, 153, 27, 120, 82, 184, 85]⟩, .string ⟨#[36, 141, 106, 97, 210, 6, 56, 184, 229, 192, 38, 147, 12, 62, 96, 57, 163, 60, 228, 89, 100, 255, 33, 103, 246, 236, 237, 212, 25, 219, 6, 193]⟩] : Array Value)[k]? = some (.string (str (digest b)))) (hob : ∀ x ∈ b, x < 256) (hlb : b.length ≤ 100000) (hk : KMet w) :
    Calls Tryd.prog 6 #[.int .i64 (k : Int)] w fun e w' => e = .returned (.bool true) ∧ Below w.heap.size w w' := by
  obtain ⟨N, hN⟩ : ∃ N, b.length = N := ⟨_, rfl⟩
  obtain ⟨cap, o, hcv, hrd⟩ := conv_bytes b hob hlb
  rw [hN] at hcv hlb
  have HCV := Lib.hid hcv
  have HRD := Lib.hid hrd
  have HOB := Lib.hid (oct6_of hob)
  have HN := Lib.hid hN
  have hB1 : Hid (Holds ((w.alloc (.cells #[.string ⟨#[]⟩, .string ⟨#[97, 98, 99, 100, 98, 99, 100, 101, 99, 100, 101, 102, 100, 101, 102, 103, 101, 102, 103, 104, 102, 103, 104, 105, 103, 104, 105, 106, 104, 105, 106, 107, 105, 106, 107, 108, 106, 107, 108, 109, 107, 108, 109, 110, 108, 109, 110, 111, 109, 110, 111, 112, 110, 111, 112, 113]⟩] 9)).alloc (.cells #[.string ⟨#[227, 176, 196, 66, 152, 252, 28, 20, 154, 251, 244, 200, 153, 111, 185, 36, 39, 174, 65, 228, 100, 155, 147, 76, 164, 149, 153, 27, 120, 82, 184, 85]⟩, .string ⟨#[36, 141, 106, 97, 210, 6, 56, 184, 229, 192, 38, 147, 12, 62, 96, 57, 163, 60, 228, 89, 100, 255, 33, 103, 246, 236, 237, 212, 25, 219, 6, 193]⟩] 9)) w.heap.size 9 #[.string ⟨#[]⟩, .string ⟨#[97, 98, 99, 100, 98, 99, 100, 101, 99, 100, 101, 102, 100, 101, 102, 103, 101, 102, 103, 104, 102, 103, 104, 105, 103, 104, 105, 106, 104, 105, 106, 107, 105, 106, 107, 108, 106, 107, 108, 109, 107, 108, 109, 110, 108, 109, 110, 111, 109, 110, 111, 112, 110, 111, 112, 113]⟩]) := Lib.hid ((Holds.fresh w _ _).alloc _)
  have hB2 : Hid (Holds ((w.alloc (.cells #[.string ⟨#[]⟩, .string ⟨#[97, 98, 99, 100, 98, 99, 100, 101, 99, 100, 101, 102, 100, 101, 102, 103, 101, 102, 103, 104, 102, 103, 104, 105, 103, 104, 105, 106, 104, 105, 106, 107, 105, 106, 107, 108, 106, 107, 108, 109, 107, 108, 109, 110, 108, 109, 110, 111, 109, 110, 111, 112, 110, 111, 112, 113]⟩] 9)).alloc (.cells #[.string ⟨#[227, 176, 196, 66, 152, 252, 28, 20, 154, 251, 244, 200, 153, 111, 185, 36, 39, 174, 65, 228, 100, 155, 147, 76, 164, 149, 153, 27, 120, 82, 184, 85]⟩, .string ⟨#[36, 141, 106, 97, 210, 6, 56, 184, 229, 192, 38, 147, 12, 62, 96, 57, 163, 60, 228, 89, 100, 255, 33, 103, 246, 236, 237, 212, 25, 219, 6, 193]⟩] 9)) (w.heap.size + 1) 9 #[.string ⟨#[227, 176, 196, 66, 152, 252, 28, 20, 154, 251, 244, 200, 153, 111, 185, 36, 39, 174, 65, 228, 100, 155, 147, 76, 164, 149, 153, 27, 120, 82, 184, 85]⟩, .string ⟨#[36, 141, 106, 97, 210, 6, 56, 184, 229, 192, 38, 147, 12, 62, 96, 57, 163, 60, 228, 89, 100, 255, 33, 103, 246, 236, 237, 212, 25, 219, 6, 193]⟩]) := Lib.hid (by simpa using Holds.fresh (w.alloc (.cells #[.string ⟨#[]⟩, .string ⟨#[97, 98, 99, 100, 98, 99, 100, 101, 99, 100, 101, 102, 100, 101, 102, 103, 101, 102, 103, 104, 102, 103, 104, 105, 103, 104, 105, 106, 104, 105, 106, 107, 105, 106, 107, 108, 106, 107, 108, 109, 107, 108, 109, 110, 108, 109, 110, 111, 109, 110, 111, 112, 110, 111, 112, 113]⟩] 9)) 9 #[.string ⟨#[227, 176, 196, 66, 152, 252, 28, 20, 154, 251, 244, 200, 153, 111, 185, 36, 39, 174, 65, 228, 100, 155, 147, 76, 164, 149, 153, 27, 120, 82, 184, 85]⟩, .string ⟨#[36, 141, 106, 97, 210, 6, 56, 184, 229, 192, 38, 147, 12, 62, 96, 57, 163, 60, 228, 89, 100, 255, 33, 103, 246, 236, 237, 212, 25, 219, 6, 193]⟩])
  have hBW : Hid (Below w.heap.size w ((w.alloc (.cells #[.string ⟨#[]⟩, .string ⟨#[97, 98, 99, 100, 98, 99, 100, 101, 99, 100, 101, 102, 100, 101, 102, 103, 101, 102, 103, 104, 102, 103, 104, 105, 103, 104, 105, 106, 104, 105, 106, 107, 105, 106, 107, 108, 106, 107, 108, 109, 107, 108, 109, 110, 108, 109, 110, 111, 109, 110, 111, 112, 110, 111, 112, 113]⟩] 9)).alloc (.cells #[.string ⟨#[227, 176, 196, 66, 152, 252, 28, 20, 154, 251, 244, 200, 153, 111, 185, 36, 39, 174, 65, 228, 100, 155, 147, 76, 164, 149, 153, 27, 120, 82, 184, 85]⟩, .string ⟨#[36, 141, 106, 97, 210, 6, 56, 184, 229, 192, 38, 147, 12, 62, 96, 57, 163, 60, 228, 89, 100, 255, 33, 103, 246, 236, 237, 212, 25, 219, 6, 193]⟩] 9))) := Lib.hid (((Below.refl _ _).alloc (Nat.le_refl _) _).alloc (by simp) _)
  have H1 := Lib.hid h1
  have H2 := Lib.hid h2
  have HK := Lib.hid hk
  have hkI : (k : Int) < 2 := by omega
  have hk0 : (0 : Int) ≤ (k : Int) := by omega
  clear h1 h2 hob hk hcv hrd hN
  go_enter Tryd.func6, Tryd.ntmps6
  go_wp2_with fail
  generalize (w.alloc (.cells #[.string ⟨#[]⟩, .string ⟨#[97, 98, 99, 100, 98, 99, 100, 101, 99, 100, 101, 102, 100, 101, 102, 103, 101, 102, 103, 104, 102, 103, 104, 105, 103, 104, 105, 106, 104, 105, 106, 107, 105, 106, 107, 108, 106, 107, 108, 109, 107, 108, 109, 110, 108, 109, 110, 111, 109, 110, 111, 112, 110, 111, 112, 113]⟩] 9)).alloc (.cells #[.string ⟨#[227, 176, 196, 66, 152, 252, 28, 20, 154, 251, 244, 200, 153, 111, 185, 36, 39, 174, 65, 228, 100, 155, 147, 76, 164, 149, 153, 27, 120, 82, 184, 85]⟩, .string ⟨#[36, 141, 106, 97, 210, 6, 56, 184, 229, 192, 38, 147, 12, 62, 96, 57, 163, 60, 228, 89, 100, 255, 33, 103, 246, 236, 237, 212, 25, 219, 6, 193]⟩] 9) = W at *
  have hc1 : W.cell? ⟨w.heap.size, k, none⟩ = some (.string (str b)) := (hB1.out.cell k).trans H1.out
  have hc2 : W.cell? ⟨w.heap.size + 1, k, none⟩ = some (.string (str (digest b))) := (hB2.out.cell k).trans H2.out
  have hc3 : ∀ o, (W.alloc o).cell? ⟨w.heap.size + 1, k, none⟩ = some (.string (str (digest b))) := fun o => ((hB2.out.alloc o).cell k).trans H2.out
  have hc4 : ∀ o o', ((W.alloc o).alloc o').cell? ⟨w.heap.size + 1, k, none⟩ = some (.string (str (digest b))) := fun o o' => (((hB2.out.alloc o).alloc o').cell k).trans H2.out
  have hgW := Holds.lt hB2.out
  have HGW := Lib.hid hgW
  have hconv := HCV.out
  clear hgW
  have hbA : Below W.heap.size W (W.drew.drew.alloc (o W.drew)) := (Below.refl _ _).drew.drew.alloc (Nat.le_refl _) _
  have hKA := (HK.out.under hBW.out).under hbA
  have hs1 : (W.drew.drew.alloc (o W.drew)).heap.size = W.heap.size + 1 := by simp
  have HC := Lib.hid (of_one (W.drew.drew.alloc (o W.drew)) (some ⟨W.heap.size, 0, none⟩) (cap W.drew) N b HN.out (by rw [hs1]; exact HRD.out W.drew) HOB.out hlb hKA)
  rw [hs1] at HC
  have HBA := Lib.hid hbA
  have HKA := Lib.hid hKA
  clear hbA hKA hs1
  have HC4 := Lib.hid hc4
  have hW2 : (W.drew.drew.alloc (o W.drew)).heap.size = W.heap.size + 1 := by simp
  have HW2 := Lib.hid hW2
  clear hW2
  go_region_law (first
    | (go_simp; go_at_call 7; refine HC.out.mono ?_; intro e w2 hp; obtain ⟨A1, c1, rfl, hr2, hb2⟩ := hp; have hs := conv_str hr2 (digest_length _) (digest_oct _);
        have hcW : w2.cell? ⟨w.heap.size + 1, k, none⟩ = some (.string (str (digest b))) := (hb2.cell (p := ⟨w.heap.size + 1, k, none⟩) (by show w.heap.size + 1 < _; have := HGW.out; omega)).trans (HC4.out _ _);
        have hb0 : Below (W.drew.drew.alloc (o W.drew)).heap.size (W.drew.drew.alloc (o W.drew)) w2 := ((Below.refl _ _).alloc (Nat.le_refl _) _).trans (hb2.mono (by rw [HW2.out]; exact Nat.le_succ _));
        have HKW := Lib.hid (HKA.out.under hb0); have HBT := Lib.hid (hBW.out.trans ((HBA.out.trans (hb0.mono HBA.out.size)).mono hBW.out.size)); clear hr2 hb2 hb0; go_simp)
    | (go_simp; go_at_call 9; refine (known6_any _ HKW.out).mono ?_; intro e w3 hp; obtain ⟨rfl, hb3⟩ := hp; have HB3 := Lib.hid hb3; clear hb3; go_simp))
  all_goals
    clear HC HC4 hc1 hc2 hc3 hc4 hconv
    go_wp2_with fail
    go_ret
    exact ⟨rfl, HBT.out.trans (HB3.out.mono HBT.out.size)⟩
set_option maxRecDepth 100000 in
set_option maxHeartbeats 1000000 in
theorem law_known (w : World) (way : Int) (hk : KMet w) :
    Calls Tryd.prog 6 #[.int .i64 way] w fun e w' => e = .returned (.bool true) ∧ Below w.heap.size w w' := by
  by_cases h1 : way < 0
  · go_enter Tryd.func6, Tryd.ntmps6
    go_wp2_with fail
    go_ret
    exact ⟨rfl, ((Below.refl _ _).alloc (Nat.le_refl _) _).alloc (by simp) _⟩
  by_cases h2 : 2 ≤ way
  · go_enter Tryd.func6, Tryd.ntmps6
    go_wp2_with fail
    go_ret
    exact ⟨rfl, ((Below.refl _ _).alloc (Nat.le_refl _) _).alloc (by simp) _⟩
  rcases (by omega : way = ((0 : Nat) : Int) ∨ way = ((1 : Nat) : Int)) with rfl | rfl
  · exact law_known_at w 0 (by omega) [] rfl (by rw [dig_none]; rfl) (by decide) (by decide) hk
  · exact law_known_at w 1 (by omega) [97, 98, 99, 100, 98, 99, 100, 101, 99, 100, 101, 102, 100, 101, 102, 103, 101, 102, 103, 104, 102, 103, 104, 105, 103, 104, 105, 106, 104, 105, 106, 107, 105, 106, 107, 108, 106, 107, 108, 109, 107, 108, 109, 110, 108, 109, 110, 111, 109, 110, 111, 112, 110, 111, 112, 113] rfl (by rw [dig_long]; rfl) (by decide) (by decide) hk
end Go.Proofs.YtoggfooeeafadaaDoor
