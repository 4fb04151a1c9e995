/-
  Bytes that are none, by hand (statement TlvOdd): the law's walk.
-/
import Derived.Test.YtlggbkacaemdjaaTlv21
namespace Go.Proofs.Ytlggbkacaemdjaa
open Go.RowKit
set_option linter.unusedVariables false
set_option linter.unusedSimpArgs false

theorem str_size (b : List Nat) : (str b).size = b.length := by simp [str, ByteArray.size]
theorem conv_bytes (b : List Nat) (ho : Oct8 b) (hl : b.length ≤ 100000) : ∃ (cap : World → Nat) (o : World → Obj), (∀ W, (convert 9 22 (.string (str b))).run Try.prog W = .ok (.slice (some ⟨W.heap.size, 0, none⟩) b.length (cap W)) (W.drew.alloc (o W))) ∧
    ∀ W, Rd .u8 (W.drew.alloc (o W)) (W.heap.size + 1) (some ⟨W.heap.size, 0, none⟩) (cap W) b := by
  refine ⟨_, _, fun W => by rw [← str_size b]; exact run_bytes_of_string (P := Try.prog) W 9 22 5 (str b) Try.underlying9 Try.underlying22 Try.underlying5, fun W => ?_⟩
  have hg := grownCap_ge W (str b).size 0 5
  have hm := grownCap_le_maxLen W (str b).size 0 5 (by rw [str_size]; simp [maxLen]; omega)
  rw [str_size] at hg hm ⊢
  refine ⟨hg, by unfold maxLen at hm; exact hm, fun h0 => ⟨W.heap.size, 0, rfl, by omega, fun j hj => ?_⟩⟩
  rw [Nat.zero_add, cell_of_row (W.drew.alloc _) W.heap.size j _ 5 _ (heap_alloc_new W.drew _)]
  rw [bytesRow_at (str b) _ j (by simpa [str] using hj)]
  have hx := ho b[j] (List.getElem_mem hj)
  simp [str, List.getD, hj, Nat.mod_eq_of_lt hx]
def oddL : List (List Nat) := [[], [0, 0], [31, 0], [5], [5, 128], [5, 129, 5, 97, 98, 99, 100, 101], [5, 130, 0, 129], [5, 1], [5, 0, 0], [48, 2, 5, 1], [48, 1, 5], [48, 3, 2, 1], [5, 255], [5, 132, 255, 255, 255, 255], [5, 0], [48, 0], [63, 0]]
def code : Except Nat Tr → Nat
  | .error x => x
  | .ok _ => 0
theorem read_code {w w' : World} {r : Except Nat Tr} {e : Ending} (h : ReadPost w r e w') : ∃ (t0 : Int) (t1 : Option Addr) (t2 t3 : Nat) (t4 : Option Addr) (t5 t6 : Nat), e = .returned (.tuple #[.agg #[.int .u8 t0, .slice t1 t2 t3, .slice t4 t5 t6], .int .i64 (code r : Int)]) ∧ Below w.heap.size w w' := by
  rcases r with x | t
  · exact ⟨0, none, 0, 0, none, 0, 0, h.1, h.2⟩
  · obtain ⟨lt, rfl, _, _, hb⟩ := h
    exact ⟨lt.tag, lt.ba, lt.body.length, lt.bc, lt.ka, lt.kids.length, lt.kc, rfl, hb⟩
theorem odd_is (k : Nat) (hk : k < 17) : ∃ b, (#[.string ⟨#[]⟩, .string ⟨#[0, 0]⟩, .string ⟨#[31, 0]⟩, .string ⟨#[5]⟩, .string ⟨#[5, 128]⟩, .string ⟨#[5, 129, 5, 97, 98, 99, 100, 101]⟩, .string ⟨#[5, 130, 0, 129]⟩, .string ⟨#[5, 1]⟩, .string ⟨#[5, 0, 0]⟩, .string ⟨#[48, 2, 5, 1]⟩, .string ⟨#[48, 1, 5]⟩, .string ⟨#[48, 3, 2, 1]⟩, .string ⟨#[5, 255]⟩, .string ⟨#[5, 132, 255, 255, 255, 255]⟩, .string ⟨#[5, 0]⟩, .string ⟨#[48, 0]⟩, .string ⟨#[63, 0]⟩] : Array Value)[k]? = some (.string (str b)) ∧ Oct8 b ∧ b.length ≤ 8 ∧ code (readT b) = if k = 14 ∨ k = 15 then 0 else 2 := by
  have : k = 0 ∨ k = 1 ∨ k = 2 ∨ k = 3 ∨ k = 4 ∨ k = 5 ∨ k = 6 ∨ k = 7 ∨ k = 8 ∨ k = 9 ∨ k = 10 ∨ k = 11 ∨ k = 12 ∨ k = 13 ∨ k = 14 ∨ k = 15 ∨ k = 16 := by omega
  rcases this with rfl | rfl | rfl | rfl | rfl | rfl | rfl | rfl | rfl | rfl | rfl | rfl | rfl | rfl | rfl | rfl | rfl
  · exact ⟨[], rfl, by intro x hx; (simp at hx) <;> omega, by simp, by simp [code, readT, rd, rds, lenOf, tagOk, parted, big]⟩
  · exact ⟨[0, 0], rfl, by intro x hx; (simp at hx) <;> omega, by simp, by simp [code, readT, rd, rds, lenOf, tagOk, parted, big]⟩
  · exact ⟨[31, 0], rfl, by intro x hx; (simp at hx) <;> omega, by simp, by simp [code, readT, rd, rds, lenOf, tagOk, parted, big]⟩
  · exact ⟨[5], rfl, by intro x hx; (simp at hx) <;> omega, by simp, by simp [code, readT, rd, rds, lenOf, tagOk, parted, big]⟩
  · exact ⟨[5, 128], rfl, by intro x hx; (simp at hx) <;> omega, by simp, by simp [code, readT, rd, rds, lenOf, tagOk, parted, big]⟩
  · exact ⟨[5, 129, 5, 97, 98, 99, 100, 101], rfl, by intro x hx; (simp at hx) <;> omega, by simp, by simp [code, readT, rd, rds, lenOf, tagOk, parted, big]⟩
  · exact ⟨[5, 130, 0, 129], rfl, by intro x hx; (simp at hx) <;> omega, by simp, by simp [code, readT, rd, rds, lenOf, tagOk, parted, big]⟩
  · exact ⟨[5, 1], rfl, by intro x hx; (simp at hx) <;> omega, by simp, by simp [code, readT, rd, rds, lenOf, tagOk, parted, big]⟩
  · exact ⟨[5, 0, 0], rfl, by intro x hx; (simp at hx) <;> omega, by simp, by simp [code, readT, rd, rds, lenOf, tagOk, parted, big]⟩
  · exact ⟨[48, 2, 5, 1], rfl, by intro x hx; (simp at hx) <;> omega, by simp, by simp [code, readT, rd, rds, lenOf, tagOk, parted, big]⟩
  · exact ⟨[48, 1, 5], rfl, by intro x hx; (simp at hx) <;> omega, by simp, by simp [code, readT, rd, rds, lenOf, tagOk, parted, big]⟩
  · exact ⟨[48, 3, 2, 1], rfl, by intro x hx; (simp at hx) <;> omega, by simp, by simp [code, readT, rd, rds, lenOf, tagOk, parted, big]⟩
  · exact ⟨[5, 255], rfl, by intro x hx; (simp at hx) <;> omega, by simp, by simp [code, readT, rd, rds, lenOf, tagOk, parted, big]⟩
  · exact ⟨[5, 132, 255, 255, 255, 255], rfl, by intro x hx; (simp at hx) <;> omega, by simp, by simp [code, readT, rd, rds, lenOf, tagOk, parted, big]⟩
  · exact ⟨[5, 0], rfl, by intro x hx; (simp at hx) <;> omega, by simp, by simp [code, readT, rd, rds, lenOf, tagOk, parted, big]⟩
  · exact ⟨[48, 0], rfl, by intro x hx; (simp at hx) <;> omega, by simp, by simp [code, readT, rd, rds, lenOf, tagOk, parted, big]⟩
  · exact ⟨[63, 0], rfl, by intro x hx; (simp at hx) <;> omega, by simp, by simp [code, readT, rd, rds, lenOf, tagOk, parted, big]⟩
set_option maxRecDepth 100000 in
set_option maxHeartbeats 8000000 in
theorem odd_yes (w : World) (k : Nat) (hk : k < 17) :
    Calls Try.prog 7 #[.int .i64 k] w fun e w' => e = .returned (.bool true) ∧ Below w.heap.size w w' := by
  obtain ⟨b, hb, ho, hl, hcode⟩ := odd_is k hk
  obtain ⟨cap, o, hcv, hrd⟩ := conv_bytes b ho (by omega)
  obtain ⟨N, hN⟩ : ∃ N, b.length = N := ⟨_, rfl⟩
  have hcv1 := hcv (w.alloc (.cells #[.string ⟨#[]⟩, .string ⟨#[0, 0]⟩, .string ⟨#[31, 0]⟩, .string ⟨#[5]⟩, .string ⟨#[5, 128]⟩, .string ⟨#[5, 129, 5, 97, 98, 99, 100, 101]⟩, .string ⟨#[5, 130, 0, 129]⟩, .string ⟨#[5, 1]⟩, .string ⟨#[5, 0, 0]⟩, .string ⟨#[48, 2, 5, 1]⟩, .string ⟨#[48, 1, 5]⟩, .string ⟨#[48, 3, 2, 1]⟩, .string ⟨#[5, 255]⟩, .string ⟨#[5, 132, 255, 255, 255, 255]⟩, .string ⟨#[5, 0]⟩, .string ⟨#[48, 0]⟩, .string ⟨#[63, 0]⟩] 9))
  have hrd1 := hrd (w.alloc (.cells #[.string ⟨#[]⟩, .string ⟨#[0, 0]⟩, .string ⟨#[31, 0]⟩, .string ⟨#[5]⟩, .string ⟨#[5, 128]⟩, .string ⟨#[5, 129, 5, 97, 98, 99, 100, 101]⟩, .string ⟨#[5, 130, 0, 129]⟩, .string ⟨#[5, 1]⟩, .string ⟨#[5, 0, 0]⟩, .string ⟨#[48, 2, 5, 1]⟩, .string ⟨#[48, 1, 5]⟩, .string ⟨#[48, 3, 2, 1]⟩, .string ⟨#[5, 255]⟩, .string ⟨#[5, 132, 255, 255, 255, 255]⟩, .string ⟨#[5, 0]⟩, .string ⟨#[48, 0]⟩, .string ⟨#[63, 0]⟩] 9))
  have hs1 : ((w.alloc (.cells #[.string ⟨#[]⟩, .string ⟨#[0, 0]⟩, .string ⟨#[31, 0]⟩, .string ⟨#[5]⟩, .string ⟨#[5, 128]⟩, .string ⟨#[5, 129, 5, 97, 98, 99, 100, 101]⟩, .string ⟨#[5, 130, 0, 129]⟩, .string ⟨#[5, 1]⟩, .string ⟨#[5, 0, 0]⟩, .string ⟨#[48, 2, 5, 1]⟩, .string ⟨#[48, 1, 5]⟩, .string ⟨#[48, 3, 2, 1]⟩, .string ⟨#[5, 255]⟩, .string ⟨#[5, 132, 255, 255, 255, 255]⟩, .string ⟨#[5, 0]⟩, .string ⟨#[48, 0]⟩, .string ⟨#[63, 0]⟩] 9))).heap.size = w.heap.size + 1 := by simp
  rw [hs1, hN] at hcv1
  rw [hs1] at hrd1
  have hbw : Below w.heap.size w (((w.alloc (.cells #[.string ⟨#[]⟩, .string ⟨#[0, 0]⟩, .string ⟨#[31, 0]⟩, .string ⟨#[5]⟩, .string ⟨#[5, 128]⟩, .string ⟨#[5, 129, 5, 97, 98, 99, 100, 101]⟩, .string ⟨#[5, 130, 0, 129]⟩, .string ⟨#[5, 1]⟩, .string ⟨#[5, 0, 0]⟩, .string ⟨#[48, 2, 5, 1]⟩, .string ⟨#[48, 1, 5]⟩, .string ⟨#[48, 3, 2, 1]⟩, .string ⟨#[5, 255]⟩, .string ⟨#[5, 132, 255, 255, 255, 255]⟩, .string ⟨#[5, 0]⟩, .string ⟨#[48, 0]⟩, .string ⟨#[63, 0]⟩] 9))).drew.alloc (o (w.alloc (.cells #[.string ⟨#[]⟩, .string ⟨#[0, 0]⟩, .string ⟨#[31, 0]⟩, .string ⟨#[5]⟩, .string ⟨#[5, 128]⟩, .string ⟨#[5, 129, 5, 97, 98, 99, 100, 101]⟩, .string ⟨#[5, 130, 0, 129]⟩, .string ⟨#[5, 1]⟩, .string ⟨#[5, 0, 0]⟩, .string ⟨#[48, 2, 5, 1]⟩, .string ⟨#[48, 1, 5]⟩, .string ⟨#[48, 3, 2, 1]⟩, .string ⟨#[5, 255]⟩, .string ⟨#[5, 132, 255, 255, 255, 255]⟩, .string ⟨#[5, 0]⟩, .string ⟨#[48, 0]⟩, .string ⟨#[63, 0]⟩] 9)))) := (((Below.refl _ _).alloc (Nat.le_refl _) _).drew).alloc (by show w.heap.size ≤ ((w.alloc (.cells #[.string ⟨#[]⟩, .string ⟨#[0, 0]⟩, .string ⟨#[31, 0]⟩, .string ⟨#[5]⟩, .string ⟨#[5, 128]⟩, .string ⟨#[5, 129, 5, 97, 98, 99, 100, 101]⟩, .string ⟨#[5, 130, 0, 129]⟩, .string ⟨#[5, 1]⟩, .string ⟨#[5, 0, 0]⟩, .string ⟨#[48, 2, 5, 1]⟩, .string ⟨#[48, 1, 5]⟩, .string ⟨#[48, 3, 2, 1]⟩, .string ⟨#[5, 255]⟩, .string ⟨#[5, 132, 255, 255, 255, 255]⟩, .string ⟨#[5, 0]⟩, .string ⟨#[48, 0]⟩, .string ⟨#[63, 0]⟩] 9))).heap.size; rw [hs1]; omega) _
  have hs2 : (((w.alloc (.cells #[.string ⟨#[]⟩, .string ⟨#[0, 0]⟩, .string ⟨#[31, 0]⟩, .string ⟨#[5]⟩, .string ⟨#[5, 128]⟩, .string ⟨#[5, 129, 5, 97, 98, 99, 100, 101]⟩, .string ⟨#[5, 130, 0, 129]⟩, .string ⟨#[5, 1]⟩, .string ⟨#[5, 0, 0]⟩, .string ⟨#[48, 2, 5, 1]⟩, .string ⟨#[48, 1, 5]⟩, .string ⟨#[48, 3, 2, 1]⟩, .string ⟨#[5, 255]⟩, .string ⟨#[5, 132, 255, 255, 255, 255]⟩, .string ⟨#[5, 0]⟩, .string ⟨#[48, 0]⟩, .string ⟨#[63, 0]⟩] 9))).drew.alloc (o (w.alloc (.cells #[.string ⟨#[]⟩, .string ⟨#[0, 0]⟩, .string ⟨#[31, 0]⟩, .string ⟨#[5]⟩, .string ⟨#[5, 128]⟩, .string ⟨#[5, 129, 5, 97, 98, 99, 100, 101]⟩, .string ⟨#[5, 130, 0, 129]⟩, .string ⟨#[5, 1]⟩, .string ⟨#[5, 0, 0]⟩, .string ⟨#[48, 2, 5, 1]⟩, .string ⟨#[48, 1, 5]⟩, .string ⟨#[48, 3, 2, 1]⟩, .string ⟨#[5, 255]⟩, .string ⟨#[5, 132, 255, 255, 255, 255]⟩, .string ⟨#[5, 0]⟩, .string ⟨#[48, 0]⟩, .string ⟨#[63, 0]⟩] 9)))).heap.size = w.heap.size + 2 := by
    show (((w.alloc (.cells #[.string ⟨#[]⟩, .string ⟨#[0, 0]⟩, .string ⟨#[31, 0]⟩, .string ⟨#[5]⟩, .string ⟨#[5, 128]⟩, .string ⟨#[5, 129, 5, 97, 98, 99, 100, 101]⟩, .string ⟨#[5, 130, 0, 129]⟩, .string ⟨#[5, 1]⟩, .string ⟨#[5, 0, 0]⟩, .string ⟨#[48, 2, 5, 1]⟩, .string ⟨#[48, 1, 5]⟩, .string ⟨#[48, 3, 2, 1]⟩, .string ⟨#[5, 255]⟩, .string ⟨#[5, 132, 255, 255, 255, 255]⟩, .string ⟨#[5, 0]⟩, .string ⟨#[48, 0]⟩, .string ⟨#[63, 0]⟩] 9))).heap.push _).size = _
    rw [Array.size_push, hs1]
  generalize (((w.alloc (.cells #[.string ⟨#[]⟩, .string ⟨#[0, 0]⟩, .string ⟨#[31, 0]⟩, .string ⟨#[5]⟩, .string ⟨#[5, 128]⟩, .string ⟨#[5, 129, 5, 97, 98, 99, 100, 101]⟩, .string ⟨#[5, 130, 0, 129]⟩, .string ⟨#[5, 1]⟩, .string ⟨#[5, 0, 0]⟩, .string ⟨#[48, 2, 5, 1]⟩, .string ⟨#[48, 1, 5]⟩, .string ⟨#[48, 3, 2, 1]⟩, .string ⟨#[5, 255]⟩, .string ⟨#[5, 132, 255, 255, 255, 255]⟩, .string ⟨#[5, 0]⟩, .string ⟨#[48, 0]⟩, .string ⟨#[63, 0]⟩] 9))).drew.alloc (o (w.alloc (.cells #[.string ⟨#[]⟩, .string ⟨#[0, 0]⟩, .string ⟨#[31, 0]⟩, .string ⟨#[5]⟩, .string ⟨#[5, 128]⟩, .string ⟨#[5, 129, 5, 97, 98, 99, 100, 101]⟩, .string ⟨#[5, 130, 0, 129]⟩, .string ⟨#[5, 1]⟩, .string ⟨#[5, 0, 0]⟩, .string ⟨#[48, 2, 5, 1]⟩, .string ⟨#[48, 1, 5]⟩, .string ⟨#[48, 3, 2, 1]⟩, .string ⟨#[5, 255]⟩, .string ⟨#[5, 132, 255, 255, 255, 255]⟩, .string ⟨#[5, 0]⟩, .string ⟨#[48, 0]⟩, .string ⟨#[63, 0]⟩] 9)))) = V2 at *
  generalize cap (w.alloc (.cells #[.string ⟨#[]⟩, .string ⟨#[0, 0]⟩, .string ⟨#[31, 0]⟩, .string ⟨#[5]⟩, .string ⟨#[5, 128]⟩, .string ⟨#[5, 129, 5, 97, 98, 99, 100, 101]⟩, .string ⟨#[5, 130, 0, 129]⟩, .string ⟨#[5, 1]⟩, .string ⟨#[5, 0, 0]⟩, .string ⟨#[48, 2, 5, 1]⟩, .string ⟨#[48, 1, 5]⟩, .string ⟨#[48, 3, 2, 1]⟩, .string ⟨#[5, 255]⟩, .string ⟨#[5, 132, 255, 255, 255, 255]⟩, .string ⟨#[5, 0]⟩, .string ⟨#[48, 0]⟩, .string ⟨#[63, 0]⟩] 9)) = C at *
  have hc : ((w.alloc (.cells #[.string ⟨#[]⟩, .string ⟨#[0, 0]⟩, .string ⟨#[31, 0]⟩, .string ⟨#[5]⟩, .string ⟨#[5, 128]⟩, .string ⟨#[5, 129, 5, 97, 98, 99, 100, 101]⟩, .string ⟨#[5, 130, 0, 129]⟩, .string ⟨#[5, 1]⟩, .string ⟨#[5, 0, 0]⟩, .string ⟨#[48, 2, 5, 1]⟩, .string ⟨#[48, 1, 5]⟩, .string ⟨#[48, 3, 2, 1]⟩, .string ⟨#[5, 255]⟩, .string ⟨#[5, 132, 255, 255, 255, 255]⟩, .string ⟨#[5, 0]⟩, .string ⟨#[48, 0]⟩, .string ⟨#[63, 0]⟩] 9))).cell? ⟨w.heap.size, k, none⟩ = some (.string (str b)) := by
    rw [cell_of_row _ _ _ _ _ _ (heap_alloc_new w _)]; exact hb
  have HR := Lib.hid (read_any V2 _ _ _ N b hrd1 hN ho (by rw [hs2]; exact Nat.le_refl _))
  have HBW := Lib.hid hbw
  have HCO := Lib.hid hcode
  have hkI : (0 : Int) ≤ (k : Int) := by omega
  have hk17 : (k : Int) < 17 := by omega
  clear hcv hrd hb hl ho hrd1 hs1 hs2 hbw hcode hN
  generalize str b = sb at *
  by_cases h : k = 14 ∨ k = 15
  case neg =>
    have b14 : ((k : Int) == 14) = false := by simp; omega
    have b15 : ((k : Int) == 15) = false := by simp; omega
    go_enter Try.func7, Try.ntmps7
    go_wp2_with fail
    refine HR.out.mono ?_
    intro e w3 hp
    obtain ⟨t0, t1, t2, t3, t4, t5, t6, rfl, hb3⟩ := read_code hp
    have HB3 := Lib.hid (HBW.out.trans (hb3.mono HBW.out.size))
    rw [HCO.out, if_neg h]
    clear hp hb3 hc hcv1 HCO
    go_wp2_with fail
    refine (known_any _).mono ?_
    rintro e w5 ⟨rfl, hb5⟩
    have HB4 := Lib.hid (HB3.out.alloc HB3.out.size (.cells #[.int .u8 t0, .slice t1 t2 t3, .slice t4 t5 t6] 25))
    have HB5 := Lib.hid (HB4.out.trans (hb5.mono HB4.out.size))
    clear hb5
    go_wp2_with fail
    go_ret
    exact ⟨rfl, HB5.out⟩
  case pos =>
    have hcode : code (readT b) = 0 := by rw [HCO.out, if_pos h]
    have HCD := Lib.hid hcode
    clear hcode HCO
    rcases h with rfl | rfl
    all_goals
      go_enter Try.func7, Try.ntmps7
      go_wp2_with fail
      refine HR.out.mono ?_
      intro e w3 hp
      obtain ⟨t0, t1, t2, t3, t4, t5, t6, rfl, hb3⟩ := read_code hp
      have HB3 := Lib.hid (HBW.out.trans (hb3.mono HBW.out.size))
      rw [HCD.out]
      clear hp hb3 hc hcv1
      go_wp2_with fail
      refine (known_any _).mono ?_
      rintro e w5 ⟨rfl, hb5⟩
      have HB4 := Lib.hid (HB3.out.alloc HB3.out.size (.cells #[.int .u8 t0, .slice t1 t2 t3, .slice t4 t5 t6] 25))
      have HB5 := Lib.hid (HB4.out.trans (hb5.mono HB4.out.size))
      clear hb5
      go_wp2_with fail
      go_ret
      exact ⟨rfl, HB5.out⟩
set_option maxRecDepth 100000 in
set_option maxHeartbeats 8000000 in
theorem law_odd (w : World) (a : Int) :
    Calls Try.prog 7 #[.int .i64 a] w fun e w' => e = .returned (.bool true) ∧ Below w.heap.size w w' := by
  by_cases h0 : 0 ≤ a
  · by_cases h8 : a < 17
    · obtain ⟨k, rfl⟩ : ∃ k : Nat, a = (k : Int) := ⟨a.toNat, by omega⟩
      exact odd_yes w k (by omega)
    · have hq : decide ((17 : Int) ≤ a) = true := decide_eq_true (by omega)
      have hq0 : decide (a < 0) = false := decide_eq_false (by omega)
      go_enter Try.func7, Try.ntmps7
      go_wp2_with fail
      go_ret
      exact ⟨rfl, (Below.refl _ _).alloc (Nat.le_refl _) _⟩
  · have hq0 : decide (a < 0) = true := decide_eq_true (by omega)
    go_enter Try.func7, Try.ntmps7
    go_wp2_with fail
    go_ret
    exact ⟨rfl, (Below.refl _ _).alloc (Nat.le_refl _) _⟩
end Go.Proofs.Ytlggbkacaemdjaa
