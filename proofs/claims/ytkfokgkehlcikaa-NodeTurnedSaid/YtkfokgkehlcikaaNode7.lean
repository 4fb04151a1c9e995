/-
  What a node's block tells.
-/
import Derived.Test.YtkfokgkehlcikaaNode6
import Derived.Test.YtkfokgkehlcikaaStr
namespace Go.Proofs.Ytkfokgkehlcikaa
open Go.RowKit
set_option linter.unusedVariables false
set_option linter.unusedSimpArgs false

/-- The block b is the node's. -/
structure IsNode (b : List Nat) (s : ByteArray) (z : Nat) (p : List Nat) : Prop where
  ok : NodeOk s z (p.map fun x : Nat => (x : Int))
  small : ∀ x ∈ p, x ≤ 65535
  enc : enc s z p = b
/-- The name that stands in a block, m bytes. -/
def nameOf (b : List Nat) (m : Nat) : ByteArray := str ((b.drop 1).take m)
/-- The m places that stand in a block. -/
def placesOf (b : List Nat) (m : Nat) : List Nat := (List.range m).map fun k => two b (43 + 2 * k)
theorem placesOf_length (b : List Nat) (m : Nat) : (placesOf b m).length = m := by simp [placesOf]
theorem placesOf_succ (b : List Nat) (m : Nat) : placesOf b (m + 1) = placesOf b m ++ [two b (43 + 2 * m)] := by simp [placesOf, List.range_succ]
theorem two_le {b : List Nat} (ho : Oct8 b) (i : Nat) : two b i ≤ 65535 := by
  have h := oct_of ho
  have h1 := h i
  have h2 := h (i + 1)
  unfold two; omega
theorem placesOf_le {b : List Nat} (ho : Oct8 b) (m : Nat) : ∀ x ∈ placesOf b m, x ≤ 65535 := by
  intro x hx
  obtain ⟨k, _, rfl⟩ := List.mem_map.1 hx
  exact two_le ho _

section
variable {b : List Nat} {s : ByteArray} {z : Nat} {p : List Nat} (h : IsNode b s z p)
include h
theorem IsNode.at_ {i : Nat} (hi : i < 64) : b.getD i 0 = encAt s z p i := by rw [← h.enc, enc_at _ _ _ hi]
theorem IsNode.length : b.length = 64 := by rw [← h.enc, enc_length]
theorem IsNode.long : b.getD 0 0 = s.size := by rw [h.at_ (by omega)]; rfl
theorem IsNode.size_ : two b 41 = z := by
  have h1 := h.at_ (i := 41) (by omega)
  have h2 := h.at_ (i := 42) (by omega)
  unfold two
  rw [h1, h2]
  show z / 256 * 256 + z % 256 = z
  omega
theorem IsNode.name_ : nameOf b s.size = s := by
  have hs := h.ok.name.high
  have e0 : s.data.toList.length = s.size := by simp
  have hl := h.length
  unfold nameOf str
  apply ByteArray.ext
  apply Array.ext'
  show ((b.drop 1).take s.size).map UInt8.ofNat = s.data.toList
  apply List.ext_getElem
  · simp; omega
  · intro i h1 h2
    have hi : i < s.size := by omega
    have a := h.at_ (i := 1 + i) (by omega)
    unfold encAt at a
    rw [if_neg (by omega), if_pos (by omega), show 1 + i - 1 = i by omega] at a
    have e1 : b.getD (1 + i) 0 = b[1 + i] := by simp [List.getD, show 1 + i < b.length by omega]
    have e2 : (s.data.toList.map UInt8.toNat).getD i 0 = (s.data.toList[i]).toNat := by simp only [List.getD, List.getElem?_map, List.getElem?_eq_getElem h2]; rfl
    rw [e1, e2] at a
    rw [List.getElem_map, List.getElem_take, List.getElem_drop, a]
    simp
theorem IsNode.count : (p.length : Int) = needI z := by simpa using h.ok.len
theorem IsNode.few : p.length ≤ 10 := by
  have h1 := h.count
  have h2 := needI_le h.ok.z600
  omega
theorem IsNode.places_ : placesOf b p.length = p := by
  have hf := h.few
  apply List.ext_getElem
  · rw [placesOf_length]
  · intro i h1 h2
    have a1 := h.at_ (i := 43 + 2 * i) (by omega)
    have a2 := h.at_ (i := 43 + 2 * i + 1) (by omega)
    unfold encAt at a1 a2
    rw [if_neg (by omega), if_neg (by omega), if_neg (by omega), if_neg (by omega), if_pos (by omega), if_pos (by omega), show (43 + 2 * i - 43) / 2 = i by omega] at a1
    rw [if_neg (by omega), if_neg (by omega), if_neg (by omega), if_neg (by omega), if_pos (by omega), if_neg (by omega), show (43 + 2 * i + 1 - 43) / 2 = i by omega] at a2
    have e : p.getD i 0 = p[i] := by simp [List.getD, h2]
    simp only [placesOf, List.getElem_map, List.getElem_range]
    unfold two
    rw [a1, a2, e]
    omega
theorem IsNode.not_free : b ≠ List.replicate 64 0 := by
  intro e
  have h1 := h.long
  have h2 := h.ok.name.low
  rw [e, noughts_at] at h1
  omega
end
/-- A block is one node's at most. -/
theorem IsNode.one {b : List Nat} {s s' : ByteArray} {z z' : Nat} {p p' : List Nat} (h : IsNode b s z p) (h' : IsNode b s' z' p') : s = s' ∧ z = z' ∧ p = p' := by
  have e1 : s = s' := by rw [← h.name_, ← h'.name_, ← h.long, ← h'.long]
  have e2 : z = z' := by rw [← h.size_, ← h'.size_]
  refine ⟨e1, e2, ?_⟩
  have e3 : p.length = p'.length := by have a := h.count; have a' := h'.count; rw [e2] at a; omega
  rw [← h.places_, ← h'.places_, e3]

/-- What a block reads as: free, a node, nothing. -/
inductive Reads (b : List Nat) (s : ByteArray) (z : Nat) (p : List Nat) : Bool → Bool → Prop
  | none : s = ⟨#[]⟩ → z = 0 → p = [] → b ≠ List.replicate 64 0 → (∀ s z p, ¬ IsNode b s z p) → Reads b s z p false false
  | free : s = ⟨#[]⟩ → z = 0 → p = [] → b = List.replicate 64 0 → Reads b s z p true true
  | node : IsNode b s z p → Reads b s z p false true
theorem Reads.one {b : List Nat} {s s' : ByteArray} {z z' : Nat} {p p' : List Nat} {f f' o o' : Bool} (h : Reads b s z p f o) (h' : Reads b s' z' p' f' o') : s = s' ∧ z = z' ∧ p = p' ∧ f = f' ∧ o = o' := by
  cases h with
  | none a1 a2 a3 a4 a5 => cases h' with
    | none b1 b2 b3 b4 b5 => exact ⟨a1.trans b1.symm, a2.trans b2.symm, a3.trans b3.symm, rfl, rfl⟩
    | free b1 b2 b3 b4 => exact absurd b4 a4
    | node hb => exact absurd hb (a5 _ _ _)
  | free a1 a2 a3 a4 => cases h' with
    | none b1 b2 b3 b4 b5 => exact absurd a4 b4
    | free b1 b2 b3 b4 => exact ⟨a1.trans b1.symm, a2.trans b2.symm, a3.trans b3.symm, rfl, rfl⟩
    | node hb => exact absurd a4 hb.not_free
  | node ha => cases h' with
    | none b1 b2 b3 b4 b5 => exact absurd ha (b5 _ _ _)
    | free b1 b2 b3 b4 => exact absurd b4 ha.not_free
    | node hb => obtain ⟨e1, e2, e3⟩ := ha.one hb; exact ⟨e1, e2, e3, rfl, rfl⟩

/-- What a reader gives. -/
def ReadPost (w : World) (b : List Nat) (e : Ending) (w' : World) : Prop :=
  ∃ s z A n c p f o, e = .returned (.tuple #[.agg #[.string s, .int .i64 (z : Nat), .slice A n c], .bool f, .bool o]) ∧ Hid (Reads b s z p f o) ∧ p.length = n ∧ Rd .i64 w' w'.heap.size A c p ∧ Below w.heap.size w w'
theorem read_none {w w' : World} {b : List Nat} (h1 : b ≠ List.replicate 64 0) (h2 : ∀ s z p, ¬ IsNode b s z p) (h3 : Below w.heap.size w w') :
    ReadPost w b (.returned (.tuple #[.agg #[.string ⟨#[]⟩, .int .i64 0, .slice none 0 0], .bool false, .bool false])) w' :=
  ⟨⟨#[]⟩, 0, none, 0, 0, [], false, false, rfl, Lib.hid (.none rfl rfl rfl h1 h2), rfl, Rd.nil_ _ _ _, h3⟩
theorem read_free {w w' : World} {b : List Nat} (h1 : b = List.replicate 64 0) (h3 : Below w.heap.size w w') :
    ReadPost w b (.returned (.tuple #[.agg #[.string ⟨#[]⟩, .int .i64 0, .slice none 0 0], .bool true, .bool true])) w' :=
  ⟨⟨#[]⟩, 0, none, 0, 0, [], true, true, rfl, Lib.hid (.free rfl rfl rfl h1), rfl, Rd.nil_ _ _ _, h3⟩
end Go.Proofs.Ytkfokgkehlcikaa
