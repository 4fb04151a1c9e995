/-
  A node as a block of 64 bytes: the bytes by place.
-/
import Derived.Test.YtkfokgkehlcikaaNode3
import Derived.Test.YtkfokgkehlcikaaNode4
import Derived.Lib.LazyBuf
namespace Go.Proofs.Ytkfokgkehlcikaa
open Go.RowKit
set_option linter.unusedVariables false
set_option linter.unusedSimpArgs false

/-- The byte at place i of a node's block. -/
def encAt (s : ByteArray) (z : Nat) (p : List Nat) (i : Nat) : Nat :=
  if i = 0 then s.size else if i ≤ 40 then (s.data.toList.map UInt8.toNat).getD (i - 1) 0 else if i = 41 then z / 256 else if i = 42 then z % 256
  else if (i - 43) / 2 < p.length then (if (i - 43) % 2 = 0 then p.getD ((i - 43) / 2) 0 / 256 else p.getD ((i - 43) / 2) 0 % 256) else 0
/-- A node's block. -/
def enc (s : ByteArray) (z : Nat) (p : List Nat) : List Nat := (List.range 64).map (encAt s z p)
theorem enc_length (s : ByteArray) (z : Nat) (p : List Nat) : (enc s z p).length = 64 := by simp [enc]
theorem enc_at (s : ByteArray) (z : Nat) (p : List Nat) {i : Nat} (h : i < 64) : (enc s z p).getD i 0 = encAt s z p i := by simp [enc, List.getD, h]
theorem enc_is {s : ByteArray} {z : Nat} {p L : List Nat} (hL : L.length = 64) (h : ∀ i, i < 64 → L.getD i 0 = encAt s z p i) : L = enc s z p := by
  apply List.ext_getElem (by rw [hL, enc_length])
  intro i h1 h2
  have a := h i (by omega)
  rw [← enc_at s z p (by omega)] at a
  simpa [List.getD, h1, h2] using a

theorem getD_put2 (L : List Nat) (i v j : Nat) (hi : i + 1 < L.length) : (put2 L i v).getD j 0 = if j = i then v / 256 else if j = i + 1 then v % 256 else L.getD j 0 := by
  unfold put2
  by_cases h1 : j = i
  · subst h1
    rw [if_pos rfl]
    simp [List.getD, List.getElem?_set, show ¬ (j + 1 = j) by omega, show j < L.length by omega]
  · rw [if_neg h1]
    by_cases h2 : j = i + 1
    · subst h2
      rw [if_pos rfl]
      simp [List.getD, List.getElem?_set, hi]
    · rw [if_neg h2]
      simp [List.getD, List.getElem?_set, show ¬ (i + 1 = j) by omega, show ¬ (i = j) by omega]
theorem put2_length (L : List Nat) (i v : Nat) : (put2 L i v).length = L.length := by simp [put2]

/-- Bytes laid over a row from place o on. -/
def over (L : List Nat) (o : Nat) : List UInt8 → List Nat
  | [] => L
  | x :: r => over (L.set o x.toNat) (o + 1) r
theorem over_length : ∀ (r : List UInt8) (L : List Nat) (o : Nat), (over L o r).length = L.length
  | [], _, _ => rfl
  | x :: r, L, o => by rw [over, over_length r]; simp
theorem getD_over : ∀ (r : List UInt8) (L : List Nat) (o j : Nat), o + r.length ≤ L.length → (over L o r).getD j 0 = if o ≤ j ∧ j < o + r.length then (r.map UInt8.toNat).getD (j - o) 0 else L.getD j 0
  | [], L, o, j, h => by rw [over, if_neg (by simp)]
  | x :: r, L, o, j, h => by
    simp only [List.length_cons] at h
    rw [over, getD_over r _ (o + 1) j (by simp; omega)]
    by_cases h1 : j = o
    · subst h1
      rw [if_neg (by omega), if_pos (by simp)]
      simp [List.getD, List.getElem?_set, show j < L.length by omega]
    · by_cases h2 : o + 1 ≤ j ∧ j < o + 1 + r.length
      · rw [if_pos h2, if_pos (by simp; omega)]
        obtain ⟨m, rfl⟩ : ∃ m, j = o + 1 + m := ⟨j - (o + 1), by omega⟩
        rw [show o + 1 + m - (o + 1) = m by omega, show o + 1 + m - o = m + 1 by omega]
        simp [List.getD]
      · rw [if_neg h2, if_neg (by simp; omega)]
        simp [List.getD, List.getElem?_set, show ¬ (o = j) by omega]
theorem Row.cells {T : TypeId} {g : Nat} : ∀ (r : List UInt8) {w a : World} {L : List Nat} (o : Nat), Row .u8 T w g L → a.grownBy w (some g) →
    Row .u8 T (w.setCells g o (r.map fun x => Value.int .u8 (x.toNat : Int))) g (over L o r) ∧ a.grownBy (w.setCells g o (r.map fun x => Value.int .u8 (x.toNat : Int))) (some g)
  | [], w, a, L, o, h, hg => ⟨h, hg⟩
  | x :: r, w, a, L, o, h, hg => Row.cells r (o + 1) (h.set o x.toNat) (one_setCell hg o _)

theorem enc_step {s : ByteArray} {z k : Nat} {p L : List Nat} (hL : L.length = 64) (hk : k < p.length) (hp : p.length ≤ 10) (h : ∀ i, i < 64 → L.getD i 0 = encAt s z (p.take k) i) :
    ∀ i, i < 64 → (put2 L (43 + 2 * k) (p.getD k 0)).getD i 0 = encAt s z (p.take (k + 1)) i := by
  intro i hi
  rw [getD_put2 _ _ _ _ (by omega)]
  have e1 : (p.take k).length = k := by simp; omega
  have e2 : (p.take (k + 1)).length = k + 1 := by simp; omega
  have e3 : ∀ j n, j < n → (p.take n).getD j 0 = p.getD j 0 := fun j n hj => by simp [List.getD, List.getElem?_take, hj]
  by_cases h1 : i = 43 + 2 * k
  · subst h1
    rw [if_pos rfl]
    unfold encAt
    rw [if_neg (by omega), if_neg (by omega), if_neg (by omega), if_neg (by omega), e2, if_pos (by omega), if_pos (by omega), show (43 + 2 * k - 43) / 2 = k by omega, e3 _ _ (by omega)]
  · rw [if_neg h1]
    by_cases h2 : i = 43 + 2 * k + 1
    · subst h2
      rw [if_pos rfl]
      unfold encAt
      rw [if_neg (by omega), if_neg (by omega), if_neg (by omega), if_neg (by omega), e2, if_pos (by omega), if_neg (by omega), show (43 + 2 * k + 1 - 43) / 2 = k by omega, e3 _ _ (by omega)]
    · rw [if_neg h2, h i hi]
      unfold encAt
      rw [e1, e2]
      by_cases a1 : i = 0
      · rw [if_pos a1, if_pos a1]
      rw [if_neg a1, if_neg a1]
      by_cases a2 : i ≤ 40
      · rw [if_pos a2, if_pos a2]
      rw [if_neg a2, if_neg a2]
      by_cases a3 : i = 41
      · rw [if_pos a3, if_pos a3]
      rw [if_neg a3, if_neg a3]
      by_cases a4 : i = 42
      · rw [if_pos a4, if_pos a4]
      rw [if_neg a4, if_neg a4]
      by_cases a5 : (i - 43) / 2 < k
      · rw [if_pos a5, e3 _ _ a5, e3 _ _ (Nat.lt_succ_of_lt a5), if_pos (Nat.lt_succ_of_lt a5)]
      · rw [if_neg a5, if_neg (by omega)]
theorem noughts_at (n j : Nat) : (List.replicate n 0).getD j 0 = 0 := by
  rw [List.getD, List.getElem?_replicate]
  split <;> rfl
theorem enc_head {s : ByteArray} {z : Nat} (hs : s.size ≤ 40) {L : List Nat} (h : L = put2 (over ((List.replicate 64 0).set 0 s.size) 1 s.data.toList) 41 z) : L.length = 64 ∧ ∀ (p : List Nat) i, i < 64 → L.getD i 0 = encAt s z (p.take 0) i := by
  have e0 : s.data.toList.length = s.size := by simp
  have e1 : L.length = 64 := by rw [h, put2_length, over_length]; simp
  refine ⟨e1, fun p i hi => ?_⟩
  rw [h, getD_put2 _ _ _ _ (by rw [over_length]; simp), getD_over _ _ _ _ (by rw [e0]; simp; omega), e0]
  unfold encAt
  have e2 : ∀ j, ((List.replicate 64 0).set 0 s.size).getD j 0 = if j = 0 then s.size else 0 := fun j => by
    have hn := noughts_at 64 j
    have hl : 0 < (List.replicate 64 0).length := by rw [List.length_replicate]; omega
    generalize List.replicate 64 0 = R at hn hl
    by_cases hj : j = 0
    · subst hj
      rw [if_pos rfl]
      simp [List.getD, hl]
    · rw [if_neg hj]
      refine Eq.trans ?_ hn
      simp [List.getD, List.getElem?_set, show ¬ (0 = j) by omega]
  rw [e2]
  by_cases a1 : i = 0
  · rw [if_pos a1, if_neg (by omega), if_neg (by omega), if_neg (by omega), if_pos a1]
  rw [if_neg a1, if_neg a1]
  by_cases a2 : i ≤ 40
  · rw [if_pos a2, if_neg (by omega), if_neg (by omega)]
    by_cases a3 : i < 1 + s.size
    · rw [if_pos (by omega)]
    · rw [if_neg (by omega)]
      have : (s.data.toList.map UInt8.toNat)[i - 1]? = none := by rw [List.getElem?_eq_none_iff]; simp; omega
      simp only [List.getD, this]; rfl
  rw [if_neg a2]
  by_cases a3 : i = 41
  · rw [if_pos a3, if_pos a3]
  rw [if_neg a3, if_neg a3]
  by_cases a4 : i = 42
  · rw [if_pos (by omega), if_pos a4]
  rw [if_neg (by omega), if_neg a4, if_neg (by omega)]
  simp
end Go.Proofs.Ytkfokgkehlcikaa
