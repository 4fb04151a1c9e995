/-
  A number's thing: its bytes, there and back; as words.
-/
import Derived.Test.YtebhpjbjfbadjaaNatA
import Derived.Lib.ItoaNum
namespace Go.Proofs.Ytebhpjbjfbadjaa
open Go.RowKit
set_option linter.unusedVariables false
set_option linter.unusedSimpArgs false

/-- A number's bytes. -/
def intB (a : List Nat) : List Nat := bytesOf a (nb a / 8 + 1)
theorem intB_length (a : List Nat) : (intB a).length = nb a / 8 + 1 := bytesOf_length _ _
theorem intB_oct (a : List Nat) : ∀ x ∈ intB a, x < 256 := fun x hx => by
  obtain ⟨i, _, rfl⟩ := List.mem_map.1 hx
  exact byteAt_lt _ _
def strip (b : List Nat) : List Nat := if b.getD 0 0 = 0 ∧ 1 < b.length then b.drop 1 else b
/-- Is it a whole number, told in as few bytes as may be? -/
def giOk (b : List Nat) : Bool := decide (0 < b.length) && decide (b.getD 0 0 < 128) && !(decide (b.getD 0 0 = 0) && decide (1 < b.length) && decide (b.getD 1 0 < 128))
def gi (b : List Nat) (most : Int) : Option (List Nat) := if giOk b = true ∧ (b.length : Int) ≤ most ∧ (strip b).length ≤ 1024 then some (numOf (strip b)) else none
def gi' (b : List Nat) (most : Int) : Option (List Nat) := if giOk b = true ∧ (b.length : Int) ≤ most ∧ b.length ≤ 1025 then some (numOf (if b.getD 0 0 = 0 then b.drop 1 else b)) else none
theorem gi_same (b : List Nat) (most : Int) (h : ¬ (b.length = 1025 ∧ b.getD 0 0 ≠ 0)) : gi' b most = gi b most := by
  by_cases h1 : giOk b = true ∧ (b.length : Int) ≤ most
  · by_cases h2 : b.length ≤ 1025
    · have h3 : (strip b).length ≤ 1024 := by
        unfold strip
        split
        · rw [List.length_drop]; omega
        · omega
      have e1 : gi' b most = some (numOf (if b.getD 0 0 = 0 then b.drop 1 else b)) := if_pos ⟨h1.1, h1.2, h2⟩
      have e2 : gi b most = some (numOf (strip b)) := if_pos ⟨h1.1, h1.2, h3⟩
      rw [e1, e2]
      congr 1
      unfold strip
      by_cases h4 : b.getD 0 0 = 0
      · rw [if_pos h4]
        by_cases h5 : 1 < b.length
        · rw [if_pos ⟨h4, h5⟩]
        · rw [if_neg (fun h => h5 h.2)]
          have h6 := h1.1
          simp only [giOk, Bool.and_eq_true, decide_eq_true_eq] at h6
          rcases b with _ | ⟨x, _ | ⟨y, b⟩⟩
          · simp at h6
          · simp at h4
            subst h4
            decide +kernel
          · simp at h5
      · rw [if_neg h4, if_neg (fun h => h4 h.1)]
    · have h3 : ¬ (strip b).length ≤ 1024 := by
        unfold strip
        split
        · rw [List.length_drop]; omega
        · omega
      have e1 : gi' b most = none := if_neg (fun h => h2 h.2.2)
      have e2 : gi b most = none := if_neg (fun h => h3 h.2.2)
      rw [e1, e2]
  · have e1 : gi' b most = none := if_neg (fun h => h1 ⟨h.1, h.2.1⟩)
    have e2 : gi b most = none := if_neg (fun h => h1 ⟨h.1, h.2.1⟩)
    rw [e1, e2]
theorem top_bits (top bl : Nat) (h1 : 1 ≤ bl) (h32 : bl ≤ 31) (hlo : 2 ^ (bl - 1) ≤ top) (hhi : top < 2 ^ bl) :
    top / 2 ^ (8 * (bl / 8)) % 256 < 128 ∧ (top / 2 ^ (8 * (bl / 8)) % 256 = 0 → 8 ≤ bl ∧ 128 ≤ top / 2 ^ (8 * (bl / 8 - 1)) % 256) := by
  have h : bl = 1 ∨ bl = 2 ∨ bl = 3 ∨ bl = 4 ∨ bl = 5 ∨ bl = 6 ∨ bl = 7 ∨ bl = 8 ∨ bl = 9 ∨ bl = 10 ∨ bl = 11 ∨ bl = 12 ∨ bl = 13 ∨ bl = 14 ∨ bl = 15 ∨ bl = 16 ∨ bl = 17 ∨ bl = 18 ∨ bl = 19 ∨ bl = 20 ∨ bl = 21 ∨ bl = 22 ∨ bl = 23 ∨ bl = 24 ∨ bl = 25 ∨ bl = 26 ∨ bl = 27 ∨ bl = 28 ∨ bl = 29 ∨ bl = 30 ∨ bl = 31 := by omega
  rcases h with rfl | rfl | rfl | rfl | rfl | rfl | rfl | rfl | rfl | rfl | rfl | rfl | rfl | rfl | rfl | rfl | rfl | rfl | rfl | rfl | rfl | rfl | rfl | rfl | rfl | rfl | rfl | rfl | rfl | rfl | rfl <;> simp only [Nat.reduceSub, Nat.reducePow, Nat.reduceDiv, Nat.reduceMul] at hlo hhi ⊢ <;> omega
/-- What is known of a number's topmost digit. -/
theorem nb_top {a : List Nat} (hd : Dg a) (hn : nrm a) (h0 : a.length ≠ 0) : ∃ m top bl, a.length = m + 1 ∧ a.getD m 0 = top ∧ nb a = 32 * m + bl ∧ 1 ≤ bl ∧ bl ≤ 32 ∧ 2 ^ (bl - 1) ≤ top ∧ top < 2 ^ bl := by
  obtain ⟨m, hm⟩ : ∃ m, a.length = m + 1 := ⟨a.length - 1, by omega⟩
  have ht : a.getD m 0 ≠ 0 := by
    rcases hn with h | h
    · exact absurd h h0
    · rw [hm] at h; simpa using h
  have htd : a.getD m 0 < 4294967296 := by
    rw [List.getD_eq_getElem?_getD]
    rcases h : a[m]? with _ | y
    · simp
    · exact hd y (List.mem_of_getElem? h)
  have hb := Lib.bitLenAux_bounds 64 (a.getD m 0) (by omega) ht
  have hle := Lib.bitLen_le (a.getD m 0) 32 (by omega) (by omega)
  exact ⟨m, _, Lib.bitLen (a.getD m 0), hm, rfl, nb_succ hm, hb.1, hle, hb.2.1, hb.2.2⟩
theorem byteAt_high {a : List Nat} (hd : Dg a) (hn : nrm a) {k : Nat} (h : nb a ≤ 8 * k) : byteAt a k = 0 := by
  by_cases h0 : a.length = 0
  · exact byteAt_far (by omega)
  obtain ⟨m, top, bl, h1, h2, h3, h4, h5, h6, h7⟩ := nb_top hd hn h0
  by_cases hk : k / 4 ≤ m
  · have hk2 : k / 4 = m := by omega
    unfold byteAt
    rw [hk2, h2]
    have : top < 2 ^ (8 * (k % 4)) := Nat.lt_of_lt_of_le h7 (Nat.pow_le_pow_right (by omega) (by omega))
    rw [Nat.div_eq_of_lt this]
  · exact byteAt_far (by omega)
theorem giOk_int {a : List Nat} (hd : Dg a) (hn : nrm a) : giOk (intB a) = true := by
  by_cases h0 : a.length = 0
  · obtain rfl := List.eq_nil_of_length_eq_zero h0
    decide +kernel
  obtain ⟨m, top, bl, h1, h2, h3, h4, h5, h6, h7⟩ := nb_top hd hn h0
  have e0 : (intB a).getD 0 0 = byteAt a (nb a / 8) := by
    unfold intB
    rw [bytesOf_at a (by omega), Nat.add_sub_cancel, Nat.sub_zero]
  have e1 : 1 < (intB a).length → (intB a).getD 1 0 = byteAt a (nb a / 8 - 1) := fun h => by
    unfold intB at h ⊢
    rw [bytesOf_length] at h
    rw [bytesOf_at a h, Nat.add_sub_cancel]
  have key : byteAt a (nb a / 8) < 128 ∧ (byteAt a (nb a / 8) = 0 → 1 < (intB a).length → 128 ≤ byteAt a (nb a / 8 - 1)) := by
    rcases Nat.lt_or_ge bl 32 with hb | hb
    · have ht := top_bits top bl h4 (by omega) h6 h7
      have k1 : nb a / 8 / 4 = m := by omega
      have k2 : nb a / 8 % 4 = bl / 8 := by omega
      have e : byteAt a (nb a / 8) = top / 2 ^ (8 * (bl / 8)) % 256 := by unfold byteAt; rw [k1, k2, h2]
      rw [e]
      refine ⟨ht.1, fun hz _ => ?_⟩
      obtain ⟨t1, t2⟩ := ht.2 hz
      have k3 : (nb a / 8 - 1) / 4 = m := by omega
      have k4 : (nb a / 8 - 1) % 4 = bl / 8 - 1 := by omega
      unfold byteAt
      rw [k3, k4, h2]
      exact t2
    · obtain rfl : bl = 32 := by omega
      rw [byteAt_far (by omega)]
      refine ⟨by omega, fun _ _ => ?_⟩
      have k3 : (nb a / 8 - 1) / 4 = m := by omega
      have k4 : (nb a / 8 - 1) % 4 = 3 := by omega
      unfold byteAt
      rw [k3, k4, h2]
      simp only [Nat.reduceSub, Nat.reducePow, Nat.reduceMul] at h6 h7 ⊢
      omega
  unfold giOk
  rw [e0]
  have hl : 0 < (intB a).length := by rw [intB_length]; omega
  by_cases hz : byteAt a (nb a / 8) = 0
  · by_cases h1l : 1 < (intB a).length
    · have := key.2 hz h1l
      rw [e1 h1l]
      simp [hl, hz]
      omega
    · simp [hl, hz, h1l]
  · simp [hl, hz, key.1]
theorem numOf_bytesOf {a : List Nat} (hd : Dg a) (hn : nrm a) {n : Nat} (h : nb a ≤ 8 * n) (h1 : n ≤ 1024) : numOf (bytesOf a n) = a := by
  have hl : a.length ≤ (n + 3) / 4 := by
    by_cases h0 : a.length = 0
    · omega
    · obtain ⟨m, top, bl, g1, g2, g3, g4, _⟩ := nb_top hd hn h0
      omega
  have hb : (bytesOf a n).length = n := bytesOf_length _ _
  have ho : Oct (bytesOf a n).reverse := oct_rev fun x hx => by
    obtain ⟨i, _, rfl⟩ := List.mem_map.1 hx
    exact byteAt_lt _ _
  have hrev : ∀ k, (bytesOf a n).reverse.getD k 0 = byteAt a k := fun k => by
    by_cases hk : k < n
    · rw [rev_at (i := n - 1 - k) (by rw [hb]; omega), bytesOf_at a (by omega)]
      congr 1
      omega
    · rw [byteAt_high hd hn (by omega), List.getD_eq_getElem?_getD, List.getElem?_eq_none (by rw [List.length_reverse, hb]; omega)]
      rfl
  have hat : ∀ j, (trl (words (bytesOf a n))).getD j 0 = a.getD j 0 := fun j => by
    rw [trl_at]
    by_cases hj : j < (n + 3) / 4
    · rw [words_at _ (by rw [hb]; exact hj)]
      unfold part
      rw [if_pos (by omega), if_pos (by omega), if_pos (by omega), if_pos (by omega), hrev, hrev, hrev, hrev]
      unfold byteAt
      rw [show 4 * j / 4 = j by omega, show (4 * j + 1) / 4 = j by omega, show (4 * j + 2) / 4 = j by omega, show (4 * j + 3) / 4 = j by omega, show 4 * j % 4 = 0 by omega, show (4 * j + 1) % 4 = 1 by omega, show (4 * j + 2) % 4 = 2 by omega, show (4 * j + 3) % 4 = 3 by omega]
      have hlt : a.getD j 0 < 4294967296 := by
        rw [List.getD_eq_getElem?_getD]
        rcases hq : a[j]? with _ | y
        · simp
        · exact hd y (List.mem_of_getElem? hq)
      simp only [Nat.reduceMul, Nat.reducePow]
      omega
    · rw [List.getD_eq_getElem?_getD, List.getElem?_eq_none (by rw [words_length, hb]; omega), List.getD_eq_getElem?_getD, List.getElem?_eq_none (by omega)]
  rw [numOf_near (by rw [hb]; omega)]
  have hlen : (trl (words (bytesOf a n))).length = a.length := by
    have n1 := trl_nrm (words (bytesOf a n))
    rcases Nat.lt_trichotomy (trl (words (bytesOf a n))).length a.length with hc | hc | hc
    · exfalso
      rcases hn with h0 | h0
      · omega
      · rw [← hat, List.getD_eq_getElem?_getD, List.getElem?_eq_none (by omega)] at h0
        exact h0 rfl
    · exact hc
    · exfalso
      rcases n1 with h0 | h0
      · omega
      · rw [hat, List.getD_eq_getElem?_getD, List.getElem?_eq_none (by omega)] at h0
        exact h0 rfl
  apply List.ext_getElem hlen
  intro j j1 j2
  have := hat j
  simpa [List.getD, j1, j2] using this
theorem int_fits {a : List Nat} (hd : Dg a) (hn : nrm a) (hl : a.length ≤ 256) : nb a / 8 + 1 ≤ 1025 := by
  by_cases h0 : a.length = 0
  · rw [nb_nil h0]; omega
  · obtain ⟨m, top, bl, g1, g2, g3, g4, g5, _⟩ := nb_top hd hn h0
    omega
/-- A number's thing is that number again. -/
theorem gi_int {a : List Nat} (hd : Dg a) (hn : nrm a) (hl : a.length ≤ 256) {most : Int} (hm : ((nb a / 8 + 1 : Nat) : Int) ≤ most) : gi (intB a) most = some a := by
  have hf := int_fits hd hn hl
  have e0 : (intB a).getD 0 0 = byteAt a (nb a / 8) := by
    unfold intB
    rw [bytesOf_at a (by omega), Nat.add_sub_cancel, Nat.sub_zero]
  have hs : numOf (strip (intB a)) = a ∧ (strip (intB a)).length ≤ 1024 := by
    unfold strip
    by_cases hz : (intB a).getD 0 0 = 0 ∧ 1 < (intB a).length
    · rw [if_pos hz]
      have hz2 := hz.2
      rw [intB_length] at hz2
      have e1 : (intB a).drop 1 = bytesOf a (nb a / 8) := by
        refine bytesOf_eq (by rw [List.length_drop, intB_length, Nat.add_sub_cancel]) fun j hj => ?_
        have : ((intB a).drop 1).getD j 0 = (intB a).getD (j + 1) 0 := by simp [List.getD, Nat.add_comm]
        rw [this]
        unfold intB
        rw [bytesOf_at a (by omega)]
        congr 1
        omega
      have hfit : nb a ≤ 8 * (nb a / 8) := by
        by_cases h0 : a.length = 0
        · rw [nb_nil h0]; omega
        obtain ⟨m, top, bl, g1, g2, g3, g4, g5, g6, g7⟩ := nb_top hd hn h0
        by_cases hb : bl % 8 = 0
        · omega
        · exfalso
          have hzz := hz.1
          rw [e0] at hzz
          have k1 : nb a / 8 / 4 = m := by omega
          have k2 : nb a / 8 % 4 = bl / 8 := by omega
          unfold byteAt at hzz
          rw [k1, k2, g2] at hzz
          have ht := (top_bits top bl g4 (by omega) g6 g7).1
          have h8 : 8 * (bl / 8) ≤ bl - 1 := by omega
          have h9 : 2 ^ (8 * (bl / 8)) ≤ top := Nat.le_trans (Nat.pow_le_pow_right (by omega) h8) g6
          have h10 : 1 ≤ top / 2 ^ (8 * (bl / 8)) := (Nat.le_div_iff_mul_le (Nat.pow_pos (by omega))).2 (by omega)
          have h11 : top / 2 ^ (8 * (bl / 8)) < 256 := (Nat.div_lt_iff_lt_mul (Nat.pow_pos (by omega))).2 (by
            rw [show 256 = 2 ^ 8 from rfl, ← Nat.pow_add]
            exact Nat.lt_of_lt_of_le g7 (Nat.pow_le_pow_right (by omega) (by omega)))
          omega
      rw [e1]
      exact ⟨numOf_bytesOf hd hn hfit (by omega), by rw [bytesOf_length]; omega⟩
    · rw [if_neg hz]
      rcases Nat.lt_or_ge (nb a / 8 + 1) 1025 with h | h
      · unfold intB
        exact ⟨numOf_bytesOf hd hn (by omega) (by omega), by rw [bytesOf_length]; omega⟩
      · exfalso
        apply hz
        refine ⟨?_, by rw [intB_length]; omega⟩
        rw [e0, byteAt_far]
        omega
  have : gi (intB a) most = some (numOf (strip (intB a))) := if_pos ⟨giOk_int hd hn, by rw [intB_length]; exact hm, hs.2⟩
  rw [this, hs.1]
theorem gi_int_far {a : List Nat} {most : Int} (hm : most < ((nb a / 8 + 1 : Nat) : Int)) : gi (intB a) most = none := if_neg fun h => by
  have := h.2.1
  rw [intB_length] at this
  omega
theorem int_far {a : List Nat} (hd : Dg a) (hn : nrm a) (hl : a.length ≤ 256) : ¬ ((intB a).length = 1025 ∧ (intB a).getD 0 0 ≠ 0) := fun h => by
  have hl2 := h.1
  rw [intB_length] at hl2
  apply h.2
  unfold intB
  rw [bytesOf_at a (by omega), Nat.add_sub_cancel, Nat.sub_zero, byteAt_far (by omega)]
end Go.Proofs.Ytebhpjbjfbadjaa
