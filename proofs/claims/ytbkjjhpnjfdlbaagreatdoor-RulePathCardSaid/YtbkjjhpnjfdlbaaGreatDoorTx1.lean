/-
  Text, by the document: one rune, and all of them.
-/
import Derived.Test.YtbkjjhpnjfdlbaaGreatDoorU2
import Derived.Deep.LoopGhost
import Derived.BigQuiet
import Derived.Below
namespace Go.Proofs.YtbkjjhpnjfdlbaaGreatDoor
open Go.RowKit BigFrame
set_option linter.unusedVariables false
set_option linter.unusedSimpArgs false
attribute [local go_sem ↓] Go.wp_at_zero Go.wp_at_succ

def rnN (n c x1 x2 x3 : Nat) : Nat := if c < 128 then 1 else (Lib.checkN n x1 x2 x3 (Lib.firstT c % 8) (Lib.accLo (Lib.firstT c / 16)) (Lib.accHi (Lib.firstT c / 16))).getD 0
/-- How many bytes the first rune has; 0: it is none. -/
def rn (l : List Nat) : Nat := rnN l.length (l.getD 0 0) (l.getD 1 0) (l.getD 2 0) (l.getD 3 0)
theorem check_le {n b1 b2 b3 sz lo hi k : Nat} (h : Lib.checkN n b1 b2 b3 sz lo hi = some k) : 0 < k ∧ k ≤ n := by
  unfold Lib.checkN at h
  repeat' split at h
  all_goals first | (injection h with h; omega) | cases h
theorem rn_no {l : List Nat} (ho : ∀ x ∈ l, x < 256) (hl : 0 < l.length) (h : rn l = 0) : vd l = false := by
  unfold rn rnN at h
  split at h
  · omega
  · rename_i h0
    rw [vd_lead l ho (by omega)]
    rcases hc : Lib.checkN l.length (l.getD 1 0) (l.getD 2 0) (l.getD 3 0) (Lib.firstT (l.getD 0 0) % 8) (Lib.accLo (Lib.firstT (l.getD 0 0) / 16)) (Lib.accHi (Lib.firstT (l.getD 0 0) / 16)) with _ | k
    · rfl
    · rw [hc] at h
      have := check_le hc
      simp at h
      omega
theorem rn_yes {l : List Nat} (ho : ∀ x ∈ l, x < 256) (hl : 0 < l.length) (h : rn l ≠ 0) : rn l ≤ l.length ∧ vd (l.drop (rn l)) = vd l := by
  unfold rn rnN at h ⊢
  split at h
  · rename_i h0
    rw [if_pos h0]
    refine ⟨hl, vd_skip 1 l ho fun x hx => ?_⟩
    rcases l with _ | ⟨y, t⟩
    · simp at hl
    · have : x = y := by simpa using hx
      subst this
      exact h0
  · rename_i h0
    rw [if_neg h0]
    rw [vd_lead l ho (by omega)]
    rcases hc : Lib.checkN l.length (l.getD 1 0) (l.getD 2 0) (l.getD 3 0) (Lib.firstT (l.getD 0 0) % 8) (Lib.accLo (Lib.firstT (l.getD 0 0) / 16)) (Lib.accHi (Lib.firstT (l.getD 0 0) / 16)) with _ | k
    · rw [hc] at h
      simp at h
    · exact ⟨(check_le hc).2, rfl⟩
/-- Is it a byte that goes on? -/
def cont (x : Nat) : Prop := 128 ≤ x ∧ x < 192
/-- A rune's number, by its bytes. -/
def vv (v0 x1 x2 x3 k : Nat) : Nat := if k ≤ 1 then v0 else if k = 2 then v0 * 64 + x1 % 64 else if k = 3 then (v0 * 64 + x1 % 64) * 64 + x2 % 64 else ((v0 * 64 + x1 % 64) * 64 + x2 % 64) * 64 + x3 % 64
/-- .. that is no rune's. -/
def off_ (v least : Nat) : Prop := v < least ∨ 1114111 < v ∨ (55296 ≤ v ∧ v ≤ 57343)
theorem u8and63 : ∀ X : Fin 256, bits .and .u8 ((X.val : Nat) : Int) 63 = ((X.val % 64 : Nat) : Int) := by decide +kernel
theorem u8and31 : ∀ X : Fin 256, bits .and .u8 ((X.val : Nat) : Int) 31 = ((X.val % 32 : Nat) : Int) := by decide +kernel
theorem u8and15 : ∀ X : Fin 256, bits .and .u8 ((X.val : Nat) : Int) 15 = ((X.val % 16 : Nat) : Int) := by decide +kernel
theorem u8and07 : ∀ X : Fin 256, bits .and .u8 ((X.val : Nat) : Int) 7 = ((X.val % 8 : Nat) : Int) := by decide +kernel
theorem get_at (l : List Nat) (ho : ∀ x ∈ l, x < 256) (t : ByteArray) (ht : str l = t) (j : Nat) (hj : j < t.size) : ∃ x : UInt8, t[j]'hj = x ∧ x.toNat = l.getD j 0 := by
  refine ⟨_, rfl, ?_⟩
  subst ht
  rw [str_len] at hj
  have : (str l)[j] = (l.map UInt8.ofNat)[j]'(by simpa using hj) := by
    show ((l.map UInt8.ofNat).toArray)[j]'(by simpa using hj) = _
    rw [List.getElem_toArray]
  rw [this, List.getElem_map, u8_nat (ho _ (List.getElem_mem hj))]
  simp [List.getD, hj]
theorem getD_oct {l : List Nat} (ho : ∀ x ∈ l, x < 256) (j : Nat) : l.getD j 0 < 256 := by
  rw [List.getD_eq_getElem?_getD]
  rcases h : l[j]? with _ | y
  · simp
  · exact ho y (List.mem_of_getElem? h)
theorem rnN_128 {n c x1 x2 x3 : Nat} (h1 : 128 ≤ c) (h2 : c < 194) : rnN n c x1 x2 x3 = 0 := by
  have e : Lib.firstT c = 241 := by
    unfold Lib.firstT
    (repeat' split) <;> omega
  unfold rnN
  rw [if_neg (by omega), e]
  rfl
theorem rnN_194 {n c x1 x2 x3 : Nat} (h1 : 194 ≤ c) (h2 : c < 224) : rnN n c x1 x2 x3 = if n < 2 ∨ x1 < 128 ∨ 191 < x1 then 0 else 2 := by
  have e : Lib.firstT c = 2 := by
    unfold Lib.firstT
    (repeat' split) <;> omega
  unfold rnN
  rw [if_neg (by omega), e]
  simp only [Lib.checkN, Lib.accLo, Lib.accHi, Nat.reduceMod, Nat.reduceDiv, Nat.reduceEqDiff, if_false, if_true]
  split <;> rfl
theorem rnN_224 {n c x1 x2 x3 : Nat} (h1 : 224 ≤ c) (h2 : c < 225) : rnN n c x1 x2 x3 = if n < 3 ∨ x1 < 160 ∨ 191 < x1 ∨ x2 < 128 ∨ 191 < x2 then 0 else 3 := by
  have e : Lib.firstT c = 19 := by
    unfold Lib.firstT
    (repeat' split) <;> omega
  unfold rnN
  rw [if_neg (by omega), e]
  simp only [Lib.checkN, Lib.accLo, Lib.accHi, Nat.reduceMod, Nat.reduceDiv, Nat.reduceEqDiff, if_false, if_true]
  split <;> rfl
theorem rnN_225 {n c x1 x2 x3 : Nat} (h1 : 225 ≤ c) (h2 : c < 237) : rnN n c x1 x2 x3 = if n < 3 ∨ x1 < 128 ∨ 191 < x1 ∨ x2 < 128 ∨ 191 < x2 then 0 else 3 := by
  have e : Lib.firstT c = 3 := by
    unfold Lib.firstT
    (repeat' split) <;> omega
  unfold rnN
  rw [if_neg (by omega), e]
  simp only [Lib.checkN, Lib.accLo, Lib.accHi, Nat.reduceMod, Nat.reduceDiv, Nat.reduceEqDiff, if_false, if_true]
  split <;> rfl
theorem rnN_237 {n c x1 x2 x3 : Nat} (h1 : 237 ≤ c) (h2 : c < 238) : rnN n c x1 x2 x3 = if n < 3 ∨ x1 < 128 ∨ 159 < x1 ∨ x2 < 128 ∨ 191 < x2 then 0 else 3 := by
  have e : Lib.firstT c = 35 := by
    unfold Lib.firstT
    (repeat' split) <;> omega
  unfold rnN
  rw [if_neg (by omega), e]
  simp only [Lib.checkN, Lib.accLo, Lib.accHi, Nat.reduceMod, Nat.reduceDiv, Nat.reduceEqDiff, if_false, if_true]
  split <;> rfl
theorem rnN_238 {n c x1 x2 x3 : Nat} (h1 : 238 ≤ c) (h2 : c < 240) : rnN n c x1 x2 x3 = if n < 3 ∨ x1 < 128 ∨ 191 < x1 ∨ x2 < 128 ∨ 191 < x2 then 0 else 3 := by
  have e : Lib.firstT c = 3 := by
    unfold Lib.firstT
    (repeat' split) <;> omega
  unfold rnN
  rw [if_neg (by omega), e]
  simp only [Lib.checkN, Lib.accLo, Lib.accHi, Nat.reduceMod, Nat.reduceDiv, Nat.reduceEqDiff, if_false, if_true]
  split <;> rfl
theorem rnN_240 {n c x1 x2 x3 : Nat} (h1 : 240 ≤ c) (h2 : c < 241) : rnN n c x1 x2 x3 = if n < 4 ∨ x1 < 144 ∨ 191 < x1 ∨ x2 < 128 ∨ 191 < x2 ∨ x3 < 128 ∨ 191 < x3 then 0 else 4 := by
  have e : Lib.firstT c = 52 := by
    unfold Lib.firstT
    (repeat' split) <;> omega
  unfold rnN
  rw [if_neg (by omega), e]
  simp only [Lib.checkN, Lib.accLo, Lib.accHi, Nat.reduceMod, Nat.reduceDiv, Nat.reduceEqDiff, if_false, if_true]
  split <;> rfl
theorem rnN_241 {n c x1 x2 x3 : Nat} (h1 : 241 ≤ c) (h2 : c < 244) : rnN n c x1 x2 x3 = if n < 4 ∨ x1 < 128 ∨ 191 < x1 ∨ x2 < 128 ∨ 191 < x2 ∨ x3 < 128 ∨ 191 < x3 then 0 else 4 := by
  have e : Lib.firstT c = 4 := by
    unfold Lib.firstT
    (repeat' split) <;> omega
  unfold rnN
  rw [if_neg (by omega), e]
  simp only [Lib.checkN, Lib.accLo, Lib.accHi, Nat.reduceMod, Nat.reduceDiv, Nat.reduceEqDiff, if_false, if_true]
  split <;> rfl
theorem rnN_244 {n c x1 x2 x3 : Nat} (h1 : 244 ≤ c) (h2 : c < 245) : rnN n c x1 x2 x3 = if n < 4 ∨ x1 < 128 ∨ 143 < x1 ∨ x2 < 128 ∨ 191 < x2 ∨ x3 < 128 ∨ 191 < x3 then 0 else 4 := by
  have e : Lib.firstT c = 68 := by
    unfold Lib.firstT
    (repeat' split) <;> omega
  unfold rnN
  rw [if_neg (by omega), e]
  simp only [Lib.checkN, Lib.accLo, Lib.accHi, Nat.reduceMod, Nat.reduceDiv, Nat.reduceEqDiff, if_false, if_true]
  split <;> rfl
theorem rnN_245 {n c x1 x2 x3 : Nat} (h1 : 245 ≤ c) (h2 : c < 256) : rnN n c x1 x2 x3 = 0 := by
  have e : Lib.firstT c = 241 := by
    unfold Lib.firstT
    (repeat' split) <;> omega
  unfold rnN
  rw [if_neg (by omega), e]
  rfl
theorem rn_none {l : List Nat} (ho : ∀ x ∈ l, x < 256) (h1 : 128 ≤ l.getD 0 0) (h2 : l.getD 0 0 < 192 ∨ 248 ≤ l.getD 0 0) : rn l = 0 := by
  have := getD_oct ho 0
  unfold rn
  rcases h2 with h2 | h2
  · exact rnN_128 h1 (by omega)
  · exact rnN_245 (by omega) this
theorem rn_asc {l : List Nat} (h : l.getD 0 0 < 128) : rn l = 1 := by
  unfold rn rnN; rw [if_pos h]
theorem rnN2_short {n c x1 x2 x3 : Nat} (h1 : 192 ≤ c) (h2 : c < 224) (h : n < 2) : rnN n c x1 x2 x3 = 0 := by
  rcases (by omega : (192 ≤ c ∧ c < 194) ∨ (194 ≤ c ∧ c < 224)) with ⟨g1, g2⟩ | ⟨g1, g2⟩
  · rw [rnN_128 (by omega) (by omega)]
  · rw [rnN_194 g1 g2]; rw [if_pos (by omega)]
theorem rnN2_cont1 {n c x1 x2 x3 : Nat} (h1 : 192 ≤ c) (h2 : c < 224) (h : ¬ cont x1) : rnN n c x1 x2 x3 = 0 := by
  unfold cont at h
  rcases (by omega : (192 ≤ c ∧ c < 194) ∨ (194 ≤ c ∧ c < 224)) with ⟨g1, g2⟩ | ⟨g1, g2⟩
  · rw [rnN_128 (by omega) (by omega)]
  · rw [rnN_194 g1 g2]; rw [if_pos (by omega)]
theorem rnN2_off {n c x1 x2 x3 : Nat} (h1 : 192 ≤ c) (h2 : c < 224) (c1 : cont x1) (h : off_ (vv (c % 32) x1 x2 x3 2) 128) : rnN n c x1 x2 x3 = 0 := by
  unfold off_ vv at h
  unfold cont at c1
  simp only [Nat.reduceLeDiff, Nat.reduceEqDiff, if_false, if_true] at h
  rcases (by omega : (192 ≤ c ∧ c < 194) ∨ (194 ≤ c ∧ c < 224)) with ⟨g1, g2⟩ | ⟨g1, g2⟩
  · rw [rnN_128 (by omega) (by omega)]
  · rw [rnN_194 g1 g2]; rw [if_pos (by omega)]
theorem rnN2_yes {n c x1 x2 x3 : Nat} (h1 : 192 ≤ c) (h2 : c < 224) (hn : 2 ≤ n) (c1 : cont x1) (h : ¬ off_ (vv (c % 32) x1 x2 x3 2) 128) : rnN n c x1 x2 x3 = 2 := by
  unfold off_ vv at h
  unfold cont at c1
  simp only [Nat.reduceLeDiff, Nat.reduceEqDiff, if_false, if_true] at h
  rcases (by omega : (192 ≤ c ∧ c < 194) ∨ (194 ≤ c ∧ c < 224)) with ⟨g1, g2⟩ | ⟨g1, g2⟩
  · rw [rnN_128 (by omega) (by omega)]; omega
  · rw [rnN_194 g1 g2]; rw [if_neg (by omega)]
theorem rnN3_short {n c x1 x2 x3 : Nat} (h1 : 224 ≤ c) (h2 : c < 240) (h : n < 3) : rnN n c x1 x2 x3 = 0 := by
  rcases (by omega : (224 ≤ c ∧ c < 225) ∨ (225 ≤ c ∧ c < 237) ∨ (237 ≤ c ∧ c < 238) ∨ (238 ≤ c ∧ c < 240)) with ⟨g1, g2⟩ | ⟨g1, g2⟩ | ⟨g1, g2⟩ | ⟨g1, g2⟩
  · rw [rnN_224 g1 g2]; rw [if_pos (by omega)]
  · rw [rnN_225 g1 g2]; rw [if_pos (by omega)]
  · rw [rnN_237 g1 g2]; rw [if_pos (by omega)]
  · rw [rnN_238 g1 g2]; rw [if_pos (by omega)]
theorem rnN3_cont1 {n c x1 x2 x3 : Nat} (h1 : 224 ≤ c) (h2 : c < 240) (h : ¬ cont x1) : rnN n c x1 x2 x3 = 0 := by
  unfold cont at h
  rcases (by omega : (224 ≤ c ∧ c < 225) ∨ (225 ≤ c ∧ c < 237) ∨ (237 ≤ c ∧ c < 238) ∨ (238 ≤ c ∧ c < 240)) with ⟨g1, g2⟩ | ⟨g1, g2⟩ | ⟨g1, g2⟩ | ⟨g1, g2⟩
  · rw [rnN_224 g1 g2]; rw [if_pos (by omega)]
  · rw [rnN_225 g1 g2]; rw [if_pos (by omega)]
  · rw [rnN_237 g1 g2]; rw [if_pos (by omega)]
  · rw [rnN_238 g1 g2]; rw [if_pos (by omega)]
theorem rnN3_cont2 {n c x1 x2 x3 : Nat} (h1 : 224 ≤ c) (h2 : c < 240) (h : ¬ cont x2) : rnN n c x1 x2 x3 = 0 := by
  unfold cont at h
  rcases (by omega : (224 ≤ c ∧ c < 225) ∨ (225 ≤ c ∧ c < 237) ∨ (237 ≤ c ∧ c < 238) ∨ (238 ≤ c ∧ c < 240)) with ⟨g1, g2⟩ | ⟨g1, g2⟩ | ⟨g1, g2⟩ | ⟨g1, g2⟩
  · rw [rnN_224 g1 g2]; rw [if_pos (by omega)]
  · rw [rnN_225 g1 g2]; rw [if_pos (by omega)]
  · rw [rnN_237 g1 g2]; rw [if_pos (by omega)]
  · rw [rnN_238 g1 g2]; rw [if_pos (by omega)]
theorem rnN3_off {n c x1 x2 x3 : Nat} (h1 : 224 ≤ c) (h2 : c < 240) (c1 : cont x1) (c2 : cont x2) (h : off_ (vv (c % 16) x1 x2 x3 3) 2048) : rnN n c x1 x2 x3 = 0 := by
  unfold off_ vv at h
  unfold cont at c1 c2
  simp only [Nat.reduceLeDiff, Nat.reduceEqDiff, if_false, if_true] at h
  rcases (by omega : (224 ≤ c ∧ c < 225) ∨ (225 ≤ c ∧ c < 237) ∨ (237 ≤ c ∧ c < 238) ∨ (238 ≤ c ∧ c < 240)) with ⟨g1, g2⟩ | ⟨g1, g2⟩ | ⟨g1, g2⟩ | ⟨g1, g2⟩
  · rw [rnN_224 g1 g2]; rw [if_pos (by omega)]
  · rw [rnN_225 g1 g2]; rw [if_pos (by omega)]
  · rw [rnN_237 g1 g2]; rw [if_pos (by omega)]
  · rw [rnN_238 g1 g2]; rw [if_pos (by omega)]
theorem rnN3_yes {n c x1 x2 x3 : Nat} (h1 : 224 ≤ c) (h2 : c < 240) (hn : 3 ≤ n) (c1 : cont x1) (c2 : cont x2) (h : ¬ off_ (vv (c % 16) x1 x2 x3 3) 2048) : rnN n c x1 x2 x3 = 3 := by
  unfold off_ vv at h
  unfold cont at c1 c2
  simp only [Nat.reduceLeDiff, Nat.reduceEqDiff, if_false, if_true] at h
  rcases (by omega : (224 ≤ c ∧ c < 225) ∨ (225 ≤ c ∧ c < 237) ∨ (237 ≤ c ∧ c < 238) ∨ (238 ≤ c ∧ c < 240)) with ⟨g1, g2⟩ | ⟨g1, g2⟩ | ⟨g1, g2⟩ | ⟨g1, g2⟩
  · rw [rnN_224 g1 g2]; rw [if_neg (by omega)]
  · rw [rnN_225 g1 g2]; rw [if_neg (by omega)]
  · rw [rnN_237 g1 g2]; rw [if_neg (by omega)]
  · rw [rnN_238 g1 g2]; rw [if_neg (by omega)]
theorem rnN4_short {n c x1 x2 x3 : Nat} (h1 : 240 ≤ c) (h2 : c < 248) (h : n < 4) : rnN n c x1 x2 x3 = 0 := by
  rcases (by omega : (240 ≤ c ∧ c < 241) ∨ (241 ≤ c ∧ c < 244) ∨ (244 ≤ c ∧ c < 245) ∨ (245 ≤ c ∧ c < 248)) with ⟨g1, g2⟩ | ⟨g1, g2⟩ | ⟨g1, g2⟩ | ⟨g1, g2⟩
  · rw [rnN_240 g1 g2]; rw [if_pos (by omega)]
  · rw [rnN_241 g1 g2]; rw [if_pos (by omega)]
  · rw [rnN_244 g1 g2]; rw [if_pos (by omega)]
  · rw [rnN_245 (by omega) (by omega)]
theorem rnN4_cont1 {n c x1 x2 x3 : Nat} (h1 : 240 ≤ c) (h2 : c < 248) (h : ¬ cont x1) : rnN n c x1 x2 x3 = 0 := by
  unfold cont at h
  rcases (by omega : (240 ≤ c ∧ c < 241) ∨ (241 ≤ c ∧ c < 244) ∨ (244 ≤ c ∧ c < 245) ∨ (245 ≤ c ∧ c < 248)) with ⟨g1, g2⟩ | ⟨g1, g2⟩ | ⟨g1, g2⟩ | ⟨g1, g2⟩
  · rw [rnN_240 g1 g2]; rw [if_pos (by omega)]
  · rw [rnN_241 g1 g2]; rw [if_pos (by omega)]
  · rw [rnN_244 g1 g2]; rw [if_pos (by omega)]
  · rw [rnN_245 (by omega) (by omega)]
theorem rnN4_cont2 {n c x1 x2 x3 : Nat} (h1 : 240 ≤ c) (h2 : c < 248) (h : ¬ cont x2) : rnN n c x1 x2 x3 = 0 := by
  unfold cont at h
  rcases (by omega : (240 ≤ c ∧ c < 241) ∨ (241 ≤ c ∧ c < 244) ∨ (244 ≤ c ∧ c < 245) ∨ (245 ≤ c ∧ c < 248)) with ⟨g1, g2⟩ | ⟨g1, g2⟩ | ⟨g1, g2⟩ | ⟨g1, g2⟩
  · rw [rnN_240 g1 g2]; rw [if_pos (by omega)]
  · rw [rnN_241 g1 g2]; rw [if_pos (by omega)]
  · rw [rnN_244 g1 g2]; rw [if_pos (by omega)]
  · rw [rnN_245 (by omega) (by omega)]
theorem rnN4_cont3 {n c x1 x2 x3 : Nat} (h1 : 240 ≤ c) (h2 : c < 248) (h : ¬ cont x3) : rnN n c x1 x2 x3 = 0 := by
  unfold cont at h
  rcases (by omega : (240 ≤ c ∧ c < 241) ∨ (241 ≤ c ∧ c < 244) ∨ (244 ≤ c ∧ c < 245) ∨ (245 ≤ c ∧ c < 248)) with ⟨g1, g2⟩ | ⟨g1, g2⟩ | ⟨g1, g2⟩ | ⟨g1, g2⟩
  · rw [rnN_240 g1 g2]; rw [if_pos (by omega)]
  · rw [rnN_241 g1 g2]; rw [if_pos (by omega)]
  · rw [rnN_244 g1 g2]; rw [if_pos (by omega)]
  · rw [rnN_245 (by omega) (by omega)]
theorem rnN4_off {n c x1 x2 x3 : Nat} (h1 : 240 ≤ c) (h2 : c < 248) (c1 : cont x1) (c2 : cont x2) (c3 : cont x3) (h : off_ (vv (c % 8) x1 x2 x3 4) 65536) : rnN n c x1 x2 x3 = 0 := by
  unfold off_ vv at h
  unfold cont at c1 c2 c3
  simp only [Nat.reduceLeDiff, Nat.reduceEqDiff, if_false, if_true] at h
  rcases (by omega : (240 ≤ c ∧ c < 241) ∨ (241 ≤ c ∧ c < 244) ∨ (244 ≤ c ∧ c < 245) ∨ (245 ≤ c ∧ c < 248)) with ⟨g1, g2⟩ | ⟨g1, g2⟩ | ⟨g1, g2⟩ | ⟨g1, g2⟩
  · rw [rnN_240 g1 g2]; rw [if_pos (by omega)]
  · rw [rnN_241 g1 g2]; rw [if_pos (by omega)]
  · rw [rnN_244 g1 g2]; rw [if_pos (by omega)]
  · rw [rnN_245 (by omega) (by omega)]
theorem rnN4_yes {n c x1 x2 x3 : Nat} (h1 : 240 ≤ c) (h2 : c < 248) (hn : 4 ≤ n) (c1 : cont x1) (c2 : cont x2) (c3 : cont x3) (h : ¬ off_ (vv (c % 8) x1 x2 x3 4) 65536) : rnN n c x1 x2 x3 = 4 := by
  unfold off_ vv at h
  unfold cont at c1 c2 c3
  simp only [Nat.reduceLeDiff, Nat.reduceEqDiff, if_false, if_true] at h
  rcases (by omega : (240 ≤ c ∧ c < 241) ∨ (241 ≤ c ∧ c < 244) ∨ (244 ≤ c ∧ c < 245) ∨ (245 ≤ c ∧ c < 248)) with ⟨g1, g2⟩ | ⟨g1, g2⟩ | ⟨g1, g2⟩ | ⟨g1, g2⟩
  · rw [rnN_240 g1 g2]; rw [if_neg (by omega)]
  · rw [rnN_241 g1 g2]; rw [if_neg (by omega)]
  · rw [rnN_244 g1 g2]; rw [if_neg (by omega)]
  · rw [rnN_245 (by omega) (by omega)]; omega
end Go.Proofs.YtbkjjhpnjfdlbaaGreatDoor
