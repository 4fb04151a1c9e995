/-
  Text, by the document: one rune, and all of them. One rune, by the document's own text. Text: is it one, by the document; a text's thing, by atom and by the document; a thing's text. A text's thing by the document; a thing's text, digits, truth, by atom; a thing of digits, by both.
-/
import Derived.Test.YtdjklhglkmacbaaDoorU2
import Derived.Deep.LoopGhost
import Derived.BigQuiet
import Derived.Below
import Derived.Test.YtdjklhglkmacbaaDoorU4
import Derived.Test.YtdjklhglkmacbaaDoorThM
namespace Go.Proofs.YtdjklhglkmacbaaDoor
open Go.RowKit BigFrame
set_option linter.unusedVariables false
set_option linter.unusedSimpArgs false
attribute [local go_sem ↓] Go.wp_at_zero Go.wp_at_succ

def rnN (n c x1 x2 x3 : Nat) : Nat := if c < 128 then 1 else (Lib.checkN n x1 x2 x3 (Lib.firstT c % 8) (Lib.accLo (Lib.firstT c / 16)) (Lib.accHi (Lib.firstT c / 16))).getD 0
/-- How many bytes the first rune has; 0: it is none. -/
def rn (l : List Nat) : Nat := rnN l.length (l.getD 0 0) (l.getD 1 0) (l.getD 2 0) (l.getD 3 0)
theorem check_le {n b1 b2 b3 sz lo hi k : Nat} (h : Lib.checkN n b1 b2 b3 sz lo hi = some k) : 0 < k ∧ k ≤ n := by
  unfold Lib.checkN at h
  repeat' split at h
  all_goals first | (injection h with h; omega) | cases h
theorem rn_no {l : List Nat} (ho : ∀ x ∈ l, x < 256) (hl : 0 < l.length) (h : rn l = 0) : vd l = false := by
  unfold rn rnN at h
  split at h
  · omega
  · rename_i h0
    rw [vd_lead l ho (by omega)]
    rcases hc : Lib.checkN l.length (l.getD 1 0) (l.getD 2 0) (l.getD 3 0) (Lib.firstT (l.getD 0 0) % 8) (Lib.accLo (Lib.firstT (l.getD 0 0) / 16)) (Lib.accHi (Lib.firstT (l.getD 0 0) / 16)) with _ | k
    · rfl
    · rw [hc] at h
      have := check_le hc
      simp at h
      omega
theorem rn_yes {l : List Nat} (ho : ∀ x ∈ l, x < 256) (hl : 0 < l.length) (h : rn l ≠ 0) : rn l ≤ l.length ∧ vd (l.drop (rn l)) = vd l := by
  unfold rn rnN at h ⊢
  split at h
  · rename_i h0
    rw [if_pos h0]
    refine ⟨hl, vd_skip 1 l ho fun x hx => ?_⟩
    rcases l with _ | ⟨y, t⟩
    · simp at hl
    · have : x = y := by simpa using hx
      subst this
      exact h0
  · rename_i h0
    rw [if_neg h0]
    rw [vd_lead l ho (by omega)]
    rcases hc : Lib.checkN l.length (l.getD 1 0) (l.getD 2 0) (l.getD 3 0) (Lib.firstT (l.getD 0 0) % 8) (Lib.accLo (Lib.firstT (l.getD 0 0) / 16)) (Lib.accHi (Lib.firstT (l.getD 0 0) / 16)) with _ | k
    · rw [hc] at h
      simp at h
    · exact ⟨(check_le hc).2, rfl⟩
/-- Is it a byte that goes on? -/
def cont (x : Nat) : Prop := 128 ≤ x ∧ x < 192
/-- A rune's number, by its bytes. -/
def vv (v0 x1 x2 x3 k : Nat) : Nat := if k ≤ 1 then v0 else if k = 2 then v0 * 64 + x1 % 64 else if k = 3 then (v0 * 64 + x1 % 64) * 64 + x2 % 64 else ((v0 * 64 + x1 % 64) * 64 + x2 % 64) * 64 + x3 % 64
/-- .. that is no rune's. -/
def off_ (v least : Nat) : Prop := v < least ∨ 1114111 < v ∨ (55296 ≤ v ∧ v ≤ 57343)
theorem u8and63 : ∀ X : Fin 256, bits .and .u8 ((X.val : Nat) : Int) 63 = ((X.val % 64 : Nat) : Int) := by decide +kernel
theorem u8and31 : ∀ X : Fin 256, bits .and .u8 ((X.val : Nat) : Int) 31 = ((X.val % 32 : Nat) : Int) := by decide +kernel
theorem u8and15 : ∀ X : Fin 256, bits .and .u8 ((X.val : Nat) : Int) 15 = ((X.val % 16 : Nat) : Int) := by decide +kernel
theorem u8and07 : ∀ X : Fin 256, bits .and .u8 ((X.val : Nat) : Int) 7 = ((X.val % 8 : Nat) : Int) := by decide +kernel
theorem get_at (l : List Nat) (ho : ∀ x ∈ l, x < 256) (t : ByteArray) (ht : str l = t) (j : Nat) (hj : j < t.size) : ∃ x : UInt8, t[j]'hj = x ∧ x.toNat = l.getD j 0 := by
  refine ⟨_, rfl, ?_⟩
  subst ht
  rw [str_len] at hj
  have : (str l)[j] = (l.map UInt8.ofNat)[j]'(by simpa using hj) := by
    show ((l.map UInt8.ofNat).toArray)[j]'(by simpa using hj) = _
    rw [List.getElem_toArray]
  rw [this, List.getElem_map, u8_nat (ho _ (List.getElem_mem hj))]
  simp [List.getD, hj]
theorem rnN_128 {n c x1 x2 x3 : Nat} (h1 : 128 ≤ c) (h2 : c < 194) : rnN n c x1 x2 x3 = 0 := by
  have e : Lib.firstT c = 241 := by
    unfold Lib.firstT
    (repeat' split) <;> omega
  unfold rnN
  rw [if_neg (by omega), e]
  rfl
theorem rnN_194 {n c x1 x2 x3 : Nat} (h1 : 194 ≤ c) (h2 : c < 224) : rnN n c x1 x2 x3 = if n < 2 ∨ x1 < 128 ∨ 191 < x1 then 0 else 2 := by
  have e : Lib.firstT c = 2 := by
    unfold Lib.firstT
    (repeat' split) <;> omega
  unfold rnN
  rw [if_neg (by omega), e]
  simp only [Lib.checkN, Lib.accLo, Lib.accHi, Nat.reduceMod, Nat.reduceDiv, Nat.reduceEqDiff, if_false, if_true]
  split <;> rfl
theorem rnN_224 {n c x1 x2 x3 : Nat} (h1 : 224 ≤ c) (h2 : c < 225) : rnN n c x1 x2 x3 = if n < 3 ∨ x1 < 160 ∨ 191 < x1 ∨ x2 < 128 ∨ 191 < x2 then 0 else 3 := by
  have e : Lib.firstT c = 19 := by
    unfold Lib.firstT
    (repeat' split) <;> omega
  unfold rnN
  rw [if_neg (by omega), e]
  simp only [Lib.checkN, Lib.accLo, Lib.accHi, Nat.reduceMod, Nat.reduceDiv, Nat.reduceEqDiff, if_false, if_true]
  split <;> rfl
theorem rnN_225 {n c x1 x2 x3 : Nat} (h1 : 225 ≤ c) (h2 : c < 237) : rnN n c x1 x2 x3 = if n < 3 ∨ x1 < 128 ∨ 191 < x1 ∨ x2 < 128 ∨ 191 < x2 then 0 else 3 := by
  have e : Lib.firstT c = 3 := by
    unfold Lib.firstT
    (repeat' split) <;> omega
  unfold rnN
  rw [if_neg (by omega), e]
  simp only [Lib.checkN, Lib.accLo, Lib.accHi, Nat.reduceMod, Nat.reduceDiv, Nat.reduceEqDiff, if_false, if_true]
  split <;> rfl
theorem rnN_237 {n c x1 x2 x3 : Nat} (h1 : 237 ≤ c) (h2 : c < 238) : rnN n c x1 x2 x3 = if n < 3 ∨ x1 < 128 ∨ 159 < x1 ∨ x2 < 128 ∨ 191 < x2 then 0 else 3 := by
  have e : Lib.firstT c = 35 := by
    unfold Lib.firstT
    (repeat' split) <;> omega
  unfold rnN
  rw [if_neg (by omega), e]
  simp only [Lib.checkN, Lib.accLo, Lib.accHi, Nat.reduceMod, Nat.reduceDiv, Nat.reduceEqDiff, if_false, if_true]
  split <;> rfl
theorem rnN_238 {n c x1 x2 x3 : Nat} (h1 : 238 ≤ c) (h2 : c < 240) : rnN n c x1 x2 x3 = if n < 3 ∨ x1 < 128 ∨ 191 < x1 ∨ x2 < 128 ∨ 191 < x2 then 0 else 3 := by
  have e : Lib.firstT c = 3 := by
    unfold Lib.firstT
    (repeat' split) <;> omega
  unfold rnN
  rw [if_neg (by omega), e]
  simp only [Lib.checkN, Lib.accLo, Lib.accHi, Nat.reduceMod, Nat.reduceDiv, Nat.reduceEqDiff, if_false, if_true]
  split <;> rfl
theorem rnN_240 {n c x1 x2 x3 : Nat} (h1 : 240 ≤ c) (h2 : c < 241) : rnN n c x1 x2 x3 = if n < 4 ∨ x1 < 144 ∨ 191 < x1 ∨ x2 < 128 ∨ 191 < x2 ∨ x3 < 128 ∨ 191 < x3 then 0 else 4 := by
  have e : Lib.firstT c = 52 := by
    unfold Lib.firstT
    (repeat' split) <;> omega
  unfold rnN
  rw [if_neg (by omega), e]
  simp only [Lib.checkN, Lib.accLo, Lib.accHi, Nat.reduceMod, Nat.reduceDiv, Nat.reduceEqDiff, if_false, if_true]
  split <;> rfl
theorem rnN_241 {n c x1 x2 x3 : Nat} (h1 : 241 ≤ c) (h2 : c < 244) : rnN n c x1 x2 x3 = if n < 4 ∨ x1 < 128 ∨ 191 < x1 ∨ x2 < 128 ∨ 191 < x2 ∨ x3 < 128 ∨ 191 < x3 then 0 else 4 := by
  have e : Lib.firstT c = 4 := by
    unfold Lib.firstT
    (repeat' split) <;> omega
  unfold rnN
  rw [if_neg (by omega), e]
  simp only [Lib.checkN, Lib.accLo, Lib.accHi, Nat.reduceMod, Nat.reduceDiv, Nat.reduceEqDiff, if_false, if_true]
  split <;> rfl
theorem rnN_244 {n c x1 x2 x3 : Nat} (h1 : 244 ≤ c) (h2 : c < 245) : rnN n c x1 x2 x3 = if n < 4 ∨ x1 < 128 ∨ 143 < x1 ∨ x2 < 128 ∨ 191 < x2 ∨ x3 < 128 ∨ 191 < x3 then 0 else 4 := by
  have e : Lib.firstT c = 68 := by
    unfold Lib.firstT
    (repeat' split) <;> omega
  unfold rnN
  rw [if_neg (by omega), e]
  simp only [Lib.checkN, Lib.accLo, Lib.accHi, Nat.reduceMod, Nat.reduceDiv, Nat.reduceEqDiff, if_false, if_true]
  split <;> rfl
theorem rnN_245 {n c x1 x2 x3 : Nat} (h1 : 245 ≤ c) (h2 : c < 256) : rnN n c x1 x2 x3 = 0 := by
  have e : Lib.firstT c = 241 := by
    unfold Lib.firstT
    (repeat' split) <;> omega
  unfold rnN
  rw [if_neg (by omega), e]
  rfl
theorem rn_none {l : List Nat} (ho : ∀ x ∈ l, x < 256) (h1 : 128 ≤ l.getD 0 0) (h2 : l.getD 0 0 < 192 ∨ 248 ≤ l.getD 0 0) : rn l = 0 := by
  have := getD_oct ho 0
  unfold rn
  rcases h2 with h2 | h2
  · exact rnN_128 h1 (by omega)
  · exact rnN_245 (by omega) this
theorem rn_asc {l : List Nat} (h : l.getD 0 0 < 128) : rn l = 1 := by
  unfold rn rnN; rw [if_pos h]
theorem rnN2_short {n c x1 x2 x3 : Nat} (h1 : 192 ≤ c) (h2 : c < 224) (h : n < 2) : rnN n c x1 x2 x3 = 0 := by
  rcases (by omega : (192 ≤ c ∧ c < 194) ∨ (194 ≤ c ∧ c < 224)) with ⟨g1, g2⟩ | ⟨g1, g2⟩
  · rw [rnN_128 (by omega) (by omega)]
  · rw [rnN_194 g1 g2]; rw [if_pos (by omega)]
theorem rnN2_cont1 {n c x1 x2 x3 : Nat} (h1 : 192 ≤ c) (h2 : c < 224) (h : ¬ cont x1) : rnN n c x1 x2 x3 = 0 := by
  unfold cont at h
  rcases (by omega : (192 ≤ c ∧ c < 194) ∨ (194 ≤ c ∧ c < 224)) with ⟨g1, g2⟩ | ⟨g1, g2⟩
  · rw [rnN_128 (by omega) (by omega)]
  · rw [rnN_194 g1 g2]; rw [if_pos (by omega)]
theorem rnN2_off {n c x1 x2 x3 : Nat} (h1 : 192 ≤ c) (h2 : c < 224) (c1 : cont x1) (h : off_ (vv (c % 32) x1 x2 x3 2) 128) : rnN n c x1 x2 x3 = 0 := by
  unfold off_ vv at h
  unfold cont at c1
  simp only [Nat.reduceLeDiff, Nat.reduceEqDiff, if_false, if_true] at h
  rcases (by omega : (192 ≤ c ∧ c < 194) ∨ (194 ≤ c ∧ c < 224)) with ⟨g1, g2⟩ | ⟨g1, g2⟩
  · rw [rnN_128 (by omega) (by omega)]
  · rw [rnN_194 g1 g2]; rw [if_pos (by omega)]
theorem rnN2_yes {n c x1 x2 x3 : Nat} (h1 : 192 ≤ c) (h2 : c < 224) (hn : 2 ≤ n) (c1 : cont x1) (h : ¬ off_ (vv (c % 32) x1 x2 x3 2) 128) : rnN n c x1 x2 x3 = 2 := by
  unfold off_ vv at h
  unfold cont at c1
  simp only [Nat.reduceLeDiff, Nat.reduceEqDiff, if_false, if_true] at h
  rcases (by omega : (192 ≤ c ∧ c < 194) ∨ (194 ≤ c ∧ c < 224)) with ⟨g1, g2⟩ | ⟨g1, g2⟩
  · rw [rnN_128 (by omega) (by omega)]; omega
  · rw [rnN_194 g1 g2]; rw [if_neg (by omega)]
theorem rnN3_short {n c x1 x2 x3 : Nat} (h1 : 224 ≤ c) (h2 : c < 240) (h : n < 3) : rnN n c x1 x2 x3 = 0 := by
  rcases (by omega : (224 ≤ c ∧ c < 225) ∨ (225 ≤ c ∧ c < 237) ∨ (237 ≤ c ∧ c < 238) ∨ (238 ≤ c ∧ c < 240)) with ⟨g1, g2⟩ | ⟨g1, g2⟩ | ⟨g1, g2⟩ | ⟨g1, g2⟩
  · rw [rnN_224 g1 g2]; rw [if_pos (by omega)]
  · rw [rnN_225 g1 g2]; rw [if_pos (by omega)]
  · rw [rnN_237 g1 g2]; rw [if_pos (by omega)]
  · rw [rnN_238 g1 g2]; rw [if_pos (by omega)]
theorem rnN3_cont1 {n c x1 x2 x3 : Nat} (h1 : 224 ≤ c) (h2 : c < 240) (h : ¬ cont x1) : rnN n c x1 x2 x3 = 0 := by
  unfold cont at h
  rcases (by omega : (224 ≤ c ∧ c < 225) ∨ (225 ≤ c ∧ c < 237) ∨ (237 ≤ c ∧ c < 238) ∨ (238 ≤ c ∧ c < 240)) with ⟨g1, g2⟩ | ⟨g1, g2⟩ | ⟨g1, g2⟩ | ⟨g1, g2⟩
  · rw [rnN_224 g1 g2]; rw [if_pos (by omega)]
  · rw [rnN_225 g1 g2]; rw [if_pos (by omega)]
  · rw [rnN_237 g1 g2]; rw [if_pos (by omega)]
  · rw [rnN_238 g1 g2]; rw [if_pos (by omega)]
theorem rnN3_cont2 {n c x1 x2 x3 : Nat} (h1 : 224 ≤ c) (h2 : c < 240) (h : ¬ cont x2) : rnN n c x1 x2 x3 = 0 := by
  unfold cont at h
  rcases (by omega : (224 ≤ c ∧ c < 225) ∨ (225 ≤ c ∧ c < 237) ∨ (237 ≤ c ∧ c < 238) ∨ (238 ≤ c ∧ c < 240)) with ⟨g1, g2⟩ | ⟨g1, g2⟩ | ⟨g1, g2⟩ | ⟨g1, g2⟩
  · rw [rnN_224 g1 g2]; rw [if_pos (by omega)]
  · rw [rnN_225 g1 g2]; rw [if_pos (by omega)]
  · rw [rnN_237 g1 g2]; rw [if_pos (by omega)]
  · rw [rnN_238 g1 g2]; rw [if_pos (by omega)]
theorem rnN3_off {n c x1 x2 x3 : Nat} (h1 : 224 ≤ c) (h2 : c < 240) (c1 : cont x1) (c2 : cont x2) (h : off_ (vv (c % 16) x1 x2 x3 3) 2048) : rnN n c x1 x2 x3 = 0 := by
  unfold off_ vv at h
  unfold cont at c1 c2
  simp only [Nat.reduceLeDiff, Nat.reduceEqDiff, if_false, if_true] at h
  rcases (by omega : (224 ≤ c ∧ c < 225) ∨ (225 ≤ c ∧ c < 237) ∨ (237 ≤ c ∧ c < 238) ∨ (238 ≤ c ∧ c < 240)) with ⟨g1, g2⟩ | ⟨g1, g2⟩ | ⟨g1, g2⟩ | ⟨g1, g2⟩
  · rw [rnN_224 g1 g2]; rw [if_pos (by omega)]
  · rw [rnN_225 g1 g2]; rw [if_pos (by omega)]
  · rw [rnN_237 g1 g2]; rw [if_pos (by omega)]
  · rw [rnN_238 g1 g2]; rw [if_pos (by omega)]
theorem rnN3_yes {n c x1 x2 x3 : Nat} (h1 : 224 ≤ c) (h2 : c < 240) (hn : 3 ≤ n) (c1 : cont x1) (c2 : cont x2) (h : ¬ off_ (vv (c % 16) x1 x2 x3 3) 2048) : rnN n c x1 x2 x3 = 3 := by
  unfold off_ vv at h
  unfold cont at c1 c2
  simp only [Nat.reduceLeDiff, Nat.reduceEqDiff, if_false, if_true] at h
  rcases (by omega : (224 ≤ c ∧ c < 225) ∨ (225 ≤ c ∧ c < 237) ∨ (237 ≤ c ∧ c < 238) ∨ (238 ≤ c ∧ c < 240)) with ⟨g1, g2⟩ | ⟨g1, g2⟩ | ⟨g1, g2⟩ | ⟨g1, g2⟩
  · rw [rnN_224 g1 g2]; rw [if_neg (by omega)]
  · rw [rnN_225 g1 g2]; rw [if_neg (by omega)]
  · rw [rnN_237 g1 g2]; rw [if_neg (by omega)]
  · rw [rnN_238 g1 g2]; rw [if_neg (by omega)]
theorem rnN4_short {n c x1 x2 x3 : Nat} (h1 : 240 ≤ c) (h2 : c < 248) (h : n < 4) : rnN n c x1 x2 x3 = 0 := by
  rcases (by omega : (240 ≤ c ∧ c < 241) ∨ (241 ≤ c ∧ c < 244) ∨ (244 ≤ c ∧ c < 245) ∨ (245 ≤ c ∧ c < 248)) with ⟨g1, g2⟩ | ⟨g1, g2⟩ | ⟨g1, g2⟩ | ⟨g1, g2⟩
  · rw [rnN_240 g1 g2]; rw [if_pos (by omega)]
  · rw [rnN_241 g1 g2]; rw [if_pos (by omega)]
  · rw [rnN_244 g1 g2]; rw [if_pos (by omega)]
  · rw [rnN_245 (by omega) (by omega)]
theorem rnN4_cont1 {n c x1 x2 x3 : Nat} (h1 : 240 ≤ c) (h2 : c < 248) (h : ¬ cont x1) : rnN n c x1 x2 x3 = 0 := by
  unfold cont at h
  rcases (by omega : (240 ≤ c ∧ c < 241) ∨ (241 ≤ c ∧ c < 244) ∨ (244 ≤ c ∧ c < 245) ∨ (245 ≤ c ∧ c < 248)) with ⟨g1, g2⟩ | ⟨g1, g2⟩ | ⟨g1, g2⟩ | ⟨g1, g2⟩
  · rw [rnN_240 g1 g2]; rw [if_pos (by omega)]
  · rw [rnN_241 g1 g2]; rw [if_pos (by omega)]
  · rw [rnN_244 g1 g2]; rw [if_pos (by omega)]
  · rw [rnN_245 (by omega) (by omega)]
theorem rnN4_cont2 {n c x1 x2 x3 : Nat} (h1 : 240 ≤ c) (h2 : c < 248) (h : ¬ cont x2) : rnN n c x1 x2 x3 = 0 := by
  unfold cont at h
  rcases (by omega : (240 ≤ c ∧ c < 241) ∨ (241 ≤ c ∧ c < 244) ∨ (244 ≤ c ∧ c < 245) ∨ (245 ≤ c ∧ c < 248)) with ⟨g1, g2⟩ | ⟨g1, g2⟩ | ⟨g1, g2⟩ | ⟨g1, g2⟩
  · rw [rnN_240 g1 g2]; rw [if_pos (by omega)]
  · rw [rnN_241 g1 g2]; rw [if_pos (by omega)]
  · rw [rnN_244 g1 g2]; rw [if_pos (by omega)]
  · rw [rnN_245 (by omega) (by omega)]
theorem rnN4_cont3 {n c x1 x2 x3 : Nat} (h1 : 240 ≤ c) (h2 : c < 248) (h : ¬ cont x3) : rnN n c x1 x2 x3 = 0 := by
  unfold cont at h
  rcases (by omega : (240 ≤ c ∧ c < 241) ∨ (241 ≤ c ∧ c < 244) ∨ (244 ≤ c ∧ c < 245) ∨ (245 ≤ c ∧ c < 248)) with ⟨g1, g2⟩ | ⟨g1, g2⟩ | ⟨g1, g2⟩ | ⟨g1, g2⟩
  · rw [rnN_240 g1 g2]; rw [if_pos (by omega)]
  · rw [rnN_241 g1 g2]; rw [if_pos (by omega)]
  · rw [rnN_244 g1 g2]; rw [if_pos (by omega)]
  · rw [rnN_245 (by omega) (by omega)]
theorem rnN4_off {n c x1 x2 x3 : Nat} (h1 : 240 ≤ c) (h2 : c < 248) (c1 : cont x1) (c2 : cont x2) (c3 : cont x3) (h : off_ (vv (c % 8) x1 x2 x3 4) 65536) : rnN n c x1 x2 x3 = 0 := by
  unfold off_ vv at h
  unfold cont at c1 c2 c3
  simp only [Nat.reduceLeDiff, Nat.reduceEqDiff, if_false, if_true] at h
  rcases (by omega : (240 ≤ c ∧ c < 241) ∨ (241 ≤ c ∧ c < 244) ∨ (244 ≤ c ∧ c < 245) ∨ (245 ≤ c ∧ c < 248)) with ⟨g1, g2⟩ | ⟨g1, g2⟩ | ⟨g1, g2⟩ | ⟨g1, g2⟩
  · rw [rnN_240 g1 g2]; rw [if_pos (by omega)]
  · rw [rnN_241 g1 g2]; rw [if_pos (by omega)]
  · rw [rnN_244 g1 g2]; rw [if_pos (by omega)]
  · rw [rnN_245 (by omega) (by omega)]
theorem rnN4_yes {n c x1 x2 x3 : Nat} (h1 : 240 ≤ c) (h2 : c < 248) (hn : 4 ≤ n) (c1 : cont x1) (c2 : cont x2) (c3 : cont x3) (h : ¬ off_ (vv (c % 8) x1 x2 x3 4) 65536) : rnN n c x1 x2 x3 = 4 := by
  unfold off_ vv at h
  unfold cont at c1 c2 c3
  simp only [Nat.reduceLeDiff, Nat.reduceEqDiff, if_false, if_true] at h
  rcases (by omega : (240 ≤ c ∧ c < 241) ∨ (241 ≤ c ∧ c < 244) ∨ (244 ≤ c ∧ c < 245) ∨ (245 ≤ c ∧ c < 248)) with ⟨g1, g2⟩ | ⟨g1, g2⟩ | ⟨g1, g2⟩ | ⟨g1, g2⟩
  · rw [rnN_240 g1 g2]; rw [if_neg (by omega)]
  · rw [rnN_241 g1 g2]; rw [if_neg (by omega)]
  · rw [rnN_244 g1 g2]; rw [if_neg (by omega)]
  · rw [rnN_245 (by omega) (by omega)]; omega
end Go.Proofs.YtdjklhglkmacbaaDoor
namespace Go.Proofs.YtdjklhglkmacbaaDoor
open Go.RowKit BigFrame
set_option linter.unusedVariables false
set_option linter.unusedSimpArgs false
attribute [local go_sem ↓] Go.wp_at_zero Go.wp_at_succ

theorem vv_lt {v0 x1 x2 x3 k : Nat} (h : v0 < 32) : vv v0 x1 x2 x3 k < 8388608 := by
  unfold vv
  have := Nat.mod_lt x1 (show 0 < 64 by omega)
  have := Nat.mod_lt x2 (show 0 < 64 by omega)
  have := Nat.mod_lt x3 (show 0 < 64 by omega)
  (repeat' split) <;> omega
theorem vv_succ (v0 x1 x2 x3 k : Nat) (h1 : 1 ≤ k) (h3 : k ≤ 3) : vv v0 x1 x2 x3 (k + 1) = vv v0 x1 x2 x3 k * 64 + (if k = 1 then x1 else if k = 2 then x2 else x3) % 64 := by
  rcases (by omega : k = 1 ∨ k = 2 ∨ k = 3) with rfl | rfl | rfl <;> rfl
def RunePost (w : World) (r : Nat) (e : Ending) (w' : World) : Prop := e = .returned (.int .i64 (r : Int)) ∧ Below w.heap.size w w'
theorem RunePost.of {w w' : World} {r k : Nat} {e : Ending} (h : e = .returned (.int .i64 (k : Int))) (hr : r = k) (hb : Below w.heap.size w w') : RunePost w r e w' := ⟨by rw [h, hr], hb⟩
set_option maxRecDepth 1000000 in
set_option maxHeartbeats 4000000 in
theorem rune1_asc (w : World) (l : List Nat) (ho : ∀ x ∈ l, x < 256) (hl : 0 < l.length) (h1 : l.getD 0 0 < 128) :
    Calls Tryd.prog 68 #[.string (str l)] w (RunePost w (rn l)) := by
  have HR := Lib.hid (rn_asc h1)
  obtain ⟨t, ht⟩ : ∃ t, str l = t := ⟨_, rfl⟩
  have hsz : 0 < t.size := by rw [← ht, str_len]; exact hl
  obtain ⟨x0, hs0, hc⟩ := get_at l ho t ht 0 hsz
  have hsz' : (0 : Int) < (t.size : Int) := by omega
  obtain ⟨c, hcc⟩ : ∃ c, l.getD 0 0 = c := ⟨_, rfl⟩
  rw [hcc] at h1 hc
  rw [ht]
  clear ht hcc ho hl
  have d1 : decide ((c : Int) < 128) = true := decide_eq_true (by omega)
  go_enter Tryd.func68, Tryd.ntmps68
  go_wp2_with fail
  go_ret
  exact RunePost.of rfl HR.out (Below.refl _ _)
set_option maxRecDepth 1000000 in
set_option maxHeartbeats 4000000 in
theorem rune1_none (w : World) (l : List Nat) (ho : ∀ x ∈ l, x < 256) (hl : 0 < l.length) (h1 : 128 ≤ l.getD 0 0) (h2 : l.getD 0 0 < 192 ∨ 248 ≤ l.getD 0 0) :
    Calls Tryd.prog 68 #[.string (str l)] w (RunePost w (rn l)) := by
  have HR := Lib.hid (rn_none ho h1 h2)
  obtain ⟨t, ht⟩ : ∃ t, str l = t := ⟨_, rfl⟩
  have hsz : 0 < t.size := by rw [← ht, str_len]; exact hl
  obtain ⟨x0, hs0, hc⟩ := get_at l ho t ht 0 hsz
  have hsz' : (0 : Int) < (t.size : Int) := by omega
  obtain ⟨c, hcc⟩ : ∃ c, l.getD 0 0 = c := ⟨_, rfl⟩
  rw [hcc] at h1 h2 hc
  rw [ht]
  clear ht hcc ho hl
  have d1 : decide ((c : Int) < 128) = false := decide_eq_false (by omega)
  rcases h2 with h2 | h2
  · have d2 : decide ((192 : Int) ≤ (c : Int)) = false := decide_eq_false (by omega)
    have d3 : decide ((224 : Int) ≤ (c : Int)) = false := decide_eq_false (by omega)
    have d4 : decide ((240 : Int) ≤ (c : Int)) = false := decide_eq_false (by omega)
    go_enter Tryd.func68, Tryd.ntmps68
    go_wp2_with fail
    go_ret
    exact RunePost.of rfl HR.out (Below.refl _ _)
  · have d2 : decide ((192 : Int) ≤ (c : Int)) = true := decide_eq_true (by omega)
    have d3 : decide ((224 : Int) ≤ (c : Int)) = true := decide_eq_true (by omega)
    have d4 : decide ((240 : Int) ≤ (c : Int)) = true := decide_eq_true (by omega)
    have e2 : decide ((c : Int) < 224) = false := decide_eq_false (by omega)
    have e3 : decide ((c : Int) < 240) = false := decide_eq_false (by omega)
    have e4 : decide ((c : Int) < 248) = false := decide_eq_false (by omega)
    go_enter Tryd.func68, Tryd.ntmps68
    go_wp2_with fail
    go_ret
    exact RunePost.of rfl HR.out (Below.refl _ _)

set_option maxRecDepth 1000000 in
set_option maxHeartbeats 8000000 in
theorem rune1_2 (w : World) (l : List Nat) (ho : ∀ x ∈ l, x < 256) (hl : 0 < l.length) (h1 : 192 ≤ l.getD 0 0) (h2 : l.getD 0 0 < 224) :
    Calls Tryd.prog 68 #[.string (str l)] w (RunePost w (rn l)) := by
  have mixed : Tryd.prog.follows Departure.mixedOrders = true := by kernel_rfl
  obtain ⟨t, ht⟩ : ∃ t, str l = t := ⟨_, rfl⟩
  obtain ⟨n, hn⟩ : ∃ n, l.length = n := ⟨_, rfl⟩
  have hts : t.size = n := by rw [← ht, str_len, hn]
  have hsz : 0 < t.size := by rw [hts, ← hn]; exact hl
  obtain ⟨x0, hs0, hc⟩ := get_at l ho t ht 0 hsz
  have HG : Hid (∀ j (hj : j < t.size), ∃ x : UInt8, t[j]'hj = x ∧ x.toNat = l.getD j 0) := Lib.hid fun j hj => get_at l ho t ht j hj
  have HO : Hid (∀ j, l.getD j 0 < 256) := Lib.hid fun j => getD_oct ho j
  have hc256 := getD_oct ho 0
  obtain ⟨c, hcc⟩ : ∃ c, l.getD 0 0 = c := ⟨_, rfl⟩
  obtain ⟨r, hr⟩ : ∃ r, rn l = r := ⟨_, rfl⟩
  rw [hr]
  have hr' : rnN n c (l.getD 1 0) (l.getD 2 0) (l.getD 3 0) = r := by rw [← hr, ← hn, ← hcc]; rfl
  rw [hcc] at h1 h2 hc hc256
  rw [ht]
  have HRR := Lib.hid hr'
  have HTS := Lib.hid hts
  have hsz' : (0 : Int) < (n : Int) := by omega
  clear ht ho hl hn hr hcc hr'
  have ha := u8and31 ⟨c, hc256⟩
  simp only at ha
  have d1 : decide ((c : Int) < 128) = false := decide_eq_false (by omega)
  have d2 : decide ((192 : Int) ≤ (c : Int)) = true := decide_eq_true (by omega)
  have d3 : decide ((224 : Int) ≤ (c : Int)) = false := decide_eq_false (by omega)
  have d4 : decide ((240 : Int) ≤ (c : Int)) = false := decide_eq_false (by omega)
  have e2 : decide ((c : Int) < 224) = true := decide_eq_true (by omega)
  have e3 : decide ((c : Int) < 240) = true := decide_eq_true (by omega)
  have e4 : decide ((c : Int) < 248) = true := decide_eq_true (by omega)
  have z0 : ((2 : Int) == 0) = false := rfl
  by_cases hnN : n < 2
  · have q : decide ((n : Int) < 2) = true := decide_eq_true (by omega)
    have hrr : r = 0 := by rw [← HRR.out]; exact rnN2_short h1 h2 hnN
    have HR := Lib.hid hrr
    clear hrr
    go_enter Tryd.func68, Tryd.ntmps68
    go_wp2_with fail
    go_ret
    exact RunePost.of rfl HR.out (Below.refl _ _)
  · have q : decide ((n : Int) < 2) = false := decide_eq_false (by omega)
    obtain ⟨v0, hv0⟩ : ∃ v0, v0 = c % 32 := ⟨_, rfl⟩
    have ha' : bits .and .u8 (c : Int) 31 = (v0 : Int) := by rw [hv0]; exact ha
    have HV0 := Lib.hid hv0
    have hv0l : v0 < 32 := by omega
    clear ha hv0
    go_enter Tryd.func68, Tryd.ntmps68
    go_wp2_with fail
    go_loopg [5, 7] (2 + 1) (fun gk v i wx => Below w.heap.size w wx ∧ ∃ k : Nat, 1 ≤ k ∧ k ≤ 2 ∧ k + gk = 2 + 2 ∧ i = .int .i64 (k : Int) ∧ v = .int .i64 ((vv v0 (l.getD 1 0) (l.getD 2 0) (l.getD 3 0) k : Nat) : Int) ∧ Hid (∀ j, 1 ≤ j → j < k → cont (l.getD j 0)))
    case atStart => exact ⟨Below.refl _ _, 1, by omega, by omega, by omega, rfl, rfl, Lib.hid fun j a b => by omega⟩
    case round =>
      obtain ⟨hbw, k, hk1, hkN, hgk, rfl, rfl, HC⟩ := hrel
      have HB := Lib.hid hbw
      clear hbw
      obtain ⟨V, hV⟩ : ∃ V, vv v0 (l.getD 1 0) (l.getD 2 0) (l.getD 3 0) k = V := ⟨_, rfl⟩
      rw [hV]
      have hVb : V < 8388608 := by rw [← hV]; exact vv_lt (by omega)
      have HV := Lib.hid hV
      clear hV
      by_cases hlt : k < 2
      · have dl : decide ((k : Int) < 2) = true := decide_eq_true (by omega)
        obtain ⟨y, hy, hyx⟩ := HG.out k (by rw [HTS.out]; omega)
        have hx256 := HO.out k
        obtain ⟨x, hx⟩ : ∃ x, l.getD k 0 = x := ⟨_, rfl⟩
        rw [hx] at hyx hx256
        have HX := Lib.hid hx
        clear hx
        have hkz : (k : Int) < (n : Int) := by omega
        have hax := u8and63 ⟨x, hx256⟩
        simp only at hax
        by_cases q1 : x < 128
        · have q1z : decide ((x : Int) < 128) = true := decide_eq_true (by omega)
          have hbad : ¬ cont (l.getD k 0) := by rw [HX.out]; unfold cont; omega
          have hrr : r = 0 := by
            rw [← HRR.out]
            rcases (by omega : k = 1) with rfl
            · exact rnN2_cont1 h1 h2 hbad
          have HR := Lib.hid hrr
          clear hrr hbad
          go_wp2_with fail
          go_ret
          exact RunePost.of rfl HR.out HB.out
        · have q1z : decide ((x : Int) < 128) = false := decide_eq_false (by omega)
          by_cases q2 : 192 ≤ x
          · have q2z : decide ((192 : Int) ≤ (x : Int)) = true := decide_eq_true (by omega)
            have hbad : ¬ cont (l.getD k 0) := by rw [HX.out]; unfold cont; omega
            have hrr : r = 0 := by
              rw [← HRR.out]
              rcases (by omega : k = 1) with rfl
              · exact rnN2_cont1 h1 h2 hbad
            have HR := Lib.hid hrr
            clear hrr hbad
            go_wp2_with fail
            go_ret
            exact RunePost.of rfl HR.out HB.out
          · have q2z : decide ((192 : Int) ≤ (x : Int)) = false := decide_eq_false (by omega)
            obtain ⟨X, hX⟩ : ∃ X, x % 64 = X := ⟨_, rfl⟩
            rw [hX] at hax
            have hXb : X < 64 := by omega
            have HXX := Lib.hid hX
            clear hX
            obtain ⟨g', rfl⟩ : ∃ g', gk = g' + 1 := ⟨gk - 1, by omega⟩
            go_wp2_with fail
            go_roundg g'
            case measure => omega
            case rel =>
              refine ⟨HB.out, k + 1, by omega, by omega, by omega, by go_num, ?_, Lib.hid fun j a b => ?_⟩
              · rw [vv_succ v0 _ _ _ k hk1 (by omega), HV.out]
                have e : (if k = 1 then l.getD 1 0 else if k = 2 then l.getD 2 0 else l.getD 3 0) % 64 = X := by
                  rw [← HXX.out, ← HX.out]
                  rcases (by omega : k = 1 ∨ k = 2 ∨ k = 3) with rfl | rfl | rfl <;> rfl
                rw [e]
                go_num
              · rcases Nat.lt_or_ge j k with h | h
                · exact HC.out j a h
                · obtain rfl : j = k := by omega
                  rw [HX.out]; unfold cont; omega
      · obtain rfl : k = 2 := by omega
        have dl : decide ((2 : Int) < 2) = false := rfl
        have HV' : Hid (vv (c % 32) (l.getD 1 0) (l.getD 2 0) (l.getD 3 0) 2 = V) := Lib.hid (by rw [← HV0.out]; exact HV.out)
        have hoff : off_ V 128 → r = 0 := fun h => by
          rw [← HRR.out]
          exact rnN2_off h1 h2 (HC.out 1 (by omega) (by omega)) (by rw [HV'.out]; exact h)
        have hon : ¬ off_ V 128 → r = 2 := fun h => by
          rw [← HRR.out]
          exact rnN2_yes h1 h2 (by omega) (HC.out 1 (by omega) (by omega)) (by rw [HV'.out]; exact h)
        have HOFF := Lib.hid hoff
        have HON := Lib.hid hon
        clear hoff hon
        by_cases p1 : V < 128
        · have p1z : decide ((V : Int) < 128) = true := decide_eq_true (by omega)
          have HR := Lib.hid (HOFF.out (.inl p1))
          go_wp2_with fail
          go_ret
          exact RunePost.of rfl HR.out HB.out
        have p1z : decide ((V : Int) < 128) = false := decide_eq_false (by omega)
        by_cases p2 : 1114111 < V
        · have p2z : decide ((1114111 : Int) < (V : Int)) = true := decide_eq_true (by omega)
          have HR := Lib.hid (HOFF.out (.inr (.inl p2)))
          go_wp2_with fail
          go_ret
          exact RunePost.of rfl HR.out HB.out
        have p2z : decide ((1114111 : Int) < (V : Int)) = false := decide_eq_false (by omega)
        by_cases p3 : 55296 ≤ V
        · have p3z : decide ((55296 : Int) ≤ (V : Int)) = true := decide_eq_true (by omega)
          by_cases p4 : V ≤ 57343
          · have p4z : decide ((V : Int) ≤ 57343) = true := decide_eq_true (by omega)
            have HR := Lib.hid (HOFF.out (.inr (.inr ⟨p3, p4⟩)))
            go_wp2_with fail
            go_ret
            exact RunePost.of rfl HR.out HB.out
          · have p4z : decide ((V : Int) ≤ 57343) = false := decide_eq_false (by omega)
            have HR := Lib.hid (HON.out (by unfold off_; omega))
            go_wp2_with fail
            go_ret
            exact RunePost.of rfl HR.out HB.out
        · have p3z : decide ((55296 : Int) ≤ (V : Int)) = false := decide_eq_false (by omega)
          have HR := Lib.hid (HON.out (by unfold off_; omega))
          go_wp2_with fail
          go_ret
          exact RunePost.of rfl HR.out HB.out

set_option maxRecDepth 1000000 in
set_option maxHeartbeats 8000000 in
theorem rune1_3 (w : World) (l : List Nat) (ho : ∀ x ∈ l, x < 256) (hl : 0 < l.length) (h1 : 224 ≤ l.getD 0 0) (h2 : l.getD 0 0 < 240) :
    Calls Tryd.prog 68 #[.string (str l)] w (RunePost w (rn l)) := by
  have mixed : Tryd.prog.follows Departure.mixedOrders = true := by kernel_rfl
  obtain ⟨t, ht⟩ : ∃ t, str l = t := ⟨_, rfl⟩
  obtain ⟨n, hn⟩ : ∃ n, l.length = n := ⟨_, rfl⟩
  have hts : t.size = n := by rw [← ht, str_len, hn]
  have hsz : 0 < t.size := by rw [hts, ← hn]; exact hl
  obtain ⟨x0, hs0, hc⟩ := get_at l ho t ht 0 hsz
  have HG : Hid (∀ j (hj : j < t.size), ∃ x : UInt8, t[j]'hj = x ∧ x.toNat = l.getD j 0) := Lib.hid fun j hj => get_at l ho t ht j hj
  have HO : Hid (∀ j, l.getD j 0 < 256) := Lib.hid fun j => getD_oct ho j
  have hc256 := getD_oct ho 0
  obtain ⟨c, hcc⟩ : ∃ c, l.getD 0 0 = c := ⟨_, rfl⟩
  obtain ⟨r, hr⟩ : ∃ r, rn l = r := ⟨_, rfl⟩
  rw [hr]
  have hr' : rnN n c (l.getD 1 0) (l.getD 2 0) (l.getD 3 0) = r := by rw [← hr, ← hn, ← hcc]; rfl
  rw [hcc] at h1 h2 hc hc256
  rw [ht]
  have HRR := Lib.hid hr'
  have HTS := Lib.hid hts
  have hsz' : (0 : Int) < (n : Int) := by omega
  clear ht ho hl hn hr hcc hr'
  have ha := u8and15 ⟨c, hc256⟩
  simp only at ha
  have d1 : decide ((c : Int) < 128) = false := decide_eq_false (by omega)
  have d2 : decide ((192 : Int) ≤ (c : Int)) = true := decide_eq_true (by omega)
  have d3 : decide ((224 : Int) ≤ (c : Int)) = true := decide_eq_true (by omega)
  have d4 : decide ((240 : Int) ≤ (c : Int)) = false := decide_eq_false (by omega)
  have e2 : decide ((c : Int) < 224) = false := decide_eq_false (by omega)
  have e3 : decide ((c : Int) < 240) = true := decide_eq_true (by omega)
  have e4 : decide ((c : Int) < 248) = true := decide_eq_true (by omega)
  have z0 : ((3 : Int) == 0) = false := rfl
  by_cases hnN : n < 3
  · have q : decide ((n : Int) < 3) = true := decide_eq_true (by omega)
    have hrr : r = 0 := by rw [← HRR.out]; exact rnN3_short h1 h2 hnN
    have HR := Lib.hid hrr
    clear hrr
    go_enter Tryd.func68, Tryd.ntmps68
    go_wp2_with fail
    go_ret
    exact RunePost.of rfl HR.out (Below.refl _ _)
  · have q : decide ((n : Int) < 3) = false := decide_eq_false (by omega)
    obtain ⟨v0, hv0⟩ : ∃ v0, v0 = c % 16 := ⟨_, rfl⟩
    have ha' : bits .and .u8 (c : Int) 15 = (v0 : Int) := by rw [hv0]; exact ha
    have HV0 := Lib.hid hv0
    have hv0l : v0 < 16 := by omega
    clear ha hv0
    go_enter Tryd.func68, Tryd.ntmps68
    go_wp2_with fail
    go_loopg [5, 7] (3 + 1) (fun gk v i wx => Below w.heap.size w wx ∧ ∃ k : Nat, 1 ≤ k ∧ k ≤ 3 ∧ k + gk = 3 + 2 ∧ i = .int .i64 (k : Int) ∧ v = .int .i64 ((vv v0 (l.getD 1 0) (l.getD 2 0) (l.getD 3 0) k : Nat) : Int) ∧ Hid (∀ j, 1 ≤ j → j < k → cont (l.getD j 0)))
    case atStart => exact ⟨Below.refl _ _, 1, by omega, by omega, by omega, rfl, rfl, Lib.hid fun j a b => by omega⟩
    case round =>
      obtain ⟨hbw, k, hk1, hkN, hgk, rfl, rfl, HC⟩ := hrel
      have HB := Lib.hid hbw
      clear hbw
      obtain ⟨V, hV⟩ : ∃ V, vv v0 (l.getD 1 0) (l.getD 2 0) (l.getD 3 0) k = V := ⟨_, rfl⟩
      rw [hV]
      have hVb : V < 8388608 := by rw [← hV]; exact vv_lt (by omega)
      have HV := Lib.hid hV
      clear hV
      by_cases hlt : k < 3
      · have dl : decide ((k : Int) < 3) = true := decide_eq_true (by omega)
        obtain ⟨y, hy, hyx⟩ := HG.out k (by rw [HTS.out]; omega)
        have hx256 := HO.out k
        obtain ⟨x, hx⟩ : ∃ x, l.getD k 0 = x := ⟨_, rfl⟩
        rw [hx] at hyx hx256
        have HX := Lib.hid hx
        clear hx
        have hkz : (k : Int) < (n : Int) := by omega
        have hax := u8and63 ⟨x, hx256⟩
        simp only at hax
        by_cases q1 : x < 128
        · have q1z : decide ((x : Int) < 128) = true := decide_eq_true (by omega)
          have hbad : ¬ cont (l.getD k 0) := by rw [HX.out]; unfold cont; omega
          have hrr : r = 0 := by
            rw [← HRR.out]
            rcases (by omega : k = 1 ∨ k = 2) with rfl | rfl
            · exact rnN3_cont1 h1 h2 hbad
            · exact rnN3_cont2 h1 h2 hbad
          have HR := Lib.hid hrr
          clear hrr hbad
          go_wp2_with fail
          go_ret
          exact RunePost.of rfl HR.out HB.out
        · have q1z : decide ((x : Int) < 128) = false := decide_eq_false (by omega)
          by_cases q2 : 192 ≤ x
          · have q2z : decide ((192 : Int) ≤ (x : Int)) = true := decide_eq_true (by omega)
            have hbad : ¬ cont (l.getD k 0) := by rw [HX.out]; unfold cont; omega
            have hrr : r = 0 := by
              rw [← HRR.out]
              rcases (by omega : k = 1 ∨ k = 2) with rfl | rfl
              · exact rnN3_cont1 h1 h2 hbad
              · exact rnN3_cont2 h1 h2 hbad
            have HR := Lib.hid hrr
            clear hrr hbad
            go_wp2_with fail
            go_ret
            exact RunePost.of rfl HR.out HB.out
          · have q2z : decide ((192 : Int) ≤ (x : Int)) = false := decide_eq_false (by omega)
            obtain ⟨X, hX⟩ : ∃ X, x % 64 = X := ⟨_, rfl⟩
            rw [hX] at hax
            have hXb : X < 64 := by omega
            have HXX := Lib.hid hX
            clear hX
            obtain ⟨g', rfl⟩ : ∃ g', gk = g' + 1 := ⟨gk - 1, by omega⟩
            go_wp2_with fail
            go_roundg g'
            case measure => omega
            case rel =>
              refine ⟨HB.out, k + 1, by omega, by omega, by omega, by go_num, ?_, Lib.hid fun j a b => ?_⟩
              · rw [vv_succ v0 _ _ _ k hk1 (by omega), HV.out]
                have e : (if k = 1 then l.getD 1 0 else if k = 2 then l.getD 2 0 else l.getD 3 0) % 64 = X := by
                  rw [← HXX.out, ← HX.out]
                  rcases (by omega : k = 1 ∨ k = 2 ∨ k = 3) with rfl | rfl | rfl <;> rfl
                rw [e]
                go_num
              · rcases Nat.lt_or_ge j k with h | h
                · exact HC.out j a h
                · obtain rfl : j = k := by omega
                  rw [HX.out]; unfold cont; omega
      · obtain rfl : k = 3 := by omega
        have dl : decide ((3 : Int) < 3) = false := rfl
        have HV' : Hid (vv (c % 16) (l.getD 1 0) (l.getD 2 0) (l.getD 3 0) 3 = V) := Lib.hid (by rw [← HV0.out]; exact HV.out)
        have hoff : off_ V 2048 → r = 0 := fun h => by
          rw [← HRR.out]
          exact rnN3_off h1 h2 (HC.out 1 (by omega) (by omega)) (HC.out 2 (by omega) (by omega)) (by rw [HV'.out]; exact h)
        have hon : ¬ off_ V 2048 → r = 3 := fun h => by
          rw [← HRR.out]
          exact rnN3_yes h1 h2 (by omega) (HC.out 1 (by omega) (by omega)) (HC.out 2 (by omega) (by omega)) (by rw [HV'.out]; exact h)
        have HOFF := Lib.hid hoff
        have HON := Lib.hid hon
        clear hoff hon
        by_cases p1 : V < 2048
        · have p1z : decide ((V : Int) < 2048) = true := decide_eq_true (by omega)
          have HR := Lib.hid (HOFF.out (.inl p1))
          go_wp2_with fail
          go_ret
          exact RunePost.of rfl HR.out HB.out
        have p1z : decide ((V : Int) < 2048) = false := decide_eq_false (by omega)
        by_cases p2 : 1114111 < V
        · have p2z : decide ((1114111 : Int) < (V : Int)) = true := decide_eq_true (by omega)
          have HR := Lib.hid (HOFF.out (.inr (.inl p2)))
          go_wp2_with fail
          go_ret
          exact RunePost.of rfl HR.out HB.out
        have p2z : decide ((1114111 : Int) < (V : Int)) = false := decide_eq_false (by omega)
        by_cases p3 : 55296 ≤ V
        · have p3z : decide ((55296 : Int) ≤ (V : Int)) = true := decide_eq_true (by omega)
          by_cases p4 : V ≤ 57343
          · have p4z : decide ((V : Int) ≤ 57343) = true := decide_eq_true (by omega)
            have HR := Lib.hid (HOFF.out (.inr (.inr ⟨p3, p4⟩)))
            go_wp2_with fail
            go_ret
            exact RunePost.of rfl HR.out HB.out
          · have p4z : decide ((V : Int) ≤ 57343) = false := decide_eq_false (by omega)
            have HR := Lib.hid (HON.out (by unfold off_; omega))
            go_wp2_with fail
            go_ret
            exact RunePost.of rfl HR.out HB.out
        · have p3z : decide ((55296 : Int) ≤ (V : Int)) = false := decide_eq_false (by omega)
          have HR := Lib.hid (HON.out (by unfold off_; omega))
          go_wp2_with fail
          go_ret
          exact RunePost.of rfl HR.out HB.out

set_option maxRecDepth 1000000 in
set_option maxHeartbeats 8000000 in
theorem rune1_4 (w : World) (l : List Nat) (ho : ∀ x ∈ l, x < 256) (hl : 0 < l.length) (h1 : 240 ≤ l.getD 0 0) (h2 : l.getD 0 0 < 248) :
    Calls Tryd.prog 68 #[.string (str l)] w (RunePost w (rn l)) := by
  have mixed : Tryd.prog.follows Departure.mixedOrders = true := by kernel_rfl
  obtain ⟨t, ht⟩ : ∃ t, str l = t := ⟨_, rfl⟩
  obtain ⟨n, hn⟩ : ∃ n, l.length = n := ⟨_, rfl⟩
  have hts : t.size = n := by rw [← ht, str_len, hn]
  have hsz : 0 < t.size := by rw [hts, ← hn]; exact hl
  obtain ⟨x0, hs0, hc⟩ := get_at l ho t ht 0 hsz
  have HG : Hid (∀ j (hj : j < t.size), ∃ x : UInt8, t[j]'hj = x ∧ x.toNat = l.getD j 0) := Lib.hid fun j hj => get_at l ho t ht j hj
  have HO : Hid (∀ j, l.getD j 0 < 256) := Lib.hid fun j => getD_oct ho j
  have hc256 := getD_oct ho 0
  obtain ⟨c, hcc⟩ : ∃ c, l.getD 0 0 = c := ⟨_, rfl⟩
  obtain ⟨r, hr⟩ : ∃ r, rn l = r := ⟨_, rfl⟩
  rw [hr]
  have hr' : rnN n c (l.getD 1 0) (l.getD 2 0) (l.getD 3 0) = r := by rw [← hr, ← hn, ← hcc]; rfl
  rw [hcc] at h1 h2 hc hc256
  rw [ht]
  have HRR := Lib.hid hr'
  have HTS := Lib.hid hts
  have hsz' : (0 : Int) < (n : Int) := by omega
  clear ht ho hl hn hr hcc hr'
  have ha := u8and07 ⟨c, hc256⟩
  simp only at ha
  have d1 : decide ((c : Int) < 128) = false := decide_eq_false (by omega)
  have d2 : decide ((192 : Int) ≤ (c : Int)) = true := decide_eq_true (by omega)
  have d3 : decide ((224 : Int) ≤ (c : Int)) = true := decide_eq_true (by omega)
  have d4 : decide ((240 : Int) ≤ (c : Int)) = true := decide_eq_true (by omega)
  have e2 : decide ((c : Int) < 224) = false := decide_eq_false (by omega)
  have e3 : decide ((c : Int) < 240) = false := decide_eq_false (by omega)
  have e4 : decide ((c : Int) < 248) = true := decide_eq_true (by omega)
  have z0 : ((4 : Int) == 0) = false := rfl
  by_cases hnN : n < 4
  · have q : decide ((n : Int) < 4) = true := decide_eq_true (by omega)
    have hrr : r = 0 := by rw [← HRR.out]; exact rnN4_short h1 h2 hnN
    have HR := Lib.hid hrr
    clear hrr
    go_enter Tryd.func68, Tryd.ntmps68
    go_wp2_with fail
    go_ret
    exact RunePost.of rfl HR.out (Below.refl _ _)
  · have q : decide ((n : Int) < 4) = false := decide_eq_false (by omega)
    obtain ⟨v0, hv0⟩ : ∃ v0, v0 = c % 8 := ⟨_, rfl⟩
    have ha' : bits .and .u8 (c : Int) 7 = (v0 : Int) := by rw [hv0]; exact ha
    have HV0 := Lib.hid hv0
    have hv0l : v0 < 8 := by omega
    clear ha hv0
    go_enter Tryd.func68, Tryd.ntmps68
    go_wp2_with fail
    go_loopg [5, 7] (4 + 1) (fun gk v i wx => Below w.heap.size w wx ∧ ∃ k : Nat, 1 ≤ k ∧ k ≤ 4 ∧ k + gk = 4 + 2 ∧ i = .int .i64 (k : Int) ∧ v = .int .i64 ((vv v0 (l.getD 1 0) (l.getD 2 0) (l.getD 3 0) k : Nat) : Int) ∧ Hid (∀ j, 1 ≤ j → j < k → cont (l.getD j 0)))
    case atStart => exact ⟨Below.refl _ _, 1, by omega, by omega, by omega, rfl, rfl, Lib.hid fun j a b => by omega⟩
    case round =>
      obtain ⟨hbw, k, hk1, hkN, hgk, rfl, rfl, HC⟩ := hrel
      have HB := Lib.hid hbw
      clear hbw
      obtain ⟨V, hV⟩ : ∃ V, vv v0 (l.getD 1 0) (l.getD 2 0) (l.getD 3 0) k = V := ⟨_, rfl⟩
      rw [hV]
      have hVb : V < 8388608 := by rw [← hV]; exact vv_lt (by omega)
      have HV := Lib.hid hV
      clear hV
      by_cases hlt : k < 4
      · have dl : decide ((k : Int) < 4) = true := decide_eq_true (by omega)
        obtain ⟨y, hy, hyx⟩ := HG.out k (by rw [HTS.out]; omega)
        have hx256 := HO.out k
        obtain ⟨x, hx⟩ : ∃ x, l.getD k 0 = x := ⟨_, rfl⟩
        rw [hx] at hyx hx256
        have HX := Lib.hid hx
        clear hx
        have hkz : (k : Int) < (n : Int) := by omega
        have hax := u8and63 ⟨x, hx256⟩
        simp only at hax
        by_cases q1 : x < 128
        · have q1z : decide ((x : Int) < 128) = true := decide_eq_true (by omega)
          have hbad : ¬ cont (l.getD k 0) := by rw [HX.out]; unfold cont; omega
          have hrr : r = 0 := by
            rw [← HRR.out]
            rcases (by omega : k = 1 ∨ k = 2 ∨ k = 3) with rfl | rfl | rfl
            · exact rnN4_cont1 h1 h2 hbad
            · exact rnN4_cont2 h1 h2 hbad
            · exact rnN4_cont3 h1 h2 hbad
          have HR := Lib.hid hrr
          clear hrr hbad
          go_wp2_with fail
          go_ret
          exact RunePost.of rfl HR.out HB.out
        · have q1z : decide ((x : Int) < 128) = false := decide_eq_false (by omega)
          by_cases q2 : 192 ≤ x
          · have q2z : decide ((192 : Int) ≤ (x : Int)) = true := decide_eq_true (by omega)
            have hbad : ¬ cont (l.getD k 0) := by rw [HX.out]; unfold cont; omega
            have hrr : r = 0 := by
              rw [← HRR.out]
              rcases (by omega : k = 1 ∨ k = 2 ∨ k = 3) with rfl | rfl | rfl
              · exact rnN4_cont1 h1 h2 hbad
              · exact rnN4_cont2 h1 h2 hbad
              · exact rnN4_cont3 h1 h2 hbad
            have HR := Lib.hid hrr
            clear hrr hbad
            go_wp2_with fail
            go_ret
            exact RunePost.of rfl HR.out HB.out
          · have q2z : decide ((192 : Int) ≤ (x : Int)) = false := decide_eq_false (by omega)
            obtain ⟨X, hX⟩ : ∃ X, x % 64 = X := ⟨_, rfl⟩
            rw [hX] at hax
            have hXb : X < 64 := by omega
            have HXX := Lib.hid hX
            clear hX
            obtain ⟨g', rfl⟩ : ∃ g', gk = g' + 1 := ⟨gk - 1, by omega⟩
            go_wp2_with fail
            go_roundg g'
            case measure => omega
            case rel =>
              refine ⟨HB.out, k + 1, by omega, by omega, by omega, by go_num, ?_, Lib.hid fun j a b => ?_⟩
              · rw [vv_succ v0 _ _ _ k hk1 (by omega), HV.out]
                have e : (if k = 1 then l.getD 1 0 else if k = 2 then l.getD 2 0 else l.getD 3 0) % 64 = X := by
                  rw [← HXX.out, ← HX.out]
                  rcases (by omega : k = 1 ∨ k = 2 ∨ k = 3) with rfl | rfl | rfl <;> rfl
                rw [e]
                go_num
              · rcases Nat.lt_or_ge j k with h | h
                · exact HC.out j a h
                · obtain rfl : j = k := by omega
                  rw [HX.out]; unfold cont; omega
      · obtain rfl : k = 4 := by omega
        have dl : decide ((4 : Int) < 4) = false := rfl
        have HV' : Hid (vv (c % 8) (l.getD 1 0) (l.getD 2 0) (l.getD 3 0) 4 = V) := Lib.hid (by rw [← HV0.out]; exact HV.out)
        have hoff : off_ V 65536 → r = 0 := fun h => by
          rw [← HRR.out]
          exact rnN4_off h1 h2 (HC.out 1 (by omega) (by omega)) (HC.out 2 (by omega) (by omega)) (HC.out 3 (by omega) (by omega)) (by rw [HV'.out]; exact h)
        have hon : ¬ off_ V 65536 → r = 4 := fun h => by
          rw [← HRR.out]
          exact rnN4_yes h1 h2 (by omega) (HC.out 1 (by omega) (by omega)) (HC.out 2 (by omega) (by omega)) (HC.out 3 (by omega) (by omega)) (by rw [HV'.out]; exact h)
        have HOFF := Lib.hid hoff
        have HON := Lib.hid hon
        clear hoff hon
        by_cases p1 : V < 65536
        · have p1z : decide ((V : Int) < 65536) = true := decide_eq_true (by omega)
          have HR := Lib.hid (HOFF.out (.inl p1))
          go_wp2_with fail
          go_ret
          exact RunePost.of rfl HR.out HB.out
        have p1z : decide ((V : Int) < 65536) = false := decide_eq_false (by omega)
        by_cases p2 : 1114111 < V
        · have p2z : decide ((1114111 : Int) < (V : Int)) = true := decide_eq_true (by omega)
          have HR := Lib.hid (HOFF.out (.inr (.inl p2)))
          go_wp2_with fail
          go_ret
          exact RunePost.of rfl HR.out HB.out
        have p2z : decide ((1114111 : Int) < (V : Int)) = false := decide_eq_false (by omega)
        by_cases p3 : 55296 ≤ V
        · have p3z : decide ((55296 : Int) ≤ (V : Int)) = true := decide_eq_true (by omega)
          by_cases p4 : V ≤ 57343
          · have p4z : decide ((V : Int) ≤ 57343) = true := decide_eq_true (by omega)
            have HR := Lib.hid (HOFF.out (.inr (.inr ⟨p3, p4⟩)))
            go_wp2_with fail
            go_ret
            exact RunePost.of rfl HR.out HB.out
          · have p4z : decide ((V : Int) ≤ 57343) = false := decide_eq_false (by omega)
            have HR := Lib.hid (HON.out (by unfold off_; omega))
            go_wp2_with fail
            go_ret
            exact RunePost.of rfl HR.out HB.out
        · have p3z : decide ((55296 : Int) ≤ (V : Int)) = false := decide_eq_false (by omega)
          have HR := Lib.hid (HON.out (by unfold off_; omega))
          go_wp2_with fail
          go_ret
          exact RunePost.of rfl HR.out HB.out
end Go.Proofs.YtdjklhglkmacbaaDoor
namespace Go.Proofs.YtdjklhglkmacbaaDoor
open Go.RowKit BigFrame
set_option linter.unusedVariables false
set_option linter.unusedSimpArgs false
attribute [local go_sem ↓] Go.wp_at_zero Go.wp_at_succ

/-- May it be a text? -/
def textOk (l : List Nat) : Bool := decide (l.length ≤ 64) && vd l
theorem rune1_any (w : World) (l : List Nat) (ho : ∀ x ∈ l, x < 256) (hl : 0 < l.length) :
    Calls Tryd.prog 68 #[.string (str l)] w (RunePost w (rn l)) := by
  have := getD_oct ho 0
  rcases (by omega : l.getD 0 0 < 128 ∨ (128 ≤ l.getD 0 0 ∧ (l.getD 0 0 < 192 ∨ 248 ≤ l.getD 0 0)) ∨ (192 ≤ l.getD 0 0 ∧ l.getD 0 0 < 224) ∨ (224 ≤ l.getD 0 0 ∧ l.getD 0 0 < 240) ∨ (240 ≤ l.getD 0 0 ∧ l.getD 0 0 < 248)) with h | ⟨h, h'⟩ | ⟨h, h'⟩ | ⟨h, h'⟩ | ⟨h, h'⟩
  · exact rune1_asc w l ho hl h
  · exact rune1_none w l ho hl h h'
  · exact rune1_2 w l ho hl h h'
  · exact rune1_3 w l ho hl h h'
  · exact rune1_4 w l ho hl h h'
theorem str_list (l : List Nat) : (str l).data.toList = l.map UInt8.ofNat := by simp [str]
theorem str_extract (l : List Nat) (k : Nat) : (str l).extract k l.length = str (l.drop k) := by
  have h := Lib.ext_list (str l) k
  rw [str_len, str_list, ← List.map_drop] at h
  have e : ∀ a b : ByteArray, a.data.toList = b.data.toList → a = b := fun a b h => by
    cases a; cases b
    exact congrArg _ (Array.toList_inj.1 h)
  exact e _ _ (by rw [h, str_list])
set_option maxRecDepth 1000000 in
set_option maxHeartbeats 4000000 in
theorem isText'_any (w : World) (l : List Nat) (ho : ∀ x ∈ l, x < 256) :
    Calls Tryd.prog 49 #[.string (str l)] w fun e w' => e = .returned (.bool (textOk l)) ∧ Below w.heap.size w w' := by
  obtain ⟨r, hr⟩ : ∃ r, textOk l = r := ⟨_, rfl⟩
  rw [hr]
  obtain ⟨T, hT⟩ : ∃ T, str l = T := ⟨_, rfl⟩
  have hts : T.size = l.length := by rw [← hT, str_len]
  rw [hT]
  have HTT := Lib.hid hT
  clear hT
  by_cases h64 : 64 < l.length
  · have d1 : decide ((64 : Int) < (l.length : Int)) = true := decide_eq_true (by omega)
    have hr' : r = false := by rw [← hr]; unfold textOk; rw [decide_eq_false (by omega)]; rfl
    have HR := Lib.hid hr'
    clear hr hr'
    go_enter Tryd.func49, Tryd.ntmps49
    go_wp2_with fail
    go_ret
    rw [HR.out]
    exact ⟨rfl, Below.refl _ _⟩
  have d1 : decide ((64 : Int) < (l.length : Int)) = false := decide_eq_false (by omega)
  have hr' : vd l = r := by rw [← hr]; unfold textOk; rw [decide_eq_true (by omega)]; rfl
  have HV := Lib.hid hr'
  have HO : Hid (∀ x ∈ l, x < 256) := Lib.hid ho
  have hle : l.length ≤ 64 := by omega
  obtain ⟨n, hn⟩ : ∃ n, l.length = n := ⟨_, rfl⟩
  have HN := Lib.hid hn
  rw [hn] at hts d1 hle
  clear hr hr' ho hn h64
  go_enter Tryd.func49, Tryd.ntmps49
  go_wp2_with fail
  go_loopg [0] (65) (fun gk s wx => Below w.heap.size w wx ∧ ∃ (t : List Nat) (U : ByteArray) (m : Nat), s = .string U ∧ Hid (str t = U) ∧ Hid (∀ x ∈ t, x < 256) ∧ Hid (vd t = r) ∧ Hid (t.length = m) ∧ m < gk)
  case atStart => exact ⟨Below.refl _ _, l, T, n, rfl, HTT, HO, HV, HN, by omega⟩
  case round =>
    obtain ⟨hbw, t, U, m, rfl, HU, HOt, HVt, HM, hg⟩ := hrel
    have HB := Lib.hid hbw
    clear hbw HTT HO HV HN hts
    have hus : U.size = m := by rw [← HU.out, str_len, HM.out]
    by_cases h0 : 0 < m
    · have d0 : decide ((0 : Int) < (m : Int)) = true := decide_eq_true (by omega)
      have hc := rune1_any wr t HOt.out (by rw [HM.out]; exact h0)
      rw [HU.out] at hc
      have HC := Lib.hid hc
      clear hc
      obtain ⟨k, hk⟩ : ∃ k, rn t = k := ⟨_, rfl⟩
      rw [hk] at HC
      by_cases hk0 : k = 0
      · have hr' : r = false := by rw [← HVt.out]; exact rn_no HOt.out (by rw [HM.out]; exact h0) (by rw [hk, hk0])
        have HR := Lib.hid hr'
        have z0 : ((k : Int) == 0) = true := by simp [hk0]
        clear hr' hk
        go_wp2_with fail
        refine HC.out.mono ?_
        rintro e W1 ⟨rfl, hb1⟩
        have HB1 := Lib.hid (HB.out.trans (hb1.mono HB.out.size))
        clear hb1 HC
        go_wp2_with fail
        go_ret
        rw [HR.out]
        exact ⟨rfl, HB1.out⟩
      · have hy := rn_yes HOt.out (by rw [HM.out]; exact h0) (by rw [hk]; exact hk0)
        rw [hk, HM.out] at hy
        have hkm := hy.1
        have HY := Lib.hid hy.2
        have z0 : ((k : Int) == 0) = false := by rw [beq_eq_false_iff_ne]; omega
        obtain ⟨g', rfl⟩ : ∃ g', gk = g' + 1 := ⟨gk - 1, by omega⟩
        clear hy hk
        go_wp2_with fail
        refine HC.out.mono ?_
        rintro e W1 ⟨rfl, hb1⟩
        have HB1 := Lib.hid (HB.out.trans (hb1.mono HB.out.size))
        clear hb1 HC
        have hkz : (k : Int) ≤ (m : Int) := by omega
        go_wp2_with fail
        go_roundg g'
        case measure => omega
        case rel =>
          exact ⟨HB1.out, t.drop k, _, m - k, rfl, Lib.hid (by rw [← str_extract, HM.out, HU.out]), Lib.hid (fun x hx => HOt.out x (List.mem_of_mem_drop hx)), Lib.hid (by rw [HY.out]; exact HVt.out), Lib.hid (by rw [List.length_drop, HM.out]), by omega⟩
    · obtain rfl : m = 0 := by omega
      have d0 : decide ((0 : Int) < (0 : Int)) = false := rfl
      have ht : t = [] := List.eq_nil_of_length_eq_zero HM.out
      have hr' : r = true := by rw [← HVt.out, ht, vd_nil]
      have HR := Lib.hid hr'
      clear hr' ht
      go_wp2_with fail
      go_ret
      rw [HR.out]
      exact ⟨rfl, HB.out⟩
theorem conv_bytes (b : List Nat) (ho : Oct8 b) (hl : b.length ≤ 9223372036854775807) : ∃ (cap : World → Nat) (o : World → Obj), (∀ W, (convert 9 28 (.string (str b))).run Tryd.prog W = .ok (.slice (some ⟨W.heap.size, 0, none⟩) b.length (cap W)) (W.drew.alloc (o W))) ∧
    ∀ W, Rd .u8 (W.drew.alloc (o W)) (W.heap.size + 1) (some ⟨W.heap.size, 0, none⟩) (cap W) b := by
  refine ⟨_, _, fun W => by rw [← str_len b]; exact run_bytes_of_string (P := Tryd.prog) W 9 28 5 (str b) Tryd.underlying9 Tryd.underlying28 Tryd.underlying5, fun W => ?_⟩
  have hg := grownCap_ge W (str b).size 0 5
  have hm := grownCap_le_maxLen W (str b).size 0 5 (by rw [str_len]; simp [maxLen]; omega)
  rw [str_len] at hg hm ⊢
  refine ⟨hg, by unfold maxLen at hm; exact hm, fun h0 => ⟨W.heap.size, 0, rfl, by omega, fun j hj => ?_⟩⟩
  rw [Nat.zero_add, cell_of_row (W.drew.alloc _) W.heap.size j _ 5 _ (heap_alloc_new W.drew _)]
  rw [bytesRow_at (str b) _ j (by simpa [str] using hj)]
  have hx := ho b[j] (List.getElem_mem hj)
  simp [str, List.getD, hj, Nat.mod_eq_of_lt hx]
theorem Off.of_new {k : IntKind} {xs : List Nat} {w : World} {B : Nat} {A : Option Addr} {c : Nat} {l : List Nat} (h : Rd k w B A c l) (hB : B ≤ w.heap.size) (hx : ∀ g, blk_of A = some g → g ∉ xs) : Off xs (fun w => Rd k w w.heap.size A c l) w := fun w' h2 h3 => by
  refine ⟨h.1, h.2.1, fun hn => ?_⟩
  obtain ⟨g, off, rfl, hlt, hc⟩ := h.2.2 hn
  refine ⟨g, off, rfl, by omega, fun j hj => ?_⟩
  simp only [World.cell?]
  rw [h3 g (hx g rfl) (by omega)]
  exact hc j hj
set_option maxRecDepth 100000 in
set_option maxHeartbeats 2000000 in
theorem text_any (w : World) (xs : List Nat) (l : List Nat) (ho : ∀ x ∈ l, x < 256) (hl : l.length ≤ 9223372036854775807) (hxs : ∀ x ∈ xs, x < w.heap.size) :
    Calls Tryd.prog 31 #[.string (str l)] w (MadeT w xs (.mk 12 l [])) := by
  obtain ⟨V, hV⟩ : ∃ V, V = w.alloc (.cells #[.int .u8 0, .slice none 0 0, .slice none 0 0] 31) := ⟨_, rfl⟩
  have hz : Holds V w.heap.size 31 #[.int .u8 0, .slice none 0 0, .slice none 0 0] := by rw [hV]; exact Holds.fresh _ _ _
  have HB0 : Hid (Below w.heap.size w V) := Lib.hid (by rw [hV]; exact (Below.refl _ _).alloc (Nat.le_refl _) _)
  have hVs : w.heap.size < V.heap.size := hz.lt
  obtain ⟨cap, o, hconv, hrd⟩ := conv_bytes l ho hl
  have hrun := hconv V
  have HR := Lib.hid (hrd V)
  have hz2 : Holds (V.drew.alloc (o V)) w.heap.size 31 #[.int .u8 0, .slice none 0 0, .slice none 0 0] := Holds.alloc (w := V.drew) hz (o V)
  have HQ2 : Hid (Below w.heap.size w (V.drew.alloc (o V))) := Lib.hid (HB0.out.drew.alloc HB0.out.size _)
  have HS2 : Hid (V.heap.size + 1 = (V.drew.alloc (o V)).heap.size) := Lib.hid (by simp)
  generalize hW2 : V.drew.alloc (o V) = W2 at *
  obtain ⟨G, hG⟩ : ∃ G, V.heap.size = G := ⟨_, rfl⟩
  obtain ⟨C, hC⟩ : ∃ C, cap V = C := ⟨_, rfl⟩
  rw [hG] at hrun HR HS2 hVs
  rw [hC] at hrun HR
  rw [hV] at hrun
  have z0 := hz2.cell 0
  have z1 := hz2.cell 1
  have z2 := hz2.cell 2
  have y0 := hz2.open_ 0
  have y1 := hz2.open_ 1
  have y2 := hz2.open_ 2
  have HV := Lib.hid hV
  have HO := Lib.hid ho
  clear hconv hrd hV ho hW2 hz hG hC HV
  go_enter Tryd.func31, Tryd.ntmps31
  go_wp2_with fail
  refine ret_one rfl rfl (((hz2.stored 0 _).stored 1 _).stored 2 _) rfl ?_
  refine ⟨.mk 12 (some ⟨G, 0, none⟩) C l none 0 [], rfl, rfl, made_out (off_body (Off.of_new HR.out (by rw [HS2.out]; exact Nat.le_refl _) fun g hg hx => ?_) (by omega) HO.out) _ _ _, below_out HQ2.out _ _ _⟩
  have hg' : G = g := by simpa [blk_of] using hg
  rcases List.mem_cons.1 hx with h2 | h2
  · omega
  · have := hxs g h2; omega
end Go.Proofs.YtdjklhglkmacbaaDoor
namespace Go.Proofs.YtdjklhglkmacbaaDoor
open Go.RowKit BigFrame
set_option linter.unusedVariables false
set_option linter.unusedSimpArgs false
attribute [local go_sem ↓] Go.wp_at_zero Go.wp_at_succ

set_option maxRecDepth 100000 in
set_option maxHeartbeats 2000000 in
theorem text'_any (w : World) (xs : List Nat) (l : List Nat) (ho : ∀ x ∈ l, x < 256) (hl : l.length ≤ 100000) (hxs : ∀ x ∈ xs, x < w.heap.size) :
    Calls Tryd.prog 22 #[.string (str l)] w (MadeT w xs (.mk 12 l [])) := by
  obtain ⟨V, hV⟩ : ∃ V, V = w.alloc (.cells #[.int .u8 0, .slice none 0 0, .slice none 0 0] 31) := ⟨_, rfl⟩
  have hz : Holds V w.heap.size 31 #[.int .u8 0, .slice none 0 0, .slice none 0 0] := by rw [hV]; exact Holds.fresh _ _ _
  have HB0 : Hid (Below w.heap.size w V) := Lib.hid (by rw [hV]; exact (Below.refl _ _).alloc (Nat.le_refl _) _)
  have hVs : w.heap.size < V.heap.size := hz.lt
  obtain ⟨cap, o, hconv, hrd⟩ := conv_bytes l ho (by omega)
  have hrun := hconv V
  have HR := Lib.hid (hrd V)
  have hz2 : Holds (V.drew.alloc (o V)) w.heap.size 31 #[.int .u8 0, .slice none 0 0, .slice none 0 0] := Holds.alloc (w := V.drew) hz (o V)
  have HQ2 : Hid (Below w.heap.size w (V.drew.alloc (o V))) := Lib.hid (HB0.out.drew.alloc HB0.out.size _)
  have HS2 : Hid (V.heap.size + 1 = (V.drew.alloc (o V)).heap.size) := Lib.hid (by simp)
  generalize hW2 : V.drew.alloc (o V) = W2 at *
  obtain ⟨G, hG⟩ : ∃ G, V.heap.size = G := ⟨_, rfl⟩
  obtain ⟨C, hC⟩ : ∃ C, cap V = C := ⟨_, rfl⟩
  rw [hG] at hrun HR HS2 hVs
  rw [hC] at hrun HR
  rw [hV] at hrun
  have hs2 : w.heap.size < W2.heap.size := by have := HS2.out; omega
  obtain ⟨n, hn⟩ : ∃ n, l.length = n := ⟨_, rfl⟩
  rw [hn] at hrun hl
  have HC := Lib.hid (prim'_own W2 n C 12 (G + 1) (some ⟨G, 0, none⟩) l HR.out hn (by rw [HS2.out]; exact Nat.le_refl _) (by omega) (by omega) ho)
  clear hconv hrd hV ho hW2 hz hG hC HB0 hn
  go_enter Tryd.func22, Tryd.ntmps22
  go_wp2_with fail
  refine HC.out.mono ?_
  rintro e w2 ⟨v2, rfl, hp2, hb2⟩
  have HQ3 : Hid (Below w.heap.size w w2) := Lib.hid (HQ2.out.trans (hb2.mono HQ2.out.size))
  have hz3 := hz2.under hb2 hs2
  obtain ⟨lt, hlt, hltt, hof⟩ := off_prim (xs := w.heap.size :: xs) hp2 (fun y hy => by rcases List.mem_cons.1 hy with rfl | hy; exact hs2; have := hxs y hy; omega)
  have HLT := Lib.hid hlt
  have HLTT := Lib.hid hltt
  have HOF := Lib.hid hof
  obtain ⟨A2, c2, rfl, _⟩ := hp2
  have z0 := hz3.cell 0
  have z1 := hz3.cell 1
  have z2 := hz3.cell 2
  have y0 := hz3.open_ 0
  have y1 := hz3.open_ 1
  have y2 := hz3.open_ 2
  clear hb2 HC hlt hltt hof hz2
  go_wp2_with fail
  refine ret_one rfl rfl (((hz3.stored 0 _).stored 1 _).stored 2 _) rfl ?_
  exact ⟨lt, congrArg Ending.returned HLT.out, HLTT.out, made_out HOF.out _ _ _, below_out HQ3.out _ _ _⟩

/-- A text, or none. -/
def GetTx (w : World) : Option (List Nat) → Ending → World → Prop
  | none, e, w' => e = .returned (.tuple #[.string (str []), .bool false]) ∧ Below w.heap.size w w'
  | some b, e, w' => e = .returned (.tuple #[.string (str b), .bool true]) ∧ Below w.heap.size w w'
theorem GetTx.one {w : World} {o : Option (List Nat)} {e : Ending} {w' : World} (h : GetTx w o e w') : e = .returned (.tuple #[.string (str (o.getD [])), .bool o.isSome]) ∧ Below w.heap.size w w' := by
  rcases o with _ | b <;> exact h
/-- The text of a thing of this tag, of so many things, of these bytes. -/
def txOf (x kn : Nat) (b : List Nat) : Option (List Nat) := if heldOk x kn 12 = true ∧ textOk b = true then some b else none
set_option maxRecDepth 100000 in
set_option maxHeartbeats 2000000 in
theorem getText_any (w : World) (x n c kn kc B : Nat) (A K : Option Addr) (b : List Nat) (hr : Rd .u8 w B A c b) (hn : b.length = n) (hB : B ≤ w.heap.size) (ho : ∀ y ∈ b, y < 256) (hT : Lib.Utf8Tabs 0 1 w) :
    Calls Tryd.prog 50 #[.agg #[.int .u8 (x : Int), .slice A n c, .slice K kn kc]] w (GetTx w (txOf x kn b)) := by
  have hH := Holds.fresh w 31 #[.int .u8 (x : Int), .slice A n c, .slice K kn kc]
  have HB0 : Hid (Below w.heap.size w (w.alloc (.cells #[.int .u8 (x : Int), .slice A n c, .slice K kn kc] 31))) := Lib.hid ((Below.refl _ _).alloc (Nat.le_refl _) _)
  have c0 := hH.cell 0
  have c1 := hH.cell 1
  have c2 := hH.cell 2
  have HK := Lib.hid (held_any (w.alloc (.cells #[.int .u8 (x : Int), .slice A n c, .slice K kn kc] 31)) x n c kn kc 12 A K)
  have HR := Lib.hid hr
  have HN := Lib.hid hn
  have HT := Lib.hid hT
  have HO := Lib.hid ho
  clear hr hn hT ho
  obtain ⟨o, HOO⟩ : ∃ o, Hid (o = txOf x kn b) := ⟨_, rfl⟩
  rw [← HOO.out]
  rcases hok : heldOk x kn 12 with _ | _
  case false =>
    have HE : Hid (o = none) := Lib.hid (by rw [HOO.out]; unfold txOf; rw [hok]; rfl)
    rw [hok] at HK
    go_enter Tryd.func50, Tryd.ntmps50
    go_wp2_with fail
    refine HK.out.mono ?_
    rintro e w2 ⟨rfl, hb2⟩
    have HQ := Lib.hid (HB0.out.trans (hb2.mono HB0.out.size))
    clear hb2 HK
    go_wp2_with fail
    go_ret2
    rw [HE.out]
    exact ⟨rfl, HQ.out⟩
  by_cases h64 : 64 < n
  case pos =>
    have HE : Hid (o = none) := Lib.hid (by rw [HOO.out]; unfold txOf textOk; rw [if_neg (fun h => by have := h.2; simp [HN.out] at this; omega)])
    have d1 : decide ((64 : Int) < (n : Int)) = true := decide_eq_true (by omega)
    rw [hok] at HK
    go_enter Tryd.func50, Tryd.ntmps50
    go_wp2_with fail
    refine HK.out.mono ?_
    rintro e w2 ⟨rfl, hb2⟩
    have HQ := Lib.hid (HB0.out.trans (hb2.mono HB0.out.size))
    clear hb2 HK
    go_wp2_with fail
    go_ret2
    rw [HE.out]
    exact ⟨rfl, HQ.out⟩
  have d1 : decide ((64 : Int) < (n : Int)) = false := decide_eq_false (by omega)
  rcases hvd : vd b with _ | _
  case false =>
    have HE : Hid (o = none) := Lib.hid (by rw [HOO.out]; unfold txOf textOk; rw [if_neg (fun h => by have := h.2; simp [hvd] at this)])
    have HV := Lib.hid hvd
    rw [hok] at HK
    clear hvd
    go_enter Tryd.func50, Tryd.ntmps50
    go_wp2_with fail
    refine HK.out.mono ?_
    rintro e w2 ⟨rfl, hb2⟩
    have HQ := Lib.hid (HB0.out.trans (hb2.mono HB0.out.size))
    have hval := valid_any w2 B A c n b (HR.out.under (HQ.out.mono hB)) HN.out (Nat.le_trans hB HQ.out.size) HO.out (Utf8Tabs_below HT.out HQ.out)
    rw [HV.out] at hval
    have HVAL := Lib.hid hval
    clear hb2 HK hval
    go_wp2_with fail
    refine HVAL.out.mono ?_
    rintro e w3 ⟨rfl, hb3⟩
    have HQ3 := Lib.hid (HQ.out.trans (hb3.mono HQ.out.size))
    clear hb3
    go_wp2_with fail
    go_ret2
    rw [HE.out]
    exact ⟨rfl, HQ3.out⟩
  have HE : Hid (o = some b) := Lib.hid (by rw [HOO.out]; unfold txOf textOk; rw [if_pos ⟨hok, by simp [hvd, HN.out]; omega⟩])
  have HV := Lib.hid hvd
  rw [hok] at HK
  clear hvd
  go_enter Tryd.func50, Tryd.ntmps50
  go_wp2_with fail
  refine HK.out.mono ?_
  rintro e w2 ⟨rfl, hb2⟩
  have HQ := Lib.hid (HB0.out.trans (hb2.mono HB0.out.size))
  have hval := valid_any w2 B A c n b (HR.out.under (HQ.out.mono hB)) HN.out (Nat.le_trans hB HQ.out.size) HO.out (Utf8Tabs_below HT.out HQ.out)
  rw [HV.out] at hval
  have HVAL := Lib.hid hval
  clear hb2 HK hval
  go_wp2_with fail
  refine HVAL.out.mono ?_
  rintro e w3 ⟨rfl, hb3⟩
  have HQ3 := Lib.hid (HQ.out.trans (hb3.mono HQ.out.size))
  have hcv := conv_str (w := w3) (HR.out.under (HQ3.out.mono hB)) HN.out HO.out
  clear hb3
  go_wp2_with fail
  go_ret2
  rw [HE.out]
  exact ⟨rfl, HQ3.out⟩

/-- A thing's digits. -/
def bitsOf (x kn : Nat) (b : List Nat) : Option (List Nat) := if heldOk x kn 3 = true ∧ 0 < b.length ∧ b.getD 0 0 = 0 then some (b.drop 1) else none
end Go.Proofs.YtdjklhglkmacbaaDoor
