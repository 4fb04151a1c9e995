/-
  So deep, so many: what they read as.
-/
import Derived.Test.YtlggbkacaemdjaaTlv28
namespace Go.Proofs.Ytlggbkacaemdjaa
open Go.RowKit
set_option linter.unusedVariables false
set_option linter.unusedSimpArgs false

def leaf : Tr := .mk 5 [] []
def chainT : Nat → Tr
  | 0 => leaf
  | n + 1 => .mk 48 [] [chainT n]
def wideT (n : Nat) : Tr := .mk 48 [] (List.replicate n leaf)
theorem leaf_enc : leaf.enc = [5, 0] := by simp [leaf, Tr.enc, Tr.encs, lenB]
theorem chain_count : ∀ n, (chainT n).count = n + 1
  | 0 => by simp [chainT, leaf, Tr.count, Tr.counts]
  | n + 1 => by rw [chainT, Tr.count, Tr.counts, Tr.counts, chain_count n]; omega
theorem chain_sound : ∀ n d, n + d ≤ 12 → (chainT n).sound d = true
  | 0, d, h => by
    simp [chainT, leaf, Tr.sound, Tr.sounds, ok1, tagOk, parted]
    omega
  | n + 1, d, h => by
    rw [chainT, Tr.sound, Tr.sounds, Tr.sounds, chain_sound n (d + 1) (by omega)]
    simp [ok1, tagOk, parted]
    omega
theorem chain_len : ∀ n, (chainT n).enc.length ≤ 2 + 8 * n
  | 0 => by rw [chainT, leaf_enc]; simp
  | n + 1 => by
    rw [chainT, Tr.enc]
    have h1 := chain_len n
    have h2 := lenB_len (([] : List Nat).length + (Tr.encs [chainT n]).length)
    rw [List.length_cons, List.length_append, List.nil_append, Tr.encs, Tr.encs, List.append_nil] at *
    simp only [List.length_append, List.length_nil] at *
    omega
/-- A thing too deep: the error is 3. -/
theorem chain_deep : ∀ n d c, 12 < n + d → d ≤ 13 → c + n + 1 ≤ 600 → n ≤ 1000 → rd (chainT n).enc d c = .error 3
  | 0, d, c, h, hd, hc, hn => by
    rw [chainT, leaf_enc, rd, if_neg (by simp [tagOk]), if_pos (by omega)]
  | n + 1, d, c, h, hd, hc, hn => by
    rw [chainT, Tr.enc, rd, if_neg (by simp [tagOk])]
    by_cases h12 : 12 < d
    · rw [if_pos h12]
    · rw [if_neg h12, if_neg (by omega)]
      have hl := chain_len n
      have hlo := lenOf_lenB (k := ([] : List Nat).length + (Tr.encs [chainT n]).length) (r := [] ++ Tr.encs [chainT n]) (by simp) (by rw [Tr.encs, Tr.encs, List.append_nil, List.length_nil]; omega)
      rw [hlo]
      dsimp only
      rw [if_neg (by simp [parted]), List.drop_left, List.take_of_length_le (by simp), List.nil_append]
      have e : Tr.encs [chainT n] = (chainT n).enc := by rw [Tr.encs, Tr.encs, List.append_nil]
      rw [e]
      have hp : 0 < (chainT n).enc.length := by rw [Tr.enc_len]; omega
      rw [rds_err hp (chain_deep n (d + 1) (c + 1) (by omega) (by omega) (by omega) (by omega))]
theorem read_chain (n : Nat) (hn : n ≤ 100) : code (readT (chainT n).enc) = if n ≤ 11 then 0 else 3 := by
  have hl := chain_len n
  by_cases h : n ≤ 11
  · rw [if_pos h, read_enc]
    · rfl
    · simp only [isT, chain_sound n 1 (by omega), chain_count]
      simp
      omega
  · rw [if_neg h]
    unfold readT
    rw [if_neg (by omega), chain_deep n 1 0 (by omega) (by omega) (by omega) (by omega)]
    rfl
theorem leaves_counts : ∀ n, Tr.counts (List.replicate n leaf) = n
  | 0 => rfl
  | n + 1 => by rw [List.replicate_succ, Tr.counts, leaves_counts n]; simp [leaf, Tr.count, Tr.counts]; omega
theorem leaves_encs : ∀ n, (Tr.encs (List.replicate n leaf)).length = 2 * n
  | 0 => rfl
  | n + 1 => by rw [List.replicate_succ, Tr.encs, List.length_append, leaves_encs n, leaf_enc]; simp; omega
theorem leaves_sounds : ∀ n d, d ≤ 12 → Tr.sounds (List.replicate n leaf) d = true
  | 0, d, h => by simp [Tr.sounds]
  | n + 1, d, h => by
    rw [List.replicate_succ, Tr.sounds, leaves_sounds n d h]
    simp [leaf, Tr.sound, Tr.sounds, ok1, tagOk, parted]
    omega
/-- Things too many: the error is 4. -/
theorem leaves_many : ∀ n c, c ≤ 600 → 600 < c + n → rds (Tr.encs (List.replicate n leaf)) 2 c = .error 4
  | 0, c, h, h2 => by omega
  | n + 1, c, h, h2 => by
    rw [List.replicate_succ, Tr.encs, leaf_enc]
    by_cases hc : c = 600
    · exact rds_err (by simp) (by rw [List.cons_append, rd, if_neg (by simp [tagOk]), if_neg (by omega), if_pos (by omega)])
    · have h1 : rd ([5, 0] ++ Tr.encs (List.replicate n leaf)) 2 c = .ok (leaf, 2, c + 1) := by
        have := (rd_enc (leaf.size + 1)).1 leaf 2 c (Tr.encs (List.replicate n leaf)) (Nat.lt_succ_self _) (by simp [leaf, Tr.sound, Tr.sounds, ok1, tagOk, parted]) (by simp [leaf, Tr.count, Tr.counts]; omega) (by rw [leaf_enc]; simp)
        rw [leaf_enc] at this
        rw [this]
        simp [leaf, Tr.count, Tr.counts]
      rw [rds_ok (by simp) h1]
      have : ([5, 0] ++ Tr.encs (List.replicate n leaf)).drop 2 = Tr.encs (List.replicate n leaf) := rfl
      rw [this, leaves_many n (c + 1) (by omega) (by omega)]
      rfl
theorem wide_len (n : Nat) : (wideT n).enc.length ≤ 8 + 2 * n := by
  rw [wideT, Tr.enc]
  have h2 := lenB_len (([] : List Nat).length + (Tr.encs (List.replicate n leaf)).length)
  have h3 := leaves_encs n
  simp only [List.length_cons, List.length_append, List.length_nil] at *
  omega
theorem read_wide (n : Nat) (hn : n ≤ 1200) : code (readT (wideT n).enc) = if n < 600 then 0 else 4 := by
  have hl := wide_len n
  by_cases h : n < 600
  · rw [if_pos h, read_enc]
    · rfl
    · have h3 : (wideT n).enc.length ≤ 12000 := by omega
      simp only [isT, Bool.and_eq_true, decide_eq_true_eq]
      refine ⟨⟨?_, ?_⟩, h3⟩
      · rw [wideT, Tr.sound, leaves_sounds n (1 + 1) (by omega)]
        simp [ok1, tagOk, parted]
      · rw [wideT, Tr.count, leaves_counts]
        omega
  · rw [if_neg h]
    unfold readT
    rw [if_neg (by omega), wideT, Tr.enc, rd, if_neg (by simp [tagOk]), if_neg (by omega), if_neg (by omega)]
    have hlo := lenOf_lenB (k := ([] : List Nat).length + (Tr.encs (List.replicate n leaf)).length) (r := [] ++ Tr.encs (List.replicate n leaf)) (by simp) (by rw [leaves_encs]; simp; omega)
    rw [hlo]
    dsimp only
    rw [if_neg (by simp [parted]), List.drop_left, List.take_of_length_le (by simp), List.nil_append, leaves_many n 1 (by omega) (by omega)]
    rfl
end Go.Proofs.Ytlggbkacaemdjaa
