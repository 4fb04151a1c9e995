/-
  What a thing's bytes read as.
-/
import Derived.Test.YtdjklhglkmacbaaDoorTlv19
namespace Go.Proofs.YtdjklhglkmacbaaDoor
open Go.RowKit
set_option linter.unusedVariables false
set_option linter.unusedSimpArgs false

theorem big_append1 (l : List Nat) (x : Nat) : big (l ++ [x]) = big l * 256 + x := big_snoc l x
theorem big_dig : ∀ f n, n < 256 ^ f → big (dig f n) = n
  | 0, n, h => by simp at h; subst h; rfl
  | f + 1, n, h => by
    rw [dig]
    by_cases h0 : n = 0
    · rw [if_pos h0, h0]; rfl
    · rw [if_neg h0, big_snoc, big_dig f (n / 256) (by rw [Nat.pow_succ] at h; omega)]
      omega
theorem dig_pos : ∀ f n, n ≠ 0 → 0 < f → 0 < (dig f n).length
  | 0, n, h, hf => by omega
  | f + 1, n, h, hf => by
    rw [dig, if_neg h]
    simp
theorem dig_head : ∀ f n, n ≠ 0 → n < 256 ^ f → (dig f n).getD 0 0 ≠ 0
  | 0, n, h, h' => by simp at h'; omega
  | f + 1, n, h, h' => by
    rw [dig, if_neg h]
    by_cases h1 : n / 256 = 0
    · rw [h1, dig_zero]
      simp
      omega
    · have hf : 0 < f := by
        rcases f with _ | f
        · simp at h'; omega
        · omega
      have hl := dig_pos f (n / 256) h1 hf
      have := dig_head f (n / 256) h1 (by rw [Nat.pow_succ] at h'; omega)
      rw [List.getD_eq_getElem?_getD, List.getElem?_append_left hl, ← List.getD_eq_getElem?_getD]
      exact this
theorem lenOf_lenB {k : Nat} {r : List Nat} (hk : k ≤ r.length) (h12 : k ≤ 1000000) : lenOf (lenB k ++ r) = some (k, (lenB k).length) := by
  unfold lenB
  by_cases h : k < 128
  · rw [if_pos h]
    show lenOf (k :: r) = _
    simp only [lenOf]
    rw [if_pos h, if_pos hk]
    rfl
  · rw [if_neg h]
    have hp : k < 256 ^ 6 := by omega
    have h1 := dig_pos 6 k (by omega) (by omega)
    have h2 := dig_len 6 k
    have h3 := dig_head 6 k (by omega) hp
    have h4 := big_dig 6 k hp
    generalize dig 6 k = g at *
    show lenOf ((128 + g.length) :: (g ++ r)) = _
    simp only [lenOf]
    have e1 : 128 + g.length - 128 = g.length := by omega
    have e2 : (g ++ r).take g.length = g := by simp
    rw [if_neg (by omega), e1, e2, h4, if_pos]
    · rw [List.length_cons, show 128 + g.length - 127 = g.length + 1 by omega]
    · refine ⟨by omega, by simp, ?_, by omega, by simp; exact hk⟩
      rw [List.getD_eq_getElem?_getD, List.getElem?_append_left h1, ← List.getD_eq_getElem?_getD]
      exact h3
mutual
def Tr.size : Tr → Nat
  | .mk _ _ kids => 1 + Tr.sizes kids
def Tr.sizes : List Tr → Nat
  | [] => 0
  | x :: r => x.size + Tr.sizes r + 1
end
theorem Tr.size_pos : ∀ t : Tr, 1 ≤ t.size
  | .mk _ _ _ => by rw [Tr.size]; omega
theorem rd_enc : ∀ (N : Nat), (∀ (t : Tr) (d c : Nat) (rest : List Nat), t.size < N → t.sound d = true → c + t.count ≤ 600 → t.enc.length ≤ 1000000 → rd (t.enc ++ rest) d c = .ok (t, t.enc.length, c + t.count)) ∧
    (∀ (l : List Tr) (d c : Nat), Tr.sizes l < N → Tr.sounds l d = true → c + Tr.counts l ≤ 600 → (Tr.encs l).length ≤ 1000000 → rds (Tr.encs l) d c = .ok (l, c + Tr.counts l))
  | 0 => ⟨fun t _ _ _ h => by omega, fun l _ _ h => by omega⟩
  | N + 1 => by
    obtain ⟨ih1, ih2⟩ := rd_enc N
    refine ⟨?_, ?_⟩
    · rintro ⟨tag, body, kids⟩ d c rest hN hs hc hl
      rw [Tr.size] at hN
      rw [Tr.sound] at hs
      rw [Tr.count] at hc ⊢
      rw [Tr.enc] at hl ⊢
      simp only [Bool.and_eq_true, decide_eq_true_eq] at hs
      obtain ⟨⟨hok, hd⟩, hss⟩ := hs
      simp only [ok1, Bool.and_eq_true] at hok
      obtain ⟨⟨ht, hb⟩, hk⟩ := hok
      have hl2 : body.length + (Tr.encs kids).length ≤ 1000000 := by simp at hl; omega
      have hlo := lenOf_lenB (k := body.length + (Tr.encs kids).length) (r := (body ++ Tr.encs kids) ++ rest) (by rw [List.length_append, List.length_append]; omega) hl2
      rw [List.cons_append, List.append_assoc, rd, if_neg (by rw [ht]; simp), if_neg (by omega), if_neg (by omega), hlo]
      dsimp only
      rw [List.drop_left, List.take_left' (by simp)]
      by_cases hp : parted tag = false
      · rw [if_pos hp]
        have hk0 : kids = [] := by
          rcases kids with _ | ⟨x, r⟩
          · rfl
          · simp [hp] at hk
        subst hk0
        simp [Tr.encs, Tr.counts]
        omega
      · rw [if_neg hp]
        have hp' : parted tag = true := by simpa using hp
        have hb0 : body = [] := by
          rcases body with _ | ⟨x, r⟩
          · rfl
          · simp [hp'] at hb
        subst hb0
        rw [List.nil_append, ih2 kids (d + 1) (c + 1) (by omega) hss (by omega) (by omega)]
        simp
        omega
    · rintro (_ | ⟨x, r⟩) d c hN hs hc hl
      · rw [Tr.encs, rds, Tr.counts]; rfl
      · rw [Tr.sizes] at hN
        rw [Tr.sounds, Bool.and_eq_true] at hs
        rw [Tr.counts] at hc
        rw [Tr.encs] at hl ⊢
        rw [List.length_append] at hl
        have hx := ih1 x d c (Tr.encs r) (by omega) hs.1 (by omega) (by omega)
        have hpos : 0 < (x.enc ++ Tr.encs r).length := by
          rw [List.length_append]
          have := x.enc_len
          omega
        rw [rds_ok hpos hx, List.drop_left, ih2 r d (c + x.count) (by omega) hs.2 (by omega) (by omega), Tr.counts]
        simp [preT]
        omega
theorem read_enc {t : Tr} (h : isT t = true) : readT t.enc = .ok t := by
  simp only [isT, Bool.and_eq_true, decide_eq_true_eq] at h
  obtain ⟨⟨h1, h2⟩, h3⟩ := h
  have h4 := (rd_enc (t.size + 1)).1 t 1 0 [] (Nat.lt_succ_self _) h1 (by omega) (by omega)
  rw [List.append_nil] at h4
  unfold readT
  rw [if_neg (by omega), h4]
  dsimp only
  rw [if_neg (by omega)]
end Go.Proofs.YtdjklhglkmacbaaDoor
