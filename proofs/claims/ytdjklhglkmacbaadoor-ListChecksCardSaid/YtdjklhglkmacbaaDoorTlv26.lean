/-
  What reads as a thing is its bytes.
-/
import Derived.Test.YtdjklhglkmacbaaDoorTlv23
import Derived.Test.YtdjklhglkmacbaaDoorStrong
namespace Go.Proofs.YtdjklhglkmacbaaDoor
open Go.RowKit
set_option linter.unusedVariables false
set_option linter.unusedSimpArgs false

theorem split_last {g : List Nat} (h : g ≠ []) : ∃ a x, g = a ++ [x] := ⟨g.dropLast, g.getLast h, (List.dropLast_concat_getLast h).symm⟩
theorem dig_big : ∀ (f : Nat) (g : List Nat), g.length ≤ f → (∀ x ∈ g, x < 256) → (g = [] ∨ g.getD 0 0 ≠ 0) → dig f (big g) = g
  | 0, g, h, _, _ => by
    obtain rfl := List.eq_nil_of_length_eq_zero (Nat.le_zero.1 h)
    rfl
  | f + 1, g, h, ho, h0 => by
    rcases Nat.eq_zero_or_pos g.length with hg | hg
    · obtain rfl := List.eq_nil_of_length_eq_zero hg
      rfl
    · obtain ⟨a, x, rfl⟩ := split_last (List.ne_nil_of_length_pos hg)
      have hx : x < 256 := ho x (by simp)
      have ha : a = [] ∨ a.getD 0 0 ≠ 0 := by
        rcases a with _ | ⟨y, a⟩
        · exact .inl rfl
        · exact .inr (by rcases h0 with h0 | h0; (cases h0); simpa using h0)
      have ih := dig_big f a (by simp at h; omega) (fun y hy => ho y (by simp [hy])) ha
      have hn : big a * 256 + x ≠ 0 := by
        rcases a with _ | ⟨y, a⟩
        · rcases h0 with h0 | h0
          · cases h0
          · simp at h0
            omega
        · have h1 : (y :: a).getD 0 0 ≠ 0 := by rcases ha with h | h; (cases h); exact h
          have h2 : y ≤ big (y :: a) := by
            show y ≤ List.foldl (fun a x => a * 256 + x) 0 (y :: a)
            rw [List.foldl_cons]
            have := foldl_ge a (0 * 256 + y)
            omega
          simp at h1
          omega
      rw [big_snoc, dig, if_neg hn, show (big a * 256 + x) / 256 = big a by omega, show (big a * 256 + x) % 256 = x by omega, ih]
theorem big_len : ∀ (m : Nat) (g : List Nat), g.length = m + 1 → g.getD 0 0 ≠ 0 → 256 ^ m ≤ big g
  | 0, g, h, h0 => by
    rcases g with _ | ⟨y, g⟩
    · simp at h
    · have : y ≤ big (y :: g) := by
        show y ≤ List.foldl (fun a x => a * 256 + x) 0 (y :: g)
        rw [List.foldl_cons]
        have := foldl_ge g (0 * 256 + y)
        omega
      simp at h0
      simp
      omega
  | m + 1, g, h, h0 => by
    obtain ⟨a, x, rfl⟩ := split_last (List.ne_nil_of_length_pos (by omega : 0 < g.length))
    have hl : a.length = m + 1 := by simp at h; omega
    have := big_len m a hl (by
      rcases a with _ | ⟨y, a⟩
      · simp at hl
      · simpa using h0)
    rw [big_snoc, Nat.pow_succ]
    omega
set_option maxRecDepth 100000 in
theorem lenOf_is {M : List Nat} {k u : Nat} (ho : ∀ x ∈ M, x < 256) (hl : M.length ≤ 100000) (h : lenOf M = some (k, u)) : M.take u = lenB k := by
  rcases M with _ | ⟨x, r⟩
  · simp [lenOf] at h
  have hx : x < 256 := ho x (by simp)
  have hl2 : r.length ≤ 100000 := by simp at hl; omega
  simp only [lenOf] at h
  by_cases h1 : x < 128
  · rw [if_pos h1] at h
    by_cases h2 : x ≤ r.length
    · rw [if_pos h2] at h
      injection h with h
      injection h with h3 h4
      subst h3 h4
      unfold lenB
      rw [if_pos h1]
      rfl
    · rw [if_neg h2] at h
      cases h
  · rw [if_neg h1] at h
    by_cases h2 : x ≠ 128 ∧ x - 128 ≤ r.length ∧ r.getD 0 0 ≠ 0 ∧ 128 ≤ big (r.take (x - 128)) ∧ big (r.take (x - 128)) ≤ r.length - (x - 128)
    · rw [if_pos h2] at h
      injection h with h
      injection h with h3 h4
      obtain ⟨g1, g2, g3, g4, g5⟩ := h2
      obtain ⟨m, hm⟩ : ∃ m, x - 128 = m + 1 := ⟨x - 129, by omega⟩
      rw [hm] at h3 g2 g4 g5
      have hgl : (r.take (m + 1)).length = m + 1 := by rw [List.length_take]; omega
      have hg0 : (r.take (m + 1)).getD 0 0 ≠ 0 := by
        rcases r with _ | ⟨y, r⟩
        · simp at g2
        · simpa using g3
      have hb := big_len m _ hgl hg0
      have hm2 : m ≤ 5 := by
        rcases Nat.lt_or_ge 5 m with h6 | h6
        · have := Nat.pow_le_pow_right (show 0 < 256 by omega) (show 6 ≤ m by omega)
          omega
        · exact h6
      have hd := dig_big 6 (r.take (m + 1)) (by omega) (fun y hy => ho y (List.mem_cons_of_mem _ (List.mem_of_mem_take hy))) (.inr hg0)
      rw [h3] at hd g4
      unfold lenB
      rw [if_neg (by omega), hd, hgl, show u = m + 1 + 1 by omega, List.take_succ_cons, show 128 + (m + 1) = x by omega]
    · rw [if_neg h2] at h
      cases h
theorem rd_sound : ∀ (N : Nat), (∀ M d c t n c', M.length < N → M.length ≤ 100000 → (∀ x ∈ M, x < 256) → rd M d c = .ok (t, n, c') → t.enc = M.take n ∧ t.sound d = true ∧ c' = c + t.count) ∧
    (∀ M d c l c', M.length < N → M.length ≤ 100000 → (∀ x ∈ M, x < 256) → rds M d c = .ok (l, c') → Tr.encs l = M ∧ Tr.sounds l d = true ∧ c' = c + Tr.counts l)
  | 0 => ⟨fun M _ _ _ _ _ h => by omega, fun M _ _ _ _ h => by omega⟩
  | N + 1 => by
    obtain ⟨ih1, ih2⟩ := rd_sound N
    have h1 : ∀ M d c t n c', M.length < N + 1 → M.length ≤ 100000 → (∀ x ∈ M, x < 256) → rd M d c = .ok (t, n, c') → t.enc = M.take n ∧ t.sound d = true ∧ c' = c + t.count := by
      intro M d c t n c' hM hl ho h
      rcases M with _ | ⟨x, r⟩
      · rw [rd] at h; cases h
      rw [rd] at h
      by_cases g1 : tagOk x = false
      · rw [if_pos g1] at h; cases h
      rw [if_neg g1] at h
      have g1' : tagOk x = true := by simpa using g1
      by_cases g2 : 12 < d
      · rw [if_pos g2] at h; cases h
      rw [if_neg g2] at h
      by_cases g3 : 600 ≤ c
      · rw [if_pos g3] at h; cases h
      rw [if_neg g3] at h
      rcases g4 : lenOf r with _ | ⟨k, u⟩
      · rw [g4] at h; cases h
      rw [g4] at h
      have hf := lenOf_fits g4
      have hor : ∀ y ∈ r, y < 256 := fun y hy => ho y (List.mem_cons_of_mem _ hy)
      rw [List.length_cons] at hM hl
      have hlb := lenOf_is hor (by omega) g4
      have hkl : ((r.drop u).take k).length = k := by rw [List.length_take, List.length_drop]; omega
      have htk : (x :: r).take (1 + u + k) = x :: (r.take u ++ (r.drop u).take k) := by
        rw [show 1 + u + k = (u + k) + 1 by omega, List.take_succ_cons, List.take_add]
      dsimp only at h
      by_cases g5 : parted x = false
      · rw [if_pos g5] at h
        injection h with h
        injection h with e1 h
        injection h with e2 e3
        subst e1 e2 e3
        refine ⟨?_, ?_, by simp [Tr.count, Tr.counts]⟩
        · rw [Tr.enc, Tr.encs, List.length_nil, Nat.add_zero, List.append_nil, hkl, ← hlb, htk]
        · rw [Tr.sound, Tr.sounds]
          simp [ok1, g1', g5]
          omega
      rw [if_neg g5] at h
      have g5' : parted x = true := by simpa using g5
      rcases g6 : rds ((r.drop u).take k) (d + 1) (c + 1) with e | ⟨l, c''⟩
      · rw [g6] at h; cases h
      rw [g6] at h
      injection h with h
      injection h with e1 h
      injection h with e2 e3
      subst e1 e2 e3
      obtain ⟨i1, i2, i3⟩ := ih2 _ _ _ _ _ (by rw [hkl]; omega) (by rw [hkl]; omega) (fun y hy => hor y (List.mem_of_mem_drop (List.mem_of_mem_take hy))) g6
      refine ⟨?_, ?_, by rw [i3, Tr.count]; omega⟩
      · rw [Tr.enc, i1, List.length_nil, Nat.zero_add, List.nil_append, hkl, ← hlb, htk]
      · rw [Tr.sound, i2]
        simp [ok1, g1', g5']
        omega
    refine ⟨h1, ?_⟩
    intro M d c l c' hM hl ho h
    rcases M with _ | ⟨x, r⟩
    · rw [rds] at h
      injection h with h
      injection h with e1 e2
      subst e1 e2
      exact ⟨rfl, rfl, rfl⟩
    have hpos : 0 < (x :: r).length := by simp
    generalize x :: r = M at *
    rcases g1 : rd M d c with e | ⟨t, n, c2⟩
    · rw [rds_err hpos g1] at h; cases h
    rw [rds_ok hpos g1] at h
    have hfit := (rd_fits (M.length + 1)).1 _ _ _ _ _ _ (Nat.lt_succ_self _) g1
    obtain ⟨i1, i2, i3⟩ := h1 _ _ _ _ _ _ hM hl ho g1
    rcases g2 : rds (M.drop n) d c2 with e | ⟨l2, c3⟩
    · rw [g2] at h; cases h
    rw [g2] at h
    injection h with h
    injection h with e1 e2
    subst e1 e2
    obtain ⟨j1, j2, j3⟩ := ih2 _ _ _ _ _ (by rw [List.length_drop]; omega) (by rw [List.length_drop]; omega) (fun y hy => ho y (List.mem_of_mem_drop hy)) g2
    refine ⟨?_, ?_, ?_⟩
    · rw [List.singleton_append, Tr.encs, i1, j1, List.take_append_drop]
    · rw [List.singleton_append, Tr.sounds, i2, j2]; rfl
    · rw [List.singleton_append, Tr.counts, j3, i3]; omega
/-- Bytes that read as a thing are its bytes. -/
theorem readT_is {M : List Nat} {t : Tr} (ho : ∀ x ∈ M, x < 256) (h : readT M = .ok t) : t.enc = M ∧ isT t = true := by
  unfold readT at h
  by_cases h1 : 12000 < M.length
  · rw [if_pos h1] at h; cases h
  rw [if_neg h1] at h
  rcases h2 : rd M 1 0 with e | ⟨t', n, c⟩
  · rw [h2] at h; cases h
  rw [h2] at h
  dsimp only at h
  by_cases h3 : n < M.length
  · rw [if_pos h3] at h; cases h
  rw [if_neg h3] at h
  injection h with h
  subst h
  obtain ⟨i1, i2, i3⟩ := (rd_sound (M.length + 1)).1 _ _ _ _ _ _ (Nat.lt_succ_self _) (by omega) ho h2
  have hfit := (rd_fits (M.length + 1)).1 _ _ _ _ _ _ (Nat.lt_succ_self _) h2
  have e : t'.enc = M := by rw [i1, List.take_of_length_le (by omega)]
  refine ⟨e, ?_⟩
  unfold isT
  rw [i2, e]
  simp
  omega
/-- A proper start of a thing's bytes is no thing's; nor are they with more behind. -/
theorem readT_cut {t : Tr} (h : isT t = true) (ho : ∀ x ∈ t.enc, x < 256) {k : Nat} (hk : k < t.enc.length) : ∃ x, readT (t.enc.take k) = .error x := by
  rcases e : readT (t.enc.take k) with x | m
  · exact ⟨x, rfl⟩
  · exfalso
    obtain ⟨i1, i2⟩ := readT_is (fun y hy => ho y (List.mem_of_mem_take hy)) e
    simp only [isT, Bool.and_eq_true, decide_eq_true_eq] at i2 h
    have a := (rd_enc (m.size + 1)).1 m 1 0 (t.enc.drop k) (Nat.lt_succ_self _) i2.1.1 (by omega) (by omega)
    have b := (rd_enc (t.size + 1)).1 t 1 0 [] (Nat.lt_succ_self _) h.1.1 (by omega) (by omega)
    rw [i1, List.take_append_drop] at a
    rw [List.append_nil, a] at b
    injection b with b
    injection b with _ b
    injection b with b _
    rw [List.length_take] at b
    omega
theorem readT_more {t : Tr} (h : isT t = true) (r : List Nat) (hr : 0 < r.length) : ∃ x, readT (t.enc ++ r) = .error x := by
  unfold readT
  by_cases h1 : 12000 < (t.enc ++ r).length
  · exact ⟨4, by rw [if_pos h1]⟩
  · simp only [isT, Bool.and_eq_true, decide_eq_true_eq] at h
    have b := (rd_enc (t.size + 1)).1 t 1 0 r (Nat.lt_succ_self _) h.1.1 (by omega) (by omega)
    refine ⟨2, ?_⟩
    rw [if_neg h1, b]
    dsimp only
    rw [if_pos (by rw [List.length_append]; omega)]
end Go.Proofs.YtdjklhglkmacbaaDoor
