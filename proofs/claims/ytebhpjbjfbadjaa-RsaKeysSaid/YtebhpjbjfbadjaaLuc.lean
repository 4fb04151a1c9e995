/-
  Plain numbers: Lucas's test tells that a number is a prime; what a prime's powers do. Nothing of the program.
-/
import Derived.KernelRfl
namespace Go.Proofs.Ytebhpjbjfbadjaa.Luc
set_option linter.unusedVariables false
set_option linter.unusedSimpArgs false

theorem d2 (x : Int) : 2 * x = x + x := by omega
theorem d3 (x : Int) : 3 * x = x + x + x := by omega
theorem d4 (x : Int) : 4 * x = x + x + x + x := by omega
/-- Among one more than n numbers below n two are one. -/
theorem pigeon : ∀ (n : Nat) (f : Nat → Nat), (∀ i, i ≤ n → f i < n) → ∃ i j, i < j ∧ j ≤ n ∧ f i = f j
  | 0, f, h => absurd (h 0 (Nat.le_refl _)) (by omega)
  | n + 1, f, h => by
    by_cases hc : ∃ i, i < n + 1 ∧ f i = f (n + 1)
    · obtain ⟨i, hi, e⟩ := hc
      exact ⟨i, n + 1, hi, Nat.le_refl _, e⟩
    · have hne : ∀ i, i < n + 1 → f i ≠ f (n + 1) := fun i hi e => hc ⟨i, hi, e⟩
      obtain ⟨i, j, h1, h2, h3⟩ := pigeon n (fun i => if f i = n then f (n + 1) else f i) (fun i hi => by
        have a := h i (by omega)
        have b := h (n + 1) (Nat.le_refl _)
        have c := hne i (by omega)
        show (if f i = n then f (n + 1) else f i) < n
        split <;> omega)
      refine ⟨i, j, h1, by omega, ?_⟩
      have ci := hne i (by omega)
      have cj := hne j (by omega)
      have h3' : (if f i = n then f (n + 1) else f i) = (if f j = n then f (n + 1) else f j) := h3
      split at h3' <;> split at h3' <;> omega

/-- The powers of 2 and the root of 3: their two parts. -/
def pa : Nat → Int × Int
  | 0 => (1, 0)
  | n + 1 => (2 * (pa n).1 + 3 * (pa n).2, (pa n).1 + 2 * (pa n).2)
theorem pa_add (m : Nat) : ∀ n, (pa (m + n)).1 = (pa m).1 * (pa n).1 + 3 * ((pa m).2 * (pa n).2) ∧ (pa (m + n)).2 = (pa m).1 * (pa n).2 + (pa m).2 * (pa n).1
  | 0 => by simp [pa]
  | n + 1 => by
    obtain ⟨h1, h2⟩ := pa_add m n
    rw [← Nat.add_assoc]
    simp only [pa, h1, h2]
    constructor <;> ((try simp only [d2, d3, d4]); simp only [Int.mul_add, Int.add_mul, Int.mul_sub, Int.sub_mul, Int.mul_assoc, Int.mul_comm, Int.mul_left_comm, Int.mul_one, Int.one_mul] <;> omega)
theorem pa_norm : ∀ n, (pa n).1 * (pa n).1 - 3 * ((pa n).2 * (pa n).2) = 1
  | 0 => by simp [pa]
  | n + 1 => by
    have h := pa_norm n
    simp only [pa]
    (try simp only [d2, d3, d4] at h ⊢); simp only [Int.mul_add, Int.add_mul, Int.mul_sub, Int.sub_mul, Int.mul_assoc, Int.mul_comm, Int.mul_left_comm, Int.mul_one, Int.one_mul] at h ⊢
    omega
/-- A power is 1 by a number. -/
def One (q : Int) (n : Nat) : Prop := q ∣ (pa n).1 - 1 ∧ q ∣ (pa n).2
theorem One.mul {q : Int} {n : Nat} (h : One q n) : ∀ m, One q (n * m)
  | 0 => ⟨⟨0, by simp [pa]⟩, ⟨0, by simp [pa]⟩⟩
  | m + 1 => by
    obtain ⟨⟨x, hx⟩, ⟨y, hy⟩⟩ := h
    obtain ⟨⟨u, hu⟩, ⟨v, hv⟩⟩ := One.mul ⟨⟨x, hx⟩, ⟨y, hy⟩⟩ m
    obtain ⟨h1, h2⟩ := pa_add (n * m) n
    rw [Nat.mul_add, Nat.mul_one]
    have ex : (pa n).1 = 1 + q * x := by omega
    have eu : (pa (n * m)).1 = 1 + q * u := by omega
    refine ⟨⟨u + x + u * q * x + 3 * (v * (q * y)), ?_⟩, ⟨y + u * q * y + v + v * (q * x), ?_⟩⟩
    · rw [h1, ex, eu, hy, hv]; (try simp only [d2, d3, d4]); simp only [Int.mul_add, Int.add_mul, Int.mul_sub, Int.sub_mul, Int.mul_assoc, Int.mul_comm, Int.mul_left_comm, Int.mul_one, Int.one_mul] <;> omega
    · rw [h2, ex, eu, hy, hv]; (try simp only [d2, d3, d4]); simp only [Int.mul_add, Int.add_mul, Int.mul_sub, Int.sub_mul, Int.mul_assoc, Int.mul_comm, Int.mul_left_comm, Int.mul_one, Int.one_mul] <;> omega
theorem one_of_same {q : Int} {i j : Nat} (hij : i < j) (h1 : q ∣ (pa j).1 - (pa i).1) (h2 : q ∣ (pa j).2 - (pa i).2) : One q (j - i) := by
  obtain ⟨d, rfl⟩ : ∃ d, j = i + d := ⟨j - i, by omega⟩
  rw [show i + d - i = d by omega]
  obtain ⟨e1, e2⟩ := pa_add i d
  obtain ⟨x, hx⟩ := h1
  obtain ⟨y, hy⟩ := h2
  have hn := pa_norm i
  have ex : (pa (i + d)).1 = (pa i).1 + q * x := by omega
  have ey : (pa (i + d)).2 = (pa i).2 + q * y := by omega
  rw [ex] at e1
  rw [ey] at e2
  unfold One
  generalize (pa i).1 = a at *
  generalize (pa i).2 = b at *
  generalize (pa d).1 = u at *
  generalize (pa d).2 = v at *
  have m1 := congrArg (a * ·) e1
  have m2 := congrArg (b * ·) e2
  have m3 := congrArg (u * ·) hn
  have m4 := congrArg (a * ·) e2
  have m5 := congrArg (b * ·) e1
  have m6 := congrArg (v * ·) hn
  (try simp only [d2, d3, d4] at m1 m2 m3 m4 m5 m6); simp only [Int.mul_add, Int.add_mul, Int.mul_sub, Int.sub_mul, Int.mul_assoc, Int.mul_comm, Int.mul_left_comm, Int.mul_one, Int.one_mul] at m1 m2 m3 m4 m5 m6
  exact ⟨⟨a * x - 3 * (b * y), by (try simp only [d2, d3, d4]); simp only [Int.mul_add, Int.add_mul, Int.mul_sub, Int.sub_mul, Int.mul_assoc, Int.mul_comm, Int.mul_left_comm, Int.mul_one, Int.one_mul] <;> omega⟩, ⟨a * y - b * x, by (try simp only [d2, d3, d4]); simp only [Int.mul_add, Int.add_mul, Int.mul_sub, Int.sub_mul, Int.mul_assoc, Int.mul_comm, Int.mul_left_comm, Int.mul_one, Int.one_mul] <;> omega⟩⟩
theorem two_odd : ∀ d : Nat, 0 < d → ∃ k m, d = 2 ^ k * (2 * m + 1)
  | 0, h => by omega
  | d + 1, _ => by
    rcases Nat.mod_two_eq_zero_or_one (d + 1) with h | h
    · obtain ⟨k, m, e⟩ := two_odd ((d + 1) / 2) (by omega)
      refine ⟨k + 1, m, ?_⟩
      rw [Nat.pow_succ, Nat.mul_comm (2 ^ k) 2, Nat.mul_assoc, ← e]
      omega
    · exact ⟨0, d / 2, by simp; omega⟩
/-- Lucas's row. -/
def ll (M : Nat) : Nat → Nat → Nat
  | 0, s => s
  | n + 1, s => ll M n ((s * s + (M - 2)) % M)
theorem ll_is {M : Nat} (hM : 2 ≤ M) : ∀ (n i s : Nat), (M : Int) ∣ (s : Int) - 2 * (pa (2 ^ i)).1 → (M : Int) ∣ (ll M n s : Int) - 2 * (pa (2 ^ (i + n))).1
  | 0, i, s, h => h
  | n + 1, i, s, h => by
    rw [ll, show i + (n + 1) = (i + 1) + n by omega]
    refine ll_is hM n (i + 1) _ ?_
    obtain ⟨x, hx⟩ := h
    have ed := pa_add (2 ^ i) (2 ^ i)
    have en := pa_norm (2 ^ i)
    rw [show 2 ^ (i + 1) = 2 ^ i + 2 ^ i by rw [Nat.pow_succ]; omega, ed.1]
    have em := Int.mul_ediv_add_emod ((s * s + (M - 2) : Nat) : Int) (M : Int)
    rw [Int.natCast_emod]
    have ec : ((s * s + (M - 2) : Nat) : Int) = (s : Int) * s + ((M : Int) - 2) := by
      rw [Int.natCast_add, Int.natCast_mul, Int.natCast_sub hM]; rfl
    rw [ec] at em ⊢
    generalize ((s : Int) * s + ((M : Int) - 2)) / (M : Int) = t at *
    generalize ((s : Int) * s + ((M : Int) - 2)) % (M : Int) = r at *
    generalize (pa (2 ^ i)).1 = a at *
    generalize (pa (2 ^ i)).2 = b at *
    have es : (s : Int) = 2 * a + M * x := by omega
    rw [es] at em
    (try simp only [d2, d3, d4] at em en); simp only [Int.mul_add, Int.add_mul, Int.mul_sub, Int.sub_mul, Int.mul_assoc, Int.mul_comm, Int.mul_left_comm, Int.mul_one, Int.one_mul] at em en
    exact ⟨4 * a * x + M * x * x + 1 - t, by (try simp only [d2, d3, d4]); simp only [Int.mul_add, Int.add_mul, Int.mul_sub, Int.sub_mul, Int.mul_assoc, Int.mul_comm, Int.mul_left_comm, Int.mul_one, Int.one_mul] <;> omega⟩

def Prime (p : Nat) : Prop := 2 ≤ p ∧ ∀ q, q ∣ p → q = 1 ∨ q = p

/-- Lucas's test. -/
theorem lucas {M p : Nat} (hp : 3 ≤ p) (hM : M + 1 = 2 ^ p) (hz : ll M (p - 2) 4 = 0) : Prime M := by
  have hM7 : 7 ≤ M := by
    have : 2 ^ 3 ≤ 2 ^ p := Nat.pow_le_pow_right (by omega) hp
    omega
  have hodd : M % 2 = 1 := by
    obtain ⟨k, rfl⟩ : ∃ k, p = k + 1 := ⟨p - 1, by omega⟩
    rw [Nat.pow_succ] at hM
    omega
  have key : ∀ q, q ∣ M → 2 ≤ q → q * q ≤ M → False := by
    intro q hq h2 hle
    have hqodd : q % 2 = 1 := by
      rcases Nat.mod_two_eq_zero_or_one q with h | h
      · have : 2 ∣ M := Nat.dvd_trans (Nat.dvd_of_mod_eq_zero h) hq
        omega
      · exact h
    have hqM : (q : Int) ∣ (M : Int) := Int.ofNat_dvd.2 hq
    have h0 := ll_is (M := M) (by omega) (p - 2) 0 4 ⟨0, by simp [pa]⟩
    rw [hz, Nat.zero_add] at h0
    have h1 : (q : Int) ∣ 2 * (pa (2 ^ (p - 2))).1 := by
      have := Int.dvd_trans hqM h0
      obtain ⟨x, hx⟩ := this
      exact ⟨-x, by rw [Int.mul_neg, ← hx]; simp⟩
    have h3 : (q : Int) ∣ (pa (2 ^ (p - 2))).1 := by
      obtain ⟨x, hx⟩ := h1
      have hx2 : ∃ y, x = 2 * y := by
        obtain ⟨k, hk⟩ : ∃ k : Int, (q : Int) = 2 * k + 1 := ⟨(q : Int) / 2, by omega⟩
        rw [hk] at hx
        refine ⟨(pa (2 ^ (p - 2))).1 - k * x, ?_⟩
        have e : (2 * k + 1) * x = 2 * (k * x) + x := by rw [Int.add_mul, Int.one_mul, Int.mul_assoc]
        omega
      obtain ⟨y, rfl⟩ := hx2
      refine ⟨y, ?_⟩
      have e : (q : Int) * (2 * y) = 2 * ((q : Int) * y) := by rw [Int.mul_left_comm]
      omega
    -- the power of half is -1
    have hneg : (q : Int) ∣ (pa (2 ^ (p - 1))).1 + 1 ∧ (q : Int) ∣ (pa (2 ^ (p - 1))).2 := by
      obtain ⟨x, hx⟩ := h3
      have ed := pa_add (2 ^ (p - 2)) (2 ^ (p - 2))
      have en := pa_norm (2 ^ (p - 2))
      rw [show 2 ^ (p - 1) = 2 ^ (p - 2) + 2 ^ (p - 2) by rw [show p - 1 = (p - 2) + 1 by omega, Nat.pow_succ]; omega, ed.1, ed.2]
      generalize (pa (2 ^ (p - 2))).1 = a at *
      generalize (pa (2 ^ (p - 2))).2 = b at *
      subst hx
      (try simp only [d2, d3, d4] at en); simp only [Int.mul_add, Int.add_mul, Int.mul_sub, Int.sub_mul, Int.mul_assoc, Int.mul_comm, Int.mul_left_comm, Int.mul_one, Int.one_mul] at en
      exact ⟨⟨2 * (x * (q * x)), by (try simp only [d2, d3, d4]); simp only [Int.mul_add, Int.add_mul, Int.mul_sub, Int.sub_mul, Int.mul_assoc, Int.mul_comm, Int.mul_left_comm, Int.mul_one, Int.one_mul] <;> omega⟩, ⟨2 * (x * b), by (try simp only [d2, d3, d4]); simp only [Int.mul_add, Int.add_mul, Int.mul_sub, Int.sub_mul, Int.mul_assoc, Int.mul_comm, Int.mul_left_comm, Int.mul_one, Int.one_mul] <;> omega⟩⟩
    -- two powers are one
    have hq0 : 0 < q := by omega
    obtain ⟨i, j, hij, hj, he⟩ := pigeon (q * q) (fun i => ((pa i).1 % q).toNat * q + ((pa i).2 % q).toNat) (fun i _ => by
      have a1 := Int.emod_lt_of_pos (pa i).1 (show (0 : Int) < q by omega)
      have a2 := Int.emod_nonneg (pa i).1 (show (q : Int) ≠ 0 by omega)
      have b1 := Int.emod_lt_of_pos (pa i).2 (show (0 : Int) < q by omega)
      have b2 := Int.emod_nonneg (pa i).2 (show (q : Int) ≠ 0 by omega)
      have : ((pa i).1 % q).toNat + 1 ≤ q := by omega
      have h := Nat.mul_le_mul_right q this
      rw [Nat.add_mul, Nat.one_mul] at h
      show ((pa i).1 % q).toNat * q + ((pa i).2 % q).toNat < q * q
      omega)
    have he' : ((pa i).1 % q).toNat * q + ((pa i).2 % q).toNat = ((pa j).1 % q).toNat * q + ((pa j).2 % q).toNat := he
    have hone : One q (j - i) := by
      have a2 := Int.emod_nonneg (pa i).1 (show (q : Int) ≠ 0 by omega)
      have c2 := Int.emod_nonneg (pa j).1 (show (q : Int) ≠ 0 by omega)
      have b1 := Int.emod_lt_of_pos (pa i).2 (show (0 : Int) < q by omega)
      have b2 := Int.emod_nonneg (pa i).2 (show (q : Int) ≠ 0 by omega)
      have d1 := Int.emod_lt_of_pos (pa j).2 (show (0 : Int) < q by omega)
      have d2 := Int.emod_nonneg (pa j).2 (show (q : Int) ≠ 0 by omega)
      have l1 : ((pa i).2 % q).toNat < q := by omega
      have l2 : ((pa j).2 % q).toNat < q := by omega
      have m1 := congrArg (· / q) he'
      have m2 := congrArg (· % q) he'
      simp only [Nat.mul_comm _ q, Nat.mul_add_div hq0, Nat.div_eq_of_lt l1, Nat.div_eq_of_lt l2, Nat.add_zero, Nat.mul_add_mod, Nat.mod_eq_of_lt l1, Nat.mod_eq_of_lt l2] at m1 m2
      refine one_of_same hij ?_ ?_
      · have : (pa j).1 % q = (pa i).1 % q := by omega
        exact Int.dvd_of_emod_eq_zero (Int.emod_eq_emod_iff_emod_sub_eq_zero.1 this)
      · have : (pa j).2 % q = (pa i).2 % q := by omega
        exact Int.dvd_of_emod_eq_zero (Int.emod_eq_emod_iff_emod_sub_eq_zero.1 this)
    obtain ⟨k, m, hd⟩ := two_odd (j - i) (by omega)
    have hk : k < p := by
      rcases Nat.lt_or_ge k p with h | h
      · exact h
      · have e1 : 2 ^ p ≤ 2 ^ k := Nat.pow_le_pow_right (by omega) h
        have e2 : 2 ^ k * 1 ≤ 2 ^ k * (2 * m + 1) := Nat.mul_le_mul_left _ (by omega)
        omega
    have h4 := hone.mul (2 ^ (p - 1 - k))
    rw [hd, Nat.mul_right_comm, ← Nat.pow_add, show k + (p - 1 - k) = p - 1 by omega] at h4
    -- an odd power of -1 is -1
    have h5 : ∀ m, (q : Int) ∣ (pa (2 ^ (p - 1) * (2 * m + 1))).1 + 1 ∧ (q : Int) ∣ (pa (2 ^ (p - 1) * (2 * m + 1))).2 := by
      intro m
      induction m with
      | zero => simpa using hneg
      | succ m ih =>
        have hsq : One q (2 ^ (p - 1) + 2 ^ (p - 1)) := by
          obtain ⟨⟨x, hx⟩, ⟨y, hy⟩⟩ := hneg
          have ed := pa_add (2 ^ (p - 1)) (2 ^ (p - 1))
          have ex : (pa (2 ^ (p - 1))).1 = q * x - 1 := by omega
          unfold One
          rw [ed.1, ed.2, ex, hy]
          exact ⟨⟨x * (q * x) - 2 * x + 3 * (y * (q * y)), by (try simp only [d2, d3, d4]); simp only [Int.mul_add, Int.add_mul, Int.mul_sub, Int.sub_mul, Int.mul_assoc, Int.mul_comm, Int.mul_left_comm, Int.mul_one, Int.one_mul] <;> omega⟩, ⟨2 * ((q * x - 1) * y), by (try simp only [d2, d3, d4]); simp only [Int.mul_add, Int.add_mul, Int.mul_sub, Int.sub_mul, Int.mul_assoc, Int.mul_comm, Int.mul_left_comm, Int.mul_one, Int.one_mul] <;> omega⟩⟩
        rw [show 2 ^ (p - 1) * (2 * (m + 1) + 1) = (2 ^ (p - 1) * (2 * m + 1)) + (2 ^ (p - 1) + 2 ^ (p - 1)) by rw [show 2 * (m + 1) + 1 = (2 * m + 1) + 2 by omega, Nat.mul_add]; omega]
        obtain ⟨⟨x, hx⟩, ⟨y, hy⟩⟩ := ih
        obtain ⟨⟨u, hu⟩, ⟨v, hv⟩⟩ := hsq
        have ed := pa_add (2 ^ (p - 1) * (2 * m + 1)) (2 ^ (p - 1) + 2 ^ (p - 1))
        have ex : (pa (2 ^ (p - 1) * (2 * m + 1))).1 = q * x - 1 := by omega
        have eu : (pa (2 ^ (p - 1) + 2 ^ (p - 1))).1 = 1 + q * u := by omega
        rw [ed.1, ed.2, ex, hy, eu, hv]
        exact ⟨⟨x + x * (q * u) - u + 3 * (y * (q * v)), by (try simp only [d2, d3, d4]); simp only [Int.mul_add, Int.add_mul, Int.mul_sub, Int.sub_mul, Int.mul_assoc, Int.mul_comm, Int.mul_left_comm, Int.mul_one, Int.one_mul] <;> omega⟩, ⟨(q * x - 1) * v + y * (1 + q * u), by (try simp only [d2, d3, d4]); simp only [Int.mul_add, Int.add_mul, Int.mul_sub, Int.sub_mul, Int.mul_assoc, Int.mul_comm, Int.mul_left_comm, Int.mul_one, Int.one_mul] <;> omega⟩⟩
    obtain ⟨x, hx⟩ := h4.1
    obtain ⟨y, hy⟩ := (h5 m).1
    have h6 : (q : Int) ∣ 2 := ⟨y - x, by rw [Int.mul_sub]; omega⟩
    have h7 : q ∣ 2 := Int.ofNat_dvd.1 h6
    have := Nat.le_of_dvd (by omega) h7
    omega
  refine ⟨by omega, fun q hq => ?_⟩
  obtain ⟨r, hr⟩ := hq
  rcases Nat.lt_or_ge q 2 with h | h
  · rcases Nat.eq_zero_or_pos q with h0 | h0
    · subst h0; omega
    · exact .inl (by omega)
  rcases Nat.lt_or_ge r 2 with h' | h'
  · rcases Nat.eq_zero_or_pos r with h0 | h0
    · subst h0; omega
    · obtain rfl : r = 1 := by omega
      exact .inr (by omega)
  exfalso
  rcases Nat.le_total q r with hqr | hqr
  · exact key q ⟨r, hr⟩ h (by rw [hr]; exact Nat.mul_le_mul_left _ hqr)
  · exact key r ⟨q, by rw [hr, Nat.mul_comm]⟩ h' (by rw [hr]; exact Nat.mul_le_mul_right _ hqr)

/-! Fermat. -/
theorem perm_of {l1 : List Nat} : ∀ {l2 : List Nat}, l1.Nodup → (∀ x ∈ l1, x ∈ l2) → l2.length ≤ l1.length → l1.Perm l2 := by
  induction l1 with
  | nil => intro l2 _ _ h; obtain rfl : l2 = [] := List.eq_nil_of_length_eq_zero (by simpa using h); exact .refl _
  | cons x t ih =>
    intro l2 hn hs hl
    have hx : x ∈ l2 := hs x (by simp)
    obtain ⟨hx1, hn1⟩ := List.nodup_cons.1 hn
    have h1 : t.Perm (l2.erase x) := ih hn1 (fun y hy => (List.mem_erase_of_ne (fun e => hx1 (by rw [← e]; exact hy))).2 (hs y (by simp [hy]))) (by
      rw [List.length_erase_of_mem hx]
      simp at hl
      omega)
    exact (h1.cons x).trans (List.perm_cons_erase hx).symm
def prod : List Nat → Nat
  | [] => 1
  | x :: l => x * prod l
theorem prod_perm {a b : List Nat} (h : a.Perm b) : prod a = prod b := by
  induction h with
  | nil => rfl
  | cons x _ ih => rw [prod, prod, ih]
  | swap x y l => rw [prod, prod, prod, prod, Nat.mul_left_comm]
  | trans _ _ h1 h2 => exact h1.trans h2
theorem Prime.cop {p a : Nat} (h : Prime p) (ha : ¬ p ∣ a) : Nat.Coprime p a := by
  rcases h.2 (Nat.gcd p a) (Nat.gcd_dvd_left p a) with h1 | h1
  · exact h1
  · exact absurd (h1 ▸ Nat.gcd_dvd_right p a) ha
theorem prod_cop {p : Nat} (h : Prime p) : ∀ l : List Nat, (∀ x ∈ l, 0 < x ∧ x < p) → Nat.Coprime p (prod l)
  | [], _ => Nat.coprime_one_right p
  | x :: l, hl => by
    rw [prod]
    refine Nat.Coprime.mul_right (h.cop fun hd => ?_) (prod_cop h l fun y hy => hl y (by simp [hy]))
    have h1 := hl x (by simp)
    have := Nat.le_of_dvd h1.1 hd
    omega
theorem prod_map (p a : Nat) : ∀ l : List Nat, prod (l.map fun x => a * x % p) % p = a ^ l.length * prod l % p
  | [] => by simp [prod]
  | x :: l => by
    have ih := prod_map p a l
    rw [List.map_cons, prod, prod, List.length_cons, Nat.pow_succ, Nat.mul_mod, ih, Nat.mod_mod, ← Nat.mul_mod]
    congr 1
    rw [Nat.mul_comm (a ^ l.length) a, Nat.mul_assoc, Nat.mul_assoc]
    congr 1
    rw [Nat.mul_left_comm]
theorem nodup_range' (n : Nat) : ∀ s, (List.range' s n).Nodup := by
  intro s
  exact List.nodup_range'
theorem fermat {p a : Nat} (h : Prime p) (ha : ¬ p ∣ a) : a ^ (p - 1) % p = 1 := by
  have h2 := h.1
  have hc := h.cop ha
  obtain ⟨l, hl⟩ : ∃ l, l = List.range' 1 (p - 1) := ⟨_, rfl⟩
  have hm : ∀ x, x ∈ l ↔ 0 < x ∧ x < p := fun x => by rw [hl, List.mem_range'_1]; omega
  have hn : l.Nodup := by rw [hl]; exact List.nodup_range'
  have hlen : l.length = p - 1 := by rw [hl, List.length_range']
  have hp : (l.map fun x => a * x % p).Perm l := by
    refine perm_of ?_ ?_ (by rw [List.length_map]; exact Nat.le_refl _)
    · rw [List.nodup_iff_pairwise_ne] at hn ⊢
      rw [List.pairwise_map]
      refine List.Pairwise.imp_of_mem ?_ hn
      intro x y hx hy hne e
      have h1 := (hm x).1 hx
      have h3 := (hm y).1 hy
      have hle : ∀ {u v : Nat}, u ≤ v → v < p → a * u % p = a * v % p → u = v := fun {u v} huv hv e => by
        have hd : p ∣ a * v - a * u := Nat.dvd_of_mod_eq_zero (Nat.sub_mod_eq_zero_of_mod_eq e.symm)
        rw [← Nat.mul_sub] at hd
        have hd2 := hc.dvd_of_dvd_mul_left hd
        rcases Nat.eq_zero_or_pos (v - u) with h0 | h0
        · omega
        · have := Nat.le_of_dvd h0 hd2
          omega
      rcases Nat.le_total x y with hxy | hxy
      · exact hne (hle hxy h3.2 e)
      · exact hne (hle hxy h1.2 e.symm).symm
    · intro y hy
      obtain ⟨x, hx, rfl⟩ := List.mem_map.1 hy
      have h1 := (hm x).1 hx
      refine (hm _).2 ⟨?_, Nat.mod_lt _ (by omega)⟩
      rcases Nat.eq_zero_or_pos (a * x % p) with h0 | h0
      · have hd := hc.dvd_of_dvd_mul_left (Nat.dvd_of_mod_eq_zero h0)
        have := Nat.le_of_dvd h1.1 hd
        omega
      · exact h0
  have e1 := prod_map p a l
  rw [prod_perm hp, hlen] at e1
  have hcl := prod_cop h l fun x hx => (hm x).1 hx
  have hpos : 1 ≤ a ^ (p - 1) := Nat.pos_of_ne_zero fun h0 => by
    have : a = 0 := by
      rcases Nat.eq_zero_or_pos a with h | h
      · exact h
      · exact absurd h0 (Nat.ne_of_gt (Nat.pow_pos h))
    exact ha (by rw [this]; exact ⟨0, rfl⟩)
  have hd : p ∣ a ^ (p - 1) * prod l - 1 * prod l := Nat.dvd_of_mod_eq_zero (Nat.sub_mod_eq_zero_of_mod_eq (by rw [Nat.one_mul]; exact e1.symm))
  rw [← Nat.sub_mul] at hd
  have hd2 := hcl.dvd_of_dvd_mul_right hd
  obtain ⟨c, hcc⟩ := hd2
  have e2 : a ^ (p - 1) = 1 + p * c := by omega
  rw [e2, Nat.add_mul_mod_self_left, Nat.mod_eq_of_lt (by omega)]
theorem pow_one_mod {p x : Nat} (h2 : 2 ≤ p) (h : x % p = 1) : ∀ k, x ^ k % p = 1
  | 0 => by rw [Nat.pow_zero]; exact Nat.mod_eq_of_lt (by omega)
  | k + 1 => by rw [Nat.pow_succ, Nat.mul_mod, pow_one_mod h2 h k, h, Nat.one_mul]; exact Nat.mod_eq_of_lt (by omega)
/-- What was raised by two powers whose product is one more than a whole number of rounds is there again. -/
theorem again {p a e d k : Nat} (h : Prime p) (hed : e * d = 1 + (p - 1) * k) : a ^ (e * d) % p = a % p := by
  have h2 := h.1
  rw [hed, Nat.pow_add, Nat.pow_one, Nat.pow_mul, Nat.mul_mod]
  by_cases ha : p ∣ a
  · rw [Nat.mod_eq_zero_of_dvd ha, Nat.zero_mul, Nat.zero_mod]
  · rw [pow_one_mod h2 (fermat h ha) k, Nat.mul_one, Nat.mod_mod]
def m521 : Nat := 6864797660130609714981900799081393217269435300143305409394463459185543183397656052122559640661454554977296311391480858037121987999716643812574028291115057151
def m607 : Nat := 531137992816767098689588206552468627329593117727031923199444138200403559860852242739162502265229285668889329486246501015346579337652707239409519978766587351943831270835393219031728127
theorem prime521 : Prime m521 := lucas (p := 521) (by omega) (of_decide_eq_true (by kernel_rfl)) (by decide +kernel)
theorem prime607 : Prime m607 := lucas (p := 607) (by omega) (of_decide_eq_true (by kernel_rfl)) (by decide +kernel)
end Go.Proofs.Ytebhpjbjfbadjaa.Luc
