/-
  Lists of digits, plain: what is left of one without the noughts at its end; its value by the base of 32 bits. Nothing of the program.
-/
import Derived.Below
import Derived.Lib.Hide
namespace Go.Proofs.Ytkmbgbbmhpidkaa
set_option linter.unusedVariables false

/-- How many digits are left of the first n when the noughts at the end go. -/
def tlen (l : List Nat) : Nat → Nat
  | 0 => 0
  | n + 1 => if l.getD n 0 = 0 then tlen l n else n + 1

theorem tlen_le (l : List Nat) : ∀ n, tlen l n ≤ n
  | 0 => Nat.le_refl _
  | n + 1 => by
    unfold tlen
    split
    · exact Nat.le_succ_of_le (tlen_le l n)
    · exact Nat.le_refl _
theorem tlen_drop (l : List Nat) (n : Nat) (h : l.getD n 0 = 0) : tlen l (n + 1) = tlen l n := by
  rw [tlen, if_pos h]
theorem tlen_stay (l : List Nat) (n : Nat) (h : l.getD n 0 ≠ 0) : tlen l (n + 1) = n + 1 := by
  rw [tlen, if_neg h]
/-- The digits without the noughts at the end. -/
def trl (l : List Nat) : List Nat := l.take (tlen l l.length)
theorem trl_length (l : List Nat) : (trl l).length = tlen l l.length := by
  have := tlen_le l l.length
  simp [trl]; omega

/-- Whether digits are a number: not too many, the last one not nought. -/
def okN (l : List Nat) : Bool := decide (l.length ≤ 256) && (decide (l.length = 0) || !(l.getD (l.length - 1) 0 == 0))

/-- The first n digits of two, compared from the highest one on. -/
def cmpTop (a b : List Nat) : Nat → Int
  | 0 => 0
  | n + 1 => if a.getD n 0 = b.getD n 0 then cmpTop a b n else if a.getD n 0 < b.getD n 0 then -1 else 1
theorem cmpTop_same (a b : List Nat) (n : Nat) (h : a.getD n 0 = b.getD n 0) : cmpTop a b (n + 1) = cmpTop a b n := by rw [cmpTop, if_pos h]
theorem cmpTop_less (a b : List Nat) (n : Nat) (h : a.getD n 0 < b.getD n 0) : cmpTop a b (n + 1) = -1 := by rw [cmpTop, if_neg (by omega), if_pos h]
theorem cmpTop_more (a b : List Nat) (n : Nat) (h : b.getD n 0 < a.getD n 0) : cmpTop a b (n + 1) = 1 := by rw [cmpTop, if_neg (by omega), if_neg (by omega)]
/-- Two lists of digits compared: by how many there are, then from the highest one on. -/
def cmpL (a b : List Nat) : Int := if a.length < b.length then -1 else if b.length < a.length then 1 else cmpTop a b a.length

/-- What k digits can hold. -/
def pw (k : Nat) : Nat := 4294967296 ^ k
theorem pw_zero : pw 0 = 1 := rfl
theorem pw_succ (k : Nat) : pw (k + 1) = 4294967296 * pw k := by unfold pw; rw [Nat.pow_succ, Nat.mul_comm]
theorem pw_pos (k : Nat) : 0 < pw k := Nat.pow_pos (by omega)
theorem pw_add (j k : Nat) : pw (j + k) = pw j * pw k := Nat.pow_add _ _ _
/-- The number that digits are, the lowest one first. -/
def val : List Nat → Nat
  | [] => 0
  | x :: l => x + 4294967296 * val l
/-- Each is a digit. -/
def Dg (l : List Nat) : Prop := ∀ x ∈ l, x < 4294967296
theorem Dg.at_ {l : List Nat} (h : Dg l) (i : Nat) : l.getD i 0 < 4294967296 := by
  rw [List.getD]
  cases hq : l[i]? with
  | none => simp
  | some x => simpa using h x (List.mem_of_getElem? hq)
theorem Dg.take {l : List Nat} (h : Dg l) (n : Nat) : Dg (l.take n) := fun x hx => h x (List.mem_of_mem_take hx)
theorem Dg.set {l : List Nat} (h : Dg l) (i x : Nat) (hx : x < 4294967296) : Dg (l.set i x) := fun y hy => by
  rcases List.mem_or_eq_of_mem_set hy with hm | rfl
  · exact h y hm
  · exact hx
theorem Dg.noughts (n : Nat) : Dg (List.replicate n 0) := fun x hx => by rw [(List.mem_replicate.1 hx).2]; omega

theorem val_append : ∀ a b : List Nat, val (a ++ b) = val a + pw a.length * val b
  | [], b => by simp [val, pw]
  | x :: a, b => by
    rw [List.cons_append, val, val, val_append a b, List.length_cons, pw_succ, Nat.mul_add, Nat.mul_assoc, Nat.add_assoc]
theorem val_take_succ (l : List Nat) (i : Nat) : val (l.take (i + 1)) = val (l.take i) + pw i * l.getD i 0 := by
  rw [List.take_add_one, val_append]
  rcases Nat.lt_or_ge i l.length with h | h
  · have e1 : (l.take i).length = i := by simp; omega
    rw [e1, List.getD, List.getElem?_eq_getElem h]
    simp [val]
  · rw [List.getD, List.getElem?_eq_none h]
    simp [val]
theorem val_lt {l : List Nat} (h : Dg l) : val l < pw l.length := by
  induction l with
  | nil => simp [val, pw]
  | cons x l ih =>
    have h1 := ih (fun y hy => h y (List.mem_cons_of_mem _ hy))
    have h2 := h x List.mem_cons_self
    rw [val, List.length_cons, pw_succ]
    omega
theorem take_set_succ (l : List Nat) (i x : Nat) (h : i < l.length) : val ((l.set i x).take (i + 1)) = val (l.take i) + pw i * x := by
  rw [val_take_succ]
  congr 2
  · rw [List.take_set_of_le (Nat.le_refl i)]
  · simp [List.getD, h]
theorem take_set_low (l : List Nat) (i x j : Nat) (h : j ≤ i) : (l.set i x).take j = l.take j := List.take_set_of_le h
theorem val_take_all (l : List Nat) (n : Nat) (h : l.length ≤ n) : val (l.take n) = val l := by rw [List.take_of_length_le h]

/-- No nought leads. -/
def nrm (l : List Nat) : Prop := l.length = 0 ∨ l.getD (l.length - 1) 0 ≠ 0
theorem tlen_val (l : List Nat) : ∀ n, val (l.take (tlen l n)) = val (l.take n)
  | 0 => rfl
  | n + 1 => by
    rw [tlen]
    split
    · rename_i h
      rw [tlen_val l n, val_take_succ, h, Nat.mul_zero, Nat.add_zero]
    · rfl
theorem tlen_nrm (l : List Nat) : ∀ n, tlen l n = 0 ∨ l.getD (tlen l n - 1) 0 ≠ 0
  | 0 => .inl rfl
  | n + 1 => by
    rw [tlen]
    split
    · exact tlen_nrm l n
    · rename_i h
      exact .inr h
theorem trl_val (l : List Nat) : val (trl l) = val l := by rw [trl, tlen_val, val_take_all l _ (Nat.le_refl _)]
theorem trl_nrm (l : List Nat) : nrm (trl l) := by
  have h1 := tlen_nrm l l.length
  have h2 := tlen_le l l.length
  unfold nrm
  rw [trl_length]
  rcases h1 with h | h
  · exact .inl h
  · rcases Nat.eq_zero_or_pos (tlen l l.length) with h0 | h0
    · exact .inl h0
    · refine .inr ?_
      rw [trl, List.getD, List.getElem?_take, if_pos (by omega)]
      exact h
theorem trl_dg {l : List Nat} (h : Dg l) : Dg (trl l) := h.take _
theorem tlen_id (l : List Nat) (n : Nat) (h : n = 0 ∨ l.getD (n - 1) 0 ≠ 0) : tlen l n = n := by
  rcases n with _ | n
  · rfl
  · exact tlen_stay l n (by simpa using h)
theorem trl_id {l : List Nat} (h : nrm l) : trl l = l := by rw [trl, tlen_id l _ h, List.take_length]

/-- r are the digits of n, and no nought leads. -/
def NumIs (r : List Nat) (n : Nat) : Prop := Dg r ∧ nrm r ∧ val r = n
theorem num_trl {l : List Nat} {n : Nat} (h : Dg l) (hv : val l = n) : NumIs (trl l) n := ⟨trl_dg h, trl_nrm l, (trl_val l).trans hv⟩
theorem nrm_low {l : List Nat} (hn : nrm l) (h0 : 0 < l.length) : pw (l.length - 1) ≤ val l := by
  rcases hn with h | h
  · omega
  · obtain ⟨m, hm⟩ : ∃ m, l.length = m + 1 := ⟨l.length - 1, by omega⟩
    rw [hm] at h ⊢
    simp only [Nat.add_sub_cancel] at h ⊢
    have e := val_take_succ l m
    rw [val_take_all l (m + 1) (by omega)] at e
    have h1 : 1 ≤ l.getD m 0 := by omega
    have h2 : pw m * 1 ≤ pw m * l.getD m 0 := Nat.mul_le_mul_left _ h1
    omega
theorem pw_mono {j k : Nat} (h : j ≤ k) : pw j ≤ pw k := Nat.pow_le_pow_right (by omega) h
theorem len_less {a b : List Nat} (ha : Dg a) (hb : nrm b) (h : a.length < b.length) : val a < val b := by
  have h1 := val_lt ha
  have h2 := nrm_low hb (by omega)
  have h3 : pw a.length ≤ pw (b.length - 1) := pw_mono (by omega)
  omega
theorem top_val (a b : List Nat) (ha : Dg a) (hb : Dg b) : ∀ n, n ≤ a.length → n ≤ b.length →
    cmpTop a b n = if val (a.take n) < val (b.take n) then -1 else if val (b.take n) < val (a.take n) then 1 else 0
  | 0, _, _ => by simp [cmpTop, val]
  | n + 1, h1, h2 => by
    have ea := val_take_succ a n
    have eb := val_take_succ b n
    have la : val (a.take n) < pw n := by have := val_lt (ha.take n); simpa [Nat.min_eq_left (by omega : n ≤ a.length)] using this
    have lb : val (b.take n) < pw n := by have := val_lt (hb.take n); simpa [Nat.min_eq_left (by omega : n ≤ b.length)] using this
    rw [ea, eb]
    by_cases h : a.getD n 0 = b.getD n 0
    · rw [cmpTop_same a b n h, top_val a b ha hb n (by omega) (by omega), h]
      have e1 : (val (a.take n) + pw n * b.getD n 0 < val (b.take n) + pw n * b.getD n 0) ↔ (val (a.take n) < val (b.take n)) := by omega
      have e2 : (val (b.take n) + pw n * b.getD n 0 < val (a.take n) + pw n * b.getD n 0) ↔ (val (b.take n) < val (a.take n)) := by omega
      simp only [e1, e2]
    · by_cases h' : a.getD n 0 < b.getD n 0
      · rw [cmpTop_less a b n h']
        have : pw n * (a.getD n 0 + 1) ≤ pw n * b.getD n 0 := Nat.mul_le_mul_left _ h'
        rw [Nat.mul_add, Nat.mul_one] at this
        rw [if_pos (by omega)]
      · have h'' : b.getD n 0 < a.getD n 0 := by omega
        rw [cmpTop_more a b n h'']
        have : pw n * (b.getD n 0 + 1) ≤ pw n * a.getD n 0 := Nat.mul_le_mul_left _ h''
        rw [Nat.mul_add, Nat.mul_one] at this
        rw [if_neg (by omega), if_pos (by omega)]
theorem cmpL_val {a b : List Nat} (ha : Dg a) (hb : Dg b) (na : nrm a) (nb : nrm b) : cmpL a b = if val a < val b then -1 else if val b < val a then 1 else 0 := by
  unfold cmpL
  by_cases h : a.length < b.length
  · have := len_less ha nb h
    rw [if_pos h, if_pos this]
  · rw [if_neg h]
    by_cases h' : b.length < a.length
    · have := len_less hb na h'
      rw [if_pos h', if_neg (by omega), if_pos this]
    · rw [if_neg h', top_val a b ha hb _ (Nat.le_refl _) (by omega), val_take_all a _ (Nat.le_refl _), val_take_all b _ (by omega)]
theorem top_zero (a b : List Nat) : ∀ n, cmpTop a b n = 0 → ∀ i, i < n → a.getD i 0 = b.getD i 0
  | 0, _, i, hi => by omega
  | n + 1, h, i, hi => by
    by_cases e : a.getD n 0 = b.getD n 0
    · rw [cmpTop_same a b n e] at h
      rcases Nat.lt_or_ge i n with h1 | h1
      · exact top_zero a b n h i h1
      · obtain rfl : i = n := by omega
        exact e
    · by_cases e' : a.getD n 0 < b.getD n 0
      · rw [cmpTop_less a b n e'] at h; cases h
      · rw [cmpTop_more a b n (by omega)] at h; cases h
theorem num_one {a b : List Nat} {n : Nat} (ha : NumIs a n) (hb : NumIs b n) : a = b := by
  obtain ⟨da, na, va⟩ := ha
  obtain ⟨db, nb, vb⟩ := hb
  have h0 : cmpL a b = 0 := by rw [cmpL_val da db na nb, if_neg (by omega), if_neg (by omega)]
  unfold cmpL at h0
  by_cases h1 : a.length < b.length
  · rw [if_pos h1] at h0; cases h0
  · by_cases h2 : b.length < a.length
    · rw [if_neg h1, if_pos h2] at h0; cases h0
    · rw [if_neg h1, if_neg h2] at h0
      apply List.ext_getElem (by omega)
      intro i i1 i2
      have := top_zero a b _ h0 i i1
      simpa [List.getD, i1, i2] using this
theorem cmpL_refl (a : List Nat) : cmpL a a = 0 := by
  have h : ∀ n, cmpTop a a n = 0 := by
    intro n
    induction n with
    | zero => rfl
    | succ n ih => rw [cmpTop_same a a n rfl, ih]
  unfold cmpL
  rw [if_neg (by omega), if_neg (by omega), h]
theorem okN_nrm {l : List Nat} (h : okN l = true) : l.length ≤ 256 ∧ nrm l := by
  simp [okN, List.getD] at h
  refine ⟨h.1, ?_⟩
  rcases h.2 with h' | h'
  · exact .inl (by simp [h'])
  · exact .inr (by simpa [List.getD] using h')

/-- One digit of a sum: what is written, what goes on. -/
theorem add_step {L l l' : List Nat} {i o x y : Nat} (hi : i < L.length) (h : val (L.take i) + pw i * o = val (l.take i) + val (l'.take i)) (hx : x = l.getD i 0) (hy : y = l'.getD i 0) :
    val ((L.set i ((o + x + y) % 4294967296)).take (i + 1)) + pw (i + 1) * ((o + x + y) / 4294967296) = val (l.take (i + 1)) + val (l'.take (i + 1)) := by
  rw [take_set_succ L i _ hi, val_take_succ l, val_take_succ l', ← hx, ← hy, pw_succ]
  have e : pw i * ((o + x + y) % 4294967296) + 4294967296 * pw i * ((o + x + y) / 4294967296) = pw i * o + pw i * x + pw i * y := by
    rw [Nat.mul_comm 4294967296 (pw i), Nat.mul_assoc, ← Nat.mul_add, Nat.mod_add_div, Nat.mul_add, Nat.mul_add]
  omega
theorem val_take_far {l : List Nat} {n : Nat} (h : l.length ≤ n) : val (l.take n) = val l := val_take_all l n h

/-! Bytes as digits: r is the bytes, the lowest first. -/
/-- The part of digit j that the bytes from place k on give. -/
def part (r : List Nat) (k j : Nat) : Nat :=
  (if k ≤ 4 * j then r.getD (4 * j) 0 else 0) + 256 * (if k ≤ 4 * j + 1 then r.getD (4 * j + 1) 0 else 0) + 65536 * (if k ≤ 4 * j + 2 then r.getD (4 * j + 2) 0 else 0) + 16777216 * (if k ≤ 4 * j + 3 then r.getD (4 * j + 3) 0 else 0)
/-- All bytes are bytes. -/
def Oct (r : List Nat) : Prop := ∀ i, r.getD i 0 < 256
theorem part_dg {r : List Nat} (h : Oct r) (k j : Nat) : part r k j < 4294967296 := by
  have h0 := h (4 * j); have h1 := h (4 * j + 1); have h2 := h (4 * j + 2); have h3 := h (4 * j + 3)
  unfold part
  repeat' split
  all_goals omega
/-- One byte more: it is put into a place that is nought. -/
theorem part_step {r : List Nat} (h : Oct r) (k : Nat) : (part r (k + 1) (k / 4) ||| (r.getD k 0 <<< (8 * (k % 4)))) = part r k (k / 4) := by
  have hk : k % 4 < 4 := Nat.mod_lt _ (by omega)
  obtain ⟨q, hq⟩ : ∃ q, q = k / 4 := ⟨_, rfl⟩
  have h0 := h (4 * q); have h1 := h (4 * q + 1); have h2 := h (4 * q + 2); have h3 := h (4 * q + 3)
  have key : ∀ (a b s : Nat), b < 2 ^ s → ((a * 2 ^ s) ||| b) = a * 2 ^ s + b := by
    intro a b s hb
    have := Nat.two_pow_add_eq_or_of_lt hb a
    rw [Nat.mul_comm] at this
    exact this.symm
  rw [← hq]
  rcases (by omega : k = 4 * q ∨ k = 4 * q + 1 ∨ k = 4 * q + 2 ∨ k = 4 * q + 3) with e | e | e | e
  · subst e
    have e2 : part r (4 * q + 1) q = (r.getD (4 * q + 1) 0 + 256 * r.getD (4 * q + 2) 0 + 65536 * r.getD (4 * q + 3) 0) * 2 ^ 8 := by
      unfold part; rw [if_neg (by omega), if_pos (by omega), if_pos (by omega), if_pos (by omega)]; omega
    rw [e2, show 8 * (4 * q % 4) = 0 by omega, Nat.shiftLeft_zero, key _ _ 8 (by omega)]
    unfold part; rw [if_pos (by omega), if_pos (by omega), if_pos (by omega), if_pos (by omega)]; omega
  · subst e
    have e2 : part r (4 * q + 1 + 1) q = (r.getD (4 * q + 2) 0 + 256 * r.getD (4 * q + 3) 0) * 2 ^ 16 := by
      unfold part; rw [if_neg (by omega), if_neg (by omega), if_pos (by omega), if_pos (by omega)]; omega
    rw [e2, show 8 * ((4 * q + 1) % 4) = 8 by omega, Nat.shiftLeft_eq, key _ _ 16 (by omega)]
    unfold part; rw [if_neg (by omega), if_pos (by omega), if_pos (by omega), if_pos (by omega)]; omega
  · subst e
    have e2 : part r (4 * q + 2 + 1) q = r.getD (4 * q + 3) 0 * 2 ^ 24 := by
      unfold part; rw [if_neg (by omega), if_neg (by omega), if_neg (by omega), if_pos (by omega)]; omega
    rw [e2, show 8 * ((4 * q + 2) % 4) = 16 by omega, Nat.shiftLeft_eq, key _ _ 24 (by omega)]
    unfold part; rw [if_neg (by omega), if_neg (by omega), if_pos (by omega), if_pos (by omega)]; omega
  · subst e
    have e2 : part r (4 * q + 3 + 1) q = 0 := by
      unfold part; rw [if_neg (by omega), if_neg (by omega), if_neg (by omega), if_neg (by omega)]
    rw [e2, show 8 * ((4 * q + 3) % 4) = 24 by omega, Nat.shiftLeft_eq, Nat.zero_or]
    unfold part; rw [if_neg (by omega), if_neg (by omega), if_neg (by omega), if_pos (by omega)]; omega
theorem part_far (r : List Nat) (k j : Nat) (h : j ≠ k / 4) : part r (k + 1) j = part r k j := by
  have hk : k % 4 < 4 := Nat.mod_lt _ (by omega)
  have e : k = 4 * (k / 4) + k % 4 := by omega
  unfold part
  congr 1
  · congr 1
    · congr 1
      · by_cases c : k ≤ 4 * j
        · rw [if_pos c, if_pos (by omega)]
        · rw [if_neg c, if_neg (by omega)]
      · by_cases c : k ≤ 4 * j + 1
        · rw [if_pos c, if_pos (by omega)]
        · rw [if_neg c, if_neg (by omega)]
    · by_cases c : k ≤ 4 * j + 2
      · rw [if_pos c, if_pos (by omega)]
      · rw [if_neg c, if_neg (by omega)]
  · by_cases c : k ≤ 4 * j + 3
    · rw [if_pos c, if_pos (by omega)]
    · rw [if_neg c, if_neg (by omega)]

theorem oct_of {l : List Nat} (h : ∀ x ∈ l, x < 256) : Oct l := fun i => by
  rw [List.getD]
  cases hq : l[i]? with
  | none => simp
  | some x => simpa using h x (List.mem_of_getElem? hq)
theorem oct_rev {l : List Nat} (h : ∀ x ∈ l, x < 256) : Oct l.reverse := oct_of fun x hx => h x (List.mem_reverse.1 hx)
theorem rev_at {l : List Nat} {i k : Nat} (h : l.length = k + 1 + i) : l.reverse.getD k 0 = l.getD i 0 := by
  rw [List.getD, List.getD, List.getElem?_reverse (by omega)]
  congr 2
  omega
theorem shl_nat (x m : Nat) (hx : x < 256) (hm : m < 4) : x * 2 ^ (8 * m) < 4294967296 := by
  rcases (by omega : m = 0 ∨ m = 1 ∨ m = 2 ∨ m = 3) with e | e | e | e <;> subst e <;> omega

/-- The byte at place k, the lowest first, of digits. -/
def byteAt (l : List Nat) (k : Nat) : Nat := l.getD (k / 4) 0 / 2 ^ (8 * (k % 4)) % 256
theorem byteAt_lt (l : List Nat) (k : Nat) : byteAt l k < 256 := Nat.mod_lt _ (by omega)
theorem byteAt_far {l : List Nat} {k : Nat} (h : l.length ≤ k / 4) : byteAt l k = 0 := by
  unfold byteAt
  rw [List.getD, List.getElem?_eq_none h]
  simp
/-- Digits as n bytes, the highest first. -/
def bytesOf (l : List Nat) (n : Nat) : List Nat := (List.range n).map fun i => byteAt l (n - 1 - i)
theorem bytesOf_length (l : List Nat) (n : Nat) : (bytesOf l n).length = n := by simp [bytesOf]
theorem bytesOf_at (l : List Nat) {n i : Nat} (h : i < n) : (bytesOf l n).getD i 0 = byteAt l (n - 1 - i) := by
  simp [bytesOf, List.getD, h]
theorem bytesOf_eq {l L : List Nat} {n : Nat} (hl : L.length = n) (h : ∀ j, j < n → L.getD j 0 = byteAt l (n - 1 - j)) : L = bytesOf l n := by
  apply List.ext_getElem
  · rw [hl, bytesOf_length]
  · intro j j1 j2
    have e1 := h j (by omega)
    rw [← bytesOf_at l (by omega : j < n)] at e1
    simpa [List.getD, j1, j2] using e1

theorem bput {l L : List Nat} {n i : Nat} (hl : L.length = n) (h : ∀ j, j < n → L.getD j 0 = if j < i then byteAt l (n - 1 - j) else 0) : ∀ j, j < n → (L.set i (byteAt l (n - 1 - i))).getD j 0 = if j < i + 1 then byteAt l (n - 1 - j) else 0 := by
  intro j hj
  by_cases e : j = i
  · subst e
    rw [if_pos (by omega)]
    simp [List.getD, hl, hj]
  · have e1 := h j hj
    rw [List.getD, List.getElem?_set_ne (by omega : i ≠ j), ← List.getD, e1]
    by_cases c : j < i
    · rw [if_pos c, if_pos (by omega)]
    · rw [if_neg c, if_neg (by omega)]
theorem bskip {l L : List Nat} {n i : Nat} (hi : i < n) (hz : byteAt l (n - 1 - i) = 0) (h : ∀ j, j < n → L.getD j 0 = if j < i then byteAt l (n - 1 - j) else 0) : ∀ j, j < n → L.getD j 0 = if j < i + 1 then byteAt l (n - 1 - j) else 0 := by
  intro j hj
  rw [h j hj]
  by_cases e : j = i
  · subst e
    rw [if_neg (by omega), if_pos (by omega), hz]
  · by_cases c : j < i
    · rw [if_pos c, if_pos (by omega)]
    · rw [if_neg c, if_neg (by omega)]
/-- The same from the other end. -/
theorem bput' {l L : List Nat} {n k : Nat} (hl : L.length = n) (hk : k < n) (h : ∀ j, j < n → L.getD j 0 = if n - 1 - j < k then byteAt l (n - 1 - j) else 0) : ∀ j, j < n → (L.set (n - 1 - k) (byteAt l k)).getD j 0 = if n - 1 - j < k + 1 then byteAt l (n - 1 - j) else 0 := by
  intro j hj
  by_cases e : j = n - 1 - k
  · subst e
    rw [if_pos (by omega), show n - 1 - (n - 1 - k) = k by omega]
    simp [List.getD, hl, hj]
  · have e1 := h j hj
    rw [List.getD, List.getElem?_set_ne (by omega : n - 1 - k ≠ j), ← List.getD, e1]
    by_cases c : n - 1 - j < k
    · rw [if_pos c, if_pos (by omega)]
    · rw [if_neg c, if_neg (by omega)]
theorem bend' {l L : List Nat} {n k : Nat} (hk : n ≤ k ∨ l.length ≤ k / 4) (h : ∀ j, j < n → L.getD j 0 = if n - 1 - j < k then byteAt l (n - 1 - j) else 0) : ∀ j, j < n → L.getD j 0 = byteAt l (n - 1 - j) := by
  intro j hj
  rw [h j hj]
  by_cases c : n - 1 - j < k
  · rw [if_pos c]
  · rw [if_neg c, byteAt_far]
    rcases hk with hk | hk
    · omega
    · omega

theorem tlen_zero (l : List Nat) : ∀ n j, tlen l n ≤ j → j < n → l.getD j 0 = 0
  | 0, j, _, h => by omega
  | n + 1, j, h1, h2 => by
    by_cases e : l.getD n 0 = 0
    · rw [tlen_drop l n e] at h1
      rcases Nat.lt_or_ge j n with h | h
      · exact tlen_zero l n j h1 h
      · obtain rfl : j = n := by omega
        exact e
    · rw [tlen_stay l n e] at h1
      omega
theorem trl_at (l : List Nat) (j : Nat) : (trl l).getD j 0 = l.getD j 0 := by
  rcases Nat.lt_or_ge j (tlen l l.length) with h | h
  · rw [trl, List.getD, List.getElem?_take, if_pos h]
    rfl
  · have e1 : (trl l).getD j 0 = 0 := by rw [List.getD, List.getElem?_eq_none (by rw [trl_length]; exact h)]; rfl
    rw [e1]
    rcases Nat.lt_or_ge j l.length with h' | h'
    · exact (tlen_zero l _ j h h').symm
    · rw [List.getD, List.getElem?_eq_none h']; rfl
theorem part_byte {r : List Nat} (h : Oct r) (k : Nat) : part r 0 (k / 4) / 2 ^ (8 * (k % 4)) % 256 = r.getD k 0 := by
  obtain ⟨q, hq⟩ : ∃ q, q = k / 4 := ⟨_, rfl⟩
  have h0 := h (4 * q); have h1 := h (4 * q + 1); have h2 := h (4 * q + 2); have h3 := h (4 * q + 3)
  have e2 : part r 0 q = r.getD (4 * q) 0 + 256 * r.getD (4 * q + 1) 0 + 65536 * r.getD (4 * q + 2) 0 + 16777216 * r.getD (4 * q + 3) 0 := by
    unfold part; rw [if_pos (by omega), if_pos (by omega), if_pos (by omega), if_pos (by omega)]
  rw [← hq, e2]
  rcases (by omega : k = 4 * q ∨ k = 4 * q + 1 ∨ k = 4 * q + 2 ∨ k = 4 * q + 3) with e | e | e | e
  · subst e
    rw [show 8 * (4 * q % 4) = 0 by omega, show (2 : Nat) ^ 0 = 1 from rfl]; omega
  · subst e
    rw [show 8 * ((4 * q + 1) % 4) = 8 by omega, show (2 : Nat) ^ 8 = 256 from rfl]; omega
  · subst e
    rw [show 8 * ((4 * q + 2) % 4) = 16 by omega, show (2 : Nat) ^ 16 = 65536 from rfl]; omega
  · subst e
    rw [show 8 * ((4 * q + 3) % 4) = 24 by omega, show (2 : Nat) ^ 24 = 16777216 from rfl]; omega
theorem part_low {r : List Nat} (h : Oct r) {n m : Nat} (hm : 4 * m < n) (hz : ∀ k, n ≤ k → r.getD k 0 = 0) : part r 0 m < 2 ^ (8 * (n - 4 * m)) := by
  have h0 := h (4 * m); have h1 := h (4 * m + 1); have h2 := h (4 * m + 2); have h3 := h (4 * m + 3)
  have e2 : part r 0 m = r.getD (4 * m) 0 + 256 * r.getD (4 * m + 1) 0 + 65536 * r.getD (4 * m + 2) 0 + 16777216 * r.getD (4 * m + 3) 0 := by
    unfold part; rw [if_pos (by omega), if_pos (by omega), if_pos (by omega), if_pos (by omega)]
  rw [e2]
  rcases (by omega : n = 4 * m + 1 ∨ n = 4 * m + 2 ∨ n = 4 * m + 3 ∨ 4 * m + 4 ≤ n) with e | e | e | e
  · have z1 := hz (4 * m + 1) (by omega); have z2 := hz (4 * m + 2) (by omega); have z3 := hz (4 * m + 3) (by omega)
    rw [show 8 * (n - 4 * m) = 8 by omega]; omega
  · have z2 := hz (4 * m + 2) (by omega); have z3 := hz (4 * m + 3) (by omega)
    rw [show 8 * (n - 4 * m) = 16 by omega]; omega
  · have z3 := hz (4 * m + 3) (by omega)
    rw [show 8 * (n - 4 * m) = 24 by omega]; omega
  · have : 2 ^ 32 ≤ 2 ^ (8 * (n - 4 * m)) := Nat.pow_le_pow_right (by omega) (by omega)
    omega

/-- The n digits from place o on. -/
def seg (l : List Nat) (o n : Nat) : List Nat := (l.drop o).take n
theorem seg_succ (l : List Nat) (o i : Nat) : val (seg l o (i + 1)) = val (seg l o i) + pw i * l.getD (o + i) 0 := by
  unfold seg
  rw [val_take_succ]
  simp [List.getD, List.getElem?_drop]
theorem seg_zero (l : List Nat) (o : Nat) : seg l o 0 = [] := rfl
theorem seg_whole (l : List Nat) : seg l 0 l.length = l := by simp [seg]
theorem seg_same {l l' : List Nat} {o : Nat} : ∀ n, (∀ j, j < n → l.getD (o + j) 0 = l'.getD (o + j) 0) → val (seg l o n) = val (seg l' o n)
  | 0, _ => rfl
  | n + 1, h => by rw [seg_succ, seg_succ, seg_same n (fun j hj => h j (by omega)), h n (by omega)]
theorem getD_set (l : List Nat) (i x j : Nat) : (l.set i x).getD j 0 = if i = j ∧ i < l.length then x else l.getD j 0 := by
  by_cases h : i = j
  · subst h
    by_cases h2 : i < l.length
    · simp [List.getD, h2]
    · rw [if_neg (by omega), List.set_eq_of_length_le (by omega)]
  · rw [if_neg (by omega)]
    simp [List.getD, List.getElem?_set_ne h]
/-- One digit of a difference by q times another number. -/
theorem sub_step {U P q x y t d c s b lent : Nat} (h : s + q * b = U + P * lent) (ht : t = lent + q * y) (hd : d + t % 4294967296 = x + 4294967296 * c) :
    (s + P * d) + q * (b + P * y) = (U + P * x) + (4294967296 * P) * (t / 4294967296 + c) := by
  have e1 : P * d + P * (t % 4294967296) = P * x + P * (4294967296 * c) := by rw [← Nat.mul_add, hd, Nat.mul_add]
  have e2 : P * t = P * lent + P * (q * y) := by rw [ht, Nat.mul_add]
  have e3 : P * t = P * (4294967296 * (t / 4294967296)) + P * (t % 4294967296) := by rw [← Nat.mul_add, Nat.div_add_mod]
  have e4 : q * (b + P * y) = q * b + P * (q * y) := by rw [Nat.mul_add, Nat.mul_left_comm]
  have e5 : (4294967296 * P) * (t / 4294967296 + c) = P * (4294967296 * (t / 4294967296)) + P * (4294967296 * c) := by
    rw [Nat.mul_add, Nat.mul_comm 4294967296 P, Nat.mul_assoc, Nat.mul_assoc]
  omega
/-- What is lent on is never more than the factor. -/
theorem lent_le {q y t lent c x : Nat} (hq : lent ≤ q) (hy : y < 4294967296) (ht : t = lent + q * y) (hc : c = if x < t % 4294967296 then 1 else 0) : t / 4294967296 + c ≤ q := by
  have h1 : q * y ≤ q * 4294967295 := Nat.mul_le_mul_left q (by omega)
  have h2 : t ≤ q * 4294967296 := by omega
  rw [hc]
  split
  · rename_i h
    have h3 : 0 < t % 4294967296 := by omega
    omega
  · omega

theorem sub_round {L L2 l' : List Nat} {o i q v x y t d c : Nat} (hL : o + i < L2.length) (hval : val (seg L2 o i) + q * val (l'.take i) = val (seg L o i) + pw i * v) (hfar : ∀ j, j < o ∨ o + i ≤ j → L2.getD j 0 = L.getD j 0)
    (hx : x = L2.getD (o + i) 0) (hy : y = l'.getD i 0) (ht : t = v + q * y) (hd : d + t % 4294967296 = x + 4294967296 * c) :
    val (seg (L2.set (o + i) d) o (i + 1)) + q * val (l'.take (i + 1)) = val (seg L o (i + 1)) + pw (i + 1) * (t / 4294967296 + c) ∧ ∀ j, j < o ∨ o + (i + 1) ≤ j → (L2.set (o + i) d).getD j 0 = L.getD j 0 := by
  constructor
  · rw [seg_succ, seg_succ, val_take_succ, pw_succ, ← hy]
    have e1 : val (seg (L2.set (o + i) d) o i) = val (seg L2 o i) := seg_same i fun j hj => by rw [getD_set, if_neg (by omega)]
    have e2 : (L2.set (o + i) d).getD (o + i) 0 = d := by rw [getD_set, if_pos ⟨rfl, hL⟩]
    have e3 : L.getD (o + i) 0 = x := by rw [hx, hfar _ (.inr (Nat.le_refl _))]
    rw [e1, e2, e3]
    exact sub_step hval ht hd
  · intro j hj
    rw [getD_set, if_neg (by omega)]
    exact hfar j (by omega)
theorem digit_out (x t : Nat) (hx : x < 4294967296) : ∃ d c : Nat, d < 4294967296 ∧ (d : Int) = ((x : Int) - (t : Int)) % 4294967296 ∧ d + t % 4294967296 = x + 4294967296 * c ∧ c = if x < t % 4294967296 then 1 else 0 := by
  by_cases h : x < t % 4294967296
  · exact ⟨x + 4294967296 - t % 4294967296, 1, by omega, by omega, by omega, by rw [if_pos h]⟩
  · exact ⟨x - t % 4294967296, 0, by omega, by omega, by omega, by rw [if_neg h]⟩
/-- Where nothing is lent any more the rest stays as it is. -/
theorem sub_rest {L L2 l' : List Nat} {o i n q : Nat} (hi : i ≤ n) (hl : l'.length ≤ i) (hval : val (seg L2 o i) + q * val (l'.take i) = val (seg L o i) + pw i * 0) (hfar : ∀ j, j < o ∨ o + i ≤ j → L2.getD j 0 = L.getD j 0) :
    val (seg L2 o n) + q * val l' = val (seg L o n) + pw n * 0 ∧ ∀ j, j < o ∨ o + n ≤ j → L2.getD j 0 = L.getD j 0 := by
  refine ⟨?_, fun j hj => hfar j (by omega)⟩
  rw [val_take_all l' i hl] at hval
  obtain ⟨m, rfl⟩ : ∃ m, n = i + m := ⟨n - i, by omega⟩
  clear hi
  induction m with
  | zero => simpa using hval
  | succ m ih =>
    rw [← Nat.add_assoc, seg_succ, seg_succ L, hfar (o + (i + m)) (by omega)]
    omega

theorem less_digit (x y o : Nat) (hx : x < 4294967296) (hy : y < 4294967296) (ho : o ≤ 1) : ∃ d o1 : Nat, d < 4294967296 ∧ o1 ≤ 1 ∧ (d : Int) = ((x : Int) + 4294967296 - y - o) % 4294967296 ∧ (o1 : Int) = 1 - ((x : Int) + 4294967296 - y - o) / 4294967296 ∧ d + y + o = x + 4294967296 * o1 := by
  by_cases h : y + o ≤ x
  · exact ⟨x - (y + o), 0, by omega, by omega, by omega, by omega, by omega⟩
  · exact ⟨x + 4294967296 - (y + o), 1, by omega, by omega, by omega, by omega, by omega⟩
theorem less_step {L l l' : List Nat} {i o x y d o1 : Nat} (hi : i < L.length) (h : val (L.take i) + val (l'.take i) = val (l.take i) + pw i * o) (hx : x = l.getD i 0) (hy : y = l'.getD i 0) (hd : d + y + o = x + 4294967296 * o1) :
    val ((L.set i d).take (i + 1)) + val (l'.take (i + 1)) = val (l.take (i + 1)) + pw (i + 1) * o1 := by
  rw [take_set_succ L i _ hi, val_take_succ l, val_take_succ l', ← hx, ← hy, pw_succ]
  have e : pw i * d + pw i * y + pw i * o = pw i * x + 4294967296 * pw i * o1 := by
    rw [Nat.mul_comm 4294967296 (pw i), Nat.mul_assoc, ← Nat.mul_add, ← Nat.mul_add, ← Nat.mul_add, hd]
  omega

theorem set_val (l : List Nat) (p d : Nat) (h : p < l.length) : val (l.set p d) + pw p * l.getD p 0 = val l + pw p * d := by
  have e1 : val (l.set p d) = val ((l.set p d).take (p + 1)) + pw (p + 1) * val ((l.set p d).drop (p + 1)) := by
    have := val_append ((l.set p d).take (p + 1)) ((l.set p d).drop (p + 1))
    rw [List.take_append_drop] at this
    rw [this]
    simp [Nat.min_eq_left (by omega : p + 1 ≤ l.length)]
  have e2 : val l = val (l.take (p + 1)) + pw (p + 1) * val (l.drop (p + 1)) := by
    have := val_append (l.take (p + 1)) (l.drop (p + 1))
    rw [List.take_append_drop] at this
    rw [this]
    simp [Nat.min_eq_left (by omega : p + 1 ≤ l.length)]
  rw [e1, e2, take_set_succ l p d h, val_take_succ, List.drop_set_of_lt (by omega)]
  omega
theorem mul_step {L L2 l' : List Nat} {i j o x y z t : Nat} (hp : i + j < L2.length) (h : val L2 + pw (i + j) * o = val L + pw i * x * val (l'.take j)) (hy : y = l'.getD j 0) (hz : z = L2.getD (i + j) 0) (ht : t = o + (x * y + z)) :
    val (L2.set (i + j) (t % 4294967296)) + pw (i + (j + 1)) * (t / 4294967296) = val L + pw i * x * val (l'.take (j + 1)) := by
  have e1 := set_val L2 (i + j) (t % 4294967296) hp
  rw [← hz] at e1
  rw [val_take_succ, ← hy, ← Nat.add_assoc, pw_succ]
  have e2 : pw (i + j) * (t % 4294967296) + 4294967296 * pw (i + j) * (t / 4294967296) = pw (i + j) * o + pw (i + j) * (x * y) + pw (i + j) * z := by
    rw [Nat.mul_comm 4294967296 (pw (i + j)), Nat.mul_assoc, ← Nat.mul_add, Nat.mod_add_div, ht, Nat.mul_add, Nat.mul_add]
    omega
  have e3 : pw i * x * (val (l'.take j) + pw j * y) = pw i * x * val (l'.take j) + pw (i + j) * (x * y) := by
    rw [Nat.mul_add, pw_add, Nat.mul_mul_mul_comm]
  rw [e3]
  omega
theorem mul_bound {o x y z t : Nat} (ho : o < 4294967296) (hx : x < 4294967296) (hy : y < 4294967296) (hz : z < 4294967296) (ht : t = o + (x * y + z)) : t < 18446744073709551616 ∧ x * y ≤ 18446744065119617025 := by
  have h1 : x * y ≤ 4294967295 * y := Nat.mul_le_mul_right y (by omega)
  omega
/-- The last digit of a row of a product. -/
theorem mul_row {L L2 l l' : List Nat} {i o x : Nat} (hp : i + l'.length < L2.length) (h : val L2 + pw (i + l'.length) * o = val L + pw i * x * val l') (hz : L2.getD (i + l'.length) 0 = 0) (hL : val L = val (l.take i) * val l') (hx : x = l.getD i 0) :
    val (L2.set (i + l'.length) o) = val (l.take (i + 1)) * val l' := by
  have e1 := set_val L2 (i + l'.length) o hp
  rw [hz, Nat.mul_zero, Nat.add_zero] at e1
  rw [e1, h, hL, val_take_succ, ← hx, Nat.add_mul]
theorem val_noughts (n : Nat) : val (List.replicate n 0) = 0 := by
  induction n with
  | zero => rfl
  | succ n ih => rw [List.replicate_succ, val, ih]
theorem getD_noughts (n j : Nat) : (List.replicate n 0).getD j 0 = 0 := by
  rw [List.getD]
  cases h : (List.replicate n 0)[j]? with
  | none => rfl
  | some x => simpa using (List.mem_replicate.1 (List.mem_of_getElem? h)).2

/-! Division. -/
theorem val_drop (l : List Nat) {i : Nat} (h : i < l.length) : val (l.drop i) = l.getD i 0 + 4294967296 * val (l.drop (i + 1)) := by
  rw [List.drop_eq_getElem_cons h, val]
  simp [List.getD, h]
theorem val_drop_all (l : List Nat) {i : Nat} (h : l.length ≤ i) : val (l.drop i) = 0 := by
  rw [List.drop_eq_nil_of_le h]; rfl
theorem val_drop_set (l : List Nat) {i d : Nat} (h : i < l.length) : val ((l.set i d).drop i) = d + 4294967296 * val (l.drop (i + 1)) := by
  rw [val_drop _ (by rw [List.length_set]; exact h), getD_set, if_pos ⟨rfl, h⟩, List.drop_set_of_lt (by omega)]
theorem or_low (a b : Nat) (hb : b < 4294967296) : (a * 4294967296) ||| b = a * 4294967296 + b := by
  have := Nat.two_pow_add_eq_or_of_lt (i := 32) (b := b) (by omega) a
  rw [Nat.mul_comm] at this
  exact this.symm
theorem short_step {L2 l : List Nat} {m v x b : Nat} (hm : m < L2.length) (hml : m < l.length) (h : val (L2.drop (m + 1)) * b + v = val (l.drop (m + 1))) (hx : x = l.getD m 0) :
    val ((L2.set m ((v * 4294967296 + x) / b)).drop m) * b + (v * 4294967296 + x) % b = val (l.drop m) := by
  rw [val_drop_set _ hm, val_drop l hml, ← hx, ← h]
  have e := Nat.div_add_mod (v * 4294967296 + x) b
  rw [Nat.mul_comm] at e
  rw [Nat.add_mul, Nat.mul_add, Nat.mul_assoc]
  omega
theorem short_fit {v x b : Nat} (hv : v < b) (hx : x < 4294967296) : (v * 4294967296 + x) / b < 4294967296 := by
  rw [Nat.div_lt_iff_lt_mul (by omega)]
  have : (v + 1) * 4294967296 ≤ b * 4294967296 := Nat.mul_le_mul_right _ hv
  rw [Nat.mul_comm]
  omega
/-- Shifting to the left, digit by digit. -/
theorem shl_step {L l : List Nat} {i o x t s : Nat} (hi : i < L.length) (h : val (L.take i) + pw i * o = val (l.take i) * 2 ^ s) (hx : x = l.getD i 0) (ht : t = x * 2 ^ s + o) :
    val ((L.set i (t % 4294967296)).take (i + 1)) + pw (i + 1) * (t / 4294967296) = val (l.take (i + 1)) * 2 ^ s := by
  rw [take_set_succ L i _ hi, val_take_succ l, ← hx, pw_succ, Nat.add_mul, Nat.mul_assoc (pw i) x]
  have e : pw i * (t % 4294967296) + 4294967296 * pw i * (t / 4294967296) = pw i * (x * 2 ^ s) + pw i * o := by
    rw [Nat.mul_comm 4294967296 (pw i), Nat.mul_assoc, ← Nat.mul_add, Nat.mod_add_div, ht, Nat.mul_add]
  omega
theorem shl_fit {x o s : Nat} (hx : x < 4294967296) (hs : s < 32) (ho : o < 2 ^ s) : x * 2 ^ s + o < 18446744073709551616 ∧ (x * 2 ^ s + o) / 4294967296 < 2 ^ s := by
  have h1 : x * 2 ^ s ≤ 4294967295 * 2 ^ s := Nat.mul_le_mul_right _ (by omega)
  have h2 : 2 ^ s ≤ 2 ^ 31 := Nat.pow_le_pow_right (by omega) (by omega)
  omega
theorem or_shift (x s o : Nat) (ho : o < 2 ^ s) : (o ||| (x * 2 ^ s)) = x * 2 ^ s + o := by
  have := Nat.two_pow_add_eq_or_of_lt ho x
  rw [Nat.or_comm, Nat.mul_comm]
  exact this.symm
/-- Shifting back, digit by digit: H is what stands above, its lowest digit h. -/
theorem back_step (a h H s : Nat) (hs : s < 32) (ha : a < 4294967296) (hh : h = H % 4294967296) : ((h * 4294967296 + a) / 2 ^ s) % 4294967296 + 4294967296 * (H / 2 ^ s) = (a + 4294967296 * H) / 2 ^ s := by
  obtain ⟨u, hu⟩ : ∃ u, 4294967296 = 2 ^ s * u := ⟨2 ^ (32 - s), by rw [← Nat.pow_add, show s + (32 - s) = 32 by omega]⟩
  have hp : 0 < 2 ^ s := Nat.pow_pos (by omega)
  generalize 2 ^ s = p at *
  have hH := Nat.div_add_mod H 4294967296
  rw [← hh] at hH
  -- what lies above the digit
  obtain ⟨K, hK⟩ : ∃ K, K = H / 4294967296 := ⟨_, rfl⟩
  rw [← hK] at hH
  have e1 : H = p * (u * K) + h := by rw [← hH, hu, Nat.mul_assoc]
  have e2 : H / p = u * K + h / p := by rw [e1, Nat.mul_add_div hp]
  have e3 : (a + 4294967296 * H) = p * (u * (4294967296 * K)) + (h * 4294967296 + a) := by
    rw [← hH]
    have : p * (u * (4294967296 * K)) = 4294967296 * (4294967296 * K) := by rw [← Nat.mul_assoc, ← hu]
    omega
  have e4 : (a + 4294967296 * H) / p = u * (4294967296 * K) + (h * 4294967296 + a) / p := by rw [e3, Nat.mul_add_div hp]
  have e5 : (h * 4294967296 + a) / p / 4294967296 = h / p := by
    rw [Nat.div_div_eq_div_mul, Nat.mul_comm p, ← Nat.div_div_eq_div_mul]
    congr 1
    omega
  have e6 := Nat.mod_add_div ((h * 4294967296 + a) / p) 4294967296
  rw [e5] at e6
  rw [e4, e2, Nat.mul_add, ← e6, Nat.mul_left_comm]
  omega
end Go.Proofs.Ytkmbgbbmhpidkaa
