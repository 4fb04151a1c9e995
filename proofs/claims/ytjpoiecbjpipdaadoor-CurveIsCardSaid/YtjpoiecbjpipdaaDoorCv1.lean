/-
  Numbers of four digits of 2^64; products modulo P in Montgomery's way: plain.
-/
import Derived.Test.YtjpoiecbjpipdaaDoorPure
namespace Go.Proofs.YtjpoiecbjpipdaaDoor
set_option linter.unusedVariables false
set_option linter.unusedSimpArgs false

def b64 : Nat := 18446744073709551616
def cP : Nat := 115792089210356248762697446949407573530086143415290314195533631308867097853951
def cR : Nat := 115792089237316195423570985008687907853269984665640564039457584007913129639936
def cI : Nat := 115792089183396302114378112356516095823261736990586219612555396166510339686400
theorem cRI : cR * cI % cP = 1 := by decide +kernel
theorem cP_pos : 0 < cP := by decide +kernel

/-- The number of digits of 2^64, the lowest first. -/
def v64 : List Nat → Nat
  | [] => 0
  | x :: l => x + 18446744073709551616 * v64 l
/-- Each is a digit of 2^64. -/
def D64 (l : List Nat) : Prop := ∀ x ∈ l, x < 18446744073709551616
def q64 (k : Nat) : Nat := 18446744073709551616 ^ k
theorem q64_succ (k : Nat) : q64 (k + 1) = 18446744073709551616 * q64 k := by unfold q64; rw [Nat.pow_succ, Nat.mul_comm]
theorem q64_pos (k : Nat) : 0 < q64 k := Nat.pow_pos (by omega)
theorem v64_append : ∀ a b : List Nat, v64 (a ++ b) = v64 a + q64 a.length * v64 b
  | [], b => by simp [v64, q64]
  | x :: a, b => by
    rw [List.cons_append, v64, v64, v64_append a b, List.length_cons, q64_succ, Nat.mul_add, Nat.mul_assoc, Nat.add_assoc]
theorem D64.at_ {l : List Nat} (h : D64 l) (i : Nat) : l.getD i 0 < 18446744073709551616 := by
  rw [List.getD]
  cases hq : l[i]? with
  | none => simp
  | some x => simpa using h x (List.mem_of_getElem? hq)
theorem D64.take {l : List Nat} (h : D64 l) (n : Nat) : D64 (l.take n) := fun x hx => h x (List.mem_of_mem_take hx)
theorem D64.set {l : List Nat} (h : D64 l) (i x : Nat) (hx : x < 18446744073709551616) : D64 (l.set i x) := fun y hy => by
  rcases List.mem_or_eq_of_mem_set hy with hm | rfl
  · exact h y hm
  · exact hx
theorem D64.noughts (n : Nat) : D64 (List.replicate n 0) := fun x hx => by rw [(List.mem_replicate.1 hx).2]; omega
theorem v64_noughts (n : Nat) : v64 (List.replicate n 0) = 0 := by
  induction n with
  | zero => rfl
  | succ n ih => rw [List.replicate_succ, v64, ih]
theorem v64_take_succ (l : List Nat) (i : Nat) : v64 (l.take (i + 1)) = v64 (l.take i) + q64 i * l.getD i 0 := by
  rw [List.take_add_one, v64_append]
  rcases Nat.lt_or_ge i l.length with h | h
  · have e1 : (l.take i).length = i := by simp; omega
    rw [e1, List.getD, List.getElem?_eq_getElem h]
    simp [v64]
  · rw [List.getD, List.getElem?_eq_none h]
    simp [v64]
theorem v64_take_set (l : List Nat) (i x : Nat) (h : i < l.length) : v64 ((l.set i x).take (i + 1)) = v64 (l.take i) + q64 i * x := by
  rw [v64_take_succ]
  congr 2
  · rw [List.take_set_of_le (Nat.le_refl i)]
  · simp [List.getD, h]
theorem v64_all (l : List Nat) (n : Nat) (h : l.length ≤ n) : v64 (l.take n) = v64 l := by rw [List.take_of_length_le h]
theorem v64_lt {l : List Nat} (h : D64 l) : v64 l < q64 l.length := by
  induction l with
  | nil => simp [v64, q64]
  | cons x l ih =>
    have h1 := ih (fun y hy => h y (List.mem_cons_of_mem _ hy))
    have h2 := h x List.mem_cons_self
    rw [v64, List.length_cons, q64_succ]
    omega
theorem q64_4 : q64 4 = cR := by decide +kernel
/-- As many digits, the same number: the same digits. -/
theorem v64_inj : ∀ {a b : List Nat}, D64 a → D64 b → a.length = b.length → v64 a = v64 b → a = b
  | [], [], _, _, _, _ => rfl
  | x :: a, y :: b, ha, hb, hl, h => by
    have h1 := ha x (by simp)
    have h2 := hb y (by simp)
    simp only [v64] at h
    have e : x = y := by omega
    have e2 : v64 a = v64 b := by omega
    rw [e, v64_inj (fun z hz => ha z (by simp [hz])) (fun z hz => hb z (by simp [hz])) (by simpa using hl) e2]

/-- One digit of a sum. -/
theorem sum_step {L l l' : List Nat} {i o x y : Nat} (hi : i < L.length) (h : v64 (L.take i) + q64 i * o = v64 (l.take i) + v64 (l'.take i)) (hx : x = l.getD i 0) (hy : y = l'.getD i 0) :
    v64 ((L.set i ((x + y + o) % 18446744073709551616)).take (i + 1)) + q64 (i + 1) * ((x + y + o) / 18446744073709551616) = v64 (l.take (i + 1)) + v64 (l'.take (i + 1)) := by
  rw [v64_take_set L i _ hi, v64_take_succ l, v64_take_succ l', ← hx, ← hy, q64_succ]
  have e : q64 i * ((x + y + o) % 18446744073709551616) + 18446744073709551616 * q64 i * ((x + y + o) / 18446744073709551616) = q64 i * x + q64 i * y + q64 i * o := by
    rw [Nat.mul_comm 18446744073709551616 (q64 i), Nat.mul_assoc, ← Nat.mul_add, Nat.mod_add_div, Nat.mul_add, Nat.mul_add]
  omega
/-- One digit of a difference: o is lent. -/
theorem diff_step {L l l' : List Nat} {i o x y : Nat} (hi : i < L.length) (ho : o ≤ 1) (h : v64 (L.take i) + v64 (l'.take i) = v64 (l.take i) + q64 i * o) (hx : x = l.getD i 0) (hy : y = l'.getD i 0) (hx64 : x < 18446744073709551616) (hy64 : y < 18446744073709551616) :
    v64 ((L.set i ((x + 18446744073709551616 - y - o) % 18446744073709551616)).take (i + 1)) + v64 (l'.take (i + 1)) = v64 (l.take (i + 1)) + q64 (i + 1) * (if x < y + o then 1 else 0) := by
  rw [v64_take_set L i _ hi, v64_take_succ l, v64_take_succ l', ← hx, ← hy, q64_succ]
  obtain ⟨d, hd⟩ : ∃ d, d = (x + 18446744073709551616 - y - o) % 18446744073709551616 := ⟨_, rfl⟩
  rw [← hd]
  have e : q64 i * d + q64 i * y + q64 i * o = q64 i * x + 18446744073709551616 * q64 i * (if x < y + o then 1 else 0) := by
    rw [Nat.mul_comm 18446744073709551616 (q64 i), Nat.mul_assoc, ← Nat.mul_add, ← Nat.mul_add, ← Nat.mul_add]
    congr 1
    split <;> omega
  omega
/-- What is left when P is taken away once, if it may. -/
theorem once_low {X D : Nat} {o f : Nat} (hX : X < cR) (hD : D < cR) (h : D + cP = X + cR * o) (ho : o ≤ 1) (hlim : X + cR * f < 2 * cP) (hf : f < o) : X < cP ∧ f = 0 := by
  have h1 : cP < cR := by decide +kernel
  rcases Nat.lt_or_ge o 1 with h2 | h2
  · omega
  · obtain rfl : o = 1 := by omega
    exact ⟨by omega, by omega⟩
theorem once_high {X D : Nat} {o f : Nat} (hX : X < cR) (hD : D < cR) (h : D + cP = X + cR * o) (ho : o ≤ 1) (hlim : X + cR * f < 2 * cP) (hf : ¬ f < o) : D + cP = X + cR * f ∧ D < cP := by
  have h1 : cP < cR := by decide +kernel
  have h2 : 2 * cP < 2 * cR := by omega
  rcases Nat.lt_or_ge o 1 with h3 | h3
  · obtain rfl : o = 0 := by omega
    rcases Nat.lt_or_ge f 1 with h4 | h4
    · obtain rfl : f = 0 := by omega
      exact ⟨h, by omega⟩
    · have : cR * 1 ≤ cR * f := Nat.mul_le_mul_left _ h4
      omega
  · obtain rfl : o = 1 := by omega
    have h5 : 1 ≤ f := by omega
    have h6 : f = 1 := by
      rcases Nat.lt_or_ge f 2 with h7 | h7
      · omega
      · have : cR * 2 ≤ cR * f := Nat.mul_le_mul_left _ h7
        omega
    subst h6
    exact ⟨h, by omega⟩

/-- A Montgomery product. -/
def mm (a b : Nat) : Nat := a * b * cI % cP
theorem mm_lt (a b : Nat) : mm a b < cP := Nat.mod_lt _ cP_pos
theorem mod_mul_left {a b m n : Nat} (h : a % n = b % n) : a * m % n = b * m % n := by rw [Nat.mul_mod, h, ← Nat.mul_mod]
/-- A number below P whose 2^256 times is a times b is their product. -/
theorem mm_of {T a b : Nat} (hT : T < cP) (h : T * cR % cP = a * b % cP) : T = mm a b := by
  unfold mm
  have h1 := mod_mul_left (m := cI) h
  rw [Nat.mul_assoc, Nat.mul_mod, cRI, Nat.mul_one, Nat.mod_mod, Nat.mod_eq_of_lt hT] at h1
  exact h1
theorem mm_back (a b : Nat) : mm a b * cR % cP = a * b % cP := by
  unfold mm
  rw [Nat.mul_mod, Nat.mod_mod, ← Nat.mul_mod, Nat.mul_assoc, Nat.mul_comm cI cR, Nat.mul_mod (a * b), cRI, Nat.mul_one, Nat.mod_mod]
end Go.Proofs.YtjpoiecbjpipdaaDoor
