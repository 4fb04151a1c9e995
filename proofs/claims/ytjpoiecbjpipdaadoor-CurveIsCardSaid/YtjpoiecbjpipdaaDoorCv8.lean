/-
  On the curve, in the field's numbers and in the document's.
-/
import Derived.Test.YtjpoiecbjpipdaaDoorCv7
namespace Go.Proofs.YtjpoiecbjpipdaaDoor
open Go.RowKit
set_option linter.unusedVariables false
set_option linter.unusedSimpArgs false

def enc (a : Nat) : Nat := a * cR % cP
theorem enc_lt (a : Nat) : enc a < cP := Nat.mod_lt _ cP_pos
theorem mod_mul_right' {a b m n : Nat} (h : a % n = b % n) : m * a % n = m * b % n := by rw [Nat.mul_comm m a, Nat.mul_comm m b]; exact mod_mul_left h
theorem mul_cong {a b c d n : Nat} (h : a % n = b % n) (h' : c % n = d % n) : a * c % n = b * d % n := (mod_mul_left h).trans (mod_mul_right' h')
/-- What is multiplied by 2^256 is known by it. -/
theorem enc_inj {a b : Nat} (h : a * cR % cP = b * cR % cP) : a % cP = b % cP := by
  have h1 := mod_mul_left (m := cI) h
  rw [Nat.mul_assoc, Nat.mul_assoc] at h1
  have e : ∀ x, x * (cR * cI) % cP = x % cP := fun x => by rw [Nat.mul_mod, cRI, Nat.mul_one, Nat.mod_mod]
  rwa [e, e] at h1
theorem enc_cong {a b : Nat} (h : a % cP = b % cP) : enc a = enc b := mod_mul_left h
theorem enc_iff {a b : Nat} : enc a = enc b ↔ a % cP = b % cP := ⟨enc_inj, enc_cong⟩
theorem enter_enc (a : Nat) : mm a (v64 sL) = enc a := by
  refine (mm_of (enc_lt a) ?_).symm
  unfold enc
  rw [sL_val]
  refine (mod_mul_left (Nat.mod_mod _ _)).trans ?_
  rw [Nat.mul_assoc]
  exact mod_mul_right' (Nat.mod_mod _ _).symm
theorem mm_enc (a b : Nat) : mm (enc a) (enc b) = enc (a * b) := by
  refine (mm_of (enc_lt _) ?_).symm
  unfold enc
  refine (mod_mul_left (Nat.mod_mod _ _)).trans ?_
  refine Eq.trans ?_ (mul_cong (Nat.mod_mod _ _) (Nat.mod_mod _ _)).symm
  rw [show a * cR * (b * cR) = a * b * cR * cR by rw [Nat.mul_mul_mul_comm, Nat.mul_assoc (a * b)]]
theorem add_enc (a b : Nat) : (enc a + enc b) % cP = enc (a + b) := by
  unfold enc
  rw [← Nat.add_mod, Nat.add_mul]
/-- Of two sums with the same thing. -/
theorem add_cancel {a b c n : Nat} (h0 : 0 < n) (h : (a + c) % n = (b + c) % n) : a % n = b % n := by
  have h1 : (a + c + (n - c % n)) % n = (b + c + (n - c % n)) % n := by rw [Nat.add_mod, h, ← Nat.add_mod]
  have e : ∀ x, (x + c + (n - c % n)) % n = x % n := fun x => by
    have h2 := Nat.mod_lt c h0
    have h3 := Nat.div_add_mod c n
    have : x + c + (n - c % n) = x + n * (c / n + 1) := by rw [Nat.mul_add, Nat.mul_one]; omega
    rw [this, Nat.add_mul_mod_self_left]
  rwa [e, e] at h1
theorem less_add {a b n : Nat} (h0 : 0 < n) : (a + (n - b % n) + b) % n = a % n := by
  have h2 := Nat.mod_lt b h0
  have h3 := Nat.div_add_mod b n
  have : a + (n - b % n) + b = a + n * (b / n + 1) := by rw [Nat.mul_add, Nat.mul_one]; omega
  rw [this, Nat.add_mul_mod_self_left]
theorem sub_enc (a b : Nat) : (enc a + (cP - enc b)) % cP = enc (a + (cP - b % cP)) := by
  refine Eq.trans ?_ (Nat.mod_mod _ _)
  refine add_cancel (c := b * cR) cP_pos ?_
  have e1 : (enc a + (cP - enc b) + b * cR) % cP = a * cR % cP := by
    have h := less_add (a := enc a) (b := b * cR) cP_pos
    rw [show enc a % cP = a * cR % cP from Nat.mod_mod _ _] at h
    exact h
  have e2 : (enc (a + (cP - b % cP)) + b * cR) % cP = a * cR % cP := by
    have h := less_add (a := a) (b := b) cP_pos
    have h2 := mod_mul_left (m := cR) h
    rw [Nat.add_mul] at h2
    rw [← h2]
    unfold enc
    rw [Nat.add_mod, Nat.mod_mod, ← Nat.add_mod]
  exact e1.trans e2.symm
/-- The document's right side. -/
def rhsR (x : Nat) : Nat := ((x * (x * x % cP) % cP % cP + (cP - (x + (x + x) % cP) % cP % cP)) % cP + val lB) % cP
/-- The field's. -/
def rhsF (x : Nat) : Nat := (mm ((mm (enc x) (enc x) + (cP - (enc 1 + (enc 1 + enc 1) % cP) % cP)) % cP) (enc x) + enc (val lB)) % cP
theorem rhs_enc (x : Nat) : rhsF x = enc (rhsR x) := by
  unfold rhsF
  rw [mm_enc, add_enc, add_enc, sub_enc, mm_enc, add_enc]
  refine enc_cong ?_
  unfold rhsR
  rw [Nat.mod_mod]
  have key : ((x * x + (cP - (1 + (1 + 1)) % cP)) * x) % cP = (x * (x * x % cP) % cP % cP + (cP - (x + (x + x) % cP) % cP % cP)) % cP := by
    refine add_cancel (c := 3 * x) cP_pos ?_ |>.trans (Nat.mod_mod _ _)
    have e1 : ((x * x + (cP - (1 + (1 + 1)) % cP)) * x + 3 * x) % cP = x * (x * x) % cP := by
      have h := mod_mul_left (m := x) (less_add (a := x * x) (b := 1 + (1 + 1)) cP_pos)
      rw [Nat.add_mul] at h
      rw [Nat.mul_comm x (x * x)]
      exact h
    have e2 : ((x * (x * x % cP) % cP % cP + (cP - (x + (x + x) % cP) % cP % cP)) % cP + 3 * x) % cP = x * (x * x) % cP := by
      have e3 : (x + (x + x) % cP) % cP = 3 * x % cP := by
        rw [Nat.add_mod, Nat.mod_mod, ← Nat.add_mod, show x + (x + x) = 3 * x by omega]
      rw [e3, Nat.mod_mod, Nat.mod_mod]
      rw [Nat.add_mod, Nat.mod_mod, ← Nat.add_mod, less_add cP_pos, Nat.mod_mod]
      exact mod_mul_right' (Nat.mod_mod _ _)
    rw [e1, e2]
  rw [Nat.add_mod, key, ← Nat.add_mod]
  exact (Nat.mod_add_mod _ _ _).symm
/-- On the curve: the same either way. -/
theorem on_iff (x y : Nat) : mm (enc y) (enc y) = rhsF x ↔ y * y % cP = rhsR x := by
  rw [mm_enc, rhs_enc, enc_iff]
  have : rhsR x % cP = rhsR x := Nat.mod_eq_of_lt (Nat.mod_lt _ cP_pos)
  rw [this]
/-- A point, as both tell it. -/
def ptOk (lx ly : List Nat) (inf : Bool) : Bool :=
  if inf then decide (lx.length = 0) && decide (ly.length = 0) else blw lx && blw ly && decide (val ly * val ly % cP = rhsR (val lx))
end Go.Proofs.YtjpoiecbjpipdaaDoor
