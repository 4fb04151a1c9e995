/-
  Numbers that go round: what is left, sum, difference, product. Powers that go round. Inverses: Euclid's way. Edges, by hand.
-/
import Derived.Test.YtflfdglpljodbaaDoorRNat18
import Derived.Test.YtflfdglpljodbaaDoorRPure4
namespace Go.Proofs.YtflfdglpljodbaaDoor
open Go.RowKit
set_option linter.unusedVariables false
def Left (w : World) (v : Nat) (e : Ending) (w' : World) : Prop :=
  ∃ A2 c2 r, e = .returned (.tuple #[.slice A2 r.length c2, .bool true]) ∧ NumIs r v ∧ Fresh .u32 22 w' w.heap.size A2 c2 r ∧ Below w.heap.size w w'
theorem Fresh.more {k : IntKind} {T : TypeId} {w' : World} {B B' : Nat} {A : Option Addr} {c : Nat} {r : List Nat} (h : Fresh k T w' B A c r) (hB : B' ≤ B) : Fresh k T w' B' A c r :=
  ⟨h.1, fun h0 => by obtain ⟨g, L, h1, h2, h3, h4⟩ := h.2 h0; exact ⟨g, L, h1, Nat.le_trans hB h2, h3, h4⟩⟩
def Nought (w : World) (e : Ending) (w' : World) : Prop := e = .returned (.tuple #[.slice none 0 0, .bool false]) ∧ Below w.heap.size w w'
theorem trl_none {l : List Nat} (hd : Dg l) (h : val l = 0) : (trl l).length = 0 := by
  have h1 : NumIs (trl l) 0 := num_trl hd h
  rw [num_one h1 num_nil]
  rfl
end Go.Proofs.YtflfdglpljodbaaDoor
namespace Go.Proofs.YtflfdglpljodbaaDoor
open Go.RowKit
set_option linter.unusedVariables false
theorem bit_at {l : List Nat} (hd : Dg l) (i : Nat) : l.getD (i / 32) 0 / 2 ^ (i % 32) % 2 = val l / 2 ^ i % 2 := by
  have h1 := val_split l (i / 32)
  have hlow : val (l.take (i / 32)) < pw (i / 32) := by
    have := val_lt (hd.take (i / 32))
    exact Nat.lt_of_lt_of_le this (pw_mono (by rw [List.length_take]; exact Nat.min_le_left _ _))
  have e : pw (i / 32) = 2 ^ (32 * (i / 32)) := by unfold pw; rw [Nat.pow_mul]
  have hi : 2 ^ i = 2 ^ (32 * (i / 32)) * 2 ^ (i % 32) := by rw [← Nat.pow_add]; congr 1; omega
  have h2 : val l / 2 ^ i = val (l.drop (i / 32)) / 2 ^ (i % 32) := by
    rw [hi, ← Nat.div_div_eq_div_mul, ← e, h1, Nat.add_mul_div_left _ _ (pw_pos _), Nat.div_eq_of_lt hlow, Nat.zero_add]
  rw [h2]
  have hs : i % 32 < 32 := Nat.mod_lt _ (by omega)
  generalize i % 32 = s at *
  rcases Nat.lt_or_ge (i / 32) l.length with h | h
  · rw [val_drop l h]
    generalize l.getD (i / 32) 0 = x
    generalize val (l.drop (i / 32 + 1)) = R
    have e2 : 4294967296 = 2 ^ s * (2 * 2 ^ (31 - s)) := by
      rw [← Nat.pow_succ', ← Nat.pow_add]
      have : s + (31 - s + 1) = 32 := by omega
      rw [show s + (31 - s).succ = 32 by omega]
    rw [e2, Nat.mul_assoc, Nat.add_mul_div_left _ _ (Nat.pow_pos (by omega)), Nat.mul_assoc, Nat.add_mul_mod_self_left]
  · rw [val_drop_all l h, List.getD, List.getElem?_eq_none h]
    simp
theorem pow_step (a E i m : Nat) (b : Nat) (hb : E / 2 ^ i % 2 = b) : E / 2 ^ i = 2 * (E / 2 ^ (i + 1)) + b := by
  have h : E / 2 ^ (i + 1) = E / 2 ^ i / 2 := by rw [Nat.pow_succ, Nat.div_div_eq_div_mul]
  rw [h]
  omega
theorem val_top {l : List Nat} (hd : Dg l) : val l / 2 ^ nb (trl l) = 0 := by
  have hn : NumIs (trl l) (val l) := num_trl hd rfl
  rcases Nat.eq_zero_or_pos (val l) with h | h
  · rw [h]; exact Nat.zero_div _
  · exact Nat.div_eq_of_lt (nb_bounds hn (by omega)).2.1
theorem and_one (x s : Nat) (hx : x < 4294967296) : bits .and .u32 ((x : Int) / 2 ^ s) 1 = ((x / 2 ^ s % 2 : Nat) : Int) := by
  have h1 : x / 2 ^ s ≤ x := Nat.div_le_self _ _
  have h := u32_and_nat (x / 2 ^ s) 1 (by omega) (by omega)
  rw [Nat.and_one_is_mod] at h
  rw [← h, Int.natCast_ediv, Int.natCast_pow]
  rfl
theorem nb_le {l : List Nat} (hd : Dg l) : nb l ≤ 32 * l.length := by
  rcases hm : l.length with _ | m
  · rw [List.eq_nil_of_length_eq_zero hm]
    exact Nat.le_refl _
  · rw [nb_succ hm]
    have := Lib.bitLen_le (l.getD m 0) 32 (by omega) (hd.at_ m)
    omega
end Go.Proofs.YtflfdglpljodbaaDoor
namespace Go.Proofs.YtflfdglpljodbaaDoor
open Go.RowKit
set_option linter.unusedVariables false
structure Eu (a m x y u v : Nat) (b : Bool) : Prop where
  sum : v * x + u * y = m
  um : u ≤ m
  xm : x ≤ m
  xpos : 0 < x
  yx : y < x
  g : Nat.gcd x y = Nat.gcd m a
  no : b = false → ∃ k j, x + u * a = m * k ∧ v * a = y + m * j
  yes : b = true → ∃ k j, u * a = x + m * k ∧ y + v * a = m * j
theorem Eu.start {a m : Nat} (h : 1 < m) : Eu a m m (a % m) 0 1 false :=
  ⟨by omega, by omega, Nat.le_refl _, by omega, Nat.mod_lt _ (by omega), by rw [Nat.gcd_comm m (a % m), ← Nat.gcd_rec],
   fun _ => ⟨1, a / m, by omega, by rw [Nat.one_mul, Nat.mod_add_div]⟩, fun h => by cases h⟩
theorem Eu.vm {a m x y u v : Nat} {b : Bool} (h : Eu a m x y u v b) : v ≤ m := by
  have h1 := h.sum
  have h2 : v * 1 ≤ v * x := Nat.mul_le_mul_left _ h.xpos
  omega
theorem Eu.next {a m x y u v : Nat} {b : Bool} (h : Eu a m x y u v b) (hy : 0 < y) : Eu a m y (x % y) v (u + x / y * v) (!b) := by
  have hx := Nat.mod_add_div x y
  have hvm := h.vm
  obtain ⟨hs, hu, hxm, hxp, hyx, hg, hno, hyes⟩ := h
  generalize hq : x / y = q at *
  generalize hr : x % y = r at *
  have hxe : x = r + y * q := hx.symm
  refine ⟨?_, hvm, by omega, hy, by rw [← hr]; exact Nat.mod_lt _ hy, ?_, ?_, ?_⟩
  · rw [← hs, hxe]
    rw [Nat.add_mul, Nat.mul_add v r]
    have e1 : q * v * y = v * (y * q) := by rw [Nat.mul_comm q v, Nat.mul_assoc, Nat.mul_comm q y]
    rw [e1]
    have e2 : v * r = v * r := rfl
    generalize v * (y * q) = t1
    generalize v * r = t2
    generalize u * y = t3
    omega
  · rw [← hg, ← hr, Nat.gcd_comm y (x % y), ← Nat.gcd_rec, Nat.gcd_comm]
  · intro hb
    have hb' : b = true := by simpa only [Bool.not_eq_false'] using hb
    obtain ⟨k, j, h1, h2⟩ := hyes hb'
    refine ⟨j, k + q * j, h2, ?_⟩
    have e1 : q * (y + v * a) = q * (m * j) := by rw [h2]
    rw [Nat.mul_add] at e1
    have e2 : q * v * a = q * (v * a) := Nat.mul_assoc _ _ _
    have e3 : m * (k + q * j) = m * k + q * (m * j) := by rw [Nat.mul_add, Nat.mul_left_comm]
    have e4 : q * y = y * q := Nat.mul_comm _ _
    rw [Nat.add_mul, e2, e3]
    generalize q * (v * a) = t1 at *
    generalize q * (m * j) = t2 at *
    generalize q * y = t3 at *
    generalize y * q = t5 at *
    generalize u * a = t4 at *
    generalize m * k = t6 at *
    omega
  · intro hb
    have hb' : b = false := by simpa only [Bool.not_eq_true'] using hb
    obtain ⟨k, j, h1, h2⟩ := hno hb'
    refine ⟨j, k + q * j, h2, ?_⟩
    have e1 : q * (v * a) = q * (y + m * j) := by rw [h2]
    rw [Nat.mul_add] at e1
    have e2 : q * v * a = q * (v * a) := Nat.mul_assoc _ _ _
    have e3 : m * (k + q * j) = m * k + q * (m * j) := by rw [Nat.mul_add, Nat.mul_left_comm]
    have e4 : q * y = y * q := Nat.mul_comm _ _
    rw [Nat.add_mul, e2, e3]
    generalize q * (v * a) = t1 at *
    generalize q * (m * j) = t2 at *
    generalize q * y = t3 at *
    generalize y * q = t5 at *
    generalize u * a = t4 at *
    generalize m * k = t6 at *
    omega
theorem Eu.done {a m x u v : Nat} {b : Bool} (h : Eu a m x 0 u v b) : x = Nat.gcd m a := by
  have := h.g
  rwa [Nat.gcd_zero_right] at this
theorem val_unit : val [1] = 1 := by simp [val]
theorem cmp_one {t : List Nat} (hd : Dg t) (hn : nrm t) : cmpL t [1] = if val t < 1 then -1 else if 1 < val t then 1 else 0 := by
  have h1 : Dg [1] := fun x hx => by simp at hx; omega
  have h2 : nrm [1] := .inr (by decide)
  rw [cmpL_val hd h1 hn h2, val_unit]
theorem num_unit : NumIs [1] 1 := ⟨fun x hx => by simp at hx; omega, .inr (by decide), val_unit⟩
def readNum (s : Value) (w : World) : Nat :=
  match s with
  | .slice (some a) n _ => val ((List.range n).map fun i => match w.cell? ⟨a.block, a.off + i, none⟩ with | some (.int _ z) => z.toNat | _ => 0)
  | _ => 0
theorem readNum_eq {w : World} {B : Nat} {A : Option Addr} {c : Nat} {l : List Nat} (hr : Rd .u32 w B A c l) : readNum (.slice A l.length c) w = val l := by
  rcases Nat.eq_zero_or_pos l.length with h | h
  · obtain rfl := List.eq_nil_of_length_eq_zero h
    cases A <;> simp [readNum, val]
  · obtain ⟨b, off, rfl, hb, hc⟩ := hr.2.2 h
    simp only [readNum]
    congr 1
    apply List.ext_getElem
    · simp
    · intro i h1 h2
      simp only [List.getElem_map, List.getElem_range]
      rw [hc i h2]
      simp [List.getD, h2]
end Go.Proofs.YtflfdglpljodbaaDoor
namespace Go.Proofs.YtflfdglpljodbaaDoor
open Go.RowKit
set_option linter.unusedVariables false
end Go.Proofs.YtflfdglpljodbaaDoor
