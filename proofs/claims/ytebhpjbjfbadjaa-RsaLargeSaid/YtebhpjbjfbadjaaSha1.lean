/-
  Words turned.
-/
import Derived.Test.YtebhpjbjfbadjaaChecked
import Derived.WalkKit
import Derived.WalkSpells
import Derived.WalkLawsBesides
import Derived.Outline
import Derived.BigQuiet
import Derived.Deep.QuietTactic
import Derived.IntWalk
import Derived.Laws.BitsAllLaws
import Derived.Test.YtebhpjbjfbadjaaMem
import Derived.Test.YtebhpjbjfbadjaaRead
namespace Go.Proofs.Ytebhpjbjfbadjaa
open Go.RowKit
set_option linter.unusedVariables false

theorem ret_u32 {a b : Int} (h : a = b) : Ending.returned (.int .u32 a) = .returned (.int .u32 b) := by rw [h]
/-- x turned to the right by n. -/
def rot (x n : Nat) : Nat := x / 2 ^ n ||| x * 2 ^ (32 - n) % 4294967296
theorem lt32_or {a b : Nat} (ha : a < 4294967296) (hb : b < 4294967296) : a ||| b < 4294967296 := Nat.or_lt_two_pow (n := 32) ha hb
theorem lt32_xor {a b : Nat} (ha : a < 4294967296) (hb : b < 4294967296) : a ^^^ b < 4294967296 := Nat.xor_lt_two_pow (n := 32) ha hb
theorem lt32_and {a b : Nat} (ha : a < 4294967296) : a &&& b < 4294967296 := Nat.lt_of_le_of_lt Nat.and_le_left ha
theorem rot_lt {x : Nat} (h : x < 4294967296) (n : Nat) : rot x n < 4294967296 :=
  lt32_or (Nat.lt_of_le_of_lt (Nat.div_le_self _ _) h) (Nat.mod_lt _ (by omega))
/-- The numbers of places by which words are turned. -/
def Turns (n : Nat) : Prop := n = 2 ∨ n = 6 ∨ n = 7 ∨ n = 11 ∨ n = 13 ∨ n = 17 ∨ n = 18 ∨ n = 19 ∨ n = 22 ∨ n = 25
theorem or_left (x p q : Nat) (hx : x < 4294967296) (hp : 0 < p) : bits .or .u32 (((x : Nat) : Int) / (p : Nat)) (((x : Nat) : Int) * (q : Nat) % 4294967296) = ((x / p ||| x * q % 4294967296 : Nat) : Int) := by
  have h1 : x / p < 4294967296 := Nat.lt_of_le_of_lt (Nat.div_le_self _ _) hx
  have h2 : x * q % 4294967296 < 4294967296 := Nat.mod_lt _ (by omega)
  have := u32_or_nat (x / p) (x * q % 4294967296) h1 h2
  rw [← this, Int.natCast_ediv, Int.natCast_emod, Int.natCast_mul]
  rfl
theorem or_right (x p q : Nat) (hx : x < 4294967296) (hp : 0 < p) : bits .or .u32 (((x : Nat) : Int) * (q : Nat) % 4294967296) (((x : Nat) : Int) / (p : Nat)) = ((x / p ||| x * q % 4294967296 : Nat) : Int) := by
  have h1 : x / p < 4294967296 := Nat.lt_of_le_of_lt (Nat.div_le_self _ _) hx
  have h2 : x * q % 4294967296 < 4294967296 := Nat.mod_lt _ (by omega)
  have := u32_or_nat (x * q % 4294967296) (x / p) h2 h1
  rw [Nat.or_comm (x / p), ← this, Int.natCast_ediv, Int.natCast_emod, Int.natCast_mul]
  rfl

set_option maxRecDepth 100000 in
theorem turned_any (w : World) (x n : Nat) (hx : x < 4294967296) (hn : Turns n) : Calls Try.prog 49 #[.int .u32 (x : Int), .int .u64 (n : Int)] w fun e w' => e = .returned (.int .u32 ((rot x n : Nat) : Int)) ∧ w = w' := by
  have H2 := fun p q hp => Lib.hid (or_left x p q hx hp)
  rcases hn with rfl | rfl | rfl | rfl | rfl | rfl | rfl | rfl | rfl | rfl
  all_goals
    go_enter Try.func49, Try.ntmps49
    go_wp2_with fail
    go_ret
    exact ⟨ret_u32 ((H2 _ _ (by decide)).out), rfl⟩

/-- Turned three ways, held against each other. -/
def tri (x n m l : Nat) : Nat := rot x n ^^^ rot x m ^^^ rot x l
theorem tri_lt {x : Nat} (h : x < 4294967296) (n m l : Nat) : tri x n m l < 4294967296 := lt32_xor (lt32_xor (rot_lt h n) (rot_lt h m)) (rot_lt h l)
theorem tri_eq {x : Nat} (h : x < 4294967296) (n m l : Nat) : bits .xor .u32 (bits .xor .u32 ((rot x n : Nat) : Int) ((rot x m : Nat) : Int)) ((rot x l : Nat) : Int) = ((tri x n m l : Nat) : Int) := by
  rw [u32_xor_nat _ _ (rot_lt h n) (rot_lt h m), u32_xor_nat _ _ (lt32_xor (rot_lt h n) (rot_lt h m)) (rot_lt h l)]
  rfl
end Go.Proofs.Ytebhpjbjfbadjaa
