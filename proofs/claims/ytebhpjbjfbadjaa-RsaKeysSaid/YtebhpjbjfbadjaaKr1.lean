/-
  Keys: what one is, and how it lies in memory; whether it is one of RSA.
-/
import Derived.Test.YtebhpjbjfbadjaaOff0
import Derived.Test.YtebhpjbjfbadjaaNatA
namespace Go.Proofs.Ytebhpjbjfbadjaa
open Go.RowKit
set_option linter.unusedVariables false
set_option linter.unusedSimpArgs false

/-- A key, plain. -/
structure KV where
  alg : Int
  n : List Nat
  e : Nat
  x : List Nat
  y : List Nat
  inf : Bool
/-- A key as it lies. -/
structure Ky where
  alg : Int
  na : Option Addr
  nc : Nat
  n : List Nat
  e : Nat
  xa : Option Addr
  xc : Nat
  x : List Nat
  ya : Option Addr
  yc : Nat
  y : List Nat
  inf : Bool
def Ky.v (k : Ky) : KV := ⟨k.alg, k.n, k.e, k.x, k.y, k.inf⟩
def kycell (k : Ky) : List Value := [.int .i64 k.alg, .slice k.na k.n.length k.nc, .int .u32 (k.e : Int), .slice k.xa k.x.length k.xc, .slice k.ya k.y.length k.yc, .bool k.inf]
def KyP (k : Ky) (w : World) : Prop :=
  Rd .u32 w w.heap.size k.na k.nc k.n ∧ Dg k.n ∧ Rd .u32 w w.heap.size k.xa k.xc k.x ∧ Dg k.x ∧ Rd .u32 w w.heap.size k.ya k.yc k.y ∧ Dg k.y ∧ k.e < 4294967296
theorem Off.of_ky {k : Ky} {w : World} (h : KyP k w) : Off [] (KyP k) w := fun w' h2 h3 =>
  ⟨(Off.of_rd h.1 (Nat.le_refl _)) w' h2 h3, h.2.1, (Off.of_rd h.2.2.1 (Nat.le_refl _)) w' h2 h3, h.2.2.2.1, (Off.of_rd h.2.2.2.2.1 (Nat.le_refl _)) w' h2 h3, h.2.2.2.2.2.1, h.2.2.2.2.2.2⟩

/-- Whether it is a key of RSA. -/
def rsaOk (v : KV) : Bool := decide (v.alg = 1) && !v.inf && decide (v.x.length = 0) && decide (v.y.length = 0) && okN v.n && decide (512 ≤ nb v.n ∧ nb v.n ≤ 4096) && decide (v.n.getD 0 0 % 2 = 1) && decide (v.e % 2 = 1 ∧ 3 ≤ v.e)
/-- How many bytes N has. -/
def rsaSize (v : KV) : Nat := (nb v.n + 7) / 8

theorem nb_pos {l : List Nat} (h : 1 ≤ nb l) : 0 < l.length := by
  rcases Nat.eq_zero_or_pos l.length with h0 | h0
  · rw [nb_nil h0] at h; omega
  · exact h0
theorem isN_at (w : World) (B : Nat) (A : Option Addr) (c n : Nat) (l : List Nat) (hr : Rd .u32 w B A c l) (hn : l.length = n) : Calls Try.prog 21 #[.slice A n c] w fun e w' => e = .returned (.bool (okN l)) ∧ w = w' := by
  subst hn
  exact is_any w B A c l hr _ rfl
theorem isN'_at (w : World) (B : Nat) (A : Option Addr) (c n : Nat) (l : List Nat) (hr : Rd .u32 w B A c l) (hn : l.length = n) : Calls Try.prog 23 #[.slice A n c] w fun e w' => e = .returned (.bool (okN l)) ∧ w = w' := by
  subst hn
  exact is'_any w B A c l hr _ rfl
theorem bitsN'_at (w : World) (B : Nat) (A : Option Addr) (c n : Nat) (l : List Nat) (hr : Rd .u32 w B A c l) (hn : l.length = n) (hd : Dg l) (hs : l.length ≤ 5000) : Calls Try.prog 24 #[.slice A n c] w fun e w' => e = .returned (.int .i64 (nb l : Int)) ∧ w = w' := by
  subst hn
  exact bits'_any w B A c l hr hd hs _ rfl
theorem and1 (x : Nat) (hx : x < 4294967296) : bits .and .u32 (x : Int) 1 = ((x % 2 : Nat) : Int) := by
  have h := u32_and_nat x 1 hx (by omega)
  rw [Nat.and_one_is_mod] at h
  exact h
theorem nb_lt (l : List Nat) (hd : Dg l) : nb l ≤ 32 * l.length := by
  rcases hm : l.length with _ | m
  · rw [nb_nil hm]; omega
  · rw [nb_succ hm]
    have := Lib.bitLen_le (l.getD m 0) 32 (by omega) (hd.at_ m)
    omega
end Go.Proofs.Ytebhpjbjfbadjaa
