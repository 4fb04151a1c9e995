/-
  The law of quotients and rests.
-/
import Derived.Test.YtflfdglpljodbaaDoorNatB
import Derived.Test.YtflfdglpljodbaaDoorNat17
namespace Go.Proofs.YtflfdglpljodbaaDoor
open Go.RowKit
set_option linter.unusedVariables false

theorem okN_of {l : List Nat} (h : l.length ≤ 256) (hn : nrm l) : okN l = true := by
  unfold okN
  rcases hn with h0 | h0
  · simp [h0]
  · have h1 : ¬ (l.getD (l.length - 1) 0 == 0) = true := by simpa using h0
    simp [h]
    right
    simpa using h0
theorem num_len' {r : List Nat} {n k : Nat} (h : NumIs r n) (hn : n < pw k) : r.length ≤ k := by
  rcases Nat.eq_zero_or_pos r.length with h0 | h0
  · omega
  · have h1 := nrm_low h.2.1 h0
    rw [h.2.2] at h1
    rcases Nat.lt_or_ge (r.length - 1) k with h2 | h2
    · omega
    · have := pw_mono h2
      omega
theorem cmp_less {a b : List Nat} (ha : Dg a) (hb : Dg b) (na : nrm a) (nb : nrm b) (h : val a < val b) : cmpL a b = -1 := by
  rw [cmpL_val ha hb na nb, if_pos h]
/-- The highest digit of a number is read. -/
theorem top_read {w : World} {B : Nat} {A : Option Addr} {c : Nat} {q : List Nat} (hr : Rd .u32 w B A c q) (hn : nrm q) : (q.length = 0) ∨ ∃ m b off x, q.length = m + 1 ∧ A = some ⟨b, off, none⟩ ∧ w.cell? ⟨b, off + m, none⟩ = some (.int .u32 ((x : Nat) : Int)) ∧ ((x : Int) != 0) = true ∧ m < c ∧ c ≤ 9223372036854775807 := by
  rcases hn with h | h
  · exact .inl h
  · rcases hq : q.length with _ | m
    · exact .inl rfl
    · obtain ⟨b, off, x, rfl, hb, hx, Hx⟩ := hr.at_ (i := m) (by omega)
      rw [hq, Nat.add_sub_cancel] at h
      have := hr.1
      exact .inr ⟨m, b, off, x, rfl, rfl, hx, by rw [Hx.out]; simpa using h, by omega, hr.2.1⟩

end Go.Proofs.YtflfdglpljodbaaDoor
