/-
  The laws of sums and products, in any order, of parts.
-/
import Derived.Test.YtphfgchfphdcaaaNat13
namespace Go.Proofs.Ytphfgchfphdcaaa
open Go.RowKit
set_option linter.unusedVariables false

theorem num_len {r : List Nat} {n k : Nat} (h : NumIs r n) (hn : n < pw k) (hk : k ≤ 5000) : r.length ≤ 5000 := by
  rcases Nat.eq_zero_or_pos r.length with h0 | h0
  · omega
  · have h1 := nrm_low h.2.1 h0
    rw [h.2.2] at h1
    rcases Nat.lt_or_ge (r.length - 1) k with h2 | h2
    · omega
    · have := pw_mono h2
      omega
theorem sum_lt {l l' : List Nat} (hd : Dg l) (hd' : Dg l') {n : Nat} (h : l.length ≤ n) (h' : l'.length ≤ n) : val l + val l' < pw (n + 1) := by
  have h1 := val_lt hd
  have h2 := val_lt hd'
  have h3 := pw_mono h
  have h4 := pw_mono h'
  rw [pw_succ]
  omega
theorem prod_lt {l l' : List Nat} (hd : Dg l) (hd' : Dg l') {n : Nat} (h : l.length ≤ n) (h' : l'.length ≤ n) : val l * val l' < pw (n + n) := by
  have h1 := val_lt hd
  have h2 := val_lt hd'
  have h3 := pw_mono h
  have h4 := pw_mono h'
  rw [pw_add]
  exact Nat.mul_lt_mul'' (by omega) (by omega)

end Go.Proofs.Ytphfgchfphdcaaa
