/-
  The law of quotients and rests.
-/
import Derived.Test.YtflfdglpljodbaaDoorGNatB
import Derived.Test.YtflfdglpljodbaaDoorGNat17
namespace Go.Proofs.YtflfdglpljodbaaDoor
open Go.RowKit
set_option linter.unusedVariables false
theorem num_len' {r:List Nat} {n k:Nat} (h:NumIs r n) (hn:n<pw k):r.length≤k:=by
 rcases Nat.eq_zero_or_pos r.length with h0 | h0
 ·omega
 ·have h1:=nrm_low h.2.1 h0
  rw [h.2.2] at h1
  rcases Nat.lt_or_ge (r.length - 1) k with h2 | h2
  ·omega
  ·have:=pw_mono h2
   omega
end Go.Proofs.YtflfdglpljodbaaDoor
