/-
  The law of begun names: walked.
-/
import Derived.Test.YtgmipgofdclmiaaDoorDn4
namespace Go.Proofs.YtgmipgofdclmiaaDoor
open Go.RowKit
set_option linter.unusedVariables false

set_option maxRecDepth 100000 in
set_option maxHeartbeats 4000000 in
theorem law_under (w : World) (A : Option Addr) (c n : Nat) (l : List Att) (hn : l.length = n) (hr : RdA w w.heap.size A c l) (cut less : Int) (hcl : -9223372036854775808 ≤ cut) (hch : cut ≤ 9223372036854775807) (hll : -9223372036854775808 ≤ less) (hlh : less ≤ 9223372036854775807) :
    Calls Tryd.prog 3 #[.slice A n c, .int .i64 cut, .int .i64 less] w fun e w' => e = .returned (.bool true) ∧ Below w.heap.size w w' := by
  have hlc := hr.1
  have hc63 := hr.2.1
  by_cases a1 : 10 < n
  · have d1 : decide ((10 : Int) < (n : Int)) = true := decide_eq_true (by omega)
    go_enter Tryd.func3, Tryd.ntmps3
    go_wp2_with fail
    go_ret
    exact ⟨rfl, Below.refl _ _⟩
  have d1 : decide ((10 : Int) < (n : Int)) = false := decide_eq_false (by omega)
  by_cases a2 : cut < 0
  · have d2 : decide (cut < 0) = true := decide_eq_true (by omega)
    go_enter Tryd.func3, Tryd.ntmps3
    go_wp2_with fail
    go_ret
    exact ⟨rfl, Below.refl _ _⟩
  have d2 : decide (cut < 0) = false := decide_eq_false (by omega)
  by_cases a3 : (n : Int) < cut
  · have d3 : decide ((n : Int) < cut) = true := decide_eq_true (by omega)
    go_enter Tryd.func3, Tryd.ntmps3
    go_wp2_with fail
    go_ret
    exact ⟨rfl, Below.refl _ _⟩
  have d3 : decide ((n : Int) < cut) = false := decide_eq_false (by omega)
  by_cases a4 : less < 0
  · have d4 : decide (less < 0) = true := decide_eq_true (by omega)
    go_enter Tryd.func3, Tryd.ntmps3
    go_wp2_with fail
    go_ret
    exact ⟨rfl, Below.refl _ _⟩
  have d4 : decide (less < 0) = false := decide_eq_false (by omega)
  by_cases a5 : cut < less
  · have d5 : decide (cut < less) = true := decide_eq_true (by omega)
    go_enter Tryd.func3, Tryd.ntmps3
    go_wp2_with fail
    go_ret
    exact ⟨rfl, Below.refl _ _⟩
  obtain ⟨k, rfl⟩ : ∃ k : Nat, cut = (k : Int) := ⟨cut.toNat, by omega⟩
  obtain ⟨m, rfl⟩ : ∃ m : Nat, less = (m : Int) := ⟨less.toNat, by omega⟩
  have hk : k ≤ n := by omega
  have hm : m ≤ k := by omega
  have hkc : k ≤ c := by omega
  have hmc : m ≤ c := by omega
  clear d1 d2 d3 d4 hcl hch hll hlh
  have d1 : decide ((10 : Int) < (n : Int)) = false := decide_eq_false (by omega)
  have d1' : decide (10 < n) = false := decide_eq_false (by omega)
  have d2 : decide ((k : Int) < 0) = false := decide_eq_false (by omega)
  have d3 : decide ((n : Int) < (k : Int)) = false := decide_eq_false (by omega)
  have d3' : decide (n < k) = false := decide_eq_false (by omega)
  have d4 : decide ((m : Int) < 0) = false := decide_eq_false (by omega)
  have d5 : decide ((k : Int) < (m : Int)) = false := decide_eq_false (by omega)
  have d5' : decide (k < m) = false := decide_eq_false (by omega)
  have v1 : ∀ p : Nat, (k : Nat) = p → True := fun _ _ => trivial
  have hA1 : (l.take k).length = k := by simp; omega
  have hA2 : (l.take m).length = m := by simp; omega
  have hA3 : (l.take k).take m = l.take m := by rw [List.take_take, Nat.min_eq_left hm]
  have hsame : decide (k = n) = true ↔ l = l.take k := by
    rw [decide_eq_true_iff]
    constructor
    · intro e
      rw [List.take_of_length_le (by omega)]
    · intro e
      have := congrArg List.length e
      rw [hA1] at this
      omega
  have HN := Lib.hid hn
  have HA1 := Lib.hid hA1
  have HA2 := Lib.hid hA2
  have HA3 := Lib.hid hA3
  have HS := Lib.hid hsame
  clear hn hA1 hA2 hA3 hsame v1
  go_enter Tryd.func3, Tryd.ntmps3
  go_wp2_with fail
  all_goals go_quiet (fail)
  all_goals go_wp2_with fail
  have hB : Below w.heap.size w (w.drewN nq) := ⟨rfl, rfl, rfl, Nat.le_refl _, fun _ _ => rfl⟩
  have hr1 := hr.drewN nq
  generalize w.drewN nq = w1 at *
  refine (underA_any w1 _ _ A A c c n k l (l.take k) HN.out HA1.out hr1 (hr1.cut k) true ⟨fun _ => ⟨hk, rfl⟩, fun _ => rfl⟩).mono ?_
  rintro e w2 ⟨rfl, q, rfl⟩
  have hr2 := hr1.drewN q
  have hB2 : Below w.heap.size w (w1.drewN q) := ⟨hB.os, hB.tape, hB.output, hB.size, hB.block⟩
  clear hr1 hB
  generalize w1.drewN q = w2 at *
  go_wp2_with fail
  refine (underA_any w2 _ _ A A c c k m (l.take k) (l.take m) HA1.out HA2.out (hr2.cut k) (hr2.cut m) true ⟨fun _ => ⟨hm, HA3.out⟩, fun _ => rfl⟩).mono ?_
  rintro e w3 ⟨rfl, q, rfl⟩
  have hr3 := hr2.drewN q
  have hB3 : Below w.heap.size w (w2.drewN q) := ⟨hB2.os, hB2.tape, hB2.output, hB2.size, hB2.block⟩
  clear hr2 hB2
  generalize w2.drewN q = w3 at *
  go_wp2_with fail
  refine (underA_any w3 _ _ A A c c n m l (l.take m) HN.out HA2.out hr3 (hr3.cut m) true ⟨fun _ => ⟨by omega, rfl⟩, fun _ => rfl⟩).mono ?_
  rintro e w4 ⟨rfl, q, rfl⟩
  have hr4 := hr3.drewN q
  have hB4 : Below w.heap.size w (w3.drewN q) := ⟨hB3.os, hB3.tape, hB3.output, hB3.size, hB3.block⟩
  clear hr3 hB3
  generalize w3.drewN q = w4 at *
  go_wp2_with fail
  refine (underA_any w4 _ 0 A none c 0 n 0 l [] HN.out rfl hr4 (RdA.nil_ w4 0 none 0 (by omega)) true ⟨fun _ => ⟨by omega, rfl⟩, fun _ => rfl⟩).mono ?_
  rintro e w5 ⟨rfl, q, rfl⟩
  have hr5 := hr4.drewN q
  have hB5 : Below w.heap.size w (w4.drewN q) := ⟨hB4.os, hB4.tape, hB4.output, hB4.size, hB4.block⟩
  clear hr4 hB4
  generalize w4.drewN q = w5 at *
  go_wp2_with fail
  obtain ⟨v, hv⟩ : ∃ v, decide (k = n) = v := ⟨_, rfl⟩
  refine (sameA_any w5 _ _ A A c c n k l (l.take k) HN.out HA1.out hr5 (hr5.cut k) v (hv ▸ HS.out)).mono ?_
  rintro e w6 ⟨rfl, q, rfl⟩
  have hr6 := hr5.drewN q
  have hB6 : Below w.heap.size w (w5.drewN q) := ⟨hB5.os, hB5.tape, hB5.output, hB5.size, hB5.block⟩
  clear hr5 hB5
  generalize w5.drewN q = w6 at *
  clear HS
  cases v with
  | true =>
    have e : k = n := of_decide_eq_true hv
    have e' : ((k : Int) == (n : Int)) = true := by simp [e]
    clear hv e
    go_wp2_with fail
    refine (known15_any w6).mono ?_
    rintro e w7 ⟨rfl, hb7⟩
    have hB7 := hB6.trans (hb7.mono hB6.size)
    go_wp2_with fail
    go_ret
    exact ⟨rfl, hB7⟩
  | false =>
    have e : ¬ k = n := of_decide_eq_false hv
    have e' : ((k : Int) == (n : Int)) = false := by simp; omega
    clear hv e
    go_wp2_with fail
    refine (known15_any w6).mono ?_
    rintro e w7 ⟨rfl, hb7⟩
    have hB7 := hB6.trans (hb7.mono hB6.size)
    go_wp2_with fail
    go_ret
    exact ⟨rfl, hB7⟩
end Go.Proofs.YtgmipgofdclmiaaDoor
