/-
  The law of digits, walked.
-/
import Derived.Test.YtjhpibbhkdjeiaaWhen24
namespace Go.Proofs.Ytjhpibbhkdjeiaa
open Go.RowKit
set_option linter.unusedVariables false
attribute [local go_sem ↓] Go.wp_at_zero Go.wp_at_succ


theorem digits_in (w : World) (y m d h i s : Nat) (hy : y ≤ 9999) (hm : m ≤ 99) (hd : d ≤ 99) (hh : h ≤ 99) (hi : i ≤ 99) (hs : s ≤ 99) :
    Calls Try.prog 5 #[.int .i64 y, .int .i64 m, .int .i64 d, .int .i64 h, .int .i64 i, .int .i64 s] w fun e w' => e = .returned (.bool true) ∧ Below w.heap.size w w' := by
  by_cases h1 : 1950 ≤ y ∧ y < 2050
  · exact digits_yes w y m d h i s hy hm hd hh hi hs h1.1 h1.2
  · exact digits_other w y m d h i s hy hm hd hh hi hs (by omega)
set_option maxRecDepth 100000 in
set_option maxHeartbeats 4000000 in
theorem law_digits (w : World) (y m d h i s : Int) :
    Calls Try.prog 5 #[.int .i64 y, .int .i64 m, .int .i64 d, .int .i64 h, .int .i64 i, .int .i64 s] w fun e w' => e = .returned (.bool true) ∧ Below w.heap.size w w' := by
  by_cases ylo : 0 ≤ y
  case neg =>
    have q : y < 0 := by omega
    clear ylo
    go_enter Try.func5, Try.ntmps5
    go_wp2_with fail
    go_ret
    exact ⟨rfl, Below.refl _ _⟩
  case pos =>
  by_cases yhi : y ≤ 9999
  case neg =>
    have q : 9999 < y := by omega
    clear yhi
    go_enter Try.func5, Try.ntmps5
    go_wp2_with fail
    go_ret
    exact ⟨rfl, Below.refl _ _⟩
  case pos =>
  by_cases mlo : 0 ≤ m
  case neg =>
    have q : m < 0 := by omega
    clear mlo
    go_enter Try.func5, Try.ntmps5
    go_wp2_with fail
    go_ret
    exact ⟨rfl, Below.refl _ _⟩
  case pos =>
  by_cases mhi : m ≤ 99
  case neg =>
    have q : 99 < m := by omega
    clear mhi
    go_enter Try.func5, Try.ntmps5
    go_wp2_with fail
    go_ret
    exact ⟨rfl, Below.refl _ _⟩
  case pos =>
  by_cases dlo : 0 ≤ d
  case neg =>
    have q : d < 0 := by omega
    clear dlo
    go_enter Try.func5, Try.ntmps5
    go_wp2_with fail
    go_ret
    exact ⟨rfl, Below.refl _ _⟩
  case pos =>
  by_cases dhi : d ≤ 99
  case neg =>
    have q : 99 < d := by omega
    clear dhi
    go_enter Try.func5, Try.ntmps5
    go_wp2_with fail
    go_ret
    exact ⟨rfl, Below.refl _ _⟩
  case pos =>
  by_cases hlo : 0 ≤ h
  case neg =>
    have q : h < 0 := by omega
    clear hlo
    go_enter Try.func5, Try.ntmps5
    go_wp2_with fail
    go_ret
    exact ⟨rfl, Below.refl _ _⟩
  case pos =>
  by_cases hhi : h ≤ 99
  case neg =>
    have q : 99 < h := by omega
    clear hhi
    go_enter Try.func5, Try.ntmps5
    go_wp2_with fail
    go_ret
    exact ⟨rfl, Below.refl _ _⟩
  case pos =>
  by_cases ilo : 0 ≤ i
  case neg =>
    have q : i < 0 := by omega
    clear ilo
    go_enter Try.func5, Try.ntmps5
    go_wp2_with fail
    go_ret
    exact ⟨rfl, Below.refl _ _⟩
  case pos =>
  by_cases ihi : i ≤ 99
  case neg =>
    have q : 99 < i := by omega
    clear ihi
    go_enter Try.func5, Try.ntmps5
    go_wp2_with fail
    go_ret
    exact ⟨rfl, Below.refl _ _⟩
  case pos =>
  by_cases slo : 0 ≤ s
  case neg =>
    have q : s < 0 := by omega
    clear slo
    go_enter Try.func5, Try.ntmps5
    go_wp2_with fail
    go_ret
    exact ⟨rfl, Below.refl _ _⟩
  case pos =>
  by_cases shi : s ≤ 99
  case neg =>
    have q : 99 < s := by omega
    clear shi
    go_enter Try.func5, Try.ntmps5
    go_wp2_with fail
    go_ret
    exact ⟨rfl, Below.refl _ _⟩
  case pos =>
  obtain ⟨y', rfl⟩ : ∃ k : Nat, y = (k : Int) := ⟨y.toNat, by omega⟩
  obtain ⟨m', rfl⟩ : ∃ k : Nat, m = (k : Int) := ⟨m.toNat, by omega⟩
  obtain ⟨d', rfl⟩ : ∃ k : Nat, d = (k : Int) := ⟨d.toNat, by omega⟩
  obtain ⟨h', rfl⟩ : ∃ k : Nat, h = (k : Int) := ⟨h.toNat, by omega⟩
  obtain ⟨i', rfl⟩ : ∃ k : Nat, i = (k : Int) := ⟨i.toNat, by omega⟩
  obtain ⟨s', rfl⟩ : ∃ k : Nat, s = (k : Int) := ⟨s.toNat, by omega⟩
  exact digits_in w y' m' d' h' i' s' (by omega) (by omega) (by omega) (by omega) (by omega) (by omega)
end Go.Proofs.Ytjhpibbhkdjeiaa
