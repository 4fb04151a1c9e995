/-
  Dates: the document's own reckoning, year by year; both answer one date.
-/
import Derived.Test.YtjhpibbhkdjeiaaWhen1
namespace Go.Proofs.Ytjhpibbhkdjeiaa
open Go.RowKit

theorem dim_two {y : Nat} (h : leap y = true) : dim y 2 = 29 := by simp [dim, h]
theorem dim_two' {y : Nat} (h : leap y = false) : dim y 2 = 28 := by simp [dim, h]
theorem dim_le (y m : Nat) : 28 ≤ dim y m ∧ dim y m ≤ 31 := by unfold dim; split <;> (try split) <;> omega

set_option maxRecDepth 100000 in
set_option maxHeartbeats 4000000 in
theorem days'_any (w : World) (y m : Nat) (hy : y ≤ 100000) (hm : 1 ≤ m) (h12 : m ≤ 12) (v : Nat) (hv : dim y m = v) :
    Calls Try.prog 26 #[.int .i64 y, .int .i64 m] w fun e w' => e = .returned (.int .i64 v) ∧ Below w.heap.size w w' := by
  have HV := Lib.hid hv
  clear hv
  have h : m = 2 ∨ m = 1 ∨ m = 3 ∨ m = 4 ∨ m = 5 ∨ m = 6 ∨ m = 7 ∨ m = 8 ∨ m = 9 ∨ m = 10 ∨ m = 11 ∨ m = 12 := by omega
  rcases h with rfl | h
  · cases hl : leap y
    · have H := Lib.hid (dim_two' hl)
      have HL := Lib.hid hl
      clear hl
      go_enter Try.func26, Try.ntmps26
      go_wp2_with fail
      refine (long_any _ y hy false HL.out).mono ?_
      rintro e w1 ⟨rfl, rfl⟩
      go_wp2_with fail
      go_ret
      exact ⟨by rw [← HV.out, H.out]; rfl, (Below.refl _ _).alloc (Nat.le_refl _) _⟩
    · have H := Lib.hid (dim_two hl)
      have HL := Lib.hid hl
      clear hl
      go_enter Try.func26, Try.ntmps26
      go_wp2_with fail
      refine (long_any _ y hy true HL.out).mono ?_
      rintro e w1 ⟨rfl, rfl⟩
      go_wp2_with fail
      go_ret
      exact ⟨by rw [← HV.out, H.out]; rfl, (Below.refl _ _).alloc (Nat.le_refl _) _⟩
  · clear hm h12
    rcases h with rfl | rfl | rfl | rfl | rfl | rfl | rfl | rfl | rfl | rfl | rfl
    all_goals
      have H := HV.out
      simp [dim] at H
      have HV := Lib.hid H
      clear H
      go_enter Try.func26, Try.ntmps26
      go_wp2_with fail
      go_ret
      exact ⟨by rw [← HV.out]; rfl, (Below.refl _ _).alloc (Nat.le_refl _) _⟩

/-- A time's parts. -/
structure Parts6 where
  y : Nat
  m : Nat
  d : Nat
  h : Nat
  i : Nat
  s : Nat
/-- It is the date of a time. -/
structure IsDate (t : Int) (x : Parts6) : Prop where
  valid : Valid x.y x.m x.d
  h23 : x.h ≤ 23
  i59 : x.i ≤ 59
  s59 : x.s ≤ 59
  y9999 : x.y ≤ 9999
  y1950 : 1950 ≤ x.y
  tot : t + 62162035200 = (num x.y x.m x.d : Int) * 86400 + (x.h * 3600 + x.i * 60 + x.s : Nat)
end Go.Proofs.Ytjhpibbhkdjeiaa
