/-
  The law's own walk: a certificate without extensions holds from its first to its last second.
-/
import Derived.Test.YtlgkcipioomldaaGreatDoorRt2
namespace Go.Proofs.YtlgkcipioomldaaGreatDoor
open Go.RowKit
set_option maxRecDepth 100000 in
theorem known_any (w : World) : Calls Tryz.prog 5 #[] w fun e w' => e = .returned (.bool true) ∧ Below w.heap.size w w' := by
  go_enter Tryz.func5, Tryz.ntmps5
  go_wp2_with fail
  refine (holds_yes 5 9 5 (by omega) (by omega) _).mono ?_
  rintro e w1 ⟨rfl, hb1⟩
  have hB1 := (Holds.fresh w 33 (cells 5 9)).under hb1 (by simp)
  have h1 : Below w.heap.size w w1 := ((Below.refl _ _).alloc (Nat.le_refl _) _).trans (hb1.mono (by simp))
  have hc1 := hB1.cell
  go_wp2_with fail
  refine (holds_late 5 9 10 (by omega) (by omega) _).mono ?_
  rintro e w2 ⟨rfl, hb2⟩
  have hB2 := hB1.under hb2 hB1.lt
  have h2 : Below w.heap.size w w2 := h1.trans (hb2.mono h1.size)
  have hc2 := hB2.cell
  clear hc1
  go_wp2_with fail
  refine (may_code 5 9 _).mono ?_
  rintro e w3 ⟨rfl, hb3⟩
  have hB3 := hB2.under hb3 hB2.lt
  have h3 : Below w.heap.size w w3 := h2.trans (hb3.mono h2.size)
  have hc3 := hB3.cell
  clear hc2
  go_wp2_with fail
  refine (over_nil 5 9 _ _).mono ?_
  rintro e w4 ⟨rfl, hb4⟩
  have hB4 := hB3.under hb4 hB3.lt
  have h4 : Below w.heap.size w w4 := h3.trans (hb4.mono h3.size)
  have hc4 := hB4.cell
  have hz4 := hB4.lt
  clear hc3
  go_wp2_with fail
  refine (named_nil 5 9 _ _).mono ?_
  rintro e w5 ⟨rfl, hb5⟩
  have hB5 := (hB4.alloc _).under hb5 (by simp; omega)
  have h5 : Below w.heap.size w w5 := (h4.alloc h4.size _).trans (hb5.mono (by have := h4.size; simp; omega))
  have hc5 := hB5.cell
  clear hc4
  go_wp2_with fail
  refine (gone_nil 5 9 5 9 _ _).mono ?_
  rintro e w6 ⟨rfl, hb6⟩
  have h6 : Below w.heap.size w w6 := h5.trans (hb6.mono h5.size)
  go_wp2_with fail
  go_ret
  exact ⟨rfl, h6⟩

/-- What stands behind the first call, whatever that was at. -/
theorem law_out (a b t : Int) (w : World) (h : a < 0 ∨ b < a ∨ 1099511627776 < b) : Calls Tryz.prog 3 #[.int .i64 a, .int .i64 b, .int .i64 t] w fun e w' => e = .returned (.bool true) ∧ Below w.heap.size w w' := by
  by_cases h1 : a < 0
  · go_enter Tryz.func3, Tryz.ntmps3
    go_wp2_with fail
    go_ret
    exact ⟨rfl, Below.refl _ _⟩
  · by_cases h2 : b < a
    · go_enter Tryz.func3, Tryz.ntmps3
      go_wp2_with fail
      go_ret
      exact ⟨rfl, Below.refl _ _⟩
    · have h3 : 1099511627776 < b := by omega
      go_enter Tryz.func3, Tryz.ntmps3
      go_wp2_with fail
      go_ret
      exact ⟨rfl, Below.refl _ _⟩

set_option maxRecDepth 100000 in
set_option maxHeartbeats 800000 in
theorem law_in (a b t : Int) (w : World) (g1 : ¬ a < 0) (g2 : ¬ b < a) (g3 : ¬ 1099511627776 < b) : Calls Tryz.prog 3 #[.int .i64 a, .int .i64 b, .int .i64 t] w fun e w' => e = .returned (.bool true) ∧ Below w.heap.size w w' := by
  by_cases c1 : t < a
  · have c1' : ¬ a ≤ t := by omega
    go_enter Tryz.func3, Tryz.ntmps3
    go_wp2_with fail
    refine (holds_early a b t (by omega) _).mono ?_
    rintro e w1 ⟨rfl, hb1⟩
    have hB1 := (Holds.fresh w 33 (cells a b)).under hb1 (by simp)
    have h1 : Below w.heap.size w w1 := ((Below.refl _ _).alloc (Nat.le_refl _) _).trans (hb1.mono (by simp))
    have hc1 := hB1.cell
    go_wp2_with fail
    refine (holds_yes a b a (by omega) (by omega) _).mono ?_
    rintro e w2 ⟨rfl, hb2⟩
    have hB2 := hB1.under hb2 hB1.lt
    have h2 : Below w.heap.size w w2 := h1.trans (hb2.mono h1.size)
    have hc2 := hB2.cell
    clear hc1
    go_wp2_with fail
    refine (holds_yes a b b (by omega) (by omega) _).mono ?_
    rintro e w3 ⟨rfl, hb3⟩
    have hB3 := hB2.under hb3 hB2.lt
    have h3 : Below w.heap.size w w3 := h2.trans (hb3.mono h2.size)
    have hc3 := hB3.cell
    clear hc2
    go_wp2_with fail
    refine (holds_late a b (b + 1) (by omega) (by omega) _).mono ?_
    rintro e w4 ⟨rfl, hb4⟩
    have h4 : Below w.heap.size w w4 := h3.trans (hb4.mono h3.size)
    go_wp2_with fail
    refine (known_any _).mono ?_
    rintro e w5 ⟨rfl, hb5⟩
    have h5 : Below w.heap.size w w5 := h4.trans (hb5.mono h4.size)
    go_wp2_with fail
    go_ret
    exact ⟨rfl, h5⟩
  by_cases c2 : b < t
  · have c1' : a ≤ t := by omega
    have c2' : decide (t ≤ b) = false := by simp; omega
    go_enter Tryz.func3, Tryz.ntmps3
    go_wp2_with fail
    refine (holds_late a b t (by omega) (by omega) _).mono ?_
    rintro e w1 ⟨rfl, hb1⟩
    have hB1 := (Holds.fresh w 33 (cells a b)).under hb1 (by simp)
    have h1 : Below w.heap.size w w1 := ((Below.refl _ _).alloc (Nat.le_refl _) _).trans (hb1.mono (by simp))
    have hc1 := hB1.cell
    go_wp2_with fail
    refine (holds_yes a b a (by omega) (by omega) _).mono ?_
    rintro e w2 ⟨rfl, hb2⟩
    have hB2 := hB1.under hb2 hB1.lt
    have h2 : Below w.heap.size w w2 := h1.trans (hb2.mono h1.size)
    have hc2 := hB2.cell
    clear hc1
    go_wp2_with fail
    refine (holds_yes a b b (by omega) (by omega) _).mono ?_
    rintro e w3 ⟨rfl, hb3⟩
    have hB3 := hB2.under hb3 hB2.lt
    have h3 : Below w.heap.size w w3 := h2.trans (hb3.mono h2.size)
    have hc3 := hB3.cell
    clear hc2
    go_wp2_with fail
    refine (holds_late a b (b + 1) (by omega) (by omega) _).mono ?_
    rintro e w4 ⟨rfl, hb4⟩
    have h4 : Below w.heap.size w w4 := h3.trans (hb4.mono h3.size)
    go_wp2_with fail
    refine (known_any _).mono ?_
    rintro e w5 ⟨rfl, hb5⟩
    have h5 : Below w.heap.size w w5 := h4.trans (hb5.mono h4.size)
    go_wp2_with fail
    go_ret
    exact ⟨rfl, h5⟩
  · have c1' : a ≤ t := by omega
    have c2' : decide (t ≤ b) = true := by simp; omega
    go_enter Tryz.func3, Tryz.ntmps3
    go_wp2_with fail
    refine (holds_yes a b t (by omega) (by omega) _).mono ?_
    rintro e w1 ⟨rfl, hb1⟩
    have hB1 := (Holds.fresh w 33 (cells a b)).under hb1 (by simp)
    have h1 : Below w.heap.size w w1 := ((Below.refl _ _).alloc (Nat.le_refl _) _).trans (hb1.mono (by simp))
    have hc1 := hB1.cell
    go_wp2_with fail
    refine (holds_yes a b a (by omega) (by omega) _).mono ?_
    rintro e w2 ⟨rfl, hb2⟩
    have hB2 := hB1.under hb2 hB1.lt
    have h2 : Below w.heap.size w w2 := h1.trans (hb2.mono h1.size)
    have hc2 := hB2.cell
    clear hc1
    go_wp2_with fail
    refine (holds_yes a b b (by omega) (by omega) _).mono ?_
    rintro e w3 ⟨rfl, hb3⟩
    have hB3 := hB2.under hb3 hB2.lt
    have h3 : Below w.heap.size w w3 := h2.trans (hb3.mono h2.size)
    have hc3 := hB3.cell
    clear hc2
    go_wp2_with fail
    refine (holds_late a b (b + 1) (by omega) (by omega) _).mono ?_
    rintro e w4 ⟨rfl, hb4⟩
    have h4 : Below w.heap.size w w4 := h3.trans (hb4.mono h3.size)
    go_wp2_with fail
    refine (known_any _).mono ?_
    rintro e w5 ⟨rfl, hb5⟩
    have h5 : Below w.heap.size w w5 := h4.trans (hb5.mono h4.size)
    go_wp2_with fail
    go_ret
    exact ⟨rfl, h5⟩

theorem law_any (a b t : Int) (w : World) : Calls Tryz.prog 3 #[.int .i64 a, .int .i64 b, .int .i64 t] w fun e w' => e = .returned (.bool true) ∧ Below w.heap.size w w' := by
  by_cases h : a < 0 ∨ b < a ∨ 1099511627776 < b
  · exact law_out a b t w h
  · exact law_in a b t w (fun g => h (.inl g)) (fun g => h (.inr (.inl g))) (fun g => h (.inr (.inr g)))
end Go.Proofs.YtlgkcipioomldaaGreatDoor
