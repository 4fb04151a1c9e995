/-
  The law: nodes that may not be, by hand.
-/
import Derived.Test.YtkfokgkehlcikaaNode12
namespace Go.Proofs.Ytkfokgkehlcikaa
open Go.RowKit
set_option linter.unusedVariables false

set_option maxRecDepth 100000 in
set_option maxHeartbeats 4000000 in
theorem law_nines (w : World) (a0 : Int) (h1 : a0 ≤ 9223372036854775807) (h0 : -9223372036854775808 ≤ a0) : Calls Try.prog 5 #[.int .i64 a0] w fun e w' => e = .returned (.bool true) ∧ Below w.heap.size w w' := by
  by_cases hlo : a0 < 0
  · have b1 : decide (a0 < 0) = true := decide_eq_true hlo
    go_enter Try.func5, Try.ntmps5
    go_wp2_with fail
    go_ret
    exact ⟨rfl, by repeat (first | exact Below.refl _ _ | refine Below.alloc ?_ (by simp; try omega) _)⟩
  have b1 : decide (a0 < 0) = false := decide_eq_false hlo
  by_cases hhi : 9 ≤ a0
  · have b2 : decide (9 ≤ a0) = true := decide_eq_true hhi
    go_enter Try.func5, Try.ntmps5
    go_wp2_with fail
    go_ret
    exact ⟨rfl, by repeat (first | exact Below.refl _ _ | refine Below.alloc ?_ (by simp; try omega) _)⟩
  have b2 : decide (9 ≤ a0) = false := decide_eq_false hhi
  obtain ⟨s, z, A, n, c, l, k0, k1, k2, hn, hr, hs, hz, hno⟩ := nine w a0 (by omega) (by omega)
  have hbel := P5_below w
  have hsz := P5_size w
  have HN := Lib.hid hno
  have HL := Lib.hid hn
  have HR := Lib.hid hr
  obtain ⟨W, hW⟩ : ∃ W, W = P5 w := ⟨_, rfl⟩
  have hW2 := hW
  rw [← hW] at k0 k1 k2 hbel hsz HR
  simp only [P5, P4, P3, P2, P1, nineCells, longName] at hW2
  have HW := Lib.hid hW2.symm
  clear hno hn hr hW
  rw [hW2] at k0 k1 k2
  go_enter Try.func5, Try.ntmps5
  go_wp2_with fail
  rw [HW.out] at k0 k1 k2 ⊢
  have hnine : W.heap.size = w.heap.size + 1 + 1 + 1 + 1 + 1 := hsz
  refine (is_any W s hs z hz _ A c n l HL.out HR.out (Nat.le_refl _) false ⟨(fun e => by cases e), fun h => absurd h HN.out⟩).mono ?_
  rintro e w1 ⟨rfl, hb1⟩
  have hlt : w.heap.size + 1 + 1 + 1 + 1 < W.heap.size := by omega
  have m0 := (hb1.cell (p := ⟨w.heap.size + 1 + 1 + 1 + 1, a0.toNat * 3, none⟩) hlt).trans k0
  have m1 := (hb1.cell (p := ⟨w.heap.size + 1 + 1 + 1 + 1, a0.toNat * 3 + 1, none⟩) hlt).trans k1
  have m2 := (hb1.cell (p := ⟨w.heap.size + 1 + 1 + 1 + 1, a0.toNat * 3 + 2, none⟩) hlt).trans k2
  have hr1 : RdI .i64 w1 W.heap.size A c l := HR.out.under hb1
  have hbel1 := hbel.trans (hb1.mono (by omega))
  have hs1 := hb1.size
  clear k0 k1 k2
  go_wp2_with fail
  refine (bytes_none w1 s hs z hz W.heap.size A c n l HL.out hr1 hs1 HN.out).mono ?_
  rintro e w2 ⟨rfl, hb2⟩
  have hbel2 := hbel1.trans (hb2.mono (by omega))
  go_wp2_with fail
  refine (known_any w2).mono ?_
  rintro e w3 ⟨rfl, hb3⟩
  have hbel3 := hbel2.trans (hb3.mono hbel2.size)
  go_wp2_with fail
  go_ret
  exact ⟨rfl, hbel3⟩
end Go.Proofs.Ytkfokgkehlcikaa
