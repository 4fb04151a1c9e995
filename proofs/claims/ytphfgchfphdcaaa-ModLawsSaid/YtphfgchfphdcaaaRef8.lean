/-
  Numbers that are such, by the law; the law of sums, differences, products.
-/
import Derived.Test.YtphfgchfphdcaaaRef7
import Derived.Test.YtphfgchfphdcaaaMod4
namespace Go.Proofs.Ytphfgchfphdcaaa
open Go.RowKit
set_option linter.unusedVariables false

/-- A number handed in. -/
structure It where
  A : Option Addr
  c : Nat
  l : List Nat
instance : Inhabited It := ⟨⟨none, 0, []⟩⟩

set_option maxRecDepth 100000 in
set_option maxHeartbeats 1000000 in
theorem such_any (w : World) (N g m : Nat) (its : List It) (hm : its.length = m) (hm9 : m ≤ 9) (hN : N ≤ 1000)
    (hc : ∀ j, j < m → w.cell? ⟨g, j, none⟩ = some (.slice (its.getD j default).A (its.getD j default).l.length (its.getD j default).c))
    (hr : ∀ j, j < m → Rd .u32 w w.heap.size (its.getD j default).A (its.getD j default).c (its.getD j default).l)
    (v : Bool) (hv : v = true ↔ ∀ j, j < m → okN (its.getD j default).l = true ∧ (its.getD j default).l.length ≤ N) :
    Calls Try.prog 8 #[.int .i64 N, .slice (some ⟨g, 0, none⟩) m m] w fun e w' => e = .returned (.bool v) ∧ w = w' := by
  have HV := Lib.hid hv
  have HR := Lib.hid hr
  have HC := Lib.hid hc
  clear hv hr hc
  go_enter Try.func8, Try.ntmps8
  go_wp2_with fail
  go_loop [5] (fun i => ∃ k : Nat, k ≤ m ∧ i = .int .i64 k ∧ Hid (∀ j, j < k → okN (its.getD j default).l = true ∧ (its.getD j default).l.length ≤ N)) (fun i => m - (intOf i).toNat)
  case atStart => exact ⟨0, Nat.zero_le _, rfl, Lib.hid (fun j h => by omega)⟩
  case round =>
    obtain ⟨k, hk, rfl, HD⟩ := hrel
    by_cases hkm : k < m
    case neg =>
      obtain rfl : k = m := by omega
      have hf : decide ((k : Int) < (k : Int)) = false := decide_eq_false (by omega)
      have hf2 : decide (k < k) = false := decide_eq_false (by omega)
      have HT := Lib.hid (HV.out.2 HD.out)
      go_wp2_with fail
      go_ret
      exact ⟨by rw [HT.out]; rfl, rfl⟩
    case pos =>
    have hcell := HC.out k hkm
    have hrd := HR.out k hkm
    obtain ⟨it, Hit⟩ : ∃ it, Hid (its.getD k default = it) := ⟨_, rfl⟩
    rw [Hit.out] at hcell hrd
    obtain ⟨A, c, l⟩ := it
    change w.cell? ⟨g, k, none⟩ = some (.slice A l.length c) at hcell
    change Rd .u32 w w.heap.size A c l at hrd
    have hk0 : (0 : Int) ≤ (k : Int) := by omega
    have hkI : (k : Int) < (m : Int) := by omega
    by_cases hok : okN l = true
    case neg =>
      have hokf : okN l = false := by simpa using hok
      have HF : Hid (v = false) := Lib.hid (by
        cases v
        · rfl
        · exact absurd ((HV.out.1 rfl k hkm).1) (by rw [Hit.out]; exact hok))
      clear hok
      go_wp2_with fail
      refine (is'_any w _ A c l hrd false hokf).mono ?_
      rintro e w1 ⟨rfl, rfl⟩
      go_wp2_with fail
      go_ret
      exact ⟨by rw [HF.out]; rfl, rfl⟩
    case pos =>
    by_cases hlen : l.length ≤ N
    case neg =>
      have HF : Hid (v = false) := Lib.hid (by
        cases v
        · rfl
        · exact absurd ((HV.out.1 rfl k hkm).2) (by rw [Hit.out]; exact hlen))
      have b1 : decide ((N : Int) < (l.length : Int)) = true := decide_eq_true (by omega)
      have b2 : decide (N < l.length) = true := decide_eq_true (by omega)
      have HOK := Lib.hid hok
      clear hlen hok
      go_wp2_with fail
      refine (is'_any w _ A c l hrd true HOK.out).mono ?_
      rintro e w1 ⟨rfl, rfl⟩
      go_wp2_with fail
      go_ret
      exact ⟨by rw [HF.out]; rfl, rfl⟩
    case pos =>
    have b1 : decide ((N : Int) < (l.length : Int)) = false := decide_eq_false (by omega)
    have b2 : decide (N < l.length) = false := decide_eq_false (by omega)
    have HX : Hid (∀ j, j < k + 1 → okN (its.getD j default).l = true ∧ (its.getD j default).l.length ≤ N) := Lib.hid (fun j h => by
      rcases Nat.lt_or_ge j k with h' | h'
      · exact HD.out j h'
      · obtain rfl : j = k := by omega
        rw [Hit.out]; exact ⟨hok, hlen⟩)
    have HOK := Lib.hid hok
    clear hlen hok
    go_wp2_with fail
    refine (is'_any w _ A c l hrd true HOK.out).mono ?_
    rintro e w1 ⟨rfl, rfl⟩
    go_wp2_with fail
    go_round
    case rel => exact ⟨k + 1, by omega, by go_num, HX⟩
    case measure => simp [intOf]; omega
end Go.Proofs.Ytphfgchfphdcaaa
