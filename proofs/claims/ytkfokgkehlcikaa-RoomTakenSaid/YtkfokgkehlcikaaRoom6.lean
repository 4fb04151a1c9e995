/-
  Is there a node of a name?
-/
import Derived.Test.YtkfokgkehlcikaaRoom5
namespace Go.Proofs.Ytkfokgkehlcikaa
open Go.RowKit
set_option linter.unusedVariables false
set_option linter.unusedSimpArgs false
set_option maxRecDepth 100000 in
set_option maxHeartbeats 2000000 in
theorem namedL_any (w : World) (B : Nat) (A : Option Addr) (c n : Nat) (l : List Nd) (hn : l.length = n) (hr : RdN w B A c l) (s : ByteArray) (v : Bool) (hv : v = true ↔ ∃ j, j < n ∧ (l.getD j default).name = s) :
    Calls Try.prog 27 #[.slice A n c, .string s] w fun e w' => e = .returned (.bool v) ∧ ∃ q, w' = w.drewN q := by
  have HV := Lib.hid hv
  have HN := Lib.hid hn
  have HR := Lib.hid hr
  have hlc : n ≤ c := by have := hr.1; omega
  have hc63 := hr.2.1
  clear hv hn hr
  go_enter Try.func27, Try.ntmps27
  go_wp2_with fail
  go_loop [5] (fun i => ∃ k : Nat, k ≤ n ∧ i = .int .i64 k ∧ Hid (∀ j, j < k → (l.getD j default).name ≠ s)) (fun i => n - (intOf i).toNat)
  case atStart => exact ⟨0, Nat.zero_le _, rfl, Lib.hid (fun j h => by omega)⟩
  case round =>
    obtain ⟨k, hk, rfl, HD⟩ := hrel
    by_cases hkn : k < n
    case pos =>
      have hkI : (k : Int) < (n : Int) := by omega
      have hk0 : (0 : Int) ≤ (k : Int) := by omega
      obtain ⟨b, off, rfl, hb, hcs⟩ := HR.out.2.2.2 (by rw [HN.out]; omega)
      obtain ⟨q0, _, _⟩ := hcs k (by rw [HN.out]; exact hkn)
      have HX : Hid ((l.getD k default).name = s → v = true) := Lib.hid fun e => HV.out.2 ⟨k, hkn, e⟩
      have HD2 : Hid ((l.getD k default).name ≠ s → ∀ j, j < k + 1 → (l.getD j default).name ≠ s) := Lib.hid fun hne j hj => by
        rcases Nat.lt_or_ge j k with h5 | h5
        · exact HD.out j h5
        · obtain rfl : j = k := by omega
          exact hne
      clear hcs
      generalize (l.getD k default).name = t at *
      by_cases hts : t = s
      case pos =>
        have HT : Hid (v = true) := Lib.hid (HX.out hts)
        have hB : (t.toList == s.toList) = true := by rw [hts, beq_iff_eq]
        clear hts
        go_wp2_with fail
        go_ret
        exact ⟨by rw [HT.out]; rfl, 0, rfl⟩
      case neg =>
        have HD3 := Lib.hid (HD2.out hts)
        have hB : (t.toList == s.toList) = false := by
          rw [beq_eq_false_iff_ne]
          intro e
          rw [Lib.toList_data, Lib.toList_data] at e
          exact hts (ByteArray.ext (Array.ext' e))
        clear hts
        go_wp2_with fail
        go_round
        case rel => exact ⟨k + 1, by omega, by go_num, HD3⟩
        case measure => simp [intOf]; omega
    case neg =>
      obtain rfl : k = n := by omega
      have hkI : ¬ ((k : Int) < (k : Int)) := by omega
      have HF : Hid (v = false) := Lib.hid (not_true fun e => by obtain ⟨j, hj, e2⟩ := HV.out.1 e; exact HD.out j hj e2)
      go_wp2_with fail
      go_ret
      exact ⟨by rw [HF.out]; rfl, 0, rfl⟩
end Go.Proofs.Ytkfokgkehlcikaa
