/-
  Which names may be: by the document.
-/
import Derived.Test.YtionikhhdfkhdaaDoorDn6
namespace Go.Proofs.YtionikhhdfkhdaaDoor
open Go.RowKit
set_option linter.unusedVariables false
set_option linter.unusedSimpArgs false
attribute [local go_sem ↓] Go.wp_at_zero Go.wp_at_succ

set_option maxRecDepth 100000 in
set_option maxHeartbeats 8000000 in
theorem isDn'_any (w : World) (B : Nat) (A : Option Addr) (c n : Nat) (l : List Att) (hn : l.length = n) (hr : RdA w B A c l) (hB : B ≤ w.heap.size) :
    Calls Tryd.prog 18 #[.slice A n c] w fun e w' => e = .returned (.bool (dnOk l)) ∧ Below w.heap.size w w' := by
  have hlc : n ≤ c := by rw [← hn]; exact hr.1
  have hc63 := hr.2.1
  obtain ⟨r, hre⟩ : ∃ r, dnOk l = r := ⟨_, rfl⟩
  rw [hre]
  have HR := Lib.hid hre
  have HN := Lib.hid hn
  have HRD := Lib.hid hr
  clear hre hn hr
  have hn63 : n ≤ 9223372036854775807 := by omega
  go_enter Tryd.func18, Tryd.ntmps18
  go_wp2_with fail
  go_loopw [3] (fun iv wr => ∃ k : Nat, k ≤ n ∧ iv = .int .i64 (k : Int) ∧ Hid (∀ j, j < k → atOk (l.getD j default) = true) ∧ Below w.heap.size w wr) (fun iv _ => n - (intOf iv).toNat)
  case atStart => exact ⟨0, by omega, rfl, Lib.hid fun j hj => by omega, Below.refl _ _⟩
  case round =>
    obtain ⟨k, hk, rfl, HA, hB'⟩ := hrel
    have HB := Lib.hid hB'
    clear hB'
    by_cases hlt : k < n
    · obtain ⟨g, off, rfl, hg, hcs⟩ := HRD.out.2.2 (by rw [HN.out]; omega)
      obtain ⟨q0, q1⟩ := hcs k (by rw [HN.out]; exact hlt)
      have c0 := (HB.out.cell (p := ⟨g, off + k * 2, none⟩) (by show g < _; omega)).trans q0
      have c1 := (HB.out.cell (p := ⟨g, off + k * 2 + 1, none⟩) (by show g < _; omega)).trans q1
      obtain ⟨a, ha⟩ : ∃ a, a = l.getD k default := ⟨_, rfl⟩
      rw [← ha] at c0 c1
      have HAA := Lib.hid ha
      obtain ⟨kd, s⟩ := a
      dsimp only at c0 c1
      obtain ⟨L, rfl, hoL⟩ := str_all s
      have HOL := Lib.hid hoL
      clear q0 q1 ha hoL hcs
      rcases hkd : kdOk kd with _ | _
      · have hf : r = false := by rw [← HR.out]; exact dnOk_no fun h => by have := (atOk_iff.1 (h.2.2 k (by rw [HN.out]; exact hlt))).1; rw [← HAA.out, hkd] at this; cases this
        have HF := Lib.hid hf
        have hk4 : ¬ (kd = 3 ∨ kd = 6 ∨ kd = 10 ∨ kd = 11) := of_decide_eq_false hkd
        have n3 : (kd != 3) = true := by simp; omega
        have n6 : (kd != 6) = true := by simp; omega
        have n10 : (kd != 10) = true := by simp; omega
        have n11 : (kd != 11) = true := by simp; omega
        clear hf hkd hk4
        go_wp2_with fail
        go_ret
        rw [HF.out]; exact ⟨rfl, HB.out⟩
      have HKD := Lib.hid hkd
      have hk4 := kd_cases hkd
      clear hkd
      by_cases hem : 0 < L.length
      case neg =>
        have hf : r = false := by rw [← HR.out]; exact dnOk_no fun h => by have := (atOk_iff.1 (h.2.2 k (by rw [HN.out]; exact hlt))).2.1; rw [← HAA.out] at this; exact hem (by rwa [bts_str HOL.out] at this)
        have HF := Lib.hid hf
        have e0 := empty_yes (s := str L) (by rw [bts_str HOL.out]; exact hem)
        clear hf
        rcases hk4 with rfl | rfl | rfl | rfl
        all_goals
          go_wp2_with fail
          go_ret
          rw [HF.out]; exact ⟨rfl, HB.out⟩
      have e0 := empty_no (s := str L) (by rw [bts_str HOL.out]; exact hem)
      have HEM := Lib.hid hem
      clear hem
      obtain ⟨tk, htk⟩ : ∃ tk, textOk L = tk := ⟨_, rfl⟩
      have HTK := Lib.hid htk
      have hc := isText'_any wr L HOL.out
      rw [htk] at hc
      have HC := Lib.hid hc
      clear htk hc
      have HA2 : Hid (tk = true → ∀ j, j < k + 1 → atOk (l.getD j default) = true) := Lib.hid fun ht j hj => by
        rcases Nat.lt_or_ge j k with h | h
        · exact HA.out j h
        · obtain rfl : j = k := by omega
          rw [← HAA.out]
          exact atOk_iff.2 ⟨HKD.out, by rw [bts_str HOL.out]; exact HEM.out, by rw [bts_str HOL.out, HTK.out]; exact ht⟩
      have HF2 : Hid (tk = false → r = false) := Lib.hid fun ht => by rw [← HR.out]; exact dnOk_no fun h => by have := (atOk_iff.1 (h.2.2 k (by rw [HN.out]; exact hlt))).2.2; rw [← HAA.out] at this; rw [bts_str HOL.out, HTK.out, ht] at this; cases this
      clear HKD HAA
      rcases hk4 with rfl | rfl | rfl | rfl
      all_goals
        go_wp2_with fail
        refine HC.out.mono ?_
        rintro e w2 ⟨rfl, hb⟩
        have HQ2 := Lib.hid (HB.out.trans (hb.mono HB.out.size))
        clear hb HC
        cases tk
        · have HF := Lib.hid (HF2.out rfl)
          go_wp2_with fail
          go_ret
          rw [HF.out]; exact ⟨rfl, HQ2.out⟩
        · have HA3 := Lib.hid (HA2.out rfl)
          go_wp2_with fail
          go_roundw
          case rel => exact ⟨k + 1, by omega, by go_num, HA3, HQ2.out⟩
          case measure => simp [intOf]; omega
    · obtain rfl : k = n := by omega
      by_cases h1 : 1 ≤ k
      case neg =>
        have d1 : decide ((1 : Int) ≤ (k : Int)) = false := decide_eq_false (by omega)
        have hf : r = false := by rw [← HR.out]; exact dnOk_no (by rw [HN.out]; omega)
        have HF := Lib.hid hf
        clear hf
        go_wp2_with fail
        go_ret
        rw [HF.out]; exact ⟨rfl, HB.out⟩
      have d1 : decide ((1 : Int) ≤ (k : Int)) = true := decide_eq_true (by omega)
      by_cases h4 : k ≤ 4
      case neg =>
        have d4 : decide ((k : Int) ≤ 4) = false := decide_eq_false (by omega)
        have hf : r = false := by rw [← HR.out]; exact dnOk_no (by rw [HN.out]; omega)
        have HF := Lib.hid hf
        clear hf
        go_wp2_with fail
        go_ret
        rw [HF.out]; exact ⟨rfl, HB.out⟩
      have d4 : decide ((k : Int) ≤ 4) = true := decide_eq_true (by omega)
      have hf : r = true := by rw [← HR.out]; exact dnOk_iff.2 ⟨by rw [HN.out]; omega, by rw [HN.out]; omega, fun i hi => HA.out i (by rw [HN.out] at hi; exact hi)⟩
      have HF := Lib.hid hf
      clear hf
      go_wp2_with fail
      go_ret
      rw [HF.out]; exact ⟨rfl, HB.out⟩
end Go.Proofs.YtionikhhdfkhdaaDoor
