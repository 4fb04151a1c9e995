/-
  The law of one row's digest.
-/
import Derived.Test.YtoggfooeeafadaaDoorSha14
import Derived.Deep.RegionLaw
import Derived.Deep.DrawnRows
import Derived.StillTailTactics
import Derived.BigQuiet
import Derived.Deep.QuietTactic
namespace Go.Proofs.YtoggfooeeafadaaDoor
open Go.RowKit
set_option linter.unusedVariables false
attribute [local go_sem ↓] Go.wp_at_zero Go.wp_at_succ

set_option maxRecDepth 100000 in
set_option maxHeartbeats 1000000 in
theorem law_tells (w : World) (A : Option Addr) (c n : Nat) (l : List Nat) (hl : l.length = n) (hr : Rd .u8 w w.heap.size A c l) (ho : Oct6 l) (hk : KMet w) :
    Calls Tryd.prog 3 #[.slice A n c] w fun e w' => e = .returned (.bool true) ∧ Below w.heap.size w w' := by
  have HK := Lib.hid hk
  have HR := Lib.hid hr
  have HL := Lib.hid hl
  have HO := Lib.hid ho
  by_cases hn : 2000 < n
  · clear hl hr ho hk
    have hnB : decide ((2000 : Int) < (n : Int)) = true := decide_eq_true (by omega)
    go_enter Tryd.func3, Tryd.ntmps3
    go_wp2_with fail
    go_quiet (fail)
    go_wp2_with fail
    go_ret
    exact ⟨rfl, ⟨rfl, rfl, rfl, Nat.le_refl _, fun _ _ => rfl⟩⟩
  · have hnB : decide ((2000 : Int) < (n : Int)) = false := decide_eq_false (by omega)
    have hsz : n ≤ 100000 := by omega
    have HOF := Lib.hid (of_one w.drew A c n l hl hr ho hsz hk)
    have HSZ := Lib.hid hsz
    have HB0 : Hid (Below w.heap.size w (w.drew.alloc (.cells #[.slice A n c] 22))) := Lib.hid ((Below.refl w.heap.size w).drew.alloc (Nat.le_refl _) _)
    obtain ⟨s, hs⟩ : ∃ s, s = str (digest l) := ⟨_, rfl⟩
    have HS := Lib.hid hs
    clear hl hr ho hk hs hsz
    go_enter Tryd.func3, Tryd.ntmps3
    go_wp2_with fail
    go_region_law (first
      | (go_simp; go_at_call 7; refine HOF.out.mono ?_; intro e w1 hp; obtain ⟨A1, c1, rfl, hr1, hb1⟩ := hp; have HQ1 := Lib.hid (HB0.out.trans (hb1.mono (Nat.le_succ _))); have hs1 := conv_str hr1 (digest_length l) (digest_oct l); rw [← HS.out] at hs1; have HR1 := Lib.hid hr1; clear hr1 hb1; go_simp)
      | (go_simp; go_at_call 8; refine (of'_any _ w.heap.size A c n l HL.out (HR.out.under HQ1.out) HQ1.out.size HO.out HSZ.out).mono ?_; intro e w2 hp; obtain ⟨A2, c2, rfl, hr2, hb2⟩ := hp; have hs2 := conv_str (HR1.out.under hb2) (digest_length l) (digest_oct l); rw [← HS.out] at hs2; have hs3 := conv_str hr2 (digest_length l) (digest_oct l); rw [← HS.out] at hs3; have HQ2 := Lib.hid (HQ1.out.trans (hb2.mono HQ1.out.size)); clear hb2 hr2; go_simp)
      | (go_simp; go_at_call 9; refine (known6_any _ (HK.out.under HQ2.out)).mono ?_; intro e w3 hp; obtain ⟨rfl, hb3⟩ := hp; have HQ3 := Lib.hid (HQ2.out.trans (hb3.mono HQ2.out.size)); clear hb3; go_simp))
    all_goals
      go_wp2_with fail
      go_ret
      exact ⟨rfl, HQ3.out⟩
end Go.Proofs.YtoggfooeeafadaaDoor
