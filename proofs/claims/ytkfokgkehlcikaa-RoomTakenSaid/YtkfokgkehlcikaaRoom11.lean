/-
  The law's sizes; what the law knows.
-/
import Derived.Test.YtkfokgkehlcikaaRoom10
namespace Go.Proofs.Ytkfokgkehlcikaa
open Go.RowKit Go.WideMaps Go.Maps
set_option linter.unusedVariables false
set_option linter.unusedSimpArgs false
attribute [local go_sem ↓] Go.wp_at_zero Go.wp_at_succ

def SomeBool (w : World) (e : Ending) (w' : World) : Prop := ∃ b : Bool, e = .returned (.bool b) ∧ Below w.heap.size w w'
def RelMany (w : World) (n : Nat) (v i : Value) (wr : World) : Prop := ∃ (k : Nat) (z : Int), k ≤ n ∧ k ≤ 60 ∧ i = .int .i64 k ∧ v = .int .i64 z ∧ Hid (Below w.heap.size w wr)
set_option maxRecDepth 100000 in
set_option maxHeartbeats 2000000 in
theorem many_any (w : World) (A : Option Addr) (c n : Nat) (l : List Nd) (hn : l.length = n) (hr : RdN w w.heap.size A c l) :
    Calls Try.prog 17 #[.slice A n c] w fun e w' => SomeBool w e w' := by
  have HN := Lib.hid hn
  have HR : Hid (∀ W, Below w.heap.size w W → RdN W w.heap.size A c l) := Lib.hid fun W hW => hr.under hW
  have hlc : n ≤ c := by have := hr.1; omega
  have hc63 := hr.2.1
  clear hn hr
  go_enter Try.func17, Try.ntmps17
  go_wp2_with fail
  go_loopw [3, 4] (fun v i wr => RelMany w n v i wr) (fun v i _ => 60 - (intOf i).toNat)
  case atStart => exact ⟨0, _, Nat.zero_le _, by omega, rfl, rfl, Lib.hid (Below.refl _ _)⟩
  case round =>
    obtain ⟨k, z, hk, hk6, rfl, rfl, HQ⟩ := hrel
    obtain ⟨V, hV⟩ : ∃ V, V = wr := ⟨_, rfl⟩
    subst hV
    by_cases hkn : k < n
    case pos =>
      have hkI : (k : Int) < (n : Int) := by omega
      have hk0 : (0 : Int) ≤ (k : Int) := by omega
      by_cases h6 : k < 60
      case pos =>
        have hk60 : (k : Int) < 60 := by omega
        have hkl : k < l.length := by rw [HN.out]; exact hkn
        obtain ⟨b, off, rfl, hb, hcs⟩ := (HR.out V HQ.out).2.2.2 (by omega)
        obtain ⟨q0, q1, q2⟩ := hcs k hkl
        clear hcs
        generalize l.getD k default = d at *
        obtain ⟨dn, dz, pa, pc, pl⟩ := d
        simp only at q0 q1 q2
        go_wp2_with fail
        go_quiet (fail)
        go_wp2_with fail
        go_roundw
        case rel => exact ⟨k + 1, _, by omega, by omega, by go_num, rfl, Lib.hid (below_drewN HQ.out _)⟩
        case measure => simp [intOf]; omega
      case neg =>
        obtain rfl : k = 60 := by omega
        have hk60 : ¬ (((60 : Nat) : Int) < 60) := by omega
        go_wp2_with fail
        go_ret
        exact ⟨_, rfl, HQ.out⟩
    case neg =>
      obtain rfl : k = n := by omega
      have hkI : ¬ ((k : Int) < (k : Int)) := by omega
      go_wp2_with fail
      go_ret
      exact ⟨_, rfl, HQ.out⟩
end Go.Proofs.Ytkfokgkehlcikaa
