/-
  Comparing two numbers: by nat, and by the document's own reckoning.
-/
import Derived.Test.YtogbeiifnhegiaaNat1
import Derived.BigQuiet
import Derived.Deep.QuietTactic
namespace Go.Proofs.Ytogbeiifnhegiaa
open Go.RowKit

set_option maxRecDepth 100000 in
theorem cmp'_any (w : World) (B B' : Nat) (A A' : Option Addr) (c c' : Nat) (l l' : List Nat) (hr : Rd .u32 w B A c l) (hr' : Rd .u32 w B' A' c' l') (v : Int) (hv : cmpL l l' = v) :
    Calls Try.prog 25 #[.slice A l.length c, .slice A' l'.length c'] w fun e w' => e = .returned (.int .i64 v) ∧ ∃ q, w' = w.drewN q := by
  have hlc : l.length ≤ c := hr.1
  have hc63 : c ≤ 9223372036854775807 := hr.2.1
  have hlc' : l'.length ≤ c' := hr'.1
  have hc63' : c' ≤ 9223372036854775807 := hr'.2.1
  by_cases h1 : l.length < l'.length
  · have Hv := Lib.hid (show v = -1 by rw [← hv, cmpL, if_pos h1])
    clear hv
    have hq : ((l.length : Int) != (l'.length : Int)) = true := by simp; omega
    go_enter Try.func25, Try.ntmps25
    go_wp2_with fail
    go_ret
    exact ⟨by rw [Hv.out]; rfl, 0, rfl⟩
  by_cases h2 : l'.length < l.length
  · have Hv := Lib.hid (show v = 1 by rw [← hv, cmpL, if_neg h1, if_pos h2])
    clear hv
    have hq : ((l.length : Int) != (l'.length : Int)) = true := by simp; omega
    go_enter Try.func25, Try.ntmps25
    go_wp2_with fail
    go_ret
    exact ⟨by rw [Hv.out]; rfl, 0, rfl⟩
  have Hv := Lib.hid (show v = cmpTop l l' l.length by rw [← hv, cmpL, if_neg h1, if_neg h2])
  clear hv
  have Hl := Lib.hid (show l'.length = l.length by omega)
  have hq : ((l.length : Int) != (l'.length : Int)) = false := by simp; omega
  clear h1 h2
  go_enter Try.func25, Try.ntmps25
  go_wp2_with fail
  go_loopw [5] (fun s wr => ∃ n q : Nat, n ≤ l.length ∧ s = .int .i64 ((n : Int) - 1) ∧ wr = w.drewN q ∧ cmpTop l l' l.length = cmpTop l l' n) (fun s _ => (intOf s + 1).toNat)
  case atStart => exact ⟨_, 0, Nat.le_refl _, rfl, rfl, rfl⟩
  case round =>
    obtain ⟨n, q, hn, rfl, rfl, ht⟩ := hrel
    have Ht := Lib.hid ht
    clear ht
    rcases n with _ | m
    · go_wp2_with fail
      go_ret
      exact ⟨by rw [Hv.out, Ht.out]; rfl, q, rfl⟩
    · obtain ⟨b, off, x, rfl, hb, hx, Hx⟩ := hr.at_ (i := m) (by omega)
      obtain ⟨b', off', x', rfl, hb', hx', Hx'⟩ := hr'.at_ (i := m) (by have := Hl.out; omega)
      have hm1 : (m : Int) < l.length := by omega
      have hm2 : (m : Int) < l'.length := by have := Hl.out; omega
      rw [show (((m + 1 : Nat) : Int) - 1) = (m : Int) from by omega]
      by_cases h0 : x = x'
      · have Hs := Lib.hid (cmpTop_same l l' m (by rw [← Hx.out, ← Hx'.out, h0]))
        subst h0
        go_wp2_with fail
        go_quiet (fail)
        go_wp2_with fail
        go_roundw
        case rel => exact ⟨m, _, by omega, rfl, rfl, by rw [Ht.out, Hs.out]⟩
        case measure => simp [intOf]
      · have hq2 : ((x : Int) != (x' : Int)) = true := by simp; omega
        by_cases h3 : x < x'
        · have Hs := Lib.hid (cmpTop_less l l' m (by rw [← Hx.out, ← Hx'.out]; exact h3))
          go_wp2_with fail
          go_quiet (fail)
          go_wp2_with fail
          go_quiet (fail)
          go_wp2_with fail
          go_ret
          exact ⟨by rw [Hv.out, Ht.out, Hs.out]; rfl, _, by rw [World.drewN_drewN, World.drewN_drewN]⟩
        · have Hs := Lib.hid (cmpTop_more l l' m (by rw [← Hx.out, ← Hx'.out]; omega))
          go_wp2_with fail
          go_quiet (fail)
          go_wp2_with fail
          go_quiet (fail)
          go_wp2_with fail
          go_ret
          exact ⟨by rw [Hv.out, Ht.out, Hs.out]; rfl, _, by rw [World.drewN_drewN, World.drewN_drewN]⟩

end Go.Proofs.Ytogbeiifnhegiaa
