/-
  What nat and the document's own reckoning do with the noughts at a number's end, and what is a number.
-/
import Derived.Test.YtogbeiifnhegiaaChecked
import Derived.WalkKit
import Derived.WalkSpells
import Derived.WalkLawsBesides
import Derived.IntWalk
import Derived.Outline
import Derived.Test.YtogbeiifnhegiaaRead
namespace Go.Proofs.Ytogbeiifnhegiaa
open Go.RowKit

set_option maxRecDepth 100000 in
theorem trim_any (w : World) (B : Nat) (A : Option Addr) (c : Nat) (l : List Nat) (hr : Rd .u32 w B A c l) : Calls Try.prog 27 #[.slice A l.length c] w fun e w' => e = .returned (.slice A (tlen l l.length) c) ∧ w = w' := by
  obtain ⟨n0, hn0⟩ : ∃ n, n = l.length := ⟨_, rfl⟩
  have hlc : l.length ≤ c := hr.1
  have hc63 : c ≤ 9223372036854775807 := hr.2.1
  go_enter Try.func27, Try.ntmps27
  go_wp2_with fail
  go_loop [0] (fun s => ∃ n : Nat, n ≤ l.length ∧ s = .slice A n c ∧ tlen l l.length = tlen l n) (fun s => match s with | .slice _ n _ => n | _ => 0)
  case atStart => exact ⟨_, Nat.le_refl _, rfl, rfl⟩
  case round =>
    obtain ⟨n, hn, rfl, ht⟩ := hrel
    have Ht := Lib.hid ht
    clear ht
    rcases n with _ | m
    · go_wp2_with fail
      go_ret
      exact ⟨by rw [Ht.out]; rfl, rfl⟩
    · obtain ⟨b, off, x, rfl, hb, hx, Hx⟩ := hr.at_ (i := m) (by omega)
      by_cases h0 : x = 0
      · have Hs := Lib.hid (tlen_drop l m (by rw [← Hx.out, h0]))
        subst h0
        go_wp2_with fail
        go_round
        case rel => exact ⟨m, by omega, rfl, by rw [Ht.out, Hs.out]⟩
        case measure => simp
      · have Hs := Lib.hid (tlen_stay l m (by rw [← Hx.out]; exact h0))
        have hq : ((x : Int) == 0) = false := by simp; omega
        clear h0
        go_wp2_with fail
        go_ret
        exact ⟨by rw [Ht.out, Hs.out]; rfl, rfl⟩
set_option maxRecDepth 100000 in
theorem trim'_any (w : World) (B : Nat) (A : Option Addr) (c : Nat) (l : List Nat) (hr : Rd .u32 w B A c l) : Calls Try.prog 26 #[.slice A l.length c] w fun e w' => e = .returned (.slice A (tlen l l.length) c) ∧ w = w' := by
  obtain ⟨n0, hn0⟩ : ∃ n, n = l.length := ⟨_, rfl⟩
  have hlc : l.length ≤ c := hr.1
  have hc63 : c ≤ 9223372036854775807 := hr.2.1
  go_enter Try.func26, Try.ntmps26
  go_wp2_with fail
  go_loop [0] (fun s => ∃ n : Nat, n ≤ l.length ∧ s = .slice A n c ∧ tlen l l.length = tlen l n) (fun s => match s with | .slice _ n _ => n | _ => 0)
  case atStart => exact ⟨_, Nat.le_refl _, rfl, rfl⟩
  case round =>
    obtain ⟨n, hn, rfl, ht⟩ := hrel
    have Ht := Lib.hid ht
    clear ht
    rcases n with _ | m
    · go_wp2_with fail
      go_ret
      exact ⟨by rw [Ht.out]; rfl, rfl⟩
    · obtain ⟨b, off, x, rfl, hb, hx, Hx⟩ := hr.at_ (i := m) (by omega)
      by_cases h0 : x = 0
      · have Hs := Lib.hid (tlen_drop l m (by rw [← Hx.out, h0]))
        subst h0
        go_wp2_with fail
        go_round
        case rel => exact ⟨m, by omega, rfl, by rw [Ht.out, Hs.out]⟩
        case measure => simp
      · have Hs := Lib.hid (tlen_stay l m (by rw [← Hx.out]; exact h0))
        have hq : ((x : Int) == 0) = false := by simp; omega
        clear h0
        go_wp2_with fail
        go_ret
        exact ⟨by rw [Ht.out, Hs.out]; rfl, rfl⟩
set_option maxRecDepth 100000 in
theorem is_any (w : World) (B : Nat) (A : Option Addr) (c : Nat) (l : List Nat) (hr : Rd .u32 w B A c l) (v : Bool) (hv : okN l = v) : Calls Try.prog 15 #[.slice A l.length c] w fun e w' => e = .returned (.bool v) ∧ w = w' := by
  have hlc : l.length ≤ c := hr.1
  have hc63 : c ≤ 9223372036854775807 := hr.2.1
  by_cases h1 : l.length ≤ 256
  · rcases hl : l.length with _ | m
    · have Hv := Lib.hid (show v = true by rw [← hv]; simp [okN, hl])
      clear hv hl
      go_enter Try.func15, Try.ntmps15
      go_wp2_with fail
      go_ret
      exact ⟨by rw [Hv.out]; rfl, rfl⟩
    · obtain ⟨b, off, x, rfl, hb, hx, Hx⟩ := hr.at_ (i := m) (by omega)
      have h1' : m + 1 ≤ 256 := by omega
      have h1'' : decide ((m : Int) + 1 ≤ 256) = true := by simp; omega
      have h2' : ((m : Int) + 1 == 0) = false := by simp; omega
      have Hv := Lib.hid (show v = !(x == 0) by rw [← hv, Hx.out]; simp [okN, hl]; omega)
      clear hv hl h1
      by_cases h0 : x = 0
      · subst h0
        go_enter Try.func15, Try.ntmps15
        go_wp2_with fail
        go_ret
        exact ⟨by rw [Hv.out]; rfl, rfl⟩
      · have hq : ((x : Int) != 0) = true := by simp; omega
        go_enter Try.func15, Try.ntmps15
        go_wp2_with fail
        go_ret
        exact ⟨by rw [Hv.out]; simp [h0], rfl⟩
  · have Hv := Lib.hid (show v = false by rw [← hv]; simp [okN, h1])
    have h1' : decide ((l.length : Int) ≤ 256) = false := by simp; omega
    clear hv
    go_enter Try.func15, Try.ntmps15
    go_wp2_with fail
    go_ret
    exact ⟨by rw [Hv.out]; rfl, rfl⟩
set_option maxRecDepth 100000 in
theorem is'_any (w : World) (B : Nat) (A : Option Addr) (c : Nat) (l : List Nat) (hr : Rd .u32 w B A c l) (v : Bool) (hv : okN l = v) : Calls Try.prog 4 #[.slice A l.length c] w fun e w' => e = .returned (.bool v) ∧ w = w' := by
  have hlc : l.length ≤ c := hr.1
  have hc63 : c ≤ 9223372036854775807 := hr.2.1
  by_cases h1 : l.length ≤ 256
  · rcases hl : l.length with _ | m
    · have Hv := Lib.hid (show v = true by rw [← hv]; simp [okN, hl])
      clear hv hl
      go_enter Try.func4, Try.ntmps4
      go_wp2_with fail
      go_ret
      exact ⟨by rw [Hv.out]; rfl, rfl⟩
    · obtain ⟨b, off, x, rfl, hb, hx, Hx⟩ := hr.at_ (i := m) (by omega)
      have h1' : m + 1 ≤ 256 := by omega
      have h1'' : decide ((m : Int) + 1 ≤ 256) = true := by simp; omega
      have h2' : ((m : Int) + 1 == 0) = false := by simp; omega
      have Hv := Lib.hid (show v = !(x == 0) by rw [← hv, Hx.out]; simp [okN, hl]; omega)
      clear hv hl h1
      by_cases h0 : x = 0
      · subst h0
        go_enter Try.func4, Try.ntmps4
        go_wp2_with fail
        go_ret
        exact ⟨by rw [Hv.out]; rfl, rfl⟩
      · have hq : ((x : Int) != 0) = true := by simp; omega
        go_enter Try.func4, Try.ntmps4
        go_wp2_with fail
        go_ret
        exact ⟨by rw [Hv.out]; simp [h0], rfl⟩
  · have Hv := Lib.hid (show v = false by rw [← hv]; simp [okN, h1])
    have h1' : decide ((l.length : Int) ≤ 256) = false := by simp; omega
    clear hv
    go_enter Try.func4, Try.ntmps4
    go_wp2_with fail
    go_ret
    exact ⟨by rw [Hv.out]; rfl, rfl⟩
theorem trim_at (w : World) (B : Nat) (A : Option Addr) (c n : Nat) (l : List Nat) (hr : Rd .u32 w B A c l) (hn : l.length = n) : Calls Try.prog 27 #[.slice A n c] w fun e w' => e = .returned (.slice A (trl l).length c) ∧ w = w' := by
  subst hn
  rw [trl_length]
  exact trim_any w B A c l hr
theorem trim'_at (w : World) (B : Nat) (A : Option Addr) (c n : Nat) (l : List Nat) (hr : Rd .u32 w B A c l) (hn : l.length = n) : Calls Try.prog 26 #[.slice A n c] w fun e w' => e = .returned (.slice A (trl l).length c) ∧ w = w' := by
  subst hn
  rw [trl_length]
  exact trim'_any w B A c l hr
end Go.Proofs.Ytogbeiifnhegiaa
