/-
  How many digits of two a number has: by nat, and by the document's own reckoning; whether two numbers are one.
-/
import Derived.Test.YtogbeiifnhegiaaNat3
import Derived.Lib.Strings
import Derived.Lib.Slices
import Derived.Lib.Small
import Derived.Lib.Walk
import Derived.Lib.BitFns
import Derived.Lib.ItoaNum
namespace Go.Proofs.Ytogbeiifnhegiaa
open Go.RowKit
set_option linter.unusedVariables false

theorem tab_at (e : Int) (h0 : 0 ≤ e) (h1 : e ≤ 255) (w : World) : (Instr.index 9 (.string Lib.len8tab) (.int .u8 e)).run Try.prog w = .ok (.int .u8 ((Lib.bitLen e.toNat : Nat) : Int)) w := by
  rw [Lib.run_index_len8tab w 9 .u8 e Try.underlying9 h0 h1, Lib.len8_of e h0 h1]

set_option maxRecDepth 100000 in
theorem len32_any (n : Nat) (w : World) (hn : n < 4294967296) : Calls Try.prog 28 #[.int .u32 n] w fun e w' => e = .returned (.int .i64 (Lib.bitLen n : Int)) ∧ w = w' := by
  obtain ⟨x, hx⟩ : ∃ x : Int, x = (n : Int) := ⟨_, rfl⟩
  have e0 : n = x.toNat := by omega
  rw [← hx, e0]
  have h0 : 0 ≤ x := by omega
  have h1 : x ≤ 4294967295 := by omega
  clear e0 hx hn
  by_cases c1 : 65536 ≤ x
  · by_cases c2 : 256 ≤ x / 65536
    · have hix := tab_at (x / 65536 / 256) (by omega) (by omega)
      have hk := Lib.bitLen_le8' (x / 65536 / 256) (by omega) (by omega)
      have hs := Lib.hid (Lib.bitLen_shift24 x.toNat (by omega) (by omega))
      have he : x.toNat / 16777216 = (x / 65536 / 256).toNat := by omega
      rw [he] at hs
      clear he
      generalize Lib.bitLen (x / 65536 / 256).toNat = k at *
      go_enter Try.func28, Try.ntmps28
      go_wp2_with fail
      go_ret
      exact ⟨by rw [hs.out]; exact congrArg Ending.returned (congrArg (Value.int IntKind.i64) (by omega)), rfl⟩
    · have hix := tab_at (x / 65536) (by omega) (by omega)
      have hk := Lib.bitLen_le8' (x / 65536) (by omega) (by omega)
      have hs := Lib.hid (Lib.bitLen_shift16 x.toNat (by omega) (by omega))
      have he : x.toNat / 65536 = (x / 65536).toNat := by omega
      rw [he] at hs
      clear he
      generalize Lib.bitLen (x / 65536).toNat = k at *
      go_enter Try.func28, Try.ntmps28
      go_wp2_with fail
      go_ret
      exact ⟨by rw [hs.out]; exact congrArg Ending.returned (congrArg (Value.int IntKind.i64) (by omega)), rfl⟩
  · by_cases c2 : 256 ≤ x
    · have hix := tab_at (x / 256) (by omega) (by omega)
      have hk := Lib.bitLen_le8' (x / 256) (by omega) (by omega)
      have hs := Lib.hid (Lib.bitLen_shift8 x.toNat (by omega) (by omega))
      have he : x.toNat / 256 = (x / 256).toNat := by omega
      rw [he] at hs
      clear he
      generalize Lib.bitLen (x / 256).toNat = k at *
      go_enter Try.func28, Try.ntmps28
      go_wp2_with fail
      go_ret
      exact ⟨by rw [hs.out]; exact congrArg Ending.returned (congrArg (Value.int IntKind.i64) (by omega)), rfl⟩
    · have hix := tab_at x (by omega) (by omega)
      have hk := Lib.bitLen_le8' x (by omega) (by omega)
      generalize Lib.bitLen x.toNat = k at *
      go_enter Try.func28, Try.ntmps28
      go_wp2_with fail
      go_ret
      exact ⟨congrArg Ending.returned (congrArg (Value.int IntKind.i64) (by omega)), rfl⟩

/-- How many digits of two: of the last digit, and 32 for each below it. -/
def nb (l : List Nat) : Nat := if l.length = 0 then 0 else 32 * (l.length - 1) + Lib.bitLen (l.getD (l.length - 1) 0)
theorem nb_nil {l : List Nat} (h : l.length = 0) : nb l = 0 := by rw [nb, if_pos h]
theorem nb_succ {l : List Nat} {m : Nat} (h : l.length = m + 1) : nb l = 32 * m + Lib.bitLen (l.getD m 0) := by
  rw [nb, if_neg (by omega), h, Nat.add_sub_cancel]

set_option maxRecDepth 100000 in
theorem bits_any (w : World) (B : Nat) (A : Option Addr) (c n : Nat) (l : List Nat) (hr : Rd .u32 w B A c l) (hn : l.length = n) (hd : Dg l) (hs : l.length ≤ 5000) (v : Nat) (hv : nb (trl l) = v) : Calls Try.prog 17 #[.slice A n c] w fun e w' => e = .returned (.int .i64 (v : Int)) ∧ w = w' := by
  have ht : Rd .u32 w B A c (trl l) := hr.cut _
  have hdt := trl_dg hd
  have hlt : (trl l).length ≤ 5000 := by rw [trl_length]; exact Nat.le_trans (tlen_le l _) hs
  go_enter Try.func17, Try.ntmps17
  go_wp2_with fail
  refine (trim_at w B A c n l hr hn).mono ?_
  rintro e w1 ⟨rfl, rfl⟩
  generalize trl l = t at *
  rcases hm : t.length with _ | m
  · have Hv := Lib.hid (show v = 0 by rw [← hv, nb_nil hm])
    clear hv hm hlt
    go_wp2_with fail
    go_ret
    exact ⟨by rw [Hv.out]; rfl, rfl⟩
  · have Hv := Lib.hid (show v = 32 * m + Lib.bitLen (t.getD m 0) by rw [← hv, nb_succ hm])
    obtain ⟨b, off, x, rfl, hb, hx, Hx⟩ := ht.at_ (i := m) (by omega)
    have hxl : x < 4294967296 := by rw [Hx.out]; exact hdt.at_ m
    have hq : ((m : Int) + 1 == 0) = false := by simp; omega
    have hm' : m + 1 ≤ 5000 := by omega
    clear hv hm hlt
    go_wp2_with fail
    refine (len32_any x _ hxl).mono ?_
    rintro e w1 ⟨rfl, rfl⟩
    have hbl := Lib.bitLen_le x 32 (by omega) (by omega)
    rw [← Hx.out] at Hv
    generalize Lib.bitLen x = y at *
    go_wp2_with fail
    go_ret
    exact ⟨by rw [Hv.out]; exact congrArg Ending.returned (congrArg (Value.int IntKind.i64) (by omega)), rfl⟩

set_option maxRecDepth 100000 in
theorem bits'_any (w : World) (B : Nat) (A : Option Addr) (c : Nat) (l : List Nat) (hr : Rd .u32 w B A c l) (hd : Dg l) (hs : l.length ≤ 5000) (v : Nat) (hv : nb l = v) : Calls Try.prog 23 #[.slice A l.length c] w fun e w' => e = .returned (.int .i64 (v : Int)) ∧ w = w' := by
  have hlc : l.length ≤ c := hr.1
  have hc63 : c ≤ 9223372036854775807 := hr.2.1
  have Hv := Lib.hid hv.symm
  clear hv
  go_enter Try.func23, Try.ntmps23
  go_wp2_with fail
  go_loop [3, 4, 5] (fun sn si _ => ∃ i n : Nat, i ≤ l.length ∧ si = .int .i64 i ∧ sn = .int .i64 n ∧ n ≤ 32 * i ∧ Hid ((i < l.length → n = 32 * i) ∧ (i = l.length → n = nb l))) (fun _ si _ => l.length - (intOf si).toNat)
  case atStart => exact ⟨0, 0, by omega, rfl, rfl, by omega, by omega, fun h => (nb_nil h.symm).symm⟩
  case round =>
    obtain ⟨i, n, hi, rfl, rfl, hni, H⟩ := hrel
    by_cases h : i < l.length
    · obtain ⟨b, off, x, rfl, hb, hx, Hx⟩ := hr.at_ h
      have hxl : x < 4294967296 := by rw [Hx.out]; exact hd.at_ i
      obtain rfl : n = 32 * i := H.out.1 h
      have hbl := Lib.bitLen_le x 32 (by omega) (by omega)
      go_wp2_with fail
      go_loop [3, 5] (fun sn sx => ∃ k y : Nat, sx = .int .u32 y ∧ sn = .int .i64 k ∧ y < 4294967296 ∧ Hid (k + Lib.bitLen y = 32 * i + Lib.bitLen x) ∧ k ≤ 32 * i + 32) (fun _ sx => (intOf sx).toNat)
      case atStart => exact ⟨_, x, rfl, by go_num, hxl, rfl, by omega⟩
      case round =>
        obtain ⟨k, y, rfl, rfl, hy, Hk, hk⟩ := hrel
        by_cases h0 : y = 0
        · subst h0
          have Hk' := Lib.hid (show k = 32 * i + Lib.bitLen x from Hk.out)
          by_cases hl : i + 1 < l.length
          · have hl' : (i : Int) < (l.length : Int) - 1 := by omega
            go_wp2_with fail
            go_round
            case rel => exact ⟨i + 1, 32 * (i + 1), by omega, by go_num, by go_num, by omega, fun _ => rfl, fun e => by omega⟩
            case measure => simp [intOf]; omega
          · have hl' : ¬ (i : Int) < (l.length : Int) - 1 := by omega
            have hk3 : k ≤ 32 * (i + 1) := by omega
            have Hn := Lib.hid (show k = nb l by rw [Hk'.out, nb_succ (m := i) (by omega), Hx.out])
            go_wp2_with fail
            go_round
            case rel => exact ⟨i + 1, k, by omega, by go_num, rfl, hk3, fun e => by omega, fun _ => Hn.out⟩
            case measure => simp [intOf]; omega
        · have hh := Lib.bitLen_half y h0 (by omega)
          have Hk2 := Lib.hid (show k + 1 + Lib.bitLen (y / 2) = 32 * i + Lib.bitLen x by have := Hk.out; omega)
          have hk2 : k + 1 ≤ 32 * i + 32 := by have := Hk.out; omega
          clear hh
          go_wp2_with fail
          go_round
          case rel => exact ⟨k + 1, y / 2, by go_num, by go_num, by omega, Hk2, hk2⟩
          case measure => simp [intOf]; omega
    · have Hn := Lib.hid (show v = n by rw [Hv.out]; exact (H.out.2 (by omega)).symm)
      go_wp2_with fail
      go_ret
      exact ⟨by rw [Hn.out]; rfl, rfl⟩

set_option maxRecDepth 100000 in
theorem same_one (w : World) (B B' : Nat) (A A' : Option Addr) (c c' : Nat) (l : List Nat) (hr : Rd .u32 w B A c l) (hr' : Rd .u32 w B' A' c' l) : Calls Try.prog 12 #[.slice A l.length c, .slice A' l.length c'] w fun e w' => e = .returned (.bool true) ∧ ∃ q, w' = w.drewN q := by
  go_enter Try.func12, Try.ntmps12
  go_wp2_with fail
  refine (cmp'_any w B B' A A' c c' l l hr hr' 0 (cmpL_refl l)).mono ?_
  rintro e w1 ⟨rfl, q, rfl⟩
  go_wp2_with fail
  go_ret
  exact ⟨rfl, q, rfl⟩
end Go.Proofs.Ytogbeiifnhegiaa
