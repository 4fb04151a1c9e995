/-
  Dates: the program's own reckoning of a day's date, and of a date's day.
-/
import Derived.Test.YtjhpibbhkdjeiaaChecked
import Derived.WalkKit
import Derived.WalkSpells
import Derived.WalkLawsBesides
import Derived.Outline
import Derived.Test.YtjhpibbhkdjeiaaCal
import Derived.Test.YtjhpibbhkdjeiaaMem
namespace Go.Proofs.Ytjhpibbhkdjeiaa
open Go.RowKit

theorem ret_int {k : IntKind} {a b : Int} (h : a = b) : Ending.returned (.int k a) = .returned (.int k b) := by rw [h]
theorem ret3 {k : IntKind} {a b c a' b' c' : Int} (h : a = a') (h' : b = b') (h'' : c = c') : Ending.returned (.tuple #[.int k a, .int k b, .int k c]) = .returned (.tuple #[.int k a', .int k b', .int k c']) := by rw [h, h', h'']

def cY (o : Int) : Int := (o - o/1460 + o/36524 - o/146096)/365
def cQ (o : Int) : Int := o - (365*cY o + cY o/4 - cY o/100)
def cM (o : Int) : Int := (5*cQ o+2)/153

theorem civ_split (o : Nat) (h : o < 146097) : ∃ q a b c, a ≤ 3 ∧ b ≤ 24 ∧ c ≤ 3 ∧ q ≤ 365 ∧ (q = 365 → c = 3 ∧ (b = 24 → a = 3)) ∧ o = 36524*a + 1461*b + 365*c + q := by
  obtain ⟨a, r, ha, hr, ho⟩ : ∃ a r, a ≤ 3 ∧ (r ≤ 36523 ∨ r = 36524 ∧ a = 3) ∧ o = 36524*a + r := by
    by_cases h3 : o < 146096
    · exact ⟨o/36524, o%36524, by omega, by omega, by omega⟩
    · exact ⟨3, 36524, by omega, by omega, by omega⟩
  obtain ⟨b, s, hb, hs, hrb⟩ : ∃ b s, b ≤ 24 ∧ s ≤ 1460 ∧ r = 1461*b + s := ⟨r/1461, r%1461, by omega, by omega, by omega⟩
  obtain ⟨c, q, hc, hq, hsc⟩ : ∃ c q, c ≤ 3 ∧ (q ≤ 364 ∨ q = 365 ∧ c = 3) ∧ s = 365*c + q := by
    by_cases h3 : s < 1460
    · exact ⟨s/365, s%365, by omega, by omega, by omega⟩
    · exact ⟨3, 365, by omega, by omega, by omega⟩
  exact ⟨q, a, b, c, ha, hb, hc, by omega, fun e => ⟨by omega, fun e' => by omega⟩, by omega⟩
theorem civ_cast (n : Nat) : ∃ y q m : Nat, (y : Int) = cY ((n : Int) % 146097) ∧ (q : Int) = cQ ((n : Int) % 146097) ∧ (m : Int) = cM ((n : Int) % 146097) ∧ (153*m+2)/5 ≤ q ∧ y ≤ 399 ∧ q ≤ 365 ∧ m ≤ 11 ∧
    civ n = if m < 10 then (400*(n/146097)+y, m+3, q - (153*m+2)/5 + 1) else (400*(n/146097)+y+1, m-9, q - (153*m+2)/5 + 1) := by
  obtain ⟨o, ho⟩ : ∃ o, o = n % 146097 := ⟨_, rfl⟩
  have hol : o < 146097 := by omega
  have hoi : (n : Int) % 146097 = (o : Int) := by omega
  rw [hoi]
  have hy : (((o - o/1460 + o/36524 - o/146096)/365 : Nat) : Int) = cY o := by unfold cY; omega
  obtain ⟨q0, a, b, c, ha, hb, hc, hq0, hl, hoo⟩ := civ_split o hol
  have hcy := civ_y q0 a b c ha hb hc hq0 hl o hoo
  have hyo : 365*((o - o/1460 + o/36524 - o/146096)/365) + (o - o/1460 + o/36524 - o/146096)/365/4 - (o - o/1460 + o/36524 - o/146096)/365/100 = o - q0 := by
    rw [hcy]
    have h1 : (100 * a + 4 * b + c) / 4 = 25*a+b := by omega
    have h2 : (100 * a + 4 * b + c) / 100 = a := by omega
    rw [h1, h2]; omega
  unfold civ
  simp only [← ho]
  generalize (o - o/1460 + o/36524 - o/146096)/365 = y at *
  have hq : ((o - (365*y + y/4 - y/100) : Nat) : Int) = cQ o := by unfold cQ; rw [← hy]; omega
  have hqq : o - (365*y + y/4 - y/100) = q0 := by omega
  rw [hqq] at hq ⊢
  have hm : (((5*q0+2)/153 : Nat) : Int) = cM o := by unfold cM; rw [← hq]; omega
  exact ⟨y, q0, (5*q0+2)/153, hy, hq, hm, by omega, by omega, hq0, by omega, rfl⟩

set_option maxRecDepth 100000 in
theorem civil_any (w : World) (n : Nat) (h1 : n ≤ 4000000) (y m d : Nat) (hc : civ n = (y, m, d)) :
    Calls Try.prog 27 #[.int .i64 n] w fun e w' => e = .returned (.tuple #[.int .i64 y, .int .i64 m, .int .i64 d]) ∧ w = w' := by
  obtain ⟨y', q', m', hy, hq, hm, hmq, hy399, hq365, hm11, hciv⟩ := civ_cast n
  rw [hc] at hciv
  have hQ0 : 0 ≤ cQ ((n : Int) % 146097) := by omega
  have hQ1 : cQ ((n : Int) % 146097) ≤ 365 := by omega
  unfold cQ cY at hQ0 hQ1
  have HY := Lib.hid hy
  have HQ := Lib.hid hq
  have HM := Lib.hid hm
  have HC := Lib.hid hciv
  clear hy hq hm hciv hc
  go_enter Try.func27, Try.ntmps27
  go_wp2_with fail
  · have hlt : cM ((n : Int) % 146097) < 10 := by unfold cM cQ cY; omega
    have h2 := HC.out
    rw [← HM.out] at hlt
    rw [if_pos (by omega)] at h2
    simp only [Prod.mk.injEq] at h2
    obtain ⟨rfl, rfl, rfl⟩ := h2
    go_ret3
    refine ⟨ret3 ?_ ?_ ?_, rfl⟩
    · show 400 * ((n : Int) / 146097) + cY _ = _
      rw [← HY.out]; omega
    · show cM _ + 3 = _
      rw [← HM.out]; omega
    · show cQ _ - (153 * cM _ + 2)/5 + 1 = _
      rw [← HQ.out, ← HM.out]; omega
  · have hlt : 10 ≤ cM ((n : Int) % 146097) := by unfold cM cQ cY; omega
    have h2 := HC.out
    rw [← HM.out] at hlt
    rw [if_neg (by omega)] at h2
    simp only [Prod.mk.injEq] at h2
    obtain ⟨rfl, rfl, rfl⟩ := h2
    go_ret3
    refine ⟨ret3 ?_ ?_ ?_, rfl⟩
    · show 400 * ((n : Int) / 146097) + cY _ + 1 = _
      rw [← HY.out]; omega
    · show cM _ - 9 = _
      rw [← HM.out]; omega
    · show cQ _ - (153 * cM _ + 2)/5 + 1 = _
      rw [← HQ.out, ← HM.out]; omega

/-- A date's day, from the beginning of 1970, as the program reckons it of any numbers. -/
def dayI (y m d : Int) : Int :=
  let Y := if m < 3 then y - 1 else y
  let M := if m < 3 then m + 9 else m - 3
  365*Y + Y/4 - Y/100 + Y/400 + (153*M+2)/5 + d - 1 - 719468
theorem day_num {y m d : Nat} (h : Valid y m d) : dayI y m d = (num y m d : Int) - 719468 := by
  have := h.y1
  have := h.m1
  have := h.d1
  have hY : ∀ Y : Nat, Y/100 ≤ 365*Y := fun Y => by omega
  unfold dayI num
  by_cases hm : m < 3
  · have h3 : (m : Int) < 3 := by omega
    simp only [hm, h3, if_true]
    obtain ⟨Y, rfl⟩ : ∃ Y, y = Y + 1 := ⟨y - 1, by omega⟩
    have := hY Y
    rw [Nat.add_sub_cancel, show ((Y + 1 : Nat) : Int) - 1 = (Y : Int) by omega]
    omega
  · have h3 : ¬ (m : Int) < 3 := by omega
    simp only [hm, h3, if_false]
    have := hY y
    omega

set_option maxRecDepth 100000 in
theorem days_any (w : World) (y m d : Int) (hy0 : 1 ≤ y) (hy : y ≤ 100000) (hm0 : 0 ≤ m) (hm : m ≤ 1000) (hd0 : 0 ≤ d) (hd : d ≤ 1000) (v : Int) (hv : dayI y m d = v) :
    Calls Try.prog 22 #[.int .i64 y, .int .i64 m, .int .i64 d] w fun e w' => e = .returned (.int .i64 v) ∧ w = w' := by
  have HV := Lib.hid hv
  clear hv
  by_cases hm3 : m < 3
  · go_enter Try.func22, Try.ntmps22
    go_wp2_with fail
    go_ret
    refine ⟨ret_int ?_, rfl⟩
    rw [← HV.out]; unfold dayI
    simp only [hm3, if_true]
  · go_enter Try.func22, Try.ntmps22
    go_wp2_with fail
    go_ret
    refine ⟨ret_int ?_, rfl⟩
    rw [← HV.out]; unfold dayI
    have hm4 : ¬ m < 3 := by omega
    simp only [hm4, if_false]

set_option maxRecDepth 100000 in
theorem is_yes (w : World) (t : Int) (h0 : -631152000 ≤ t) (h1 : t ≤ 253402300799) :
    Calls Try.prog 10 #[.int .i64 t] w fun e w' => e = .returned (.bool true) ∧ w = w' := by
  go_enter Try.func10, Try.ntmps10
  go_wp2_with fail
  go_ret
  exact ⟨rfl, rfl⟩
set_option maxRecDepth 100000 in
theorem is_no (w : World) (t : Int) (h : t < -631152000 ∨ 253402300799 < t) :
    Calls Try.prog 10 #[.int .i64 t] w fun e w' => e = .returned (.bool false) ∧ w = w' := by
  rcases h with h | h
  · go_enter Try.func10, Try.ntmps10
    go_wp2_with fail
    go_ret
    exact ⟨rfl, rfl⟩
  · have hd : decide (t ≤ 253402300799) = false := decide_eq_false (by omega)
    go_enter Try.func10, Try.ntmps10
    go_wp2_with fail
    go_ret
    exact ⟨rfl, rfl⟩
set_option maxRecDepth 100000 in
theorem is'_yes (w : World) (t : Int) (h0 : -631152000 ≤ t) (h1 : t ≤ 253402300799) :
    Calls Try.prog 9 #[.int .i64 t] w fun e w' => e = .returned (.bool true) ∧ w = w' := by
  go_enter Try.func9, Try.ntmps9
  go_wp2_with fail
  go_ret
  exact ⟨rfl, rfl⟩
set_option maxRecDepth 100000 in
theorem is'_no (w : World) (t : Int) (h : t < -631152000 ∨ 253402300799 < t) :
    Calls Try.prog 9 #[.int .i64 t] w fun e w' => e = .returned (.bool false) ∧ w = w' := by
  rcases h with h | h
  · go_enter Try.func9, Try.ntmps9
    go_wp2_with fail
    go_ret
    exact ⟨rfl, rfl⟩
  · have hd : decide (t ≤ 253402300799) = false := decide_eq_false (by omega)
    go_enter Try.func9, Try.ntmps9
    go_wp2_with fail
    go_ret
    exact ⟨rfl, rfl⟩

set_option maxRecDepth 100000 in
theorem long_any (w : World) (y : Nat) (hy : y ≤ 100000) (v : Bool) (hv : leap y = v) :
    Calls Try.prog 25 #[.int .i64 y] w fun e w' => e = .returned (.bool v) ∧ w = w' := by
  have HV := Lib.hid hv
  clear hv
  by_cases h4 : y % 4 = 0
  · have b4 : ((y : Int) % 4 == 0) = true := by rw [beq_iff_eq]; omega
    by_cases h1 : y % 100 = 0
    · have b1 : ((y : Int) % 100 != 0) = false := by rw [bne_eq_false_iff_eq]; omega
      by_cases h5 : y % 400 = 0
      · have b5 : ((y : Int) % 400 == 0) = true := by rw [beq_iff_eq]; omega
        have H := Lib.hid (show leap y = true by simp [leap, h4, h1, h5])
        clear h4 h1 h5
        go_enter Try.func25, Try.ntmps25
        go_wp2_with fail
        go_ret
        exact ⟨by rw [← HV.out, H.out]; rfl, rfl⟩
      · have b5 : ((y : Int) % 400 == 0) = false := by rw [beq_eq_false_iff_ne]; omega
        have H := Lib.hid (show leap y = false by simp [leap, h4, h1, h5])
        clear h4 h1 h5
        go_enter Try.func25, Try.ntmps25
        go_wp2_with fail
        go_ret
        exact ⟨by rw [← HV.out, H.out]; rfl, rfl⟩
    · have b1 : ((y : Int) % 100 != 0) = true := by rw [bne_iff_ne]; omega
      have H := Lib.hid (show leap y = true by simp [leap, h4, h1])
      clear h4 h1
      go_enter Try.func25, Try.ntmps25
      go_wp2_with fail
      go_ret
      exact ⟨by rw [← HV.out, H.out]; rfl, rfl⟩
  · have b4 : ((y : Int) % 4 == 0) = false := by rw [beq_eq_false_iff_ne]; omega
    have b5 : ((y : Int) % 400 == 0) = false := by rw [beq_eq_false_iff_ne]; omega
    have H := Lib.hid (show leap y = false by have : y % 400 ≠ 0 := by omega
                                              simp [leap, h4, this])
    clear h4
    go_enter Try.func25, Try.ntmps25
    go_wp2_with fail
    go_ret
    exact ⟨by rw [← HV.out, H.out]; rfl, rfl⟩
end Go.Proofs.Ytjhpibbhkdjeiaa
