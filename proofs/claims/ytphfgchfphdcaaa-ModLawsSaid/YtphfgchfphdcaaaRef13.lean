/-
  The law of inverses, walked.
-/
import Derived.Test.YtphfgchfphdcaaaRef12
namespace Go.Proofs.Ytphfgchfphdcaaa
open Go.RowKit
set_option linter.unusedVariables false

/-- Two numbers that read. -/
def Duo (w : World) (A A' : Option Addr) (c c' : Nat) (l l' : List Nat) (W : World) : Prop :=
  Rd .u32 W W.heap.size A c l ∧ Rd .u32 W W.heap.size A' c' l' ∧ Below w.heap.size w W
theorem Duo.next {w W W' : World} {A A' : Option Addr} {c c' : Nat} {l l' : List Nat} (h : Duo w A A' c c' l l' W) (hb : Below W.heap.size W W') : Duo w A A' c c' l l' W' :=
  ⟨rd_next h.1 (Nat.le_refl _) hb, rd_next h.2.1 (Nat.le_refl _) hb, h.2.2.trans (hb.mono h.2.2.size)⟩

set_option maxRecDepth 100000 in
set_option maxHeartbeats 2000000 in
theorem law_inverse (w : World) (A A' : Option Addr) (c c' : Nat) (l l' : List Nat) (hr : Rd .u32 w w.heap.size A c l) (hr' : Rd .u32 w w.heap.size A' c' l') (hd : Dg l) (hd' : Dg l') :
    Calls Try.prog 5 #[.slice A l.length c, .slice A' l'.length c'] w fun e w' => e = .returned (.bool true) ∧ Below w.heap.size w w' := by
  have hT0 : Duo w A A' c c' l l' w := ⟨hr, hr', Below.refl _ _⟩
  have hball := (Below.refl w.heap.size w).alloc (Nat.le_refl _) (.cells #[.slice A l.length c, .slice A' l'.length c'] 23)
  have hT := hT0.next hball
  obtain ⟨v, hv, hcall⟩ := such2_any w A A' c c' l l' hr hr' 40 (by omega)
  have HV := Lib.hid hv
  have HS := Lib.hid hcall
  have hlc := hr.1
  have hlc' := hr'.1
  have hc63 := hr.2.1
  have hc63' := hr'.2.1
  clear hball hT0 hr hr' hv hcall
  go_enter Try.func5, Try.ntmps5
  go_wp2_with fail
  generalize w.alloc (.cells #[.slice A l.length c, .slice A' l'.length c'] 23) = W at *
  refine HS.out.mono ?_
  rintro e w1 ⟨rfl, rfl⟩
  cases v
  case false =>
    go_wp2_with fail
    go_ret
    exact ⟨rfl, hT.2.2⟩
  case true =>
  obtain ⟨h1a, h1b, h3a, h3b⟩ := HV.out rfl
  have Hn := Lib.hid (⟨(okN_nrm h1a).2, (okN_nrm h3a).2⟩ : nrm l ∧ nrm l')
  clear h1a h3a HS HV
  by_cases h0 : val l' ≤ 1
  case pos =>
    have H0 := Lib.hid h0
    clear h0
    go_wp2_with fail
    refine (inv_low W A A' c c' l l' hT.1 hT.2.1 hd hd' H0.out).mono ?_
    rintro e w2 ⟨rfl, hb2⟩
    have hT2 := hT.next hb2
    clear hT hb2
    go_wp2_with fail
    refine (inv8_low w2 A A' c c' _ l' hT2.2.1 hd' Hn.out.2 H0.out).mono ?_
    rintro e w3 ⟨rfl, hb3⟩
    have hT3 := hT2.next hb3
    clear hT2 hb3
    go_wp2_with fail
    refine (same_both w3 none none 0 0 [] [] (Rd.nil_ _ _ _) (Rd.nil_ _ _ _) rfl).mono ?_
    rintro e w8 ⟨rfl, hb8⟩
    have hT8 := hT3.next hb8
    clear hT3 hb8
    go_wp2_with fail
    refine (known8_any w8).mono ?_
    rintro e w11 ⟨rfl, hb11⟩
    have hT11 := hT8.next hb11
    go_wp2_with fail
    go_ret
    exact ⟨rfl, hT11.2.2⟩
  case neg =>
  have H0 := Lib.hid (show 1 < val l' by omega)
  have Hne := Lib.hid (show val l' ≠ 0 by omega)
  clear h0
  go_wp2_with fail
  refine (inv_high W A A' c c' l l' hT.1 hT.2.1 hd hd' (by omega) (by omega) Hn.out.2 H0.out).mono ?_
  rintro e w2 (⟨hg, rfl, hb2⟩ | ⟨hg, x, hx, hxm, h⟩)
  case inl =>
    have Hg := Lib.hid hg
    have hT2 := hT.next hb2
    clear hT hb2 hg
    go_wp2_with fail
    refine (inv8_high w2 A A' c c' l l' hT2.1 hT2.2.1 hd hd' (by omega) (by omega) Hn.out.1 Hn.out.2 H0.out).mono ?_
    rintro e w3 (⟨_, rfl, hb3⟩ | ⟨hg, _⟩)
    case inr => exact absurd hg Hg.out
    have hT3 := hT2.next hb3
    clear hT2 hb3
    go_wp2_with fail
    refine (same_both w3 none none 0 0 [] [] (Rd.nil_ _ _ _) (Rd.nil_ _ _ _) rfl).mono ?_
    rintro e w8 ⟨rfl, hb8⟩
    have hT8 := hT3.next hb8
    clear hT3 hb8
    go_wp2_with fail
    refine (known8_any w8).mono ?_
    rintro e w11 ⟨rfl, hb11⟩
    have hT11 := hT8.next hb11
    go_wp2_with fail
    go_ret
    exact ⟨rfl, hT11.2.2⟩
  case inr =>
    obtain ⟨A1, c1, r1, rfl, hn1, hf1, hb2⟩ := h.r
    have Hg := Lib.hid hg
    have Hx := Lib.hid (⟨hx, hxm, hn1⟩ : x < val l' ∧ val l * x % val l' = 1 ∧ NumIs r1 x)
    have hT2 := hT.next hb2
    clear hT hb2 hg h hx hxm hn1
    go_wp2_with fail
    refine (inv8_high w2 A A' c c' l l' hT2.1 hT2.2.1 hd hd' (by omega) (by omega) Hn.out.1 Hn.out.2 H0.out).mono ?_
    rintro e w3 (⟨hg, _⟩ | ⟨_, y, hy, hym, A2, c2, r2, rfl, hn2, hf2, hb3⟩)
    case inl => exact absurd Hg.out hg
    have Hxy := Lib.hid (inv_one Hx.out.1 hy Hx.out.2.1 hym)
    have H12 := Lib.hid (show r1 = r2 from num_one Hx.out.2.2 (by rw [Hxy.out]; exact hn2))
    have hT3 := hT2.next hb3
    have hf1 := rd_next hf1 (Nat.le_refl _) hb3
    have hrl : r1.length ≤ 1000 := num_len' Hx.out.2.2 (Nat.lt_of_lt_of_le (Nat.lt_trans Hx.out.1 (val_lt hd')) (pw_mono (show l'.length ≤ 1000 by omega)))
    clear hT2 hb3 hy hym hn2
    go_wp2_with fail
    refine (same_both w3 A1 A2 c1 c2 r1 r2 hf1 hf2 H12.out).mono ?_
    rintro e w4 ⟨rfl, hb4⟩
    have hT4 := hT3.next hb4
    have hf1 := rd_next hf1 (Nat.le_refl _) hb4
    clear hT3 hb4 hf2
    go_wp2_with fail
    refine (mul8_yes w4 A A1 A' c c1 c' l r1 l' hT4.1 hf1 hT4.2.1 hd Hx.out.2.2.1 hd' (by omega) hrl (by omega) Hne.out Hn.out.2).mono ?_
    rintro e w5 ⟨A3, c3, r3, rfl, hn3, hf3, hb5⟩
    have H3 := Lib.hid (show r3 = [1] by
      rw [Hx.out.2.2.2.2, Hx.out.2.1] at hn3
      exact num_one hn3 num_unit)
    have hT5 := hT4.next hb5
    have hf1 := rd_next hf1 (Nat.le_refl _) hb5
    clear hT4 hb5 hn3
    have hT1 : Row .u32 31 (w5.alloc (.cells #[.int .u32 1] 31)) w5.heap.size [1] := Holds.fresh _ _ _
    have hb6 : Below w5.heap.size w5 (w5.alloc (.cells #[.int .u32 1] 31)) := (Below.refl _ _).alloc (Nat.le_refl _) _
    have hr16 := (rd_whole (c := 1) hT1 (by simp) (by omega)).more (Holds.lt hT1)
    have hf3 := rd_next hf3 (Nat.le_refl _) hb6
    have hf1 := rd_next hf1 (Nat.le_refl _) hb6
    have hT6 := hT5.next hb6
    clear hT1 hb6 hT5
    go_wp2_with fail
    generalize w5.alloc (.cells #[.int .u32 1] 31) = w6 at *
    refine (same_both w6 A3 _ c3 1 r3 [1] hf3 hr16 H3.out).mono ?_
    rintro e w7 ⟨rfl, hb7⟩
    have hT7 := hT6.next hb7
    have hf1 := rd_next hf1 (Nat.le_refl _) hb7
    clear hT6 hb7 hr16 hf3
    have Hc := Lib.hid (show cmpL r1 l' = -1 by
      rw [cmpL_val Hx.out.2.2.1 hd' Hx.out.2.2.2.1 Hn.out.2, if_pos (by rw [Hx.out.2.2.2.2]; exact Hx.out.1)])
    go_wp2_with fail
    refine (cmp'_at w7 _ _ A1 A' c1 c' _ _ r1 l' rfl rfl hf1 hT7.2.1 (-1) Hc.out).mono ?_
    rintro e w8 ⟨rfl, q, rfl⟩
    have hT8 := hT7.next (below_draw w7 q)
    clear hT7 hf1
    generalize w7.drewN q = w8 at *
    go_wp2_with fail
    refine (known8_any w8).mono ?_
    rintro e w11 ⟨rfl, hb11⟩
    have hT11 := hT8.next hb11
    go_wp2_with fail
    go_ret
    exact ⟨rfl, hT11.2.2⟩
end Go.Proofs.Ytphfgchfphdcaaa
