/-
  Taking a number, so many times, from digits in place.
-/
import Derived.Test.YtphfgchfphdcaaaNat8
namespace Go.Proofs.Ytphfgchfphdcaaa
open Go.RowKit
set_option linter.unusedVariables false

set_option maxRecDepth 100000 in
theorem subtract_any (w : World) (g o n c : Nat) (L : List Nat) (hR : Row .u32 31 w g L) (hdL : Dg L) (hon : o + n ≤ L.length) (hnc : n ≤ c) (hc63 : c ≤ 9223372036854775807) (hn5 : n ≤ 5000)
    (A' : Option Addr) (c' B' : Nat) (l' : List Nat) (hr' : ∀ w', w.grownBy w' (some g) → Rd .u32 w' B' A' c' l') (hd' : Dg l') (hl' : l'.length ≤ n) (q : Nat) (hq : q < 4294967296) :
    Calls Try.prog 39 #[.slice (some ⟨g, o, none⟩) n c, .slice A' l'.length c', .int .u64 q] w fun e w' => ∃ (L' : List Nat) (lent : Nat), e = .returned (.int .u32 lent) ∧ lent ≤ q ∧ L'.length = L.length ∧ Dg L' ∧ Row .u32 31 w' g L' ∧ w.grownBy w' (some g) ∧
      val (seg L' o n) + q * val l' = val (seg L o n) + pw n * lent ∧ ∀ j, j < o ∨ o + n ≤ j → L'.getD j 0 = L.getD j 0 := by
  have hr0 := hr' w (World.grownBy.refl w _)
  have hlc' : l'.length ≤ c' := hr0.1
  have hc63' : c' ≤ 9223372036854775807 := hr0.2.1
  go_enter Try.func39, Try.ntmps39
  go_wp2_with fail
  go_loopw [7, 12] (fun sv si wr => ∃ (i v : Nat) (L2 : List Nat), i ≤ n ∧ si = .int .i64 i ∧ sv = .int .u64 v ∧ v ≤ q ∧ L2.length = L.length ∧ Dg L2 ∧ Row .u32 31 wr g L2 ∧ w.grownBy wr (some g) ∧
      Hid (val (seg L2 o i) + q * val (l'.take i) = val (seg L o i) + pw i * v) ∧ Hid (∀ j, j < o ∨ o + i ≤ j → L2.getD j 0 = L.getD j 0))
    (fun _ si _ => n - (intOf si).toNat)
  case atStart => exact ⟨0, 0, L, by omega, rfl, rfl, by omega, rfl, hdL, hR, World.grownBy.refl w _, by show _ = _; simp [seg_zero, val], fun _ _ => rfl⟩
  case round =>
    obtain ⟨i, v, L2, hi, rfl, rfl, hv, hL2, hd2, hR2, hgr, Hval, Hfar⟩ := hrel
    have HL2 := Lib.hid hL2
    clear hL2
    have hfr := hR2.open_
    by_cases h : i < n
    · have hcell := hR2.cell (i := o + i) (by rw [HL2.out]; omega)
      obtain ⟨x, Hx⟩ : ∃ x, Hid (x = L2.getD (o + i) 0) := ⟨_, rfl⟩
      rw [← Hx.out] at hcell
      have hxl : x < 4294967296 := by rw [Hx.out]; exact hd2.at_ _
      by_cases h' : i < l'.length
      · obtain ⟨b', off', y, rfl, hb', hy, Hy⟩ := (hr' _ hgr).at_ h'
        have hyl : y < 4294967296 := by rw [Hy.out]; exact hd'.at_ i
        obtain ⟨t, Ht⟩ : ∃ t, Hid (t = v + q * y) := ⟨_, rfl⟩
        have hqy : q * y ≤ q * 4294967295 := Nat.mul_le_mul_left q (by omega)
        have htl : t < 18446744073709551616 := by rw [Ht.out]; omega
        obtain ⟨p, Hp⟩ : ∃ p, Hid (p = q * y) := ⟨_, rfl⟩
        have hmul : (q : Int) * (y : Int) = (p : Int) := by rw [Hp.out]; push_cast; rfl
        have hsum : (v : Int) + (p : Int) = (t : Int) := by rw [Ht.out, Hp.out]; push_cast; rfl
        have hpl : p ≤ 18446744065119617025 := by rw [Hp.out]; omega
        obtain ⟨d, c2, hdl, hdi, hde, hc2⟩ := digit_out x t hxl
        have Hd := Lib.hid hde
        have Hd2 := Lib.hid hdi
        have Hle := Lib.hid (lent_le hv hyl Ht.out hc2)
        by_cases hlow : x < t % 4294967296
        · have Hc := Lib.hid (show c2 = 1 by rw [hc2, if_pos hlow])
          clear hc2 hde hdi
          go_wp2_with fail
          have hst := hR2.set (o + i) d
          have hp := sub_round (by rw [HL2.out]; omega) Hval.out Hfar.out Hx.out Hy.out Ht.out Hd.out
          rw [Hd2.out] at hst
          exact ⟨⟨i + 1, t / 4294967296 + c2, _, by omega, by go_num, by rw [Hc.out]; go_num, Hle.out, by rw [List.length_set]; exact HL2.out, hd2.set _ _ hdl, hst, one_setCell hgr _ _, hp.1, hp.2⟩, by simp [intOf]; omega⟩
        · have Hc := Lib.hid (show c2 = 0 by rw [hc2, if_neg hlow])
          have Hd2 := Lib.hid (show (d : Int) = (x : Int) - (t : Int) % 4294967296 by omega)
          clear hc2 hde hdi
          go_wp2_with fail
          have hst := hR2.set (o + i) d
          have hp := sub_round (by rw [HL2.out]; omega) Hval.out Hfar.out Hx.out Hy.out Ht.out Hd.out
          rw [Hd2.out] at hst
          exact ⟨⟨i + 1, t / 4294967296 + c2, _, by omega, by go_num, by rw [Hc.out]; go_num, Hle.out, by rw [List.length_set]; exact HL2.out, hd2.set _ _ hdl, hst, one_setCell hgr _ _, hp.1, hp.2⟩, by simp [intOf]; omega⟩
      · have hyz : l'.getD i 0 = 0 := by rw [List.getD, List.getElem?_eq_none (by omega)]; rfl
        have Hy0 := Lib.hid hyz.symm
        clear hyz
        by_cases hv0 : v = 0
        · subst hv0
          have hp := sub_rest (n := n) (Nat.le_of_lt h) (by omega) Hval.out Hfar.out
          have Hp := Lib.hid hp
          clear hp
          go_wp2_with fail
          go_ret
          exact ⟨L2, 0, rfl, by omega, HL2.out, hd2, hR2, hgr, Hp.out.1, Hp.out.2⟩
        · obtain ⟨t, Ht⟩ : ∃ t, Hid (t = v + q * 0) := ⟨_, rfl⟩
          have htv : t = v := by rw [Ht.out]; omega
          have hv1 : ((v : Int) == 0) = false := by simp; omega
          subst htv
          obtain ⟨d, c2, hdl, hdi, hde, hc2⟩ := digit_out x t hxl
          have Hd := Lib.hid hde
          have Hd2 := Lib.hid hdi
          have Hle := Lib.hid (lent_le hv (by omega) Ht.out hc2)
          by_cases hlow : x < t % 4294967296
          · have Hc := Lib.hid (show c2 = 1 by rw [hc2, if_pos hlow])
            clear hc2 hde hdi
            go_wp2_with fail
            have hst := hR2.set (o + i) d
            have hp := sub_round (by rw [HL2.out]; omega) Hval.out Hfar.out Hx.out Hy0.out Ht.out Hd.out
            rw [Hd2.out] at hst
            exact ⟨⟨i + 1, t / 4294967296 + c2, _, by omega, by go_num, by rw [Hc.out]; go_num, Hle.out, by rw [List.length_set]; exact HL2.out, hd2.set _ _ hdl, hst, one_setCell hgr _ _, hp.1, hp.2⟩, by simp [intOf]; omega⟩
          · have Hc := Lib.hid (show c2 = 0 by rw [hc2, if_neg hlow])
            have Hd2 := Lib.hid (show (d : Int) = (x : Int) - (t : Int) by omega)
            clear hc2 hde hdi
            go_wp2_with fail
            have hst := hR2.set (o + i) d
            have hp := sub_round (by rw [HL2.out]; omega) Hval.out Hfar.out Hx.out Hy0.out Ht.out Hd.out
            rw [Hd2.out] at hst
            exact ⟨⟨i + 1, t / 4294967296 + c2, _, by omega, by go_num, by rw [Hc.out]; go_num, Hle.out, by rw [List.length_set]; exact HL2.out, hd2.set _ _ hdl, hst, one_setCell hgr _ _, hp.1, hp.2⟩, by simp [intOf]; omega⟩
    · have hin : i = n := by omega
      have Hv := Lib.hid Hval.out
      have hp : val (seg L2 o n) + q * val l' = val (seg L o n) + pw n * v := by
        have := Hval.out
        rwa [hin, val_take_all l' n hl'] at this
      have hf : ∀ j, j < o ∨ o + n ≤ j → L2.getD j 0 = L.getD j 0 := by rw [← hin]; exact Hfar.out
      have Hp := Lib.hid hp
      have Hf := Lib.hid hf
      clear hp hf hin
      go_wp2_with fail
      go_ret
      exact ⟨L2, v, rfl, hv, HL2.out, hd2, hR2, hgr, Hp.out, Hf.out⟩
end Go.Proofs.Ytphfgchfphdcaaa
