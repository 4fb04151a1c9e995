/-
  The law of quotients and rests.
-/
import Derived.Test.YteamkobemmocfaaNat14
import Derived.Test.YteamkobemmocfaaNat17
namespace Go.Proofs.Yteamkobemmocfaa
open Go.RowKit
set_option linter.unusedVariables false

theorem okN_of {l : List Nat} (h : l.length ≤ 256) (hn : nrm l) : okN l = true := by
  unfold okN
  rcases hn with h0 | h0
  · simp [h0]
  · have h1 : ¬ (l.getD (l.length - 1) 0 == 0) = true := by simpa using h0
    simp [h]
    right
    simpa using h0
theorem num_len' {r : List Nat} {n k : Nat} (h : NumIs r n) (hn : n < pw k) : r.length ≤ k := by
  rcases Nat.eq_zero_or_pos r.length with h0 | h0
  · omega
  · have h1 := nrm_low h.2.1 h0
    rw [h.2.2] at h1
    rcases Nat.lt_or_ge (r.length - 1) k with h2 | h2
    · omega
    · have := pw_mono h2
      omega
theorem cmp_less {a b : List Nat} (ha : Dg a) (hb : Dg b) (na : nrm a) (nb : nrm b) (h : val a < val b) : cmpL a b = -1 := by
  rw [cmpL_val ha hb na nb, if_pos h]
/-- The highest digit of a number is read. -/
theorem top_read {w : World} {B : Nat} {A : Option Addr} {c : Nat} {q : List Nat} (hr : Rd .u32 w B A c q) (hn : nrm q) : (q.length = 0) ∨ ∃ m b off x, q.length = m + 1 ∧ A = some ⟨b, off, none⟩ ∧ w.cell? ⟨b, off + m, none⟩ = some (.int .u32 ((x : Nat) : Int)) ∧ ((x : Int) != 0) = true ∧ m < c ∧ c ≤ 9223372036854775807 := by
  rcases hn with h | h
  · exact .inl h
  · rcases hq : q.length with _ | m
    · exact .inl rfl
    · obtain ⟨b, off, x, rfl, hb, hx, Hx⟩ := hr.at_ (i := m) (by omega)
      rw [hq, Nat.add_sub_cancel] at h
      have := hr.1
      exact .inr ⟨m, b, off, x, rfl, rfl, hx, by rw [Hx.out]; simpa using h, by omega, hr.2.1⟩

set_option maxRecDepth 100000 in
theorem divs_not (w : World) (A A' : Option Addr) (c c' : Nat) (l l' : List Nat) (hr : Rd .u32 w w.heap.size A c l) (hr' : Rd .u32 w w.heap.size A' c' l') (h : ¬ (okN l = true ∧ okN l' = true)) :
    Calls Try.prog 5 #[.slice A l.length c, .slice A' l'.length c'] w fun e w' => e = .returned (.bool true) ∧ Below w.heap.size w w' := by
  have hbel : Below w.heap.size w w := Below.refl _ _
  by_cases h1 : okN l = true
  · have h2 : okN l' = false := by
      rcases hb : okN l' with _ | _
      · rfl
      · exact absurd ⟨h1, hb⟩ h
    clear h
    go_enter Try.func5, Try.ntmps5
    go_wp2_with fail
    refine (is'_any w _ A c l hr true h1).mono ?_
    rintro e w1 ⟨rfl, rfl⟩
    go_wp2_with fail
    refine (is'_any w _ A' c' l' hr' false h2).mono ?_
    rintro e w1 ⟨rfl, rfl⟩
    go_wp2_with fail
    go_ret
    exact ⟨rfl, hbel⟩
  · have h2 : okN l = false := by simpa using h1
    clear h h1
    go_enter Try.func5, Try.ntmps5
    go_wp2_with fail
    refine (is'_any w _ A c l hr false h2).mono ?_
    rintro e w1 ⟨rfl, rfl⟩
    go_wp2_with fail
    go_ret
    exact ⟨rfl, hbel⟩

set_option maxRecDepth 100000 in
theorem divs_none (w : World) (A A' : Option Addr) (c c' : Nat) (l l' : List Nat) (hr : Rd .u32 w w.heap.size A c l) (hr' : Rd .u32 w w.heap.size A' c' l') (h1 : okN l = true) (h2 : okN l' = true) (h0 : l'.length = 0) :
    Calls Try.prog 5 #[.slice A l.length c, .slice A' l'.length c'] w fun e w' => e = .returned (.bool true) ∧ Below w.heap.size w w' := by
  have hbel : Below w.heap.size w w := Below.refl _ _
  obtain rfl := List.eq_nil_of_length_eq_zero h0
  go_enter Try.func5, Try.ntmps5
  go_wp2_with fail
  refine (is'_any w _ A c l hr true h1).mono ?_
  rintro e w1 ⟨rfl, rfl⟩
  go_wp2_with fail
  refine (is'_any w _ A' c' [] hr' true h2).mono ?_
  rintro e w1 ⟨rfl, rfl⟩
  go_wp2_with fail
  refine (div_none w _ _ A A' c c' l [] hr hr' rfl).mono ?_
  rintro e w1 ⟨rfl, rfl⟩
  go_wp2_with fail
  refine (known_any _).mono ?_
  rintro e w1 ⟨rfl, hbk⟩
  go_wp2_with fail
  go_ret
  exact ⟨rfl, hbk⟩

set_option maxRecDepth 100000 in
set_option maxHeartbeats 1000000 in
theorem divs_yes (w : World) (A A' : Option Addr) (c c' : Nat) (l l' : List Nat) (hra : Rd .u32 w w.heap.size A c l) (hrb : Rd .u32 w w.heap.size A' c' l') (hd : Dg l) (hd' : Dg l') (h1 : okN l = true) (h2 : okN l' = true) (h0 : 0 < l'.length) :
    Calls Try.prog 5 #[.slice A l.length c, .slice A' l'.length c'] w fun e w' => e = .returned (.bool true) ∧ Below w.heap.size w w' := by
  have hbel : Below w.heap.size w w := Below.refl _ _
  have hna := (okN_nrm h1).2
  have hnb := (okN_nrm h2).2
  have hLa := (okN_nrm h1).1
  have hLb := (okN_nrm h2).1
  have hv0 : val l' ≠ 0 := by
    have h3 := nrm_low hnb h0
    have := pw_pos (l'.length - 1)
    omega
  have hlb : ((l'.length : Int) == 0) = false := by rw [beq_eq_false_iff_ne]; omega
  go_enter Try.func5, Try.ntmps5
  go_wp2_with fail
  refine (is'_any w _ A c l hra true h1).mono ?_
  rintro e w1 ⟨rfl, rfl⟩
  go_wp2_with fail
  refine (is'_any w _ A' c' l' hrb true h2).mono ?_
  rintro e w2 ⟨rfl, rfl⟩
  go_wp2_with fail
  refine (div_any w _ _ A A' c c' l l' hra hrb (Nat.le_refl _) (Nat.le_refl _) hd hd' (by omega) (by omega) hv0).mono ?_
  rintro e w3 ⟨Aq, cq, q, Ar, cr, r, rfl, hnq, hnr, hfq, hfr, hb1⟩
  have hrq := hfq.rd
  have hrr := hfr.rd
  have hra := rd_next hra (Nat.le_refl _) hb1
  have hrb := rd_next hrb (Nat.le_refl _) hb1
  have hbel := hbel.trans hb1
  clear hfq hfr hb1
  have hlq : q.length ≤ 256 := num_len' hnq (Nat.lt_of_le_of_lt (Nat.div_le_self _ _) (Nat.lt_of_lt_of_le (val_lt hd) (pw_mono hLa)))
  have hlr : r.length ≤ 256 := num_len' hnr (Nat.lt_of_le_of_lt (Nat.mod_le _ _) (Nat.lt_of_lt_of_le (val_lt hd) (pw_mono hLa)))
  have Hcm := Lib.hid (cmp_less hnr.1 hd' hnr.2.1 hnb (by rw [hnr.2.2]; exact Nat.mod_lt _ (Nat.pos_of_ne_zero hv0)))
  go_wp2_with fail
  refine (cmp'_any w3 _ _ Ar A' cr c' r l' hrr hrb (-1) Hcm.out).mono ?_
  rintro e w4 ⟨rfl, q4, rfl⟩
  have hra := rd_drawn hra q4
  have hrb := rd_drawn hrb q4
  have hrq := rd_drawn hrq q4
  have hrr := rd_drawn hrr q4
  have hbel := below_drewN hbel q4
  generalize w3.drewN q4 = w4 at *
  go_wp2_with fail
  refine (mul'_any w4 _ _ Aq A' cq c' q l' hrq hrb (Nat.le_refl _) (Nat.le_refl _) hnq.1 hd' (by omega) (by omega)).mono ?_
  rintro e w5 ⟨Am, cm, rm, rfl, hnm, hfm, hbm⟩
  have hrm := hfm.rd
  have hra := rd_next hra (Nat.le_refl _) hbm
  have hrb := rd_next hrb (Nat.le_refl _) hbm
  have hrq := rd_next hrq (Nat.le_refl _) hbm
  have hrr := rd_next hrr (Nat.le_refl _) hbm
  have hbel := hbel.trans (hbm.mono hbel.size)
  clear hfm hbm
  go_wp2_with fail
  have hlm : rm.length ≤ 512 := num_len' hnm (by rw [hnq.2.2]; exact Nat.lt_of_le_of_lt (Nat.div_mul_le_self _ _) (Nat.lt_of_lt_of_le (val_lt hd) (pw_mono (by omega))))
  refine (add'_any w5 _ _ Am Ar cm cr rm r hrm hrr (Nat.le_refl _) (Nat.le_refl _) hnm.1 hnr.1 (by omega) (by omega)).mono ?_
  rintro e w6 ⟨As, cs, rs, rfl, hns, hfs, hbs⟩
  have hrs := hfs.rd
  have hra := rd_next hra (Nat.le_refl _) hbs
  have hrb := rd_next hrb (Nat.le_refl _) hbs
  have hrq := rd_next hrq (Nat.le_refl _) hbs
  have hrr := rd_next hrr (Nat.le_refl _) hbs
  have hrm := rd_next hrm (Nat.le_refl _) hbs
  have hbel := hbel.trans (hbs.mono hbel.size)
  clear hfs hbs
  go_wp2_with fail
  have hns2 : NumIs rs (val l) := by
    have h3 : val rm + val r = val l := by rw [hnm.2.2, hnq.2.2, hnr.2.2, Nat.mul_comm]; exact Nat.div_add_mod _ _
    rw [h3] at hns
    exact hns
  have hnl : NumIs l (val l) := ⟨hd, hna, rfl⟩
  obtain rfl := num_one hnl hns2
  clear hns hns2
  refine (same_one w6 _ _ As A cs c l hrs hra).mono ?_
  rintro e w7 ⟨rfl, q7, rfl⟩
  have hra := rd_drawn hra q7
  have hrb := rd_drawn hrb q7
  have hrq := rd_drawn hrq q7
  have hrr := rd_drawn hrr q7
  have hrm := rd_drawn hrm q7
  have hrs := rd_drawn hrs q7
  have hbel := below_drewN hbel q7
  generalize w6.drewN q7 = w7 at *
  clear hrs hrm hra hrb
  rcases top_read hrq hnq.2.1 with hq | ⟨m, bq, oq, x, hq, rfl, hxq, hxq0, hmq, hcq⟩
  · rcases top_read hrr hnr.2.1 with hr | ⟨m', br, or, x', hr, rfl, hxr, hxr0, hmr, hcr⟩
    · rw [hq, hr]
      clear hq hr
      go_wp2_with fail
      refine (known_any _).mono ?_
      rintro e wk ⟨rfl, hbk⟩
      go_wp2_with fail
      go_ret
      exact ⟨rfl, hbel.trans (hbk.mono hbel.size)⟩
    · rw [hq, hr]
      clear hq hr
      go_wp2_with fail
      refine (known_any _).mono ?_
      rintro e wk ⟨rfl, hbk⟩
      go_wp2_with fail
      go_ret
      exact ⟨rfl, hbel.trans (hbk.mono hbel.size)⟩
  · rcases top_read hrr hnr.2.1 with hr | ⟨m', br, or, x', hr, rfl, hxr, hxr0, hmr, hcr⟩
    · rw [hq, hr]
      clear hq hr
      go_wp2_with fail
      refine (known_any _).mono ?_
      rintro e wk ⟨rfl, hbk⟩
      go_wp2_with fail
      go_ret
      exact ⟨rfl, hbel.trans (hbk.mono hbel.size)⟩
    · rw [hq, hr]
      clear hq hr
      go_wp2_with fail
      refine (known_any _).mono ?_
      rintro e wk ⟨rfl, hbk⟩
      go_wp2_with fail
      go_ret
      exact ⟨rfl, hbel.trans (hbk.mono hbel.size)⟩

theorem law_divs (w : World) (A A' : Option Addr) (c c' : Nat) (l l' : List Nat) (hr : Rd .u32 w w.heap.size A c l) (hr' : Rd .u32 w w.heap.size A' c' l') (hd : Dg l) (hd' : Dg l') :
    Calls Try.prog 5 #[.slice A l.length c, .slice A' l'.length c'] w fun e w' => e = .returned (.bool true) ∧ Below w.heap.size w w' := by
  by_cases h : okN l = true ∧ okN l' = true
  · rcases Nat.eq_zero_or_pos l'.length with h0 | h0
    · exact divs_none w A A' c c' l l' hr hr' h.1 h.2 h0
    · exact divs_yes w A A' c c' l l' hr hr' hd hd' h.1 h.2 h0
  · exact divs_not w A A' c c' l l' hr hr' h
end Go.Proofs.Yteamkobemmocfaa
