/-
  The law of powers of sums, walked.
-/
import Derived.Test.YtphfgchfphdcaaaRef13
namespace Go.Proofs.Ytphfgchfphdcaaa
open Go.RowKit
set_option linter.unusedVariables false

/-- Four numbers that read. -/
def Quad (w : World) (A E F M : Option Addr) (ca ce cf cm : Nat) (a e f m : List Nat) (W : World) : Prop :=
  Rd .u32 W W.heap.size A ca a ∧ Rd .u32 W W.heap.size E ce e ∧ Rd .u32 W W.heap.size F cf f ∧ Rd .u32 W W.heap.size M cm m ∧ Below w.heap.size w W
theorem Quad.next {w W W' : World} {A E F M : Option Addr} {ca ce cf cm : Nat} {a e f m : List Nat} (h : Quad w A E F M ca ce cf cm a e f m W) (hb : Below W.heap.size W W') : Quad w A E F M ca ce cf cm a e f m W' :=
  ⟨rd_next h.1 (Nat.le_refl _) hb, rd_next h.2.1 (Nat.le_refl _) hb, rd_next h.2.2.1 (Nat.le_refl _) hb, rd_next h.2.2.2.1 (Nat.le_refl _) hb, h.2.2.2.2.trans (hb.mono h.2.2.2.2.size)⟩
theorem sum_back {a e m : Nat} (hm : 0 < m) : ((a + e) % m % m + (m - e % m)) % m = a % m := by
  have h := sub_back (x := (a + e) % m) (p := e) hm
  rw [Nat.mod_mod] at h ⊢
  have h2 : (((a + e) % m + (m - e % m)) % m + e) % m = (a + e) % m := h
  have h3 := mod_cancel h2
  rwa [Nat.mod_mod] at h3

set_option maxRecDepth 100000 in
set_option maxHeartbeats 2000000 in
theorem law_laws8 (w : World) (A E F M : Option Addr) (ca ce cf cm : Nat) (a e f m : List Nat) (ha : Rd .u32 w w.heap.size A ca a) (he : Rd .u32 w w.heap.size E ce e) (hf : Rd .u32 w w.heap.size F cf f) (hm : Rd .u32 w w.heap.size M cm m) (da : Dg a) (de : Dg e) (df : Dg f) (dm : Dg m) :
    Calls Try.prog 6 #[.slice A a.length ca, .slice E e.length ce, .slice F f.length cf, .slice M m.length cm] w fun e w' => e = .returned (.bool true) ∧ Below w.heap.size w w' := by
  have hT0 : Quad w A E F M ca ce cf cm a e f m w := ⟨ha, he, hf, hm, Below.refl _ _⟩
  have hball := (Below.refl w.heap.size w).alloc (Nat.le_refl _) (.cells #[.slice A a.length ca, .slice M m.length cm] 23)
  have hT := hT0.next hball
  obtain ⟨v, hv, hcall⟩ := such2_any w A M ca cm a m ha hm 20 (by omega)
  have HV := Lib.hid hv
  have HS := Lib.hid hcall
  have k1 := ha.1
  have k2 := he.1
  have k3 := hf.1
  have k4 := hm.1
  have j1 := ha.2.1
  have j2 := he.2.1
  have j3 := hf.2.1
  have j4 := hm.2.1
  clear hball hT0 ha he hf hm hv hcall
  go_enter Try.func6, Try.ntmps6
  go_wp2_with fail
  generalize w.alloc (.cells #[.slice A a.length ca, .slice M m.length cm] 23) = W at *
  refine HS.out.mono ?_
  rintro ee w1 ⟨rfl, rfl⟩
  cases v
  case false =>
    go_wp2_with fail
    go_ret
    exact ⟨rfl, hT.2.2.2.2⟩
  case true =>
  obtain ⟨h1a, h1b, h4a, h4b⟩ := HV.out rfl
  obtain ⟨v, hv, hcall⟩ := such2_any W E F ce cf e f hT.2.1 hT.2.2.1 2 (by omega)
  have HV2 := Lib.hid hv
  have HS2 := Lib.hid hcall
  have hball := (Below.refl W.heap.size W).alloc (Nat.le_refl _) (.cells #[.slice E e.length ce, .slice F f.length cf] 23)
  have hT := hT.next hball
  clear hball hv hcall HS HV
  go_wp2_with fail
  generalize W.alloc (.cells #[.slice E e.length ce, .slice F f.length cf] 23) = W2 at *
  refine HS2.out.mono ?_
  rintro ee w1 ⟨rfl, rfl⟩
  cases v
  case false =>
    go_wp2_with fail
    go_ret
    exact ⟨rfl, hT.2.2.2.2⟩
  case true =>
  obtain ⟨h2a, h2b, h3a, h3b⟩ := HV2.out rfl
  have Hn := Lib.hid (⟨(okN_nrm h1a).2, (okN_nrm h2a).2, (okN_nrm h3a).2, (okN_nrm h4a).2⟩ : nrm a ∧ nrm e ∧ nrm f ∧ nrm m)
  clear h1a h2a h3a h4a HS2 HV2
  by_cases hl0 : m.length = 0
  case pos =>
    have b1 : ((m.length : Int) == 0) = true := by rw [hl0]; rfl
    obtain rfl := List.eq_nil_of_length_eq_zero hl0
    go_wp2_with fail
    go_ret
    exact ⟨rfl, hT.2.2.2.2⟩
  case neg =>
  have b1 : ((m.length : Int) == 0) = false := by rw [beq_eq_false_iff_ne]; omega
  have H0 := Lib.hid (show val m ≠ 0 from fun h => hl0 (nrm_nil dm Hn.out.2.2.2 h))
  have hml : m.length ≤ 1000 := by omega
  have Hlt := Lib.hid (show ∀ (p : List Nat) (v : Nat), NumIs p (v % val m) → p.length ≤ 1000 from fun _ _ h => num_len' h (Nat.lt_of_lt_of_le (Nat.lt_trans (Nat.mod_lt _ (Nat.pos_of_ne_zero H0.out)) (val_lt dm)) (pw_mono hml)))
  go_wp2_with fail
  refine (exp_yes W2 A E M ca ce cm a e m hT.1 hT.2.1 hT.2.2.2.1 da de dm (by omega) (by omega) (by omega) H0.out).mono ?_
  rintro ee w2 h
  obtain ⟨A1, c1, r1, rfl, hn1, hf1, hb⟩ := h.r
  have Hn1 := Lib.hid hn1
  have hl1 := Hlt.out _ _ hn1
  have hT2 := hT.next hb
  clear hT hb h hn1
  go_wp2_with fail
  refine (exp_yes w2 A F M ca cf cm a f m hT2.1 hT2.2.2.1 hT2.2.2.2.1 da df dm (by omega) (by omega) (by omega) H0.out).mono ?_
  rintro ee w3 h
  obtain ⟨A2, c2, r2, rfl, hn2, hf2, hb⟩ := h.r
  have Hn2 := Lib.hid hn2
  have hl2 := Hlt.out _ _ hn2
  have hT3 := hT2.next hb
  have hf1 := rd_next hf1 (Nat.le_refl _) hb
  clear hT2 hb h hn2
  go_wp2_with fail
  refine (add'_any w3 _ _ E F ce cf e f hT3.2.1 hT3.2.2.1 (Nat.le_refl _) (Nat.le_refl _) de df (by omega) (by omega)).mono ?_
  rintro ee w4 ⟨A3, c3, r3, rfl, hn3, hf3, hb⟩
  have Hn3 := Lib.hid hn3
  have hl3 : r3.length ≤ 3 := num_len' hn3 (sum_lt de df (n := 2) h2b h3b)
  have hf3 := hf3.1
  have hT4 := hT3.next hb
  have hf1 := rd_next hf1 (Nat.le_refl _) hb
  have hf2 := rd_next hf2 (Nat.le_refl _) hb
  clear hT3 hb hn3
  go_wp2_with fail
  refine (exp_yes w4 A A3 M ca c3 cm a r3 m hT4.1 hf3 hT4.2.2.2.1 da Hn3.out.1 dm (by omega) (by omega) (by omega) H0.out).mono ?_
  rintro ee w5 h
  obtain ⟨A4, c4, r4, rfl, hn4, hf4, hb⟩ := h.r
  rw [Hn3.out.2.2] at hn4
  have Hn4 := Lib.hid hn4
  have hT5 := hT4.next hb
  have hf1 := rd_next hf1 (Nat.le_refl _) hb
  have hf2 := rd_next hf2 (Nat.le_refl _) hb
  clear hT4 hb h hn4 hf3
  go_wp2_with fail
  refine (mulm_yes w5 A1 A2 M c1 c2 cm r1 r2 m hf1 hf2 hT5.2.2.2.1 Hn1.out.1 Hn2.out.1 dm hl1 hl2 hml H0.out).mono ?_
  rintro ee w6 h
  obtain ⟨A5, c5, r5, rfl, hn5, hf5, hb⟩ := h.r
  have H45 := Lib.hid (show r4 = r5 by
    rw [Hn1.out.2.2, Hn2.out.2.2, ← Nat.mul_mod, ← Nat.pow_add] at hn5
    exact num_one Hn4.out hn5)
  have hT6 := hT5.next hb
  have hf1 := rd_next hf1 (Nat.le_refl _) hb
  have hf4 := rd_next hf4 (Nat.le_refl _) hb
  clear hT5 hb h hn5 hf2
  go_wp2_with fail
  refine (addm_yes w6 A E M ca ce cm a e m hT6.1 hT6.2.1 hT6.2.2.2.1 da de dm (by omega) (by omega) hml H0.out).mono ?_
  rintro ee w7 h
  obtain ⟨A6, c6, r6, rfl, hn6, hf6, hb⟩ := h.r
  have Hn6 := Lib.hid hn6
  have hl6 := Hlt.out _ _ hn6
  have hT7 := hT6.next hb
  have hf1 := rd_next hf1 (Nat.le_refl _) hb
  have hf4 := rd_next hf4 (Nat.le_refl _) hb
  have hf5 := rd_next hf5 (Nat.le_refl _) hb
  clear hT6 hb h hn6
  go_wp2_with fail
  refine (subm_yes w7 A6 E M c6 ce cm r6 e m hf6 hT7.2.1 hT7.2.2.2.1 Hn6.out.1 de dm hl6 (by omega) hml H0.out).mono ?_
  rintro ee w8 h
  obtain ⟨A7, c7, r7, rfl, hn7, hf7, hb⟩ := h.r
  have Hn7 := Lib.hid (show NumIs r7 (val a % val m) by
    rw [Hn6.out.2.2, sum_back (Nat.pos_of_ne_zero H0.out)] at hn7
    exact hn7)
  have hT8 := hT7.next hb
  have hf1 := rd_next hf1 (Nat.le_refl _) hb
  have hf4 := rd_next hf4 (Nat.le_refl _) hb
  have hf5 := rd_next hf5 (Nat.le_refl _) hb
  clear hT7 hb h hn7 hf6
  go_wp2_with fail
  refine (rest'_yes w8 _ _ A M ca cm a m hT8.1 hT8.2.2.2.1 (Nat.le_refl _) (Nat.le_refl _) da dm (by omega) (by omega) H0.out Hn.out.1 Hn.out.2.2.2).mono ?_
  rintro ee w9 ⟨A8, c8, r8, rfl, hn8, hf8, hb⟩
  have H78 := Lib.hid (num_one Hn7.out hn8)
  have hT9 := hT8.next hb
  have hf1 := rd_next hf1 (Nat.le_refl _) hb
  have hf4 := rd_next hf4 (Nat.le_refl _) hb
  have hf5 := rd_next hf5 (Nat.le_refl _) hb
  have hf7 := rd_next hf7 (Nat.le_refl _) hb
  clear hT8 hb hn8
  go_wp2_with fail
  refine (same_both w9 A4 A5 c4 c5 r4 r5 hf4 hf5 H45.out).mono ?_
  rintro ee w10 ⟨rfl, hb⟩
  have hT10 := hT9.next hb
  have hf1 := rd_next hf1 (Nat.le_refl _) hb
  have hf7 := rd_next hf7 (Nat.le_refl _) hb
  have hf8 := rd_next hf8 (Nat.le_refl _) hb
  clear hT9 hb hf4 hf5
  go_wp2_with fail
  refine (same_both w10 A7 A8 c7 c8 r7 r8 hf7 hf8 H78.out).mono ?_
  rintro ee w11 ⟨rfl, hb⟩
  have hT11 := hT10.next hb
  have hf1 := rd_next hf1 (Nat.le_refl _) hb
  clear hT10 hb hf7 hf8
  have Hc := Lib.hid (show cmpL r1 m = -1 by
    rw [cmpL_val Hn1.out.1 dm Hn1.out.2.1 Hn.out.2.2.2, if_pos (by rw [Hn1.out.2.2]; exact Nat.mod_lt _ (Nat.pos_of_ne_zero H0.out))])
  go_wp2_with fail
  refine (cmp'_at w11 _ _ A1 M c1 cm _ _ r1 m rfl rfl hf1 hT11.2.2.2.1 (-1) Hc.out).mono ?_
  rintro ee w12 ⟨rfl, q, rfl⟩
  have hT12 := hT11.next (below_draw w11 q)
  clear hT11 hf1
  generalize w11.drewN q = w12 at *
  go_wp2_with fail
  refine (known8_any w12).mono ?_
  rintro ee w13 ⟨rfl, hb⟩
  have hT13 := hT12.next hb
  go_wp2_with fail
  go_ret
  exact ⟨rfl, hT13.2.2.2.2⟩
end Go.Proofs.Ytphfgchfphdcaaa
