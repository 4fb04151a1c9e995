/-
  The law of powers of two.
-/
import Derived.Test.YteamkobemmocfaaNat19
namespace Go.Proofs.Yteamkobemmocfaa
open Go.RowKit
set_option linter.unusedVariables false

theorem fits_not' (n : Nat) : fits (pow2 n) ((n : Int) / 8) = false := fits_not n
theorem fits_yes' (n : Nat) (h : n ≤ 2000) : fits (pow2 n) ((n : Int) / 8 + 1) = true := fits_yes n h
theorem out_yes' (n : Nat) (h : n ≤ 2000) : out (pow2 n) ((n : Int) / 8 + 1) = bytesOf (pow2 n) (n / 8 + 1) := by
  have h1 : ((n : Int) / 8 + 1) = ((n / 8 + 1 : Nat) : Int) := rfl
  rw [h1, out, if_pos (fits_yes n h), Int.toNat_natCast]
theorem byte_mod (s : Nat) (h : s < 8) : ((2 : Int) ^ s % 256) = ((2 ^ s : Nat) : Int) := by
  have h1 : 2 ^ s < 2 ^ 8 := Nat.pow_lt_pow_right (by omega) h
  have e : ((2 : Int) ^ s) = ((2 ^ s : Nat) : Int) := by rw [Int.natCast_pow]; rfl
  rw [e]
  exact Int.emod_eq_of_lt (Int.natCast_nonneg _) (by omega)
theorem val_one : val [1] = 1 := by simp [val]
theorem one_le (n : Nat) : decide (val [1] ≤ val (pow2 n)) = true := by
  rw [pow2_val, val_one]
  exact decide_eq_true (Nat.pow_pos (by omega))
theorem less_short {r : List Nat} {n : Nat} (hn : n ≤ 2000) (h : NumIs r (2 ^ n - 1)) : r.length ≤ 63 := by
  refine num_len' h (Nat.lt_of_le_of_lt (Nat.sub_le _ _) ?_)
  have h1 := val_lt (pow2_dg n)
  rw [pow2_val] at h1
  exact Nat.lt_of_lt_of_le h1 (pw_mono (by rw [pow2_len]; omega))
theorem pow2_short (n : Nat) (h : n ≤ 2000) : (pow2 n).length ≤ 63 := by rw [pow2_len]; omega

/-- What is known of the digits of a power of two. -/
structure Pow (l : List Nat) (n : Nat) : Prop where
  eq : Hid (l = pow2 n)
  num : NumIs l (2 ^ n)
  short : l.length ≤ 63
theorem pow_of (n : Nat) (hn : n ≤ 2000) : ∃ l, Pow l n := ⟨pow2 n, Lib.hid rfl, pow2_num n, pow2_short n hn⟩
theorem Pow.dg {l : List Nat} {n : Nat} (h : Pow l n) : Dg l := h.num.1
theorem Pow.nr {l : List Nat} {n : Nat} (h : Pow l n) : nrm l := h.num.2.1
theorem Pow.va {l : List Nat} {n : Nat} (h : Pow l n) : val l = 2 ^ n := h.num.2.2
theorem Pow.nbs {l : List Nat} {n : Nat} (h : Pow l n) : nb (trl l) = n + 1 := by rw [trl_id h.nr, h.eq.out, nb_pow2]
theorem Pow.fn {l : List Nat} {n : Nat} (h : Pow l n) : fits l ((n : Int) / 8) = false := by rw [h.eq.out]; exact fits_not' n
theorem Pow.fy {l : List Nat} {n : Nat} (h : Pow l n) (hn : n ≤ 2000) : fits l ((n : Int) / 8 + 1) = true := by rw [h.eq.out]; exact fits_yes' n hn
theorem Pow.oy {l : List Nat} {n : Nat} (h : Pow l n) (hn : n ≤ 2000) : ∃ x, Hid (x = 2 ^ (n % 8)) ∧ ∃ r, r.length = n / 8 ∧ out l ((n : Int) / 8 + 1) = x :: r := by
  rw [h.eq.out, out_yes' n hn]
  have h1 := bytesOf_length (pow2 n) (n / 8 + 1)
  have h2 := top_byte n
  generalize bytesOf (pow2 n) (n / 8 + 1) = L at *
  match L, h1, h2 with
  | x :: r, h1, h2 => exact ⟨x, Lib.hid h2, r, by simpa using h1, rfl⟩
theorem Pow.ok {l : List Nat} {n : Nat} (h : Pow l n) (hn : n ≤ 2000) : okN l = true := by rw [h.eq.out]; exact okN_pow2 n hn
theorem Pow.le {l : List Nat} {n : Nat} (h : Pow l n) : decide (val [1] ≤ val l) = true := by rw [h.eq.out]; exact one_le n
theorem power_at (w : World) (n : Nat) (hn : n ≤ 2000) (z : Int) (hz : z = n) (l : List Nat) (h : Pow l n) :
    Calls Try.prog 28 #[.int .i64 z] w fun e w' => ∃ A c, e = .returned (.slice A l.length c) ∧ Fresh .u32 39 w' w.heap.size A c l ∧ Below w.heap.size w w' := by
  rw [h.eq.out, hz]
  exact power_any w n hn

set_option maxRecDepth 100000 in
set_option maxHeartbeats 1000000 in
theorem powers_yes (w : World) (n m : Nat) (hn : n ≤ 2000) (hm : m ≤ n) :
    Calls Try.prog 8 #[.int .i64 n, .int .i64 m] w fun e w' => e = .returned (.bool true) ∧ Below w.heap.size w w' := by
  have hbel : Below w.heap.size w w := Below.refl _ _
  have Hpd := Lib.hid (pow_div hm)
  obtain ⟨la, pa⟩ := pow_of n hn
  obtain ⟨lb, pb⟩ := pow_of m (by omega)
  obtain ⟨lq, pq⟩ := pow_of (n - m) (by omega)
  have hsa := pa.short
  have hsb := pb.short
  have hsq := pq.short
  obtain ⟨x, Hx, rx, hrx, hox⟩ := pa.oy hn
  have Hox := Lib.hid hox
  clear hox
  go_enter Try.func8, Try.ntmps8
  go_wp2_with fail
  refine (power_at w n hn _ rfl la pa).mono ?_
  rintro e w1 ⟨Aa, ca, rfl, hfa, hba⟩
  have hra := hfa.rd
  have hbel := hbel.trans (hba.mono hbel.size)
  clear hfa hba
  go_wp2_with fail
  refine (power_at w1 m (by omega) _ rfl lb pb).mono ?_
  rintro e w2 ⟨Ab, cb, rfl, hfb, hbb⟩
  have hrb := hfb.rd
  have hra := rd_next hra (Nat.le_refl _) hbb
  have hbel := hbel.trans (hbb.mono hbel.size)
  clear hfb hbb
  go_wp2_with fail
  refine (div_any w2 _ _ Aa Ab ca cb la lb hra hrb (Nat.le_refl _) (Nat.le_refl _) pa.dg pb.dg (by omega) (by omega) (by rw [pb.va]; exact Nat.ne_of_gt (Nat.pow_pos (by omega)))).mono ?_
  rintro e w3 ⟨Aq, cq, q, Ar, cr, r, rfl, hnq, hnr, hfq, hfr, hb1⟩
  have hrq := hfq.rd
  have hra := rd_next hra (Nat.le_refl _) hb1
  have hrb := rd_next hrb (Nat.le_refl _) hb1
  have hbel := hbel.trans (hb1.mono hbel.size)
  clear hfq hfr hb1
  rw [pa.va, pb.va, Hpd.out.1] at hnq
  rw [pa.va, pb.va, Hpd.out.2.1] at hnr
  obtain rfl := num_one num_nil hnr
  obtain rfl := num_one pq.num hnq
  clear hnq hnr
  go_wp2_with fail
  have hT : Row .u32 39 (w3.alloc (.cells #[.int .u32 1] 39)) w3.heap.size [1] := Holds.fresh _ _ _
  have hbT : Below w3.heap.size w3 (w3.alloc (.cells #[.int .u32 1] 39)) := (Below.refl _ _).alloc (Nat.le_refl _) _
  have hra := rd_next hra (Nat.le_refl _) hbT
  have hrb := rd_next hrb (Nat.le_refl _) hbT
  have hrq := rd_next hrq (Nat.le_refl _) hbT
  have hbel := hbel.trans (hbT.mono hbel.size)
  have hr1 := rd_whole (c := 1) hT (by simp) (by omega)
  have hz1 := Holds.lt hT
  clear hT hbT
  generalize w3.alloc (.cells #[.int .u32 1] 39) = w4 at *
  refine (sub_all w4 _ _ Aa _ ca 1 la [1] hra hr1 (Nat.le_refl _) hz1 pa.dg (fun x hx => by simp at hx; omega) (by omega) (by simp) true pa.le).mono ?_
  rintro e w5 ⟨Al, cl, rl, rfl, hnl, hfl, hbl⟩
  have hrl := hfl.rd
  have hra := rd_next hra (Nat.le_refl _) hbl
  have hrb := rd_next hrb (Nat.le_refl _) hbl
  have hrq := rd_next hrq (Nat.le_refl _) hbl
  have hbel := hbel.trans (hbl.mono hbel.size)
  clear hfl hbl
  go_wp2_with fail
  rw [pa.va, val_one] at hnl
  have hll := less_short hn hnl
  clear hr1 hz1
  refine (bytes_all w5 _ Aa ca _ la hra rfl (Nat.le_refl _) pa.dg pa.nr (by omega) ((n : Int) / 8)).mono ?_
  rintro e w6 ⟨Ay, cy, rfl, hfy, hby⟩
  have hry := hfy.rd
  have hra := rd_next hra (Nat.le_refl _) hby
  have hrb := rd_next hrb (Nat.le_refl _) hby
  have hrq := rd_next hrq (Nat.le_refl _) hby
  have hrl := rd_next hrl (Nat.le_refl _) hby
  have hbel := hbel.trans (hby.mono hbel.size)
  clear hfy hby
  rw [pa.fn]
  clear hry
  go_wp2_with fail
  refine (bytes_all w6 _ Aa ca _ la hra rfl (Nat.le_refl _) pa.dg pa.nr (by omega) ((n : Int) / 8 + 1)).mono ?_
  rintro e w7 ⟨AX, cX, rfl, hfX, hbX⟩
  have hrX := hfX.rd
  have hra := rd_next hra (Nat.le_refl _) hbX
  have hrb := rd_next hrb (Nat.le_refl _) hbX
  have hrq := rd_next hrq (Nat.le_refl _) hbX
  have hrl := rd_next hrl (Nat.le_refl _) hbX
  have hbel := hbel.trans (hbX.mono hbel.size)
  clear hfX hbX
  rw [pa.fy hn, Hox.out, List.length_cons, hrx]
  rw [Hox.out] at hrX
  go_wp2_with fail
  refine (bits_any w7 _ Aa ca _ la hra rfl pa.dg (by omega) (n + 1) pa.nbs).mono ?_
  rintro e w8 ⟨rfl, rfl⟩
  go_wp2_with fail
  refine (power_at w7 (n - m) (by omega) _ (by omega) lq pq).mono ?_
  rintro e w9 ⟨Ap, cp, rfl, hfp, hbp⟩
  have hrp := hfp.rd
  have hra := rd_next hra (Nat.le_refl _) hbp
  have hrb := rd_next hrb (Nat.le_refl _) hbp
  have hrq := rd_next hrq (Nat.le_refl _) hbp
  have hrl := rd_next hrl (Nat.le_refl _) hbp
  have hrX := rd_next hrX (Nat.le_refl _) hbp
  have hbel := hbel.trans (hbp.mono hbel.size)
  clear hfp hbp
  go_wp2_with fail
  refine (same_one w9 _ _ Aq Ap cq cp lq hrq hrp).mono ?_
  rintro e w10 ⟨rfl, q10, rfl⟩
  have hra := rd_drawn hra q10
  have hrb := rd_drawn hrb q10
  have hrq := rd_drawn hrq q10
  have hrl := rd_drawn hrl q10
  have hrX := rd_drawn hrX q10
  have hrp := rd_drawn hrp q10
  have hbel := below_drewN hbel q10
  generalize w9.drewN q10 = w10 at *
  go_wp2_with fail
  refine (bits_any w10 _ Al cl _ rl hrl rfl hnl.1 (by omega) n (by rw [trl_id hnl.2.1]; exact nb_less hnl)).mono ?_
  rintro e wz ⟨rfl, rfl⟩
  obtain ⟨bx, ox, x', rfl, hbx, hx, Hx'⟩ := hrX.at_ (i := 0) (by simp)
  obtain rfl : x' = x := Hx'.out
  rw [Nat.add_zero] at hx
  have hxt : ((x' : Int) == (2 : Int) ^ (n % 8) % 256) = true := by rw [byte_mod (n % 8) (by omega), ← Hx.out]; simp
  have hcx : n / 8 + 1 ≤ cX := by have := hrX.1; rw [List.length_cons, hrx] at this; exact this
  have hcx63 : cX ≤ 9223372036854775807 := hrX.2.1
  clear hrX hrl hrp
  go_wp2_with fail
  refine (mul_any w10 _ _ Aq Ab cq cb lq lb hrq hrb (Nat.le_refl _) (Nat.le_refl _) pq.dg pb.dg (by omega) (by omega)).mono ?_
  rintro e w11 ⟨Am, cm, rm, rfl, hnm, hfm, hbm⟩
  have hrm := hfm.rd
  have hra := rd_next hra (Nat.le_refl _) hbm
  have hrb := rd_next hrb (Nat.le_refl _) hbm
  have hrq := rd_next hrq (Nat.le_refl _) hbm
  have hbel := hbel.trans (hbm.mono hbel.size)
  clear hfm hbm
  go_wp2_with fail
  rw [pq.va, pb.va, Hpd.out.2.2] at hnm
  obtain rfl := num_one pa.num hnm
  refine (same_one w11 _ _ Am Aa cm ca la hrm hra).mono ?_
  rintro e w12 ⟨rfl, q12, rfl⟩
  have hra := rd_drawn hra q12
  have hrb := rd_drawn hrb q12
  have hrq := rd_drawn hrq q12
  have hrm := rd_drawn hrm q12
  have hbel := below_drewN hbel q12
  generalize w11.drewN q12 = w12 at *
  go_wp2_with fail
  refine (is'_any w12 _ Aa ca la hra true (pa.ok hn)).mono ?_
  rintro e w13 ⟨rfl, rfl⟩
  go_wp2_with fail
  refine (known_any _).mono ?_
  rintro e w14 ⟨rfl, hbk⟩
  go_wp2_with fail
  go_ret
  exact ⟨rfl, hbel.trans (hbk.mono hbel.size)⟩

set_option maxRecDepth 100000 in
theorem law_powers (w : World) (n m : Int) :
    Calls Try.prog 8 #[.int .i64 n, .int .i64 m] w fun e w' => e = .returned (.bool true) ∧ Below w.heap.size w w' := by
  by_cases h1 : n < 0
  · go_enter Try.func8, Try.ntmps8
    go_wp2_with fail
    go_ret
    exact ⟨rfl, Below.refl _ _⟩
  · by_cases h2 : 2000 < n
    · go_enter Try.func8, Try.ntmps8
      go_wp2_with fail
      go_ret
      exact ⟨rfl, Below.refl _ _⟩
    · by_cases h3 : m < 0
      · go_enter Try.func8, Try.ntmps8
        go_wp2_with fail
        go_ret
        exact ⟨rfl, Below.refl _ _⟩
      · by_cases h4 : n < m
        · go_enter Try.func8, Try.ntmps8
          go_wp2_with fail
          go_ret
          exact ⟨rfl, Below.refl _ _⟩
        · obtain ⟨a, rfl⟩ := Int.eq_ofNat_of_zero_le (show 0 ≤ n by omega)
          obtain ⟨b, rfl⟩ := Int.eq_ofNat_of_zero_le (show 0 ≤ m by omega)
          exact powers_yes w a b (by omega) (by omega)
end Go.Proofs.Yteamkobemmocfaa
