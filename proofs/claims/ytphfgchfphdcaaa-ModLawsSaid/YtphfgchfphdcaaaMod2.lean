/-
  Powers that go round.
-/
import Derived.Test.YtphfgchfphdcaaaMod1
import Derived.Test.YtphfgchfphdcaaaPure4
namespace Go.Proofs.Ytphfgchfphdcaaa
open Go.RowKit
set_option linter.unusedVariables false

/-- A digit of two of a number. -/
theorem bit_at {l : List Nat} (hd : Dg l) (i : Nat) : l.getD (i / 32) 0 / 2 ^ (i % 32) % 2 = val l / 2 ^ i % 2 := by
  have h1 := val_split l (i / 32)
  have hlow : val (l.take (i / 32)) < pw (i / 32) := by
    have := val_lt (hd.take (i / 32))
    exact Nat.lt_of_lt_of_le this (pw_mono (by rw [List.length_take]; exact Nat.min_le_left _ _))
  have e : pw (i / 32) = 2 ^ (32 * (i / 32)) := by unfold pw; rw [Nat.pow_mul]
  have hi : 2 ^ i = 2 ^ (32 * (i / 32)) * 2 ^ (i % 32) := by rw [← Nat.pow_add]; congr 1; omega
  have h2 : val l / 2 ^ i = val (l.drop (i / 32)) / 2 ^ (i % 32) := by
    rw [hi, ← Nat.div_div_eq_div_mul, ← e, h1, Nat.add_mul_div_left _ _ (pw_pos _), Nat.div_eq_of_lt hlow, Nat.zero_add]
  rw [h2]
  have hs : i % 32 < 32 := Nat.mod_lt _ (by omega)
  generalize i % 32 = s at *
  rcases Nat.lt_or_ge (i / 32) l.length with h | h
  · rw [val_drop l h]
    generalize l.getD (i / 32) 0 = x
    generalize val (l.drop (i / 32 + 1)) = R
    have e2 : 4294967296 = 2 ^ s * (2 * 2 ^ (31 - s)) := by
      rw [← Nat.pow_succ', ← Nat.pow_add]
      have : s + (31 - s + 1) = 32 := by omega
      rw [show s + (31 - s).succ = 32 by omega]
    rw [e2, Nat.mul_assoc, Nat.add_mul_div_left _ _ (Nat.pow_pos (by omega)), Nat.mul_assoc, Nat.add_mul_mod_self_left]
  · rw [val_drop_all l h, List.getD, List.getElem?_eq_none h]
    simp
theorem pow_step (a E i m : Nat) (b : Nat) (hb : E / 2 ^ i % 2 = b) : E / 2 ^ i = 2 * (E / 2 ^ (i + 1)) + b := by
  have h : E / 2 ^ (i + 1) = E / 2 ^ i / 2 := by rw [Nat.pow_succ, Nat.div_div_eq_div_mul]
  rw [h]
  omega
theorem sq_mod (a k m : Nat) : (a ^ k % m) * (a ^ k % m) % m = a ^ (2 * k) % m := by
  rw [← Nat.mul_mod, ← Nat.pow_add]
  congr 2
  omega
theorem mul_mod_base (a k m : Nat) : (a ^ k % m) * (a % m) % m = a ^ (k + 1) % m := by
  rw [← Nat.mul_mod, ← Nat.pow_succ]
theorem val_top {l : List Nat} (hd : Dg l) : val l / 2 ^ nb (trl l) = 0 := by
  have hn : NumIs (trl l) (val l) := num_trl hd rfl
  rcases Nat.eq_zero_or_pos (val l) with h | h
  · rw [h]; exact Nat.zero_div _
  · exact Nat.div_eq_of_lt (nb_bounds hn (by omega)).2.1

theorem and_one (x s : Nat) (hx : x < 4294967296) : bits .and .u32 ((x : Int) / 2 ^ s) 1 = ((x / 2 ^ s % 2 : Nat) : Int) := by
  have h1 : x / 2 ^ s ≤ x := Nat.div_le_self _ _
  have h := u32_and_nat (x / 2 ^ s) 1 (by omega) (by omega)
  rw [Nat.and_one_is_mod] at h
  rw [← h, Int.natCast_ediv, Int.natCast_pow]
  rfl
theorem nb_le {l : List Nat} (hd : Dg l) : nb l ≤ 32 * l.length := by
  rcases hm : l.length with _ | m
  · rw [List.eq_nil_of_length_eq_zero hm]
    exact Nat.le_refl _
  · rw [nb_succ hm]
    have := Lib.bitLen_le (l.getD m 0) 32 (by omega) (hd.at_ m)
    omega
theorem nb_trl_le {l : List Nat} (hd : Dg l) : nb (trl l) ≤ 32 * l.length := by
  have h1 := nb_le (trl_dg hd)
  have h2 : (trl l).length ≤ l.length := by rw [trl_length]; exact tlen_le _ _
  omega

set_option maxRecDepth 100000 in
theorem exp_yes (w : World) (A A' A'' : Option Addr) (c c' c'' : Nat) (l l' l'' : List Nat) (hr : Rd .u32 w w.heap.size A c l) (hr' : Rd .u32 w w.heap.size A' c' l') (hr'' : Rd .u32 w w.heap.size A'' c'' l'') (hd : Dg l) (hd' : Dg l') (hd'' : Dg l'') (hs : l.length ≤ 1000) (hs' : l'.length ≤ 1000) (hs'' : l''.length ≤ 1000) (h0 : val l'' ≠ 0) :
    Calls Try.prog 17 #[.slice A l.length c, .slice A' l'.length c', .slice A'' l''.length c''] w (Left w (val l ^ val l' % val l'')) := by
  go_enter Try.func17, Try.ntmps17
  go_wp2_with fail
  refine (left_yes w _ _ A A'' c c'' l l'' hr hr'' (Nat.le_refl _) (Nat.le_refl _) hd hd'' (by omega) (by omega) h0).mono ?_
  rintro e w1 ⟨Ab, cb, rb, rfl, hnb, hfb, hb1⟩
  have hlb : rb.length ≤ 1000 := num_len' hnb (Nat.lt_of_lt_of_le (Nat.lt_trans (Nat.mod_lt _ (Nat.pos_of_ne_zero h0)) (val_lt hd'')) (pw_mono hs''))
  have hrb := hfb.rd
  have hre := rd_next hr' (Nat.le_refl _) hb1
  have hrm := rd_next hr'' (Nat.le_refl _) hb1
  clear hfb hr hr' hr''
  go_wp2_with fail
  have hT : Row .u32 31 (w1.alloc (.cells #[.int .u32 1] 31)) w1.heap.size [1] := Holds.fresh _ _ _
  have hbT : Below w1.heap.size w1 (w1.alloc (.cells #[.int .u32 1] 31)) := (Below.refl _ _).alloc (Nat.le_refl _) _
  have hrb := rd_next hrb (Nat.le_refl _) hbT
  have hre := rd_next hre (Nat.le_refl _) hbT
  have hrm := rd_next hrm (Nat.le_refl _) hbT
  have hb2 := hb1.trans (hbT.mono hb1.size)
  have hr1 := rd_whole (c := 1) hT (by simp) (by omega)
  have hz1 := Holds.lt hT
  clear hT hbT hb1
  generalize w1.alloc (.cells #[.int .u32 1] 31) = w2 at *
  refine (left_yes w2 _ _ _ A'' 1 c'' [1] l'' hr1 hrm hz1 (Nat.le_refl _) (fun x hx => by simp at hx; omega) hd'' (by simp) (by omega) h0).mono ?_
  rintro e w3 ⟨Ap, cp, rp, rfl, hnp, hfp, hb3⟩
  have hrb := rd_next hrb (Nat.le_refl _) hb3
  have hre := rd_next hre (Nat.le_refl _) hb3
  have hrm := rd_next hrm (Nat.le_refl _) hb3
  have hb4 := hb2.trans (hb3.mono hb2.size)
  have hfp := hfp.more hb2.size
  clear hr1 hz1 hb3 hb2
  go_wp2_with fail
  refine (bits_any w3 _ A' c' _ l' hre rfl hd' (by omega) _ rfl).mono ?_
  rintro e w4 ⟨rfl, rfl⟩
  have Htop := Lib.hid (val_top hd')
  have hnb64 : nb (trl l') ≤ 32 * l'.length := nb_trl_le hd'
  obtain ⟨N, HN⟩ : ∃ N, Hid (N = nb (trl l')) := ⟨_, rfl⟩
  rw [← HN.out] at Htop hnb64 ⊢
  have hv1 : val [1] % val l'' = val l ^ (val l' / 2 ^ N) % val l'' := by
    rw [Htop.out, Nat.pow_zero]
    simp [val]
  rw [hv1] at hnp
  have Hnp := Lib.hid hnp
  have Hnb := Lib.hid hnb
  have H0 := Lib.hid h0
  have Hml := Lib.hid (show ∀ (p : List Nat) (v : Nat), NumIs p (v % val l'') → p.length ≤ 1000 from fun _ _ h => num_len' h (Nat.lt_of_lt_of_le (Nat.lt_trans (Nat.mod_lt _ (Nat.pos_of_ne_zero h0)) (val_lt hd'')) (pw_mono hs'')))
  clear hnp hnb h0 hv1
  go_wp2_with fail
  go_loopw [10, 12] (fun sp si wr => ∃ (i : Nat) (Ap : Option Addr) (cp : Nat) (p : List Nat), i ≤ N ∧ si = .int .i64 ((i : Int) - 1) ∧ sp = .slice Ap p.length cp ∧ Hid (NumIs p (val l ^ (val l' / 2 ^ i) % val l'')) ∧ Fresh .u32 31 wr w.heap.size Ap cp p ∧ Below w3.heap.size w3 wr)
    (fun _ si _ => (intOf si + 1).toNat)
  case atStart => exact ⟨N, Ap, cp, rp, Nat.le_refl _, rfl, rfl, Hnp.out, hfp, Below.refl _ _⟩
  case round =>
    obtain ⟨i, Ap, cp, p, hi, rfl, rfl, Hp, hfp, hbw⟩ := hrel
    rcases i with _ | i
    · go_wp2_with fail
      go_ret2
      exact ⟨_, _, p, rfl, by have := Hp.out; rwa [Nat.pow_zero, Nat.div_one] at this, hfp, hb4.trans (hbw.mono hb4.size)⟩
    · rw [show (((i + 1 : Nat) : Int) - 1) = (i : Int) from by omega]
      have hrp := hfp.rd
      have hrbw := rd_next hrb (Nat.le_refl _) hbw
      have hrew := rd_next hre (Nat.le_refl _) hbw
      have hrmw := rd_next hrm (Nat.le_refl _) hbw
      have hbw4 := hb4.trans (hbw.mono hb4.size)
      have hpl : p.length ≤ 1000 := Hml.out _ _ Hp.out
      obtain ⟨bit, Hbit⟩ : ∃ b, Hid (val l' / 2 ^ i % 2 = b) := ⟨_, rfl⟩
      have Hst := Lib.hid (pow_step (val l) (val l') i (val l'') bit Hbit.out)
      go_wp2_with fail
      refine (mulm_yes wr Ap Ap A'' cp cp c'' p p l'' hrp hrp hrmw Hp.out.1 Hp.out.1 hd'' hpl hpl hs'' H0.out).mono ?_
      rintro e w5 ⟨A5, c5, p5, rfl, hn5, hf5, hb5⟩
      have Hn5 := Lib.hid (show NumIs p5 (val l ^ (2 * (val l' / 2 ^ (i + 1))) % val l'') by
        rw [Hp.out.2.2, sq_mod] at hn5
        exact hn5)
      have hf5 := hf5.more (hbw4.size)
      have hrp5 := hf5.rd
      have hrb5 := rd_next hrbw (Nat.le_refl _) hb5
      have hre5 := rd_next hrew (Nat.le_refl _) hb5
      have hrm5 := rd_next hrmw (Nat.le_refl _) hb5
      have hbw5 := hbw.trans (hb5.mono hbw.size)
      have hl5 : p5.length ≤ 1000 := Hml.out _ _ Hn5.out
      clear hn5 hfp hrp hrbw hrew hrmw hbw4 hb5 hbw
      obtain ⟨be, oe, x, rfl, hbe, hx, Hx⟩ := hre5.at_ (i := i / 32) (by omega)
      have hxl : x < 4294967296 := by rw [Hx.out]; exact hd'.at_ _
      have hix : i / 32 < l'.length := by omega
      have hlc := hre5.1
      have hlc63 := hre5.2.1
      have hand := and_one x (i % 32) hxl
      rw [Hx.out, bit_at hd' i, Hbit.out, ← Hx.out] at hand
      by_cases hbit : bit = 1
      · subst hbit
        have htest : (bits .and .u32 ((x : Int) / 2 ^ (i % 32)) 1 == 1) = true := by rw [hand]; rfl
        clear hand
        go_wp2_with fail
        refine (mulm_yes w5 A5 Ab A'' c5 cb c'' p5 rb l'' hrp5 hrb5 hrm5 Hn5.out.1 Hnb.out.1 hd'' hl5 hlb hs'' H0.out).mono ?_
        rintro e w6 ⟨A6, c6, p6, rfl, hn6, hf6, hb6⟩
        have hn6' : NumIs p6 (val l ^ (val l' / 2 ^ i) % val l'') := by
          rw [Hn5.out.2.2, Hnb.out.2.2, mul_mod_base] at hn6
          rw [Hst.out]
          exact hn6
        have Hn6 := Lib.hid hn6'
        clear hn6 hn6'
        have hbs : w.heap.size ≤ w5.heap.size := Nat.le_trans hb4.size hbw5.size
        go_wp2_with fail
        exact ⟨⟨i, A6, c6, p6, by omega, rfl, rfl, Hn6.out, hf6.more hbs, hbw5.trans (hb6.mono hbw5.size)⟩, by simp [intOf]⟩
      · have hb0 : bit = 0 := by have := Hbit.out; omega
        subst hb0
        have htest : (bits .and .u32 ((x : Int) / 2 ^ (i % 32)) 1 == 1) = false := by rw [hand]; rfl
        clear hand
        have Hn6 := Lib.hid (show NumIs p5 (val l ^ (val l' / 2 ^ i) % val l'') by rw [Hst.out]; exact Hn5.out)
        go_wp2_with fail
        exact ⟨⟨i, A5, c5, p5, by omega, rfl, rfl, Hn6.out, hf5, hbw5⟩, by simp [intOf]⟩

set_option maxRecDepth 100000 in
theorem exp_no (w : World) (A A' A'' : Option Addr) (c c' c'' : Nat) (l l' l'' : List Nat) (hr : Rd .u32 w w.heap.size A c l) (hr'' : Rd .u32 w w.heap.size A'' c'' l'') (hd'' : Dg l'') (h0 : val l'' = 0) :
    Calls Try.prog 17 #[.slice A l.length c, .slice A' l'.length c', .slice A'' l''.length c''] w (Nought w) := by
  go_enter Try.func17, Try.ntmps17
  go_wp2_with fail
  refine (left_no w _ _ A A'' c c'' l l'' hr hr'' hd'' h0).mono ?_
  rintro e w2 ⟨rfl, rfl⟩
  go_wp2_with fail
  go_ret2
  exact ⟨rfl, Below.refl _ _⟩
end Go.Proofs.Ytphfgchfphdcaaa
