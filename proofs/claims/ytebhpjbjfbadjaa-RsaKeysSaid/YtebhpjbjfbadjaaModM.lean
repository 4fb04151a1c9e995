/-
  Numbers that go round: what is left, sum, difference, product. Powers that go round. Inverses: Euclid's way. Edges, by hand.
-/
import Derived.Test.YtebhpjbjfbadjaaNat18
import Derived.Test.YtebhpjbjfbadjaaPure4
namespace Go.Proofs.Ytebhpjbjfbadjaa
open Go.RowKit
set_option linter.unusedVariables false

/-- An answer and that there is one. -/
def Left (w : World) (v : Nat) (e : Ending) (w' : World) : Prop :=
  ∃ A2 c2 r, e = .returned (.tuple #[.slice A2 r.length c2, .bool true]) ∧ NumIs r v ∧ Fresh .u32 24 w' w.heap.size A2 c2 r ∧ Below w.heap.size w w'

theorem Fresh.more {k : IntKind} {T : TypeId} {w' : World} {B B' : Nat} {A : Option Addr} {c : Nat} {r : List Nat} (h : Fresh k T w' B A c r) (hB : B' ≤ B) : Fresh k T w' B' A c r :=
  ⟨h.1, fun h0 => by obtain ⟨g, L, h1, h2, h3, h4⟩ := h.2 h0; exact ⟨g, L, h1, Nat.le_trans hB h2, h3, h4⟩⟩
/-- No answer. -/
def Nought (w : World) (e : Ending) (w' : World) : Prop := e = .returned (.tuple #[.slice none 0 0, .bool false]) ∧ Below w.heap.size w w'

theorem trl_none {l : List Nat} (hd : Dg l) (h : val l = 0) : (trl l).length = 0 := by
  have h1 : NumIs (trl l) 0 := num_trl hd h
  rw [num_one h1 num_nil]
  rfl

set_option maxRecDepth 100000 in
theorem left_yes (w : World) (B B' : Nat) (A A' : Option Addr) (c c' : Nat) (l l' : List Nat) (hr : Rd .u32 w B A c l) (hr' : Rd .u32 w B' A' c' l') (hB : B ≤ w.heap.size) (hB' : B' ≤ w.heap.size) (hd : Dg l) (hd' : Dg l') (hs : l.length ≤ 4000) (hs' : l'.length ≤ 4000) (h0 : val l' ≠ 0) :
    Calls Try.prog 43 #[.slice A l.length c, .slice A' l'.length c'] w (Left w (val l % val l')) := by
  go_enter Try.func43, Try.ntmps43
  go_wp2_with fail
  refine (div_any w B B' A A' c c' l l' hr hr' hB hB' hd hd' hs hs' h0).mono ?_
  rintro e w' ⟨A2, c2, q, A3, c3, r, rfl, hq, hrr, hf2, hf3, hb⟩
  go_wp2_with fail
  go_ret2
  exact ⟨_, _, r, rfl, hrr, hf3, hb⟩

set_option maxRecDepth 100000 in
theorem left_no (w : World) (B B' : Nat) (A A' : Option Addr) (c c' : Nat) (l l' : List Nat) (hr : Rd .u32 w B A c l) (hr' : Rd .u32 w B' A' c' l') (hd' : Dg l') (h0 : val l' = 0) :
    Calls Try.prog 43 #[.slice A l.length c, .slice A' l'.length c'] w fun e w' => e = .returned (.tuple #[.slice none 0 0, .bool false]) ∧ w = w' := by
  go_enter Try.func43, Try.ntmps43
  go_wp2_with fail
  refine (div_none w B B' A A' c c' l l' hr hr' (trl_none hd' h0)).mono ?_
  rintro e w' ⟨rfl, rfl⟩
  go_wp2_with fail
  go_ret2
  exact ⟨rfl, rfl⟩

set_option maxRecDepth 100000 in
theorem mulm_yes (w : World) (A A' A'' : Option Addr) (c c' c'' : Nat) (l l' l'' : List Nat) (hr : Rd .u32 w w.heap.size A c l) (hr' : Rd .u32 w w.heap.size A' c' l') (hr'' : Rd .u32 w w.heap.size A'' c'' l'') (hd : Dg l) (hd' : Dg l') (hd'' : Dg l'') (hs : l.length ≤ 1000) (hs' : l'.length ≤ 1000) (hs'' : l''.length ≤ 1000) (h0 : val l'' ≠ 0) :
    Calls Try.prog 44 #[.slice A l.length c, .slice A' l'.length c', .slice A'' l''.length c''] w (Left w ((val l * val l') % val l'')) := by
  go_enter Try.func44, Try.ntmps44
  go_wp2_with fail
  refine (mul_any w _ _ A A' c c' l l' hr hr' (Nat.le_refl _) (Nat.le_refl _) hd hd' (by omega) (by omega)).mono ?_
  rintro e w1 ⟨A1, c1, r1, rfl, hn1, hf1, hb1⟩
  have hl1 : r1.length ≤ 2000 := num_len' hn1 (prod_lt hd hd' hs hs')
  go_wp2_with fail
  refine (left_yes w1 _ _ A1 A'' c1 c'' r1 l'' hf1.rd (rd_next hr'' (Nat.le_refl _) hb1) (Nat.le_refl _) (Nat.le_refl _) hn1.1 hd'' (by omega) (by omega) h0).mono ?_
  rintro e w2 ⟨A2, c2, r2, rfl, hn2, hf2, hb2⟩
  rw [hn1.2.2] at hn2
  go_wp2_with fail
  go_ret2
  exact ⟨_, _, r2, rfl, hn2, hf2.more hb1.size, hb1.trans (hb2.mono hb1.size)⟩
set_option maxRecDepth 100000 in
theorem mulm_no (w : World) (A A' A'' : Option Addr) (c c' c'' : Nat) (l l' l'' : List Nat) (hr : Rd .u32 w w.heap.size A c l) (hr' : Rd .u32 w w.heap.size A' c' l') (hr'' : Rd .u32 w w.heap.size A'' c'' l'') (hd : Dg l) (hd' : Dg l') (hd'' : Dg l'') (hs : l.length ≤ 1000) (hs' : l'.length ≤ 1000) (h0 : val l'' = 0) :
    Calls Try.prog 44 #[.slice A l.length c, .slice A' l'.length c', .slice A'' l''.length c''] w (Nought w) := by
  go_enter Try.func44, Try.ntmps44
  go_wp2_with fail
  refine (mul_any w _ _ A A' c c' l l' hr hr' (Nat.le_refl _) (Nat.le_refl _) hd hd' (by omega) (by omega)).mono ?_
  rintro e w1 ⟨A1, c1, r1, rfl, hn1, hf1, hb1⟩
  go_wp2_with fail
  refine (left_no w1 _ _ A1 A'' c1 c'' r1 l'' hf1.rd (rd_next hr'' (Nat.le_refl _) hb1) hd'' h0).mono ?_
  rintro e w2 ⟨rfl, rfl⟩
  go_wp2_with fail
  go_ret2
  exact ⟨rfl, hb1⟩

end Go.Proofs.Ytebhpjbjfbadjaa
namespace Go.Proofs.Ytebhpjbjfbadjaa
open Go.RowKit
set_option linter.unusedVariables false

/-- A digit of two of a number. -/
theorem bit_at {l : List Nat} (hd : Dg l) (i : Nat) : l.getD (i / 32) 0 / 2 ^ (i % 32) % 2 = val l / 2 ^ i % 2 := by
  have h1 := val_split l (i / 32)
  have hlow : val (l.take (i / 32)) < pw (i / 32) := by
    have := val_lt (hd.take (i / 32))
    exact Nat.lt_of_lt_of_le this (pw_mono (by rw [List.length_take]; exact Nat.min_le_left _ _))
  have e : pw (i / 32) = 2 ^ (32 * (i / 32)) := by unfold pw; rw [Nat.pow_mul]
  have hi : 2 ^ i = 2 ^ (32 * (i / 32)) * 2 ^ (i % 32) := by rw [← Nat.pow_add]; congr 1; omega
  have h2 : val l / 2 ^ i = val (l.drop (i / 32)) / 2 ^ (i % 32) := by
    rw [hi, ← Nat.div_div_eq_div_mul, ← e, h1, Nat.add_mul_div_left _ _ (pw_pos _), Nat.div_eq_of_lt hlow, Nat.zero_add]
  rw [h2]
  have hs : i % 32 < 32 := Nat.mod_lt _ (by omega)
  generalize i % 32 = s at *
  rcases Nat.lt_or_ge (i / 32) l.length with h | h
  · rw [val_drop l h]
    generalize l.getD (i / 32) 0 = x
    generalize val (l.drop (i / 32 + 1)) = R
    have e2 : 4294967296 = 2 ^ s * (2 * 2 ^ (31 - s)) := by
      rw [← Nat.pow_succ', ← Nat.pow_add]
      have : s + (31 - s + 1) = 32 := by omega
      rw [show s + (31 - s).succ = 32 by omega]
    rw [e2, Nat.mul_assoc, Nat.add_mul_div_left _ _ (Nat.pow_pos (by omega)), Nat.mul_assoc, Nat.add_mul_mod_self_left]
  · rw [val_drop_all l h, List.getD, List.getElem?_eq_none h]
    simp
theorem pow_step (a E i m : Nat) (b : Nat) (hb : E / 2 ^ i % 2 = b) : E / 2 ^ i = 2 * (E / 2 ^ (i + 1)) + b := by
  have h : E / 2 ^ (i + 1) = E / 2 ^ i / 2 := by rw [Nat.pow_succ, Nat.div_div_eq_div_mul]
  rw [h]
  omega
theorem sq_mod (a k m : Nat) : (a ^ k % m) * (a ^ k % m) % m = a ^ (2 * k) % m := by
  rw [← Nat.mul_mod, ← Nat.pow_add]
  congr 2
  omega
theorem mul_mod_base (a k m : Nat) : (a ^ k % m) * (a % m) % m = a ^ (k + 1) % m := by
  rw [← Nat.mul_mod, ← Nat.pow_succ]
theorem val_top {l : List Nat} (hd : Dg l) : val l / 2 ^ nb (trl l) = 0 := by
  have hn : NumIs (trl l) (val l) := num_trl hd rfl
  rcases Nat.eq_zero_or_pos (val l) with h | h
  · rw [h]; exact Nat.zero_div _
  · exact Nat.div_eq_of_lt (nb_bounds hn (by omega)).2.1

theorem and_one (x s : Nat) (hx : x < 4294967296) : bits .and .u32 ((x : Int) / 2 ^ s) 1 = ((x / 2 ^ s % 2 : Nat) : Int) := by
  have h1 : x / 2 ^ s ≤ x := Nat.div_le_self _ _
  have h := u32_and_nat (x / 2 ^ s) 1 (by omega) (by omega)
  rw [Nat.and_one_is_mod] at h
  rw [← h, Int.natCast_ediv, Int.natCast_pow]
  rfl
theorem nb_le {l : List Nat} (hd : Dg l) : nb l ≤ 32 * l.length := by
  rcases hm : l.length with _ | m
  · rw [List.eq_nil_of_length_eq_zero hm]
    exact Nat.le_refl _
  · rw [nb_succ hm]
    have := Lib.bitLen_le (l.getD m 0) 32 (by omega) (hd.at_ m)
    omega
theorem nb_trl_le {l : List Nat} (hd : Dg l) : nb (trl l) ≤ 32 * l.length := by
  have h1 := nb_le (trl_dg hd)
  have h2 : (trl l).length ≤ l.length := by rw [trl_length]; exact tlen_le _ _
  omega

set_option maxRecDepth 100000 in
theorem exp_yes (w : World) (A A' A'' : Option Addr) (c c' c'' : Nat) (l l' l'' : List Nat) (hr : Rd .u32 w w.heap.size A c l) (hr' : Rd .u32 w w.heap.size A' c' l') (hr'' : Rd .u32 w w.heap.size A'' c'' l'') (hd : Dg l) (hd' : Dg l') (hd'' : Dg l'') (hs : l.length ≤ 1000) (hs' : l'.length ≤ 1000) (hs'' : l''.length ≤ 1000) (h0 : val l'' ≠ 0) :
    Calls Try.prog 27 #[.slice A l.length c, .slice A' l'.length c', .slice A'' l''.length c''] w (Left w (val l ^ val l' % val l'')) := by
  go_enter Try.func27, Try.ntmps27
  go_wp2_with fail
  refine (left_yes w _ _ A A'' c c'' l l'' hr hr'' (Nat.le_refl _) (Nat.le_refl _) hd hd'' (by omega) (by omega) h0).mono ?_
  rintro e w1 ⟨Ab, cb, rb, rfl, hnb, hfb, hb1⟩
  have hlb : rb.length ≤ 1000 := num_len' hnb (Nat.lt_of_lt_of_le (Nat.lt_trans (Nat.mod_lt _ (Nat.pos_of_ne_zero h0)) (val_lt hd'')) (pw_mono hs''))
  have hrb := hfb.rd
  have hre := rd_next hr' (Nat.le_refl _) hb1
  have hrm := rd_next hr'' (Nat.le_refl _) hb1
  clear hfb hr hr' hr''
  go_wp2_with fail
  have hT : Row .u32 24 (w1.alloc (.cells #[.int .u32 1] 24)) w1.heap.size [1] := Holds.fresh _ _ _
  have hbT : Below w1.heap.size w1 (w1.alloc (.cells #[.int .u32 1] 24)) := (Below.refl _ _).alloc (Nat.le_refl _) _
  have hrb := rd_next hrb (Nat.le_refl _) hbT
  have hre := rd_next hre (Nat.le_refl _) hbT
  have hrm := rd_next hrm (Nat.le_refl _) hbT
  have hb2 := hb1.trans (hbT.mono hb1.size)
  have hr1 := rd_whole (c := 1) hT (by simp) (by omega)
  have hz1 := Holds.lt hT
  clear hT hbT hb1
  generalize w1.alloc (.cells #[.int .u32 1] 24) = w2 at *
  refine (left_yes w2 _ _ _ A'' 1 c'' [1] l'' hr1 hrm hz1 (Nat.le_refl _) (fun x hx => by simp at hx; omega) hd'' (by simp) (by omega) h0).mono ?_
  rintro e w3 ⟨Ap, cp, rp, rfl, hnp, hfp, hb3⟩
  have hrb := rd_next hrb (Nat.le_refl _) hb3
  have hre := rd_next hre (Nat.le_refl _) hb3
  have hrm := rd_next hrm (Nat.le_refl _) hb3
  have hb4 := hb2.trans (hb3.mono hb2.size)
  have hfp := hfp.more hb2.size
  clear hr1 hz1 hb3 hb2
  go_wp2_with fail
  refine (bits_any w3 _ A' c' _ l' hre rfl hd' (by omega) _ rfl).mono ?_
  rintro e w4 ⟨rfl, rfl⟩
  have Htop := Lib.hid (val_top hd')
  have hnb64 : nb (trl l') ≤ 32 * l'.length := nb_trl_le hd'
  obtain ⟨N, HN⟩ : ∃ N, Hid (N = nb (trl l')) := ⟨_, rfl⟩
  rw [← HN.out] at Htop hnb64 ⊢
  have hv1 : val [1] % val l'' = val l ^ (val l' / 2 ^ N) % val l'' := by
    rw [Htop.out, Nat.pow_zero]
    simp [val]
  rw [hv1] at hnp
  have Hnp := Lib.hid hnp
  have Hnb := Lib.hid hnb
  have H0 := Lib.hid h0
  have Hml := Lib.hid (show ∀ (p : List Nat) (v : Nat), NumIs p (v % val l'') → p.length ≤ 1000 from fun _ _ h => num_len' h (Nat.lt_of_lt_of_le (Nat.lt_trans (Nat.mod_lt _ (Nat.pos_of_ne_zero h0)) (val_lt hd'')) (pw_mono hs'')))
  clear hnp hnb h0 hv1
  go_wp2_with fail
  go_loopw [10, 12] (fun sp si wr => ∃ (i : Nat) (Ap : Option Addr) (cp : Nat) (p : List Nat), i ≤ N ∧ si = .int .i64 ((i : Int) - 1) ∧ sp = .slice Ap p.length cp ∧ Hid (NumIs p (val l ^ (val l' / 2 ^ i) % val l'')) ∧ Fresh .u32 24 wr w.heap.size Ap cp p ∧ Below w3.heap.size w3 wr)
    (fun _ si _ => (intOf si + 1).toNat)
  case atStart => exact ⟨N, Ap, cp, rp, Nat.le_refl _, rfl, rfl, Hnp.out, hfp, Below.refl _ _⟩
  case round =>
    obtain ⟨i, Ap, cp, p, hi, rfl, rfl, Hp, hfp, hbw⟩ := hrel
    rcases i with _ | i
    · go_wp2_with fail
      go_ret2
      exact ⟨_, _, p, rfl, by have := Hp.out; rwa [Nat.pow_zero, Nat.div_one] at this, hfp, hb4.trans (hbw.mono hb4.size)⟩
    · rw [show (((i + 1 : Nat) : Int) - 1) = (i : Int) from by omega]
      have hrp := hfp.rd
      have hrbw := rd_next hrb (Nat.le_refl _) hbw
      have hrew := rd_next hre (Nat.le_refl _) hbw
      have hrmw := rd_next hrm (Nat.le_refl _) hbw
      have hbw4 := hb4.trans (hbw.mono hb4.size)
      have hpl : p.length ≤ 1000 := Hml.out _ _ Hp.out
      obtain ⟨bit, Hbit⟩ : ∃ b, Hid (val l' / 2 ^ i % 2 = b) := ⟨_, rfl⟩
      have Hst := Lib.hid (pow_step (val l) (val l') i (val l'') bit Hbit.out)
      go_wp2_with fail
      refine (mulm_yes wr Ap Ap A'' cp cp c'' p p l'' hrp hrp hrmw Hp.out.1 Hp.out.1 hd'' hpl hpl hs'' H0.out).mono ?_
      rintro e w5 ⟨A5, c5, p5, rfl, hn5, hf5, hb5⟩
      have Hn5 := Lib.hid (show NumIs p5 (val l ^ (2 * (val l' / 2 ^ (i + 1))) % val l'') by
        rw [Hp.out.2.2, sq_mod] at hn5
        exact hn5)
      have hf5 := hf5.more (hbw4.size)
      have hrp5 := hf5.rd
      have hrb5 := rd_next hrbw (Nat.le_refl _) hb5
      have hre5 := rd_next hrew (Nat.le_refl _) hb5
      have hrm5 := rd_next hrmw (Nat.le_refl _) hb5
      have hbw5 := hbw.trans (hb5.mono hbw.size)
      have hl5 : p5.length ≤ 1000 := Hml.out _ _ Hn5.out
      clear hn5 hfp hrp hrbw hrew hrmw hbw4 hb5 hbw
      obtain ⟨be, oe, x, rfl, hbe, hx, Hx⟩ := hre5.at_ (i := i / 32) (by omega)
      have hxl : x < 4294967296 := by rw [Hx.out]; exact hd'.at_ _
      have hix : i / 32 < l'.length := by omega
      have hlc := hre5.1
      have hlc63 := hre5.2.1
      have hand := and_one x (i % 32) hxl
      rw [Hx.out, bit_at hd' i, Hbit.out, ← Hx.out] at hand
      by_cases hbit : bit = 1
      · subst hbit
        have htest : (bits .and .u32 ((x : Int) / 2 ^ (i % 32)) 1 == 1) = true := by rw [hand]; rfl
        clear hand
        go_wp2_with fail
        refine (mulm_yes w5 A5 Ab A'' c5 cb c'' p5 rb l'' hrp5 hrb5 hrm5 Hn5.out.1 Hnb.out.1 hd'' hl5 hlb hs'' H0.out).mono ?_
        rintro e w6 ⟨A6, c6, p6, rfl, hn6, hf6, hb6⟩
        have hn6' : NumIs p6 (val l ^ (val l' / 2 ^ i) % val l'') := by
          rw [Hn5.out.2.2, Hnb.out.2.2, mul_mod_base] at hn6
          rw [Hst.out]
          exact hn6
        have Hn6 := Lib.hid hn6'
        clear hn6 hn6'
        have hbs : w.heap.size ≤ w5.heap.size := Nat.le_trans hb4.size hbw5.size
        go_wp2_with fail
        exact ⟨⟨i, A6, c6, p6, by omega, rfl, rfl, Hn6.out, hf6.more hbs, hbw5.trans (hb6.mono hbw5.size)⟩, by simp [intOf]⟩
      · have hb0 : bit = 0 := by have := Hbit.out; omega
        subst hb0
        have htest : (bits .and .u32 ((x : Int) / 2 ^ (i % 32)) 1 == 1) = false := by rw [hand]; rfl
        clear hand
        have Hn6 := Lib.hid (show NumIs p5 (val l ^ (val l' / 2 ^ i) % val l'') by rw [Hst.out]; exact Hn5.out)
        go_wp2_with fail
        exact ⟨⟨i, A5, c5, p5, by omega, rfl, rfl, Hn6.out, hf5, hbw5⟩, by simp [intOf]⟩

set_option maxRecDepth 100000 in
theorem exp_no (w : World) (A A' A'' : Option Addr) (c c' c'' : Nat) (l l' l'' : List Nat) (hr : Rd .u32 w w.heap.size A c l) (hr'' : Rd .u32 w w.heap.size A'' c'' l'') (hd'' : Dg l'') (h0 : val l'' = 0) :
    Calls Try.prog 27 #[.slice A l.length c, .slice A' l'.length c', .slice A'' l''.length c''] w (Nought w) := by
  go_enter Try.func27, Try.ntmps27
  go_wp2_with fail
  refine (left_no w _ _ A A'' c c'' l l'' hr hr'' hd'' h0).mono ?_
  rintro e w2 ⟨rfl, rfl⟩
  go_wp2_with fail
  go_ret2
  exact ⟨rfl, Below.refl _ _⟩
end Go.Proofs.Ytebhpjbjfbadjaa
namespace Go.Proofs.Ytebhpjbjfbadjaa
open Go.RowKit
set_option linter.unusedVariables false

/-- What stands at the loop's head. -/
structure Eu (a m x y u v : Nat) (b : Bool) : Prop where
  sum : v * x + u * y = m
  um : u ≤ m
  xm : x ≤ m
  xpos : 0 < x
  yx : y < x
  g : Nat.gcd x y = Nat.gcd m a
  no : b = false → ∃ k j, x + u * a = m * k ∧ v * a = y + m * j
  yes : b = true → ∃ k j, u * a = x + m * k ∧ y + v * a = m * j
theorem Eu.start {a m : Nat} (h : 1 < m) : Eu a m m (a % m) 0 1 false :=
  ⟨by omega, by omega, Nat.le_refl _, by omega, Nat.mod_lt _ (by omega), by rw [Nat.gcd_comm m (a % m), ← Nat.gcd_rec],
   fun _ => ⟨1, a / m, by omega, by rw [Nat.one_mul, Nat.mod_add_div]⟩, fun h => by cases h⟩
theorem Eu.vm {a m x y u v : Nat} {b : Bool} (h : Eu a m x y u v b) : v ≤ m := by
  have h1 := h.sum
  have h2 : v * 1 ≤ v * x := Nat.mul_le_mul_left _ h.xpos
  omega
theorem Eu.next {a m x y u v : Nat} {b : Bool} (h : Eu a m x y u v b) (hy : 0 < y) : Eu a m y (x % y) v (u + x / y * v) (!b) := by
  have hx := Nat.mod_add_div x y
  have hvm := h.vm
  obtain ⟨hs, hu, hxm, hxp, hyx, hg, hno, hyes⟩ := h
  generalize hq : x / y = q at *
  generalize hr : x % y = r at *
  have hxe : x = r + y * q := hx.symm
  refine ⟨?_, hvm, by omega, hy, by rw [← hr]; exact Nat.mod_lt _ hy, ?_, ?_, ?_⟩
  · rw [← hs, hxe]
    rw [Nat.add_mul, Nat.mul_add v r]
    have e1 : q * v * y = v * (y * q) := by rw [Nat.mul_comm q v, Nat.mul_assoc, Nat.mul_comm q y]
    rw [e1]
    have e2 : v * r = v * r := rfl
    generalize v * (y * q) = t1
    generalize v * r = t2
    generalize u * y = t3
    omega
  · rw [← hg, ← hr, Nat.gcd_comm y (x % y), ← Nat.gcd_rec, Nat.gcd_comm]
  · intro hb
    have hb' : b = true := by simpa only [Bool.not_eq_false'] using hb
    obtain ⟨k, j, h1, h2⟩ := hyes hb'
    refine ⟨j, k + q * j, h2, ?_⟩
    have e1 : q * (y + v * a) = q * (m * j) := by rw [h2]
    rw [Nat.mul_add] at e1
    have e2 : q * v * a = q * (v * a) := Nat.mul_assoc _ _ _
    have e3 : m * (k + q * j) = m * k + q * (m * j) := by rw [Nat.mul_add, Nat.mul_left_comm]
    have e4 : q * y = y * q := Nat.mul_comm _ _
    rw [Nat.add_mul, e2, e3]
    generalize q * (v * a) = t1 at *
    generalize q * (m * j) = t2 at *
    generalize q * y = t3 at *
    generalize y * q = t5 at *
    generalize u * a = t4 at *
    generalize m * k = t6 at *
    omega
  · intro hb
    have hb' : b = false := by simpa only [Bool.not_eq_true'] using hb
    obtain ⟨k, j, h1, h2⟩ := hno hb'
    refine ⟨j, k + q * j, h2, ?_⟩
    have e1 : q * (v * a) = q * (y + m * j) := by rw [h2]
    rw [Nat.mul_add] at e1
    have e2 : q * v * a = q * (v * a) := Nat.mul_assoc _ _ _
    have e3 : m * (k + q * j) = m * k + q * (m * j) := by rw [Nat.mul_add, Nat.mul_left_comm]
    have e4 : q * y = y * q := Nat.mul_comm _ _
    rw [Nat.add_mul, e2, e3]
    generalize q * (v * a) = t1 at *
    generalize q * (m * j) = t2 at *
    generalize q * y = t3 at *
    generalize y * q = t5 at *
    generalize u * a = t4 at *
    generalize m * k = t6 at *
    omega
theorem Eu.done {a m x u v : Nat} {b : Bool} (h : Eu a m x 0 u v b) : x = Nat.gcd m a := by
  have := h.g
  rwa [Nat.gcd_zero_right] at this
/-- The answer. -/
theorem Eu.inv {a m u v : Nat} {b : Bool} (hm : 1 < m) (h : Eu a m 1 0 u v b) : (b = true → a * (u % m) % m = 1) ∧ (b = false → a * ((0 % m + (m - u % m)) % m) % m = 1) := by
  constructor
  · intro hb
    obtain ⟨k, j, h1, _⟩ := h.yes hb
    rw [Nat.mul_mod, Nat.mod_mod, ← Nat.mul_mod, Nat.mul_comm, h1, Nat.add_mul_mod_self_left, Nat.mod_eq_of_lt hm]
  · intro hb
    obtain ⟨k, j, h1, _⟩ := h.no hb
    have hd := Nat.mod_add_div u m
    have hl := Nat.mod_lt u (show 0 < m by omega)
    generalize u / m = d at *
    generalize u % m = z at *
    subst hd
    rw [Nat.zero_mod, Nat.zero_add, Nat.mul_mod, Nat.mod_mod, ← Nat.mul_mod]
    -- a (m - z) = 1 + m (..)
    have e1 : (z + m * d) * a = z * a + m * (d * a) := by rw [Nat.add_mul, Nat.mul_assoc]
    rw [e1] at h1
    have e2 : a * (m - z) + z * a = m * a := by rw [Nat.mul_comm z a, ← Nat.mul_add, Nat.sub_add_cancel (by omega), Nat.mul_comm]
    have e3 : a * (m - z) + m * k = 1 + m * (a + d * a) := by
      rw [Nat.mul_add]
      generalize a * (m - z) = t1 at *
      generalize z * a = t2 at *
      generalize m * a = t3 at *
      generalize m * (d * a) = t4 at *
      generalize m * k = t5 at *
      omega
    have e4 : (a * (m - z) + m * k) % m = (1 + m * (a + d * a)) % m := by rw [e3]
    rwa [Nat.add_mul_mod_self_left, Nat.add_mul_mod_self_left, Nat.mod_eq_of_lt hm] at e4

theorem val_unit : val [1] = 1 := by simp [val]
theorem cmp_one {t : List Nat} (hd : Dg t) (hn : nrm t) : cmpL t [1] = if val t < 1 then -1 else if 1 < val t then 1 else 0 := by
  have h1 : Dg [1] := fun x hx => by simp at hx; omega
  have h2 : nrm [1] := .inr (by decide)
  rw [cmpL_val hd h1 hn h2, val_unit]
theorem num_unit : NumIs [1] 1 := ⟨fun x hx => by simp at hx; omega, .inr (by decide), val_unit⟩
theorem trl_one : trl [1] = [1] := trl_id (.inr (by decide))

/-- The number that a slice reads as. -/
def readNum (s : Value) (w : World) : Nat :=
  match s with
  | .slice (some a) n _ => val ((List.range n).map fun i => match w.cell? ⟨a.block, a.off + i, none⟩ with | some (.int _ z) => z.toNat | _ => 0)
  | _ => 0
theorem readNum_eq {w : World} {B : Nat} {A : Option Addr} {c : Nat} {l : List Nat} (hr : Rd .u32 w B A c l) : readNum (.slice A l.length c) w = val l := by
  rcases Nat.eq_zero_or_pos l.length with h | h
  · obtain rfl := List.eq_nil_of_length_eq_zero h
    cases A <;> simp [readNum, val]
  · obtain ⟨b, off, rfl, hb, hc⟩ := hr.2.2 h
    simp only [readNum]
    congr 1
    apply List.ext_getElem
    · simp
    · intro i h1 h2
      simp only [List.getElem_map, List.getElem_range]
      rw [hc i h2]
      simp [List.getD, h2]

end Go.Proofs.Ytebhpjbjfbadjaa
namespace Go.Proofs.Ytebhpjbjfbadjaa
open Go.RowKit
set_option linter.unusedVariables false

theorem lit_num (k : Nat) (h0 : 0 < k) (h : k < 4294967296) : NumIs [k] k :=
  ⟨fun x hx => by simp at hx; omega, .inr (by simp; omega), by simp [val]⟩
theorem lit_rd {w : World} {g : Nat} {k : Nat} (h : Row .u32 24 w g [k]) : Rd .u32 w w.heap.size (some ⟨g, 0, none⟩) 1 [k] :=
  (rd_whole (c := 1) h (by simp) (by omega)).more (Holds.lt h)
theorem size_lit (w : World) (o : Obj) : (w.alloc o).heap.size = w.heap.size + 1 := by
  first | rfl | exact Array.size_push .. | simp
/-- Numbers written out: one, two, three. -/
theorem lits1 (w : World) (z1 : Int) (k1 : Nat) (h1 : z1 = k1) : ∃ W, W = w.alloc (.cells #[.int .u32 z1] 24) ∧ Rd .u32 W W.heap.size (some ⟨w.heap.size, 0, none⟩) 1 [k1] ∧ Below w.heap.size w W := by
  subst h1
  exact ⟨_, rfl, lit_rd (Holds.fresh _ _ _), (Below.refl _ _).alloc (Nat.le_refl _) _⟩
theorem lits2 (w : World) (z1 z2 : Int) (k1 k2 : Nat) (h1 : z1 = k1) (h2 : z2 = k2) : ∃ W, W = (w.alloc (.cells #[.int .u32 z1] 24)).alloc (.cells #[.int .u32 z2] 24) ∧ Rd .u32 W W.heap.size (some ⟨w.heap.size, 0, none⟩) 1 [k1] ∧ Rd .u32 W W.heap.size (some ⟨w.heap.size + 1, 0, none⟩) 1 [k2] ∧ Below w.heap.size w W := by
  subst h2
  obtain ⟨W1, rfl, hr1, hb1⟩ := lits1 w z1 k1 h1
  have hb : Below (w.alloc (.cells #[.int .u32 z1] 24)).heap.size (w.alloc (.cells #[.int .u32 z1] 24)) ((w.alloc (.cells #[.int .u32 z1] 24)).alloc (.cells #[.int .u32 (k2 : Int)] 24)) := (Below.refl _ _).alloc (Nat.le_refl _) _
  refine ⟨_, rfl, rd_next hr1 (Nat.le_refl _) hb, ?_, hb1.trans (hb.mono hb1.size)⟩
  rw [← size_lit w (.cells #[.int .u32 z1] 24)]
  exact lit_rd (k := k2) (Holds.fresh (w.alloc (.cells #[.int .u32 z1] 24)) 24 (nums .u32 [k2]))
theorem lits3 (w : World) (z1 z2 z3 : Int) (k1 k2 k3 : Nat) (h1 : z1 = k1) (h2 : z2 = k2) (h3 : z3 = k3) : ∃ W, W = ((w.alloc (.cells #[.int .u32 z1] 24)).alloc (.cells #[.int .u32 z2] 24)).alloc (.cells #[.int .u32 z3] 24) ∧ Rd .u32 W W.heap.size (some ⟨w.heap.size, 0, none⟩) 1 [k1] ∧ Rd .u32 W W.heap.size (some ⟨w.heap.size + 1, 0, none⟩) 1 [k2] ∧ Rd .u32 W W.heap.size (some ⟨w.heap.size + 1 + 1, 0, none⟩) 1 [k3] ∧ Below w.heap.size w W := by
  subst h3
  obtain ⟨W1, rfl, hr1, hr2, hb1⟩ := lits2 w z1 z2 k1 k2 h1 h2
  have hb := (Below.refl _ ((w.alloc (.cells #[.int .u32 z1] 24)).alloc (.cells #[.int .u32 z2] 24))).alloc (Nat.le_refl _) (.cells #[.int .u32 (k3 : Int)] 24)
  refine ⟨_, rfl, rd_next hr1 (Nat.le_refl _) hb, rd_next hr2 (Nat.le_refl _) hb, ?_, hb1.trans (hb.mono hb1.size)⟩
  rw [← size_lit w (.cells #[.int .u32 z1] 24), ← size_lit (w.alloc (.cells #[.int .u32 z1] 24)) (.cells #[.int .u32 z2] 24)]
  exact lit_rd (k := k3) (Holds.fresh ((w.alloc (.cells #[.int .u32 z1] 24)).alloc (.cells #[.int .u32 z2] 24)) 24 (nums .u32 [k3]))
theorem lit_dg {k : Nat} (h : k < 4294967296) : Dg [k] := fun x hx => by simp at hx; omega
theorem lit_val (k : Nat) : val [k] = k := by simp [val]

end Go.Proofs.Ytebhpjbjfbadjaa
