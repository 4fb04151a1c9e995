/-
  The law of sums, differences, products, and which is more.
-/
import Derived.Test.YteamkobemmocfaaNat12
namespace Go.Proofs.Yteamkobemmocfaa
open Go.RowKit
set_option linter.unusedVariables false

theorem nrm_len {l : List Nat} (h : okN l = true) : l.length ≤ 5000 := by have := (okN_nrm h).1; omega

set_option maxRecDepth 100000 in
theorem sums_not (w : World) (B B' : Nat) (A A' : Option Addr) (c c' : Nat) (l l' : List Nat) (hr : Rd .u32 w B A c l) (hr' : Rd .u32 w B' A' c' l') (h : ¬ (okN l = true ∧ okN l' = true)) :
    Calls Try.prog 4 #[.slice A l.length c, .slice A' l'.length c'] w fun e w' => e = .returned (.bool true) ∧ Below w.heap.size w w' := by
  obtain ⟨v, hv⟩ : ∃ v, okN l = v := ⟨_, rfl⟩
  obtain ⟨v', hv'⟩ : ∃ v', okN l' = v' := ⟨_, rfl⟩
  rw [hv, hv'] at h
  have c1 := is_any w B A c l hr v hv
  have c2 := is_any w B' A' c' l' hr' v' hv'
  have c3 := is'_any w B A c l hr v hv
  have c4 := is'_any w B' A' c' l' hr' v' hv'
  have C1 := Lib.hid c1
  have C2 := Lib.hid c2
  have C3 := Lib.hid c3
  have C4 := Lib.hid c4
  clear c1 c2 c3 c4 hv hv'
  cases v <;> cases v'
  all_goals first
    | exact absurd ⟨rfl, rfl⟩ h
    | (clear h
       go_enter Try.func4, Try.ntmps4
       go_wp2_with fail
       refine C3.out.mono ?_
       rintro e w1 ⟨rfl, rfl⟩
       go_wp2_with fail
       refine C4.out.mono ?_
       rintro e w1 ⟨rfl, rfl⟩
       go_wp2_with fail
       refine C1.out.mono ?_
       rintro e w1 ⟨rfl, rfl⟩
       go_wp2_with fail
       refine C2.out.mono ?_
       rintro e w1 ⟨rfl, rfl⟩
       go_wp2_with fail
       refine C1.out.mono ?_
       rintro e w1 ⟨rfl, rfl⟩
       go_wp2_with fail
       refine C2.out.mono ?_
       rintro e w1 ⟨rfl, rfl⟩
       go_wp2_with fail
       refine (known_any _).mono ?_
       rintro e w1 ⟨rfl, hb⟩
       go_wp2_with fail
       go_ret
       exact ⟨rfl, hb⟩)

theorem num_nil : NumIs [] 0 := ⟨fun x hx => (by cases hx), .inl rfl, rfl⟩
theorem sub_all (w : World) (B B' : Nat) (A A' : Option Addr) (c c' : Nat) (l l' : List Nat) (hr : Rd .u32 w B A c l) (hr' : Rd .u32 w B' A' c' l') (hB : B ≤ w.heap.size) (hB' : B' ≤ w.heap.size) (hd : Dg l) (hd' : Dg l') (hs : l.length ≤ 5000) (hs' : l'.length ≤ 5000) (v : Bool) (hv : decide (val l' ≤ val l) = v) :
    Calls Try.prog 19 #[.slice A l.length c, .slice A' l'.length c'] w fun e w' => ∃ A2 c2 r, e = .returned (.tuple #[.slice A2 r.length c2, .bool v]) ∧ NumIs r (val l - val l') ∧ Fresh .u32 39 w' w.heap.size A2 c2 r ∧ Below w.heap.size w w' := by
  by_cases h : val l < val l'
  · obtain rfl : v = false := by rw [← hv]; simp; omega
    refine (sub_no w B B' A A' c c' l l' hr hr' hd hd' h).mono ?_
    rintro e w' ⟨rfl, q, rfl⟩
    exact ⟨none, 0, [], rfl, by rw [Nat.sub_eq_zero_of_le (Nat.le_of_lt h)]; exact num_nil, fresh_nil _ _ _ _, below_drewN (Below.refl _ _) q⟩
  · obtain rfl : v = true := by rw [← hv]; simp; omega
    exact sub_yes w B B' A A' c c' l l' hr hr' hB hB' hd hd' hs hs' h
theorem sub'_all (w : World) (B B' : Nat) (A A' : Option Addr) (c c' : Nat) (l l' : List Nat) (hr : Rd .u32 w B A c l) (hr' : Rd .u32 w B' A' c' l') (hB : B ≤ w.heap.size) (hB' : B' ≤ w.heap.size) (hd : Dg l) (hd' : Dg l') (hn : nrm l) (hn' : nrm l') (hs : l.length ≤ 5000) (hs' : l'.length ≤ 5000) (v : Bool) (hv : decide (val l' ≤ val l) = v) :
    Calls Try.prog 20 #[.slice A l.length c, .slice A' l'.length c'] w fun e w' => ∃ A2 c2 r, e = .returned (.tuple #[.slice A2 r.length c2, .bool v]) ∧ NumIs r (val l - val l') ∧ Fresh .u32 39 w' w.heap.size A2 c2 r ∧ Below w.heap.size w w' := by
  by_cases h : val l < val l'
  · obtain rfl : v = false := by rw [← hv]; simp; omega
    refine (sub'_no w B B' A A' c c' l l' hr hr' hd hd' hn hn' h).mono ?_
    rintro e w' ⟨rfl, q, rfl⟩
    exact ⟨none, 0, [], rfl, by rw [Nat.sub_eq_zero_of_le (Nat.le_of_lt h)]; exact num_nil, fresh_nil _ _ _ _, below_drewN (Below.refl _ _) q⟩
  · obtain rfl : v = true := by rw [← hv]; simp; omega
    exact sub'_yes w B B' A A' c c' l l' hr hr' hB hB' hd hd' hn hn' hs hs' h
theorem rd_drawn {k : IntKind} {w : World} {A : Option Addr} {c : Nat} {l : List Nat} (h : Rd k w w.heap.size A c l) (n : Nat) : Rd k (w.drewN n) (w.drewN n).heap.size A c l := h
theorem rd_next {k : IntKind} {w w' : World} {B : Nat} {A : Option Addr} {c : Nat} {l : List Nat} (h : Rd k w B A c l) (hB : B ≤ w.heap.size) (hb : Below w.heap.size w w') : Rd k w' w'.heap.size A c l := ((h.more hB).under hb).more hb.size

set_option maxRecDepth 100000 in
theorem sums_yes (w : World) (B B' : Nat) (A A' : Option Addr) (c c' : Nat) (l l' : List Nat) (hr : Rd .u32 w B A c l) (hr' : Rd .u32 w B' A' c' l') (hB : B ≤ w.heap.size) (hB' : B' ≤ w.heap.size) (hd : Dg l) (hd' : Dg l') (h : okN l = true) (h' : okN l' = true) :
    Calls Try.prog 4 #[.slice A l.length c, .slice A' l'.length c'] w fun e w' => e = .returned (.bool true) ∧ Below w.heap.size w w' := by
  have hs := nrm_len h
  have hs' := nrm_len h'
  have hn := (okN_nrm h).2
  have hn' := (okN_nrm h').2
  go_enter Try.func4, Try.ntmps4
  go_wp2_with fail
  refine (is'_any w B A c l hr true h).mono ?_
  rintro e w1 ⟨rfl, rfl⟩
  go_wp2_with fail
  refine (is'_any w B' A' c' l' hr' true h').mono ?_
  rintro e w1 ⟨rfl, rfl⟩
  go_wp2_with fail
  refine (is_any w B A c l hr true h).mono ?_
  rintro e w1 ⟨rfl, rfl⟩
  go_wp2_with fail
  refine (is_any w B' A' c' l' hr' true h').mono ?_
  rintro e w1 ⟨rfl, rfl⟩
  have hra := hr.more hB
  have hrb := hr'.more hB'
  have hbel : Below w.heap.size w w := Below.refl _ _
  clear hr hr'
  obtain ⟨v, hv⟩ : ∃ v, decide (val l' ≤ val l) = v := ⟨_, rfl⟩
  have Hv := Lib.hid hv
  clear hv
  obtain ⟨cm, hcm⟩ : ∃ z, cmpL l l' = z := ⟨_, rfl⟩
  have Hcm := Lib.hid hcm
  have Hcm2 := Lib.hid (show cmpL (trl l) (trl l') = cm by rw [trl_id hn, trl_id hn']; exact hcm)
  clear hcm
  go_wp2_with fail
  refine (sub_all w _ _ A A' c c' l l' hra hrb (Nat.le_refl _) (Nat.le_refl _) hd hd' hs hs' v Hv.out).mono ?_
  rintro e w1 ⟨A1, c1, r1, rfl, hn1, hf1, hb1⟩
  have hr1 := hf1.rd
  have hra := rd_next hra (Nat.le_refl _) hb1
  have hrb := rd_next hrb (Nat.le_refl _) hb1
  have hbel := hbel.trans hb1
  clear hf1 hb1
  go_wp2_with fail
  refine (sub'_all w1 _ _ A A' c c' l l' hra hrb (Nat.le_refl _) (Nat.le_refl _) hd hd' hn hn' hs hs' v Hv.out).mono ?_
  rintro e w2 ⟨A2, c2, r2, rfl, hn2, hf2, hb2⟩
  obtain rfl := num_one hn1 hn2
  have hr2 := hf2.rd
  have hra := rd_next hra (Nat.le_refl _) hb2
  have hrb := rd_next hrb (Nat.le_refl _) hb2
  have hr1 := rd_next hr1 (Nat.le_refl _) hb2
  have hbel := hbel.trans (hb2.mono hbel.size)
  clear hf2 hb2 hn2
  go_wp2_with fail
  refine (add_any w2 _ _ A A' c c' l l' hra hrb (Nat.le_refl _) (Nat.le_refl _) hd hd' hs hs').mono ?_
  rintro e w3 ⟨A3, c3, r3, rfl, hn3, hf3, hb3⟩
  have hr3 := hf3.rd
  have hra := rd_next hra (Nat.le_refl _) hb3
  have hrb := rd_next hrb (Nat.le_refl _) hb3
  have hr1 := rd_next hr1 (Nat.le_refl _) hb3
  have hr2 := rd_next hr2 (Nat.le_refl _) hb3
  have hbel := hbel.trans (hb3.mono hbel.size)
  clear hf3 hb3
  go_wp2_with fail
  refine (add'_any w3 _ _ A A' c c' l l' hra hrb (Nat.le_refl _) (Nat.le_refl _) hd hd' hs hs').mono ?_
  rintro e w4 ⟨A4, c4, r4, rfl, hn4, hf4, hb4⟩
  obtain rfl := num_one hn3 hn4
  have hr4 := hf4.rd
  have hra := rd_next hra (Nat.le_refl _) hb4
  have hrb := rd_next hrb (Nat.le_refl _) hb4
  have hr1 := rd_next hr1 (Nat.le_refl _) hb4
  have hr2 := rd_next hr2 (Nat.le_refl _) hb4
  have hr3 := rd_next hr3 (Nat.le_refl _) hb4
  have hbel := hbel.trans (hb4.mono hbel.size)
  clear hf4 hb4 hn4 hn3
  go_wp2_with fail
  refine (same_one w4 _ _ A3 A4 c3 c4 r3 hr3 hr4).mono ?_
  rintro e w5 ⟨rfl, q, rfl⟩
  have hra := hra.drewN q
  have hrb := hrb.drewN q
  have hr1 := hr1.drewN q
  have hr2 := hr2.drewN q
  have hbel := below_drewN hbel q
  clear hr3 hr4
  change Rd .u32 _ (w4.drewN q).heap.size _ _ _ at hra hrb hr1 hr2
  generalize w4.drewN q = w5 at *
  go_wp2_with fail
  refine (mul_any w5 _ _ A A' c c' l l' hra hrb (Nat.le_refl _) (Nat.le_refl _) hd hd' hs hs').mono ?_
  rintro e w6 ⟨A6, c6, r6, rfl, hn6, hf6, hb6⟩
  have hr6 := hf6.rd
  have hra := rd_next hra (Nat.le_refl _) hb6
  have hrb := rd_next hrb (Nat.le_refl _) hb6
  have hr1 := rd_next hr1 (Nat.le_refl _) hb6
  have hr2 := rd_next hr2 (Nat.le_refl _) hb6
  have hbel := hbel.trans (hb6.mono hbel.size)
  clear hf6 hb6
  go_wp2_with fail
  refine (mul'_any w6 _ _ A A' c c' l l' hra hrb (Nat.le_refl _) (Nat.le_refl _) hd hd' hs hs').mono ?_
  rintro e w7 ⟨A7, c7, r7, rfl, hn7, hf7, hb7⟩
  obtain rfl := num_one hn6 hn7
  have hr7 := hf7.rd
  have hra := rd_next hra (Nat.le_refl _) hb7
  have hrb := rd_next hrb (Nat.le_refl _) hb7
  have hr1 := rd_next hr1 (Nat.le_refl _) hb7
  have hr2 := rd_next hr2 (Nat.le_refl _) hb7
  have hr6 := rd_next hr6 (Nat.le_refl _) hb7
  have hbel := hbel.trans (hb7.mono hbel.size)
  clear hf7 hb7 hn7 hn6
  go_wp2_with fail
  refine (same_one w7 _ _ A6 A7 c6 c7 r6 hr6 hr7).mono ?_
  rintro e w8 ⟨rfl, q2, rfl⟩
  have hra := hra.drewN q2
  have hrb := hrb.drewN q2
  have hr1 := hr1.drewN q2
  have hr2 := hr2.drewN q2
  have hbel := below_drewN hbel q2
  clear hr6 hr7
  generalize w7.drewN q2 = w8 at *
  go_wp2_with fail
  refine (cmp_any w8 _ _ A A' c c' l l' hra hrb cm Hcm2.out).mono ?_
  rintro e w9 ⟨rfl, q3, rfl⟩
  have hra := hra.drewN q3
  have hrb := hrb.drewN q3
  have hr1 := hr1.drewN q3
  have hr2 := hr2.drewN q3
  have hbel := below_drewN hbel q3
  generalize w8.drewN q3 = w9 at *
  go_wp2_with fail
  refine (cmp'_any w9 _ _ A A' c c' l l' hra hrb cm Hcm.out).mono ?_
  rintro e w10 ⟨rfl, q4, rfl⟩
  have hra := hra.drewN q4
  have hrb := hrb.drewN q4
  have hr1 := hr1.drewN q4
  have hr2 := hr2.drewN q4
  have hbel := below_drewN hbel q4
  generalize w9.drewN q4 = w10 at *
  go_wp2_with fail
  refine (same_one w10 _ _ A1 A2 c1 c2 r1 hr1 hr2).mono ?_
  rintro e w11 ⟨rfl, q5, rfl⟩
  have hra := hra.drewN q5
  have hbel := below_drewN hbel q5
  generalize w10.drewN q5 = w11 at *
  clear hr1 hr2 hrb
  go_wp2_with fail
  refine (bits_any w11 _ A c _ l hra rfl hd hs (nb l) (by rw [trl_id hn])).mono ?_
  rintro e w12 ⟨rfl, rfl⟩
  go_wp2_with fail
  refine (bits'_any w11 _ A c l hra hd hs (nb l) rfl).mono ?_
  rintro e w12 ⟨rfl, rfl⟩
  go_wp2_with fail
  refine (known_any _).mono ?_
  rintro e w13 ⟨rfl, hb13⟩
  go_wp2_with fail
  go_ret
  exact ⟨rfl, hbel.trans (hb13.mono hbel.size)⟩

theorem law_sums (w : World) (B B' : Nat) (A A' : Option Addr) (c c' : Nat) (l l' : List Nat) (hr : Rd .u32 w B A c l) (hr' : Rd .u32 w B' A' c' l') (hB : B ≤ w.heap.size) (hB' : B' ≤ w.heap.size) (hd : Dg l) (hd' : Dg l') :
    Calls Try.prog 4 #[.slice A l.length c, .slice A' l'.length c'] w fun e w' => e = .returned (.bool true) ∧ Below w.heap.size w w' := by
  by_cases h : okN l = true ∧ okN l' = true
  · exact sums_yes w B B' A A' c c' l l' hr hr' hB hB' hd hd' h.1 h.2
  · exact sums_not w B B' A A' c c' l l' hr hr' h
end Go.Proofs.Yteamkobemmocfaa
