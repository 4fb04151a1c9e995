/-
  The laws of sums and products, in any order, of parts.
-/
import Derived.Test.YteamkobemmocfaaNat13
namespace Go.Proofs.Yteamkobemmocfaa
open Go.RowKit
set_option linter.unusedVariables false

theorem num_len {r : List Nat} {n k : Nat} (h : NumIs r n) (hn : n < pw k) (hk : k ≤ 5000) : r.length ≤ 5000 := by
  rcases Nat.eq_zero_or_pos r.length with h0 | h0
  · omega
  · have h1 := nrm_low h.2.1 h0
    rw [h.2.2] at h1
    rcases Nat.lt_or_ge (r.length - 1) k with h2 | h2
    · omega
    · have := pw_mono h2
      omega
theorem sum_lt {l l' : List Nat} (hd : Dg l) (hd' : Dg l') {n : Nat} (h : l.length ≤ n) (h' : l'.length ≤ n) : val l + val l' < pw (n + 1) := by
  have h1 := val_lt hd
  have h2 := val_lt hd'
  have h3 := pw_mono h
  have h4 := pw_mono h'
  rw [pw_succ]
  omega
theorem prod_lt {l l' : List Nat} (hd : Dg l) (hd' : Dg l') {n : Nat} (h : l.length ≤ n) (h' : l'.length ≤ n) : val l * val l' < pw (n + n) := by
  have h1 := val_lt hd
  have h2 := val_lt hd'
  have h3 := pw_mono h
  have h4 := pw_mono h'
  rw [pw_add]
  exact Nat.mul_lt_mul'' (by omega) (by omega)

set_option maxRecDepth 100000 in
set_option maxHeartbeats 1000000 in
theorem laws_yes (w : World) (A1 A2 A3 : Option Addr) (c1 c2 c3 : Nat) (la lb lc : List Nat) (ha : Rd .u32 w w.heap.size A1 c1 la) (hb : Rd .u32 w w.heap.size A2 c2 lb) (hc : Rd .u32 w w.heap.size A3 c3 lc) (hda : Dg la) (hdb : Dg lb) (hdc : Dg lc) (hka : okN la = true) (hkb : okN lb = true) (hkc : okN lc = true) (hlen : ¬ 120 < la.length + lb.length + lc.length) :
    Calls Try.prog 6 #[.slice A1 la.length c1, .slice A2 lb.length c2, .slice A3 lc.length c3] w fun e w' => e = .returned (.bool true) ∧ Below w.heap.size w w' := by
  have hna := (okN_nrm hka).2
  have hLa : la.length ≤ 256 := by omega
  have hLb : lb.length ≤ 256 := by omega
  have hLc : lc.length ≤ 256 := by omega
  have hsa : la.length ≤ 5000 := by omega
  have hsb : lb.length ≤ 5000 := by omega
  have hsc : lc.length ≤ 5000 := by omega
  have hbel : Below w.heap.size w w := Below.refl _ _
  have hlen' : ¬ (120 : Int) < (la.length : Int) + (lb.length : Int) + (lc.length : Int) := by omega
  clear hlen
  go_enter Try.func6, Try.ntmps6
  go_wp2_with fail
  refine (is'_any w _ A1 c1 la ha true hka).mono ?_
  rintro e w1 ⟨rfl, rfl⟩
  go_wp2_with fail
  refine (is'_any w _ A2 c2 lb hb true hkb).mono ?_
  rintro e w2 ⟨rfl, rfl⟩
  go_wp2_with fail
  refine (is'_any w _ A3 c3 lc hc true hkc).mono ?_
  rintro e w3 ⟨rfl, rfl⟩
  go_wp2_with fail
  refine (add_any w _ _ A1 A2 c1 c2 la lb ha hb (Nat.le_refl _) (Nat.le_refl _) hda hdb hsa hsb).mono ?_
  rintro e w4 ⟨As1, cs1, rs1, rfl, hns1, hfs1, hbs1⟩
  have hrs1 := hfs1.rd
  have ha := rd_next ha (Nat.le_refl _) hbs1
  have hb := rd_next hb (Nat.le_refl _) hbs1
  have hc := rd_next hc (Nat.le_refl _) hbs1
  have hbel := hbel.trans (hbs1.mono hbel.size)
  clear hfs1 hbs1
  go_wp2_with fail
  have hss1 : rs1.length ≤ 5000 := num_len hns1 (sum_lt hda hdb hLa hLb) (by omega)
  refine (sub_all w4 _ _ As1 A2 cs1 c2 rs1 lb hrs1 hb (Nat.le_refl _) (Nat.le_refl _) hns1.1 hdb hss1 hsb true (by rw [hns1.2.2]; simp)).mono ?_
  rintro e w5 ⟨Ad, cd, rd, rfl, hnd, hfd, hbd⟩
  have hrd := hfd.rd
  have ha := rd_next ha (Nat.le_refl _) hbd
  have hb := rd_next hb (Nat.le_refl _) hbd
  have hc := rd_next hc (Nat.le_refl _) hbd
  have hrs1 := rd_next hrs1 (Nat.le_refl _) hbd
  have hbel := hbel.trans (hbd.mono hbel.size)
  clear hfd hbd
  go_wp2_with fail
  have hnd2 : NumIs la (val la) := ⟨hda, hna, rfl⟩
  rw [hns1.2.2, Nat.add_sub_cancel] at hnd
  obtain rfl := num_one hnd2 hnd
  clear hrs1
  refine (add_any w5 _ _ A1 A2 c1 c2 la lb ha hb (Nat.le_refl _) (Nat.le_refl _) hda hdb hsa hsb).mono ?_
  rintro e w6 ⟨Ap, cp, rp, rfl, hnp, hfp, hbp⟩
  have hrp := hfp.rd
  have ha := rd_next ha (Nat.le_refl _) hbp
  have hb := rd_next hb (Nat.le_refl _) hbp
  have hc := rd_next hc (Nat.le_refl _) hbp
  have hrd := rd_next hrd (Nat.le_refl _) hbp
  have hbel := hbel.trans (hbp.mono hbel.size)
  clear hfp hbp
  go_wp2_with fail
  refine (add_any w6 _ _ A2 A1 c2 c1 lb la hb ha (Nat.le_refl _) (Nat.le_refl _) hdb hda hsb hsa).mono ?_
  rintro e w7 ⟨Aq, cq, rq, rfl, hnq, hfq, hbq⟩
  have hrq := hfq.rd
  have ha := rd_next ha (Nat.le_refl _) hbq
  have hb := rd_next hb (Nat.le_refl _) hbq
  have hc := rd_next hc (Nat.le_refl _) hbq
  have hrd := rd_next hrd (Nat.le_refl _) hbq
  have hrp := rd_next hrp (Nat.le_refl _) hbq
  have hbel := hbel.trans (hbq.mono hbel.size)
  clear hfq hbq
  go_wp2_with fail
  rw [Nat.add_comm] at hnq
  obtain rfl := num_one hnp hnq
  refine (same_one w7 _ _ Ap Aq cp cq rp hrp hrq).mono ?_
  rintro e w8 ⟨rfl, q8, rfl⟩
  have ha := rd_drawn ha q8
  have hb := rd_drawn hb q8
  have hc := rd_drawn hc q8
  have hrd := rd_drawn hrd q8
  have hrp := rd_drawn hrp q8
  have hrq := rd_drawn hrq q8
  have hbel := below_drewN hbel q8
  generalize w7.drewN q8 = w8 at *
  go_wp2_with fail
  clear hrp hrq
  refine (mul_any w8 _ _ A1 A2 c1 c2 la lb ha hb (Nat.le_refl _) (Nat.le_refl _) hda hdb hsa hsb).mono ?_
  rintro e w9 ⟨Am, cm, rm, rfl, hnm, hfm, hbm⟩
  have hrm := hfm.rd
  have ha := rd_next ha (Nat.le_refl _) hbm
  have hb := rd_next hb (Nat.le_refl _) hbm
  have hc := rd_next hc (Nat.le_refl _) hbm
  have hrd := rd_next hrd (Nat.le_refl _) hbm
  have hbel := hbel.trans (hbm.mono hbel.size)
  clear hfm hbm
  go_wp2_with fail
  refine (mul_any w9 _ _ A2 A1 c2 c1 lb la hb ha (Nat.le_refl _) (Nat.le_refl _) hdb hda hsb hsa).mono ?_
  rintro e w10 ⟨An, cn, rn, rfl, hnn, hfn, hbn⟩
  have hrn := hfn.rd
  have ha := rd_next ha (Nat.le_refl _) hbn
  have hb := rd_next hb (Nat.le_refl _) hbn
  have hc := rd_next hc (Nat.le_refl _) hbn
  have hrd := rd_next hrd (Nat.le_refl _) hbn
  have hrm := rd_next hrm (Nat.le_refl _) hbn
  have hbel := hbel.trans (hbn.mono hbel.size)
  clear hfn hbn
  go_wp2_with fail
  rw [Nat.mul_comm] at hnn
  obtain rfl := num_one hnm hnn
  refine (same_one w10 _ _ Am An cm cn rm hrm hrn).mono ?_
  rintro e w11 ⟨rfl, q11, rfl⟩
  have ha := rd_drawn ha q11
  have hb := rd_drawn hb q11
  have hc := rd_drawn hc q11
  have hrd := rd_drawn hrd q11
  have hrm := rd_drawn hrm q11
  have hrn := rd_drawn hrn q11
  have hbel := below_drewN hbel q11
  generalize w10.drewN q11 = w11 at *
  go_wp2_with fail
  clear hrm hrn
  refine (add_any w11 _ _ A2 A3 c2 c3 lb lc hb hc (Nat.le_refl _) (Nat.le_refl _) hdb hdc hsb hsc).mono ?_
  rintro e w12 ⟨At, ct, rt, rfl, hnt, hft, hbt⟩
  have hrt := hft.rd
  have ha := rd_next ha (Nat.le_refl _) hbt
  have hb := rd_next hb (Nat.le_refl _) hbt
  have hc := rd_next hc (Nat.le_refl _) hbt
  have hrd := rd_next hrd (Nat.le_refl _) hbt
  have hbel := hbel.trans (hbt.mono hbel.size)
  clear hft hbt
  go_wp2_with fail
  have hst : rt.length ≤ 5000 := num_len hnt (sum_lt hdb hdc hLb hLc) (by omega)
  refine (mul_any w12 _ _ A1 At c1 ct la rt ha hrt (Nat.le_refl _) (Nat.le_refl _) hda hnt.1 hsa hst).mono ?_
  rintro e w13 ⟨Au, cu, ru, rfl, hnu, hfu, hbu⟩
  have hru := hfu.rd
  have ha := rd_next ha (Nat.le_refl _) hbu
  have hb := rd_next hb (Nat.le_refl _) hbu
  have hc := rd_next hc (Nat.le_refl _) hbu
  have hrd := rd_next hrd (Nat.le_refl _) hbu
  have hrt := rd_next hrt (Nat.le_refl _) hbu
  have hbel := hbel.trans (hbu.mono hbel.size)
  clear hfu hbu
  go_wp2_with fail
  refine (mul_any w13 _ _ A1 A2 c1 c2 la lb ha hb (Nat.le_refl _) (Nat.le_refl _) hda hdb hsa hsb).mono ?_
  rintro e w14 ⟨Ax, cx, rx, rfl, hnx, hfx, hbx⟩
  have hrx := hfx.rd
  have ha := rd_next ha (Nat.le_refl _) hbx
  have hb := rd_next hb (Nat.le_refl _) hbx
  have hc := rd_next hc (Nat.le_refl _) hbx
  have hrd := rd_next hrd (Nat.le_refl _) hbx
  have hrt := rd_next hrt (Nat.le_refl _) hbx
  have hru := rd_next hru (Nat.le_refl _) hbx
  have hbel := hbel.trans (hbx.mono hbel.size)
  clear hfx hbx
  go_wp2_with fail
  have hsx : rx.length ≤ 5000 := num_len hnx (prod_lt hda hdb hLa hLb) (by omega)
  refine (mul_any w14 _ _ A1 A3 c1 c3 la lc ha hc (Nat.le_refl _) (Nat.le_refl _) hda hdc hsa hsc).mono ?_
  rintro e w15 ⟨Ay, cy, ry, rfl, hny, hfy, hby⟩
  have hry := hfy.rd
  have ha := rd_next ha (Nat.le_refl _) hby
  have hb := rd_next hb (Nat.le_refl _) hby
  have hc := rd_next hc (Nat.le_refl _) hby
  have hrd := rd_next hrd (Nat.le_refl _) hby
  have hrt := rd_next hrt (Nat.le_refl _) hby
  have hru := rd_next hru (Nat.le_refl _) hby
  have hrx := rd_next hrx (Nat.le_refl _) hby
  have hbel := hbel.trans (hby.mono hbel.size)
  clear hfy hby
  go_wp2_with fail
  have hsy : ry.length ≤ 5000 := num_len hny (prod_lt hda hdc hLa hLc) (by omega)
  refine (add_any w15 _ _ Ax Ay cx cy rx ry hrx hry (Nat.le_refl _) (Nat.le_refl _) hnx.1 hny.1 hsx hsy).mono ?_
  rintro e w16 ⟨Az, cz, rz, rfl, hnz, hfz, hbz⟩
  have hrz := hfz.rd
  have ha := rd_next ha (Nat.le_refl _) hbz
  have hb := rd_next hb (Nat.le_refl _) hbz
  have hc := rd_next hc (Nat.le_refl _) hbz
  have hrd := rd_next hrd (Nat.le_refl _) hbz
  have hrt := rd_next hrt (Nat.le_refl _) hbz
  have hru := rd_next hru (Nat.le_refl _) hbz
  have hrx := rd_next hrx (Nat.le_refl _) hbz
  have hry := rd_next hry (Nat.le_refl _) hbz
  have hbel := hbel.trans (hbz.mono hbel.size)
  clear hfz hbz
  go_wp2_with fail
  rw [hnt.2.2, Nat.mul_add] at hnu
  rw [hnx.2.2, hny.2.2] at hnz
  obtain rfl := num_one hnu hnz
  refine (same_one w16 _ _ Au Az cu cz ru hru hrz).mono ?_
  rintro e w17 ⟨rfl, q17, rfl⟩
  have ha := rd_drawn ha q17
  have hb := rd_drawn hb q17
  have hc := rd_drawn hc q17
  have hrd := rd_drawn hrd q17
  have hrt := rd_drawn hrt q17
  have hru := rd_drawn hru q17
  have hrx := rd_drawn hrx q17
  have hry := rd_drawn hry q17
  have hrz := rd_drawn hrz q17
  have hbel := below_drewN hbel q17
  generalize w16.drewN q17 = w17 at *
  go_wp2_with fail
  clear hru hrz hrt hrx hry
  refine (same_one w17 _ _ Ad A1 cd c1 la hrd ha).mono ?_
  rintro e w18 ⟨rfl, q18, rfl⟩
  have ha := rd_drawn ha q18
  have hb := rd_drawn hb q18
  have hc := rd_drawn hc q18
  have hrd := rd_drawn hrd q18
  have hbel := below_drewN hbel q18
  generalize w17.drewN q18 = w18 at *
  go_wp2_with fail
  refine (known_any _).mono ?_
  rintro e w19 ⟨rfl, hbk⟩
  go_wp2_with fail
  go_ret
  exact ⟨rfl, hbel.trans (hbk.mono hbel.size)⟩

set_option maxRecDepth 100000 in
theorem law_laws (w : World) (A1 A2 A3 : Option Addr) (c1 c2 c3 : Nat) (la lb lc : List Nat) (ha : Rd .u32 w w.heap.size A1 c1 la) (hb : Rd .u32 w w.heap.size A2 c2 lb) (hc : Rd .u32 w w.heap.size A3 c3 lc) (hda : Dg la) (hdb : Dg lb) (hdc : Dg lc) :
    Calls Try.prog 6 #[.slice A1 la.length c1, .slice A2 lb.length c2, .slice A3 lc.length c3] w fun e w' => e = .returned (.bool true) ∧ Below w.heap.size w w' := by
  obtain ⟨ka, hka⟩ : ∃ v, okN la = v := ⟨_, rfl⟩
  obtain ⟨kb, hkb⟩ : ∃ v, okN lb = v := ⟨_, rfl⟩
  obtain ⟨kc, hkc⟩ : ∃ v, okN lc = v := ⟨_, rfl⟩
  cases ka
  · go_enter Try.func6, Try.ntmps6
    go_wp2_with fail
    refine (is'_any w _ A1 c1 la ha false hka).mono ?_
    rintro e w1 ⟨rfl, rfl⟩
    go_wp2_with fail
    go_ret
    exact ⟨rfl, Below.refl _ _⟩
  cases kb
  · go_enter Try.func6, Try.ntmps6
    go_wp2_with fail
    refine (is'_any w _ A1 c1 la ha true hka).mono ?_
    rintro e w1 ⟨rfl, rfl⟩
    go_wp2_with fail
    refine (is'_any w _ A2 c2 lb hb false hkb).mono ?_
    rintro e w1 ⟨rfl, rfl⟩
    go_wp2_with fail
    go_ret
    exact ⟨rfl, Below.refl _ _⟩
  cases kc
  · go_enter Try.func6, Try.ntmps6
    go_wp2_with fail
    refine (is'_any w _ A1 c1 la ha true hka).mono ?_
    rintro e w1 ⟨rfl, rfl⟩
    go_wp2_with fail
    refine (is'_any w _ A2 c2 lb hb true hkb).mono ?_
    rintro e w1 ⟨rfl, rfl⟩
    go_wp2_with fail
    refine (is'_any w _ A3 c3 lc hc false hkc).mono ?_
    rintro e w1 ⟨rfl, rfl⟩
    go_wp2_with fail
    go_ret
    exact ⟨rfl, Below.refl _ _⟩
  by_cases hlen : 120 < la.length + lb.length + lc.length
  · have hl1 := (okN_nrm hka).1
    have hl2 := (okN_nrm hkb).1
    have hl3 := (okN_nrm hkc).1
    have hlen' : (120 : Int) < (la.length : Int) + (lb.length : Int) + (lc.length : Int) := by omega
    go_enter Try.func6, Try.ntmps6
    go_wp2_with fail
    refine (is'_any w _ A1 c1 la ha true hka).mono ?_
    rintro e w1 ⟨rfl, rfl⟩
    go_wp2_with fail
    refine (is'_any w _ A2 c2 lb hb true hkb).mono ?_
    rintro e w1 ⟨rfl, rfl⟩
    go_wp2_with fail
    refine (is'_any w _ A3 c3 lc hc true hkc).mono ?_
    rintro e w1 ⟨rfl, rfl⟩
    go_wp2_with fail
    go_ret
    exact ⟨rfl, Below.refl _ _⟩
  · exact laws_yes w A1 A2 A3 c1 c2 c3 la lb lc ha hb hc hda hdb hdc hka hkb hkc hlen
end Go.Proofs.Yteamkobemmocfaa
