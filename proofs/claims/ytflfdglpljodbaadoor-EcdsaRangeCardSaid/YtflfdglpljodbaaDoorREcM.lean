/-
  Numbers from 1 to as many as there are points, less 1: program and document. A key of a point is one: program and document. Signatures by points: words; numbers from 1 to N less 1 have one by them. The program looks at a signature. The document looks at a signature. Any key, any digest, any pair. The document signs; the key of a secret number. Numbers that are 0, or as many as there are points, or more, are none.
-/
import Derived.Test.YtflfdglpljodbaaDoorRCvF
import Derived.Deep.RegionLaw
import Derived.Deep.RegionHeld3
import Derived.Deep.DrawnRows
import Derived.Test.YtflfdglpljodbaaDoorRCv10
import Derived.Test.YtflfdglpljodbaaDoorRModM
import Derived.Test.YtflfdglpljodbaaDoorRRef12
import Derived.Test.YtflfdglpljodbaaDoorRRefB
import Derived.Test.YtflfdglpljodbaaDoorRCv33
import Derived.Test.YtflfdglpljodbaaDoorRShaM
import Derived.Test.YtflfdglpljodbaaDoorRNatB
set_option maxRecDepth 100000
set_option maxHeartbeats 20000000
namespace Go.Proofs.YtflfdglpljodbaaDoor
open Go.RowKit
set_option linter.unusedVariables false
set_option linter.unusedSimpArgs false
def fitB (l : List Nat) : Bool := okN l && decide (0 < l.length) && decide (cmpL l lN < 0)
theorem fit_any (w : World) {A : Option Addr} {c : Nat} {l : List Nat} (hr : Rd .u32 w w.heap.size A c l) :
    Calls Tryd.prog 66 #[.slice A l.length c] w fun e w' => e = .returned (.bool (fitB l)) ∧ Below w.heap.size w w' := by
  by_cases h0 : okN l = true
  · have Hok := lH h0
    by_cases h1 : 0 < l.length
    · obtain ⟨v, hv⟩ : ∃ v, cmpL l lN = v := ⟨_, rfl⟩
      have Hv := lH hv
      have Hv' : Hid (cmpL (trl l) (trl lN) = v) := lH (by rw [trl_id (okN_nrm h0).2, trl_id lN_ok.2.1]; exact hv)
      have hF : fitB l = decide (v < 0) := by rw [fitB, h0, hv, decide_eq_true h1]; simp
      rw [hF]
      have H1 := lH (show (0 : Int) < (l.length : Int) by omega)
      clear hF hv h0 h1
      go_enter Tryd.func66, Tryd.ntmps66
      have h1 := H1.out
      go_wp2_with fail
      refine (is_any w _ A c l hr true Hok.out).mono ?_
      rintro e W1 ⟨rfl, rfl⟩
      go_wp2_with fail
      refine (curveN_any w).mono ?_
      rintro e W3 ⟨gn, hgn, rfl, hN, hb⟩
      have HB3 := lH hb
      have HR3 := lH (hr.under hb)
      have HN3 := lH (Eight.rd hN rfl)
      clear hN hgn hb
      go_wp2_with fail
      refine (cmp_any W3 _ _ A _ c 8 l lN HR3.out HN3.out v Hv'.out).mono ?_
      rintro e W4 ⟨rfl, q, hq⟩
      have HB4 : Hid (Below w.heap.size w W4) := lH (by rw [hq]; exact bdN HB3.out q)
      clear hq
      go_wp2_with fail
      go_ret
      exact ⟨rfl, HB4.out⟩
    · obtain rfl : l = [] := List.length_eq_zero_iff.1 (by omega)
      have hF : fitB [] = false := by simp [fitB]
      rw [hF]
      clear hF h0 h1
      go_enter Tryd.func66, Tryd.ntmps66
      go_wp2_with fail
      refine (is_any w _ A c [] hr true Hok.out).mono ?_
      rintro e W1 ⟨rfl, rfl⟩
      go_wp2_with fail
      go_ret
      exact ⟨rfl, Below.refl _ _⟩
  · have hF : fitB l = false := by simp [fitB, h0]
    have Hok : Hid (okN l = false) := lH (by simpa using h0)
    rw [hF]
    clear hF h0
    go_enter Tryd.func66, Tryd.ntmps66
    go_wp2_with fail
    refine (is_any w _ A c l hr false Hok.out).mono ?_
    rintro e W1 ⟨rfl, rfl⟩
    go_wp2_with fail
    go_ret
    exact ⟨rfl, Below.refl _ _⟩
end Go.Proofs.YtflfdglpljodbaaDoor
namespace Go.Proofs.YtflfdglpljodbaaDoor
open Go.RowKit
set_option linter.unusedVariables false
set_option linter.unusedSimpArgs false
def keyB (al : Int) (ln : List Nat) (en : Int) (lx ly : List Nat) (inf : Bool) : Bool := decide (al = 2) && !inf && ptOk lx ly inf && decide ((ln.length : Int) = 0) && decide (en = 0)
theorem keyIs_any (w : World) (hm : CMet w) (al : Int) (en : Int) (An Ax Ay : Option Addr) (cn cx cy : Nat) (ln lx ly : List Nat) (inf : Bool) (hx : Rd .u32 w w.heap.size Ax cx lx) (hy : Rd .u32 w w.heap.size Ay cy ly) (hdx : Dg lx) (hdy : Dg ly) :
    Calls Tryd.prog 29 #[.agg #[.int .i64 al, .slice An ln.length cn, .int .u32 en, .slice Ax lx.length cx, .slice Ay ly.length cy, .bool inf]] w fun e w' => e = .returned (.bool (keyB al ln en lx ly inf)) ∧ Below w.heap.size w w' := by
  by_cases ha : al = 2
  · subst ha
    cases inf with
    | true =>
      rw [show keyB 2 ln en lx ly true = false by simp [keyB]]
      go_enter Tryd.func29, Tryd.ntmps29
      go_wp2_with fail
      go_ret
      exact ⟨rfl, (Below.refl _ _).alloc (Nat.le_refl _) _⟩
    | false =>
      obtain ⟨W1, hw⟩ : ∃ W, W = w.alloc (.cells #[.int .i64 2, .slice An ln.length cn, .int .u32 en, .slice Ax lx.length cx, .slice Ay ly.length cy, .bool false] 45) := ⟨_, rfl⟩
      have HW := lH hw
      have HB := lH (show Below w.heap.size w W1 by rw [hw]; exact (Below.refl _ _).alloc (Nat.le_refl _) _)
      have PB : Hid (Holds W1 w.heap.size 45 #[.int .i64 2, .slice An ln.length cn, .int .u32 en, .slice Ax lx.length cx, .slice Ay ly.length cy, .bool false]) := lH (by rw [hw]; exact Holds.fresh w _ _)
      clear hw
      have hK : keyB 2 ln en lx ly false = (ptOk lx ly false && (decide ((ln.length : Int) = 0) && decide (en = 0))) := by simp [keyB, Bool.and_assoc]
      obtain ⟨b, hP⟩ : ∃ b, ptOk lx ly false = b := ⟨_, rfl⟩
      rw [hK, hP]
      have HP := lH hP
      clear hK hP
      cases b with
      | false =>
        rw [Bool.false_and]
        go_enter Tryd.func29, Tryd.ntmps29
        go_wp2_with fail
        rw [← HW.out]
        refine (curveIs_any W1 (hm.under HB.out) Ax Ay cx cy lx ly false ((hx.under HB.out).more HB.out.size) ((hy.under HB.out).more HB.out.size) hdx hdy).mono ?_
        rintro e W2 ⟨rfl, hb⟩
        rw [HP.out]
        have HB2 := lH (HB.out.trans (hb.mono HB.out.size))
        have PB2 := lH (PB.out.under hb (Holds.lt PB.out))
        clear hb
        have p1 := PB2.out.cell 1
        have p2 := PB2.out.cell 2
        go_wp2_with fail
        go_ret
        exact ⟨rfl, HB2.out⟩
      | true =>
        rw [Bool.true_and]
        by_cases h0 : (ln.length : Int) = 0
        · rw [decide_eq_true h0, Bool.true_and]
          go_enter Tryd.func29, Tryd.ntmps29
          go_wp2_with fail
          rw [← HW.out]
          refine (curveIs_any W1 (hm.under HB.out) Ax Ay cx cy lx ly false ((hx.under HB.out).more HB.out.size) ((hy.under HB.out).more HB.out.size) hdx hdy).mono ?_
          rintro e W2 ⟨rfl, hb⟩
          rw [HP.out]
          have HB2 := lH (HB.out.trans (hb.mono HB.out.size))
          have PB2 := lH (PB.out.under hb (Holds.lt PB.out))
          clear hb
          have p1 := PB2.out.cell 1
          have p2 := PB2.out.cell 2
          go_wp2_with fail
          go_ret
          exact ⟨rfl, HB2.out⟩
        · rw [decide_eq_false h0, Bool.false_and]
          have h1 : ¬ ln.length = 0 := by omega
          have h2 : ¬ ln = [] := fun e => h1 (by rw [e]; rfl)
          go_enter Tryd.func29, Tryd.ntmps29
          go_wp2_with fail
          rw [← HW.out]
          refine (curveIs_any W1 (hm.under HB.out) Ax Ay cx cy lx ly false ((hx.under HB.out).more HB.out.size) ((hy.under HB.out).more HB.out.size) hdx hdy).mono ?_
          rintro e W2 ⟨rfl, hb⟩
          rw [HP.out]
          have HB2 := lH (HB.out.trans (hb.mono HB.out.size))
          have PB2 := lH (PB.out.under hb (Holds.lt PB.out))
          clear hb
          have p1 := PB2.out.cell 1
          have p2 := PB2.out.cell 2
          go_wp2_with fail
          go_ret
          exact ⟨rfl, HB2.out⟩
  · rw [show keyB al ln en lx ly inf = false by simp [keyB, ha]]
    go_enter Tryd.func29, Tryd.ntmps29
    go_wp2_with fail
    go_ret
    exact ⟨rfl, (Below.refl _ _).alloc (Nat.le_refl _) _⟩
end Go.Proofs.YtflfdglpljodbaaDoor
namespace Go.Proofs.YtflfdglpljodbaaDoor
open Go.RowKit
set_option linter.unusedVariables false
set_option linter.unusedSimpArgs false
theorem fit_facts {l : List Nat} (h : fitB l = true) (hd : Dg l) : nrm l ∧ val l ≠ 0 ∧ val l < val lN ∧ l.length ≤ 8 := by
  unfold fitB at h
  rw [Bool.and_eq_true, Bool.and_eq_true, decide_eq_true_eq, decide_eq_true_eq] at h
  obtain ⟨⟨h1, h2⟩, h3⟩ := h
  obtain ⟨h4, hn⟩ := okN_nrm h1
  have hlow := nrm_low hn h2
  have hpos := pw_pos (l.length - 1)
  have hlt : val l < val lN := by
    rw [cmpL_val hd lN_ok.1 hn lN_ok.2.1] at h3
    by_cases c : val l < val lN
    · exact c
    · rw [if_neg c] at h3
      split at h3 <;> omega
  exact ⟨hn, by omega, hlt, num_len8 ⟨hd, hn, rfl⟩ (Nat.lt_trans hlt (by rw [lN_val]; decide))⟩
theorem fit_cop {l : List Nat} (h : fitB l = true) (hd : Dg l) : Nat.gcd (val lN) (val l) = 1 := by
  obtain ⟨_, h0, hlt, _⟩ := fit_facts h hd
  rw [lN_val] at hlt ⊢
  exact Luc.cNn_prime.cop fun hdv => absurd (Nat.le_of_dvd (by omega) hdv) (by omega)
def verF (Q : Luc.Pt) (z r x : Nat) : Bool :=
  match Luc.add (Luc.nmul gP (z * x % val lN)) (Luc.nmul Q (r * x % val lN)) with
  | none => false
  | some p => decide (p.1.val % val lN = r)
def VerP (Q : Luc.Pt) (z r s : Nat) (w : World) (e : Ending) (w' : World) : Prop :=
  ∃ x, x < val lN ∧ s * x % val lN = 1 ∧ e = .returned (.bool (verF Q z r x)) ∧ Below w.heap.size w w'
theorem keyYes (w : World) (hm : CMet w) {al en : Int} {An Ax Ay : Option Addr} {cn cx cy : Nat} {ln lx ly : List Nat} {inf : Bool} {v : Bool} (hx : Rd .u32 w w.heap.size Ax cx lx) (hy : Rd .u32 w w.heap.size Ay cy ly) (hdx : Dg lx) (hdy : Dg ly) (hK : keyB al ln en lx ly inf = v) :
    Calls Tryd.prog 29 #[.agg #[.int .i64 al, .slice An ln.length cn, .int .u32 en, .slice Ax lx.length cx, .slice Ay ly.length cy, .bool inf]] w fun e w' => e = .returned (.bool v) ∧ Below w.heap.size w w' := by
  rw [← hK]
  exact keyIs_any w hm al en An Ax Ay cn cx cy ln lx ly inf hx hy hdx hdy
theorem fitV (w : World) {A : Option Addr} {c : Nat} {l : List Nat} {v : Bool} (hr : Rd .u32 w w.heap.size A c l) (hf : fitB l = v) :
    Calls Tryd.prog 66 #[.slice A l.length c] w fun e w' => e = .returned (.bool v) ∧ Below w.heap.size w w' := by
  rw [← hf]
  exact fit_any w hr
theorem one_lt_N : 1 < val lN := by rw [lN_val]; decide
theorem N_ne : val lN ≠ 0 := by have := one_lt_N; omega
theorem invN' (w : World) {A : Option Addr} {c g : Nat} {l : List Nat} (hr : Rd .u32 w w.heap.size A c l) (hN : Rd .u32 w w.heap.size (some ⟨g, 0, none⟩) 8 lN) (hd : Dg l) (hf : fitB l = true) :
    Calls Tryd.prog 72 #[.slice A l.length c, .slice (some ⟨g, 0, none⟩) 8 8] w fun e w' => ∃ x, x < val lN ∧ val l * x % val lN = 1 ∧ LeftR w x e w' := by
  obtain ⟨hn, _, _, hl⟩ := fit_facts hf hd
  refine (inv8_high w A (some ⟨g, 0, none⟩) c 8 l lN hr hN hd lN_ok.1 (by omega) (by rw [lN_ok.2.2]; omega) hn lN_ok.2.1 one_lt_N).mono ?_
  rintro e w' (⟨h, _⟩ | ⟨_, x, h1, h2, h3⟩)
  · exact absurd (fit_cop hf hd) h
  · exact ⟨x, h1, h2, h3⟩
theorem mulQ' (w : World) {A A' : Option Addr} {c c' g : Nat} {l l' : List Nat} (hr : Rd .u32 w w.heap.size A c l) (hr' : Rd .u32 w w.heap.size A' c' l') (hN : Rd .u32 w w.heap.size (some ⟨g, 0, none⟩) 8 lN) (hd : Dg l) (hd' : Dg l') (hs : l.length ≤ 1000) (hs' : l'.length ≤ 1000) :
    Calls Tryd.prog 73 #[.slice A l.length c, .slice A' l'.length c', .slice (some ⟨g, 0, none⟩) 8 8] w (LeftR w (val l * val l' % val lN)) :=
  mul8_yes w A A' (some ⟨g, 0, none⟩) c c' 8 l l' lN hr hr' hN hd hd' lN_ok.1 hs hs' (by rw [lN_ok.2.2]; omega) N_ne lN_ok.2.1
theorem of32' (w : World) {A : Option Addr} {c n : Nat} {l : List Nat} (hr : Rd .u8 w w.heap.size A c l) (hn : l.length = n) (ho : Oct l.reverse) :
    Calls Tryd.prog 74 #[.slice A n c] w fun e w' => ∃ A2 c2, e = .returned (.slice A2 (numOf l).length c2) ∧ Rd .u32 w' w'.heap.size A2 c2 (numOf l) ∧ Below w.heap.size w w' := by
  subst hn
  exact (of'_all w w.heap.size A c l hr (Nat.le_refl _) ho).mono fun _ _ ⟨a, b, h1, h2, h3⟩ => ⟨a, b, h1, h2.1, h3⟩
theorem restN' (w : World) {A : Option Addr} {c g : Nat} {l : List Nat} (hr : Rd .u32 w w.heap.size A c l) (hN : Rd .u32 w w.heap.size (some ⟨g, 0, none⟩) 8 lN) (hd : Dg l) (hn : nrm l) (hs : l.length ≤ 4000) :
    Calls Tryd.prog 65 #[.slice A l.length c, .slice (some ⟨g, 0, none⟩) 8 8] w (LeftR w (val l % val lN)) :=
  rest'_yes w w.heap.size w.heap.size A (some ⟨g, 0, none⟩) c 8 l lN hr hN (Nat.le_refl _) (Nat.le_refl _) hd lN_ok.1 hs (by rw [lN_ok.2.2]; omega) N_ne hn lN_ok.2.1
end Go.Proofs.YtflfdglpljodbaaDoor
namespace Go.Proofs.YtflfdglpljodbaaDoor
open Go.RowKit
set_option linter.unusedVariables false
set_option linter.unusedSimpArgs false
theorem verify_no (w : World) (hm : CMet w) (al en : Int) {An Ax Ay Ad Ar As : Option Addr} {cn cx cy nd cd cr cs : Nat} {ln lx ly R S : List Nat} {inf : Bool} (hx : Rd .u32 w w.heap.size Ax cx lx) (hy : Rd .u32 w w.heap.size Ay cy ly) (hdx : Dg lx) (hdy : Dg ly) (hR : Rd .u32 w w.heap.size Ar cr R) (hS : Rd .u32 w w.heap.size As cs S) (hno : (keyB al ln en lx ly inf && decide (nd = 32) && fitB R && fitB S) = false) :
    Calls Tryd.prog 31 #[.agg #[.int .i64 al, .slice An ln.length cn, .int .u32 en, .slice Ax lx.length cx, .slice Ay ly.length cy, .bool inf], .slice Ad nd cd, .agg #[.slice Ar R.length cr, .slice As S.length cs]] w fun e w' => e = .returned (.bool false) ∧ Below w.heap.size w w' := by
  obtain ⟨w1, hw1⟩ : ∃ W, W = w.alloc (.cells #[.int .i64 al, .slice An ln.length cn, .int .u32 en, .slice Ax lx.length cx, .slice Ay ly.length cy, .bool inf] 45) := ⟨_, rfl⟩
  have hz1 : w1.heap.size = w.heap.size + 1 := by rw [hw1]; simp
  have hb1 : Below w.heap.size w w1 := by rw [hw1]; exact (Below.refl _ _).alloc (Nat.le_refl _) _
  obtain ⟨W0, hw2⟩ : ∃ W, W = w1.alloc (.cells #[.slice Ar R.length cr, .slice As S.length cs] 48) := ⟨_, rfl⟩
  have hb : Below w.heap.size w W0 := by rw [hw2]; exact hb1.alloc hb1.size _
  have SB0 : Hid (Holds W0 (w.heap.size + 1) 48 #[.slice Ar R.length cr, .slice As S.length cs]) := lH (by rw [hw2, ← hz1]; exact Holds.fresh w1 _ _)
  have HB0 := lH hb
  have HM0 := lH (hm.under hb)
  have RR0 := lH ((hR.under hb).more hb.size)
  have RS0 := lH ((hS.under hb).more hb.size)
  have RX := lH hx
  have RY := lH hy
  have HDX := lH hdx
  have HDY := lH hdy
  have HW := lH (hw1 ▸ hw2 : W0 = (w.alloc (.cells #[.int .i64 al, .slice An ln.length cn, .int .u32 en, .slice Ax lx.length cx, .slice Ay ly.length cy, .bool inf] 45)).alloc (.cells #[.slice Ar R.length cr, .slice As S.length cs] 48))
  clear hw1 hz1 hb1 hw2 hb hx hy hdx hdy hR hS hm
  by_cases hk : keyB al ln en lx ly inf = true
  · have HK := lH hk
    by_cases hn : nd = 32
    · subst hn
      by_cases hr : fitB R = true
      · have HRf := lH hr
        have HSf : Hid (fitB S = false) := lH (by rw [hk, hr] at hno; simpa using hno)
        clear hk hr hno
        go_enter Tryd.func31, Tryd.ntmps31
        go_wp2_with fail
        rw [← HW.out]
        clear HW
        refine (keyYes W0 HM0.out ((RX.out.under HB0.out).more HB0.out.size) ((RY.out.under HB0.out).more HB0.out.size) HDX.out HDY.out HK.out).mono ?_
        rintro e W1 ⟨rfl, hb⟩
        have HB1 := lH (HB0.out.trans (hb.mono HB0.out.size))
        have HM1 := lH (HM0.out.under hb)
        have SB1 := lH (SB0.out.under hb (Holds.lt SB0.out))
        have RR1 := lH ((RR0.out.under hb).more hb.size)
        have RS1 := lH ((RS0.out.under hb).more hb.size)
        clear hb HB0 HM0 SB0 RR0 RS0
        have s0 := SB1.out.cell 0
        have s1 := SB1.out.cell 1
        go_wp2_with fail
        refine (fitV W1 RR1.out HRf.out).mono ?_
        rintro e W2 ⟨rfl, hb⟩
        have HB2 := lH (HB1.out.trans (hb.mono HB1.out.size))
        have HM2 := lH (HM1.out.under hb)
        have SB2 := lH (SB1.out.under hb (Holds.lt SB1.out))
        have RR2 := lH ((RR1.out.under hb).more hb.size)
        have RS2 := lH ((RS1.out.under hb).more hb.size)
        clear hb HB1 HM1 SB1 RR1 RS1
        clear s0 s1
        have s0 := SB2.out.cell 0
        have s1 := SB2.out.cell 1
        go_wp2_with fail
        refine (fitV W2 RS2.out HSf.out).mono ?_
        rintro e W3 ⟨rfl, hb⟩
        have HB3 := lH (HB2.out.trans (hb.mono HB2.out.size))
        have HM3 := lH (HM2.out.under hb)
        have SB3 := lH (SB2.out.under hb (Holds.lt SB2.out))
        have RR3 := lH ((RR2.out.under hb).more hb.size)
        have RS3 := lH ((RS2.out.under hb).more hb.size)
        clear hb HB2 HM2 SB2 RR2 RS2
        clear s0 s1
        go_wp2_with fail
        go_ret
        exact ⟨rfl, HB3.out⟩
      · have HRf : Hid (fitB R = false) := lH (by simpa using hr)
        clear hk hr hno
        go_enter Tryd.func31, Tryd.ntmps31
        go_wp2_with fail
        rw [← HW.out]
        clear HW
        refine (keyYes W0 HM0.out ((RX.out.under HB0.out).more HB0.out.size) ((RY.out.under HB0.out).more HB0.out.size) HDX.out HDY.out HK.out).mono ?_
        rintro e W1 ⟨rfl, hb⟩
        have HB1 := lH (HB0.out.trans (hb.mono HB0.out.size))
        have HM1 := lH (HM0.out.under hb)
        have SB1 := lH (SB0.out.under hb (Holds.lt SB0.out))
        have RR1 := lH ((RR0.out.under hb).more hb.size)
        have RS1 := lH ((RS0.out.under hb).more hb.size)
        clear hb HB0 HM0 SB0 RR0 RS0
        have s0 := SB1.out.cell 0
        have s1 := SB1.out.cell 1
        go_wp2_with fail
        refine (fitV W1 RR1.out HRf.out).mono ?_
        rintro e W2 ⟨rfl, hb⟩
        have HB2 := lH (HB1.out.trans (hb.mono HB1.out.size))
        have HM2 := lH (HM1.out.under hb)
        have SB2 := lH (SB1.out.under hb (Holds.lt SB1.out))
        have RR2 := lH ((RR1.out.under hb).more hb.size)
        have RS2 := lH ((RS1.out.under hb).more hb.size)
        clear hb HB1 HM1 SB1 RR1 RS1
        clear s0 s1
        go_wp2_with fail
        go_ret
        exact ⟨rfl, HB2.out⟩
    · have HN : Hid (((nd : Int) != 32) = true) := lH (by rw [bne_iff_ne]; omega)
      clear hk hn hno
      go_enter Tryd.func31, Tryd.ntmps31
      go_wp2_with fail
      rw [← HW.out]
      clear HW
      refine (keyYes W0 HM0.out ((RX.out.under HB0.out).more HB0.out.size) ((RY.out.under HB0.out).more HB0.out.size) HDX.out HDY.out HK.out).mono ?_
      rintro e W1 ⟨rfl, hb⟩
      have HB1 := lH (HB0.out.trans (hb.mono HB0.out.size))
      have HM1 := lH (HM0.out.under hb)
      have SB1 := lH (SB0.out.under hb (Holds.lt SB0.out))
      have RR1 := lH ((RR0.out.under hb).more hb.size)
      have RS1 := lH ((RS0.out.under hb).more hb.size)
      clear hb HB0 HM0 SB0 RR0 RS0
      have h1 := HN.out
      go_wp2_with fail
      go_ret
      exact ⟨rfl, HB1.out⟩
  · have HK : Hid (keyB al ln en lx ly inf = false) := lH (by simpa using hk)
    clear hk hno
    go_enter Tryd.func31, Tryd.ntmps31
    go_wp2_with fail
    rw [← HW.out]
    clear HW
    refine (keyYes W0 HM0.out ((RX.out.under HB0.out).more HB0.out.size) ((RY.out.under HB0.out).more HB0.out.size) HDX.out HDY.out HK.out).mono ?_
    rintro e W1 ⟨rfl, hb⟩
    have HB1 := lH (HB0.out.trans (hb.mono HB0.out.size))
    have HM1 := lH (HM0.out.under hb)
    have SB1 := lH (SB0.out.under hb (Holds.lt SB0.out))
    have RR1 := lH ((RR0.out.under hb).more hb.size)
    have RS1 := lH ((RS0.out.under hb).more hb.size)
    clear hb HB0 HM0 SB0 RR0 RS0
    go_wp2_with fail
    go_ret
    exact ⟨rfl, HB1.out⟩
end Go.Proofs.YtflfdglpljodbaaDoor
namespace Go.Proofs.YtflfdglpljodbaaDoor
open Go.RowKit
set_option linter.unusedVariables false
set_option linter.unusedSimpArgs false
end Go.Proofs.YtflfdglpljodbaaDoor
namespace Go.Proofs.YtflfdglpljodbaaDoor
open Go.RowKit
set_option linter.unusedVariables false
set_option linter.unusedSimpArgs false
theorem inv_ex {p a : Nat} (hp : Luc.Prime p) (ha : ¬ p ∣ a) : ∃ x, x < p ∧ a * x % p = 1 := by
  obtain ⟨k, rfl⟩ : ∃ k, p = k + 2 := ⟨p - 2, by have := hp.1; omega⟩
  refine ⟨a ^ k % (k + 2), Nat.mod_lt _ (by omega), ?_⟩
  rw [Nat.mul_mod, Nat.mod_mod, ← Nat.mul_mod, ← Nat.pow_succ']
  exact Luc.fermat hp ha
theorem keyB_pt {w : World} {Q : Luc.Pt} {A1 A2 : Option Addr} {c1 c2 : Nat} {l1 l2 : List Nat} (h : PtV Q w A1 c1 l1 A2 c2 l2 false) (ho : Luc.OnC Q) : keyB 2 [] 0 l1 l2 false = true := by
  unfold keyB
  rw [ptOk_yes h ho]
  rfl
theorem keyB_inf : keyB 2 [] 0 [] [] true = false := by simp [keyB]
theorem fit_nil : fitB [] = false := by simp [fitB]
theorem known11_any (w : World) (hm : CMet w) : Calls Tryd.prog 33 #[] w fun e w' => e = .returned (.bool true) ∧ Below w.heap.size w w' := by
  have HM := lH hm
  clear hm
  go_enter Tryd.func33, Tryd.ntmps33
  go_wp2_with fail
  refine wp_region_noPanic ?_
  refine wp_region_held_drew (S := fun W => Below w.heap.size w W) (by kernel_rfl) ((Below.refl _ w).drew) (fun hHeld => ?_)
  obtain ⟨V, hV⟩ : ∃ W, W = w.drew := ⟨_, rfl⟩
  rw [← hV]
  have HSV : Hid (Below w.heap.size w V) := lH (by rw [hV]; exact (Below.refl _ w).drew)
  replace hHeld : (fun W => Below w.heap.size w W) V := HSV.out
  clear hV
  refine rdy 0 ⟨some 1, .call ⟨ .value (.func 13), #[], #[]⟩, 26, _, _, none⟩ rfl (fun K hK => ?_)
  go_simp
  refine (refGP V).mono ?_
  rintro e V0 ⟨Ag, cg, ag, Bg, dg, bg, ig, rfl, hq, hbN⟩
  have HSV0 := lH (HSV.out.trans (hbN.mono HSV.out.size))
  obtain rfl : ig = false := hq.inf
  have XGV0 := lH hq
  clear hq
  clear hbN HSV
  go_simp
  refine hK.out _ _ (HSV0.out) (fun hHeld => ?_)
  clear hK K
  try simp only [aP]
  refine tk 1 ⟨some 2, .build 45 #[(0, .const (.int .i64 2)), (3, .tmp 1)], 45, _, _, none⟩ ?_ rfl ?_ hHeld ?_
  rotate_left 1
  · (intro W hW; (try dsimp only at hW); go_simp; try with_reducible rfl)
  try simp only [aP]
  refine rdy 2 ⟨some 3, .call ⟨ .value (.func 29), #[.tmp 2], #[45]⟩, 4, _, _, none⟩ rfl (fun K hK => ?_)
  go_simp
  refine (keyYes V0 (HM.out.under HSV0.out) (An := none) (cn := 0) (ln := []) XGV0.out.x.rd XGV0.out.y.rd XGV0.out.x.dg XGV0.out.y.dg (keyB_pt XGV0.out gP_on)).mono ?_
  rintro e V02 ⟨rfl, hbN⟩
  have HSV02 := lH (HSV0.out.trans (hbN.mono HSV0.out.size))
  clear hbN HSV0 XGV0
  go_simp
  refine hK.out _ _ (HSV02.out) (fun hHeld => ?_)
  clear hK K
  try simp only [aP]
  refine tk 3 ⟨some 4, .move (.tmp 3), 4, _, _, none⟩ ?_ rfl ?_ hHeld ?_
  rotate_left 1
  · (intro W hW; (try dsimp only at hW); go_simp; try with_reducible rfl)
  try simp only [aP]
  refine tk 4 ⟨some 5, .build 26 #[(2, .const (.bool true))], 26, _, _, some (3, true)⟩ ?_ rfl ?_ hHeld ?_
  rotate_left 1
  · (intro W hW; (try dsimp only at hW); go_simp; try with_reducible rfl)
  try simp only [aP]
  refine tk 5 ⟨some 6, .build 45 #[(0, .const (.int .i64 2)), (3, .tmp 5)], 45, _, _, some (3, true)⟩ ?_ rfl ?_ hHeld ?_
  rotate_left 1
  · (intro W hW; (try dsimp only at hW); go_simp; try with_reducible rfl)
  try simp only [aP]
  refine rdy 6 ⟨some 7, .call ⟨ .value (.func 29), #[.tmp 6], #[45]⟩, 4, _, _, some (3, true)⟩ rfl (fun K hK => ?_)
  go_simp
  refine (keyYes V02 (HM.out.under HSV02.out) (An := none) (Ax := none) (Ay := none) (cn := 0) (cx := 0) (cy := 0) (ln := []) (lx := []) (ly := []) (Rd.nil_ _ _ _) (Rd.nil_ _ _ _) (fun x hx => by cases hx) (fun x hx => by cases hx) keyB_inf).mono ?_
  rintro e V026 ⟨rfl, hbN⟩
  have HSV026 := lH (HSV02.out.trans (hbN.mono HSV02.out.size))
  clear hbN HSV02
  go_simp
  refine hK.out _ _ (HSV026.out) (fun hHeld => ?_)
  clear hK K
  try simp only [aP]
  refine tk 7 ⟨some 8, .unOp .not 4 (.tmp 7), 4, _, _, some (3, true)⟩ ?_ rfl ?_ hHeld ?_
  rotate_left 1
  · (intro W hW; (try dsimp only at hW); go_simp; try with_reducible rfl)
  try simp only [aP]
  refine tk 8 ⟨some 9, .pick (.tmp 4) (.tmp 8) (.const (.bool false)), 4, _, _, none⟩ ?_ rfl ?_ hHeld ?_
  rotate_left 1
  · (intro W hW; (try dsimp only at hW); go_simp; try with_reducible rfl)
  try simp only [aP]
  refine tk 9 ⟨some 10, .move (.tmp 9), 4, _, _, none⟩ ?_ rfl ?_ hHeld ?_
  rotate_left 1
  · (intro W hW; (try dsimp only at hW); go_simp; try with_reducible rfl)
  try simp only [aP]
  refine tk 13 ⟨some 14, .build 48 #[], 48, _, _, some (9, true)⟩ ?_ rfl ?_ hHeld ?_
  rotate_left 1
  · (intro W hW; (try dsimp only at hW); go_simp; try with_reducible rfl)
  try simp only [aP]
  refine wpAnyH_ready (rs := [10, 12]) (by kernel_rfl) (by simp) ?_
  refine AllReadyH.cons (o := ⟨some 11, .call ⟨ .value (.func 13), #[], #[]⟩, 26, _, _, some (9, true)⟩) rfl (fun K hK => ?_) ?_
  go_simp
  refine (refGP V026).mono ?_
  rintro e V026a ⟨Ag, cg, ag, Bg, dg, bg, ig, rfl, hq, hbN⟩
  have HSV026a := lH (HSV026.out.trans (hbN.mono HSV026.out.size))
  obtain rfl : ig = false := hq.inf
  have XGV026a := lH hq
  clear hq
  clear hbN HSV026
  go_simp
  refine hK.out _ _ (HSV026a.out) (fun hHeld => ?_)
  clear hK K
  try simp only [aP]
  refine tk 11 ⟨some 12, .build 45 #[(0, .const (.int .i64 2)), (3, .tmp 11)], 45, _, _, some (9, true)⟩ ?_ rfl ?_ hHeld ?_
  rotate_left 1
  · (intro W hW; (try dsimp only at hW); go_simp; try with_reducible rfl)
  try simp only [aP]
  refine rdy 12 ⟨some 13, .makeSlice 46 (.const (.int .i64 32)) (.const (.int .i64 32)), 46, _, _, some (9, true)⟩ rfl (fun K hK => ?_)
  have hmk := make_bytes (32 : Int) 32 rfl (by omega) V026a
  obtain ⟨z, hz⟩ : ∃ z, z = nums .u8 (List.replicate 32 0) := ⟨_, rfl⟩
  rw [← hz] at hmk
  clear hz
  go_simp
  obtain ⟨V026ac, hN⟩ : ∃ W, W = V026a.alloc (.cells z 5) := ⟨_, rfl⟩
  rw [← hN]
  have hbN : Below V026a.heap.size V026a V026ac := by rw [hN]; exact (Below.refl _ _).alloc (Nat.le_refl _) _
  have HSV026ac := lH (HSV026a.out.trans (hbN.mono HSV026a.out.size))
  have XGV026ac := lH (XGV026a.out.under hbN)
  clear hbN hN hmk HSV026a XGV026a
  refine hK.out _ _ (HSV026ac.out) (fun hHeld => ?_)
  clear hK K
  try simp only [aP]
  refine rdy 14 ⟨some 15, .call ⟨ .value (.func 31), #[.tmp 12, .tmp 13, .tmp 14], #[45, 46, 48]⟩, 4, _, _, some (9, true)⟩ rfl (fun K hK => ?_)
  go_simp
  refine (verify_no V026ac (HM.out.under HSV026ac.out) 2 0 (An := none) (Ar := none) (As := none) (cn := 0) (cr := 0) (cs := 0) (nd := 32) (ln := []) (R := []) (S := []) XGV026ac.out.x.rd XGV026ac.out.y.rd XGV026ac.out.x.dg XGV026ac.out.y.dg (Rd.nil_ _ _ _) (Rd.nil_ _ _ _) (by rw [fit_nil, Bool.and_false])).mono ?_
  rintro e V026ace ⟨rfl, hbN⟩
  have HSV026ace := lH (HSV026ac.out.trans (hbN.mono HSV026ac.out.size))
  clear hbN HSV026ac XGV026ac
  go_simp
  refine hK.out _ _ (HSV026ace.out) (fun hHeld => ?_)
  clear hK K
  try simp only [aP]
  refine tk 15 ⟨some 16, .unOp .not 4 (.tmp 15), 4, _, _, some (9, true)⟩ ?_ rfl ?_ hHeld ?_
  rotate_left 1
  · (intro W hW; (try dsimp only at hW); go_simp; try with_reducible rfl)
  try simp only [aP]
  refine tk 16 ⟨some 17, .pick (.tmp 10) (.tmp 16) (.const (.bool false)), 4, _, _, none⟩ ?_ rfl ?_ hHeld ?_
  rotate_left 1
  · (intro W hW; (try dsimp only at hW); go_simp; try with_reducible rfl)
  try simp only [aP]
  refine tk 17 ⟨some 0, .assign (.tmp 17), 4, _, _, none⟩ ?_ rfl ?_ hHeld ?_
  rotate_left 1
  · (intro W hW; (try dsimp only at hW); go_simp; try with_reducible rfl)
  try simp only [aP]
  refine wpAnyH_done (by kernel_rfl) ?_ _
  refine NoPanic.normal ?_
  go_wp2_with fail
  go_ret
  exact ⟨rfl, HSV026ace.out⟩
  refine AllReadyH.cons (o := ⟨some 13, .makeSlice 46 (.const (.int .i64 32)) (.const (.int .i64 32)), 46, _, _, some (9, true)⟩) rfl (fun K hK => ?_) AllReadyH.nil
  have hmk := make_bytes (32 : Int) 32 rfl (by omega) V026
  obtain ⟨z, hz⟩ : ∃ z, z = nums .u8 (List.replicate 32 0) := ⟨_, rfl⟩
  rw [← hz] at hmk
  clear hz
  go_simp
  obtain ⟨V026c, hN⟩ : ∃ W, W = V026.alloc (.cells z 5) := ⟨_, rfl⟩
  rw [← hN]
  have hbN : Below V026.heap.size V026 V026c := by rw [hN]; exact (Below.refl _ _).alloc (Nat.le_refl _) _
  have HSV026c := lH (HSV026.out.trans (hbN.mono HSV026.out.size))
  clear hbN hN hmk HSV026
  refine hK.out _ _ (HSV026c.out) (fun hHeld => ?_)
  clear hK K
  try simp only [aP]
  refine rdy 10 ⟨some 11, .call ⟨ .value (.func 13), #[], #[]⟩, 26, _, _, some (9, true)⟩ rfl (fun K hK => ?_)
  go_simp
  refine (refGP V026c).mono ?_
  rintro e V026ca ⟨Ag, cg, ag, Bg, dg, bg, ig, rfl, hq, hbN⟩
  have HSV026ca := lH (HSV026c.out.trans (hbN.mono HSV026c.out.size))
  obtain rfl : ig = false := hq.inf
  have XGV026ca := lH hq
  clear hq
  clear hbN HSV026c
  go_simp
  refine hK.out _ _ (HSV026ca.out) (fun hHeld => ?_)
  clear hK K
  try simp only [aP]
  refine tk 11 ⟨some 12, .build 45 #[(0, .const (.int .i64 2)), (3, .tmp 11)], 45, _, _, some (9, true)⟩ ?_ rfl ?_ hHeld ?_
  rotate_left 1
  · (intro W hW; (try dsimp only at hW); go_simp; try with_reducible rfl)
  try simp only [aP]
  refine rdy 14 ⟨some 15, .call ⟨ .value (.func 31), #[.tmp 12, .tmp 13, .tmp 14], #[45, 46, 48]⟩, 4, _, _, some (9, true)⟩ rfl (fun K hK => ?_)
  go_simp
  refine (verify_no V026ca (HM.out.under HSV026ca.out) 2 0 (An := none) (Ar := none) (As := none) (cn := 0) (cr := 0) (cs := 0) (nd := 32) (ln := []) (R := []) (S := []) XGV026ca.out.x.rd XGV026ca.out.y.rd XGV026ca.out.x.dg XGV026ca.out.y.dg (Rd.nil_ _ _ _) (Rd.nil_ _ _ _) (by rw [fit_nil, Bool.and_false])).mono ?_
  rintro e V026cae ⟨rfl, hbN⟩
  have HSV026cae := lH (HSV026ca.out.trans (hbN.mono HSV026ca.out.size))
  clear hbN HSV026ca XGV026ca
  go_simp
  refine hK.out _ _ (HSV026cae.out) (fun hHeld => ?_)
  clear hK K
  try simp only [aP]
  refine tk 15 ⟨some 16, .unOp .not 4 (.tmp 15), 4, _, _, some (9, true)⟩ ?_ rfl ?_ hHeld ?_
  rotate_left 1
  · (intro W hW; (try dsimp only at hW); go_simp; try with_reducible rfl)
  try simp only [aP]
  refine tk 16 ⟨some 17, .pick (.tmp 10) (.tmp 16) (.const (.bool false)), 4, _, _, none⟩ ?_ rfl ?_ hHeld ?_
  rotate_left 1
  · (intro W hW; (try dsimp only at hW); go_simp; try with_reducible rfl)
  try simp only [aP]
  refine tk 17 ⟨some 0, .assign (.tmp 17), 4, _, _, none⟩ ?_ rfl ?_ hHeld ?_
  rotate_left 1
  · (intro W hW; (try dsimp only at hW); go_simp; try with_reducible rfl)
  try simp only [aP]
  refine wpAnyH_done (by kernel_rfl) ?_ _
  refine NoPanic.normal ?_
  go_wp2_with fail
  go_ret
  exact ⟨rfl, HSV026cae.out⟩
end Go.Proofs.YtflfdglpljodbaaDoor
namespace Go.Proofs.YtflfdglpljodbaaDoor
open Go.RowKit
set_option linter.unusedVariables false
set_option linter.unusedSimpArgs false
theorem rd_set {W : World} {B : Nat} {A : Option Addr} {c : Nat} {l : List Nat} (h : Rd .u32 W B A c l) {g : Nat} {t : TypeId} {cs : Array Value} (hg : Holds W g t cs) (hs : ∀ (j : Nat) (x : Int), cs[j]? ≠ some (.int .u32 x)) (i : Nat) (p : Value) : Rd .u32 (W.setCell ⟨g, i, none⟩ p) B A c l := by
  refine ⟨h.1, h.2.1, fun h0 => ?_⟩
  obtain ⟨b, off, hA, hb, hc⟩ := h.2.2 h0
  have hne : b ≠ g := by
    rintro rfl
    have := hc 0 h0
    rw [Nat.add_zero, hg.cell off] at this
    exact hs _ _ this
  refine ⟨b, off, hA, hb, fun j hj => ?_⟩
  rw [show (W.setCell ⟨g, i, none⟩ p).cell? ⟨b, off + j, none⟩ = W.cell? ⟨b, off + j, none⟩ by simp only [World.cell?]; rw [Below.heap_setCell W ⟨g, i, none⟩ p b hne]]
  exact hc j hj
theorem no_nums2 {A1 A2 : Option Addr} {n1 c1 n2 c2 : Nat} : ∀ (j : Nat) (x : Int), (#[Value.slice A1 n1 c1, .slice A2 n2 c2])[j]? ≠ some (.int .u32 x) := by
  intro j x
  rcases j with _ | _ | j <;> simp
theorem set2 {w : World} {g : Nat} {t : TypeId} {a b : Value} (h : Holds w g t #[a, b]) (p q : Value) : Holds ((w.setCell ⟨g, 0, none⟩ p).setCell ⟨g, 1, none⟩ q) g t #[p, q] := (h.stored 0 p).stored 1 q
theorem below2 {B : Nat} {a w : World} (h : Below B a w) {g : Nat} (hg : B ≤ g) (p q : Value) : Below B a ((w.setCell ⟨g, 0, none⟩ p).setCell ⟨g, 1, none⟩ q) := (h.setCell (p := ⟨g, 0, none⟩) hg p).setCell (p := ⟨g, 1, none⟩) hg q
theorem rd_set2 {W : World} {A : Option Addr} {c : Nat} {l : List Nat} (h : Rd .u32 W W.heap.size A c l) {g : Nat} {t : TypeId} {A1 A2 : Option Addr} {n1 c1 n2 c2 n3 c3 : Nat} {A3 : Option Addr} (hg : Holds W g t #[.slice A1 n1 c1, .slice A2 n2 c2]) (q : Value) : Rd .u32 ((W.setCell ⟨g, 0, none⟩ (.slice A3 n3 c3)).setCell ⟨g, 1, none⟩ q) ((W.setCell ⟨g, 0, none⟩ (.slice A3 n3 c3)).setCell ⟨g, 1, none⟩ q).heap.size A c l := by
  have h1 := rd_set h hg no_nums2 0 (.slice A3 n3 c3)
  have h2 := rd_set h1 (hg.stored 0 (.slice A3 n3 c3)) no_nums2 1 q
  simpa [World.setCell] using h2
theorem ret_pair {R : Ending → World → Prop} {tmps : Array Value} {w : World} {g : Nat} {t : TypeId} {cs : Array Value} {v : Value} {fn : Func} {p u : Tmp}
    (hr : fn.results = #[.cell p 48, .tmp u]) (hp : tmps.getD p undef = .pointer (some ⟨g, 0, none⟩)) (hu : tmps.getD u undef = v) (hg : Holds w g t cs) (hcs : cs.size = 2) (hR : R (.returned (.tuple #[.agg cs, v])) w) :
    bodyPost Tryd.prog fn R .ret { tmps := tmps, defers := [] } w := by
  have hi : (Tryd.prog.info? 48).map (·.size) = some cs.size := by rw [hcs]; kernel_rfl
  exact bodyPost_ret (v := .tuple #[.agg cs, v]) (results_row_tmp hr _ _ g t cs (0, 0) _ hp hg Tryd.underlying48 rfl hi _ hu) rfl hR
theorem ret_key {R : Ending → World → Prop} {tmps : Array Value} {w : World} {g : Nat} {t : TypeId} {cs : Array Value} {fn : Func} {p : Tmp}
    (hr : fn.results = #[.cell p 45]) (hp : tmps.getD p undef = .pointer (some ⟨g, 0, none⟩)) (hg : Holds w g t cs) (hcs : cs.size = 6) (hR : R (.returned (.agg cs)) w) :
    bodyPost Tryd.prog fn R .ret { tmps := tmps, defers := [] } w := by
  have hi : (Tryd.prog.info? 45).map (·.size) = some cs.size := by rw [hcs]; kernel_rfl
  refine bodyPost_ret (v := .agg cs) ?_ rfl hR
  have hp' : tmps[p]?.getD undef = .pointer (some ⟨g, 0, none⟩) := by simpa using hp
  simp [results, hr, hp', asAddr, run_loadVar_row w g t _ cs (0, 0) _ hg Tryd.underlying45 rfl hi, Result.andThen]
def SignP (a : Luc.F) (d z k : Nat) (w : World) (e : Ending) (w' : World) : Prop :=
  ∃ (Ar : Option Addr) (cr : Nat) (R : List Nat) (As : Option Addr) (cs : Nat) (S : List Nat) (y : Nat), e = .returned (.tuple #[.agg #[.slice Ar R.length cr, .slice As S.length cs], .bool (decide (0 < R.length) && decide (0 < S.length))]) ∧ NumIs R (a.val % val lN) ∧ (y < val lN ∧ k * y % val lN = 1) ∧ NumIs S (y * ((z + a.val % val lN * d % val lN) % val lN) % val lN) ∧ Rd .u32 w' w'.heap.size Ar cr R ∧ Rd .u32 w' w'.heap.size As cs S ∧ Below w.heap.size w w'
theorem addQ' (w : World) {A A' : Option Addr} {c c' g : Nat} {l l' : List Nat} (hr : Rd .u32 w w.heap.size A c l) (hr' : Rd .u32 w w.heap.size A' c' l') (hN : Rd .u32 w w.heap.size (some ⟨g, 0, none⟩) 8 lN) (hd : Dg l) (hd' : Dg l') (hs : l.length ≤ 1000) (hs' : l'.length ≤ 1000) :
    Calls Tryd.prog 27 #[.slice A l.length c, .slice A' l'.length c', .slice (some ⟨g, 0, none⟩) 8 8] w (LeftR w ((val l + val l') % val lN)) :=
  add8_yes w A A' (some ⟨g, 0, none⟩) c c' 8 l l' lN hr hr' hN hd hd' lN_ok.1 hs hs' (by rw [lN_ok.2.2]; omega) N_ne lN_ok.2.1
theorem sign_any (w : World) {A Ad Ak : Option Addr} {c cd ck nd : Nat} {X dg K : List Nat} {a b : Luc.F} (hX : Rd .u32 w w.heap.size A c X) (hXd : Dg X) (hXl : X.length ≤ 8) (hD : Rd .u8 w w.heap.size Ad cd dg) (hnd : dg.length = nd) (ho : Oct dg.reverse) (hK : Rd .u32 w w.heap.size Ak ck K) (hKd : Dg K) (hKf : fitB K = true) (hP : Luc.nmul gP (val K) = some (a, b)) :
    Calls Tryd.prog 35 #[.slice A X.length c, .slice Ad nd cd, .slice Ak K.length ck] w (SignP a (val X) (val (numOf dg)) (val K) w) := by
  obtain ⟨W0, hw0⟩ : ∃ W, W = w.alloc (.cells #[.slice none 0 0, .slice none 0 0] 48) := ⟨_, rfl⟩
  have hb : Below w.heap.size w W0 := by rw [hw0]; exact (Below.refl _ _).alloc (Nat.le_refl _) _
  have RB0 : Hid (Holds W0 w.heap.size 48 #[.slice none 0 0, .slice none 0 0]) := lH (by rw [hw0]; exact Holds.fresh w _ _)
  have HB0 := lH hb
  have RX0 := lH ((hX.under hb).more hb.size)
  have RD0 := lH ((hD.under hb).more hb.size)
  have RK0 := lH ((hK.under hb).more hb.size)
  have HW := lH hw0
  have HXD := lH hXd
  have HXL := lH hXl
  have HND := lH hnd
  have HO := lH ho
  have HKD := lH hKd
  have HKF := lH hKf
  have HKN : Hid (nrm K) := lH (fit_facts hKf hKd).1
  have HKL : Hid (K.length ≤ 8) := lH (fit_facts hKf hKd).2.2.2
  have HP := lH hP
  clear hw0 hb hX hXd hXl hD hnd ho hK hKd hKf hP
  go_enter Tryd.func35, Tryd.ntmps35
  go_wp2_with fail
  rw [← HW.out]
  clear HW
  refine (refN_any W0).mono ?_
  rintro e W1 ⟨gn, hgn, rfl, hN, hb⟩
  have HB1 := lH (HB0.out.trans (hb.mono HB0.out.size))
  have RB1 := lH (RB0.out.under hb (Holds.lt RB0.out))
  have RX1 := lH ((RX0.out.under hb).more hb.size)
  have RD1 := lH ((RD0.out.under hb).more hb.size)
  have RK1 := lH ((RK0.out.under hb).more hb.size)
  clear hb HB0 RB0 RX0 RD0 RK0
  have HN1 := lH (Eight.rd hN rfl)
  clear hN hgn
  go_wp2_with fail
  refine (refGP W1).mono ?_
  rintro e W2 ⟨Ag, cg, ag, Bg, dg_, bg, ig, rfl, hq, hb⟩
  have HB2 := lH (HB1.out.trans (hb.mono HB1.out.size))
  have RB2 := lH (RB1.out.under hb (Holds.lt RB1.out))
  have RX2 := lH ((RX1.out.under hb).more hb.size)
  have RD2 := lH ((RD1.out.under hb).more hb.size)
  have RK2 := lH ((RK1.out.under hb).more hb.size)
  have HN2 := lH ((HN1.out.under hb).more hb.size)
  clear hb HB1 RB1 RX1 RD1 RK1 HN1
  have Vg2 := lH hq
  clear hq
  go_wp2_with fail
  refine (timesRP W2 RK2.out HKD.out (by have := HKL.out; omega) HKN.out Vg2.out gP_on).mono ?_
  rintro e W3 ⟨Ap, cp, ap, Bp, dp, bp, ip, rfl, hq, hb⟩
  have HB3 := lH (HB2.out.trans (hb.mono HB2.out.size))
  have RB3 := lH (RB2.out.under hb (Holds.lt RB2.out))
  have RX3 := lH ((RX2.out.under hb).more hb.size)
  have RD3 := lH ((RD2.out.under hb).more hb.size)
  have RK3 := lH ((RK2.out.under hb).more hb.size)
  have HN3 := lH ((HN2.out.under hb).more hb.size)
  have Vg3 := lH (Vg2.out.under hb)
  clear hb HB2 RB2 RX2 RD2 RK2 HN2 Vg2
  rw [HP.out] at hq
  obtain rfl : ip = false := hq.inf
  have Vp3 := lH hq
  clear hq
  clear Vg3
  obtain ⟨W4, hW⟩ : ∃ W, W = W3.alloc (.cells #[.slice Ap ap.length cp, .slice Bp bp.length dp, .bool false] 26) := ⟨_, rfl⟩
  have HW := lH hW
  have hb : Below W3.heap.size W3 W4 := by rw [hW]; exact (Below.refl _ _).alloc (Nat.le_refl _) _
  clear hW
  have HB4 := lH (HB3.out.trans (hb.mono HB3.out.size))
  have RB4 := lH (RB3.out.under hb (Holds.lt RB3.out))
  have RX4 := lH ((RX3.out.under hb).more hb.size)
  have RD4 := lH ((RD3.out.under hb).more hb.size)
  have RK4 := lH ((RK3.out.under hb).more hb.size)
  have HN4 := lH ((HN3.out.under hb).more hb.size)
  have Vp4 := lH (Vp3.out.under hb)
  clear hb HB3 RB3 RX3 RD3 RK3 HN3 Vp3
  go_wp2_with fail
  rw [← HW.out]
  clear HW
  refine (restN' W4 Vp4.out.x.rd HN4.out Vp4.out.x.dg Vp4.out.x.nrm (by have := Vp4.out.x.le; omega)).mono ?_
  rintro e W5 ⟨Ar, cr, R, rfl, hn, hr, hb⟩
  have HB5 := lH (HB4.out.trans (hb.mono HB4.out.size))
  have RB5 := lH (RB4.out.under hb (Holds.lt RB4.out))
  have RX5 := lH ((RX4.out.under hb).more hb.size)
  have RD5 := lH ((RD4.out.under hb).more hb.size)
  have RK5 := lH ((RK4.out.under hb).more hb.size)
  have HN5 := lH ((HN4.out.under hb).more hb.size)
  have Vp5 := lH (Vp4.out.under hb)
  clear hb HB4 RB4 RX4 RD4 RK4 HN4 Vp4
  rw [Vp5.out.x.val] at hn
  have HLR := lH hn
  have RR5 := lH hr
  clear hn hr
  clear Vp5
  go_wp2_with fail
  refine (invN' W5 RK5.out HN5.out HKD.out HKF.out).mono ?_
  rintro e W6 ⟨y, hy1, hy2, Aw, cw, lw, rfl, hn, hr, hb⟩
  have HB6 := lH (HB5.out.trans (hb.mono HB5.out.size))
  have RB6 := lH (RB5.out.under hb (Holds.lt RB5.out))
  have RX6 := lH ((RX5.out.under hb).more hb.size)
  have RD6 := lH ((RD5.out.under hb).more hb.size)
  have RK6 := lH ((RK5.out.under hb).more hb.size)
  have HN6 := lH ((HN5.out.under hb).more hb.size)
  have RR6 := lH ((RR5.out.under hb).more hb.size)
  clear hb HB5 RB5 RX5 RD5 RK5 HN5 RR5
  have HY1 := lH hy1
  have HY2 := lH hy2
  have HLW : Hid (NumIs lw (y % val lN)) := lH (by rw [Nat.mod_eq_of_lt hy1]; exact hn)
  have RW6 := lH hr
  clear hy1 hy2 hn hr
  go_wp2_with fail
  refine (mulQ' W6 RR6.out RX6.out HN6.out HLR.out.1 HXD.out (by have := num_len8N HLR.out; omega) (by have := HXL.out; omega)).mono ?_
  rintro e W7 ⟨Am, cm, lm, rfl, hn, hr, hb⟩
  have HB7 := lH (HB6.out.trans (hb.mono HB6.out.size))
  have RB7 := lH (RB6.out.under hb (Holds.lt RB6.out))
  have RX7 := lH ((RX6.out.under hb).more hb.size)
  have RD7 := lH ((RD6.out.under hb).more hb.size)
  have RK7 := lH ((RK6.out.under hb).more hb.size)
  have HN7 := lH ((HN6.out.under hb).more hb.size)
  have RR7 := lH ((RR6.out.under hb).more hb.size)
  have RW7 := lH ((RW6.out.under hb).more hb.size)
  clear hb HB6 RB6 RX6 RD6 RK6 HN6 RR6 RW6
  rw [HLR.out.2.2] at hn
  have HLM := lH hn
  have RM7 := lH hr
  clear hn hr
  go_wp2_with fail
  refine (of32' W7 RD7.out HND.out HO.out).mono ?_
  rintro e W8 ⟨Az, cz, rfl, hz, hb⟩
  have HB8 := lH (HB7.out.trans (hb.mono HB7.out.size))
  have RB8 := lH (RB7.out.under hb (Holds.lt RB7.out))
  have RX8 := lH ((RX7.out.under hb).more hb.size)
  have RD8 := lH ((RD7.out.under hb).more hb.size)
  have RK8 := lH ((RK7.out.under hb).more hb.size)
  have HN8 := lH ((HN7.out.under hb).more hb.size)
  have RR8 := lH ((RR7.out.under hb).more hb.size)
  have RW8 := lH ((RW7.out.under hb).more hb.size)
  have RM8 := lH ((RM7.out.under hb).more hb.size)
  clear hb HB7 RB7 RX7 RD7 RK7 HN7 RR7 RW7 RM7
  have RZ8 := lH hz
  clear hz
  go_wp2_with fail
  refine (addQ' W8 RZ8.out RM8.out HN8.out (numOf_dg HO.out) HLM.out.1 (by have := numOf_length dg; omega) (by have := num_len8N HLM.out; omega)).mono ?_
  rintro e W9 ⟨Au, cu, lu, rfl, hn, hr, hb⟩
  have HB9 := lH (HB8.out.trans (hb.mono HB8.out.size))
  have RB9 := lH (RB8.out.under hb (Holds.lt RB8.out))
  have RX9 := lH ((RX8.out.under hb).more hb.size)
  have RD9 := lH ((RD8.out.under hb).more hb.size)
  have RK9 := lH ((RK8.out.under hb).more hb.size)
  have HN9 := lH ((HN8.out.under hb).more hb.size)
  have RR9 := lH ((RR8.out.under hb).more hb.size)
  have RW9 := lH ((RW8.out.under hb).more hb.size)
  have RM9 := lH ((RM8.out.under hb).more hb.size)
  have RZ9 := lH ((RZ8.out.under hb).more hb.size)
  clear hb HB8 RB8 RX8 RD8 RK8 HN8 RR8 RW8 RM8 RZ8
  rw [HLM.out.2.2] at hn
  have HLU := lH hn
  have RU9 := lH hr
  clear hn hr
  go_wp2_with fail
  refine (mulQ' W9 RW9.out RU9.out HN9.out HLW.out.1 HLU.out.1 (by have := num_len8N HLW.out; omega) (by have := num_len8N HLU.out; omega)).mono ?_
  rintro e W10 ⟨As, cs, S, rfl, hn, hr, hb⟩
  have HB10 := lH (HB9.out.trans (hb.mono HB9.out.size))
  have RB10 := lH (RB9.out.under hb (Holds.lt RB9.out))
  have RX10 := lH ((RX9.out.under hb).more hb.size)
  have RD10 := lH ((RD9.out.under hb).more hb.size)
  have RK10 := lH ((RK9.out.under hb).more hb.size)
  have HN10 := lH ((HN9.out.under hb).more hb.size)
  have RR10 := lH ((RR9.out.under hb).more hb.size)
  have RW10 := lH ((RW9.out.under hb).more hb.size)
  have RM10 := lH ((RM9.out.under hb).more hb.size)
  have RZ10 := lH ((RZ9.out.under hb).more hb.size)
  have RU10 := lH ((RU9.out.under hb).more hb.size)
  clear hb HB9 RB9 RX9 RD9 RK9 HN9 RR9 RW9 RM9 RZ9 RU9
  rw [HLW.out.2.2, Nat.mod_eq_of_lt HY1.out, HLU.out.2.2] at hn
  have HLS := lH hn
  have RS10 := lH hr
  clear hn hr
  clear RX10 RD10 RK10 HN10 RW10 RM10 RZ10 RU10
  by_cases qR : 0 < R.length
  · by_cases qS : 0 < S.length
    · have nR : decide ((0 : Int) < (R.length : Int)) = true := decide_eq_true (by omega)
      have mR : decide (0 < R.length) = true := decide_eq_true (by omega)
      have nS : decide ((0 : Int) < (S.length : Int)) = true := decide_eq_true (by omega)
      have mS : decide (0 < S.length) = true := decide_eq_true (by omega)
      have hbv : (decide (0 < R.length) && decide (0 < S.length)) = true := by rw [mR, mS]; rfl
      have HBV := lH hbv
      clear hbv qR qS
      have z0 := RB10.out.cell 0
      have z1 := RB10.out.cell 1
      have o0 := RB10.out.open_ 0
      have o1 := RB10.out.open_ 1
      go_wp2_with fail
      exact ret_pair (g := w.heap.size) rfl rfl rfl (set2 RB10.out (.slice Ar R.length cr) (.slice As S.length cs)) rfl ⟨Ar, cr, R, As, cs, S, y, by rw [HBV.out]; rfl, HLR.out, ⟨HY1.out, HY2.out⟩, HLS.out, rd_set2 RR10.out RB10.out _, rd_set2 RS10.out RB10.out _, below2 HB10.out (Nat.le_refl _) _ _⟩
    · have nR : decide ((0 : Int) < (R.length : Int)) = true := decide_eq_true (by omega)
      have mR : decide (0 < R.length) = true := decide_eq_true (by omega)
      have nS : decide ((0 : Int) < (S.length : Int)) = false := decide_eq_false (by omega)
      have mS : decide (0 < S.length) = false := decide_eq_false (by omega)
      have hbv : (decide (0 < R.length) && decide (0 < S.length)) = false := by rw [mR, mS]; rfl
      have HBV := lH hbv
      clear hbv qR qS
      have z0 := RB10.out.cell 0
      have z1 := RB10.out.cell 1
      have o0 := RB10.out.open_ 0
      have o1 := RB10.out.open_ 1
      go_wp2_with fail
      exact ret_pair (g := w.heap.size) rfl rfl rfl (set2 RB10.out (.slice Ar R.length cr) (.slice As S.length cs)) rfl ⟨Ar, cr, R, As, cs, S, y, by rw [HBV.out]; rfl, HLR.out, ⟨HY1.out, HY2.out⟩, HLS.out, rd_set2 RR10.out RB10.out _, rd_set2 RS10.out RB10.out _, below2 HB10.out (Nat.le_refl _) _ _⟩
  · have nR : decide ((0 : Int) < (R.length : Int)) = false := decide_eq_false (by omega)
    have mR : decide (0 < R.length) = false := decide_eq_false (by omega)
    have hbv : (decide (0 < R.length) && decide (0 < S.length)) = false := by rw [mR]; rfl
    have HBV := lH hbv
    clear hbv qR 
    have z0 := RB10.out.cell 0
    have z1 := RB10.out.cell 1
    have o0 := RB10.out.open_ 0
    have o1 := RB10.out.open_ 1
    go_wp2_with fail
    exact ret_pair (g := w.heap.size) rfl rfl rfl (set2 RB10.out (.slice Ar R.length cr) (.slice As S.length cs)) rfl ⟨Ar, cr, R, As, cs, S, y, by rw [HBV.out]; rfl, HLR.out, ⟨HY1.out, HY2.out⟩, HLS.out, rd_set2 RR10.out RB10.out _, rd_set2 RS10.out RB10.out _, below2 HB10.out (Nat.le_refl _) _ _⟩
theorem set6 {w : World} {g : Nat} {t : TypeId} {a b c d e f : Value} (h : Holds w g t #[a, b, c, d, e, f]) (p0 p1 p2 p3 p4 p5 : Value) : Holds ((((((w.setCell ⟨g, 0, none⟩ p0).setCell ⟨g, 1, none⟩ p1).setCell ⟨g, 2, none⟩ p2).setCell ⟨g, 3, none⟩ p3).setCell ⟨g, 4, none⟩ p4).setCell ⟨g, 5, none⟩ p5) g t #[p0, p1, p2, p3, p4, p5] := (((((h.stored 0 p0).stored 1 p1).stored 2 p2).stored 3 p3).stored 4 p4).stored 5 p5
theorem below6 {B : Nat} {a w : World} (h : Below B a w) {g : Nat} (hg : B ≤ g) (p0 p1 p2 p3 p4 p5 : Value) : Below B a ((((((w.setCell ⟨g, 0, none⟩ p0).setCell ⟨g, 1, none⟩ p1).setCell ⟨g, 2, none⟩ p2).setCell ⟨g, 3, none⟩ p3).setCell ⟨g, 4, none⟩ p4).setCell ⟨g, 5, none⟩ p5) := (((((h.setCell (p := ⟨g, 0, none⟩) hg p0).setCell (p := ⟨g, 1, none⟩) hg p1).setCell (p := ⟨g, 2, none⟩) hg p2).setCell (p := ⟨g, 3, none⟩) hg p3).setCell (p := ⟨g, 4, none⟩) hg p4).setCell (p := ⟨g, 5, none⟩) hg p5
theorem rd_sides {W W' : World} {g : Nat} {t : TypeId} {cs : Array Value} {A : Option Addr} {c : Nat} {l : List Nat} (h : Rd .u32 W W.heap.size A c l) (hn : nrm l) (hg : Holds W g t cs) (hs : ∀ (j : Nat) (x : Int), cs[j]? = some (.int .u32 x) → x = 0) (h1 : W.heap.size ≤ W'.heap.size) (hk : ∀ q, q ≠ g → W'.heap[q]? = W.heap[q]?) : Rd .u32 W' W'.heap.size A c l := by
  refine ⟨h.1, h.2.1, fun h0 => ?_⟩
  obtain ⟨b, off, hA, hb, hc⟩ := h.2.2 h0
  have hne : b ≠ g := by
    rintro rfl
    have hl := hc (l.length - 1) (by omega)
    rw [hg.cell] at hl
    have hz := hs _ _ hl
    rcases hn with e | e
    · omega
    · exact e (by exact_mod_cast hz)
  refine ⟨b, off, hA, by omega, fun j hj => ?_⟩
  rw [show W'.cell? ⟨b, off + j, none⟩ = W.cell? ⟨b, off + j, none⟩ by simp only [World.cell?]; rw [hk b hne]]
  exact hc j hj
theorem key_zero : ∀ (j : Nat) (x : Int), (#[.int .i64 0, .slice none 0 0, .int .u32 0, .slice none 0 0, .slice none 0 0, .bool false] : Array Value)[j]? = some (.int .u32 x) → x = 0 := by
  intro j x h
  rcases j with _ | _ | _ | _ | _ | _ | j <;> simp_all
theorem rd_set6 {W : World} {A A1 A2 : Option Addr} {c c1 c2 n1 n2 : Nat} {l : List Nat} {bi : Bool} {g : Nat} {t : TypeId} (h : Rd .u32 W W.heap.size A c l) (hd : Dg l) (hn : nrm l) (hg : Holds W g t #[.int .i64 0, .slice none 0 0, .int .u32 0, .slice none 0 0, .slice none 0 0, .bool false]) : Rd .u32 ((((((W.setCell ⟨g, 0, none⟩ (.int .i64 2)).setCell ⟨g, 1, none⟩ (.slice none 0 0)).setCell ⟨g, 2, none⟩ (.int .u32 0)).setCell ⟨g, 3, none⟩ (.slice A1 n1 c1)).setCell ⟨g, 4, none⟩ (.slice A2 n2 c2)).setCell ⟨g, 5, none⟩ (.bool bi)) ((((((W.setCell ⟨g, 0, none⟩ (.int .i64 2)).setCell ⟨g, 1, none⟩ (.slice none 0 0)).setCell ⟨g, 2, none⟩ (.int .u32 0)).setCell ⟨g, 3, none⟩ (.slice A1 n1 c1)).setCell ⟨g, 4, none⟩ (.slice A2 n2 c2)).setCell ⟨g, 5, none⟩ (.bool bi)).heap.size A c l :=
  rd_sides h hn hg key_zero (by simp [World.setCell]) fun q hq => by
    rw [Below.heap_setCell _ ⟨g, 5, none⟩ _ q hq, Below.heap_setCell _ ⟨g, 4, none⟩ _ q hq, Below.heap_setCell _ ⟨g, 3, none⟩ _ q hq, Below.heap_setCell _ ⟨g, 2, none⟩ _ q hq, Below.heap_setCell _ ⟨g, 1, none⟩ _ q hq, Below.heap_setCell _ ⟨g, 0, none⟩ _ q hq]
def KeyPost (Q : Luc.Pt) (w : World) (e : Ending) (w' : World) : Prop :=
  ∃ (Ap : Option Addr) (cp : Nat) (ap : List Nat) (Bp : Option Addr) (dp : Nat) (bp : List Nat) (ip : Bool), e = .returned (.agg #[.int .i64 2, .slice none 0 0, .int .u32 0, .slice Ap ap.length cp, .slice Bp bp.length dp, .bool ip]) ∧ PtV Q w' Ap cp ap Bp dp bp ip ∧ Below w.heap.size w w'
theorem key_any (w : World) {A : Option Addr} {c : Nat} {X : List Nat} (hX : Rd .u32 w w.heap.size A c X) (hXd : Dg X) (hXl : X.length ≤ 8) (hXn : nrm X) :
    Calls Tryd.prog 36 #[.slice A X.length c] w (KeyPost (Luc.nmul gP (val X)) w) := by
  obtain ⟨W0, hw0⟩ : ∃ W, W = w.alloc (.cells #[.int .i64 0, .slice none 0 0, .int .u32 0, .slice none 0 0, .slice none 0 0, .bool false] 45) := ⟨_, rfl⟩
  have hb : Below w.heap.size w W0 := by rw [hw0]; exact (Below.refl _ _).alloc (Nat.le_refl _) _
  have RB0 : Hid (Holds W0 w.heap.size 45 #[.int .i64 0, .slice none 0 0, .int .u32 0, .slice none 0 0, .slice none 0 0, .bool false]) := lH (by rw [hw0]; exact Holds.fresh w _ _)
  have HB0 := lH hb
  have RX0 := lH ((hX.under hb).more hb.size)
  have HW := lH hw0
  have HXD := lH hXd
  have HXL := lH hXl
  have HXN := lH hXn
  clear hw0 hb hX hXd hXl hXn
  go_enter Tryd.func36, Tryd.ntmps36
  go_wp2_with fail
  rw [← HW.out]
  clear HW
  refine (refGP W0).mono ?_
  rintro e W1 ⟨Ag, cg, ag, Bg, dg_, bg, ig, rfl, hq, hb⟩
  have HB1 := lH (HB0.out.trans (hb.mono HB0.out.size))
  have RB1 := lH (RB0.out.under hb (Holds.lt RB0.out))
  have RX1 := lH ((RX0.out.under hb).more hb.size)
  clear hb HB0 RB0 RX0
  have Vg1 := lH hq
  clear hq
  go_wp2_with fail
  refine (timesRP W1 RX1.out HXD.out (by have := HXL.out; omega) HXN.out Vg1.out gP_on).mono ?_
  rintro e W2 ⟨Ap, cp, ap, Bp, dp, bp, ip, rfl, hq, hb⟩
  have HB2 := lH (HB1.out.trans (hb.mono HB1.out.size))
  have RB2 := lH (RB1.out.under hb (Holds.lt RB1.out))
  have RX2 := lH ((RX1.out.under hb).more hb.size)
  have Vg2 := lH (Vg1.out.under hb)
  clear hb HB1 RB1 RX1 Vg1
  have Vp2 := lH hq
  clear hq
  clear Vg2 RX2
  have z0 := RB2.out.cell 0
  have o0 := RB2.out.open_ 0
  have z1 := RB2.out.cell 1
  have o1 := RB2.out.open_ 1
  have z2 := RB2.out.cell 2
  have o2 := RB2.out.open_ 2
  have z3 := RB2.out.cell 3
  have o3 := RB2.out.open_ 3
  have z4 := RB2.out.cell 4
  have o4 := RB2.out.open_ 4
  have z5 := RB2.out.cell 5
  have o5 := RB2.out.open_ 5
  go_wp2_with fail
  exact ret_key (g := w.heap.size) rfl rfl (set6 RB2.out _ _ _ _ _ _) rfl ⟨Ap, cp, ap, Bp, dp, bp, ip, rfl, ⟨Vp2.out.inf, ⟨rd_set6 Vp2.out.x.rd Vp2.out.x.dg Vp2.out.x.nrm RB2.out, Vp2.out.x.num⟩, ⟨rd_set6 Vp2.out.y.rd Vp2.out.y.dg Vp2.out.y.nrm RB2.out, Vp2.out.y.num⟩⟩, below6 HB2.out (Nat.le_refl _) _ _ _ _ _ _⟩
end Go.Proofs.YtflfdglpljodbaaDoor
namespace Go.Proofs.YtflfdglpljodbaaDoor
open Go.RowKit
set_option linter.unusedVariables false
set_option linter.unusedSimpArgs false
theorem nmul_some {k : Nat} (h0 : 0 < k) (hk : k < Luc.cNn) : ∃ a b : Luc.F, Luc.nmul gP k = some (a, b) := by
  rcases h : Luc.nmul gP k with _ | ⟨a, b⟩
  · exfalso
    obtain ⟨x, _, hx⟩ := inv_ex Luc.cNn_prime (a := k) (fun hd => absurd (Nat.le_of_dvd h0 hd) (by omega))
    have h1 := Luc.nmul_mod gP_on gP_order (k * x)
    rw [hx, Luc.nmul_mul gP_on, h, Luc.nmul_none] at h1
    have h2 : Luc.nmul gP 1 = gP := rfl
    rw [h2] at h1
    cases h1
  · exact ⟨a, b, rfl⟩
theorem fit_one {k : Nat} (h0 : 0 < k) : fitB [k] = true := by
  have h1 : okN [k] = true := by simp [okN, List.getD]; omega
  have h2 : cmpL [k] lN < 0 := by unfold cmpL; rw [if_pos (by rw [lN_ok.2.2]; simp)]; omega
  unfold fitB
  rw [h1, decide_eq_true h2]
  simp
theorem fit_big {l : List Nat} {v : Nat} (h : NumIs l v) (hv : val lN ≤ v) : fitB l = false := by
  unfold fitB
  rw [cmpL_val h.1 lN_ok.1 h.2.1 lN_ok.2.1, h.2.2, if_neg (by omega)]
  split <;> simp
theorem fit_lN : fitB lN = false := fit_big ⟨lN_ok.1, lN_ok.2.1, rfl⟩ (Nat.le_refl _)
theorem fit_zero (l : List Nat) : fitB (l ++ [0]) = false := by
  have : okN (l ++ [0]) = false := by simp [okN, List.getD]
  unfold fitB
  rw [this]
  rfl
theorem keyB_e {lx ly : List Nat} {inf : Bool} {ln : List Nat} : keyB 2 ln 3 lx ly inf = false := by simp [keyB]
theorem keyB_n {lx ly : List Nat} {inf : Bool} {en : Int} : keyB 2 [1] en lx ly inf = false := by simp [keyB]
theorem lN_cN {k : Nat} (h : k < 4294967296) : k < Luc.cNn := Nat.lt_trans h (by decide)
theorem vals_fromC {k : IntKind} {w : World} {B : Nat} {A : Option Addr} {c : Nat} {l : List Nat} (hr : Rd k w B A c l) (h : 0 < l.length) : ∃ ad, A = some ad ∧ ∀ j v, (vals k l)[j]? = some v → w.cell? (ad.add j) = some v := by
  obtain ⟨b, off, rfl, hb, hc⟩ := hr.2.2 h
  refine ⟨_, rfl, fun j v hv => ?_⟩
  have hj : j < l.length := by
    have := (List.getElem?_eq_some_iff.1 hv).1
    simpa [vals] using this
  have ha : (⟨b, off, none⟩ : Addr).add j = ⟨b, off + j, none⟩ := by unfold Addr.add; split <;> simp_all
  rw [ha, hc j hj, ← hv]
  simp [vals, List.getD, hj]
section
variable {P : Program} (w : World) {ops : Array Oper} {rest : List Oper} {o : Oper} {a : Act} {Q : Exit → Act → World → Prop}
theorem wpList_join (hgd : o.guard = none) (s x : Operand) (t : TypeId) (ho : o.op = .call { callee := .builtin .append, args := #[s, x], argTypes := #[t, t] })
    (k : IntKind) (B : Nat) (e : TypeId) (bytes : Nat) (ht : P.underlying t = some (.slice e)) (hi : (P.info? e).map (fun i => (i.zero, i.size, i.bytes)) = some (some (.int k 0), 1, bytes))
    (A : Option Addr) (n c : Nat) (l : List Nat) (hs : a.eval s = .slice A n c) (hn : l.length = n) (hown : Own k e w B A c l)
    (A2 : Option Addr) (B2 m c2 : Nat) (news : List Nat) (hx : a.eval x = .slice A2 m c2) (hm : news.length = m) (hg : Rd k w B2 A2 c2 news) (hm0 : 0 < m) (hsz : n + m ≤ 100000000) (hby : bytes ≤ 8) (hB : B ≤ w.heap.size)
    (hK : ∀ g' c' w', Own k e w' B (some ⟨g', 0, none⟩) c' (l ++ news) → w.grownBy w' (blockOf A) → (blockOf A = some g' ∨ g' = w.heap.size) → wpList P ops Q rest (a.put o.dst (.slice (some ⟨g', 0, none⟩) (n + m) c')) w') :
    wpList P ops Q (o :: rest) a w := by
  subst hn; subst hm
  obtain ⟨i, hi', hz, hsize, hbytes⟩ := info_parts hi
  obtain ⟨ad, rfl, hnews⟩ := vals_fromC hg hm0
  refine wpList_append_lies w hgd s x t ho B e i (.int k 0) 1 bytes ht hi' hz hsize hbytes rfl (by omega) (.slice A l.length c) l.length (vals k l) hs hown ad news.length c2 (vals k news) hx (by rw [vals_length]; omega)
    hnews (vals_one k news) hm0 (by unfold maxLen; omega)
    (Nat.le_trans (Nat.mul_le_mul hsz hby) (by omega)) hB w.heap.size rfl ?_
  intro g' cap w' hown' hgr hat hlt
  rw [ownBlock_eq] at hgr hat
  refine hK g' cap w' ?_ hgr hat
  unfold Own
  rw [List.length_append, ← vals_append]
  exact hown'
end
theorem rd_keyset {W : World} {A A1 A2 : Option Addr} {c c1 c2 n1 n2 : Nat} {l : List Nat} {bi : Bool} {g : Nat} {t : TypeId} (h : Rd .u32 W W.heap.size A c l) (hn : nrm l) (hg : Holds W g t #[.int .i64 2, .slice none 0 0, .int .u32 0, .slice A1 n1 c1, .slice A2 n2 c2, .bool bi]) (i : Nat) (p : Value) : Rd .u32 (W.setCell ⟨g, i, none⟩ p) (W.setCell ⟨g, i, none⟩ p).heap.size A c l := by
  refine rd_sides h (cs := #[.int .i64 2, .slice none 0 0, .int .u32 0, .slice A1 n1 c1, .slice A2 n2 c2, .bool bi]) hn hg ?_ (by simp [World.setCell]) fun q hq => Below.heap_setCell _ ⟨g, i, none⟩ _ q hq
  intro j x h
  rcases j with _ | _ | _ | _ | _ | _ | j <;> simp_all
theorem val_one (x : Nat) : val [x] = x := by simp [val]
theorem law_range (w : World) (hm : CMet w) (way : Int) (sec : Nat) (h4 : sec < 4294967296) {At : Option Addr} {nt ct : Nat} {lt : List Nat} (hT : Rd .u8 w w.heap.size At ct lt) (hnt : lt.length = nt) (hot : ∀ x ∈ lt, x < 256) :
    Calls Tryd.prog 10 #[.int .i64 way, .int .u32 (sec : Int), .slice At nt ct] w fun e w' => e = .returned (.bool true) ∧ Below w.heap.size w w' := by
  by_cases q0 : sec = 0
  · subst q0
    go_enter Tryd.func10, Tryd.ntmps10
    go_wp2_with fail
    go_ret
    exact ⟨rfl, Below.refl _ _⟩
  have n0 : (((sec : Nat) : Int) == 0) = false := beq_eq_false_iff_ne.2 (by omega)
  have m0 : (sec == 0) = false := beq_eq_false_iff_ne.2 q0
  by_cases q1 : 300 < nt
  · have n1 : decide ((300 : Int) < (nt : Int)) = true := decide_eq_true (by omega)
    have m1 : decide (300 < nt) = true := decide_eq_true q1
    clear hT hnt hot q0 q1
    go_enter Tryd.func10, Tryd.ntmps10
    go_wp2_with fail
    go_ret
    exact ⟨rfl, Below.refl _ _⟩
  have n1 : decide ((300 : Int) < (nt : Int)) = false := decide_eq_false (by omega)
  have m1 : decide (300 < nt) = false := decide_eq_false q1
  have HNT := lH hnt
  have HLT : Hid (nt ≤ 300) := lH (by omega)
  have HOT : Hid (Oct6 lt) := lH (oct6_of hot)
  have HS0 : Hid (0 < sec) := lH (by omega)
  have HS4 := lH h4
  have HX1 : Hid (Dg [sec]) := lH fun x hx => by rw [List.mem_singleton.1 hx]; exact h4
  have HMw := lH hm
  obtain ⟨W0, hw0⟩ : ∃ W, W = w := ⟨_, rfl⟩
  have HB0 : Hid (Below w.heap.size w W0) := lH (by rw [hw0]; exact Below.refl _ _)
  have HM0 : Hid (CMet W0) := lH (by rw [hw0]; exact hm)
  have RT0 : Hid (Rd .u8 W0 W0.heap.size At ct lt) := lH (by rw [hw0]; exact hT)
  rw [show Calls Tryd.prog 10 #[.int .i64 way, .int .u32 (sec : Int), .slice At nt ct] w = Calls Tryd.prog 10 #[.int .i64 way, .int .u32 (sec : Int), .slice At nt ct] W0 by rw [hw0]]
  clear hm hw0 hT hnt hot q0 q1 h4
  go_enter Tryd.func10, Tryd.ntmps10
  go_wp2_with fail
  refine (shaOf'_any W0 W0.heap.size At ct nt lt HNT.out RT0.out (Nat.le_refl _) HOT.out (by have := HLT.out; omega)).mono ?_
  rintro e W1 ⟨Ad, cd, rfl, hd, hb⟩
  have HB1 := lH (HB0.out.trans (hb.mono HB0.out.size))
  have HM1 := lH (HM0.out.under hb)
  have RT1 := lH ((RT0.out.under hb).more hb.size)
  clear hb HB0 HM0 RT0
  have RD1 := lH hd
  clear hd
  clear RT1
  obtain ⟨dg, Hdg⟩ : ∃ d, Hid (digest lt = d) := ⟨_, lH rfl⟩
  rw [Hdg.out] at RD1
  have HDL : Hid (dg.length = 32) := lH (by rw [← Hdg.out]; exact digest_length lt)
  have HDO : Hid (Oct dg.reverse) := lH (by rw [← Hdg.out]; exact oct_rev (digest_oct lt))
  clear Hdg
  obtain ⟨Wa, hWa⟩ : ∃ W, W = W1.alloc (.cells #[.int .u32 (sec : Int)] 22) := ⟨_, rfl⟩
  have hba : Below W1.heap.size W1 Wa := by rw [hWa]; exact (Below.refl _ _).alloc (Nat.le_refl _) _
  have hra : Row .u32 22 Wa W1.heap.size [sec] := by rw [hWa]; exact Holds.fresh _ _ _
  obtain ⟨Wb, hWb⟩ : ∃ W, W = Wa.alloc (.cells #[.int .u32 77] 22) := ⟨_, rfl⟩
  have hbb : Below Wa.heap.size Wa Wb := by rw [hWb]; exact (Below.refl _ _).alloc (Nat.le_refl _) _
  have hrb : Row .u32 22 Wb Wa.heap.size [77] := by rw [hWb]; exact Holds.fresh _ _ _
  have hb := hba.trans (hbb.mono hba.size)
  have RX := lH (((rd_whole (c := 1) hra (by simp) (by omega)).under (hbb.mono (Holds.lt hra))).more (by have := Holds.lt hra; have := hbb.size; omega : W1.heap.size + 1 ≤ Wb.heap.size))
  have RK := lH ((rd_whole (c := 1) hrb (by simp) (by omega)).more (Holds.lt hrb))
  have hz : Wa.heap.size = W1.heap.size + 1 := by rw [hWa]; simp
  have HWa := lH hWa
  have HWb := lH hWb
  have HZ := lH hz
  clear hWa hWb hba hbb hra hrb hz
  obtain ⟨W2, hwk⟩ : ∃ W, W = Wb := ⟨_, rfl⟩
  rw [← hwk] at HWb RX RK hb
  clear hwk
  have HB2 := lH (HB1.out.trans (hb.mono HB1.out.size))
  have HM2 := lH (HM1.out.under hb)
  have RD2 := lH ((RD1.out.under hb).more hb.size)
  clear hb HB1 HM1 RD1
  go_wp2_with fail
  rw [← HWa.out, ← HZ.out, ← HWb.out]
  obtain ⟨a, b, hP⟩ := nmul_some (k := 77) (by decide) (by decide)
  have hS := sign_any W2 RX.out HX1.out (by simp) RD2.out HDL.out HDO.out RK.out (fun x hx => by rw [List.mem_singleton.1 hx]; decide) (fit_one (by decide)) hP
  clear hP HWa HWb HZ RX RK
  refine hS.mono ?_
  rintro e W3 ⟨Ar, cr, R, As, cs, S, y, rfl, hnR, _, hnS, hrR, hrS, hb⟩
  clear hS
  have HB3 := lH (HB2.out.trans (hb.mono HB2.out.size))
  have HM3 := lH (HM2.out.under hb)
  have RD3 := lH ((RD2.out.under hb).more hb.size)
  clear hb HB2 HM2 RD2
  have RR3 := lH hrR
  have RS3 := lH hrS
  have HNR := lH hnR
  have HNS := lH hnS
  clear hnR hnS hrR hrS
  obtain ⟨W4, hW⟩ : ∃ W, W = W3.alloc (.cells #[.slice Ar R.length cr, .slice As S.length cs] 48) := ⟨_, rfl⟩
  obtain ⟨gs, hgs⟩ : ∃ g, g = W3.heap.size := ⟨_, rfl⟩
  have hb : Below W3.heap.size W3 W4 := by rw [hW]; exact (Below.refl _ _).alloc (Nat.le_refl _) _
  have SB4 : Hid (Holds W4 gs 48 #[.slice Ar R.length cr, .slice As S.length cs]) := lH (by rw [hW, hgs]; exact Holds.fresh _ _ _)
  have HGS : Hid (w.heap.size ≤ gs) := lH (by rw [hgs]; exact HB3.out.size)
  have HW := lH hW
  have HG := lH hgs
  have HSZ : Hid (W4.heap.size = W3.heap.size + 1) := lH (by rw [hW]; simp)
  clear hW hgs
  have HB4 := lH (HB3.out.trans (hb.mono HB3.out.size))
  have HM4 := lH (HM3.out.under hb)
  have RD4 := lH ((RD3.out.under hb).more hb.size)
  have RR4 := lH ((RR3.out.under hb).more hb.size)
  have RS4 := lH ((RS3.out.under hb).more hb.size)
  clear hb HB3 HM3 RD3 RR3 RS3
  obtain ⟨ob, hob⟩ : ∃ b, (decide (0 < R.length) && decide (0 < S.length)) = b := ⟨_, rfl⟩
  rw [hob]
  cases ob with
  | false =>
    go_wp2_with fail
    go_ret
    exact ⟨rfl, by rw [← HW.out]; exact HB4.out⟩
  | true =>
    rw [Bool.and_eq_true, decide_eq_true_eq, decide_eq_true_eq] at hob
    have HRP := lH hob.1
    have HSP := lH hob.2
    clear hob
    obtain ⟨Wa, hWa⟩ : ∃ W, W = W4.alloc (.cells #[.int .u32 (sec : Int)] 22) := ⟨_, rfl⟩
    have hba : Below W4.heap.size W4 Wa := by rw [hWa]; exact (Below.refl _ _).alloc (Nat.le_refl _) _
    have hra : Row .u32 22 Wa W4.heap.size [sec] := by rw [hWa]; exact Holds.fresh _ _ _
    have hb := hba
    have RX := lH ((rd_whole (c := 1) hra (by simp) (by omega)).more (Holds.lt hra))
    have HWa := lH hWa
    clear hWa hba hra
    obtain ⟨W5, hwk⟩ : ∃ W, W = Wa := ⟨_, rfl⟩
    rw [← hwk] at HWa RX hb
    clear hwk
    have HB5 := lH (HB4.out.trans (hb.mono HB4.out.size))
    have HM5 := lH (HM4.out.under hb)
    have RD5 := lH ((RD4.out.under hb).more hb.size)
    have RR5 := lH ((RR4.out.under hb).more hb.size)
    have RS5 := lH ((RS4.out.under hb).more hb.size)
    have SB5 := lH (SB4.out.under hb (Holds.lt SB4.out))
    clear hb HB4 HM4 RD4 RR4 RS4 SB4
    go_wp2_with fail
    rw [← HW.out, ← HWa.out]
    clear HW
    obtain ⟨a, b, hP⟩ := nmul_some HS0.out (lN_cN HS4.out)
    have hS := key_any W5 RX.out HX1.out (by simp) (.inr (by simp only [List.length_singleton]; exact Nat.ne_of_gt HS0.out))
    rw [val_one, hP, HSZ.out] at hS
    clear HSZ
    have HQO : Hid (Luc.OnC (some (a, b))) := lH (by rw [← hP]; exact Luc.nmul_on gP_on _)
    clear hP HWa RX
    refine hS.mono ?_
    rintro e W6 ⟨Ap, cp, ap, Bp, dp, bp, ip, rfl, hq, hb⟩
    clear hS
    obtain rfl : ip = false := hq.inf
    have HB6 := lH (HB5.out.trans (hb.mono HB5.out.size))
    have HM6 := lH (HM5.out.under hb)
    have RD6 := lH ((RD5.out.under hb).more hb.size)
    have RR6 := lH ((RR5.out.under hb).more hb.size)
    have RS6 := lH ((RS5.out.under hb).more hb.size)
    have SB6 := lH (SB5.out.under hb (Holds.lt SB5.out))
    clear hb HB5 HM5 RD5 RR5 RS5 SB5
    have VQ6 := lH hq
    clear hq
    obtain ⟨W7, hW⟩ : ∃ W, W = W6.alloc (.cells #[.int .i64 2, .slice none 0 0, .int .u32 0, .slice Ap ap.length cp, .slice Bp bp.length dp, .bool false] 45) := ⟨_, rfl⟩
    obtain ⟨gk, hgk⟩ : ∃ g, g = W6.heap.size := ⟨_, rfl⟩
    have hb : Below W6.heap.size W6 W7 := by rw [hW]; exact (Below.refl _ _).alloc (Nat.le_refl _) _
    have KB7 : Hid (Holds W7 gk 45 #[.int .i64 2, .slice none 0 0, .int .u32 0, .slice Ap ap.length cp, .slice Bp bp.length dp, .bool false]) := lH (by rw [hW, hgk]; exact Holds.fresh _ _ _)
    have HGK : Hid (w.heap.size ≤ gk) := lH (by rw [hgk]; exact HB6.out.size)
    have HNE : Hid (gs ≠ gk) := lH (by have := Holds.lt SB6.out; omega)
    have HW := lH hW
    have HGk := lH hgk
    clear hW hgk
    have HB7 := lH (HB6.out.trans (hb.mono HB6.out.size))
    have HM7 := lH (HM6.out.under hb)
    have RD7 := lH ((RD6.out.under hb).more hb.size)
    have RR7 := lH ((RR6.out.under hb).more hb.size)
    have RS7 := lH ((RS6.out.under hb).more hb.size)
    have SB7 := lH (SB6.out.under hb (Holds.lt SB6.out))
    have VQ7 := lH (VQ6.out.under hb)
    clear hb HB6 HM6 RD6 RR6 RS6 SB6 VQ6
    go_wp2_with fail
    rw [← HW.out, ← HG.out, ← HGk.out]
    clear HW HG HGk
    refine (refN_any W7).mono ?_
    rintro e W8 ⟨gn, hgn, rfl, hN, hb⟩
    have HB8 := lH (HB7.out.trans (hb.mono HB7.out.size))
    have HM8 := lH (HM7.out.under hb)
    have RD8 := lH ((RD7.out.under hb).more hb.size)
    have RR8 := lH ((RR7.out.under hb).more hb.size)
    have RS8 := lH ((RS7.out.under hb).more hb.size)
    have SB8 := lH (SB7.out.under hb (Holds.lt SB7.out))
    have VQ8 := lH (VQ7.out.under hb)
    have KB8 := lH (KB7.out.under hb (Holds.lt KB7.out))
    clear hb HB7 HM7 RD7 RR7 RS7 SB7 VQ7 KB7
    have HN8 := lH (Eight.rd hN rfl)
    clear hN hgn
    by_cases q0 : way = 0
    · subst q0
      have z0 := SB8.out.cell 0
      have o0 := SB8.out.open_ 0
      obtain ⟨V, hV⟩ : ∃ W, W = (W8.setCell ⟨gs, 0, none⟩ (.slice none 0 0)) := ⟨_, rfl⟩
      have HV := lH hV
      have SV : Hid (Holds V gs 48 #[.slice none 0 0, .slice As S.length cs]) := lH (by rw [hV]; exact (SB8.out.stored 0 _))
      have KV : Hid (Holds V gk 45 #[.int .i64 2, .slice none 0 0, .int .u32 0, .slice Ap ap.length cp, .slice Bp bp.length dp, .bool false]) := lH (by rw [hV]; exact (KB8.out.aside (p := ⟨gs, 0, none⟩) HNE.out.symm _))
      have BV : Hid (Below w.heap.size w V) := lH (by rw [hV]; exact (HB8.out.setCell (p := ⟨gs, 0, none⟩) HGS.out _))
      have XV : Hid (Rd .u32 V V.heap.size Ap cp ap) := lH (by rw [hV]; simpa [World.setCell] using (rd_set VQ8.out.x.rd SB8.out no_nums2 0 _))
      have YV : Hid (Rd .u32 V V.heap.size Bp dp bp) := lH (by rw [hV]; simpa [World.setCell] using (rd_set VQ8.out.y.rd SB8.out no_nums2 0 _))
      have SVr : Hid (Rd .u32 V V.heap.size As cs S) := lH (by rw [hV]; simpa [World.setCell] using (rd_set RS8.out SB8.out no_nums2 0 _))
      have s0 := SV.out.cell 0
      have s1 := SV.out.cell 1
      have k0 := KV.out.cell 0
      have k1 := KV.out.cell 1
      have k2 := KV.out.cell 2
      have k3 := KV.out.cell 3
      have k4 := KV.out.cell 4
      have k5 := KV.out.cell 5
      rw [hV] at s0 s1 k0 k1 k2 k3 k4 k5
      clear hV
      go_wp2_with fail
      rw [← HV.out]
      refine (verify_no V (HMw.out.under BV.out) 2 0 (An := none) (cn := 0) (nd := 32) (ln := []) (R := []) (S := S) (Ar := none) (cr := 0) XV.out YV.out VQ8.out.x.dg VQ8.out.y.dg (Rd.nil_ _ _ _) SVr.out (by rw [show fitB [] = false from fit_nil, Bool.and_false, Bool.false_and])).mono ?_
      rintro e V1 ⟨rfl, hbv⟩
      have BV1 := lH (BV.out.trans (hbv.mono BV.out.size))
      clear hbv
      go_wp2_with fail
      refine (known11_any V1 (HMw.out.under BV1.out)).mono ?_
      rintro e V2 ⟨rfl, hbv⟩
      have BV2 := lH (BV1.out.trans (hbv.mono BV1.out.size))
      clear hbv
      go_wp2_with fail
      go_ret
      exact ⟨rfl, BV2.out⟩
    have b0 : (way == (0 : Int)) = false := beq_eq_false_iff_ne.2 q0
    by_cases q1 : way = 1
    · subst q1
      have z1 := SB8.out.cell 1
      have o1 := SB8.out.open_ 1
      obtain ⟨V, hV⟩ : ∃ W, W = (W8.setCell ⟨gs, 1, none⟩ (.slice none 0 0)) := ⟨_, rfl⟩
      have HV := lH hV
      have SV : Hid (Holds V gs 48 #[.slice Ar R.length cr, .slice none 0 0]) := lH (by rw [hV]; exact (SB8.out.stored 1 _))
      have KV : Hid (Holds V gk 45 #[.int .i64 2, .slice none 0 0, .int .u32 0, .slice Ap ap.length cp, .slice Bp bp.length dp, .bool false]) := lH (by rw [hV]; exact (KB8.out.aside (p := ⟨gs, 1, none⟩) HNE.out.symm _))
      have BV : Hid (Below w.heap.size w V) := lH (by rw [hV]; exact (HB8.out.setCell (p := ⟨gs, 1, none⟩) HGS.out _))
      have XV : Hid (Rd .u32 V V.heap.size Ap cp ap) := lH (by rw [hV]; simpa [World.setCell] using (rd_set VQ8.out.x.rd SB8.out no_nums2 1 _))
      have YV : Hid (Rd .u32 V V.heap.size Bp dp bp) := lH (by rw [hV]; simpa [World.setCell] using (rd_set VQ8.out.y.rd SB8.out no_nums2 1 _))
      have RV : Hid (Rd .u32 V V.heap.size Ar cr R) := lH (by rw [hV]; simpa [World.setCell] using (rd_set RR8.out SB8.out no_nums2 1 _))
      have s0 := SV.out.cell 0
      have s1 := SV.out.cell 1
      have k0 := KV.out.cell 0
      have k1 := KV.out.cell 1
      have k2 := KV.out.cell 2
      have k3 := KV.out.cell 3
      have k4 := KV.out.cell 4
      have k5 := KV.out.cell 5
      rw [hV] at s0 s1 k0 k1 k2 k3 k4 k5
      clear hV
      go_wp2_with fail
      rw [← HV.out]
      refine (verify_no V (HMw.out.under BV.out) 2 0 (An := none) (cn := 0) (nd := 32) (ln := []) (R := R) (S := []) (As := none) (cs := 0) XV.out YV.out VQ8.out.x.dg VQ8.out.y.dg RV.out (Rd.nil_ _ _ _) (by rw [show fitB [] = false from fit_nil, Bool.and_false])).mono ?_
      rintro e V1 ⟨rfl, hbv⟩
      have BV1 := lH (BV.out.trans (hbv.mono BV.out.size))
      clear hbv
      go_wp2_with fail
      refine (known11_any V1 (HMw.out.under BV1.out)).mono ?_
      rintro e V2 ⟨rfl, hbv⟩
      have BV2 := lH (BV1.out.trans (hbv.mono BV1.out.size))
      clear hbv
      go_wp2_with fail
      go_ret
      exact ⟨rfl, BV2.out⟩
    have b1 : (way == (1 : Int)) = false := beq_eq_false_iff_ne.2 q1
    by_cases q2 : way = 2
    · subst q2
      have s0 := SB8.out.cell 0
      go_wp2_with fail
      refine (add'_any W8 W8.heap.size W8.heap.size _ _ _ _ R lN RR8.out HN8.out (Nat.le_refl _) (Nat.le_refl _) HNR.out.1 lN_ok.1 (by have := num_len8N HNR.out; omega) (by rw [lN_ok.2.2]; omega)).mono ?_
      rintro e W9 ⟨Ax, cx, lx, rfl, hnx, hfx, hb⟩
      have HB9 := lH (HB8.out.trans (hb.mono HB8.out.size))
      have HM9 := lH (HM8.out.under hb)
      have RD9 := lH ((RD8.out.under hb).more hb.size)
      have RR9 := lH ((RR8.out.under hb).more hb.size)
      have RS9 := lH ((RS8.out.under hb).more hb.size)
      have SB9 := lH (SB8.out.under hb (Holds.lt SB8.out))
      have VQ9 := lH (VQ8.out.under hb)
      have KB9 := lH (KB8.out.under hb (Holds.lt KB8.out))
      have HN9 := lH ((HN8.out.under hb).more hb.size)
      clear hb HB8 HM8 RD8 RR8 RS8 SB8 VQ8 KB8 HN8
      have HNX := lH hnx
      have RA9 := lH hfx.1
      clear hnx hfx s0
      have z0 := SB9.out.cell 0
      have o0 := SB9.out.open_ 0
      obtain ⟨V, hV⟩ : ∃ W, W = (W9.setCell ⟨gs, 0, none⟩ (.slice Ax lx.length cx)) := ⟨_, rfl⟩
      have HV := lH hV
      have SV : Hid (Holds V gs 48 #[.slice Ax lx.length cx, .slice As S.length cs]) := lH (by rw [hV]; exact (SB9.out.stored 0 _))
      have KV : Hid (Holds V gk 45 #[.int .i64 2, .slice none 0 0, .int .u32 0, .slice Ap ap.length cp, .slice Bp bp.length dp, .bool false]) := lH (by rw [hV]; exact (KB9.out.aside (p := ⟨gs, 0, none⟩) HNE.out.symm _))
      have BV : Hid (Below w.heap.size w V) := lH (by rw [hV]; exact (HB9.out.setCell (p := ⟨gs, 0, none⟩) HGS.out _))
      have XV : Hid (Rd .u32 V V.heap.size Ap cp ap) := lH (by rw [hV]; simpa [World.setCell] using (rd_set VQ9.out.x.rd SB9.out no_nums2 0 _))
      have YV : Hid (Rd .u32 V V.heap.size Bp dp bp) := lH (by rw [hV]; simpa [World.setCell] using (rd_set VQ9.out.y.rd SB9.out no_nums2 0 _))
      have RAV : Hid (Rd .u32 V V.heap.size Ax cx lx) := lH (by rw [hV]; simpa [World.setCell] using (rd_set RA9.out SB9.out no_nums2 0 _))
      have SVr : Hid (Rd .u32 V V.heap.size As cs S) := lH (by rw [hV]; simpa [World.setCell] using (rd_set RS9.out SB9.out no_nums2 0 _))
      have s0 := SV.out.cell 0
      have s1 := SV.out.cell 1
      have k0 := KV.out.cell 0
      have k1 := KV.out.cell 1
      have k2 := KV.out.cell 2
      have k3 := KV.out.cell 3
      have k4 := KV.out.cell 4
      have k5 := KV.out.cell 5
      rw [hV] at s0 s1 k0 k1 k2 k3 k4 k5
      clear hV
      go_wp2_with fail
      rw [← HV.out]
      refine (verify_no V (HMw.out.under BV.out) 2 0 (An := none) (cn := 0) (nd := 32) (ln := []) (R := lx) (S := S) XV.out YV.out VQ9.out.x.dg VQ9.out.y.dg RAV.out SVr.out (by rw [show fitB lx = false from fit_big HNX.out (Nat.le_add_left _ _), Bool.and_false, Bool.false_and])).mono ?_
      rintro e V1 ⟨rfl, hbv⟩
      have BV1 := lH (BV.out.trans (hbv.mono BV.out.size))
      clear hbv
      go_wp2_with fail
      refine (known11_any V1 (HMw.out.under BV1.out)).mono ?_
      rintro e V2 ⟨rfl, hbv⟩
      have BV2 := lH (BV1.out.trans (hbv.mono BV1.out.size))
      clear hbv
      go_wp2_with fail
      go_ret
      exact ⟨rfl, BV2.out⟩
    have b2 : (way == (2 : Int)) = false := beq_eq_false_iff_ne.2 q2
    by_cases q3 : way = 3
    · subst q3
      have s1 := SB8.out.cell 1
      go_wp2_with fail
      refine (add'_any W8 W8.heap.size W8.heap.size _ _ _ _ S lN RS8.out HN8.out (Nat.le_refl _) (Nat.le_refl _) HNS.out.1 lN_ok.1 (by have := num_len8N HNS.out; omega) (by rw [lN_ok.2.2]; omega)).mono ?_
      rintro e W9 ⟨Ax, cx, lx, rfl, hnx, hfx, hb⟩
      have HB9 := lH (HB8.out.trans (hb.mono HB8.out.size))
      have HM9 := lH (HM8.out.under hb)
      have RD9 := lH ((RD8.out.under hb).more hb.size)
      have RR9 := lH ((RR8.out.under hb).more hb.size)
      have RS9 := lH ((RS8.out.under hb).more hb.size)
      have SB9 := lH (SB8.out.under hb (Holds.lt SB8.out))
      have VQ9 := lH (VQ8.out.under hb)
      have KB9 := lH (KB8.out.under hb (Holds.lt KB8.out))
      have HN9 := lH ((HN8.out.under hb).more hb.size)
      clear hb HB8 HM8 RD8 RR8 RS8 SB8 VQ8 KB8 HN8
      have HNX := lH hnx
      have RA9 := lH hfx.1
      clear hnx hfx s1
      have z1 := SB9.out.cell 1
      have o1 := SB9.out.open_ 1
      obtain ⟨V, hV⟩ : ∃ W, W = (W9.setCell ⟨gs, 1, none⟩ (.slice Ax lx.length cx)) := ⟨_, rfl⟩
      have HV := lH hV
      have SV : Hid (Holds V gs 48 #[.slice Ar R.length cr, .slice Ax lx.length cx]) := lH (by rw [hV]; exact (SB9.out.stored 1 _))
      have KV : Hid (Holds V gk 45 #[.int .i64 2, .slice none 0 0, .int .u32 0, .slice Ap ap.length cp, .slice Bp bp.length dp, .bool false]) := lH (by rw [hV]; exact (KB9.out.aside (p := ⟨gs, 1, none⟩) HNE.out.symm _))
      have BV : Hid (Below w.heap.size w V) := lH (by rw [hV]; exact (HB9.out.setCell (p := ⟨gs, 1, none⟩) HGS.out _))
      have XV : Hid (Rd .u32 V V.heap.size Ap cp ap) := lH (by rw [hV]; simpa [World.setCell] using (rd_set VQ9.out.x.rd SB9.out no_nums2 1 _))
      have YV : Hid (Rd .u32 V V.heap.size Bp dp bp) := lH (by rw [hV]; simpa [World.setCell] using (rd_set VQ9.out.y.rd SB9.out no_nums2 1 _))
      have RV : Hid (Rd .u32 V V.heap.size Ar cr R) := lH (by rw [hV]; simpa [World.setCell] using (rd_set RR9.out SB9.out no_nums2 1 _))
      have RAV : Hid (Rd .u32 V V.heap.size Ax cx lx) := lH (by rw [hV]; simpa [World.setCell] using (rd_set RA9.out SB9.out no_nums2 1 _))
      have s0 := SV.out.cell 0
      have s1 := SV.out.cell 1
      have k0 := KV.out.cell 0
      have k1 := KV.out.cell 1
      have k2 := KV.out.cell 2
      have k3 := KV.out.cell 3
      have k4 := KV.out.cell 4
      have k5 := KV.out.cell 5
      rw [hV] at s0 s1 k0 k1 k2 k3 k4 k5
      clear hV
      go_wp2_with fail
      rw [← HV.out]
      refine (verify_no V (HMw.out.under BV.out) 2 0 (An := none) (cn := 0) (nd := 32) (ln := []) (R := R) (S := lx) XV.out YV.out VQ9.out.x.dg VQ9.out.y.dg RV.out RAV.out (by rw [show fitB lx = false from fit_big HNX.out (Nat.le_add_left _ _), Bool.and_false])).mono ?_
      rintro e V1 ⟨rfl, hbv⟩
      have BV1 := lH (BV.out.trans (hbv.mono BV.out.size))
      clear hbv
      go_wp2_with fail
      refine (known11_any V1 (HMw.out.under BV1.out)).mono ?_
      rintro e V2 ⟨rfl, hbv⟩
      have BV2 := lH (BV1.out.trans (hbv.mono BV1.out.size))
      clear hbv
      go_wp2_with fail
      go_ret
      exact ⟨rfl, BV2.out⟩
    have b3 : (way == (3 : Int)) = false := beq_eq_false_iff_ne.2 q3
    by_cases q4 : way = 4
    · subst q4
      have z1 := SB8.out.cell 1
      have o1 := SB8.out.open_ 1
      obtain ⟨V, hV⟩ : ∃ W, W = (W8.setCell ⟨gs, 1, none⟩ (.slice (some ⟨gn, 0, none⟩) 8 8)) := ⟨_, rfl⟩
      have HV := lH hV
      have SV : Hid (Holds V gs 48 #[.slice Ar R.length cr, .slice (some ⟨gn, 0, none⟩) 8 8]) := lH (by rw [hV]; exact (SB8.out.stored 1 _))
      have KV : Hid (Holds V gk 45 #[.int .i64 2, .slice none 0 0, .int .u32 0, .slice Ap ap.length cp, .slice Bp bp.length dp, .bool false]) := lH (by rw [hV]; exact (KB8.out.aside (p := ⟨gs, 1, none⟩) HNE.out.symm _))
      have BV : Hid (Below w.heap.size w V) := lH (by rw [hV]; exact (HB8.out.setCell (p := ⟨gs, 1, none⟩) HGS.out _))
      have XV : Hid (Rd .u32 V V.heap.size Ap cp ap) := lH (by rw [hV]; simpa [World.setCell] using (rd_set VQ8.out.x.rd SB8.out no_nums2 1 _))
      have YV : Hid (Rd .u32 V V.heap.size Bp dp bp) := lH (by rw [hV]; simpa [World.setCell] using (rd_set VQ8.out.y.rd SB8.out no_nums2 1 _))
      have RV : Hid (Rd .u32 V V.heap.size Ar cr R) := lH (by rw [hV]; simpa [World.setCell] using (rd_set RR8.out SB8.out no_nums2 1 _))
      have NV : Hid (Rd .u32 V V.heap.size (some ⟨gn, 0, none⟩) 8 lN) := lH (by rw [hV]; simpa [World.setCell] using (rd_set HN8.out SB8.out no_nums2 1 _))
      have s0 := SV.out.cell 0
      have s1 := SV.out.cell 1
      have k0 := KV.out.cell 0
      have k1 := KV.out.cell 1
      have k2 := KV.out.cell 2
      have k3 := KV.out.cell 3
      have k4 := KV.out.cell 4
      have k5 := KV.out.cell 5
      rw [hV] at s0 s1 k0 k1 k2 k3 k4 k5
      clear hV
      go_wp2_with fail
      rw [← HV.out]
      refine (verify_no V (HMw.out.under BV.out) 2 0 (An := none) (cn := 0) (nd := 32) (ln := []) (R := R) (S := lN) XV.out YV.out VQ8.out.x.dg VQ8.out.y.dg RV.out NV.out (by rw [show fitB lN = false from fit_lN, Bool.and_false])).mono ?_
      rintro e V1 ⟨rfl, hbv⟩
      have BV1 := lH (BV.out.trans (hbv.mono BV.out.size))
      clear hbv
      go_wp2_with fail
      refine (known11_any V1 (HMw.out.under BV1.out)).mono ?_
      rintro e V2 ⟨rfl, hbv⟩
      have BV2 := lH (BV1.out.trans (hbv.mono BV1.out.size))
      clear hbv
      go_wp2_with fail
      go_ret
      exact ⟨rfl, BV2.out⟩
    have b4 : (way == (4 : Int)) = false := beq_eq_false_iff_ne.2 q4
    by_cases q5 : way = 5
    · subst q5
      obtain ⟨We, hWe⟩ : ∃ W, W = W8.alloc (.cells #[] 22) := ⟨_, rfl⟩
      have hb : Below W8.heap.size W8 We := by rw [hWe]; exact (Below.refl _ _).alloc (Nat.le_refl _) _
      have HO : Hid (Own .u32 22 We W8.heap.size (some ⟨W8.heap.size, 0, none⟩) 0 []) := lH (Own.of_row (l := []) (Nat.le_refl _) (by simp) (by rw [hWe]; exact Holds.fresh _ _ _))
      have HRe := lH ((RR8.out.under hb).more hb.size)
      have HZe : Hid (W8.heap.size ≤ We.heap.size) := lH hb.size
      have s0 := (SB8.out.under hb (Holds.lt SB8.out)).cell 0
      rw [hWe] at HO HRe HZe s0
      have HRL : Hid (R.length ≤ 8) := lH (num_len8N HNR.out)
      have HB0_ := lH hb
      have HWe := lH hWe
      clear hb hWe
      have hrp := HRP.out
      have hrl := HRL.out
      have hze := HZe.out
      go_wp2_with (with_reducible (refine wpList_join _ rfl (.tmp 62) (.tmp 64) 24 rfl .u32 W8.heap.size 22 4 Tryd.underlying24 info_u32 (some ⟨W8.heap.size, 0, none⟩) 0 0 [] rfl rfl HO.out Ar _ R.length cr R rfl rfl HRe.out (by omega) (by omega) (by omega) hze ?hj1))
      case hj1 =>
        intro g1 c1 w1 ho1 hg1 ha1
        try simp only [List.nil_append] at ho1
        have hlt1 := (ho1.block rfl).1
        have hbe : Below W8.heap.size W8 (W8.alloc (.cells #[] 22)) := (Below.refl _ _).alloc (Nat.le_refl _) _
        have hb1 : Below W8.heap.size W8 w1 := hbe.trans (grown_below9 hg1 (fun g e => by injection e with e; rw [← e]; exact Nat.le_refl _) hbe.size)
        have HB1 := lH hb1
        have HO1 := lH ho1
        have HO1a := lH (ho1.alloc (.cells #[.int .u32 0] 22))
        have HR0 := lH ((rd_whole (c := 1) (show Row .u32 22 (w1.alloc (.cells #[.int .u32 0] 22)) w1.heap.size [0] from Holds.fresh _ _ _) (by simp) (by omega)))
        have HZ1 : Hid (W8.heap.size ≤ (w1.alloc (.cells #[.int .u32 0] 22)).heap.size) := lH (by have := hb1.size; simp; omega)
        have s0 := ((SB8.out.under hb1 (Holds.lt SB8.out)).alloc (.cells #[.int .u32 0] 22)).cell 0
        have HN1 : Hid (R.length = R.length) := lH rfl
        clear hbe hb1 ho1 hg1 ha1 hlt1
        have hz1 := HZ1.out
        go_wp2_with (with_reducible (refine wpList_join _ rfl (.tmp 65) (.tmp 66) 24 rfl .u32 W8.heap.size 22 4 Tryd.underlying24 info_u32 (some ⟨g1, 0, none⟩) R.length c1 R rfl HN1.out HO1a.out (some ⟨w1.heap.size, 0, none⟩) _ 1 1 [0] rfl rfl HR0.out (by omega) (by omega) (by omega) hz1 ?hj2))
        case hj2 =>
          intro g2 c2 W9 ho2 hg2 ha2
          have hlt2 : W8.heap.size ≤ g1 := (HO1.out.block rfl).1
          have hbm := HB1.out.alloc HB1.out.size (.cells #[.int .u32 0] 22)
          have hb : Below W8.heap.size W8 W9 := hbm.trans (grown_below9 hg2 (fun g e => by injection e with e; rw [← e]; exact hlt2) hbm.size)
          obtain ⟨lx, hlx⟩ : ∃ l, l = R ++ [0] := ⟨_, rfl⟩
          have ho3 := ho2.rd
          try simp only [List.nil_append] at ho3
          rw [← hlx] at ho3
          have hnl : lx.length = R.length + 1 := by rw [hlx]; simp
          have HFX : Hid (fitB lx = false) := lH (by rw [hlx]; exact fit_zero R)
          have HNL := lH hnl
          have RA9 := lH ho3
          clear hlx hnl ho2 ho3 hg2 ha2 hlt2 hbm HB1 HO1 HO1a HR0 HZ1 s0 HN1 hz1 hze hrp hrl
          have HB9 := lH (HB8.out.trans (hb.mono HB8.out.size))
          have HM9 := lH (HM8.out.under hb)
          have RD9 := lH ((RD8.out.under hb).more hb.size)
          have RR9 := lH ((RR8.out.under hb).more hb.size)
          have RS9 := lH ((RS8.out.under hb).more hb.size)
          have SB9 := lH (SB8.out.under hb (Holds.lt SB8.out))
          have VQ9 := lH (VQ8.out.under hb)
          have KB9 := lH (KB8.out.under hb (Holds.lt KB8.out))
          have HN9 := lH ((HN8.out.under hb).more hb.size)
          clear hb HB8 HM8 RD8 RR8 RS8 SB8 VQ8 KB8 HN8
          have z0 := SB9.out.cell 0
          have o0 := SB9.out.open_ 0
          obtain ⟨V, hV⟩ : ∃ W, W = (W9.setCell ⟨gs, 0, none⟩ (.slice (some ⟨g2, 0, none⟩) lx.length c2)) := ⟨_, rfl⟩
          have HV := lH hV
          have SV : Hid (Holds V gs 48 #[.slice (some ⟨g2, 0, none⟩) lx.length c2, .slice As S.length cs]) := lH (by rw [hV]; exact (SB9.out.stored 0 _))
          have KV : Hid (Holds V gk 45 #[.int .i64 2, .slice none 0 0, .int .u32 0, .slice Ap ap.length cp, .slice Bp bp.length dp, .bool false]) := lH (by rw [hV]; exact (KB9.out.aside (p := ⟨gs, 0, none⟩) HNE.out.symm _))
          have BV : Hid (Below w.heap.size w V) := lH (by rw [hV]; exact (HB9.out.setCell (p := ⟨gs, 0, none⟩) HGS.out _))
          have XV : Hid (Rd .u32 V V.heap.size Ap cp ap) := lH (by rw [hV]; simpa [World.setCell] using (rd_set VQ9.out.x.rd SB9.out no_nums2 0 _))
          have YV : Hid (Rd .u32 V V.heap.size Bp dp bp) := lH (by rw [hV]; simpa [World.setCell] using (rd_set VQ9.out.y.rd SB9.out no_nums2 0 _))
          have RAV : Hid (Rd .u32 V V.heap.size (some ⟨g2, 0, none⟩) c2 lx) := lH (by rw [hV]; simpa [World.setCell] using (rd_set RA9.out SB9.out no_nums2 0 _))
          have SVr : Hid (Rd .u32 V V.heap.size As cs S) := lH (by rw [hV]; simpa [World.setCell] using (rd_set RS9.out SB9.out no_nums2 0 _))
          have s0 := SV.out.cell 0
          have s1 := SV.out.cell 1
          have k0 := KV.out.cell 0
          have k1 := KV.out.cell 1
          have k2 := KV.out.cell 2
          have k3 := KV.out.cell 3
          have k4 := KV.out.cell 4
          have k5 := KV.out.cell 5
          rw [hV] at s0 s1 k0 k1 k2 k3 k4 k5
          clear hV
          simp only [HNL.out] at HV s0 s1 k0 k1 k2 k3 k4 k5
          go_wp2_with fail
          rw [← HV.out, ← HNL.out]
          refine (verify_no V (HMw.out.under BV.out) 2 0 (An := none) (cn := 0) (nd := 32) (ln := []) (R := lx) (S := S) XV.out YV.out VQ9.out.x.dg VQ9.out.y.dg RAV.out SVr.out (by rw [show fitB lx = false from HFX.out, Bool.and_false, Bool.false_and])).mono ?_
          rintro e V1 ⟨rfl, hbv⟩
          have BV1 := lH (BV.out.trans (hbv.mono BV.out.size))
          clear hbv
          go_wp2_with fail
          refine (known11_any V1 (HMw.out.under BV1.out)).mono ?_
          rintro e V2 ⟨rfl, hbv⟩
          have BV2 := lH (BV1.out.trans (hbv.mono BV1.out.size))
          clear hbv
          go_wp2_with fail
          go_ret
          exact ⟨rfl, BV2.out⟩
    have b5 : (way == (5 : Int)) = false := beq_eq_false_iff_ne.2 q5
    by_cases q6 : way = 6
    · subst q6
      obtain ⟨bd, od, hAd, _, _⟩ := RD8.out.2.2 (by rw [HDL.out]; omega)
      subst hAd
      have hcd1 : 31 ≤ cd := by have := RD8.out.1; have := HDL.out; omega
      have hcd2 : cd ≤ 9223372036854775807 := RD8.out.2.1
      obtain ⟨V, hV⟩ : ∃ W, W = W8 := ⟨_, rfl⟩
      have HV := lH hV
      have SV : Hid (Holds V gs 48 #[.slice Ar R.length cr, .slice As S.length cs]) := lH (by rw [hV]; exact SB8.out)
      have KV : Hid (Holds V gk 45 #[.int .i64 2, .slice none 0 0, .int .u32 0, .slice Ap ap.length cp, .slice Bp bp.length dp, .bool false]) := lH (by rw [hV]; exact KB8.out)
      have BV : Hid (Below w.heap.size w V) := lH (by rw [hV]; exact HB8.out)
      have XV : Hid (Rd .u32 V V.heap.size Ap cp ap) := lH (by rw [hV]; exact VQ8.out.x.rd)
      have YV : Hid (Rd .u32 V V.heap.size Bp dp bp) := lH (by rw [hV]; exact VQ8.out.y.rd)
      have RV : Hid (Rd .u32 V V.heap.size Ar cr R) := lH (by rw [hV]; exact RR8.out)
      have SVr : Hid (Rd .u32 V V.heap.size As cs S) := lH (by rw [hV]; exact RS8.out)
      have s0 := SV.out.cell 0
      have s1 := SV.out.cell 1
      have k0 := KV.out.cell 0
      have k1 := KV.out.cell 1
      have k2 := KV.out.cell 2
      have k3 := KV.out.cell 3
      have k4 := KV.out.cell 4
      have k5 := KV.out.cell 5
      rw [hV] at s0 s1 k0 k1 k2 k3 k4 k5
      clear hV
      go_wp2_with fail
      rw [← HV.out]
      refine (verify_no V (HMw.out.under BV.out) 2 0 (An := none) (cn := 0) (nd := 31) (ln := []) (R := R) (S := S) XV.out YV.out VQ8.out.x.dg VQ8.out.y.dg RV.out SVr.out (by rw [show decide (31 = 32) = false from rfl, Bool.and_false, Bool.false_and, Bool.false_and])).mono ?_
      rintro e V1 ⟨rfl, hbv⟩
      have BV1 := lH (BV.out.trans (hbv.mono BV.out.size))
      clear hbv
      go_wp2_with fail
      refine (known11_any V1 (HMw.out.under BV1.out)).mono ?_
      rintro e V2 ⟨rfl, hbv⟩
      have BV2 := lH (BV1.out.trans (hbv.mono BV1.out.size))
      clear hbv
      go_wp2_with fail
      go_ret
      exact ⟨rfl, BV2.out⟩
    have b6 : (way == (6 : Int)) = false := beq_eq_false_iff_ne.2 q6
    by_cases q7 : way = 7
    · subst q7
      have z2 := KB8.out.cell 2
      have o2 := KB8.out.open_ 2
      obtain ⟨V, hV⟩ : ∃ W, W = (W8.setCell ⟨gk, 2, none⟩ (.int .u32 3)) := ⟨_, rfl⟩
      have HV := lH hV
      have SV : Hid (Holds V gs 48 #[.slice Ar R.length cr, .slice As S.length cs]) := lH (by rw [hV]; exact (SB8.out.aside (p := ⟨gk, 2, none⟩) HNE.out _))
      have KV : Hid (Holds V gk 45 #[.int .i64 2, .slice none 0 0, .int .u32 3, .slice Ap ap.length cp, .slice Bp bp.length dp, .bool false]) := lH (by rw [hV]; exact (KB8.out.stored 2 _))
      have BV : Hid (Below w.heap.size w V) := lH (by rw [hV]; exact (HB8.out.setCell (p := ⟨gk, 2, none⟩) HGK.out _))
      have XV : Hid (Rd .u32 V V.heap.size Ap cp ap) := lH (by rw [hV]; simpa [World.setCell] using (rd_keyset VQ8.out.x.rd (VQ8.out.x.nrm) KB8.out 2 _))
      have YV : Hid (Rd .u32 V V.heap.size Bp dp bp) := lH (by rw [hV]; simpa [World.setCell] using (rd_keyset VQ8.out.y.rd (VQ8.out.y.nrm) KB8.out 2 _))
      have RV : Hid (Rd .u32 V V.heap.size Ar cr R) := lH (by rw [hV]; simpa [World.setCell] using (rd_keyset RR8.out (HNR.out.2.1) KB8.out 2 _))
      have SVr : Hid (Rd .u32 V V.heap.size As cs S) := lH (by rw [hV]; simpa [World.setCell] using (rd_keyset RS8.out (HNS.out.2.1) KB8.out 2 _))
      have s0 := SV.out.cell 0
      have s1 := SV.out.cell 1
      have k0 := KV.out.cell 0
      have k1 := KV.out.cell 1
      have k2 := KV.out.cell 2
      have k3 := KV.out.cell 3
      have k4 := KV.out.cell 4
      have k5 := KV.out.cell 5
      rw [hV] at s0 s1 k0 k1 k2 k3 k4 k5
      clear hV
      go_wp2_with fail
      rw [← HV.out]
      refine (verify_no V (HMw.out.under BV.out) 2 3 (An := none) (cn := 0) (nd := 32) (ln := []) (R := R) (S := S) XV.out YV.out VQ8.out.x.dg VQ8.out.y.dg RV.out SVr.out (by rw [keyB_e, Bool.false_and, Bool.false_and, Bool.false_and])).mono ?_
      rintro e V1 ⟨rfl, hbv⟩
      have BV1 := lH (BV.out.trans (hbv.mono BV.out.size))
      clear hbv
      go_wp2_with fail
      refine (known11_any V1 (HMw.out.under BV1.out)).mono ?_
      rintro e V2 ⟨rfl, hbv⟩
      have BV2 := lH (BV1.out.trans (hbv.mono BV1.out.size))
      clear hbv
      go_wp2_with fail
      go_ret
      exact ⟨rfl, BV2.out⟩
    have b7 : (way == (7 : Int)) = false := beq_eq_false_iff_ne.2 q7
    by_cases q8 : way = 8
    · subst q8
      obtain ⟨V_, hV_⟩ : ∃ W, W = (W8.alloc (.cells #[.int .u32 1] 22)) := ⟨_, rfl⟩
      have hb_ : Below W8.heap.size W8 V_ := by rw [hV_]; exact (Below.refl _ _).alloc (Nat.le_refl _) _
      have zz := (KB8.out.alloc (.cells #[.int .u32 1] 22)).cell 1
      have oo := (KB8.out.alloc (.cells #[.int .u32 1] 22)).open_ 1
      have KB_ := lH (KB8.out.under hb_ (Holds.lt KB8.out))
      have SB_ := lH (SB8.out.under hb_ (Holds.lt SB8.out))
      obtain ⟨V, hV⟩ : ∃ W, W = V_.setCell ⟨gk, 1, none⟩ (.slice (some ⟨W8.heap.size, 0, none⟩) 1 1) := ⟨_, rfl⟩
      have HV := lH (hV_ ▸ hV)
      have SV : Hid (Holds V gs 48 #[.slice Ar R.length cr, .slice As S.length cs]) := lH (by rw [hV]; exact SB_.out.aside (p := ⟨gk, 1, none⟩) HNE.out _)
      have KV : Hid (Holds V gk 45 #[.int .i64 2, .slice (some ⟨W8.heap.size, 0, none⟩) 1 1, .int .u32 0, .slice Ap ap.length cp, .slice Bp bp.length dp, .bool false]) := lH (by rw [hV]; exact KB_.out.stored 1 _)
      have BV : Hid (Below w.heap.size w V) := lH (by rw [hV]; exact (HB8.out.trans (hb_.mono HB8.out.size)).setCell (p := ⟨gk, 1, none⟩) HGK.out _)
      have XV : Hid (Rd .u32 V V.heap.size Ap cp ap) := lH (by rw [hV]; exact rd_keyset ((VQ8.out.x.rd.under hb_).more hb_.size) VQ8.out.x.nrm KB_.out 1 _)
      have YV : Hid (Rd .u32 V V.heap.size Bp dp bp) := lH (by rw [hV]; exact rd_keyset ((VQ8.out.y.rd.under hb_).more hb_.size) VQ8.out.y.nrm KB_.out 1 _)
      have RV : Hid (Rd .u32 V V.heap.size Ar cr R) := lH (by rw [hV]; exact rd_keyset ((RR8.out.under hb_).more hb_.size) HNR.out.2.1 KB_.out 1 _)
      have SVr : Hid (Rd .u32 V V.heap.size As cs S) := lH (by rw [hV]; exact rd_keyset ((RS8.out.under hb_).more hb_.size) HNS.out.2.1 KB_.out 1 _)
      clear hb_ KB_ SB_
      have s0 := SV.out.cell 0
      have s1 := SV.out.cell 1
      have k0 := KV.out.cell 0
      have k1 := KV.out.cell 1
      have k2 := KV.out.cell 2
      have k3 := KV.out.cell 3
      have k4 := KV.out.cell 4
      have k5 := KV.out.cell 5
      rw [hV, hV_] at s0 s1 k0 k1 k2 k3 k4 k5
      clear hV hV_
      go_wp2_with fail
      rw [← HV.out]
      refine (verify_no V (HMw.out.under BV.out) 2 0 (An := (some ⟨W8.heap.size, 0, none⟩)) (cn := 1) (nd := 32) (ln := [1]) (R := R) (S := S) XV.out YV.out VQ8.out.x.dg VQ8.out.y.dg RV.out SVr.out (by rw [keyB_n, Bool.false_and, Bool.false_and, Bool.false_and])).mono ?_
      rintro e V1 ⟨rfl, hbv⟩
      have BV1 := lH (BV.out.trans (hbv.mono BV.out.size))
      clear hbv
      go_wp2_with fail
      refine (known11_any V1 (HMw.out.under BV1.out)).mono ?_
      rintro e V2 ⟨rfl, hbv⟩
      have BV2 := lH (BV1.out.trans (hbv.mono BV1.out.size))
      clear hbv
      go_wp2_with fail
      go_ret
      exact ⟨rfl, BV2.out⟩
    have b8 : (way == (8 : Int)) = false := beq_eq_false_iff_ne.2 q8
    go_wp2_with fail
    go_ret
    exact ⟨rfl, HB8.out⟩
theorem law_rangeN (w : World) (hm : CMet w) (way x : Int) (hx : 0 ≤ x ∧ x < 4294967296) {At : Option Addr} {nt ct : Nat} {lt : List Nat} (hT : Rd .u8 w w.heap.size At ct lt) (hnt : lt.length = nt) (hot : ∀ x ∈ lt, x < 256) :
    Calls Tryd.prog 10 #[.int .i64 way, .int .u32 x, .slice At nt ct] w fun e w' => e = .returned (.bool true) ∧ Below w.heap.size w w' := by
  obtain ⟨k, rfl⟩ : ∃ k : Nat, x = (k : Int) := ⟨x.toNat, by omega⟩
  exact law_range w hm way k (by omega) hT hnt hot
end Go.Proofs.YtflfdglpljodbaaDoor
