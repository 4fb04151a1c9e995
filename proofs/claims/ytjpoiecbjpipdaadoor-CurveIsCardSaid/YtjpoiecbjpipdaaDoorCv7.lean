/-
  The curve's numbers; below P; the document's arithmetic modulo P.
-/
import Derived.Test.YtjpoiecbjpipdaaDoorCv6
import Derived.Test.YtjpoiecbjpipdaaDoorRefB
namespace Go.Proofs.YtjpoiecbjpipdaaDoor
open Go.RowKit
set_option linter.unusedVariables false
set_option linter.unusedSimpArgs false

def lP : List Nat := [4294967295, 4294967295, 4294967295, 0, 0, 0, 1, 4294967295]
def lN : List Nat := [4234356049, 4089039554, 2803342980, 3169254061, 4294967295, 4294967295, 0, 4294967295]
def lB : List Nat := [668098635, 1003371582, 3428036854, 1696401072, 1989707452, 3018571093, 2855965671, 1522939352]
def lX : List Nat := [3633889942, 4104206661, 770388896, 1996717441, 1671708914, 4173129445, 3777774151, 1796723186]
def lY : List Nat := [935285237, 3417718888, 1798397646, 734933847, 2081398294, 2397563722, 4263149467, 1340293858]
theorem lP_ok : Dg lP ∧ nrm lP ∧ val lP = cP ∧ lP.length = 8 := ⟨by unfold Dg lP; decide, .inr (by decide), by decide +kernel, rfl⟩
theorem lN_ok : Dg lN ∧ nrm lN ∧ lN.length = 8 := ⟨by unfold Dg lN; decide, .inr (by decide), rfl⟩
theorem lB_ok : Dg lB ∧ nrm lB ∧ val lB < cP ∧ lB.length = 8 := ⟨by unfold Dg lB; decide, .inr (by decide), by decide +kernel, rfl⟩
theorem lX_ok : Dg lX ∧ nrm lX ∧ val lX < cP ∧ lX.length = 8 := ⟨by unfold Dg lX; decide, .inr (by decide), by decide +kernel, rfl⟩
theorem lY_ok : Dg lY ∧ nrm lY ∧ val lY < cP ∧ lY.length = 8 := ⟨by unfold Dg lY; decide, .inr (by decide), by decide +kernel, rfl⟩
/-- A number of eight digits, made anew. -/
def Eight (L : List Nat) (w : World) (e : Ending) (w' : World) : Prop :=
  ∃ g, w.heap.size ≤ g ∧ e = .returned (.slice (some ⟨g, 0, none⟩) 8 8) ∧ Row .u32 28 w' g L ∧ Below w.heap.size w w'
theorem Eight.rd {L : List Nat} {w : World} {g : Nat} (h : Row .u32 28 w g L) (hL : L.length = 8) : Rd .u32 w w.heap.size (some ⟨g, 0, none⟩) 8 L :=
  (rd_whole h (by omega) (by omega)).more (Holds.lt h)
set_option maxRecDepth 100000 in
theorem curveP_any (w : World) : Calls Tryd.prog 41 #[] w (Eight lP w) := by
  go_enter Tryd.func41, Tryd.ntmps41
  go_wp2_with fail
  go_ret
  exact ⟨w.heap.size, Nat.le_refl _, rfl, Holds.fresh _ _ _, (Below.refl _ _).alloc (Nat.le_refl _) _⟩
set_option maxRecDepth 100000 in
theorem curveN_any (w : World) : Calls Tryd.prog 40 #[] w (Eight lN w) := by
  go_enter Tryd.func40, Tryd.ntmps40
  go_wp2_with fail
  go_ret
  exact ⟨w.heap.size, Nat.le_refl _, rfl, Holds.fresh _ _ _, (Below.refl _ _).alloc (Nat.le_refl _) _⟩
set_option maxRecDepth 100000 in
theorem curveB_any (w : World) : Calls Tryd.prog 32 #[] w (Eight lB w) := by
  go_enter Tryd.func32, Tryd.ntmps32
  go_wp2_with fail
  go_ret
  exact ⟨w.heap.size, Nat.le_refl _, rfl, Holds.fresh _ _ _, (Below.refl _ _).alloc (Nat.le_refl _) _⟩
set_option maxRecDepth 100000 in
theorem refP_any (w : World) : Calls Tryd.prog 24 #[] w (Eight lP w) := by
  go_enter Tryd.func24, Tryd.ntmps24
  go_wp2_with fail
  go_ret
  exact ⟨w.heap.size, Nat.le_refl _, rfl, Holds.fresh _ _ _, (Below.refl _ _).alloc (Nat.le_refl _) _⟩
set_option maxRecDepth 100000 in
theorem refN_any (w : World) : Calls Tryd.prog 22 #[] w (Eight lN w) := by
  go_enter Tryd.func22, Tryd.ntmps22
  go_wp2_with fail
  go_ret
  exact ⟨w.heap.size, Nat.le_refl _, rfl, Holds.fresh _ _ _, (Below.refl _ _).alloc (Nat.le_refl _) _⟩
set_option maxRecDepth 100000 in
theorem refB_any (w : World) : Calls Tryd.prog 39 #[] w (Eight lB w) := by
  go_enter Tryd.func39, Tryd.ntmps39
  go_wp2_with fail
  go_ret
  exact ⟨w.heap.size, Nat.le_refl _, rfl, Holds.fresh _ _ _, (Below.refl _ _).alloc (Nat.le_refl _) _⟩
/-- A number, such and below P. -/
def blw (l : List Nat) : Bool := okN l && decide (val l < cP)
theorem blw_nrm {l : List Nat} (hd : Dg l) (h : blw l = true) : nrm l ∧ val l < cP ∧ l.length ≤ 8 := by
  unfold blw at h
  rw [Bool.and_eq_true, decide_eq_true_eq] at h
  obtain ⟨h1, h2⟩ := h
  have hn := (okN_nrm h1).2
  refine ⟨hn, h2, ?_⟩
  rcases Nat.lt_or_ge 8 l.length with h8 | h8
  · exfalso
    have h3 := nrm_low hn (by omega)
    have h4 : pw 8 ≤ pw (l.length - 1) := pw_mono (by omega)
    have h5 : cP < pw 8 := by decide +kernel
    omega
  · exact h8
set_option maxRecDepth 100000 in
set_option maxHeartbeats 2000000 in
theorem below_any (w : World) (A : Option Addr) (c : Nat) (l : List Nat) (hr : Rd .u32 w w.heap.size A c l) (hd : Dg l) :
    Calls Tryd.prog 27 #[.slice A l.length c] w fun e w' => e = .returned (.bool (blw l)) ∧ Below w.heap.size w w' := by
  have HR := Lib.hid hr
  have HD := Lib.hid hd
  cases hv : okN l
  case false =>
    have HB : Hid (blw l = false) := Lib.hid (by unfold blw; rw [hv]; rfl)
    have HC := Lib.hid (is_any w _ A c l hr false hv)
    clear hr hd hv
    go_enter Tryd.func27, Tryd.ntmps27
    go_wp2_with fail
    refine HC.out.mono ?_
    rintro e w1 ⟨rfl, rfl⟩
    go_wp2_with fail
    go_ret
    exact ⟨by rw [HB.out]; rfl, Below.refl _ _⟩
  case true =>
    have HC := Lib.hid (is_any w _ A c l hr true hv)
    have HV := Lib.hid hv
    clear hr hd hv
    go_enter Tryd.func27, Tryd.ntmps27
    go_wp2_with fail
    refine HC.out.mono ?_
    rintro e w1 ⟨rfl, rfl⟩
    go_wp2_with fail
    refine (curveP_any w).mono ?_
    rintro e w2 ⟨g, hg, rfl, hP, hb⟩
    obtain ⟨x, hx⟩ : ∃ x, x = cmpL (trl l) (trl lP) := ⟨_, rfl⟩
    have HX := Lib.hid hx
    have HCC := Lib.hid (cmp_any w2 _ _ A (some ⟨g, 0, none⟩) c 8 l lP (HR.out.under hb) (Eight.rd hP rfl) x hx.symm)
    have HB := Lib.hid hb
    clear hx hP hb HC hg
    go_wp2_with fail
    refine HCC.out.mono ?_
    rintro e w3 ⟨rfl, q, rfl⟩
    go_wp2_with fail
    go_ret
    refine ⟨?_, bdN HB.out q⟩
    rw [HX.out, cmp_vals HD.out lP_ok.1, lP_ok.2.2.1]
    unfold blw
    rw [HV.out]
    by_cases h : val l < cP
    · rw [if_pos h]; simp [h]
    · rw [if_neg h]
      have : (if cP < val l then (1 : Int) else 0) < 0 ↔ False := by split <;> simp
      simp [h, this]
/-- A number, to be read. -/
def Got (w : World) (v : Nat) (e : Ending) (w' : World) : Prop :=
  ∃ A c r, e = .returned (.slice A r.length c) ∧ NumIs r v ∧ Rd .u32 w' w'.heap.size A c r ∧ Below w.heap.size w w'
set_option maxRecDepth 100000 in
theorem mulR_any (w : World) (A A' : Option Addr) (c c' : Nat) (l l' : List Nat) (hr : Rd .u32 w w.heap.size A c l) (hr' : Rd .u32 w w.heap.size A' c' l') (hd : Dg l) (hd' : Dg l') (hs : l.length ≤ 1000) (hs' : l'.length ≤ 1000) (hn : nrm l) (hn' : nrm l') :
    Calls Tryd.prog 35 #[.slice A l.length c, .slice A' l'.length c'] w (Got w (val l * val l' % cP)) := by
  go_enter Tryd.func35, Tryd.ntmps35
  go_wp2_with fail
  refine (refP_any w).mono ?_
  rintro e w1 ⟨g, hg, rfl, hP, hb⟩
  have HC := Lib.hid (mul8_yes w1 A A' (some ⟨g, 0, none⟩) c c' 8 l l' lP ((hr.under hb).more hb.size) ((hr'.under hb).more hb.size) (Eight.rd hP rfl) hd hd' lP_ok.1 hs hs' (by rw [lP_ok.2.2.2]; omega) (by rw [lP_ok.2.2.1]; exact Nat.ne_of_gt cP_pos)  lP_ok.2.1)
  rw [lP_ok.2.2.1] at HC
  have HB := Lib.hid hb
  clear hP hb hg
  go_wp2_with fail
  refine HC.out.mono ?_
  rintro e w2 ⟨A2, c2, r, rfl, hn, hf, hb2⟩
  go_wp2_with fail
  go_ret
  exact ⟨A2, c2, r, rfl, hn, hf, HB.out.trans (hb2.mono HB.out.size)⟩
set_option maxRecDepth 100000 in
theorem addR_any (w : World) (A A' : Option Addr) (c c' : Nat) (l l' : List Nat) (hr : Rd .u32 w w.heap.size A c l) (hr' : Rd .u32 w w.heap.size A' c' l') (hd : Dg l) (hd' : Dg l') (hs : l.length ≤ 1000) (hs' : l'.length ≤ 1000) (hn : nrm l) (hn' : nrm l') :
    Calls Tryd.prog 36 #[.slice A l.length c, .slice A' l'.length c'] w (Got w ((val l + val l') % cP)) := by
  go_enter Tryd.func36, Tryd.ntmps36
  go_wp2_with fail
  refine (refP_any w).mono ?_
  rintro e w1 ⟨g, hg, rfl, hP, hb⟩
  have HC := Lib.hid (add8_yes w1 A A' (some ⟨g, 0, none⟩) c c' 8 l l' lP ((hr.under hb).more hb.size) ((hr'.under hb).more hb.size) (Eight.rd hP rfl) hd hd' lP_ok.1 hs hs' (by rw [lP_ok.2.2.2]; omega) (by rw [lP_ok.2.2.1]; exact Nat.ne_of_gt cP_pos)  lP_ok.2.1)
  rw [lP_ok.2.2.1] at HC
  have HB := Lib.hid hb
  clear hP hb hg
  go_wp2_with fail
  refine HC.out.mono ?_
  rintro e w2 ⟨A2, c2, r, rfl, hn, hf, hb2⟩
  go_wp2_with fail
  go_ret
  exact ⟨A2, c2, r, rfl, hn, hf, HB.out.trans (hb2.mono HB.out.size)⟩
set_option maxRecDepth 100000 in
theorem subR_any (w : World) (A A' : Option Addr) (c c' : Nat) (l l' : List Nat) (hr : Rd .u32 w w.heap.size A c l) (hr' : Rd .u32 w w.heap.size A' c' l') (hd : Dg l) (hd' : Dg l') (hs : l.length ≤ 1000) (hs' : l'.length ≤ 1000) (hn : nrm l) (hn' : nrm l') :
    Calls Tryd.prog 37 #[.slice A l.length c, .slice A' l'.length c'] w (Got w ((val l % cP + (cP - val l' % cP)) % cP)) := by
  go_enter Tryd.func37, Tryd.ntmps37
  go_wp2_with fail
  refine (refP_any w).mono ?_
  rintro e w1 ⟨g, hg, rfl, hP, hb⟩
  have HC := Lib.hid (sub8_yes w1 A A' (some ⟨g, 0, none⟩) c c' 8 l l' lP ((hr.under hb).more hb.size) ((hr'.under hb).more hb.size) (Eight.rd hP rfl) hd hd' lP_ok.1 hs hs' (by rw [lP_ok.2.2.2]; omega) (by rw [lP_ok.2.2.1]; exact Nat.ne_of_gt cP_pos)  hn hn' lP_ok.2.1)
  rw [lP_ok.2.2.1] at HC
  have HB := Lib.hid hb
  clear hP hb hg
  go_wp2_with fail
  refine HC.out.mono ?_
  rintro e w2 ⟨A2, c2, r, rfl, hn, hf, hb2⟩
  go_wp2_with fail
  go_ret
  exact ⟨A2, c2, r, rfl, hn, hf, HB.out.trans (hb2.mono HB.out.size)⟩
theorem num_len8 {r : List Nat} {v : Nat} (h : NumIs r v) (hv : v < cP) : r.length ≤ 8 := by
  rcases Nat.lt_or_ge 8 r.length with h8 | h8
  · exfalso
    have h3 := nrm_low h.2.1 (by omega)
    have h4 : pw 8 ≤ pw (r.length - 1) := pw_mono (by omega)
    have h5 : cP < pw 8 := by decide +kernel
    have h6 := h.2.2
    omega
  · exact h8
set_option maxRecDepth 100000 in
theorem threeR_any (w : World) (A : Option Addr) (c : Nat) (l : List Nat) (hr : Rd .u32 w w.heap.size A c l) (hd : Dg l) (hs : l.length ≤ 1000) (hn : nrm l) :
    Calls Tryd.prog 38 #[.slice A l.length c] w (Got w ((val l + (val l + val l) % cP) % cP)) := by
  go_enter Tryd.func38, Tryd.ntmps38
  go_wp2_with fail
  refine (addR_any w A A c c l l hr hr hd hd hs hs hn hn).mono ?_
  rintro e w1 ⟨A1, c1, r1, rfl, hn1, hr1, hb1⟩
  have hl1 := num_len8 hn1 (Nat.mod_lt _ cP_pos)
  have HC := Lib.hid (addR_any w1 A A1 c c1 l r1 ((hr.under hb1).more hb1.size) hr1 hd hn1.1 hs (by omega) hn hn1.2.1)
  rw [hn1.2.2] at HC
  have HB := Lib.hid hb1
  clear hr hd hn1 hr1 hb1
  go_wp2_with fail
  refine HC.out.mono ?_
  rintro e w2 ⟨A2, c2, r, rfl, hn, hf, hb2⟩
  go_wp2_with fail
  go_ret
  exact ⟨A2, c2, r, rfl, hn, hf, HB.out.trans (hb2.mono HB.out.size)⟩
end Go.Proofs.YtjpoiecbjpipdaaDoor
