/-
  Sums and differences of the field.
-/
import Derived.Test.YtjpoiecbjpipdaaDoorCv2
namespace Go.Proofs.YtjpoiecbjpipdaaDoor
open Go.RowKit
set_option linter.unusedVariables false
set_option linter.unusedSimpArgs false

theorem bdN {B : Nat} {a w : World} (h : Below B a w) (n : Nat) : Below B a (w.drewN n) := ⟨h.os, h.tape, h.output, h.size, h.block⟩
theorem set4 {w : World} {g : Nat} {t : TypeId} {a b c d : Value} (h : Holds w g t #[a, b, c, d]) (p q r s : Value) : Holds ((((w.setCell ⟨g, 0, none⟩ p).setCell ⟨g, 1, none⟩ q).setCell ⟨g, 2, none⟩ r).setCell ⟨g, 3, none⟩ s) g t #[p, q, r, s] :=
  (((h.stored 0 p).stored 1 q).stored 2 r).stored 3 s
theorem below4 {B : Nat} {a w : World} (h : Below B a w) {g : Nat} (hg : B ≤ g) (p q r s : Value) : Below B a ((((w.setCell ⟨g, 0, none⟩ p).setCell ⟨g, 1, none⟩ q).setCell ⟨g, 2, none⟩ r).setCell ⟨g, 3, none⟩ s) :=
  (((h.setCell (p := ⟨g, 0, none⟩) hg p).setCell (p := ⟨g, 1, none⟩) hg q).setCell (p := ⟨g, 2, none⟩) hg r).setCell (p := ⟨g, 3, none⟩) hg s
theorem nv_of {l : List Nat} {a b c d : Nat} (h : l = [a, b, c, d]) : nums .u64 l = #[.int .u64 (a : Int), .int .u64 (b : Int), .int .u64 (c : Int), .int .u64 (d : Int)] := by rw [h]; rfl
def RelO (w : World) (l M : List Nat) (o i : Value) (wr : World) : Prop :=
  ∃ (k c : Nat) (L : List Nat), k ≤ 4 ∧ i = .int .i64 (k : Int) ∧ o = .int .u64 (c : Int) ∧ c ≤ 1 ∧ Hid (Row .u64 47 wr (w.heap.size + 1 + 1) L ∧ L.length = 4 ∧ D64 L ∧ v64 (L.take k) + v64 (M.take k) = v64 (l.take k) + q64 k * c ∧
    Row .u64 47 wr w.heap.size l ∧ Holds wr (w.heap.size + 1) 47 #[.int .u64 0, .int .u64 0, .int .u64 0, .int .u64 0] ∧ Below w.heap.size w wr)
set_option maxRecDepth 100000 in
set_option maxHeartbeats 4000000 in
/-- P taken away once, where it may. -/
theorem once_any (w : World) (hm : CMet w) (l : List Nat) (hl : l.length = 4) (hd : D64 l) (f : Nat) (hf : f < 18446744073709551616) (hlim : v64 l + cR * f < 2 * cP) :
    Calls Tryd.prog 61 #[nv l, .int .u64 (f : Int)] w fun e w' => e = .returned (nv (nm ((v64 l + cR * f) % cP))) ∧ Below w.heap.size w w' := by
  obtain ⟨x0, x1, x2, x3, hx⟩ := four hl
  obtain ⟨w1, hw1⟩ : ∃ W, W = ((w.alloc (.cells #[.int .u64 (x0 : Int), .int .u64 (x1 : Int), .int .u64 (x2 : Int), .int .u64 (x3 : Int)] 47)).alloc (.cells #[.int .u64 0, .int .u64 0, .int .u64 0, .int .u64 0] 47)).alloc (.cells #[.int .u64 0, .int .u64 0, .int .u64 0, .int .u64 0] 47) := ⟨_, rfl⟩
  have hX : Row .u64 47 w1 w.heap.size l := by
    rw [hw1]
    unfold Row
    rw [nv_of hx]
    exact ((Holds.fresh w _ _).alloc _).alloc _
  have hR : Holds w1 (w.heap.size + 1) 47 #[.int .u64 0, .int .u64 0, .int .u64 0, .int .u64 0] := by
    rw [hw1]
    have h := Holds.fresh (w.alloc (.cells #[.int .u64 (x0 : Int), .int .u64 (x1 : Int), .int .u64 (x2 : Int), .int .u64 (x3 : Int)] 47)) 47 #[.int .u64 0, .int .u64 0, .int .u64 0, .int .u64 0]
    rw [show (w.alloc (.cells #[.int .u64 (x0 : Int), .int .u64 (x1 : Int), .int .u64 (x2 : Int), .int .u64 (x3 : Int)] 47)).heap.size = w.heap.size + 1 by simp] at h
    exact h.alloc _
  have hDr : Row .u64 47 w1 (w.heap.size + 1 + 1) (List.replicate 4 0) := by
    rw [hw1]
    have h := Holds.fresh ((w.alloc (.cells #[.int .u64 (x0 : Int), .int .u64 (x1 : Int), .int .u64 (x2 : Int), .int .u64 (x3 : Int)] 47)).alloc (.cells #[.int .u64 0, .int .u64 0, .int .u64 0, .int .u64 0] 47)) 47 #[.int .u64 0, .int .u64 0, .int .u64 0, .int .u64 0]
    rw [show ((w.alloc (.cells #[.int .u64 (x0 : Int), .int .u64 (x1 : Int), .int .u64 (x2 : Int), .int .u64 (x3 : Int)] 47)).alloc (.cells #[.int .u64 0, .int .u64 0, .int .u64 0, .int .u64 0] 47)).heap.size = w.heap.size + 1 + 1 by simp] at h
    exact h
  have hb : Below w.heap.size w w1 := by rw [hw1]; exact (((Below.refl _ _).alloc (Nat.le_refl _) _).alloc (by simp) _).alloc (by simp; omega) _
  have HS : RelO w l pL (.int .u64 0) (.int .i64 0) w1 := ⟨0, 0, _, by omega, rfl, rfl, by omega, Lib.hid ⟨hDr, by simp, D64.noughts 4, by simp [v64], hX, hR, hb⟩⟩
  have HCM := Lib.hid hm
  have HX := Lib.hid hx
  have HW := Lib.hid hw1
  have HD := Lib.hid hd
  have HL := Lib.hid hl
  have HLIM := Lib.hid hlim
  unfold nv
  rw [nv_of hx]
  clear hm hl hd hx hlim hX hR hDr hb hw1
  go_enter Tryd.func61, Tryd.ntmps61
  go_wp2_with fail
  rw [← HW.out]
  clear HW
  go_loopw [6, 8] (fun o i wr => RelO w l pL o i wr) (fun _ i _ => 4 - (intOf i).toNat)
  case atStart => exact HS
  case round =>
    obtain ⟨k, c, L, hk, rfl, rfl, hc, H⟩ := hrel
    obtain ⟨hD, hLl, hLd, hv, hX, hR, hb⟩ := H.out
    have hm := HCM.out.under hb
    by_cases hlt : k < 4
    · have t1 : decide ((k : Int) < 4) = true := decide_eq_true (by omega)
      obtain ⟨a, ha⟩ : ∃ a, a = l.getD k 0 := ⟨_, rfl⟩
      obtain ⟨p, hp⟩ : ∃ p, p = pL.getD k 0 := ⟨_, rfl⟩
      have ca := hX.cell (i := k) (by rw [HL.out]; exact hlt)
      have cp := hm.1.2 k hlt
      rw [← ha] at ca
      rw [← hp] at cp
      have fd := hD.open_ k
      have cd := hD.cell (i := k) (by rw [hLl]; exact hlt)
      have hrun := run_sub a p c hc
      have ha64 : a < 18446744073709551616 := by rw [ha]; exact HD.out.at_ k
      have hp64 : p < 18446744073709551616 := by
        have : D64 pL := by unfold D64 pL; decide
        rw [hp]; exact this.at_ k
      have hstep := diff_step (L := L) (l := l) (l' := pL) (i := k) (o := c) (x := a) (y := p) (by rw [hLl]; exact hlt) hc hv ha hp ha64 hp64
      obtain ⟨d, hd⟩ : ∃ d, d = (a + 18446744073709551616 - p - c) % 18446744073709551616 := ⟨_, rfl⟩
      obtain ⟨c', hc'⟩ : ∃ x, x = (if a < p + c then 1 else 0 : Nat) := ⟨_, rfl⟩
      rw [← hd, ← hc'] at hrun hstep
      have hc1 : c' ≤ 1 := by rw [hc']; split <;> omega
      have hne1 : w.heap.size + 1 + 1 ≠ w.heap.size := by omega
      have hne2 : w.heap.size + 1 + 1 ≠ w.heap.size + 1 := by omega
      have hD2 := hD.set k d
      have HN : Hid (∀ q, RelO w l pL (.int .u64 (c' : Int)) (.int .i64 ((k : Int) + 1)) ((wr.setCell ⟨w.heap.size + 1 + 1, k, none⟩ (.int .u64 (d : Int))).drewN q)) := Lib.hid fun q =>
        ⟨k + 1, c', L.set k d, by omega, by push_cast; rfl, rfl, hc1, Lib.hid ⟨hD2, by rw [List.length_set]; exact hLl, hLd.set k d (by rw [hd]; exact Nat.mod_lt _ (by omega)), hstep, Holds.aside hX (p := ⟨w.heap.size + 1 + 1, k, none⟩) (by show w.heap.size ≠ w.heap.size + 1 + 1; omega) _, Holds.aside hR (p := ⟨w.heap.size + 1 + 1, k, none⟩) (by show w.heap.size + 1 ≠ w.heap.size + 1 + 1; omega) _, bdN (hb.setCell (p := ⟨w.heap.size + 1 + 1, k, none⟩) (by show w.heap.size ≤ w.heap.size + 1 + 1; omega) _) q⟩⟩
      clear hD hLl hLd hv hX hR hb hm ha hp ha64 hp64 hstep hd hc' hne1 hne2 hD2 H
      go_wp2_with fail
      go_region
      all_goals go_wp2_with fail
      all_goals exact ⟨HN.out 1, by simp [intOf]; omega⟩
    · obtain rfl : k = 4 := by omega
      have t1 : decide (((4 : Nat) : Int) < 4) = false := by decide
      obtain ⟨d0, d1, d2, d3, hLx⟩ := four hLl
      rw [v64_all L 4 (by omega), v64_all pL 4 (by decide), v64_all l 4 (by rw [HL.out]; omega), q64_4, pL_val] at hv
      have hXH : Holds wr w.heap.size 47 #[.int .u64 (x0 : Int), .int .u64 (x1 : Int), .int .u64 (x2 : Int), .int .u64 (x3 : Int)] := by
        have h := hX
        unfold Row at h
        rwa [nv_of HX.out] at h
      have hDH : Holds wr (w.heap.size + 1 + 1) 47 #[.int .u64 (d0 : Int), .int .u64 (d1 : Int), .int .u64 (d2 : Int), .int .u64 (d3 : Int)] := by
        have h := hD
        unfold Row at h
        rwa [nv_of hLx] at h
      have hRX : v64 l < cR := by
        have h := v64_lt HD.out
        rwa [HL.out, q64_4] at h
      have hRD : v64 L < cR := by
        have h := v64_lt hLd
        rwa [hLl, q64_4] at h
      have z0 := hR.cell 0
      have z1 := hR.cell 1
      have z2 := hR.cell 2
      have z3 := hR.cell 3
      have y0 := hR.open_ 0
      have y1 := hR.open_ 1
      have y2 := hR.open_ 2
      have y3 := hR.open_ 3
      have HRH := Lib.hid hR
      have HBB := Lib.hid hb
      have hbd : ∀ p q r s, Below w.heap.size w ((((wr.setCell ⟨w.heap.size + 1, 0, none⟩ p).setCell ⟨w.heap.size + 1, 1, none⟩ q).setCell ⟨w.heap.size + 1, 2, none⟩ r).setCell ⟨w.heap.size + 1, 3, none⟩ s) := fun p q r s => below4 hb (by omega) p q r s
      have HBD := Lib.hid hbd
      by_cases hfc : f < c
      · have hlow := once_low hRX hRD hv hc HLIM.out hfc
        have t2 : decide ((f : Int) < (c : Int)) = true := decide_eq_true (by omega)
        have t2' : decide (f < c) = true := decide_eq_true hfc
        have HE : Hid (nm ((v64 l + cR * f) % cP) = l) := Lib.hid (by rw [hlow.2, Nat.mul_zero, Nat.add_zero, Nat.mod_eq_of_lt hlow.1]; exact (nm_of HD.out HL.out rfl).symm)
        have a0 := hXH.cell 0
        have a1 := hXH.cell 1
        have a2 := hXH.cell 2
        have a3 := hXH.cell 3
        clear hD hLl hLd hv hX hR hb hXH hDH hRX hRD hbd hfc hlow H hLx
        go_wp2_with fail
        refine ret_num rfl rfl (set4 HRH.out _ _ _ _) rfl ⟨?_, HBD.out _ _ _ _⟩
        rw [HE.out, nv_of HX.out]
      · have hhigh := once_high hRX hRD hv hc HLIM.out hfc
        have t2 : decide ((f : Int) < (c : Int)) = false := decide_eq_false (by omega)
        have t2' : decide (f < c) = false := decide_eq_false hfc
        have HE : Hid (nm ((v64 l + cR * f) % cP) = L) := Lib.hid (by rw [← hhigh.1, Nat.add_mod_right, Nat.mod_eq_of_lt hhigh.2]; exact (nm_of hLd hLl rfl).symm)
        have HLX := Lib.hid hLx
        have a0 := hDH.cell 0
        have a1 := hDH.cell 1
        have a2 := hDH.cell 2
        have a3 := hDH.cell 3
        clear hD hLl hLd hv hX hR hb hXH hDH hRX hRD hbd hfc hhigh H hLx
        go_wp2_with fail
        refine ret_num rfl rfl (set4 HRH.out _ _ _ _) rfl ⟨?_, HBD.out _ _ _ _⟩
        rw [HE.out, nv_of HLX.out]
end Go.Proofs.YtjpoiecbjpipdaaDoor
