/-
  A sum, a difference of the field.
-/
import Derived.Test.YtjpoiecbjpipdaaDoorCv3
namespace Go.Proofs.YtjpoiecbjpipdaaDoor
open Go.RowKit
set_option linter.unusedVariables false
set_option linter.unusedSimpArgs false

def RelA (w : World) (l l' : List Nat) (o i : Value) (wr : World) : Prop :=
  ∃ (k c : Nat) (L : List Nat), k ≤ 4 ∧ i = .int .i64 (k : Int) ∧ o = .int .u64 (c : Int) ∧ c ≤ 1 ∧ Hid (Row .u64 47 wr (w.heap.size + 1 + 1 + 1) L ∧ L.length = 4 ∧ D64 L ∧ v64 (L.take k) + q64 k * c = v64 (l.take k) + v64 (l'.take k) ∧
    Row .u64 47 wr (w.heap.size) l ∧ Row .u64 47 wr (w.heap.size + 1) l' ∧ Holds wr (w.heap.size + 1 + 1) 47 #[.int .u64 0, .int .u64 0, .int .u64 0, .int .u64 0] ∧ Below w.heap.size w wr)
def RelS (w : World) (l l' : List Nat) (o i : Value) (wr : World) : Prop :=
  ∃ (k c : Nat) (L : List Nat), k ≤ 4 ∧ i = .int .i64 (k : Int) ∧ o = .int .u64 (c : Int) ∧ c ≤ 1 ∧ Hid (Row .u64 47 wr (w.heap.size + 1 + 1 + 1) L ∧ L.length = 4 ∧ D64 L ∧ v64 (L.take k) + v64 (l'.take k) = v64 (l.take k) + q64 k * c ∧
    Row .u64 47 wr (w.heap.size) l ∧ Row .u64 47 wr (w.heap.size + 1) l' ∧ Holds wr (w.heap.size + 1 + 1) 47 #[.int .u64 0, .int .u64 0, .int .u64 0, .int .u64 0] ∧ Below w.heap.size w wr)
set_option maxRecDepth 100000 in
set_option maxHeartbeats 4000000 in
theorem addF_any (w : World) (hm : CMet w) (l l' : List Nat) (hl : l.length = 4) (hl' : l'.length = 4) (hd : D64 l) (hd' : D64 l') (hX0 : v64 l < cP) (hY0 : v64 l' < cP) :
    Calls Tryd.prog 31 #[nv l, nv l'] w fun e w' => e = .returned (nv (nm ((v64 l + v64 l') % cP))) ∧ Below w.heap.size w w' := by
  obtain ⟨x0, x1, x2, x3, hx⟩ := four hl
  obtain ⟨y0, y1, y2, y3, hy⟩ := four hl'
  obtain ⟨w1, hw1⟩ : ∃ W, W = ((((w.alloc (.cells #[.int .u64 (x0 : Int), .int .u64 (x1 : Int), .int .u64 (x2 : Int), .int .u64 (x3 : Int)] 47)).alloc (.cells #[.int .u64 (y0 : Int), .int .u64 (y1 : Int), .int .u64 (y2 : Int), .int .u64 (y3 : Int)] 47)).alloc (.cells #[.int .u64 0, .int .u64 0, .int .u64 0, .int .u64 0] 47)).alloc (.cells #[.int .u64 0, .int .u64 0, .int .u64 0, .int .u64 0] 47)) := ⟨_, rfl⟩
  have hX : Row .u64 47 w1 (w.heap.size) l := by
    rw [hw1]
    unfold Row
    rw [nv_of hx]
    exact (((Holds.fresh w _ _).alloc _).alloc _).alloc _
  have hY : Row .u64 47 w1 (w.heap.size + 1) l' := by
    rw [hw1]
    unfold Row
    rw [nv_of hy]
    have h := Holds.fresh (w.alloc (.cells #[.int .u64 (x0 : Int), .int .u64 (x1 : Int), .int .u64 (x2 : Int), .int .u64 (x3 : Int)] 47)) 47 #[.int .u64 (y0 : Int), .int .u64 (y1 : Int), .int .u64 (y2 : Int), .int .u64 (y3 : Int)]
    rw [show (w.alloc (.cells #[.int .u64 (x0 : Int), .int .u64 (x1 : Int), .int .u64 (x2 : Int), .int .u64 (x3 : Int)] 47)).heap.size = w.heap.size + 1 by simp] at h
    exact (h.alloc _).alloc _
  have hR : Holds w1 (w.heap.size + 1 + 1) 47 #[.int .u64 0, .int .u64 0, .int .u64 0, .int .u64 0] := by
    rw [hw1]
    have h := Holds.fresh ((w.alloc (.cells #[.int .u64 (x0 : Int), .int .u64 (x1 : Int), .int .u64 (x2 : Int), .int .u64 (x3 : Int)] 47)).alloc (.cells #[.int .u64 (y0 : Int), .int .u64 (y1 : Int), .int .u64 (y2 : Int), .int .u64 (y3 : Int)] 47)) 47 #[.int .u64 0, .int .u64 0, .int .u64 0, .int .u64 0]
    rw [show ((w.alloc (.cells #[.int .u64 (x0 : Int), .int .u64 (x1 : Int), .int .u64 (x2 : Int), .int .u64 (x3 : Int)] 47)).alloc (.cells #[.int .u64 (y0 : Int), .int .u64 (y1 : Int), .int .u64 (y2 : Int), .int .u64 (y3 : Int)] 47)).heap.size = w.heap.size + 1 + 1 by simp] at h
    exact h.alloc _
  have hDr : Row .u64 47 w1 (w.heap.size + 1 + 1 + 1) (List.replicate 4 0) := by
    rw [hw1]
    have h := Holds.fresh (((w.alloc (.cells #[.int .u64 (x0 : Int), .int .u64 (x1 : Int), .int .u64 (x2 : Int), .int .u64 (x3 : Int)] 47)).alloc (.cells #[.int .u64 (y0 : Int), .int .u64 (y1 : Int), .int .u64 (y2 : Int), .int .u64 (y3 : Int)] 47)).alloc (.cells #[.int .u64 0, .int .u64 0, .int .u64 0, .int .u64 0] 47)) 47 #[.int .u64 0, .int .u64 0, .int .u64 0, .int .u64 0]
    rw [show (((w.alloc (.cells #[.int .u64 (x0 : Int), .int .u64 (x1 : Int), .int .u64 (x2 : Int), .int .u64 (x3 : Int)] 47)).alloc (.cells #[.int .u64 (y0 : Int), .int .u64 (y1 : Int), .int .u64 (y2 : Int), .int .u64 (y3 : Int)] 47)).alloc (.cells #[.int .u64 0, .int .u64 0, .int .u64 0, .int .u64 0] 47)).heap.size = w.heap.size + 1 + 1 + 1 by simp] at h
    exact h
  have hb : Below w.heap.size w w1 := by rw [hw1]; exact ((((Below.refl _ _).alloc (Nat.le_refl _) _).alloc (by simp) _).alloc (by simp; omega) _).alloc (by simp; omega) _
  have HS : RelA w l l' (.int .u64 0) (.int .i64 0) w1 := ⟨0, 0, _, by omega, rfl, rfl, by omega, Lib.hid ⟨hDr, by simp, D64.noughts 4, by simp [v64], hX, hY, hR, hb⟩⟩
  have HCM := Lib.hid hm
  have HXL := Lib.hid hx
  have HYL := Lib.hid hy
  have HW := Lib.hid hw1
  have HD := Lib.hid hd
  have HD' := Lib.hid hd'
  have HL := Lib.hid hl
  have HL' := Lib.hid hl'
  have HX0 := Lib.hid hX0
  have HY0 := Lib.hid hY0
  unfold nv
  rw [nv_of hx, nv_of hy]
  clear hm hl hl' hd hd' hx hy hX hY hR hDr hb hw1 hX0 hY0
  go_enter Tryd.func31, Tryd.ntmps31
  go_wp2_with fail
  rw [← HW.out]
  clear HW
  go_loopw [6, 8] (fun o i wr => RelA w l l' o i wr) (fun _ i _ => 4 - (intOf i).toNat)
  case atStart => exact HS
  case round =>
    obtain ⟨k, c, L, hk, rfl, rfl, hc, H⟩ := hrel
    obtain ⟨hD, hLl, hLd, hv, hX, hY, hR, hb⟩ := H.out
    by_cases hlt : k < 4
    · have t1 : decide ((k : Int) < 4) = true := decide_eq_true (by omega)
      obtain ⟨a, ha⟩ : ∃ a, a = l.getD k 0 := ⟨_, rfl⟩
      obtain ⟨p, hp⟩ : ∃ p, p = l'.getD k 0 := ⟨_, rfl⟩
      have ca := hX.cell (i := k) (by rw [HL.out]; exact hlt)
      have cp := hY.cell (i := k) (by rw [HL'.out]; exact hlt)
      rw [← ha] at ca
      rw [← hp] at cp
      have fd := hD.open_ k
      have cd := hD.cell (i := k) (by rw [hLl]; exact hlt)
      have hrun := run_add a p c hc
      have ha64 : a < 18446744073709551616 := by rw [ha]; exact HD.out.at_ k
      have hp64 : p < 18446744073709551616 := by rw [hp]; exact HD'.out.at_ k
      have hstep := sum_step (L := L) (l := l) (l' := l') (i := k) (o := c) (x := a) (y := p) (by rw [hLl]; exact hlt) hv ha hp
      obtain ⟨d, hd⟩ : ∃ d, d = (a + p + c) % 18446744073709551616 := ⟨_, rfl⟩
      obtain ⟨c', hc'⟩ : ∃ x, x = (a + p + c) / 18446744073709551616 := ⟨_, rfl⟩
      rw [← hd, ← hc'] at hrun hstep
      have hc1 : c' ≤ 1 := by rw [hc']; omega
      have hD2 := hD.set k d
      have HN : Hid (∀ q, RelA w l l' (.int .u64 (c' : Int)) (.int .i64 ((k : Int) + 1)) ((wr.setCell ⟨w.heap.size + 1 + 1 + 1, k, none⟩ (.int .u64 (d : Int))).drewN q)) := Lib.hid fun q =>
        ⟨k + 1, c', L.set k d, by omega, by push_cast; rfl, rfl, hc1, Lib.hid ⟨hD2, by rw [List.length_set]; exact hLl, hLd.set k d (by rw [hd]; exact Nat.mod_lt _ (by omega)), hstep, Holds.aside hX (p := ⟨w.heap.size + 1 + 1 + 1, k, none⟩) (by show w.heap.size ≠ w.heap.size + 1 + 1 + 1; omega) _, Holds.aside hY (p := ⟨w.heap.size + 1 + 1 + 1, k, none⟩) (by show w.heap.size + 1 ≠ w.heap.size + 1 + 1 + 1; omega) _, Holds.aside hR (p := ⟨w.heap.size + 1 + 1 + 1, k, none⟩) (by show w.heap.size + 1 + 1 ≠ w.heap.size + 1 + 1 + 1; omega) _, bdN (hb.setCell (p := ⟨w.heap.size + 1 + 1 + 1, k, none⟩) (by show w.heap.size ≤ w.heap.size + 1 + 1 + 1; omega) _) q⟩⟩
      clear hD hLl hLd hv hX hY hR hb ha hp ha64 hp64 hstep hd hc' hD2 H
      go_wp2_with fail
      go_region
      all_goals go_wp2_with fail
      all_goals exact ⟨HN.out 1, by simp [intOf]; omega⟩
    · obtain rfl : k = 4 := by omega
      have t1 : decide (((4 : Nat) : Int) < 4) = false := by decide
      obtain ⟨d0, d1, d2, d3, hLx⟩ := four hLl
      rw [v64_all L 4 (by omega), v64_all l 4 (by rw [HL.out]; omega), v64_all l' 4 (by rw [HL'.out]; omega), q64_4] at hv
      have hDH : Holds wr (w.heap.size + 1 + 1 + 1) 47 #[.int .u64 (d0 : Int), .int .u64 (d1 : Int), .int .u64 (d2 : Int), .int .u64 (d3 : Int)] := by
        have h := hD
        unfold Row at h
        rwa [nv_of hLx] at h
      have hon := once_any wr (HCM.out.under hb) L hLl hLd c (by omega) (by rw [hv]; have := HX0.out; have := HY0.out; omega)
      rw [hv] at hon
      obtain ⟨n0, n1, n2, n3, hn⟩ := four (nm_len ((v64 l + v64 l') % cP))
      unfold nv at hon
      rw [nv_of hLx, nv_of hn] at hon
      have HNN := Lib.hid hn
      have HON := Lib.hid hon
      have HRR := Lib.hid hR
      have HBB := Lib.hid hb
      have a0 := hDH.cell 0
      have a1 := hDH.cell 1
      have a2 := hDH.cell 2
      have a3 := hDH.cell 3
      clear hD hLl hLd hv hX hY hR hb hDH hon hn H hLx
      go_wp2_with fail
      refine HON.out.mono ?_
      rintro e w2 ⟨rfl, hb2⟩
      have hr2 := HRR.out.under hb2 HRR.out.lt
      have HR2 := Lib.hid hr2
      have HB2 := Lib.hid (HBB.out.trans (hb2.mono HBB.out.size))
      clear a0 a1 a2 a3 hb2 HON
      have z0 := hr2.cell 0
      have o0 := hr2.open_ 0
      have z1 := hr2.cell 1
      have o1 := hr2.open_ 1
      have z2 := hr2.cell 2
      have o2 := hr2.open_ 2
      have z3 := hr2.cell 3
      have o3 := hr2.open_ 3
      clear hr2
      go_wp2_with fail
      refine ret_num rfl rfl (set4 HR2.out _ _ _ _) rfl ⟨?_, below4 HB2.out (by omega) _ _ _ _⟩
      rw [nv_of HNN.out]
def RelT (w : World) (M : List Nat) (o i : Value) (wr : World) : Prop :=
  ∃ (k c : Nat) (L : List Nat), k ≤ 4 ∧ i = .int .i64 (k : Int) ∧ o = .int .u64 (c : Int) ∧ c ≤ 1 ∧ Hid (Row .u64 47 wr (w.heap.size + 1 + 1 + 1) L ∧ L.length = 4 ∧ D64 L ∧ v64 (L.take k) + q64 k * c = v64 (M.take k) + v64 (pL.take k) ∧ (∀ j, k ≤ j → L.getD j 0 = M.getD j 0) ∧
    Holds wr (w.heap.size + 1 + 1) 47 #[.int .u64 0, .int .u64 0, .int .u64 0, .int .u64 0] ∧ Below w.heap.size w wr)
set_option maxRecDepth 100000 in
set_option maxHeartbeats 4000000 in
theorem subF_any (w : World) (hm : CMet w) (l l' : List Nat) (hl : l.length = 4) (hl' : l'.length = 4) (hd : D64 l) (hd' : D64 l') (hX0 : v64 l < cP) (hY0 : v64 l' < cP) :
    Calls Tryd.prog 29 #[nv l, nv l'] w fun e w' => e = .returned (nv (nm ((v64 l + (cP - v64 l')) % cP))) ∧ Below w.heap.size w w' := by
  obtain ⟨x0, x1, x2, x3, hx⟩ := four hl
  obtain ⟨y0, y1, y2, y3, hy⟩ := four hl'
  obtain ⟨w1, hw1⟩ : ∃ W, W = ((((w.alloc (.cells #[.int .u64 (x0 : Int), .int .u64 (x1 : Int), .int .u64 (x2 : Int), .int .u64 (x3 : Int)] 47)).alloc (.cells #[.int .u64 (y0 : Int), .int .u64 (y1 : Int), .int .u64 (y2 : Int), .int .u64 (y3 : Int)] 47)).alloc (.cells #[.int .u64 0, .int .u64 0, .int .u64 0, .int .u64 0] 47)).alloc (.cells #[.int .u64 0, .int .u64 0, .int .u64 0, .int .u64 0] 47)) := ⟨_, rfl⟩
  have hX : Row .u64 47 w1 (w.heap.size) l := by
    rw [hw1]
    unfold Row
    rw [nv_of hx]
    exact (((Holds.fresh w _ _).alloc _).alloc _).alloc _
  have hY : Row .u64 47 w1 (w.heap.size + 1) l' := by
    rw [hw1]
    unfold Row
    rw [nv_of hy]
    have h := Holds.fresh (w.alloc (.cells #[.int .u64 (x0 : Int), .int .u64 (x1 : Int), .int .u64 (x2 : Int), .int .u64 (x3 : Int)] 47)) 47 #[.int .u64 (y0 : Int), .int .u64 (y1 : Int), .int .u64 (y2 : Int), .int .u64 (y3 : Int)]
    rw [show (w.alloc (.cells #[.int .u64 (x0 : Int), .int .u64 (x1 : Int), .int .u64 (x2 : Int), .int .u64 (x3 : Int)] 47)).heap.size = w.heap.size + 1 by simp] at h
    exact (h.alloc _).alloc _
  have hR : Holds w1 (w.heap.size + 1 + 1) 47 #[.int .u64 0, .int .u64 0, .int .u64 0, .int .u64 0] := by
    rw [hw1]
    have h := Holds.fresh ((w.alloc (.cells #[.int .u64 (x0 : Int), .int .u64 (x1 : Int), .int .u64 (x2 : Int), .int .u64 (x3 : Int)] 47)).alloc (.cells #[.int .u64 (y0 : Int), .int .u64 (y1 : Int), .int .u64 (y2 : Int), .int .u64 (y3 : Int)] 47)) 47 #[.int .u64 0, .int .u64 0, .int .u64 0, .int .u64 0]
    rw [show ((w.alloc (.cells #[.int .u64 (x0 : Int), .int .u64 (x1 : Int), .int .u64 (x2 : Int), .int .u64 (x3 : Int)] 47)).alloc (.cells #[.int .u64 (y0 : Int), .int .u64 (y1 : Int), .int .u64 (y2 : Int), .int .u64 (y3 : Int)] 47)).heap.size = w.heap.size + 1 + 1 by simp] at h
    exact h.alloc _
  have hDr : Row .u64 47 w1 (w.heap.size + 1 + 1 + 1) (List.replicate 4 0) := by
    rw [hw1]
    have h := Holds.fresh (((w.alloc (.cells #[.int .u64 (x0 : Int), .int .u64 (x1 : Int), .int .u64 (x2 : Int), .int .u64 (x3 : Int)] 47)).alloc (.cells #[.int .u64 (y0 : Int), .int .u64 (y1 : Int), .int .u64 (y2 : Int), .int .u64 (y3 : Int)] 47)).alloc (.cells #[.int .u64 0, .int .u64 0, .int .u64 0, .int .u64 0] 47)) 47 #[.int .u64 0, .int .u64 0, .int .u64 0, .int .u64 0]
    rw [show (((w.alloc (.cells #[.int .u64 (x0 : Int), .int .u64 (x1 : Int), .int .u64 (x2 : Int), .int .u64 (x3 : Int)] 47)).alloc (.cells #[.int .u64 (y0 : Int), .int .u64 (y1 : Int), .int .u64 (y2 : Int), .int .u64 (y3 : Int)] 47)).alloc (.cells #[.int .u64 0, .int .u64 0, .int .u64 0, .int .u64 0] 47)).heap.size = w.heap.size + 1 + 1 + 1 by simp] at h
    exact h
  have hb : Below w.heap.size w w1 := by rw [hw1]; exact ((((Below.refl _ _).alloc (Nat.le_refl _) _).alloc (by simp) _).alloc (by simp; omega) _).alloc (by simp; omega) _
  have HS : RelS w l l' (.int .u64 0) (.int .i64 0) w1 := ⟨0, 0, _, by omega, rfl, rfl, by omega, Lib.hid ⟨hDr, by simp, D64.noughts 4, by simp [v64], hX, hY, hR, hb⟩⟩
  have HCM := Lib.hid hm
  have HXL := Lib.hid hx
  have HYL := Lib.hid hy
  have HW := Lib.hid hw1
  have HD := Lib.hid hd
  have HD' := Lib.hid hd'
  have HL := Lib.hid hl
  have HL' := Lib.hid hl'
  have HX0 := Lib.hid hX0
  have HY0 := Lib.hid hY0
  unfold nv
  rw [nv_of hx, nv_of hy]
  clear hm hl hl' hd hd' hx hy hX hY hR hDr hb hw1 hX0 hY0
  go_enter Tryd.func29, Tryd.ntmps29
  go_wp2_with fail
  rw [← HW.out]
  clear HW
  go_loopw [6, 10] (fun o i wr => RelS w l l' o i wr) (fun _ i _ => 4 - (intOf i).toNat)
  case atStart => exact HS
  case round =>
    obtain ⟨k, c, L, hk, rfl, rfl, hc, H⟩ := hrel
    obtain ⟨hD, hLl, hLd, hv, hX, hY, hR, hb⟩ := H.out
    by_cases hlt : k < 4
    · have t1 : decide ((k : Int) < 4) = true := decide_eq_true (by omega)
      obtain ⟨a, ha⟩ : ∃ a, a = l.getD k 0 := ⟨_, rfl⟩
      obtain ⟨p, hp⟩ : ∃ p, p = l'.getD k 0 := ⟨_, rfl⟩
      have ca := hX.cell (i := k) (by rw [HL.out]; exact hlt)
      have cp := hY.cell (i := k) (by rw [HL'.out]; exact hlt)
      rw [← ha] at ca
      rw [← hp] at cp
      have fd := hD.open_ k
      have cd := hD.cell (i := k) (by rw [hLl]; exact hlt)
      have hrun := run_sub a p c hc
      have ha64 : a < 18446744073709551616 := by rw [ha]; exact HD.out.at_ k
      have hp64 : p < 18446744073709551616 := by rw [hp]; exact HD'.out.at_ k
      have hstep := diff_step (L := L) (l := l) (l' := l') (i := k) (o := c) (x := a) (y := p) (by rw [hLl]; exact hlt) hc hv ha hp ha64 hp64
      obtain ⟨d, hd⟩ : ∃ d, d = (a + 18446744073709551616 - p - c) % 18446744073709551616 := ⟨_, rfl⟩
      obtain ⟨c', hc'⟩ : ∃ x, x = (if a < p + c then 1 else 0 : Nat) := ⟨_, rfl⟩
      rw [← hd, ← hc'] at hrun hstep
      have hc1 : c' ≤ 1 := by rw [hc']; split <;> omega
      have hD2 := hD.set k d
      have HN : Hid (∀ q, RelS w l l' (.int .u64 (c' : Int)) (.int .i64 ((k : Int) + 1)) ((wr.setCell ⟨w.heap.size + 1 + 1 + 1, k, none⟩ (.int .u64 (d : Int))).drewN q)) := Lib.hid fun q =>
        ⟨k + 1, c', L.set k d, by omega, by push_cast; rfl, rfl, hc1, Lib.hid ⟨hD2, by rw [List.length_set]; exact hLl, hLd.set k d (by rw [hd]; exact Nat.mod_lt _ (by omega)), hstep, Holds.aside hX (p := ⟨w.heap.size + 1 + 1 + 1, k, none⟩) (by show w.heap.size ≠ w.heap.size + 1 + 1 + 1; omega) _, Holds.aside hY (p := ⟨w.heap.size + 1 + 1 + 1, k, none⟩) (by show w.heap.size + 1 ≠ w.heap.size + 1 + 1 + 1; omega) _, Holds.aside hR (p := ⟨w.heap.size + 1 + 1 + 1, k, none⟩) (by show w.heap.size + 1 + 1 ≠ w.heap.size + 1 + 1 + 1; omega) _, bdN (hb.setCell (p := ⟨w.heap.size + 1 + 1 + 1, k, none⟩) (by show w.heap.size ≤ w.heap.size + 1 + 1 + 1; omega) _) q⟩⟩
      clear hD hLl hLd hv hX hY hR hb ha hp ha64 hp64 hstep hd hc' hD2 H
      go_wp2_with fail
      go_region
      all_goals go_wp2_with fail
      all_goals exact ⟨HN.out 1, by simp [intOf]; omega⟩
    · obtain rfl : k = 4 := by omega
      have t1 : decide (((4 : Nat) : Int) < 4) = false := by decide
      obtain ⟨d0, d1, d2, d3, hLx⟩ := four hLl
      rw [v64_all L 4 (by omega), v64_all l 4 (by rw [HL.out]; omega), v64_all l' 4 (by rw [HL'.out]; omega), q64_4] at hv
      have hDH : Holds wr (w.heap.size + 1 + 1 + 1) 47 #[.int .u64 (d0 : Int), .int .u64 (d1 : Int), .int .u64 (d2 : Int), .int .u64 (d3 : Int)] := by
        have h := hD
        unfold Row at h
        rwa [nv_of hLx] at h
      have hlt' : v64 L < cR := by
        have h := v64_lt hLd
        rwa [hLl, q64_4] at h
      rcases Nat.eq_zero_or_pos c with h0 | h0
      · subst h0
        have HE : Hid (nm ((v64 l + (cP - v64 l')) % cP) = L) := Lib.hid (by
          have h1 := HX0.out
          have h2 := HY0.out
          rw [show v64 l + (cP - v64 l') = v64 L + cP by omega, Nat.add_mod_right, Nat.mod_eq_of_lt (by omega)]
          exact (nm_of hLd hLl rfl).symm)
        have HLX := Lib.hid hLx
        have HRR := Lib.hid hR
        have HBB := Lib.hid hb
        have t2 : (((0 : Nat) : Int) == 0) = true := rfl
        have a0 := hDH.cell 0
        have a1 := hDH.cell 1
        have a2 := hDH.cell 2
        have a3 := hDH.cell 3
        have z0 := hR.cell 0
        have o0 := hR.open_ 0
        have z1 := hR.cell 1
        have o1 := hR.open_ 1
        have z2 := hR.cell 2
        have o2 := hR.open_ 2
        have z3 := hR.cell 3
        have o3 := hR.open_ 3
        clear hD hLl hLd hv hX hY hR hb hDH H hLx hlt'
        go_wp2_with fail
        refine ret_num rfl rfl (set4 HRR.out _ _ _ _) rfl ⟨?_, below4 HBB.out (by omega) _ _ _ _⟩
        rw [HE.out, nv_of HLX.out]
      · obtain rfl : c = 1 := by omega
        have t2 : (((1 : Nat) : Int) == 0) = false := rfl
        have HDL := Lib.hid hD
        have HMD := Lib.hid hLd
        have HML := Lib.hid hLl
        have HRR := Lib.hid hR
        have HBB := Lib.hid hb
        have HVV : Hid (v64 L + v64 l' = v64 l + cR) := Lib.hid (by omega)
        have HLT := Lib.hid hlt'
        have HT0 : RelT w L (.int .u64 0) (.int .i64 0) wr := ⟨0, 0, L, by omega, rfl, rfl, by omega, Lib.hid ⟨hD, hLl, hLd, by simp [v64], fun j _ => rfl, hR, hb⟩⟩
        obtain ⟨V, hV⟩ : ∃ V, V = wr := ⟨_, rfl⟩
        subst hV
        clear hD hLl hLd hv hX hY hR hb hDH H hLx hlt'
        go_wp2_with fail
        go_loopw [8, 30] (fun o i wr => RelT w L o i wr) (fun _ i _ => 4 - (intOf i).toNat)
        case atStart => exact HT0
        case round =>
          obtain ⟨k, c, L2, hk, rfl, rfl, hc, H⟩ := hrel
          obtain ⟨hD, hLl, hLd, hv, hsame, hR, hb⟩ := H.out
          clear HT0
          by_cases hlt : k < 4
          · have t1 : decide ((k : Int) < 4) = true := decide_eq_true (by omega)
            obtain ⟨a, ha⟩ : ∃ a, a = L.getD k 0 := ⟨_, rfl⟩
            obtain ⟨p, hp⟩ : ∃ p, p = pL.getD k 0 := ⟨_, rfl⟩
            have cd := hD.cell (i := k) (by rw [hLl]; exact hlt)
            have cp := (HCM.out.under hb).1.2 k hlt
            rw [hsame k (Nat.le_refl _), ← ha] at cd
            rw [← hp] at cp
            have fd := hD.open_ k
            have hrun := run_add a p c hc
            have ha64 : a < 18446744073709551616 := by rw [ha]; exact HMD.out.at_ k
            have hp64 : p < 18446744073709551616 := by
              have : D64 pL := by unfold D64 pL; decide
              rw [hp]; exact this.at_ k
            have hstep := sum_step (L := L2) (l := L) (l' := pL) (i := k) (o := c) (x := a) (y := p) (by rw [hLl]; exact hlt) hv ha hp
            obtain ⟨d, hd⟩ : ∃ d, d = (a + p + c) % 18446744073709551616 := ⟨_, rfl⟩
            obtain ⟨c', hc'⟩ : ∃ x, x = (a + p + c) / 18446744073709551616 := ⟨_, rfl⟩
            rw [← hd, ← hc'] at hrun hstep
            have hc1 : c' ≤ 1 := by rw [hc']; omega
            have hD2 := hD.set k d
            have HN : Hid (∀ q, RelT w L (.int .u64 (c' : Int)) (.int .i64 ((k : Int) + 1)) ((wr.setCell ⟨w.heap.size + 1 + 1 + 1, k, none⟩ (.int .u64 (d : Int))).drewN q)) := Lib.hid fun q =>
              ⟨k + 1, c', L2.set k d, by omega, by push_cast; rfl, rfl, hc1, Lib.hid ⟨hD2, by rw [List.length_set]; exact hLl, hLd.set k d (by rw [hd]; exact Nat.mod_lt _ (by omega)), hstep, fun j hj => by rw [getD_set, if_neg (by omega)]; exact hsame j (by omega), Holds.aside hR (p := ⟨w.heap.size + 1 + 1 + 1, k, none⟩) (by show w.heap.size + 1 + 1 ≠ w.heap.size + 1 + 1 + 1; omega) _, bdN (hb.setCell (p := ⟨w.heap.size + 1 + 1 + 1, k, none⟩) (by show w.heap.size ≤ w.heap.size + 1 + 1 + 1; omega) _) q⟩⟩
            clear hD hLl hLd hv hsame hR hb ha hp ha64 hp64 hstep hd hc' hD2 H
            go_wp2_with fail
            go_region
            all_goals go_wp2_with fail
            all_goals exact ⟨HN.out 1, by simp [intOf]; omega⟩
          · obtain rfl : k = 4 := by omega
            have t1 : decide (((4 : Nat) : Int) < 4) = false := by decide
            obtain ⟨d0, d1, d2, d3, hLx⟩ := four hLl
            rw [v64_all L2 4 (by omega), v64_all L 4 (by rw [HML.out]; omega), v64_all pL 4 (by decide), q64_4, pL_val] at hv
            have hDH : Holds wr (w.heap.size + 1 + 1 + 1) 47 #[.int .u64 (d0 : Int), .int .u64 (d1 : Int), .int .u64 (d2 : Int), .int .u64 (d3 : Int)] := by
              have h := hD
              unfold Row at h
              rwa [nv_of hLx] at h
            have hlt2 : v64 L2 < cR := by
              have h := v64_lt hLd
              rwa [hLl, q64_4] at h
            have HE : Hid (nm ((v64 l + (cP - v64 l')) % cP) = L2) := Lib.hid (by
              have h1 := HX0.out
              have h2 := HY0.out
              have h3 := HVV.out
              have h4 := HLT.out
              have h5 := cP_cR
              have h6 : v64 L2 = v64 l + (cP - v64 l') := by
                rcases Nat.eq_zero_or_pos c with h | h
                · subst h; omega
                · obtain rfl : c = 1 := by omega
                  omega
              rw [← h6, Nat.mod_eq_of_lt (by omega)]
              exact (nm_of hLd hLl rfl).symm)
            have HLX := Lib.hid hLx
            have HR2 := Lib.hid hR
            have HB2 := Lib.hid hb
            have a0 := hDH.cell 0
            have a1 := hDH.cell 1
            have a2 := hDH.cell 2
            have a3 := hDH.cell 3
            have z0 := hR.cell 0
            have o0 := hR.open_ 0
            have z1 := hR.cell 1
            have o1 := hR.open_ 1
            have z2 := hR.cell 2
            have o2 := hR.open_ 2
            have z3 := hR.cell 3
            have o3 := hR.open_ 3
            clear hD hLl hLd hv hsame hR hb hDH H hLx hlt2
            go_wp2_with fail
            refine ret_num rfl rfl (set4 HR2.out _ _ _ _) rfl ⟨?_, below4 HB2.out (by omega) _ _ _ _⟩
            rw [HE.out, nv_of HLX.out]
end Go.Proofs.YtjpoiecbjpipdaaDoor
