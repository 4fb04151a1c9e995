/-
  Many sectors at once: the mark.
-/
import Derived.Test.YtkmbgbbmhpidkaaEqB
namespace Go.Proofs.Ytkmbgbbmhpidkaa
open Go.RowKit
set_option linter.unusedVariables false
set_option linter.unusedSimpArgs false
attribute [local go_sem ↓] Go.wp_at_zero Go.wp_at_succ

theorem belowN {B : Nat} {w w' : World} (h : Below B w w') (n : Nat) : Below B w (w'.drewN n) := ⟨h.os, h.tape, h.output, h.size, h.block⟩
theorem secM_len : (secOf [109, 97, 114, 107]).length = 64 := secOf_length _
theorem markB_is (n : Nat) : markB n = ((secOf [109, 97, 114, 107]).set 4 (n / 256 % 256)).set 5 (n % 256) := by
  unfold markB
  rw [secOf_short (by simp [two8]), secOf_short (by simp)]
  simp [two8, zsec]
set_option maxRecDepth 100000 in
set_option maxHeartbeats 1000000 in
theorem markOf_any (w : World) (n : Nat) (hn : n < 65536) :
    Calls Try.prog 35 #[.int .i64 (n : Int)] w fun e w' => e = .returned (.slice (some ⟨w.heap.size, 0, none⟩) 64 64) ∧ Row .u8 5 w' w.heap.size (markB n) ∧ Below w.heap.size w w' := by
  have HH := Lib.hid (headed_mark w)
  go_enter Try.func35, Try.ntmps35
  go_wp2_with fail
  refine HH.out.mono ?_
  rintro e w1 ⟨rfl, hr, hb⟩
  have k4 := hr.cell (i := 4) (by rw [secM_len]; omega)
  have k5 := hr.cell (i := 5) (by rw [secM_len]; omega)
  have f4 := hr.open_ 4
  have f5 := hr.open_ 5
  have HS : Hid (Row .u8 5 ((w1.setCell ⟨w.heap.size, 4, none⟩ (.int .u8 ((n : Int) / 256))).setCell ⟨w.heap.size, 5, none⟩ (.int .u8 ((n : Int) % 256))) w.heap.size (markB n)) := Lib.hid (by
    have h := (hr.set 4 (n / 256)).set 5 (n % 256)
    rw [markB_is, Nat.mod_eq_of_lt (show n / 256 < 256 by omega)]
    exact h)
  have HB := Lib.hid ((hb.setCell (p := ⟨w.heap.size, 4, none⟩) (Nat.le_refl _) (.int .u8 ((n : Int) / 256))).setCell (p := ⟨w.heap.size, 5, none⟩) (Nat.le_refl _) (.int .u8 ((n : Int) % 256)))
  clear hr hb HH
  go_wp2_with fail
  go_ret
  exact ⟨rfl, HS.out, HB.out⟩
theorem or_i64 (v x : Nat) (hv : v < 256) (hx : x < 256) : bits .or .i64 ((v : Int) * 256) (x : Int) = ((v * 256 + x : Nat) : Int) := by
  have h := bits_join .i64 63 (by decide) (fun n h0 h1 => by rw [IntKind.wrap_i64]; omega) 8 ((v : Int) * 256) (x : Int) (by omega) (by omega) (by omega) (by omega) (by omega) (by omega)
  rw [h]
  omega

/-- What a mark tells. -/
def BegunP (w : World) : Option Nat → Ending → World → Prop
  | none, e, w' => e = .returned (.tuple #[.int .i64 0, .bool false]) ∧ Below w.heap.size w w'
  | some n, e, w' => e = .returned (.tuple #[.int .i64 (n : Int), .bool true]) ∧ Below w.heap.size w w'
theorem markB_oct (n : Nat) : Oct1 (markB n) := secOf_oct (fun x hx => by simp [two8] at hx; rcases hx with rfl | rfl | rfl | rfl | rfl | rfl <;> omega)
set_option maxRecDepth 100000 in
set_option maxHeartbeats 2000000 in
theorem begun_any (w : World) (A : Option Addr) (c : Nat) (b : List Nat) (hl : b.length = 64) (hr : Rd .u8 w w.heap.size A c b) (ho : Oct1 b) :
    Calls Try.prog 48 #[.slice A 64 c] w (BegunP w (begunN b)) := by
  have HH := Lib.hid (headed_nil w)
  have HE := Lib.hid fun (w1 : World) (hb : Below w.heap.size w w1) (hz : Row .u8 5 w1 w.heap.size zsec) => equalB w1 A (some ⟨w.heap.size, 0, none⟩) c 64 64 64 b zsec hl (by simp [zsec]) ((hr.under hb).more hb.size) (by
    have h := hz.rd (n := 64) (c := 64) (by simp [zsec]) (Nat.le_refl _) (by omega)
    rw [List.take_of_length_le (by simp [zsec])] at h
    exact h.more (Holds.lt hz)) ho zsec_oct
  obtain ⟨g, off, rfl, hlt, hcell⟩ := hr.2.2 (by omega)
  have h4 := hcell 4 (by omega)
  have h5 := hcell 5 (by omega)
  have o4 : b.getD 4 0 < 256 := ho _ (by rw [show b.getD 4 0 = b[4]'(by omega) by simp [List.getD, hl]]; exact List.getElem_mem _)
  have o5 : b.getD 5 0 < 256 := ho _ (by rw [show b.getD 5 0 = b[5]'(by omega) by simp [List.getD, hl]]; exact List.getElem_mem _)
  have hcc : 64 ≤ c := by have := hr.1; omega
  have hc63 := hr.2.1
  obtain ⟨r, hrr⟩ : ∃ r, r = begunN b := ⟨_, rfl⟩
  rw [← hrr]
  unfold begunN at hrr
  have HRb := Lib.hid hr
  have HOb := Lib.hid ho
  by_cases hz : b = zsec
  · rw [if_pos hz] at hrr
    rw [decide_eq_true hz] at HE
    clear hz hr ho hl hcell h4 h5 o4 o5
    go_enter Try.func48, Try.ntmps48
    go_wp2_with fail
    refine HH.out.mono ?_
    rintro e w1 ⟨rfl, hr1, hb1⟩
    have HB1 := Lib.hid hb1
    have HE1 := Lib.hid (HE.out w1 hb1 hr1)
    clear hr1 hb1 HH HE
    go_wp2_with fail
    refine HE1.out.mono ?_
    rintro e w2 ⟨rfl, rfl⟩
    go_wp2_with fail
    go_ret2
    rw [hrr]
    exact ⟨rfl, HB1.out⟩
  rw [if_neg hz] at hrr
  rw [decide_eq_false hz] at HE
  obtain ⟨x4, hx4⟩ : ∃ x, x = b.getD 4 0 := ⟨_, rfl⟩
  obtain ⟨x5, hx5⟩ : ∃ x, x = b.getD 5 0 := ⟨_, rfl⟩
  rw [← hx4] at h4 o4 hrr
  rw [← hx5] at h5 o5 hrr
  have HM := Lib.hid (fun w1 : World => markOf_any w1 (x4 * 256 + x5) (by omega))
  have HE2 := Lib.hid fun (w1 : World) (g2 : Nat) (hb : Below w.heap.size w w1) (hz : Row .u8 5 w1 g2 (markB (x4 * 256 + x5))) => equalB w1 (some ⟨g, off, none⟩) (some ⟨g2, 0, none⟩) c 64 64 64 b (markB (x4 * 256 + x5)) hl (secOf_length _) ((hr.under hb).more hb.size) (by
    have h := hz.rd (n := 64) (c := 64) (by rw [markB, secOf_length]; omega) (Nat.le_refl _) (by omega)
    rw [List.take_of_length_le (by rw [markB, secOf_length]; omega)] at h
    exact h.more (Holds.lt hz)) ho (markB_oct _)
  have HRR := Lib.hid hrr
  clear hz hr hl hcell hx4 hx5 ho hrr
  go_enter Try.func48, Try.ntmps48
  go_wp2_with fail
  refine HH.out.mono ?_
  rintro e w1 ⟨rfl, hr1, hb1⟩
  have HB1 := Lib.hid hb1
  have HE1 := Lib.hid (HE.out w1 hb1 hr1)
  have k4 := (hb1.cell (p := ⟨g, off + 4, none⟩) hlt).trans h4
  have k5 := (hb1.cell (p := ⟨g, off + 5, none⟩) hlt).trans h5
  clear hr1 hb1 HH HE h4 h5
  go_wp2_with fail
  refine HE1.out.mono ?_
  rintro e w2 ⟨rfl, rfl⟩
  have hor : bits .or .i64 ((x4 : Int) * 256) (x5 : Int) = ((x4 * 256 + x5 : Nat) : Int) := (or_i64 x4 x5 o4 o5).trans (by push_cast; rfl)
  obtain ⟨v, hv⟩ : ∃ v, v = x4 * 256 + x5 := ⟨_, rfl⟩
  rw [← hv] at hor HRR HM HE2
  have hv6 : v < 65536 := by omega
  clear hv
  go_wp2_with fail
  go_quiet (fail)
  by_cases h1 : v < 1
  · have d1 : decide ((v : Int) < 1) = true := decide_eq_true (by omega)
    have HR0 : Hid (r = none) := Lib.hid (by rw [HRR.out, if_pos (.inl h1)])
    clear HRR HM HE2
    go_wp2_with fail
    go_ret2
    rw [HR0.out]
    exact ⟨rfl, belowN HB1.out _⟩
  have d1 : decide ((v : Int) < 1) = false := decide_eq_false (by omega)
  by_cases h2 : 150 < v
  · have d2 : decide ((150 : Int) < (v : Int)) = true := decide_eq_true (by omega)
    have HR0 : Hid (r = none) := Lib.hid (by rw [HRR.out, if_pos (.inr (.inl h2))])
    clear HRR HM HE2
    go_wp2_with fail
    go_ret2
    rw [HR0.out]
    exact ⟨rfl, belowN HB1.out _⟩
  have d2 : decide ((150 : Int) < (v : Int)) = false := decide_eq_false (by omega)
  have HB1q := Lib.hid (belowN HB1.out nq)
  obtain ⟨W, hW⟩ : ∃ W, W = w1.drewN nq := ⟨_, rfl⟩
  rw [← hW] at HB1q ⊢
  clear hW
  go_wp2_with fail
  refine (HM.out _).mono ?_
  rintro e w3 ⟨rfl, hr3, hb3⟩
  have HB3 := Lib.hid (HB1q.out.trans (hb3.mono HB1q.out.size))
  have HE3 := Lib.hid (HE2.out w3 _ HB3.out hr3)
  clear hr3 hb3 HM HE2
  go_wp2_with fail
  refine HE3.out.mono ?_
  rintro e w4 ⟨rfl, rfl⟩
  rcases hd : decide (b = markB v) with _ | _
  · have HR0 : Hid (r = none) := Lib.hid (by rw [HRR.out, if_pos (.inr (.inr (of_decide_eq_false hd)))])
    clear HRR hd
    go_wp2_with fail
    go_ret2
    rw [HR0.out]
    exact ⟨rfl, HB3.out⟩
  · have HR0 : Hid (r = some v) := Lib.hid (by rw [HRR.out, if_neg (by rintro (h | h | h); exact h1 h; exact h2 h; exact h (of_decide_eq_true hd))])
    clear HRR hd
    go_wp2_with fail
    go_ret2
    rw [HR0.out]
    exact ⟨rfl, HB3.out⟩
end Go.Proofs.Ytkmbgbbmhpidkaa
