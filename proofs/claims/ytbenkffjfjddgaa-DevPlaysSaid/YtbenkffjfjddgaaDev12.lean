/-
  What was flushed stays, what waits is lost.
-/
import Derived.Test.YtbenkffjfjddgaaDev11
namespace Go.Proofs.Ytbenkffjfjddgaa
open Go.RowKit
set_option linter.unusedVariables false
set_option linter.unusedSimpArgs false
attribute [local go_sem ↓] Go.wp_at_zero Go.wp_at_succ

theorem Dk.write_good {s : Dk} {k : Nat} {x : List Nat} (hd : s.down = false) (hk : k < s.now.length) (hx : x.length = 64) (hu : s.due = false) : s.write (k : Int) x = (s.wrote k x, 0) := by
  unfold Dk.write
  rw [if_neg (by rw [hd]; decide), if_pos ⟨by omega, by omega, hx⟩, if_neg (by rw [hu]; decide), Int.toNat_natCast]
theorem Dk.flush_good {s : Dk} (hd : s.down = false) (hu : s.due = false) : s.flush = (s.flushed, 0) := by
  unfold Dk.flush
  rw [if_neg (by rw [hd]; decide), if_neg (by rw [hu]; decide)]
theorem due_unarmed {s : Dk} (h : s.armed = false) : s.due = false := by unfold Dk.due; rw [h]; rfl
def flA (n k : Nat) (x : List Nat) : Dk := (fresh n).wrote k x
def flB (n k : Nat) (x : List Nat) : Dk := (flA n k x).flushed
def flC (n k : Nat) (x y : List Nat) : Dk := (flB n k x).wrote k y
theorem flC_read (n k : Nat) (x y : List Nat) (hk : k < n) : (flC n k x y).read (k : Int) = y := by
  unfold Dk.read
  rw [if_pos (by omega), Int.toNat_natCast]
  simp [flC, flB, flA, Dk.wrote, Dk.flushed, fresh, List.getD, hk]
theorem flD_read (n k : Nat) (x y : List Nat) (hk : k < n) : (flC n k x y).restart.read (k : Int) = x := by
  unfold Dk.read
  rw [if_pos (by omega), Int.toNat_natCast]
  simp [flC, flB, flA, Dk.wrote, Dk.flushed, Dk.restart, fresh, backN, fallN, List.getD, hk]

set_option maxRecDepth 100000 in
set_option maxHeartbeats 4000000 in
theorem flushed_no (w : World) (A1 A2 : Option Addr) (c1 c2 n1 n2 : Nat) (k : Int) (h : 64 < n1 ∨ 64 < n2 ∨ k < 0 ∨ 5 < k) :
    Calls Try.prog 5 #[.slice A1 n1 c1, .slice A2 n2 c2, .int .i64 k] w fun e w' => e = .returned (.bool true) ∧ Below w.heap.size w w' := by
  by_cases h1 : 64 < n1
  · have d1 : decide ((64 : Int) < (n1 : Int)) = true := decide_eq_true (by omega)
    clear h
    go_enter Try.func5, Try.ntmps5
    go_wp2_with fail
    go_ret
    exact ⟨rfl, Below.refl _ _⟩
  have d1 : decide ((64 : Int) < (n1 : Int)) = false := decide_eq_false (by omega)
  by_cases h2 : 64 < n2
  · have d2 : decide ((64 : Int) < (n2 : Int)) = true := decide_eq_true (by omega)
    clear h
    go_enter Try.func5, Try.ntmps5
    go_wp2_with fail
    go_ret
    exact ⟨rfl, Below.refl _ _⟩
  have d2 : decide ((64 : Int) < (n2 : Int)) = false := decide_eq_false (by omega)
  by_cases h3 : k < 0
  · have d3 : decide (k < 0) = true := decide_eq_true (by omega)
    clear h
    go_enter Try.func5, Try.ntmps5
    go_wp2_with fail
    go_ret
    exact ⟨rfl, Below.refl _ _⟩
  have d3 : decide (k < 0) = false := decide_eq_false (by omega)
  have d4 : decide (5 < k) = true := decide_eq_true (by omega)
  clear h
  go_enter Try.func5, Try.ntmps5
  go_wp2_with fail
  go_ret
  exact ⟨rfl, Below.refl _ _⟩

set_option maxRecDepth 100000 in
set_option maxHeartbeats 4000000 in
theorem flushed_yes (w : World) (A1 A2 : Option Addr) (c1 c2 n1 n2 : Nat) (l1 l2 : List Nat) (hl1 : l1.length = n1) (hl2 : l2.length = n2) (hr1 : Rd .u8 w w.heap.size A1 c1 l1) (hr2 : Rd .u8 w w.heap.size A2 c2 l2) (ho1 : Oct1 l1) (ho2 : Oct1 l2) (k : Nat) (h1 : n1 ≤ 64) (h2 : n2 ≤ 64) (hk : k ≤ 5) :
    Calls Try.prog 5 #[.slice A1 n1 c1, .slice A2 n2 c2, .int .i64 k] w fun e w' => e = .returned (.bool true) ∧ Below w.heap.size w w' := by
  have d1 : decide ((64 : Int) < (n1 : Int)) = false := decide_eq_false (by omega)
  have d2 : decide ((64 : Int) < (n2 : Int)) = false := decide_eq_false (by omega)
  have d3 : decide ((k : Int) < 0) = false := decide_eq_false (by omega)
  have d4 : decide ((5 : Int) < (k : Int)) = false := decide_eq_false (by omega)
  have HL1 := Lib.hid hl1
  have HL2 := Lib.hid hl2
  have HR1 : Hid (∀ W, Below w.heap.size w W → Rd .u8 W W.heap.size A1 c1 l1) := Lib.hid fun W hW => (hr1.under hW).more hW.size
  have HR2 : Hid (∀ W, Below w.heap.size w W → Rd .u8 W W.heap.size A2 c2 l2) := Lib.hid fun W hW => (hr2.under hW).more hW.size
  have HSL : Hid (∀ l, (secOf l).length = 64) := Lib.hid secOf_length
  have HSL1 : Hid ((secOf l1).length = 64) := Lib.hid (secOf_length _)
  have HSL2 : Hid ((secOf l2).length = 64) := Lib.hid (secOf_length _)
  have HO1 : Hid (∀ x ∈ secOf l1, x < 256) := Lib.hid (secOf_oct ho1)
  have HO2 : Hid (∀ x ∈ secOf l2, x < 256) := Lib.hid (secOf_oct ho2)
  have HST : Hid (((fresh 6).write k (secOf l1)) = (flA 6 k (secOf l1), 0) ∧ (flA 6 k (secOf l1)).flush = (flB 6 k (secOf l1), 0) ∧ (flB 6 k (secOf l1)).write k (secOf l2) = (flC 6 k (secOf l1) (secOf l2), 0) ∧ (flC 6 k (secOf l1) (secOf l2)).read k = secOf l2 ∧ (flC 6 k (secOf l1) (secOf l2)).restart.read k = secOf l1) := Lib.hid
    ⟨Dk.write_good rfl (by simp [fresh]; omega) (secOf_length _) (due_unarmed rfl), Dk.flush_good rfl (due_unarmed rfl), Dk.write_good rfl (by simp [flB, flA, Dk.wrote, Dk.flushed, fresh]; omega) (secOf_length _) (due_unarmed rfl), flC_read 6 k _ _ (by omega), flD_read 6 k _ _ (by omega)⟩
  have HBD : Hid ((flA 6 k (secOf l1)).waits.length ≤ 100000 ∧ (flA 6 k (secOf l1)).ops ≤ 1000000000 ∧ (flB 6 k (secOf l1)).waits.length ≤ 100000 ∧ (flB 6 k (secOf l1)).ops ≤ 1000000000 ∧ (flC 6 k (secOf l1) (secOf l2)).waits.length ≤ 100000) := Lib.hid (by
    simp [flA, flB, flC, Dk.wrote, Dk.flushed, fresh])
  obtain ⟨z1, hz1⟩ : ∃ z, z = str (secOf l1) := ⟨_, rfl⟩
  obtain ⟨z2, hz2⟩ : ∃ z, z = str (secOf l2) := ⟨_, rfl⟩
  have HZ1 := Lib.hid hz1
  have HZ2 := Lib.hid hz2
  have hnew := diskB_new w 6 (by omega) (by omega)
  rw [show ((6 : Nat) : Int) = 6 from rfl] at hnew
  have HNEW := Lib.hid hnew
  clear hnew hl1 hl2 hr1 hr2 ho1 ho2 hz1 hz2
  go_enter Try.func5, Try.ntmps5
  go_wp2_with fail
  refine HNEW.out.mono ?_
  rintro e w1 ⟨gd, rfl, hd1, hb1⟩
  have HD1 := Lib.hid hd1
  have HQ1 := Lib.hid hb1
  clear hd1 hb1 HNEW
  go_wp2_with fail
  refine (sectorR w1 A1 c1 n1 l1 HL1.out (HR1.out w1 HQ1.out)).mono ?_
  rintro e w2 ⟨rfl, _, hr2, hb2⟩
  have HD2 := Lib.hid (HD1.out.under hb2)
  have HQ2 := Lib.hid (HQ1.out.trans (hb2.mono HQ1.out.size))
  have HRA := Lib.hid hr2
  clear hr2 hb2
  go_wp2_with fail
  refine (diskB_write HD2.out k _ 64 64 (secOf l1) (secOf_length _) HRA.out (by simp [fresh]) (by simp [fresh])).mono ?_
  rintro e w3 ⟨rfl, hd3, hb3⟩
  rw [HST.out.1] at hd3 ⊢
  have HD3 := Lib.hid hd3
  have HQ3 := Lib.hid (HQ2.out.trans hb3)
  clear hd3 hb3 HRA
  go_wp2_with fail
  refine (diskB_flush HD3.out HBD.out.1 HBD.out.2.1).mono ?_
  rintro e w4 ⟨rfl, hd4, hb4⟩
  rw [HST.out.2.1] at hd4 ⊢
  have HD4 := Lib.hid hd4
  have HQ4 := Lib.hid (HQ3.out.trans hb4)
  clear hd4 hb4
  go_wp2_with fail
  refine (sectorR w4 A2 c2 n2 l2 HL2.out (HR2.out w4 HQ4.out)).mono ?_
  rintro e w5 ⟨rfl, _, hr5, hb5⟩
  have HD5 := Lib.hid (HD4.out.under hb5)
  have HQ5 := Lib.hid (HQ4.out.trans (hb5.mono HQ4.out.size))
  have HRB := Lib.hid hr5
  clear hr5 hb5
  go_wp2_with fail
  refine (diskB_write HD5.out k _ 64 64 (secOf l2) (secOf_length _) HRB.out HBD.out.2.2.1 HBD.out.2.2.2.1).mono ?_
  rintro e w6 ⟨rfl, hd6, hb6⟩
  rw [HST.out.2.2.1] at hd6 ⊢
  have HD6 := Lib.hid hd6
  have HQ6 := Lib.hid (HQ5.out.trans hb6)
  clear hd6 hb6 HRB
  go_wp2_with fail
  refine (diskB_read HD6.out k (secOf l2) HST.out.2.2.2.1).mono ?_
  rintro e w7 ⟨A7, c7, rfl, hr7, hb7⟩
  rw [HSL.out]
  have hcv := conv_str hr7 HSL2.out HO2.out
  rw [← HZ2.out] at hcv
  have HD7 := Lib.hid (HD6.out.under hb7)
  have HQ7 := Lib.hid (HQ6.out.trans (hb7.mono HQ6.out.size))
  clear hr7 hb7
  go_wp2_with fail
  refine (diskB_restart HD7.out HBD.out.2.2.2.2).mono ?_
  rintro e w8 ⟨rfl, hd8, hb8⟩
  have HD8 := Lib.hid (hd8.drew)
  have HQ8 : Hid (Below w.heap.size w w8.drew) := Lib.hid (HQ7.out.trans hb8).drew
  clear hd8 hb8 hcv HD1 HD2 HD3 HD4 HD5 HD6 HD7 HQ1 HQ2 HQ3 HQ4 HQ5 HQ6 HQ7
  go_wp2_with fail
  refine wp_region_noPanic ?_
  refine wp_region_held_drew (S := fun _ => True) (by kernel_rfl) trivial (fun hHeld => ?_)
  refine wpAnyH_take (i := 0) (oi := { dst := some 47, op := Op.move (Operand.tmp 8), type := 34, pos := _, after := _, guard := none }) (v := ?_) rfl (by kernel_rfl) (by kernel_rfl) (by kernel_rfl) (fun _ _ _ h => h) (Or.inl ⟨by rfl, ?_⟩) hHeld ?_
  rotate_left 1
  · (intro W hW; (try dsimp only at hW); go_simp; try with_reducible rfl)
  try simp only [Act.put, List.setIfInBounds_toArray, List.set_cons_zero, List.set_cons_succ]
  refine wpAnyH_take (i := 1) (oi := { dst := some 48, op := Op.binOp BinOp.eql 34 (Operand.tmp 47) (Operand.const (Value.int IntKind.i64 0)) 34, type := 4, pos := _, after := _, guard := none }) (v := ?_) rfl (by kernel_rfl) (by kernel_rfl) (by kernel_rfl) (fun _ _ _ h => h) (Or.inl ⟨by rfl, ?_⟩) hHeld ?_
  rotate_left 1
  · (intro W hW; (try dsimp only at hW); go_simp; try with_reducible rfl)
  try simp only [Act.put, List.setIfInBounds_toArray, List.set_cons_zero, List.set_cons_succ]
  refine wpAnyH_take (i := 2) (oi := { dst := some 49, op := Op.move (Operand.tmp 48), type := 4, pos := _, after := _, guard := none }) (v := ?_) rfl (by kernel_rfl) (by kernel_rfl) (by kernel_rfl) (fun _ _ _ h => h) (Or.inl ⟨by rfl, ?_⟩) hHeld ?_
  rotate_left 1
  · (intro W hW; (try dsimp only at hW); go_simp; try with_reducible rfl)
  try simp only [Act.put, List.setIfInBounds_toArray, List.set_cons_zero, List.set_cons_succ]
  refine wpAnyH_take (i := 3) (oi := { dst := some 50, op := Op.move (Operand.tmp 9), type := 34, pos := _, after := _, guard := some (2, true) }) (v := ?_) rfl (by kernel_rfl) (by kernel_rfl) (by kernel_rfl) (fun _ _ _ h => h) (Or.inl ⟨by rfl, ?_⟩) hHeld ?_
  rotate_left 1
  · (intro W hW; (try dsimp only at hW); go_simp; try with_reducible rfl)
  try simp only [Act.put, List.setIfInBounds_toArray, List.set_cons_zero, List.set_cons_succ]
  refine wpAnyH_take (i := 4) (oi := { dst := some 51, op := Op.binOp BinOp.eql 34 (Operand.tmp 50) (Operand.const (Value.int IntKind.i64 0)) 34, type := 4, pos := _, after := _, guard := some (2, true) }) (v := ?_) rfl (by kernel_rfl) (by kernel_rfl) (by kernel_rfl) (fun _ _ _ h => h) (Or.inl ⟨by rfl, ?_⟩) hHeld ?_
  rotate_left 1
  · (intro W hW; (try dsimp only at hW); go_simp; try with_reducible rfl)
  try simp only [Act.put, List.setIfInBounds_toArray, List.set_cons_zero, List.set_cons_succ]
  refine wpAnyH_take (i := 5) (oi := { dst := some 52, op := Op.pick (Operand.tmp 49) (Operand.tmp 51) (Operand.const (Value.bool false)), type := 4, pos := _, after := _, guard := none }) (v := ?_) rfl (by kernel_rfl) (by kernel_rfl) (by kernel_rfl) (fun _ _ _ h => h) (Or.inl ⟨by rfl, ?_⟩) hHeld ?_
  rotate_left 1
  · (intro W hW; (try dsimp only at hW); go_simp; try with_reducible rfl)
  try simp only [Act.put, List.setIfInBounds_toArray, List.set_cons_zero, List.set_cons_succ]
  refine wpAnyH_take (i := 6) (oi := { dst := some 53, op := Op.move (Operand.tmp 52), type := 4, pos := _, after := _, guard := none }) (v := ?_) rfl (by kernel_rfl) (by kernel_rfl) (by kernel_rfl) (fun _ _ _ h => h) (Or.inl ⟨by rfl, ?_⟩) hHeld ?_
  rotate_left 1
  · (intro W hW; (try dsimp only at hW); go_simp; try with_reducible rfl)
  try simp only [Act.put, List.setIfInBounds_toArray, List.set_cons_zero, List.set_cons_succ]
  refine wpAnyH_take (i := 7) (oi := { dst := some 54, op := Op.move (Operand.tmp 10), type := 34, pos := _, after := _, guard := some (6, true) }) (v := ?_) rfl (by kernel_rfl) (by kernel_rfl) (by kernel_rfl) (fun _ _ _ h => h) (Or.inl ⟨by rfl, ?_⟩) hHeld ?_
  rotate_left 1
  · (intro W hW; (try dsimp only at hW); go_simp; try with_reducible rfl)
  try simp only [Act.put, List.setIfInBounds_toArray, List.set_cons_zero, List.set_cons_succ]
  refine wpAnyH_take (i := 8) (oi := { dst := some 55, op := Op.binOp BinOp.eql 34 (Operand.tmp 54) (Operand.const (Value.int IntKind.i64 0)) 34, type := 4, pos := _, after := _, guard := some (6, true) }) (v := ?_) rfl (by kernel_rfl) (by kernel_rfl) (by kernel_rfl) (fun _ _ _ h => h) (Or.inl ⟨by rfl, ?_⟩) hHeld ?_
  rotate_left 1
  · (intro W hW; (try dsimp only at hW); go_simp; try with_reducible rfl)
  try simp only [Act.put, List.setIfInBounds_toArray, List.set_cons_zero, List.set_cons_succ]
  refine wpAnyH_take (i := 9) (oi := { dst := some 56, op := Op.pick (Operand.tmp 53) (Operand.tmp 55) (Operand.const (Value.bool false)), type := 4, pos := _, after := _, guard := none }) (v := ?_) rfl (by kernel_rfl) (by kernel_rfl) (by kernel_rfl) (fun _ _ _ h => h) (Or.inl ⟨by rfl, ?_⟩) hHeld ?_
  rotate_left 1
  · (intro W hW; (try dsimp only at hW); go_simp; try with_reducible rfl)
  try simp only [Act.put, List.setIfInBounds_toArray, List.set_cons_zero, List.set_cons_succ]
  refine wpAnyH_take (i := 10) (oi := { dst := some 57, op := Op.move (Operand.tmp 56), type := 4, pos := _, after := _, guard := none }) (v := ?_) rfl (by kernel_rfl) (by kernel_rfl) (by kernel_rfl) (fun _ _ _ h => h) (Or.inl ⟨by rfl, ?_⟩) hHeld ?_
  rotate_left 1
  · (intro W hW; (try dsimp only at hW); go_simp; try with_reducible rfl)
  try simp only [Act.put, List.setIfInBounds_toArray, List.set_cons_zero, List.set_cons_succ]
  refine wpAnyH_take (i := 11) (oi := { dst := some 58, op := Op.move (Operand.tmp 11), type := 9, pos := _, after := _, guard := some (10, true) }) (v := ?_) rfl (by kernel_rfl) (by kernel_rfl) (by kernel_rfl) (fun _ _ _ h => h) (Or.inl ⟨by rfl, ?_⟩) hHeld ?_
  rotate_left 1
  · (intro W hW; (try dsimp only at hW); go_simp; try with_reducible rfl)
  try simp only [Act.put, List.setIfInBounds_toArray, List.set_cons_zero, List.set_cons_succ]
  refine wpAnyH_take (i := 12) (oi := { dst := some 59, op := Op.move (Operand.tmp 1), type := 28, pos := _, after := _, guard := some (10, true) }) (v := ?_) rfl (by kernel_rfl) (by kernel_rfl) (by kernel_rfl) (fun _ _ _ h => h) (Or.inl ⟨by rfl, ?_⟩) hHeld ?_
  rotate_left 1
  · (intro W hW; (try dsimp only at hW); go_simp; try with_reducible rfl)
  try simp only [Act.put, List.setIfInBounds_toArray, List.set_cons_zero, List.set_cons_succ]
  refine wpAnyH_ready (rs := [13]) (by kernel_rfl) (by simp) ?_
  refine AllReadyH.cons (o := { dst := some 60, op := Op.call { callee := Callee.value (Operand.func 20), args := #[Operand.tmp 59], argTypes := #[28] }, type := 28, pos := _, after := _, guard := some (10, true) }) rfl (fun K hK => ?_) AllReadyH.nil
  go_simp
  refine (sectorR w8.drew A2 c2 n2 l2 HL2.out (HR2.out w8.drew HQ8.out)).mono ?_
  rintro e w9 ⟨rfl, _, hr9, hb9⟩
  have HQ9 := Lib.hid (HQ8.out.trans (hb9.mono HQ8.out.size))
  have HR9 : Hid (Rd .u8 w9 w9.heap.size (some ⟨w8.heap.size, 0, none⟩) 64 (secOf l2)) := Lib.hid hr9
  have HB9 := Lib.hid hb9
  clear hr9 hb9
  go_simp
  refine hK.out _ _ (trivial) (fun _ => ?_)
  clear hK K hHeld
  try simp only [Act.put, List.setIfInBounds_toArray, List.set_cons_zero, List.set_cons_succ]
  refine wpAnyH_strong (S' := fun W => Below w9.heap.size w9 W) (fun W hW => trivial) _ _ _ _ ?_
  have hHeld : (fun W => Below w9.heap.size w9 W) w9 := Below.refl _ _
  refine wpAnyH_take (i := 14) (oi := { dst := some 61, op := Op.convert 28 9 (Operand.tmp 60), type := 9, pos := _, after := _, guard := some (10, true) }) (v := ?_) rfl (by kernel_rfl) (by kernel_rfl) (by kernel_rfl) (fun _ _ _ h => h) (Or.inl ⟨by rfl, ?_⟩) hHeld ?_
  rotate_left 1
  · (intro W hW; have hcv := conv_str (Rd.under HR9.out hW) HSL2.out HO2.out; rw [← HZ2.out] at hcv; (try dsimp only at hW); go_simp; try with_reducible rfl)
  try simp only [Act.put, List.setIfInBounds_toArray, List.set_cons_zero, List.set_cons_succ]
  refine wpAnyH_take (i := 15) (oi := { dst := some 62, op := Op.binOp BinOp.eql 9 (Operand.tmp 58) (Operand.tmp 61) 9, type := 4, pos := _, after := _, guard := some (10, true) }) (v := ?_) rfl (by kernel_rfl) (by kernel_rfl) (by kernel_rfl) (fun _ _ _ h => h) (Or.inl ⟨by rfl, ?_⟩) hHeld ?_
  rotate_left 1
  · (intro W hW; (try dsimp only at hW); go_simp; try with_reducible rfl)
  try simp only [Act.put, List.setIfInBounds_toArray, List.set_cons_zero, List.set_cons_succ]
  refine wpAnyH_take (i := 16) (oi := { dst := some 63, op := Op.pick (Operand.tmp 57) (Operand.tmp 62) (Operand.const (Value.bool false)), type := 4, pos := _, after := _, guard := none }) (v := ?_) rfl (by kernel_rfl) (by kernel_rfl) (by kernel_rfl) (fun _ _ _ h => h) (Or.inl ⟨by rfl, ?_⟩) hHeld ?_
  rotate_left 1
  · (intro W hW; (try dsimp only at hW); go_simp; try with_reducible rfl)
  try simp only [Act.put, List.setIfInBounds_toArray, List.set_cons_zero, List.set_cons_succ]
  refine wpAnyH_take (i := 17) (oi := { dst := some 64, op := Op.move (Operand.tmp 63), type := 4, pos := _, after := _, guard := none }) (v := ?_) rfl (by kernel_rfl) (by kernel_rfl) (by kernel_rfl) (fun _ _ _ h => h) (Or.inl ⟨by rfl, ?_⟩) hHeld ?_
  rotate_left 1
  · (intro W hW; (try dsimp only at hW); go_simp; try with_reducible rfl)
  try simp only [Act.put, List.setIfInBounds_toArray, List.set_cons_zero, List.set_cons_succ]
  refine wpAnyH_take (i := 18) (oi := { dst := some 65, op := Op.move (Operand.tmp 7), type := 23, pos := _, after := _, guard := some (17, true) }) (v := ?_) rfl (by kernel_rfl) (by kernel_rfl) (by kernel_rfl) (fun _ _ _ h => h) (Or.inl ⟨by rfl, ?_⟩) hHeld ?_
  rotate_left 1
  · (intro W hW; (try dsimp only at hW); go_simp; try with_reducible rfl)
  try simp only [Act.put, List.setIfInBounds_toArray, List.set_cons_zero, List.set_cons_succ]
  refine wpAnyH_take (i := 19) (oi := { dst := some 66, op := Op.move (Operand.tmp 2), type := 3, pos := _, after := _, guard := some (17, true) }) (v := ?_) rfl (by kernel_rfl) (by kernel_rfl) (by kernel_rfl) (fun _ _ _ h => h) (Or.inl ⟨by rfl, ?_⟩) hHeld ?_
  rotate_left 1
  · (intro W hW; (try dsimp only at hW); go_simp; try with_reducible rfl)
  try simp only [Act.put, List.setIfInBounds_toArray, List.set_cons_zero, List.set_cons_succ]
  refine wpAnyH_take (i := 22) (oi := { dst := some 69, op := Op.move (Operand.tmp 0), type := 28, pos := _, after := _, guard := some (17, true) }) (v := ?_) rfl (by kernel_rfl) (by kernel_rfl) (by kernel_rfl) (fun _ _ _ h => h) (Or.inl ⟨by rfl, ?_⟩) hHeld ?_
  rotate_left 1
  · (intro W hW; (try dsimp only at hW); go_simp; try with_reducible rfl)
  try simp only [Act.put, List.setIfInBounds_toArray, List.set_cons_zero, List.set_cons_succ]
  refine wpAnyH_ready (rs := [20]) (by kernel_rfl) (by simp) ?_
  refine AllReadyH.cons (o := { dst := some 67, op := Op.call { callee := Callee.value (Operand.func 23), args := #[Operand.tmp 65, Operand.tmp 66], argTypes := #[23, 3] }, type := 28, pos := _, after := _, guard := some (17, true) }) rfl (fun K hK => ?_) AllReadyH.nil
  go_simp
  refine (diskB_read (HD8.out.under ((show Below w8.heap.size w8.drew w9 from HB9.out))) k (secOf l1) HST.out.2.2.2.2).mono ?_
  rintro e wa ⟨Aa, ca, rfl, hra, hba⟩
  rw [HSL.out l1]
  have HQa := Lib.hid (HQ9.out.trans (hba.mono HQ9.out.size))
  have HRa := Lib.hid hra
  have HBa := Lib.hid hba
  clear hra hba
  go_simp
  refine hK.out _ _ (HBa.out) (fun _ => ?_)
  clear hK K hHeld
  try simp only [Act.put, List.setIfInBounds_toArray, List.set_cons_zero, List.set_cons_succ]
  refine wpAnyH_strong (S' := fun W => Below wa.heap.size wa W) (fun W hW => HBa.out.trans (hW.mono HBa.out.size)) _ _ _ _ ?_
  have hHeld : (fun W => Below wa.heap.size wa W) wa := Below.refl _ _
  refine wpAnyH_take (i := 21) (oi := { dst := some 68, op := Op.convert 28 9 (Operand.tmp 67), type := 9, pos := _, after := _, guard := some (17, true) }) (v := ?_) rfl (by kernel_rfl) (by kernel_rfl) (by kernel_rfl) (fun _ _ _ h => h) (Or.inl ⟨by rfl, ?_⟩) hHeld ?_
  rotate_left 1
  · (intro W hW; have hcv := conv_str (Rd.under HRa.out hW) HSL1.out HO1.out; rw [← HZ1.out] at hcv; (try dsimp only at hW); go_simp; try with_reducible rfl)
  try simp only [Act.put, List.setIfInBounds_toArray, List.set_cons_zero, List.set_cons_succ]
  refine wpAnyH_ready (rs := [23]) (by kernel_rfl) (by simp) ?_
  refine AllReadyH.cons (o := { dst := some 70, op := Op.call { callee := Callee.value (Operand.func 20), args := #[Operand.tmp 69], argTypes := #[28] }, type := 28, pos := _, after := _, guard := some (17, true) }) rfl (fun K hK => ?_) AllReadyH.nil
  go_simp
  refine (sectorR wa A1 c1 n1 l1 HL1.out (HR1.out wa HQa.out)).mono ?_
  rintro e wb ⟨rfl, _, hrb, hbb⟩
  have HQb := Lib.hid (HQa.out.trans (hbb.mono HQa.out.size))
  have HRb := Lib.hid hrb
  have HBb := Lib.hid hbb
  have HRa2 := Lib.hid (HRa.out.under hbb)
  clear hrb hbb
  go_simp
  refine hK.out _ _ (HBb.out) (fun _ => ?_)
  clear hK K hHeld
  try simp only [Act.put, List.setIfInBounds_toArray, List.set_cons_zero, List.set_cons_succ]
  refine wpAnyH_strong (S' := fun W => Below wb.heap.size wb W) (fun W hW => HBb.out.trans (hW.mono HBb.out.size)) _ _ _ _ ?_
  have hHeld : (fun W => Below wb.heap.size wb W) wb := Below.refl _ _
  refine wpAnyH_take (i := 24) (oi := { dst := some 71, op := Op.convert 28 9 (Operand.tmp 70), type := 9, pos := _, after := _, guard := some (17, true) }) (v := ?_) rfl (by kernel_rfl) (by kernel_rfl) (by kernel_rfl) (fun _ _ _ h => h) (Or.inl ⟨by rfl, ?_⟩) hHeld ?_
  rotate_left 1
  · (intro W hW; have hcv := conv_str (Rd.under HRb.out hW) HSL1.out HO1.out; rw [← HZ1.out] at hcv; (try dsimp only at hW); go_simp; try with_reducible rfl)
  try simp only [Act.put, List.setIfInBounds_toArray, List.set_cons_zero, List.set_cons_succ]
  refine wpAnyH_take (i := 25) (oi := { dst := some 72, op := Op.binOp BinOp.eql 9 (Operand.tmp 68) (Operand.tmp 71) 9, type := 4, pos := _, after := _, guard := some (17, true) }) (v := ?_) rfl (by kernel_rfl) (by kernel_rfl) (by kernel_rfl) (fun _ _ _ h => h) (Or.inl ⟨by rfl, ?_⟩) hHeld ?_
  rotate_left 1
  · (intro W hW; (try dsimp only at hW); go_simp; try with_reducible rfl)
  try simp only [Act.put, List.setIfInBounds_toArray, List.set_cons_zero, List.set_cons_succ]
  refine wpAnyH_take (i := 26) (oi := { dst := some 73, op := Op.pick (Operand.tmp 64) (Operand.tmp 72) (Operand.const (Value.bool false)), type := 4, pos := _, after := _, guard := none }) (v := ?_) rfl (by kernel_rfl) (by kernel_rfl) (by kernel_rfl) (fun _ _ _ h => h) (Or.inl ⟨by rfl, ?_⟩) hHeld ?_
  rotate_left 1
  · (intro W hW; (try dsimp only at hW); go_simp; try with_reducible rfl)
  try simp only [Act.put, List.setIfInBounds_toArray, List.set_cons_zero, List.set_cons_succ]
  refine wpAnyH_take (i := 27) (oi := { dst := some 74, op := Op.move (Operand.tmp 73), type := 4, pos := _, after := _, guard := none }) (v := ?_) rfl (by kernel_rfl) (by kernel_rfl) (by kernel_rfl) (fun _ _ _ h => h) (Or.inl ⟨by rfl, ?_⟩) hHeld ?_
  rotate_left 1
  · (intro W hW; (try dsimp only at hW); go_simp; try with_reducible rfl)
  try simp only [Act.put, List.setIfInBounds_toArray, List.set_cons_zero, List.set_cons_succ]
  refine wpAnyH_ready (rs := [28]) (by kernel_rfl) (by simp) ?_
  refine AllReadyH.cons (o := { dst := some 75, op := Op.call { callee := Callee.value (Operand.func 11), args := #[], argTypes := #[] }, type := 4, pos := _, after := _, guard := some (27, true) }) rfl (fun K hK => ?_) AllReadyH.nil
  go_simp
  refine (known_any wb).mono ?_
  rintro e wc ⟨rfl, hbc⟩
  have HQc := Lib.hid (HQb.out.trans (hbc.mono HQb.out.size))
  have HBc := Lib.hid hbc
  clear hbc
  go_simp
  refine hK.out _ _ (HBc.out) (fun _ => ?_)
  clear hK K hHeld
  try simp only [Act.put, List.setIfInBounds_toArray, List.set_cons_zero, List.set_cons_succ]
  refine wpAnyH_strong (S' := fun W => Below wc.heap.size wc W) (fun W hW => HBc.out.trans (hW.mono HBc.out.size)) _ _ _ _ ?_
  have hHeld : (fun W => Below wc.heap.size wc W) wc := Below.refl _ _
  refine wpAnyH_take (i := 29) (oi := { dst := some 76, op := Op.pick (Operand.tmp 74) (Operand.tmp 75) (Operand.const (Value.bool false)), type := 4, pos := _, after := _, guard := none }) (v := ?_) rfl (by kernel_rfl) (by kernel_rfl) (by kernel_rfl) (fun _ _ _ h => h) (Or.inl ⟨by rfl, ?_⟩) hHeld ?_
  rotate_left 1
  · (intro W hW; (try dsimp only at hW); go_simp; try with_reducible rfl)
  try simp only [Act.put, List.setIfInBounds_toArray, List.set_cons_zero, List.set_cons_succ]
  refine wpAnyH_take (i := 30) (oi := { dst := some 6, op := Op.assign (Operand.tmp 76), type := 4, pos := _, after := _, guard := none }) (v := ?_) rfl (by kernel_rfl) (by kernel_rfl) (by kernel_rfl) (fun _ _ _ h => h) (Or.inl ⟨by rfl, ?_⟩) hHeld ?_
  rotate_left 1
  · (intro W hW; (try dsimp only at hW); go_simp; try with_reducible rfl)
  try simp only [Act.put, List.setIfInBounds_toArray, List.set_cons_zero, List.set_cons_succ]
  refine wpAnyH_done (by kernel_rfl) ?_ _
  refine NoPanic.normal ?_
  go_wp2_with fail
  go_ret
  exact ⟨rfl, HQc.out⟩
end Go.Proofs.Ytbenkffjfjddgaa
