/-
  What a disk keeps is its own.
-/
import Derived.Test.YtbenkffjfjddgaaDev12
namespace Go.Proofs.Ytbenkffjfjddgaa
open Go.RowKit
set_option linter.unusedVariables false
set_option linter.unusedSimpArgs false
attribute [local go_sem ↓] Go.wp_at_zero Go.wp_at_succ

theorem DiskB.aside {w W : World} {B gd : Nat} {s : Dk} (h : DiskB w B gd s) (hb : Below w.heap.size w W) {g : Nat} (hg : g < B ∨ w.heap.size ≤ g) (i : Nat) (v : Value) : DiskB (W.setCell ⟨g, i, none⟩ v) B gd s := by
  have hsz : (W.setCell ⟨g, i, none⟩ v).heap.size = W.heap.size := by simp [World.setCell]
  refine ⟨by rw [hsz]; exact Nat.le_trans h.1 hb.size, ?_⟩
  obtain ⟨gn, gl, A, cw, K, ck, hd, f⟩ := h.2
  refine ⟨gn, gl, A, cw, K, ck, hd.keepAll (by rw [hsz]; exact hb.size) fun k hk hlt => ?_, f⟩
  have hF : B ≤ k := by
    rcases hk with rfl | rfl | rfl | e | e
    · exact f.1
    · exact f.2.1
    · exact f.2.2.1
    · exact f.2.2.2.1 k e
    · exact f.2.2.2.2 k e
  exact (Below.heap_setCell W _ v k (by show k ≠ g; omega)).trans (hb.block k hlt)
theorem diskB_readRow {w : World} {B gd : Nat} {s : Dk} (h : DiskB w B gd s) (i : Int) (x : List Nat) (hx : s.read i = x) (hl : x.length = 64) :
    Calls Try.prog 23 #[.pointer (some ⟨gd, 0, none⟩), .int .i64 i] w fun e w' => e = .returned (.slice (some ⟨w.heap.size, 0, none⟩) 64 64) ∧ Row .u8 5 w' w.heap.size x ∧ Rd .u8 w' w'.heap.size (some ⟨w.heap.size, 0, none⟩) 64 x ∧ Below w.heap.size w w' := by
  subst hx
  refine (disk_read h.2 i).mono ?_
  rintro e w' ⟨A', n', c', rfl, hn, hr, hrow, hb⟩
  obtain rfl : n' = 64 := by omega
  obtain ⟨rfl, h64, hrow2⟩ := hrow (by omega)
  obtain rfl : c' = 64 := by omega
  exact ⟨rfl, hrow2, hr, hb⟩

def ownA : Dk := (fresh 1).arm 1 [true]
def ownB (x : List Nat) : Dk := ownA.wrote 0 x
def ownC (x : List Nat) : Dk := (ownB x).fall
theorem own_states (x : List Nat) (hx : x.length = 64) : ownA.write 0 x = (ownB x, 0) ∧ (ownB x).flush = (ownC x, 6) ∧ (ownC x).read 0 = x := by
  refine ⟨Dk.write_good (k := 0) rfl (by decide) hx rfl, ?_, ?_⟩
  · unfold Dk.flush
    rw [if_neg (by show ¬ (false = true); decide), if_pos (by simp [Dk.due, ownB, ownA, Dk.arm, Dk.wrote, fresh])]
    rfl
  · unfold Dk.read
    rw [if_pos (by decide)]
    simp [ownC, ownB, ownA, Dk.fall, Dk.kept, Dk.arm, Dk.wrote, fresh, fallN, backN, List.getD]

set_option maxRecDepth 100000 in
set_option maxHeartbeats 4000000 in
theorem own_no (w : World) (A : Option Addr) (c n y : Nat) (h : 64 < n ∨ y = 0) :
    Calls Try.prog 6 #[.slice A n c, .int .u8 y] w fun e w' => e = .returned (.bool true) ∧ Below w.heap.size w w' := by
  by_cases h1 : 64 < n
  · have d1 : decide ((64 : Int) < (n : Int)) = true := decide_eq_true (by omega)
    clear h
    go_enter Try.func6, Try.ntmps6
    go_wp2_with fail
    go_ret
    exact ⟨rfl, Below.refl _ _⟩
  have d1 : decide ((64 : Int) < (n : Int)) = false := decide_eq_false (by omega)
  obtain rfl : y = 0 := by omega
  clear h
  go_enter Try.func6, Try.ntmps6
  go_wp2_with fail
  go_ret
  exact ⟨rfl, Below.refl _ _⟩

set_option maxRecDepth 100000 in
set_option maxHeartbeats 4000000 in
theorem own_yes (w : World) (A : Option Addr) (c n y : Nat) (l : List Nat) (hl : l.length = n) (hr : Rd .u8 w w.heap.size A c l) (ho : Oct1 l) (h1 : n ≤ 64) (hy : y ≠ 0) :
    Calls Try.prog 6 #[.slice A n c, .int .u8 y] w fun e w' => e = .returned (.bool true) ∧ Below w.heap.size w w' := by
  have d1 : decide ((64 : Int) < (n : Int)) = false := decide_eq_false (by omega)
  have d2 : ((y : Int) == 0) = false := by rw [beq_eq_false_iff_ne]; omega
  have HL := Lib.hid hl
  have HR : Hid (∀ W, Below w.heap.size w W → Rd .u8 W W.heap.size A c l) := Lib.hid fun W hW => (hr.under hW).more hW.size
  have HSL : Hid ((secOf l).length = 64) := Lib.hid (secOf_length _)
  have HSO : Hid (∀ x ∈ secOf l, x < 256) := Lib.hid (secOf_oct ho)
  have HST : Hid (ownA.write 0 (secOf l) = (ownB (secOf l), 0) ∧ (ownB (secOf l)).flush = (ownC (secOf l), 6) ∧ (ownC (secOf l)).read 0 = secOf l) := Lib.hid (own_states _ (secOf_length _))
  obtain ⟨z, hz⟩ : ∃ z, z = str (secOf l) := ⟨_, rfl⟩
  have HZ := Lib.hid hz
  clear hl hr ho hz
  go_enter Try.func6, Try.ntmps6
  go_wp2_with fail
  refine (sectorR w A c n l HL.out (HR.out w (Below.refl _ _))).mono ?_
  rintro e w1 ⟨rfl, hrow, hr1, hb1⟩
  have HROW := Lib.hid hrow
  have HR1 := Lib.hid hr1
  have HQ1 := Lib.hid hb1
  clear hrow hr1 hb1
  have ha : Below w1.heap.size w1 (w1.alloc (.cells #[.bool true] 4)) := (Below.refl _ _).alloc (Nat.le_refl _) _
  obtain ⟨wk, hwk⟩ : ∃ W, W = w1.alloc (.cells #[.bool true] 4) := ⟨_, rfl⟩
  have hkk : Holds wk w1.heap.size 4 #[.bool true] := by rw [hwk]; exact Holds.fresh _ _ _
  have hkt : Truths wk (some ⟨w1.heap.size, 0, none⟩) 1 [true] := ⟨Nat.le_refl _, by omega, fun _ => ⟨w1.heap.size, 0, rfl, hkk.lt, fun j hj => by
    obtain rfl : j = 0 := by simpa using hj
    exact hkk.cell 0⟩⟩
  have hbk : Below w1.heap.size w1 wk := by rw [hwk]; exact ha
  have hnew := diskB_new wk 1 (by omega) (by omega)
  rw [show ((1 : Nat) : Int) = 1 from rfl] at hnew
  have HNEW := Lib.hid hnew
  have HKK := Lib.hid hkk
  have HKT := Lib.hid hkt
  have HBK := Lib.hid hbk
  have HQK := Lib.hid (HQ1.out.trans (hbk.mono HQ1.out.size))
  clear hnew hkk hkt hbk ha
  go_wp2_with fail
  rw [← hwk]
  clear hwk
  refine HNEW.out.mono ?_
  rintro e w2 ⟨gd, rfl, hd2, hb2⟩
  have HD2 := Lib.hid hd2
  have HB2 := Lib.hid hb2
  have HQ2 := Lib.hid (HQK.out.trans (hb2.mono HQK.out.size))
  clear hd2 hb2 HNEW
  go_wp2_with fail
  refine (diskB_arm HD2.out 1 (some ⟨w1.heap.size, 0, none⟩) 1 1 [true] rfl (HKT.out.under HB2.out) (by omega) (fun _ g hg => by
    obtain rfl : w1.heap.size = g := by simpa [blockOf] using hg
    have := HKK.out.lt
    have := HD2.out.pos.1
    omega)).mono ?_
  rintro e w3 ⟨rfl, hd3, hb3⟩
  have HD3 : Hid (DiskB w3 wk.heap.size gd ownA) := Lib.hid hd3
  have HB3 : Hid (Below wk.heap.size wk w3) := Lib.hid (HB2.out.trans hb3)
  have HQ3 : Hid (Below w.heap.size w w3) := Lib.hid (HQ2.out.trans (hb3.mono HQK.out.size))
  have HR3 := Lib.hid (((HR1.out.under HBK.out).under (HB3.out.mono HBK.out.size)).more (Nat.le_trans HBK.out.size HB3.out.size))
  clear hd3 hb3
  go_wp2_with fail
  refine (diskB_write HD3.out 0 _ 64 64 (secOf l) HSL.out HR3.out (by decide) (by decide)).mono ?_
  rintro e w4 ⟨rfl, hd4, hb4⟩
  rw [HST.out.1] at hd4 ⊢
  have HD4 := Lib.hid hd4
  have hq4 : Below wk.heap.size wk w4 := HB3.out.trans hb4
  have HQ4 : Hid (Below w.heap.size w w4) := Lib.hid (HQ3.out.trans (hb4.mono HQK.out.size))
  have hrow4 : Row .u8 5 w4 w.heap.size (secOf l) := Holds.under (Holds.under HROW.out HBK.out (Holds.lt HROW.out)) hq4 (Nat.lt_of_lt_of_le (Holds.lt HROW.out) HBK.out.size)
  have hk4 : Holds w4 w1.heap.size 4 #[.bool true] := HKK.out.under hq4 HKK.out.lt
  have hlt1 : w.heap.size < wk.heap.size := Nat.lt_of_lt_of_le (Holds.lt HROW.out) HBK.out.size
  have hlt2 : w1.heap.size < wk.heap.size := HKK.out.lt
  have hne : w1.heap.size ≠ w.heap.size := by have := Holds.lt HROW.out; omega
  obtain ⟨z4, hc4⟩ : ∃ z : Int, w4.cell? ⟨w.heap.size, 0, none⟩ = some (.int .u8 z) := ⟨_, (Holds.cell hrow4 0).trans (nums_at .u8 (secOf l) (by rw [HSL.out]; omega))⟩
  have hf4 : w4.frozen? ⟨w.heap.size, 0, none⟩ = false := Holds.open_ hrow4 0
  have hf5 : ∀ v, (w4.setCell ⟨w.heap.size, 0, none⟩ v).frozen? ⟨w1.heap.size, 0, none⟩ = false := fun v => (Holds.aside hk4 (p := ⟨w.heap.size, 0, none⟩) hne v).open_ 0
  have hk5 : ∀ v, (w4.setCell ⟨w.heap.size, 0, none⟩ v).cell? ⟨w1.heap.size, 0, none⟩ = some (.bool true) := fun v => (Holds.aside hk4 (p := ⟨w.heap.size, 0, none⟩) hne v).cell 0
  have HDS : Hid (∀ v1 v2, DiskB ((w4.setCell ⟨w.heap.size, 0, none⟩ v1).setCell ⟨w1.heap.size, 0, none⟩ v2) wk.heap.size gd (ownB (secOf l))) := Lib.hid fun v1 v2 =>
    (HD4.out.aside (Below.refl _ _) (.inl hlt1) 0 v1).aside (Below.refl _ _) (.inl hlt2) 0 v2
  have hw1 : w.heap.size ≤ w1.heap.size := HQ1.out.size
  have HQS : Hid (∀ v1 v2, Below w.heap.size w ((w4.setCell ⟨w.heap.size, 0, none⟩ v1).setCell ⟨w1.heap.size, 0, none⟩ v2)) := Lib.hid fun v1 v2 => (HQ4.out.setCell (by exact Nat.le_refl _) v1).setCell (by exact hw1) v2
  have HQK2 : Hid (w.heap.size ≤ wk.heap.size) := Lib.hid HQK.out.size
  clear hd4 hb4 hq4 hrow4 hk4 HD2 HB2 HQ2 HD3 HB3 HQ3 HR3 HD4 HQ4 HKK HKT HBK HROW HR1 HQ1 HQK hlt1 hlt2
  generalize wk.heap.size = B at *
  go_wp2_with fail
  refine (diskB_flush (HDS.out _ _) (by simp [ownB, ownA, Dk.arm, Dk.wrote, fresh]) (by simp [ownB, ownA, Dk.arm, Dk.wrote, fresh])).mono ?_
  rintro e w6 ⟨rfl, hd6, hb6⟩
  rw [HST.out.2.1] at hd6 ⊢
  have HD6 := Lib.hid hd6
  have HQ6 : Hid (Below w.heap.size w w6) := Lib.hid ((HQS.out _ _).trans (hb6.mono HQK2.out))
  clear hd6 hb6 hc4 hf4 hf5 hk5 HDS HQS hne hw1
  go_wp2_with fail
  refine (diskB_readRow HD6.out 0 (secOf l) HST.out.2.2 HSL.out).mono ?_
  rintro e w7 ⟨rfl, hrow7, hr7, hb7⟩
  have HROW7 := Lib.hid hrow7
  have HR7 := Lib.hid hr7
  have HB7 := Lib.hid hb7
  have HQ7 := Lib.hid (HQ6.out.trans (hb7.mono HQ6.out.size))
  clear hrow7 hr7 hb7
  go_wp2_with fail
  refine wp_region_noPanic ?_
  refine wp_region_held_drew (S := fun W => Below w7.heap.size w7 W) (by kernel_rfl) (Below.refl _ w7).drew (fun hHeld => ?_)
  refine wpAnyH_take (i := 0) (oi := { dst := some 40, op := Op.move (Operand.tmp 8), type := 28, pos := _, after := _, guard := none }) (v := ?_) rfl (by kernel_rfl) (by kernel_rfl) (by kernel_rfl) (fun _ _ _ h => h) (Or.inl ⟨by rfl, ?_⟩) hHeld ?_
  rotate_left 1
  · (intro W hW; (try dsimp only at hW); go_simp; try with_reducible rfl)
  try simp only [Act.put, List.setIfInBounds_toArray, List.set_cons_zero, List.set_cons_succ]
  refine wpAnyH_take (i := 1) (oi := { dst := some 41, op := Op.call { callee := Callee.builtin Builtin.len, args := #[Operand.tmp 40], argTypes := #[28] }, type := 3, pos := _, after := _, guard := none }) (v := ?_) rfl (by kernel_rfl) (by kernel_rfl) (by kernel_rfl) (fun _ _ _ h => h) (Or.inl ⟨by rfl, ?_⟩) hHeld ?_
  rotate_left 1
  · (intro W hW; (try dsimp only at hW); go_simp; try with_reducible rfl)
  try simp only [Act.put, List.setIfInBounds_toArray, List.set_cons_zero, List.set_cons_succ]
  refine wpAnyH_take (i := 2) (oi := { dst := some 42, op := Op.binOp BinOp.neq 3 (Operand.tmp 41) (Operand.const (Value.int IntKind.i64 64)) 3, type := 4, pos := _, after := _, guard := none }) (v := ?_) rfl (by kernel_rfl) (by kernel_rfl) (by kernel_rfl) (fun _ _ _ h => h) (Or.inl ⟨by rfl, ?_⟩) hHeld ?_
  rotate_left 1
  · (intro W hW; (try dsimp only at hW); go_simp; try with_reducible rfl)
  try simp only [Act.put, List.setIfInBounds_toArray, List.set_cons_zero, List.set_cons_succ]
  refine wpAnyH_take (i := 3) (oi := { dst := some 43, op := Op.move (Operand.tmp 42), type := 4, pos := _, after := _, guard := none }) (v := ?_) rfl (by kernel_rfl) (by kernel_rfl) (by kernel_rfl) (fun _ _ _ h => h) (Or.inl ⟨by rfl, ?_⟩) hHeld ?_
  rotate_left 1
  · (intro W hW; (try dsimp only at hW); go_simp; try with_reducible rfl)
  try simp only [Act.put, List.setIfInBounds_toArray, List.set_cons_zero, List.set_cons_succ]
  refine wpAnyH_take (i := 4) (oi := { dst := some 44, op := Op.move (Operand.tmp 8), type := 28, pos := _, after := _, guard := some (3, false) }) (v := ?_) rfl (by kernel_rfl) (by kernel_rfl) (by kernel_rfl) (fun _ _ _ h => h) (Or.inl ⟨by rfl, ?_⟩) hHeld ?_
  rotate_left 1
  · (intro W hW; (try dsimp only at hW); go_simp; try with_reducible rfl)
  try simp only [Act.put, List.setIfInBounds_toArray, List.set_cons_zero, List.set_cons_succ]
  refine wpAnyH_take (i := 5) (oi := { dst := some 45, op := Op.convert 28 9 (Operand.tmp 44), type := 9, pos := _, after := _, guard := some (3, false) }) (v := ?_) rfl (by kernel_rfl) (by kernel_rfl) (by kernel_rfl) (fun _ _ _ h => h) (Or.inl ⟨by rfl, ?_⟩) hHeld ?_
  rotate_left 1
  · (intro W hW; have hcv := conv_str (Rd.under HR7.out hW) HSL.out HSO.out; rw [← HZ.out] at hcv; (try dsimp only at hW); go_simp; try with_reducible rfl)
  try simp only [Act.put, List.setIfInBounds_toArray, List.set_cons_zero, List.set_cons_succ]
  refine wpAnyH_take (i := 6) (oi := { dst := some 46, op := Op.move (Operand.tmp 0), type := 28, pos := _, after := _, guard := some (3, false) }) (v := ?_) rfl (by kernel_rfl) (by kernel_rfl) (by kernel_rfl) (fun _ _ _ h => h) (Or.inl ⟨by rfl, ?_⟩) hHeld ?_
  rotate_left 1
  · (intro W hW; (try dsimp only at hW); go_simp; try with_reducible rfl)
  try simp only [Act.put, List.setIfInBounds_toArray, List.set_cons_zero, List.set_cons_succ]
  refine wpAnyH_ready (rs := [7]) (by kernel_rfl) (by simp) ?_
  refine AllReadyH.cons (o := { dst := some 47, op := Op.call { callee := Callee.value (Operand.func 20), args := #[Operand.tmp 46], argTypes := #[28] }, type := 28, pos := _, after := _, guard := some (3, false) }) rfl (fun K hK => ?_) AllReadyH.nil
  go_simp
  refine (sectorR w7.drew A c n l HL.out (HR.out w7.drew HQ7.out.drew)).mono ?_
  rintro e w8 ⟨rfl, _, hr8, hb8⟩
  have HB8 : Hid (Below w7.heap.size w7 w8) := Lib.hid ⟨hb8.os, hb8.tape, hb8.output, hb8.size, hb8.block⟩
  have HR8 : Hid (Rd .u8 w8 w8.heap.size (some ⟨w7.heap.size, 0, none⟩) 64 (secOf l)) := Lib.hid hr8
  clear hr8 hb8
  go_simp
  refine hK.out _ _ (HB8.out) (fun _ => ?_)
  clear hK K hHeld
  try simp only [Act.put, List.setIfInBounds_toArray, List.set_cons_zero, List.set_cons_succ]
  refine wpAnyH_strong (S' := fun W => Below w8.heap.size w8 W) (fun W hW => HB8.out.trans (hW.mono HB8.out.size)) _ _ _ _ ?_
  have hHeld : (fun W => Below w8.heap.size w8 W) w8 := Below.refl _ _
  refine wpAnyH_take (i := 8) (oi := { dst := some 48, op := Op.convert 28 9 (Operand.tmp 47), type := 9, pos := _, after := _, guard := some (3, false) }) (v := ?_) rfl (by kernel_rfl) (by kernel_rfl) (by kernel_rfl) (fun _ _ _ h => h) (Or.inl ⟨by rfl, ?_⟩) hHeld ?_
  rotate_left 1
  · (intro W hW; have hcv := conv_str (Rd.under HR8.out hW) HSL.out HSO.out; rw [← HZ.out] at hcv; (try dsimp only at hW); go_simp; try with_reducible rfl)
  try simp only [Act.put, List.setIfInBounds_toArray, List.set_cons_zero, List.set_cons_succ]
  refine wpAnyH_take (i := 9) (oi := { dst := some 49, op := Op.binOp BinOp.neq 9 (Operand.tmp 45) (Operand.tmp 48) 9, type := 4, pos := _, after := _, guard := some (3, false) }) (v := ?_) rfl (by kernel_rfl) (by kernel_rfl) (by kernel_rfl) (fun _ _ _ h => h) (Or.inl ⟨by rfl, ?_⟩) hHeld ?_
  rotate_left 1
  · (intro W hW; (try dsimp only at hW); go_simp; try with_reducible rfl)
  try simp only [Act.put, List.setIfInBounds_toArray, List.set_cons_zero, List.set_cons_succ]
  refine wpAnyH_take (i := 10) (oi := { dst := some 50, op := Op.pick (Operand.tmp 43) (Operand.const (Value.bool true)) (Operand.tmp 49), type := 4, pos := _, after := _, guard := none }) (v := ?_) rfl (by kernel_rfl) (by kernel_rfl) (by kernel_rfl) (fun _ _ _ h => h) (Or.inl ⟨by rfl, ?_⟩) hHeld ?_
  rotate_left 1
  · (intro W hW; (try dsimp only at hW); go_simp; try with_reducible rfl)
  try simp only [Act.put, List.setIfInBounds_toArray, List.set_cons_zero, List.set_cons_succ]
  refine wpAnyH_done (by kernel_rfl) ?_ _
  refine NoPanic.normal ?_
  have hq8 := HQ7.out.trans (HB8.out.mono HQ7.out.size)
  have HQ8 := Lib.hid hq8
  have HROW8 : Hid (Row .u8 5 w8 w6.heap.size (secOf l)) := Lib.hid (Holds.under HROW7.out HB8.out (Holds.lt HROW7.out))
  have hc8 : ∃ z : Int, w8.cell? ⟨w6.heap.size, 0, none⟩ = some (.int .u8 z) := ⟨_, (Holds.cell HROW8.out 0).trans (nums_at .u8 (secOf l) (by rw [HSL.out]; omega))⟩
  obtain ⟨z8, hc8⟩ := hc8
  have hf8 : w8.frozen? ⟨w6.heap.size, 0, none⟩ = false := Holds.open_ HROW8.out 0
  have HDS : Hid (∀ v, DiskB (w8.setCell ⟨w6.heap.size, 0, none⟩ v) B gd (ownC (secOf l))) := Lib.hid fun v => HD6.out.aside (W := w8) (HB7.out.trans (HB8.out.mono HB7.out.size)) (.inr (Nat.le_refl _)) 0 v
  have HQS : Hid (∀ v, Below w.heap.size w (w8.setCell ⟨w6.heap.size, 0, none⟩ v)) := Lib.hid fun v => HQ8.out.setCell (by exact HQ6.out.size) v
  clear hq8 HD6 HB7 HQ7 HQ8 HR7 HR8 HROW7 HROW8 HB8
  go_wp2_with fail
  refine (arm_nil _ _).mono ?_
  rintro e w9 ⟨rfl, hb9⟩
  have HD9 := Lib.hid ((HDS.out _).under hb9)
  have HQ9 := Lib.hid ((HQS.out _).trans (hb9.mono (HQS.out _).size))
  clear hb9 hc8 hf8
  go_wp2_with fail
  refine (restart_nil _).mono ?_
  rintro e w10 ⟨rfl, rfl⟩
  go_wp2_with fail
  refine wp_region_noPanic ?_
  refine wp_region_held_drew (S := fun W => Below w9.heap.size w9 W) (by kernel_rfl) (Below.refl _ w9).drew (fun hHeld => ?_)
  refine wpAnyH_take (i := 0) (oi := { dst := some 62, op := Op.move (Operand.tmp 7), type := 23, pos := _, after := _, guard := none }) (v := ?_) rfl (by kernel_rfl) (by kernel_rfl) (by kernel_rfl) (fun _ _ _ h => h) (Or.inl ⟨by rfl, ?_⟩) hHeld ?_
  rotate_left 1
  · (intro W hW; (try dsimp only at hW); go_simp; try with_reducible rfl)
  try simp only [Act.put, List.setIfInBounds_toArray, List.set_cons_zero, List.set_cons_succ]
  refine wpAnyH_take (i := 3) (oi := { dst := some 65, op := Op.move (Operand.tmp 0), type := 28, pos := _, after := _, guard := none }) (v := ?_) rfl (by kernel_rfl) (by kernel_rfl) (by kernel_rfl) (fun _ _ _ h => h) (Or.inl ⟨by rfl, ?_⟩) hHeld ?_
  rotate_left 1
  · (intro W hW; (try dsimp only at hW); go_simp; try with_reducible rfl)
  try simp only [Act.put, List.setIfInBounds_toArray, List.set_cons_zero, List.set_cons_succ]
  refine wpAnyH_ready (rs := [1]) (by kernel_rfl) (by simp) ?_
  refine AllReadyH.cons (o := { dst := some 63, op := Op.call { callee := Callee.value (Operand.func 23), args := #[Operand.tmp 62, Operand.const (Value.int IntKind.i64 0)], argTypes := #[23, 3] }, type := 28, pos := _, after := _, guard := none }) rfl (fun K hK => ?_) AllReadyH.nil
  go_simp
  refine (diskB_read (HD9.out.drew) 0 (secOf l) HST.out.2.2).mono ?_
  rintro e wa ⟨Aa, ca, rfl, hra, hba⟩
  rw [HSL.out]
  have HBa : Hid (Below w9.heap.size w9 wa) := Lib.hid ⟨hba.os, hba.tape, hba.output, hba.size, hba.block⟩
  have HQa := Lib.hid (HQ9.out.trans (HBa.out.mono HQ9.out.size))
  have HRa := Lib.hid hra
  clear hra hba
  go_simp
  refine hK.out _ _ (HBa.out) (fun _ => ?_)
  clear hK K hHeld
  try simp only [Act.put, List.setIfInBounds_toArray, List.set_cons_zero, List.set_cons_succ]
  refine wpAnyH_strong (S' := fun W => Below wa.heap.size wa W) (fun W hW => HBa.out.trans (hW.mono HBa.out.size)) _ _ _ _ ?_
  have hHeld : (fun W => Below wa.heap.size wa W) wa := Below.refl _ _
  refine wpAnyH_take (i := 2) (oi := { dst := some 64, op := Op.convert 28 9 (Operand.tmp 63), type := 9, pos := _, after := _, guard := none }) (v := ?_) rfl (by kernel_rfl) (by kernel_rfl) (by kernel_rfl) (fun _ _ _ h => h) (Or.inl ⟨by rfl, ?_⟩) hHeld ?_
  rotate_left 1
  · (intro W hW; have hcv := conv_str (Rd.under HRa.out hW) HSL.out HSO.out; rw [← HZ.out] at hcv; (try dsimp only at hW); go_simp; try with_reducible rfl)
  try simp only [Act.put, List.setIfInBounds_toArray, List.set_cons_zero, List.set_cons_succ]
  refine wpAnyH_ready (rs := [4]) (by kernel_rfl) (by simp) ?_
  refine AllReadyH.cons (o := { dst := some 66, op := Op.call { callee := Callee.value (Operand.func 20), args := #[Operand.tmp 65], argTypes := #[28] }, type := 28, pos := _, after := _, guard := none }) rfl (fun K hK => ?_) AllReadyH.nil
  go_simp
  refine (sectorR wa A c n l HL.out (HR.out wa HQa.out)).mono ?_
  rintro e wb ⟨rfl, _, hrb, hbb⟩
  have HQb := Lib.hid (HQa.out.trans (hbb.mono HQa.out.size))
  have HRb := Lib.hid hrb
  have HBb := Lib.hid hbb
  clear hrb hbb
  go_simp
  refine hK.out _ _ (HBb.out) (fun _ => ?_)
  clear hK K hHeld
  try simp only [Act.put, List.setIfInBounds_toArray, List.set_cons_zero, List.set_cons_succ]
  refine wpAnyH_strong (S' := fun W => Below wb.heap.size wb W) (fun W hW => HBb.out.trans (hW.mono HBb.out.size)) _ _ _ _ ?_
  have hHeld : (fun W => Below wb.heap.size wb W) wb := Below.refl _ _
  refine wpAnyH_take (i := 5) (oi := { dst := some 67, op := Op.convert 28 9 (Operand.tmp 66), type := 9, pos := _, after := _, guard := none }) (v := ?_) rfl (by kernel_rfl) (by kernel_rfl) (by kernel_rfl) (fun _ _ _ h => h) (Or.inl ⟨by rfl, ?_⟩) hHeld ?_
  rotate_left 1
  · (intro W hW; have hcv := conv_str (Rd.under HRb.out hW) HSL.out HSO.out; rw [← HZ.out] at hcv; (try dsimp only at hW); go_simp; try with_reducible rfl)
  try simp only [Act.put, List.setIfInBounds_toArray, List.set_cons_zero, List.set_cons_succ]
  refine wpAnyH_take (i := 6) (oi := { dst := some 68, op := Op.binOp BinOp.eql 9 (Operand.tmp 64) (Operand.tmp 67) 9, type := 4, pos := _, after := _, guard := none }) (v := ?_) rfl (by kernel_rfl) (by kernel_rfl) (by kernel_rfl) (fun _ _ _ h => h) (Or.inl ⟨by rfl, ?_⟩) hHeld ?_
  rotate_left 1
  · (intro W hW; (try dsimp only at hW); go_simp; try with_reducible rfl)
  try simp only [Act.put, List.setIfInBounds_toArray, List.set_cons_zero, List.set_cons_succ]
  refine wpAnyH_take (i := 7) (oi := { dst := some 69, op := Op.move (Operand.tmp 68), type := 4, pos := _, after := _, guard := none }) (v := ?_) rfl (by kernel_rfl) (by kernel_rfl) (by kernel_rfl) (fun _ _ _ h => h) (Or.inl ⟨by rfl, ?_⟩) hHeld ?_
  rotate_left 1
  · (intro W hW; (try dsimp only at hW); go_simp; try with_reducible rfl)
  try simp only [Act.put, List.setIfInBounds_toArray, List.set_cons_zero, List.set_cons_succ]
  refine wpAnyH_take (i := 8) (oi := { dst := some 70, op := Op.move (Operand.tmp 9), type := 23, pos := _, after := _, guard := some (7, true) }) (v := ?_) rfl (by kernel_rfl) (by kernel_rfl) (by kernel_rfl) (fun _ _ _ h => h) (Or.inl ⟨by rfl, ?_⟩) hHeld ?_
  rotate_left 1
  · (intro W hW; (try dsimp only at hW); go_simp; try with_reducible rfl)
  try simp only [Act.put, List.setIfInBounds_toArray, List.set_cons_zero, List.set_cons_succ]
  refine wpAnyH_ready (rs := [9]) (by kernel_rfl) (by simp) ?_
  refine AllReadyH.cons (o := { dst := some 71, op := Op.call { callee := Callee.value (Operand.func 22), args := #[Operand.tmp 70], argTypes := #[23] }, type := 4, pos := _, after := _, guard := some (7, true) }) rfl (fun K hK => ?_) AllReadyH.nil
  go_simp
  refine (down_nil _).mono ?_
  rintro e wq ⟨rfl, rfl⟩
  go_simp
  refine hK.out _ _ hHeld (fun _ => ?_)
  clear hK K
  try simp only [Act.put, List.setIfInBounds_toArray, List.set_cons_zero, List.set_cons_succ]
  refine wpAnyH_take (i := 10) (oi := { dst := some 72, op := Op.pick (Operand.tmp 69) (Operand.tmp 71) (Operand.const (Value.bool false)), type := 4, pos := _, after := _, guard := none }) (v := ?_) rfl (by kernel_rfl) (by kernel_rfl) (by kernel_rfl) (fun _ _ _ h => h) (Or.inl ⟨by rfl, ?_⟩) hHeld ?_
  rotate_left 1
  · (intro W hW; (try dsimp only at hW); go_simp; try with_reducible rfl)
  try simp only [Act.put, List.setIfInBounds_toArray, List.set_cons_zero, List.set_cons_succ]
  refine wpAnyH_take (i := 11) (oi := { dst := some 73, op := Op.move (Operand.tmp 72), type := 4, pos := _, after := _, guard := none }) (v := ?_) rfl (by kernel_rfl) (by kernel_rfl) (by kernel_rfl) (fun _ _ _ h => h) (Or.inl ⟨by rfl, ?_⟩) hHeld ?_
  rotate_left 1
  · (intro W hW; (try dsimp only at hW); go_simp; try with_reducible rfl)
  try simp only [Act.put, List.setIfInBounds_toArray, List.set_cons_zero, List.set_cons_succ]
  refine wpAnyH_take (i := 12) (oi := { dst := some 74, op := Op.move (Operand.tmp 9), type := 23, pos := _, after := _, guard := some (11, true) }) (v := ?_) rfl (by kernel_rfl) (by kernel_rfl) (by kernel_rfl) (fun _ _ _ h => h) (Or.inl ⟨by rfl, ?_⟩) hHeld ?_
  rotate_left 1
  · (intro W hW; (try dsimp only at hW); go_simp; try with_reducible rfl)
  try simp only [Act.put, List.setIfInBounds_toArray, List.set_cons_zero, List.set_cons_succ]
  refine wpAnyH_ready (rs := [13]) (by kernel_rfl) (by simp) ?_
  refine AllReadyH.cons (o := { dst := some 75, op := Op.call { callee := Callee.value (Operand.func 20), args := #[Operand.const (Value.slice none 0 0)], argTypes := #[28] }, type := 28, pos := _, after := _, guard := some (11, true) }) rfl (fun K hK => ?_) AllReadyH.nil
  go_simp
  refine (sector_nil wb).mono ?_
  rintro e wc ⟨rfl, _, hbc⟩
  have HQc := Lib.hid (HQb.out.trans (hbc.mono HQb.out.size))
  have HBc := Lib.hid hbc
  clear hbc
  go_simp
  refine hK.out _ _ (HBc.out) (fun _ => ?_)
  clear hK K hHeld
  try simp only [Act.put, List.setIfInBounds_toArray, List.set_cons_zero, List.set_cons_succ]
  refine wpAnyH_strong (S' := fun W => Below wc.heap.size wc W) (fun W hW => HBc.out.trans (hW.mono HBc.out.size)) _ _ _ _ ?_
  have hHeld : (fun W => Below wc.heap.size wc W) wc := Below.refl _ _
  refine wpAnyH_ready (rs := [14]) (by kernel_rfl) (by simp) ?_
  refine AllReadyH.cons (o := { dst := some 76, op := Op.call { callee := Callee.value (Operand.func 12), args := #[Operand.tmp 74, Operand.const (Value.int IntKind.i64 0), Operand.tmp 75], argTypes := #[23, 3, 28] }, type := 34, pos := _, after := _, guard := some (11, true) }) rfl (fun K hK => ?_) AllReadyH.nil
  go_simp
  refine (write_nil _ _ _).mono ?_
  rintro e wq ⟨rfl, rfl⟩
  go_simp
  refine hK.out _ _ hHeld (fun _ => ?_)
  clear hK K
  try simp only [Act.put, List.setIfInBounds_toArray, List.set_cons_zero, List.set_cons_succ]
  refine wpAnyH_take (i := 15) (oi := { dst := some 77, op := Op.binOp BinOp.eql 34 (Operand.tmp 76) (Operand.const (Value.int IntKind.i64 6)) 34, type := 4, pos := _, after := _, guard := some (11, true) }) (v := ?_) rfl (by kernel_rfl) (by kernel_rfl) (by kernel_rfl) (fun _ _ _ h => h) (Or.inl ⟨by rfl, ?_⟩) hHeld ?_
  rotate_left 1
  · (intro W hW; (try dsimp only at hW); go_simp; try with_reducible rfl)
  try simp only [Act.put, List.setIfInBounds_toArray, List.set_cons_zero, List.set_cons_succ]
  refine wpAnyH_take (i := 16) (oi := { dst := some 78, op := Op.pick (Operand.tmp 73) (Operand.tmp 77) (Operand.const (Value.bool false)), type := 4, pos := _, after := _, guard := none }) (v := ?_) rfl (by kernel_rfl) (by kernel_rfl) (by kernel_rfl) (fun _ _ _ h => h) (Or.inl ⟨by rfl, ?_⟩) hHeld ?_
  rotate_left 1
  · (intro W hW; (try dsimp only at hW); go_simp; try with_reducible rfl)
  try simp only [Act.put, List.setIfInBounds_toArray, List.set_cons_zero, List.set_cons_succ]
  refine wpAnyH_take (i := 17) (oi := { dst := some 79, op := Op.move (Operand.tmp 78), type := 4, pos := _, after := _, guard := none }) (v := ?_) rfl (by kernel_rfl) (by kernel_rfl) (by kernel_rfl) (fun _ _ _ h => h) (Or.inl ⟨by rfl, ?_⟩) hHeld ?_
  rotate_left 1
  · (intro W hW; (try dsimp only at hW); go_simp; try with_reducible rfl)
  try simp only [Act.put, List.setIfInBounds_toArray, List.set_cons_zero, List.set_cons_succ]
  refine wpAnyH_take (i := 18) (oi := { dst := some 80, op := Op.move (Operand.tmp 9), type := 23, pos := _, after := _, guard := some (17, true) }) (v := ?_) rfl (by kernel_rfl) (by kernel_rfl) (by kernel_rfl) (fun _ _ _ h => h) (Or.inl ⟨by rfl, ?_⟩) hHeld ?_
  rotate_left 1
  · (intro W hW; (try dsimp only at hW); go_simp; try with_reducible rfl)
  try simp only [Act.put, List.setIfInBounds_toArray, List.set_cons_zero, List.set_cons_succ]
  refine wpAnyH_ready (rs := [19]) (by kernel_rfl) (by simp) ?_
  refine AllReadyH.cons (o := { dst := some 81, op := Op.call { callee := Callee.value (Operand.func 14), args := #[Operand.tmp 80], argTypes := #[23] }, type := 34, pos := _, after := _, guard := some (17, true) }) rfl (fun K hK => ?_) AllReadyH.nil
  go_simp
  refine (flush_nil _).mono ?_
  rintro e wq ⟨rfl, rfl⟩
  go_simp
  refine hK.out _ _ hHeld (fun _ => ?_)
  clear hK K
  try simp only [Act.put, List.setIfInBounds_toArray, List.set_cons_zero, List.set_cons_succ]
  refine wpAnyH_take (i := 20) (oi := { dst := some 82, op := Op.binOp BinOp.eql 34 (Operand.tmp 81) (Operand.const (Value.int IntKind.i64 6)) 34, type := 4, pos := _, after := _, guard := some (17, true) }) (v := ?_) rfl (by kernel_rfl) (by kernel_rfl) (by kernel_rfl) (fun _ _ _ h => h) (Or.inl ⟨by rfl, ?_⟩) hHeld ?_
  rotate_left 1
  · (intro W hW; (try dsimp only at hW); go_simp; try with_reducible rfl)
  try simp only [Act.put, List.setIfInBounds_toArray, List.set_cons_zero, List.set_cons_succ]
  refine wpAnyH_take (i := 21) (oi := { dst := some 83, op := Op.pick (Operand.tmp 79) (Operand.tmp 82) (Operand.const (Value.bool false)), type := 4, pos := _, after := _, guard := none }) (v := ?_) rfl (by kernel_rfl) (by kernel_rfl) (by kernel_rfl) (fun _ _ _ h => h) (Or.inl ⟨by rfl, ?_⟩) hHeld ?_
  rotate_left 1
  · (intro W hW; (try dsimp only at hW); go_simp; try with_reducible rfl)
  try simp only [Act.put, List.setIfInBounds_toArray, List.set_cons_zero, List.set_cons_succ]
  refine wpAnyH_take (i := 22) (oi := { dst := some 84, op := Op.move (Operand.tmp 83), type := 4, pos := _, after := _, guard := none }) (v := ?_) rfl (by kernel_rfl) (by kernel_rfl) (by kernel_rfl) (fun _ _ _ h => h) (Or.inl ⟨by rfl, ?_⟩) hHeld ?_
  rotate_left 1
  · (intro W hW; (try dsimp only at hW); go_simp; try with_reducible rfl)
  try simp only [Act.put, List.setIfInBounds_toArray, List.set_cons_zero, List.set_cons_succ]
  refine wpAnyH_take (i := 23) (oi := { dst := some 85, op := Op.move (Operand.tmp 9), type := 23, pos := _, after := _, guard := some (22, true) }) (v := ?_) rfl (by kernel_rfl) (by kernel_rfl) (by kernel_rfl) (fun _ _ _ h => h) (Or.inl ⟨by rfl, ?_⟩) hHeld ?_
  rotate_left 1
  · (intro W hW; (try dsimp only at hW); go_simp; try with_reducible rfl)
  try simp only [Act.put, List.setIfInBounds_toArray, List.set_cons_zero, List.set_cons_succ]
  refine wpAnyH_take (i := 26) (oi := { dst := some 88, op := Op.move (Operand.tmp 9), type := 23, pos := _, after := _, guard := some (22, true) }) (v := ?_) rfl (by kernel_rfl) (by kernel_rfl) (by kernel_rfl) (fun _ _ _ h => h) (Or.inl ⟨by rfl, ?_⟩) hHeld ?_
  rotate_left 1
  · (intro W hW; (try dsimp only at hW); go_simp; try with_reducible rfl)
  try simp only [Act.put, List.setIfInBounds_toArray, List.set_cons_zero, List.set_cons_succ]
  refine wpAnyH_take (i := 29) (oi := { dst := some 91, op := Op.move (Operand.tmp 9), type := 23, pos := _, after := _, guard := some (22, true) }) (v := ?_) rfl (by kernel_rfl) (by kernel_rfl) (by kernel_rfl) (fun _ _ _ h => h) (Or.inl ⟨by rfl, ?_⟩) hHeld ?_
  rotate_left 1
  · (intro W hW; (try dsimp only at hW); go_simp; try with_reducible rfl)
  try simp only [Act.put, List.setIfInBounds_toArray, List.set_cons_zero, List.set_cons_succ]
  refine wpAnyH_ready (rs := [24]) (by kernel_rfl) (by simp) ?_
  refine AllReadyH.cons (o := { dst := some 86, op := Op.call { callee := Callee.value (Operand.func 23), args := #[Operand.tmp 85, Operand.const (Value.int IntKind.i64 0)], argTypes := #[23, 3] }, type := 28, pos := _, after := _, guard := some (22, true) }) rfl (fun K hK => ?_) AllReadyH.nil
  go_simp
  refine (read_nil _ _).mono ?_
  rintro e wq ⟨rfl, rfl⟩
  go_simp
  refine hK.out _ _ hHeld (fun _ => ?_)
  clear hK K
  try simp only [Act.put, List.setIfInBounds_toArray, List.set_cons_zero, List.set_cons_succ]
  refine wpAnyH_take (i := 25) (oi := { dst := some 87, op := Op.call { callee := Callee.builtin Builtin.len, args := #[Operand.tmp 86], argTypes := #[28] }, type := 3, pos := _, after := _, guard := some (22, true) }) (v := ?_) rfl (by kernel_rfl) (by kernel_rfl) (by kernel_rfl) (fun _ _ _ h => h) (Or.inl ⟨by rfl, ?_⟩) hHeld ?_
  rotate_left 1
  · (intro W hW; (try dsimp only at hW); go_simp; try with_reducible rfl)
  try simp only [Act.put, List.setIfInBounds_toArray, List.set_cons_zero, List.set_cons_succ]
  refine wpAnyH_ready (rs := [27]) (by kernel_rfl) (by simp) ?_
  refine AllReadyH.cons (o := { dst := some 89, op := Op.call { callee := Callee.value (Operand.func 25), args := #[Operand.tmp 88], argTypes := #[23] }, type := 3, pos := _, after := _, guard := some (22, true) }) rfl (fun K hK => ?_) AllReadyH.nil
  go_simp
  refine (size_nil _).mono ?_
  rintro e wq ⟨rfl, rfl⟩
  go_simp
  refine hK.out _ _ hHeld (fun _ => ?_)
  clear hK K
  try simp only [Act.put, List.setIfInBounds_toArray, List.set_cons_zero, List.set_cons_succ]
  refine wpAnyH_take (i := 28) (oi := { dst := some 90, op := Op.binOp BinOp.add 3 (Operand.tmp 87) (Operand.tmp 89) 3, type := 3, pos := _, after := _, guard := some (22, true) }) (v := ?_) rfl (by kernel_rfl) (by kernel_rfl) (by kernel_rfl) (fun _ _ _ h => h) (Or.inl ⟨by rfl, ?_⟩) hHeld ?_
  rotate_left 1
  · (intro W hW; (try dsimp only at hW); go_simp; try with_reducible rfl)
  try simp only [Act.put, List.setIfInBounds_toArray, List.set_cons_zero, List.set_cons_succ]
  refine wpAnyH_ready (rs := [30]) (by kernel_rfl) (by simp) ?_
  refine AllReadyH.cons (o := { dst := some 92, op := Op.call { callee := Callee.value (Operand.func 24), args := #[Operand.tmp 91], argTypes := #[23] }, type := 3, pos := _, after := _, guard := some (22, true) }) rfl (fun K hK => ?_) AllReadyH.nil
  go_simp
  refine (ops_nil _).mono ?_
  rintro e wq ⟨rfl, rfl⟩
  go_simp
  refine hK.out _ _ hHeld (fun _ => ?_)
  clear hK K
  try simp only [Act.put, List.setIfInBounds_toArray, List.set_cons_zero, List.set_cons_succ]
  refine wpAnyH_take (i := 31) (oi := { dst := some 93, op := Op.binOp BinOp.add 3 (Operand.tmp 90) (Operand.tmp 92) 3, type := 3, pos := _, after := _, guard := some (22, true) }) (v := ?_) rfl (by kernel_rfl) (by kernel_rfl) (by kernel_rfl) (fun _ _ _ h => h) (Or.inl ⟨by rfl, ?_⟩) hHeld ?_
  rotate_left 1
  · (intro W hW; (try dsimp only at hW); go_simp; try with_reducible rfl)
  try simp only [Act.put, List.setIfInBounds_toArray, List.set_cons_zero, List.set_cons_succ]
  refine wpAnyH_take (i := 32) (oi := { dst := some 94, op := Op.binOp BinOp.eql 3 (Operand.tmp 93) (Operand.const (Value.int IntKind.i64 0)) 3, type := 4, pos := _, after := _, guard := some (22, true) }) (v := ?_) rfl (by kernel_rfl) (by kernel_rfl) (by kernel_rfl) (fun _ _ _ h => h) (Or.inl ⟨by rfl, ?_⟩) hHeld ?_
  rotate_left 1
  · (intro W hW; (try dsimp only at hW); go_simp; try with_reducible rfl)
  try simp only [Act.put, List.setIfInBounds_toArray, List.set_cons_zero, List.set_cons_succ]
  refine wpAnyH_take (i := 33) (oi := { dst := some 95, op := Op.pick (Operand.tmp 84) (Operand.tmp 94) (Operand.const (Value.bool false)), type := 4, pos := _, after := _, guard := none }) (v := ?_) rfl (by kernel_rfl) (by kernel_rfl) (by kernel_rfl) (fun _ _ _ h => h) (Or.inl ⟨by rfl, ?_⟩) hHeld ?_
  rotate_left 1
  · (intro W hW; (try dsimp only at hW); go_simp; try with_reducible rfl)
  try simp only [Act.put, List.setIfInBounds_toArray, List.set_cons_zero, List.set_cons_succ]
  refine wpAnyH_take (i := 34) (oi := { dst := some 96, op := Op.move (Operand.tmp 95), type := 4, pos := _, after := _, guard := none }) (v := ?_) rfl (by kernel_rfl) (by kernel_rfl) (by kernel_rfl) (fun _ _ _ h => h) (Or.inl ⟨by rfl, ?_⟩) hHeld ?_
  rotate_left 1
  · (intro W hW; (try dsimp only at hW); go_simp; try with_reducible rfl)
  try simp only [Act.put, List.setIfInBounds_toArray, List.set_cons_zero, List.set_cons_succ]
  refine wpAnyH_ready (rs := [35]) (by kernel_rfl) (by simp) ?_
  refine AllReadyH.cons (o := { dst := some 97, op := Op.call { callee := Callee.value (Operand.func 11), args := #[], argTypes := #[] }, type := 4, pos := _, after := _, guard := some (34, true) }) rfl (fun K hK => ?_) AllReadyH.nil
  go_simp
  refine (known_any wc).mono ?_
  rintro e wd ⟨rfl, hbd⟩
  have HQd := Lib.hid (HQc.out.trans (hbd.mono HQc.out.size))
  have HBd := Lib.hid hbd
  clear hbd
  go_simp
  refine hK.out _ _ (HBd.out) (fun _ => ?_)
  clear hK K hHeld
  try simp only [Act.put, List.setIfInBounds_toArray, List.set_cons_zero, List.set_cons_succ]
  refine wpAnyH_strong (S' := fun W => Below wd.heap.size wd W) (fun W hW => HBd.out.trans (hW.mono HBd.out.size)) _ _ _ _ ?_
  have hHeld : (fun W => Below wd.heap.size wd W) wd := Below.refl _ _
  refine wpAnyH_take (i := 36) (oi := { dst := some 98, op := Op.pick (Operand.tmp 96) (Operand.tmp 97) (Operand.const (Value.bool false)), type := 4, pos := _, after := _, guard := none }) (v := ?_) rfl (by kernel_rfl) (by kernel_rfl) (by kernel_rfl) (fun _ _ _ h => h) (Or.inl ⟨by rfl, ?_⟩) hHeld ?_
  rotate_left 1
  · (intro W hW; (try dsimp only at hW); go_simp; try with_reducible rfl)
  try simp only [Act.put, List.setIfInBounds_toArray, List.set_cons_zero, List.set_cons_succ]
  refine wpAnyH_take (i := 37) (oi := { dst := some 4, op := Op.assign (Operand.tmp 98), type := 4, pos := _, after := _, guard := none }) (v := ?_) rfl (by kernel_rfl) (by kernel_rfl) (by kernel_rfl) (fun _ _ _ h => h) (Or.inl ⟨by rfl, ?_⟩) hHeld ?_
  rotate_left 1
  · (intro W hW; (try dsimp only at hW); go_simp; try with_reducible rfl)
  try simp only [Act.put, List.setIfInBounds_toArray, List.set_cons_zero, List.set_cons_succ]
  refine wpAnyH_done (by kernel_rfl) ?_ _
  refine NoPanic.normal ?_
  go_wp2_with fail
  go_ret
  exact ⟨rfl, HQd.out⟩
theorem law_own (w : World) (A : Option Addr) (c n y : Nat) (l : List Nat) (hl : l.length = n) (hr : Rd .u8 w w.heap.size A c l) (ho : Oct1 l) :
    Calls Try.prog 6 #[.slice A n c, .int .u8 y] w fun e w' => e = .returned (.bool true) ∧ Below w.heap.size w w' := by
  by_cases h : 64 < n ∨ y = 0
  · exact own_no w A c n y h
  · exact own_yes w A c n y l hl hr ho (by omega) (by omega)
end Go.Proofs.Ytbenkffjfjddgaa
