/-
  One name under another; a text of one byte.
-/
import Derived.Test.YtionikhhdfkhdaaDoorDn1
namespace Go.Proofs.YtionikhhdfkhdaaDoor
open Go.RowKit
set_option linter.unusedVariables false

/-- A text of one byte. -/
structure One (s : ByteArray) : Prop where
  size : s.size = 1
  low : ∀ h : 0 < s.size, s[0].toNat < 128

set_option maxRecDepth 100000 in
set_option maxHeartbeats 2000000 in
theorem valid_one (w : World) (g off c x : Nat) (hc : 1 ≤ c) (hc63 : c ≤ 9223372036854775807) (hx : x < 128) (hcell : w.cell? ⟨g, off, none⟩ = some (.int .u8 (x : Int))) :
    Calls Tryd.prog 59 #[.slice (some ⟨g, off, none⟩) 1 c] w fun e w' => e = .returned (.bool true) ∧ ∃ q, w' = w.drewN q := by
  have b1 : decide ((x : Int) < 128) = true := decide_eq_true (by omega)
  have hcI : (1 : Int) ≤ (c : Int) := by omega
  go_enter Tryd.func59, Tryd.ntmps59
  go_wp2_with fail
  refine wp_loop_rounds 2 ?_
  rw [rounds_succ]
  go_wp2_with fail
  rw [rounds_succ]
  go_wp2_with fail
  go_ret
  exact ⟨rfl, 0, rfl⟩

set_option maxRecDepth 100000 in
theorem heldA_any (w : World) (A K : Option Addr) (n c nc kc : Nat) :
    Calls Tryd.prog 40 #[.agg #[.int .u8 12, .slice A n c, .slice none 0 0], .int .u8 12] w fun e w' => e = .returned (.tuple #[.slice A n c, .bool true]) ∧ Below w.heap.size w w' := by
  have hbox := Holds.fresh w 43 #[.int .u8 12, .slice A n c, .slice none 0 0]
  have hbel : Below w.heap.size w (w.alloc (.cells #[.int .u8 12, .slice A n c, .slice none 0 0] 43)) := (Below.refl _ _).alloc (Nat.le_refl _) _
  go_enter Tryd.func40, Tryd.ntmps40
  go_wp2_with fail
  go_ret2
  exact ⟨rfl, hbel⟩

set_option maxRecDepth 100000 in
set_option maxHeartbeats 1000000 in
theorem getText_one (w : World) (B g off c x : Nat) (hr : Rd .u8 w B (some ⟨g, off, none⟩) c [x]) (hB : B ≤ w.heap.size) (hx : x < 128) :
    Calls Tryd.prog 38 #[.agg #[.int .u8 12, .slice (some ⟨g, off, none⟩) 1 c, .slice none 0 0]] w fun e w' => e = .returned (.tuple #[.string (str [x]), .bool true]) ∧ Below w.heap.size w w' := by
  have hbox := Holds.fresh w 43 #[.int .u8 12, .slice (some ⟨g, off, none⟩) 1 c, .slice none 0 0]
  have hbel : Below w.heap.size w (w.alloc (.cells #[.int .u8 12, .slice (some ⟨g, off, none⟩) 1 c, .slice none 0 0] 43)) := (Below.refl _ _).alloc (Nat.le_refl _) _
  have hr1 := hr.alloc hB (.cells #[.int .u8 12, .slice (some ⟨g, off, none⟩) 1 c, .slice none 0 0] 43)
  go_enter Tryd.func38, Tryd.ntmps38
  go_wp2_with fail
  generalize w.alloc (.cells #[.int .u8 12, .slice (some ⟨g, off, none⟩) 1 c, .slice none 0 0] 43) = W at *
  refine (heldA_any W (some ⟨g, off, none⟩) none 1 c 0 0).mono ?_
  rintro e w1 ⟨rfl, hb1⟩
  have hr2 := hr1.under (hb1.mono (Nat.le_trans hB hbel.size))
  have hbel2 := hbel.trans (hb1.mono hbel.size)
  clear hb1 hr1 hbox hbel
  obtain ⟨b', off', x', e0, hb', hx', Hx'⟩ := hr2.at_ (i := 0) (by simp)
  obtain ⟨rfl, rfl⟩ : g = b' ∧ off = off' := by injection e0 with e0; injection e0 with e1 e2; exact ⟨e1, e2⟩
  obtain rfl : x' = x := Hx'.out
  go_wp2_with fail
  refine (valid_one w1 g off c x' hr2.1 hr2.2.1 hx hx').mono ?_
  rintro e w2 ⟨rfl, q, rfl⟩
  have hcv := conv_str (n := 1) (hr2.drewN q) rfl (fun y hy => by simp at hy; omega)
  have hbel3 : Below w.heap.size w (w1.drewN q) := ⟨hbel2.os, hbel2.tape, hbel2.output, hbel2.size, hbel2.block⟩
  generalize w1.drewN q = w3 at *
  go_wp2_with fail
  go_ret2
  exact ⟨rfl, hbel3⟩
end Go.Proofs.YtionikhhdfkhdaaDoor
