/-
  One name under another; a text of one byte.
-/
import Derived.Test.YtbkjjhpnjfdlbaaGreatDoorDn1
namespace Go.Proofs.YtbkjjhpnjfdlbaaGreatDoor
open Go.RowKit
set_option linter.unusedVariables false

set_option maxRecDepth 100000 in
theorem sameA_any (w : World) (B B' : Nat) (A A' : Option Addr) (c c' n n' : Nat) (l l' : List Att) (hn : l.length = n) (hn' : l'.length = n') (hr : RdA w B A c l) (hr' : RdA w B' A' c' l') (v : Bool) (hv : v = true ↔ l = l') :
    Calls Tryz.prog 51 #[.slice A n c, .slice A' n' c'] w fun e w' => e = .returned (.bool v) ∧ ∃ q, w' = w.drewN q := by
  have HC := Lib.hid (equalA_any w B B' A A' c c' n n' l l' hn hn' hr hr' v hv)
  clear hv
  go_enter Tryz.func51, Tryz.ntmps51
  go_wp2_with fail
  refine HC.out.mono ?_
  rintro e w1 ⟨rfl, q, rfl⟩
  go_wp2_with fail
  go_ret
  exact ⟨rfl, q, rfl⟩

set_option maxRecDepth 100000 in
theorem underA_any (w : World) (B B' : Nat) (A A' : Option Addr) (c c' n n' : Nat) (l l' : List Att) (hn : l.length = n) (hn' : l'.length = n') (hr : RdA w B A c l) (hr' : RdA w B' A' c' l') (v : Bool) (hv : v = true ↔ n' ≤ n ∧ l.take n' = l') :
    Calls Tryz.prog 32 #[.slice A n c, .slice A' n' c'] w fun e w' => e = .returned (.bool v) ∧ ∃ q, w' = w.drewN q := by
  have hlc := hr.1
  have hc63 := hr.2.1
  have hlc' := hr'.1
  have hc63' := hr'.2.1
  by_cases h : n' ≤ n
  case neg =>
    have b1 : decide ((n' : Int) ≤ (n : Int)) = false := decide_eq_false (by omega)
    have b2 : decide (n' ≤ n) = false := decide_eq_false h
    have HF : Hid (v = false) := Lib.hid (by
      cases v
      · rfl
      · exact absurd (hv.1 rfl).1 h)
    clear hv h
    go_enter Tryz.func32, Tryz.ntmps32
    go_wp2_with fail
    go_ret
    exact ⟨by rw [HF.out]; rfl, 0, rfl⟩
  case pos =>
  have b1 : decide ((n' : Int) ≤ (n : Int)) = true := decide_eq_true (by omega)
  have b2 : decide (n' ≤ n) = true := decide_eq_true h
  have hnc : n' ≤ c := by omega
  have hncI : (n' : Int) ≤ (c : Int) := by omega
  have hn0 : (0 : Int) ≤ (n' : Int) := by omega
  have HC := Lib.hid (sameA_any w B B' A A' c c' n' n' (l.take n') l' (by rw [List.length_take]; omega) hn' (hr.cut n') hr' v ⟨fun e => (hv.1 e).2, fun e => hv.2 ⟨h, e⟩⟩)
  clear hv h
  go_enter Tryz.func32, Tryz.ntmps32
  go_wp2_with fail
  refine HC.out.mono ?_
  rintro e w1 ⟨rfl, q, rfl⟩
  go_wp2_with fail
  go_ret
  exact ⟨rfl, q, rfl⟩

/-- A text of one byte. -/
structure One (s : ByteArray) : Prop where
  size : s.size = 1
  low : ∀ h : 0 < s.size, s[0].toNat < 128

set_option maxRecDepth 100000 in
set_option maxHeartbeats 2000000 in
theorem valid_one (w : World) (g off c x : Nat) (hc : 1 ≤ c) (hc63 : c ≤ 9223372036854775807) (hx : x < 128) (hcell : w.cell? ⟨g, off, none⟩ = some (.int .u8 (x : Int))) :
    Calls Tryz.prog 105 #[.slice (some ⟨g, off, none⟩) 1 c] w fun e w' => e = .returned (.bool true) ∧ ∃ q, w' = w.drewN q := by
  have b1 : decide ((x : Int) < 128) = true := decide_eq_true (by omega)
  have hcI : (1 : Int) ≤ (c : Int) := by omega
  go_enter Tryz.func105, Tryz.ntmps105
  go_wp2_with fail
  refine wp_loop_rounds 2 ?_
  rw [rounds_succ]
  go_wp2_with fail
  rw [rounds_succ]
  go_wp2_with fail
  go_ret
  exact ⟨rfl, 0, rfl⟩

set_option maxRecDepth 100000 in
theorem heldA_any (w : World) (A K : Option Addr) (n c nc kc : Nat) :
    Calls Tryz.prog 46 #[.agg #[.int .u8 12, .slice A n c, .slice none 0 0], .int .u8 12] w fun e w' => e = .returned (.tuple #[.slice A n c, .bool true]) ∧ Below w.heap.size w w' := by
  have hbox := Holds.fresh w 31 #[.int .u8 12, .slice A n c, .slice none 0 0]
  have hbel : Below w.heap.size w (w.alloc (.cells #[.int .u8 12, .slice A n c, .slice none 0 0] 31)) := (Below.refl _ _).alloc (Nat.le_refl _) _
  go_enter Tryz.func46, Tryz.ntmps46
  go_wp2_with fail
  go_ret2
  exact ⟨rfl, hbel⟩

set_option maxRecDepth 100000 in
set_option maxHeartbeats 1000000 in
theorem getText_one (w : World) (B g off c x : Nat) (hr : Rd .u8 w B (some ⟨g, off, none⟩) c [x]) (hB : B ≤ w.heap.size) (hx : x < 128) :
    Calls Tryz.prog 80 #[.agg #[.int .u8 12, .slice (some ⟨g, off, none⟩) 1 c, .slice none 0 0]] w fun e w' => e = .returned (.tuple #[.string (str [x]), .bool true]) ∧ Below w.heap.size w w' := by
  have hbox := Holds.fresh w 31 #[.int .u8 12, .slice (some ⟨g, off, none⟩) 1 c, .slice none 0 0]
  have hbel : Below w.heap.size w (w.alloc (.cells #[.int .u8 12, .slice (some ⟨g, off, none⟩) 1 c, .slice none 0 0] 31)) := (Below.refl _ _).alloc (Nat.le_refl _) _
  have hr1 := hr.alloc hB (.cells #[.int .u8 12, .slice (some ⟨g, off, none⟩) 1 c, .slice none 0 0] 31)
  go_enter Tryz.func80, Tryz.ntmps80
  go_wp2_with fail
  generalize w.alloc (.cells #[.int .u8 12, .slice (some ⟨g, off, none⟩) 1 c, .slice none 0 0] 31) = W at *
  refine (heldA_any W (some ⟨g, off, none⟩) none 1 c 0 0).mono ?_
  rintro e w1 ⟨rfl, hb1⟩
  have hr2 := hr1.under (hb1.mono (Nat.le_trans hB hbel.size))
  have hbel2 := hbel.trans (hb1.mono hbel.size)
  clear hb1 hr1 hbox hbel
  obtain ⟨b', off', x', e0, hb', hx', Hx'⟩ := hr2.at_ (i := 0) (by simp)
  obtain ⟨rfl, rfl⟩ : g = b' ∧ off = off' := by injection e0 with e0; injection e0 with e1 e2; exact ⟨e1, e2⟩
  obtain rfl : x' = x := Hx'.out
  go_wp2_with fail
  refine (valid_one w1 g off c x' hr2.1 hr2.2.1 hx hx').mono ?_
  rintro e w2 ⟨rfl, q, rfl⟩
  have hcv := conv_str (n := 1) (hr2.drewN q) rfl (fun y hy => by simp at hy; omega)
  have hbel3 : Below w.heap.size w (w1.drewN q) := ⟨hbel2.os, hbel2.tape, hbel2.output, hbel2.size, hbel2.block⟩
  generalize w1.drewN q = w3 at *
  go_wp2_with fail
  go_ret2
  exact ⟨rfl, hbel3⟩
end Go.Proofs.YtbkjjhpnjfdlbaaGreatDoor
