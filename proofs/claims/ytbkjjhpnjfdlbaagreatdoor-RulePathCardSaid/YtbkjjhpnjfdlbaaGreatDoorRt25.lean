/-
  The walks of ext and rule at no extensions; the known answers.
-/
import Derived.Test.YtbkjjhpnjfdlbaaGreatDoorChecked
import Derived.WalkKit
import Derived.WalkSpells
import Derived.WalkLawsBesides
import Derived.Outline
import Derived.Test.YtbkjjhpnjfdlbaaGreatDoorMem
import Derived.Laws.IdiomStrings
namespace Go.Proofs.YtbkjjhpnjfdlbaaGreatDoor
open Go.RowKit

/-- Of no extensions none is odd. -/
theorem odd_nil25 (w : World) : Calls Tryz.prog 30 #[.slice none 0 0] w fun e w' => e = .returned (.bool false) ∧ w = w' := by
  go_enter Tryz.func30, Tryz.ntmps30
  go_wp2
  refine wp_loop_rounds 1 ?_
  rw [rounds_succ]
  go_wp2
  go_ret
  exact ⟨rfl, rfl⟩

theorem find_nil25 (w : World) (v : Value) : Calls Tryz.prog 40 #[.slice none 0 0, v] w fun e w' => e = .returned (.tuple #[.agg #[.slice none 0 0, .bool false, .slice none 0 0], .bool false]) ∧ Below w.heap.size w w' := by
  go_enter Tryz.func40, Tryz.ntmps40
  go_wp2
  refine wp_loop_rounds 1 ?_
  rw [rounds_succ]
  go_wp2
  exact bodyPost_ret (v := .tuple #[.agg #[.slice none 0 0, .bool false, .slice none 0 0], .bool false]) (by simp [results, Tryz.results40, go_sem]) rfl ⟨rfl, ((Below.refl _ _).alloc (Nat.le_refl _) _)⟩

theorem conv25 (s : ByteArray) : ∃ (cap : World → Nat) (o : World → Obj), ∀ W : World, (convert 9 22 (.string s)).run Tryz.prog W = .ok (.slice (some ⟨W.heap.size, 0, none⟩) s.size (cap W)) (W.drew.alloc (o W)) :=
  ⟨_, _, fun W => run_bytes_of_string (P := Tryz.prog) W 9 22 5 s Tryz.underlying9 Tryz.underlying22 Tryz.underlying5⟩

set_option maxRecDepth 100000 in
theorem value_nil25 (w : World) (s : ByteArray) : Calls Tryz.prog 25 #[.slice none 0 0, .string s] w fun e w' => e = .returned (.tuple #[.agg #[.int .u8 0, .slice none 0 0, .slice none 0 0], .bool false, .bool true]) ∧ Below w.heap.size w w' := by
  obtain ⟨cap, o, hcv⟩ := conv25 s
  go_enter Tryz.func25, Tryz.ntmps25
  go_wp2_with fail
  refine (find_nil25 _ _).mono ?_
  rintro e w1 ⟨rfl, hb⟩
  have hB := (((Holds.fresh w 31 #[.int .u8 0, .slice none 0 0, .slice none 0 0]).alloc (o (w.alloc (.cells #[.int .u8 0, .slice none 0 0, .slice none 0 0] 31)))).drew).under hb (by simp; omega)
  have hc := hB.cell
  have hf := hB.open_
  have hz := hB.lt
  have h1 : Below w.heap.size w w1 := (((Below.refl _ _).alloc (Nat.le_refl _) _).alloc (by simp) _).drew.trans (hb.mono (by simp; omega))
  go_wp2_with fail
  refine bodyPost_ret (v := .tuple #[.agg #[.int .u8 0, .slice none 0 0, .slice none 0 0], .bool false, .bool true]) (by simp [results, Tryz.results25, go_sem, hc, hz]) rfl ⟨rfl, ?_⟩
  repeat (first | exact h1 | refine Below.drew ?_ | refine Below.alloc ?_ (by have := h1.size; simp; omega) _ | refine Below.setCell ?_ (by simp) _)

set_option maxRecDepth 100000 in
theorem listed_nil25 (w : World) (s : ByteArray) (f : Value) : Calls Tryz.prog 28 #[.slice none 0 0, .string s, f] w fun e w' => e = .returned (.tuple #[.slice none 0 0, .bool false, .bool true]) ∧ Below w.heap.size w w' := by
  go_enter Tryz.func28, Tryz.ntmps28
  go_wp2_with fail
  refine (value_nil25 _ _).mono ?_
  rintro e w1 ⟨rfl, hb⟩
  go_wp2_with fail
  go_ret3
  exact ⟨rfl, hb.alloc hb.size _⟩
set_option maxRecDepth 100000 in
theorem listed2_nil25 (w : World) (s : ByteArray) (f : Value) : Calls Tryz.prog 49 #[.slice none 0 0, .string s, f] w fun e w' => e = .returned (.tuple #[.slice none 0 0, .bool false, .bool true]) ∧ Below w.heap.size w w' := by
  go_enter Tryz.func49, Tryz.ntmps49
  go_wp2_with fail
  refine (value_nil25 _ _).mono ?_
  rintro e w1 ⟨rfl, hb⟩
  go_wp2_with fail
  go_ret3
  exact ⟨rfl, hb.alloc hb.size _⟩
set_option maxRecDepth 100000 in
theorem uses_nil25 (w : World) : Calls Tryz.prog 17 #[.slice none 0 0] w fun e w' => e = .returned (.tuple #[.slice none 0 0, .bool false, .bool true]) ∧ Below w.heap.size w w' := by
  go_enter Tryz.func17, Tryz.ntmps17
  go_wp2_with fail
  refine (listed_nil25 _ _ _).mono ?_
  rintro e w1 ⟨rfl, hb⟩
  go_wp2_with fail
  go_ret3
  exact ⟨rfl, hb⟩
set_option maxRecDepth 100000 in
theorem only_nil25 (w : World) : Calls Tryz.prog 31 #[.slice none 0 0] w fun e w' => e = .returned (.tuple #[.slice none 0 0, .bool false, .bool true]) ∧ Below w.heap.size w w' := by
  go_enter Tryz.func31, Tryz.ntmps31
  go_wp2_with fail
  refine (listed2_nil25 _ _ _).mono ?_
  rintro e w1 ⟨rfl, hb⟩
  go_wp2_with fail
  go_ret3
  exact ⟨rfl, hb⟩
set_option maxRecDepth 100000 in
theorem basic_nil25 (w : World) : Calls Tryz.prog 15 #[.slice none 0 0] w fun e w' => e = .returned (.tuple #[.agg #[.bool false, .int .i64 (-1)], .bool true]) ∧ Below w.heap.size w w' := by
  go_enter Tryz.func15, Tryz.ntmps15
  go_wp2_with fail
  refine (value_nil25 _ _).mono ?_
  rintro e w1 ⟨rfl, hb⟩
  have hB := (Holds.fresh w 52 #[.bool false, .int .i64 0]).under hb (by simp)
  have hc := hB.cell
  have hf := hB.open_
  have hz := hB.lt
  have h1 : Below w.heap.size w w1 := ((Below.refl _ _).alloc (Nat.le_refl _) _).trans (hb.mono (by simp))
  go_wp2_with fail
  refine bodyPost_ret (v := .tuple #[.agg #[.bool false, .int .i64 (-1)], .bool true]) (by simp [results, Tryz.results15, go_sem, hc, hz]) rfl ⟨rfl, ?_⟩
  repeat (first | exact h1 | refine Below.drew ?_ | refine Below.alloc ?_ (by have := h1.size; simp; omega) _ | refine Below.setCell ?_ (by simp) _)
set_option maxRecDepth 100000 in
theorem usage_nil25 (w : World) : Calls Tryz.prog 27 #[.slice none 0 0] w fun e w' => e = .returned (.tuple #[.int .u8 0, .bool false, .bool true]) ∧ Below w.heap.size w w' := by
  go_enter Tryz.func27, Tryz.ntmps27
  go_wp2_with fail
  refine (value_nil25 _ _).mono ?_
  rintro e w1 ⟨rfl, hb⟩
  go_wp2_with fail
  go_ret3
  exact ⟨rfl, hb.alloc hb.size _⟩
/-- The cells of a certificate of which two times alone are told. -/
abbrev cells25 (a b : Int) : Array Value := #[.slice none 0 0, .slice none 0 0, .int .i64 a, .int .i64 b, .slice none 0 0, .int .i64 0, .slice none 0 0, .int .u32 0, .slice none 0 0, .slice none 0 0, .bool false, .slice none 0 0, .slice none 0 0]

set_option maxRecDepth 100000 in
theorem holds_early25 (a b t : Int) (h : t < a) (w : World) : Calls Tryz.prog 18 #[.agg (cells25 a b), .int .i64 t] w fun e w' => e = .returned (.bool false) ∧ Below w.heap.size w w' := by
  go_enter Tryz.func18, Tryz.ntmps18
  go_wp2_with fail
  go_ret
  exact ⟨rfl, (Below.refl _ _).alloc (Nat.le_refl _) _⟩
set_option maxRecDepth 100000 in
theorem holds_late25 (a b t : Int) (h : ¬ t < a) (h2 : b < t) (w : World) : Calls Tryz.prog 18 #[.agg (cells25 a b), .int .i64 t] w fun e w' => e = .returned (.bool false) ∧ Below w.heap.size w w' := by
  go_enter Tryz.func18, Tryz.ntmps18
  go_wp2_with fail
  go_ret
  exact ⟨rfl, (Below.refl _ _).alloc (Nat.le_refl _) _⟩
set_option maxRecDepth 100000 in
theorem holds_yes25 (a b t : Int) (h : ¬ t < a) (h2 : ¬ b < t) (w : World) : Calls Tryz.prog 18 #[.agg (cells25 a b), .int .i64 t] w fun e w' => e = .returned (.bool true) ∧ Below w.heap.size w w' := by
  go_enter Tryz.func18, Tryz.ntmps18
  go_wp2_with fail
  refine (odd_nil25 _).mono ?_
  rintro e w1 ⟨rfl, rfl⟩
  go_wp2_with fail
  refine (basic_nil25 _).mono ?_
  rintro e w1 ⟨rfl, hb⟩
  have hB1 := (Holds.fresh w 42 (cells25 a b)).under hb (by simp)
  have h1 : Below w.heap.size w w1 := ((Below.refl _ _).alloc (Nat.le_refl _) _).trans (hb.mono (by simp))
  have hc1 := hB1.cell
  have hz1 := hB1.lt
  go_wp2_with fail
  refine (usage_nil25 _).mono ?_
  rintro e w2 ⟨rfl, hb2⟩
  have hB2 := (hB1.alloc (.cells #[.bool false, .int .i64 (-1)] 52)).under hb2 (by simp; omega)
  have h2 : Below w.heap.size w w2 := (h1.alloc (by have := h1.size; omega) _).trans (hb2.mono (by simp; omega))
  have hc2 := hB2.cell
  have hz2 := hB2.lt
  go_wp2_with fail
  refine (uses_nil25 _).mono ?_
  rintro e w3 ⟨rfl, hb3⟩
  have hB3 := hB2.under hb3 (by omega)
  have h3 : Below w.heap.size w w3 := h2.trans (hb3.mono (by omega))
  have hc3 := hB3.cell
  go_wp2_with fail
  refine (only_nil25 _).mono ?_
  rintro e w4 ⟨rfl, hb4⟩
  have h4 : Below w.heap.size w w4 := h3.trans (hb4.mono (by have := hB3.lt; omega))
  go_wp2_with fail
  go_ret
  exact ⟨rfl, h4⟩
set_option maxRecDepth 100000 in
theorem usable_nil25 (a b : Int) (d : Int) (w : World) : Calls Tryz.prog 16 #[.agg (cells25 a b), .int .u8 d] w fun e w' => e = .returned (.bool true) ∧ Below w.heap.size w w' := by
  go_enter Tryz.func16, Tryz.ntmps16
  go_wp2_with fail
  refine (usage_nil25 _).mono ?_
  rintro e w1 ⟨rfl, hb⟩
  have h1 : Below w.heap.size w w1 := ((Below.refl _ _).alloc (Nat.le_refl _) _).trans (hb.mono (by simp))
  go_wp2_with fail
  go_ret
  exact ⟨rfl, h1⟩
set_option maxRecDepth 100000 in
theorem may_code25 (a b : Int) (w : World) : Calls Tryz.prog 8 #[.agg (cells25 a b), .int .i64 1] w fun e w' => e = .returned (.bool false) ∧ Below w.heap.size w w' := by
  go_enter Tryz.func8, Tryz.ntmps8
  go_wp2_with fail
  refine (uses_nil25 _).mono ?_
  rintro e w1 ⟨rfl, hb⟩
  have h1 : Below w.heap.size w w1 := ((Below.refl _ _).alloc (Nat.le_refl _) _).trans (hb.mono (by simp))
  go_wp2_with fail
  refine wp_loop_rounds 1 ?_
  rw [rounds_succ]
  go_wp2_with fail
  go_ret
  exact ⟨rfl, h1⟩
set_option maxRecDepth 100000 in
theorem over_nil25 (a b : Int) (n : Int) (w : World) : Calls Tryz.prog 7 #[.agg (cells25 a b), .int .i64 n] w fun e w' => e = .returned (.bool false) ∧ Below w.heap.size w w' := by
  go_enter Tryz.func7, Tryz.ntmps7
  go_wp2_with fail
  refine (basic_nil25 _).mono ?_
  rintro e w1 ⟨rfl, hb⟩
  have h1 : Below w.heap.size w w1 := ((Below.refl _ _).alloc (Nat.le_refl _) _).trans (hb.mono (by simp))
  go_wp2_with fail
  go_ret
  exact ⟨rfl, h1.alloc h1.size _⟩
set_option maxRecDepth 100000 in
theorem named_nil25 (a b : Int) (v : Value) (w : World) : Calls Tryz.prog 19 #[.agg (cells25 a b), v] w fun e w' => e = .returned (.bool true) ∧ Below w.heap.size w w' := by
  go_enter Tryz.func19, Tryz.ntmps19
  go_wp2_with fail
  refine (only_nil25 _).mono ?_
  rintro e w1 ⟨rfl, hb⟩
  have h1 : Below w.heap.size w w1 := ((Below.refl _ _).alloc (Nat.le_refl _) _).trans (hb.mono (by simp))
  go_wp2_with fail
  go_ret
  exact ⟨rfl, h1⟩
set_option maxRecDepth 100000 in
theorem gone_nil25 (a b a' b' : Int) (n : Int) (w : World) : Calls Tryz.prog 20 #[.agg (cells25 a b), .agg (cells25 a' b'), .slice none 0 0, .int .i64 n] w fun e w' => e = .returned (.bool false) ∧ Below w.heap.size w w' := by
  go_enter Tryz.func20, Tryz.ntmps20
  go_wp2_with fail
  refine (usable_nil25 _ _ _ _).mono ?_
  rintro e w1 ⟨rfl, hb⟩
  have h1 : Below w.heap.size w w1 := (((Below.refl _ _).alloc (Nat.le_refl _) _).alloc (by simp) _).trans (hb.mono (by simp; omega))
  go_wp2_with fail
  refine wp_loop_rounds 1 ?_
  rw [rounds_succ]
  go_wp2_with fail
  go_ret
  exact ⟨rfl, h1⟩
set_option maxRecDepth 100000 in
theorem known_any25 (w : World) : Calls Tryz.prog 9 #[] w fun e w' => e = .returned (.bool true) ∧ Below w.heap.size w w' := by
  go_enter Tryz.func9, Tryz.ntmps9
  go_wp2_with fail
  refine (holds_yes25 5 9 5 (by omega) (by omega) _).mono ?_
  rintro e w1 ⟨rfl, hb1⟩
  have hB1 := (Holds.fresh w 42 (cells25 5 9)).under hb1 (by simp)
  have h1 : Below w.heap.size w w1 := ((Below.refl _ _).alloc (Nat.le_refl _) _).trans (hb1.mono (by simp))
  have hc1 := hB1.cell
  go_wp2_with fail
  refine (holds_late25 5 9 10 (by omega) (by omega) _).mono ?_
  rintro e w2 ⟨rfl, hb2⟩
  have hB2 := hB1.under hb2 hB1.lt
  have h2 : Below w.heap.size w w2 := h1.trans (hb2.mono h1.size)
  have hc2 := hB2.cell
  clear hc1
  go_wp2_with fail
  refine (may_code25 5 9 _).mono ?_
  rintro e w3 ⟨rfl, hb3⟩
  have hB3 := hB2.under hb3 hB2.lt
  have h3 : Below w.heap.size w w3 := h2.trans (hb3.mono h2.size)
  have hc3 := hB3.cell
  clear hc2
  go_wp2_with fail
  refine (over_nil25 5 9 _ _).mono ?_
  rintro e w4 ⟨rfl, hb4⟩
  have hB4 := hB3.under hb4 hB3.lt
  have h4 : Below w.heap.size w w4 := h3.trans (hb4.mono h3.size)
  have hc4 := hB4.cell
  have hz4 := hB4.lt
  clear hc3
  go_wp2_with fail
  refine (named_nil25 5 9 _ _).mono ?_
  rintro e w5 ⟨rfl, hb5⟩
  have hB5 := (hB4.alloc _).under hb5 (by simp; omega)
  have h5 : Below w.heap.size w w5 := (h4.alloc h4.size _).trans (hb5.mono (by have := h4.size; simp; omega))
  have hc5 := hB5.cell
  clear hc4
  go_wp2_with fail
  refine (gone_nil25 5 9 5 9 _ _).mono ?_
  rintro e w6 ⟨rfl, hb6⟩
  have h6 : Below w.heap.size w w6 := h5.trans (hb6.mono h5.size)
  go_wp2_with fail
  go_ret
  exact ⟨rfl, h6⟩

end Go.Proofs.YtbkjjhpnjfdlbaaGreatDoor
