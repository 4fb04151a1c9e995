/-
  What the program answers of a certificate without extensions: the walks of ext and rule at no extensions.
-/
import Derived.Test.YtlgkcipioomldaaGreatDoorChecked
import Derived.WalkKit
import Derived.WalkSpells
import Derived.WalkLawsBesides
import Derived.Outline
import Derived.Test.YtlgkcipioomldaaGreatDoorMem
import Derived.Laws.IdiomStrings
namespace Go.Proofs.YtlgkcipioomldaaGreatDoor
open Go.RowKit

/-- Of no extensions none is odd. -/
theorem odd_nil (w : World) : Calls Tryz.prog 6 #[.slice none 0 0] w fun e w' => e = .returned (.bool false) ∧ w = w' := by
  go_enter Tryz.func6, Tryz.ntmps6
  go_wp2
  refine wp_loop_rounds 1 ?_
  rw [rounds_succ]
  go_wp2
  go_ret
  exact ⟨rfl, rfl⟩

theorem find_nil (w : World) (v : Value) : Calls Tryz.prog 27 #[.slice none 0 0, v] w fun e w' => e = .returned (.tuple #[.agg #[.slice none 0 0, .bool false, .slice none 0 0], .bool false]) ∧ Below w.heap.size w w' := by
  go_enter Tryz.func27, Tryz.ntmps27
  go_wp2
  refine wp_loop_rounds 1 ?_
  rw [rounds_succ]
  go_wp2
  exact bodyPost_ret (v := .tuple #[.agg #[.slice none 0 0, .bool false, .slice none 0 0], .bool false]) (by simp [results, Tryz.results27, go_sem]) rfl ⟨rfl, ((Below.refl _ _).alloc (Nat.le_refl _) _)⟩

theorem conv (s : ByteArray) : ∃ (cap : World → Nat) (o : World → Obj), ∀ W : World, (convert 9 31 (.string s)).run Tryz.prog W = .ok (.slice (some ⟨W.heap.size, 0, none⟩) s.size (cap W)) (W.drew.alloc (o W)) :=
  ⟨_, _, fun W => run_bytes_of_string (P := Tryz.prog) W 9 31 5 s Tryz.underlying9 Tryz.underlying31 Tryz.underlying5⟩

set_option maxRecDepth 100000 in
theorem value_nil (w : World) (s : ByteArray) : Calls Tryz.prog 16 #[.slice none 0 0, .string s] w fun e w' => e = .returned (.tuple #[.agg #[.int .u8 0, .slice none 0 0, .slice none 0 0], .bool false, .bool true]) ∧ Below w.heap.size w w' := by
  obtain ⟨cap, o, hcv⟩ := conv s
  go_enter Tryz.func16, Tryz.ntmps16
  go_wp2_with fail
  refine (find_nil _ _).mono ?_
  rintro e w1 ⟨rfl, hb⟩
  have hB := (((Holds.fresh w 60 #[.int .u8 0, .slice none 0 0, .slice none 0 0]).alloc (o (w.alloc (.cells #[.int .u8 0, .slice none 0 0, .slice none 0 0] 60)))).drew).under hb (by simp; omega)
  have hc := hB.cell
  have hf := hB.open_
  have hz := hB.lt
  have h1 : Below w.heap.size w w1 := (((Below.refl _ _).alloc (Nat.le_refl _) _).alloc (by simp) _).drew.trans (hb.mono (by simp; omega))
  go_wp2_with fail
  refine bodyPost_ret (v := .tuple #[.agg #[.int .u8 0, .slice none 0 0, .slice none 0 0], .bool false, .bool true]) (by simp [results, Tryz.results16, go_sem, hc, hz]) rfl ⟨rfl, ?_⟩
  repeat (first | exact h1 | refine Below.drew ?_ | refine Below.alloc ?_ (by have := h1.size; simp; omega) _ | refine Below.setCell ?_ (by simp) _)

set_option maxRecDepth 100000 in
theorem listed_nil (w : World) (s : ByteArray) (f : Value) : Calls Tryz.prog 19 #[.slice none 0 0, .string s, f] w fun e w' => e = .returned (.tuple #[.slice none 0 0, .bool false, .bool true]) ∧ Below w.heap.size w w' := by
  go_enter Tryz.func19, Tryz.ntmps19
  go_wp2_with fail
  refine (value_nil _ _).mono ?_
  rintro e w1 ⟨rfl, hb⟩
  go_wp2_with fail
  go_ret3
  exact ⟨rfl, hb.alloc hb.size _⟩
set_option maxRecDepth 100000 in
theorem listed2_nil (w : World) (s : ByteArray) (f : Value) : Calls Tryz.prog 21 #[.slice none 0 0, .string s, f] w fun e w' => e = .returned (.tuple #[.slice none 0 0, .bool false, .bool true]) ∧ Below w.heap.size w w' := by
  go_enter Tryz.func21, Tryz.ntmps21
  go_wp2_with fail
  refine (value_nil _ _).mono ?_
  rintro e w1 ⟨rfl, hb⟩
  go_wp2_with fail
  go_ret3
  exact ⟨rfl, hb.alloc hb.size _⟩
set_option maxRecDepth 100000 in
theorem uses_nil (w : World) : Calls Tryz.prog 9 #[.slice none 0 0] w fun e w' => e = .returned (.tuple #[.slice none 0 0, .bool false, .bool true]) ∧ Below w.heap.size w w' := by
  go_enter Tryz.func9, Tryz.ntmps9
  go_wp2_with fail
  refine (listed_nil _ _ _).mono ?_
  rintro e w1 ⟨rfl, hb⟩
  go_wp2_with fail
  go_ret3
  exact ⟨rfl, hb⟩
set_option maxRecDepth 100000 in
theorem only_nil (w : World) : Calls Tryz.prog 10 #[.slice none 0 0] w fun e w' => e = .returned (.tuple #[.slice none 0 0, .bool false, .bool true]) ∧ Below w.heap.size w w' := by
  go_enter Tryz.func10, Tryz.ntmps10
  go_wp2_with fail
  refine (listed2_nil _ _ _).mono ?_
  rintro e w1 ⟨rfl, hb⟩
  go_wp2_with fail
  go_ret3
  exact ⟨rfl, hb⟩
set_option maxRecDepth 100000 in
theorem basic_nil (w : World) : Calls Tryz.prog 7 #[.slice none 0 0] w fun e w' => e = .returned (.tuple #[.agg #[.bool false, .int .i64 (-1)], .bool true]) ∧ Below w.heap.size w w' := by
  go_enter Tryz.func7, Tryz.ntmps7
  go_wp2_with fail
  refine (value_nil _ _).mono ?_
  rintro e w1 ⟨rfl, hb⟩
  have hB := (Holds.fresh w 39 #[.bool false, .int .i64 0]).under hb (by simp)
  have hc := hB.cell
  have hf := hB.open_
  have hz := hB.lt
  have h1 : Below w.heap.size w w1 := ((Below.refl _ _).alloc (Nat.le_refl _) _).trans (hb.mono (by simp))
  go_wp2_with fail
  refine bodyPost_ret (v := .tuple #[.agg #[.bool false, .int .i64 (-1)], .bool true]) (by simp [results, Tryz.results7, go_sem, hc, hz]) rfl ⟨rfl, ?_⟩
  repeat (first | exact h1 | refine Below.drew ?_ | refine Below.alloc ?_ (by have := h1.size; simp; omega) _ | refine Below.setCell ?_ (by simp) _)
set_option maxRecDepth 100000 in
theorem usage_nil (w : World) : Calls Tryz.prog 8 #[.slice none 0 0] w fun e w' => e = .returned (.tuple #[.int .u8 0, .bool false, .bool true]) ∧ Below w.heap.size w w' := by
  go_enter Tryz.func8, Tryz.ntmps8
  go_wp2_with fail
  refine (value_nil _ _).mono ?_
  rintro e w1 ⟨rfl, hb⟩
  go_wp2_with fail
  go_ret3
  exact ⟨rfl, hb.alloc hb.size _⟩
end Go.Proofs.YtlgkcipioomldaaGreatDoor
