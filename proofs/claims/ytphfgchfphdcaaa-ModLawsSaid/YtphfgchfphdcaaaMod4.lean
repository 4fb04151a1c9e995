/-
  Edges, by hand.
-/
import Derived.Test.YtphfgchfphdcaaaMod3
namespace Go.Proofs.Ytphfgchfphdcaaa
open Go.RowKit
set_option linter.unusedVariables false

theorem lit_num (k : Nat) (h0 : 0 < k) (h : k < 4294967296) : NumIs [k] k :=
  ⟨fun x hx => by simp at hx; omega, .inr (by simp; omega), by simp [val]⟩
theorem lit_rd {w : World} {g : Nat} {k : Nat} (h : Row .u32 31 w g [k]) : Rd .u32 w w.heap.size (some ⟨g, 0, none⟩) 1 [k] :=
  (rd_whole (c := 1) h (by simp) (by omega)).more (Holds.lt h)
theorem size_lit (w : World) (o : Obj) : (w.alloc o).heap.size = w.heap.size + 1 := by
  first | rfl | exact Array.size_push .. | simp
/-- Numbers written out: one, two, three. -/
theorem lits1 (w : World) (z1 : Int) (k1 : Nat) (h1 : z1 = k1) : ∃ W, W = w.alloc (.cells #[.int .u32 z1] 31) ∧ Rd .u32 W W.heap.size (some ⟨w.heap.size, 0, none⟩) 1 [k1] ∧ Below w.heap.size w W := by
  subst h1
  exact ⟨_, rfl, lit_rd (Holds.fresh _ _ _), (Below.refl _ _).alloc (Nat.le_refl _) _⟩
theorem lits2 (w : World) (z1 z2 : Int) (k1 k2 : Nat) (h1 : z1 = k1) (h2 : z2 = k2) : ∃ W, W = (w.alloc (.cells #[.int .u32 z1] 31)).alloc (.cells #[.int .u32 z2] 31) ∧ Rd .u32 W W.heap.size (some ⟨w.heap.size, 0, none⟩) 1 [k1] ∧ Rd .u32 W W.heap.size (some ⟨w.heap.size + 1, 0, none⟩) 1 [k2] ∧ Below w.heap.size w W := by
  subst h2
  obtain ⟨W1, rfl, hr1, hb1⟩ := lits1 w z1 k1 h1
  have hb : Below (w.alloc (.cells #[.int .u32 z1] 31)).heap.size (w.alloc (.cells #[.int .u32 z1] 31)) ((w.alloc (.cells #[.int .u32 z1] 31)).alloc (.cells #[.int .u32 (k2 : Int)] 31)) := (Below.refl _ _).alloc (Nat.le_refl _) _
  refine ⟨_, rfl, rd_next hr1 (Nat.le_refl _) hb, ?_, hb1.trans (hb.mono hb1.size)⟩
  rw [← size_lit w (.cells #[.int .u32 z1] 31)]
  exact lit_rd (k := k2) (Holds.fresh (w.alloc (.cells #[.int .u32 z1] 31)) 31 (nums .u32 [k2]))
theorem lits3 (w : World) (z1 z2 z3 : Int) (k1 k2 k3 : Nat) (h1 : z1 = k1) (h2 : z2 = k2) (h3 : z3 = k3) : ∃ W, W = ((w.alloc (.cells #[.int .u32 z1] 31)).alloc (.cells #[.int .u32 z2] 31)).alloc (.cells #[.int .u32 z3] 31) ∧ Rd .u32 W W.heap.size (some ⟨w.heap.size, 0, none⟩) 1 [k1] ∧ Rd .u32 W W.heap.size (some ⟨w.heap.size + 1, 0, none⟩) 1 [k2] ∧ Rd .u32 W W.heap.size (some ⟨w.heap.size + 1 + 1, 0, none⟩) 1 [k3] ∧ Below w.heap.size w W := by
  subst h3
  obtain ⟨W1, rfl, hr1, hr2, hb1⟩ := lits2 w z1 z2 k1 k2 h1 h2
  have hb := (Below.refl _ ((w.alloc (.cells #[.int .u32 z1] 31)).alloc (.cells #[.int .u32 z2] 31))).alloc (Nat.le_refl _) (.cells #[.int .u32 (k3 : Int)] 31)
  refine ⟨_, rfl, rd_next hr1 (Nat.le_refl _) hb, rd_next hr2 (Nat.le_refl _) hb, ?_, hb1.trans (hb.mono hb1.size)⟩
  rw [← size_lit w (.cells #[.int .u32 z1] 31), ← size_lit (w.alloc (.cells #[.int .u32 z1] 31)) (.cells #[.int .u32 z2] 31)]
  exact lit_rd (k := k3) (Holds.fresh ((w.alloc (.cells #[.int .u32 z1] 31)).alloc (.cells #[.int .u32 z2] 31)) 31 (nums .u32 [k3]))
theorem lit_dg {k : Nat} (h : k < 4294967296) : Dg [k] := fun x hx => by simp at hx; omega
theorem lit_val (k : Nat) : val [k] = k := by simp [val]

set_option maxRecDepth 100000 in
theorem known8_any (w : World) : Calls Try.prog 16 #[] w fun e w' => e = .returned (.bool true) ∧ Below w.heap.size w w' := by
  go_enter Try.func16, Try.ntmps16
  go_wp2_with fail
  obtain ⟨W1, hW, hr1, hr2, hb1⟩ := lits2 w 3 7 3 7 rfl rfl
  rw [← hW]
  clear hW
  refine (inv_high W1 _ _ 1 1 [3] [7] hr1 hr2 (lit_dg (by omega)) (lit_dg (by omega)) (by simp) (by simp) (lit_num 7 (by omega) (by omega)).2.1 (by rw [lit_val]; omega)).mono ?_
  rintro e w2 (⟨hg, _⟩ | ⟨_, x, hx, hxm, A2, c2, r2, rfl, hn2, hf2, hb2⟩)
  · exfalso
    rw [lit_val, lit_val] at hg
    exact hg (by decide)
  rw [lit_val] at hx
  rw [lit_val, lit_val] at hxm
  obtain rfl : x = 5 := by omega
  obtain rfl := num_one (lit_num 5 (by omega) (by omega)) hn2
  have hr2 := hf2.rd
  have hb := hb1.trans (hb2.mono hb1.size)
  clear hf2 hb2 hb1 hr1 hn2 hx hxm
  go_wp2_with fail
  obtain ⟨W3, hW, hp1, hp2, hp3, hb3⟩ := lits3 w2 2 10 1000 2 10 1000 rfl rfl rfl
  rw [← hW]
  clear hW
  have hr2 := rd_next hr2 (Nat.le_refl _) hb3
  have hb := hb.trans (hb3.mono hb.size)
  refine (exp_yes W3 _ _ _ 1 1 1 [2] [10] [1000] hp1 hp2 hp3 (lit_dg (by omega)) (lit_dg (by omega)) (lit_dg (by omega)) (by simp) (by simp) (by simp) (by rw [lit_val]; omega)).mono ?_
  rintro e w4 ⟨A4, c4, r4, rfl, hn4, hf4, hb4⟩
  rw [lit_val, lit_val, lit_val] at hn4
  obtain rfl := num_one (lit_num 24 (by omega) (by omega)) hn4
  have hr4 := hf4.rd
  have hr2 := rd_next hr2 (Nat.le_refl _) hb4
  have hb := hb.trans (hb4.mono hb.size)
  clear hf4 hb4 hb3 hp1 hp2 hp3 hn4
  go_wp2_with fail
  obtain ⟨W5, hW, hp1, hb5⟩ := lits1 w4 5 5 rfl
  rw [← hW]
  clear hW
  have hr4 := rd_next hr4 (Nat.le_refl _) hb5
  have hr2 := rd_next hr2 (Nat.le_refl _) hb5
  have hb := hb.trans (hb5.mono hb.size)
  refine (same_one W5 _ _ A2 _ c2 1 [5] hr2 hp1).mono ?_
  rintro e w6 ⟨rfl, q, rfl⟩
  have hr4 := rd_drawn hr4 q
  have hb := below_drewN hb q
  clear hb5 hp1 hr2
  generalize W5.drewN q = w6 at *
  go_wp2_with fail
  obtain ⟨W7, hW, hp1, hb7⟩ := lits1 w6 24 24 rfl
  rw [← hW]
  clear hW
  have hr4 := rd_next hr4 (Nat.le_refl _) hb7
  have hb := hb.trans (hb7.mono hb.size)
  refine (same_one W7 _ _ A4 _ c4 1 [24] hr4 hp1).mono ?_
  rintro e w8 ⟨rfl, q, rfl⟩
  have hb := below_drewN hb q
  go_wp2_with fail
  go_ret
  exact ⟨rfl, hb⟩
end Go.Proofs.Ytphfgchfphdcaaa
