/-
  The law of edges.
-/
import Derived.Test.YtphfgchfphdcaaaMod4
namespace Go.Proofs.Ytphfgchfphdcaaa
open Go.RowKit
set_option linter.unusedVariables false

set_option maxRecDepth 100000 in
theorem edge_0 (w : World) : Calls Try.prog 7 #[.int .i64 0] w fun e w' => e = .returned (.bool true) ∧ Below w.heap.size w w' := by
  go_enter Try.func7, Try.ntmps7
  go_wp2_with fail
  obtain ⟨W1, hW, hr7, hr1, hb⟩ := lits2 w 7 1 7 1 rfl rfl
  have hsz : W1.heap.size = w.heap.size + 1 + 1 := by rw [hW, size_lit, size_lit]
  rw [← hW]
  clear hW
  refine (addm_no W1 _ _ none 1 1 0 [1] [1] [] hr1 hr1 (Rd.nil_ _ _ _) (lit_dg (by omega)) (lit_dg (by omega)) (fun x hx => by cases hx) (by simp) (by simp) rfl).mono ?_
  rintro e w2 ⟨rfl, hbn⟩
  have hr7 := rd_next hr7 (Nat.le_refl _) hbn
  have hr1 := rd_next hr1 (Nat.le_refl _) hbn
  have hb := hb.trans (hbn.mono hb.size)
  clear hbn
  go_wp2_with fail
  refine (exp_no w2 _ _ none 1 1 0 [1] [1] [] hr1 (Rd.nil_ _ _ _) (fun x hx => by cases hx) rfl).mono ?_
  rintro e w3 ⟨rfl, hbn⟩
  have hr7 := rd_next hr7 (Nat.le_refl _) hbn
  have hr1 := rd_next hr1 (Nat.le_refl _) hbn
  have hb := hb.trans (hbn.mono hb.size)
  clear hbn
  go_wp2_with fail
  refine (known8_any _).mono ?_
  rintro e wk ⟨rfl, hbk⟩
  go_wp2_with fail
  go_ret
  exact ⟨rfl, hb.trans (hbk.mono hb.size)⟩

set_option maxRecDepth 100000 in
theorem edge_1 (w : World) : Calls Try.prog 7 #[.int .i64 1] w fun e w' => e = .returned (.bool true) ∧ Below w.heap.size w w' := by
  go_enter Try.func7, Try.ntmps7
  go_wp2_with fail
  obtain ⟨W1, hW, hr7, hr1, hb⟩ := lits2 w 7 1 7 1 rfl rfl
  have hsz : W1.heap.size = w.heap.size + 1 + 1 := by rw [hW, size_lit, size_lit]
  rw [← hW]
  clear hW
  refine (exp_yes W1 none none _ 0 0 1 [] [] [7] (Rd.nil_ _ _ _) (Rd.nil_ _ _ _) hr7 (fun x hx => by cases hx) (fun x hx => by cases hx) (lit_dg (by omega)) (by simp) (by simp) (by simp) (by rw [lit_val]; omega)).mono ?_
  rintro e w2 ⟨Ar2, cr2, r2, rfl, hnr2, hfr2, hbn⟩
  rw [lit_val] at hnr2
  obtain rfl := num_one (lit_num 1 (by omega) (by omega)) hnr2
  have hdr2 := hfr2.rd
  have hr7 := rd_next hr7 (Nat.le_refl _) hbn
  have hr1 := rd_next hr1 (Nat.le_refl _) hbn
  have hb := hb.trans (hbn.mono hb.size)
  clear hbn hfr2 hnr2
  go_wp2_with fail
  refine (exp_yes w2 _ none _ 1 0 1 [7] [] [1] hr7 (Rd.nil_ _ _ _) hr1 (lit_dg (by omega)) (fun x hx => by cases hx) (lit_dg (by omega)) (by simp) (by simp) (by simp) (by rw [lit_val]; omega)).mono ?_
  rintro e w3 ⟨Ar3, cr3, r3, rfl, hnr3, hfr3, hbn⟩
  rw [lit_val, lit_val] at hnr3
  obtain rfl := num_one num_nil hnr3
  have hdr3 := hfr3.rd
  have hr7 := rd_next hr7 (Nat.le_refl _) hbn
  have hr1 := rd_next hr1 (Nat.le_refl _) hbn
  have hdr2 := rd_next hdr2 (Nat.le_refl _) hbn
  have hb := hb.trans (hbn.mono hb.size)
  clear hbn hfr3 hnr3
  go_wp2_with fail
  refine (same_one w3 _ _ Ar2 _ cr2 1 [1] hdr2 hr1).mono ?_
  rintro e w4 ⟨rfl, q, rfl⟩
  have hr7 := rd_drawn hr7 q
  have hr1 := rd_drawn hr1 q
  have hdr2 := rd_drawn hdr2 q
  have hdr3 := rd_drawn hdr3 q
  have hb := below_drewN hb q
  generalize w3.drewN q = w4 at *
  go_wp2_with fail
  refine (known8_any _).mono ?_
  rintro e wk ⟨rfl, hbk⟩
  go_wp2_with fail
  go_ret
  exact ⟨rfl, hb.trans (hbk.mono hb.size)⟩

set_option maxRecDepth 100000 in
theorem edge_2 (w : World) : Calls Try.prog 7 #[.int .i64 2] w fun e w' => e = .returned (.bool true) ∧ Below w.heap.size w w' := by
  go_enter Try.func7, Try.ntmps7
  go_wp2_with fail
  obtain ⟨W1, hW, hr7, hr1, hb⟩ := lits2 w 7 1 7 1 rfl rfl
  have hsz : W1.heap.size = w.heap.size + 1 + 1 := by rw [hW, size_lit, size_lit]
  rw [← hW]
  clear hW
  obtain ⟨Lw2, hW, hl20, hl21, hbl⟩ := lits2 W1 2 20 2 20 rfl rfl
  rw [← hW]
  clear hW
  rw [hsz] at hl20 hl21
  have hr7 := rd_next hr7 (Nat.le_refl _) hbl
  have hr1 := rd_next hr1 (Nat.le_refl _) hbl
  have hb := hb.trans (hbl.mono hb.size)
  clear hbl
  refine (subm_yes Lw2 _ _ _ 1 1 1 [2] [20] [7] hl20 hl21 hr7 (lit_dg (by omega)) (lit_dg (by omega)) (lit_dg (by omega)) (by simp) (by simp) (by simp) (by rw [lit_val]; omega)).mono ?_
  rintro e w3 ⟨Ar3, cr3, r3, rfl, hnr3, hfr3, hbn⟩
  rw [lit_val, lit_val, lit_val] at hnr3
  obtain rfl := num_one (lit_num 3 (by omega) (by omega)) hnr3
  have hdr3 := hfr3.rd
  have hr7 := rd_next hr7 (Nat.le_refl _) hbn
  have hr1 := rd_next hr1 (Nat.le_refl _) hbn
  have hl20 := rd_next hl20 (Nat.le_refl _) hbn
  have hl21 := rd_next hl21 (Nat.le_refl _) hbn
  have hb := hb.trans (hbn.mono hb.size)
  clear hbn hfr3 hnr3
  go_wp2_with fail
  obtain ⟨Lw4, hW, hl40, hbl⟩ := lits1 w3 3 3 rfl
  rw [← hW]
  clear hW
  have hr7 := rd_next hr7 (Nat.le_refl _) hbl
  have hr1 := rd_next hr1 (Nat.le_refl _) hbl
  have hl20 := rd_next hl20 (Nat.le_refl _) hbl
  have hl21 := rd_next hl21 (Nat.le_refl _) hbl
  have hdr3 := rd_next hdr3 (Nat.le_refl _) hbl
  have hb := hb.trans (hbl.mono hb.size)
  clear hbl
  refine (same_one Lw4 _ _ Ar3 _ cr3 1 [3] hdr3 hl40).mono ?_
  rintro e w5 ⟨rfl, q, rfl⟩
  have hr7 := rd_drawn hr7 q
  have hr1 := rd_drawn hr1 q
  have hl20 := rd_drawn hl20 q
  have hl21 := rd_drawn hl21 q
  have hdr3 := rd_drawn hdr3 q
  have hl40 := rd_drawn hl40 q
  have hb := below_drewN hb q
  generalize Lw4.drewN q = w5 at *
  go_wp2_with fail
  refine (known8_any _).mono ?_
  rintro e wk ⟨rfl, hbk⟩
  go_wp2_with fail
  go_ret
  exact ⟨rfl, hb.trans (hbk.mono hb.size)⟩

set_option maxRecDepth 100000 in
theorem edge_3 (w : World) : Calls Try.prog 7 #[.int .i64 3] w fun e w' => e = .returned (.bool true) ∧ Below w.heap.size w w' := by
  go_enter Try.func7, Try.ntmps7
  go_wp2_with fail
  obtain ⟨W1, hW, hr7, hr1, hb⟩ := lits2 w 7 1 7 1 rfl rfl
  have hsz : W1.heap.size = w.heap.size + 1 + 1 := by rw [hW, size_lit, size_lit]
  rw [← hW]
  clear hW
  obtain ⟨Lw2, hW, hl20, hl21, hbl⟩ := lits2 W1 6 9 6 9 rfl rfl
  rw [← hW]
  clear hW
  rw [hsz] at hl20 hl21
  have hr7 := rd_next hr7 (Nat.le_refl _) hbl
  have hr1 := rd_next hr1 (Nat.le_refl _) hbl
  have hb := hb.trans (hbl.mono hb.size)
  clear hbl
  refine (inv_high Lw2 _ _ 1 1 [6] [9] hl20 hl21 (lit_dg (by omega)) (lit_dg (by omega)) (by simp) (by simp) (lit_num 9 (by omega) (by omega)).2.1 (by rw [lit_val]; omega)).mono ?_
  rintro e w3 (⟨_, rfl, hbn⟩ | ⟨hg, _⟩)
  rotate_left
  · exfalso
    revert hg
    decide
  have hr7 := rd_next hr7 (Nat.le_refl _) hbn
  have hr1 := rd_next hr1 (Nat.le_refl _) hbn
  have hl20 := rd_next hl20 (Nat.le_refl _) hbn
  have hl21 := rd_next hl21 (Nat.le_refl _) hbn
  have hb := hb.trans (hbn.mono hb.size)
  clear hbn
  go_wp2_with fail
  refine (inv_low w3 _ _ 1 1 [1] [1] hr1 hr1 (lit_dg (by omega)) (lit_dg (by omega)) (by rw [lit_val]; omega)).mono ?_
  rintro e w4 ⟨rfl, hbn⟩
  have hr7 := rd_next hr7 (Nat.le_refl _) hbn
  have hr1 := rd_next hr1 (Nat.le_refl _) hbn
  have hl20 := rd_next hl20 (Nat.le_refl _) hbn
  have hl21 := rd_next hl21 (Nat.le_refl _) hbn
  have hb := hb.trans (hbn.mono hb.size)
  clear hbn
  go_wp2_with fail
  refine (inv_high w4 none _ 0 1 [] [7] (Rd.nil_ _ _ _) hr7 (fun x hx => by cases hx) (lit_dg (by omega)) (by simp) (by simp) (lit_num 7 (by omega) (by omega)).2.1 (by rw [lit_val]; omega)).mono ?_
  rintro e w5 (⟨_, rfl, hbn⟩ | ⟨hg, _⟩)
  rotate_left
  · exfalso
    revert hg
    decide
  have hr7 := rd_next hr7 (Nat.le_refl _) hbn
  have hr1 := rd_next hr1 (Nat.le_refl _) hbn
  have hl20 := rd_next hl20 (Nat.le_refl _) hbn
  have hl21 := rd_next hl21 (Nat.le_refl _) hbn
  have hb := hb.trans (hbn.mono hb.size)
  clear hbn
  go_wp2_with fail
  refine (known8_any _).mono ?_
  rintro e wk ⟨rfl, hbk⟩
  go_wp2_with fail
  go_ret
  exact ⟨rfl, hb.trans (hbk.mono hb.size)⟩

set_option maxRecDepth 100000 in
theorem edge_4 (w : World) : Calls Try.prog 7 #[.int .i64 4] w fun e w' => e = .returned (.bool true) ∧ Below w.heap.size w w' := by
  go_enter Try.func7, Try.ntmps7
  go_wp2_with fail
  obtain ⟨W1, hW, hr7, hr1, hb⟩ := lits2 w 7 1 7 1 rfl rfl
  have hsz : W1.heap.size = w.heap.size + 1 + 1 := by rw [hW, size_lit, size_lit]
  rw [← hW]
  clear hW
  obtain ⟨Lw2, hW, hl20, hbl⟩ := lits1 W1 8 8 rfl
  rw [← hW]
  clear hW
  rw [hsz] at hl20
  have hr7 := rd_next hr7 (Nat.le_refl _) hbl
  have hr1 := rd_next hr1 (Nat.le_refl _) hbl
  have hb := hb.trans (hbl.mono hb.size)
  clear hbl
  refine (inv_high Lw2 _ _ 1 1 [8] [7] hl20 hr7 (lit_dg (by omega)) (lit_dg (by omega)) (by simp) (by simp) (lit_num 7 (by omega) (by omega)).2.1 (by rw [lit_val]; omega)).mono ?_
  rintro e w3 (⟨hg, _⟩ | ⟨_, x, hx, hxm, A2, c2, r2, rfl, hn2, hf2, hbn⟩)
  · exfalso
    revert hg
    decide
  rw [lit_val] at hx
  rw [lit_val, lit_val] at hxm
  obtain rfl : x = 1 := by omega
  obtain rfl := num_one (lit_num 1 (by omega) (by omega)) hn2
  have hr2 := hf2.rd
  have hr7 := rd_next hr7 (Nat.le_refl _) hbn
  have hr1 := rd_next hr1 (Nat.le_refl _) hbn
  have hl20 := rd_next hl20 (Nat.le_refl _) hbn
  have hb := hb.trans (hbn.mono hb.size)
  clear hbn hf2 hn2
  go_wp2_with fail
  refine (same_one w3 _ _ A2 _ c2 1 [1] hr2 hr1).mono ?_
  rintro e w4 ⟨rfl, q, rfl⟩
  have hr7 := rd_drawn hr7 q
  have hr1 := rd_drawn hr1 q
  have hl20 := rd_drawn hl20 q
  have hr2 := rd_drawn hr2 q
  have hb := below_drewN hb q
  generalize w3.drewN q = w4 at *
  go_wp2_with fail
  refine (known8_any _).mono ?_
  rintro e wk ⟨rfl, hbk⟩
  go_wp2_with fail
  go_ret
  exact ⟨rfl, hb.trans (hbk.mono hb.size)⟩

set_option maxRecDepth 100000 in
theorem law_edges (w : World) (n : Int) : Calls Try.prog 7 #[.int .i64 n] w fun e w' => e = .returned (.bool true) ∧ Below w.heap.size w w' := by
  by_cases h0 : n = 0
  · subst h0; exact edge_0 w
  by_cases h1 : n = 1
  · subst h1; exact edge_1 w
  by_cases h2 : n = 2
  · subst h2; exact edge_2 w
  by_cases h3 : n = 3
  · subst h3; exact edge_3 w
  by_cases h4 : n = 4
  · subst h4; exact edge_4 w
  have e0 : (n == 0) = false := by rw [beq_eq_false_iff_ne]; exact h0
  have e1 : (n == 1) = false := by rw [beq_eq_false_iff_ne]; exact h1
  have e2 : (n == 2) = false := by rw [beq_eq_false_iff_ne]; exact h2
  have e3 : (n == 3) = false := by rw [beq_eq_false_iff_ne]; exact h3
  have e4 : (n == 4) = false := by rw [beq_eq_false_iff_ne]; exact h4
  obtain ⟨W1, hW, hr7, hr1, hb⟩ := lits2 w 7 1 7 1 rfl rfl
  subst hW
  go_enter Try.func7, Try.ntmps7
  go_wp2_with fail
  go_ret
  exact ⟨rfl, hb⟩
end Go.Proofs.Ytphfgchfphdcaaa
