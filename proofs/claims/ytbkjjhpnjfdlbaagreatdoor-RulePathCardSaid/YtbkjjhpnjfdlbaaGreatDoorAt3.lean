/-
  A thing as a number: by atom, and by the document.
-/
import Derived.Test.YtbkjjhpnjfdlbaaGreatDoorAt2
namespace Go.Proofs.YtbkjjhpnjfdlbaaGreatDoor
open Go.RowKit
set_option linter.unusedVariables false
set_option linter.unusedSimpArgs false

def GetIntPost (w : World) : Option (List Nat) → Ending → World → Prop
  | none, e, w' => e = .returned (.tuple #[.slice none 0 0, .bool false]) ∧ Below w.heap.size w w'
  | some l, e, w' => ∃ A c, e = .returned (.tuple #[.slice A l.length c, .bool true]) ∧ Rd .u32 w' w'.heap.size A c l ∧ Below w.heap.size w w'
theorem of_at (w : World) (B : Nat) (A : Option Addr) (c n : Nat) (l : List Nat) (hn : l.length = n) (hr : Rd .u8 w B A c l) (hB : B ≤ w.heap.size) (ho : ∀ x ∈ l, x < 256) :
    Calls Tryz.prog 77 #[.slice A n c] w fun e w' => ∃ A2 c2, e = .returned (.slice A2 (numOf l).length c2) ∧ Fresh .u32 36 w' w.heap.size A2 c2 (numOf l) ∧ Below w.heap.size w w' := by
  subst hn
  exact of_all w B A c l hr hB (oct_rev ho)
theorem gi_no {b : List Nat} {most : Int} (h : ¬ (giOk b = true ∧ (b.length : Int) ≤ most ∧ (strip b).length ≤ 1024)) : gi b most = none := if_neg h
theorem gi_yes {b : List Nat} {most : Int} (h1 : giOk b = true) (h2 : (b.length : Int) ≤ most) (h3 : (strip b).length ≤ 1024) : gi b most = some (numOf (strip b)) := if_pos ⟨h1, h2, h3⟩
theorem giOk_iff {b : List Nat} : giOk b = true ↔ 0 < b.length ∧ b.getD 0 0 < 128 ∧ ¬ (b.getD 0 0 = 0 ∧ 1 < b.length ∧ b.getD 1 0 < 128) := by
  unfold giOk
  simp only [Bool.and_eq_true, decide_eq_true_eq, Bool.not_eq_true', Bool.and_eq_false_iff, decide_eq_false_iff_not]
  omega
set_option maxRecDepth 100000 in
set_option maxHeartbeats 4000000 in
theorem getInt_any (w : World) (x n c kn kc B : Nat) (A K : Option Addr) (b : List Nat) (most : Int) (hr : Rd .u8 w B A c b) (hn : b.length = n) (hB : B ≤ w.heap.size) (ho : ∀ y ∈ b, y < 256) :
    Calls Tryz.prog 60 #[.agg #[.int .u8 (x : Int), .slice A n c, .slice K kn kc], .int .i64 most] w (GetIntPost w (if heldOk x kn 2 = true then gi b most else none)) := by
  have hH := Holds.fresh w 31 #[.int .u8 (x : Int), .slice A n c, .slice K kn kc]
  have HB0 : Hid (Below w.heap.size w (w.alloc (.cells #[.int .u8 (x : Int), .slice A n c, .slice K kn kc] 31))) := Lib.hid ((Below.refl _ _).alloc (Nat.le_refl _) _)
  have c0 := hH.cell 0
  have c1 := hH.cell 1
  have c2 := hH.cell 2
  have hlc : n ≤ c := by rw [← hn]; exact hr.1
  have hc63 := hr.2.1
  have HK := Lib.hid (held_any (w.alloc (.cells #[.int .u8 (x : Int), .slice A n c, .slice K kn kc] 31)) x n c kn kc 2 A K)
  have HR := Lib.hid hr
  have HN := Lib.hid hn
  have HO := Lib.hid ho
  clear hr hn ho
  rcases hok : heldOk x kn 2 with _ | _
  case false =>
    rw [hok] at HK
    go_enter Tryz.func60, Tryz.ntmps60
    go_wp2_with fail
    refine HK.out.mono ?_
    rintro e w2 ⟨rfl, hb2⟩
    have HQ := Lib.hid (HB0.out.trans (hb2.mono HB0.out.size))
    clear hb2 HK
    go_wp2_with fail
    go_ret2
    exact ⟨rfl, HQ.out⟩
  rw [hok] at HK
  rw [if_pos rfl]
  by_cases h0 : n = 0
  case pos =>
    have HE : Hid (gi b most = none) := Lib.hid (gi_no fun h => by have := (giOk_iff.1 h.1).1; have := HN.out; omega)
    subst h0
    go_enter Tryz.func60, Tryz.ntmps60
    go_wp2_with fail
    refine HK.out.mono ?_
    rintro e w2 ⟨rfl, hb2⟩
    have HQ := Lib.hid (HB0.out.trans (hb2.mono HB0.out.size))
    clear hb2 HK
    go_wp2_with fail
    go_ret2
    rw [HE.out]
    exact ⟨rfl, HQ.out⟩
  have d0 : decide ((n : Int) = 0) = false := decide_eq_false (by omega)
  have q0 : ((n : Int) == 0) = false := by simp; omega
  by_cases h1 : most < (n : Int)
  case pos =>
    have HE : Hid (gi b most = none) := Lib.hid (gi_no fun h => by have := h.2.1; have := HN.out; omega)
    have d1 : decide (most < (n : Int)) = true := decide_eq_true h1
    go_enter Tryz.func60, Tryz.ntmps60
    go_wp2_with fail
    refine HK.out.mono ?_
    rintro e w2 ⟨rfl, hb2⟩
    have HQ := Lib.hid (HB0.out.trans (hb2.mono HB0.out.size))
    clear hb2 HK
    go_wp2_with fail
    go_ret2
    rw [HE.out]
    exact ⟨rfl, HQ.out⟩
  have d1 : decide (most < (n : Int)) = false := decide_eq_false h1
  have hn1 : 1 ≤ n := by omega
  obtain ⟨k, off, rfl, hk, hcs⟩ := HR.out.2.2 (by rw [HN.out]; omega)
  have HC : Hid (∀ W, Below w.heap.size w W → ∀ j, j < n → W.cell? ⟨k, off + j, none⟩ = some (.int .u8 ((b.getD j 0 : Nat) : Int))) := Lib.hid fun W hW j hj => by
    rw [hW.cell (p := ⟨k, off + j, none⟩) (by show k < _; omega)]
    exact hcs j (by rw [HN.out]; exact hj)
  have h2561 : b.getD 0 0 < 256 := by
    rw [List.getD_eq_getElem?_getD]
    rcases h : b[0]? with _ | y
    · simp
    · exact HO.out y (List.mem_of_getElem? h)
  have h2562 : b.getD 1 0 < 256 := by
    rw [List.getD_eq_getElem?_getD]
    rcases h : b[1]? with _ | y
    · simp
    · exact HO.out y (List.mem_of_getElem? h)
  clear hcs
  by_cases h2 : 128 ≤ b.getD 0 0
  case pos =>
    have HE : Hid (gi b most = none) := Lib.hid (gi_no fun h => by have := (giOk_iff.1 h.1).2.1; omega)
    have d2 : decide (128 ≤ ((b.getD 0 0 : Nat) : Int)) = true := decide_eq_true (by omega)
    go_enter Tryz.func60, Tryz.ntmps60
    go_wp2_with fail
    refine HK.out.mono ?_
    rintro e w2 ⟨rfl, hb2⟩
    have hq := HB0.out.trans (hb2.mono HB0.out.size)
    have HQ := Lib.hid hq
    have e0 : w2.cell? ⟨k, off, none⟩ = some (.int .u8 ((b.getD 0 0 : Nat) : Int)) := HC.out _ hq 0 (by omega)
    generalize b.getD 0 0 = y0 at *
    clear hb2 HK hq
    go_wp2_with fail
    go_ret2
    rw [HE.out]
    exact ⟨rfl, HQ.out⟩
  have d2 : decide (128 ≤ ((b.getD 0 0 : Nat) : Int)) = false := decide_eq_false (by omega)
  by_cases h3 : b.getD 0 0 = 0 ∧ 1 < n
  case pos =>
    have hs3 : strip b = b.drop 1 := if_pos ⟨h3.1, by rw [HN.out]; exact h3.2⟩
    have h31 := h3.2
    have h30 := h3.1
    have d3 : decide ((1 : Int) < (n : Int)) = true := decide_eq_true (by omega)
    have HL : Hid ((b.drop 1).length = n - 1) := Lib.hid (by rw [List.length_drop, HN.out])
    have HRD : Hid (∀ W, Below w.heap.size w W → Rd .u8 W B (some ⟨k, off + 1, none⟩) (c - 1) (b.drop 1)) := Lib.hid fun W hW => by
      have h := (HR.out.under (hW.mono hB)).drop 1 (by rw [HN.out]; omega)
      unfold dropA at h
      rw [if_neg (by omega)] at h
      exact h
    have HSL : Hid (∀ W : World, (Instr.sliceAt 22 (.slice (some ⟨k, off, none⟩) n c) (some (.int .i64 1)) none none).run Tryz.prog W = .ok (.slice (some ⟨k, off + 1, none⟩) (n - 1) (c - 1)) W) := Lib.hid fun W => by
      have h := run_drop W (some ⟨k, off, none⟩) n c 1 (by omega) hlc
      unfold dropA at h
      rw [if_neg (by omega)] at h
      exact h
    have hnI : ((n - 1 : Nat) : Int) = (n : Int) - 1 := by omega
    have hm1 : 1 ≤ n - 1 := by omega
    have hmc : n - 1 ≤ c - 1 := by omega
    by_cases h4 : b.getD 1 0 < 128
    case pos =>
      have HE : Hid (gi b most = none) := Lib.hid (gi_no fun h => (giOk_iff.1 h.1).2.2 ⟨h30, by rw [HN.out]; exact h31, h4⟩)
      have d4 : decide (((b.getD 1 0 : Nat) : Int) < 128) = true := decide_eq_true (by omega)
      go_enter Tryz.func60, Tryz.ntmps60
      go_wp2_with fail
      refine HK.out.mono ?_
      rintro e w2 ⟨rfl, hb2⟩
      have hq := HB0.out.trans (hb2.mono HB0.out.size)
      have HQ := Lib.hid hq
      have e0 : w2.cell? ⟨k, off, none⟩ = some (.int .u8 ((b.getD 0 0 : Nat) : Int)) := HC.out _ hq 0 (by omega)
      have e1 : w2.cell? ⟨k, off + 1, none⟩ = some (.int .u8 ((b.getD 1 0 : Nat) : Int)) := HC.out _ hq 1 (by omega)
      have hsl := HSL.out w2
      rw [h30] at e0 d2
      generalize b.getD 1 0 = y1 at *
      clear hb2 HK hq h3 h30 hs3
      go_wp2_with fail
      go_ret2
      rw [HE.out]
      exact ⟨rfl, HQ.out⟩
    have d4 : decide (((b.getD 1 0 : Nat) : Int) < 128) = false := decide_eq_false (by omega)
    by_cases h5 : 1024 < n - 1
    case pos =>
      have HE : Hid (gi b most = none) := Lib.hid (gi_no fun h => by have := h.2.2; rw [hs3, HL.out] at this; omega)
      have d5 : decide ((1024 : Int) < ((n - 1 : Nat) : Int)) = true := decide_eq_true (by omega)
      go_enter Tryz.func60, Tryz.ntmps60
      go_wp2_with fail
      refine HK.out.mono ?_
      rintro e w2 ⟨rfl, hb2⟩
      have hq := HB0.out.trans (hb2.mono HB0.out.size)
      have HQ := Lib.hid hq
      have e0 : w2.cell? ⟨k, off, none⟩ = some (.int .u8 ((b.getD 0 0 : Nat) : Int)) := HC.out _ hq 0 (by omega)
      have e1 : w2.cell? ⟨k, off + 1, none⟩ = some (.int .u8 ((b.getD 1 0 : Nat) : Int)) := HC.out _ hq 1 (by omega)
      have hsl := HSL.out w2
      rw [h30] at e0 d2
      generalize b.getD 1 0 = y1 at *
      generalize n - 1 = m at *
      clear hb2 HK hq h3 h30 hs3 hnI
      go_wp2_with fail
      go_ret2
      rw [HE.out]
      exact ⟨rfl, HQ.out⟩
    have HE : Hid (gi b most = some (numOf (b.drop 1))) := Lib.hid (by
      have h := gi_yes (b := b) (most := most) (giOk_iff.2 ⟨by have := HN.out; omega, by omega, fun h => h4 h.2.2⟩) (by have := HN.out; omega) (by rw [hs3, HL.out]; omega)
      rw [hs3] at h
      exact h)
    have d5 : decide ((1024 : Int) < ((n - 1 : Nat) : Int)) = false := decide_eq_false (by omega)
    go_enter Tryz.func60, Tryz.ntmps60
    go_wp2_with fail
    refine HK.out.mono ?_
    rintro e w2 ⟨rfl, hb2⟩
    have hq := HB0.out.trans (hb2.mono HB0.out.size)
    have HQ := Lib.hid hq
    have e0 : w2.cell? ⟨k, off, none⟩ = some (.int .u8 ((b.getD 0 0 : Nat) : Int)) := HC.out _ hq 0 (by omega)
    have e1 : w2.cell? ⟨k, off + 1, none⟩ = some (.int .u8 ((b.getD 1 0 : Nat) : Int)) := HC.out _ hq 1 (by omega)
    have hsl := HSL.out w2
    have HOF := Lib.hid (of_at w2 B _ (c - 1) (n - 1) (b.drop 1) HL.out (HRD.out _ hq) (Nat.le_trans hB hq.size) (fun y hy => HO.out y (List.mem_of_mem_drop hy)))
    rw [h30] at e0 d2
    generalize b.getD 1 0 = y1 at *
    generalize n - 1 = m at *
    clear hb2 HK hq h3 h30 hs3 hnI
    go_wp2_with fail
    refine HOF.out.mono ?_
    rintro e w3 ⟨A3, c3, rfl, hf3, hb3⟩
    have HQ3 := Lib.hid (HQ.out.trans (hb3.mono HQ.out.size))
    have HF3 := Lib.hid hf3.1
    clear hb3 hf3 HOF
    generalize hll : (numOf (b.drop 1)).length = ll at *
    go_wp2_with fail
    go_ret2
    rw [HE.out]
    exact ⟨A3, c3, by subst hll; rfl, HF3.out, HQ3.out⟩
  case neg =>
    have hs3 : strip b = b := if_neg (by rw [HN.out]; exact h3)
    have ht : (decide (((b.getD 0 0 : Nat) : Int) = 0) && decide ((1 : Int) < (n : Int))) = false := by
      rw [Bool.and_eq_false_iff, decide_eq_false_iff_not, decide_eq_false_iff_not]
      omega
    by_cases h5 : 1024 < n
    case pos =>
      have HE : Hid (gi b most = none) := Lib.hid (gi_no fun h => by have := h.2.2; rw [hs3, HN.out] at this; omega)
      have d5 : decide ((1024 : Int) < (n : Int)) = true := decide_eq_true (by omega)
      have h6 : b.getD 0 0 ≠ 0 := fun h => h3 ⟨h, by omega⟩
      have d6 : decide (((b.getD 0 0 : Nat) : Int) = 0) = false := decide_eq_false (by omega)
      have q6 : (((b.getD 0 0 : Nat) : Int) == 0) = false := by rw [beq_eq_false_iff_ne]; omega
      go_enter Tryz.func60, Tryz.ntmps60
      go_wp2_with fail
      refine HK.out.mono ?_
      rintro e w2 ⟨rfl, hb2⟩
      have hq := HB0.out.trans (hb2.mono HB0.out.size)
      have HQ := Lib.hid hq
      have e0 : w2.cell? ⟨k, off, none⟩ = some (.int .u8 ((b.getD 0 0 : Nat) : Int)) := HC.out _ hq 0 (by omega)
      generalize b.getD 0 0 = y0 at *
      clear hb2 HK hq h3 hs3 ht
      go_wp2_with fail
      go_ret2
      rw [HE.out]
      exact ⟨rfl, HQ.out⟩
    have d5 : decide ((1024 : Int) < (n : Int)) = false := decide_eq_false (by omega)
    have HE : Hid (gi b most = some (numOf b)) := Lib.hid (by
      have h := gi_yes (b := b) (most := most) (giOk_iff.2 ⟨by have := HN.out; omega, by omega, fun h => h3 ⟨h.1, by have := h.2.1; have := HN.out; omega⟩⟩) (by have := HN.out; omega) (by rw [hs3, HN.out]; omega)
      rw [hs3] at h
      exact h)
    have HOF : Hid (∀ W, Below w.heap.size w W → Calls Tryz.prog 77 #[.slice (some ⟨k, off, none⟩) n c] W fun e w' => ∃ A2 c2, e = .returned (.slice A2 (numOf b).length c2) ∧ Fresh .u32 36 w' W.heap.size A2 c2 (numOf b) ∧ Below W.heap.size W w') := Lib.hid fun W hW => of_at W B _ c n b HN.out (HR.out.under (hW.mono hB)) (Nat.le_trans hB hW.size) HO.out
    by_cases h6 : b.getD 0 0 = 0
    case pos =>
      have h7 : n = 1 := by omega
      subst h7
      go_enter Tryz.func60, Tryz.ntmps60
      go_wp2_with fail
      refine HK.out.mono ?_
      rintro e w2 ⟨rfl, hb2⟩
      have hq := HB0.out.trans (hb2.mono HB0.out.size)
      have HQ := Lib.hid hq
      have e0 : w2.cell? ⟨k, off, none⟩ = some (.int .u8 ((b.getD 0 0 : Nat) : Int)) := HC.out _ hq 0 (by omega)
      rw [h6] at e0 d2
      have HOF2 := Lib.hid (HOF.out _ hq)
      clear hb2 HK hq h3 h6 hs3 ht
      go_wp2_with fail
      refine HOF2.out.mono ?_
      rintro e w3 ⟨A3, c3, rfl, hf3, hb3⟩
      have HQ3 := Lib.hid (HQ.out.trans (hb3.mono HQ.out.size))
      have HF3 := Lib.hid hf3.1
      clear hb3 hf3 HOF HOF2
      generalize hll : (numOf b).length = ll at *
      go_wp2_with fail
      go_ret2
      rw [HE.out]
      exact ⟨A3, c3, by subst hll; rfl, HF3.out, HQ3.out⟩
    case neg =>
      have d6 : decide (((b.getD 0 0 : Nat) : Int) = 0) = false := decide_eq_false (by omega)
      have q6 : (((b.getD 0 0 : Nat) : Int) == 0) = false := by rw [beq_eq_false_iff_ne]; omega
      go_enter Tryz.func60, Tryz.ntmps60
      go_wp2_with fail
      refine HK.out.mono ?_
      rintro e w2 ⟨rfl, hb2⟩
      have hq := HB0.out.trans (hb2.mono HB0.out.size)
      have HQ := Lib.hid hq
      have e0 : w2.cell? ⟨k, off, none⟩ = some (.int .u8 ((b.getD 0 0 : Nat) : Int)) := HC.out _ hq 0 (by omega)
      have HOF2 := Lib.hid (HOF.out _ hq)
      generalize b.getD 0 0 = y0 at *
      clear hb2 HK hq h3 hs3 ht
      go_wp2_with fail
      refine HOF2.out.mono ?_
      rintro e w3 ⟨A3, c3, rfl, hf3, hb3⟩
      have HQ3 := Lib.hid (HQ.out.trans (hb3.mono HQ.out.size))
      have HF3 := Lib.hid hf3.1
      clear hb3 hf3 HOF HOF2
      generalize hll : (numOf b).length = ll at *
      go_wp2_with fail
      go_ret2
      rw [HE.out]
      exact ⟨A3, c3, by subst hll; rfl, HF3.out, HQ3.out⟩
end Go.Proofs.YtbkjjhpnjfdlbaaGreatDoor
