/-
  No times a point; the same point.
-/
import Derived.Test.YtjpoiecbjpipdaaDoorCv9
import Derived.Test.YtjpoiecbjpipdaaDoorCv11
import Derived.Test.YtjpoiecbjpipdaaDoorNat17
import Derived.Test.YtjpoiecbjpipdaaDoorRefB
namespace Go.Proofs.YtjpoiecbjpipdaaDoor
open Go.RowKit
set_option linter.unusedVariables false
set_option linter.unusedSimpArgs false

theorem set3 {w : World} {g : Nat} {t : TypeId} {a b c : Value} (h : Holds w g t #[a, b, c]) (p q r : Value) : Holds (((w.setCell ⟨g, 0, none⟩ p).setCell ⟨g, 1, none⟩ q).setCell ⟨g, 2, none⟩ r) g t #[p, q, r] :=
  ((h.stored 0 p).stored 1 q).stored 2 r
theorem below3 {B : Nat} {a w : World} (h : Below B a w) {g : Nat} (hg : B ≤ g) (p q r : Value) : Below B a (((w.setCell ⟨g, 0, none⟩ p).setCell ⟨g, 1, none⟩ q).setCell ⟨g, 2, none⟩ r) :=
  ((h.setCell (p := ⟨g, 0, none⟩) hg p).setCell (p := ⟨g, 1, none⟩) hg q).setCell (p := ⟨g, 2, none⟩) hg r
theorem eq_nought (W : World) : (Op.equalIn 10000 47 (.agg #[.int .u64 0, .int .u64 0, .int .u64 0, .int .u64 0]) (.agg #[.int .u64 0, .int .u64 0, .int .u64 0, .int .u64 0])).run Tryd.prog W = .ok true W :=
  eqN W (X := 0) (Y := 0) (Nat.lt_trans cP_pos cP_cR) (Nat.lt_trans cP_pos cP_cR) (x0 := 0) (x1 := 0) (x2 := 0) (x3 := 0) (y0 := 0) (y1 := 0) (y2 := 0) (y3 := 0) rfl rfl true rfl
set_option maxRecDepth 100000 in
set_option maxHeartbeats 2000000 in
theorem flat_nought (w : World) : Calls Tryd.prog 46 #[.agg #[.int .u64 0, .int .u64 0, .int .u64 0, .int .u64 0, .int .u64 0, .int .u64 0, .int .u64 0, .int .u64 0, .int .u64 0, .int .u64 0, .int .u64 0, .int .u64 0]] w fun e w' => e = .returned (.agg #[.slice none 0 0, .slice none 0 0, .bool true]) ∧ Below w.heap.size w w' := by
  have hE := eq_nought
  go_enter Tryd.func46, Tryd.ntmps46
  go_wp2_with fail
  generalize hw1 : w.alloc (.cells #[.int .u64 0, .int .u64 0, .int .u64 0, .int .u64 0, .int .u64 0, .int .u64 0, .int .u64 0, .int .u64 0, .int .u64 0, .int .u64 0, .int .u64 0, .int .u64 0] 60) = w1
  have hz1 : w1.heap.size = w.heap.size + 1 := by rw [← hw1]; simp
  have hb1 : Below w.heap.size w w1 := by rw [← hw1]; exact (Below.refl _ _).alloc (Nat.le_refl _) _
  exact ret_pt (g := w.heap.size + 1) rfl rfl (by rw [← hz1]; exact Holds.fresh w1 _ _) rfl ⟨rfl, hb1.alloc hb1.size _⟩
set_option maxRecDepth 100000 in
set_option maxHeartbeats 2000000 in
/-- The same point, by its digits. -/
theorem same_yes (w : World) (gx gy hx hy : Nat) (h1 : Rd .u32 w w.heap.size (some ⟨gx, 0, none⟩) 8 lX) (h2 : Rd .u32 w w.heap.size (some ⟨gy, 0, none⟩) 8 lY) (h3 : Rd .u32 w w.heap.size (some ⟨hx, 0, none⟩) 8 lX) (h4 : Rd .u32 w w.heap.size (some ⟨hy, 0, none⟩) 8 lY) :
    Calls Tryd.prog 18 #[.agg #[.slice (some ⟨gx, 0, none⟩) 8 8, .slice (some ⟨gy, 0, none⟩) 8 8, .bool false], .agg #[.slice (some ⟨hx, 0, none⟩) 8 8, .slice (some ⟨hy, 0, none⟩) 8 8, .bool false]] w fun e w' => e = .returned (.bool true) ∧ Below w.heap.size w w' := by
  go_enter Tryd.func18, Tryd.ntmps18
  go_wp2_with fail
  obtain ⟨w1, hw1⟩ : ∃ W, W = w.alloc (.cells #[.slice (some ⟨gx, 0, none⟩) 8 8, .slice (some ⟨gy, 0, none⟩) 8 8, .bool false] 25) := ⟨_, rfl⟩
  rw [← hw1]
  have hz1 : w1.heap.size = w.heap.size + 1 := by rw [hw1]; simp
  have hb1 : Below w.heap.size w w1 := by rw [hw1]; exact (Below.refl _ _).alloc (Nat.le_refl _) _
  have p1 : Holds w1 w.heap.size 25 #[.slice (some ⟨gx, 0, none⟩) 8 8, .slice (some ⟨gy, 0, none⟩) 8 8, .bool false] := by rw [hw1]; exact Holds.fresh w _ _
  obtain ⟨w2, hw2⟩ : ∃ W, W = w1.alloc (.cells #[.slice (some ⟨hx, 0, none⟩) 8 8, .slice (some ⟨hy, 0, none⟩) 8 8, .bool false] 25) := ⟨_, rfl⟩
  rw [← hw2]
  have hb2 : Below w.heap.size w w2 := by rw [hw2]; exact hb1.alloc hb1.size _
  have q1 : Holds w2 w.heap.size 25 #[.slice (some ⟨gx, 0, none⟩) 8 8, .slice (some ⟨gy, 0, none⟩) 8 8, .bool false] := by rw [hw2]; exact p1.alloc _
  have q2 : Holds w2 (w.heap.size + 1) 25 #[.slice (some ⟨hx, 0, none⟩) 8 8, .slice (some ⟨hy, 0, none⟩) 8 8, .bool false] := by rw [hw2, ← hz1]; exact Holds.fresh w1 _ _
  refine (eqn_yes w2 (some ⟨gx, 0, none⟩) (some ⟨hx, 0, none⟩) 8 8 _ _ lX (h1.under hb2) (h3.under hb2)).mono ?_
  rintro e w3 ⟨rfl, q, rfl⟩
  obtain ⟨w3, hw3⟩ : ∃ W, W = w2.drewN q := ⟨_, rfl⟩
  rw [← hw3]
  have r1 : Holds w3 w.heap.size 25 #[.slice (some ⟨gx, 0, none⟩) 8 8, .slice (some ⟨gy, 0, none⟩) 8 8, .bool false] := by rw [hw3]; exact q1
  have r2 : Holds w3 (w.heap.size + 1) 25 #[.slice (some ⟨hx, 0, none⟩) 8 8, .slice (some ⟨hy, 0, none⟩) 8 8, .bool false] := by rw [hw3]; exact q2
  have hb3 : Below w.heap.size w w3 := by rw [hw3]; exact bdN hb2 q
  have c1 : w3.cell? ⟨w.heap.size, 1, none⟩ = some (.slice (some ⟨gy, 0, none⟩) 8 8) := r1.cell 1
  have c2 : w3.cell? ⟨w.heap.size + 1, 1, none⟩ = some (.slice (some ⟨hy, 0, none⟩) 8 8) := r2.cell 1
  have HC := Lib.hid (eqn_yes w3 (some ⟨gy, 0, none⟩) (some ⟨hy, 0, none⟩) 8 8 _ _ lY (h2.under hb3) (h4.under hb3))
  have HB3 := Lib.hid hb3
  clear hw1 hz1 hb1 p1 hw2 hb2 q1 q2 hw3 r1 r2 hb3 h1 h2 h3 h4
  go_wp2_with fail
  refine HC.out.mono ?_
  rintro e w4 ⟨rfl, q, rfl⟩
  go_wp2_with fail
  go_ret
  exact ⟨rfl, bdN HB3.out q⟩
theorem g_on : ptOk lX lY false = true := by decide +kernel
set_option maxRecDepth 100000 in
set_option maxHeartbeats 4000000 in
theorem times_none (w : World) (hm : CMet w) (gx gy : Nat) (h1 : Rd .u32 w w.heap.size (some ⟨gx, 0, none⟩) 8 lX) (h2 : Rd .u32 w w.heap.size (some ⟨gy, 0, none⟩) 8 lY) :
    Calls Tryd.prog 20 #[.slice none 0 0, .agg #[.slice (some ⟨gx, 0, none⟩) 8 8, .slice (some ⟨gy, 0, none⟩) 8 8, .bool false]] w fun e w' => e = .returned (.agg #[.slice none 0 0, .slice none 0 0, .bool true]) ∧ Below w.heap.size w w' := by
  have HM := Lib.hid hm
  have H1 := Lib.hid h1
  have H2 := Lib.hid h2
  clear hm h1 h2
  go_enter Tryd.func20, Tryd.ntmps20
  go_wp2_with fail
  obtain ⟨w1, hw1⟩ : ∃ W, W = w.alloc (.cells #[.slice (some ⟨gx, 0, none⟩) 8 8, .slice (some ⟨gy, 0, none⟩) 8 8, .bool false] 25) := ⟨_, rfl⟩
  rw [← hw1]
  have hz1 : w1.heap.size = w.heap.size + 1 := by rw [hw1]; simp
  have hb1 : Below w.heap.size w w1 := by rw [hw1]; exact (Below.refl _ _).alloc (Nat.le_refl _) _
  obtain ⟨w2, hw2⟩ : ∃ W, W = w1.alloc (.cells #[.slice none 0 0, .slice none 0 0, .bool false] 25) := ⟨_, rfl⟩
  rw [← hw2]
  have hb2 : Below w.heap.size w w2 := by rw [hw2]; exact hb1.alloc hb1.size _
  have q2 : Holds w2 (w.heap.size + 1) 25 #[.slice none 0 0, .slice none 0 0, .bool false] := by rw [hw2, ← hz1]; exact Holds.fresh w1 _ _
  refine (curveIs_any w2 (HM.out.under hb2) (some ⟨gx, 0, none⟩) (some ⟨gy, 0, none⟩) 8 8 lX lY false ((H1.out.under hb2).more hb2.size) ((H2.out.under hb2).more hb2.size) lX_ok.1 lY_ok.1).mono ?_
  rintro e w3 ⟨rfl, hb3⟩
  rw [g_on]
  have HQ3 := Lib.hid (q2.under hb3 (Holds.lt q2))
  have HB3 := Lib.hid (hb2.trans (hb3.mono hb2.size))
  clear hw1 hz1 hb1 hw2 hb2 q2 hb3 HM H1 H2
  go_wp2_with fail
  refine (curveN_any w3).mono ?_
  rintro e w4 ⟨g, hg, rfl, hP, hb4⟩
  have HQ4 := Lib.hid (HQ3.out.under hb4 (Holds.lt HQ3.out))
  have HB4 := Lib.hid (HB3.out.trans (hb4.mono HB3.out.size))
  have HD := Lib.hid (div_any w4 w4.heap.size w4.heap.size none (some ⟨g, 0, none⟩) 0 8 [] lN (Rd.nil_ _ _ _) (Eight.rd hP rfl) (Nat.le_refl _) (Nat.le_refl _) (fun x hx => by cases hx) lN_ok.1 (by decide) (by decide) (by decide +kernel))
  clear hg hP hb4 HQ3 HB3
  go_wp2_with fail
  refine HD.out.mono ?_
  rintro e w5 ⟨A2, c2, qq, A3, c3, r, rfl, hnq, hnr, hfq, hfr, hb5⟩
  have hr0 : r = [] := List.eq_nil_of_length_eq_zero (nrm_nil hnr.1 hnr.2.1 (by rw [hnr.2.2]; exact Nat.zero_mod _))
  subst hr0
  have HB5 := Lib.hid (HB4.out.trans (hb5.mono HB4.out.size))
  have HQ5 := Lib.hid (HQ4.out.under hb5 (Holds.lt HQ4.out))
  have HR5 := Lib.hid hfr.1
  clear hnq hnr hfq hfr hb5 HB4 HQ4 HD
  go_wp2_with fail
  obtain ⟨w6, hw6⟩ : ∃ W, W = w5.alloc (.cells #[.int .u64 0, .int .u64 0, .int .u64 0, .int .u64 0, .int .u64 0, .int .u64 0, .int .u64 0, .int .u64 0, .int .u64 0, .int .u64 0, .int .u64 0, .int .u64 0] 60) := ⟨_, rfl⟩
  rw [← hw6]
  obtain ⟨s, hs⟩ : ∃ s, s = w5.heap.size := ⟨_, rfl⟩
  rw [← hs]
  have HS6 : Hid (Holds w6 s 60 #[.int .u64 0, .int .u64 0, .int .u64 0, .int .u64 0, .int .u64 0, .int .u64 0, .int .u64 0, .int .u64 0, .int .u64 0, .int .u64 0, .int .u64 0, .int .u64 0]) := Lib.hid (by rw [hw6, hs]; exact Holds.fresh w5 _ _)
  have HQ6 : Hid (Holds w6 (w.heap.size + 1) 25 #[.slice none 0 0, .slice none 0 0, .bool false]) := Lib.hid (by rw [hw6]; exact HQ5.out.alloc _)
  have HB6 : Hid (Below w.heap.size w w6) := Lib.hid (by rw [hw6]; exact HB5.out.alloc HB5.out.size _)
  have hr6 : Rd .u32 w6 w6.heap.size A3 c3 [] := by rw [hw6]; exact (HR5.out.alloc (Nat.le_refl _) _).more (by simp)
  refine (bits_any w6 _ A3 c3 0 [] hr6 rfl (fun x hx => by cases hx) (by decide) 0 rfl).mono ?_
  rintro e w7 ⟨rfl, rfl⟩
  have hwm : IntKind.i64.wrap (-1) = -1 := by decide
  obtain ⟨V, hV⟩ : ∃ V, V = w6 := ⟨_, rfl⟩
  clear hw6 hs hr6 HQ5 HB5 HR5
  go_wp2_with fail
  go_loopw [6] (fun i wr => i = .int .i64 (-1) ∧ wr = V) (fun _ _ => 0)
  case atStart => exact ⟨rfl, hV.symm⟩
  case round =>
    obtain ⟨rfl, rfl⟩ := hrel
    subst hV
    obtain ⟨s0, s1, s2, s3, s4, s5, s6, s7, s8, s9, sA, sB⟩ : wr.cell? ⟨s, 0, none⟩ = some (.int .u64 0) ∧ wr.cell? ⟨s, 1, none⟩ = some (.int .u64 0) ∧ wr.cell? ⟨s, 2, none⟩ = some (.int .u64 0) ∧ wr.cell? ⟨s, 3, none⟩ = some (.int .u64 0) ∧ wr.cell? ⟨s, 4, none⟩ = some (.int .u64 0) ∧ wr.cell? ⟨s, 5, none⟩ = some (.int .u64 0) ∧ wr.cell? ⟨s, 6, none⟩ = some (.int .u64 0) ∧ wr.cell? ⟨s, 7, none⟩ = some (.int .u64 0) ∧ wr.cell? ⟨s, 8, none⟩ = some (.int .u64 0) ∧ wr.cell? ⟨s, 9, none⟩ = some (.int .u64 0) ∧ wr.cell? ⟨s, 10, none⟩ = some (.int .u64 0) ∧ wr.cell? ⟨s, 11, none⟩ = some (.int .u64 0) :=
      ⟨HS6.out.cell 0, HS6.out.cell 1, HS6.out.cell 2, HS6.out.cell 3, HS6.out.cell 4, HS6.out.cell 5, HS6.out.cell 6, HS6.out.cell 7, HS6.out.cell 8, HS6.out.cell 9, HS6.out.cell 10, HS6.out.cell 11⟩
    go_wp2_with fail
    refine (flat_nought wr).mono ?_
    rintro e w8 ⟨rfl, hb8⟩
    have HQ8 := Lib.hid (HQ6.out.under hb8 (Holds.lt HQ6.out))
    have HB8 := Lib.hid (HB6.out.trans (hb8.mono HB6.out.size))
    clear hb8 HQ6 HB6 HS6 s0 s1 s2 s3 s4 s5 s6 s7 s8 s9 sA sB
    have z0 := HQ8.out.cell 0
    have z1 := HQ8.out.cell 1
    have z2 := HQ8.out.cell 2
    have o0 := HQ8.out.open_ 0
    have o1 := HQ8.out.open_ 1
    have o2 := HQ8.out.open_ 2
    go_wp2_with fail
    exact ret_pt (g := w.heap.size + 1) rfl rfl (set3 HQ8.out _ _ _) rfl ⟨rfl, below3 HB8.out (by omega) _ _ _⟩
end Go.Proofs.YtjpoiecbjpipdaaDoor
