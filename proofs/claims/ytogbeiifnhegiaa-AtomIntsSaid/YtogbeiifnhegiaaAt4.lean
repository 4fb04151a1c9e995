/-
  A thing as a number: by the document.
-/
import Derived.Test.YtogbeiifnhegiaaAt3
namespace Go.Proofs.Ytogbeiifnhegiaa
open Go.RowKit
set_option linter.unusedVariables false
set_option linter.unusedSimpArgs false

theorem getD_oct {b : List Nat} (ho : ∀ y ∈ b, y < 256) (j : Nat) : b.getD j 0 < 256 := by
  rw [List.getD_eq_getElem?_getD]
  rcases h : b[j]? with _ | y
  · simp
  · exact ho y (List.mem_of_getElem? h)
/-- Bytes of one's own, read: where they lie, and each of them. -/
theorem Mine.cells_ {w : World} {B : Nat} {A : Option Addr} {c : Nat} {l : List Nat} (h : Mine 5 w B A c l) (h0 : 0 < l.length) : ∃ g off, A = some ⟨g, off, none⟩ ∧ g < w.heap.size ∧ ∀ j, j < l.length → w.cell? ⟨g, off + j, none⟩ = some (.int .u8 ((l.getD j 0 : Nat) : Int)) := h.rd.2.2 h0
def WholeOk (x kn : Nat) (b : List Nat) : Bool := heldOk x kn 2 && giOk b
set_option maxRecDepth 100000 in
set_option maxHeartbeats 4000000 in
theorem whole'_any (w : World) (x n c kn kc B : Nat) (A K : Option Addr) (b : List Nat) (hr : Rd .u8 w B A c b) (hn : b.length = n) (hB : B ≤ w.heap.size) (ho : ∀ y ∈ b, y < 256) (hmx : n ≤ 900000) :
    Calls Try.prog 20 #[.agg #[.int .u8 (x : Int), .slice A n c, .slice K kn kc]] w (HeldPost' w n b (WholeOk x kn b)) := by
  have hH := Holds.fresh w 29 #[.int .u8 (x : Int), .slice A n c, .slice K kn kc]
  have HB0 : Hid (Below w.heap.size w (w.alloc (.cells #[.int .u8 (x : Int), .slice A n c, .slice K kn kc] 29))) := Lib.hid ((Below.refl _ _).alloc (Nat.le_refl _) _)
  have c0 := hH.cell 0
  have c1 := hH.cell 1
  have c2 := hH.cell 2
  have HK := Lib.hid (held'_any (w.alloc (.cells #[.int .u8 (x : Int), .slice A n c, .slice K kn kc] 29)) x n c kn kc 2 B A K b (hr.under (HB0.out.mono hB)) hn (Nat.le_trans hB HB0.out.size) hmx)
  have HN := Lib.hid hn
  have HO := Lib.hid ho
  have hn0 : b.length = n := hn
  clear hr ho hn
  rcases hok : heldOk x kn 2 with _ | _
  case false =>
    have HW : Hid (WholeOk x kn b = false) := Lib.hid (by unfold WholeOk; rw [hok]; rfl)
    rw [hok] at HK
    rw [HW.out]
    clear hn0
    go_enter Try.func20, Try.ntmps20
    go_wp2_with fail
    refine HK.out.mono ?_
    rintro e w2 ⟨rfl, hb2⟩
    have HQ := Lib.hid (HB0.out.trans (hb2.mono HB0.out.size))
    clear hb2 HK
    go_wp2_with fail
    go_ret2
    exact ⟨rfl, HQ.out⟩
  have hw : WholeOk x kn b = giOk b := by unfold WholeOk; rw [hok]; rfl
  rw [hok] at HK
  rw [hw]
  have o0 := getD_oct HO.out 0
  have o1 := getD_oct HO.out 1
  by_cases h0 : n = 0
  case pos =>
    have hg : giOk b = false := by rw [← Bool.not_eq_true, giOk_iff]; omega
    rw [hg]
    subst h0
    clear hn0 hg hw
    go_enter Try.func20, Try.ntmps20
    go_wp2_with fail
    refine HK.out.mono ?_
    rintro e w2 ⟨A2, c2, rfl, hm2, hb2⟩
    have HQ := Lib.hid (HB0.out.trans (hb2.mono HB0.out.size))
    have HM := Lib.hid (hm2.less HB0.out.size)
    clear hm2 hb2 HK
    go_wp2_with fail
    go_ret2
    exact ⟨rfl, HQ.out⟩
  have d0 : decide ((n : Int) = 0) = false := decide_eq_false (by omega)
  have q0 : ((n : Int) == 0) = false := by simp; omega
  have hn1 : 1 ≤ n := by omega
  by_cases h2 : 128 ≤ b.getD 0 0
  case pos =>
    have hg : giOk b = false := by rw [← Bool.not_eq_true, giOk_iff]; omega
    have d2 : decide (128 ≤ ((b.getD 0 0 : Nat) : Int)) = true := decide_eq_true (by omega)
    rw [hg]
    clear hn0 hg hw
    go_enter Try.func20, Try.ntmps20
    go_wp2_with fail
    refine HK.out.mono ?_
    rintro e w2 ⟨A2, c2, rfl, hm2, hb2⟩
    have HQ := Lib.hid (HB0.out.trans (hb2.mono HB0.out.size))
    have HM := Lib.hid (hm2.less HB0.out.size)
    obtain ⟨g2, o2, rfl, hg2, hcs⟩ := Mine.cells_ hm2 (by rw [HN.out]; omega)
    have hnc2 : n ≤ c2 := by have := hm2.rd.1; rw [HN.out] at this; exact this
    have hc263 := hm2.rd.2.1
    have e0 : w2.cell? ⟨g2, o2, none⟩ = some (.int .u8 ((b.getD 0 0 : Nat) : Int)) := hcs 0 (by rw [HN.out]; omega)
    generalize b.getD 0 0 = y0 at *
    clear hcs hm2 hb2 HK
    go_wp2_with fail
    go_ret2
    exact ⟨rfl, HQ.out⟩
  have d2 : decide (128 ≤ ((b.getD 0 0 : Nat) : Int)) = false := decide_eq_false (by omega)
  by_cases h3 : n = 1
  case pos =>
    have hg : giOk b = true := by rw [giOk_iff]; omega
    have d3 : decide ((1 : Int) < (n : Int)) = false := decide_eq_false (by omega)
    rw [hg]
    clear hn0 hg hw h3 hmx
    go_enter Try.func20, Try.ntmps20
    go_wp2_with fail
    refine HK.out.mono ?_
    rintro e w2 ⟨A2, c2, rfl, hm2, hb2⟩
    have HQ := Lib.hid (HB0.out.trans (hb2.mono HB0.out.size))
    have HM := Lib.hid (hm2.less HB0.out.size)
    obtain ⟨g2, o2, rfl, hg2, hcs⟩ := Mine.cells_ hm2 (by rw [HN.out]; omega)
    have hnc2 : n ≤ c2 := by have := hm2.rd.1; rw [HN.out] at this; exact this
    have hc263 := hm2.rd.2.1
    have e0 : w2.cell? ⟨g2, o2, none⟩ = some (.int .u8 ((b.getD 0 0 : Nat) : Int)) := hcs 0 (by rw [HN.out]; omega)
    generalize b.getD 0 0 = y0 at *
    clear hcs hm2 hb2 HK
    go_wp2_with fail
    go_ret2
    exact ⟨_, _, rfl, HM.out, HQ.out⟩
  have d3 : decide ((1 : Int) < (n : Int)) = true := decide_eq_true (by omega)
  have hn2 : 2 ≤ n := by omega
  by_cases h4 : b.getD 0 0 = 0
  case neg =>
    have hg : giOk b = true := by rw [giOk_iff]; omega
    have d4 : decide (((b.getD 0 0 : Nat) : Int) = 0) = false := decide_eq_false (by omega)
    have q4 : (((b.getD 0 0 : Nat) : Int) == 0) = false := by rw [beq_eq_false_iff_ne]; omega
    rw [hg]
    clear hn0 hg hw
    go_enter Try.func20, Try.ntmps20
    go_wp2_with fail
    refine HK.out.mono ?_
    rintro e w2 ⟨A2, c2, rfl, hm2, hb2⟩
    have HQ := Lib.hid (HB0.out.trans (hb2.mono HB0.out.size))
    have HM := Lib.hid (hm2.less HB0.out.size)
    obtain ⟨g2, o2, rfl, hg2, hcs⟩ := Mine.cells_ hm2 (by rw [HN.out]; omega)
    have hnc2 : n ≤ c2 := by have := hm2.rd.1; rw [HN.out] at this; exact this
    have hc263 := hm2.rd.2.1
    have e0 : w2.cell? ⟨g2, o2, none⟩ = some (.int .u8 ((b.getD 0 0 : Nat) : Int)) := hcs 0 (by rw [HN.out]; omega)
    generalize b.getD 0 0 = y0 at *
    clear hcs hm2 hb2 HK
    go_wp2_with fail
    go_ret2
    exact ⟨_, _, rfl, HM.out, HQ.out⟩
  by_cases h5 : b.getD 1 0 < 128
  case pos =>
    have hg : giOk b = false := by rw [← Bool.not_eq_true, giOk_iff]; omega
    have d5 : decide (((b.getD 1 0 : Nat) : Int) < 128) = true := decide_eq_true (by omega)
    rw [hg]
    clear hn0 hg hw
    go_enter Try.func20, Try.ntmps20
    go_wp2_with fail
    refine HK.out.mono ?_
    rintro e w2 ⟨A2, c2, rfl, hm2, hb2⟩
    have HQ := Lib.hid (HB0.out.trans (hb2.mono HB0.out.size))
    have HM := Lib.hid (hm2.less HB0.out.size)
    obtain ⟨g2, o2, rfl, hg2, hcs⟩ := Mine.cells_ hm2 (by rw [HN.out]; omega)
    have hnc2 : n ≤ c2 := by have := hm2.rd.1; rw [HN.out] at this; exact this
    have hc263 := hm2.rd.2.1
    have e0 : w2.cell? ⟨g2, o2, none⟩ = some (.int .u8 ((b.getD 0 0 : Nat) : Int)) := hcs 0 (by rw [HN.out]; omega)
    have e1 := hcs 1 (by rw [HN.out]; omega)
    rw [h4] at e0 d2
    generalize b.getD 1 0 = y1 at *
    clear h4
    clear hcs hm2 hb2 HK
    go_wp2_with fail
    go_ret2
    exact ⟨rfl, HQ.out⟩
  have hg : giOk b = true := by rw [giOk_iff]; omega
  have d5 : decide (((b.getD 1 0 : Nat) : Int) < 128) = false := decide_eq_false (by omega)
  rw [hg]
  clear hn0 hg hw
  go_enter Try.func20, Try.ntmps20
  go_wp2_with fail
  refine HK.out.mono ?_
  rintro e w2 ⟨A2, c2, rfl, hm2, hb2⟩
  have HQ := Lib.hid (HB0.out.trans (hb2.mono HB0.out.size))
  have HM := Lib.hid (hm2.less HB0.out.size)
  obtain ⟨g2, o2, rfl, hg2, hcs⟩ := Mine.cells_ hm2 (by rw [HN.out]; omega)
  have hnc2 : n ≤ c2 := by have := hm2.rd.1; rw [HN.out] at this; exact this
  have hc263 := hm2.rd.2.1
  have e0 : w2.cell? ⟨g2, o2, none⟩ = some (.int .u8 ((b.getD 0 0 : Nat) : Int)) := hcs 0 (by rw [HN.out]; omega)
  have e1 := hcs 1 (by rw [HN.out]; omega)
  rw [h4] at e0 d2
  generalize b.getD 1 0 = y1 at *
  clear h4
  clear hcs hm2 hb2 HK
  go_wp2_with fail
  go_ret2
  exact ⟨_, _, rfl, HM.out, HQ.out⟩
set_option maxRecDepth 100000 in
set_option maxHeartbeats 4000000 in
theorem getInt'_any (w : World) (x n c kn kc B : Nat) (A K : Option Addr) (b : List Nat) (most : Int) (hr : Rd .u8 w B A c b) (hn : b.length = n) (hB : B ≤ w.heap.size) (ho : ∀ y ∈ b, y < 256) (hmx : n ≤ 900000) :
    Calls Try.prog 7 #[.agg #[.int .u8 (x : Int), .slice A n c, .slice K kn kc], .int .i64 most] w (GetIntPost w (if heldOk x kn 2 = true then gi' b most else none)) := by
  have hH := Holds.fresh w 29 #[.int .u8 (x : Int), .slice A n c, .slice K kn kc]
  have HB0 : Hid (Below w.heap.size w (w.alloc (.cells #[.int .u8 (x : Int), .slice A n c, .slice K kn kc] 29))) := Lib.hid ((Below.refl _ _).alloc (Nat.le_refl _) _)
  have c0 := hH.cell 0
  have c1 := hH.cell 1
  have c2 := hH.cell 2
  have HK := Lib.hid (whole'_any (w.alloc (.cells #[.int .u8 (x : Int), .slice A n c, .slice K kn kc] 29)) x n c kn kc B A K b (hr.under (HB0.out.mono hB)) hn (Nat.le_trans hB HB0.out.size) ho hmx)
  have HN := Lib.hid hn
  have HO := Lib.hid ho
  clear hr ho hn
  rcases hok : WholeOk x kn b with _ | _
  case false =>
    have HE : Hid ((if heldOk x kn 2 = true then gi' b most else none) = none) := Lib.hid (by
      by_cases h : heldOk x kn 2 = true
      · rw [if_pos h]
        exact if_neg fun hh => by unfold WholeOk at hok; rw [h, hh.1] at hok; cases hok
      · rw [if_neg h])
    rw [hok] at HK
    rw [HE.out]
    go_enter Try.func7, Try.ntmps7
    go_wp2_with fail
    refine HK.out.mono ?_
    rintro e w2 ⟨rfl, hb2⟩
    have HQ := Lib.hid (HB0.out.trans (hb2.mono HB0.out.size))
    clear hb2 HK
    go_wp2_with fail
    go_ret2
    exact ⟨rfl, HQ.out⟩
  rw [hok] at HK
  have hh : heldOk x kn 2 = true ∧ giOk b = true := by unfold WholeOk at hok; simpa using hok
  rw [if_pos hh.1]
  have hgi := giOk_iff.1 hh.2
  have hn1 : 1 ≤ n := by have := HN.out; omega
  by_cases h1 : most < (n : Int)
  case pos =>
    have HE : Hid (gi' b most = none) := Lib.hid (if_neg fun h => by have := h.2.1; have := HN.out; omega)
    have d1 : decide (most < (n : Int)) = true := decide_eq_true h1
    go_enter Try.func7, Try.ntmps7
    go_wp2_with fail
    refine HK.out.mono ?_
    rintro e w2 ⟨A2, c2, rfl, hm2, hb2⟩
    have HQ := Lib.hid (HB0.out.trans (hb2.mono HB0.out.size))
    clear hm2 hb2 HK
    go_wp2_with fail
    go_ret2
    rw [HE.out]
    exact ⟨rfl, HQ.out⟩
  have d1 : decide (most < (n : Int)) = false := decide_eq_false h1
  by_cases h2 : 1025 < n
  case pos =>
    have HE : Hid (gi' b most = none) := Lib.hid (if_neg fun h => by have := h.2.2; have := HN.out; omega)
    have d2 : decide ((1025 : Int) < (n : Int)) = true := decide_eq_true (by omega)
    go_enter Try.func7, Try.ntmps7
    go_wp2_with fail
    refine HK.out.mono ?_
    rintro e w2 ⟨A2, c2, rfl, hm2, hb2⟩
    have HQ := Lib.hid (HB0.out.trans (hb2.mono HB0.out.size))
    clear hm2 hb2 HK
    go_wp2_with fail
    go_ret2
    rw [HE.out]
    exact ⟨rfl, HQ.out⟩
  have d2 : decide ((1025 : Int) < (n : Int)) = false := decide_eq_false (by omega)
  have hE : gi' b most = some (numOf (if b.getD 0 0 = 0 then b.drop 1 else b)) := if_pos ⟨hh.2, by have := HN.out; omega, by have := HN.out; omega⟩
  by_cases h3 : b.getD 0 0 = 0
  case pos =>
    rw [if_pos h3] at hE
    have HE := Lib.hid hE
    have HL : Hid ((b.drop 1).length = n - 1) := Lib.hid (by rw [List.length_drop, HN.out])
    clear hE hgi hh
    go_enter Try.func7, Try.ntmps7
    go_wp2_with fail
    refine HK.out.mono ?_
    rintro e w2 ⟨A2, c2, rfl, hm2, hb2⟩
    have hq := HB0.out.trans (hb2.mono HB0.out.size)
    have HQ := Lib.hid hq
    have hnc2 : n ≤ c2 := by have := hm2.rd.1; rw [HN.out] at this; exact this
    have hc263 := hm2.rd.2.1
    have HRD := Lib.hid hm2.rd
    obtain ⟨g2, o2, rfl, hg2, hcs⟩ := Mine.cells_ hm2 (by rw [HN.out]; omega)
    have e0 : w2.cell? ⟨g2, o2, none⟩ = some (.int .u8 ((b.getD 0 0 : Nat) : Int)) := hcs 0 (by rw [HN.out]; omega)
    rw [h3] at e0
    obtain ⟨D, hD⟩ : ∃ D, D = dropA (some ⟨g2, o2, none⟩) 1 c2 := ⟨_, rfl⟩
    have hsl : (Instr.sliceAt 26 (.slice (some ⟨g2, o2, none⟩) n c2) (some (.int .i64 1)) none none).run Try.prog w2 = .ok (.slice (dropA (some ⟨g2, o2, none⟩) 1 c2) (n - 1) (c2 - 1)) w2 := run_drop w2 (some ⟨g2, o2, none⟩) n c2 1 hn1 hnc2
    have hrd1 := HRD.out.drop 1 (by rw [HN.out]; omega)
    rw [← hD] at hsl hrd1
    clear hD h3
    have HOF := Lib.hid (of'_at w2 w2.heap.size D (c2 - 1) (n - 1) (b.drop 1) HL.out hrd1 (Nat.le_refl _) (fun y hy => HO.out y (List.mem_of_mem_drop hy)))
    clear hcs hm2 hb2 HK hq
    go_wp2_with fail
    refine HOF.out.mono ?_
    rintro e w3 ⟨A3, c3, rfl, hf3, hb3⟩
    have HQ3 := Lib.hid (HQ.out.trans (hb3.mono HQ.out.size))
    have HF3 := Lib.hid hf3.1
    clear hb3 hf3 HOF
    generalize hll : (numOf (b.drop 1)).length = ll at *
    go_wp2_with fail
    go_ret2
    rw [HE.out]
    exact ⟨A3, c3, by subst hll; rfl, HF3.out, HQ3.out⟩
  case neg =>
    rw [if_neg h3] at hE
    have HE := Lib.hid hE
    have d3 : decide (((b.getD 0 0 : Nat) : Int) = 0) = false := decide_eq_false (by omega)
    have q3 : (((b.getD 0 0 : Nat) : Int) == 0) = false := by rw [beq_eq_false_iff_ne]; omega
    clear hE hgi hh
    go_enter Try.func7, Try.ntmps7
    go_wp2_with fail
    refine HK.out.mono ?_
    rintro e w2 ⟨A2, c2, rfl, hm2, hb2⟩
    have hq := HB0.out.trans (hb2.mono HB0.out.size)
    have HQ := Lib.hid hq
    have hnc2 : n ≤ c2 := by have := hm2.rd.1; rw [HN.out] at this; exact this
    have hc263 := hm2.rd.2.1
    have HRD := Lib.hid hm2.rd
    obtain ⟨g2, o2, rfl, hg2, hcs⟩ := Mine.cells_ hm2 (by rw [HN.out]; omega)
    have e0 : w2.cell? ⟨g2, o2, none⟩ = some (.int .u8 ((b.getD 0 0 : Nat) : Int)) := hcs 0 (by rw [HN.out]; omega)
    generalize b.getD 0 0 = y0 at *
    have HOF := Lib.hid (of'_at w2 w2.heap.size _ c2 n b HN.out HRD.out (Nat.le_refl _) HO.out)
    clear hcs hm2 hb2 HK hq
    go_wp2_with fail
    refine HOF.out.mono ?_
    rintro e w3 ⟨A3, c3, rfl, hf3, hb3⟩
    have HQ3 := Lib.hid (HQ.out.trans (hb3.mono HQ.out.size))
    have HF3 := Lib.hid hf3.1
    clear hb3 hf3 HOF
    generalize hll : (numOf b).length = ll at *
    go_wp2_with fail
    go_ret2
    rw [HE.out]
    exact ⟨A3, c3, by subst hll; rfl, HF3.out, HQ3.out⟩
end Go.Proofs.Ytogbeiifnhegiaa
