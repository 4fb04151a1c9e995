/-
  Rows that may not be, by hand (statement CrlOdd): too many at once; the law's walk.
-/
import Derived.Test.YtionikhhdfkhdaaDoorGn8
import Derived.Test.YtionikhhdfkhdaaDoorKids
import Derived.OwnWalk
namespace Go.Proofs.YtionikhhdfkhdaaDoor
open Go.RowKit
set_option linter.unusedVariables false
set_option linter.unusedSimpArgs false
attribute [local go_sem ↓] Go.wp_at_zero Go.wp_at_succ

set_option maxRecDepth 100000 in
set_option maxHeartbeats 8000000 in
theorem odd19_6 (w : World) (hT : Lib.Utf8Tabs 0 1 w) :
    Calls Tryd.prog 4 #[.int .i64 6] w fun e w' => e = .returned (.bool true) ∧ Below w.heap.size w w' := by
  have hI : Holds ((((((w.alloc (.cells #[.int .i64 3, .string ⟨#[98]⟩] 35)).alloc (.cells #[.int .u32 3] 36)).alloc (.cells #[.int .u32 4] 36)).alloc (.cells #[.slice (some ⟨w.heap.size + 1, 0, none⟩) 1 1, .int .i64 7, .slice (some ⟨w.heap.size + 1 + 1, 0, none⟩) 1 1, .int .i64 6] 38)).alloc (.cells #[.int .u8 0] 5)).alloc (.cells #[.slice (some ⟨w.heap.size, 0, none⟩) 1 1, .int .i64 5, .int .i64 9, .slice (some ⟨w.heap.size + 1 + 1 + 1, 0, none⟩) 2 2, .slice (some ⟨w.heap.size + 1 + 1 + 1 + 1, 0, none⟩) 1 1] 26)) w.heap.size 35 #[.int .i64 3, .string ⟨#[98]⟩] := by
    have h := Holds.fresh w 35 #[.int .i64 3, .string ⟨#[98]⟩]
    exact ((((h.alloc _).alloc _).alloc _).alloc _).alloc _
  have e1 : (w.alloc (.cells #[.int .i64 3, .string ⟨#[98]⟩] 35)).heap.size = w.heap.size + 1 := by simp
  have e2 : ((w.alloc (.cells #[.int .i64 3, .string ⟨#[98]⟩] 35)).alloc (.cells #[.int .u32 3] 36)).heap.size = w.heap.size + 1 + 1 := by simp
  have e3 : (((w.alloc (.cells #[.int .i64 3, .string ⟨#[98]⟩] 35)).alloc (.cells #[.int .u32 3] 36)).alloc (.cells #[.int .u32 4] 36)).heap.size = w.heap.size + 1 + 1 + 1 := by simp
  have e4 : ((((w.alloc (.cells #[.int .i64 3, .string ⟨#[98]⟩] 35)).alloc (.cells #[.int .u32 3] 36)).alloc (.cells #[.int .u32 4] 36)).alloc (.cells #[.slice (some ⟨w.heap.size + 1, 0, none⟩) 1 1, .int .i64 7, .slice (some ⟨w.heap.size + 1 + 1, 0, none⟩) 1 1, .int .i64 6] 38)).heap.size = w.heap.size + 1 + 1 + 1 + 1 := by simp
  have e5 : (((((w.alloc (.cells #[.int .i64 3, .string ⟨#[98]⟩] 35)).alloc (.cells #[.int .u32 3] 36)).alloc (.cells #[.int .u32 4] 36)).alloc (.cells #[.slice (some ⟨w.heap.size + 1, 0, none⟩) 1 1, .int .i64 7, .slice (some ⟨w.heap.size + 1 + 1, 0, none⟩) 1 1, .int .i64 6] 38)).alloc (.cells #[.int .u8 0] 5)).heap.size = w.heap.size + 1 + 1 + 1 + 1 + 1 := by simp
  have h3 : Holds ((((((w.alloc (.cells #[.int .i64 3, .string ⟨#[98]⟩] 35)).alloc (.cells #[.int .u32 3] 36)).alloc (.cells #[.int .u32 4] 36)).alloc (.cells #[.slice (some ⟨w.heap.size + 1, 0, none⟩) 1 1, .int .i64 7, .slice (some ⟨w.heap.size + 1 + 1, 0, none⟩) 1 1, .int .i64 6] 38)).alloc (.cells #[.int .u8 0] 5)).alloc (.cells #[.slice (some ⟨w.heap.size, 0, none⟩) 1 1, .int .i64 5, .int .i64 9, .slice (some ⟨w.heap.size + 1 + 1 + 1, 0, none⟩) 2 2, .slice (some ⟨w.heap.size + 1 + 1 + 1 + 1, 0, none⟩) 1 1] 26)) (w.heap.size + 1) 36 #[.int .u32 ((3 : Nat) : Int)] := by
    have h := Holds.fresh (w.alloc (.cells #[.int .i64 3, .string ⟨#[98]⟩] 35)) 36 #[.int .u32 3]
    rw [e1] at h
    exact (((h.alloc _).alloc _).alloc _).alloc _
  have h4 : Holds ((((((w.alloc (.cells #[.int .i64 3, .string ⟨#[98]⟩] 35)).alloc (.cells #[.int .u32 3] 36)).alloc (.cells #[.int .u32 4] 36)).alloc (.cells #[.slice (some ⟨w.heap.size + 1, 0, none⟩) 1 1, .int .i64 7, .slice (some ⟨w.heap.size + 1 + 1, 0, none⟩) 1 1, .int .i64 6] 38)).alloc (.cells #[.int .u8 0] 5)).alloc (.cells #[.slice (some ⟨w.heap.size, 0, none⟩) 1 1, .int .i64 5, .int .i64 9, .slice (some ⟨w.heap.size + 1 + 1 + 1, 0, none⟩) 2 2, .slice (some ⟨w.heap.size + 1 + 1 + 1 + 1, 0, none⟩) 1 1] 26)) (w.heap.size + 1 + 1) 36 #[.int .u32 ((4 : Nat) : Int)] := by
    have h := Holds.fresh ((w.alloc (.cells #[.int .i64 3, .string ⟨#[98]⟩] 35)).alloc (.cells #[.int .u32 3] 36)) 36 #[.int .u32 4]
    rw [e2] at h
    exact ((h.alloc _).alloc _).alloc _
  have hR : Holds ((((((w.alloc (.cells #[.int .i64 3, .string ⟨#[98]⟩] 35)).alloc (.cells #[.int .u32 3] 36)).alloc (.cells #[.int .u32 4] 36)).alloc (.cells #[.slice (some ⟨w.heap.size + 1, 0, none⟩) 1 1, .int .i64 7, .slice (some ⟨w.heap.size + 1 + 1, 0, none⟩) 1 1, .int .i64 6] 38)).alloc (.cells #[.int .u8 0] 5)).alloc (.cells #[.slice (some ⟨w.heap.size, 0, none⟩) 1 1, .int .i64 5, .int .i64 9, .slice (some ⟨w.heap.size + 1 + 1 + 1, 0, none⟩) 2 2, .slice (some ⟨w.heap.size + 1 + 1 + 1 + 1, 0, none⟩) 1 1] 26)) (w.heap.size + 1 + 1 + 1) 38 #[.slice (some ⟨w.heap.size + 1, 0, none⟩) 1 1, .int .i64 7, .slice (some ⟨w.heap.size + 1 + 1, 0, none⟩) 1 1, .int .i64 6] := by
    have h := Holds.fresh (((w.alloc (.cells #[.int .i64 3, .string ⟨#[98]⟩] 35)).alloc (.cells #[.int .u32 3] 36)).alloc (.cells #[.int .u32 4] 36)) 38 #[.slice (some ⟨w.heap.size + 1, 0, none⟩) 1 1, .int .i64 7, .slice (some ⟨w.heap.size + 1 + 1, 0, none⟩) 1 1, .int .i64 6]
    rw [e3] at h
    exact (h.alloc _).alloc _
  have hS : Holds ((((((w.alloc (.cells #[.int .i64 3, .string ⟨#[98]⟩] 35)).alloc (.cells #[.int .u32 3] 36)).alloc (.cells #[.int .u32 4] 36)).alloc (.cells #[.slice (some ⟨w.heap.size + 1, 0, none⟩) 1 1, .int .i64 7, .slice (some ⟨w.heap.size + 1 + 1, 0, none⟩) 1 1, .int .i64 6] 38)).alloc (.cells #[.int .u8 0] 5)).alloc (.cells #[.slice (some ⟨w.heap.size, 0, none⟩) 1 1, .int .i64 5, .int .i64 9, .slice (some ⟨w.heap.size + 1 + 1 + 1, 0, none⟩) 2 2, .slice (some ⟨w.heap.size + 1 + 1 + 1 + 1, 0, none⟩) 1 1] 26)) (w.heap.size + 1 + 1 + 1 + 1) 5 #[.int .u8 ((0 : Nat) : Int)] := by
    have h := Holds.fresh ((((w.alloc (.cells #[.int .i64 3, .string ⟨#[98]⟩] 35)).alloc (.cells #[.int .u32 3] 36)).alloc (.cells #[.int .u32 4] 36)).alloc (.cells #[.slice (some ⟨w.heap.size + 1, 0, none⟩) 1 1, .int .i64 7, .slice (some ⟨w.heap.size + 1 + 1, 0, none⟩) 1 1, .int .i64 6] 38)) 5 #[.int .u8 0]
    rw [e4] at h
    exact h.alloc _
  have hX : Holds ((((((w.alloc (.cells #[.int .i64 3, .string ⟨#[98]⟩] 35)).alloc (.cells #[.int .u32 3] 36)).alloc (.cells #[.int .u32 4] 36)).alloc (.cells #[.slice (some ⟨w.heap.size + 1, 0, none⟩) 1 1, .int .i64 7, .slice (some ⟨w.heap.size + 1 + 1, 0, none⟩) 1 1, .int .i64 6] 38)).alloc (.cells #[.int .u8 0] 5)).alloc (.cells #[.slice (some ⟨w.heap.size, 0, none⟩) 1 1, .int .i64 5, .int .i64 9, .slice (some ⟨w.heap.size + 1 + 1 + 1, 0, none⟩) 2 2, .slice (some ⟨w.heap.size + 1 + 1 + 1 + 1, 0, none⟩) 1 1] 26)) (w.heap.size + 1 + 1 + 1 + 1 + 1) 26 #[.slice (some ⟨w.heap.size, 0, none⟩) 1 1, .int .i64 5, .int .i64 9, .slice (some ⟨w.heap.size + 1 + 1 + 1, 0, none⟩) 2 2, .slice (some ⟨w.heap.size + 1 + 1 + 1 + 1, 0, none⟩) 1 1] := by
    have h := Holds.fresh (((((w.alloc (.cells #[.int .i64 3, .string ⟨#[98]⟩] 35)).alloc (.cells #[.int .u32 3] 36)).alloc (.cells #[.int .u32 4] 36)).alloc (.cells #[.slice (some ⟨w.heap.size + 1, 0, none⟩) 1 1, .int .i64 7, .slice (some ⟨w.heap.size + 1 + 1, 0, none⟩) 1 1, .int .i64 6] 38)).alloc (.cells #[.int .u8 0] 5)) 26 #[.slice (some ⟨w.heap.size, 0, none⟩) 1 1, .int .i64 5, .int .i64 9, .slice (some ⟨w.heap.size + 1 + 1 + 1, 0, none⟩) 2 2, .slice (some ⟨w.heap.size + 1 + 1 + 1 + 1, 0, none⟩) 1 1]
    rwa [e5] at h
  have hb : Below w.heap.size w ((((((w.alloc (.cells #[.int .i64 3, .string ⟨#[98]⟩] 35)).alloc (.cells #[.int .u32 3] 36)).alloc (.cells #[.int .u32 4] 36)).alloc (.cells #[.slice (some ⟨w.heap.size + 1, 0, none⟩) 1 1, .int .i64 7, .slice (some ⟨w.heap.size + 1 + 1, 0, none⟩) 1 1, .int .i64 6] 38)).alloc (.cells #[.int .u8 0] 5)).alloc (.cells #[.slice (some ⟨w.heap.size, 0, none⟩) 1 1, .int .i64 5, .int .i64 9, .slice (some ⟨w.heap.size + 1 + 1 + 1, 0, none⟩) 2 2, .slice (some ⟨w.heap.size + 1 + 1 + 1 + 1, 0, none⟩) 1 1] 26)) := ((((((Below.refl _ _).alloc (Nat.le_refl _) _).alloc (by rw [e1]; omega) _).alloc (by rw [e2]; omega) _).alloc (by rw [e3]; omega) _).alloc (by rw [e4]; omega) _).alloc (by rw [e5]; omega) _
  clear e1 e2 e3 e4 e5
  obtain ⟨V, hV⟩ : ∃ V, V = ((((((w.alloc (.cells #[.int .i64 3, .string ⟨#[98]⟩] 35)).alloc (.cells #[.int .u32 3] 36)).alloc (.cells #[.int .u32 4] 36)).alloc (.cells #[.slice (some ⟨w.heap.size + 1, 0, none⟩) 1 1, .int .i64 7, .slice (some ⟨w.heap.size + 1 + 1, 0, none⟩) 1 1, .int .i64 6] 38)).alloc (.cells #[.int .u8 0] 5)).alloc (.cells #[.slice (some ⟨w.heap.size, 0, none⟩) 1 1, .int .i64 5, .int .i64 9, .slice (some ⟨w.heap.size + 1 + 1 + 1, 0, none⟩) 2 2, .slice (some ⟨w.heap.size + 1 + 1 + 1 + 1, 0, none⟩) 1 1] 26)) := ⟨_, rfl⟩
  rw [← hV] at hI h3 h4 hR hS hX hb
  have hC : ClP ⟨(some ⟨w.heap.size, 0, none⟩), 1, [⟨3, ⟨#[98]⟩⟩], 5, 9, (some ⟨w.heap.size + 1 + 1 + 1, 0, none⟩), 2, [⟨(some ⟨w.heap.size + 1, 0, none⟩), 1, [3], 7⟩, ⟨(some ⟨w.heap.size + 1 + 1, 0, none⟩), 1, [4], 6⟩], (some ⟨w.heap.size + 1 + 1 + 1 + 1, 0, none⟩), 1, [0]⟩ V := ⟨rdA_lit hI, gs_lit hR rfl rfl (rd32_lit h3) (rd32_lit h4) (dg_one (by decide)) (dg_one (by decide)), rd8_lit hS, oct_lit⟩
  have his := crlIs_any V _ hC (Utf8Tabs_below hT hb) sz_lit
  rw [show crlOk (Cl.v ⟨(some ⟨w.heap.size, 0, none⟩), 1, [⟨3, ⟨#[98]⟩⟩], 5, 9, (some ⟨w.heap.size + 1 + 1 + 1, 0, none⟩), 2, [⟨(some ⟨w.heap.size + 1, 0, none⟩), 1, [3], 7⟩, ⟨(some ⟨w.heap.size + 1 + 1, 0, none⟩), 1, [4], 6⟩], (some ⟨w.heap.size + 1 + 1 + 1 + 1, 0, none⟩), 1, [0]⟩) = true from odd_first] at his
  have HIS : Hid (Calls Tryd.prog 11 #[.agg #[.slice (some ⟨w.heap.size, 0, none⟩) 1 1, .int .i64 5, .int .i64 9, .slice (some ⟨w.heap.size + 1 + 1 + 1, 0, none⟩) 2 2, .slice (some ⟨w.heap.size + 1 + 1 + 1 + 1, 0, none⟩) 1 1]] V fun e w' => e = .returned (.bool true) ∧ Below V.heap.size V w') := Lib.hid his
  have HT := Lib.hid hT
  have HB := Lib.hid hb
  have HI := Lib.hid hI
  have H3 := Lib.hid h3
  have H4 := Lib.hid h4
  have HR := Lib.hid hR
  have HS := Lib.hid hS
  have HX := Lib.hid hX
  have c0 := hX.cell 0
  have c1 := hX.cell 1
  have c2 := hX.cell 2
  have c3 := hX.cell 3
  have c4 := hX.cell 4
  rw [hV] at c0 c1 c2 c3 c4
  have HV := Lib.hid hV
  clear hC his hT hb hI h3 h4 hR hS hX hV
  go_enter Tryd.func4, Tryd.ntmps4
  go_wp2_with fail
  rw [← HV.out]
  refine HIS.out.mono ?_
  rintro e w1 ⟨rfl, hb1⟩
  have HB1 := Lib.hid (HB.out.trans (hb1.mono HB.out.size))
  have HI1 := Lib.hid (HI.out.under hb1 HI.out.lt)
  have H31 := Lib.hid (H3.out.under hb1 H3.out.lt)
  have H41 := Lib.hid (H4.out.under hb1 H4.out.lt)
  have HR1 := Lib.hid (HR.out.under hb1 HR.out.lt)
  have HS1 := Lib.hid (HS.out.under hb1 HS.out.lt)
  have HX1 := Lib.hid (HX.out.under hb1 HX.out.lt)
  clear c0 c1 c2 c3 c4 HV HIS HB HI H3 H4 HR HS HX hb1
  go_wp2_with fail
  go_loopw [4] (fun iv wr => ∃ (i : Nat) (A : Option Addr) (c : Nat) (l : List Gn), i ≤ 15 ∧ iv = .int .i64 (i : Int) ∧ l.length ≤ 17 ∧ Hid (l.length = i + 2) ∧ OwnV 38 2 wr A c l.length (l.flatMap gcell) ∧ Holds wr (w.heap.size + 1 + 1 + 1 + 1 + 1) 26 #[.slice (some ⟨w.heap.size, 0, none⟩) 1 1, .int .i64 5, .int .i64 9, .slice A l.length c, .slice (some ⟨w.heap.size + 1 + 1 + 1 + 1, 0, none⟩) 1 1] ∧
      Hid (∀ x ∈ l, Off ((w.heap.size + 1 + 1 + 1 + 1 + 1) :: bl A) (GnP x) wr) ∧ Hid (∀ g, blockOf A = some g → w.heap.size + 1 + 1 + 1 ≤ g ∧ g ≠ w.heap.size + 1 + 1 + 1 + 1 ∧ g ≠ w.heap.size + 1 + 1 + 1 + 1 + 1) ∧ Holds wr w.heap.size 35 #[.int .i64 3, .string ⟨#[98]⟩] ∧ Holds wr (w.heap.size + 1 + 1 + 1 + 1) 5 #[.int .u8 ((0 : Nat) : Int)] ∧ Below w.heap.size w wr) (fun iv _ => 15 - (intOf iv).toNat)
  case atStart =>
    have hG : GnP ⟨(some ⟨w.heap.size + 1, 0, none⟩), 1, [3], 7⟩ w1 := ⟨rd32_lit H31.out, dg_one (by decide)⟩
    refine ⟨0, (some ⟨w.heap.size + 1 + 1 + 1, 0, none⟩), 2, [⟨(some ⟨w.heap.size + 1, 0, none⟩), 1, [3], 7⟩, ⟨(some ⟨w.heap.size + 1 + 1, 0, none⟩), 1, [4], 6⟩], by omega, rfl, by simp, Lib.hid rfl, own_two (cs := [.slice (some ⟨w.heap.size + 1, 0, none⟩) 1 1, .int .i64 7, .slice (some ⟨w.heap.size + 1 + 1, 0, none⟩) 1 1, .int .i64 6]) HR1.out rfl, HX1.out, Lib.hid ?_, Lib.hid ?_, HI1.out, HS1.out, HB1.out⟩
    · intro x hx
      have ho : ∀ (g y : Nat) (t : Int), y < 4294967296 → Holds w1 g 36 #[.int .u32 (y : Int)] → g ∉ ((w.heap.size + 1 + 1 + 1 + 1 + 1) :: bl (some ⟨w.heap.size + 1 + 1 + 1, 0, none⟩)) → Off ((w.heap.size + 1 + 1 + 1 + 1 + 1) :: bl (some ⟨w.heap.size + 1 + 1 + 1, 0, none⟩)) (GnP ⟨some ⟨g, 0, none⟩, 1, [y], t⟩) w1 := fun g y t hy hh hg w' h2 h3 =>
        ⟨rd32_lit ((h3 g hg hh.lt).trans hh), dg_one hy⟩
      have hm : ∀ g, g < w.heap.size + 1 + 1 + 1 → g ∉ ((w.heap.size + 1 + 1 + 1 + 1 + 1) :: bl (some ⟨w.heap.size + 1 + 1 + 1, 0, none⟩)) := fun g hg hx => by
        rcases List.mem_cons.1 hx with h | h
        · omega
        · have h := mem_bl.1 h
          have : w.heap.size + 1 + 1 + 1 = g := by simpa [blockOf] using h
          omega
      simp only [List.mem_cons, List.not_mem_nil, or_false] at hx
      rcases hx with rfl | rfl
      · exact ho _ 3 7 (by decide) H31.out (hm _ (by omega))
      · exact ho _ 4 6 (by decide) H41.out (hm _ (by omega))
    · intro g hg
      have : w.heap.size + 1 + 1 + 1 = g := by simpa [blockOf] using hg
      omega
  case round =>
    obtain ⟨i, A, c, l, hi, rfl, hl17, HL, hO, hX, HE, HG, hI, hS, hB⟩ := hrel
    have HB := Lib.hid hB
    have HXB := Lib.hid hX
    have HO := Lib.hid hO
    have HIw := Lib.hid hI
    have HSw := Lib.hid hS
    by_cases hlt : i < 15
    · have k3 := hX.cell 3
      have hs5 := hX.lt
      have hwi : IntKind.u32.wrap ((i : Int) + 5) = (i : Int) + 5 := by
        simp [IntKind.wrap, IntKind.bits, IntKind.signed]
        try omega
      have hq1 : Below wr.heap.size wr (wr.alloc (.cells #[.int .u32 ((i : Int) + 5)] 36)) := (Below.refl _ _).alloc (Nat.le_refl _) _
      have hsz1 : (wr.alloc (.cells #[.int .u32 ((i : Int) + 5)] 36)).heap.size = wr.heap.size + 1 := by simp
      have hq2 : Below wr.heap.size wr ((wr.alloc (.cells #[.int .u32 ((i : Int) + 5)] 36)).alloc (.cells #[.slice (some ⟨wr.heap.size, 0, none⟩) 1 1, .int .i64 0] 38)) := hq1.alloc (by rw [hsz1]; omega) _
      have HQ2 := Lib.hid hq2
      have hfx : Holds ((wr.alloc (.cells #[.int .u32 ((i : Int) + 5)] 36)).alloc (.cells #[.slice (some ⟨wr.heap.size, 0, none⟩) 1 1, .int .i64 0] 38)) (wr.heap.size + 1) 38 [.slice (some ⟨wr.heap.size, 0, none⟩) 1 1, .int .i64 0].toArray := by
        have h := Holds.fresh (wr.alloc (.cells #[.int .u32 ((i : Int) + 5)] 36)) 38 #[.slice (some ⟨wr.heap.size, 0, none⟩) 1 1, .int .i64 0]
        rwa [hsz1] at h
      have HFX := Lib.hid hfx
      have HOW := Lib.hid (HO.out.keep fun g _ hg => hq2.block g hg)
      have HX2 := Lib.hid (HXB.out.under hq2 hs5)
      have HNE : Hid (some (w.heap.size + 1 + 1 + 1 + 1 + 1) ≠ blockOf A) := Lib.hid fun e => ((HG.out _ e.symm).2.2) rfl
      have HNN : Hid (Holds ((wr.alloc (.cells #[.int .u32 ((i : Int) + 5)] 36)).alloc (.cells #[.slice (some ⟨wr.heap.size, 0, none⟩) 1 1, .int .i64 0] 38)) wr.heap.size 36 #[.int .u32 (((i + 5 : Nat)) : Int)]) := Lib.hid (by
        have h := (Holds.fresh wr 36 #[.int .u32 ((i : Int) + 5)]).alloc (.cells #[.slice (some ⟨wr.heap.size, 0, none⟩) 1 1, .int .i64 0] 38)
        have e : (((i + 5 : Nat)) : Int) = (i : Int) + 5 := by omega
        rw [e]; exact h)
      clear hX hO hI hS hB hq1 hq2 hfx hsz1
      go_wp2_with (first | (at_builtin; refine wpList_pushV _ rfl (.tmp 55) (.tmp 61) 23 rfl 38 _ 2 32 Tryd.underlying23 info_gone rfl (by omega) (by omega) rfl HOW.out (cs := [.slice (some ⟨wr.heap.size, 0, none⟩) 1 1, .int .i64 0]) rfl rfl one2g HFX.out (by omega) ?_; intro g4 c4 W4 ho4 hg4 hat4 hlt4; have hx4 := HX2.out.grown hg4 HNE.out; have k4 := hx4.cell 3; have y4 := hx4.open_ 3))
      have hlen2 : (l ++ [(⟨some ⟨wr.heap.size, 0, none⟩, 1, [i + 5], 0⟩ : Gn)]).length = l.length + 1 := by simp
      have hne4 : g4 ≠ w.heap.size + 1 + 1 + 1 + 1 + 1 ∧ g4 ≠ w.heap.size + 1 + 1 + 1 + 1 ∧ w.heap.size + 1 + 1 + 1 ≤ g4 := by
        rcases hat4 with h | h
        · have := HG.out g4 h; omega
        · have := HQ2.out.size
          simp at h
          omega
      have hbelow : Below w.heap.size w W4 := by
        have h1 := HB.out.trans (HQ2.out.mono HB.out.size)
        exact below_own h1 hg4 (fun g hg => by have := (HG.out g hg).1; omega) (Nat.le_refl _)
      have hI4 : Holds W4 w.heap.size 35 #[.int .i64 3, .string ⟨#[98]⟩] := (HIw.out.under HQ2.out HIw.out.lt).grown hg4 (fun e => by have := (HG.out _ e.symm).1; omega)
      have hS4 : Holds W4 (w.heap.size + 1 + 1 + 1 + 1) 5 #[.int .u8 ((0 : Nat) : Int)] := (HSw.out.under HQ2.out HSw.out.lt).grown hg4 (fun e => (HG.out _ e.symm).2.1 rfl)
      have hE4 : ∀ x ∈ l ++ [(⟨some ⟨wr.heap.size, 0, none⟩, 1, [i + 5], 0⟩ : Gn)], Off ((w.heap.size + 1 + 1 + 1 + 1 + 1) :: bl (some ⟨g4, 0, none⟩)) (GnP x) W4 := fun x hx => by
        have hA1 : ∀ g, blockOf A = some g → g ∈ ((w.heap.size + 1 + 1 + 1 + 1 + 1) :: bl A) := fun g e => List.mem_cons.2 (.inr (mem_bl.2 e))
        have hy : ∀ g, g ∈ ((w.heap.size + 1 + 1 + 1 + 1 + 1) :: bl (some (⟨g4, 0, none⟩ : Addr))) → g ∈ ((w.heap.size + 1 + 1 + 1 + 1 + 1) :: bl A) ∨ ((wr.alloc (.cells #[.int .u32 ((i : Int) + 5)] 36)).alloc (.cells #[.slice (some ⟨wr.heap.size, 0, none⟩) 1 1, .int .i64 0] 38)).heap.size ≤ g := fun g hg => by
          rcases List.mem_cons.1 hg with h | h
          · exact .inl (List.mem_cons.2 (.inl h))
          · have e := mem_bl.1 h
            have e : g4 = g := by simpa [blockOf] using e
            subst e
            rcases hat4 with h2 | h2
            · exact .inl (hA1 _ h2)
            · exact .inr (by omega)
        rcases List.mem_append.1 hx with h | h
        · exact ((HE.out x h).under HQ2.out).push hg4 hA1 hy
        · rw [List.mem_singleton.1 h]
          have ho : Off ((w.heap.size + 1 + 1 + 1 + 1 + 1) :: bl A) (GnP ⟨some ⟨wr.heap.size, 0, none⟩, 1, [i + 5], 0⟩) ((wr.alloc (.cells #[.int .u32 ((i : Int) + 5)] 36)).alloc (.cells #[.slice (some ⟨wr.heap.size, 0, none⟩) 1 1, .int .i64 0] 38)) := fun w' h2 h3 =>
            ⟨rd32_lit ((h3 wr.heap.size (fun hm => by
              rcases List.mem_cons.1 hm with h | h
              · omega
              · have := HO.out.lt (mem_bl.1 h)
                omega) HNN.out.lt).trans HNN.out), dg_one (by omega)⟩
          exact ho.push hg4 hA1 hy
      have hO4 : OwnV 38 2 W4 (some ⟨g4, 0, none⟩) c4 (l ++ [(⟨some ⟨wr.heap.size, 0, none⟩, 1, [i + 5], 0⟩ : Gn)]).length ((l ++ [(⟨some ⟨wr.heap.size, 0, none⟩, 1, [i + 5], 0⟩ : Gn)]).flatMap gcell) := by
        rw [hlen2, List.flatMap_append]
        simpa [gcell] using ho4
      go_wp2_with fail
      go_roundw
      case rel =>
        refine ⟨i + 1, some ⟨g4, 0, none⟩, c4, l ++ [⟨some ⟨wr.heap.size, 0, none⟩, 1, [i + 5], 0⟩], by omega, by go_num, by rw [hlen2, HL.out]; omega, Lib.hid (by rw [hlen2, HL.out]), hO4.keep fun g hg _ => ?_, ?_, Lib.hid fun x hx => (hE4 x hx).store (List.mem_cons.2 (.inl rfl)) _, Lib.hid fun g hg => ?_, hI4.aside (by simp <;> omega) _, hS4.aside (by simp <;> omega) _, hbelow.setCell (by show w.heap.size ≤ w.heap.size + 1 + 1 + 1 + 1 + 1; omega) _⟩
        · have e : g4 = g := by simpa [blockOf] using hg
          exact Below.heap_setCell _ _ _ _ (fun h => hne4.1 (e.trans h))
        · rw [hlen2]; exact hx4.stored 3 _
        · have e : g4 = g := by simpa [blockOf] using hg
          omega
      case measure => simp [intOf]; omega
    · obtain rfl : i = 15 := by omega
      have SZ0 := sz_lit
      have hX2 : Holds wr (w.heap.size + 1 + 1 + 1 + 1 + 1) 26 #[.slice (some ⟨w.heap.size, 0, none⟩) 1 1, .int .i64 5, .int .i64 9, .slice A l.length c, .slice (some ⟨w.heap.size + 1 + 1 + 1 + 1, 0, none⟩) 1 1] := HXB.out
      have hC2 : ClP (⟨(some ⟨w.heap.size, 0, none⟩), 1, [⟨3, ⟨#[98]⟩⟩], 5, 9, A, c, l, (some ⟨w.heap.size + 1 + 1 + 1 + 1, 0, none⟩), 1, [0]⟩ : Cl) wr := ⟨rdA_lit HIw.out, ⟨RowG.of_own rfl HO.out, fun x hx => (HE.out x hx).at_⟩, rd8_lit HSw.out, oct_lit⟩
      have hB2 : Below w.heap.size w wr := HB.out
      have hno : crlOk (Cl.v (⟨(some ⟨w.heap.size, 0, none⟩), 1, [⟨3, ⟨#[98]⟩⟩], 5, 9, A, c, l, (some ⟨w.heap.size + 1 + 1 + 1 + 1, 0, none⟩), 1, [0]⟩ : Cl)) = false := odd_6 (by rw [List.length_map, HL.out])
      have hND := node_no wr (⟨(some ⟨w.heap.size, 0, none⟩), 1, [⟨3, ⟨#[98]⟩⟩], 5, 9, A, c, l, (some ⟨w.heap.size + 1 + 1 + 1 + 1, 0, none⟩), 1, [0]⟩ : Cl) hC2 (Utf8Tabs_below HT.out hB2) sz_lit hno
      have HND : Hid (Calls Tryd.prog 13 #[.agg #[.slice (some ⟨w.heap.size, 0, none⟩) 1 1, .int .i64 5, .int .i64 9, .slice A l.length c, .slice (some ⟨w.heap.size + 1 + 1 + 1 + 1, 0, none⟩) 1 1]] wr fun e w' => e = .returned (.agg #[.int .u8 0, .slice none 0 0, .slice none 0 0]) ∧ Below wr.heap.size wr w') := Lib.hid hND
      have HISN : Hid (∀ Z, Below wr.heap.size wr Z → Calls Tryd.prog 11 #[.agg #[.slice (some ⟨w.heap.size, 0, none⟩) 1 1, .int .i64 5, .int .i64 9, .slice A l.length c, .slice (some ⟨w.heap.size + 1 + 1 + 1 + 1, 0, none⟩) 1 1]] Z fun e w' => e = .returned (.bool false) ∧ Below Z.heap.size Z w') := Lib.hid fun Z hZ => by
        have h := crlIs_any Z (⟨(some ⟨w.heap.size, 0, none⟩), 1, [⟨3, ⟨#[98]⟩⟩], 5, 9, A, c, l, (some ⟨w.heap.size + 1 + 1 + 1 + 1, 0, none⟩), 1, [0]⟩ : Cl) ((Off.of_c hC2).under hZ).at_ (Utf8Tabs_below HT.out (hB2.trans (hZ.mono hB2.size))) sz_lit
        rw [hno] at h
        exact h
      have HDN : Hid (∀ Z, Below wr.heap.size wr Z → Calls Tryd.prog 14 #[.agg #[.slice (some ⟨w.heap.size, 0, none⟩) 1 1, .int .i64 5, .int .i64 9, .slice A l.length c, .slice (some ⟨w.heap.size + 1 + 1 + 1 + 1, 0, none⟩) 1 1]] Z fun e w' => e = .returned (.slice none 0 0) ∧ Below Z.heap.size Z w') := Lib.hid fun Z hZ =>
        digest_no Z (⟨(some ⟨w.heap.size, 0, none⟩), 1, [⟨3, ⟨#[98]⟩⟩], 5, 9, A, c, l, (some ⟨w.heap.size + 1 + 1 + 1 + 1, 0, none⟩), 1, [0]⟩ : Cl) ((Off.of_c hC2).under hZ).at_ (Utf8Tabs_below HT.out (hB2.trans (hZ.mono hB2.size))) sz_lit hno
      have HX2 := Lib.hid hX2
      have HB2 := Lib.hid hB2
      have c0 := hX2.cell 0
      have c1 := hX2.cell 1
      have c2 := hX2.cell 2
      have c3 := hX2.cell 3
      have c4 := hX2.cell 4
      clear hX2 hC2 hB2 hno hND
      go_wp2_with fail
      refine HND.out.mono ?_
      rintro e w3 ⟨rfl, hb3⟩
      have HB3 := Lib.hid hb3
      clear c0 c1 c2 c3 c4 hb3 HND
      go_wp2_with fail
      refine (get_none w3).mono ?_
      rintro e w4 ⟨rfl, hb4⟩
      have hq : Below w4.heap.size w4 (w4.alloc (.cells #[.slice none 0 0, .int .i64 0, .int .i64 0, .slice none 0 0, .slice none 0 0] 26)) := (Below.refl _ _).alloc (Nat.le_refl _) _
      have h34 := HB3.out.trans (hb4.mono HB3.out.size)
      have HB5 := Lib.hid (h34.trans (hq.mono h34.size))
      have hX5 := HX2.out.under HB5.out HX2.out.lt
      have c0 := hX5.cell 0
      have c1 := hX5.cell 1
      have c2 := hX5.cell 2
      have c3 := hX5.cell 3
      have c4 := hX5.cell 4
      have HI5 := Lib.hid (HISN.out _ HB5.out)
      clear hb4 hq h34 hX5 HISN
      go_wp2_with fail
      refine HI5.out.mono ?_
      rintro e w6 ⟨rfl, hb6⟩
      have HB6 := Lib.hid (HB5.out.trans (hb6.mono HB5.out.size))
      have hX6 := HX2.out.under HB6.out HX2.out.lt
      clear c0 c1 c2 c3 c4
      have c0 := hX6.cell 0
      have c1 := hX6.cell 1
      have c2 := hX6.cell 2
      have c3 := hX6.cell 3
      have c4 := hX6.cell 4
      have HD6 := Lib.hid (HDN.out _ HB6.out)
      clear hb6 hX6 HDN HI5
      go_wp2_with fail
      refine HD6.out.mono ?_
      rintro e w7 ⟨rfl, hb7⟩
      have HB7 := Lib.hid (HB2.out.trans ((HB6.out.trans (hb7.mono HB6.out.size)).mono HB2.out.size))
      have HK7 := Lib.hid (known19_any w7 (Utf8Tabs_below HT.out HB7.out))
      clear hb7 c0 c1 c2 c3 c4 HD6
      go_wp2_with fail
      refine HK7.out.mono ?_
      rintro e w8 ⟨rfl, hb8⟩
      have HB8 := Lib.hid (HB7.out.trans (hb8.mono HB7.out.size))
      clear hb8
      go_wp2_with fail
      go_ret
      exact ⟨rfl, HB8.out⟩
set_option maxRecDepth 100000 in
set_option maxHeartbeats 8000000 in
theorem odd19_rest (w : World) (hT : Lib.Utf8Tabs 0 1 w) (x : Int) (hne : x < 0 ∨ 6 < x) :
    Calls Tryd.prog 4 #[.int .i64 x] w fun e w' => e = .returned (.bool true) ∧ Below w.heap.size w w' := by
  have n0 : (x == 0) = false := by rw [beq_eq_false_iff_ne]; omega
  have n1 : (x == 1) = false := by rw [beq_eq_false_iff_ne]; omega
  have n2 : (x == 2) = false := by rw [beq_eq_false_iff_ne]; omega
  have n3 : (x == 3) = false := by rw [beq_eq_false_iff_ne]; omega
  have n4 : (x == 4) = false := by rw [beq_eq_false_iff_ne]; omega
  have n5 : (x == 5) = false := by rw [beq_eq_false_iff_ne]; omega
  have n6 : (x == 6) = false := by rw [beq_eq_false_iff_ne]; omega
  clear hne
  have hI : Holds ((((((w.alloc (.cells #[.int .i64 3, .string ⟨#[98]⟩] 35)).alloc (.cells #[.int .u32 3] 36)).alloc (.cells #[.int .u32 4] 36)).alloc (.cells #[.slice (some ⟨w.heap.size + 1, 0, none⟩) 1 1, .int .i64 7, .slice (some ⟨w.heap.size + 1 + 1, 0, none⟩) 1 1, .int .i64 6] 38)).alloc (.cells #[.int .u8 0] 5)).alloc (.cells #[.slice (some ⟨w.heap.size, 0, none⟩) 1 1, .int .i64 5, .int .i64 9, .slice (some ⟨w.heap.size + 1 + 1 + 1, 0, none⟩) 2 2, .slice (some ⟨w.heap.size + 1 + 1 + 1 + 1, 0, none⟩) 1 1] 26)) w.heap.size 35 #[.int .i64 3, .string ⟨#[98]⟩] := by
    have h := Holds.fresh w 35 #[.int .i64 3, .string ⟨#[98]⟩]
    exact ((((h.alloc _).alloc _).alloc _).alloc _).alloc _
  have e1 : (w.alloc (.cells #[.int .i64 3, .string ⟨#[98]⟩] 35)).heap.size = w.heap.size + 1 := by simp
  have e2 : ((w.alloc (.cells #[.int .i64 3, .string ⟨#[98]⟩] 35)).alloc (.cells #[.int .u32 3] 36)).heap.size = w.heap.size + 1 + 1 := by simp
  have e3 : (((w.alloc (.cells #[.int .i64 3, .string ⟨#[98]⟩] 35)).alloc (.cells #[.int .u32 3] 36)).alloc (.cells #[.int .u32 4] 36)).heap.size = w.heap.size + 1 + 1 + 1 := by simp
  have e4 : ((((w.alloc (.cells #[.int .i64 3, .string ⟨#[98]⟩] 35)).alloc (.cells #[.int .u32 3] 36)).alloc (.cells #[.int .u32 4] 36)).alloc (.cells #[.slice (some ⟨w.heap.size + 1, 0, none⟩) 1 1, .int .i64 7, .slice (some ⟨w.heap.size + 1 + 1, 0, none⟩) 1 1, .int .i64 6] 38)).heap.size = w.heap.size + 1 + 1 + 1 + 1 := by simp
  have e5 : (((((w.alloc (.cells #[.int .i64 3, .string ⟨#[98]⟩] 35)).alloc (.cells #[.int .u32 3] 36)).alloc (.cells #[.int .u32 4] 36)).alloc (.cells #[.slice (some ⟨w.heap.size + 1, 0, none⟩) 1 1, .int .i64 7, .slice (some ⟨w.heap.size + 1 + 1, 0, none⟩) 1 1, .int .i64 6] 38)).alloc (.cells #[.int .u8 0] 5)).heap.size = w.heap.size + 1 + 1 + 1 + 1 + 1 := by simp
  have h3 : Holds ((((((w.alloc (.cells #[.int .i64 3, .string ⟨#[98]⟩] 35)).alloc (.cells #[.int .u32 3] 36)).alloc (.cells #[.int .u32 4] 36)).alloc (.cells #[.slice (some ⟨w.heap.size + 1, 0, none⟩) 1 1, .int .i64 7, .slice (some ⟨w.heap.size + 1 + 1, 0, none⟩) 1 1, .int .i64 6] 38)).alloc (.cells #[.int .u8 0] 5)).alloc (.cells #[.slice (some ⟨w.heap.size, 0, none⟩) 1 1, .int .i64 5, .int .i64 9, .slice (some ⟨w.heap.size + 1 + 1 + 1, 0, none⟩) 2 2, .slice (some ⟨w.heap.size + 1 + 1 + 1 + 1, 0, none⟩) 1 1] 26)) (w.heap.size + 1) 36 #[.int .u32 ((3 : Nat) : Int)] := by
    have h := Holds.fresh (w.alloc (.cells #[.int .i64 3, .string ⟨#[98]⟩] 35)) 36 #[.int .u32 3]
    rw [e1] at h
    exact (((h.alloc _).alloc _).alloc _).alloc _
  have h4 : Holds ((((((w.alloc (.cells #[.int .i64 3, .string ⟨#[98]⟩] 35)).alloc (.cells #[.int .u32 3] 36)).alloc (.cells #[.int .u32 4] 36)).alloc (.cells #[.slice (some ⟨w.heap.size + 1, 0, none⟩) 1 1, .int .i64 7, .slice (some ⟨w.heap.size + 1 + 1, 0, none⟩) 1 1, .int .i64 6] 38)).alloc (.cells #[.int .u8 0] 5)).alloc (.cells #[.slice (some ⟨w.heap.size, 0, none⟩) 1 1, .int .i64 5, .int .i64 9, .slice (some ⟨w.heap.size + 1 + 1 + 1, 0, none⟩) 2 2, .slice (some ⟨w.heap.size + 1 + 1 + 1 + 1, 0, none⟩) 1 1] 26)) (w.heap.size + 1 + 1) 36 #[.int .u32 ((4 : Nat) : Int)] := by
    have h := Holds.fresh ((w.alloc (.cells #[.int .i64 3, .string ⟨#[98]⟩] 35)).alloc (.cells #[.int .u32 3] 36)) 36 #[.int .u32 4]
    rw [e2] at h
    exact ((h.alloc _).alloc _).alloc _
  have hR : Holds ((((((w.alloc (.cells #[.int .i64 3, .string ⟨#[98]⟩] 35)).alloc (.cells #[.int .u32 3] 36)).alloc (.cells #[.int .u32 4] 36)).alloc (.cells #[.slice (some ⟨w.heap.size + 1, 0, none⟩) 1 1, .int .i64 7, .slice (some ⟨w.heap.size + 1 + 1, 0, none⟩) 1 1, .int .i64 6] 38)).alloc (.cells #[.int .u8 0] 5)).alloc (.cells #[.slice (some ⟨w.heap.size, 0, none⟩) 1 1, .int .i64 5, .int .i64 9, .slice (some ⟨w.heap.size + 1 + 1 + 1, 0, none⟩) 2 2, .slice (some ⟨w.heap.size + 1 + 1 + 1 + 1, 0, none⟩) 1 1] 26)) (w.heap.size + 1 + 1 + 1) 38 #[.slice (some ⟨w.heap.size + 1, 0, none⟩) 1 1, .int .i64 7, .slice (some ⟨w.heap.size + 1 + 1, 0, none⟩) 1 1, .int .i64 6] := by
    have h := Holds.fresh (((w.alloc (.cells #[.int .i64 3, .string ⟨#[98]⟩] 35)).alloc (.cells #[.int .u32 3] 36)).alloc (.cells #[.int .u32 4] 36)) 38 #[.slice (some ⟨w.heap.size + 1, 0, none⟩) 1 1, .int .i64 7, .slice (some ⟨w.heap.size + 1 + 1, 0, none⟩) 1 1, .int .i64 6]
    rw [e3] at h
    exact (h.alloc _).alloc _
  have hS : Holds ((((((w.alloc (.cells #[.int .i64 3, .string ⟨#[98]⟩] 35)).alloc (.cells #[.int .u32 3] 36)).alloc (.cells #[.int .u32 4] 36)).alloc (.cells #[.slice (some ⟨w.heap.size + 1, 0, none⟩) 1 1, .int .i64 7, .slice (some ⟨w.heap.size + 1 + 1, 0, none⟩) 1 1, .int .i64 6] 38)).alloc (.cells #[.int .u8 0] 5)).alloc (.cells #[.slice (some ⟨w.heap.size, 0, none⟩) 1 1, .int .i64 5, .int .i64 9, .slice (some ⟨w.heap.size + 1 + 1 + 1, 0, none⟩) 2 2, .slice (some ⟨w.heap.size + 1 + 1 + 1 + 1, 0, none⟩) 1 1] 26)) (w.heap.size + 1 + 1 + 1 + 1) 5 #[.int .u8 ((0 : Nat) : Int)] := by
    have h := Holds.fresh ((((w.alloc (.cells #[.int .i64 3, .string ⟨#[98]⟩] 35)).alloc (.cells #[.int .u32 3] 36)).alloc (.cells #[.int .u32 4] 36)).alloc (.cells #[.slice (some ⟨w.heap.size + 1, 0, none⟩) 1 1, .int .i64 7, .slice (some ⟨w.heap.size + 1 + 1, 0, none⟩) 1 1, .int .i64 6] 38)) 5 #[.int .u8 0]
    rw [e4] at h
    exact h.alloc _
  have hX : Holds ((((((w.alloc (.cells #[.int .i64 3, .string ⟨#[98]⟩] 35)).alloc (.cells #[.int .u32 3] 36)).alloc (.cells #[.int .u32 4] 36)).alloc (.cells #[.slice (some ⟨w.heap.size + 1, 0, none⟩) 1 1, .int .i64 7, .slice (some ⟨w.heap.size + 1 + 1, 0, none⟩) 1 1, .int .i64 6] 38)).alloc (.cells #[.int .u8 0] 5)).alloc (.cells #[.slice (some ⟨w.heap.size, 0, none⟩) 1 1, .int .i64 5, .int .i64 9, .slice (some ⟨w.heap.size + 1 + 1 + 1, 0, none⟩) 2 2, .slice (some ⟨w.heap.size + 1 + 1 + 1 + 1, 0, none⟩) 1 1] 26)) (w.heap.size + 1 + 1 + 1 + 1 + 1) 26 #[.slice (some ⟨w.heap.size, 0, none⟩) 1 1, .int .i64 5, .int .i64 9, .slice (some ⟨w.heap.size + 1 + 1 + 1, 0, none⟩) 2 2, .slice (some ⟨w.heap.size + 1 + 1 + 1 + 1, 0, none⟩) 1 1] := by
    have h := Holds.fresh (((((w.alloc (.cells #[.int .i64 3, .string ⟨#[98]⟩] 35)).alloc (.cells #[.int .u32 3] 36)).alloc (.cells #[.int .u32 4] 36)).alloc (.cells #[.slice (some ⟨w.heap.size + 1, 0, none⟩) 1 1, .int .i64 7, .slice (some ⟨w.heap.size + 1 + 1, 0, none⟩) 1 1, .int .i64 6] 38)).alloc (.cells #[.int .u8 0] 5)) 26 #[.slice (some ⟨w.heap.size, 0, none⟩) 1 1, .int .i64 5, .int .i64 9, .slice (some ⟨w.heap.size + 1 + 1 + 1, 0, none⟩) 2 2, .slice (some ⟨w.heap.size + 1 + 1 + 1 + 1, 0, none⟩) 1 1]
    rwa [e5] at h
  have hb : Below w.heap.size w ((((((w.alloc (.cells #[.int .i64 3, .string ⟨#[98]⟩] 35)).alloc (.cells #[.int .u32 3] 36)).alloc (.cells #[.int .u32 4] 36)).alloc (.cells #[.slice (some ⟨w.heap.size + 1, 0, none⟩) 1 1, .int .i64 7, .slice (some ⟨w.heap.size + 1 + 1, 0, none⟩) 1 1, .int .i64 6] 38)).alloc (.cells #[.int .u8 0] 5)).alloc (.cells #[.slice (some ⟨w.heap.size, 0, none⟩) 1 1, .int .i64 5, .int .i64 9, .slice (some ⟨w.heap.size + 1 + 1 + 1, 0, none⟩) 2 2, .slice (some ⟨w.heap.size + 1 + 1 + 1 + 1, 0, none⟩) 1 1] 26)) := ((((((Below.refl _ _).alloc (Nat.le_refl _) _).alloc (by rw [e1]; omega) _).alloc (by rw [e2]; omega) _).alloc (by rw [e3]; omega) _).alloc (by rw [e4]; omega) _).alloc (by rw [e5]; omega) _
  clear e1 e2 e3 e4 e5
  obtain ⟨V, hV⟩ : ∃ V, V = ((((((w.alloc (.cells #[.int .i64 3, .string ⟨#[98]⟩] 35)).alloc (.cells #[.int .u32 3] 36)).alloc (.cells #[.int .u32 4] 36)).alloc (.cells #[.slice (some ⟨w.heap.size + 1, 0, none⟩) 1 1, .int .i64 7, .slice (some ⟨w.heap.size + 1 + 1, 0, none⟩) 1 1, .int .i64 6] 38)).alloc (.cells #[.int .u8 0] 5)).alloc (.cells #[.slice (some ⟨w.heap.size, 0, none⟩) 1 1, .int .i64 5, .int .i64 9, .slice (some ⟨w.heap.size + 1 + 1 + 1, 0, none⟩) 2 2, .slice (some ⟨w.heap.size + 1 + 1 + 1 + 1, 0, none⟩) 1 1] 26)) := ⟨_, rfl⟩
  rw [← hV] at hI h3 h4 hR hS hX hb
  have hC : ClP ⟨(some ⟨w.heap.size, 0, none⟩), 1, [⟨3, ⟨#[98]⟩⟩], 5, 9, (some ⟨w.heap.size + 1 + 1 + 1, 0, none⟩), 2, [⟨(some ⟨w.heap.size + 1, 0, none⟩), 1, [3], 7⟩, ⟨(some ⟨w.heap.size + 1 + 1, 0, none⟩), 1, [4], 6⟩], (some ⟨w.heap.size + 1 + 1 + 1 + 1, 0, none⟩), 1, [0]⟩ V := ⟨rdA_lit hI, gs_lit hR rfl rfl (rd32_lit h3) (rd32_lit h4) (dg_one (by decide)) (dg_one (by decide)), rd8_lit hS, oct_lit⟩
  have his := crlIs_any V _ hC (Utf8Tabs_below hT hb) sz_lit
  rw [show crlOk (Cl.v ⟨(some ⟨w.heap.size, 0, none⟩), 1, [⟨3, ⟨#[98]⟩⟩], 5, 9, (some ⟨w.heap.size + 1 + 1 + 1, 0, none⟩), 2, [⟨(some ⟨w.heap.size + 1, 0, none⟩), 1, [3], 7⟩, ⟨(some ⟨w.heap.size + 1 + 1, 0, none⟩), 1, [4], 6⟩], (some ⟨w.heap.size + 1 + 1 + 1 + 1, 0, none⟩), 1, [0]⟩) = true from odd_first] at his
  have HIS : Hid (Calls Tryd.prog 11 #[.agg #[.slice (some ⟨w.heap.size, 0, none⟩) 1 1, .int .i64 5, .int .i64 9, .slice (some ⟨w.heap.size + 1 + 1 + 1, 0, none⟩) 2 2, .slice (some ⟨w.heap.size + 1 + 1 + 1 + 1, 0, none⟩) 1 1]] V fun e w' => e = .returned (.bool true) ∧ Below V.heap.size V w') := Lib.hid his
  have HT := Lib.hid hT
  have HB := Lib.hid hb
  have HI := Lib.hid hI
  have H3 := Lib.hid h3
  have H4 := Lib.hid h4
  have HR := Lib.hid hR
  have HS := Lib.hid hS
  have HX := Lib.hid hX
  have c0 := hX.cell 0
  have c1 := hX.cell 1
  have c2 := hX.cell 2
  have c3 := hX.cell 3
  have c4 := hX.cell 4
  rw [hV] at c0 c1 c2 c3 c4
  have HV := Lib.hid hV
  clear hC his hT hb hI h3 h4 hR hS hX hV
  go_enter Tryd.func4, Tryd.ntmps4
  go_wp2_with fail
  rw [← HV.out]
  refine HIS.out.mono ?_
  rintro e w1 ⟨rfl, hb1⟩
  have HB1 := Lib.hid (HB.out.trans (hb1.mono HB.out.size))
  have HI1 := Lib.hid (HI.out.under hb1 HI.out.lt)
  have H31 := Lib.hid (H3.out.under hb1 H3.out.lt)
  have H41 := Lib.hid (H4.out.under hb1 H4.out.lt)
  have HR1 := Lib.hid (HR.out.under hb1 HR.out.lt)
  have HS1 := Lib.hid (HS.out.under hb1 HS.out.lt)
  have HX1 := Lib.hid (HX.out.under hb1 HX.out.lt)
  clear c0 c1 c2 c3 c4 HV HIS HB HI H3 H4 HR HS HX hb1
  go_wp2_with fail
  go_ret
  exact ⟨rfl, HB1.out⟩
theorem law_odd19 (w : World) (hT : Lib.Utf8Tabs 0 1 w) (x : Int) :
    Calls Tryd.prog 4 #[.int .i64 x] w fun e w' => e = .returned (.bool true) ∧ Below w.heap.size w w' := by
  by_cases h : x < 0 ∨ 6 < x
  · exact odd19_rest w hT x h
  · rcases (by omega : x = 0 ∨ x = 1 ∨ x = 2 ∨ x = 3 ∨ x = 4 ∨ x = 5 ∨ x = 6) with rfl | rfl | rfl | rfl | rfl | rfl | rfl
    · exact odd19_0 w hT
    · exact odd19_1 w hT
    · exact odd19_2 w hT
    · exact odd19_3 w hT
    · exact odd19_4 w hT
    · exact odd19_5 w hT
    · exact odd19_6 w hT
end Go.Proofs.YtionikhhdfkhdaaDoor
