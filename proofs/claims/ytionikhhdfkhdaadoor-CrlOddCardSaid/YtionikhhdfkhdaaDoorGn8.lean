/-
  Rows that may not be, by hand (statement CrlOdd): the law's walk.
-/
import Derived.Test.YtionikhhdfkhdaaDoorGn7
namespace Go.Proofs.YtionikhhdfkhdaaDoor
open Go.RowKit
set_option linter.unusedVariables false
set_option linter.unusedSimpArgs false
attribute [local go_sem ↓] Go.wp_at_zero Go.wp_at_succ

theorem rdA_lit {W : World} {g : Nat} (h : Holds W g 35 #[.int .i64 3, .string ⟨#[98]⟩]) : RdA W W.heap.size (some ⟨g, 0, none⟩) 1 [⟨3, ⟨#[98]⟩⟩] := by
  refine ⟨by simp, by omega, fun _ => ⟨g, 0, rfl, h.lt, fun j hj => ?_⟩⟩
  obtain rfl : j = 0 := by simp at hj; omega
  exact ⟨h.cell 0, h.cell 1⟩
theorem rd32_lit {W : World} {g x : Nat} (h : Holds W g 36 #[.int .u32 (x : Int)]) : Rd .u32 W W.heap.size (some ⟨g, 0, none⟩) 1 [x] := by
  refine ⟨by simp, by omega, fun _ => ⟨g, 0, rfl, h.lt, fun j hj => ?_⟩⟩
  obtain rfl : j = 0 := by simp at hj; omega
  exact h.cell 0
theorem rd8_lit {W : World} {g x : Nat} (h : Holds W g 5 #[.int .u8 (x : Int)]) : Rd .u8 W W.heap.size (some ⟨g, 0, none⟩) 1 [x] := by
  refine ⟨by simp, by omega, fun _ => ⟨g, 0, rfl, h.lt, fun j hj => ?_⟩⟩
  obtain rfl : j = 0 := by simp at hj; omega
  exact h.cell 0
theorem gs_lit {W : World} {g : Nat} {a1 a2 : Option Addr} {c1 c2 : Nat} {l1 l2 : List Nat} {t1 t2 : Int} {n1 n2 : Nat} (h : Holds W g 38 #[.slice a1 n1 c1, .int .i64 t1, .slice a2 n2 c2, .int .i64 t2]) (hn1 : l1.length = n1) (hn2 : l2.length = n2) (h1 : Rd .u32 W W.heap.size a1 c1 l1) (h2 : Rd .u32 W W.heap.size a2 c2 l2) (d1 : Dg l1) (d2 : Dg l2) :
    GsP (some ⟨g, 0, none⟩) 2 [⟨a1, c1, l1, t1⟩, ⟨a2, c2, l2, t2⟩] W := by
  subst hn1 hn2
  refine ⟨⟨by simp, by omega, fun _ => ⟨g, 0, rfl, h.lt, fun j hj => ?_⟩⟩, fun x hx => ?_⟩
  · have : j = 0 ∨ j = 1 := by simp at hj; omega
    rcases this with rfl | rfl
    · exact ⟨h.cell 0, h.cell 1⟩
    · exact ⟨h.cell 2, h.cell 3⟩
  · simp only [List.mem_cons, List.not_mem_nil, or_false] at hx
    rcases hx with rfl | rfl
    · exact ⟨h1, d1⟩
    · exact ⟨h2, d2⟩
theorem dg_nil : Dg [] := fun x hx => by cases hx
theorem own_two {W : World} {g : Nat} {cs : List Value} (h : Holds W g 38 cs.toArray) (hl : cs.length = 4) : OwnV 38 2 W (some ⟨g, 0, none⟩) 2 2 cs :=
  ⟨by simp [hl], .inr ⟨g, 2, cs.toArray, rfl, Nat.zero_le _, h, Nat.le_refl _, by unfold maxLen; omega, by simp [hl], by simp [hl, List.take_of_length_le (show cs.length ≤ 4 by omega)]⟩⟩
theorem sz_lit : ∀ x ∈ ([⟨3, ⟨#[98]⟩⟩] : List Att), (bts x.s).length ≤ 9223372036854775807 := fun x hx => by
  rw [List.mem_singleton.1 hx]; decide
theorem oct_lit : ∀ x ∈ [0], x < 256 := fun x hx => by rw [List.mem_singleton.1 hx]; decide
set_option maxRecDepth 100000 in
set_option maxHeartbeats 8000000 in
theorem odd19_0 (w : World) (hT : Lib.Utf8Tabs 0 1 w) :
    Calls Tryd.prog 4 #[.int .i64 0] w fun e w' => e = .returned (.bool true) ∧ Below w.heap.size w w' := by
  have hI : Holds ((((((w.alloc (.cells #[.int .i64 3, .string ⟨#[98]⟩] 35)).alloc (.cells #[.int .u32 3] 36)).alloc (.cells #[.int .u32 4] 36)).alloc (.cells #[.slice (some ⟨w.heap.size + 1, 0, none⟩) 1 1, .int .i64 7, .slice (some ⟨w.heap.size + 1 + 1, 0, none⟩) 1 1, .int .i64 6] 38)).alloc (.cells #[.int .u8 0] 5)).alloc (.cells #[.slice (some ⟨w.heap.size, 0, none⟩) 1 1, .int .i64 5, .int .i64 9, .slice (some ⟨w.heap.size + 1 + 1 + 1, 0, none⟩) 2 2, .slice (some ⟨w.heap.size + 1 + 1 + 1 + 1, 0, none⟩) 1 1] 26)) w.heap.size 35 #[.int .i64 3, .string ⟨#[98]⟩] := by
    have h := Holds.fresh w 35 #[.int .i64 3, .string ⟨#[98]⟩]
    exact ((((h.alloc _).alloc _).alloc _).alloc _).alloc _
  have e1 : (w.alloc (.cells #[.int .i64 3, .string ⟨#[98]⟩] 35)).heap.size = w.heap.size + 1 := by simp
  have e2 : ((w.alloc (.cells #[.int .i64 3, .string ⟨#[98]⟩] 35)).alloc (.cells #[.int .u32 3] 36)).heap.size = w.heap.size + 1 + 1 := by simp
  have e3 : (((w.alloc (.cells #[.int .i64 3, .string ⟨#[98]⟩] 35)).alloc (.cells #[.int .u32 3] 36)).alloc (.cells #[.int .u32 4] 36)).heap.size = w.heap.size + 1 + 1 + 1 := by simp
  have e4 : ((((w.alloc (.cells #[.int .i64 3, .string ⟨#[98]⟩] 35)).alloc (.cells #[.int .u32 3] 36)).alloc (.cells #[.int .u32 4] 36)).alloc (.cells #[.slice (some ⟨w.heap.size + 1, 0, none⟩) 1 1, .int .i64 7, .slice (some ⟨w.heap.size + 1 + 1, 0, none⟩) 1 1, .int .i64 6] 38)).heap.size = w.heap.size + 1 + 1 + 1 + 1 := by simp
  have e5 : (((((w.alloc (.cells #[.int .i64 3, .string ⟨#[98]⟩] 35)).alloc (.cells #[.int .u32 3] 36)).alloc (.cells #[.int .u32 4] 36)).alloc (.cells #[.slice (some ⟨w.heap.size + 1, 0, none⟩) 1 1, .int .i64 7, .slice (some ⟨w.heap.size + 1 + 1, 0, none⟩) 1 1, .int .i64 6] 38)).alloc (.cells #[.int .u8 0] 5)).heap.size = w.heap.size + 1 + 1 + 1 + 1 + 1 := by simp
  have h3 : Holds ((((((w.alloc (.cells #[.int .i64 3, .string ⟨#[98]⟩] 35)).alloc (.cells #[.int .u32 3] 36)).alloc (.cells #[.int .u32 4] 36)).alloc (.cells #[.slice (some ⟨w.heap.size + 1, 0, none⟩) 1 1, .int .i64 7, .slice (some ⟨w.heap.size + 1 + 1, 0, none⟩) 1 1, .int .i64 6] 38)).alloc (.cells #[.int .u8 0] 5)).alloc (.cells #[.slice (some ⟨w.heap.size, 0, none⟩) 1 1, .int .i64 5, .int .i64 9, .slice (some ⟨w.heap.size + 1 + 1 + 1, 0, none⟩) 2 2, .slice (some ⟨w.heap.size + 1 + 1 + 1 + 1, 0, none⟩) 1 1] 26)) (w.heap.size + 1) 36 #[.int .u32 ((3 : Nat) : Int)] := by
    have h := Holds.fresh (w.alloc (.cells #[.int .i64 3, .string ⟨#[98]⟩] 35)) 36 #[.int .u32 3]
    rw [e1] at h
    exact (((h.alloc _).alloc _).alloc _).alloc _
  have h4 : Holds ((((((w.alloc (.cells #[.int .i64 3, .string ⟨#[98]⟩] 35)).alloc (.cells #[.int .u32 3] 36)).alloc (.cells #[.int .u32 4] 36)).alloc (.cells #[.slice (some ⟨w.heap.size + 1, 0, none⟩) 1 1, .int .i64 7, .slice (some ⟨w.heap.size + 1 + 1, 0, none⟩) 1 1, .int .i64 6] 38)).alloc (.cells #[.int .u8 0] 5)).alloc (.cells #[.slice (some ⟨w.heap.size, 0, none⟩) 1 1, .int .i64 5, .int .i64 9, .slice (some ⟨w.heap.size + 1 + 1 + 1, 0, none⟩) 2 2, .slice (some ⟨w.heap.size + 1 + 1 + 1 + 1, 0, none⟩) 1 1] 26)) (w.heap.size + 1 + 1) 36 #[.int .u32 ((4 : Nat) : Int)] := by
    have h := Holds.fresh ((w.alloc (.cells #[.int .i64 3, .string ⟨#[98]⟩] 35)).alloc (.cells #[.int .u32 3] 36)) 36 #[.int .u32 4]
    rw [e2] at h
    exact ((h.alloc _).alloc _).alloc _
  have hR : Holds ((((((w.alloc (.cells #[.int .i64 3, .string ⟨#[98]⟩] 35)).alloc (.cells #[.int .u32 3] 36)).alloc (.cells #[.int .u32 4] 36)).alloc (.cells #[.slice (some ⟨w.heap.size + 1, 0, none⟩) 1 1, .int .i64 7, .slice (some ⟨w.heap.size + 1 + 1, 0, none⟩) 1 1, .int .i64 6] 38)).alloc (.cells #[.int .u8 0] 5)).alloc (.cells #[.slice (some ⟨w.heap.size, 0, none⟩) 1 1, .int .i64 5, .int .i64 9, .slice (some ⟨w.heap.size + 1 + 1 + 1, 0, none⟩) 2 2, .slice (some ⟨w.heap.size + 1 + 1 + 1 + 1, 0, none⟩) 1 1] 26)) (w.heap.size + 1 + 1 + 1) 38 #[.slice (some ⟨w.heap.size + 1, 0, none⟩) 1 1, .int .i64 7, .slice (some ⟨w.heap.size + 1 + 1, 0, none⟩) 1 1, .int .i64 6] := by
    have h := Holds.fresh (((w.alloc (.cells #[.int .i64 3, .string ⟨#[98]⟩] 35)).alloc (.cells #[.int .u32 3] 36)).alloc (.cells #[.int .u32 4] 36)) 38 #[.slice (some ⟨w.heap.size + 1, 0, none⟩) 1 1, .int .i64 7, .slice (some ⟨w.heap.size + 1 + 1, 0, none⟩) 1 1, .int .i64 6]
    rw [e3] at h
    exact (h.alloc _).alloc _
  have hS : Holds ((((((w.alloc (.cells #[.int .i64 3, .string ⟨#[98]⟩] 35)).alloc (.cells #[.int .u32 3] 36)).alloc (.cells #[.int .u32 4] 36)).alloc (.cells #[.slice (some ⟨w.heap.size + 1, 0, none⟩) 1 1, .int .i64 7, .slice (some ⟨w.heap.size + 1 + 1, 0, none⟩) 1 1, .int .i64 6] 38)).alloc (.cells #[.int .u8 0] 5)).alloc (.cells #[.slice (some ⟨w.heap.size, 0, none⟩) 1 1, .int .i64 5, .int .i64 9, .slice (some ⟨w.heap.size + 1 + 1 + 1, 0, none⟩) 2 2, .slice (some ⟨w.heap.size + 1 + 1 + 1 + 1, 0, none⟩) 1 1] 26)) (w.heap.size + 1 + 1 + 1 + 1) 5 #[.int .u8 ((0 : Nat) : Int)] := by
    have h := Holds.fresh ((((w.alloc (.cells #[.int .i64 3, .string ⟨#[98]⟩] 35)).alloc (.cells #[.int .u32 3] 36)).alloc (.cells #[.int .u32 4] 36)).alloc (.cells #[.slice (some ⟨w.heap.size + 1, 0, none⟩) 1 1, .int .i64 7, .slice (some ⟨w.heap.size + 1 + 1, 0, none⟩) 1 1, .int .i64 6] 38)) 5 #[.int .u8 0]
    rw [e4] at h
    exact h.alloc _
  have hX : Holds ((((((w.alloc (.cells #[.int .i64 3, .string ⟨#[98]⟩] 35)).alloc (.cells #[.int .u32 3] 36)).alloc (.cells #[.int .u32 4] 36)).alloc (.cells #[.slice (some ⟨w.heap.size + 1, 0, none⟩) 1 1, .int .i64 7, .slice (some ⟨w.heap.size + 1 + 1, 0, none⟩) 1 1, .int .i64 6] 38)).alloc (.cells #[.int .u8 0] 5)).alloc (.cells #[.slice (some ⟨w.heap.size, 0, none⟩) 1 1, .int .i64 5, .int .i64 9, .slice (some ⟨w.heap.size + 1 + 1 + 1, 0, none⟩) 2 2, .slice (some ⟨w.heap.size + 1 + 1 + 1 + 1, 0, none⟩) 1 1] 26)) (w.heap.size + 1 + 1 + 1 + 1 + 1) 26 #[.slice (some ⟨w.heap.size, 0, none⟩) 1 1, .int .i64 5, .int .i64 9, .slice (some ⟨w.heap.size + 1 + 1 + 1, 0, none⟩) 2 2, .slice (some ⟨w.heap.size + 1 + 1 + 1 + 1, 0, none⟩) 1 1] := by
    have h := Holds.fresh (((((w.alloc (.cells #[.int .i64 3, .string ⟨#[98]⟩] 35)).alloc (.cells #[.int .u32 3] 36)).alloc (.cells #[.int .u32 4] 36)).alloc (.cells #[.slice (some ⟨w.heap.size + 1, 0, none⟩) 1 1, .int .i64 7, .slice (some ⟨w.heap.size + 1 + 1, 0, none⟩) 1 1, .int .i64 6] 38)).alloc (.cells #[.int .u8 0] 5)) 26 #[.slice (some ⟨w.heap.size, 0, none⟩) 1 1, .int .i64 5, .int .i64 9, .slice (some ⟨w.heap.size + 1 + 1 + 1, 0, none⟩) 2 2, .slice (some ⟨w.heap.size + 1 + 1 + 1 + 1, 0, none⟩) 1 1]
    rwa [e5] at h
  have hb : Below w.heap.size w ((((((w.alloc (.cells #[.int .i64 3, .string ⟨#[98]⟩] 35)).alloc (.cells #[.int .u32 3] 36)).alloc (.cells #[.int .u32 4] 36)).alloc (.cells #[.slice (some ⟨w.heap.size + 1, 0, none⟩) 1 1, .int .i64 7, .slice (some ⟨w.heap.size + 1 + 1, 0, none⟩) 1 1, .int .i64 6] 38)).alloc (.cells #[.int .u8 0] 5)).alloc (.cells #[.slice (some ⟨w.heap.size, 0, none⟩) 1 1, .int .i64 5, .int .i64 9, .slice (some ⟨w.heap.size + 1 + 1 + 1, 0, none⟩) 2 2, .slice (some ⟨w.heap.size + 1 + 1 + 1 + 1, 0, none⟩) 1 1] 26)) := ((((((Below.refl _ _).alloc (Nat.le_refl _) _).alloc (by rw [e1]; omega) _).alloc (by rw [e2]; omega) _).alloc (by rw [e3]; omega) _).alloc (by rw [e4]; omega) _).alloc (by rw [e5]; omega) _
  clear e1 e2 e3 e4 e5
  obtain ⟨V, hV⟩ : ∃ V, V = ((((((w.alloc (.cells #[.int .i64 3, .string ⟨#[98]⟩] 35)).alloc (.cells #[.int .u32 3] 36)).alloc (.cells #[.int .u32 4] 36)).alloc (.cells #[.slice (some ⟨w.heap.size + 1, 0, none⟩) 1 1, .int .i64 7, .slice (some ⟨w.heap.size + 1 + 1, 0, none⟩) 1 1, .int .i64 6] 38)).alloc (.cells #[.int .u8 0] 5)).alloc (.cells #[.slice (some ⟨w.heap.size, 0, none⟩) 1 1, .int .i64 5, .int .i64 9, .slice (some ⟨w.heap.size + 1 + 1 + 1, 0, none⟩) 2 2, .slice (some ⟨w.heap.size + 1 + 1 + 1 + 1, 0, none⟩) 1 1] 26)) := ⟨_, rfl⟩
  rw [← hV] at hI h3 h4 hR hS hX hb
  have hC : ClP ⟨(some ⟨w.heap.size, 0, none⟩), 1, [⟨3, ⟨#[98]⟩⟩], 5, 9, (some ⟨w.heap.size + 1 + 1 + 1, 0, none⟩), 2, [⟨(some ⟨w.heap.size + 1, 0, none⟩), 1, [3], 7⟩, ⟨(some ⟨w.heap.size + 1 + 1, 0, none⟩), 1, [4], 6⟩], (some ⟨w.heap.size + 1 + 1 + 1 + 1, 0, none⟩), 1, [0]⟩ V := ⟨rdA_lit hI, gs_lit hR rfl rfl (rd32_lit h3) (rd32_lit h4) (dg_one (by decide)) (dg_one (by decide)), rd8_lit hS, oct_lit⟩
  have his := crlIs_any V _ hC (Utf8Tabs_below hT hb) sz_lit
  rw [show crlOk (Cl.v ⟨(some ⟨w.heap.size, 0, none⟩), 1, [⟨3, ⟨#[98]⟩⟩], 5, 9, (some ⟨w.heap.size + 1 + 1 + 1, 0, none⟩), 2, [⟨(some ⟨w.heap.size + 1, 0, none⟩), 1, [3], 7⟩, ⟨(some ⟨w.heap.size + 1 + 1, 0, none⟩), 1, [4], 6⟩], (some ⟨w.heap.size + 1 + 1 + 1 + 1, 0, none⟩), 1, [0]⟩) = true from odd_first] at his
  have HIS : Hid (Calls Tryd.prog 11 #[.agg #[.slice (some ⟨w.heap.size, 0, none⟩) 1 1, .int .i64 5, .int .i64 9, .slice (some ⟨w.heap.size + 1 + 1 + 1, 0, none⟩) 2 2, .slice (some ⟨w.heap.size + 1 + 1 + 1 + 1, 0, none⟩) 1 1]] V fun e w' => e = .returned (.bool true) ∧ Below V.heap.size V w') := Lib.hid his
  have HT := Lib.hid hT
  have HB := Lib.hid hb
  have HI := Lib.hid hI
  have H3 := Lib.hid h3
  have H4 := Lib.hid h4
  have HR := Lib.hid hR
  have HS := Lib.hid hS
  have HX := Lib.hid hX
  have c0 := hX.cell 0
  have c1 := hX.cell 1
  have c2 := hX.cell 2
  have c3 := hX.cell 3
  have c4 := hX.cell 4
  rw [hV] at c0 c1 c2 c3 c4
  have HV := Lib.hid hV
  clear hC his hT hb hI h3 h4 hR hS hX hV
  go_enter Tryd.func4, Tryd.ntmps4
  go_wp2_with fail
  rw [← HV.out]
  refine HIS.out.mono ?_
  rintro e w1 ⟨rfl, hb1⟩
  have HB1 := Lib.hid (HB.out.trans (hb1.mono HB.out.size))
  have HI1 := Lib.hid (HI.out.under hb1 HI.out.lt)
  have H31 := Lib.hid (H3.out.under hb1 H3.out.lt)
  have H41 := Lib.hid (H4.out.under hb1 H4.out.lt)
  have HR1 := Lib.hid (HR.out.under hb1 HR.out.lt)
  have HS1 := Lib.hid (HS.out.under hb1 HS.out.lt)
  have HX1 := Lib.hid (HX.out.under hb1 HX.out.lt)
  clear c0 c1 c2 c3 c4 HV HIS HB HI H3 H4 HR HS HX hb1
  have x0 := HX1.out.cell 0
  have x1 := HX1.out.cell 2
  have x2 := HX1.out.cell 4
  have y0 := HX1.out.open_ 0
  have y1 := HX1.out.open_ 2
  have y2 := HX1.out.open_ 4
  have hX2 : Holds (w1.setCell ⟨w.heap.size + 1 + 1 + 1 + 1 + 1, 0, none⟩ (.slice none 0 0)) (w.heap.size + 1 + 1 + 1 + 1 + 1) 26 #[.slice none 0 0, .int .i64 5, .int .i64 9, .slice (some ⟨w.heap.size + 1 + 1 + 1, 0, none⟩) 2 2, .slice (some ⟨w.heap.size + 1 + 1 + 1 + 1, 0, none⟩) 1 1] := HX1.out.stored _ _
  have hC2 : ClP (⟨none, 0, [], 5, 9, (some ⟨w.heap.size + 1 + 1 + 1, 0, none⟩), 2, [⟨(some ⟨w.heap.size + 1, 0, none⟩), 1, [3], 7⟩, ⟨(some ⟨w.heap.size + 1 + 1, 0, none⟩), 1, [4], 6⟩], (some ⟨w.heap.size + 1 + 1 + 1 + 1, 0, none⟩), 1, [0]⟩ : Cl) (w1.setCell ⟨w.heap.size + 1 + 1 + 1 + 1 + 1, 0, none⟩ (.slice none 0 0)) := ⟨RdA.nil_ _ _ _ _ (Nat.zero_le _), gs_lit (HR1.out.aside (by simp <;> omega) _) rfl rfl (rd32_lit (H31.out.aside (by simp <;> omega) _)) (rd32_lit (H41.out.aside (by simp <;> omega) _)) (dg_one (by decide)) (dg_one (by decide)), rd8_lit (HS1.out.aside (by simp <;> omega) _), oct_lit⟩
  have hB2 : Below w.heap.size w (w1.setCell ⟨w.heap.size + 1 + 1 + 1 + 1 + 1, 0, none⟩ (.slice none 0 0)) := HB1.out.setCell (by show w.heap.size ≤ w.heap.size + 1 + 1 + 1 + 1 + 1; omega) _
  have hno : crlOk (Cl.v (⟨none, 0, [], 5, 9, (some ⟨w.heap.size + 1 + 1 + 1, 0, none⟩), 2, [⟨(some ⟨w.heap.size + 1, 0, none⟩), 1, [3], 7⟩, ⟨(some ⟨w.heap.size + 1 + 1, 0, none⟩), 1, [4], 6⟩], (some ⟨w.heap.size + 1 + 1 + 1 + 1, 0, none⟩), 1, [0]⟩ : Cl)) = false := odd_0
  have hND := node_no (w1.setCell ⟨w.heap.size + 1 + 1 + 1 + 1 + 1, 0, none⟩ (.slice none 0 0)) (⟨none, 0, [], 5, 9, (some ⟨w.heap.size + 1 + 1 + 1, 0, none⟩), 2, [⟨(some ⟨w.heap.size + 1, 0, none⟩), 1, [3], 7⟩, ⟨(some ⟨w.heap.size + 1 + 1, 0, none⟩), 1, [4], 6⟩], (some ⟨w.heap.size + 1 + 1 + 1 + 1, 0, none⟩), 1, [0]⟩ : Cl) hC2 (Utf8Tabs_below HT.out hB2) (fun x hx => by cases hx) hno
  have HND : Hid (Calls Tryd.prog 13 #[.agg #[.slice none 0 0, .int .i64 5, .int .i64 9, .slice (some ⟨w.heap.size + 1 + 1 + 1, 0, none⟩) 2 2, .slice (some ⟨w.heap.size + 1 + 1 + 1 + 1, 0, none⟩) 1 1]] (w1.setCell ⟨w.heap.size + 1 + 1 + 1 + 1 + 1, 0, none⟩ (.slice none 0 0)) fun e w' => e = .returned (.agg #[.int .u8 0, .slice none 0 0, .slice none 0 0]) ∧ Below (w1.setCell ⟨w.heap.size + 1 + 1 + 1 + 1 + 1, 0, none⟩ (.slice none 0 0)).heap.size (w1.setCell ⟨w.heap.size + 1 + 1 + 1 + 1 + 1, 0, none⟩ (.slice none 0 0)) w') := Lib.hid hND
  have HISN : Hid (∀ Z, Below (w1.setCell ⟨w.heap.size + 1 + 1 + 1 + 1 + 1, 0, none⟩ (.slice none 0 0)).heap.size (w1.setCell ⟨w.heap.size + 1 + 1 + 1 + 1 + 1, 0, none⟩ (.slice none 0 0)) Z → Calls Tryd.prog 11 #[.agg #[.slice none 0 0, .int .i64 5, .int .i64 9, .slice (some ⟨w.heap.size + 1 + 1 + 1, 0, none⟩) 2 2, .slice (some ⟨w.heap.size + 1 + 1 + 1 + 1, 0, none⟩) 1 1]] Z fun e w' => e = .returned (.bool false) ∧ Below Z.heap.size Z w') := Lib.hid fun Z hZ => by
    have h := crlIs_any Z (⟨none, 0, [], 5, 9, (some ⟨w.heap.size + 1 + 1 + 1, 0, none⟩), 2, [⟨(some ⟨w.heap.size + 1, 0, none⟩), 1, [3], 7⟩, ⟨(some ⟨w.heap.size + 1 + 1, 0, none⟩), 1, [4], 6⟩], (some ⟨w.heap.size + 1 + 1 + 1 + 1, 0, none⟩), 1, [0]⟩ : Cl) ((Off.of_c hC2).under hZ).at_ (Utf8Tabs_below HT.out (hB2.trans (hZ.mono hB2.size))) (fun x hx => by cases hx)
    rw [hno] at h
    exact h
  have HDN : Hid (∀ Z, Below (w1.setCell ⟨w.heap.size + 1 + 1 + 1 + 1 + 1, 0, none⟩ (.slice none 0 0)).heap.size (w1.setCell ⟨w.heap.size + 1 + 1 + 1 + 1 + 1, 0, none⟩ (.slice none 0 0)) Z → Calls Tryd.prog 14 #[.agg #[.slice none 0 0, .int .i64 5, .int .i64 9, .slice (some ⟨w.heap.size + 1 + 1 + 1, 0, none⟩) 2 2, .slice (some ⟨w.heap.size + 1 + 1 + 1 + 1, 0, none⟩) 1 1]] Z fun e w' => e = .returned (.slice none 0 0) ∧ Below Z.heap.size Z w') := Lib.hid fun Z hZ =>
    digest_no Z (⟨none, 0, [], 5, 9, (some ⟨w.heap.size + 1 + 1 + 1, 0, none⟩), 2, [⟨(some ⟨w.heap.size + 1, 0, none⟩), 1, [3], 7⟩, ⟨(some ⟨w.heap.size + 1 + 1, 0, none⟩), 1, [4], 6⟩], (some ⟨w.heap.size + 1 + 1 + 1 + 1, 0, none⟩), 1, [0]⟩ : Cl) ((Off.of_c hC2).under hZ).at_ (Utf8Tabs_below HT.out (hB2.trans (hZ.mono hB2.size))) (fun x hx => by cases hx) hno
  have HX2 := Lib.hid hX2
  have HB2 := Lib.hid hB2
  have c0 := hX2.cell 0
  have c1 := hX2.cell 1
  have c2 := hX2.cell 2
  have c3 := hX2.cell 3
  have c4 := hX2.cell 4
  clear hX2 hC2 hB2 hno hND
  go_wp2_with fail
  refine HND.out.mono ?_
  rintro e w3 ⟨rfl, hb3⟩
  have HB3 := Lib.hid hb3
  clear c0 c1 c2 c3 c4 hb3 HND
  go_wp2_with fail
  refine (get_none w3).mono ?_
  rintro e w4 ⟨rfl, hb4⟩
  have hq : Below w4.heap.size w4 (w4.alloc (.cells #[.slice none 0 0, .int .i64 0, .int .i64 0, .slice none 0 0, .slice none 0 0] 26)) := (Below.refl _ _).alloc (Nat.le_refl _) _
  have h34 := HB3.out.trans (hb4.mono HB3.out.size)
  have HB5 := Lib.hid (h34.trans (hq.mono h34.size))
  have hX5 := HX2.out.under HB5.out HX2.out.lt
  have c0 := hX5.cell 0
  have c1 := hX5.cell 1
  have c2 := hX5.cell 2
  have c3 := hX5.cell 3
  have c4 := hX5.cell 4
  have HI5 := Lib.hid (HISN.out _ HB5.out)
  clear hb4 hq h34 hX5 HISN
  go_wp2_with fail
  refine HI5.out.mono ?_
  rintro e w6 ⟨rfl, hb6⟩
  have HB6 := Lib.hid (HB5.out.trans (hb6.mono HB5.out.size))
  have hX6 := HX2.out.under HB6.out HX2.out.lt
  clear c0 c1 c2 c3 c4
  have c0 := hX6.cell 0
  have c1 := hX6.cell 1
  have c2 := hX6.cell 2
  have c3 := hX6.cell 3
  have c4 := hX6.cell 4
  have HD6 := Lib.hid (HDN.out _ HB6.out)
  clear hb6 hX6 HDN HI5
  go_wp2_with fail
  refine HD6.out.mono ?_
  rintro e w7 ⟨rfl, hb7⟩
  have HB7 := Lib.hid (HB2.out.trans ((HB6.out.trans (hb7.mono HB6.out.size)).mono HB2.out.size))
  have HK7 := Lib.hid (known19_any w7 (Utf8Tabs_below HT.out HB7.out))
  clear hb7 c0 c1 c2 c3 c4 HD6
  go_wp2_with fail
  refine HK7.out.mono ?_
  rintro e w8 ⟨rfl, hb8⟩
  have HB8 := Lib.hid (HB7.out.trans (hb8.mono HB7.out.size))
  clear hb8
  go_wp2_with fail
  go_ret
  exact ⟨rfl, HB8.out⟩
set_option maxRecDepth 100000 in
set_option maxHeartbeats 8000000 in
theorem odd19_1 (w : World) (hT : Lib.Utf8Tabs 0 1 w) :
    Calls Tryd.prog 4 #[.int .i64 1] w fun e w' => e = .returned (.bool true) ∧ Below w.heap.size w w' := by
  have hI : Holds ((((((w.alloc (.cells #[.int .i64 3, .string ⟨#[98]⟩] 35)).alloc (.cells #[.int .u32 3] 36)).alloc (.cells #[.int .u32 4] 36)).alloc (.cells #[.slice (some ⟨w.heap.size + 1, 0, none⟩) 1 1, .int .i64 7, .slice (some ⟨w.heap.size + 1 + 1, 0, none⟩) 1 1, .int .i64 6] 38)).alloc (.cells #[.int .u8 0] 5)).alloc (.cells #[.slice (some ⟨w.heap.size, 0, none⟩) 1 1, .int .i64 5, .int .i64 9, .slice (some ⟨w.heap.size + 1 + 1 + 1, 0, none⟩) 2 2, .slice (some ⟨w.heap.size + 1 + 1 + 1 + 1, 0, none⟩) 1 1] 26)) w.heap.size 35 #[.int .i64 3, .string ⟨#[98]⟩] := by
    have h := Holds.fresh w 35 #[.int .i64 3, .string ⟨#[98]⟩]
    exact ((((h.alloc _).alloc _).alloc _).alloc _).alloc _
  have e1 : (w.alloc (.cells #[.int .i64 3, .string ⟨#[98]⟩] 35)).heap.size = w.heap.size + 1 := by simp
  have e2 : ((w.alloc (.cells #[.int .i64 3, .string ⟨#[98]⟩] 35)).alloc (.cells #[.int .u32 3] 36)).heap.size = w.heap.size + 1 + 1 := by simp
  have e3 : (((w.alloc (.cells #[.int .i64 3, .string ⟨#[98]⟩] 35)).alloc (.cells #[.int .u32 3] 36)).alloc (.cells #[.int .u32 4] 36)).heap.size = w.heap.size + 1 + 1 + 1 := by simp
  have e4 : ((((w.alloc (.cells #[.int .i64 3, .string ⟨#[98]⟩] 35)).alloc (.cells #[.int .u32 3] 36)).alloc (.cells #[.int .u32 4] 36)).alloc (.cells #[.slice (some ⟨w.heap.size + 1, 0, none⟩) 1 1, .int .i64 7, .slice (some ⟨w.heap.size + 1 + 1, 0, none⟩) 1 1, .int .i64 6] 38)).heap.size = w.heap.size + 1 + 1 + 1 + 1 := by simp
  have e5 : (((((w.alloc (.cells #[.int .i64 3, .string ⟨#[98]⟩] 35)).alloc (.cells #[.int .u32 3] 36)).alloc (.cells #[.int .u32 4] 36)).alloc (.cells #[.slice (some ⟨w.heap.size + 1, 0, none⟩) 1 1, .int .i64 7, .slice (some ⟨w.heap.size + 1 + 1, 0, none⟩) 1 1, .int .i64 6] 38)).alloc (.cells #[.int .u8 0] 5)).heap.size = w.heap.size + 1 + 1 + 1 + 1 + 1 := by simp
  have h3 : Holds ((((((w.alloc (.cells #[.int .i64 3, .string ⟨#[98]⟩] 35)).alloc (.cells #[.int .u32 3] 36)).alloc (.cells #[.int .u32 4] 36)).alloc (.cells #[.slice (some ⟨w.heap.size + 1, 0, none⟩) 1 1, .int .i64 7, .slice (some ⟨w.heap.size + 1 + 1, 0, none⟩) 1 1, .int .i64 6] 38)).alloc (.cells #[.int .u8 0] 5)).alloc (.cells #[.slice (some ⟨w.heap.size, 0, none⟩) 1 1, .int .i64 5, .int .i64 9, .slice (some ⟨w.heap.size + 1 + 1 + 1, 0, none⟩) 2 2, .slice (some ⟨w.heap.size + 1 + 1 + 1 + 1, 0, none⟩) 1 1] 26)) (w.heap.size + 1) 36 #[.int .u32 ((3 : Nat) : Int)] := by
    have h := Holds.fresh (w.alloc (.cells #[.int .i64 3, .string ⟨#[98]⟩] 35)) 36 #[.int .u32 3]
    rw [e1] at h
    exact (((h.alloc _).alloc _).alloc _).alloc _
  have h4 : Holds ((((((w.alloc (.cells #[.int .i64 3, .string ⟨#[98]⟩] 35)).alloc (.cells #[.int .u32 3] 36)).alloc (.cells #[.int .u32 4] 36)).alloc (.cells #[.slice (some ⟨w.heap.size + 1, 0, none⟩) 1 1, .int .i64 7, .slice (some ⟨w.heap.size + 1 + 1, 0, none⟩) 1 1, .int .i64 6] 38)).alloc (.cells #[.int .u8 0] 5)).alloc (.cells #[.slice (some ⟨w.heap.size, 0, none⟩) 1 1, .int .i64 5, .int .i64 9, .slice (some ⟨w.heap.size + 1 + 1 + 1, 0, none⟩) 2 2, .slice (some ⟨w.heap.size + 1 + 1 + 1 + 1, 0, none⟩) 1 1] 26)) (w.heap.size + 1 + 1) 36 #[.int .u32 ((4 : Nat) : Int)] := by
    have h := Holds.fresh ((w.alloc (.cells #[.int .i64 3, .string ⟨#[98]⟩] 35)).alloc (.cells #[.int .u32 3] 36)) 36 #[.int .u32 4]
    rw [e2] at h
    exact ((h.alloc _).alloc _).alloc _
  have hR : Holds ((((((w.alloc (.cells #[.int .i64 3, .string ⟨#[98]⟩] 35)).alloc (.cells #[.int .u32 3] 36)).alloc (.cells #[.int .u32 4] 36)).alloc (.cells #[.slice (some ⟨w.heap.size + 1, 0, none⟩) 1 1, .int .i64 7, .slice (some ⟨w.heap.size + 1 + 1, 0, none⟩) 1 1, .int .i64 6] 38)).alloc (.cells #[.int .u8 0] 5)).alloc (.cells #[.slice (some ⟨w.heap.size, 0, none⟩) 1 1, .int .i64 5, .int .i64 9, .slice (some ⟨w.heap.size + 1 + 1 + 1, 0, none⟩) 2 2, .slice (some ⟨w.heap.size + 1 + 1 + 1 + 1, 0, none⟩) 1 1] 26)) (w.heap.size + 1 + 1 + 1) 38 #[.slice (some ⟨w.heap.size + 1, 0, none⟩) 1 1, .int .i64 7, .slice (some ⟨w.heap.size + 1 + 1, 0, none⟩) 1 1, .int .i64 6] := by
    have h := Holds.fresh (((w.alloc (.cells #[.int .i64 3, .string ⟨#[98]⟩] 35)).alloc (.cells #[.int .u32 3] 36)).alloc (.cells #[.int .u32 4] 36)) 38 #[.slice (some ⟨w.heap.size + 1, 0, none⟩) 1 1, .int .i64 7, .slice (some ⟨w.heap.size + 1 + 1, 0, none⟩) 1 1, .int .i64 6]
    rw [e3] at h
    exact (h.alloc _).alloc _
  have hS : Holds ((((((w.alloc (.cells #[.int .i64 3, .string ⟨#[98]⟩] 35)).alloc (.cells #[.int .u32 3] 36)).alloc (.cells #[.int .u32 4] 36)).alloc (.cells #[.slice (some ⟨w.heap.size + 1, 0, none⟩) 1 1, .int .i64 7, .slice (some ⟨w.heap.size + 1 + 1, 0, none⟩) 1 1, .int .i64 6] 38)).alloc (.cells #[.int .u8 0] 5)).alloc (.cells #[.slice (some ⟨w.heap.size, 0, none⟩) 1 1, .int .i64 5, .int .i64 9, .slice (some ⟨w.heap.size + 1 + 1 + 1, 0, none⟩) 2 2, .slice (some ⟨w.heap.size + 1 + 1 + 1 + 1, 0, none⟩) 1 1] 26)) (w.heap.size + 1 + 1 + 1 + 1) 5 #[.int .u8 ((0 : Nat) : Int)] := by
    have h := Holds.fresh ((((w.alloc (.cells #[.int .i64 3, .string ⟨#[98]⟩] 35)).alloc (.cells #[.int .u32 3] 36)).alloc (.cells #[.int .u32 4] 36)).alloc (.cells #[.slice (some ⟨w.heap.size + 1, 0, none⟩) 1 1, .int .i64 7, .slice (some ⟨w.heap.size + 1 + 1, 0, none⟩) 1 1, .int .i64 6] 38)) 5 #[.int .u8 0]
    rw [e4] at h
    exact h.alloc _
  have hX : Holds ((((((w.alloc (.cells #[.int .i64 3, .string ⟨#[98]⟩] 35)).alloc (.cells #[.int .u32 3] 36)).alloc (.cells #[.int .u32 4] 36)).alloc (.cells #[.slice (some ⟨w.heap.size + 1, 0, none⟩) 1 1, .int .i64 7, .slice (some ⟨w.heap.size + 1 + 1, 0, none⟩) 1 1, .int .i64 6] 38)).alloc (.cells #[.int .u8 0] 5)).alloc (.cells #[.slice (some ⟨w.heap.size, 0, none⟩) 1 1, .int .i64 5, .int .i64 9, .slice (some ⟨w.heap.size + 1 + 1 + 1, 0, none⟩) 2 2, .slice (some ⟨w.heap.size + 1 + 1 + 1 + 1, 0, none⟩) 1 1] 26)) (w.heap.size + 1 + 1 + 1 + 1 + 1) 26 #[.slice (some ⟨w.heap.size, 0, none⟩) 1 1, .int .i64 5, .int .i64 9, .slice (some ⟨w.heap.size + 1 + 1 + 1, 0, none⟩) 2 2, .slice (some ⟨w.heap.size + 1 + 1 + 1 + 1, 0, none⟩) 1 1] := by
    have h := Holds.fresh (((((w.alloc (.cells #[.int .i64 3, .string ⟨#[98]⟩] 35)).alloc (.cells #[.int .u32 3] 36)).alloc (.cells #[.int .u32 4] 36)).alloc (.cells #[.slice (some ⟨w.heap.size + 1, 0, none⟩) 1 1, .int .i64 7, .slice (some ⟨w.heap.size + 1 + 1, 0, none⟩) 1 1, .int .i64 6] 38)).alloc (.cells #[.int .u8 0] 5)) 26 #[.slice (some ⟨w.heap.size, 0, none⟩) 1 1, .int .i64 5, .int .i64 9, .slice (some ⟨w.heap.size + 1 + 1 + 1, 0, none⟩) 2 2, .slice (some ⟨w.heap.size + 1 + 1 + 1 + 1, 0, none⟩) 1 1]
    rwa [e5] at h
  have hb : Below w.heap.size w ((((((w.alloc (.cells #[.int .i64 3, .string ⟨#[98]⟩] 35)).alloc (.cells #[.int .u32 3] 36)).alloc (.cells #[.int .u32 4] 36)).alloc (.cells #[.slice (some ⟨w.heap.size + 1, 0, none⟩) 1 1, .int .i64 7, .slice (some ⟨w.heap.size + 1 + 1, 0, none⟩) 1 1, .int .i64 6] 38)).alloc (.cells #[.int .u8 0] 5)).alloc (.cells #[.slice (some ⟨w.heap.size, 0, none⟩) 1 1, .int .i64 5, .int .i64 9, .slice (some ⟨w.heap.size + 1 + 1 + 1, 0, none⟩) 2 2, .slice (some ⟨w.heap.size + 1 + 1 + 1 + 1, 0, none⟩) 1 1] 26)) := ((((((Below.refl _ _).alloc (Nat.le_refl _) _).alloc (by rw [e1]; omega) _).alloc (by rw [e2]; omega) _).alloc (by rw [e3]; omega) _).alloc (by rw [e4]; omega) _).alloc (by rw [e5]; omega) _
  clear e1 e2 e3 e4 e5
  obtain ⟨V, hV⟩ : ∃ V, V = ((((((w.alloc (.cells #[.int .i64 3, .string ⟨#[98]⟩] 35)).alloc (.cells #[.int .u32 3] 36)).alloc (.cells #[.int .u32 4] 36)).alloc (.cells #[.slice (some ⟨w.heap.size + 1, 0, none⟩) 1 1, .int .i64 7, .slice (some ⟨w.heap.size + 1 + 1, 0, none⟩) 1 1, .int .i64 6] 38)).alloc (.cells #[.int .u8 0] 5)).alloc (.cells #[.slice (some ⟨w.heap.size, 0, none⟩) 1 1, .int .i64 5, .int .i64 9, .slice (some ⟨w.heap.size + 1 + 1 + 1, 0, none⟩) 2 2, .slice (some ⟨w.heap.size + 1 + 1 + 1 + 1, 0, none⟩) 1 1] 26)) := ⟨_, rfl⟩
  rw [← hV] at hI h3 h4 hR hS hX hb
  have hC : ClP ⟨(some ⟨w.heap.size, 0, none⟩), 1, [⟨3, ⟨#[98]⟩⟩], 5, 9, (some ⟨w.heap.size + 1 + 1 + 1, 0, none⟩), 2, [⟨(some ⟨w.heap.size + 1, 0, none⟩), 1, [3], 7⟩, ⟨(some ⟨w.heap.size + 1 + 1, 0, none⟩), 1, [4], 6⟩], (some ⟨w.heap.size + 1 + 1 + 1 + 1, 0, none⟩), 1, [0]⟩ V := ⟨rdA_lit hI, gs_lit hR rfl rfl (rd32_lit h3) (rd32_lit h4) (dg_one (by decide)) (dg_one (by decide)), rd8_lit hS, oct_lit⟩
  have his := crlIs_any V _ hC (Utf8Tabs_below hT hb) sz_lit
  rw [show crlOk (Cl.v ⟨(some ⟨w.heap.size, 0, none⟩), 1, [⟨3, ⟨#[98]⟩⟩], 5, 9, (some ⟨w.heap.size + 1 + 1 + 1, 0, none⟩), 2, [⟨(some ⟨w.heap.size + 1, 0, none⟩), 1, [3], 7⟩, ⟨(some ⟨w.heap.size + 1 + 1, 0, none⟩), 1, [4], 6⟩], (some ⟨w.heap.size + 1 + 1 + 1 + 1, 0, none⟩), 1, [0]⟩) = true from odd_first] at his
  have HIS : Hid (Calls Tryd.prog 11 #[.agg #[.slice (some ⟨w.heap.size, 0, none⟩) 1 1, .int .i64 5, .int .i64 9, .slice (some ⟨w.heap.size + 1 + 1 + 1, 0, none⟩) 2 2, .slice (some ⟨w.heap.size + 1 + 1 + 1 + 1, 0, none⟩) 1 1]] V fun e w' => e = .returned (.bool true) ∧ Below V.heap.size V w') := Lib.hid his
  have HT := Lib.hid hT
  have HB := Lib.hid hb
  have HI := Lib.hid hI
  have H3 := Lib.hid h3
  have H4 := Lib.hid h4
  have HR := Lib.hid hR
  have HS := Lib.hid hS
  have HX := Lib.hid hX
  have c0 := hX.cell 0
  have c1 := hX.cell 1
  have c2 := hX.cell 2
  have c3 := hX.cell 3
  have c4 := hX.cell 4
  rw [hV] at c0 c1 c2 c3 c4
  have HV := Lib.hid hV
  clear hC his hT hb hI h3 h4 hR hS hX hV
  go_enter Tryd.func4, Tryd.ntmps4
  go_wp2_with fail
  rw [← HV.out]
  refine HIS.out.mono ?_
  rintro e w1 ⟨rfl, hb1⟩
  have HB1 := Lib.hid (HB.out.trans (hb1.mono HB.out.size))
  have HI1 := Lib.hid (HI.out.under hb1 HI.out.lt)
  have H31 := Lib.hid (H3.out.under hb1 H3.out.lt)
  have H41 := Lib.hid (H4.out.under hb1 H4.out.lt)
  have HR1 := Lib.hid (HR.out.under hb1 HR.out.lt)
  have HS1 := Lib.hid (HS.out.under hb1 HS.out.lt)
  have HX1 := Lib.hid (HX.out.under hb1 HX.out.lt)
  clear c0 c1 c2 c3 c4 HV HIS HB HI H3 H4 HR HS HX hb1
  have x0 := HX1.out.cell 0
  have x1 := HX1.out.cell 2
  have x2 := HX1.out.cell 4
  have y0 := HX1.out.open_ 0
  have y1 := HX1.out.open_ 2
  have y2 := HX1.out.open_ 4
  have hX2 : Holds (w1.setCell ⟨w.heap.size + 1 + 1 + 1 + 1 + 1, 2, none⟩ (.int .i64 4)) (w.heap.size + 1 + 1 + 1 + 1 + 1) 26 #[.slice (some ⟨w.heap.size, 0, none⟩) 1 1, .int .i64 5, .int .i64 4, .slice (some ⟨w.heap.size + 1 + 1 + 1, 0, none⟩) 2 2, .slice (some ⟨w.heap.size + 1 + 1 + 1 + 1, 0, none⟩) 1 1] := HX1.out.stored _ _
  have hC2 : ClP (⟨(some ⟨w.heap.size, 0, none⟩), 1, [⟨3, ⟨#[98]⟩⟩], 5, 4, (some ⟨w.heap.size + 1 + 1 + 1, 0, none⟩), 2, [⟨(some ⟨w.heap.size + 1, 0, none⟩), 1, [3], 7⟩, ⟨(some ⟨w.heap.size + 1 + 1, 0, none⟩), 1, [4], 6⟩], (some ⟨w.heap.size + 1 + 1 + 1 + 1, 0, none⟩), 1, [0]⟩ : Cl) (w1.setCell ⟨w.heap.size + 1 + 1 + 1 + 1 + 1, 2, none⟩ (.int .i64 4)) := ⟨rdA_lit (HI1.out.aside (by simp <;> omega) _), gs_lit (HR1.out.aside (by simp <;> omega) _) rfl rfl (rd32_lit (H31.out.aside (by simp <;> omega) _)) (rd32_lit (H41.out.aside (by simp <;> omega) _)) (dg_one (by decide)) (dg_one (by decide)), rd8_lit (HS1.out.aside (by simp <;> omega) _), oct_lit⟩
  have hB2 : Below w.heap.size w (w1.setCell ⟨w.heap.size + 1 + 1 + 1 + 1 + 1, 2, none⟩ (.int .i64 4)) := HB1.out.setCell (by show w.heap.size ≤ w.heap.size + 1 + 1 + 1 + 1 + 1; omega) _
  have hno : crlOk (Cl.v (⟨(some ⟨w.heap.size, 0, none⟩), 1, [⟨3, ⟨#[98]⟩⟩], 5, 4, (some ⟨w.heap.size + 1 + 1 + 1, 0, none⟩), 2, [⟨(some ⟨w.heap.size + 1, 0, none⟩), 1, [3], 7⟩, ⟨(some ⟨w.heap.size + 1 + 1, 0, none⟩), 1, [4], 6⟩], (some ⟨w.heap.size + 1 + 1 + 1 + 1, 0, none⟩), 1, [0]⟩ : Cl)) = false := odd_1
  have hND := node_no (w1.setCell ⟨w.heap.size + 1 + 1 + 1 + 1 + 1, 2, none⟩ (.int .i64 4)) (⟨(some ⟨w.heap.size, 0, none⟩), 1, [⟨3, ⟨#[98]⟩⟩], 5, 4, (some ⟨w.heap.size + 1 + 1 + 1, 0, none⟩), 2, [⟨(some ⟨w.heap.size + 1, 0, none⟩), 1, [3], 7⟩, ⟨(some ⟨w.heap.size + 1 + 1, 0, none⟩), 1, [4], 6⟩], (some ⟨w.heap.size + 1 + 1 + 1 + 1, 0, none⟩), 1, [0]⟩ : Cl) hC2 (Utf8Tabs_below HT.out hB2) sz_lit hno
  have HND : Hid (Calls Tryd.prog 13 #[.agg #[.slice (some ⟨w.heap.size, 0, none⟩) 1 1, .int .i64 5, .int .i64 4, .slice (some ⟨w.heap.size + 1 + 1 + 1, 0, none⟩) 2 2, .slice (some ⟨w.heap.size + 1 + 1 + 1 + 1, 0, none⟩) 1 1]] (w1.setCell ⟨w.heap.size + 1 + 1 + 1 + 1 + 1, 2, none⟩ (.int .i64 4)) fun e w' => e = .returned (.agg #[.int .u8 0, .slice none 0 0, .slice none 0 0]) ∧ Below (w1.setCell ⟨w.heap.size + 1 + 1 + 1 + 1 + 1, 2, none⟩ (.int .i64 4)).heap.size (w1.setCell ⟨w.heap.size + 1 + 1 + 1 + 1 + 1, 2, none⟩ (.int .i64 4)) w') := Lib.hid hND
  have HISN : Hid (∀ Z, Below (w1.setCell ⟨w.heap.size + 1 + 1 + 1 + 1 + 1, 2, none⟩ (.int .i64 4)).heap.size (w1.setCell ⟨w.heap.size + 1 + 1 + 1 + 1 + 1, 2, none⟩ (.int .i64 4)) Z → Calls Tryd.prog 11 #[.agg #[.slice (some ⟨w.heap.size, 0, none⟩) 1 1, .int .i64 5, .int .i64 4, .slice (some ⟨w.heap.size + 1 + 1 + 1, 0, none⟩) 2 2, .slice (some ⟨w.heap.size + 1 + 1 + 1 + 1, 0, none⟩) 1 1]] Z fun e w' => e = .returned (.bool false) ∧ Below Z.heap.size Z w') := Lib.hid fun Z hZ => by
    have h := crlIs_any Z (⟨(some ⟨w.heap.size, 0, none⟩), 1, [⟨3, ⟨#[98]⟩⟩], 5, 4, (some ⟨w.heap.size + 1 + 1 + 1, 0, none⟩), 2, [⟨(some ⟨w.heap.size + 1, 0, none⟩), 1, [3], 7⟩, ⟨(some ⟨w.heap.size + 1 + 1, 0, none⟩), 1, [4], 6⟩], (some ⟨w.heap.size + 1 + 1 + 1 + 1, 0, none⟩), 1, [0]⟩ : Cl) ((Off.of_c hC2).under hZ).at_ (Utf8Tabs_below HT.out (hB2.trans (hZ.mono hB2.size))) sz_lit
    rw [hno] at h
    exact h
  have HDN : Hid (∀ Z, Below (w1.setCell ⟨w.heap.size + 1 + 1 + 1 + 1 + 1, 2, none⟩ (.int .i64 4)).heap.size (w1.setCell ⟨w.heap.size + 1 + 1 + 1 + 1 + 1, 2, none⟩ (.int .i64 4)) Z → Calls Tryd.prog 14 #[.agg #[.slice (some ⟨w.heap.size, 0, none⟩) 1 1, .int .i64 5, .int .i64 4, .slice (some ⟨w.heap.size + 1 + 1 + 1, 0, none⟩) 2 2, .slice (some ⟨w.heap.size + 1 + 1 + 1 + 1, 0, none⟩) 1 1]] Z fun e w' => e = .returned (.slice none 0 0) ∧ Below Z.heap.size Z w') := Lib.hid fun Z hZ =>
    digest_no Z (⟨(some ⟨w.heap.size, 0, none⟩), 1, [⟨3, ⟨#[98]⟩⟩], 5, 4, (some ⟨w.heap.size + 1 + 1 + 1, 0, none⟩), 2, [⟨(some ⟨w.heap.size + 1, 0, none⟩), 1, [3], 7⟩, ⟨(some ⟨w.heap.size + 1 + 1, 0, none⟩), 1, [4], 6⟩], (some ⟨w.heap.size + 1 + 1 + 1 + 1, 0, none⟩), 1, [0]⟩ : Cl) ((Off.of_c hC2).under hZ).at_ (Utf8Tabs_below HT.out (hB2.trans (hZ.mono hB2.size))) sz_lit hno
  have HX2 := Lib.hid hX2
  have HB2 := Lib.hid hB2
  have c0 := hX2.cell 0
  have c1 := hX2.cell 1
  have c2 := hX2.cell 2
  have c3 := hX2.cell 3
  have c4 := hX2.cell 4
  clear hX2 hC2 hB2 hno hND
  go_wp2_with fail
  refine HND.out.mono ?_
  rintro e w3 ⟨rfl, hb3⟩
  have HB3 := Lib.hid hb3
  clear c0 c1 c2 c3 c4 hb3 HND
  go_wp2_with fail
  refine (get_none w3).mono ?_
  rintro e w4 ⟨rfl, hb4⟩
  have hq : Below w4.heap.size w4 (w4.alloc (.cells #[.slice none 0 0, .int .i64 0, .int .i64 0, .slice none 0 0, .slice none 0 0] 26)) := (Below.refl _ _).alloc (Nat.le_refl _) _
  have h34 := HB3.out.trans (hb4.mono HB3.out.size)
  have HB5 := Lib.hid (h34.trans (hq.mono h34.size))
  have hX5 := HX2.out.under HB5.out HX2.out.lt
  have c0 := hX5.cell 0
  have c1 := hX5.cell 1
  have c2 := hX5.cell 2
  have c3 := hX5.cell 3
  have c4 := hX5.cell 4
  have HI5 := Lib.hid (HISN.out _ HB5.out)
  clear hb4 hq h34 hX5 HISN
  go_wp2_with fail
  refine HI5.out.mono ?_
  rintro e w6 ⟨rfl, hb6⟩
  have HB6 := Lib.hid (HB5.out.trans (hb6.mono HB5.out.size))
  have hX6 := HX2.out.under HB6.out HX2.out.lt
  clear c0 c1 c2 c3 c4
  have c0 := hX6.cell 0
  have c1 := hX6.cell 1
  have c2 := hX6.cell 2
  have c3 := hX6.cell 3
  have c4 := hX6.cell 4
  have HD6 := Lib.hid (HDN.out _ HB6.out)
  clear hb6 hX6 HDN HI5
  go_wp2_with fail
  refine HD6.out.mono ?_
  rintro e w7 ⟨rfl, hb7⟩
  have HB7 := Lib.hid (HB2.out.trans ((HB6.out.trans (hb7.mono HB6.out.size)).mono HB2.out.size))
  have HK7 := Lib.hid (known19_any w7 (Utf8Tabs_below HT.out HB7.out))
  clear hb7 c0 c1 c2 c3 c4 HD6
  go_wp2_with fail
  refine HK7.out.mono ?_
  rintro e w8 ⟨rfl, hb8⟩
  have HB8 := Lib.hid (HB7.out.trans (hb8.mono HB7.out.size))
  clear hb8
  go_wp2_with fail
  go_ret
  exact ⟨rfl, HB8.out⟩
set_option maxRecDepth 100000 in
set_option maxHeartbeats 8000000 in
theorem odd19_2 (w : World) (hT : Lib.Utf8Tabs 0 1 w) :
    Calls Tryd.prog 4 #[.int .i64 2] w fun e w' => e = .returned (.bool true) ∧ Below w.heap.size w w' := by
  have hI : Holds ((((((w.alloc (.cells #[.int .i64 3, .string ⟨#[98]⟩] 35)).alloc (.cells #[.int .u32 3] 36)).alloc (.cells #[.int .u32 4] 36)).alloc (.cells #[.slice (some ⟨w.heap.size + 1, 0, none⟩) 1 1, .int .i64 7, .slice (some ⟨w.heap.size + 1 + 1, 0, none⟩) 1 1, .int .i64 6] 38)).alloc (.cells #[.int .u8 0] 5)).alloc (.cells #[.slice (some ⟨w.heap.size, 0, none⟩) 1 1, .int .i64 5, .int .i64 9, .slice (some ⟨w.heap.size + 1 + 1 + 1, 0, none⟩) 2 2, .slice (some ⟨w.heap.size + 1 + 1 + 1 + 1, 0, none⟩) 1 1] 26)) w.heap.size 35 #[.int .i64 3, .string ⟨#[98]⟩] := by
    have h := Holds.fresh w 35 #[.int .i64 3, .string ⟨#[98]⟩]
    exact ((((h.alloc _).alloc _).alloc _).alloc _).alloc _
  have e1 : (w.alloc (.cells #[.int .i64 3, .string ⟨#[98]⟩] 35)).heap.size = w.heap.size + 1 := by simp
  have e2 : ((w.alloc (.cells #[.int .i64 3, .string ⟨#[98]⟩] 35)).alloc (.cells #[.int .u32 3] 36)).heap.size = w.heap.size + 1 + 1 := by simp
  have e3 : (((w.alloc (.cells #[.int .i64 3, .string ⟨#[98]⟩] 35)).alloc (.cells #[.int .u32 3] 36)).alloc (.cells #[.int .u32 4] 36)).heap.size = w.heap.size + 1 + 1 + 1 := by simp
  have e4 : ((((w.alloc (.cells #[.int .i64 3, .string ⟨#[98]⟩] 35)).alloc (.cells #[.int .u32 3] 36)).alloc (.cells #[.int .u32 4] 36)).alloc (.cells #[.slice (some ⟨w.heap.size + 1, 0, none⟩) 1 1, .int .i64 7, .slice (some ⟨w.heap.size + 1 + 1, 0, none⟩) 1 1, .int .i64 6] 38)).heap.size = w.heap.size + 1 + 1 + 1 + 1 := by simp
  have e5 : (((((w.alloc (.cells #[.int .i64 3, .string ⟨#[98]⟩] 35)).alloc (.cells #[.int .u32 3] 36)).alloc (.cells #[.int .u32 4] 36)).alloc (.cells #[.slice (some ⟨w.heap.size + 1, 0, none⟩) 1 1, .int .i64 7, .slice (some ⟨w.heap.size + 1 + 1, 0, none⟩) 1 1, .int .i64 6] 38)).alloc (.cells #[.int .u8 0] 5)).heap.size = w.heap.size + 1 + 1 + 1 + 1 + 1 := by simp
  have h3 : Holds ((((((w.alloc (.cells #[.int .i64 3, .string ⟨#[98]⟩] 35)).alloc (.cells #[.int .u32 3] 36)).alloc (.cells #[.int .u32 4] 36)).alloc (.cells #[.slice (some ⟨w.heap.size + 1, 0, none⟩) 1 1, .int .i64 7, .slice (some ⟨w.heap.size + 1 + 1, 0, none⟩) 1 1, .int .i64 6] 38)).alloc (.cells #[.int .u8 0] 5)).alloc (.cells #[.slice (some ⟨w.heap.size, 0, none⟩) 1 1, .int .i64 5, .int .i64 9, .slice (some ⟨w.heap.size + 1 + 1 + 1, 0, none⟩) 2 2, .slice (some ⟨w.heap.size + 1 + 1 + 1 + 1, 0, none⟩) 1 1] 26)) (w.heap.size + 1) 36 #[.int .u32 ((3 : Nat) : Int)] := by
    have h := Holds.fresh (w.alloc (.cells #[.int .i64 3, .string ⟨#[98]⟩] 35)) 36 #[.int .u32 3]
    rw [e1] at h
    exact (((h.alloc _).alloc _).alloc _).alloc _
  have h4 : Holds ((((((w.alloc (.cells #[.int .i64 3, .string ⟨#[98]⟩] 35)).alloc (.cells #[.int .u32 3] 36)).alloc (.cells #[.int .u32 4] 36)).alloc (.cells #[.slice (some ⟨w.heap.size + 1, 0, none⟩) 1 1, .int .i64 7, .slice (some ⟨w.heap.size + 1 + 1, 0, none⟩) 1 1, .int .i64 6] 38)).alloc (.cells #[.int .u8 0] 5)).alloc (.cells #[.slice (some ⟨w.heap.size, 0, none⟩) 1 1, .int .i64 5, .int .i64 9, .slice (some ⟨w.heap.size + 1 + 1 + 1, 0, none⟩) 2 2, .slice (some ⟨w.heap.size + 1 + 1 + 1 + 1, 0, none⟩) 1 1] 26)) (w.heap.size + 1 + 1) 36 #[.int .u32 ((4 : Nat) : Int)] := by
    have h := Holds.fresh ((w.alloc (.cells #[.int .i64 3, .string ⟨#[98]⟩] 35)).alloc (.cells #[.int .u32 3] 36)) 36 #[.int .u32 4]
    rw [e2] at h
    exact ((h.alloc _).alloc _).alloc _
  have hR : Holds ((((((w.alloc (.cells #[.int .i64 3, .string ⟨#[98]⟩] 35)).alloc (.cells #[.int .u32 3] 36)).alloc (.cells #[.int .u32 4] 36)).alloc (.cells #[.slice (some ⟨w.heap.size + 1, 0, none⟩) 1 1, .int .i64 7, .slice (some ⟨w.heap.size + 1 + 1, 0, none⟩) 1 1, .int .i64 6] 38)).alloc (.cells #[.int .u8 0] 5)).alloc (.cells #[.slice (some ⟨w.heap.size, 0, none⟩) 1 1, .int .i64 5, .int .i64 9, .slice (some ⟨w.heap.size + 1 + 1 + 1, 0, none⟩) 2 2, .slice (some ⟨w.heap.size + 1 + 1 + 1 + 1, 0, none⟩) 1 1] 26)) (w.heap.size + 1 + 1 + 1) 38 #[.slice (some ⟨w.heap.size + 1, 0, none⟩) 1 1, .int .i64 7, .slice (some ⟨w.heap.size + 1 + 1, 0, none⟩) 1 1, .int .i64 6] := by
    have h := Holds.fresh (((w.alloc (.cells #[.int .i64 3, .string ⟨#[98]⟩] 35)).alloc (.cells #[.int .u32 3] 36)).alloc (.cells #[.int .u32 4] 36)) 38 #[.slice (some ⟨w.heap.size + 1, 0, none⟩) 1 1, .int .i64 7, .slice (some ⟨w.heap.size + 1 + 1, 0, none⟩) 1 1, .int .i64 6]
    rw [e3] at h
    exact (h.alloc _).alloc _
  have hS : Holds ((((((w.alloc (.cells #[.int .i64 3, .string ⟨#[98]⟩] 35)).alloc (.cells #[.int .u32 3] 36)).alloc (.cells #[.int .u32 4] 36)).alloc (.cells #[.slice (some ⟨w.heap.size + 1, 0, none⟩) 1 1, .int .i64 7, .slice (some ⟨w.heap.size + 1 + 1, 0, none⟩) 1 1, .int .i64 6] 38)).alloc (.cells #[.int .u8 0] 5)).alloc (.cells #[.slice (some ⟨w.heap.size, 0, none⟩) 1 1, .int .i64 5, .int .i64 9, .slice (some ⟨w.heap.size + 1 + 1 + 1, 0, none⟩) 2 2, .slice (some ⟨w.heap.size + 1 + 1 + 1 + 1, 0, none⟩) 1 1] 26)) (w.heap.size + 1 + 1 + 1 + 1) 5 #[.int .u8 ((0 : Nat) : Int)] := by
    have h := Holds.fresh ((((w.alloc (.cells #[.int .i64 3, .string ⟨#[98]⟩] 35)).alloc (.cells #[.int .u32 3] 36)).alloc (.cells #[.int .u32 4] 36)).alloc (.cells #[.slice (some ⟨w.heap.size + 1, 0, none⟩) 1 1, .int .i64 7, .slice (some ⟨w.heap.size + 1 + 1, 0, none⟩) 1 1, .int .i64 6] 38)) 5 #[.int .u8 0]
    rw [e4] at h
    exact h.alloc _
  have hX : Holds ((((((w.alloc (.cells #[.int .i64 3, .string ⟨#[98]⟩] 35)).alloc (.cells #[.int .u32 3] 36)).alloc (.cells #[.int .u32 4] 36)).alloc (.cells #[.slice (some ⟨w.heap.size + 1, 0, none⟩) 1 1, .int .i64 7, .slice (some ⟨w.heap.size + 1 + 1, 0, none⟩) 1 1, .int .i64 6] 38)).alloc (.cells #[.int .u8 0] 5)).alloc (.cells #[.slice (some ⟨w.heap.size, 0, none⟩) 1 1, .int .i64 5, .int .i64 9, .slice (some ⟨w.heap.size + 1 + 1 + 1, 0, none⟩) 2 2, .slice (some ⟨w.heap.size + 1 + 1 + 1 + 1, 0, none⟩) 1 1] 26)) (w.heap.size + 1 + 1 + 1 + 1 + 1) 26 #[.slice (some ⟨w.heap.size, 0, none⟩) 1 1, .int .i64 5, .int .i64 9, .slice (some ⟨w.heap.size + 1 + 1 + 1, 0, none⟩) 2 2, .slice (some ⟨w.heap.size + 1 + 1 + 1 + 1, 0, none⟩) 1 1] := by
    have h := Holds.fresh (((((w.alloc (.cells #[.int .i64 3, .string ⟨#[98]⟩] 35)).alloc (.cells #[.int .u32 3] 36)).alloc (.cells #[.int .u32 4] 36)).alloc (.cells #[.slice (some ⟨w.heap.size + 1, 0, none⟩) 1 1, .int .i64 7, .slice (some ⟨w.heap.size + 1 + 1, 0, none⟩) 1 1, .int .i64 6] 38)).alloc (.cells #[.int .u8 0] 5)) 26 #[.slice (some ⟨w.heap.size, 0, none⟩) 1 1, .int .i64 5, .int .i64 9, .slice (some ⟨w.heap.size + 1 + 1 + 1, 0, none⟩) 2 2, .slice (some ⟨w.heap.size + 1 + 1 + 1 + 1, 0, none⟩) 1 1]
    rwa [e5] at h
  have hb : Below w.heap.size w ((((((w.alloc (.cells #[.int .i64 3, .string ⟨#[98]⟩] 35)).alloc (.cells #[.int .u32 3] 36)).alloc (.cells #[.int .u32 4] 36)).alloc (.cells #[.slice (some ⟨w.heap.size + 1, 0, none⟩) 1 1, .int .i64 7, .slice (some ⟨w.heap.size + 1 + 1, 0, none⟩) 1 1, .int .i64 6] 38)).alloc (.cells #[.int .u8 0] 5)).alloc (.cells #[.slice (some ⟨w.heap.size, 0, none⟩) 1 1, .int .i64 5, .int .i64 9, .slice (some ⟨w.heap.size + 1 + 1 + 1, 0, none⟩) 2 2, .slice (some ⟨w.heap.size + 1 + 1 + 1 + 1, 0, none⟩) 1 1] 26)) := ((((((Below.refl _ _).alloc (Nat.le_refl _) _).alloc (by rw [e1]; omega) _).alloc (by rw [e2]; omega) _).alloc (by rw [e3]; omega) _).alloc (by rw [e4]; omega) _).alloc (by rw [e5]; omega) _
  clear e1 e2 e3 e4 e5
  obtain ⟨V, hV⟩ : ∃ V, V = ((((((w.alloc (.cells #[.int .i64 3, .string ⟨#[98]⟩] 35)).alloc (.cells #[.int .u32 3] 36)).alloc (.cells #[.int .u32 4] 36)).alloc (.cells #[.slice (some ⟨w.heap.size + 1, 0, none⟩) 1 1, .int .i64 7, .slice (some ⟨w.heap.size + 1 + 1, 0, none⟩) 1 1, .int .i64 6] 38)).alloc (.cells #[.int .u8 0] 5)).alloc (.cells #[.slice (some ⟨w.heap.size, 0, none⟩) 1 1, .int .i64 5, .int .i64 9, .slice (some ⟨w.heap.size + 1 + 1 + 1, 0, none⟩) 2 2, .slice (some ⟨w.heap.size + 1 + 1 + 1 + 1, 0, none⟩) 1 1] 26)) := ⟨_, rfl⟩
  rw [← hV] at hI h3 h4 hR hS hX hb
  have hC : ClP ⟨(some ⟨w.heap.size, 0, none⟩), 1, [⟨3, ⟨#[98]⟩⟩], 5, 9, (some ⟨w.heap.size + 1 + 1 + 1, 0, none⟩), 2, [⟨(some ⟨w.heap.size + 1, 0, none⟩), 1, [3], 7⟩, ⟨(some ⟨w.heap.size + 1 + 1, 0, none⟩), 1, [4], 6⟩], (some ⟨w.heap.size + 1 + 1 + 1 + 1, 0, none⟩), 1, [0]⟩ V := ⟨rdA_lit hI, gs_lit hR rfl rfl (rd32_lit h3) (rd32_lit h4) (dg_one (by decide)) (dg_one (by decide)), rd8_lit hS, oct_lit⟩
  have his := crlIs_any V _ hC (Utf8Tabs_below hT hb) sz_lit
  rw [show crlOk (Cl.v ⟨(some ⟨w.heap.size, 0, none⟩), 1, [⟨3, ⟨#[98]⟩⟩], 5, 9, (some ⟨w.heap.size + 1 + 1 + 1, 0, none⟩), 2, [⟨(some ⟨w.heap.size + 1, 0, none⟩), 1, [3], 7⟩, ⟨(some ⟨w.heap.size + 1 + 1, 0, none⟩), 1, [4], 6⟩], (some ⟨w.heap.size + 1 + 1 + 1 + 1, 0, none⟩), 1, [0]⟩) = true from odd_first] at his
  have HIS : Hid (Calls Tryd.prog 11 #[.agg #[.slice (some ⟨w.heap.size, 0, none⟩) 1 1, .int .i64 5, .int .i64 9, .slice (some ⟨w.heap.size + 1 + 1 + 1, 0, none⟩) 2 2, .slice (some ⟨w.heap.size + 1 + 1 + 1 + 1, 0, none⟩) 1 1]] V fun e w' => e = .returned (.bool true) ∧ Below V.heap.size V w') := Lib.hid his
  have HT := Lib.hid hT
  have HB := Lib.hid hb
  have HI := Lib.hid hI
  have H3 := Lib.hid h3
  have H4 := Lib.hid h4
  have HR := Lib.hid hR
  have HS := Lib.hid hS
  have HX := Lib.hid hX
  have c0 := hX.cell 0
  have c1 := hX.cell 1
  have c2 := hX.cell 2
  have c3 := hX.cell 3
  have c4 := hX.cell 4
  rw [hV] at c0 c1 c2 c3 c4
  have HV := Lib.hid hV
  clear hC his hT hb hI h3 h4 hR hS hX hV
  go_enter Tryd.func4, Tryd.ntmps4
  go_wp2_with fail
  rw [← HV.out]
  refine HIS.out.mono ?_
  rintro e w1 ⟨rfl, hb1⟩
  have HB1 := Lib.hid (HB.out.trans (hb1.mono HB.out.size))
  have HI1 := Lib.hid (HI.out.under hb1 HI.out.lt)
  have H31 := Lib.hid (H3.out.under hb1 H3.out.lt)
  have H41 := Lib.hid (H4.out.under hb1 H4.out.lt)
  have HR1 := Lib.hid (HR.out.under hb1 HR.out.lt)
  have HS1 := Lib.hid (HS.out.under hb1 HS.out.lt)
  have HX1 := Lib.hid (HX.out.under hb1 HX.out.lt)
  clear c0 c1 c2 c3 c4 HV HIS HB HI H3 H4 HR HS HX hb1
  have x0 := HR1.out.cell 0
  have x1 := HR1.out.cell 1
  have x2 := HR1.out.cell 2
  have x3 := HX1.out.cell 3
  have y0 := HR1.out.open_ 0
  have y1 := HR1.out.open_ 1
  have y2 := HR1.out.open_ 2
  have q3 : (w1.alloc (.cells #[.int .u32 3] 36)).cell? ⟨w.heap.size + 1 + 1 + 1 + 1 + 1, 3, none⟩ = some (.slice (some ⟨w.heap.size + 1 + 1 + 1, 0, none⟩) 2 2) := (HX1.out.alloc _).cell 3
  have q2 : (w1.alloc (.cells #[.int .u32 3] 36)).cell? ⟨w.heap.size + 1 + 1 + 1, 2, none⟩ = some (.slice (some ⟨w.heap.size + 1 + 1, 0, none⟩) 1 1) := (HR1.out.alloc _).cell 2
  have q0 : (w1.alloc (.cells #[.int .u32 3] 36)).frozen? ⟨w.heap.size + 1 + 1 + 1, 2, none⟩ = false := (HR1.out.alloc _).open_ 2
  have hX2 : Holds ((w1.alloc (.cells #[.int .u32 3] 36)).setCell ⟨w.heap.size + 1 + 1 + 1, 2, none⟩ (.slice (some ⟨w1.heap.size, 0, none⟩) 1 1)) (w.heap.size + 1 + 1 + 1 + 1 + 1) 26 #[.slice (some ⟨w.heap.size, 0, none⟩) 1 1, .int .i64 5, .int .i64 9, .slice (some ⟨w.heap.size + 1 + 1 + 1, 0, none⟩) 2 2, .slice (some ⟨w.heap.size + 1 + 1 + 1 + 1, 0, none⟩) 1 1] := (HX1.out.alloc _).aside (by simp <;> omega) _
  have hC2 : ClP (⟨(some ⟨w.heap.size, 0, none⟩), 1, [⟨3, ⟨#[98]⟩⟩], 5, 9, (some ⟨w.heap.size + 1 + 1 + 1, 0, none⟩), 2, [⟨(some ⟨w.heap.size + 1, 0, none⟩), 1, [3], 7⟩, ⟨(some ⟨w1.heap.size, 0, none⟩), 1, [3], 6⟩], (some ⟨w.heap.size + 1 + 1 + 1 + 1, 0, none⟩), 1, [0]⟩ : Cl) ((w1.alloc (.cells #[.int .u32 3] 36)).setCell ⟨w.heap.size + 1 + 1 + 1, 2, none⟩ (.slice (some ⟨w1.heap.size, 0, none⟩) 1 1)) := ⟨rdA_lit ((HI1.out.alloc _).aside (by simp <;> omega) _), gs_lit ((HR1.out.alloc _).stored 2 _) rfl rfl (rd32_lit ((H31.out.alloc _).aside (by simp <;> omega) _)) (rd32_lit (x := 3) ((Holds.fresh w1 36 #[.int .u32 3]).aside (by have := HR1.out.lt; simp; omega) _)) (dg_one (by decide)) (dg_one (by decide)), rd8_lit ((HS1.out.alloc _).aside (by simp <;> omega) _), oct_lit⟩
  have hB2 : Below w.heap.size w ((w1.alloc (.cells #[.int .u32 3] 36)).setCell ⟨w.heap.size + 1 + 1 + 1, 2, none⟩ (.slice (some ⟨w1.heap.size, 0, none⟩) 1 1)) := (HB1.out.alloc HB1.out.size _).setCell (by show w.heap.size ≤ w.heap.size + 1 + 1 + 1; omega) _
  have hno : crlOk (Cl.v (⟨(some ⟨w.heap.size, 0, none⟩), 1, [⟨3, ⟨#[98]⟩⟩], 5, 9, (some ⟨w.heap.size + 1 + 1 + 1, 0, none⟩), 2, [⟨(some ⟨w.heap.size + 1, 0, none⟩), 1, [3], 7⟩, ⟨(some ⟨w1.heap.size, 0, none⟩), 1, [3], 6⟩], (some ⟨w.heap.size + 1 + 1 + 1 + 1, 0, none⟩), 1, [0]⟩ : Cl)) = false := odd_2
  have hND := node_no ((w1.alloc (.cells #[.int .u32 3] 36)).setCell ⟨w.heap.size + 1 + 1 + 1, 2, none⟩ (.slice (some ⟨w1.heap.size, 0, none⟩) 1 1)) (⟨(some ⟨w.heap.size, 0, none⟩), 1, [⟨3, ⟨#[98]⟩⟩], 5, 9, (some ⟨w.heap.size + 1 + 1 + 1, 0, none⟩), 2, [⟨(some ⟨w.heap.size + 1, 0, none⟩), 1, [3], 7⟩, ⟨(some ⟨w1.heap.size, 0, none⟩), 1, [3], 6⟩], (some ⟨w.heap.size + 1 + 1 + 1 + 1, 0, none⟩), 1, [0]⟩ : Cl) hC2 (Utf8Tabs_below HT.out hB2) sz_lit hno
  have HND : Hid (Calls Tryd.prog 13 #[.agg #[.slice (some ⟨w.heap.size, 0, none⟩) 1 1, .int .i64 5, .int .i64 9, .slice (some ⟨w.heap.size + 1 + 1 + 1, 0, none⟩) 2 2, .slice (some ⟨w.heap.size + 1 + 1 + 1 + 1, 0, none⟩) 1 1]] ((w1.alloc (.cells #[.int .u32 3] 36)).setCell ⟨w.heap.size + 1 + 1 + 1, 2, none⟩ (.slice (some ⟨w1.heap.size, 0, none⟩) 1 1)) fun e w' => e = .returned (.agg #[.int .u8 0, .slice none 0 0, .slice none 0 0]) ∧ Below ((w1.alloc (.cells #[.int .u32 3] 36)).setCell ⟨w.heap.size + 1 + 1 + 1, 2, none⟩ (.slice (some ⟨w1.heap.size, 0, none⟩) 1 1)).heap.size ((w1.alloc (.cells #[.int .u32 3] 36)).setCell ⟨w.heap.size + 1 + 1 + 1, 2, none⟩ (.slice (some ⟨w1.heap.size, 0, none⟩) 1 1)) w') := Lib.hid hND
  have HISN : Hid (∀ Z, Below ((w1.alloc (.cells #[.int .u32 3] 36)).setCell ⟨w.heap.size + 1 + 1 + 1, 2, none⟩ (.slice (some ⟨w1.heap.size, 0, none⟩) 1 1)).heap.size ((w1.alloc (.cells #[.int .u32 3] 36)).setCell ⟨w.heap.size + 1 + 1 + 1, 2, none⟩ (.slice (some ⟨w1.heap.size, 0, none⟩) 1 1)) Z → Calls Tryd.prog 11 #[.agg #[.slice (some ⟨w.heap.size, 0, none⟩) 1 1, .int .i64 5, .int .i64 9, .slice (some ⟨w.heap.size + 1 + 1 + 1, 0, none⟩) 2 2, .slice (some ⟨w.heap.size + 1 + 1 + 1 + 1, 0, none⟩) 1 1]] Z fun e w' => e = .returned (.bool false) ∧ Below Z.heap.size Z w') := Lib.hid fun Z hZ => by
    have h := crlIs_any Z (⟨(some ⟨w.heap.size, 0, none⟩), 1, [⟨3, ⟨#[98]⟩⟩], 5, 9, (some ⟨w.heap.size + 1 + 1 + 1, 0, none⟩), 2, [⟨(some ⟨w.heap.size + 1, 0, none⟩), 1, [3], 7⟩, ⟨(some ⟨w1.heap.size, 0, none⟩), 1, [3], 6⟩], (some ⟨w.heap.size + 1 + 1 + 1 + 1, 0, none⟩), 1, [0]⟩ : Cl) ((Off.of_c hC2).under hZ).at_ (Utf8Tabs_below HT.out (hB2.trans (hZ.mono hB2.size))) sz_lit
    rw [hno] at h
    exact h
  have HDN : Hid (∀ Z, Below ((w1.alloc (.cells #[.int .u32 3] 36)).setCell ⟨w.heap.size + 1 + 1 + 1, 2, none⟩ (.slice (some ⟨w1.heap.size, 0, none⟩) 1 1)).heap.size ((w1.alloc (.cells #[.int .u32 3] 36)).setCell ⟨w.heap.size + 1 + 1 + 1, 2, none⟩ (.slice (some ⟨w1.heap.size, 0, none⟩) 1 1)) Z → Calls Tryd.prog 14 #[.agg #[.slice (some ⟨w.heap.size, 0, none⟩) 1 1, .int .i64 5, .int .i64 9, .slice (some ⟨w.heap.size + 1 + 1 + 1, 0, none⟩) 2 2, .slice (some ⟨w.heap.size + 1 + 1 + 1 + 1, 0, none⟩) 1 1]] Z fun e w' => e = .returned (.slice none 0 0) ∧ Below Z.heap.size Z w') := Lib.hid fun Z hZ =>
    digest_no Z (⟨(some ⟨w.heap.size, 0, none⟩), 1, [⟨3, ⟨#[98]⟩⟩], 5, 9, (some ⟨w.heap.size + 1 + 1 + 1, 0, none⟩), 2, [⟨(some ⟨w.heap.size + 1, 0, none⟩), 1, [3], 7⟩, ⟨(some ⟨w1.heap.size, 0, none⟩), 1, [3], 6⟩], (some ⟨w.heap.size + 1 + 1 + 1 + 1, 0, none⟩), 1, [0]⟩ : Cl) ((Off.of_c hC2).under hZ).at_ (Utf8Tabs_below HT.out (hB2.trans (hZ.mono hB2.size))) sz_lit hno
  have HX2 := Lib.hid hX2
  have HB2 := Lib.hid hB2
  have c0 := hX2.cell 0
  have c1 := hX2.cell 1
  have c2 := hX2.cell 2
  have c3 := hX2.cell 3
  have c4 := hX2.cell 4
  clear hX2 hC2 hB2 hno hND
  go_wp2_with fail
  refine HND.out.mono ?_
  rintro e w3 ⟨rfl, hb3⟩
  have HB3 := Lib.hid hb3
  clear c0 c1 c2 c3 c4 hb3 HND
  go_wp2_with fail
  refine (get_none w3).mono ?_
  rintro e w4 ⟨rfl, hb4⟩
  have hq : Below w4.heap.size w4 (w4.alloc (.cells #[.slice none 0 0, .int .i64 0, .int .i64 0, .slice none 0 0, .slice none 0 0] 26)) := (Below.refl _ _).alloc (Nat.le_refl _) _
  have h34 := HB3.out.trans (hb4.mono HB3.out.size)
  have HB5 := Lib.hid (h34.trans (hq.mono h34.size))
  have hX5 := HX2.out.under HB5.out HX2.out.lt
  have c0 := hX5.cell 0
  have c1 := hX5.cell 1
  have c2 := hX5.cell 2
  have c3 := hX5.cell 3
  have c4 := hX5.cell 4
  have HI5 := Lib.hid (HISN.out _ HB5.out)
  clear hb4 hq h34 hX5 HISN
  go_wp2_with fail
  refine HI5.out.mono ?_
  rintro e w6 ⟨rfl, hb6⟩
  have HB6 := Lib.hid (HB5.out.trans (hb6.mono HB5.out.size))
  have hX6 := HX2.out.under HB6.out HX2.out.lt
  clear c0 c1 c2 c3 c4
  have c0 := hX6.cell 0
  have c1 := hX6.cell 1
  have c2 := hX6.cell 2
  have c3 := hX6.cell 3
  have c4 := hX6.cell 4
  have HD6 := Lib.hid (HDN.out _ HB6.out)
  clear hb6 hX6 HDN HI5
  go_wp2_with fail
  refine HD6.out.mono ?_
  rintro e w7 ⟨rfl, hb7⟩
  have HB7 := Lib.hid (HB2.out.trans ((HB6.out.trans (hb7.mono HB6.out.size)).mono HB2.out.size))
  have HK7 := Lib.hid (known19_any w7 (Utf8Tabs_below HT.out HB7.out))
  clear hb7 c0 c1 c2 c3 c4 HD6
  go_wp2_with fail
  refine HK7.out.mono ?_
  rintro e w8 ⟨rfl, hb8⟩
  have HB8 := Lib.hid (HB7.out.trans (hb8.mono HB7.out.size))
  clear hb8
  go_wp2_with fail
  go_ret
  exact ⟨rfl, HB8.out⟩
set_option maxRecDepth 100000 in
set_option maxHeartbeats 8000000 in
theorem odd19_3 (w : World) (hT : Lib.Utf8Tabs 0 1 w) :
    Calls Tryd.prog 4 #[.int .i64 3] w fun e w' => e = .returned (.bool true) ∧ Below w.heap.size w w' := by
  have hI : Holds ((((((w.alloc (.cells #[.int .i64 3, .string ⟨#[98]⟩] 35)).alloc (.cells #[.int .u32 3] 36)).alloc (.cells #[.int .u32 4] 36)).alloc (.cells #[.slice (some ⟨w.heap.size + 1, 0, none⟩) 1 1, .int .i64 7, .slice (some ⟨w.heap.size + 1 + 1, 0, none⟩) 1 1, .int .i64 6] 38)).alloc (.cells #[.int .u8 0] 5)).alloc (.cells #[.slice (some ⟨w.heap.size, 0, none⟩) 1 1, .int .i64 5, .int .i64 9, .slice (some ⟨w.heap.size + 1 + 1 + 1, 0, none⟩) 2 2, .slice (some ⟨w.heap.size + 1 + 1 + 1 + 1, 0, none⟩) 1 1] 26)) w.heap.size 35 #[.int .i64 3, .string ⟨#[98]⟩] := by
    have h := Holds.fresh w 35 #[.int .i64 3, .string ⟨#[98]⟩]
    exact ((((h.alloc _).alloc _).alloc _).alloc _).alloc _
  have e1 : (w.alloc (.cells #[.int .i64 3, .string ⟨#[98]⟩] 35)).heap.size = w.heap.size + 1 := by simp
  have e2 : ((w.alloc (.cells #[.int .i64 3, .string ⟨#[98]⟩] 35)).alloc (.cells #[.int .u32 3] 36)).heap.size = w.heap.size + 1 + 1 := by simp
  have e3 : (((w.alloc (.cells #[.int .i64 3, .string ⟨#[98]⟩] 35)).alloc (.cells #[.int .u32 3] 36)).alloc (.cells #[.int .u32 4] 36)).heap.size = w.heap.size + 1 + 1 + 1 := by simp
  have e4 : ((((w.alloc (.cells #[.int .i64 3, .string ⟨#[98]⟩] 35)).alloc (.cells #[.int .u32 3] 36)).alloc (.cells #[.int .u32 4] 36)).alloc (.cells #[.slice (some ⟨w.heap.size + 1, 0, none⟩) 1 1, .int .i64 7, .slice (some ⟨w.heap.size + 1 + 1, 0, none⟩) 1 1, .int .i64 6] 38)).heap.size = w.heap.size + 1 + 1 + 1 + 1 := by simp
  have e5 : (((((w.alloc (.cells #[.int .i64 3, .string ⟨#[98]⟩] 35)).alloc (.cells #[.int .u32 3] 36)).alloc (.cells #[.int .u32 4] 36)).alloc (.cells #[.slice (some ⟨w.heap.size + 1, 0, none⟩) 1 1, .int .i64 7, .slice (some ⟨w.heap.size + 1 + 1, 0, none⟩) 1 1, .int .i64 6] 38)).alloc (.cells #[.int .u8 0] 5)).heap.size = w.heap.size + 1 + 1 + 1 + 1 + 1 := by simp
  have h3 : Holds ((((((w.alloc (.cells #[.int .i64 3, .string ⟨#[98]⟩] 35)).alloc (.cells #[.int .u32 3] 36)).alloc (.cells #[.int .u32 4] 36)).alloc (.cells #[.slice (some ⟨w.heap.size + 1, 0, none⟩) 1 1, .int .i64 7, .slice (some ⟨w.heap.size + 1 + 1, 0, none⟩) 1 1, .int .i64 6] 38)).alloc (.cells #[.int .u8 0] 5)).alloc (.cells #[.slice (some ⟨w.heap.size, 0, none⟩) 1 1, .int .i64 5, .int .i64 9, .slice (some ⟨w.heap.size + 1 + 1 + 1, 0, none⟩) 2 2, .slice (some ⟨w.heap.size + 1 + 1 + 1 + 1, 0, none⟩) 1 1] 26)) (w.heap.size + 1) 36 #[.int .u32 ((3 : Nat) : Int)] := by
    have h := Holds.fresh (w.alloc (.cells #[.int .i64 3, .string ⟨#[98]⟩] 35)) 36 #[.int .u32 3]
    rw [e1] at h
    exact (((h.alloc _).alloc _).alloc _).alloc _
  have h4 : Holds ((((((w.alloc (.cells #[.int .i64 3, .string ⟨#[98]⟩] 35)).alloc (.cells #[.int .u32 3] 36)).alloc (.cells #[.int .u32 4] 36)).alloc (.cells #[.slice (some ⟨w.heap.size + 1, 0, none⟩) 1 1, .int .i64 7, .slice (some ⟨w.heap.size + 1 + 1, 0, none⟩) 1 1, .int .i64 6] 38)).alloc (.cells #[.int .u8 0] 5)).alloc (.cells #[.slice (some ⟨w.heap.size, 0, none⟩) 1 1, .int .i64 5, .int .i64 9, .slice (some ⟨w.heap.size + 1 + 1 + 1, 0, none⟩) 2 2, .slice (some ⟨w.heap.size + 1 + 1 + 1 + 1, 0, none⟩) 1 1] 26)) (w.heap.size + 1 + 1) 36 #[.int .u32 ((4 : Nat) : Int)] := by
    have h := Holds.fresh ((w.alloc (.cells #[.int .i64 3, .string ⟨#[98]⟩] 35)).alloc (.cells #[.int .u32 3] 36)) 36 #[.int .u32 4]
    rw [e2] at h
    exact ((h.alloc _).alloc _).alloc _
  have hR : Holds ((((((w.alloc (.cells #[.int .i64 3, .string ⟨#[98]⟩] 35)).alloc (.cells #[.int .u32 3] 36)).alloc (.cells #[.int .u32 4] 36)).alloc (.cells #[.slice (some ⟨w.heap.size + 1, 0, none⟩) 1 1, .int .i64 7, .slice (some ⟨w.heap.size + 1 + 1, 0, none⟩) 1 1, .int .i64 6] 38)).alloc (.cells #[.int .u8 0] 5)).alloc (.cells #[.slice (some ⟨w.heap.size, 0, none⟩) 1 1, .int .i64 5, .int .i64 9, .slice (some ⟨w.heap.size + 1 + 1 + 1, 0, none⟩) 2 2, .slice (some ⟨w.heap.size + 1 + 1 + 1 + 1, 0, none⟩) 1 1] 26)) (w.heap.size + 1 + 1 + 1) 38 #[.slice (some ⟨w.heap.size + 1, 0, none⟩) 1 1, .int .i64 7, .slice (some ⟨w.heap.size + 1 + 1, 0, none⟩) 1 1, .int .i64 6] := by
    have h := Holds.fresh (((w.alloc (.cells #[.int .i64 3, .string ⟨#[98]⟩] 35)).alloc (.cells #[.int .u32 3] 36)).alloc (.cells #[.int .u32 4] 36)) 38 #[.slice (some ⟨w.heap.size + 1, 0, none⟩) 1 1, .int .i64 7, .slice (some ⟨w.heap.size + 1 + 1, 0, none⟩) 1 1, .int .i64 6]
    rw [e3] at h
    exact (h.alloc _).alloc _
  have hS : Holds ((((((w.alloc (.cells #[.int .i64 3, .string ⟨#[98]⟩] 35)).alloc (.cells #[.int .u32 3] 36)).alloc (.cells #[.int .u32 4] 36)).alloc (.cells #[.slice (some ⟨w.heap.size + 1, 0, none⟩) 1 1, .int .i64 7, .slice (some ⟨w.heap.size + 1 + 1, 0, none⟩) 1 1, .int .i64 6] 38)).alloc (.cells #[.int .u8 0] 5)).alloc (.cells #[.slice (some ⟨w.heap.size, 0, none⟩) 1 1, .int .i64 5, .int .i64 9, .slice (some ⟨w.heap.size + 1 + 1 + 1, 0, none⟩) 2 2, .slice (some ⟨w.heap.size + 1 + 1 + 1 + 1, 0, none⟩) 1 1] 26)) (w.heap.size + 1 + 1 + 1 + 1) 5 #[.int .u8 ((0 : Nat) : Int)] := by
    have h := Holds.fresh ((((w.alloc (.cells #[.int .i64 3, .string ⟨#[98]⟩] 35)).alloc (.cells #[.int .u32 3] 36)).alloc (.cells #[.int .u32 4] 36)).alloc (.cells #[.slice (some ⟨w.heap.size + 1, 0, none⟩) 1 1, .int .i64 7, .slice (some ⟨w.heap.size + 1 + 1, 0, none⟩) 1 1, .int .i64 6] 38)) 5 #[.int .u8 0]
    rw [e4] at h
    exact h.alloc _
  have hX : Holds ((((((w.alloc (.cells #[.int .i64 3, .string ⟨#[98]⟩] 35)).alloc (.cells #[.int .u32 3] 36)).alloc (.cells #[.int .u32 4] 36)).alloc (.cells #[.slice (some ⟨w.heap.size + 1, 0, none⟩) 1 1, .int .i64 7, .slice (some ⟨w.heap.size + 1 + 1, 0, none⟩) 1 1, .int .i64 6] 38)).alloc (.cells #[.int .u8 0] 5)).alloc (.cells #[.slice (some ⟨w.heap.size, 0, none⟩) 1 1, .int .i64 5, .int .i64 9, .slice (some ⟨w.heap.size + 1 + 1 + 1, 0, none⟩) 2 2, .slice (some ⟨w.heap.size + 1 + 1 + 1 + 1, 0, none⟩) 1 1] 26)) (w.heap.size + 1 + 1 + 1 + 1 + 1) 26 #[.slice (some ⟨w.heap.size, 0, none⟩) 1 1, .int .i64 5, .int .i64 9, .slice (some ⟨w.heap.size + 1 + 1 + 1, 0, none⟩) 2 2, .slice (some ⟨w.heap.size + 1 + 1 + 1 + 1, 0, none⟩) 1 1] := by
    have h := Holds.fresh (((((w.alloc (.cells #[.int .i64 3, .string ⟨#[98]⟩] 35)).alloc (.cells #[.int .u32 3] 36)).alloc (.cells #[.int .u32 4] 36)).alloc (.cells #[.slice (some ⟨w.heap.size + 1, 0, none⟩) 1 1, .int .i64 7, .slice (some ⟨w.heap.size + 1 + 1, 0, none⟩) 1 1, .int .i64 6] 38)).alloc (.cells #[.int .u8 0] 5)) 26 #[.slice (some ⟨w.heap.size, 0, none⟩) 1 1, .int .i64 5, .int .i64 9, .slice (some ⟨w.heap.size + 1 + 1 + 1, 0, none⟩) 2 2, .slice (some ⟨w.heap.size + 1 + 1 + 1 + 1, 0, none⟩) 1 1]
    rwa [e5] at h
  have hb : Below w.heap.size w ((((((w.alloc (.cells #[.int .i64 3, .string ⟨#[98]⟩] 35)).alloc (.cells #[.int .u32 3] 36)).alloc (.cells #[.int .u32 4] 36)).alloc (.cells #[.slice (some ⟨w.heap.size + 1, 0, none⟩) 1 1, .int .i64 7, .slice (some ⟨w.heap.size + 1 + 1, 0, none⟩) 1 1, .int .i64 6] 38)).alloc (.cells #[.int .u8 0] 5)).alloc (.cells #[.slice (some ⟨w.heap.size, 0, none⟩) 1 1, .int .i64 5, .int .i64 9, .slice (some ⟨w.heap.size + 1 + 1 + 1, 0, none⟩) 2 2, .slice (some ⟨w.heap.size + 1 + 1 + 1 + 1, 0, none⟩) 1 1] 26)) := ((((((Below.refl _ _).alloc (Nat.le_refl _) _).alloc (by rw [e1]; omega) _).alloc (by rw [e2]; omega) _).alloc (by rw [e3]; omega) _).alloc (by rw [e4]; omega) _).alloc (by rw [e5]; omega) _
  clear e1 e2 e3 e4 e5
  obtain ⟨V, hV⟩ : ∃ V, V = ((((((w.alloc (.cells #[.int .i64 3, .string ⟨#[98]⟩] 35)).alloc (.cells #[.int .u32 3] 36)).alloc (.cells #[.int .u32 4] 36)).alloc (.cells #[.slice (some ⟨w.heap.size + 1, 0, none⟩) 1 1, .int .i64 7, .slice (some ⟨w.heap.size + 1 + 1, 0, none⟩) 1 1, .int .i64 6] 38)).alloc (.cells #[.int .u8 0] 5)).alloc (.cells #[.slice (some ⟨w.heap.size, 0, none⟩) 1 1, .int .i64 5, .int .i64 9, .slice (some ⟨w.heap.size + 1 + 1 + 1, 0, none⟩) 2 2, .slice (some ⟨w.heap.size + 1 + 1 + 1 + 1, 0, none⟩) 1 1] 26)) := ⟨_, rfl⟩
  rw [← hV] at hI h3 h4 hR hS hX hb
  have hC : ClP ⟨(some ⟨w.heap.size, 0, none⟩), 1, [⟨3, ⟨#[98]⟩⟩], 5, 9, (some ⟨w.heap.size + 1 + 1 + 1, 0, none⟩), 2, [⟨(some ⟨w.heap.size + 1, 0, none⟩), 1, [3], 7⟩, ⟨(some ⟨w.heap.size + 1 + 1, 0, none⟩), 1, [4], 6⟩], (some ⟨w.heap.size + 1 + 1 + 1 + 1, 0, none⟩), 1, [0]⟩ V := ⟨rdA_lit hI, gs_lit hR rfl rfl (rd32_lit h3) (rd32_lit h4) (dg_one (by decide)) (dg_one (by decide)), rd8_lit hS, oct_lit⟩
  have his := crlIs_any V _ hC (Utf8Tabs_below hT hb) sz_lit
  rw [show crlOk (Cl.v ⟨(some ⟨w.heap.size, 0, none⟩), 1, [⟨3, ⟨#[98]⟩⟩], 5, 9, (some ⟨w.heap.size + 1 + 1 + 1, 0, none⟩), 2, [⟨(some ⟨w.heap.size + 1, 0, none⟩), 1, [3], 7⟩, ⟨(some ⟨w.heap.size + 1 + 1, 0, none⟩), 1, [4], 6⟩], (some ⟨w.heap.size + 1 + 1 + 1 + 1, 0, none⟩), 1, [0]⟩) = true from odd_first] at his
  have HIS : Hid (Calls Tryd.prog 11 #[.agg #[.slice (some ⟨w.heap.size, 0, none⟩) 1 1, .int .i64 5, .int .i64 9, .slice (some ⟨w.heap.size + 1 + 1 + 1, 0, none⟩) 2 2, .slice (some ⟨w.heap.size + 1 + 1 + 1 + 1, 0, none⟩) 1 1]] V fun e w' => e = .returned (.bool true) ∧ Below V.heap.size V w') := Lib.hid his
  have HT := Lib.hid hT
  have HB := Lib.hid hb
  have HI := Lib.hid hI
  have H3 := Lib.hid h3
  have H4 := Lib.hid h4
  have HR := Lib.hid hR
  have HS := Lib.hid hS
  have HX := Lib.hid hX
  have c0 := hX.cell 0
  have c1 := hX.cell 1
  have c2 := hX.cell 2
  have c3 := hX.cell 3
  have c4 := hX.cell 4
  rw [hV] at c0 c1 c2 c3 c4
  have HV := Lib.hid hV
  clear hC his hT hb hI h3 h4 hR hS hX hV
  go_enter Tryd.func4, Tryd.ntmps4
  go_wp2_with fail
  rw [← HV.out]
  refine HIS.out.mono ?_
  rintro e w1 ⟨rfl, hb1⟩
  have HB1 := Lib.hid (HB.out.trans (hb1.mono HB.out.size))
  have HI1 := Lib.hid (HI.out.under hb1 HI.out.lt)
  have H31 := Lib.hid (H3.out.under hb1 H3.out.lt)
  have H41 := Lib.hid (H4.out.under hb1 H4.out.lt)
  have HR1 := Lib.hid (HR.out.under hb1 HR.out.lt)
  have HS1 := Lib.hid (HS.out.under hb1 HS.out.lt)
  have HX1 := Lib.hid (HX.out.under hb1 HX.out.lt)
  clear c0 c1 c2 c3 c4 HV HIS HB HI H3 H4 HR HS HX hb1
  have x0 := HR1.out.cell 0
  have x1 := HR1.out.cell 1
  have x2 := HR1.out.cell 2
  have x3 := HX1.out.cell 3
  have y0 := HR1.out.open_ 0
  have y1 := HR1.out.open_ 1
  have y2 := HR1.out.open_ 2
  have hX2 : Holds (w1.setCell ⟨w.heap.size + 1 + 1 + 1, 0, none⟩ (.slice none 0 0)) (w.heap.size + 1 + 1 + 1 + 1 + 1) 26 #[.slice (some ⟨w.heap.size, 0, none⟩) 1 1, .int .i64 5, .int .i64 9, .slice (some ⟨w.heap.size + 1 + 1 + 1, 0, none⟩) 2 2, .slice (some ⟨w.heap.size + 1 + 1 + 1 + 1, 0, none⟩) 1 1] := HX1.out.aside (by simp <;> omega) _
  have hC2 : ClP (⟨(some ⟨w.heap.size, 0, none⟩), 1, [⟨3, ⟨#[98]⟩⟩], 5, 9, (some ⟨w.heap.size + 1 + 1 + 1, 0, none⟩), 2, [⟨none, 0, [], 7⟩, ⟨(some ⟨w.heap.size + 1 + 1, 0, none⟩), 1, [4], 6⟩], (some ⟨w.heap.size + 1 + 1 + 1 + 1, 0, none⟩), 1, [0]⟩ : Cl) (w1.setCell ⟨w.heap.size + 1 + 1 + 1, 0, none⟩ (.slice none 0 0)) := ⟨rdA_lit (HI1.out.aside (by simp <;> omega) _), gs_lit (HR1.out.stored _ _) rfl rfl (Rd.nil_ _ _ _) (rd32_lit (H41.out.aside (by simp <;> omega) _)) dg_nil (dg_one (by decide)), rd8_lit (HS1.out.aside (by simp <;> omega) _), oct_lit⟩
  have hB2 : Below w.heap.size w (w1.setCell ⟨w.heap.size + 1 + 1 + 1, 0, none⟩ (.slice none 0 0)) := HB1.out.setCell (by show w.heap.size ≤ w.heap.size + 1 + 1 + 1; omega) _
  have hno : crlOk (Cl.v (⟨(some ⟨w.heap.size, 0, none⟩), 1, [⟨3, ⟨#[98]⟩⟩], 5, 9, (some ⟨w.heap.size + 1 + 1 + 1, 0, none⟩), 2, [⟨none, 0, [], 7⟩, ⟨(some ⟨w.heap.size + 1 + 1, 0, none⟩), 1, [4], 6⟩], (some ⟨w.heap.size + 1 + 1 + 1 + 1, 0, none⟩), 1, [0]⟩ : Cl)) = false := odd_3
  have hND := node_no (w1.setCell ⟨w.heap.size + 1 + 1 + 1, 0, none⟩ (.slice none 0 0)) (⟨(some ⟨w.heap.size, 0, none⟩), 1, [⟨3, ⟨#[98]⟩⟩], 5, 9, (some ⟨w.heap.size + 1 + 1 + 1, 0, none⟩), 2, [⟨none, 0, [], 7⟩, ⟨(some ⟨w.heap.size + 1 + 1, 0, none⟩), 1, [4], 6⟩], (some ⟨w.heap.size + 1 + 1 + 1 + 1, 0, none⟩), 1, [0]⟩ : Cl) hC2 (Utf8Tabs_below HT.out hB2) sz_lit hno
  have HND : Hid (Calls Tryd.prog 13 #[.agg #[.slice (some ⟨w.heap.size, 0, none⟩) 1 1, .int .i64 5, .int .i64 9, .slice (some ⟨w.heap.size + 1 + 1 + 1, 0, none⟩) 2 2, .slice (some ⟨w.heap.size + 1 + 1 + 1 + 1, 0, none⟩) 1 1]] (w1.setCell ⟨w.heap.size + 1 + 1 + 1, 0, none⟩ (.slice none 0 0)) fun e w' => e = .returned (.agg #[.int .u8 0, .slice none 0 0, .slice none 0 0]) ∧ Below (w1.setCell ⟨w.heap.size + 1 + 1 + 1, 0, none⟩ (.slice none 0 0)).heap.size (w1.setCell ⟨w.heap.size + 1 + 1 + 1, 0, none⟩ (.slice none 0 0)) w') := Lib.hid hND
  have HISN : Hid (∀ Z, Below (w1.setCell ⟨w.heap.size + 1 + 1 + 1, 0, none⟩ (.slice none 0 0)).heap.size (w1.setCell ⟨w.heap.size + 1 + 1 + 1, 0, none⟩ (.slice none 0 0)) Z → Calls Tryd.prog 11 #[.agg #[.slice (some ⟨w.heap.size, 0, none⟩) 1 1, .int .i64 5, .int .i64 9, .slice (some ⟨w.heap.size + 1 + 1 + 1, 0, none⟩) 2 2, .slice (some ⟨w.heap.size + 1 + 1 + 1 + 1, 0, none⟩) 1 1]] Z fun e w' => e = .returned (.bool false) ∧ Below Z.heap.size Z w') := Lib.hid fun Z hZ => by
    have h := crlIs_any Z (⟨(some ⟨w.heap.size, 0, none⟩), 1, [⟨3, ⟨#[98]⟩⟩], 5, 9, (some ⟨w.heap.size + 1 + 1 + 1, 0, none⟩), 2, [⟨none, 0, [], 7⟩, ⟨(some ⟨w.heap.size + 1 + 1, 0, none⟩), 1, [4], 6⟩], (some ⟨w.heap.size + 1 + 1 + 1 + 1, 0, none⟩), 1, [0]⟩ : Cl) ((Off.of_c hC2).under hZ).at_ (Utf8Tabs_below HT.out (hB2.trans (hZ.mono hB2.size))) sz_lit
    rw [hno] at h
    exact h
  have HDN : Hid (∀ Z, Below (w1.setCell ⟨w.heap.size + 1 + 1 + 1, 0, none⟩ (.slice none 0 0)).heap.size (w1.setCell ⟨w.heap.size + 1 + 1 + 1, 0, none⟩ (.slice none 0 0)) Z → Calls Tryd.prog 14 #[.agg #[.slice (some ⟨w.heap.size, 0, none⟩) 1 1, .int .i64 5, .int .i64 9, .slice (some ⟨w.heap.size + 1 + 1 + 1, 0, none⟩) 2 2, .slice (some ⟨w.heap.size + 1 + 1 + 1 + 1, 0, none⟩) 1 1]] Z fun e w' => e = .returned (.slice none 0 0) ∧ Below Z.heap.size Z w') := Lib.hid fun Z hZ =>
    digest_no Z (⟨(some ⟨w.heap.size, 0, none⟩), 1, [⟨3, ⟨#[98]⟩⟩], 5, 9, (some ⟨w.heap.size + 1 + 1 + 1, 0, none⟩), 2, [⟨none, 0, [], 7⟩, ⟨(some ⟨w.heap.size + 1 + 1, 0, none⟩), 1, [4], 6⟩], (some ⟨w.heap.size + 1 + 1 + 1 + 1, 0, none⟩), 1, [0]⟩ : Cl) ((Off.of_c hC2).under hZ).at_ (Utf8Tabs_below HT.out (hB2.trans (hZ.mono hB2.size))) sz_lit hno
  have HX2 := Lib.hid hX2
  have HB2 := Lib.hid hB2
  have c0 := hX2.cell 0
  have c1 := hX2.cell 1
  have c2 := hX2.cell 2
  have c3 := hX2.cell 3
  have c4 := hX2.cell 4
  clear hX2 hC2 hB2 hno hND
  go_wp2_with fail
  refine HND.out.mono ?_
  rintro e w3 ⟨rfl, hb3⟩
  have HB3 := Lib.hid hb3
  clear c0 c1 c2 c3 c4 hb3 HND
  go_wp2_with fail
  refine (get_none w3).mono ?_
  rintro e w4 ⟨rfl, hb4⟩
  have hq : Below w4.heap.size w4 (w4.alloc (.cells #[.slice none 0 0, .int .i64 0, .int .i64 0, .slice none 0 0, .slice none 0 0] 26)) := (Below.refl _ _).alloc (Nat.le_refl _) _
  have h34 := HB3.out.trans (hb4.mono HB3.out.size)
  have HB5 := Lib.hid (h34.trans (hq.mono h34.size))
  have hX5 := HX2.out.under HB5.out HX2.out.lt
  have c0 := hX5.cell 0
  have c1 := hX5.cell 1
  have c2 := hX5.cell 2
  have c3 := hX5.cell 3
  have c4 := hX5.cell 4
  have HI5 := Lib.hid (HISN.out _ HB5.out)
  clear hb4 hq h34 hX5 HISN
  go_wp2_with fail
  refine HI5.out.mono ?_
  rintro e w6 ⟨rfl, hb6⟩
  have HB6 := Lib.hid (HB5.out.trans (hb6.mono HB5.out.size))
  have hX6 := HX2.out.under HB6.out HX2.out.lt
  clear c0 c1 c2 c3 c4
  have c0 := hX6.cell 0
  have c1 := hX6.cell 1
  have c2 := hX6.cell 2
  have c3 := hX6.cell 3
  have c4 := hX6.cell 4
  have HD6 := Lib.hid (HDN.out _ HB6.out)
  clear hb6 hX6 HDN HI5
  go_wp2_with fail
  refine HD6.out.mono ?_
  rintro e w7 ⟨rfl, hb7⟩
  have HB7 := Lib.hid (HB2.out.trans ((HB6.out.trans (hb7.mono HB6.out.size)).mono HB2.out.size))
  have HK7 := Lib.hid (known19_any w7 (Utf8Tabs_below HT.out HB7.out))
  clear hb7 c0 c1 c2 c3 c4 HD6
  go_wp2_with fail
  refine HK7.out.mono ?_
  rintro e w8 ⟨rfl, hb8⟩
  have HB8 := Lib.hid (HB7.out.trans (hb8.mono HB7.out.size))
  clear hb8
  go_wp2_with fail
  go_ret
  exact ⟨rfl, HB8.out⟩
set_option maxRecDepth 100000 in
set_option maxHeartbeats 8000000 in
theorem odd19_4 (w : World) (hT : Lib.Utf8Tabs 0 1 w) :
    Calls Tryd.prog 4 #[.int .i64 4] w fun e w' => e = .returned (.bool true) ∧ Below w.heap.size w w' := by
  have hI : Holds ((((((w.alloc (.cells #[.int .i64 3, .string ⟨#[98]⟩] 35)).alloc (.cells #[.int .u32 3] 36)).alloc (.cells #[.int .u32 4] 36)).alloc (.cells #[.slice (some ⟨w.heap.size + 1, 0, none⟩) 1 1, .int .i64 7, .slice (some ⟨w.heap.size + 1 + 1, 0, none⟩) 1 1, .int .i64 6] 38)).alloc (.cells #[.int .u8 0] 5)).alloc (.cells #[.slice (some ⟨w.heap.size, 0, none⟩) 1 1, .int .i64 5, .int .i64 9, .slice (some ⟨w.heap.size + 1 + 1 + 1, 0, none⟩) 2 2, .slice (some ⟨w.heap.size + 1 + 1 + 1 + 1, 0, none⟩) 1 1] 26)) w.heap.size 35 #[.int .i64 3, .string ⟨#[98]⟩] := by
    have h := Holds.fresh w 35 #[.int .i64 3, .string ⟨#[98]⟩]
    exact ((((h.alloc _).alloc _).alloc _).alloc _).alloc _
  have e1 : (w.alloc (.cells #[.int .i64 3, .string ⟨#[98]⟩] 35)).heap.size = w.heap.size + 1 := by simp
  have e2 : ((w.alloc (.cells #[.int .i64 3, .string ⟨#[98]⟩] 35)).alloc (.cells #[.int .u32 3] 36)).heap.size = w.heap.size + 1 + 1 := by simp
  have e3 : (((w.alloc (.cells #[.int .i64 3, .string ⟨#[98]⟩] 35)).alloc (.cells #[.int .u32 3] 36)).alloc (.cells #[.int .u32 4] 36)).heap.size = w.heap.size + 1 + 1 + 1 := by simp
  have e4 : ((((w.alloc (.cells #[.int .i64 3, .string ⟨#[98]⟩] 35)).alloc (.cells #[.int .u32 3] 36)).alloc (.cells #[.int .u32 4] 36)).alloc (.cells #[.slice (some ⟨w.heap.size + 1, 0, none⟩) 1 1, .int .i64 7, .slice (some ⟨w.heap.size + 1 + 1, 0, none⟩) 1 1, .int .i64 6] 38)).heap.size = w.heap.size + 1 + 1 + 1 + 1 := by simp
  have e5 : (((((w.alloc (.cells #[.int .i64 3, .string ⟨#[98]⟩] 35)).alloc (.cells #[.int .u32 3] 36)).alloc (.cells #[.int .u32 4] 36)).alloc (.cells #[.slice (some ⟨w.heap.size + 1, 0, none⟩) 1 1, .int .i64 7, .slice (some ⟨w.heap.size + 1 + 1, 0, none⟩) 1 1, .int .i64 6] 38)).alloc (.cells #[.int .u8 0] 5)).heap.size = w.heap.size + 1 + 1 + 1 + 1 + 1 := by simp
  have h3 : Holds ((((((w.alloc (.cells #[.int .i64 3, .string ⟨#[98]⟩] 35)).alloc (.cells #[.int .u32 3] 36)).alloc (.cells #[.int .u32 4] 36)).alloc (.cells #[.slice (some ⟨w.heap.size + 1, 0, none⟩) 1 1, .int .i64 7, .slice (some ⟨w.heap.size + 1 + 1, 0, none⟩) 1 1, .int .i64 6] 38)).alloc (.cells #[.int .u8 0] 5)).alloc (.cells #[.slice (some ⟨w.heap.size, 0, none⟩) 1 1, .int .i64 5, .int .i64 9, .slice (some ⟨w.heap.size + 1 + 1 + 1, 0, none⟩) 2 2, .slice (some ⟨w.heap.size + 1 + 1 + 1 + 1, 0, none⟩) 1 1] 26)) (w.heap.size + 1) 36 #[.int .u32 ((3 : Nat) : Int)] := by
    have h := Holds.fresh (w.alloc (.cells #[.int .i64 3, .string ⟨#[98]⟩] 35)) 36 #[.int .u32 3]
    rw [e1] at h
    exact (((h.alloc _).alloc _).alloc _).alloc _
  have h4 : Holds ((((((w.alloc (.cells #[.int .i64 3, .string ⟨#[98]⟩] 35)).alloc (.cells #[.int .u32 3] 36)).alloc (.cells #[.int .u32 4] 36)).alloc (.cells #[.slice (some ⟨w.heap.size + 1, 0, none⟩) 1 1, .int .i64 7, .slice (some ⟨w.heap.size + 1 + 1, 0, none⟩) 1 1, .int .i64 6] 38)).alloc (.cells #[.int .u8 0] 5)).alloc (.cells #[.slice (some ⟨w.heap.size, 0, none⟩) 1 1, .int .i64 5, .int .i64 9, .slice (some ⟨w.heap.size + 1 + 1 + 1, 0, none⟩) 2 2, .slice (some ⟨w.heap.size + 1 + 1 + 1 + 1, 0, none⟩) 1 1] 26)) (w.heap.size + 1 + 1) 36 #[.int .u32 ((4 : Nat) : Int)] := by
    have h := Holds.fresh ((w.alloc (.cells #[.int .i64 3, .string ⟨#[98]⟩] 35)).alloc (.cells #[.int .u32 3] 36)) 36 #[.int .u32 4]
    rw [e2] at h
    exact ((h.alloc _).alloc _).alloc _
  have hR : Holds ((((((w.alloc (.cells #[.int .i64 3, .string ⟨#[98]⟩] 35)).alloc (.cells #[.int .u32 3] 36)).alloc (.cells #[.int .u32 4] 36)).alloc (.cells #[.slice (some ⟨w.heap.size + 1, 0, none⟩) 1 1, .int .i64 7, .slice (some ⟨w.heap.size + 1 + 1, 0, none⟩) 1 1, .int .i64 6] 38)).alloc (.cells #[.int .u8 0] 5)).alloc (.cells #[.slice (some ⟨w.heap.size, 0, none⟩) 1 1, .int .i64 5, .int .i64 9, .slice (some ⟨w.heap.size + 1 + 1 + 1, 0, none⟩) 2 2, .slice (some ⟨w.heap.size + 1 + 1 + 1 + 1, 0, none⟩) 1 1] 26)) (w.heap.size + 1 + 1 + 1) 38 #[.slice (some ⟨w.heap.size + 1, 0, none⟩) 1 1, .int .i64 7, .slice (some ⟨w.heap.size + 1 + 1, 0, none⟩) 1 1, .int .i64 6] := by
    have h := Holds.fresh (((w.alloc (.cells #[.int .i64 3, .string ⟨#[98]⟩] 35)).alloc (.cells #[.int .u32 3] 36)).alloc (.cells #[.int .u32 4] 36)) 38 #[.slice (some ⟨w.heap.size + 1, 0, none⟩) 1 1, .int .i64 7, .slice (some ⟨w.heap.size + 1 + 1, 0, none⟩) 1 1, .int .i64 6]
    rw [e3] at h
    exact (h.alloc _).alloc _
  have hS : Holds ((((((w.alloc (.cells #[.int .i64 3, .string ⟨#[98]⟩] 35)).alloc (.cells #[.int .u32 3] 36)).alloc (.cells #[.int .u32 4] 36)).alloc (.cells #[.slice (some ⟨w.heap.size + 1, 0, none⟩) 1 1, .int .i64 7, .slice (some ⟨w.heap.size + 1 + 1, 0, none⟩) 1 1, .int .i64 6] 38)).alloc (.cells #[.int .u8 0] 5)).alloc (.cells #[.slice (some ⟨w.heap.size, 0, none⟩) 1 1, .int .i64 5, .int .i64 9, .slice (some ⟨w.heap.size + 1 + 1 + 1, 0, none⟩) 2 2, .slice (some ⟨w.heap.size + 1 + 1 + 1 + 1, 0, none⟩) 1 1] 26)) (w.heap.size + 1 + 1 + 1 + 1) 5 #[.int .u8 ((0 : Nat) : Int)] := by
    have h := Holds.fresh ((((w.alloc (.cells #[.int .i64 3, .string ⟨#[98]⟩] 35)).alloc (.cells #[.int .u32 3] 36)).alloc (.cells #[.int .u32 4] 36)).alloc (.cells #[.slice (some ⟨w.heap.size + 1, 0, none⟩) 1 1, .int .i64 7, .slice (some ⟨w.heap.size + 1 + 1, 0, none⟩) 1 1, .int .i64 6] 38)) 5 #[.int .u8 0]
    rw [e4] at h
    exact h.alloc _
  have hX : Holds ((((((w.alloc (.cells #[.int .i64 3, .string ⟨#[98]⟩] 35)).alloc (.cells #[.int .u32 3] 36)).alloc (.cells #[.int .u32 4] 36)).alloc (.cells #[.slice (some ⟨w.heap.size + 1, 0, none⟩) 1 1, .int .i64 7, .slice (some ⟨w.heap.size + 1 + 1, 0, none⟩) 1 1, .int .i64 6] 38)).alloc (.cells #[.int .u8 0] 5)).alloc (.cells #[.slice (some ⟨w.heap.size, 0, none⟩) 1 1, .int .i64 5, .int .i64 9, .slice (some ⟨w.heap.size + 1 + 1 + 1, 0, none⟩) 2 2, .slice (some ⟨w.heap.size + 1 + 1 + 1 + 1, 0, none⟩) 1 1] 26)) (w.heap.size + 1 + 1 + 1 + 1 + 1) 26 #[.slice (some ⟨w.heap.size, 0, none⟩) 1 1, .int .i64 5, .int .i64 9, .slice (some ⟨w.heap.size + 1 + 1 + 1, 0, none⟩) 2 2, .slice (some ⟨w.heap.size + 1 + 1 + 1 + 1, 0, none⟩) 1 1] := by
    have h := Holds.fresh (((((w.alloc (.cells #[.int .i64 3, .string ⟨#[98]⟩] 35)).alloc (.cells #[.int .u32 3] 36)).alloc (.cells #[.int .u32 4] 36)).alloc (.cells #[.slice (some ⟨w.heap.size + 1, 0, none⟩) 1 1, .int .i64 7, .slice (some ⟨w.heap.size + 1 + 1, 0, none⟩) 1 1, .int .i64 6] 38)).alloc (.cells #[.int .u8 0] 5)) 26 #[.slice (some ⟨w.heap.size, 0, none⟩) 1 1, .int .i64 5, .int .i64 9, .slice (some ⟨w.heap.size + 1 + 1 + 1, 0, none⟩) 2 2, .slice (some ⟨w.heap.size + 1 + 1 + 1 + 1, 0, none⟩) 1 1]
    rwa [e5] at h
  have hb : Below w.heap.size w ((((((w.alloc (.cells #[.int .i64 3, .string ⟨#[98]⟩] 35)).alloc (.cells #[.int .u32 3] 36)).alloc (.cells #[.int .u32 4] 36)).alloc (.cells #[.slice (some ⟨w.heap.size + 1, 0, none⟩) 1 1, .int .i64 7, .slice (some ⟨w.heap.size + 1 + 1, 0, none⟩) 1 1, .int .i64 6] 38)).alloc (.cells #[.int .u8 0] 5)).alloc (.cells #[.slice (some ⟨w.heap.size, 0, none⟩) 1 1, .int .i64 5, .int .i64 9, .slice (some ⟨w.heap.size + 1 + 1 + 1, 0, none⟩) 2 2, .slice (some ⟨w.heap.size + 1 + 1 + 1 + 1, 0, none⟩) 1 1] 26)) := ((((((Below.refl _ _).alloc (Nat.le_refl _) _).alloc (by rw [e1]; omega) _).alloc (by rw [e2]; omega) _).alloc (by rw [e3]; omega) _).alloc (by rw [e4]; omega) _).alloc (by rw [e5]; omega) _
  clear e1 e2 e3 e4 e5
  obtain ⟨V, hV⟩ : ∃ V, V = ((((((w.alloc (.cells #[.int .i64 3, .string ⟨#[98]⟩] 35)).alloc (.cells #[.int .u32 3] 36)).alloc (.cells #[.int .u32 4] 36)).alloc (.cells #[.slice (some ⟨w.heap.size + 1, 0, none⟩) 1 1, .int .i64 7, .slice (some ⟨w.heap.size + 1 + 1, 0, none⟩) 1 1, .int .i64 6] 38)).alloc (.cells #[.int .u8 0] 5)).alloc (.cells #[.slice (some ⟨w.heap.size, 0, none⟩) 1 1, .int .i64 5, .int .i64 9, .slice (some ⟨w.heap.size + 1 + 1 + 1, 0, none⟩) 2 2, .slice (some ⟨w.heap.size + 1 + 1 + 1 + 1, 0, none⟩) 1 1] 26)) := ⟨_, rfl⟩
  rw [← hV] at hI h3 h4 hR hS hX hb
  have hC : ClP ⟨(some ⟨w.heap.size, 0, none⟩), 1, [⟨3, ⟨#[98]⟩⟩], 5, 9, (some ⟨w.heap.size + 1 + 1 + 1, 0, none⟩), 2, [⟨(some ⟨w.heap.size + 1, 0, none⟩), 1, [3], 7⟩, ⟨(some ⟨w.heap.size + 1 + 1, 0, none⟩), 1, [4], 6⟩], (some ⟨w.heap.size + 1 + 1 + 1 + 1, 0, none⟩), 1, [0]⟩ V := ⟨rdA_lit hI, gs_lit hR rfl rfl (rd32_lit h3) (rd32_lit h4) (dg_one (by decide)) (dg_one (by decide)), rd8_lit hS, oct_lit⟩
  have his := crlIs_any V _ hC (Utf8Tabs_below hT hb) sz_lit
  rw [show crlOk (Cl.v ⟨(some ⟨w.heap.size, 0, none⟩), 1, [⟨3, ⟨#[98]⟩⟩], 5, 9, (some ⟨w.heap.size + 1 + 1 + 1, 0, none⟩), 2, [⟨(some ⟨w.heap.size + 1, 0, none⟩), 1, [3], 7⟩, ⟨(some ⟨w.heap.size + 1 + 1, 0, none⟩), 1, [4], 6⟩], (some ⟨w.heap.size + 1 + 1 + 1 + 1, 0, none⟩), 1, [0]⟩) = true from odd_first] at his
  have HIS : Hid (Calls Tryd.prog 11 #[.agg #[.slice (some ⟨w.heap.size, 0, none⟩) 1 1, .int .i64 5, .int .i64 9, .slice (some ⟨w.heap.size + 1 + 1 + 1, 0, none⟩) 2 2, .slice (some ⟨w.heap.size + 1 + 1 + 1 + 1, 0, none⟩) 1 1]] V fun e w' => e = .returned (.bool true) ∧ Below V.heap.size V w') := Lib.hid his
  have HT := Lib.hid hT
  have HB := Lib.hid hb
  have HI := Lib.hid hI
  have H3 := Lib.hid h3
  have H4 := Lib.hid h4
  have HR := Lib.hid hR
  have HS := Lib.hid hS
  have HX := Lib.hid hX
  have c0 := hX.cell 0
  have c1 := hX.cell 1
  have c2 := hX.cell 2
  have c3 := hX.cell 3
  have c4 := hX.cell 4
  rw [hV] at c0 c1 c2 c3 c4
  have HV := Lib.hid hV
  clear hC his hT hb hI h3 h4 hR hS hX hV
  go_enter Tryd.func4, Tryd.ntmps4
  go_wp2_with fail
  rw [← HV.out]
  refine HIS.out.mono ?_
  rintro e w1 ⟨rfl, hb1⟩
  have HB1 := Lib.hid (HB.out.trans (hb1.mono HB.out.size))
  have HI1 := Lib.hid (HI.out.under hb1 HI.out.lt)
  have H31 := Lib.hid (H3.out.under hb1 H3.out.lt)
  have H41 := Lib.hid (H4.out.under hb1 H4.out.lt)
  have HR1 := Lib.hid (HR.out.under hb1 HR.out.lt)
  have HS1 := Lib.hid (HS.out.under hb1 HS.out.lt)
  have HX1 := Lib.hid (HX.out.under hb1 HX.out.lt)
  clear c0 c1 c2 c3 c4 HV HIS HB HI H3 H4 HR HS HX hb1
  have x0 := HR1.out.cell 0
  have x1 := HR1.out.cell 1
  have x2 := HR1.out.cell 2
  have x3 := HX1.out.cell 3
  have y0 := HR1.out.open_ 0
  have y1 := HR1.out.open_ 1
  have y2 := HR1.out.open_ 2
  have hX2 : Holds (w1.setCell ⟨w.heap.size + 1 + 1 + 1, 1, none⟩ (.int .i64 253402300800)) (w.heap.size + 1 + 1 + 1 + 1 + 1) 26 #[.slice (some ⟨w.heap.size, 0, none⟩) 1 1, .int .i64 5, .int .i64 9, .slice (some ⟨w.heap.size + 1 + 1 + 1, 0, none⟩) 2 2, .slice (some ⟨w.heap.size + 1 + 1 + 1 + 1, 0, none⟩) 1 1] := HX1.out.aside (by simp <;> omega) _
  have hC2 : ClP (⟨(some ⟨w.heap.size, 0, none⟩), 1, [⟨3, ⟨#[98]⟩⟩], 5, 9, (some ⟨w.heap.size + 1 + 1 + 1, 0, none⟩), 2, [⟨(some ⟨w.heap.size + 1, 0, none⟩), 1, [3], 253402300800⟩, ⟨(some ⟨w.heap.size + 1 + 1, 0, none⟩), 1, [4], 6⟩], (some ⟨w.heap.size + 1 + 1 + 1 + 1, 0, none⟩), 1, [0]⟩ : Cl) (w1.setCell ⟨w.heap.size + 1 + 1 + 1, 1, none⟩ (.int .i64 253402300800)) := ⟨rdA_lit (HI1.out.aside (by simp <;> omega) _), gs_lit (HR1.out.stored _ _) rfl rfl (rd32_lit (H31.out.aside (by simp <;> omega) _)) (rd32_lit (H41.out.aside (by simp <;> omega) _)) (dg_one (by decide)) (dg_one (by decide)), rd8_lit (HS1.out.aside (by simp <;> omega) _), oct_lit⟩
  have hB2 : Below w.heap.size w (w1.setCell ⟨w.heap.size + 1 + 1 + 1, 1, none⟩ (.int .i64 253402300800)) := HB1.out.setCell (by show w.heap.size ≤ w.heap.size + 1 + 1 + 1; omega) _
  have hno : crlOk (Cl.v (⟨(some ⟨w.heap.size, 0, none⟩), 1, [⟨3, ⟨#[98]⟩⟩], 5, 9, (some ⟨w.heap.size + 1 + 1 + 1, 0, none⟩), 2, [⟨(some ⟨w.heap.size + 1, 0, none⟩), 1, [3], 253402300800⟩, ⟨(some ⟨w.heap.size + 1 + 1, 0, none⟩), 1, [4], 6⟩], (some ⟨w.heap.size + 1 + 1 + 1 + 1, 0, none⟩), 1, [0]⟩ : Cl)) = false := odd_4
  have hND := node_no (w1.setCell ⟨w.heap.size + 1 + 1 + 1, 1, none⟩ (.int .i64 253402300800)) (⟨(some ⟨w.heap.size, 0, none⟩), 1, [⟨3, ⟨#[98]⟩⟩], 5, 9, (some ⟨w.heap.size + 1 + 1 + 1, 0, none⟩), 2, [⟨(some ⟨w.heap.size + 1, 0, none⟩), 1, [3], 253402300800⟩, ⟨(some ⟨w.heap.size + 1 + 1, 0, none⟩), 1, [4], 6⟩], (some ⟨w.heap.size + 1 + 1 + 1 + 1, 0, none⟩), 1, [0]⟩ : Cl) hC2 (Utf8Tabs_below HT.out hB2) sz_lit hno
  have HND : Hid (Calls Tryd.prog 13 #[.agg #[.slice (some ⟨w.heap.size, 0, none⟩) 1 1, .int .i64 5, .int .i64 9, .slice (some ⟨w.heap.size + 1 + 1 + 1, 0, none⟩) 2 2, .slice (some ⟨w.heap.size + 1 + 1 + 1 + 1, 0, none⟩) 1 1]] (w1.setCell ⟨w.heap.size + 1 + 1 + 1, 1, none⟩ (.int .i64 253402300800)) fun e w' => e = .returned (.agg #[.int .u8 0, .slice none 0 0, .slice none 0 0]) ∧ Below (w1.setCell ⟨w.heap.size + 1 + 1 + 1, 1, none⟩ (.int .i64 253402300800)).heap.size (w1.setCell ⟨w.heap.size + 1 + 1 + 1, 1, none⟩ (.int .i64 253402300800)) w') := Lib.hid hND
  have HISN : Hid (∀ Z, Below (w1.setCell ⟨w.heap.size + 1 + 1 + 1, 1, none⟩ (.int .i64 253402300800)).heap.size (w1.setCell ⟨w.heap.size + 1 + 1 + 1, 1, none⟩ (.int .i64 253402300800)) Z → Calls Tryd.prog 11 #[.agg #[.slice (some ⟨w.heap.size, 0, none⟩) 1 1, .int .i64 5, .int .i64 9, .slice (some ⟨w.heap.size + 1 + 1 + 1, 0, none⟩) 2 2, .slice (some ⟨w.heap.size + 1 + 1 + 1 + 1, 0, none⟩) 1 1]] Z fun e w' => e = .returned (.bool false) ∧ Below Z.heap.size Z w') := Lib.hid fun Z hZ => by
    have h := crlIs_any Z (⟨(some ⟨w.heap.size, 0, none⟩), 1, [⟨3, ⟨#[98]⟩⟩], 5, 9, (some ⟨w.heap.size + 1 + 1 + 1, 0, none⟩), 2, [⟨(some ⟨w.heap.size + 1, 0, none⟩), 1, [3], 253402300800⟩, ⟨(some ⟨w.heap.size + 1 + 1, 0, none⟩), 1, [4], 6⟩], (some ⟨w.heap.size + 1 + 1 + 1 + 1, 0, none⟩), 1, [0]⟩ : Cl) ((Off.of_c hC2).under hZ).at_ (Utf8Tabs_below HT.out (hB2.trans (hZ.mono hB2.size))) sz_lit
    rw [hno] at h
    exact h
  have HDN : Hid (∀ Z, Below (w1.setCell ⟨w.heap.size + 1 + 1 + 1, 1, none⟩ (.int .i64 253402300800)).heap.size (w1.setCell ⟨w.heap.size + 1 + 1 + 1, 1, none⟩ (.int .i64 253402300800)) Z → Calls Tryd.prog 14 #[.agg #[.slice (some ⟨w.heap.size, 0, none⟩) 1 1, .int .i64 5, .int .i64 9, .slice (some ⟨w.heap.size + 1 + 1 + 1, 0, none⟩) 2 2, .slice (some ⟨w.heap.size + 1 + 1 + 1 + 1, 0, none⟩) 1 1]] Z fun e w' => e = .returned (.slice none 0 0) ∧ Below Z.heap.size Z w') := Lib.hid fun Z hZ =>
    digest_no Z (⟨(some ⟨w.heap.size, 0, none⟩), 1, [⟨3, ⟨#[98]⟩⟩], 5, 9, (some ⟨w.heap.size + 1 + 1 + 1, 0, none⟩), 2, [⟨(some ⟨w.heap.size + 1, 0, none⟩), 1, [3], 253402300800⟩, ⟨(some ⟨w.heap.size + 1 + 1, 0, none⟩), 1, [4], 6⟩], (some ⟨w.heap.size + 1 + 1 + 1 + 1, 0, none⟩), 1, [0]⟩ : Cl) ((Off.of_c hC2).under hZ).at_ (Utf8Tabs_below HT.out (hB2.trans (hZ.mono hB2.size))) sz_lit hno
  have HX2 := Lib.hid hX2
  have HB2 := Lib.hid hB2
  have c0 := hX2.cell 0
  have c1 := hX2.cell 1
  have c2 := hX2.cell 2
  have c3 := hX2.cell 3
  have c4 := hX2.cell 4
  clear hX2 hC2 hB2 hno hND
  go_wp2_with fail
  refine HND.out.mono ?_
  rintro e w3 ⟨rfl, hb3⟩
  have HB3 := Lib.hid hb3
  clear c0 c1 c2 c3 c4 hb3 HND
  go_wp2_with fail
  refine (get_none w3).mono ?_
  rintro e w4 ⟨rfl, hb4⟩
  have hq : Below w4.heap.size w4 (w4.alloc (.cells #[.slice none 0 0, .int .i64 0, .int .i64 0, .slice none 0 0, .slice none 0 0] 26)) := (Below.refl _ _).alloc (Nat.le_refl _) _
  have h34 := HB3.out.trans (hb4.mono HB3.out.size)
  have HB5 := Lib.hid (h34.trans (hq.mono h34.size))
  have hX5 := HX2.out.under HB5.out HX2.out.lt
  have c0 := hX5.cell 0
  have c1 := hX5.cell 1
  have c2 := hX5.cell 2
  have c3 := hX5.cell 3
  have c4 := hX5.cell 4
  have HI5 := Lib.hid (HISN.out _ HB5.out)
  clear hb4 hq h34 hX5 HISN
  go_wp2_with fail
  refine HI5.out.mono ?_
  rintro e w6 ⟨rfl, hb6⟩
  have HB6 := Lib.hid (HB5.out.trans (hb6.mono HB5.out.size))
  have hX6 := HX2.out.under HB6.out HX2.out.lt
  clear c0 c1 c2 c3 c4
  have c0 := hX6.cell 0
  have c1 := hX6.cell 1
  have c2 := hX6.cell 2
  have c3 := hX6.cell 3
  have c4 := hX6.cell 4
  have HD6 := Lib.hid (HDN.out _ HB6.out)
  clear hb6 hX6 HDN HI5
  go_wp2_with fail
  refine HD6.out.mono ?_
  rintro e w7 ⟨rfl, hb7⟩
  have HB7 := Lib.hid (HB2.out.trans ((HB6.out.trans (hb7.mono HB6.out.size)).mono HB2.out.size))
  have HK7 := Lib.hid (known19_any w7 (Utf8Tabs_below HT.out HB7.out))
  clear hb7 c0 c1 c2 c3 c4 HD6
  go_wp2_with fail
  refine HK7.out.mono ?_
  rintro e w8 ⟨rfl, hb8⟩
  have HB8 := Lib.hid (HB7.out.trans (hb8.mono HB7.out.size))
  clear hb8
  go_wp2_with fail
  go_ret
  exact ⟨rfl, HB8.out⟩
set_option maxRecDepth 100000 in
set_option maxHeartbeats 8000000 in
theorem odd19_5 (w : World) (hT : Lib.Utf8Tabs 0 1 w) :
    Calls Tryd.prog 4 #[.int .i64 5] w fun e w' => e = .returned (.bool true) ∧ Below w.heap.size w w' := by
  have hI : Holds ((((((w.alloc (.cells #[.int .i64 3, .string ⟨#[98]⟩] 35)).alloc (.cells #[.int .u32 3] 36)).alloc (.cells #[.int .u32 4] 36)).alloc (.cells #[.slice (some ⟨w.heap.size + 1, 0, none⟩) 1 1, .int .i64 7, .slice (some ⟨w.heap.size + 1 + 1, 0, none⟩) 1 1, .int .i64 6] 38)).alloc (.cells #[.int .u8 0] 5)).alloc (.cells #[.slice (some ⟨w.heap.size, 0, none⟩) 1 1, .int .i64 5, .int .i64 9, .slice (some ⟨w.heap.size + 1 + 1 + 1, 0, none⟩) 2 2, .slice (some ⟨w.heap.size + 1 + 1 + 1 + 1, 0, none⟩) 1 1] 26)) w.heap.size 35 #[.int .i64 3, .string ⟨#[98]⟩] := by
    have h := Holds.fresh w 35 #[.int .i64 3, .string ⟨#[98]⟩]
    exact ((((h.alloc _).alloc _).alloc _).alloc _).alloc _
  have e1 : (w.alloc (.cells #[.int .i64 3, .string ⟨#[98]⟩] 35)).heap.size = w.heap.size + 1 := by simp
  have e2 : ((w.alloc (.cells #[.int .i64 3, .string ⟨#[98]⟩] 35)).alloc (.cells #[.int .u32 3] 36)).heap.size = w.heap.size + 1 + 1 := by simp
  have e3 : (((w.alloc (.cells #[.int .i64 3, .string ⟨#[98]⟩] 35)).alloc (.cells #[.int .u32 3] 36)).alloc (.cells #[.int .u32 4] 36)).heap.size = w.heap.size + 1 + 1 + 1 := by simp
  have e4 : ((((w.alloc (.cells #[.int .i64 3, .string ⟨#[98]⟩] 35)).alloc (.cells #[.int .u32 3] 36)).alloc (.cells #[.int .u32 4] 36)).alloc (.cells #[.slice (some ⟨w.heap.size + 1, 0, none⟩) 1 1, .int .i64 7, .slice (some ⟨w.heap.size + 1 + 1, 0, none⟩) 1 1, .int .i64 6] 38)).heap.size = w.heap.size + 1 + 1 + 1 + 1 := by simp
  have e5 : (((((w.alloc (.cells #[.int .i64 3, .string ⟨#[98]⟩] 35)).alloc (.cells #[.int .u32 3] 36)).alloc (.cells #[.int .u32 4] 36)).alloc (.cells #[.slice (some ⟨w.heap.size + 1, 0, none⟩) 1 1, .int .i64 7, .slice (some ⟨w.heap.size + 1 + 1, 0, none⟩) 1 1, .int .i64 6] 38)).alloc (.cells #[.int .u8 0] 5)).heap.size = w.heap.size + 1 + 1 + 1 + 1 + 1 := by simp
  have h3 : Holds ((((((w.alloc (.cells #[.int .i64 3, .string ⟨#[98]⟩] 35)).alloc (.cells #[.int .u32 3] 36)).alloc (.cells #[.int .u32 4] 36)).alloc (.cells #[.slice (some ⟨w.heap.size + 1, 0, none⟩) 1 1, .int .i64 7, .slice (some ⟨w.heap.size + 1 + 1, 0, none⟩) 1 1, .int .i64 6] 38)).alloc (.cells #[.int .u8 0] 5)).alloc (.cells #[.slice (some ⟨w.heap.size, 0, none⟩) 1 1, .int .i64 5, .int .i64 9, .slice (some ⟨w.heap.size + 1 + 1 + 1, 0, none⟩) 2 2, .slice (some ⟨w.heap.size + 1 + 1 + 1 + 1, 0, none⟩) 1 1] 26)) (w.heap.size + 1) 36 #[.int .u32 ((3 : Nat) : Int)] := by
    have h := Holds.fresh (w.alloc (.cells #[.int .i64 3, .string ⟨#[98]⟩] 35)) 36 #[.int .u32 3]
    rw [e1] at h
    exact (((h.alloc _).alloc _).alloc _).alloc _
  have h4 : Holds ((((((w.alloc (.cells #[.int .i64 3, .string ⟨#[98]⟩] 35)).alloc (.cells #[.int .u32 3] 36)).alloc (.cells #[.int .u32 4] 36)).alloc (.cells #[.slice (some ⟨w.heap.size + 1, 0, none⟩) 1 1, .int .i64 7, .slice (some ⟨w.heap.size + 1 + 1, 0, none⟩) 1 1, .int .i64 6] 38)).alloc (.cells #[.int .u8 0] 5)).alloc (.cells #[.slice (some ⟨w.heap.size, 0, none⟩) 1 1, .int .i64 5, .int .i64 9, .slice (some ⟨w.heap.size + 1 + 1 + 1, 0, none⟩) 2 2, .slice (some ⟨w.heap.size + 1 + 1 + 1 + 1, 0, none⟩) 1 1] 26)) (w.heap.size + 1 + 1) 36 #[.int .u32 ((4 : Nat) : Int)] := by
    have h := Holds.fresh ((w.alloc (.cells #[.int .i64 3, .string ⟨#[98]⟩] 35)).alloc (.cells #[.int .u32 3] 36)) 36 #[.int .u32 4]
    rw [e2] at h
    exact ((h.alloc _).alloc _).alloc _
  have hR : Holds ((((((w.alloc (.cells #[.int .i64 3, .string ⟨#[98]⟩] 35)).alloc (.cells #[.int .u32 3] 36)).alloc (.cells #[.int .u32 4] 36)).alloc (.cells #[.slice (some ⟨w.heap.size + 1, 0, none⟩) 1 1, .int .i64 7, .slice (some ⟨w.heap.size + 1 + 1, 0, none⟩) 1 1, .int .i64 6] 38)).alloc (.cells #[.int .u8 0] 5)).alloc (.cells #[.slice (some ⟨w.heap.size, 0, none⟩) 1 1, .int .i64 5, .int .i64 9, .slice (some ⟨w.heap.size + 1 + 1 + 1, 0, none⟩) 2 2, .slice (some ⟨w.heap.size + 1 + 1 + 1 + 1, 0, none⟩) 1 1] 26)) (w.heap.size + 1 + 1 + 1) 38 #[.slice (some ⟨w.heap.size + 1, 0, none⟩) 1 1, .int .i64 7, .slice (some ⟨w.heap.size + 1 + 1, 0, none⟩) 1 1, .int .i64 6] := by
    have h := Holds.fresh (((w.alloc (.cells #[.int .i64 3, .string ⟨#[98]⟩] 35)).alloc (.cells #[.int .u32 3] 36)).alloc (.cells #[.int .u32 4] 36)) 38 #[.slice (some ⟨w.heap.size + 1, 0, none⟩) 1 1, .int .i64 7, .slice (some ⟨w.heap.size + 1 + 1, 0, none⟩) 1 1, .int .i64 6]
    rw [e3] at h
    exact (h.alloc _).alloc _
  have hS : Holds ((((((w.alloc (.cells #[.int .i64 3, .string ⟨#[98]⟩] 35)).alloc (.cells #[.int .u32 3] 36)).alloc (.cells #[.int .u32 4] 36)).alloc (.cells #[.slice (some ⟨w.heap.size + 1, 0, none⟩) 1 1, .int .i64 7, .slice (some ⟨w.heap.size + 1 + 1, 0, none⟩) 1 1, .int .i64 6] 38)).alloc (.cells #[.int .u8 0] 5)).alloc (.cells #[.slice (some ⟨w.heap.size, 0, none⟩) 1 1, .int .i64 5, .int .i64 9, .slice (some ⟨w.heap.size + 1 + 1 + 1, 0, none⟩) 2 2, .slice (some ⟨w.heap.size + 1 + 1 + 1 + 1, 0, none⟩) 1 1] 26)) (w.heap.size + 1 + 1 + 1 + 1) 5 #[.int .u8 ((0 : Nat) : Int)] := by
    have h := Holds.fresh ((((w.alloc (.cells #[.int .i64 3, .string ⟨#[98]⟩] 35)).alloc (.cells #[.int .u32 3] 36)).alloc (.cells #[.int .u32 4] 36)).alloc (.cells #[.slice (some ⟨w.heap.size + 1, 0, none⟩) 1 1, .int .i64 7, .slice (some ⟨w.heap.size + 1 + 1, 0, none⟩) 1 1, .int .i64 6] 38)) 5 #[.int .u8 0]
    rw [e4] at h
    exact h.alloc _
  have hX : Holds ((((((w.alloc (.cells #[.int .i64 3, .string ⟨#[98]⟩] 35)).alloc (.cells #[.int .u32 3] 36)).alloc (.cells #[.int .u32 4] 36)).alloc (.cells #[.slice (some ⟨w.heap.size + 1, 0, none⟩) 1 1, .int .i64 7, .slice (some ⟨w.heap.size + 1 + 1, 0, none⟩) 1 1, .int .i64 6] 38)).alloc (.cells #[.int .u8 0] 5)).alloc (.cells #[.slice (some ⟨w.heap.size, 0, none⟩) 1 1, .int .i64 5, .int .i64 9, .slice (some ⟨w.heap.size + 1 + 1 + 1, 0, none⟩) 2 2, .slice (some ⟨w.heap.size + 1 + 1 + 1 + 1, 0, none⟩) 1 1] 26)) (w.heap.size + 1 + 1 + 1 + 1 + 1) 26 #[.slice (some ⟨w.heap.size, 0, none⟩) 1 1, .int .i64 5, .int .i64 9, .slice (some ⟨w.heap.size + 1 + 1 + 1, 0, none⟩) 2 2, .slice (some ⟨w.heap.size + 1 + 1 + 1 + 1, 0, none⟩) 1 1] := by
    have h := Holds.fresh (((((w.alloc (.cells #[.int .i64 3, .string ⟨#[98]⟩] 35)).alloc (.cells #[.int .u32 3] 36)).alloc (.cells #[.int .u32 4] 36)).alloc (.cells #[.slice (some ⟨w.heap.size + 1, 0, none⟩) 1 1, .int .i64 7, .slice (some ⟨w.heap.size + 1 + 1, 0, none⟩) 1 1, .int .i64 6] 38)).alloc (.cells #[.int .u8 0] 5)) 26 #[.slice (some ⟨w.heap.size, 0, none⟩) 1 1, .int .i64 5, .int .i64 9, .slice (some ⟨w.heap.size + 1 + 1 + 1, 0, none⟩) 2 2, .slice (some ⟨w.heap.size + 1 + 1 + 1 + 1, 0, none⟩) 1 1]
    rwa [e5] at h
  have hb : Below w.heap.size w ((((((w.alloc (.cells #[.int .i64 3, .string ⟨#[98]⟩] 35)).alloc (.cells #[.int .u32 3] 36)).alloc (.cells #[.int .u32 4] 36)).alloc (.cells #[.slice (some ⟨w.heap.size + 1, 0, none⟩) 1 1, .int .i64 7, .slice (some ⟨w.heap.size + 1 + 1, 0, none⟩) 1 1, .int .i64 6] 38)).alloc (.cells #[.int .u8 0] 5)).alloc (.cells #[.slice (some ⟨w.heap.size, 0, none⟩) 1 1, .int .i64 5, .int .i64 9, .slice (some ⟨w.heap.size + 1 + 1 + 1, 0, none⟩) 2 2, .slice (some ⟨w.heap.size + 1 + 1 + 1 + 1, 0, none⟩) 1 1] 26)) := ((((((Below.refl _ _).alloc (Nat.le_refl _) _).alloc (by rw [e1]; omega) _).alloc (by rw [e2]; omega) _).alloc (by rw [e3]; omega) _).alloc (by rw [e4]; omega) _).alloc (by rw [e5]; omega) _
  clear e1 e2 e3 e4 e5
  obtain ⟨V, hV⟩ : ∃ V, V = ((((((w.alloc (.cells #[.int .i64 3, .string ⟨#[98]⟩] 35)).alloc (.cells #[.int .u32 3] 36)).alloc (.cells #[.int .u32 4] 36)).alloc (.cells #[.slice (some ⟨w.heap.size + 1, 0, none⟩) 1 1, .int .i64 7, .slice (some ⟨w.heap.size + 1 + 1, 0, none⟩) 1 1, .int .i64 6] 38)).alloc (.cells #[.int .u8 0] 5)).alloc (.cells #[.slice (some ⟨w.heap.size, 0, none⟩) 1 1, .int .i64 5, .int .i64 9, .slice (some ⟨w.heap.size + 1 + 1 + 1, 0, none⟩) 2 2, .slice (some ⟨w.heap.size + 1 + 1 + 1 + 1, 0, none⟩) 1 1] 26)) := ⟨_, rfl⟩
  rw [← hV] at hI h3 h4 hR hS hX hb
  have hC : ClP ⟨(some ⟨w.heap.size, 0, none⟩), 1, [⟨3, ⟨#[98]⟩⟩], 5, 9, (some ⟨w.heap.size + 1 + 1 + 1, 0, none⟩), 2, [⟨(some ⟨w.heap.size + 1, 0, none⟩), 1, [3], 7⟩, ⟨(some ⟨w.heap.size + 1 + 1, 0, none⟩), 1, [4], 6⟩], (some ⟨w.heap.size + 1 + 1 + 1 + 1, 0, none⟩), 1, [0]⟩ V := ⟨rdA_lit hI, gs_lit hR rfl rfl (rd32_lit h3) (rd32_lit h4) (dg_one (by decide)) (dg_one (by decide)), rd8_lit hS, oct_lit⟩
  have his := crlIs_any V _ hC (Utf8Tabs_below hT hb) sz_lit
  rw [show crlOk (Cl.v ⟨(some ⟨w.heap.size, 0, none⟩), 1, [⟨3, ⟨#[98]⟩⟩], 5, 9, (some ⟨w.heap.size + 1 + 1 + 1, 0, none⟩), 2, [⟨(some ⟨w.heap.size + 1, 0, none⟩), 1, [3], 7⟩, ⟨(some ⟨w.heap.size + 1 + 1, 0, none⟩), 1, [4], 6⟩], (some ⟨w.heap.size + 1 + 1 + 1 + 1, 0, none⟩), 1, [0]⟩) = true from odd_first] at his
  have HIS : Hid (Calls Tryd.prog 11 #[.agg #[.slice (some ⟨w.heap.size, 0, none⟩) 1 1, .int .i64 5, .int .i64 9, .slice (some ⟨w.heap.size + 1 + 1 + 1, 0, none⟩) 2 2, .slice (some ⟨w.heap.size + 1 + 1 + 1 + 1, 0, none⟩) 1 1]] V fun e w' => e = .returned (.bool true) ∧ Below V.heap.size V w') := Lib.hid his
  have HT := Lib.hid hT
  have HB := Lib.hid hb
  have HI := Lib.hid hI
  have H3 := Lib.hid h3
  have H4 := Lib.hid h4
  have HR := Lib.hid hR
  have HS := Lib.hid hS
  have HX := Lib.hid hX
  have c0 := hX.cell 0
  have c1 := hX.cell 1
  have c2 := hX.cell 2
  have c3 := hX.cell 3
  have c4 := hX.cell 4
  rw [hV] at c0 c1 c2 c3 c4
  have HV := Lib.hid hV
  clear hC his hT hb hI h3 h4 hR hS hX hV
  go_enter Tryd.func4, Tryd.ntmps4
  go_wp2_with fail
  rw [← HV.out]
  refine HIS.out.mono ?_
  rintro e w1 ⟨rfl, hb1⟩
  have HB1 := Lib.hid (HB.out.trans (hb1.mono HB.out.size))
  have HI1 := Lib.hid (HI.out.under hb1 HI.out.lt)
  have H31 := Lib.hid (H3.out.under hb1 H3.out.lt)
  have H41 := Lib.hid (H4.out.under hb1 H4.out.lt)
  have HR1 := Lib.hid (HR.out.under hb1 HR.out.lt)
  have HS1 := Lib.hid (HS.out.under hb1 HS.out.lt)
  have HX1 := Lib.hid (HX.out.under hb1 HX.out.lt)
  clear c0 c1 c2 c3 c4 HV HIS HB HI H3 H4 HR HS HX hb1
  have x0 := HX1.out.cell 0
  have x1 := HX1.out.cell 2
  have x2 := HX1.out.cell 4
  have y0 := HX1.out.open_ 0
  have y1 := HX1.out.open_ 2
  have y2 := HX1.out.open_ 4
  have hX2 : Holds (w1.setCell ⟨w.heap.size + 1 + 1 + 1 + 1 + 1, 4, none⟩ (.slice none 0 0)) (w.heap.size + 1 + 1 + 1 + 1 + 1) 26 #[.slice (some ⟨w.heap.size, 0, none⟩) 1 1, .int .i64 5, .int .i64 9, .slice (some ⟨w.heap.size + 1 + 1 + 1, 0, none⟩) 2 2, .slice none 0 0] := HX1.out.stored _ _
  have hC2 : ClP (⟨(some ⟨w.heap.size, 0, none⟩), 1, [⟨3, ⟨#[98]⟩⟩], 5, 9, (some ⟨w.heap.size + 1 + 1 + 1, 0, none⟩), 2, [⟨(some ⟨w.heap.size + 1, 0, none⟩), 1, [3], 7⟩, ⟨(some ⟨w.heap.size + 1 + 1, 0, none⟩), 1, [4], 6⟩], none, 0, []⟩ : Cl) (w1.setCell ⟨w.heap.size + 1 + 1 + 1 + 1 + 1, 4, none⟩ (.slice none 0 0)) := ⟨rdA_lit (HI1.out.aside (by simp <;> omega) _), gs_lit (HR1.out.aside (by simp <;> omega) _) rfl rfl (rd32_lit (H31.out.aside (by simp <;> omega) _)) (rd32_lit (H41.out.aside (by simp <;> omega) _)) (dg_one (by decide)) (dg_one (by decide)), Rd.nil_ _ _ _, (fun x hx => by cases hx)⟩
  have hB2 : Below w.heap.size w (w1.setCell ⟨w.heap.size + 1 + 1 + 1 + 1 + 1, 4, none⟩ (.slice none 0 0)) := HB1.out.setCell (by show w.heap.size ≤ w.heap.size + 1 + 1 + 1 + 1 + 1; omega) _
  have hno : crlOk (Cl.v (⟨(some ⟨w.heap.size, 0, none⟩), 1, [⟨3, ⟨#[98]⟩⟩], 5, 9, (some ⟨w.heap.size + 1 + 1 + 1, 0, none⟩), 2, [⟨(some ⟨w.heap.size + 1, 0, none⟩), 1, [3], 7⟩, ⟨(some ⟨w.heap.size + 1 + 1, 0, none⟩), 1, [4], 6⟩], none, 0, []⟩ : Cl)) = false := odd_5
  have hND := node_no (w1.setCell ⟨w.heap.size + 1 + 1 + 1 + 1 + 1, 4, none⟩ (.slice none 0 0)) (⟨(some ⟨w.heap.size, 0, none⟩), 1, [⟨3, ⟨#[98]⟩⟩], 5, 9, (some ⟨w.heap.size + 1 + 1 + 1, 0, none⟩), 2, [⟨(some ⟨w.heap.size + 1, 0, none⟩), 1, [3], 7⟩, ⟨(some ⟨w.heap.size + 1 + 1, 0, none⟩), 1, [4], 6⟩], none, 0, []⟩ : Cl) hC2 (Utf8Tabs_below HT.out hB2) sz_lit hno
  have HND : Hid (Calls Tryd.prog 13 #[.agg #[.slice (some ⟨w.heap.size, 0, none⟩) 1 1, .int .i64 5, .int .i64 9, .slice (some ⟨w.heap.size + 1 + 1 + 1, 0, none⟩) 2 2, .slice none 0 0]] (w1.setCell ⟨w.heap.size + 1 + 1 + 1 + 1 + 1, 4, none⟩ (.slice none 0 0)) fun e w' => e = .returned (.agg #[.int .u8 0, .slice none 0 0, .slice none 0 0]) ∧ Below (w1.setCell ⟨w.heap.size + 1 + 1 + 1 + 1 + 1, 4, none⟩ (.slice none 0 0)).heap.size (w1.setCell ⟨w.heap.size + 1 + 1 + 1 + 1 + 1, 4, none⟩ (.slice none 0 0)) w') := Lib.hid hND
  have HISN : Hid (∀ Z, Below (w1.setCell ⟨w.heap.size + 1 + 1 + 1 + 1 + 1, 4, none⟩ (.slice none 0 0)).heap.size (w1.setCell ⟨w.heap.size + 1 + 1 + 1 + 1 + 1, 4, none⟩ (.slice none 0 0)) Z → Calls Tryd.prog 11 #[.agg #[.slice (some ⟨w.heap.size, 0, none⟩) 1 1, .int .i64 5, .int .i64 9, .slice (some ⟨w.heap.size + 1 + 1 + 1, 0, none⟩) 2 2, .slice none 0 0]] Z fun e w' => e = .returned (.bool false) ∧ Below Z.heap.size Z w') := Lib.hid fun Z hZ => by
    have h := crlIs_any Z (⟨(some ⟨w.heap.size, 0, none⟩), 1, [⟨3, ⟨#[98]⟩⟩], 5, 9, (some ⟨w.heap.size + 1 + 1 + 1, 0, none⟩), 2, [⟨(some ⟨w.heap.size + 1, 0, none⟩), 1, [3], 7⟩, ⟨(some ⟨w.heap.size + 1 + 1, 0, none⟩), 1, [4], 6⟩], none, 0, []⟩ : Cl) ((Off.of_c hC2).under hZ).at_ (Utf8Tabs_below HT.out (hB2.trans (hZ.mono hB2.size))) sz_lit
    rw [hno] at h
    exact h
  have HDN : Hid (∀ Z, Below (w1.setCell ⟨w.heap.size + 1 + 1 + 1 + 1 + 1, 4, none⟩ (.slice none 0 0)).heap.size (w1.setCell ⟨w.heap.size + 1 + 1 + 1 + 1 + 1, 4, none⟩ (.slice none 0 0)) Z → Calls Tryd.prog 14 #[.agg #[.slice (some ⟨w.heap.size, 0, none⟩) 1 1, .int .i64 5, .int .i64 9, .slice (some ⟨w.heap.size + 1 + 1 + 1, 0, none⟩) 2 2, .slice none 0 0]] Z fun e w' => e = .returned (.slice none 0 0) ∧ Below Z.heap.size Z w') := Lib.hid fun Z hZ =>
    digest_no Z (⟨(some ⟨w.heap.size, 0, none⟩), 1, [⟨3, ⟨#[98]⟩⟩], 5, 9, (some ⟨w.heap.size + 1 + 1 + 1, 0, none⟩), 2, [⟨(some ⟨w.heap.size + 1, 0, none⟩), 1, [3], 7⟩, ⟨(some ⟨w.heap.size + 1 + 1, 0, none⟩), 1, [4], 6⟩], none, 0, []⟩ : Cl) ((Off.of_c hC2).under hZ).at_ (Utf8Tabs_below HT.out (hB2.trans (hZ.mono hB2.size))) sz_lit hno
  have HX2 := Lib.hid hX2
  have HB2 := Lib.hid hB2
  have c0 := hX2.cell 0
  have c1 := hX2.cell 1
  have c2 := hX2.cell 2
  have c3 := hX2.cell 3
  have c4 := hX2.cell 4
  clear hX2 hC2 hB2 hno hND
  go_wp2_with fail
  refine HND.out.mono ?_
  rintro e w3 ⟨rfl, hb3⟩
  have HB3 := Lib.hid hb3
  clear c0 c1 c2 c3 c4 hb3 HND
  go_wp2_with fail
  refine (get_none w3).mono ?_
  rintro e w4 ⟨rfl, hb4⟩
  have hq : Below w4.heap.size w4 (w4.alloc (.cells #[.slice none 0 0, .int .i64 0, .int .i64 0, .slice none 0 0, .slice none 0 0] 26)) := (Below.refl _ _).alloc (Nat.le_refl _) _
  have h34 := HB3.out.trans (hb4.mono HB3.out.size)
  have HB5 := Lib.hid (h34.trans (hq.mono h34.size))
  have hX5 := HX2.out.under HB5.out HX2.out.lt
  have c0 := hX5.cell 0
  have c1 := hX5.cell 1
  have c2 := hX5.cell 2
  have c3 := hX5.cell 3
  have c4 := hX5.cell 4
  have HI5 := Lib.hid (HISN.out _ HB5.out)
  clear hb4 hq h34 hX5 HISN
  go_wp2_with fail
  refine HI5.out.mono ?_
  rintro e w6 ⟨rfl, hb6⟩
  have HB6 := Lib.hid (HB5.out.trans (hb6.mono HB5.out.size))
  have hX6 := HX2.out.under HB6.out HX2.out.lt
  clear c0 c1 c2 c3 c4
  have c0 := hX6.cell 0
  have c1 := hX6.cell 1
  have c2 := hX6.cell 2
  have c3 := hX6.cell 3
  have c4 := hX6.cell 4
  have HD6 := Lib.hid (HDN.out _ HB6.out)
  clear hb6 hX6 HDN HI5
  go_wp2_with fail
  refine HD6.out.mono ?_
  rintro e w7 ⟨rfl, hb7⟩
  have HB7 := Lib.hid (HB2.out.trans ((HB6.out.trans (hb7.mono HB6.out.size)).mono HB2.out.size))
  have HK7 := Lib.hid (known19_any w7 (Utf8Tabs_below HT.out HB7.out))
  clear hb7 c0 c1 c2 c3 c4 HD6
  go_wp2_with fail
  refine HK7.out.mono ?_
  rintro e w8 ⟨rfl, hb8⟩
  have HB8 := Lib.hid (HB7.out.trans (hb8.mono HB7.out.size))
  clear hb8
  go_wp2_with fail
  go_ret
  exact ⟨rfl, HB8.out⟩
end Go.Proofs.YtionikhhdfkhdaaDoor
