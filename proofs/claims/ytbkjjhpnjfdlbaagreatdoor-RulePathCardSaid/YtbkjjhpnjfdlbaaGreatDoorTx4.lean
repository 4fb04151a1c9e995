/-
  A text's thing by the document; a thing's text, digits, truth, by atom; a thing of digits, by both.
-/
import Derived.Test.YtbkjjhpnjfdlbaaGreatDoorTx3
namespace Go.Proofs.YtbkjjhpnjfdlbaaGreatDoor
open Go.RowKit BigFrame
set_option linter.unusedVariables false
set_option linter.unusedSimpArgs false
attribute [local go_sem ↓] Go.wp_at_zero Go.wp_at_succ

/-- A text, or none. -/
def GetTx (w : World) : Option (List Nat) → Ending → World → Prop
  | none, e, w' => e = .returned (.tuple #[.string (str []), .bool false]) ∧ Below w.heap.size w w'
  | some b, e, w' => e = .returned (.tuple #[.string (str b), .bool true]) ∧ Below w.heap.size w w'
theorem GetTx.one {w : World} {o : Option (List Nat)} {e : Ending} {w' : World} (h : GetTx w o e w') : e = .returned (.tuple #[.string (str (o.getD [])), .bool o.isSome]) ∧ Below w.heap.size w w' := by
  rcases o with _ | b <;> exact h
/-- The text of a thing of this tag, of so many things, of these bytes. -/
def txOf (x kn : Nat) (b : List Nat) : Option (List Nat) := if heldOk x kn 12 = true ∧ textOk b = true then some b else none
set_option maxRecDepth 100000 in
set_option maxHeartbeats 2000000 in
theorem getText_any (w : World) (x n c kn kc B : Nat) (A K : Option Addr) (b : List Nat) (hr : Rd .u8 w B A c b) (hn : b.length = n) (hB : B ≤ w.heap.size) (ho : ∀ y ∈ b, y < 256) (hT : Lib.Utf8Tabs 0 1 w) :
    Calls Tryz.prog 80 #[.agg #[.int .u8 (x : Int), .slice A n c, .slice K kn kc]] w (GetTx w (txOf x kn b)) := by
  have hH := Holds.fresh w 31 #[.int .u8 (x : Int), .slice A n c, .slice K kn kc]
  have HB0 : Hid (Below w.heap.size w (w.alloc (.cells #[.int .u8 (x : Int), .slice A n c, .slice K kn kc] 31))) := Lib.hid ((Below.refl _ _).alloc (Nat.le_refl _) _)
  have c0 := hH.cell 0
  have c1 := hH.cell 1
  have c2 := hH.cell 2
  have HK := Lib.hid (held_any (w.alloc (.cells #[.int .u8 (x : Int), .slice A n c, .slice K kn kc] 31)) x n c kn kc 12 A K)
  have HR := Lib.hid hr
  have HN := Lib.hid hn
  have HT := Lib.hid hT
  have HO := Lib.hid ho
  clear hr hn hT ho
  obtain ⟨o, HOO⟩ : ∃ o, Hid (o = txOf x kn b) := ⟨_, rfl⟩
  rw [← HOO.out]
  rcases hok : heldOk x kn 12 with _ | _
  case false =>
    have HE : Hid (o = none) := Lib.hid (by rw [HOO.out]; unfold txOf; rw [hok]; rfl)
    rw [hok] at HK
    go_enter Tryz.func80, Tryz.ntmps80
    go_wp2_with fail
    refine HK.out.mono ?_
    rintro e w2 ⟨rfl, hb2⟩
    have HQ := Lib.hid (HB0.out.trans (hb2.mono HB0.out.size))
    clear hb2 HK
    go_wp2_with fail
    go_ret2
    rw [HE.out]
    exact ⟨rfl, HQ.out⟩
  by_cases h64 : 64 < n
  case pos =>
    have HE : Hid (o = none) := Lib.hid (by rw [HOO.out]; unfold txOf textOk; rw [if_neg (fun h => by have := h.2; simp [HN.out] at this; omega)])
    have d1 : decide ((64 : Int) < (n : Int)) = true := decide_eq_true (by omega)
    rw [hok] at HK
    go_enter Tryz.func80, Tryz.ntmps80
    go_wp2_with fail
    refine HK.out.mono ?_
    rintro e w2 ⟨rfl, hb2⟩
    have HQ := Lib.hid (HB0.out.trans (hb2.mono HB0.out.size))
    clear hb2 HK
    go_wp2_with fail
    go_ret2
    rw [HE.out]
    exact ⟨rfl, HQ.out⟩
  have d1 : decide ((64 : Int) < (n : Int)) = false := decide_eq_false (by omega)
  rcases hvd : vd b with _ | _
  case false =>
    have HE : Hid (o = none) := Lib.hid (by rw [HOO.out]; unfold txOf textOk; rw [if_neg (fun h => by have := h.2; simp [hvd] at this)])
    have HV := Lib.hid hvd
    rw [hok] at HK
    clear hvd
    go_enter Tryz.func80, Tryz.ntmps80
    go_wp2_with fail
    refine HK.out.mono ?_
    rintro e w2 ⟨rfl, hb2⟩
    have HQ := Lib.hid (HB0.out.trans (hb2.mono HB0.out.size))
    have hval := valid_any w2 B A c n b (HR.out.under (HQ.out.mono hB)) HN.out (Nat.le_trans hB HQ.out.size) HO.out (Utf8Tabs_below HT.out HQ.out)
    rw [HV.out] at hval
    have HVAL := Lib.hid hval
    clear hb2 HK hval
    go_wp2_with fail
    refine HVAL.out.mono ?_
    rintro e w3 ⟨rfl, hb3⟩
    have HQ3 := Lib.hid (HQ.out.trans (hb3.mono HQ.out.size))
    clear hb3
    go_wp2_with fail
    go_ret2
    rw [HE.out]
    exact ⟨rfl, HQ3.out⟩
  have HE : Hid (o = some b) := Lib.hid (by rw [HOO.out]; unfold txOf textOk; rw [if_pos ⟨hok, by simp [hvd, HN.out]; omega⟩])
  have HV := Lib.hid hvd
  rw [hok] at HK
  clear hvd
  go_enter Tryz.func80, Tryz.ntmps80
  go_wp2_with fail
  refine HK.out.mono ?_
  rintro e w2 ⟨rfl, hb2⟩
  have HQ := Lib.hid (HB0.out.trans (hb2.mono HB0.out.size))
  have hval := valid_any w2 B A c n b (HR.out.under (HQ.out.mono hB)) HN.out (Nat.le_trans hB HQ.out.size) HO.out (Utf8Tabs_below HT.out HQ.out)
  rw [HV.out] at hval
  have HVAL := Lib.hid hval
  clear hb2 HK hval
  go_wp2_with fail
  refine HVAL.out.mono ?_
  rintro e w3 ⟨rfl, hb3⟩
  have HQ3 := Lib.hid (HQ.out.trans (hb3.mono HQ.out.size))
  have hcv := conv_str (w := w3) (HR.out.under (HQ3.out.mono hB)) HN.out HO.out
  clear hb3
  go_wp2_with fail
  go_ret2
  rw [HE.out]
  exact ⟨rfl, HQ3.out⟩

/-- A thing's digits. -/
def bitsOf (x kn : Nat) (b : List Nat) : Option (List Nat) := if heldOk x kn 3 = true ∧ 0 < b.length ∧ b.getD 0 0 = 0 then some (b.drop 1) else none
set_option maxRecDepth 100000 in
set_option maxHeartbeats 2000000 in
theorem getBits_any (w : World) (x n c kn kc B : Nat) (A K : Option Addr) (b : List Nat) (hr : Rd .u8 w B A c b) (hn : b.length = n) (hB : B ≤ w.heap.size) (h12 : n ≤ 12000) :
    Calls Tryz.prog 45 #[.agg #[.int .u8 (x : Int), .slice A n c, .slice K kn kc]] w (GetB w (bitsOf x kn b)) := by
  have hH := Holds.fresh w 31 #[.int .u8 (x : Int), .slice A n c, .slice K kn kc]
  have HB0 : Hid (Below w.heap.size w (w.alloc (.cells #[.int .u8 (x : Int), .slice A n c, .slice K kn kc] 31))) := Lib.hid ((Below.refl _ _).alloc (Nat.le_refl _) _)
  have c0 := hH.cell 0
  have c1 := hH.cell 1
  have c2 := hH.cell 2
  have HK := Lib.hid (held_any (w.alloc (.cells #[.int .u8 (x : Int), .slice A n c, .slice K kn kc] 31)) x n c kn kc 3 A K)
  have HR := Lib.hid hr
  have HN := Lib.hid hn
  clear hr hn
  obtain ⟨o, HOO⟩ : ∃ o, Hid (o = bitsOf x kn b) := ⟨_, rfl⟩
  rw [← HOO.out]
  rcases hok : heldOk x kn 3 with _ | _
  case false =>
    have HE : Hid (o = none) := Lib.hid (by rw [HOO.out]; unfold bitsOf; rw [hok]; rfl)
    rw [hok] at HK
    go_enter Tryz.func45, Tryz.ntmps45
    go_wp2_with fail
    refine HK.out.mono ?_
    rintro e w2 ⟨rfl, hb2⟩
    have HQ := Lib.hid (HB0.out.trans (hb2.mono HB0.out.size))
    clear hb2 HK
    go_wp2_with fail
    go_ret2
    rw [HE.out]
    exact ⟨rfl, HQ.out⟩
  rw [hok] at HK
  by_cases h0 : n = 0
  case pos =>
    subst h0
    have HE : Hid (o = none) := Lib.hid (by rw [HOO.out]; unfold bitsOf; rw [if_neg (fun h => by have := h.2.1; have := HN.out; omega)])
    go_enter Tryz.func45, Tryz.ntmps45
    go_wp2_with fail
    refine HK.out.mono ?_
    rintro e w2 ⟨rfl, hb2⟩
    have HQ := Lib.hid (HB0.out.trans (hb2.mono HB0.out.size))
    clear hb2 HK
    go_wp2_with fail
    go_ret2
    rw [HE.out]
    exact ⟨rfl, HQ.out⟩
  have z0 : ((n : Int) == 0) = false := by rw [beq_eq_false_iff_ne]; omega
  have hnz : (0 : Int) < (n : Int) := by omega
  obtain ⟨g, off, hA, hlt, hcell⟩ := HR.out.2.2 (by rw [HN.out]; omega)
  have hc0 := hcell 0 (by rw [HN.out]; omega)
  rw [Nat.add_zero] at hc0
  obtain ⟨y, hy⟩ : ∃ y, b.getD 0 0 = y := ⟨_, rfl⟩
  rw [hy] at hc0
  have HY := Lib.hid hy
  have HC0 := Lib.hid hc0
  clear hcell hy hc0
  subst hA
  by_cases hy0 : y = 0
  case neg =>
    have HE : Hid (o = none) := Lib.hid (by rw [HOO.out]; unfold bitsOf; rw [if_neg (fun h => by have := h.2.2; rw [HY.out] at this; omega)])
    have d1 : ((y : Int) != 0) = true := by simp; omega
    go_enter Tryz.func45, Tryz.ntmps45
    go_wp2_with fail
    refine HK.out.mono ?_
    rintro e w2 ⟨rfl, hb2⟩
    have HQ := Lib.hid (HB0.out.trans (hb2.mono HB0.out.size))
    have hc2 := (HQ.out.cell (p := ⟨g, off, none⟩) (by show g < _; omega)).trans HC0.out
    clear hb2 HK
    go_wp2_with fail
    go_ret2
    rw [HE.out]
    exact ⟨rfl, HQ.out⟩
  have HE : Hid (o = some (b.drop 1)) := Lib.hid (by rw [HOO.out]; unfold bitsOf; rw [if_pos ⟨hok, by rw [HN.out]; omega, by rw [HY.out]; exact hy0⟩])
  have d1 : ((y : Int) != 0) = false := by simp; omega
  have hdr := fun W => run_drop W (some ⟨g, off, none⟩) n c 1 (by omega) (by have := HR.out.1; rw [HN.out] at this; omega)
  have HDR := Lib.hid (HR.out.drop 1 (by rw [HN.out]; omega))
  generalize hD : dropA (some ⟨g, off, none⟩) 1 c = D at *
  obtain ⟨m, hm⟩ : ∃ m, n - 1 = m := ⟨_, rfl⟩
  obtain ⟨d, hd⟩ : ∃ d, c - 1 = d := ⟨_, rfl⟩
  have hdr1 : ∀ W, (Instr.sliceAt 22 (.slice (some ⟨g, off, none⟩) n c) (some (.int .i64 1)) none none).run Tryz.prog W = .ok (.slice D m d) W := fun W => by rw [← hm, ← hd]; exact hdr W
  rw [hd] at HDR
  have HM1 : Hid ((b.drop 1).length = m) := Lib.hid (by rw [List.length_drop, HN.out, hm])
  have hm12 : m ≤ 12000 := by omega
  clear hdr hD hm hd
  go_enter Tryz.func45, Tryz.ntmps45
  go_wp2_with fail
  refine HK.out.mono ?_
  rintro e w2 ⟨rfl, hb2⟩
  have HQ := Lib.hid (HB0.out.trans (hb2.mono HB0.out.size))
  have hc2 := (HQ.out.cell (p := ⟨g, off, none⟩) (by show g < _; omega)).trans HC0.out
  have HCL := Lib.hid (clone_any w2 B D d m (b.drop 1) (HDR.out.under (HQ.out.mono hB)) HM1.out (Nat.le_trans hB HQ.out.size) hm12)
  clear hb2 HK
  go_wp2_with fail
  refine HCL.out.mono ?_
  rintro e w3 ⟨A3, c3, rfl, hm3, hb3⟩
  have HQ3 := Lib.hid (HQ.out.trans (hb3.mono HQ.out.size))
  have HM3 := Lib.hid (hm3.less HQ.out.size)
  clear hb3 hm3
  go_wp2_with fail
  go_ret2
  rw [HE.out]
  exact ⟨A3, c3, by rw [HM1.out]; rfl, HM3.out, HQ3.out⟩
end Go.Proofs.YtbkjjhpnjfdlbaaGreatDoor
