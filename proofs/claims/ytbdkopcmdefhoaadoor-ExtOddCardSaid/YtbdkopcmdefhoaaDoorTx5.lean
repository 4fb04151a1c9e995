/-
  A thing of digits, by both; a thing's truth, by atom.
-/
import Derived.Test.YtbdkopcmdefhoaaDoorTx4
namespace Go.Proofs.YtbdkopcmdefhoaaDoor
open Go.RowKit BigFrame
set_option linter.unusedVariables false
set_option linter.unusedSimpArgs false
attribute [local go_sem ↓] Go.wp_at_zero Go.wp_at_succ

/-- A thing's truth. -/
def boolOf (x kn : Nat) (b : List Nat) : Option Bool := if heldOk x kn 1 = true ∧ b = [255] then some true else if heldOk x kn 1 = true ∧ b = [0] then some false else none
def GetBo (w : World) (o : Option Bool) (e : Ending) (w' : World) : Prop := e = .returned (.tuple #[.bool (o.getD false), .bool o.isSome]) ∧ Below w.heap.size w w'
set_option maxRecDepth 100000 in
set_option maxHeartbeats 2000000 in
theorem getBool_any (w : World) (x n c kn kc B : Nat) (A K : Option Addr) (b : List Nat) (hr : Rd .u8 w B A c b) (hn : b.length = n) (hB : B ≤ w.heap.size) :
    Calls Tryd.prog 24 #[.agg #[.int .u8 (x : Int), .slice A n c, .slice K kn kc]] w (GetBo w (boolOf x kn b)) := by
  have hH := Holds.fresh w 41 #[.int .u8 (x : Int), .slice A n c, .slice K kn kc]
  have HB0 : Hid (Below w.heap.size w (w.alloc (.cells #[.int .u8 (x : Int), .slice A n c, .slice K kn kc] 41))) := Lib.hid ((Below.refl _ _).alloc (Nat.le_refl _) _)
  have c0 := hH.cell 0
  have c1 := hH.cell 1
  have c2 := hH.cell 2
  have HK := Lib.hid (held_any (w.alloc (.cells #[.int .u8 (x : Int), .slice A n c, .slice K kn kc] 41)) x n c kn kc 1 A K)
  have HR := Lib.hid hr
  have HN := Lib.hid hn
  clear hr hn
  obtain ⟨o, HOO⟩ : ∃ o, Hid (o = boolOf x kn b) := ⟨_, rfl⟩
  rw [← HOO.out]
  rcases hok : heldOk x kn 1 with _ | _
  case false =>
    have HE : Hid (o = none) := Lib.hid (by rw [HOO.out]; unfold boolOf; rw [hok]; rfl)
    rw [hok] at HK
    go_enter Tryd.func24, Tryd.ntmps24
    go_wp2_with fail
    refine HK.out.mono ?_
    rintro e w2 ⟨rfl, hb2⟩
    have HQ := Lib.hid (HB0.out.trans (hb2.mono HB0.out.size))
    clear hb2 HK
    go_wp2_with fail
    go_ret2
    rw [HE.out]
    exact ⟨rfl, HQ.out⟩
  rw [hok] at HK
  by_cases h1 : n = 1
  case neg =>
    have HE : Hid (o = none) := Lib.hid (by
      rw [HOO.out]; unfold boolOf
      rw [if_neg (fun h => h1 (by rw [← HN.out, h.2]; rfl)), if_neg (fun h => h1 (by rw [← HN.out, h.2]; rfl))])
    have d1 : ((n : Int) != 1) = true := by simp; omega
    go_enter Tryd.func24, Tryd.ntmps24
    go_wp2_with fail
    refine HK.out.mono ?_
    rintro e w2 ⟨rfl, hb2⟩
    have HQ := Lib.hid (HB0.out.trans (hb2.mono HB0.out.size))
    clear hb2 HK
    go_wp2_with fail
    go_ret2
    rw [HE.out]
    exact ⟨rfl, HQ.out⟩
  subst h1
  obtain ⟨y, hby⟩ : ∃ y, b = [y] := by
    have := HN.out
    rcases b with _ | ⟨y, _ | ⟨z, t⟩⟩
    · simp at this
    · exact ⟨y, rfl⟩
    · simp at this
  obtain ⟨g, off, hA, hlt, hcell⟩ := HR.out.2.2 (by rw [HN.out]; omega)
  have hc0 := hcell 0 (by rw [HN.out]; omega)
  rw [Nat.add_zero, hby] at hc0
  have HC0 := Lib.hid hc0
  have HBY := Lib.hid hby
  clear hcell hc0 hby
  subst hA
  by_cases hy1 : y = 255
  · have HE : Hid (o = some true) := Lib.hid (by rw [HOO.out]; unfold boolOf; rw [if_pos ⟨hok, by rw [HBY.out, hy1]⟩])
    have d1 : ((y : Int) != 255) = false := by simp; omega
    have d2 : ((y : Int) == 255) = true := by simp; omega
    go_enter Tryd.func24, Tryd.ntmps24
    go_wp2_with fail
    refine HK.out.mono ?_
    rintro e w2 ⟨rfl, hb2⟩
    have HQ := Lib.hid (HB0.out.trans (hb2.mono HB0.out.size))
    have hc2 : w2.cell? ⟨g, off, none⟩ = some (.int .u8 (y : Int)) := (HQ.out.cell (p := ⟨g, off, none⟩) (by show g < _; omega)).trans HC0.out
    clear hb2 HK
    go_wp2_with fail
    go_ret2
    rw [HE.out]
    exact ⟨rfl, HQ.out⟩
  have d1 : ((y : Int) != 255) = true := by simp; omega
  have d2 : ((y : Int) == 255) = false := by simp; omega
  by_cases hy0 : y = 0
  · have HE : Hid (o = some false) := Lib.hid (by
      rw [HOO.out]; unfold boolOf
      rw [if_neg (fun h => by have := h.2; rw [HBY.out] at this; injection this with e _; omega), if_pos ⟨hok, by rw [HBY.out, hy0]⟩])
    have d3 : ((y : Int) != 0) = false := by simp; omega
    go_enter Tryd.func24, Tryd.ntmps24
    go_wp2_with fail
    refine HK.out.mono ?_
    rintro e w2 ⟨rfl, hb2⟩
    have HQ := Lib.hid (HB0.out.trans (hb2.mono HB0.out.size))
    have hc2 : w2.cell? ⟨g, off, none⟩ = some (.int .u8 (y : Int)) := (HQ.out.cell (p := ⟨g, off, none⟩) (by show g < _; omega)).trans HC0.out
    clear hb2 HK
    go_wp2_with fail
    go_ret2
    rw [HE.out]
    exact ⟨rfl, HQ.out⟩
  · have HE : Hid (o = none) := Lib.hid (by
      rw [HOO.out]; unfold boolOf
      rw [if_neg (fun h => by have := h.2; rw [HBY.out] at this; injection this with e _; omega), if_neg (fun h => by have := h.2; rw [HBY.out] at this; injection this with e _; omega)])
    have d3 : ((y : Int) != 0) = true := by simp; omega
    go_enter Tryd.func24, Tryd.ntmps24
    go_wp2_with fail
    refine HK.out.mono ?_
    rintro e w2 ⟨rfl, hb2⟩
    have HQ := Lib.hid (HB0.out.trans (hb2.mono HB0.out.size))
    have hc2 : w2.cell? ⟨g, off, none⟩ = some (.int .u8 (y : Int)) := (HQ.out.cell (p := ⟨g, off, none⟩) (by show g < _; omega)).trans HC0.out
    clear hb2 HK
    go_wp2_with fail
    go_ret2
    rw [HE.out]
    exact ⟨rfl, HQ.out⟩
end Go.Proofs.YtbdkopcmdefhoaaDoor
