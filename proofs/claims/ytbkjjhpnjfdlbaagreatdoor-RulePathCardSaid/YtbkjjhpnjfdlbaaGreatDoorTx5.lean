/-
  A thing of digits, by both; a thing's truth, by atom.
-/
import Derived.Test.YtbkjjhpnjfdlbaaGreatDoorTx4
namespace Go.Proofs.YtbkjjhpnjfdlbaaGreatDoor
open Go.RowKit BigFrame
set_option linter.unusedVariables false
set_option linter.unusedSimpArgs false
attribute [local go_sem ↓] Go.wp_at_zero Go.wp_at_succ

set_option maxRecDepth 100000 in
set_option maxHeartbeats 2000000 in
theorem digs'_any (w : World) (xs : List Nat) (A : Option Addr) (c n B : Nat) (b : List Nat) (hr : Rd .u8 w B A c b) (hn : b.length = n) (hB : B ≤ w.heap.size) (hmx : n ≤ 800000) (ho : ∀ x ∈ b, x < 256) (hxs : ∀ x ∈ xs, x < w.heap.size) :
    Calls Tryz.prog 6 #[.slice A n c] w (MadeT w xs (.mk 3 (0 :: b) [])) := by
  have HO := Lib.hid ho
  have hZ := (Holds.fresh w 31 #[.int .u8 0, .slice none 0 0, .slice none 0 0]).alloc (.cells #[.int .u8 0] 5)
  have hs1 : (w.alloc (.cells #[.int .u8 0, .slice none 0 0, .slice none 0 0] 31)).heap.size = w.heap.size + 1 := by simp
  have HM1 : Hid (Mine 5 ((w.alloc (.cells #[.int .u8 0, .slice none 0 0, .slice none 0 0] 31)).alloc (.cells #[.int .u8 0] 5)) (w.heap.size + 1) (some ⟨w.heap.size + 1, 0, none⟩) 1 [0]) := Lib.hid (by
    have h := Mine.fresh1 (w.alloc (.cells #[.int .u8 0, .slice none 0 0, .slice none 0 0] 31)) (w.heap.size + 1) 0 (by omega)
    rw [hs1] at h
    exact h)
  have HQ1 : Hid (Below w.heap.size w ((w.alloc (.cells #[.int .u8 0, .slice none 0 0, .slice none 0 0] 31)).alloc (.cells #[.int .u8 0] 5))) := Lib.hid (((Below.refl _ _).alloc (Nat.le_refl _) _).alloc (by omega) _)
  have HR1 : Hid (Rd .u8 ((w.alloc (.cells #[.int .u8 0, .slice none 0 0, .slice none 0 0] 31)).alloc (.cells #[.int .u8 0] 5)) B A c b) := Lib.hid (hr.under (HQ1.out.mono hB))
  have HN := Lib.hid hn
  have HZ := Lib.hid hZ
  have HS1 : Hid (w.heap.size + 1 ≤ ((w.alloc (.cells #[.int .u8 0, .slice none 0 0, .slice none 0 0] 31)).alloc (.cells #[.int .u8 0] 5)).heap.size) := Lib.hid (by simp)
  have HF5 : Hid (∀ W, ((w.alloc (.cells #[.int .u8 0, .slice none 0 0, .slice none 0 0] 31)).alloc (.cells #[.int .u8 0] 5)).grownBy W (blk_of (some ⟨w.heap.size + 1, 0, none⟩)) → Holds W w.heap.size 31 #[.int .u8 0, .slice none 0 0, .slice none 0 0]) := Lib.hid fun W hW => HZ.out.grown hW (by simp [blk_of])
  clear hr hn hZ hs1 ho
  go_enter Tryz.func6, Tryz.ntmps6
  go_wp2_with (first | (refine wpList_mine (B2 := B) _ rfl (.tmp 3) (.tmp 4) 22 rfl 5 Tryz.underlying22 info_u8 rfl HM1.out rfl rfl HR1.out HN.out HS1.out (by omega) ?_; intro A5 c5 W5 hm5 hg5 hat5) | fail)
  have hz5 := HF5.out _ hg5
  have hs5 := hz5.lt
  have hq5 : Below w.heap.size w W5 := HQ1.out.trans (below_blk hg5 HQ1.out.size (fun g hg => by simp [blk_of] at hg; omega))
  have HQ5 := Lib.hid hq5
  obtain ⟨m, hm⟩ : ∃ m, 1 + n = m := ⟨_, rfl⟩
  have hlen : ([0] ++ b).length = m := by simp [HN.out]; omega
  have HC := Lib.hid (prim'_own W5 m c5 3 _ A5 ([0] ++ b) hm5.rd hlen (Nat.le_refl _) (by omega) (by omega) (fun x hx => by rcases List.mem_cons.1 hx with rfl | hx; omega; exact HO.out x hx))
  rw [← hm] at HC
  clear hm5 hg5 hat5 hq5 hlen hm
  refine HC.out.mono ?_
  rintro e w2 ⟨v2, rfl, hp2, hb2⟩
  have HQ3 : Hid (Below w.heap.size w w2) := Lib.hid (HQ5.out.trans (hb2.mono HQ5.out.size))
  have hz3 := hz5.under hb2 hs5
  obtain ⟨lt, hlt, hltt, hof⟩ := off_prim (xs := w.heap.size :: xs) hp2 (fun y hy => by rcases List.mem_cons.1 hy with rfl | hy; exact hs5; have := hxs y hy; omega)
  have HLT := Lib.hid hlt
  have HLTT := Lib.hid hltt
  have HOF := Lib.hid hof
  obtain ⟨A2, c2, rfl, _⟩ := hp2
  have z0 := hz3.cell 0
  have z1 := hz3.cell 1
  have z2 := hz3.cell 2
  have y0 := hz3.open_ 0
  have y1 := hz3.open_ 1
  have y2 := hz3.open_ 2
  clear hb2 HC hlt hltt hof hz5
  go_wp2_with fail
  refine ret_one rfl rfl (((hz3.stored 0 _).stored 1 _).stored 2 _) rfl ?_
  exact ⟨lt, congrArg Ending.returned HLT.out, HLTT.out, made_out HOF.out _ _ _, below_out HQ3.out _ _ _⟩

/-- A thing's truth. -/
def boolOf (x kn : Nat) (b : List Nat) : Option Bool := if heldOk x kn 1 = true ∧ b = [255] then some true else if heldOk x kn 1 = true ∧ b = [0] then some false else none
def GetBo (w : World) (o : Option Bool) (e : Ending) (w' : World) : Prop := e = .returned (.tuple #[.bool (o.getD false), .bool o.isSome]) ∧ Below w.heap.size w w'
set_option maxRecDepth 100000 in
set_option maxHeartbeats 2000000 in
theorem getBool_any (w : World) (x n c kn kc B : Nat) (A K : Option Addr) (b : List Nat) (hr : Rd .u8 w B A c b) (hn : b.length = n) (hB : B ≤ w.heap.size) :
    Calls Tryz.prog 43 #[.agg #[.int .u8 (x : Int), .slice A n c, .slice K kn kc]] w (GetBo w (boolOf x kn b)) := by
  have hH := Holds.fresh w 31 #[.int .u8 (x : Int), .slice A n c, .slice K kn kc]
  have HB0 : Hid (Below w.heap.size w (w.alloc (.cells #[.int .u8 (x : Int), .slice A n c, .slice K kn kc] 31))) := Lib.hid ((Below.refl _ _).alloc (Nat.le_refl _) _)
  have c0 := hH.cell 0
  have c1 := hH.cell 1
  have c2 := hH.cell 2
  have HK := Lib.hid (held_any (w.alloc (.cells #[.int .u8 (x : Int), .slice A n c, .slice K kn kc] 31)) x n c kn kc 1 A K)
  have HR := Lib.hid hr
  have HN := Lib.hid hn
  clear hr hn
  obtain ⟨o, HOO⟩ : ∃ o, Hid (o = boolOf x kn b) := ⟨_, rfl⟩
  rw [← HOO.out]
  rcases hok : heldOk x kn 1 with _ | _
  case false =>
    have HE : Hid (o = none) := Lib.hid (by rw [HOO.out]; unfold boolOf; rw [hok]; rfl)
    rw [hok] at HK
    go_enter Tryz.func43, Tryz.ntmps43
    go_wp2_with fail
    refine HK.out.mono ?_
    rintro e w2 ⟨rfl, hb2⟩
    have HQ := Lib.hid (HB0.out.trans (hb2.mono HB0.out.size))
    clear hb2 HK
    go_wp2_with fail
    go_ret2
    rw [HE.out]
    exact ⟨rfl, HQ.out⟩
  rw [hok] at HK
  by_cases h1 : n = 1
  case neg =>
    have HE : Hid (o = none) := Lib.hid (by
      rw [HOO.out]; unfold boolOf
      rw [if_neg (fun h => h1 (by rw [← HN.out, h.2]; rfl)), if_neg (fun h => h1 (by rw [← HN.out, h.2]; rfl))])
    have d1 : ((n : Int) != 1) = true := by simp; omega
    go_enter Tryz.func43, Tryz.ntmps43
    go_wp2_with fail
    refine HK.out.mono ?_
    rintro e w2 ⟨rfl, hb2⟩
    have HQ := Lib.hid (HB0.out.trans (hb2.mono HB0.out.size))
    clear hb2 HK
    go_wp2_with fail
    go_ret2
    rw [HE.out]
    exact ⟨rfl, HQ.out⟩
  subst h1
  obtain ⟨y, hby⟩ : ∃ y, b = [y] := by
    have := HN.out
    rcases b with _ | ⟨y, _ | ⟨z, t⟩⟩
    · simp at this
    · exact ⟨y, rfl⟩
    · simp at this
  obtain ⟨g, off, hA, hlt, hcell⟩ := HR.out.2.2 (by rw [HN.out]; omega)
  have hc0 := hcell 0 (by rw [HN.out]; omega)
  rw [Nat.add_zero, hby] at hc0
  have HC0 := Lib.hid hc0
  have HBY := Lib.hid hby
  clear hcell hc0 hby
  subst hA
  by_cases hy1 : y = 255
  · have HE : Hid (o = some true) := Lib.hid (by rw [HOO.out]; unfold boolOf; rw [if_pos ⟨hok, by rw [HBY.out, hy1]⟩])
    have d1 : ((y : Int) != 255) = false := by simp; omega
    have d2 : ((y : Int) == 255) = true := by simp; omega
    go_enter Tryz.func43, Tryz.ntmps43
    go_wp2_with fail
    refine HK.out.mono ?_
    rintro e w2 ⟨rfl, hb2⟩
    have HQ := Lib.hid (HB0.out.trans (hb2.mono HB0.out.size))
    have hc2 : w2.cell? ⟨g, off, none⟩ = some (.int .u8 (y : Int)) := (HQ.out.cell (p := ⟨g, off, none⟩) (by show g < _; omega)).trans HC0.out
    clear hb2 HK
    go_wp2_with fail
    go_ret2
    rw [HE.out]
    exact ⟨rfl, HQ.out⟩
  have d1 : ((y : Int) != 255) = true := by simp; omega
  have d2 : ((y : Int) == 255) = false := by simp; omega
  by_cases hy0 : y = 0
  · have HE : Hid (o = some false) := Lib.hid (by
      rw [HOO.out]; unfold boolOf
      rw [if_neg (fun h => by have := h.2; rw [HBY.out] at this; injection this with e _; omega), if_pos ⟨hok, by rw [HBY.out, hy0]⟩])
    have d3 : ((y : Int) != 0) = false := by simp; omega
    go_enter Tryz.func43, Tryz.ntmps43
    go_wp2_with fail
    refine HK.out.mono ?_
    rintro e w2 ⟨rfl, hb2⟩
    have HQ := Lib.hid (HB0.out.trans (hb2.mono HB0.out.size))
    have hc2 : w2.cell? ⟨g, off, none⟩ = some (.int .u8 (y : Int)) := (HQ.out.cell (p := ⟨g, off, none⟩) (by show g < _; omega)).trans HC0.out
    clear hb2 HK
    go_wp2_with fail
    go_ret2
    rw [HE.out]
    exact ⟨rfl, HQ.out⟩
  · have HE : Hid (o = none) := Lib.hid (by
      rw [HOO.out]; unfold boolOf
      rw [if_neg (fun h => by have := h.2; rw [HBY.out] at this; injection this with e _; omega), if_neg (fun h => by have := h.2; rw [HBY.out] at this; injection this with e _; omega)])
    have d3 : ((y : Int) != 0) = true := by simp; omega
    go_enter Tryz.func43, Tryz.ntmps43
    go_wp2_with fail
    refine HK.out.mono ?_
    rintro e w2 ⟨rfl, hb2⟩
    have HQ := Lib.hid (HB0.out.trans (hb2.mono HB0.out.size))
    have hc2 : w2.cell? ⟨g, off, none⟩ = some (.int .u8 (y : Int)) := (HQ.out.cell (p := ⟨g, off, none⟩) (by show g < _; omega)).trans HC0.out
    clear hb2 HK
    go_wp2_with fail
    go_ret2
    rw [HE.out]
    exact ⟨rfl, HQ.out⟩
end Go.Proofs.YtbkjjhpnjfdlbaaGreatDoor
