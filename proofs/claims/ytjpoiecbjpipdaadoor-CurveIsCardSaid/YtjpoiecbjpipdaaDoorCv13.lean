/-
  Chapter 10's known things; the law of points.
-/
import Derived.Test.YtjpoiecbjpipdaaDoorCv12
import Derived.Test.YtjpoiecbjpipdaaDoorCv10
import Derived.Deep.RegionLaw
import Derived.Deep.RegionHeld3
import Derived.Deep.DrawnRows
namespace Go.Proofs.YtjpoiecbjpipdaaDoor
open Go.RowKit
set_option linter.unusedVariables false
set_option linter.unusedSimpArgs false

set_option maxRecDepth 100000 in
set_option maxHeartbeats 4000000 in
theorem known10_any (w : World) (hm : CMet w) : Calls Tryd.prog 11 #[] w fun e w' => e = .returned (.bool true) ∧ Below w.heap.size w w' := by
  have HMw := Lib.hid hm
  clear hm
  have hfd : ∀ w : World, (Instr.field 25 (.agg #[.slice none 0 0, .slice none 0 0, .bool true]) 2).run Tryd.prog w = .ok (.bool true) w := fun _ => by kernel_rfl
  go_enter Tryd.func11, Tryd.ntmps11
  go_wp2_with fail
  refine (curveG_any w).mono ?_
  rintro e w1 ⟨gax, gay, rfl, hxa, hya, hbN⟩
  have HSw1 := Lib.hid hbN
  have HMw1 := Lib.hid (HMw.out.under hbN)
  have Haxw1 := Lib.hid (Eight.rd hxa rfl)
  have Hayw1 := Lib.hid (Eight.rd hya rfl)
  clear hbN hxa hya
  go_wp2_with fail
  refine (curveIs_any w1 HMw1.out (some ⟨gax, 0, none⟩) (some ⟨gay, 0, none⟩) 8 8 lX lY false Haxw1.out Hayw1.out lX_ok.1 lY_ok.1).mono ?_
  rintro e w2 ⟨rfl, hbN⟩
  have HSw2 := Lib.hid (HSw1.out.trans (hbN.mono HSw1.out.size))
  have HMw2 := Lib.hid (HMw1.out.under hbN)
  rw [g_on]
  clear hbN
  go_wp2_with fail
  refine (curveG_any w2).mono ?_
  rintro e w3 ⟨gbx, gby, rfl, hxb, hyb, hbN⟩
  have HSw3 := Lib.hid (HSw2.out.trans (hbN.mono HSw2.out.size))
  have HMw3 := Lib.hid (HMw2.out.under hbN)
  have Hbxw3 := Lib.hid (Eight.rd hxb rfl)
  have Hbyw3 := Lib.hid (Eight.rd hyb rfl)
  clear hbN hxb hyb
  go_wp2_with fail
  refine (refG_any w3).mono ?_
  rintro e w4 ⟨gcx, gcy, rfl, hxc, hyc, hbN⟩
  have HSw4 := Lib.hid (HSw3.out.trans (hbN.mono HSw3.out.size))
  have HMw4 := Lib.hid (HMw3.out.under hbN)
  have Hbxw4 := Lib.hid ((Hbxw3.out.under hbN).more hbN.size)
  have Hbyw4 := Lib.hid ((Hbyw3.out.under hbN).more hbN.size)
  have Hcxw4 := Lib.hid (Eight.rd hxc rfl)
  have Hcyw4 := Lib.hid (Eight.rd hyc rfl)
  clear hbN hxc hyc
  go_wp2_with fail
  refine (same_yes w4 gbx gby gcx gcy Hbxw4.out Hbyw4.out Hcxw4.out Hcyw4.out).mono ?_
  rintro e w5 ⟨rfl, hbN⟩
  have HSw5 := Lib.hid (HSw4.out.trans (hbN.mono HSw4.out.size))
  have HMw5 := Lib.hid (HMw4.out.under hbN)
  clear hbN
  go_wp2_with fail
  refine (curveG_any w5).mono ?_
  rintro e w6 ⟨gdx, gdy, rfl, hxd, hyd, hbN⟩
  have HSw6 := Lib.hid (HSw5.out.trans (hbN.mono HSw5.out.size))
  have HMw6 := Lib.hid (HMw5.out.under hbN)
  have Hdxw6 := Lib.hid (Eight.rd hxd rfl)
  have Hdyw6 := Lib.hid (Eight.rd hyd rfl)
  clear hbN hxd hyd
  go_wp2_with fail
  refine (times_none w6 HMw6.out gdx gdy Hdxw6.out Hdyw6.out).mono ?_
  rintro e w7 ⟨rfl, hbN⟩
  have HSw7 := Lib.hid (HSw6.out.trans (hbN.mono HSw6.out.size))
  have HMw7 := Lib.hid (HMw6.out.under hbN)
  clear hbN
  go_wp2_with fail
  refine (curveN_any w7).mono ?_
  rintro e w8 ⟨gp, hgp, rfl, hPp, hbN⟩
  have HSw8 := Lib.hid (HSw7.out.trans (hbN.mono HSw7.out.size))
  have HMw8 := Lib.hid (HMw7.out.under hbN)
  have Hpw8 := Lib.hid (Eight.rd hPp rfl)
  clear hbN hgp hPp
  go_wp2_with fail
  refine (refN_any w8).mono ?_
  rintro e w9 ⟨gq, hgq, rfl, hPq, hbN⟩
  have HSw9 := Lib.hid (HSw8.out.trans (hbN.mono HSw8.out.size))
  have HMw9 := Lib.hid (HMw8.out.under hbN)
  have Hpw9 := Lib.hid ((Hpw8.out.under hbN).more hbN.size)
  have Hqw9 := Lib.hid (Eight.rd hPq rfl)
  clear hbN hgq hPq
  go_wp2_with fail
  refine (cmp'_any w9 _ _ (some ⟨gp, 0, none⟩) (some ⟨gq, 0, none⟩) 8 8 lN lN Hpw9.out Hqw9.out 0 (cmpL_refl lN)).mono ?_
  rintro e wq ⟨rfl, qq, rfl⟩
  obtain ⟨w10, hN⟩ : ∃ W, W = w9.drewN qq := ⟨_, rfl⟩
  rw [← hN]
  have HSw10 : Hid (Below w.heap.size w w10) := Lib.hid (by rw [hN]; exact bdN HSw9.out qq)
  have HMw10 : Hid (CMet w10) := Lib.hid (by rw [hN]; exact HMw9.out)
  clear hN
  go_wp2_with fail
  refine (curveP_any w10).mono ?_
  rintro e w11 ⟨gr, hgr, rfl, hPr, hbN⟩
  have HSw11 := Lib.hid (HSw10.out.trans (hbN.mono HSw10.out.size))
  have HMw11 := Lib.hid (HMw10.out.under hbN)
  have Hrw11 := Lib.hid (Eight.rd hPr rfl)
  clear hbN hgr hPr
  go_wp2_with fail
  refine (refP_any w11).mono ?_
  rintro e w12 ⟨gs, hgs, rfl, hPs, hbN⟩
  have HSw12 := Lib.hid (HSw11.out.trans (hbN.mono HSw11.out.size))
  have HMw12 := Lib.hid (HMw11.out.under hbN)
  have Hrw12 := Lib.hid ((Hrw11.out.under hbN).more hbN.size)
  have Hsw12 := Lib.hid (Eight.rd hPs rfl)
  clear hbN hgs hPs
  go_wp2_with fail
  refine (cmp'_any w12 _ _ (some ⟨gr, 0, none⟩) (some ⟨gs, 0, none⟩) 8 8 lP lP Hrw12.out Hsw12.out 0 (cmpL_refl lP)).mono ?_
  rintro e wq ⟨rfl, qq, rfl⟩
  obtain ⟨w13, hN⟩ : ∃ W, W = w12.drewN qq := ⟨_, rfl⟩
  rw [← hN]
  have HSw13 : Hid (Below w.heap.size w w13) := Lib.hid (by rw [hN]; exact bdN HSw12.out qq)
  have HMw13 : Hid (CMet w13) := Lib.hid (by rw [hN]; exact HMw12.out)
  clear hN
  go_wp2_with fail
  refine (curveB_any w13).mono ?_
  rintro e w14 ⟨gu, hgu, rfl, hPu, hbN⟩
  have HSw14 := Lib.hid (HSw13.out.trans (hbN.mono HSw13.out.size))
  have HMw14 := Lib.hid (HMw13.out.under hbN)
  have Huw14 := Lib.hid (Eight.rd hPu rfl)
  clear hbN hgu hPu
  go_wp2_with fail
  refine (refB_any w14).mono ?_
  rintro e w15 ⟨gv, hgv, rfl, hPv, hbN⟩
  have HSw15 := Lib.hid (HSw14.out.trans (hbN.mono HSw14.out.size))
  have HMw15 := Lib.hid (HMw14.out.under hbN)
  have Huw15 := Lib.hid ((Huw14.out.under hbN).more hbN.size)
  have Hvw15 := Lib.hid (Eight.rd hPv rfl)
  clear hbN hgv hPv
  go_wp2_with fail
  refine (cmp'_any w15 _ _ (some ⟨gu, 0, none⟩) (some ⟨gv, 0, none⟩) 8 8 lB lB Huw15.out Hvw15.out 0 (cmpL_refl lB)).mono ?_
  rintro e wq ⟨rfl, qq, rfl⟩
  obtain ⟨w16, hN⟩ : ∃ W, W = w15.drewN qq := ⟨_, rfl⟩
  rw [← hN]
  have HSw16 : Hid (Below w.heap.size w w16) := Lib.hid (by rw [hN]; exact bdN HSw15.out qq)
  have HMw16 : Hid (CMet w16) := Lib.hid (by rw [hN]; exact HMw15.out)
  clear hN
  go_wp2_with fail
  go_ret
  exact ⟨rfl, HSw16.out⟩
set_option maxRecDepth 100000 in
set_option maxHeartbeats 4000000 in
theorem law_is (w : World) (hm : CMet w) (Ax Ay : Option Addr) (cx cy : Nat) (lx ly : List Nat) (inf : Bool) (hx : Rd .u32 w w.heap.size Ax cx lx) (hy : Rd .u32 w w.heap.size Ay cy ly) (hdx : Dg lx) (hdy : Dg ly) :
    Calls Tryd.prog 3 #[.agg #[.slice Ax lx.length cx, .slice Ay ly.length cy, .bool inf]] w fun e w' => e = .returned (.bool true) ∧ Below w.heap.size w w' := by
  obtain ⟨w1, hw1⟩ : ∃ W, W = w.alloc (.cells #[.slice Ax lx.length cx, .slice Ay ly.length cy, .bool inf] 25) := ⟨_, rfl⟩
  have hBX : BoxAt w1 w.heap.size Ax lx.length cx Ay ly.length cy inf := by rw [hw1]; exact ⟨Holds.fresh w _ _⟩
  have hb : Below w.heap.size w w1 := by rw [hw1]; exact (Below.refl _ _).alloc (Nat.le_refl _) _
  have hsz : w.heap.size < w1.heap.size := by rw [hw1]; simp
  have hxc : lx.length ≤ cx := hx.1
  have hyc : ly.length ≤ cy := hy.1
  have HBX := Lib.hid hBX
  have HB := Lib.hid hb
  have HW := Lib.hid hw1
  have HX := Lib.hid ((hx.under hb).more hb.size)
  have HY := Lib.hid ((hy.under hb).more hb.size)
  have HDX := Lib.hid hdx
  have HDY := Lib.hid hdy
  have HM := Lib.hid (hm.under hb)
  clear hBX hb hw1 hx hy hdx hdy hm
  by_cases ha : lx.length ≤ 40
  case neg =>
    have t1 : decide ((40 : Int) < (lx.length : Int)) = true := decide_eq_true (by omega)
    go_enter Tryd.func3, Tryd.ntmps3
    go_wp2_with fail
    go_ret
    exact ⟨rfl, (Below.refl _ _).alloc (Nat.le_refl _) _⟩
  case pos =>
    by_cases hc : ly.length ≤ 40
    case neg =>
      have t1 : decide ((40 : Int) < (lx.length : Int)) = false := decide_eq_false (by omega)
      have t2 : decide ((40 : Int) < (ly.length : Int)) = true := decide_eq_true (by omega)
      go_enter Tryd.func3, Tryd.ntmps3
      go_wp2_with fail
      go_ret
      exact ⟨rfl, (Below.refl _ _).alloc (Nat.le_refl _) _⟩
    case pos =>
      have t1 : decide ((40 : Int) < (lx.length : Int)) = false := decide_eq_false (by omega)
      have t2 : decide ((40 : Int) < (ly.length : Int)) = false := decide_eq_false (by omega)
      have HNX := Lib.hid ha
      have HNY := Lib.hid hc
      obtain ⟨v, hv⟩ : ∃ v, v = ptOk lx ly inf := ⟨_, rfl⟩
      have HPV := Lib.hid hv
      have HBE : Hid ((v == v) = true) := Lib.hid (beq_self_eq_true v)
      clear ha hc hv
      go_enter Tryd.func3, Tryd.ntmps3
      go_wp2_with fail
      rw [← HW.out]
      go_wp2_with fail
      refine wp_region_noPanic ?_
      refine wp_region_held_drew (S := fun W => Below w1.heap.size w1 W) (by kernel_rfl) ((Below.refl _ w1).drew) (fun hHeld => ?_)
      obtain ⟨V, hV⟩ : ∃ W, W = w1.drew := ⟨_, rfl⟩
      rw [← hV]
      have HSV : Hid (Below w1.heap.size w1 V) := Lib.hid (by rw [hV]; exact (Below.refl _ w1).drew)
      replace hHeld : (fun W => Below w1.heap.size w1 W) V := HSV.out
      clear hV
      refine wpAnyH_take (i := 0) (oi := { dst := some 13, op := Op.load 25 (Operand.tmp 1), type := 25, pos := _, after := _, guard := none }) (v := ?_) rfl (by kernel_rfl) (by kernel_rfl) (by kernel_rfl) (fun _ _ _ h => h) (Or.inl ⟨by rfl, ?_⟩) hHeld ?_
      rotate_left 1
      · (intro W hW; have hBC := (HBX.out.under hW hsz).cells; obtain ⟨b0, b1, b2⟩ := hBC; (try dsimp only at hW); go_simp; try with_reducible rfl)
      try simp only [Act.put, List.setIfInBounds_toArray, List.set_cons_zero, List.set_cons_succ]
      refine wpAnyH_take (i := 2) (oi := { dst := some 15, op := Op.load 25 (Operand.tmp 1), type := 25, pos := _, after := _, guard := none }) (v := ?_) rfl (by kernel_rfl) (by kernel_rfl) (by kernel_rfl) (fun _ _ _ h => h) (Or.inl ⟨by rfl, ?_⟩) hHeld ?_
      rotate_left 1
      · (intro W hW; have hBC := (HBX.out.under hW hsz).cells; obtain ⟨b0, b1, b2⟩ := hBC; (try dsimp only at hW); go_simp; try with_reducible rfl)
      try simp only [Act.put, List.setIfInBounds_toArray, List.set_cons_zero, List.set_cons_succ]
      refine wpAnyH_ready (rs := [1]) (by kernel_rfl) (by simp) ?_
      refine AllReadyH.cons (o := { dst := some 14, op := Op.call { callee := Callee.value (Operand.func 9), args := #[Operand.tmp 13], argTypes := #[25] }, type := 4, pos := _, after := _, guard := none }) rfl (fun K hK => ?_) AllReadyH.nil
      go_simp
      refine (curveIs_any V (HM.out.under HSV.out) Ax Ay cx cy lx ly inf ((HX.out.under HSV.out).more HSV.out.size) ((HY.out.under HSV.out).more HSV.out.size) HDX.out HDY.out).mono ?_
      rintro e V1 ⟨rfl, hbN⟩
      have HSV1 : Hid (Below w1.heap.size w1 V1) := Lib.hid (HSV.out.trans (hbN.mono HSV.out.size))
      clear hbN
      rw [← HPV.out]
      go_simp
      refine hK.out _ _ (HSV1.out) (fun _ => ?_)
      clear hK K hHeld
      try simp only [Act.put, List.setIfInBounds_toArray, List.set_cons_zero, List.set_cons_succ]
      have hHeld : (fun W => Below w1.heap.size w1 W) V1 := HSV1.out
      refine wpAnyH_ready (rs := [3]) (by kernel_rfl) (by simp) ?_
      refine AllReadyH.cons (o := { dst := some 16, op := Op.call { callee := Callee.value (Operand.func 10), args := #[Operand.tmp 15], argTypes := #[25] }, type := 4, pos := _, after := _, guard := none }) rfl (fun K hK => ?_) AllReadyH.nil
      go_simp
      refine (refIs_any V1 Ax Ay cx cy lx ly inf ((HX.out.under HSV1.out).more HSV1.out.size) ((HY.out.under HSV1.out).more HSV1.out.size) HDX.out HDY.out (by have := HNX.out; omega) (by have := HNY.out; omega)).mono ?_
      rintro e V2 ⟨rfl, hbN⟩
      have HSV2 : Hid (Below w1.heap.size w1 V2) := Lib.hid (HSV1.out.trans (hbN.mono HSV1.out.size))
      clear hbN
      rw [← HPV.out]
      go_simp
      refine hK.out _ _ (HSV2.out) (fun _ => ?_)
      clear hK K hHeld
      try simp only [Act.put, List.setIfInBounds_toArray, List.set_cons_zero, List.set_cons_succ]
      have hHeld : (fun W => Below w1.heap.size w1 W) V2 := HSV2.out
      refine wpAnyH_take (i := 4) (oi := { dst := some 17, op := Op.binOp BinOp.eql 4 (Operand.tmp 14) (Operand.tmp 16) 4, type := 4, pos := _, after := _, guard := none }) (v := ?_) rfl (by kernel_rfl) (by kernel_rfl) (by kernel_rfl) (fun _ _ _ h => h) (Or.inl ⟨by rfl, ?_⟩) hHeld ?_
      rotate_left 1
      · (intro W hW; have hq := HBE.out; (try dsimp only at hW); go_simp; try with_reducible rfl)
      try simp only [Act.put, List.setIfInBounds_toArray, List.set_cons_zero, List.set_cons_succ]
      refine wpAnyH_take (i := 5) (oi := { dst := some 18, op := Op.move (Operand.tmp 17), type := 4, pos := _, after := _, guard := none }) (v := ?_) rfl (by kernel_rfl) (by kernel_rfl) (by kernel_rfl) (fun _ _ _ h => h) (Or.inl ⟨by rfl, ?_⟩) hHeld ?_
      rotate_left 1
      · (intro W hW; (try dsimp only at hW); go_simp; try with_reducible rfl)
      try simp only [Act.put, List.setIfInBounds_toArray, List.set_cons_zero, List.set_cons_succ]
      refine wpAnyH_ready (rs := [6]) (by kernel_rfl) (by simp) ?_
      refine AllReadyH.cons (o := { dst := some 19, op := Op.call { callee := Callee.value (Operand.func 11), args := #[], argTypes := #[] }, type := 4, pos := _, after := _, guard := some (5, true) }) rfl (fun K hK => ?_) AllReadyH.nil
      go_simp
      refine (known10_any V2 (HM.out.under HSV2.out)).mono ?_
      rintro e V3 ⟨rfl, hbN⟩
      have HSV3 : Hid (Below w1.heap.size w1 V3) := Lib.hid (HSV2.out.trans (hbN.mono HSV2.out.size))
      clear hbN
      go_simp
      refine hK.out _ _ (HSV3.out) (fun _ => ?_)
      clear hK K hHeld
      try simp only [Act.put, List.setIfInBounds_toArray, List.set_cons_zero, List.set_cons_succ]
      have hHeld : (fun W => Below w1.heap.size w1 W) V3 := HSV3.out
      refine wpAnyH_take (i := 7) (oi := { dst := some 20, op := Op.pick (Operand.tmp 18) (Operand.tmp 19) (Operand.const (Value.bool false)), type := 4, pos := _, after := _, guard := none }) (v := ?_) rfl (by kernel_rfl) (by kernel_rfl) (by kernel_rfl) (fun _ _ _ h => h) (Or.inl ⟨by rfl, ?_⟩) hHeld ?_
      rotate_left 1
      · (intro W hW; (try dsimp only at hW); go_simp; try with_reducible rfl)
      try simp only [Act.put, List.setIfInBounds_toArray, List.set_cons_zero, List.set_cons_succ]
      refine wpAnyH_take (i := 8) (oi := { dst := some 2, op := Op.assign (Operand.tmp 20), type := 4, pos := _, after := _, guard := none }) (v := ?_) rfl (by kernel_rfl) (by kernel_rfl) (by kernel_rfl) (fun _ _ _ h => h) (Or.inl ⟨by rfl, ?_⟩) hHeld ?_
      rotate_left 1
      · (intro W hW; (try dsimp only at hW); go_simp; try with_reducible rfl)
      try simp only [Act.put, List.setIfInBounds_toArray, List.set_cons_zero, List.set_cons_succ]
      refine wpAnyH_done (by kernel_rfl) ?_ _
      refine NoPanic.normal ?_
      go_wp2_with fail
      go_ret
      exact ⟨rfl, HB.out.trans (HSV3.out.mono HB.out.size)⟩
end Go.Proofs.YtjpoiecbjpipdaaDoor
