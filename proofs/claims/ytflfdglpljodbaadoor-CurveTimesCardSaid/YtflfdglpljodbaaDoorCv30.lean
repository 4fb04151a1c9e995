/-
  Any number of times.
-/
import Derived.Test.YtflfdglpljodbaaDoorCvF
import Derived.Deep.RegionLaw
import Derived.Deep.RegionHeld3
import Derived.Deep.DrawnRows
namespace Go.Proofs.YtflfdglpljodbaaDoor
open Go.RowKit
set_option linter.unusedVariables false
set_option linter.unusedSimpArgs false

set_option maxRecDepth 100000 in
set_option maxHeartbeats 8000000 in
theorem law_times (w : World) (hm : CMet w) (A : Option Addr) (ca : Nat) (a : List Nat) (hr0 : Rd .u32 w w.heap.size A ca a) (hda : Dg a) (kn : Nat) (hk : kn < 4294967296) :
    Calls Tryd.prog 4 #[.slice A a.length ca, .int .u32 (kn : Int)] w fun e w' => e = .returned (.bool true) ∧ Below w.heap.size w w' := by
  have hW1 : Holds (w.alloc (.cells #[.slice A a.length ca] 24)) w.heap.size 24 #[.slice A a.length ca] := Holds.fresh _ _ _
  have hb1 : Below w.heap.size w (w.alloc (.cells #[.slice A a.length ca] 24)) := (Below.refl _ _).alloc (Nat.le_refl _) _
  obtain ⟨v, hv⟩ : ∃ v : Bool, v = true ↔ ∀ j, j < 1 → okN (([⟨A, ca, a⟩] : List It).getD j default).l = true ∧ (([⟨A, ca, a⟩] : List It).getD j default).l.length ≤ 20 := ⟨decide _, decide_eq_true_iff⟩
  have HS := Lib.hid (such_any (w.alloc (.cells #[.slice A a.length ca] 24)) 20 w.heap.size 1 [⟨A, ca, a⟩] rfl (by omega) (by omega)
    (by
      intro j hj
      have h0 := hW1.cell j
      rcases j with _ | _ | j
      · exact h0
      · omega
      · omega)
    (by
      intro j hj
      rcases j with _ | _ | j
      · exact (hr0.under hb1).more hb1.size
      · omega
      · omega) v hv)
  obtain ⟨W0, hW0⟩ : ∃ W, W = w.alloc (.cells #[.slice A a.length ca] 24) := ⟨_, rfl⟩
  rw [← hW0] at HS hb1
  have HW := Lib.hid hW0
  have HB0 := Lib.hid hb1
  have HM0 := Lib.hid (hm.under hb1)
  have HV := Lib.hid hv
  have Rn0 := Lib.hid ((hr0.under hb1).more hb1.size)
  have HDN := Lib.hid hda
  have HK := Lib.hid hk
  clear hr0 hda hv hW0 hb1 hW1 hm hk
  go_enter Tryd.func4, Tryd.ntmps4
  go_wp2_with fail
  rw [← HW.out]
  clear HW
  refine HS.out.mono ?_
  rintro e w1 ⟨rfl, rfl⟩
  clear HS
  cases v
  case false =>
    go_wp2_with fail
    go_ret
    exact ⟨rfl, HB0.out⟩
  case true =>
    have h0 := HV.out.1 rfl 0 (by omega)
    have HLN : Hid (a.length ≤ 20) := Lib.hid h0.2
    have HNN : Hid (nrm a) := Lib.hid (okN_nrm h0.1).2
    have hd1 : Dg [kn] := fun x hx => by rw [List.mem_singleton.1 hx]; exact HK.out
    have HKD : Hid (Dg (trl [kn])) := Lib.hid (trl_dg hd1)
    have HKN : Hid (nrm (trl [kn])) := Lib.hid (trl_nrm _)
    have HKL : Hid ((trl [kn]).length ≤ 1) := Lib.hid (by rw [trl_length]; exact tlen_le [kn] 1)
    clear h0 HV hd1
    go_wp2_with fail
    obtain ⟨W1, hW1⟩ : ∃ W, W = W0.alloc (.cells #[.int .u32 (kn : Int)] 22) := ⟨_, rfl⟩
    rw [← hW1]
    have hb : Below W0.heap.size W0 W1 := by rw [hW1]; exact (Below.refl _ _).alloc (Nat.le_refl _) _
    have hrow : Row .u32 22 W1 W0.heap.size [kn] := by rw [hW1]; exact Holds.fresh _ _ _
    have hrd := (rd_whole (c := 1) hrow (by simp) (by omega)).more (Holds.lt hrow)
    have hrt := hrd.cut (tlen [kn] [kn].length)
    change Rd .u32 W1 W1.heap.size (some ⟨W0.heap.size, 0, none⟩) 1 (trl [kn]) at hrt
    have HT := Lib.hid (trim'_at W1 _ (some ⟨W0.heap.size, 0, none⟩) 1 1 [kn] hrd rfl)
    have Rk1 := Lib.hid hrt
    have HB1 := Lib.hid (HB0.out.trans (hb.mono HB0.out.size))
    have HM1 := Lib.hid (HM0.out.under hb)
    have Rn1 := Lib.hid ((Rn0.out.under hb).more hb.size)
    clear hb hrow hrd hrt hW1 HB0 HM0 Rn0
    refine HT.out.mono ?_
    rintro e w2 ⟨rfl, rfl⟩
    clear HT
    go_wp2_with fail
    refine (refGP W1).mono ?_
    rintro e W2 ⟨Ag, cg, ag, Bg, dg, bg, ig, rfl, hq, hb⟩
    have HB2 := Lib.hid (HB1.out.trans (hb.mono HB1.out.size))
    have HM2 := Lib.hid (HM1.out.under hb)
    have Rn2 := Lib.hid ((Rn1.out.under hb).more hb.size)
    have Rk2 := Lib.hid ((Rk1.out.under hb).more hb.size)
    clear hb HB1 HM1 Rn1 Rk1
    have Vg2 := Lib.hid hq
    clear hq
    go_wp2_with fail
    refine (timesRP W2 Rk2.out HKD.out (by have := HKL.out; omega) HKN.out Vg2.out gP_on).mono ?_
    rintro e W3 ⟨Ap, cp, ap, Bp, dp, bp, ip, rfl, hq, hb⟩
    have HB3 := Lib.hid (HB2.out.trans (hb.mono HB2.out.size))
    have HM3 := Lib.hid (HM2.out.under hb)
    have Rn3 := Lib.hid ((Rn2.out.under hb).more hb.size)
    have Rk3 := Lib.hid ((Rk2.out.under hb).more hb.size)
    have Vg3 := Lib.hid (Vg2.out.under hb)
    clear hb HB2 HM2 Rn2 Rk2 Vg2
    have Vp3 := Lib.hid hq
    clear hq
    clear Vg3 Rk3
    go_wp2_with fail
    obtain ⟨W4, hW⟩ : ∃ W, W = W3.alloc (.cells #[.slice Ap ap.length cp, .slice Bp bp.length dp, .bool ip] 26) := ⟨_, rfl⟩
    obtain ⟨s, hs⟩ : ∃ s, s = W3.heap.size := ⟨_, rfl⟩
    rw [← hW, ← hs]
    have hb : Below W3.heap.size W3 W4 := by rw [hW]; exact (Below.refl _ _).alloc (Nat.le_refl _) _
    have SB4 : Hid (Holds W4 s 26 #[.slice Ap ap.length cp, .slice Bp bp.length dp, .bool ip]) := Lib.hid (by rw [hW, hs]; exact Holds.fresh _ _ _)
    have HB4 := Lib.hid (HB3.out.trans (hb.mono HB3.out.size))
    have HM4 := Lib.hid (HM3.out.under hb)
    have Rn4 := Lib.hid ((Rn3.out.under hb).more hb.size)
    have Vp4 := Lib.hid (Vp3.out.under hb)
    clear hb HB3 HM3 Rn3 Vp3
    clear hW hs
    refine wp_region_noPanic ?_
    refine wp_region_held_drew (S := fun W => Holds W s 26 #[.slice Ap ap.length cp, .slice Bp bp.length dp, .bool ip] ∧ True) (by kernel_rfl) (⟨SB4.out, trivial⟩) (fun hHeld => ?_)
    obtain ⟨W5, hV⟩ : ∃ W, W = W4.drew := ⟨_, rfl⟩
    rw [← hV]
    have hb : Below W4.heap.size W4 W5 := by rw [hV]; exact (Below.refl _ W4).drew
    have HB5 := Lib.hid (HB4.out.trans (hb.mono HB4.out.size))
    have HM5 := Lib.hid (HM4.out.under hb)
    have Rn5 := Lib.hid ((Rn4.out.under hb).more hb.size)
    have Vp5 := Lib.hid (Vp4.out.under hb)
    have SB5 := Lib.hid (SB4.out.under hb (Holds.lt SB4.out))
    clear hb HB4 HM4 Rn4 Vp4 SB4
    have HS5 : Hid ((fun W => Holds W s 26 #[.slice Ap ap.length cp, .slice Bp bp.length dp, .bool ip] ∧ True) W5) := Lib.hid ⟨SB5.out, trivial⟩
    replace hHeld : (fun W => Holds W s 26 #[.slice Ap ap.length cp, .slice Bp bp.length dp, .bool ip] ∧ True) W5 := HS5.out
    clear hV
    refine wpAnyH_take (i := 0) (oi := ⟨some 15, .move (.tmp 0), 24, _, _, none⟩) (v := ?_) rfl (by kernel_rfl) (by kernel_rfl) (by kernel_rfl) (fun _ _ _ h => h) (Or.inl ⟨by rfl, ?_⟩) hHeld ?_
    rotate_left 1
    · (intro W hW; (try dsimp only at hW); go_simp; try with_reducible rfl)
    try simp only [Act.put, aI, aZ, aS]
    refine wpAnyH_take (i := 1) (oi := ⟨some 16, .load 26 (.tmp 5), 26, _, _, none⟩) (v := ?_) rfl (by kernel_rfl) (by kernel_rfl) (by kernel_rfl) (fun _ _ _ h => h) (Or.inl ⟨by rfl, ?_⟩) hHeld ?_
    rotate_left 1
    · (intro W hW; have h0 := hW.1.cell 0; have h1 := hW.1.cell 1; have h2 := hW.1.cell 2; (try dsimp only at hW); go_simp; try with_reducible rfl)
    try simp only [Act.put, aI, aZ, aS]
    refine wpAnyH_take (i := 3) (oi := ⟨some 18, .move (.tmp 0), 24, _, _, none⟩) (v := ?_) rfl (by kernel_rfl) (by kernel_rfl) (by kernel_rfl) (fun _ _ _ h => h) (Or.inl ⟨by rfl, ?_⟩) hHeld ?_
    rotate_left 1
    · (intro W hW; (try dsimp only at hW); go_simp; try with_reducible rfl)
    try simp only [Act.put, aI, aZ, aS]
    refine wpAnyH_take (i := 4) (oi := ⟨some 19, .load 26 (.tmp 5), 26, _, _, none⟩) (v := ?_) rfl (by kernel_rfl) (by kernel_rfl) (by kernel_rfl) (fun _ _ _ h => h) (Or.inl ⟨by rfl, ?_⟩) hHeld ?_
    rotate_left 1
    · (intro W hW; have h0 := hW.1.cell 0; have h1 := hW.1.cell 1; have h2 := hW.1.cell 2; (try dsimp only at hW); go_simp; try with_reducible rfl)
    try simp only [Act.put, aI, aZ, aS]
    refine wpAnyH_ready (rs := [2]) (by kernel_rfl) (by simp) ?_
    refine AllReadyH.cons (o := ⟨some 17, .call ⟨ .value (.func 22), #[.tmp 15, .tmp 16], #[24, 26]⟩, 26, _, _, none⟩) rfl (fun K hK => ?_) AllReadyH.nil
    go_simp
    refine (timesP W5 HM5.out Rn5.out HDN.out (by have := HLN.out; omega) Vp5.out (Luc.nmul_on gP_on _)).mono ?_
    rintro e W6 ⟨Aq, cq, aq, Bq, dq, bq, iq, rfl, hq, hb⟩
    have HB6 := Lib.hid (HB5.out.trans (hb.mono HB5.out.size))
    have HM6 := Lib.hid (HM5.out.under hb)
    have Rn6 := Lib.hid ((Rn5.out.under hb).more hb.size)
    have Vp6 := Lib.hid (Vp5.out.under hb)
    have SB6 := Lib.hid (SB5.out.under hb (Holds.lt SB5.out))
    clear hb HB5 HM5 Rn5 Vp5 SB5
    have hm1 : Mul (Luc.nmul gP (val (trl [kn]))) := ⟨_, rfl⟩
    rw [hm1.mod] at hq
    have Vq6 := Lib.hid hq
    clear hq hm1
    have HS6 : Hid ((fun W => Holds W s 26 #[.slice Ap ap.length cp, .slice Bp bp.length dp, .bool ip] ∧ True) W6) := Lib.hid ⟨SB6.out, trivial⟩
    go_simp
    refine hK.out _ _ (HS6.out) (fun _ => ?_)
    clear hK K hHeld
    try simp only [Act.put, aI, aZ, aS]
    have hHeld : (fun W => Holds W s 26 #[.slice Ap ap.length cp, .slice Bp bp.length dp, .bool ip] ∧ True) W6 := HS6.out
    refine wpAnyH_ready (rs := [5]) (by kernel_rfl) (by simp) ?_
    refine AllReadyH.cons (o := ⟨some 20, .call ⟨ .value (.func 11), #[.tmp 18, .tmp 19], #[24, 26]⟩, 26, _, _, none⟩) rfl (fun K hK => ?_) AllReadyH.nil
    go_simp
    refine (timesRP W6 Rn6.out HDN.out (by have := HLN.out; omega) HNN.out Vp6.out (Luc.nmul_on gP_on _)).mono ?_
    rintro e W7 ⟨Ar, cr, ar, Br, dr, br, ir, rfl, hq, hb⟩
    have HB7 := Lib.hid (HB6.out.trans (hb.mono HB6.out.size))
    have HM7 := Lib.hid (HM6.out.under hb)
    have Rn7 := Lib.hid ((Rn6.out.under hb).more hb.size)
    have Vp7 := Lib.hid (Vp6.out.under hb)
    have SB7 := Lib.hid (SB6.out.under hb (Holds.lt SB6.out))
    have Vq7 := Lib.hid (Vq6.out.under hb)
    clear hb HB6 HM6 Rn6 Vp6 SB6 Vq6
    have Vr7 := Lib.hid hq
    clear hq
    have HS7 : Hid ((fun W => Holds W s 26 #[.slice Ap ap.length cp, .slice Bp bp.length dp, .bool ip] ∧ True) W7) := Lib.hid ⟨SB7.out, trivial⟩
    go_simp
    refine hK.out _ _ (HS7.out) (fun _ => ?_)
    clear hK K hHeld
    try simp only [Act.put, aI, aZ, aS]
    have hHeld : (fun W => Holds W s 26 #[.slice Ap ap.length cp, .slice Bp bp.length dp, .bool ip] ∧ True) W7 := HS7.out
    refine wpAnyH_ready (rs := [6]) (by kernel_rfl) (by simp) ?_
    refine AllReadyH.cons (o := ⟨some 21, .call ⟨ .value (.func 16), #[.tmp 17, .tmp 20], #[26, 26]⟩, 4, _, _, none⟩) rfl (fun K hK => ?_) AllReadyH.nil
    go_simp
    refine (sameRP W7 Vq7.out Vr7.out).mono ?_
    rintro e W8 ⟨rfl, hb⟩
    have HB8 := Lib.hid (HB7.out.trans (hb.mono HB7.out.size))
    have HM8 := Lib.hid (HM7.out.under hb)
    have Rn8 := Lib.hid ((Rn7.out.under hb).more hb.size)
    have Vp8 := Lib.hid (Vp7.out.under hb)
    have SB8 := Lib.hid (SB7.out.under hb (Holds.lt SB7.out))
    have Vq8 := Lib.hid (Vq7.out.under hb)
    have Vr8 := Lib.hid (Vr7.out.under hb)
    clear hb HB7 HM7 Rn7 Vp7 SB7 Vq7 Vr7
    have HS8 : Hid ((fun W => Holds W s 26 #[.slice Ap ap.length cp, .slice Bp bp.length dp, .bool ip] ∧ True) W8) := Lib.hid ⟨SB8.out, trivial⟩
    go_simp
    refine hK.out _ _ (HS8.out) (fun _ => ?_)
    clear hK K hHeld
    try simp only [Act.put, aI, aZ, aS]
    have hHeld : (fun W => Holds W s 26 #[.slice Ap ap.length cp, .slice Bp bp.length dp, .bool ip] ∧ True) W8 := HS8.out
    refine wpAnyH_take (i := 7) (oi := ⟨some 22, .move (.tmp 21), 4, _, _, none⟩) (v := ?_) rfl (by kernel_rfl) (by kernel_rfl) (by kernel_rfl) (fun _ _ _ h => h) (Or.inl ⟨by rfl, ?_⟩) hHeld ?_
    rotate_left 1
    · (intro W hW; (try dsimp only at hW); go_simp; try with_reducible rfl)
    try simp only [Act.put, aI, aZ, aS]
    refine wpAnyH_ready (rs := [8]) (by kernel_rfl) (by simp) ?_
    refine AllReadyH.cons (o := ⟨some 23, .call ⟨ .value (.func 20), #[], #[]⟩, 4, _, _, some (7, true)⟩) rfl (fun K hK => ?_) AllReadyH.nil
    go_simp
    refine (known10_any W8 HM8.out).mono ?_
    rintro e W9 ⟨rfl, hb⟩
    have HB9 := Lib.hid (HB8.out.trans (hb.mono HB8.out.size))
    have HM9 := Lib.hid (HM8.out.under hb)
    have Rn9 := Lib.hid ((Rn8.out.under hb).more hb.size)
    have Vp9 := Lib.hid (Vp8.out.under hb)
    have SB9 := Lib.hid (SB8.out.under hb (Holds.lt SB8.out))
    have Vq9 := Lib.hid (Vq8.out.under hb)
    have Vr9 := Lib.hid (Vr8.out.under hb)
    clear hb HB8 HM8 Rn8 Vp8 SB8 Vq8 Vr8
    have HS9 : Hid ((fun W => Holds W s 26 #[.slice Ap ap.length cp, .slice Bp bp.length dp, .bool ip] ∧ True) W9) := Lib.hid ⟨SB9.out, trivial⟩
    go_simp
    refine hK.out _ _ (HS9.out) (fun _ => ?_)
    clear hK K hHeld
    try simp only [Act.put, aI, aZ, aS]
    have hHeld : (fun W => Holds W s 26 #[.slice Ap ap.length cp, .slice Bp bp.length dp, .bool ip] ∧ True) W9 := HS9.out
    refine wpAnyH_take (i := 9) (oi := ⟨some 24, .pick (.tmp 22) (.tmp 23) (.const (.bool false)), 4, _, _, none⟩) (v := ?_) rfl (by kernel_rfl) (by kernel_rfl) (by kernel_rfl) (fun _ _ _ h => h) (Or.inl ⟨by rfl, ?_⟩) hHeld ?_
    rotate_left 1
    · (intro W hW; (try dsimp only at hW); go_simp; try with_reducible rfl)
    try simp only [Act.put, aI, aZ, aS]
    refine wpAnyH_take (i := 10) (oi := ⟨some 4, .assign (.tmp 24), 4, _, _, none⟩) (v := ?_) rfl (by kernel_rfl) (by kernel_rfl) (by kernel_rfl) (fun _ _ _ h => h) (Or.inl ⟨by rfl, ?_⟩) hHeld ?_
    rotate_left 1
    · (intro W hW; (try dsimp only at hW); go_simp; try with_reducible rfl)
    try simp only [Act.put, aI, aZ, aS]
    refine wpAnyH_done (by kernel_rfl) ?_ _
    refine NoPanic.normal ?_
    go_wp2_with fail
    go_ret
    exact ⟨rfl, HB9.out⟩
theorem law_timesN (w : World) (hm : CMet w) (A : Option Addr) (ca na : Nat) (a : List Nat) (hna : a.length = na) (hr0 : Rd .u32 w w.heap.size A ca a) (hda : Dg a) (x : Int) (hx : 0 ≤ x ∧ x < 4294967296) :
    Calls Tryd.prog 4 #[.slice A na ca, .int .u32 x] w fun e w' => e = .returned (.bool true) ∧ Below w.heap.size w w' := by
  obtain ⟨k, rfl⟩ : ∃ k : Nat, x = (k : Int) := ⟨x.toNat, by omega⟩
  subst hna
  exact law_times w hm A ca a hr0 hda k (by omega)
end Go.Proofs.YtflfdglpljodbaaDoor
