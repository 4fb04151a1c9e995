/-
  Times a sum is the sum of times.
-/
import Derived.Test.YtflfdglpljodbaaDoorCvF
import Derived.Deep.RegionLaw
import Derived.Deep.RegionHeld3
import Derived.Deep.DrawnRows
namespace Go.Proofs.YtflfdglpljodbaaDoor
open Go.RowKit
set_option linter.unusedVariables false
set_option linter.unusedSimpArgs false

set_option maxRecDepth 100000 in
set_option maxHeartbeats 8000000 in
theorem law_parts (w : World) (hm : CMet w) (A B : Option Addr) (ca cb : Nat) (a b : List Nat) (hr0 : Rd .u32 w w.heap.size A ca a) (hr1 : Rd .u32 w w.heap.size B cb b) (hda : Dg a) (hdb : Dg b) :
    Calls Tryd.prog 6 #[.slice A a.length ca, .slice B b.length cb] w fun e w' => e = .returned (.bool true) ∧ Below w.heap.size w w' := by
  have hW1 : Holds (w.alloc (.cells #[.slice A a.length ca, .slice B b.length cb] 24)) w.heap.size 24 #[.slice A a.length ca, .slice B b.length cb] := Holds.fresh _ _ _
  have hb1 : Below w.heap.size w (w.alloc (.cells #[.slice A a.length ca, .slice B b.length cb] 24)) := (Below.refl _ _).alloc (Nat.le_refl _) _
  obtain ⟨v, hv⟩ : ∃ v : Bool, v = true ↔ ∀ j, j < 2 → okN (([⟨A, ca, a⟩, ⟨B, cb, b⟩] : List It).getD j default).l = true ∧ (([⟨A, ca, a⟩, ⟨B, cb, b⟩] : List It).getD j default).l.length ≤ 8 := ⟨decide _, decide_eq_true_iff⟩
  have HS := Lib.hid (such_any (w.alloc (.cells #[.slice A a.length ca, .slice B b.length cb] 24)) 8 w.heap.size 2 [⟨A, ca, a⟩, ⟨B, cb, b⟩] rfl (by omega) (by omega)
    (by
      intro j hj
      have h0 := hW1.cell j
      rcases j with _ | _ | j
      · exact h0
      · exact h0
      · omega)
    (by
      intro j hj
      rcases j with _ | _ | j
      · exact (hr0.under hb1).more hb1.size
      · exact (hr1.under hb1).more hb1.size
      · omega) v hv)
  obtain ⟨W0, hW0⟩ : ∃ W, W = w.alloc (.cells #[.slice A a.length ca, .slice B b.length cb] 24) := ⟨_, rfl⟩
  rw [← hW0] at HS hb1
  have HW := Lib.hid hW0
  have HB0 := Lib.hid hb1
  have HM0 := Lib.hid (hm.under hb1)
  have HV := Lib.hid hv
  have Ra0 := Lib.hid ((hr0.under hb1).more hb1.size)
  have Rb0 := Lib.hid ((hr1.under hb1).more hb1.size)
  have HDA := Lib.hid hda
  have HDB := Lib.hid hdb
  clear hr0 hr1 hda hdb hv hW0 hb1 hW1 hm
  go_enter Tryd.func6, Tryd.ntmps6
  go_wp2_with fail
  rw [← HW.out]
  clear HW
  refine HS.out.mono ?_
  rintro e w1 ⟨rfl, rfl⟩
  clear HS
  cases v
  case false =>
    go_wp2_with fail
    go_ret
    exact ⟨rfl, HB0.out⟩
  case true =>
    have h0 := HV.out.1 rfl 0 (by omega)
    have h1 := HV.out.1 rfl 1 (by omega)
    have HLA : Hid (a.length ≤ 8) := Lib.hid h0.2
    have HLB : Hid (b.length ≤ 8) := Lib.hid h1.2
    have HNA : Hid (nrm a) := Lib.hid (okN_nrm h0.1).2
    have HNB : Hid (nrm b) := Lib.hid (okN_nrm h1.1).2
    clear h0 h1 HV
    go_wp2_with fail
    refine (refN_any W0).mono ?_
    rintro e W1 ⟨gn, hgn, rfl, hN, hb⟩
    have HB1 := Lib.hid (HB0.out.trans (hb.mono HB0.out.size))
    have HM1 := Lib.hid (HM0.out.under hb)
    have Ra1 := Lib.hid ((Ra0.out.under hb).more hb.size)
    have Rb1 := Lib.hid ((Rb0.out.under hb).more hb.size)
    clear hb HB0 HM0 Ra0 Rb0
    have HN1 := Lib.hid (Eight.rd hN rfl)
    clear hN hgn
    go_wp2_with fail
    refine (add8_yes W1 _ _ _ _ _ _ a b lN Ra1.out Rb1.out HN1.out HDA.out HDB.out lN_ok.1 (by have := HLA.out; omega) (by have := HLB.out; omega) (by rw [lN_ok.2.2]; omega) (by rw [lN_val]; decide) lN_ok.2.1).mono ?_
    rintro e W2 ⟨As, cs, s, rfl, hn, hs, hb⟩
    have HB2 := Lib.hid (HB1.out.trans (hb.mono HB1.out.size))
    have HM2 := Lib.hid (HM1.out.under hb)
    have Ra2 := Lib.hid ((Ra1.out.under hb).more hb.size)
    have Rb2 := Lib.hid ((Rb1.out.under hb).more hb.size)
    have HN2 := Lib.hid ((HN1.out.under hb).more hb.size)
    clear hb HB1 HM1 Ra1 Rb1 HN1
    have Rs2 := Lib.hid hs
    have HNS := Lib.hid hn
    clear hn hs
    clear HN2
    go_wp2_with fail
    refine (curveGP W2).mono ?_
    rintro e W3 ⟨Ag, cg, ag, Bg, dg, bg, ig, rfl, hq, hb⟩
    have HB3 := Lib.hid (HB2.out.trans (hb.mono HB2.out.size))
    have HM3 := Lib.hid (HM2.out.under hb)
    have Ra3 := Lib.hid ((Ra2.out.under hb).more hb.size)
    have Rb3 := Lib.hid ((Rb2.out.under hb).more hb.size)
    have Rs3 := Lib.hid ((Rs2.out.under hb).more hb.size)
    clear hb HB2 HM2 Ra2 Rb2 Rs2
    have Vg3 := Lib.hid hq
    clear hq
    go_wp2_with fail
    refine (timesP W3 HM3.out Rs3.out HNS.out.1 (by have := num_len8N HNS.out; omega) Vg3.out gP_on).mono ?_
    rintro e W4 ⟨Ap, cp, ap, Bp, dp, bp, ip, rfl, hq, hb⟩
    have HB4 := Lib.hid (HB3.out.trans (hb.mono HB3.out.size))
    have HM4 := Lib.hid (HM3.out.under hb)
    have Ra4 := Lib.hid ((Ra3.out.under hb).more hb.size)
    have Rb4 := Lib.hid ((Rb3.out.under hb).more hb.size)
    have Rs4 := Lib.hid ((Rs3.out.under hb).more hb.size)
    have Vg4 := Lib.hid (Vg3.out.under hb)
    clear hb HB3 HM3 Ra3 Rb3 Rs3 Vg3
    have Vp4 := Lib.hid hq
    clear hq
    clear Vg4 Rs4
    go_wp2_with fail
    refine (curveGP W4).mono ?_
    rintro e W5 ⟨Ah, ch, ah, Bh, dh, bh, ih, rfl, hq, hb⟩
    have HB5 := Lib.hid (HB4.out.trans (hb.mono HB4.out.size))
    have HM5 := Lib.hid (HM4.out.under hb)
    have Ra5 := Lib.hid ((Ra4.out.under hb).more hb.size)
    have Rb5 := Lib.hid ((Rb4.out.under hb).more hb.size)
    have Vp5 := Lib.hid (Vp4.out.under hb)
    clear hb HB4 HM4 Ra4 Rb4 Vp4
    have Vh5 := Lib.hid hq
    clear hq
    go_wp2_with fail
    refine (timesP W5 HM5.out Ra5.out HDA.out (by have := HLA.out; omega) Vh5.out gP_on).mono ?_
    rintro e W6 ⟨Aq, cq, aq, Bq, dq, bq, iq, rfl, hq, hb⟩
    have HB6 := Lib.hid (HB5.out.trans (hb.mono HB5.out.size))
    have HM6 := Lib.hid (HM5.out.under hb)
    have Ra6 := Lib.hid ((Ra5.out.under hb).more hb.size)
    have Rb6 := Lib.hid ((Rb5.out.under hb).more hb.size)
    have Vp6 := Lib.hid (Vp5.out.under hb)
    have Vh6 := Lib.hid (Vh5.out.under hb)
    clear hb HB5 HM5 Ra5 Rb5 Vp5 Vh5
    have Vq6 := Lib.hid hq
    clear hq
    clear Vh6
    go_wp2_with fail
    refine (curveGP W6).mono ?_
    rintro e W7 ⟨Am, cm, am, Bm, dm, bm, im, rfl, hq, hb⟩
    have HB7 := Lib.hid (HB6.out.trans (hb.mono HB6.out.size))
    have HM7 := Lib.hid (HM6.out.under hb)
    have Ra7 := Lib.hid ((Ra6.out.under hb).more hb.size)
    have Rb7 := Lib.hid ((Rb6.out.under hb).more hb.size)
    have Vp7 := Lib.hid (Vp6.out.under hb)
    have Vq7 := Lib.hid (Vq6.out.under hb)
    clear hb HB6 HM6 Ra6 Rb6 Vp6 Vq6
    have Vm7 := Lib.hid hq
    clear hq
    go_wp2_with fail
    refine (timesP W7 HM7.out Rb7.out HDB.out (by have := HLB.out; omega) Vm7.out gP_on).mono ?_
    rintro e W8 ⟨Ar, cr, ar, Br, dr, br, ir, rfl, hq, hb⟩
    have HB8 := Lib.hid (HB7.out.trans (hb.mono HB7.out.size))
    have HM8 := Lib.hid (HM7.out.under hb)
    have Ra8 := Lib.hid ((Ra7.out.under hb).more hb.size)
    have Rb8 := Lib.hid ((Rb7.out.under hb).more hb.size)
    have Vp8 := Lib.hid (Vp7.out.under hb)
    have Vq8 := Lib.hid (Vq7.out.under hb)
    have Vm8 := Lib.hid (Vm7.out.under hb)
    clear hb HB7 HM7 Ra7 Rb7 Vp7 Vq7 Vm7
    have Vr8 := Lib.hid hq
    clear hq
    clear Vm8 Ra8 Rb8
    go_wp2_with fail
    refine (addP W8 HM8.out Vq8.out Vr8.out (Luc.nmul_on gP_on _) (Luc.nmul_on gP_on _)).mono ?_
    rintro e W9 ⟨Au, cu, au, Bu, du, bu, iu, rfl, hq, hb⟩
    have HB9 := Lib.hid (HB8.out.trans (hb.mono HB8.out.size))
    have HM9 := Lib.hid (HM8.out.under hb)
    have Vp9 := Lib.hid (Vp8.out.under hb)
    have Vq9 := Lib.hid (Vq8.out.under hb)
    have Vr9 := Lib.hid (Vr8.out.under hb)
    clear hb HB8 HM8 Vp8 Vq8 Vr8
    have Vu9 := Lib.hid hq
    clear hq
    clear Vq9 Vr9
    have hsum : Luc.add (Luc.nmul gP (val a % val lN)) (Luc.nmul gP (val b % val lN)) = Luc.nmul gP (val s % val lN) := by
      have hm1 : Mul gP := ⟨1, rfl⟩
      rw [← Luc.nmul_add gP_on, HNS.out.2.2, hm1.mod, hm1.mod, ← hm1.mod (val a % val lN + val b % val lN), ← Nat.add_mod, hm1.mod]
    have Vu2 := Lib.hid (hsum ▸ Vu9.out)
    clear Vu9 hsum
    go_wp2_with fail
    refine (sameP W9 Vp9.out Vu2.out).mono ?_
    rintro e W10 ⟨rfl, hb⟩
    have HB10 := Lib.hid (HB9.out.trans (hb.mono HB9.out.size))
    have HM10 := Lib.hid (HM9.out.under hb)
    have Vp10 := Lib.hid (Vp9.out.under hb)
    clear hb HB9 HM9 Vp9
    clear Vp10
    clear Vu2
    go_wp2_with fail
    refine (known10_any W10 HM10.out).mono ?_
    rintro e W11 ⟨rfl, hb⟩
    have HB11 := Lib.hid (HB10.out.trans (hb.mono HB10.out.size))
    have HM11 := Lib.hid (HM10.out.under hb)
    clear hb HB10 HM10
    go_wp2_with fail
    go_ret
    exact ⟨rfl, HB11.out⟩
theorem law_partsN (w : World) (hm : CMet w) (A B : Option Addr) (ca cb na nb : Nat) (a b : List Nat) (hna : a.length = na) (hnb : b.length = nb) (hr0 : Rd .u32 w w.heap.size A ca a) (hr1 : Rd .u32 w w.heap.size B cb b) (hda : Dg a) (hdb : Dg b) :
    Calls Tryd.prog 6 #[.slice A na ca, .slice B nb cb] w fun e w' => e = .returned (.bool true) ∧ Below w.heap.size w w' := by
  subst hna hnb
  exact law_parts w hm A B ca cb a b hr0 hr1 hda hdb
end Go.Proofs.YtflfdglpljodbaaDoor
