/-
  Any name's thing, and back; any two compared (statement DnNames): the law's walk.
-/
import Derived.Test.YtmoefccfdnijpaaDoorDn17
namespace Go.Proofs.YtmoefccfdnijpaaDoor
open Go.RowKit
set_option linter.unusedVariables false
set_option linter.unusedSimpArgs false

theorem same6 {lt lt' : Lt} {t n c m d t' n' c' m' d' : Nat} {a k a' k' : Option Addr} (h : Of6 lt t a n c k m d) (h' : Of6 lt' t' a' n' c' k' m' d') {w : World} {xs ys : List Nat} (ho : Off xs (ThP lt) w) (ho' : Off ys (ThP lt') w) (e : lt.t = lt'.t) :
    Calls Tryd.prog 15 #[.agg #[.int .u8 (t : Int), .slice a n c, .slice k m d], .agg #[.int .u8 (t' : Int), .slice a' n' c', .slice k' m' d']] w fun e w' => e = .returned (.bool true) ∧ Below w.heap.size w w' := by
  have := same'_any lt lt' w w.heap.size ho.at_ ho'.at_ (Nat.le_refl _) true (by simp [e])
  rwa [h.val, h'.val] at this
theorem fit_dn {l : List Att} (h : dnOk l = true) : FitG (dnTr l) := by
  have h4 := (dnOk_iff.1 h).2.1
  refine ⟨by show (l.map atTr).length ≤ 12000; rw [List.length_map]; omega, fun k hk => ?_⟩
  obtain ⟨a, ha, rfl⟩ := List.mem_map.1 (show k ∈ l.map atTr from hk)
  obtain ⟨j, hj, rfl⟩ := List.getElem_of_mem ha
  have ht := (atOk_iff.1 ((dnOk_iff.1 h).2.2 j hj)).2.2
  rw [show l.getD j default = l[j] by simp [List.getD, hj]] at ht
  unfold textOk at ht
  simp only [Bool.and_eq_true, decide_eq_true_eq] at ht
  refine ⟨by show (1 : Nat) ≤ 12000; omega, fun q hq => ?_⟩
  have hq : q = .mk 48 [] [.mk 6 [85, 4, (l[j]).k.toNat] [], .mk 12 (bts (l[j]).s) []] := List.mem_singleton.1 hq
  subst hq
  refine ⟨by show (2 : Nat) ≤ 12000; omega, fun p hp => ?_⟩
  have hp : p ∈ [Tr.mk 6 [85, 4, (l[j]).k.toNat] [], Tr.mk 12 (bts (l[j]).s) []] := hp
  rcases List.mem_cons.1 hp with rfl | hp
  · show (3 : Nat) ≤ 12000; omega
  · rw [List.mem_singleton.1 hp]
    show (bts (l[j]).s).length ≤ 12000
    omega
theorem drawn_b {B : Nat} {a w : World} (h : Below B a w) (q : Nat) : Below B a (w.drewN q) := ⟨h.os, h.tape, h.output, h.size, h.block⟩
set_option maxRecDepth 100000 in
set_option maxHeartbeats 8000000 in
theorem law_names (w : World) (hT : Lib.Utf8Tabs 0 1 w) (A1 : Option Addr) (n1 c1 : Nat) (l1 : List Att) (hn1 : l1.length = n1) (hr1 : RdA w w.heap.size A1 c1 l1) (hz1 : ∀ x ∈ l1, (bts x.s).length ≤ 9223372036854775807) (A2 : Option Addr) (n2 c2 : Nat) (l2 : List Att) (hn2 : l2.length = n2) (hr2 : RdA w w.heap.size A2 c2 l2) :
    Calls Tryd.prog 4 #[.slice A1 n1 c1, .slice A2 n2 c2] w fun e w' => e = .returned (.bool true) ∧ Below w.heap.size w w' := by
  by_cases q1 : 10 < n1
  · have d1 : decide ((10 : Int) < (n1 : Int)) = true := decide_eq_true (by omega)
    clear hT hn1 hr1 hz1 hn2 hr2
    go_enter Tryd.func4, Tryd.ntmps4
    go_wp2_with fail
    go_ret
    exact ⟨rfl, Below.refl _ _⟩
  have d1 : decide ((10 : Int) < (n1 : Int)) = false := decide_eq_false (by omega)
  by_cases q2 : 10 < n2
  · have d2 : decide ((10 : Int) < (n2 : Int)) = true := decide_eq_true (by omega)
    clear hT hn1 hr1 hz1 hn2 hr2
    go_enter Tryd.func4, Tryd.ntmps4
    go_wp2_with fail
    go_ret
    exact ⟨rfl, Below.refl _ _⟩
  have d2 : decide ((10 : Int) < (n2 : Int)) = false := decide_eq_false (by omega)
  obtain ⟨r, hr⟩ : ∃ r, dnOk l1 = r := ⟨_, rfl⟩
  obtain ⟨sm, hsm⟩ : ∃ b : Bool, b = true ↔ l1 = l2 := ⟨Classical.propDecidable (l1 = l2) |>.decide, by exact @decide_eq_true_iff _ (Classical.propDecidable (l1 = l2))⟩
  obtain ⟨un, hun⟩ : ∃ b : Bool, b = true ↔ n2 ≤ n1 ∧ l1.take n2 = l2 := ⟨(Classical.propDecidable (n2 ≤ n1 ∧ l1.take n2 = l2)).decide, by exact @decide_eq_true_iff _ (Classical.propDecidable (n2 ≤ n1 ∧ l1.take n2 = l2))⟩
  have H1 : Hid (∀ W, Below w.heap.size w W → RdA W W.heap.size A1 c1 l1) := Lib.hid fun W hW => (hr1.under hW).more hW.size
  have H2 : Hid (∀ W, Below w.heap.size w W → RdA W W.heap.size A2 c2 l2) := Lib.hid fun W hW => (hr2.under hW).more hW.size
  have HT : Hid (∀ W, Below w.heap.size w W → Lib.Utf8Tabs 0 1 W) := Lib.hid fun W hW => Utf8Tabs_below hT hW
  have HR := Lib.hid hr
  have HSM := Lib.hid hsm
  have HUN := Lib.hid hun
  have HN1 := Lib.hid hn1
  have HN2 := Lib.hid hn2
  have HZ1 := Lib.hid hz1
  have hc := isDn'_any w _ A1 c1 n1 l1 hn1 hr1 (Nat.le_refl _)
  rw [hr] at hc
  have HC := Lib.hid hc
  clear hT hn1 hr1 hz1 hn2 hr2 hr hsm hun hc
  go_enter Tryd.func4, Tryd.ntmps4
  go_wp2_with fail
  refine HC.out.mono ?_
  rintro e w1 ⟨rfl, hb⟩
  have B1 := Lib.hid hb
  have hc2 := isDn_any w1 _ A1 c1 n1 l1 HN1.out (H1.out _ hb) (Nat.le_refl _) HZ1.out (HT.out _ hb)
  rw [HR.out] at hc2
  have HC2 := Lib.hid hc2
  clear hb HC hc2
  go_wp2_with fail
  refine HC2.out.mono ?_
  rintro e w2 ⟨rfl, hb⟩
  have B2 := Lib.hid (B1.out.trans (hb.mono B1.out.size))
  clear hb HC2
  have HC3 := Lib.hid (sameA_any w2 _ _ A1 A2 c1 c2 n1 n2 l1 l2 HN1.out HN2.out (H1.out _ B2.out) (H2.out _ B2.out) sm HSM.out)
  go_wp2_with fail
  refine HC3.out.mono ?_
  rintro e w3 ⟨rfl, q, rfl⟩
  have B3 := Lib.hid (drawn_b B2.out q)
  generalize w2.drewN q = w3 at *
  clear HC3
  have HC4 := Lib.hid (sameR_any w3 _ _ A1 A2 c1 c2 n1 n2 l1 l2 HN1.out HN2.out (H1.out _ B3.out) (H2.out _ B3.out) sm HSM.out)
  go_wp2_with fail
  refine HC4.out.mono ?_
  rintro e w4 ⟨rfl, q, rfl⟩
  have B4 := Lib.hid (drawn_b B3.out q)
  generalize w3.drewN q = w4 at *
  clear HC4
  have HC5 := Lib.hid (underA_any w4 _ _ A1 A2 c1 c2 n1 n2 l1 l2 HN1.out HN2.out (H1.out _ B4.out) (H2.out _ B4.out) un HUN.out)
  go_wp2_with fail
  refine HC5.out.mono ?_
  rintro e w5 ⟨rfl, q, rfl⟩
  have B5 := Lib.hid (drawn_b B4.out q)
  generalize w4.drewN q = w5 at *
  clear HC5
  have HC6 := Lib.hid (underR_any w5 _ _ A1 A2 c1 c2 n1 n2 l1 l2 HN1.out HN2.out (H1.out _ B5.out) (H2.out _ B5.out) un HUN.out)
  go_wp2_with fail
  refine HC6.out.mono ?_
  rintro e w6 ⟨rfl, q, rfl⟩
  have B6 := Lib.hid (drawn_b B5.out q)
  generalize w5.drewN q = w6 at *
  clear HC6
  cases r
  · have HK := Lib.hid (known15_any w6 (HT.out _ B6.out))
    go_wp2_with fail
    refine HK.out.mono ?_
    rintro e w7 ⟨rfl, hb⟩
    have B7 := Lib.hid (B6.out.trans (hb.mono B6.out.size))
    clear hb HK
    go_wp2_with fail
    go_ret
    exact ⟨rfl, B7.out⟩
  have HND : Hid (∀ W, Below w.heap.size w W → Calls Tryd.prog 14 #[.slice A1 n1 c1] W (MadeT W [] (dnTr l1))) := Lib.hid fun W hW => dnNode_any W [] _ A1 c1 n1 l1 HN1.out (H1.out W hW) (Nat.le_refl _) HR.out (HT.out W hW) (by simp)
  have HNR : Hid (∀ W, Below w.heap.size w W → Calls Tryd.prog 16 #[.slice A1 n1 c1] W (MadeT W [] (dnTr l1))) := Lib.hid fun W hW => dnNode'_any W [] _ A1 c1 n1 l1 HN1.out (H1.out W hW) (Nat.le_refl _) HR.out (by simp)
  go_wp2_with fail
  refine (HND.out _ B6.out).mono ?_
  intro e w7 hm
  obtain ⟨lt, t, a, n, c, k, m, d, rfl, h6, hlt, hoff, hb⟩ := MadeT.six hm
  have B7 := Lib.hid (B6.out.trans (hb.mono B6.out.size))
  have hg := getD_any w7 lt hoff (by rw [hlt]; exact fit_dn HR.out) (HT.out _ B7.out)
  rw [h6.val, hlt] at hg
  have HGD := Lib.hid hg
  clear hm hb hg h6 hlt hoff
  go_wp2_with fail
  refine HGD.out.mono ?_
  intro e w8 hm
  rcases hm with ⟨A8, c8, l8, rfl, hr8, hok8, ht8, hb⟩ | ⟨rfl, hno, hb⟩
  case inr => exact absurd rfl (hno l1 HR.out)
  obtain rfl : l8 = l1 := dnTr_inj hok8 HR.out ht8
  have B8 := Lib.hid (B7.out.trans (hb.mono B7.out.size))
  have HR8 := Lib.hid hr8
  rw [HN1.out]
  clear hb hr8 hok8 ht8 HGD
  go_wp2_with fail
  refine (HND.out _ B8.out).mono ?_
  intro e w9 hm
  obtain ⟨lt9, t9, a9, n9, c9, k9, m9, d9, rfl, h69, hlt9, hoff9, hb⟩ := MadeT.six hm
  have B9 := Lib.hid (B8.out.trans (hb.mono B8.out.size))
  have R9 := Lib.hid ((HR8.out.under hb).more hb.size)
  have HO9 := Lib.hid hoff9
  have H69 := Lib.hid h69
  have HL9 := Lib.hid hlt9
  clear hm hb hoff9 h69 hlt9 HR8
  go_wp2_with fail
  refine (HNR.out _ B9.out).mono ?_
  intro e w10 hm
  obtain ⟨lt10, t10, a10, n10, c10, k10, m10, d10, rfl, h610, hlt10, hoff10, hb⟩ := MadeT.six hm
  have B10 := Lib.hid (B9.out.trans (hb.mono B9.out.size))
  have R10 := Lib.hid ((R9.out.under hb).more hb.size)
  have HS := Lib.hid (same6 H69.out h610 (HO9.out.under hb) hoff10 (by rw [HL9.out, hlt10]))
  clear hm hb hoff10 h610 hlt10 R9
  go_wp2_with fail
  refine HS.out.mono ?_
  rintro e w11 ⟨rfl, hb⟩
  have B11 := Lib.hid (B10.out.trans (hb.mono B10.out.size))
  have R11 := Lib.hid ((R10.out.under hb).more hb.size)
  clear hb HS R10
  have HC12 := Lib.hid (sameR_any w11 _ _ A8 A1 c8 c1 n1 n1 l8 l8 HN1.out HN1.out R11.out (H1.out _ B11.out) true (by simp))
  go_wp2_with fail
  refine HC12.out.mono ?_
  rintro e w12 ⟨rfl, q, rfl⟩
  have B12 := Lib.hid (drawn_b B11.out q)
  generalize w11.drewN q = w12 at *
  clear HC12
  have HK := Lib.hid (known15_any w12 (HT.out _ B12.out))
  go_wp2_with fail
  refine HK.out.mono ?_
  rintro e w13 ⟨rfl, hb⟩
  have B13 := Lib.hid (B12.out.trans (hb.mono B12.out.size))
  clear hb HK
  go_wp2_with fail
  go_ret
  exact ⟨rfl, B13.out⟩
end Go.Proofs.YtmoefccfdnijpaaDoor
