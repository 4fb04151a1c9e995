/-
  A row of what was revoked: may it be? By the document.
-/
import Derived.Test.YtionikhhdfkhdaaDoorGn1
import Derived.Test.YtionikhhdfkhdaaDoorDn7
import Derived.Deep.RegionLaw
import Derived.Deep.DrawnRows
namespace Go.Proofs.YtionikhhdfkhdaaDoor
open Go.RowKit
set_option linter.unusedVariables false
set_option linter.unusedSimpArgs false
attribute [local go_sem ↓] Go.wp_at_zero Go.wp_at_succ

set_option maxRecDepth 100000 in
theorem when'_any (w : World) (t : Int) : Calls Tryd.prog 16 #[.int .i64 t] w fun e w' => e = .returned (.bool (whenOk t)) ∧ w' = w := by
  rcases h : whenOk t with _ | _
  · rcases whenOk_no.1 h with h | h
    · go_enter Tryd.func16, Tryd.ntmps16
      go_wp2_with fail
      go_ret
      exact ⟨rfl, rfl⟩
    · have hd : decide (t ≤ 253402300799) = false := decide_eq_false (by omega)
      go_enter Tryd.func16, Tryd.ntmps16
      go_wp2_with fail
      go_ret
      exact ⟨rfl, rfl⟩
  · obtain ⟨h1, h2⟩ := whenOk_iff.1 h
    go_enter Tryd.func16, Tryd.ntmps16
    go_wp2_with fail
    go_ret
    exact ⟨rfl, rfl⟩
set_option maxRecDepth 100000 in
set_option maxHeartbeats 2000000 in
theorem serial'_any (w : World) (B : Nat) (A : Option Addr) (c n : Nat) (l : List Nat) (hr : Rd .u32 w B A c l) (hn : l.length = n) (hd : Dg l) :
    Calls Tryd.prog 15 #[.slice A n c] w fun e w' => e = .returned (.bool (serOk l)) ∧ w' = w := by
  obtain ⟨r, HR⟩ : ∃ r, Hid (r = serOk l) := ⟨_, rfl⟩
  rw [← HR.out]
  rcases hok : okN l with _ | _
  · have HE : Hid (r = false) := Lib.hid (by rw [HR.out]; unfold serOk; rw [hok]; simp)
    have HIS := Lib.hid (is'_at w B A c n l hr hn false hok)
    clear hok hr hn hd
    go_enter Tryd.func15, Tryd.ntmps15
    go_wp2_with fail
    refine HIS.out.mono ?_
    rintro e w2 ⟨rfl, rfl⟩
    go_wp2_with fail
    go_ret
    exact ⟨by rw [HE.out]; rfl, rfl⟩
  have HIS := Lib.hid (is'_at w B A c n l hr hn true hok)
  by_cases h0 : n = 0
  · have HE : Hid (r = false) := Lib.hid (by rw [HR.out]; unfold serOk; rw [hn, h0]; simp)
    have d : decide ((0 : Int) < (n : Int)) = false := decide_eq_false (by omega)
    subst h0
    clear hok hr hn hd
    go_enter Tryd.func15, Tryd.ntmps15
    go_wp2_with fail
    refine HIS.out.mono ?_
    rintro e w2 ⟨rfl, rfl⟩
    go_wp2_with fail
    go_ret
    exact ⟨by rw [HE.out]; rfl, rfl⟩
  have d : decide ((0 : Int) < (n : Int)) = true := decide_eq_true (by omega)
  have h256 := (okN_iff.1 hok).1
  obtain ⟨v, hv⟩ : ∃ v, nb l = v := ⟨_, rfl⟩
  have HBI := Lib.hid (bits'_at w B A c n l hr hn hd (by omega) v hv)
  have HE : Hid (r = decide (v < 160)) := Lib.hid (by rw [HR.out]; unfold serOk; rw [hok, hn, hv, decide_eq_true (show 0 < n by omega)]; simp)
  clear hok hr hn hd h256 hv
  by_cases h160 : v < 160
  · have d2 : decide ((v : Int) < (160 : Int)) = true := decide_eq_true (by omega)
    go_enter Tryd.func15, Tryd.ntmps15
    go_wp2_with fail
    refine HIS.out.mono ?_
    rintro e w2 ⟨rfl, rfl⟩
    go_wp2_with fail
    refine HBI.out.mono ?_
    rintro e w2 ⟨rfl, rfl⟩
    go_wp2_with fail
    go_ret
    exact ⟨by rw [HE.out, decide_eq_true h160]; rfl, rfl⟩
  · have d2 : decide ((v : Int) < (160 : Int)) = false := decide_eq_false (by omega)
    go_enter Tryd.func15, Tryd.ntmps15
    go_wp2_with fail
    refine HIS.out.mono ?_
    rintro e w2 ⟨rfl, rfl⟩
    go_wp2_with fail
    refine HBI.out.mono ?_
    rintro e w2 ⟨rfl, rfl⟩
    go_wp2_with fail
    go_ret
    exact ⟨by rw [HE.out, decide_eq_false h160]; rfl, rfl⟩
set_option maxRecDepth 100000 in
theorem signed'_any (w : World) (A : Option Addr) (c n : Nat) :
    Calls Tryd.prog 19 #[.slice A n c] w fun e w' => e = .returned (.bool (decide (1 ≤ n ∧ n ≤ 600))) ∧ w' = w := by
  obtain ⟨r, HR⟩ : ∃ r, Hid (r = decide (1 ≤ n ∧ n ≤ 600)) := ⟨_, rfl⟩
  rw [← HR.out]
  by_cases h1 : 1 ≤ n
  case neg =>
    have HE : Hid (r = false) := Lib.hid (by rw [HR.out]; exact decide_eq_false (by omega))
    have d : decide ((1 : Int) ≤ (n : Int)) = false := decide_eq_false (by omega)
    go_enter Tryd.func19, Tryd.ntmps19
    go_wp2_with fail
    go_ret
    exact ⟨by rw [HE.out]; rfl, rfl⟩
  have d : decide ((1 : Int) ≤ (n : Int)) = true := decide_eq_true (by omega)
  by_cases h6 : n ≤ 600
  · have HE : Hid (r = true) := Lib.hid (by rw [HR.out]; exact decide_eq_true ⟨h1, h6⟩)
    have d2 : decide ((n : Int) ≤ (600 : Int)) = true := decide_eq_true (by omega)
    go_enter Tryd.func19, Tryd.ntmps19
    go_wp2_with fail
    go_ret
    exact ⟨by rw [HE.out]; rfl, rfl⟩
  · have HE : Hid (r = false) := Lib.hid (by rw [HR.out]; exact decide_eq_false (by omega))
    have d2 : decide ((n : Int) ≤ (600 : Int)) = false := decide_eq_false (by omega)
    go_enter Tryd.func19, Tryd.ntmps19
    go_wp2_with fail
    go_ret
    exact ⟨by rw [HE.out]; rfl, rfl⟩
set_option maxRecDepth 100000 in
set_option maxHeartbeats 16000000 in
theorem crlIs'_any (w : World) (cl : Cl) (h : ClP cl w) :
    Calls Tryd.prog 7 #[.agg (ccell cl).toArray] w fun e w' => e = .returned (.bool (crlOk cl.v)) ∧ Below w.heap.size w w' := by
  obtain ⟨r, HR⟩ : ∃ r, Hid (r = crlOk cl.v) := ⟨_, rfl⟩
  rw [← HR.out]
  have hoc := Off.of_c h
  have hq0 : Below w.heap.size w (w.alloc (.cells (ccell cl).toArray 26)) := (Below.refl _ _).alloc (Nat.le_refl _) _
  have hH0 := Holds.fresh w 26 (ccell cl).toArray
  obtain ⟨ia, ic, iss, tat, tnx, ga, gc, gone, sa, sc, sig⟩ := cl
  simp only [ccell] at hq0 hH0 ⊢
  obtain ⟨isn, hisn⟩ : ∃ k, iss.length = k := ⟨_, rfl⟩
  obtain ⟨gn, hgn⟩ : ∃ k, gone.length = k := ⟨_, rfl⟩
  obtain ⟨sn, hsn⟩ : ∃ k, sig.length = k := ⟨_, rfl⟩
  have HRV : Hid (r = (dnOk iss && whenOk tat && whenOk tnx && decide (tat ≤ tnx) && decide (gn ≤ 16) && decide (1 ≤ sn ∧ sn ≤ 600) && gonesOk (gone.map Gn.v))) := Lib.hid (by
    rw [HR.out]
    unfold crlOk Cl.v
    rw [List.length_map, hgn, hsn])
  clear HR
  rw [hisn, hgn, hsn] at hq0 hH0 ⊢
  obtain ⟨w1, hw1⟩ : ∃ W, W = w.alloc (.cells #[.slice ia isn ic, .int .i64 tat, .int .i64 tnx, .slice ga gn gc, .slice sa sn sc] 26) := ⟨_, rfl⟩
  have hq0' : Below w.heap.size w w1 := by rw [hw1]; exact hq0
  have hH0' : Holds w1 w.heap.size 26 #[.slice ia isn ic, .int .i64 tat, .int .i64 tnx, .slice ga gn gc, .slice sa sn sc] := by rw [hw1]; exact hH0
  have hc1 := hoc.under hq0'
  have HOI : Hid (∀ W, Below w1.heap.size w1 W → Calls Tryd.prog 18 #[.slice ia isn ic] W fun e w' => e = .returned (.bool (dnOk iss)) ∧ Below W.heap.size W w') := Lib.hid fun W hW => isDn'_any W _ ia ic isn iss hisn ((hc1.imp fun _ hh => hh.1).under hW).at_ (Nat.le_refl _)
  have HX1 : Hid (Off [] (GsP ga gc gone) w1) := Lib.hid (hc1.imp fun _ hh => hh.2.1)
  have HB1 := Lib.hid hq0'
  have HH1 := Lib.hid hH0'
  have HGN := Lib.hid hgn
  have HW1 := Lib.hid hw1
  have hgc := hc1.at_.2.1.1.1
  have hgc63 := hc1.at_.2.1.1.2.1
  rw [hgn] at hgc
  clear h hoc hq0 hH0 hq0' hH0' hc1 hisn hgn hsn hw1
  have CALL : Hid (∀ W, Below w1.heap.size w1 W → W.cell? ⟨w.heap.size, 0, none⟩ = some (.slice ia isn ic) ∧ W.cell? ⟨w.heap.size, 1, none⟩ = some (.int .i64 tat) ∧ W.cell? ⟨w.heap.size, 2, none⟩ = some (.int .i64 tnx) ∧ W.cell? ⟨w.heap.size, 3, none⟩ = some (.slice ga gn gc) ∧ W.cell? ⟨w.heap.size, 4, none⟩ = some (.slice sa sn sc)) := Lib.hid fun W hW => by
    have h := HH1.out.under hW HH1.out.lt
    exact ⟨h.cell 0, h.cell 1, h.cell 2, h.cell 3, h.cell 4⟩
  have HNO : Hid (∀ i, i < gn → gnOk (gone.map Gn.v) i = false → r = false) := Lib.hid fun i hi h => by
    rw [HRV.out, gonesOk_no (i := i) (by rw [List.length_map, HGN.out]; exact hi) h, Bool.and_false]
  go_enter Tryd.func7, Tryd.ntmps7
  go_wp2_with fail
  rw [← HW1.out]
  go_loopw [3] (fun iv wr => ∃ i : Nat, i ≤ gn ∧ iv = .int .i64 (i : Int) ∧ Hid (∀ j, j < i → gnOk (gone.map Gn.v) j = true) ∧ Below w1.heap.size w1 wr) (fun iv _ => gn - (intOf iv).toNat)
  case atStart => exact ⟨0, by omega, rfl, fun j hj => by omega, Below.refl _ _⟩
  case round =>
    obtain ⟨i, hi, rfl, HA, hB⟩ := hrel
    obtain ⟨k0, k1, k2, k3, k4⟩ := CALL.out wr hB
    by_cases hlt : i < gn
    · have hx := (HX1.out.under hB).at_
      obtain ⟨g, off, rfl, hg, hcs⟩ := hx.1.2.2 (by rw [HGN.out]; omega)
      obtain ⟨c0, c1⟩ := hcs i (by rw [HGN.out]; exact hlt)
      have hxe := hx.at_ (by rw [HGN.out]; exact hlt)
      have HV : Hid ((gone.map Gn.v).getD i default = (gone.getD i default).v) := Lib.hid (gv_at (by rw [HGN.out]; exact hlt))
      obtain ⟨e, he⟩ : ∃ e, e = gone.getD i default := ⟨_, rfl⟩
      rw [← he] at c0 c1 hxe HV
      clear he hcs
      obtain ⟨ea, ec, ser, tm⟩ := e
      obtain ⟨hr1, hd1⟩ := hxe
      dsimp only at c0 c1 hr1 hd1
      obtain ⟨n1, hn1⟩ : ∃ n1, ser.length = n1 := ⟨_, rfl⟩
      rw [hn1] at c0
      have HN1 := Lib.hid hn1
      have hq1 : Below wr.heap.size wr (wr.alloc (.cells #[.slice ea n1 ec, .int .i64 tm] 38)) := (Below.refl _ _).alloc (Nat.le_refl _) _
      have HB2 := Lib.hid (hB.trans (hq1.mono hB.size))
      have hH1 := Holds.fresh wr 38 #[.slice ea n1 ec, .int .i64 tm]
      have z0 := hH1.cell 0
      have z1 := hH1.cell 1
      have hk2 := CALL.out (wr.alloc (.cells #[.slice ea n1 ec, .int .i64 tm] 38)) HB2.out
      have x3 := hk2.2.2.2.1
      have HSE : Hid (∀ k, Calls Tryd.prog 15 #[.slice ea n1 ec] ((wr.alloc (.cells #[.slice ea n1 ec, .int .i64 tm] 38)).drewN k) fun e w' => e = .returned (.bool (serOk ser)) ∧ w' = (wr.alloc (.cells #[.slice ea n1 ec, .int .i64 tm] 38)).drewN k) := Lib.hid fun k => serial'_any _ _ ea ec n1 ser ((hr1.under hq1).drewN k) hn1 hd1
      have HWT : Hid (∀ k, Calls Tryd.prog 16 #[.int .i64 tm] ((wr.alloc (.cells #[.slice ea n1 ec, .int .i64 tm] 38)).drewN k) fun e w' => e = .returned (.bool (whenOk tm)) ∧ w' = (wr.alloc (.cells #[.slice ea n1 ec, .int .i64 tm] 38)).drewN k) := Lib.hid fun k => when'_any _ tm
      have HOX : Hid (GsP (some ⟨g, off, none⟩) gc gone (wr.alloc (.cells #[.slice ea n1 ec, .int .i64 tm] 38))) := Lib.hid (HX1.out.under HB2.out).at_
      have HRI := Lib.hid (hr1.under hq1)
      have HGO : Hid (gnOk (gone.map Gn.v) i = (serOk ser && whenOk tm && (decide (i = 0) || decide (cmpL ((gone.map Gn.v).getD (i - 1) default).ser ser < 0)))) := Lib.hid (gnOk_eq (by rw [HV.out]; rfl) (by rw [HV.out]; rfl) rfl)
      have HBB := Lib.hid (HB1.out.trans (HB2.out.mono HB1.out.size))
      clear hx hr1 hn1 hq1 hB hH1 hd1 hk2
      rcases hso : serOk ser with _ | _
      · have HE : Hid (r = false) := Lib.hid (HNO.out i hlt (by rw [HGO.out, hso]; rfl))
        rw [hso] at HSE
        clear hso
        go_wp2_with fail
        go_quiet ((go_at_call 15; exact Calls.quiet_of_same (HSE.out _)))
        go_wp2_with fail
        go_ret
        exact ⟨by rw [HE.out]; rfl, below_drewN HBB.out _⟩
      rw [hso] at HSE
      rcases hwt : whenOk tm with _ | _
      · have HE : Hid (r = false) := Lib.hid (HNO.out i hlt (by rw [HGO.out, hwt]; simp))
        rw [hwt] at HWT
        clear hwt hso
        go_wp2_with fail
        go_quiet ((first | (go_at_call 15; exact Calls.quiet_of_same (HSE.out _)) | (go_at_call 16; exact Calls.quiet_of_same (HWT.out _))))
        go_wp2_with fail
        go_ret
        exact ⟨by rw [HE.out]; rfl, below_drewN HBB.out _⟩
      rw [hwt] at HWT
      by_cases hi0 : i = 0
      · have d7 : decide ((0 : Int) < (i : Int)) = false := decide_eq_false (by omega)
        have d8 : decide (0 < i) = false := decide_eq_false (by omega)
        have HONE : Hid (gnOk (gone.map Gn.v) i = true) := Lib.hid (by rw [HGO.out, hso, hwt, decide_eq_true hi0]; rfl)
        clear hi0 hwt hso
        go_wp2_with fail
        go_quiet ((first | (go_at_call 15; exact Calls.quiet_of_same (HSE.out _)) | (go_at_call 16; exact Calls.quiet_of_same (HWT.out _))))
        go_wp2_with fail
        go_roundw
        case rel => exact ⟨i + 1, by omega, by go_num, fun j hj => by
          rcases Nat.lt_or_ge j i with h3 | h3
          · exact HA.out j h3
          · obtain rfl : j = i := by omega
            exact HONE.out, below_drewN HB2.out _⟩
        case measure => simp [intOf]; omega
      · have d7 : decide ((0 : Int) < (i : Int)) = true := decide_eq_true (by omega)
        have d8 : decide (0 < i) = true := decide_eq_true (by omega)
        have hi1 : 1 ≤ i := by omega
        have hxp := HOX.out
        obtain ⟨g', off', eA, hg', hcs'⟩ := hxp.1.2.2 (by rw [HGN.out]; omega)
        injection eA with eA
        obtain ⟨rfl, rfl⟩ : g = g' ∧ off = off' := by injection eA with e1 e2; exact ⟨e1, e2⟩
        have p0 := (hcs' (i - 1) (by rw [HGN.out]; omega)).1
        have hpe := hxp.at_ (j := i - 1) (by rw [HGN.out]; omega)
        have HVP : Hid ((gone.map Gn.v).getD (i - 1) default = (gone.getD (i - 1) default).v) := Lib.hid (gv_at (by rw [HGN.out]; omega))
        obtain ⟨q, hq⟩ : ∃ q, q = gone.getD (i - 1) default := ⟨_, rfl⟩
        rw [← hq] at p0 hpe HVP
        obtain ⟨pa, pc, pser, ptm⟩ := q
        obtain ⟨pr1, pd1⟩ := hpe
        dsimp only at p0 pr1 pd1
        obtain ⟨n4, hn4⟩ : ∃ n4, pser.length = n4 := ⟨_, rfl⟩
        rw [hn4] at p0
        have HCM : Hid (∀ k, Calls Tryd.prog 17 #[.slice pa n4 pc, .slice ea n1 ec] ((wr.alloc (.cells #[.slice ea n1 ec, .int .i64 tm] 38)).drewN k) fun e w' => e = .returned (.int .i64 (cmpL pser ser)) ∧ ∃ m, w' = ((wr.alloc (.cells #[.slice ea n1 ec, .int .i64 tm] 38)).drewN k).drewN m) := Lib.hid fun k => by
          have h := cmp'_any ((wr.alloc (.cells #[.slice ea n1 ec, .int .i64 tm] 38)).drewN k) _ _ pa ea pc ec pser ser (pr1.drewN k) (HRI.out.drewN k) (cmpL pser ser) rfl
          rwa [hn4, HN1.out] at h
        have HGZ : Hid (gnOk (gone.map Gn.v) i = decide (cmpL pser ser < 0)) := Lib.hid (by rw [HGO.out, hso, hwt, HVP.out, decide_eq_false hi0]; rfl)
        obtain ⟨z, hz⟩ : ∃ z, z = cmpL pser ser := ⟨_, rfl⟩
        rw [← hz] at HCM HGZ
        clear hxp hcs' hg' pr1 pd1 hn4 hq hz hi0 eA hso hwt
        by_cases hlb : z < 0
        · have hlex3 : decide ((0 : Int) ≤ z) = false := decide_eq_false (by omega)
          have HONE : Hid (gnOk (gone.map Gn.v) i = true) := Lib.hid (by rw [HGZ.out, decide_eq_true hlb])
          clear hlb
          go_wp2_with fail
          go_quiet ((first | (go_at_call 15; exact Calls.quiet_of_same (HSE.out _)) | (go_at_call 16; exact Calls.quiet_of_same (HWT.out _)) | (go_at_call 17; exact Calls.quiet_of (HCM.out _))))
          go_wp2_with fail
          go_roundw
          case rel => exact ⟨i + 1, by omega, by go_num, fun j hj => by
            rcases Nat.lt_or_ge j i with h3 | h3
            · exact HA.out j h3
            · obtain rfl : j = i := by omega
              exact HONE.out, below_drewN HB2.out _⟩
          case measure => simp [intOf]; omega
        · have HE : Hid (r = false) := Lib.hid (HNO.out i hlt (by rw [HGZ.out, decide_eq_false hlb]))
          have hlex3 : decide ((0 : Int) ≤ z) = true := decide_eq_true (by omega)
          clear hlb
          go_wp2_with fail
          go_quiet ((first | (go_at_call 15; exact Calls.quiet_of_same (HSE.out _)) | (go_at_call 16; exact Calls.quiet_of_same (HWT.out _)) | (go_at_call 17; exact Calls.quiet_of (HCM.out _))))
          go_wp2_with fail
          go_ret
          exact ⟨by rw [HE.out]; rfl, below_drewN HBB.out _⟩
    · obtain rfl : i = gn := by omega
      have HG : Hid (gonesOk (gone.map Gn.v) = true) := Lib.hid (gonesOk_iff.2 fun j hj => HA.out j (by rw [List.length_map, HGN.out] at hj; exact hj))
      have HRW : Hid (r = (dnOk iss && whenOk tat && whenOk tnx && decide (tat ≤ tnx) && decide (i ≤ 16) && decide (1 ≤ sn ∧ sn ≤ 600))) := Lib.hid (by rw [HRV.out, HG.out, Bool.and_true])
      have HBW := Lib.hid (HB1.out.trans (hB.mono HB1.out.size))
      have HIW := Lib.hid (HOI.out wr hB)
      clear HRV HNO HA
      go_wp2_with fail
      refine HIW.out.mono ?_
      rintro e w2 ⟨rfl, hb2⟩
      have HB2 := Lib.hid (HBW.out.trans (hb2.mono HBW.out.size))
      clear k0 k1 k2 k3 k4
      obtain ⟨k0, k1, k2, k3, k4⟩ := CALL.out w2 (hB.trans (hb2.mono hB.size))
      clear hb2 hB
      have HW1 := Lib.hid (when'_any w2 tat)
      have HW2 := Lib.hid (when'_any w2 tnx)
      have HS2 := Lib.hid (signed'_any w2 sa sc sn)
      generalize dnOk iss = b1 at *
      generalize whenOk tat = b2 at *
      generalize whenOk tnx = b3 at *
      cases b1 with
      | false =>
        go_wp2_with fail
        go_ret
        exact ⟨by rw [HRW.out]; rfl, HB2.out⟩
      | true =>
      go_wp2_with fail
      refine HW1.out.mono ?_
      rintro e w3 ⟨rfl, rfl⟩
      cases b2 with
      | false =>
        go_wp2_with fail
        go_ret
        exact ⟨by rw [HRW.out]; rfl, HB2.out⟩
      | true =>
      go_wp2_with fail
      refine HW2.out.mono ?_
      rintro e w3 ⟨rfl, rfl⟩
      cases b3 with
      | false =>
        go_wp2_with fail
        go_ret
        exact ⟨by rw [HRW.out]; rfl, HB2.out⟩
      | true =>
      by_cases hle : tat ≤ tnx
      case neg =>
        have HE : Hid (r = false) := Lib.hid (by rw [HRW.out, decide_eq_false hle]; rfl)
        have d : decide (tat ≤ tnx) = false := decide_eq_false hle
        go_wp2_with fail
        go_ret
        exact ⟨by rw [HE.out]; rfl, HB2.out⟩
      have dle : decide (tat ≤ tnx) = true := decide_eq_true hle
      by_cases h16 : i ≤ 16
      case neg =>
        have HE : Hid (r = false) := Lib.hid (by rw [HRW.out, decide_eq_false h16]; simp)
        have d : decide ((i : Int) ≤ (16 : Int)) = false := decide_eq_false (by omega)
        go_wp2_with fail
        go_ret
        exact ⟨by rw [HE.out]; rfl, HB2.out⟩
      have d16 : decide ((i : Int) ≤ (16 : Int)) = true := decide_eq_true (by omega)
      have HE : Hid (r = decide (1 ≤ sn ∧ sn ≤ 600)) := Lib.hid (by rw [HRW.out, decide_eq_true hle, decide_eq_true h16]; rfl)
      go_wp2_with fail
      refine HS2.out.mono ?_
      rintro e w3 ⟨rfl, rfl⟩
      rw [← HE.out]
      go_wp2_with fail
      go_ret
      exact ⟨rfl, HB2.out⟩
end Go.Proofs.YtionikhhdfkhdaaDoor
