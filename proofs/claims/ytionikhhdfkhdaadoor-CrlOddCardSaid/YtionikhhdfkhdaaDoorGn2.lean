/-
  A row of what was revoked: may it be? By crl.
-/
import Derived.Test.YtionikhhdfkhdaaDoorGn1
import Derived.Deep.RegionLaw
import Derived.Deep.DrawnRows
namespace Go.Proofs.YtionikhhdfkhdaaDoor
open Go.RowKit
set_option linter.unusedVariables false
set_option linter.unusedSimpArgs false
attribute [local go_sem ↓] Go.wp_at_zero Go.wp_at_succ

set_option maxRecDepth 100000 in
theorem when_any (w : World) (t : Int) : Calls Tryd.prog 22 #[.int .i64 t] w fun e w' => e = .returned (.bool (whenOk t)) ∧ w = w' := by
  rcases h : whenOk t with _ | _
  · rcases whenOk_no.1 h with h | h
    · go_enter Tryd.func22, Tryd.ntmps22
      go_wp2_with fail
      go_ret
      exact ⟨rfl, rfl⟩
    · have hd : decide (t ≤ 253402300799) = false := decide_eq_false (by omega)
      go_enter Tryd.func22, Tryd.ntmps22
      go_wp2_with fail
      go_ret
      exact ⟨rfl, rfl⟩
  · obtain ⟨h1, h2⟩ := whenOk_iff.1 h
    go_enter Tryd.func22, Tryd.ntmps22
    go_wp2_with fail
    go_ret
    exact ⟨rfl, rfl⟩
set_option maxRecDepth 100000 in
set_option maxHeartbeats 2000000 in
theorem int_no (w : World) (B : Nat) (A : Option Addr) (c n : Nat) (l : List Nat) (hr : Rd .u32 w B A c l) (hn : l.length = n) (hB : B ≤ w.heap.size) (hok : okN l = false) :
    Calls Tryd.prog 24 #[.slice A n c] w fun e w' => e = .returned (.agg #[.int .u8 0, .slice none 0 0, .slice none 0 0]) ∧ Below w.heap.size w w' := by
  obtain ⟨V, hV⟩ : ∃ V, V = w.alloc (.cells #[.int .u8 0, .slice none 0 0, .slice none 0 0] 43) := ⟨_, rfl⟩
  have hq : Below w.heap.size w V := by rw [hV]; exact (Below.refl _ _).alloc (Nat.le_refl _) _
  have HB0 := Lib.hid hq
  have hz : Holds V w.heap.size 43 #[.int .u8 0, .slice none 0 0, .slice none 0 0] := by rw [hV]; exact Holds.fresh _ _ _
  have HIS := Lib.hid (is_at V B A c n l (hr.under (hq.mono hB)) hn false hok)
  have HZ := Lib.hid hz
  have HV := Lib.hid hV
  have z0 := hz.cell 0
  have z1 := hz.cell 1
  have z2 := hz.cell 2
  have y0 := hz.open_ 0
  have y1 := hz.open_ 1
  have y2 := hz.open_ 2
  clear hr hn hok hz hV hq
  go_enter Tryd.func24, Tryd.ntmps24
  go_wp2_with fail
  rw [← HV.out]
  refine HIS.out.mono ?_
  rintro e w2 ⟨rfl, rfl⟩
  clear HIS HV
  go_wp2_with fail
  refine ret_one rfl rfl (((HZ.out.stored 0 _).stored 1 _).stored 2 _) rfl ?_
  exact ⟨rfl, below_out HB0.out _ _ _⟩
/-- A number's thing, whatever it is; what is read of it as a serial. -/
theorem intV (w : World) (B : Nat) (A : Option Addr) (c n : Nat) (l : List Nat) (hr : Rd .u32 w B A c l) (hn : l.length = n) (hB : B ≤ w.heap.size) (hd : Dg l) :
    Calls Tryd.prog 24 #[.slice A n c] w fun e w' => ∃ (x n2 c2 : Nat) (A2 : Option Addr) (b : List Nat), e = .returned (.agg #[.int .u8 (x : Int), .slice A2 n2 c2, .slice none 0 0]) ∧ Rd .u8 w' w'.heap.size A2 c2 b ∧ b.length = n2 ∧ (∀ y ∈ b, y < 256) ∧
      Hid ((if heldOk x 0 2 = true then gi b 20 else none) = if okN l = true ∧ nb l < 160 then some l else none) ∧ Below w.heap.size w w' := by
  rcases hok : okN l with _ | _
  · refine (int_no w B A c n l hr hn hB hok).mono ?_
    rintro e w' ⟨rfl, hb⟩
    exact ⟨0, 0, 0, none, [], rfl, Rd.nil_ _ _ _, rfl, (fun y hy => by cases hy), Lib.hid (by rw [if_neg (by decide), if_neg (by simp)]), hb⟩
  · refine (int_any w B A c n l hr hn hB hd hok).mono ?_
    rintro e w' ⟨v, rfl, ⟨A2, c2, rfl, hr2, _, ho, _⟩, hb⟩
    obtain ⟨h256, hnr⟩ := okN_iff.1 hok
    refine ⟨2, _, c2, A2, intB l, rfl, hr2, rfl, ho, Lib.hid ?_, hb⟩
    rw [if_pos (by decide)]
    by_cases h : nb l < 160
    · rw [if_pos ⟨rfl, h⟩, gi_int hd hnr h256 (by omega)]
    · rw [if_neg (fun h2 => h h2.2), gi_int_far (by omega)]
theorem ser_get {l : List Nat} {o : Option (List Nat)} (h : o = if okN l = true ∧ nb l < 160 then some l else none) : (o = none ∧ serOk l = false) ∨ (o = some l ∧ serOk l = decide (0 < l.length)) := by
  by_cases h2 : okN l = true ∧ nb l < 160
  · rw [if_pos h2] at h
    exact .inr ⟨h, by unfold serOk; rw [h2.1, decide_eq_true h2.2]; simp⟩
  · rw [if_neg h2] at h
    refine .inl ⟨h, ?_⟩
    rw [Bool.eq_false_iff]; intro hh
    exact h2 ⟨(serOk_iff.1 hh).1, (serOk_iff.1 hh).2.2⟩
set_option maxRecDepth 100000 in
set_option maxHeartbeats 16000000 in
theorem crlIs_any (w : World) (cl : Cl) (h : ClP cl w) (hT : Lib.Utf8Tabs 0 1 w) (hsz : ∀ x ∈ cl.iss, (bts x.s).length ≤ 9223372036854775807) :
    Calls Tryd.prog 11 #[.agg (ccell cl).toArray] w fun e w' => e = .returned (.bool (crlOk cl.v)) ∧ Below w.heap.size w w' := by
  obtain ⟨r, HR⟩ : ∃ r, Hid (r = crlOk cl.v) := ⟨_, rfl⟩
  rw [← HR.out]
  have hoc := Off.of_c h
  have hq0 : Below w.heap.size w (w.alloc (.cells (ccell cl).toArray 26)) := (Below.refl _ _).alloc (Nat.le_refl _) _
  have hH0 := Holds.fresh w 26 (ccell cl).toArray
  obtain ⟨ia, ic, iss, tat, tnx, ga, gc, gone, sa, sc, sig⟩ := cl
  simp only [ccell] at hq0 hH0 ⊢
  obtain ⟨isn, hisn⟩ : ∃ k, iss.length = k := ⟨_, rfl⟩
  obtain ⟨gn, hgn⟩ : ∃ k, gone.length = k := ⟨_, rfl⟩
  obtain ⟨sn, hsn⟩ : ∃ k, sig.length = k := ⟨_, rfl⟩
  have HRV : Hid (r = (dnOk iss && whenOk tat && whenOk tnx && decide (tat ≤ tnx) && decide (gn ≤ 16) && decide (1 ≤ sn ∧ sn ≤ 600) && gonesOk (gone.map Gn.v))) := Lib.hid (by
    rw [HR.out]
    unfold crlOk Cl.v
    rw [List.length_map, hgn, hsn])
  clear HR
  rw [hisn, hgn, hsn] at hq0 hH0 ⊢
  obtain ⟨w1, hw1⟩ : ∃ W, W = w.alloc (.cells #[.slice ia isn ic, .int .i64 tat, .int .i64 tnx, .slice ga gn gc, .slice sa sn sc] 26) := ⟨_, rfl⟩
  have hq0' : Below w.heap.size w w1 := by rw [hw1]; exact hq0
  have hH0' : Holds w1 w.heap.size 26 #[.slice ia isn ic, .int .i64 tat, .int .i64 tnx, .slice ga gn gc, .slice sa sn sc] := by rw [hw1]; exact hH0
  have hc1 := hoc.under hq0'
  have HDN := Lib.hid (isDn_any w1 _ ia ic isn iss hisn hc1.at_.1 (Nat.le_refl _) hsz (Utf8Tabs_below hT hq0'))
  have HOC : Hid (Off [] (GsP ga gc gone) w1) := Lib.hid (hc1.imp fun _ hh => hh.2.1)
  have HB1 := Lib.hid hq0'
  have HH1 := Lib.hid hH0'
  have HGN := Lib.hid hgn
  have HW1 := Lib.hid hw1
  have c0 := hH0'.cell 0
  clear h hT hsz hoc hq0 hH0 hq0' hH0' hc1 hisn hgn hsn hw1
  have CALL : Hid (∀ W, Below w1.heap.size w1 W → W.cell? ⟨w.heap.size, 0, none⟩ = some (.slice ia isn ic) ∧ W.cell? ⟨w.heap.size, 1, none⟩ = some (.int .i64 tat) ∧ W.cell? ⟨w.heap.size, 2, none⟩ = some (.int .i64 tnx) ∧ W.cell? ⟨w.heap.size, 3, none⟩ = some (.slice ga gn gc) ∧ W.cell? ⟨w.heap.size, 4, none⟩ = some (.slice sa sn sc)) := Lib.hid fun W hW => by
    have h := HH1.out.under hW HH1.out.lt
    exact ⟨h.cell 0, h.cell 1, h.cell 2, h.cell 3, h.cell 4⟩
  go_enter Tryd.func11, Tryd.ntmps11
  rw [HW1.out] at c0
  go_wp2_with fail
  rw [← HW1.out]
  refine HDN.out.mono ?_
  clear c0
  rintro e w2 ⟨rfl, hb2⟩
  have HB2 := Lib.hid (HB1.out.trans (hb2.mono HB1.out.size))
  have HX2 := Lib.hid (HOC.out.under hb2)
  obtain ⟨k0, k1, k2, k3, k4⟩ := CALL.out w2 hb2
  have HK2 : Hid (∀ W, Below w2.heap.size w2 W → W.cell? ⟨w.heap.size, 0, none⟩ = some (.slice ia isn ic) ∧ W.cell? ⟨w.heap.size, 1, none⟩ = some (.int .i64 tat) ∧ W.cell? ⟨w.heap.size, 2, none⟩ = some (.int .i64 tnx) ∧ W.cell? ⟨w.heap.size, 3, none⟩ = some (.slice ga gn gc) ∧ W.cell? ⟨w.heap.size, 4, none⟩ = some (.slice sa sn sc)) := Lib.hid fun W hW => CALL.out W (hb2.trans (hW.mono hb2.size))
  clear hb2 HDN HW1 CALL HB1 HH1 HOC
  rcases hdn : dnOk iss with _ | _
  · have HE : Hid (r = false) := Lib.hid (by rw [HRV.out, hdn]; rfl)
    clear hdn
    go_wp2_with fail
    go_ret
    exact ⟨by rw [HE.out]; rfl, HB2.out⟩
  have HW1 := Lib.hid (when_any w2 tat)
  go_wp2_with fail
  refine HW1.out.mono ?_
  rintro e w3 ⟨rfl, rfl⟩
  rcases hwa : whenOk tat with _ | _
  · have HE : Hid (r = false) := Lib.hid (by rw [HRV.out, hwa]; simp)
    clear hdn hwa
    go_wp2_with fail
    go_ret
    exact ⟨by rw [HE.out]; rfl, HB2.out⟩
  have HW2 := Lib.hid (when_any w2 tnx)
  go_wp2_with fail
  refine HW2.out.mono ?_
  rintro e w3 ⟨rfl, rfl⟩
  rcases hwn : whenOk tnx with _ | _
  · have HE : Hid (r = false) := Lib.hid (by rw [HRV.out, hwn]; simp)
    clear hdn hwa hwn
    go_wp2_with fail
    go_ret
    exact ⟨by rw [HE.out]; rfl, HB2.out⟩
  by_cases hle : tat ≤ tnx
  case neg =>
    have HE : Hid (r = false) := Lib.hid (by rw [HRV.out, decide_eq_false hle]; simp)
    have d : decide (tnx < tat) = true := decide_eq_true (by omega)
    clear hdn hwa hwn
    go_wp2_with fail
    go_ret
    exact ⟨by rw [HE.out]; rfl, HB2.out⟩
  have dle : decide (tnx < tat) = false := decide_eq_false (by omega)
  by_cases h16 : 16 < gn
  case pos =>
    have HE : Hid (r = false) := Lib.hid (by rw [HRV.out, decide_eq_false (show ¬ gn ≤ 16 by omega)]; simp)
    have d : decide ((16 : Int) < (gn : Int)) = true := decide_eq_true (by omega)
    clear hdn hwa hwn
    go_wp2_with fail
    go_ret
    exact ⟨by rw [HE.out]; rfl, HB2.out⟩
  have d16 : decide ((16 : Int) < (gn : Int)) = false := decide_eq_false (by omega)
  by_cases h1 : sn < 1
  case pos =>
    have HE : Hid (r = false) := Lib.hid (by rw [HRV.out, decide_eq_false (show ¬ (1 ≤ sn ∧ sn ≤ 600) by omega)]; simp)
    have d : decide ((sn : Int) < (1 : Int)) = true := decide_eq_true (by omega)
    clear hdn hwa hwn
    go_wp2_with fail
    go_ret
    exact ⟨by rw [HE.out]; rfl, HB2.out⟩
  have d1 : decide ((sn : Int) < (1 : Int)) = false := decide_eq_false (by omega)
  by_cases h600 : 600 < sn
  case pos =>
    have HE : Hid (r = false) := Lib.hid (by rw [HRV.out, decide_eq_false (show ¬ (1 ≤ sn ∧ sn ≤ 600) by omega)]; simp)
    have d : decide ((600 : Int) < (sn : Int)) = true := decide_eq_true (by omega)
    clear hdn hwa hwn
    go_wp2_with fail
    go_ret
    exact ⟨by rw [HE.out]; rfl, HB2.out⟩
  have d600 : decide ((600 : Int) < (sn : Int)) = false := decide_eq_false (by omega)
  have HRG : Hid (r = gonesOk (gone.map Gn.v)) := Lib.hid (by rw [HRV.out, hdn, hwa, hwn, decide_eq_true hle, decide_eq_true (show gn ≤ 16 by omega), decide_eq_true (show 1 ≤ sn ∧ sn ≤ 600 by omega)]; simp)
  have hgc := HX2.out.at_.1.1
  have hgc63 := HX2.out.at_.1.2.1
  rw [HGN.out] at hgc
  clear hdn hwa hwn HRV
  go_wp2_with fail
  clear d600 d1 d16 dle k0 k1 k2 k3 k4 HW1 HW2
  go_loopw [49] (fun iv wr => ∃ i : Nat, i ≤ gn ∧ iv = .int .i64 (i : Int) ∧ Hid (∀ j, j < i → gnOk (gone.map Gn.v) j = true) ∧ Below w2.heap.size w2 wr) (fun iv _ => gn - (intOf iv).toNat)
  case atStart => exact ⟨0, by omega, rfl, fun j hj => by omega, Below.refl _ _⟩
  case round =>
    obtain ⟨i, hi, rfl, HA, hB⟩ := hrel
    by_cases hlt : i < gn
    · have hx := (HX2.out.under hB).at_
      obtain ⟨g, off, rfl, hg, hcs⟩ := hx.1.2.2 (by rw [HGN.out]; omega)
      obtain ⟨c0, c1⟩ := hcs i (by rw [HGN.out]; exact hlt)
      have hxe := hx.at_ (by rw [HGN.out]; exact hlt)
      have HV : Hid ((gone.map Gn.v).getD i default = (gone.getD i default).v) := Lib.hid (gv_at (by rw [HGN.out]; exact hlt))
      obtain ⟨e, he⟩ : ∃ e, e = gone.getD i default := ⟨_, rfl⟩
      rw [← he] at c0 c1 hxe HV
      clear he hcs
      obtain ⟨ea, ec, ser, tm⟩ := e
      obtain ⟨hr1, hd1⟩ := hxe
      dsimp only at c0 c1 hr1 hd1
      obtain ⟨n1, hn1⟩ : ∃ n1, ser.length = n1 := ⟨_, rfl⟩
      rw [hn1] at c0
      have HN1 := Lib.hid hn1
      have HBW := Lib.hid hB
      have hq1 : Below wr.heap.size wr (wr.alloc (.cells #[.slice ea n1 ec, .int .i64 tm] 38)) := (Below.refl _ _).alloc (Nat.le_refl _) _
      have hb1 := hB.trans (hq1.mono hB.size)
      have hH1 := Holds.fresh wr 38 #[.slice ea n1 ec, .int .i64 tm]
      have HH1 := Lib.hid hH1
      have HQ1 := Lib.hid hq1
      have HB1 := Lib.hid hb1
      have z0 := hH1.cell 0
      have z1 := hH1.cell 1
      have HRI : Hid (∀ W, Below wr.heap.size wr W → Rd .u32 W wr.heap.size ea ec ser) := Lib.hid fun W hW => hr1.under hW
      have HIV := Lib.hid (intV (wr.alloc (.cells #[.slice ea n1 ec, .int .i64 tm] 38)) wr.heap.size ea ec n1 ser (hr1.under hq1) hn1 hq1.size hd1)
      have HOX : Hid (∀ W, Below w2.heap.size w2 W → GsP (some ⟨g, off, none⟩) gc gone W) := Lib.hid fun W hW => (HX2.out.under hW).at_
      have HGO : Hid (gnOk (gone.map Gn.v) i = (serOk ser && whenOk tm && (decide (i = 0) || decide (cmpL ((gone.map Gn.v).getD (i - 1) default).ser ser < 0)))) := Lib.hid (gnOk_eq (by rw [HV.out]; rfl) (by rw [HV.out]; rfl) rfl)
      have HNO : Hid (gnOk (gone.map Gn.v) i = false → r = false) := Lib.hid fun h => by rw [HRG.out]; exact gonesOk_no (i := i) (by rw [List.length_map, HGN.out]; exact hlt) h
      have HD1 := Lib.hid hd1
      clear hx hr1 hn1 hq1 hB hb1 hH1 hd1
      go_wp2_with fail
      refine HIV.out.mono ?_
      rintro ex w5 ⟨x, n2, c2, A2, b, rfl, hr5, hn5, ho5, HG5, hb5⟩
      have HB5 := Lib.hid (HB1.out.trans (hb5.mono HB1.out.size))
      have HQ5 := Lib.hid (HQ1.out.trans (hb5.mono HQ1.out.size))
      have HH5 := Lib.hid (HH1.out.under hb5 HH1.out.lt)
      have HGI := Lib.hid (getInt_any w5 x n2 c2 0 0 _ A2 none b 20 hr5 hn5 (Nat.le_refl _) ho5)
      clear hr5 hn5 ho5 hb5 z0 z1 HIV HH1 HQ1 HB1
      obtain ⟨o, HO⟩ : ∃ o, Hid (o = if heldOk x 0 2 = true then gi b 20 else none) := ⟨_, rfl⟩
      rw [← HO.out] at HGI
      have hgs := ser_get (HO.out.trans HG5.out)
      clear HO HG5
      go_wp2_with fail
      refine HGI.out.mono ?_
      obtain ⟨rfl, hso⟩ | ⟨rfl, hso⟩ := hgs
      · rintro ex w6 ⟨rfl, hb6⟩
        have HE : Hid (r = false) := Lib.hid (HNO.out (by rw [HGO.out, hso]; rfl))
        have HB6 := Lib.hid (HB2.out.trans ((HB5.out.trans (hb6.mono HB5.out.size)).mono HB2.out.size))
        clear hb6 hso
        go_wp2_with fail
        go_ret
        exact ⟨by rw [HE.out]; rfl, HB6.out⟩
      · rintro ex w6 ⟨A6, c6, rfl, hr6, hb6⟩
        rw [HN1.out] at hso ⊢
        have HB6 := Lib.hid (HB5.out.trans (hb6.mono HB5.out.size))
        have HQ6 := Lib.hid (HQ5.out.trans (hb6.mono HQ5.out.size))
        have hH6 := HH5.out.under hb6 HH5.out.lt
        have z0 := hH6.cell 0
        have z1 := hH6.cell 1
        clear hb6 hr6 hH6
        have HBB := Lib.hid (HB2.out.trans (HB6.out.mono HB2.out.size))
        by_cases h0 : n1 = 0
        case pos =>
          have HE : Hid (r = false) := Lib.hid (HNO.out (by rw [HGO.out, hso, h0]; rfl))
          have d : ((n1 : Int) == 0) = true := by rw [beq_iff_eq]; omega
          clear hso
          go_wp2_with fail
          go_ret
          exact ⟨by rw [HE.out]; rfl, HBB.out⟩
        have d0 : ((n1 : Int) == 0) = false := by rw [beq_eq_false_iff_ne]; omega
        have HSO : Hid (serOk ser = true) := Lib.hid (by rw [hso, decide_eq_true (show 0 < n1 by omega)])
        have HWT := Lib.hid (when_any w6 tm)
        clear hso
        go_wp2_with fail
        refine HWT.out.mono ?_
        rintro ex w7 ⟨rfl, rfl⟩
        rcases hwt : whenOk tm with _ | _
        · have HE : Hid (r = false) := Lib.hid (HNO.out (by rw [HGO.out, hwt]; simp))
          clear hwt
          go_wp2_with fail
          go_ret
          exact ⟨by rw [HE.out]; rfl, HBB.out⟩
        by_cases hi0 : i = 0
        · have d7 : decide ((0 : Int) < (i : Int)) = false := decide_eq_false (by omega)
          have d8 : decide (0 < i) = false := decide_eq_false (by omega)
          have HONE : Hid (gnOk (gone.map Gn.v) i = true) := Lib.hid (by rw [HGO.out, HSO.out, hwt, decide_eq_true hi0]; rfl)
          clear hi0 hwt
          go_wp2_with fail
          go_quiet (fail)
          go_wp2_with fail
          go_roundw
          case rel => exact ⟨i + 1, by omega, by go_num, fun j hj => by
            rcases Nat.lt_or_ge j i with h3 | h3
            · exact HA.out j h3
            · obtain rfl : j = i := by omega
              exact HONE.out, below_drewN HB6.out _⟩
          case measure => simp [intOf]; omega
        · have d7 : decide ((0 : Int) < (i : Int)) = true := decide_eq_true (by omega)
          have d8 : decide (0 < i) = true := decide_eq_true (by omega)
          have hi1 : 1 ≤ i := by omega
          have hxp := HOX.out w6 HB6.out
          obtain ⟨g', off', eA, hg', hcs'⟩ := hxp.1.2.2 (by rw [HGN.out]; omega)
          injection eA with eA
          obtain ⟨rfl, rfl⟩ : g = g' ∧ off = off' := by injection eA with e1 e2; exact ⟨e1, e2⟩
          have p0 := (hcs' (i - 1) (by rw [HGN.out]; omega)).1
          have hpe := hxp.at_ (j := i - 1) (by rw [HGN.out]; omega)
          have HVP : Hid ((gone.map Gn.v).getD (i - 1) default = (gone.getD (i - 1) default).v) := Lib.hid (gv_at (by rw [HGN.out]; omega))
          have hpo := HA.out (i - 1) (by omega)
          obtain ⟨q, hq⟩ : ∃ q, q = gone.getD (i - 1) default := ⟨_, rfl⟩
          rw [← hq] at p0 hpe HVP
          obtain ⟨pa, pc, pser, ptm⟩ := q
          obtain ⟨pr1, pd1⟩ := hpe
          dsimp only at p0 pr1 pd1
          have hps : serOk pser = true := by
            unfold gnOk at hpo
            rw [HVP.out] at hpo
            simp only [Gn.v, Bool.and_eq_true] at hpo
            exact hpo.1.1
          have hnp := (okN_iff.1 (serOk_iff.1 hps).1).2
          have hns := (okN_iff.1 (serOk_iff.1 HSO.out).1).2
          obtain ⟨n4, hn4⟩ : ∃ n4, pser.length = n4 := ⟨_, rfl⟩
          rw [hn4] at p0
          have HCM : Hid (∀ k, Calls Tryd.prog 25 #[.slice pa n4 pc, .slice ea n1 ec] (w6.drewN k) fun e w' => e = .returned (.int .i64 (cmpL pser ser)) ∧ ∃ m, w' = (w6.drewN k).drewN m) := Lib.hid fun k => by
            have h := cmp_any (w6.drewN k) _ _ pa ea pc ec pser ser (pr1.drewN k) ((HRI.out w6 HQ6.out).drewN k) (cmpL pser ser) (by rw [trl_self hnp, trl_self hns])
            rwa [hn4, HN1.out] at h
          have HGZ : Hid (gnOk (gone.map Gn.v) i = decide (cmpL pser ser < 0)) := Lib.hid (by rw [HGO.out, HSO.out, hwt, HVP.out, decide_eq_false hi0]; rfl)
          obtain ⟨z, hz⟩ : ∃ z, z = cmpL pser ser := ⟨_, rfl⟩
          rw [← hz] at HCM HGZ
          have k3 := (HK2.out w6 HB6.out).2.2.2.1
          clear hxp hcs' hg' pr1 pd1 hn4 hq hz hi0 eA hps hnp hns hpo hwt HWT
          by_cases hlb : z < 0
          · have hlex3 : decide ((0 : Int) ≤ z) = false := decide_eq_false (by omega)
            have HONE : Hid (gnOk (gone.map Gn.v) i = true) := Lib.hid (by rw [HGZ.out, decide_eq_true hlb])
            clear hlb
            go_wp2_with fail
            go_quiet ((go_at_call 25; exact Calls.quiet_of (HCM.out _)))
            go_wp2_with fail
            go_roundw
            case rel => exact ⟨i + 1, by omega, by go_num, fun j hj => by
              rcases Nat.lt_or_ge j i with h3 | h3
              · exact HA.out j h3
              · obtain rfl : j = i := by omega
                exact HONE.out, below_drewN HB6.out _⟩
            case measure => simp [intOf]; omega
          · have HE : Hid (r = false) := Lib.hid (HNO.out (by rw [HGZ.out, decide_eq_false hlb]))
            have hlex3 : decide ((0 : Int) ≤ z) = true := decide_eq_true (by omega)
            clear hlb
            go_wp2_with fail
            go_quiet ((go_at_call 25; exact Calls.quiet_of (HCM.out _)))
            go_wp2_with fail
            go_ret
            exact ⟨by rw [HE.out]; rfl, below_drewN HBB.out _⟩
    · obtain rfl : i = gn := by omega
      have HE : Hid (r = true) := Lib.hid (by rw [HRG.out]; exact gonesOk_iff.2 fun j hj => HA.out j (by rw [List.length_map, HGN.out] at hj; exact hj))
      have HBB := Lib.hid (HB2.out.trans (hB.mono HB2.out.size))
      go_wp2_with fail
      go_ret
      exact ⟨by rw [HE.out]; rfl, HBB.out⟩
end Go.Proofs.YtionikhhdfkhdaaDoor
