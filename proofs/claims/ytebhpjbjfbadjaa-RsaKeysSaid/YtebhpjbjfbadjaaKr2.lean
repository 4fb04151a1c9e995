/-
  Whether a key is one of RSA: by rsa, by the document; how many bytes N has.
-/
import Derived.Test.YtebhpjbjfbadjaaKr1
namespace Go.Proofs.Ytebhpjbjfbadjaa
open Go.RowKit
set_option linter.unusedVariables false
set_option linter.unusedSimpArgs false

set_option maxRecDepth 100000 in
set_option maxHeartbeats 4000000 in
theorem rsaIs_any (w : World) (k : Ky) (h : KyP k w) (hs : k.n.length ≤ 5000) :
    Calls Try.prog 9 #[.agg (kycell k).toArray] w fun e w' => e = .returned (.bool (rsaOk k.v)) ∧ Below w.heap.size w w' := by
  obtain ⟨r, HR⟩ : ∃ r, Hid (r = rsaOk k.v) := ⟨_, rfl⟩
  rw [← HR.out]
  have hoc := Off.of_ky h
  have hq0 : Below w.heap.size w (w.alloc (.cells (kycell k).toArray 28)) := (Below.refl _ _).alloc (Nat.le_refl _) _
  have hH0 := Holds.fresh w 28 (kycell k).toArray
  obtain ⟨alg, na, nc, n, ee, xa, xc, x, ya, yc, y, inf⟩ := k
  simp only [kycell] at hq0 hH0 ⊢
  obtain ⟨nn, hnn⟩ : ∃ k, n.length = k := ⟨_, rfl⟩
  obtain ⟨xn, hxn⟩ : ∃ k, x.length = k := ⟨_, rfl⟩
  obtain ⟨yn, hyn⟩ : ∃ k, y.length = k := ⟨_, rfl⟩
  have HRV : Hid (r = (decide (alg = 1) && !inf && decide (xn = 0) && decide (yn = 0) && okN n && decide (512 ≤ nb n ∧ nb n ≤ 4096) && decide (n.getD 0 0 % 2 = 1) && decide (ee % 2 = 1 ∧ 3 ≤ ee))) := Lib.hid (by
    rw [HR.out]
    unfold rsaOk Ky.v
    rw [hxn, hyn])
  clear HR
  dsimp only at hs
  rw [hnn, hxn, hyn] at hq0 hH0 ⊢
  obtain ⟨w1, hw1⟩ : ∃ W, W = w.alloc (.cells #[.int .i64 alg, .slice na nn nc, .int .u32 (ee : Int), .slice xa xn xc, .slice ya yn yc, .bool inf] 28) := ⟨_, rfl⟩
  have HB : Hid (Below w.heap.size w w1) := Lib.hid (by rw [hw1]; exact hq0)
  have hH1 : Holds w1 w.heap.size 28 #[.int .i64 alg, .slice na nn nc, .int .u32 (ee : Int), .slice xa xn xc, .slice ya yn yc, .bool inf] := by rw [hw1]; exact hH0
  have hk1 := (hoc.under HB.out).at_
  obtain ⟨hrn, hdn, _, _, _, _, hee⟩ := hk1
  dsimp only at hrn hdn hee
  have HN := Lib.hid hnn
  have HIS := Lib.hid (isN_at w1 _ na nc nn n hrn hnn)
  have HW := Lib.hid hw1
  have c0 := hH0.cell 0
  have c1 := hH0.cell 1
  have c2 := hH0.cell 2
  have c3 := hH0.cell 3
  have c4 := hH0.cell 4
  have c5 := hH0.cell 5
  have k1 := hH1.cell 1
  have k2 := hH1.cell 2
  clear h hoc hq0 hH0 hH1 hxn hyn hw1 hnn
  by_cases ha : alg = 1
  case neg =>
    have HE : Hid (r = false) := Lib.hid (by rw [HRV.out, decide_eq_false ha]; rfl)
    have d : (alg != 1) = true := by simp [ha]
    go_enter Try.func9, Try.ntmps9
    go_wp2_with fail
    go_ret
    exact ⟨by rw [HE.out]; rfl, by rw [← HW.out]; exact HB.out⟩
  subst ha
  cases inf with
  | true =>
    have HE : Hid (r = false) := Lib.hid (by rw [HRV.out]; simp)
    go_enter Try.func9, Try.ntmps9
    go_wp2_with fail
    go_ret
    exact ⟨by rw [HE.out]; rfl, by rw [← HW.out]; exact HB.out⟩
  | false =>
  by_cases hx : 0 < xn
  case pos =>
    have HE : Hid (r = false) := Lib.hid (by rw [HRV.out, decide_eq_false (show ¬ xn = 0 by omega)]; simp)
    have d : decide ((0 : Int) < (xn : Int)) = true := decide_eq_true (by omega)
    have d' : decide (0 < xn) = true := decide_eq_true hx
    go_enter Try.func9, Try.ntmps9
    go_wp2_with fail
    go_ret
    exact ⟨by rw [HE.out]; rfl, by rw [← HW.out]; exact HB.out⟩
  have dx : decide ((0 : Int) < (xn : Int)) = false := decide_eq_false (by omega)
  have dx' : decide (0 < xn) = false := decide_eq_false hx
  by_cases hy : 0 < yn
  case pos =>
    have HE : Hid (r = false) := Lib.hid (by rw [HRV.out, decide_eq_false (show ¬ yn = 0 by omega)]; simp)
    have d : decide ((0 : Int) < (yn : Int)) = true := decide_eq_true (by omega)
    have d' : decide (0 < yn) = true := decide_eq_true hy
    clear hx
    go_enter Try.func9, Try.ntmps9
    go_wp2_with fail
    go_ret
    exact ⟨by rw [HE.out]; rfl, by rw [← HW.out]; exact HB.out⟩
  have dy : decide ((0 : Int) < (yn : Int)) = false := decide_eq_false (by omega)
  have dy' : decide (0 < yn) = false := decide_eq_false hy
  have HRW : Hid (r = (okN n && decide (512 ≤ nb n ∧ nb n ≤ 4096) && decide (n.getD 0 0 % 2 = 1) && decide (ee % 2 = 1 ∧ 3 ≤ ee))) := Lib.hid (by
    rw [HRV.out, decide_eq_true (show xn = 0 by omega), decide_eq_true (show yn = 0 by omega)]; simp)
  clear HRV hx hy
  rcases hok : okN n with _ | _
  · have HE : Hid (r = false) := Lib.hid (by rw [HRW.out, hok]; rfl)
    rw [hok] at HIS
    clear hok
    go_enter Try.func9, Try.ntmps9
    go_wp2_with fail
    rw [← HW.out]
    refine HIS.out.mono ?_
    rintro e w2 ⟨rfl, rfl⟩
    clear c0 c1 c2 c3 c4 c5
    go_wp2_with fail
    go_ret
    exact ⟨by rw [HE.out]; rfl, HB.out⟩
  have hnrm := (okN_nrm hok).2
  have hle := (okN_nrm hok).1
  rw [hok] at HIS
  have hbn := nb_lt n hdn
  obtain ⟨q, hq⟩ : ∃ q, nb (trl n) = q := ⟨_, rfl⟩
  have HBI := Lib.hid (bits_any w1 _ na nc nn n hrn HN.out hdn hs q hq)
  have hq2 : nb n = q := by rw [← hq, trl_id hnrm]
  have hq6 : q ≤ 100000 := by omega
  have HQ := Lib.hid hq2
  have HO := Lib.hid hok
  clear hq hnrm hbn hle hok
  by_cases h512 : q < 512
  case pos =>
    have HE : Hid (r = false) := Lib.hid (by rw [HRW.out, HQ.out, decide_eq_false (show ¬ (512 ≤ q ∧ q ≤ 4096) by omega)]; simp)
    have d : decide ((q : Int) < 512) = true := decide_eq_true (by omega)
    clear hq2 HQ
    go_enter Try.func9, Try.ntmps9
    go_wp2_with fail
    rw [← HW.out]
    refine HIS.out.mono ?_
    rintro e w2 ⟨rfl, rfl⟩
    clear c0 c1 c2 c3 c4 c5
    go_wp2_with fail
    refine HBI.out.mono ?_
    rintro e w2 ⟨rfl, rfl⟩
    go_wp2_with fail
    go_ret
    exact ⟨by rw [HE.out]; rfl, HB.out⟩
  have d512 : decide ((q : Int) < 512) = false := decide_eq_false (by omega)
  by_cases h4096 : 4096 < q
  case pos =>
    have HE : Hid (r = false) := Lib.hid (by rw [HRW.out, HQ.out, decide_eq_false (show ¬ (512 ≤ q ∧ q ≤ 4096) by omega)]; simp)
    have d : decide ((4096 : Int) < (q : Int)) = true := decide_eq_true (by omega)
    clear hq2 HQ
    go_enter Try.func9, Try.ntmps9
    go_wp2_with fail
    rw [← HW.out]
    refine HIS.out.mono ?_
    rintro e w2 ⟨rfl, rfl⟩
    clear c0 c1 c2 c3 c4 c5
    go_wp2_with fail
    refine HBI.out.mono ?_
    rintro e w2 ⟨rfl, rfl⟩
    go_wp2_with fail
    refine HBI.out.mono ?_
    rintro e w2 ⟨rfl, rfl⟩
    go_wp2_with fail
    go_ret
    exact ⟨by rw [HE.out]; rfl, HB.out⟩
  have d4096 : decide ((4096 : Int) < (q : Int)) = false := decide_eq_false (by omega)
  have hnp : 0 < n.length := nb_pos (by omega)
  have hnn1 : 1 ≤ nn := by have := HN.out; omega
  obtain ⟨b, off, u, rfl, hb, hu, HU⟩ := hrn.at_ (i := 0) hnp
  have hul : u < 4294967296 := by rw [HU.out]; exact hdn.at_ 0
  rw [Nat.add_zero] at hu
  have hnn0 : 0 < nn := hnn1
  have ha1 := and1 u hul
  have ha2 := and1 ee hee
  have HRX : Hid (r = (decide (u % 2 = 1) && decide (ee % 2 = 1 ∧ 3 ≤ ee))) := Lib.hid (by
    rw [HRW.out, HO.out, HQ.out, decide_eq_true (show 512 ≤ q ∧ q ≤ 4096 by omega), ← HU.out]; simp)
  clear hq2 HQ HRW HO HU h512 h4096 hnp hs hdn hrn
  by_cases hu1 : u % 2 = 1
  case neg =>
    have HE : Hid (r = false) := Lib.hid (by rw [HRX.out, decide_eq_false hu1]; rfl)
    have t1 : (bits .and .u32 (u : Int) 1 == 1) = false := by rw [ha1, show u % 2 = 0 by omega]; rfl
    clear ha1 ha2 hu1
    go_enter Try.func9, Try.ntmps9
    go_wp2_with fail
    rw [← HW.out]
    refine HIS.out.mono ?_
    rintro e w2 ⟨rfl, rfl⟩
    clear c0 c1 c2 c3 c4 c5
    go_wp2_with fail
    refine HBI.out.mono ?_
    rintro e w2 ⟨rfl, rfl⟩
    go_wp2_with fail
    refine HBI.out.mono ?_
    rintro e w2 ⟨rfl, rfl⟩
    go_wp2_with fail
    go_ret
    exact ⟨by rw [HE.out]; rfl, HB.out⟩
  have t1 : (bits .and .u32 (u : Int) 1 == 1) = true := by rw [ha1, hu1]; rfl
  by_cases he1 : ee % 2 = 1
  case neg =>
    have HE : Hid (r = false) := Lib.hid (by rw [HRX.out, decide_eq_false (show ¬ (ee % 2 = 1 ∧ 3 ≤ ee) by omega)]; simp)
    have t2 : (bits .and .u32 (ee : Int) 1 == 1) = false := by rw [ha2, show ee % 2 = 0 by omega]; rfl
    clear ha1 ha2 hu1 he1
    go_enter Try.func9, Try.ntmps9
    go_wp2_with fail
    rw [← HW.out]
    refine HIS.out.mono ?_
    rintro e w2 ⟨rfl, rfl⟩
    clear c0 c1 c2 c3 c4 c5
    go_wp2_with fail
    refine HBI.out.mono ?_
    rintro e w2 ⟨rfl, rfl⟩
    go_wp2_with fail
    refine HBI.out.mono ?_
    rintro e w2 ⟨rfl, rfl⟩
    go_wp2_with fail
    go_ret
    exact ⟨by rw [HE.out]; rfl, HB.out⟩
  have t2 : (bits .and .u32 (ee : Int) 1 == 1) = true := by rw [ha2, he1]; rfl
  have HE : Hid (r = decide (3 ≤ ee)) := Lib.hid (by
    rw [HRX.out, decide_eq_true hu1]
    by_cases h3 : 3 ≤ ee
    · rw [decide_eq_true h3, decide_eq_true (show ee % 2 = 1 ∧ 3 ≤ ee from ⟨he1, h3⟩)]; rfl
    · rw [decide_eq_false h3, decide_eq_false (show ¬ (ee % 2 = 1 ∧ 3 ≤ ee) by omega)]; rfl)
  have HD : Hid (decide ((3 : Int) ≤ (ee : Int)) = decide (3 ≤ ee)) := Lib.hid (by
    by_cases h3 : 3 ≤ ee
    · rw [decide_eq_true h3, decide_eq_true (show (3 : Int) ≤ (ee : Int) by omega)]
    · rw [decide_eq_false h3, decide_eq_false (show ¬ (3 : Int) ≤ (ee : Int) by omega)])
  clear ha1 ha2 hu1 he1
  go_enter Try.func9, Try.ntmps9
  go_wp2_with fail
  rw [← HW.out]
  refine HIS.out.mono ?_
  rintro e w2 ⟨rfl, rfl⟩
  clear c0 c1 c2 c3 c4 c5
  go_wp2_with fail
  refine HBI.out.mono ?_
  rintro e w2 ⟨rfl, rfl⟩
  go_wp2_with fail
  refine HBI.out.mono ?_
  rintro e w2 ⟨rfl, rfl⟩
  go_wp2_with fail
  go_ret
  exact ⟨by rw [HE.out, ← HD.out]; rfl, HB.out⟩
end Go.Proofs.Ytebhpjbjfbadjaa
