/-
  Signatures by RSA: by rsa.
-/
import Derived.Test.YtebhpjbjfbadjaaKr2
import Derived.Test.YtebhpjbjfbadjaaKr4
import Derived.Test.YtebhpjbjfbadjaaEqB
namespace Go.Proofs.Ytebhpjbjfbadjaa
open Go.RowKit
set_option linter.unusedVariables false
set_option linter.unusedSimpArgs false

set_option maxRecDepth 100000 in
set_option maxHeartbeats 8000000 in
theorem rsaVerify_any (w : World) (k : Ky) (h : KyP k w) (hs : k.n.length ≤ 1000) (hxy : k.x.length ≤ 100000 ∧ k.y.length ≤ 100000) (A2 : Option Addr) (c2 dn : Nat) (d : List Nat) (hd : Rd .u8 w w.heap.size A2 c2 d) (hdn : d.length = dn) (ho : ∀ x ∈ d, x < 256)
    (A3 : Option Addr) (c3 sn : Nat) (s : List Nat) (hsg : Rd .u8 w w.heap.size A3 c3 s) (hsn : s.length = sn) (ho3 : ∀ x ∈ s, x < 256) :
    Calls Try.prog 11 #[.agg (kycell k).toArray, .slice A2 dn c2, .slice A3 sn c3] w fun e w' => e = .returned (.bool (rsaVer k.v d s)) ∧ Below w.heap.size w w' := by
  obtain ⟨r, HR⟩ : ∃ r, Hid (r = rsaVer k.v d s) := ⟨_, rfl⟩
  rw [← HR.out]
  have hoc := Off.of_ky h
  have hod := Off.of_rd hd (Nat.le_refl _)
  have hos := Off.of_rd hsg (Nat.le_refl _)
  have hq0 : Below w.heap.size w (w.alloc (.cells (kycell k).toArray 28)) := (Below.refl _ _).alloc (Nat.le_refl _) _
  have hH0 := Holds.fresh w 28 (kycell k).toArray
  obtain ⟨ok, hok⟩ : ∃ ok, rsaOk k.v = ok := ⟨_, rfl⟩
  obtain ⟨sz, hsz⟩ : ∃ z, rsaSize k.v = z := ⟨_, rfl⟩
  obtain ⟨w1, hw1⟩ : ∃ W, W = w.alloc (.cells (kycell k).toArray 28) := ⟨_, rfl⟩
  rw [← hw1] at hq0 hH0
  have HIS : Hid (∀ W, Below w1.heap.size w1 W → Calls Try.prog 9 #[.agg (kycell k).toArray] W fun e w' => e = .returned (.bool ok) ∧ Below W.heap.size W w') := Lib.hid fun W hW => by
    have := rsaIs_any W k ((hoc.under hq0).under hW).at_ (by omega)
    rw [hok] at this
    exact this
  have HRV : Hid (r = (ok && decide (sn = sz) && decide (val (numOf s) < val k.n) && decide (dn = 32) && decide (val (numOf s) ^ k.e % val k.n = val (numOf (frameL d sz))))) := Lib.hid (by
    rw [HR.out]
    unfold rsaVer
    rw [hok, hsz, hsn, hdn]
    rfl)
  have HOKP : Hid (ok = true → okN k.n = true ∧ 3 ≤ k.e ∧ 64 ≤ sz ∧ sz ≤ 512 ∧ nb k.n ≤ 8 * sz) := Lib.hid fun e => by
    rw [e] at hok
    have h1 := rsaOk_parts hok
    have h2 := rsaSize_bounds hok
    rw [hsz] at h2
    exact ⟨h1.1, h1.2, h2.1, h2.2.1, h2.2.2⟩
  have HSZ : Hid ((nb k.n + 7) / 8 = sz) := Lib.hid hsz
  clear HR hok
  have hNB := nb_lt k.n h.2.1
  have HKN : Hid (∀ W, Below w1.heap.size w1 W → Rd .u32 W W.heap.size k.na k.nc k.n) := Lib.hid fun W hW => ((hoc.under hq0).under hW).at_.1
  have hdgn := h.2.1
  have hee := h.2.2.2.2.2.2
  have HDD : Hid (∀ W, Below w1.heap.size w1 W → Rd .u8 W W.heap.size A2 c2 d) := Lib.hid fun W hW => ((hod.under hq0).under hW).at_
  have HSS : Hid (∀ W, Below w1.heap.size w1 W → Rd .u8 W W.heap.size A3 c3 s) := Lib.hid fun W hW => ((hos.under hq0).under hW).at_
  have HB := Lib.hid hq0
  have HW := Lib.hid hw1
  obtain ⟨alg, na, nc, n, ee, xa, xc, x, ya, yc, y, inf⟩ := k
  simp only [kycell] at hH0 HIS HW ⊢
  dsimp only at hs hxy HRV HOKP HSZ hNB HKN hdgn hee
  obtain ⟨nn, hnn⟩ : ∃ k, n.length = k := ⟨_, rfl⟩
  obtain ⟨xn, hxn⟩ : ∃ k, x.length = k := ⟨_, rfl⟩
  obtain ⟨yn, hyn⟩ : ∃ k, y.length = k := ⟨_, rfl⟩
  obtain ⟨zl, hzl⟩ : ∃ z, (numOf s).length = z := ⟨_, rfl⟩
  rw [hnn] at hs hNB
  rw [hnn, hxn, hyn] at hH0 HIS HW ⊢
  have HCE : Hid (∀ W, Below w1.heap.size w1 W → W.cell? ⟨w.heap.size, 0, none⟩ = some (.int .i64 alg) ∧ W.cell? ⟨w.heap.size, 1, none⟩ = some (.slice na nn nc) ∧ W.cell? ⟨w.heap.size, 2, none⟩ = some (.int .u32 (ee : Int)) ∧ W.cell? ⟨w.heap.size, 3, none⟩ = some (.slice xa xn xc) ∧ W.cell? ⟨w.heap.size, 4, none⟩ = some (.slice ya yn yc) ∧ W.cell? ⟨w.heap.size, 5, none⟩ = some (.bool inf)) := Lib.hid fun W hW => by
    have h := hH0.under hW hH0.lt
    exact ⟨h.cell 0, h.cell 1, h.cell 2, h.cell 3, h.cell 4, h.cell 5⟩
  have HNN := Lib.hid hnn
  have HDN := Lib.hid hdn
  have HSN := Lib.hid hsn
  have HZL := Lib.hid hzl
  have hz256 : zl ≤ 256 := by rw [← hzl]; exact numOf_length s
  have HO := Lib.hid ho
  have HO3 := Lib.hid ho3
  have HDG := Lib.hid hdgn
  have c0 := hH0.cell 0
  have c1 := hH0.cell 1
  have c2' := hH0.cell 2
  have c3' := hH0.cell 3
  have c4 := hH0.cell 4
  have c5 := hH0.cell 5
  rw [HW.out] at c0 c1 c2' c3' c4 c5
  clear h hoc hod hos hq0 hH0 hw1 hd hdn ho hsg hsn ho3 hxn hyn hnn hzl hsz hdgn hxy
  go_enter Try.func11, Try.ntmps11
  go_wp2_with fail
  rw [← HW.out]
  refine (HIS.out w1 (Below.refl _ _)).mono ?_
  rintro e w2 ⟨rfl, hb2⟩
  have S2 := Lib.hid hb2
  obtain ⟨k0, k1, k2, k3, k4, k5⟩ := HCE.out w2 hb2
  clear c0 c1 c2' c3' c4 c5 hb2
  cases ok with
  | false =>
    have HE : Hid (r = false) := Lib.hid (by rw [HRV.out]; rfl)
    go_wp2_with fail
    go_ret
    exact ⟨by rw [HE.out]; rfl, HB.out.trans (S2.out.mono HB.out.size)⟩
  | true =>
  obtain ⟨hokn, he3, hsz1, hsz2, hsz3⟩ := HOKP.out rfl
  have hnrm := (okN_nrm hokn).2
  have HOKN := Lib.hid hokn
  have HNR := Lib.hid hnrm
  have HZ3 := Lib.hid hsz3
  obtain ⟨q, hq⟩ : ∃ q, nb n = q := ⟨_, rfl⟩
  have hq6 : q ≤ 32000 := by omega
  have hqz : ((q : Int) + 7) / 8 = (sz : Int) := by have := HSZ.out; rw [hq] at this; omega
  have HQ := Lib.hid hq
  clear hokn hnrm hsz3 hq HOKP hNB
  have HBI := Lib.hid (bits_any w2 _ na nc nn n (HKN.out w2 S2.out) HNN.out HDG.out (by rw [HNN.out]; omega) q (by rw [trl_id HNR.out]; exact HQ.out))
  go_wp2_with fail
  refine HBI.out.mono ?_
  rintro e w3 ⟨rfl, rfl⟩
  clear HBI
  by_cases hsn : sn = sz
  case neg =>
    have HE : Hid (r = false) := Lib.hid (by rw [HRV.out, decide_eq_false hsn]; rfl)
    have t1 : ((sn : Int) != (sz : Int)) = true := by simp; omega
    have t1' : decide (sn = sz) = false := decide_eq_false hsn
    clear hsn
    go_wp2_with fail
    go_ret
    exact ⟨by rw [HE.out]; rfl, HB.out.trans (S2.out.mono HB.out.size)⟩
  subst hsn
  have HOF := Lib.hid (ofN_at w2 _ A3 c3 sn s (HSS.out w2 S2.out) HSN.out (Nat.le_refl _) HO3.out zl HZL.out)
  go_wp2_with fail
  refine HOF.out.mono ?_
  rintro e w4 ⟨A4, c4, rfl, hr4, hb4⟩
  have S4 := Lib.hid (S2.out.trans (hb4.mono S2.out.size))
  have HR4 := Lib.hid hr4
  clear k0 k1 k2 k3 k4 k5 hb4 hr4 HOF
  obtain ⟨k0, k1, k2, k3, k4, k5⟩ := HCE.out w4 S4.out
  have hdS : Dg (numOf s) := numOf_dg (oct_rev HO3.out)
  obtain ⟨lt, hlt⟩ : ∃ b, b = decide (val (numOf s) < val n) := ⟨_, rfl⟩
  have HCM := Lib.hid (cmpN_at w4 A4 na c4 nc zl nn (numOf s) n HR4.out (HKN.out w4 S4.out) HZL.out HNN.out hdS HDG.out (numOf_nrm s) HNR.out lt hlt)
  have HLT := Lib.hid hlt
  have HDS := Lib.hid hdS
  clear hlt hdS
  go_wp2_with fail
  refine HCM.out.mono ?_
  rintro e w5 ⟨⟨v5, rfl, hv5⟩, hb5⟩
  have S5 := Lib.hid (S4.out.trans (hb5.mono S4.out.size))
  have HR5 := Lib.hid (rd_next HR4.out (Nat.le_refl _) hb5)
  clear k0 k1 k2 k3 k4 k5 hb5 HCM HR4
  obtain ⟨k0, k1, k2, k3, k4, k5⟩ := HCE.out w5 S5.out
  cases lt with
  | false =>
    have HE : Hid (r = false) := Lib.hid (by rw [HRV.out, ← HLT.out]; simp)
    rw [Bool.not_false] at hv5
    go_wp2_with fail
    go_ret
    exact ⟨by rw [HE.out]; rfl, HB.out.trans (S5.out.mono HB.out.size)⟩
  | true =>
  rw [Bool.not_true] at hv5
  by_cases hdn : dn = 32
  case neg =>
    have HE : Hid (r = false) := Lib.hid (by rw [HRV.out, decide_eq_false hdn]; simp)
    have HFR := Lib.hid (frame_no w5 A2 c2 dn (sn : Int) (.inl hdn))
    clear hdn
    go_wp2_with fail
    refine HFR.out.mono ?_
    rintro e w6 ⟨rfl, rfl⟩
    go_wp2_with fail
    go_ret
    exact ⟨by rw [HE.out]; rfl, HB.out.trans (S5.out.mono HB.out.size)⟩
  subst hdn
  have HFR := Lib.hid (frame_yes w5 _ A2 c2 d sn HDN.out (HDD.out w5 S5.out) (Nat.le_refl _) (by omega) (by omega))
  go_wp2_with fail
  refine HFR.out.mono ?_
  rintro e w6 ⟨A6, c6, rfl, hr6, hb6⟩
  have S6 := Lib.hid (S5.out.trans (hb6.mono S5.out.size))
  have HR5b := Lib.hid (rd_next HR5.out (Nat.le_refl _) hb6)
  have HR6 := Lib.hid hr6
  have hvn : val n ≠ 0 := by have h : val (numOf s) < val n := of_decide_eq_true HLT.out.symm; omega
  have HVN := Lib.hid hvn
  clear k0 k1 k2 k3 k4 k5 hb6 hr6 HFR hv5 hvn HR5
  obtain ⟨k0, k1, k2, k3, k4, k5⟩ := HCE.out w6 S6.out
  have hbx : Below w6.heap.size w6 (w6.alloc (.cells #[.int .u32 (ee : Int)] 24)) := (Below.refl _ _).alloc (Nat.le_refl _) _
  have S7 := Lib.hid (S6.out.trans (hbx.mono S6.out.size))
  obtain ⟨j0, j1, j2, j3, j4, j5⟩ := HCE.out _ S7.out
  have HEX := Lib.hid (expN_at (w6.alloc (.cells #[.int .u32 (ee : Int)] 24)) A4 na c4 nc zl nn (numOf s) n w6.heap.size ee hee (rd_next HR5b.out (Nat.le_refl _) hbx) (rd_lone w6 ee) (HKN.out _ S7.out) HZL.out HNN.out HDS.out HDG.out (by omega) (by omega) HVN.out)
  have HR6b := Lib.hid (rd_next HR6.out (Nat.le_refl _) hbx)
  clear hbx HR5b HR6
  go_wp2_with fail
  refine HEX.out.mono ?_
  rintro e w8 ⟨A8, c8, r8, rfl, hn8, hf8, hb8⟩
  have S8 := Lib.hid (S7.out.trans (hb8.mono S7.out.size))
  have HN8 := Lib.hid hn8
  have HR8 := Lib.hid hf8.1
  have HR6c := Lib.hid (rd_next HR6b.out (Nat.le_refl _) hb8)
  obtain ⟨m8, hm8⟩ : ∃ m, r8.length = m := ⟨_, rfl⟩
  rw [hm8]
  have hfit : nb r8 ≤ 8 * sn := Nat.le_trans (nb_mono hn8 ⟨HDG.out, HNR.out, rfl⟩ (Nat.le_of_lt (Nat.mod_lt _ (by have := HVN.out; omega)))) HZ3.out
  obtain ⟨hfs, hout⟩ := out_fit (show sn ≤ 1024 by omega) hfit
  have hlen8 : r8.length ≤ 5000 := by
    have h1 := num_len' hn8 (k := 1000) (Nat.lt_of_lt_of_le (Nat.lt_trans (Nat.mod_lt _ (by have := HVN.out; omega)) (val_lt HDG.out)) (pw_mono (by rw [HNN.out]; omega)))
    omega
  have HBY := Lib.hid (bytes_all w8 _ A8 c8 m8 r8 HR8.out hm8 (Nat.le_refl _) hn8.1 hn8.2.1 hlen8 (sn : Int))
  rw [hfs, hout] at HBY
  have HFI := Lib.hid hfit
  clear k0 k1 k2 k3 k4 k5 j0 j1 j2 j3 j4 j5 hn8 hf8 hb8 hm8 hfs hout hlen8 hfit HEX HR6b
  go_wp2_with fail
  refine HBY.out.mono ?_
  rintro e w9 ⟨A9, c9, rfl, hf9, hb9⟩
  have S9 := Lib.hid (S8.out.trans (hb9.mono S8.out.size))
  have HR9 := Lib.hid hf9.1
  have HR6d := Lib.hid (rd_next HR6c.out (Nat.le_refl _) hb9)
  rw [bytesOf_length]
  have hfo := frameL_oct (n := sn) HO.out
  have hfl := frameL_length HDN.out (show 62 ≤ sn by omega)
  have hbo : ∀ x ∈ bytesOf r8 sn, x < 256 := fun x hx => by
    obtain ⟨i, _, rfl⟩ := List.mem_map.1 hx
    exact byteAt_lt _ _
  have hsame := bytes_same HN8.out hfo hfl (by omega) HFI.out
  obtain ⟨b, hb⟩ : ∃ b, b = decide (bytesOf r8 sn = frameL d sn) := ⟨_, rfl⟩
  have HEQ := Lib.hid (equalB w9 A9 A6 c9 c6 sn sn (bytesOf r8 sn) (frameL d sn) (bytesOf_length _ _) hfl HR9.out HR6d.out hbo hfo)
  rw [← hb] at HEQ
  have HE : Hid (r = b) := Lib.hid (by
    rw [HRV.out, ← HLT.out, hb]
    simp only [hsame]
    simp)
  clear hf9 hb9 hfo hfl hbo hsame hb HBY
  go_wp2_with fail
  refine HEQ.out.mono ?_
  rintro e w10 ⟨rfl, rfl⟩
  go_wp2_with fail
  go_ret
  exact ⟨by rw [HE.out]; rfl, HB.out.trans (S9.out.mono HB.out.size)⟩
end Go.Proofs.Ytebhpjbjfbadjaa
