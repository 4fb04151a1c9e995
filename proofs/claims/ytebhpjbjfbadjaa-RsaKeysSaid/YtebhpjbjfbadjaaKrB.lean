/-
  Signatures by RSA: what is well, plain; words for the walks. Signatures by RSA: by rsa. Signatures by RSA: by the document. A digest in its frame, both ways at once; known answers.
-/
import Derived.Test.YtebhpjbjfbadjaaKrA
import Derived.Test.YtebhpjbjfbadjaaKr3
import Derived.Test.YtebhpjbjfbadjaaAt2
import Derived.Test.YtebhpjbjfbadjaaPure4
import Derived.Test.YtebhpjbjfbadjaaModM
import Derived.Test.YtebhpjbjfbadjaaRefB
import Derived.Test.YtebhpjbjfbadjaaEqB
namespace Go.Proofs.Ytebhpjbjfbadjaa
open Go.RowKit
set_option linter.unusedVariables false
set_option linter.unusedSimpArgs false

theorem headL_oct : ∀ x ∈ headL, x < 256 := by decide
theorem frameL_oct {d : List Nat} {n : Nat} (hd : ∀ x ∈ d, x < 256) : ∀ x ∈ frameL d n, x < 256 := fun x hx => by
  unfold frameL at hx
  rcases List.mem_append.1 hx with h | h
  · rcases List.mem_append.1 h with h | h
    · rcases List.mem_cons.1 h with rfl | h
      · omega
      · rw [List.mem_singleton.1 h]; omega
    · rw [(List.mem_replicate.1 h).2]; omega
  · rcases List.mem_append.1 h with h | h
    · exact headL_oct x h
    · exact hd x h
/-- Whether bytes are a signature of a digest by a key. -/
def rsaVer (v : KV) (d s : List Nat) : Bool :=
  rsaOk v && decide (s.length = rsaSize v) && decide (val (numOf s) < val v.n) && decide (d.length = 32) && decide (val (numOf s) ^ v.e % val v.n = val (numOf (frameL d (rsaSize v))))
theorem rsaSize_bounds {v : KV} (h : rsaOk v = true) : 64 ≤ rsaSize v ∧ rsaSize v ≤ 512 ∧ nb v.n ≤ 8 * rsaSize v := by
  simp only [rsaOk, Bool.and_eq_true, decide_eq_true_eq] at h
  unfold rsaSize
  omega
theorem rsaOk_parts {v : KV} (h : rsaOk v = true) : okN v.n = true ∧ 3 ≤ v.e := by
  simp only [rsaOk, Bool.and_eq_true, decide_eq_true_eq] at h
  exact ⟨h.1.1.1.2, h.2.2⟩
/-- Of less digits of two, less of them. -/
theorem nb_mono {r n : List Nat} {m N : Nat} (hr : NumIs r m) (hn : NumIs n N) (h : m ≤ N) : nb r ≤ nb n := by
  rcases Nat.eq_zero_or_pos m with h0 | h0
  · have : r = [] := by
      have h1 := trl_none hr.1 (by rw [hr.2.2]; exact h0)
      rw [trl_id hr.2.1] at h1
      exact List.eq_nil_of_length_eq_zero h1
    rw [this]
    exact Nat.zero_le _
  · have b1 := nb_bounds hr (by omega)
    have b2 := nb_bounds hn (by omega)
    rcases Nat.lt_or_ge (nb n) (nb r) with h1 | h1
    · have : 2 ^ nb n ≤ 2 ^ (nb r - 1) := Nat.pow_le_pow_right (by omega) (by omega)
      omega
    · exact h1
/-- The bytes of a number are those just if the numbers are one. -/
theorem bytes_same {r b : List Nat} {m n : Nat} (hr : NumIs r m) (hb : ∀ x ∈ b, x < 256) (hn : b.length = n) (h1 : n ≤ 1024) (hf : nb r ≤ 8 * n) : (bytesOf r n = b) ↔ m = val (numOf b) := by
  have ho : Oct b.reverse := oct_rev hb
  have hnb : numOf b = trl (words b) := numOf_near (by omega)
  constructor
  · intro h
    have h2 := numOf_bytesOf hr.1 hr.2.1 hf h1
    rw [h] at h2
    rw [h2, hr.2.2]
  · intro h
    have h2 : r = numOf b := num_one hr ⟨numOf_dg ho, numOf_nrm b, h.symm⟩
    rw [h2, hnb, ← hn]
    exact words_back ho
theorem out_fit {r : List Nat} {n : Nat} (hn : n ≤ 1024) (hf : nb r ≤ 8 * n) : fits r (n : Int) = true ∧ out r (n : Int) = bytesOf r n := by
  have h : fits r (n : Int) = true := by
    unfold fits
    simp only [Bool.and_eq_true, decide_eq_true_eq]
    omega
  exact ⟨h, by unfold out; rw [if_pos h, Int.toNat_natCast]⟩
theorem ofN_at (w : World) (B : Nat) (A : Option Addr) (c n : Nat) (l : List Nat) (hr : Rd .u8 w B A c l) (hn : l.length = n) (hB : B ≤ w.heap.size) (ho : ∀ x ∈ l, x < 256) (z : Nat) (hz : (numOf l).length = z) :
    Calls Try.prog 25 #[.slice A n c] w fun e w' => ∃ A2 c2, e = .returned (.slice A2 z c2) ∧ Rd .u32 w' w'.heap.size A2 c2 (numOf l) ∧ Below w.heap.size w w' := by
  subst hn; subst hz
  exact (of_all w B A c l hr hB (oct_rev ho)).mono fun e w' ⟨A2, c2, h1, h2, h3⟩ => ⟨A2, c2, h1, h2.1, h3⟩
theorem ofN'_at (w : World) (B : Nat) (A : Option Addr) (c n : Nat) (l : List Nat) (hr : Rd .u8 w B A c l) (hn : l.length = n) (hB : B ≤ w.heap.size) (ho : ∀ x ∈ l, x < 256) (z : Nat) (hz : (numOf l).length = z) :
    Calls Try.prog 19 #[.slice A n c] w fun e w' => ∃ A2 c2, e = .returned (.slice A2 z c2) ∧ Rd .u32 w' w'.heap.size A2 c2 (numOf l) ∧ Below w.heap.size w w' := by
  subst hn; subst hz
  exact (of'_all w B A c l hr hB (oct_rev ho)).mono fun e w' ⟨A2, c2, h1, h2, h3⟩ => ⟨A2, c2, h1, h2.1, h3⟩
/-- Two numbers compared: whether the first is not below the second. -/
theorem cmpN_at (w : World) (A A' : Option Addr) (c c' n n' : Nat) (l l' : List Nat) (hr : Rd .u32 w w.heap.size A c l) (hr' : Rd .u32 w w.heap.size A' c' l') (hn : l.length = n) (hn' : l'.length = n') (hd : Dg l) (hd' : Dg l') (h1 : nrm l) (h1' : nrm l') (b : Bool) (hb : b = decide (val l < val l')) :
    Calls Try.prog 26 #[.slice A n c, .slice A' n' c'] w fun e w' => (∃ v : Int, e = .returned (.int .i64 v) ∧ decide ((0 : Int) ≤ v) = !b) ∧ Below w.heap.size w w' := by
  subst hn; subst hn'
  refine (cmp_any w _ _ A A' c c' l l' hr hr' _ rfl).mono ?_
  rintro e w' ⟨rfl, q, rfl⟩
  refine ⟨⟨_, rfl, ?_⟩, below_drewN' (Below.refl _ _) q⟩
  rw [trl_id h1, trl_id h1', cmpL_val hd hd' h1 h1', hb]
  by_cases h : val l < val l'
  · rw [if_pos h, decide_eq_true h]; rfl
  · rw [if_neg h, decide_eq_false h]
    split <;> rfl
theorem cmpN'_at (w : World) (A A' : Option Addr) (c c' n n' : Nat) (l l' : List Nat) (hr : Rd .u32 w w.heap.size A c l) (hr' : Rd .u32 w w.heap.size A' c' l') (hn : l.length = n) (hn' : l'.length = n') (hd : Dg l) (hd' : Dg l') (h1 : nrm l) (h1' : nrm l') (b : Bool) (hb : b = decide (val l < val l')) :
    Calls Try.prog 31 #[.slice A n c, .slice A' n' c'] w fun e w' => (∃ v : Int, e = .returned (.int .i64 v) ∧ decide ((0 : Int) ≤ v) = !b) ∧ Below w.heap.size w w' := by
  subst hn; subst hn'
  refine (cmp'_any w _ _ A A' c c' l l' hr hr' _ rfl).mono ?_
  rintro e w' ⟨rfl, q, rfl⟩
  refine ⟨⟨_, rfl, ?_⟩, below_drewN' (Below.refl _ _) q⟩
  rw [cmpL_val hd hd' h1 h1', hb]
  by_cases h : val l < val l'
  · rw [if_pos h, decide_eq_true h]; rfl
  · rw [if_neg h, decide_eq_false h]
    split <;> rfl
/-- A row of one digit. -/
theorem rd_lone (w : World) (x : Nat) : Rd .u32 (w.alloc (.cells #[.int .u32 (x : Int)] 24)) (w.alloc (.cells #[.int .u32 (x : Int)] 24)).heap.size (some ⟨w.heap.size, 0, none⟩) 1 [x] := by
  have h : Row .u32 24 (w.alloc (.cells #[.int .u32 (x : Int)] 24)) w.heap.size [x] := Holds.fresh w _ _
  exact (rd_whole h (by simp) (by omega)).more (Holds.lt h)
theorem dg_lone {x : Nat} (h : x < 4294967296) : Dg [x] := fun y hy => by rw [List.mem_singleton.1 hy]; exact h
theorem val_lone (x : Nat) : val [x] = x := by simp [val]
/-- A power. -/
theorem expN_at (w : World) (A A'' : Option Addr) (c c'' n n'' : Nat) (l l'' : List Nat) (g ee : Nat) (he : ee < 4294967296) (hr : Rd .u32 w w.heap.size A c l) (hr' : Rd .u32 w w.heap.size (some ⟨g, 0, none⟩) 1 [ee]) (hr'' : Rd .u32 w w.heap.size A'' c'' l'') (hn : l.length = n) (hn'' : l''.length = n'') (hd : Dg l) (hd'' : Dg l'') (hs : n ≤ 1000) (hs'' : n'' ≤ 1000) (h0 : val l'' ≠ 0) :
    Calls Try.prog 27 #[.slice A n c, .slice (some ⟨g, 0, none⟩) 1 1, .slice A'' n'' c''] w (Left w (val l ^ ee % val l'')) := by
  subst hn; subst hn''
  have := exp_yes w A (some ⟨g, 0, none⟩) A'' c 1 c'' l [ee] l'' hr hr' hr'' hd (dg_lone he) hd'' hs (by simp) hs'' h0
  rw [val_lone] at this
  exact this
theorem nrm_lone {x : Nat} (h : x ≠ 0) : nrm [x] := .inr (by simpa using h)
theorem expN'_at (w : World) (A A'' : Option Addr) (c c'' n n'' : Nat) (l l'' : List Nat) (g ee : Nat) (he : ee < 4294967296) (he0 : ee ≠ 0) (hr : Rd .u32 w w.heap.size A c l) (hr' : Rd .u32 w w.heap.size (some ⟨g, 0, none⟩) 1 [ee]) (hr'' : Rd .u32 w w.heap.size A'' c'' l'') (hn : l.length = n) (hn'' : l''.length = n'') (hd : Dg l) (hd'' : Dg l'') (h1 : nrm l) (h1'' : nrm l'') (hs : n ≤ 1000) (hs'' : n'' ≤ 1000) (h0 : val l'' ≠ 0) :
    Calls Try.prog 32 #[.slice A n c, .slice (some ⟨g, 0, none⟩) 1 1, .slice A'' n'' c''] w (LeftR w (val l ^ ee % val l'')) := by
  subst hn; subst hn''
  have := exp8_yes w A (some ⟨g, 0, none⟩) A'' c 1 c'' l [ee] l'' hr hr' hr'' hd (dg_lone he) hd'' hs (by simp) hs'' h0 h1 (nrm_lone he0) h1''
  rw [val_lone] at this
  exact this
end Go.Proofs.Ytebhpjbjfbadjaa
namespace Go.Proofs.Ytebhpjbjfbadjaa
open Go.RowKit
set_option linter.unusedVariables false
set_option linter.unusedSimpArgs false

set_option maxRecDepth 100000 in
set_option maxHeartbeats 8000000 in
theorem rsaVerify_any (w : World) (k : Ky) (h : KyP k w) (hs : k.n.length ≤ 1000) (hxy : k.x.length ≤ 100000 ∧ k.y.length ≤ 100000) (A2 : Option Addr) (c2 dn : Nat) (d : List Nat) (hd : Rd .u8 w w.heap.size A2 c2 d) (hdn : d.length = dn) (ho : ∀ x ∈ d, x < 256)
    (A3 : Option Addr) (c3 sn : Nat) (s : List Nat) (hsg : Rd .u8 w w.heap.size A3 c3 s) (hsn : s.length = sn) (ho3 : ∀ x ∈ s, x < 256) :
    Calls Try.prog 11 #[.agg (kycell k).toArray, .slice A2 dn c2, .slice A3 sn c3] w fun e w' => e = .returned (.bool (rsaVer k.v d s)) ∧ Below w.heap.size w w' := by
  obtain ⟨r, HR⟩ : ∃ r, Hid (r = rsaVer k.v d s) := ⟨_, rfl⟩
  rw [← HR.out]
  have hoc := Off.of_ky h
  have hod := Off.of_rd hd (Nat.le_refl _)
  have hos := Off.of_rd hsg (Nat.le_refl _)
  have hq0 : Below w.heap.size w (w.alloc (.cells (kycell k).toArray 28)) := (Below.refl _ _).alloc (Nat.le_refl _) _
  have hH0 := Holds.fresh w 28 (kycell k).toArray
  obtain ⟨ok, hok⟩ : ∃ ok, rsaOk k.v = ok := ⟨_, rfl⟩
  obtain ⟨sz, hsz⟩ : ∃ z, rsaSize k.v = z := ⟨_, rfl⟩
  obtain ⟨w1, hw1⟩ : ∃ W, W = w.alloc (.cells (kycell k).toArray 28) := ⟨_, rfl⟩
  rw [← hw1] at hq0 hH0
  have HIS : Hid (∀ W, Below w1.heap.size w1 W → Calls Try.prog 9 #[.agg (kycell k).toArray] W fun e w' => e = .returned (.bool ok) ∧ Below W.heap.size W w') := Lib.hid fun W hW => by
    have := rsaIs_any W k ((hoc.under hq0).under hW).at_ (by omega)
    rw [hok] at this
    exact this
  have HRV : Hid (r = (ok && decide (sn = sz) && decide (val (numOf s) < val k.n) && decide (dn = 32) && decide (val (numOf s) ^ k.e % val k.n = val (numOf (frameL d sz))))) := Lib.hid (by
    rw [HR.out]
    unfold rsaVer
    rw [hok, hsz, hsn, hdn]
    rfl)
  have HOKP : Hid (ok = true → okN k.n = true ∧ 3 ≤ k.e ∧ 64 ≤ sz ∧ sz ≤ 512 ∧ nb k.n ≤ 8 * sz) := Lib.hid fun e => by
    rw [e] at hok
    have h1 := rsaOk_parts hok
    have h2 := rsaSize_bounds hok
    rw [hsz] at h2
    exact ⟨h1.1, h1.2, h2.1, h2.2.1, h2.2.2⟩
  have HSZ : Hid ((nb k.n + 7) / 8 = sz) := Lib.hid hsz
  clear HR hok
  have hNB := nb_lt k.n h.2.1
  have HKN : Hid (∀ W, Below w1.heap.size w1 W → Rd .u32 W W.heap.size k.na k.nc k.n) := Lib.hid fun W hW => ((hoc.under hq0).under hW).at_.1
  have hdgn := h.2.1
  have hee := h.2.2.2.2.2.2
  have HDD : Hid (∀ W, Below w1.heap.size w1 W → Rd .u8 W W.heap.size A2 c2 d) := Lib.hid fun W hW => ((hod.under hq0).under hW).at_
  have HSS : Hid (∀ W, Below w1.heap.size w1 W → Rd .u8 W W.heap.size A3 c3 s) := Lib.hid fun W hW => ((hos.under hq0).under hW).at_
  have HB := Lib.hid hq0
  have HW := Lib.hid hw1
  obtain ⟨alg, na, nc, n, ee, xa, xc, x, ya, yc, y, inf⟩ := k
  simp only [kycell] at hH0 HIS HW ⊢
  dsimp only at hs hxy HRV HOKP HSZ hNB HKN hdgn hee
  obtain ⟨nn, hnn⟩ : ∃ k, n.length = k := ⟨_, rfl⟩
  obtain ⟨xn, hxn⟩ : ∃ k, x.length = k := ⟨_, rfl⟩
  obtain ⟨yn, hyn⟩ : ∃ k, y.length = k := ⟨_, rfl⟩
  obtain ⟨zl, hzl⟩ : ∃ z, (numOf s).length = z := ⟨_, rfl⟩
  rw [hnn] at hs hNB
  rw [hnn, hxn, hyn] at hH0 HIS HW ⊢
  have HCE : Hid (∀ W, Below w1.heap.size w1 W → W.cell? ⟨w.heap.size, 0, none⟩ = some (.int .i64 alg) ∧ W.cell? ⟨w.heap.size, 1, none⟩ = some (.slice na nn nc) ∧ W.cell? ⟨w.heap.size, 2, none⟩ = some (.int .u32 (ee : Int)) ∧ W.cell? ⟨w.heap.size, 3, none⟩ = some (.slice xa xn xc) ∧ W.cell? ⟨w.heap.size, 4, none⟩ = some (.slice ya yn yc) ∧ W.cell? ⟨w.heap.size, 5, none⟩ = some (.bool inf)) := Lib.hid fun W hW => by
    have h := hH0.under hW hH0.lt
    exact ⟨h.cell 0, h.cell 1, h.cell 2, h.cell 3, h.cell 4, h.cell 5⟩
  have HNN := Lib.hid hnn
  have HDN := Lib.hid hdn
  have HSN := Lib.hid hsn
  have HZL := Lib.hid hzl
  have hz256 : zl ≤ 256 := by rw [← hzl]; exact numOf_length s
  have HO := Lib.hid ho
  have HO3 := Lib.hid ho3
  have HDG := Lib.hid hdgn
  have c0 := hH0.cell 0
  have c1 := hH0.cell 1
  have c2' := hH0.cell 2
  have c3' := hH0.cell 3
  have c4 := hH0.cell 4
  have c5 := hH0.cell 5
  rw [HW.out] at c0 c1 c2' c3' c4 c5
  clear h hoc hod hos hq0 hH0 hw1 hd hdn ho hsg hsn ho3 hxn hyn hnn hzl hsz hdgn hxy
  go_enter Try.func11, Try.ntmps11
  go_wp2_with fail
  rw [← HW.out]
  refine (HIS.out w1 (Below.refl _ _)).mono ?_
  rintro e w2 ⟨rfl, hb2⟩
  have S2 := Lib.hid hb2
  obtain ⟨k0, k1, k2, k3, k4, k5⟩ := HCE.out w2 hb2
  clear c0 c1 c2' c3' c4 c5 hb2
  cases ok with
  | false =>
    have HE : Hid (r = false) := Lib.hid (by rw [HRV.out]; rfl)
    go_wp2_with fail
    go_ret
    exact ⟨by rw [HE.out]; rfl, HB.out.trans (S2.out.mono HB.out.size)⟩
  | true =>
  obtain ⟨hokn, he3, hsz1, hsz2, hsz3⟩ := HOKP.out rfl
  have hnrm := (okN_nrm hokn).2
  have HOKN := Lib.hid hokn
  have HNR := Lib.hid hnrm
  have HZ3 := Lib.hid hsz3
  obtain ⟨q, hq⟩ : ∃ q, nb n = q := ⟨_, rfl⟩
  have hq6 : q ≤ 32000 := by omega
  have hqz : ((q : Int) + 7) / 8 = (sz : Int) := by have := HSZ.out; rw [hq] at this; omega
  have HQ := Lib.hid hq
  clear hokn hnrm hsz3 hq HOKP hNB
  have HBI := Lib.hid (bits_any w2 _ na nc nn n (HKN.out w2 S2.out) HNN.out HDG.out (by rw [HNN.out]; omega) q (by rw [trl_id HNR.out]; exact HQ.out))
  go_wp2_with fail
  refine HBI.out.mono ?_
  rintro e w3 ⟨rfl, rfl⟩
  clear HBI
  by_cases hsn : sn = sz
  case neg =>
    have HE : Hid (r = false) := Lib.hid (by rw [HRV.out, decide_eq_false hsn]; rfl)
    have t1 : ((sn : Int) != (sz : Int)) = true := by simp; omega
    have t1' : decide (sn = sz) = false := decide_eq_false hsn
    clear hsn
    go_wp2_with fail
    go_ret
    exact ⟨by rw [HE.out]; rfl, HB.out.trans (S2.out.mono HB.out.size)⟩
  subst hsn
  have HOF := Lib.hid (ofN_at w2 _ A3 c3 sn s (HSS.out w2 S2.out) HSN.out (Nat.le_refl _) HO3.out zl HZL.out)
  go_wp2_with fail
  refine HOF.out.mono ?_
  rintro e w4 ⟨A4, c4, rfl, hr4, hb4⟩
  have S4 := Lib.hid (S2.out.trans (hb4.mono S2.out.size))
  have HR4 := Lib.hid hr4
  clear k0 k1 k2 k3 k4 k5 hb4 hr4 HOF
  obtain ⟨k0, k1, k2, k3, k4, k5⟩ := HCE.out w4 S4.out
  have hdS : Dg (numOf s) := numOf_dg (oct_rev HO3.out)
  obtain ⟨lt, hlt⟩ : ∃ b, b = decide (val (numOf s) < val n) := ⟨_, rfl⟩
  have HCM := Lib.hid (cmpN_at w4 A4 na c4 nc zl nn (numOf s) n HR4.out (HKN.out w4 S4.out) HZL.out HNN.out hdS HDG.out (numOf_nrm s) HNR.out lt hlt)
  have HLT := Lib.hid hlt
  have HDS := Lib.hid hdS
  clear hlt hdS
  go_wp2_with fail
  refine HCM.out.mono ?_
  rintro e w5 ⟨⟨v5, rfl, hv5⟩, hb5⟩
  have S5 := Lib.hid (S4.out.trans (hb5.mono S4.out.size))
  have HR5 := Lib.hid (rd_next HR4.out (Nat.le_refl _) hb5)
  clear k0 k1 k2 k3 k4 k5 hb5 HCM HR4
  obtain ⟨k0, k1, k2, k3, k4, k5⟩ := HCE.out w5 S5.out
  cases lt with
  | false =>
    have HE : Hid (r = false) := Lib.hid (by rw [HRV.out, ← HLT.out]; simp)
    rw [Bool.not_false] at hv5
    go_wp2_with fail
    go_ret
    exact ⟨by rw [HE.out]; rfl, HB.out.trans (S5.out.mono HB.out.size)⟩
  | true =>
  rw [Bool.not_true] at hv5
  by_cases hdn : dn = 32
  case neg =>
    have HE : Hid (r = false) := Lib.hid (by rw [HRV.out, decide_eq_false hdn]; simp)
    have HFR := Lib.hid (frame_no w5 A2 c2 dn (sn : Int) (.inl hdn))
    clear hdn
    go_wp2_with fail
    refine HFR.out.mono ?_
    rintro e w6 ⟨rfl, rfl⟩
    go_wp2_with fail
    go_ret
    exact ⟨by rw [HE.out]; rfl, HB.out.trans (S5.out.mono HB.out.size)⟩
  subst hdn
  have HFR := Lib.hid (frame_yes w5 _ A2 c2 d sn HDN.out (HDD.out w5 S5.out) (Nat.le_refl _) (by omega) (by omega))
  go_wp2_with fail
  refine HFR.out.mono ?_
  rintro e w6 ⟨A6, c6, rfl, hr6, hb6⟩
  have S6 := Lib.hid (S5.out.trans (hb6.mono S5.out.size))
  have HR5b := Lib.hid (rd_next HR5.out (Nat.le_refl _) hb6)
  have HR6 := Lib.hid hr6
  have hvn : val n ≠ 0 := by have h : val (numOf s) < val n := of_decide_eq_true HLT.out.symm; omega
  have HVN := Lib.hid hvn
  clear k0 k1 k2 k3 k4 k5 hb6 hr6 HFR hv5 hvn HR5
  obtain ⟨k0, k1, k2, k3, k4, k5⟩ := HCE.out w6 S6.out
  have hbx : Below w6.heap.size w6 (w6.alloc (.cells #[.int .u32 (ee : Int)] 24)) := (Below.refl _ _).alloc (Nat.le_refl _) _
  have S7 := Lib.hid (S6.out.trans (hbx.mono S6.out.size))
  obtain ⟨j0, j1, j2, j3, j4, j5⟩ := HCE.out _ S7.out
  have HEX := Lib.hid (expN_at (w6.alloc (.cells #[.int .u32 (ee : Int)] 24)) A4 na c4 nc zl nn (numOf s) n w6.heap.size ee hee (rd_next HR5b.out (Nat.le_refl _) hbx) (rd_lone w6 ee) (HKN.out _ S7.out) HZL.out HNN.out HDS.out HDG.out (by omega) (by omega) HVN.out)
  have HR6b := Lib.hid (rd_next HR6.out (Nat.le_refl _) hbx)
  clear hbx HR5b HR6
  go_wp2_with fail
  refine HEX.out.mono ?_
  rintro e w8 ⟨A8, c8, r8, rfl, hn8, hf8, hb8⟩
  have S8 := Lib.hid (S7.out.trans (hb8.mono S7.out.size))
  have HN8 := Lib.hid hn8
  have HR8 := Lib.hid hf8.1
  have HR6c := Lib.hid (rd_next HR6b.out (Nat.le_refl _) hb8)
  obtain ⟨m8, hm8⟩ : ∃ m, r8.length = m := ⟨_, rfl⟩
  rw [hm8]
  have hfit : nb r8 ≤ 8 * sn := Nat.le_trans (nb_mono hn8 ⟨HDG.out, HNR.out, rfl⟩ (Nat.le_of_lt (Nat.mod_lt _ (by have := HVN.out; omega)))) HZ3.out
  obtain ⟨hfs, hout⟩ := out_fit (show sn ≤ 1024 by omega) hfit
  have hlen8 : r8.length ≤ 5000 := by
    have h1 := num_len' hn8 (k := 1000) (Nat.lt_of_lt_of_le (Nat.lt_trans (Nat.mod_lt _ (by have := HVN.out; omega)) (val_lt HDG.out)) (pw_mono (by rw [HNN.out]; omega)))
    omega
  have HBY := Lib.hid (bytes_all w8 _ A8 c8 m8 r8 HR8.out hm8 (Nat.le_refl _) hn8.1 hn8.2.1 hlen8 (sn : Int))
  rw [hfs, hout] at HBY
  have HFI := Lib.hid hfit
  clear k0 k1 k2 k3 k4 k5 j0 j1 j2 j3 j4 j5 hn8 hf8 hb8 hm8 hfs hout hlen8 hfit HEX HR6b
  go_wp2_with fail
  refine HBY.out.mono ?_
  rintro e w9 ⟨A9, c9, rfl, hf9, hb9⟩
  have S9 := Lib.hid (S8.out.trans (hb9.mono S8.out.size))
  have HR9 := Lib.hid hf9.1
  have HR6d := Lib.hid (rd_next HR6c.out (Nat.le_refl _) hb9)
  rw [bytesOf_length]
  have hfo := frameL_oct (n := sn) HO.out
  have hfl := frameL_length HDN.out (show 62 ≤ sn by omega)
  have hbo : ∀ x ∈ bytesOf r8 sn, x < 256 := fun x hx => by
    obtain ⟨i, _, rfl⟩ := List.mem_map.1 hx
    exact byteAt_lt _ _
  have hsame := bytes_same HN8.out hfo hfl (by omega) HFI.out
  obtain ⟨b, hb⟩ : ∃ b, b = decide (bytesOf r8 sn = frameL d sn) := ⟨_, rfl⟩
  have HEQ := Lib.hid (equalB w9 A9 A6 c9 c6 sn sn (bytesOf r8 sn) (frameL d sn) (bytesOf_length _ _) hfl HR9.out HR6d.out hbo hfo)
  rw [← hb] at HEQ
  have HE : Hid (r = b) := Lib.hid (by
    rw [HRV.out, ← HLT.out, hb]
    simp only [hsame]
    simp)
  clear hf9 hb9 hfo hfl hbo hsame hb HBY
  go_wp2_with fail
  refine HEQ.out.mono ?_
  rintro e w10 ⟨rfl, rfl⟩
  go_wp2_with fail
  go_ret
  exact ⟨by rw [HE.out]; rfl, HB.out.trans (S9.out.mono HB.out.size)⟩
end Go.Proofs.Ytebhpjbjfbadjaa
namespace Go.Proofs.Ytebhpjbjfbadjaa
open Go.RowKit
set_option linter.unusedVariables false
set_option linter.unusedSimpArgs false

set_option maxRecDepth 100000 in
set_option maxHeartbeats 8000000 in
theorem rsaVerify'_any (w : World) (k : Ky) (h : KyP k w) (hs : k.n.length ≤ 1000) (hxy : k.x.length ≤ 100000 ∧ k.y.length ≤ 100000) (A2 : Option Addr) (c2 dn : Nat) (d : List Nat) (hd : Rd .u8 w w.heap.size A2 c2 d) (hdn : d.length = dn) (ho : ∀ x ∈ d, x < 256)
    (A3 : Option Addr) (c3 sn : Nat) (s : List Nat) (hsg : Rd .u8 w w.heap.size A3 c3 s) (hsn : s.length = sn) (ho3 : ∀ x ∈ s, x < 256) :
    Calls Try.prog 12 #[.agg (kycell k).toArray, .slice A2 dn c2, .slice A3 sn c3] w fun e w' => e = .returned (.bool (rsaVer k.v d s)) ∧ Below w.heap.size w w' := by
  obtain ⟨r, HR⟩ : ∃ r, Hid (r = rsaVer k.v d s) := ⟨_, rfl⟩
  rw [← HR.out]
  have hoc := Off.of_ky h
  have hod := Off.of_rd hd (Nat.le_refl _)
  have hos := Off.of_rd hsg (Nat.le_refl _)
  have hq0 : Below w.heap.size w (w.alloc (.cells (kycell k).toArray 28)) := (Below.refl _ _).alloc (Nat.le_refl _) _
  have hH0 := Holds.fresh w 28 (kycell k).toArray
  obtain ⟨ok, hok⟩ : ∃ ok, rsaOk k.v = ok := ⟨_, rfl⟩
  obtain ⟨sz, hsz⟩ : ∃ z, rsaSize k.v = z := ⟨_, rfl⟩
  obtain ⟨w1, hw1⟩ : ∃ W, W = w.alloc (.cells (kycell k).toArray 28) := ⟨_, rfl⟩
  rw [← hw1] at hq0 hH0
  have HIS : Hid (∀ W, Below w1.heap.size w1 W → Calls Try.prog 10 #[.agg (kycell k).toArray] W fun e w' => e = .returned (.bool ok) ∧ Below W.heap.size W w') := Lib.hid fun W hW => by
    have := rsaIs'_any W k ((hoc.under hq0).under hW).at_ (by omega) hxy
    rw [hok] at this
    exact this
  have HSI : Hid (∀ W, Below w1.heap.size w1 W → Calls Try.prog 30 #[.agg (kycell k).toArray] W fun e w' => e = .returned (.int .i64 (sz : Int)) ∧ Below W.heap.size W w') := Lib.hid fun W hW => by
    have := rsaSize'_any W k ((hoc.under hq0).under hW).at_ (by omega)
    rw [hsz] at this
    exact this
  have HRV : Hid (r = (ok && decide (sn = sz) && decide (val (numOf s) < val k.n) && decide (dn = 32) && decide (val (numOf s) ^ k.e % val k.n = val (numOf (frameL d sz))))) := Lib.hid (by
    rw [HR.out]
    unfold rsaVer
    rw [hok, hsz, hsn, hdn]
    rfl)
  have HOKP : Hid (ok = true → okN k.n = true ∧ 3 ≤ k.e ∧ 64 ≤ sz ∧ sz ≤ 512 ∧ nb k.n ≤ 8 * sz) := Lib.hid fun e => by
    rw [e] at hok
    have h1 := rsaOk_parts hok
    have h2 := rsaSize_bounds hok
    rw [hsz] at h2
    exact ⟨h1.1, h1.2, h2.1, h2.2.1, h2.2.2⟩
  have HSZ : Hid ((nb k.n + 7) / 8 = sz) := Lib.hid hsz
  clear HR hok
  have hNB := nb_lt k.n h.2.1
  have HKN : Hid (∀ W, Below w1.heap.size w1 W → Rd .u32 W W.heap.size k.na k.nc k.n) := Lib.hid fun W hW => ((hoc.under hq0).under hW).at_.1
  have hdgn := h.2.1
  have hee := h.2.2.2.2.2.2
  have HDD : Hid (∀ W, Below w1.heap.size w1 W → Rd .u8 W W.heap.size A2 c2 d) := Lib.hid fun W hW => ((hod.under hq0).under hW).at_
  have HSS : Hid (∀ W, Below w1.heap.size w1 W → Rd .u8 W W.heap.size A3 c3 s) := Lib.hid fun W hW => ((hos.under hq0).under hW).at_
  have HB := Lib.hid hq0
  have HW := Lib.hid hw1
  obtain ⟨alg, na, nc, n, ee, xa, xc, x, ya, yc, y, inf⟩ := k
  simp only [kycell] at hH0 HIS HW HSI ⊢
  dsimp only at hs hxy HRV HOKP HSZ hNB HKN hdgn hee
  obtain ⟨nn, hnn⟩ : ∃ k, n.length = k := ⟨_, rfl⟩
  obtain ⟨xn, hxn⟩ : ∃ k, x.length = k := ⟨_, rfl⟩
  obtain ⟨yn, hyn⟩ : ∃ k, y.length = k := ⟨_, rfl⟩
  obtain ⟨zl, hzl⟩ : ∃ z, (numOf s).length = z := ⟨_, rfl⟩
  rw [hnn] at hs hNB
  rw [hnn, hxn, hyn] at hH0 HIS HW HSI ⊢
  have HCE : Hid (∀ W, Below w1.heap.size w1 W → W.cell? ⟨w.heap.size, 0, none⟩ = some (.int .i64 alg) ∧ W.cell? ⟨w.heap.size, 1, none⟩ = some (.slice na nn nc) ∧ W.cell? ⟨w.heap.size, 2, none⟩ = some (.int .u32 (ee : Int)) ∧ W.cell? ⟨w.heap.size, 3, none⟩ = some (.slice xa xn xc) ∧ W.cell? ⟨w.heap.size, 4, none⟩ = some (.slice ya yn yc) ∧ W.cell? ⟨w.heap.size, 5, none⟩ = some (.bool inf)) := Lib.hid fun W hW => by
    have h := hH0.under hW hH0.lt
    exact ⟨h.cell 0, h.cell 1, h.cell 2, h.cell 3, h.cell 4, h.cell 5⟩
  have HNN := Lib.hid hnn
  have HDN := Lib.hid hdn
  have HSN := Lib.hid hsn
  have HZL := Lib.hid hzl
  have hz256 : zl ≤ 256 := by rw [← hzl]; exact numOf_length s
  have HO := Lib.hid ho
  have HO3 := Lib.hid ho3
  have HDG := Lib.hid hdgn
  have c0 := hH0.cell 0
  have c1 := hH0.cell 1
  have c2' := hH0.cell 2
  have c3' := hH0.cell 3
  have c4 := hH0.cell 4
  have c5 := hH0.cell 5
  rw [HW.out] at c0 c1 c2' c3' c4 c5
  clear h hoc hod hos hq0 hH0 hw1 hd hdn ho hsg hsn ho3 hxn hyn hnn hzl hsz hdgn hxy
  go_enter Try.func12, Try.ntmps12
  go_wp2_with fail
  rw [← HW.out]
  refine (HIS.out w1 (Below.refl _ _)).mono ?_
  rintro e w2 ⟨rfl, hb2⟩
  have S2 := Lib.hid hb2
  obtain ⟨k0, k1, k2, k3, k4, k5⟩ := HCE.out w2 hb2
  clear c0 c1 c2' c3' c4 c5 hb2
  cases ok with
  | false =>
    have HE : Hid (r = false) := Lib.hid (by rw [HRV.out]; rfl)
    go_wp2_with fail
    go_ret
    exact ⟨by rw [HE.out]; rfl, HB.out.trans (S2.out.mono HB.out.size)⟩
  | true =>
  obtain ⟨hokn, he3, hsz1, hsz2, hsz3⟩ := HOKP.out rfl
  have hnrm := (okN_nrm hokn).2
  have HOKN := Lib.hid hokn
  have HNR := Lib.hid hnrm
  have HZ3 := Lib.hid hsz3
  obtain ⟨q, hq⟩ : ∃ q, nb n = q := ⟨_, rfl⟩
  have hq6 : q ≤ 32000 := by omega
  have hqz : ((q : Int) + 7) / 8 = (sz : Int) := by have := HSZ.out; rw [hq] at this; omega
  have HQ := Lib.hid hq
  clear hokn hnrm hsz3 hq HOKP hNB
  by_cases hsn : sn = sz
  case neg =>
    have HE : Hid (r = false) := Lib.hid (by rw [HRV.out, decide_eq_false hsn]; rfl)
    have t1 : ((sn : Int) != (sz : Int)) = true := by simp; omega
    have t1' : decide (sn = sz) = false := decide_eq_false hsn
    clear hsn
    go_wp2_with fail
    refine (HSI.out w2 S2.out).mono ?_
    rintro e w3 ⟨rfl, hb3⟩
    have S3 := Lib.hid (S2.out.trans (hb3.mono S2.out.size))
    clear hb3
    go_wp2_with fail
    go_ret
    exact ⟨by rw [HE.out]; rfl, HB.out.trans (S3.out.mono HB.out.size)⟩
  subst hsn
  go_wp2_with fail
  refine (HSI.out w2 S2.out).mono ?_
  rintro e w3 ⟨rfl, hb3⟩
  have S3 := Lib.hid (S2.out.trans (hb3.mono S2.out.size))
  clear k0 k1 k2 k3 k4 k5 hb3
  obtain ⟨k0, k1, k2, k3, k4, k5⟩ := HCE.out w3 S3.out
  have HOF := Lib.hid (ofN'_at w3 _ A3 c3 sn s (HSS.out w3 S3.out) HSN.out (Nat.le_refl _) HO3.out zl HZL.out)
  go_wp2_with fail
  refine HOF.out.mono ?_
  rintro e w4 ⟨A4, c4, rfl, hr4, hb4⟩
  have S4 := Lib.hid (S3.out.trans (hb4.mono S3.out.size))
  have HR4 := Lib.hid hr4
  clear k0 k1 k2 k3 k4 k5 hb4 hr4 HOF
  obtain ⟨k0, k1, k2, k3, k4, k5⟩ := HCE.out w4 S4.out
  have hdS : Dg (numOf s) := numOf_dg (oct_rev HO3.out)
  obtain ⟨lt, hlt⟩ : ∃ b, b = decide (val (numOf s) < val n) := ⟨_, rfl⟩
  have HLT := Lib.hid hlt
  have HDS := Lib.hid hdS
  clear hdS
  by_cases hdn : dn = 32
  case neg =>
    have HE : Hid (r = false) := Lib.hid (by rw [HRV.out, decide_eq_false hdn]; simp)
    have HFR := Lib.hid (frame9_no w4 A2 c2 dn (sn : Int) (.inl hdn))
    clear hdn hlt
    go_wp2_with fail
    refine HFR.out.mono ?_
    rintro e w6 ⟨rfl, rfl⟩
    go_wp2_with fail
    go_ret
    exact ⟨by rw [HE.out]; rfl, HB.out.trans (S4.out.mono HB.out.size)⟩
  subst hdn
  have HFR := Lib.hid (frame9_yes w4 _ A2 c2 d sn HDN.out (HDD.out w4 S4.out) (Nat.le_refl _) (by omega) (by omega))
  go_wp2_with fail
  refine HFR.out.mono ?_
  rintro e w5 ⟨A6, c6, rfl, hr6, hb5⟩
  have S5 := Lib.hid (S4.out.trans (hb5.mono S4.out.size))
  have HR5 := Lib.hid (rd_next HR4.out (Nat.le_refl _) hb5)
  have HR6 := Lib.hid hr6
  clear k0 k1 k2 k3 k4 k5 hb5 hr6 HFR HR4
  obtain ⟨k0, k1, k2, k3, k4, k5⟩ := HCE.out w5 S5.out
  have HCM := Lib.hid (cmpN'_at w5 A4 na c4 nc zl nn (numOf s) n HR5.out (HKN.out w5 S5.out) HZL.out HNN.out HDS.out HDG.out (numOf_nrm s) HNR.out lt hlt)
  clear hlt
  go_wp2_with fail
  refine HCM.out.mono ?_
  rintro e w6 ⟨⟨v5, rfl, hv5⟩, hb6⟩
  have S6 := Lib.hid (S5.out.trans (hb6.mono S5.out.size))
  have HR5b := Lib.hid (rd_next HR5.out (Nat.le_refl _) hb6)
  have HR6a := Lib.hid (rd_next HR6.out (Nat.le_refl _) hb6)
  clear k0 k1 k2 k3 k4 k5 hb6 HCM HR5 HR6
  obtain ⟨k0, k1, k2, k3, k4, k5⟩ := HCE.out w6 S6.out
  cases lt with
  | false =>
    have HE : Hid (r = false) := Lib.hid (by rw [HRV.out, ← HLT.out]; simp)
    rw [Bool.not_false] at hv5
    go_wp2_with fail
    go_ret
    exact ⟨by rw [HE.out]; rfl, HB.out.trans (S6.out.mono HB.out.size)⟩
  | true =>
  rw [Bool.not_true] at hv5
  have hvn : val n ≠ 0 := by have h : val (numOf s) < val n := of_decide_eq_true HLT.out.symm; omega
  have HVN := Lib.hid hvn
  have hbx : Below w6.heap.size w6 (w6.alloc (.cells #[.int .u32 (ee : Int)] 24)) := (Below.refl _ _).alloc (Nat.le_refl _) _
  have S7 := Lib.hid (S6.out.trans (hbx.mono S6.out.size))
  obtain ⟨j0, j1, j2, j3, j4, j5⟩ := HCE.out _ S7.out
  have HEX := Lib.hid (expN'_at (w6.alloc (.cells #[.int .u32 (ee : Int)] 24)) A4 na c4 nc zl nn (numOf s) n w6.heap.size ee hee (by omega) (rd_next HR5b.out (Nat.le_refl _) hbx) (rd_lone w6 ee) (HKN.out _ S7.out) HZL.out HNN.out HDS.out HDG.out (numOf_nrm s) HNR.out (by omega) (by omega) HVN.out)
  have HR6b := Lib.hid (rd_next HR6a.out (Nat.le_refl _) hbx)
  clear hbx HR5b HR6a hvn
  go_wp2_with fail
  refine HEX.out.mono ?_
  rintro e w8 ⟨A8, c8, r8, rfl, hn8, hf8, hb8⟩
  have S8 := Lib.hid (S7.out.trans (hb8.mono S7.out.size))
  have HN8 := Lib.hid hn8
  have HR8 := Lib.hid hf8
  have HR6c := Lib.hid (rd_next HR6b.out (Nat.le_refl _) hb8)
  obtain ⟨m8, hm8⟩ : ∃ m, r8.length = m := ⟨_, rfl⟩
  rw [hm8]
  have hfit : nb r8 ≤ 8 * sn := Nat.le_trans (nb_mono hn8 ⟨HDG.out, HNR.out, rfl⟩ (Nat.le_of_lt (Nat.mod_lt _ (by have := HVN.out; omega)))) HZ3.out
  obtain ⟨hfs, hout⟩ := out_fit (show sn ≤ 1024 by omega) hfit
  have hlen8 : r8.length ≤ 5000 := by
    have h1 := num_len' hn8 (k := 1000) (Nat.lt_of_lt_of_le (Nat.lt_trans (Nat.mod_lt _ (by have := HVN.out; omega)) (val_lt HDG.out)) (pw_mono (by rw [HNN.out]; omega)))
    omega
  have HBY := Lib.hid (bytes'_all w8 _ A8 c8 r8 HR8.out (Nat.le_refl _) hn8.1 hlen8 (sn : Int))
  rw [hfs, hout, hm8] at HBY
  have HFI := Lib.hid hfit
  clear k0 k1 k2 k3 k4 k5 j0 j1 j2 j3 j4 j5 hn8 hf8 hb8 hm8 hfs hout hlen8 hfit HEX HR6b hv5
  go_wp2_with fail
  refine HBY.out.mono ?_
  rintro e w9 ⟨A9, c9, rfl, hf9, hb9⟩
  have S9 := Lib.hid (S8.out.trans (hb9.mono S8.out.size))
  rw [bytesOf_length]
  have hfo := frameL_oct (n := sn) HO.out
  have hfl := frameL_length HDN.out (show 62 ≤ sn by omega)
  have hbo : ∀ x ∈ bytesOf r8 sn, x < 256 := fun x hx => by
    obtain ⟨i, _, rfl⟩ := List.mem_map.1 hx
    exact byteAt_lt _ _
  have hsame := bytes_same HN8.out hfo hfl (by omega) HFI.out
  obtain ⟨b, hb⟩ : ∃ b, b = decide (bytesOf r8 sn = frameL d sn) := ⟨_, rfl⟩
  have q1 := conv_str hf9.1 (bytesOf_length r8 sn) hbo
  have q2 := conv_str (rd_next HR6c.out (Nat.le_refl _) hb9) hfl hfo
  have q3 : ((str (bytesOf r8 sn)).toList == (str (frameL d sn)).toList) = b := by
    rw [hb]
    by_cases he : bytesOf r8 sn = frameL d sn
    · rw [decide_eq_true he, he]
      exact str_same _
    · rw [decide_eq_false he]
      exact str_ne hbo hfo he
  have HE : Hid (r = b) := Lib.hid (by
    rw [HRV.out, ← HLT.out, hb]
    simp only [hsame]
    simp)
  generalize str (bytesOf r8 sn) = s1 at *
  generalize str (frameL d sn) = s2 at *
  clear hf9 hb9 hfo hfl hbo hsame hb HBY
  go_wp2_with fail
  go_ret
  exact ⟨by rw [HE.out, ← q3]; rfl, HB.out.trans (S9.out.mono HB.out.size)⟩
end Go.Proofs.Ytebhpjbjfbadjaa
namespace Go.Proofs.Ytebhpjbjfbadjaa
open Go.RowKit
set_option linter.unusedVariables false
set_option linter.unusedSimpArgs false

def frOk (d : List Nat) (n : Int) : Bool := decide (d.length = 32) && decide (62 ≤ n) && decide (n ≤ 1024)
def frL (d : List Nat) (n : Int) : List Nat := if frOk d n = true then frameL d n.toNat else []
def FrPost (w : World) (L : List Nat) (b : Bool) (m : Nat) (e : Ending) (w' : World) : Prop := ∃ A' c', e = .returned (.tuple #[.slice A' m c', .bool b]) ∧ Rd .u8 w' w'.heap.size A' c' L ∧ Below w.heap.size w w'
theorem frL_oct {d : List Nat} {n : Int} (hd : ∀ x ∈ d, x < 256) : ∀ x ∈ frL d n, x < 256 := fun x hx => by
  unfold frL at hx
  split at hx
  · exact frameL_oct hd x hx
  · cases hx
theorem frame_all (w : World) (A : Option Addr) (c m : Nat) (d : List Nat) (hd : d.length = m) (hr : Rd .u8 w w.heap.size A c d) (n : Int) :
    Calls Try.prog 7 #[.slice A m c, .int .i64 n] w (FrPost w (frL d n) (frOk d n) (frL d n).length) := by
  by_cases h : d.length = 32 ∧ 62 ≤ n ∧ n ≤ 1024
  · have hb : frOk d n = true := by unfold frOk; simp [h]
    have hL : frL d n = frameL d n.toNat := if_pos hb
    obtain ⟨k, rfl⟩ := Int.eq_ofNat_of_zero_le (show 0 ≤ n by omega)
    rw [Int.toNat_natCast] at hL
    rw [hb, hL, frameL_length h.1 (by omega)]
    obtain rfl : m = 32 := by rw [← hd, h.1]
    exact (frame_yes w _ A c d k h.1 hr (Nat.le_refl _) (by omega) (by omega))
  · have hb : frOk d n = false := by
      rw [Bool.eq_false_iff]
      intro hh
      unfold frOk at hh
      simp only [Bool.and_eq_true, decide_eq_true_eq] at hh
      exact h ⟨hh.1.1, hh.1.2, hh.2⟩
    have hL : frL d n = [] := if_neg (by rw [hb]; simp)
    rw [hb, hL]
    refine (frame_no w A c m n (by rw [← hd]; omega)).mono ?_
    rintro e w' ⟨rfl, rfl⟩
    exact ⟨none, 0, rfl, Rd.nil_ _ _ _, Below.refl _ _⟩
theorem frame9_all (w : World) (A : Option Addr) (c m : Nat) (d : List Nat) (hd : d.length = m) (hr : Rd .u8 w w.heap.size A c d) (n : Int) :
    Calls Try.prog 8 #[.slice A m c, .int .i64 n] w (FrPost w (frL d n) (frOk d n) (frL d n).length) := by
  by_cases h : d.length = 32 ∧ 62 ≤ n ∧ n ≤ 1024
  · have hb : frOk d n = true := by unfold frOk; simp [h]
    have hL : frL d n = frameL d n.toNat := if_pos hb
    obtain ⟨k, rfl⟩ := Int.eq_ofNat_of_zero_le (show 0 ≤ n by omega)
    rw [Int.toNat_natCast] at hL
    rw [hb, hL, frameL_length h.1 (by omega)]
    obtain rfl : m = 32 := by rw [← hd, h.1]
    exact (frame9_yes w _ A c d k h.1 hr (Nat.le_refl _) (by omega) (by omega))
  · have hb : frOk d n = false := by
      rw [Bool.eq_false_iff]
      intro hh
      unfold frOk at hh
      simp only [Bool.and_eq_true, decide_eq_true_eq] at hh
      exact h ⟨hh.1.1, hh.1.2, hh.2⟩
    have hL : frL d n = [] := if_neg (by rw [hb]; simp)
    rw [hb, hL]
    refine (frame9_no w A c m n (by rw [← hd]; omega)).mono ?_
    rintro e w' ⟨rfl, rfl⟩
    exact ⟨none, 0, rfl, Rd.nil_ _ _ _, Below.refl _ _⟩

set_option maxRecDepth 100000 in
set_option maxHeartbeats 2000000 in
theorem known9_any (w : World) : Calls Try.prog 13 #[] w fun e w' => e = .returned (.bool true) ∧ Below w.heap.size w w' := by
  have hm := make_bytes (32 : Int) 32 rfl (by omega) w
  obtain ⟨d, hd⟩ : ∃ d, d = List.replicate 32 0 := ⟨_, rfl⟩
  rw [← hd] at hm
  have hH : Holds (w.alloc (.cells (nums .u8 d) 5)) w.heap.size 5 (nums .u8 d) := Holds.fresh w _ _
  have hl : d.length = 32 := by rw [hd]; simp
  obtain ⟨w1, hw1⟩ : ∃ W, W = w.alloc (.cells (nums .u8 d) 5) := ⟨_, rfl⟩
  rw [← hw1] at hm hH
  have hB : Below w.heap.size w w1 := by rw [hw1]; exact (Below.refl _ _).alloc (Nat.le_refl _) _
  have hr : Rd .u8 w1 w1.heap.size (some ⟨w.heap.size, 0, none⟩) 32 d := (rd_whole (c := 32) (show Row .u8 5 w1 w.heap.size d from hH) (by omega) (by omega)).more (Holds.lt hH)
  have HF := Lib.hid (frame_yes w1 _ (some ⟨w.heap.size, 0, none⟩) 32 d 62 hl hr (Nat.le_refl _) (by omega) (by omega))
  have HN := Lib.hid fun W => frame_no W (some ⟨w.heap.size, 0, none⟩) 32 32 61 (.inr (.inl (by omega)))
  have HB := Lib.hid hB
  have HL1 : Hid ((frameL d 62).getD 1 0 = 1 ∧ (frameL d 62).getD 9 0 = 255 ∧ (frameL d 62).getD 10 0 = 0 ∧ (frameL d 62).getD 11 0 = 48 ∧ (frameL d 62).length = 62) := Lib.hid (by rw [hd]; decide)
  clear hw1 hH hl hB hr hd
  go_enter Try.func13, Try.ntmps13
  go_wp2_with fail
  refine HF.out.mono ?_
  rintro e w2 ⟨A2, c2, rfl, hr2, hb2⟩
  have S2 := Lib.hid (HB.out.trans (hb2.mono HB.out.size))
  obtain ⟨g1, g9, g10, g11, gl⟩ := HL1.out
  obtain ⟨b, off, rfl, hlt, hc⟩ := hr2.2.2 (by omega)
  have x1 := hc 1 (by omega)
  have x9 := hc 9 (by omega)
  have x10 := hc 10 (by omega)
  have x11 := hc 11 (by omega)
  rw [g1] at x1
  rw [g9] at x9
  rw [g10] at x10
  rw [g11] at x11
  clear hm hr2 hb2 HF HL1 g1 g9 g10 g11 gl hc HB hlt
  go_wp2_with fail
  refine (HN.out w2).mono ?_
  rintro e w3 ⟨rfl, rfl⟩
  go_wp2_with fail
  go_ret
  exact ⟨rfl, S2.out⟩
end Go.Proofs.Ytebhpjbjfbadjaa
