/-
  The laws: what was signed is well; with N added it is none (statements RsaSigns, RsaLarge).
-/
import Derived.Test.YtebhpjbjfbadjaaKr13
namespace Go.Proofs.Ytebhpjbjfbadjaa
open Go.RowKit
set_option linter.unusedVariables false
set_option linter.unusedSimpArgs false

set_option maxRecDepth 100000 in
set_option maxHeartbeats 2000000 in
theorem law_rsaSigns (w : World) (x : Int) (A1 : Option Addr) (c1 n1 : Nat) (l1 : List Nat) (hn1 : l1.length = n1) (hr1 : Rd .u8 w w.heap.size A1 c1 l1) (ho1 : ∀ x ∈ l1, x < 256) (at_ : Int) (y : Nat) (hy : y < 256) :
    Calls Try.prog 4 #[.int .i64 x, .slice A1 n1 c1, .int .i64 at_, .int .u8 (y : Int)] w fun e w' => e = .returned (.bool true) ∧ Below w.heap.size w w' := by
  by_cases h1 : 300 < n1
  · have t1 : decide ((300 : Int) < (n1 : Int)) = true := decide_eq_true (by omega)
    have t1' : decide (300 < n1) = true := decide_eq_true (by omega)
    clear hn1 h1
    go_enter Try.func4, Try.ntmps4
    go_wp2_with fail
    go_ret
    exact ⟨rfl, Below.refl _ _⟩
  by_cases h2 : y = 0
  · have t1 : decide ((300 : Int) < (n1 : Int)) = false := decide_eq_false (by omega)
    have t1' : decide (300 < n1) = false := decide_eq_false (by omega)
    have t2 : ((y : Int) == 0) = true := by rw [beq_iff_eq]; omega
    clear hn1 h1 h2
    go_enter Try.func4, Try.ntmps4
    go_wp2_with fail
    go_ret
    exact ⟨rfl, Below.refl _ _⟩
  rcases hx : (bits .and .i64 x 1 == 1) with _ | _
  · exact signs_yes w x pl521 Luc.m521 17 66 pl521_len pl521_dg (by omega) (fun D h => pk521 h) (prime_even w x hx) A1 c1 n1 l1 hr1 hn1 ho1 at_ y hy (by omega) h2
  · exact signs_yes w x pl607 Luc.m607 19 76 pl607_len pl607_dg (by omega) (fun D h => pk607 h) (prime_odd w x hx) A1 c1 n1 l1 hr1 hn1 ho1 at_ y hy (by omega) h2
theorem add7_any (w : World) (A A' : Option Addr) (c c' : Nat) (l l' : List Nat) (hr : Rd .u32 w w.heap.size A c l) (hr' : Rd .u32 w w.heap.size A' c' l') (hd : Dg l) (hd' : Dg l') (hs : l.length ≤ 1000) (hs' : l'.length ≤ 1000) (hn : nrm l) (hn' : nrm l') :
    Calls Try.prog 18 #[.slice A l.length c, .slice A' l'.length c'] w fun e w' => ∃ A2 c2 r, e = .returned (.slice A2 r.length c2) ∧ NumIs r (val l + val l') ∧ Fresh .u32 24 w' w.heap.size A2 c2 r ∧ Below w.heap.size w w' :=
  add'_any w _ _ A A' c c' l l' hr hr' (Nat.le_refl _) (Nat.le_refl _) hd hd' (by omega) (by omega)
set_option maxRecDepth 100000 in
set_option maxHeartbeats 8000000 in
theorem large_yes (w : World) (L : List Nat) (N ln : Nat) (hL : L.length = ln) (hdl : Dg L) (hln : ln ≤ 20) (hnl0 : nrm L) (kk : Nat) (hkk : kk ≤ 522) (h2N : N + N ≤ 2 ^ kk) (h17 : N + N ≤ pw 17) (hpk : ∀ D, 65537 * D % (N - 1) = 1 → PK ⟨1, L, 65537, [], [], false⟩ N D 66) (hP : Calls Try.prog 14 #[.int .i64 0] w (PrimePost w L N))
    (A1 : Option Addr) (c1 n1 : Nat) (l1 : List Nat) (hr1 : Rd .u8 w w.heap.size A1 c1 l1) (hn1 : l1.length = n1) (ho1 : ∀ x ∈ l1, x < 256) (hshort : n1 ≤ 300) :
    Calls Try.prog 5 #[.slice A1 n1 c1] w fun e w' => e = .returned (.bool true) ∧ Below w.heap.size w w' := by
  have hor := Off.of_rd hr1 (Nat.le_refl _)
  have HP := Lib.hid hP
  have HL := Lib.hid hL
  have HDL := Lib.hid hdl
  have HLN := Lib.hid hnl0
  have H2N := Lib.hid h2N
  have H17 := Lib.hid h17
  have HPK := Lib.hid hpk
  have HN1 := Lib.hid hn1
  have HO1 := Lib.hid ho1
  have HOR := Lib.hid hor
  have t1 : decide ((300 : Int) < (n1 : Int)) = false := decide_eq_false (by omega)
  have t1' : decide (300 < n1) = false := decide_eq_false (by omega)
  clear hnl0 h2N h17
  clear hP hL hdl hpk hr1 hn1 ho1 hor
  go_enter Try.func5, Try.ntmps5
  go_wp2_with fail
  refine HP.out.mono ?_
  rintro e w1 ⟨g, nD, AD, cD, r, D, rfl, hrl, hg, hR, hn, hrD, hD, hB1⟩
  rw [HL.out]
  have hK := HPK.out D hD.1
  obtain ⟨V1, hV1⟩ : ∃ V, V = w1.alloc (.cells #[.int .i64 1, .slice (some ⟨g, 0, none⟩) ln ln, .int .u32 65537, .slice none 0 0, .slice none 0 0, .bool false] 28) := ⟨_, rfl⟩
  have hBV : Below w1.heap.size w1 V1 := by rw [hV1]; exact (Below.refl _ _).alloc (Nat.le_refl _) _
  have hB2 : Below w.heap.size w V1 := hB1.trans (hBV.mono hB1.size)
  have hH1 : Holds V1 w1.heap.size 28 #[.int .i64 1, .slice (some ⟨g, 0, none⟩) ln ln, .int .u32 65537, .slice none 0 0, .slice none 0 0, .bool false] := by rw [hV1]; exact Holds.fresh w1 _ _
  have hky : KyP (⟨1, some ⟨g, 0, none⟩, ln, L, 65537, none, 0, [], none, 0, [], false⟩ : Ky) V1 := ⟨by
    have h := (rd_whole (c := ln) (show Row .u32 24 V1 g L from Holds.under hR hBV (Holds.lt hR)) (by rw [HL.out]; exact Nat.le_refl _) (by omega)).more (Holds.lt (Holds.under hR hBV (Holds.lt hR)))
    exact h, HDL.out, Rd.nil_ _ _ _, (fun x hx => by cases hx), Rd.nil_ _ _ _, (fun x hx => by cases hx), (show 65537 < 4294967296 by omega)⟩
  have hnl : L.length ≤ 1000 := by rw [HL.out]; omega
  have hof := Off.of_ky hky
  have HKY : Hid (∀ W, Below V1.heap.size V1 W → KyP (⟨1, some ⟨g, 0, none⟩, ln, L, 65537, none, 0, [], none, 0, [], false⟩ : Ky) W) := Lib.hid fun W hW => (hof.under hW).at_
  have HRD1 : Hid (∀ W, Below V1.heap.size V1 W → Rd .u32 W W.heap.size AD cD r) := Lib.hid fun W hW => (((Off.of_rd hrD (Nat.le_refl _)).under hBV).under hW).at_
  have HTX : Hid (∀ W, Below V1.heap.size V1 W → Rd .u8 W W.heap.size A1 c1 l1) := Lib.hid fun W hW => ((HOR.out.under hB2).under hW).at_
  have HC1 : Hid (∀ W, Below V1.heap.size V1 W → Holds W w1.heap.size 28 #[.int .i64 1, .slice (some ⟨g, 0, none⟩) ln ln, .int .u32 65537, .slice none 0 0, .slice none 0 0, .bool false]) := Lib.hid fun W hW => hH1.under hW hH1.lt
  have HQ1 := Lib.hid hB2
  have HPKD := Lib.hid hK
  have HRL := Lib.hid hrl
  have HNU := Lib.hid hn
  have HV1 := Lib.hid hV1
  have hrlen : nD ≤ 1000 := by
    have h1 := val_lt HDL.out
    rw [HL.out, show val L = N from HPKD.out.val] at h1
    have h2 := num_len' hn (k := 1000) (Nat.lt_of_lt_of_le (Nat.lt_trans hD.2 h1) (pw_mono (by omega)))
    omega
  have HSG : Hid (∀ W, Below V1.heap.size V1 W → ∀ (A3 : Option Addr) (c3 : Nat) (d : List Nat), Rd .u8 W W.heap.size A3 c3 d → d.length = 32 → (∀ x ∈ d, x < 256) → Calls Try.prog 16 #[.agg #[.int .i64 1, .slice (some ⟨g, 0, none⟩) ln ln, .int .u32 65537, .slice none 0 0, .slice none 0 0, .bool false], .slice AD nD cD, .slice A3 32 c3] W (SignPost W 66 (val (numOf (frameL d 66)) ^ D % N))) := Lib.hid fun W hW A3 c3 d hd hdl ho => by
    have h := rsaSign'_any W (⟨1, some ⟨g, 0, none⟩, ln, L, 65537, none, 0, [], none, 0, [], false⟩ : Ky) (HKY.out W hW) HPKD.out.ok hnl AD cD nD r D (HRD1.out W hW) HRL.out HNU.out hrlen A3 c3 d hd hdl ho
    simp only [kycell, HL.out] at h
    rw [show rsaSize (Ky.v (⟨1, some ⟨g, 0, none⟩, ln, L, 65537, none, 0, [], none, 0, [], false⟩ : Ky)) = 66 from HPKD.out.size, show val (Ky.n (⟨1, some ⟨g, 0, none⟩, ln, L, 65537, none, 0, [], none, 0, [], false⟩ : Ky)) = N from HPKD.out.val] at h
    exact h
  have HVE1 : Hid (∀ W, Below V1.heap.size V1 W → ∀ (A2 : Option Addr) (c2 dn : Nat) (d : List Nat), Rd .u8 W W.heap.size A2 c2 d → d.length = dn → (∀ x ∈ d, x < 256) → ∀ (A3 : Option Addr) (c3 sn : Nat) (s : List Nat), Rd .u8 W W.heap.size A3 c3 s → s.length = sn → (∀ x ∈ s, x < 256) → Calls Try.prog 11 #[.agg #[.int .i64 1, .slice (some ⟨g, 0, none⟩) ln ln, .int .u32 65537, .slice none 0 0, .slice none 0 0, .bool false], .slice A2 dn c2, .slice A3 sn c3] W fun e w' => e = .returned (.bool (rsaVer ⟨1, L, 65537, [], [], false⟩ d s)) ∧ Below W.heap.size W w') := Lib.hid fun W hW A2 c2 dn d hd hdn ho A3 c3 sn s hs hsn ho3 => by
    have h := rsaVerify_any W (⟨1, some ⟨g, 0, none⟩, ln, L, 65537, none, 0, [], none, 0, [], false⟩ : Ky) (HKY.out W hW) hnl ⟨by simp, by simp⟩ A2 c2 dn d hd hdn ho A3 c3 sn s hs hsn ho3
    simp only [kycell, HL.out] at h
    exact h
  have h66lo := HPKD.out.lo
  have h66hi := HPKD.out.hi
  clear hrl hg hR hn hrD hD hB1 hK hV1 hBV hB2 hH1 hky hnl hof HP HRD1 hrlen HPK
  have HSH := Lib.hid (shaOf'_any V1 _ A1 c1 n1 l1 HN1.out (HTX.out V1 (Below.refl _ _)) (Nat.le_refl _) (fun i => by
    have h := oct_rev HO1.out
    rw [List.getD]
    rcases hq : l1[i]? with _ | z
    · simp
    · simpa using HO1.out z (List.mem_of_getElem? hq)) (by omega))
  go_wp2_with fail
  rw [← HV1.out]
  refine HSH.out.mono ?_
  rintro e w2 ⟨A2, c2, rfl, hr2, hb2⟩
  have S2 : Hid (Below V1.heap.size V1 w2) := Lib.hid hb2
  obtain ⟨dg, hdg⟩ : ∃ d, d = digest l1 := ⟨_, rfl⟩
  have HLD : Hid (dg.length = 32) := Lib.hid (by rw [hdg]; exact digest_length l1)
  have HOD : Hid (∀ x ∈ dg, x < 256) := Lib.hid (by rw [hdg]; exact digest_oct l1)
  rw [← hdg] at hr2
  have HOR2 := Lib.hid (Off.of_rd hr2 (Nat.le_refl _))
  have hk := HC1.out w2 S2.out
  have k0 := hk.cell 0
  have k1 := hk.cell 1
  have k2 := hk.cell 2
  have k3 := hk.cell 3
  have k4 := hk.cell 4
  have k5 := hk.cell 5
  have HS3 := Lib.hid (HSG.out w2 S2.out A2 c2 dg hr2 HLD.out HOD.out)
  clear hr2 hb2 hdg hk HSH HV1 HSG HTX HOR
  go_wp2_with fail
  refine HS3.out.mono ?_
  rintro e w3 ⟨A3, c3, b, rfl, hbl, hbo, hbv, hr3, hb3⟩
  have S3 : Hid (Below V1.heap.size V1 w3) := Lib.hid (S2.out.trans (hb3.mono S2.out.size))
  have HOR2b := Lib.hid (HOR2.out.under hb3)
  have HOR3 := Lib.hid (Off.of_rd hr3 (Nat.le_refl _))
  have HLB := Lib.hid hbl
  have HOB := Lib.hid hbo
  have HBV := Lib.hid hbv
  have HC3 : Hid (66 ≤ c3) := Lib.hid (by have := hr3.1; omega)
  clear k0 k1 k2 k3 k4 k5 hbl hbo hbv hr3 hb3 HS3 HOR2
  have ho3b := Off.of_rd (HOR3.out.at_) (Nat.le_refl _)
  obtain ⟨zl, hzl⟩ : ∃ z, (numOf b).length = z := ⟨_, rfl⟩
  have HOF : Hid (∀ W, Below w3.heap.size w3 W → Calls Try.prog 19 #[.slice A3 66 c3] W fun e w' => ∃ A2 c2, e = .returned (.slice A2 zl c2) ∧ Rd .u32 w' w'.heap.size A2 c2 (numOf b) ∧ Below W.heap.size W w') := Lib.hid fun W hW => ofN'_at W _ A3 c3 66 b (HOR3.out.under hW).at_ HLB.out (Nat.le_refl _) HOB.out zl hzl
  have HKN : Hid (∀ W, Below w3.heap.size w3 W → Rd .u32 W W.heap.size (some ⟨g, 0, none⟩) ln L) := Lib.hid fun W hW => (HKY.out W (S3.out.trans (hW.mono S3.out.size))).1
  have HCK : Hid (∀ W, Below w3.heap.size w3 W → Holds W w1.heap.size 28 #[.int .i64 1, .slice (some ⟨g, 0, none⟩) ln ln, .int .u32 65537, .slice none 0 0, .slice none 0 0, .bool false]) := Lib.hid fun W hW => HC1.out W (S3.out.trans (hW.mono S3.out.size))
  have HVE3 : Hid (∀ W, Below w3.heap.size w3 W → ∀ (A2 : Option Addr) (c2 dn : Nat) (d : List Nat), Rd .u8 W W.heap.size A2 c2 d → d.length = dn → (∀ x ∈ d, x < 256) → ∀ (A3 : Option Addr) (c3 sn : Nat) (s : List Nat), Rd .u8 W W.heap.size A3 c3 s → s.length = sn → (∀ x ∈ s, x < 256) → Calls Try.prog 11 #[.agg #[.int .i64 1, .slice (some ⟨g, 0, none⟩) ln ln, .int .u32 65537, .slice none 0 0, .slice none 0 0, .bool false], .slice A2 dn c2, .slice A3 sn c3] W fun e w' => e = .returned (.bool (rsaVer ⟨1, L, 65537, [], [], false⟩ d s)) ∧ Below W.heap.size W w') := Lib.hid fun W hW => HVE1.out W (S3.out.trans (hW.mono S3.out.size))
  have HDS := Lib.hid (numOf_dg (oct_rev HOB.out))
  have HL1 : Hid ((numOf b).length ≤ 1000) := Lib.hid (by have := numOf_length b; omega)
  have HL2 : Hid (L.length ≤ 1000) := Lib.hid (by rw [HL.out]; omega)
  have HZL := Lib.hid hzl
  obtain ⟨vv, hvv⟩ : ∃ v, val (numOf b) = v := ⟨_, rfl⟩
  have HVV := Lib.hid hvv
  have HVL : Hid (val L = N) := Lib.hid HPKD.out.val
  have hvlt : vv < N := by
    rw [← hvv, HBV.out]
    exact Nat.mod_lt _ (by have := HPKD.out.pr.1; omega)
  have HFIT : Hid (∀ r, NumIs r (vv + N) → nb r ≤ 8 * 66) := Lib.hid fun r hr => by
    have hb := nb_bounds hr (by have := HPKD.out.pr.1; omega)
    rcases Nat.lt_or_ge (8 * 66) (nb r) with h | h
    · have h1 : 2 ^ kk ≤ 2 ^ (nb r - 1) := Nat.pow_le_pow_right (by omega) (by omega)
      have := H2N.out
      omega
    · exact h
  have HLEN : Hid (∀ r, NumIs r (vv + N) → r.length ≤ 5000) := Lib.hid fun r hr => by
    have h1 := num_len' hr (k := 17) (Nat.lt_of_lt_of_le (show vv + N < pw 17 by have := H17.out; omega) (Nat.le_refl _))
    omega
  clear ho3b hzl hvv hvlt HC1 HVE1 HKY
  go_wp2_with fail
  refine wp_region_noPanic ?_
  refine wp_region_held_drew (S := (fun W => Below w3.heap.size w3 W)) (by kernel_rfl) ((Below.refl _ _).drew) (fun hHeld => ?_)
  refine wpAnyH_take (i := 0) (oi := { dst := some 23, op := Op.move (Operand.tmp 6), type := 29, pos := _, after := _, guard := none }) (v := ?_) rfl (by kernel_rfl) (by kernel_rfl) (by kernel_rfl) (fun _ _ _ h => h) (Or.inl ⟨by rfl, ?_⟩) hHeld ?_
  rotate_left 1
  · (intro W hW; (try dsimp only at hW); go_simp; try with_reducible rfl)
  try simp only [Act.put, List.setIfInBounds_toArray, List.set_cons_zero, List.set_cons_succ]
  refine wpAnyH_take (i := 2) (oi := { dst := some 25, op := Op.fieldAddr 28 (Operand.tmp 3) 1, type := 0, pos := _, after := _, guard := none }) (v := ?_) rfl (by kernel_rfl) (by kernel_rfl) (by kernel_rfl) (fun _ _ _ h => h) (Or.inl ⟨by rfl, ?_⟩) hHeld ?_
  rotate_left 1
  · (intro W hW; (try dsimp only at hW); go_simp; try with_reducible rfl)
  try simp only [Act.put, List.setIfInBounds_toArray, List.set_cons_zero, List.set_cons_succ]
  refine wpAnyH_take (i := 3) (oi := { dst := some 26, op := Op.load 23 (Operand.tmp 25), type := 23, pos := _, after := _, guard := none }) (v := ?_) rfl (by kernel_rfl) (by kernel_rfl) (by kernel_rfl) (fun _ _ _ h => h) (Or.inl ⟨by rfl, ?_⟩) hHeld ?_
  rotate_left 1
  · (intro W hW; have k := (HCK.out W hW).cell 1; (try dsimp only at hW); go_simp; try with_reducible rfl)
  try simp only [Act.put, List.setIfInBounds_toArray, List.set_cons_zero, List.set_cons_succ]
  refine wpAnyH_ready (rs := [1]) (by kernel_rfl) (by simp) ?_
  refine AllReadyH.cons (o := { dst := some 24, op := Op.call { callee := Callee.value (Operand.func 19), args := #[Operand.tmp 23], argTypes := #[29] }, type := 23, pos := _, after := _, guard := none }) rfl (fun K hK => ?_) AllReadyH.nil
  go_simp
  refine (HOF.out _ hHeld).mono ?_
  rintro e u1 ⟨Au, cu, rfl, hru, hb⟩
  have U1 : Hid (Below w3.heap.size w3 u1) := Lib.hid (hHeld.trans (hb.mono hHeld.size))
  have HRU := Lib.hid hru
  clear hb hru
  go_simp
  refine hK.out _ _ (U1.out) (fun _ => ?_)
  clear hK K hHeld
  try simp only [Act.put, List.setIfInBounds_toArray, List.set_cons_zero, List.set_cons_succ]
  have hHeld : ((fun W => Below w3.heap.size w3 W)) u1 := U1.out
  refine wpAnyH_ready (rs := [4]) (by kernel_rfl) (by simp) ?_
  refine AllReadyH.cons (o := { dst := some 27, op := Op.call { callee := Callee.value (Operand.func 18), args := #[Operand.tmp 24, Operand.tmp 26], argTypes := #[23, 23] }, type := 23, pos := _, after := _, guard := none }) rfl (fun K hK => ?_) AllReadyH.nil
  go_simp
  have HAD := Lib.hid (add7_any u1 Au (some ⟨g, 0, none⟩) cu ln (numOf b) L HRU.out (HKN.out u1 U1.out) HDS.out HDL.out HL1.out HL2.out (numOf_nrm b) HLN.out)
  rw [HZL.out, HL.out, HVV.out, HVL.out] at HAD
  refine HAD.out.mono ?_
  rintro e u4 ⟨A4, c4, r4, rfl, hn4, hf4, hb⟩
  have U4 : Hid (Below w3.heap.size w3 u4) := Lib.hid (U1.out.trans (hb.mono U1.out.size))
  have HN4 := Lib.hid hn4
  have HR4 := Lib.hid hf4.1
  obtain ⟨m4, hm4⟩ : ∃ m, r4.length = m := ⟨_, rfl⟩
  rw [hm4]
  have HM4 := Lib.hid hm4
  clear hb hn4 hf4 hm4 HAD
  go_simp
  refine hK.out _ _ (U4.out) (fun _ => ?_)
  clear hK K hHeld
  try simp only [Act.put, List.setIfInBounds_toArray, List.set_cons_zero, List.set_cons_succ]
  have hHeld : ((fun W => Below w3.heap.size w3 W)) u4 := U4.out
  refine wpAnyH_ready (rs := [5]) (by kernel_rfl) (by simp) ?_
  refine AllReadyH.cons (o := { dst := some 28, op := Op.call { callee := Callee.value (Operand.func 17), args := #[Operand.tmp 27, Operand.const (Value.int IntKind.i64 66)], argTypes := #[23, 3] }, type := 30, pos := _, after := _, guard := none }) rfl (fun K hK => ?_) AllReadyH.nil
  go_simp
  have hfit : nb r4 ≤ 8 * 66 := HFIT.out r4 HN4.out
  obtain ⟨hfs, hout⟩ := out_fit (show 66 ≤ 1024 by omega) hfit
  have HBY := Lib.hid (bytes'_all u4 _ A4 c4 r4 HR4.out (Nat.le_refl _) HN4.out.1 (HLEN.out r4 HN4.out) ((66 : Nat) : Int))
  rw [hfs, hout, HM4.out] at HBY
  have HFI := Lib.hid hfit
  clear hfs hout hfit
  refine HBY.out.mono ?_
  rintro e u5 ⟨A5, c5, rfl, hf5, hb⟩
  have U5 : Hid (Below w3.heap.size w3 u5) := Lib.hid (U4.out.trans (hb.mono U4.out.size))
  have HR5 := Lib.hid hf5.1
  rw [bytesOf_length]
  clear hb hf5 HBY
  go_simp
  refine hK.out _ _ (U5.out) (fun _ => ?_)
  clear hK K hHeld
  try simp only [Act.put, List.setIfInBounds_toArray, List.set_cons_zero, List.set_cons_succ]
  have hHeld : ((fun W => Below w3.heap.size w3 W)) u5 := U5.out
  refine wpAnyH_take (i := 6) (oi := { dst := some 22, op := Op.move (Operand.tmp 28), type := 30, pos := _, after := _, guard := none }) (v := ?_) rfl (by kernel_rfl) (by kernel_rfl) (by kernel_rfl) (fun _ _ _ h => h) (Or.inl ⟨by rfl, ?_⟩) hHeld ?_
  rotate_left 1
  · (intro W hW; (try dsimp only at hW); go_simp; try with_reducible rfl)
  try simp only [Act.put, List.setIfInBounds_toArray, List.set_cons_zero, List.set_cons_succ]
  refine wpAnyH_take (i := 7) (oi := { dst := some 29, op := Op.extract (Operand.tmp 22) 0, type := 29, pos := _, after := _, guard := none }) (v := ?_) rfl (by kernel_rfl) (by kernel_rfl) (by kernel_rfl) (fun _ _ _ h => h) (Or.inl ⟨by rfl, ?_⟩) hHeld ?_
  rotate_left 1
  · (intro W hW; (try dsimp only at hW); go_simp; try with_reducible rfl)
  try simp only [Act.put, List.setIfInBounds_toArray, List.set_cons_zero, List.set_cons_succ]
  refine wpAnyH_take (i := 8) (oi := { dst := some 30, op := Op.extract (Operand.tmp 22) 1, type := 4, pos := _, after := _, guard := none }) (v := ?_) rfl (by kernel_rfl) (by kernel_rfl) (by kernel_rfl) (fun _ _ _ h => h) (Or.inl ⟨by rfl, ?_⟩) hHeld ?_
  rotate_left 1
  · (intro W hW; (try dsimp only at hW); go_simp; try with_reducible rfl)
  try simp only [Act.put, List.setIfInBounds_toArray, List.set_cons_zero, List.set_cons_succ]
  refine wpAnyH_take (i := 9) (oi := { dst := some 7, op := Op.assign (Operand.tmp 29), type := 29, pos := _, after := _, guard := none }) (v := ?_) rfl (by kernel_rfl) (by kernel_rfl) (by kernel_rfl) (fun _ _ _ h => h) (Or.inl ⟨by rfl, ?_⟩) hHeld ?_
  rotate_left 1
  · (intro W hW; (try dsimp only at hW); go_simp; try with_reducible rfl)
  try simp only [Act.put, List.setIfInBounds_toArray, List.set_cons_zero, List.set_cons_succ]
  refine wpAnyH_take (i := 10) (oi := { dst := some 8, op := Op.assign (Operand.tmp 30), type := 4, pos := _, after := _, guard := none }) (v := ?_) rfl (by kernel_rfl) (by kernel_rfl) (by kernel_rfl) (fun _ _ _ h => h) (Or.inl ⟨by rfl, ?_⟩) hHeld ?_
  rotate_left 1
  · (intro W hW; (try dsimp only at hW); go_simp; try with_reducible rfl)
  try simp only [Act.put, List.setIfInBounds_toArray, List.set_cons_zero, List.set_cons_succ]
  refine wpAnyH_done (by kernel_rfl) ?_ _
  refine NoPanic.normal ?_
  have hv4 := HPKD.out.large (d := dg) (t := bytesOf r4 66) (by
    rw [numOf_bytesOf HN4.out.1 HN4.out.2.1 HFI.out (by omega), HN4.out.2.2]
    exact Nat.le_add_left _ _)
  have hbo : ∀ x ∈ bytesOf r4 66, x < 256 := fun x hx => by
    obtain ⟨i, _, rfl⟩ := List.mem_map.1 hx
    exact byteAt_lt _ _
  have hk := HCK.out u5 U5.out
  have k0 := hk.cell 0
  have k1 := hk.cell 1
  have k2 := hk.cell 2
  have k3 := hk.cell 3
  have k4 := hk.cell 4
  have k5 := hk.cell 5
  have hve := HVE3.out u5 U5.out A2 c2 32 dg (HOR2b.out.under U5.out).at_ HLD.out HOD.out A3 c3 66 b (HOR3.out.under U5.out).at_ HLB.out HOB.out
  rw [HPKD.out.signed HOD.out HLD.out HLB.out HBV.out] at hve
  have HVX := Lib.hid hve
  have HB5 := Lib.hid (Off.of_rd HR5.out (Nat.le_refl _))
  have HV4 := Lib.hid hv4
  have HBO := Lib.hid hbo
  clear hv4 hbo hk hve
  go_wp2_with fail
  refine HVX.out.mono ?_
  rintro e u6 ⟨rfl, hb6⟩
  have U6 : Hid (Below w3.heap.size w3 u6) := Lib.hid (U5.out.trans (hb6.mono U5.out.size))
  have hk := HCK.out u6 U6.out
  clear k0 k1 k2 k3 k4 k5 HVX
  have k0 := hk.cell 0
  have k1 := hk.cell 1
  have k2 := hk.cell 2
  have k3 := hk.cell 3
  have k4 := hk.cell 4
  have k5 := hk.cell 5
  have hve := HVE3.out u6 U6.out A2 c2 32 dg (HOR2b.out.under U6.out).at_ HLD.out HOD.out A5 c5 66 (bytesOf r4 66) (HB5.out.under hb6).at_ (bytesOf_length _ _) HBO.out
  rw [HV4.out] at hve
  have HVX := Lib.hid hve
  clear hk hve hb6
  go_wp2_with fail
  refine HVX.out.mono ?_
  rintro e u7 ⟨rfl, hb7⟩
  have U7 : Hid (Below w3.heap.size w3 u7) := Lib.hid (U6.out.trans (hb7.mono U6.out.size))
  clear k0 k1 k2 k3 k4 k5 hb7 HVX
  go_wp2_with fail
  refine (known9_any u7).mono ?_
  rintro e u8 ⟨rfl, hb8⟩
  have U8 : Hid (Below w3.heap.size w3 u8) := Lib.hid (U7.out.trans (hb8.mono U7.out.size))
  clear hb8
  go_wp2_with fail
  go_ret
  exact ⟨rfl, HQ1.out.trans ((S3.out.trans (U8.out.mono S3.out.size)).mono HQ1.out.size)⟩
set_option maxRecDepth 100000 in
theorem law_rsaLarge (w : World) (A1 : Option Addr) (c1 n1 : Nat) (l1 : List Nat) (hn1 : l1.length = n1) (hr1 : Rd .u8 w w.heap.size A1 c1 l1) (ho1 : ∀ x ∈ l1, x < 256) :
    Calls Try.prog 5 #[.slice A1 n1 c1] w fun e w' => e = .returned (.bool true) ∧ Below w.heap.size w w' := by
  by_cases h1 : 300 < n1
  · have t1 : decide ((300 : Int) < (n1 : Int)) = true := decide_eq_true (by omega)
    have t1' : decide (300 < n1) = true := decide_eq_true (by omega)
    clear hn1 h1
    go_enter Try.func5, Try.ntmps5
    go_wp2_with fail
    go_ret
    exact ⟨rfl, Below.refl _ _⟩
  exact large_yes w pl521 Luc.m521 17 pl521_len pl521_dg (by omega) pl521_nrm 522 (by omega) (of_decide_eq_true (by kernel_rfl)) (by unfold pw; decide +kernel) (fun D h => pk521 h) (prime_even w 0 (by decide)) A1 c1 n1 l1 hr1 hn1 ho1 (by omega)
end Go.Proofs.Ytebhpjbjfbadjaa
