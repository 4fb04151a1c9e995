/-
  The law: what was signed is well; bent, it is not (statement RsaSigns).
-/
import Derived.Test.YtebhpjbjfbadjaaKrB
import Derived.Test.YtebhpjbjfbadjaaKr11
import Derived.Test.YtebhpjbjfbadjaaKr12
import Derived.Test.YtebhpjbjfbadjaaSha14
import Derived.Test.YtebhpjbjfbadjaaTlv15
namespace Go.Proofs.Ytebhpjbjfbadjaa
open Go.RowKit
set_option linter.unusedVariables false
set_option linter.unusedSimpArgs false

theorem xor_u8 (a b : Nat) (ha : a < 256) (hb : b < 256) : bits .xor .u8 (a : Int) (b : Int) = ((a ^^^ b : Nat) : Int) := by
  have hx : a ^^^ b < 2 ^ 8 := Nat.xor_lt_two_pow (by omega) (by omega)
  have h1 : (BitVec.ofInt 8 (a : Int)).toNat = a := by
    rw [BitVec.ofInt_natCast, BitVec.toNat_ofNat]; exact Nat.mod_eq_of_lt (by omega)
  have h2 : (BitVec.ofInt 8 (b : Int)).toNat = b := by
    rw [BitVec.ofInt_natCast, BitVec.toNat_ofNat]; exact Nat.mod_eq_of_lt (by omega)
  show IntKind.u8.wrap ((BitVec.ofInt 8 (a : Int) ^^^ BitVec.ofInt 8 (b : Int)).toNat : Int) = _
  rw [BitVec.toNat_xor, h1, h2, IntKind.wrap_u8]
  omega
theorem xor_ne (a b : Nat) (hb : b ≠ 0) : a ^^^ b ≠ a := by
  intro e
  have h : a ^^^ (a ^^^ b) = b := by rw [← Nat.xor_assoc, Nat.xor_self, Nat.zero_xor]
  rw [e, Nat.xor_self] at h
  exact hb h.symm
theorem and63 (x : Int) : ∃ j : Nat, j < 64 ∧ bits .and .i64 x 63 = (j : Int) := by
  have hlt : (BitVec.ofInt 64 x).toNat &&& 63 < 64 := Nat.lt_succ_of_le Nat.and_le_right
  refine ⟨(BitVec.ofInt 64 x).toNat &&& 63, hlt, ?_⟩
  show IntKind.i64.wrap ((BitVec.ofInt 64 x &&& BitVec.ofInt 64 63).toNat : Int) = _
  rw [BitVec.toNat_and, show (BitVec.ofInt 64 63).toNat = 63 from rfl]
  exact IntWalk.i64_in _ (by omega)

theorem and31 (x : Int) : ∃ j : Nat, j < 32 ∧ bits .and .i64 x 31 = (j : Int) := by
  have hlt : (BitVec.ofInt 64 x).toNat &&& 31 < 32 := Nat.lt_succ_of_le Nat.and_le_right
  refine ⟨(BitVec.ofInt 64 x).toNat &&& 31, hlt, ?_⟩
  show IntKind.i64.wrap ((BitVec.ofInt 64 x &&& BitVec.ofInt 64 31).toNat : Int) = _
  rw [BitVec.toNat_and, show (BitVec.ofInt 64 31).toNat = 31 from rfl]
  exact IntWalk.i64_in _ (by omega)

theorem run_drop1 (W : World) (A : Option Addr) (n c : Nat) (hk : 1 ≤ n) (hn : n ≤ c) :
    (Instr.sliceAt 29 (.slice A n c) (some (.int .i64 1)) none none).run Try.prog W = .ok (.slice (dropA A 1 c) (n - 1) (c - 1)) W := run_drop W A n c 1 hk hn
theorem mine_none (w : World) : Mine 5 (w.alloc (.cells #[] 5)) w.heap.size (some ⟨w.heap.size, 0, none⟩) 0 [] := .inr ⟨w.heap.size, 0, #[], rfl, Nat.le_refl _, heap_alloc_new w _, Nat.le_refl _, by omega, Nat.le_refl _, fun j hj => by simp at hj⟩
theorem Mine.store {e : TypeId} {w : World} {B g off c : Nat} {l : List Nat} (h : Mine e w B (some ⟨g, off, none⟩) c l) {i : Nat} (hi : i < l.length) (v : Nat) : Mine e (w.setCell ⟨g, off + i, none⟩ (.int .u8 (v : Int))) B (some ⟨g, off, none⟩) c (l.set i v) := by
  rcases h with ⟨h, _⟩ | ⟨g', off', cur, h1, hB, hg, hl, hc, hs, hx⟩
  · cases h
  · injection h1 with h1
    injection h1 with h1 h2
    subst h1 h2
    refine .inr ⟨g, off, cur.setIfInBounds (off + i) (.int .u8 (v : Int)), rfl, hB, by simp [World.setCell, Array.getElem?_modify, hg], by rw [List.length_set]; exact hl, hc, by simpa using hs, fun j hj => ?_⟩
    rw [List.length_set] at hj
    rw [Array.getElem?_setIfInBounds]
    by_cases hij : i = j
    · subst hij
      rw [if_pos rfl, if_pos (by omega)]
      simp [List.getD, hi]
    · rw [if_neg (by omega), hx j hj]
      simp [List.getD, List.getElem?_set_ne hij]
theorem step_mineG {P : Program} (w : World) {ops : Array Oper} {o : Oper} {a : Act} {Q : Exit → Act → World → Prop} {K : Act → World → Prop} {E : Prop} (hw : Region.wanted o (yielded ops a.tmps) = true) (s x : Operand) (t : TypeId)
    (ho : o.op = .call { callee := .builtin .append, args := #[s, x], argTypes := #[t, t] }) (e : TypeId) (hoe : o.type = t) (ht : P.underlying t = some (.slice e)) (hi : (P.info? e).map (fun i => (i.zero, i.size, i.bytes)) = some (some (.int .u8 0), 1, 1))
    {B B2 : Nat} {A A2 : Option Addr} {c n c2 m : Nat} {l news : List Nat} (hs : a.eval s = .slice A n c) (h : Mine e w B A c l) (hn : l.length = n) (hx : a.eval x = .slice A2 m c2) (hr : Rd .u8 w B2 A2 c2 news) (hm : news.length = m) (hB : B ≤ w.heap.size) (hsz : n + m ≤ 1000000)
    (hK : ∀ A' c' w', Mine e w' B A' c' (l ++ news) → w.grownBy w' (blk_of A) → K (a.put o.dst (.slice A' (n + m) c')) w') :
    if Region.wanted o (yielded ops a.tmps) = true then Oper.wp P o a w K Q else E := by
  rw [if_pos hw]
  obtain ⟨A', c', w', hrun, r1, r2, r3⟩ := run_mine (P := P) w t t o.type e ht ht hi h hn hr hm hB hsz
  unfold Oper.wp
  simp [execOp, ho, resolve, invoke, builtin, hs, hx, hrun, Result.andThen]
  exact hK _ _ _ r1 r2
/-- A byte of one's own, to be read and stored. -/
theorem Mine.byte {e : TypeId} {w : World} {B c : Nat} {A : Option Addr} {l : List Nat} (h : Mine e w B A c l) {i : Nat} (hi : i < l.length) : ∃ g off, A = some ⟨g, off, none⟩ ∧ B ≤ g ∧ w.cell? ⟨g, off + i, none⟩ = some (.int .u8 ((l.getD i 0 : Nat) : Int)) ∧ w.frozen? ⟨g, off + i, none⟩ = false := by
  rcases h with ⟨_, _, h⟩ | ⟨g, off, cur, rfl, hB, hg, hl, hc, hs, hx⟩
  · rw [h] at hi; simp at hi
  · exact ⟨g, off, rfl, hB, by rw [cell_of_row w g _ cur e (0, 0) hg]; exact hx i hi, by simp [World.frozen?, hg]⟩
set_option maxRecDepth 100000 in
set_option maxHeartbeats 8000000 in
theorem signs_yes (w : World) (x : Int) (L : List Nat) (N ln sz : Nat) (hL : L.length = ln) (hdl : Dg L) (hln : ln ≤ 20) (hpk : ∀ D, 65537 * D % (N - 1) = 1 → PK ⟨1, L, 65537, [], [], false⟩ N D sz) (hP : Calls Try.prog 14 #[.int .i64 x] w (PrimePost w L N))
    (A1 : Option Addr) (c1 n1 : Nat) (l1 : List Nat) (hr1 : Rd .u8 w w.heap.size A1 c1 l1) (hn1 : l1.length = n1) (ho1 : ∀ x ∈ l1, x < 256) (at_ : Int) (y : Nat) (hy : y < 256) (hshort : n1 ≤ 300) (hy0 : y ≠ 0) :
    Calls Try.prog 4 #[.int .i64 x, .slice A1 n1 c1, .int .i64 at_, .int .u8 (y : Int)] w fun e w' => e = .returned (.bool true) ∧ Below w.heap.size w w' := by
  have hor := Off.of_rd hr1 (Nat.le_refl _)
  have HP := Lib.hid hP
  have HL := Lib.hid hL
  have HDL := Lib.hid hdl
  have HPK := Lib.hid hpk
  have HN1 := Lib.hid hn1
  have HO1 := Lib.hid ho1
  have HOR := Lib.hid hor
  have t1 : decide ((300 : Int) < (n1 : Int)) = false := decide_eq_false (by omega)
  have t1' : decide (300 < n1) = false := decide_eq_false (by omega)
  have t2 : ((y : Int) == 0) = false := by rw [beq_eq_false_iff_ne]; omega
  obtain ⟨j3, hj3, e31⟩ := and31 at_
  obtain ⟨j6, hj6, e63⟩ := and63 at_
  clear hP hL hdl hpk hr1 hn1 ho1 hor
  go_enter Try.func4, Try.ntmps4
  go_wp2_with fail
  refine HP.out.mono ?_
  rintro e w1 ⟨g, nD, AD, cD, r, D, rfl, hrl, hg, hR, hn, hrD, hD, hB1⟩
  rw [HL.out]
  have hK := HPK.out D hD.1
  obtain ⟨V1, hV1⟩ : ∃ V, V = w1.alloc (.cells #[.int .i64 1, .slice (some ⟨g, 0, none⟩) ln ln, .int .u32 65537, .slice none 0 0, .slice none 0 0, .bool false] 28) := ⟨_, rfl⟩
  have hBV : Below w1.heap.size w1 V1 := by rw [hV1]; exact (Below.refl _ _).alloc (Nat.le_refl _) _
  have hB2 : Below w.heap.size w V1 := hB1.trans (hBV.mono hB1.size)
  have hH1 : Holds V1 w1.heap.size 28 #[.int .i64 1, .slice (some ⟨g, 0, none⟩) ln ln, .int .u32 65537, .slice none 0 0, .slice none 0 0, .bool false] := by rw [hV1]; exact Holds.fresh w1 _ _
  have hky : KyP (⟨1, some ⟨g, 0, none⟩, ln, L, 65537, none, 0, [], none, 0, [], false⟩ : Ky) V1 := ⟨by
    have h := (rd_whole (c := ln) (show Row .u32 24 V1 g L from Holds.under hR hBV (Holds.lt hR)) (by rw [HL.out]; exact Nat.le_refl _) (by omega)).more (Holds.lt (Holds.under hR hBV (Holds.lt hR)))
    exact h, HDL.out, Rd.nil_ _ _ _, (fun x hx => by cases hx), Rd.nil_ _ _ _, (fun x hx => by cases hx), (show 65537 < 4294967296 by omega)⟩
  have hnl : L.length ≤ 1000 := by rw [HL.out]; omega
  have hof := Off.of_ky hky
  have HKY : Hid (∀ W, Below V1.heap.size V1 W → KyP (⟨1, some ⟨g, 0, none⟩, ln, L, 65537, none, 0, [], none, 0, [], false⟩ : Ky) W) := Lib.hid fun W hW => (hof.under hW).at_
  have HRD1 : Hid (∀ W, Below V1.heap.size V1 W → Rd .u32 W W.heap.size AD cD r) := Lib.hid fun W hW => (((Off.of_rd hrD (Nat.le_refl _)).under hBV).under hW).at_
  have HTX : Hid (∀ W, Below V1.heap.size V1 W → Rd .u8 W W.heap.size A1 c1 l1) := Lib.hid fun W hW => ((HOR.out.under hB2).under hW).at_
  have HC1 : Hid (∀ W, Below V1.heap.size V1 W → Holds W w1.heap.size 28 #[.int .i64 1, .slice (some ⟨g, 0, none⟩) ln ln, .int .u32 65537, .slice none 0 0, .slice none 0 0, .bool false]) := Lib.hid fun W hW => hH1.under hW hH1.lt
  have HQ1 := Lib.hid hB2
  have HPKD := Lib.hid hK
  have HRL := Lib.hid hrl
  have HNU := Lib.hid hn
  have HV1 := Lib.hid hV1
  have hrlen : nD ≤ 1000 := by
    have h1 := val_lt HDL.out
    rw [HL.out, show val L = N from HPKD.out.val] at h1
    have h2 := num_len' hn (k := 1000) (Nat.lt_of_lt_of_le (Nat.lt_trans hD.2 h1) (pw_mono (by omega)))
    omega
  have HSG : Hid (∀ W, Below V1.heap.size V1 W → ∀ (A3 : Option Addr) (c3 : Nat) (d : List Nat), Rd .u8 W W.heap.size A3 c3 d → d.length = 32 → (∀ x ∈ d, x < 256) → Calls Try.prog 16 #[.agg #[.int .i64 1, .slice (some ⟨g, 0, none⟩) ln ln, .int .u32 65537, .slice none 0 0, .slice none 0 0, .bool false], .slice AD nD cD, .slice A3 32 c3] W (SignPost W sz (val (numOf (frameL d sz)) ^ D % N))) := Lib.hid fun W hW A3 c3 d hd hdl ho => by
    have h := rsaSign'_any W (⟨1, some ⟨g, 0, none⟩, ln, L, 65537, none, 0, [], none, 0, [], false⟩ : Ky) (HKY.out W hW) HPKD.out.ok hnl AD cD nD r D (HRD1.out W hW) HRL.out HNU.out hrlen A3 c3 d hd hdl ho
    simp only [kycell, HL.out] at h
    rw [show rsaSize (Ky.v (⟨1, some ⟨g, 0, none⟩, ln, L, 65537, none, 0, [], none, 0, [], false⟩ : Ky)) = sz from HPKD.out.size, show val (Ky.n (⟨1, some ⟨g, 0, none⟩, ln, L, 65537, none, 0, [], none, 0, [], false⟩ : Ky)) = N from HPKD.out.val] at h
    exact h
  have HVE1 : Hid (∀ W, Below V1.heap.size V1 W → ∀ (A2 : Option Addr) (c2 dn : Nat) (d : List Nat), Rd .u8 W W.heap.size A2 c2 d → d.length = dn → (∀ x ∈ d, x < 256) → ∀ (A3 : Option Addr) (c3 sn : Nat) (s : List Nat), Rd .u8 W W.heap.size A3 c3 s → s.length = sn → (∀ x ∈ s, x < 256) → Calls Try.prog 11 #[.agg #[.int .i64 1, .slice (some ⟨g, 0, none⟩) ln ln, .int .u32 65537, .slice none 0 0, .slice none 0 0, .bool false], .slice A2 dn c2, .slice A3 sn c3] W fun e w' => e = .returned (.bool (rsaVer ⟨1, L, 65537, [], [], false⟩ d s)) ∧ Below W.heap.size W w') := Lib.hid fun W hW A2 c2 dn d hd hdn ho A3 c3 sn s hs hsn ho3 => by
    have h := rsaVerify_any W (⟨1, some ⟨g, 0, none⟩, ln, L, 65537, none, 0, [], none, 0, [], false⟩ : Ky) (HKY.out W hW) hnl ⟨by simp, by simp⟩ A2 c2 dn d hd hdn ho A3 c3 sn s hs hsn ho3
    simp only [kycell, HL.out] at h
    exact h
  have HIS1 : Hid (∀ W, Below V1.heap.size V1 W → Calls Try.prog 9 #[.agg #[.int .i64 1, .slice (some ⟨g, 0, none⟩) ln ln, .int .u32 65537, .slice none 0 0, .slice none 0 0, .bool false]] W fun e w' => e = .returned (.bool true) ∧ Below W.heap.size W w') := Lib.hid fun W hW => by
    have h := rsaIs_any W (⟨1, some ⟨g, 0, none⟩, ln, L, 65537, none, 0, [], none, 0, [], false⟩ : Ky) (HKY.out W hW) (show L.length ≤ 5000 by omega)
    simp only [kycell, HL.out] at h
    rw [show rsaOk (Ky.v (⟨1, some ⟨g, 0, none⟩, ln, L, 65537, none, 0, [], none, 0, [], false⟩ : Ky)) = true from HPKD.out.ok] at h
    exact h
  have hszlo := HPKD.out.lo
  have hszhi := HPKD.out.hi
  clear hrl hg hR hn hrD hD hB1 hK hV1 hBV hB2 hH1 hky hnl hof HP HKY HRD1 hrlen HPK
  have HSH := Lib.hid (shaOf'_any V1 _ A1 c1 n1 l1 HN1.out (HTX.out V1 (Below.refl _ _)) (Nat.le_refl _) (fun i => by
    have h := oct_rev HO1.out
    rw [List.getD]
    rcases hq : l1[i]? with _ | z
    · simp
    · simpa using HO1.out z (List.mem_of_getElem? hq)) (by omega))
  go_wp2_with fail
  rw [← HV1.out]
  refine HSH.out.mono ?_
  rintro e w2 ⟨A2, c2, rfl, hr2, hb2⟩
  have S2 : Hid (Below V1.heap.size V1 w2) := Lib.hid hb2
  obtain ⟨dg, hdg⟩ : ∃ d, d = digest l1 := ⟨_, rfl⟩
  have HLD : Hid (dg.length = 32) := Lib.hid (by rw [hdg]; exact digest_length l1)
  have HOD : Hid (∀ x ∈ dg, x < 256) := Lib.hid (by rw [hdg]; exact digest_oct l1)
  rw [← hdg] at hr2
  have HOR2 := Lib.hid (Off.of_rd hr2 (Nat.le_refl _))
  have hk := HC1.out w2 S2.out
  have k0 := hk.cell 0
  have k1 := hk.cell 1
  have k2 := hk.cell 2
  have k3 := hk.cell 3
  have k4 := hk.cell 4
  have k5 := hk.cell 5
  have HS3 := Lib.hid (HSG.out w2 S2.out A2 c2 dg hr2 HLD.out HOD.out)
  clear hr2 hb2 hdg hk HSH HV1 HSG HTX HOR
  go_wp2_with fail
  refine HS3.out.mono ?_
  rintro e w3 ⟨A3, c3, b, rfl, hbl, hbo, hbv, hr3, hb3⟩
  have S3 : Hid (Below V1.heap.size V1 w3) := Lib.hid (S2.out.trans (hb3.mono S2.out.size))
  have HOR2b := Lib.hid (HOR2.out.under hb3)
  have HOR3 := Lib.hid (Off.of_rd hr3 (Nat.le_refl _))
  have HLB := Lib.hid hbl
  have HOB := Lib.hid hbo
  have HBV := Lib.hid hbv
  have HC3 : Hid (sz ≤ c3) := Lib.hid (by have := hr3.1; omega)
  clear k0 k1 k2 k3 k4 k5 hbl hbo hbv hr3 hb3 HS3 HOR2
  have hk := HC1.out w3 S3.out
  have k0 := hk.cell 0
  have k1 := hk.cell 1
  have k2 := hk.cell 2
  have k3 := hk.cell 3
  have k4 := hk.cell 4
  have k5 := hk.cell 5
  clear hk
  go_wp2_with fail
  refine (HIS1.out w3 S3.out).mono ?_
  rintro e w4 ⟨rfl, hb4⟩
  have S4 : Hid (Below V1.heap.size V1 w4) := Lib.hid (S3.out.trans (hb4.mono S3.out.size))
  have HOR2c := Lib.hid (HOR2b.out.under hb4)
  have HOR3b := Lib.hid (HOR3.out.under hb4)
  clear k0 k1 k2 k3 k4 k5 hb4 HOR2b HOR3 HIS1
  have hk := HC1.out w4 S4.out
  have k0 := hk.cell 0
  have k1 := hk.cell 1
  have k2 := hk.cell 2
  have k3 := hk.cell 3
  have k4 := hk.cell 4
  have k5 := hk.cell 5
  have hve := HVE1.out w4 S4.out A2 c2 32 dg HOR2c.out.at_ HLD.out HOD.out A3 c3 sz b HOR3b.out.at_ HLB.out HOB.out
  rw [HPKD.out.signed HOD.out HLD.out HLB.out HBV.out] at hve
  have HVX := Lib.hid hve
  clear hk hve
  go_wp2_with fail
  refine HVX.out.mono ?_
  rintro e w5 ⟨rfl, hb5⟩
  have S5 : Hid (Below V1.heap.size V1 w5) := Lib.hid (S4.out.trans (hb5.mono S4.out.size))
  have HOR2d := Lib.hid (HOR2c.out.under hb5)
  have HOR3c := Lib.hid (HOR3b.out.under hb5)
  clear k0 k1 k2 k3 k4 k5 hb5 HOR2c HOR3b HVX
  have hbe0 : Below w5.heap.size w5 (w5.alloc (.cells #[] 5)) := (Below.refl _ _).alloc (Nat.le_refl _) _
  have HM0 := Lib.hid (mine_none w5)
  have HR0 := Lib.hid (HOR2d.out.under hbe0).at_
  have HBE0 := Lib.hid hbe0
  have hz0 : w5.heap.size ≤ (w5.alloc (.cells #[] 5)).heap.size := hbe0.size
  have HL0 : Hid (([] : List Nat).length = 0) := Lib.hid rfl
  clear hbe0
  go_wp2_with (with_reducible (refine wpList_mine _ rfl (.tmp 43) (.tmp 44) 29 rfl 5 Try.underlying29 info_u8 rfl HM0.out HL0.out rfl HR0.out HLD.out hz0 (by omega) ?hA6))
  intro A6 c6 w6 hm6 hg6 hb6
  have hB6 : Below w5.heap.size w5 w6 := HBE0.out.trans (grown_below hg6 (fun g e => (HM0.out.block e).1) hz0)
  obtain ⟨gh, oh, rfl, hgh, hch, hfh⟩ := hm6.byte (i := j3) (by rw [HLD.out]; exact hj3)
  obtain ⟨u, hu⟩ : ∃ u, u = dg.getD j3 0 := ⟨_, rfl⟩
  rw [← hu] at hch
  have hu8 : u < 256 := by
    rw [hu, List.getD]
    rcases hq : dg[j3]? with _ | z
    · simp
    · simpa using HOD.out z (List.mem_of_getElem? hq)
  have hxor := xor_u8 u y hu8 hy
  have hst := hm6.store (i := j3) (by rw [HLD.out]; exact hj3) (u ^^^ y)
  obtain ⟨hl, hhl⟩ : ∃ l, l = dg.set j3 (u ^^^ y) := ⟨_, rfl⟩
  rw [← hhl] at hst
  have hx8 : u ^^^ y < 256 := Nat.xor_lt_two_pow (n := 8) (by omega) (by omega)
  have HLH : Hid (hl.length = 32) := Lib.hid (by rw [hhl, List.length_set]; exact HLD.out)
  have HOH : Hid (∀ x ∈ hl, x < 256) := Lib.hid (by rw [hhl]; exact set_oct HOD.out hx8)
  have HNH : Hid (hl ≠ dg) := Lib.hid (by rw [hhl]; exact set_ne (by rw [HLD.out]; exact hj3) (by rw [← hu]; exact xor_ne u y hy0))
  obtain ⟨w7, hw7⟩ : ∃ W, W = w6.setCell ⟨gh, oh + j3, none⟩ (.int .u8 ((u ^^^ y : Nat) : Int)) := ⟨_, rfl⟩
  rw [← hw7] at hst
  have hB7 : Below w5.heap.size w5 w7 := by rw [hw7]; exact hB6.setCell hgh _
  have HM7 := Lib.hid hst
  have HB7 := Lib.hid hB7
  have HW7 := Lib.hid hw7
  have hs7 : w7.heap.size = w6.heap.size := by rw [hw7]; simp [World.setCell]
  clear hm6 hg6 hb6 hB6 hgh hu hu8 hhl hst hx8 hw7 hB7 HM0 HR0 HBE0 hz0
  have hbe0 : Below w7.heap.size w7 (w7.alloc (.cells #[] 5)) := (Below.refl _ _).alloc (Nat.le_refl _) _
  have hmn := mine_none w7
  have hz0 : w7.heap.size ≤ (w7.alloc (.cells #[] 5)).heap.size := hbe0.size
  rw [show (some ⟨w7.heap.size, 0, none⟩ : Option Addr) = some ⟨w6.heap.size, 0, none⟩ by rw [hs7]] at hmn
  have HM0 := Lib.hid hmn
  have HR0 := Lib.hid ((HOR3c.out.under HB7.out).under hbe0).at_
  have HBE0 := Lib.hid hbe0
  clear hbe0 hs7 hmn
  go_wp2_with (rw [← HW7.out]; with_reducible (refine wpList_mine _ rfl (.tmp 54) (.tmp 55) 29 rfl 5 Try.underlying29 info_u8 rfl HM0.out HL0.out rfl HR0.out HLB.out hz0 (by omega) ?hA8))
  intro A8 c8 w8 hm8 hg8 hb8
  clear hch hfh hxor HW7
  have hB8 : Below w7.heap.size w7 w8 := HBE0.out.trans (grown_below hg8 (fun g e => (HM0.out.block e).1) hz0)
  obtain ⟨gt, ot, rfl, hgt, hct, hft⟩ := hm8.byte (i := j6) (by rw [HLB.out]; omega)
  obtain ⟨u, hu⟩ : ∃ u, u = b.getD j6 0 := ⟨_, rfl⟩
  rw [← hu] at hct
  have hu8 : u < 256 := by
    rw [hu, List.getD]
    rcases hq : b[j6]? with _ | z
    · simp
    · simpa using HOB.out z (List.mem_of_getElem? hq)
  have hxor := xor_u8 u y hu8 hy
  have hst := hm8.store (i := j6) (by rw [HLB.out]; omega) (u ^^^ y)
  obtain ⟨tl, htl⟩ : ∃ l, l = b.set j6 (u ^^^ y) := ⟨_, rfl⟩
  rw [← htl] at hst
  have hx8 : u ^^^ y < 256 := Nat.xor_lt_two_pow (n := 8) (by omega) (by omega)
  have HLT : Hid (tl.length = sz) := Lib.hid (by rw [htl, List.length_set]; exact HLB.out)
  have HOT : Hid (∀ x ∈ tl, x < 256) := Lib.hid (by rw [htl]; exact set_oct HOB.out hx8)
  have HNT : Hid (tl ≠ b) := Lib.hid (by rw [htl]; exact set_ne (by rw [HLB.out]; omega) (by rw [← hu]; exact xor_ne u y hy0))
  obtain ⟨V, hV⟩ : ∃ W, W = w8.setCell ⟨gt, ot + j6, none⟩ (.int .u8 ((u ^^^ y : Nat) : Int)) := ⟨_, rfl⟩
  rw [← hV] at hst
  have hBV : Below w7.heap.size w7 V := by rw [hV]; exact hB8.setCell hgt _
  have hBV5 : Below w5.heap.size w5 V := HB7.out.trans (hBV.mono HB7.out.size)
  have hBV1 : Below V1.heap.size V1 V := S5.out.trans (hBV5.mono S5.out.size)
  have hrh := (Off.of_rd HM7.out.rd (Nat.le_refl _)).under hBV
  have hrt := Off.of_rd hst.rd (Nat.le_refl _)
  have HRH : Hid (∀ W, Below V.heap.size V W → Rd .u8 W W.heap.size (some ⟨gh, oh, none⟩) c6 hl) := Lib.hid fun W hW => (hrh.under hW).at_
  have HRT : Hid (∀ W, Below V.heap.size V W → Rd .u8 W W.heap.size (some ⟨gt, ot, none⟩) c8 tl) := Lib.hid fun W hW => (hrt.under hW).at_
  have HRD : Hid (∀ W, Below V.heap.size V W → Rd .u8 W W.heap.size A2 c2 dg) := Lib.hid fun W hW => ((HOR2d.out.under hBV5).under hW).at_
  have HRB : Hid (∀ W, Below V.heap.size V W → Rd .u8 W W.heap.size A3 c3 b) := Lib.hid fun W hW => ((HOR3c.out.under hBV5).under hW).at_
  have HVE : Hid (∀ W, Below V.heap.size V W → ∀ (A2 : Option Addr) (c2 dn : Nat) (d : List Nat), Rd .u8 W W.heap.size A2 c2 d → d.length = dn → (∀ x ∈ d, x < 256) → ∀ (A3 : Option Addr) (c3 sn : Nat) (s : List Nat), Rd .u8 W W.heap.size A3 c3 s → s.length = sn → (∀ x ∈ s, x < 256) → Calls Try.prog 11 #[.agg #[.int .i64 1, .slice (some ⟨g, 0, none⟩) ln ln, .int .u32 65537, .slice none 0 0, .slice none 0 0, .bool false], .slice A2 dn c2, .slice A3 sn c3] W fun e w' => e = .returned (.bool (rsaVer ⟨1, L, 65537, [], [], false⟩ d s)) ∧ Below W.heap.size W w') := Lib.hid fun W hW => HVE1.out W (hBV1.trans (hW.mono hBV1.size))
  have HA := Lib.hid (HC1.out V hBV1)
  have HQ : Hid (Below w.heap.size w V) := Lib.hid (HQ1.out.trans (hBV1.mono HQ1.out.size))
  have S0 : Hid ((fun W => Below V.heap.size V W) V) := Lib.hid (Below.refl _ _)
  have HV1 := Lib.hid (HPKD.out.other HOD.out HLD.out HLB.out HBV.out HOH.out HLH.out HNH.out)
  have HV2 := Lib.hid (HPKD.out.bent HOD.out HLD.out HLB.out HOB.out HBV.out HOT.out HLT.out HNT.out)
  have HL17 : Hid (([0] ++ b).length = 1 + sz) := Lib.hid (by rw [List.length_append, HLB.out]; rfl)
  have HL26 : Hid (1 ≤ b.length) := Lib.hid (by rw [HLB.out]; omega)
  have HL27 : Hid ((b.drop 1).length = sz - 1) := Lib.hid (by rw [List.length_drop, HLB.out])
  have HV3 := Lib.hid (HPKD.out.long (d := dg) (t := [0] ++ b) (by rw [HL17.out]; omega))
  have HV4 := Lib.hid (HPKD.out.long (d := dg) (t := b.drop 1) (by rw [HL27.out]; omega))
  have HO17 : Hid (∀ x ∈ [0] ++ b, x < 256) := Lib.hid fun x hx => by
    rcases List.mem_append.1 hx with h | h
    · rw [List.mem_singleton.1 h]; omega
    · exact HOB.out x h
  have HO27 : Hid (∀ x ∈ b.drop 1, x < 256) := Lib.hid fun x hx => HOB.out x (List.mem_of_mem_drop hx)
  have HV := Lib.hid hV
  clear hm8 hg8 hb8 hB8 hgt hu hu8 htl hst hx8 hV hBV hBV5 hBV1 hrh hrt HM0 HR0 HBE0 hz0 HOR2d HOR3c HVE1 HC1 HQ1 HM7 HB7 S2 S3 S4 S5 HNH HNT HPKD HBV HL0
  go_wp2_with fail
  rw [← HV.out]
  clear hct hft hxor HV
  go_wp2_with fail
  refine wp_region_noPanic ?_
  refine wp_region_held_drew (S := (fun W => Below V.heap.size V W)) (by kernel_rfl) (S0.out.drew) (fun hHeld => ?_)
  refine wpAnyH_take (i := 0) (oi := { dst := some 65, op := Op.load 28 (Operand.tmp 9), type := 28, pos := _, after := _, guard := none }) (v := ?_) rfl (by kernel_rfl) (by kernel_rfl) (by kernel_rfl) (fun _ _ _ h => h) (Or.inl ⟨by rfl, ?_⟩) hHeld ?_
  rotate_left 1
  · (intro W hW; have k := HA.out.under hW HA.out.lt; have k0 := k.cell 0; have k1 := k.cell 1; have k2 := k.cell 2; have k3 := k.cell 3; have k4 := k.cell 4; have k5 := k.cell 5; (try dsimp only at hW); go_simp; try with_reducible rfl)
  try simp only [Act.put, List.setIfInBounds_toArray, List.set_cons_zero, List.set_cons_succ]
  refine wpAnyH_take (i := 1) (oi := { dst := some 66, op := Op.move (Operand.tmp 13), type := 29, pos := _, after := _, guard := none }) (v := ?_) rfl (by kernel_rfl) (by kernel_rfl) (by kernel_rfl) (fun _ _ _ h => h) (Or.inl ⟨by rfl, ?_⟩) hHeld ?_
  rotate_left 1
  · (intro W hW; (try dsimp only at hW); go_simp; try with_reducible rfl)
  try simp only [Act.put, List.setIfInBounds_toArray, List.set_cons_zero, List.set_cons_succ]
  refine wpAnyH_take (i := 2) (oi := { dst := some 67, op := Op.move (Operand.tmp 12), type := 29, pos := _, after := _, guard := none }) (v := ?_) rfl (by kernel_rfl) (by kernel_rfl) (by kernel_rfl) (fun _ _ _ h => h) (Or.inl ⟨by rfl, ?_⟩) hHeld ?_
  rotate_left 1
  · (intro W hW; (try dsimp only at hW); go_simp; try with_reducible rfl)
  try simp only [Act.put, List.setIfInBounds_toArray, List.set_cons_zero, List.set_cons_succ]
  refine wpAnyH_ready (rs := [3]) (by kernel_rfl) (by simp) ?_
  refine AllReadyH.cons (o := { dst := some 68, op := Op.call { callee := Callee.value (Operand.func 11), args := #[Operand.tmp 65, Operand.tmp 66, Operand.tmp 67], argTypes := #[28, 29, 29] }, type := 4, pos := _, after := _, guard := none }) rfl (fun K hK => ?_) AllReadyH.nil
  go_simp
  have hx := HVE.out _ S0.out.drew (some ⟨gh, oh, none⟩) c6 32 hl (HRH.out _ S0.out.drew) HLH.out HOH.out A3 c3 sz b (HRB.out _ S0.out.drew) HLB.out HOB.out
  rw [HV1.out] at hx
  refine (hx).mono ?_
  rintro e u3 ⟨rfl, hb⟩
  have S3 : Hid ((fun W => Below V.heap.size V W) u3) := Lib.hid (S0.out.drew.trans (hb.mono S0.out.drew.size))
  clear hb
  clear hx
  go_simp
  refine hK.out _ _ (S3.out) (fun _ => ?_)
  clear hK K hHeld
  try simp only [Act.put, List.setIfInBounds_toArray, List.set_cons_zero, List.set_cons_succ]
  have hHeld : ((fun W => Below V.heap.size V W)) u3 := S3.out
  refine wpAnyH_take (i := 4) (oi := { dst := some 69, op := Op.unOp UnOp.not 4 (Operand.tmp 68), type := 4, pos := _, after := _, guard := none }) (v := ?_) rfl (by kernel_rfl) (by kernel_rfl) (by kernel_rfl) (fun _ _ _ h => h) (Or.inl ⟨by rfl, ?_⟩) hHeld ?_
  rotate_left 1
  · (intro W hW; (try dsimp only at hW); go_simp; try with_reducible rfl)
  try simp only [Act.put, List.setIfInBounds_toArray, List.set_cons_zero, List.set_cons_succ]
  refine wpAnyH_take (i := 5) (oi := { dst := some 70, op := Op.move (Operand.tmp 69), type := 4, pos := _, after := _, guard := none }) (v := ?_) rfl (by kernel_rfl) (by kernel_rfl) (by kernel_rfl) (fun _ _ _ h => h) (Or.inl ⟨by rfl, ?_⟩) hHeld ?_
  rotate_left 1
  · (intro W hW; (try dsimp only at hW); go_simp; try with_reducible rfl)
  try simp only [Act.put, List.setIfInBounds_toArray, List.set_cons_zero, List.set_cons_succ]
  refine wpAnyH_take (i := 6) (oi := { dst := some 71, op := Op.load 28 (Operand.tmp 9), type := 28, pos := _, after := _, guard := some (5, true) }) (v := ?_) rfl (by kernel_rfl) (by kernel_rfl) (by kernel_rfl) (fun _ _ _ h => h) (Or.inl ⟨by rfl, ?_⟩) hHeld ?_
  rotate_left 1
  · (intro W hW; have k := HA.out.under hW HA.out.lt; have k0 := k.cell 0; have k1 := k.cell 1; have k2 := k.cell 2; have k3 := k.cell 3; have k4 := k.cell 4; have k5 := k.cell 5; (try dsimp only at hW); go_simp; try with_reducible rfl)
  try simp only [Act.put, List.setIfInBounds_toArray, List.set_cons_zero, List.set_cons_succ]
  refine wpAnyH_take (i := 7) (oi := { dst := some 72, op := Op.move (Operand.tmp 11), type := 29, pos := _, after := _, guard := some (5, true) }) (v := ?_) rfl (by kernel_rfl) (by kernel_rfl) (by kernel_rfl) (fun _ _ _ h => h) (Or.inl ⟨by rfl, ?_⟩) hHeld ?_
  rotate_left 1
  · (intro W hW; (try dsimp only at hW); go_simp; try with_reducible rfl)
  try simp only [Act.put, List.setIfInBounds_toArray, List.set_cons_zero, List.set_cons_succ]
  refine wpAnyH_take (i := 8) (oi := { dst := some 73, op := Op.move (Operand.tmp 14), type := 29, pos := _, after := _, guard := some (5, true) }) (v := ?_) rfl (by kernel_rfl) (by kernel_rfl) (by kernel_rfl) (fun _ _ _ h => h) (Or.inl ⟨by rfl, ?_⟩) hHeld ?_
  rotate_left 1
  · (intro W hW; (try dsimp only at hW); go_simp; try with_reducible rfl)
  try simp only [Act.put, List.setIfInBounds_toArray, List.set_cons_zero, List.set_cons_succ]
  refine wpAnyH_ready (rs := [9]) (by kernel_rfl) (by simp) ?_
  refine AllReadyH.cons (o := { dst := some 74, op := Op.call { callee := Callee.value (Operand.func 11), args := #[Operand.tmp 71, Operand.tmp 72, Operand.tmp 73], argTypes := #[28, 29, 29] }, type := 4, pos := _, after := _, guard := some (5, true) }) rfl (fun K hK => ?_) AllReadyH.nil
  go_simp
  have hx := HVE.out u3 S3.out A2 c2 32 dg (HRD.out _ S3.out) HLD.out HOD.out (some ⟨gt, ot, none⟩) c8 sz tl (HRT.out _ S3.out) HLT.out HOT.out
  rw [HV2.out] at hx
  refine (hx).mono ?_
  rintro e u9 ⟨rfl, hb⟩
  have S9 : Hid ((fun W => Below V.heap.size V W) u9) := Lib.hid (S3.out.trans (hb.mono S3.out.size))
  clear hb
  clear hx
  go_simp
  refine hK.out _ _ (S9.out) (fun _ => ?_)
  clear hK K hHeld
  try simp only [Act.put, List.setIfInBounds_toArray, List.set_cons_zero, List.set_cons_succ]
  have hHeld : ((fun W => Below V.heap.size V W)) u9 := S9.out
  refine wpAnyH_take (i := 10) (oi := { dst := some 75, op := Op.unOp UnOp.not 4 (Operand.tmp 74), type := 4, pos := _, after := _, guard := some (5, true) }) (v := ?_) rfl (by kernel_rfl) (by kernel_rfl) (by kernel_rfl) (fun _ _ _ h => h) (Or.inl ⟨by rfl, ?_⟩) hHeld ?_
  rotate_left 1
  · (intro W hW; (try dsimp only at hW); go_simp; try with_reducible rfl)
  try simp only [Act.put, List.setIfInBounds_toArray, List.set_cons_zero, List.set_cons_succ]
  refine wpAnyH_take (i := 11) (oi := { dst := some 76, op := Op.pick (Operand.tmp 70) (Operand.tmp 75) (Operand.const (Value.bool false)), type := 4, pos := _, after := _, guard := none }) (v := ?_) rfl (by kernel_rfl) (by kernel_rfl) (by kernel_rfl) (fun _ _ _ h => h) (Or.inl ⟨by rfl, ?_⟩) hHeld ?_
  rotate_left 1
  · (intro W hW; (try dsimp only at hW); go_simp; try with_reducible rfl)
  try simp only [Act.put, List.setIfInBounds_toArray, List.set_cons_zero, List.set_cons_succ]
  refine wpAnyH_take (i := 12) (oi := { dst := some 77, op := Op.move (Operand.tmp 76), type := 4, pos := _, after := _, guard := none }) (v := ?_) rfl (by kernel_rfl) (by kernel_rfl) (by kernel_rfl) (fun _ _ _ h => h) (Or.inl ⟨by rfl, ?_⟩) hHeld ?_
  rotate_left 1
  · (intro W hW; (try dsimp only at hW); go_simp; try with_reducible rfl)
  try simp only [Act.put, List.setIfInBounds_toArray, List.set_cons_zero, List.set_cons_succ]
  refine wpAnyH_take (i := 13) (oi := { dst := some 78, op := Op.load 28 (Operand.tmp 9), type := 28, pos := _, after := _, guard := some (12, true) }) (v := ?_) rfl (by kernel_rfl) (by kernel_rfl) (by kernel_rfl) (fun _ _ _ h => h) (Or.inl ⟨by rfl, ?_⟩) hHeld ?_
  rotate_left 1
  · (intro W hW; have k := HA.out.under hW HA.out.lt; have k0 := k.cell 0; have k1 := k.cell 1; have k2 := k.cell 2; have k3 := k.cell 3; have k4 := k.cell 4; have k5 := k.cell 5; (try dsimp only at hW); go_simp; try with_reducible rfl)
  try simp only [Act.put, List.setIfInBounds_toArray, List.set_cons_zero, List.set_cons_succ]
  refine wpAnyH_take (i := 14) (oi := { dst := some 79, op := Op.move (Operand.tmp 11), type := 29, pos := _, after := _, guard := some (12, true) }) (v := ?_) rfl (by kernel_rfl) (by kernel_rfl) (by kernel_rfl) (fun _ _ _ h => h) (Or.inl ⟨by rfl, ?_⟩) hHeld ?_
  rotate_left 1
  · (intro W hW; (try dsimp only at hW); go_simp; try with_reducible rfl)
  try simp only [Act.put, List.setIfInBounds_toArray, List.set_cons_zero, List.set_cons_succ]
  refine wpAnyH_take (i := 16) (oi := { dst := some 81, op := Op.move (Operand.tmp 12), type := 29, pos := _, after := _, guard := some (12, true) }) (v := ?_) rfl (by kernel_rfl) (by kernel_rfl) (by kernel_rfl) (fun _ _ _ h => h) (Or.inl ⟨by rfl, ?_⟩) hHeld ?_
  rotate_left 1
  · (intro W hW; (try dsimp only at hW); go_simp; try with_reducible rfl)
  try simp only [Act.put, List.setIfInBounds_toArray, List.set_cons_zero, List.set_cons_succ]
  refine wpAnyH_ready (rs := [15]) (by kernel_rfl) (by simp) ?_
  refine AllReadyH.cons (o := { dst := some 80, op := Op.buildSlice 29 1 #[(0, Operand.const (Value.int IntKind.u8 0))], type := 29, pos := _, after := _, guard := some (12, true) }) rfl (fun K hK => ?_) AllReadyH.nil
  have hA15 : Below u9.heap.size u9 (u9.alloc (.cells #[.int .u8 0] 5)) := (Below.refl _ _).alloc (Nat.le_refl _) _
  have hM15 : Mine 5 (u9.alloc (.cells #[.int .u8 0] 5)) u9.heap.size (some ⟨u9.heap.size, 0, none⟩) 1 [0] := .inr ⟨u9.heap.size, 0, #[.int .u8 0], rfl, Nat.le_refl _, heap_alloc_new u9 _, Nat.le_refl _, by omega, Nat.le_refl _, fun j hj => by
    obtain rfl : j = 0 := by simp at hj; exact hj
    rfl⟩
  go_simp
  obtain ⟨u15, hu15⟩ : ∃ W, W = u9.alloc (.cells #[.int .u8 0] 5) := ⟨_, rfl⟩
  rw [← hu15] at hA15 hM15 ⊢
  have S15 : Hid ((fun W => Below V.heap.size V W) u15) := Lib.hid (S9.out.trans (hA15.mono S9.out.size))
  have HM15 := Lib.hid hM15
  have HS15 := Lib.hid hA15.size
  clear hu15 hA15 hM15
  refine hK.out _ _ (S15.out) (fun _ => ?_)
  clear hK K hHeld
  try simp only [Act.put, List.setIfInBounds_toArray, List.set_cons_zero, List.set_cons_succ]
  have hHeld : ((fun W => Below V.heap.size V W)) u15 := S15.out
  refine wpAnyH_ready (rs := [17]) (by kernel_rfl) (by simp) ?_
  refine AllReadyH.cons (o := { dst := some 82, op := Op.call { callee := Callee.builtin Builtin.append, args := #[Operand.tmp 80, Operand.tmp 81], argTypes := #[29, 29] }, type := 29, pos := _, after := _, guard := some (12, true) }) rfl (fun K hK => ?_) AllReadyH.nil
  refine step_mineG u15 (by kernel_rfl) (.tmp 80) (.tmp 81) 29 rfl 5 rfl Try.underlying29 info_u8 (n := 1) rfl HM15.out rfl rfl (HRB.out _ S15.out) HLB.out HS15.out (by omega) ?_
  intro A17 c17 u17 hm17 hg17
  have hb17 : Below u9.heap.size u15 u17 := grown_below hg17 (fun g e => (HM15.out.block e).1) HS15.out
  have S17 : Hid ((fun W => Below V.heap.size V W) u17) := Lib.hid (S15.out.trans (hb17.mono S9.out.size))
  have HM17 := Lib.hid hm17.rd
  clear hm17 hg17 hb17
  refine hK.out _ _ (S17.out) (fun _ => ?_)
  clear hK K hHeld
  try simp only [Act.put, List.setIfInBounds_toArray, List.set_cons_zero, List.set_cons_succ]
  have hHeld : ((fun W => Below V.heap.size V W)) u17 := S17.out
  refine wpAnyH_ready (rs := [18]) (by kernel_rfl) (by simp) ?_
  refine AllReadyH.cons (o := { dst := some 83, op := Op.call { callee := Callee.value (Operand.func 11), args := #[Operand.tmp 78, Operand.tmp 79, Operand.tmp 82], argTypes := #[28, 29, 29] }, type := 4, pos := _, after := _, guard := some (12, true) }) rfl (fun K hK => ?_) AllReadyH.nil
  go_simp
  have hx := HVE.out u17 S17.out A2 c2 32 dg (HRD.out _ S17.out) HLD.out HOD.out A17 c17 (1 + sz) ([0] ++ b) (HM17.out) HL17.out HO17.out
  rw [HV3.out] at hx
  refine (hx).mono ?_
  rintro e u18 ⟨rfl, hb⟩
  have S18 : Hid ((fun W => Below V.heap.size V W) u18) := Lib.hid (S17.out.trans (hb.mono S17.out.size))
  clear hb
  clear hx
  go_simp
  refine hK.out _ _ (S18.out) (fun _ => ?_)
  clear hK K hHeld
  try simp only [Act.put, List.setIfInBounds_toArray, List.set_cons_zero, List.set_cons_succ]
  have hHeld : ((fun W => Below V.heap.size V W)) u18 := S18.out
  refine wpAnyH_take (i := 19) (oi := { dst := some 84, op := Op.unOp UnOp.not 4 (Operand.tmp 83), type := 4, pos := _, after := _, guard := some (12, true) }) (v := ?_) rfl (by kernel_rfl) (by kernel_rfl) (by kernel_rfl) (fun _ _ _ h => h) (Or.inl ⟨by rfl, ?_⟩) hHeld ?_
  rotate_left 1
  · (intro W hW; (try dsimp only at hW); go_simp; try with_reducible rfl)
  try simp only [Act.put, List.setIfInBounds_toArray, List.set_cons_zero, List.set_cons_succ]
  refine wpAnyH_take (i := 20) (oi := { dst := some 85, op := Op.pick (Operand.tmp 77) (Operand.tmp 84) (Operand.const (Value.bool false)), type := 4, pos := _, after := _, guard := none }) (v := ?_) rfl (by kernel_rfl) (by kernel_rfl) (by kernel_rfl) (fun _ _ _ h => h) (Or.inl ⟨by rfl, ?_⟩) hHeld ?_
  rotate_left 1
  · (intro W hW; (try dsimp only at hW); go_simp; try with_reducible rfl)
  try simp only [Act.put, List.setIfInBounds_toArray, List.set_cons_zero, List.set_cons_succ]
  refine wpAnyH_take (i := 21) (oi := { dst := some 86, op := Op.move (Operand.tmp 85), type := 4, pos := _, after := _, guard := none }) (v := ?_) rfl (by kernel_rfl) (by kernel_rfl) (by kernel_rfl) (fun _ _ _ h => h) (Or.inl ⟨by rfl, ?_⟩) hHeld ?_
  rotate_left 1
  · (intro W hW; (try dsimp only at hW); go_simp; try with_reducible rfl)
  try simp only [Act.put, List.setIfInBounds_toArray, List.set_cons_zero, List.set_cons_succ]
  refine wpAnyH_take (i := 22) (oi := { dst := some 87, op := Op.load 28 (Operand.tmp 9), type := 28, pos := _, after := _, guard := some (21, true) }) (v := ?_) rfl (by kernel_rfl) (by kernel_rfl) (by kernel_rfl) (fun _ _ _ h => h) (Or.inl ⟨by rfl, ?_⟩) hHeld ?_
  rotate_left 1
  · (intro W hW; have k := HA.out.under hW HA.out.lt; have k0 := k.cell 0; have k1 := k.cell 1; have k2 := k.cell 2; have k3 := k.cell 3; have k4 := k.cell 4; have k5 := k.cell 5; (try dsimp only at hW); go_simp; try with_reducible rfl)
  try simp only [Act.put, List.setIfInBounds_toArray, List.set_cons_zero, List.set_cons_succ]
  refine wpAnyH_take (i := 23) (oi := { dst := some 88, op := Op.move (Operand.tmp 11), type := 29, pos := _, after := _, guard := some (21, true) }) (v := ?_) rfl (by kernel_rfl) (by kernel_rfl) (by kernel_rfl) (fun _ _ _ h => h) (Or.inl ⟨by rfl, ?_⟩) hHeld ?_
  rotate_left 1
  · (intro W hW; (try dsimp only at hW); go_simp; try with_reducible rfl)
  try simp only [Act.put, List.setIfInBounds_toArray, List.set_cons_zero, List.set_cons_succ]
  refine wpAnyH_take (i := 24) (oi := { dst := some 89, op := Op.move (Operand.tmp 12), type := 29, pos := _, after := _, guard := some (21, true) }) (v := ?_) rfl (by kernel_rfl) (by kernel_rfl) (by kernel_rfl) (fun _ _ _ h => h) (Or.inl ⟨by rfl, ?_⟩) hHeld ?_
  rotate_left 1
  · (intro W hW; (try dsimp only at hW); go_simp; try with_reducible rfl)
  try simp only [Act.put, List.setIfInBounds_toArray, List.set_cons_zero, List.set_cons_succ]
  refine wpAnyH_take (i := 25) (oi := { dst := some 90, op := Op.slice 29 (Operand.tmp 89) (some (Operand.const (Value.int IntKind.i64 1))) none none, type := 29, pos := _, after := _, guard := some (21, true) }) (v := ?_) rfl (by kernel_rfl) (by kernel_rfl) (by kernel_rfl) (fun _ _ _ h => h) (Or.inl ⟨by rfl, ?_⟩) hHeld ?_
  rotate_left 1
  · (intro W hW; have q := run_drop1 W A3 sz c3 (by omega) HC3.out; (try dsimp only at hW); go_simp; try with_reducible rfl)
  try simp only [Act.put, List.setIfInBounds_toArray, List.set_cons_zero, List.set_cons_succ]
  refine wpAnyH_ready (rs := [26]) (by kernel_rfl) (by simp) ?_
  refine AllReadyH.cons (o := { dst := some 91, op := Op.call { callee := Callee.value (Operand.func 11), args := #[Operand.tmp 87, Operand.tmp 88, Operand.tmp 90], argTypes := #[28, 29, 29] }, type := 4, pos := _, after := _, guard := some (21, true) }) rfl (fun K hK => ?_) AllReadyH.nil
  go_simp
  have hx := HVE.out u18 S18.out A2 c2 32 dg (HRD.out _ S18.out) HLD.out HOD.out (dropA A3 1 c3) (c3 - 1) (sz - 1) (b.drop 1) ((HRB.out _ S18.out).drop 1 HL26.out) HL27.out HO27.out
  rw [HV4.out] at hx
  refine (hx).mono ?_
  rintro e u26 ⟨rfl, hb⟩
  have S26 : Hid ((fun W => Below V.heap.size V W) u26) := Lib.hid (S18.out.trans (hb.mono S18.out.size))
  clear hb
  clear hx
  go_simp
  refine hK.out _ _ (S26.out) (fun _ => ?_)
  clear hK K hHeld
  try simp only [Act.put, List.setIfInBounds_toArray, List.set_cons_zero, List.set_cons_succ]
  have hHeld : ((fun W => Below V.heap.size V W)) u26 := S26.out
  refine wpAnyH_take (i := 27) (oi := { dst := some 92, op := Op.unOp UnOp.not 4 (Operand.tmp 91), type := 4, pos := _, after := _, guard := some (21, true) }) (v := ?_) rfl (by kernel_rfl) (by kernel_rfl) (by kernel_rfl) (fun _ _ _ h => h) (Or.inl ⟨by rfl, ?_⟩) hHeld ?_
  rotate_left 1
  · (intro W hW; (try dsimp only at hW); go_simp; try with_reducible rfl)
  try simp only [Act.put, List.setIfInBounds_toArray, List.set_cons_zero, List.set_cons_succ]
  refine wpAnyH_take (i := 28) (oi := { dst := some 93, op := Op.pick (Operand.tmp 86) (Operand.tmp 92) (Operand.const (Value.bool false)), type := 4, pos := _, after := _, guard := none }) (v := ?_) rfl (by kernel_rfl) (by kernel_rfl) (by kernel_rfl) (fun _ _ _ h => h) (Or.inl ⟨by rfl, ?_⟩) hHeld ?_
  rotate_left 1
  · (intro W hW; (try dsimp only at hW); go_simp; try with_reducible rfl)
  try simp only [Act.put, List.setIfInBounds_toArray, List.set_cons_zero, List.set_cons_succ]
  refine wpAnyH_take (i := 29) (oi := { dst := some 94, op := Op.move (Operand.tmp 93), type := 4, pos := _, after := _, guard := none }) (v := ?_) rfl (by kernel_rfl) (by kernel_rfl) (by kernel_rfl) (fun _ _ _ h => h) (Or.inl ⟨by rfl, ?_⟩) hHeld ?_
  rotate_left 1
  · (intro W hW; (try dsimp only at hW); go_simp; try with_reducible rfl)
  try simp only [Act.put, List.setIfInBounds_toArray, List.set_cons_zero, List.set_cons_succ]
  refine wpAnyH_ready (rs := [30]) (by kernel_rfl) (by simp) ?_
  refine AllReadyH.cons (o := { dst := some 95, op := Op.call { callee := Callee.value (Operand.func 13), args := #[], argTypes := #[] }, type := 4, pos := _, after := _, guard := some (29, true) }) rfl (fun K hK => ?_) AllReadyH.nil
  go_simp
  refine (known9_any u26).mono ?_
  rintro e u30 ⟨rfl, hb⟩
  have S30 : Hid ((fun W => Below V.heap.size V W) u30) := Lib.hid (S26.out.trans (hb.mono S26.out.size))
  clear hb
  go_simp
  refine hK.out _ _ (S30.out) (fun _ => ?_)
  clear hK K hHeld
  try simp only [Act.put, List.setIfInBounds_toArray, List.set_cons_zero, List.set_cons_succ]
  have hHeld : ((fun W => Below V.heap.size V W)) u30 := S30.out
  refine wpAnyH_take (i := 31) (oi := { dst := some 96, op := Op.pick (Operand.tmp 94) (Operand.tmp 95) (Operand.const (Value.bool false)), type := 4, pos := _, after := _, guard := none }) (v := ?_) rfl (by kernel_rfl) (by kernel_rfl) (by kernel_rfl) (fun _ _ _ h => h) (Or.inl ⟨by rfl, ?_⟩) hHeld ?_
  rotate_left 1
  · (intro W hW; (try dsimp only at hW); go_simp; try with_reducible rfl)
  try simp only [Act.put, List.setIfInBounds_toArray, List.set_cons_zero, List.set_cons_succ]
  refine wpAnyH_take (i := 32) (oi := { dst := some 8, op := Op.assign (Operand.tmp 96), type := 4, pos := _, after := _, guard := none }) (v := ?_) rfl (by kernel_rfl) (by kernel_rfl) (by kernel_rfl) (fun _ _ _ h => h) (Or.inl ⟨by rfl, ?_⟩) hHeld ?_
  rotate_left 1
  · (intro W hW; (try dsimp only at hW); go_simp; try with_reducible rfl)
  try simp only [Act.put, List.setIfInBounds_toArray, List.set_cons_zero, List.set_cons_succ]
  refine wpAnyH_done (by kernel_rfl) ?_ _
  refine NoPanic.normal ?_
  go_wp2_with fail
  go_ret
  exact ⟨rfl, HQ.out.trans (S30.out.mono HQ.out.size)⟩
end Go.Proofs.Ytebhpjbjfbadjaa
