/-
  A signature by RSA, as the document makes it.
-/
import Derived.Test.YtebhpjbjfbadjaaKrB
import Derived.Test.YtebhpjbjfbadjaaKrA
namespace Go.Proofs.Ytebhpjbjfbadjaa
open Go.RowKit
set_option linter.unusedVariables false
set_option linter.unusedSimpArgs false

/-- A signature: so many bytes whose number is v. -/
def SignPost (w : World) (sz v : Nat) (e : Ending) (w' : World) : Prop := ∃ A c b, e = .returned (.slice A sz c) ∧ b.length = sz ∧ (∀ x ∈ b, x < 256) ∧ val (numOf b) = v ∧ Rd .u8 w' w'.heap.size A c b ∧ Below w.heap.size w w'
set_option maxRecDepth 100000 in
set_option maxHeartbeats 8000000 in
theorem rsaSign'_any (w : World) (k : Ky) (h : KyP k w) (hok : rsaOk k.v = true) (hs : k.n.length ≤ 1000) (A2 : Option Addr) (c2 n2 : Nat) (r : List Nat) (D : Nat) (hr : Rd .u32 w w.heap.size A2 c2 r) (hn2 : r.length = n2) (hnu : NumIs r D) (hl2 : n2 ≤ 1000)
    (A3 : Option Addr) (c3 : Nat) (d : List Nat) (hd : Rd .u8 w w.heap.size A3 c3 d) (hdl : d.length = 32) (ho : ∀ x ∈ d, x < 256) :
    Calls Try.prog 16 #[.agg (kycell k).toArray, .slice A2 n2 c2, .slice A3 32 c3] w (SignPost w (rsaSize k.v) (val (numOf (frameL d (rsaSize k.v))) ^ D % val k.n)) := by
  have hoc := Off.of_ky h
  have hod := Off.of_rd hd (Nat.le_refl _)
  have hor := Off.of_rd hr (Nat.le_refl _)
  have hq0 : Below w.heap.size w (w.alloc (.cells (kycell k).toArray 28)) := (Below.refl _ _).alloc (Nat.le_refl _) _
  have hH0 := Holds.fresh w 28 (kycell k).toArray
  obtain ⟨hokn, he3⟩ := rsaOk_parts hok
  obtain ⟨hz1, hz2, hz3⟩ := rsaSize_bounds hok
  obtain ⟨sz, hsz⟩ : ∃ z, rsaSize k.v = z := ⟨_, rfl⟩
  obtain ⟨w1, hw1⟩ : ∃ W, W = w.alloc (.cells (kycell k).toArray 28) := ⟨_, rfl⟩
  rw [← hw1] at hq0 hH0
  have HSI : Hid (∀ W, Below w1.heap.size w1 W → Calls Try.prog 30 #[.agg (kycell k).toArray] W fun e w' => e = .returned (.int .i64 (sz : Int)) ∧ Below W.heap.size W w') := Lib.hid fun W hW => by
    have := rsaSize'_any W k ((hoc.under hq0).under hW).at_ (by omega)
    rw [hsz] at this
    exact this
  rw [hsz] at hz1 hz2 hz3 ⊢
  have HKN1 : Hid (∀ W, Below w1.heap.size w1 W → Rd .u32 W W.heap.size k.na k.nc k.n) := Lib.hid fun W hW => ((hoc.under hq0).under hW).at_.1
  have HD1 : Hid (∀ W, Below w1.heap.size w1 W → Rd .u8 W W.heap.size A3 c3 d) := Lib.hid fun W hW => ((hod.under hq0).under hW).at_
  have HDR1 : Hid (∀ W, Below w1.heap.size w1 W → Rd .u32 W W.heap.size A2 c2 r) := Lib.hid fun W hW => ((hor.under hq0).under hW).at_
  have hdgn := h.2.1
  have HB := Lib.hid hq0
  have HW := Lib.hid hw1
  obtain ⟨alg, na, nc, n, ee, xa, xc, x, ya, yc, y, inf⟩ := k
  simp only [kycell] at hH0 HW HSI ⊢
  dsimp only [Ky.v] at hs HKN1 hdgn hokn hz3 ⊢
  obtain ⟨nn, hnn⟩ : ∃ k, n.length = k := ⟨_, rfl⟩
  obtain ⟨xn, hxn⟩ : ∃ k, x.length = k := ⟨_, rfl⟩
  obtain ⟨yn, hyn⟩ : ∃ k, y.length = k := ⟨_, rfl⟩
  obtain ⟨zl, hzl⟩ : ∃ z, (numOf (frameL d sz)).length = z := ⟨_, rfl⟩
  have HL3 := Lib.hid hs
  have HL2 : Hid (r.length ≤ 1000) := Lib.hid (by rw [hn2]; exact hl2)
  have HL1 : Hid ((numOf (frameL d sz)).length ≤ 1000) := Lib.hid (by have := numOf_length (frameL d sz); omega)
  rw [hnn, hxn, hyn] at hH0 HW HSI ⊢
  have HC1 : Hid (∀ W, Below w1.heap.size w1 W → W.cell? ⟨w.heap.size, 0, none⟩ = some (.int .i64 alg) ∧ W.cell? ⟨w.heap.size, 1, none⟩ = some (.slice na nn nc) ∧ W.cell? ⟨w.heap.size, 2, none⟩ = some (.int .u32 (ee : Int)) ∧ W.cell? ⟨w.heap.size, 3, none⟩ = some (.slice xa xn xc) ∧ W.cell? ⟨w.heap.size, 4, none⟩ = some (.slice ya yn yc) ∧ W.cell? ⟨w.heap.size, 5, none⟩ = some (.bool inf)) := Lib.hid fun W hW => by
    have h := hH0.under hW hH0.lt
    exact ⟨h.cell 0, h.cell 1, h.cell 2, h.cell 3, h.cell 4, h.cell 5⟩
  have HNN := Lib.hid hnn
  have HN2 := Lib.hid hn2
  have HZL := Lib.hid hzl
  have HDL := Lib.hid hdl
  have HO := Lib.hid ho
  have HDG := Lib.hid hdgn
  have HNU := Lib.hid hnu
  have HNR := Lib.hid (okN_nrm hokn).2
  have HZ3 := Lib.hid hz3
  have HDS : Hid (Dg (numOf (frameL d sz))) := Lib.hid (numOf_dg (oct_rev (frameL_oct ho)))
  have HVN : Hid (val n ≠ 0) := Lib.hid fun e => by
    have h1 : nb n ≤ 0 := by
      have h2 := nb_mono ⟨hdgn, (okN_nrm hokn).2, rfl⟩ num_nil (by omega)
      rwa [show nb [] = 0 from nb_nil rfl] at h2
    have h3 : rsaSize ⟨alg, n, ee, x, y, inf⟩ = sz := hsz
    unfold rsaSize at h3
    dsimp only at h3
    omega
  obtain ⟨fv, hfv⟩ : ∃ v, val (numOf (frameL d sz)) = v := ⟨_, rfl⟩
  rw [hfv]
  have HVF := Lib.hid hfv
  have c0 := hH0.cell 0
  have c1 := hH0.cell 1
  have c2' := hH0.cell 2
  have c3' := hH0.cell 3
  have c4 := hH0.cell 4
  have c5 := hH0.cell 5
  rw [HW.out] at c0 c1 c2' c3' c4 c5
  clear h hok hoc hod hor hq0 hH0 hw1 hd hdl ho hr hn2 hnu hxn hyn hnn hzl hdgn hokn he3 hz3 hfv hs hl2 hsz
  go_enter Try.func16, Try.ntmps16
  go_wp2_with fail
  rw [← HW.out]
  refine (HSI.out w1 (Below.refl _ _)).mono ?_
  rintro e w2 ⟨rfl, hb2⟩
  have S2 := Lib.hid hb2
  clear c0 c1 c2' c3' c4 c5 hb2
  have HFR := Lib.hid (frame9_yes w2 _ A3 c3 d sz HDL.out (HD1.out w2 S2.out) (Nat.le_refl _) (by omega) (by omega))
  go_wp2_with fail
  refine HFR.out.mono ?_
  rintro e w3 ⟨A3b, c3b, rfl, hr3, hb3⟩
  have S3 : Hid (Below w1.heap.size w1 w3) := Lib.hid (S2.out.trans (hb3.mono S2.out.size))
  have ho3 := Off.of_rd hr3 (Nat.le_refl _)
  have hfo := frameL_oct (n := sz) HO.out
  have hfl := frameL_length HDL.out (show 62 ≤ sz by omega)
  have HOF : Hid (∀ W, Below w3.heap.size w3 W → Calls Try.prog 19 #[.slice A3b sz c3b] W fun e w' => ∃ A2 c2, e = .returned (.slice A2 zl c2) ∧ Rd .u32 w' w'.heap.size A2 c2 (numOf (frameL d sz)) ∧ Below W.heap.size W w') := Lib.hid fun W hW => ofN'_at W _ A3b c3b sz _ (ho3.under hW).at_ hfl (Nat.le_refl _) hfo zl HZL.out
  have HKN : Hid (∀ W, Below w3.heap.size w3 W → Rd .u32 W W.heap.size na nc n) := Lib.hid fun W hW => HKN1.out W (S3.out.trans (hW.mono S3.out.size))
  have HDR : Hid (∀ W, Below w3.heap.size w3 W → Rd .u32 W W.heap.size A2 c2 r) := Lib.hid fun W hW => HDR1.out W (S3.out.trans (hW.mono S3.out.size))
  have HC3 : Hid (∀ W, Below w3.heap.size w3 W → W.cell? ⟨w.heap.size, 0, none⟩ = some (.int .i64 alg) ∧ W.cell? ⟨w.heap.size, 1, none⟩ = some (.slice na nn nc) ∧ W.cell? ⟨w.heap.size, 2, none⟩ = some (.int .u32 (ee : Int)) ∧ W.cell? ⟨w.heap.size, 3, none⟩ = some (.slice xa xn xc) ∧ W.cell? ⟨w.heap.size, 4, none⟩ = some (.slice ya yn yc) ∧ W.cell? ⟨w.heap.size, 5, none⟩ = some (.bool inf)) := Lib.hid fun W hW => HC1.out W (S3.out.trans (hW.mono S3.out.size))
  clear hr3 hb3 ho3 hfo hfl HFR HKN1 HD1 HDR1 HC1
  go_wp2_with fail
  refine wp_region_noPanic ?_
  refine wp_region_held_drew (S := (fun W => Below w3.heap.size w3 W)) (by kernel_rfl) ((Below.refl _ _).drew) (fun hHeld => ?_)
  refine wpAnyH_take (i := 0) (oi := { dst := some 21, op := Op.move (Operand.tmp 7), type := 29, pos := _, after := _, guard := none }) (v := ?_) rfl (by kernel_rfl) (by kernel_rfl) (by kernel_rfl) (fun _ _ _ h => h) (Or.inl ⟨by rfl, ?_⟩) hHeld ?_
  rotate_left 1
  · (intro W hW; (try dsimp only at hW); go_simp; try with_reducible rfl)
  try simp only [Act.put, List.setIfInBounds_toArray, List.set_cons_zero, List.set_cons_succ]
  refine wpAnyH_take (i := 2) (oi := { dst := some 23, op := Op.move (Operand.tmp 1), type := 23, pos := _, after := _, guard := none }) (v := ?_) rfl (by kernel_rfl) (by kernel_rfl) (by kernel_rfl) (fun _ _ _ h => h) (Or.inl ⟨by rfl, ?_⟩) hHeld ?_
  rotate_left 1
  · (intro W hW; (try dsimp only at hW); go_simp; try with_reducible rfl)
  try simp only [Act.put, List.setIfInBounds_toArray, List.set_cons_zero, List.set_cons_succ]
  refine wpAnyH_take (i := 3) (oi := { dst := some 24, op := Op.fieldAddr 28 (Operand.tmp 3) 1, type := 0, pos := _, after := _, guard := none }) (v := ?_) rfl (by kernel_rfl) (by kernel_rfl) (by kernel_rfl) (fun _ _ _ h => h) (Or.inl ⟨by rfl, ?_⟩) hHeld ?_
  rotate_left 1
  · (intro W hW; (try dsimp only at hW); go_simp; try with_reducible rfl)
  try simp only [Act.put, List.setIfInBounds_toArray, List.set_cons_zero, List.set_cons_succ]
  refine wpAnyH_take (i := 4) (oi := { dst := some 25, op := Op.load 23 (Operand.tmp 24), type := 23, pos := _, after := _, guard := none }) (v := ?_) rfl (by kernel_rfl) (by kernel_rfl) (by kernel_rfl) (fun _ _ _ h => h) (Or.inl ⟨by rfl, ?_⟩) hHeld ?_
  rotate_left 1
  · (intro W hW; have k1 := (HC3.out W hW).2.1; (try dsimp only at hW); go_simp; try with_reducible rfl)
  try simp only [Act.put, List.setIfInBounds_toArray, List.set_cons_zero, List.set_cons_succ]
  refine wpAnyH_ready (rs := [1]) (by kernel_rfl) (by simp) ?_
  refine AllReadyH.cons (o := { dst := some 22, op := Op.call { callee := Callee.value (Operand.func 19), args := #[Operand.tmp 21], argTypes := #[29] }, type := 23, pos := _, after := _, guard := none }) rfl (fun K hK => ?_) AllReadyH.nil
  go_simp
  refine (HOF.out _ hHeld).mono ?_
  rintro e w4 ⟨A4, c4, rfl, hr4, hb⟩
  have S4 : Hid (Below w3.heap.size w3 w4) := Lib.hid (hHeld.trans (hb.mono hHeld.size))
  have HR4 := Lib.hid hr4
  clear hb hr4
  go_simp
  refine hK.out _ _ (S4.out) (fun _ => ?_)
  clear hK K hHeld
  try simp only [Act.put, List.setIfInBounds_toArray, List.set_cons_zero, List.set_cons_succ]
  have hHeld : ((fun W => Below w3.heap.size w3 W)) w4 := S4.out
  refine wpAnyH_ready (rs := [5]) (by kernel_rfl) (by simp) ?_
  refine AllReadyH.cons (o := { dst := some 26, op := Op.call { callee := Callee.value (Operand.func 32), args := #[Operand.tmp 22, Operand.tmp 23, Operand.tmp 25], argTypes := #[23, 23, 23] }, type := 50, pos := _, after := _, guard := none }) rfl (fun K hK => ?_) AllReadyH.nil
  go_simp
  have HEX := Lib.hid (exp8_yes w4 A4 A2 na c4 c2 nc (numOf (frameL d sz)) r n HR4.out (HDR.out w4 S4.out) (HKN.out w4 S4.out) HDS.out HNU.out.1 HDG.out HL1.out HL2.out HL3.out HVN.out (numOf_nrm _) HNU.out.2.1 HNR.out)
  rw [HZL.out, HN2.out, HNN.out, HNU.out.2.2, HVF.out] at HEX
  refine HEX.out.mono ?_
  rintro e w5 ⟨A5, c5, r5, rfl, hn5, hr5, hb⟩
  have S5 : Hid (Below w3.heap.size w3 w5) := Lib.hid (S4.out.trans (hb.mono S4.out.size))
  have HN5 := Lib.hid hn5
  have HR5 := Lib.hid hr5
  obtain ⟨m5, hm5⟩ : ∃ m, r5.length = m := ⟨_, rfl⟩
  rw [hm5]
  have HM5 := Lib.hid hm5
  clear hb hn5 hr5 hm5 HEX
  go_simp
  refine hK.out _ _ (S5.out) (fun _ => ?_)
  clear hK K hHeld
  try simp only [Act.put, List.setIfInBounds_toArray, List.set_cons_zero, List.set_cons_succ]
  have hHeld : ((fun W => Below w3.heap.size w3 W)) w5 := S5.out
  refine wpAnyH_take (i := 6) (oi := { dst := some 20, op := Op.move (Operand.tmp 26), type := 50, pos := _, after := _, guard := none }) (v := ?_) rfl (by kernel_rfl) (by kernel_rfl) (by kernel_rfl) (fun _ _ _ h => h) (Or.inl ⟨by rfl, ?_⟩) hHeld ?_
  rotate_left 1
  · (intro W hW; (try dsimp only at hW); go_simp; try with_reducible rfl)
  try simp only [Act.put, List.setIfInBounds_toArray, List.set_cons_zero, List.set_cons_succ]
  refine wpAnyH_take (i := 7) (oi := { dst := some 27, op := Op.extract (Operand.tmp 20) 0, type := 23, pos := _, after := _, guard := none }) (v := ?_) rfl (by kernel_rfl) (by kernel_rfl) (by kernel_rfl) (fun _ _ _ h => h) (Or.inl ⟨by rfl, ?_⟩) hHeld ?_
  rotate_left 1
  · (intro W hW; (try dsimp only at hW); go_simp; try with_reducible rfl)
  try simp only [Act.put, List.setIfInBounds_toArray, List.set_cons_zero, List.set_cons_succ]
  refine wpAnyH_take (i := 8) (oi := { dst := some 28, op := Op.extract (Operand.tmp 20) 1, type := 4, pos := _, after := _, guard := none }) (v := ?_) rfl (by kernel_rfl) (by kernel_rfl) (by kernel_rfl) (fun _ _ _ h => h) (Or.inl ⟨by rfl, ?_⟩) hHeld ?_
  rotate_left 1
  · (intro W hW; (try dsimp only at hW); go_simp; try with_reducible rfl)
  try simp only [Act.put, List.setIfInBounds_toArray, List.set_cons_zero, List.set_cons_succ]
  refine wpAnyH_take (i := 9) (oi := { dst := some 9, op := Op.assign (Operand.tmp 27), type := 23, pos := _, after := _, guard := none }) (v := ?_) rfl (by kernel_rfl) (by kernel_rfl) (by kernel_rfl) (fun _ _ _ h => h) (Or.inl ⟨by rfl, ?_⟩) hHeld ?_
  rotate_left 1
  · (intro W hW; (try dsimp only at hW); go_simp; try with_reducible rfl)
  try simp only [Act.put, List.setIfInBounds_toArray, List.set_cons_zero, List.set_cons_succ]
  refine wpAnyH_take (i := 10) (oi := { dst := some 10, op := Op.assign (Operand.tmp 28), type := 4, pos := _, after := _, guard := none }) (v := ?_) rfl (by kernel_rfl) (by kernel_rfl) (by kernel_rfl) (fun _ _ _ h => h) (Or.inl ⟨by rfl, ?_⟩) hHeld ?_
  rotate_left 1
  · (intro W hW; (try dsimp only at hW); go_simp; try with_reducible rfl)
  try simp only [Act.put, List.setIfInBounds_toArray, List.set_cons_zero, List.set_cons_succ]
  refine wpAnyH_done (by kernel_rfl) ?_ _
  refine NoPanic.normal ?_
  obtain ⟨k0, k1, k2, k3, k4, k5⟩ := HC3.out w5 S5.out
  go_wp2_with fail
  refine (HSI.out w5 (S3.out.trans (S5.out.mono S3.out.size))).mono ?_
  rintro e w6 ⟨rfl, hb6⟩
  have hr6 := rd_next HR5.out (Nat.le_refl _) hb6
  have hfit : nb r5 ≤ 8 * sz := Nat.le_trans (nb_mono HN5.out ⟨HDG.out, HNR.out, rfl⟩ (Nat.le_of_lt (Nat.mod_lt _ (Nat.pos_of_ne_zero HVN.out)))) HZ3.out
  obtain ⟨hfs, hout⟩ := out_fit (show sz ≤ 1024 by omega) hfit
  have hlen5 : r5.length ≤ 5000 := by
    have h1 := num_len' HN5.out (k := 1000) (Nat.lt_of_lt_of_le (Nat.lt_trans (Nat.mod_lt _ (Nat.pos_of_ne_zero HVN.out)) (val_lt HDG.out)) (pw_mono HL3.out))
    omega
  have HBY := Lib.hid (bytes'_all w6 _ A5 c5 r5 hr6 (Nat.le_refl _) HN5.out.1 hlen5 (sz : Int))
  rw [hfs, hout, HM5.out] at HBY
  have S6 : Hid (Below w3.heap.size w3 w6) := Lib.hid (S5.out.trans (hb6.mono S5.out.size))
  have HFI := Lib.hid hfit
  clear k0 k1 k2 k3 k4 k5 hb6 hr6 hfs hout hlen5 hfit
  go_wp2_with fail
  refine HBY.out.mono ?_
  rintro e w9 ⟨A9, c9, rfl, hf9, hb9⟩
  have S9 : Hid (Below w3.heap.size w3 w9) := Lib.hid (S6.out.trans (hb9.mono S6.out.size))
  rw [bytesOf_length]
  have HR9 := Lib.hid hf9.1
  clear hf9 hb9 HBY
  go_wp2_with fail
  go_ret
  have hbo : ∀ x ∈ bytesOf r5 sz, x < 256 := fun x hx => by
    obtain ⟨i, _, rfl⟩ := List.mem_map.1 hx
    exact byteAt_lt _ _
  refine ⟨A9, c9, bytesOf r5 sz, rfl, bytesOf_length _ _, hbo, ?_, HR9.out, HB.out.trans ((S3.out.trans (S9.out.mono S3.out.size)).mono HB.out.size)⟩
  rw [numOf_bytesOf HN5.out.1 HN5.out.2.1 HFI.out (by omega)]
  exact HN5.out.2.2
end Go.Proofs.Ytebhpjbjfbadjaa
