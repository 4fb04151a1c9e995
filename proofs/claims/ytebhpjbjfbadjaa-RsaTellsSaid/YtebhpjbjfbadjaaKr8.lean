/-
  The law: any key, any digest, any bytes (statement RsaTells).
-/
import Derived.Test.YtebhpjbjfbadjaaKr7
namespace Go.Proofs.Ytebhpjbjfbadjaa
open Go.RowKit
set_option linter.unusedVariables false
set_option linter.unusedSimpArgs false

set_option maxRecDepth 100000 in
set_option maxHeartbeats 8000000 in
theorem law_rsaTells (w : World) (k : Ky) (h : KyP k w) (A2 : Option Addr) (c2 dn : Nat) (d : List Nat) (hdn : d.length = dn) (hd : Rd .u8 w w.heap.size A2 c2 d) (ho : ∀ x ∈ d, x < 256)
    (A3 : Option Addr) (c3 sn : Nat) (s : List Nat) (hsn : s.length = sn) (hs : Rd .u8 w w.heap.size A3 c3 s) (ho3 : ∀ x ∈ s, x < 256) (n : Int) :
    Calls Try.prog 3 #[.agg (kycell k).toArray, .slice A2 dn c2, .slice A3 sn c3, .int .i64 n] w fun e w' => e = .returned (.bool true) ∧ Below w.heap.size w w' := by
  have hoc := Off.of_ky h
  have hod := Off.of_rd hd (Nat.le_refl _)
  have hos := Off.of_rd hs (Nat.le_refl _)
  have hq0 : Below w.heap.size w (w.alloc (.cells (kycell k).toArray 28)) := (Below.refl _ _).alloc (Nat.le_refl _) _
  have hH0 := Holds.fresh w 28 (kycell k).toArray
  obtain ⟨V0, hV0⟩ : ∃ W, W = w.alloc (.cells (kycell k).toArray 28) := ⟨_, rfl⟩
  rw [← hV0] at hq0 hH0
  obtain ⟨ok, hok⟩ : ∃ b, b = rsaOk k.v := ⟨_, rfl⟩
  obtain ⟨vr, hvr⟩ : ∃ b, b = rsaVer k.v d s := ⟨_, rfl⟩
  have GIS : Hid (k.n.length ≤ 200 → ∀ W, Below V0.heap.size V0 W → Calls Try.prog 9 #[.agg (kycell k).toArray] W fun e w' => e = .returned (.bool ok) ∧ Below W.heap.size W w') := Lib.hid fun hn W hW => by
    have := rsaIs_any W k ((hoc.under hq0).under hW).at_ (by omega)
    rwa [← hok] at this
  have GIS2 : Hid (k.n.length ≤ 200 → k.x.length ≤ 100000 ∧ k.y.length ≤ 100000 → ∀ W, Below V0.heap.size V0 W → Calls Try.prog 10 #[.agg (kycell k).toArray] W fun e w' => e = .returned (.bool ok) ∧ Below W.heap.size W w') := Lib.hid fun hn hxy W hW => by
    have := rsaIs'_any W k ((hoc.under hq0).under hW).at_ (by omega) hxy
    rwa [← hok] at this
  have GVE : Hid (k.n.length ≤ 200 → k.x.length ≤ 100000 ∧ k.y.length ≤ 100000 → ∀ W, Below V0.heap.size V0 W → Calls Try.prog 11 #[.agg (kycell k).toArray, .slice A2 dn c2, .slice A3 sn c3] W fun e w' => e = .returned (.bool vr) ∧ Below W.heap.size W w') := Lib.hid fun hn hxy W hW => by
    have := rsaVerify_any W k ((hoc.under hq0).under hW).at_ (by omega) hxy A2 c2 dn d ((hod.under hq0).under hW).at_ hdn ho A3 c3 sn s ((hos.under hq0).under hW).at_ hsn ho3
    rwa [← hvr] at this
  have GVE2 : Hid (k.n.length ≤ 200 → k.x.length ≤ 100000 ∧ k.y.length ≤ 100000 → ∀ W, Below V0.heap.size V0 W → Calls Try.prog 12 #[.agg (kycell k).toArray, .slice A2 dn c2, .slice A3 sn c3] W fun e w' => e = .returned (.bool vr) ∧ Below W.heap.size W w') := Lib.hid fun hn hxy W hW => by
    have := rsaVerify'_any W k ((hoc.under hq0).under hW).at_ (by omega) hxy A2 c2 dn d ((hod.under hq0).under hW).at_ hdn ho A3 c3 sn s ((hos.under hq0).under hW).at_ hsn ho3
    rwa [← hvr] at this
  obtain ⟨L, hL⟩ : ∃ L, L = frL d n := ⟨_, rfl⟩
  obtain ⟨fo, hfo⟩ : ∃ b, b = frOk d n := ⟨_, rfl⟩
  obtain ⟨m, hm⟩ : ∃ k, L.length = k := ⟨_, rfl⟩
  have GFR : Hid (∀ W, Below V0.heap.size V0 W → Calls Try.prog 7 #[.slice A2 dn c2, .int .i64 n] W (FrPost W L fo m)) := Lib.hid fun W hW => by
    rw [hL, hfo, ← hm, hL]
    exact frame_all W A2 c2 dn d hdn ((hod.under hq0).under hW).at_ n
  have GFR2 : Hid (∀ W, Below V0.heap.size V0 W → Calls Try.prog 8 #[.slice A2 dn c2, .int .i64 n] W (FrPost W L fo m)) := Lib.hid fun W hW => by
    rw [hL, hfo, ← hm, hL]
    exact frame9_all W A2 c2 dn d hdn ((hod.under hq0).under hW).at_ n
  have HLO : Hid (∀ x ∈ L, x < 256) := Lib.hid (by rw [hL]; exact frL_oct ho)
  have HM := Lib.hid hm
  have HB0 := Lib.hid hq0
  have HV0 := Lib.hid hV0
  clear hok hvr hL hfo hm hdn hd ho hsn hs ho3 hoc hod hos hV0 h
  obtain ⟨alg, na, nc, N, ee, xa, xc, x, ya, yc, y, inf⟩ := k
  simp only [kycell] at *
  generalize N.length = nn at *
  generalize x.length = xn at *
  generalize y.length = yn at *
  have c0 := hH0.cell 0
  have c1 := hH0.cell 1
  have c2' := hH0.cell 2
  have c3' := hH0.cell 3
  have c4 := hH0.cell 4
  have c5 := hH0.cell 5
  rw [HV0.out] at c1 c3' c4
  clear c0 c2' c5
  by_cases h1 : 200 < nn
  case pos =>
    have t1 : decide ((200 : Int) < (nn : Int)) = true := decide_eq_true (by omega)
    have t1' : decide (200 < nn) = true := decide_eq_true (by omega)
    clear h1
    go_enter Try.func3, Try.ntmps3
    go_wp2_with fail
    go_ret
    exact ⟨rfl, by rw [← HV0.out]; exact HB0.out⟩
  have h1d : decide ((200 : Int) < (nn : Int)) = false := decide_eq_false (by omega)
  have h1e : decide (200 < nn) = false := decide_eq_false (by omega)
  by_cases h2 : 100 < dn
  case pos =>
    have t1 : decide ((100 : Int) < (dn : Int)) = true := decide_eq_true (by omega)
    have t1' : decide (100 < dn) = true := decide_eq_true (by omega)
    clear h2
    go_enter Try.func3, Try.ntmps3
    go_wp2_with fail
    go_ret
    exact ⟨rfl, by rw [← HV0.out]; exact HB0.out⟩
  have h2d : decide ((100 : Int) < (dn : Int)) = false := decide_eq_false (by omega)
  have h2e : decide (100 < dn) = false := decide_eq_false (by omega)
  by_cases h3 : 700 < sn
  case pos =>
    have t1 : decide ((700 : Int) < (sn : Int)) = true := decide_eq_true (by omega)
    have t1' : decide (700 < sn) = true := decide_eq_true (by omega)
    clear h3
    go_enter Try.func3, Try.ntmps3
    go_wp2_with fail
    go_ret
    exact ⟨rfl, by rw [← HV0.out]; exact HB0.out⟩
  have h3d : decide ((700 : Int) < (sn : Int)) = false := decide_eq_false (by omega)
  have h3e : decide (700 < sn) = false := decide_eq_false (by omega)
  by_cases h4 : 40 < xn
  case pos =>
    have t1 : decide ((40 : Int) < (xn : Int)) = true := decide_eq_true (by omega)
    have t1' : decide (40 < xn) = true := decide_eq_true (by omega)
    clear h4
    go_enter Try.func3, Try.ntmps3
    go_wp2_with fail
    go_ret
    exact ⟨rfl, by rw [← HV0.out]; exact HB0.out⟩
  have h4d : decide ((40 : Int) < (xn : Int)) = false := decide_eq_false (by omega)
  have h4e : decide (40 < xn) = false := decide_eq_false (by omega)
  by_cases h5 : 40 < yn
  case pos =>
    have t1 : decide ((40 : Int) < (yn : Int)) = true := decide_eq_true (by omega)
    have t1' : decide (40 < yn) = true := decide_eq_true (by omega)
    clear h5
    go_enter Try.func3, Try.ntmps3
    go_wp2_with fail
    go_ret
    exact ⟨rfl, by rw [← HV0.out]; exact HB0.out⟩
  have h5d : decide ((40 : Int) < (yn : Int)) = false := decide_eq_false (by omega)
  have h5e : decide (40 < yn) = false := decide_eq_false (by omega)
  have HIS0 := Lib.hid (GIS.out (by omega))
  have HIS20 := Lib.hid (GIS2.out (by omega) (by omega))
  have HVE0 := Lib.hid (GVE.out (by omega) (by omega))
  have HVE20 := Lib.hid (GVE2.out (by omega) (by omega))
  clear GIS GIS2 GVE GVE2 h1 h2 h3 h4 h5
  go_enter Try.func3, Try.ntmps3
  go_wp2_with fail
  rw [← HV0.out]
  refine (GFR.out V0 (Below.refl _ _)).mono ?_
  rintro e u1 ⟨A4, c4b, rfl, hr4, hb4⟩
  have U1 : Hid (Below V0.heap.size V0 u1) := Lib.hid hb4
  have HR4 := Lib.hid (Off.of_rd hr4 (Nat.le_refl _))
  clear c1 c3' c4 hr4 hb4
  go_wp2_with fail
  refine (GFR2.out u1 U1.out).mono ?_
  rintro e V ⟨A5, c5b, rfl, hr5, hb5⟩
  have U2 : Hid (Below V0.heap.size V0 V) := Lib.hid (U1.out.trans (hb5.mono U1.out.size))
  have HR4b := Lib.hid (HR4.out.under hb5)
  have HR5 := Lib.hid (Off.of_rd hr5 (Nat.le_refl _))
  have HUP : Hid (∀ W, Below V.heap.size V W → Below V0.heap.size V0 W) := Lib.hid fun W hW => U2.out.trans (hW.mono U2.out.size)
  have S0 : Hid ((fun W => Below V.heap.size V W) V) := Lib.hid (Below.refl _ _)
  have HA := Lib.hid (hH0.under U2.out hH0.lt)
  have HIS := Lib.hid fun W (hW : Below V.heap.size V W) => HIS0.out W (HUP.out W hW)
  have HIS2 := Lib.hid fun W (hW : Below V.heap.size V W) => HIS20.out W (HUP.out W hW)
  have HVE := Lib.hid fun W (hW : Below V.heap.size V W) => HVE0.out W (HUP.out W hW)
  have HVE2 := Lib.hid fun W (hW : Below V.heap.size V W) => HVE20.out W (HUP.out W hW)
  have HQA := Lib.hid fun W (hW : Below V.heap.size V W) => conv_str (HR4b.out.under hW).at_ HM.out HLO.out
  have HQB := Lib.hid fun W (hW : Below V.heap.size V W) => conv_str (HR5.out.under hW).at_ HM.out HLO.out
  have HQ : Hid (Below w.heap.size w V) := Lib.hid (HB0.out.trans (U2.out.mono HB0.out.size))
  clear hr5 hb5 HR4 HR4b HR5 HUP HIS0 HIS20 HVE0 HVE20 U1 U2 GFR GFR2 hH0 HM HLO
  generalize str L = st at *
  go_wp2_with fail
  refine wp_region_noPanic ?_
  refine wp_region_held_drew (S := (fun W => Below V.heap.size V W)) (by kernel_rfl) (S0.out.drew) (fun hHeld => ?_)
  refine wpAnyH_take (i := 0) (oi := { dst := some 53, op := Op.load 28 (Operand.tmp 4), type := 28, pos := _, after := _, guard := none }) (v := ?_) rfl (by kernel_rfl) (by kernel_rfl) (by kernel_rfl) (fun _ _ _ h => h) (Or.inl ⟨by rfl, ?_⟩) hHeld ?_
  rotate_left 1
  · (intro W hW; have k := HA.out.under hW HA.out.lt; have k0 := k.cell 0; have k1 := k.cell 1; have k2 := k.cell 2; have k3 := k.cell 3; have k4 := k.cell 4; have k5 := k.cell 5; (try dsimp only at hW); go_simp; try with_reducible rfl)
  try simp only [Act.put, List.setIfInBounds_toArray, List.set_cons_zero, List.set_cons_succ]
  refine wpAnyH_take (i := 2) (oi := { dst := some 55, op := Op.load 28 (Operand.tmp 4), type := 28, pos := _, after := _, guard := none }) (v := ?_) rfl (by kernel_rfl) (by kernel_rfl) (by kernel_rfl) (fun _ _ _ h => h) (Or.inl ⟨by rfl, ?_⟩) hHeld ?_
  rotate_left 1
  · (intro W hW; have k := HA.out.under hW HA.out.lt; have k0 := k.cell 0; have k1 := k.cell 1; have k2 := k.cell 2; have k3 := k.cell 3; have k4 := k.cell 4; have k5 := k.cell 5; (try dsimp only at hW); go_simp; try with_reducible rfl)
  try simp only [Act.put, List.setIfInBounds_toArray, List.set_cons_zero, List.set_cons_succ]
  refine wpAnyH_ready (rs := [1]) (by kernel_rfl) (by simp) ?_
  refine AllReadyH.cons (o := { dst := some 54, op := Op.call { callee := Callee.value (Operand.func 9), args := #[Operand.tmp 53], argTypes := #[28] }, type := 4, pos := _, after := _, guard := none }) rfl (fun K hK => ?_) AllReadyH.nil
  go_simp
  refine (HIS.out _ S0.out.drew).mono ?_
  rintro e w1 ⟨rfl, hb⟩
  have S1 : Hid ((fun W => Below V.heap.size V W) w1) := Lib.hid (S0.out.drew.trans (hb.mono S0.out.drew.size))
  clear hb
  go_simp
  refine hK.out _ _ (S1.out) (fun _ => ?_)
  clear hK K hHeld
  try simp only [Act.put, List.setIfInBounds_toArray, List.set_cons_zero, List.set_cons_succ]
  have hHeld : ((fun W => Below V.heap.size V W)) w1 := S1.out
  refine wpAnyH_ready (rs := [3]) (by kernel_rfl) (by simp) ?_
  refine AllReadyH.cons (o := { dst := some 56, op := Op.call { callee := Callee.value (Operand.func 10), args := #[Operand.tmp 55], argTypes := #[28] }, type := 4, pos := _, after := _, guard := none }) rfl (fun K hK => ?_) AllReadyH.nil
  go_simp
  refine (HIS2.out _ S1.out).mono ?_
  rintro e w3 ⟨rfl, hb⟩
  have S3 : Hid ((fun W => Below V.heap.size V W) w3) := Lib.hid (S1.out.trans (hb.mono S1.out.size))
  clear hb
  go_simp
  refine hK.out _ _ (S3.out) (fun _ => ?_)
  clear hK K hHeld
  try simp only [Act.put, List.setIfInBounds_toArray, List.set_cons_zero, List.set_cons_succ]
  have hHeld : ((fun W => Below V.heap.size V W)) w3 := S3.out
  refine wpAnyH_take (i := 4) (oi := { dst := some 57, op := Op.binOp BinOp.eql 4 (Operand.tmp 54) (Operand.tmp 56) 4, type := 4, pos := _, after := _, guard := none }) (v := ?_) rfl (by kernel_rfl) (by kernel_rfl) (by kernel_rfl) (fun _ _ _ h => h) (Or.inl ⟨by rfl, ?_⟩) hHeld ?_
  rotate_left 1
  · (intro W hW; (try dsimp only at hW); go_simp; try with_reducible rfl)
  try simp only [Act.put, List.setIfInBounds_toArray, List.set_cons_zero, List.set_cons_succ]
  refine wpAnyH_take (i := 5) (oi := { dst := some 58, op := Op.move (Operand.tmp 57), type := 4, pos := _, after := _, guard := none }) (v := ?_) rfl (by kernel_rfl) (by kernel_rfl) (by kernel_rfl) (fun _ _ _ h => h) (Or.inl ⟨by rfl, ?_⟩) hHeld ?_
  rotate_left 1
  · (intro W hW; (try dsimp only at hW); go_simp; try with_reducible rfl)
  try simp only [Act.put, List.setIfInBounds_toArray, List.set_cons_zero, List.set_cons_succ]
  refine wpAnyH_take (i := 6) (oi := { dst := some 59, op := Op.load 28 (Operand.tmp 4), type := 28, pos := _, after := _, guard := some (5, true) }) (v := ?_) rfl (by kernel_rfl) (by kernel_rfl) (by kernel_rfl) (fun _ _ _ h => h) (Or.inl ⟨by rfl, ?_⟩) hHeld ?_
  rotate_left 1
  · (intro W hW; have k := HA.out.under hW HA.out.lt; have k0 := k.cell 0; have k1 := k.cell 1; have k2 := k.cell 2; have k3 := k.cell 3; have k4 := k.cell 4; have k5 := k.cell 5; (try dsimp only at hW); go_simp; try with_reducible rfl)
  try simp only [Act.put, List.setIfInBounds_toArray, List.set_cons_zero, List.set_cons_succ]
  refine wpAnyH_take (i := 7) (oi := { dst := some 60, op := Op.move (Operand.tmp 1), type := 29, pos := _, after := _, guard := some (5, true) }) (v := ?_) rfl (by kernel_rfl) (by kernel_rfl) (by kernel_rfl) (fun _ _ _ h => h) (Or.inl ⟨by rfl, ?_⟩) hHeld ?_
  rotate_left 1
  · (intro W hW; (try dsimp only at hW); go_simp; try with_reducible rfl)
  try simp only [Act.put, List.setIfInBounds_toArray, List.set_cons_zero, List.set_cons_succ]
  refine wpAnyH_take (i := 8) (oi := { dst := some 61, op := Op.move (Operand.tmp 2), type := 29, pos := _, after := _, guard := some (5, true) }) (v := ?_) rfl (by kernel_rfl) (by kernel_rfl) (by kernel_rfl) (fun _ _ _ h => h) (Or.inl ⟨by rfl, ?_⟩) hHeld ?_
  rotate_left 1
  · (intro W hW; (try dsimp only at hW); go_simp; try with_reducible rfl)
  try simp only [Act.put, List.setIfInBounds_toArray, List.set_cons_zero, List.set_cons_succ]
  refine wpAnyH_take (i := 10) (oi := { dst := some 63, op := Op.load 28 (Operand.tmp 4), type := 28, pos := _, after := _, guard := some (5, true) }) (v := ?_) rfl (by kernel_rfl) (by kernel_rfl) (by kernel_rfl) (fun _ _ _ h => h) (Or.inl ⟨by rfl, ?_⟩) hHeld ?_
  rotate_left 1
  · (intro W hW; have k := HA.out.under hW HA.out.lt; have k0 := k.cell 0; have k1 := k.cell 1; have k2 := k.cell 2; have k3 := k.cell 3; have k4 := k.cell 4; have k5 := k.cell 5; (try dsimp only at hW); go_simp; try with_reducible rfl)
  try simp only [Act.put, List.setIfInBounds_toArray, List.set_cons_zero, List.set_cons_succ]
  refine wpAnyH_take (i := 11) (oi := { dst := some 64, op := Op.move (Operand.tmp 1), type := 29, pos := _, after := _, guard := some (5, true) }) (v := ?_) rfl (by kernel_rfl) (by kernel_rfl) (by kernel_rfl) (fun _ _ _ h => h) (Or.inl ⟨by rfl, ?_⟩) hHeld ?_
  rotate_left 1
  · (intro W hW; (try dsimp only at hW); go_simp; try with_reducible rfl)
  try simp only [Act.put, List.setIfInBounds_toArray, List.set_cons_zero, List.set_cons_succ]
  refine wpAnyH_take (i := 12) (oi := { dst := some 65, op := Op.move (Operand.tmp 2), type := 29, pos := _, after := _, guard := some (5, true) }) (v := ?_) rfl (by kernel_rfl) (by kernel_rfl) (by kernel_rfl) (fun _ _ _ h => h) (Or.inl ⟨by rfl, ?_⟩) hHeld ?_
  rotate_left 1
  · (intro W hW; (try dsimp only at hW); go_simp; try with_reducible rfl)
  try simp only [Act.put, List.setIfInBounds_toArray, List.set_cons_zero, List.set_cons_succ]
  refine wpAnyH_ready (rs := [9]) (by kernel_rfl) (by simp) ?_
  refine AllReadyH.cons (o := { dst := some 62, op := Op.call { callee := Callee.value (Operand.func 11), args := #[Operand.tmp 59, Operand.tmp 60, Operand.tmp 61], argTypes := #[28, 29, 29] }, type := 4, pos := _, after := _, guard := some (5, true) }) rfl (fun K hK => ?_) AllReadyH.nil
  go_simp
  refine (HVE.out _ S3.out).mono ?_
  rintro e w9 ⟨rfl, hb⟩
  have S9 : Hid ((fun W => Below V.heap.size V W) w9) := Lib.hid (S3.out.trans (hb.mono S3.out.size))
  clear hb
  go_simp
  refine hK.out _ _ (S9.out) (fun _ => ?_)
  clear hK K hHeld
  try simp only [Act.put, List.setIfInBounds_toArray, List.set_cons_zero, List.set_cons_succ]
  have hHeld : ((fun W => Below V.heap.size V W)) w9 := S9.out
  refine wpAnyH_ready (rs := [13]) (by kernel_rfl) (by simp) ?_
  refine AllReadyH.cons (o := { dst := some 66, op := Op.call { callee := Callee.value (Operand.func 12), args := #[Operand.tmp 63, Operand.tmp 64, Operand.tmp 65], argTypes := #[28, 29, 29] }, type := 4, pos := _, after := _, guard := some (5, true) }) rfl (fun K hK => ?_) AllReadyH.nil
  go_simp
  refine (HVE2.out _ S9.out).mono ?_
  rintro e w13 ⟨rfl, hb⟩
  have S13 : Hid ((fun W => Below V.heap.size V W) w13) := Lib.hid (S9.out.trans (hb.mono S9.out.size))
  clear hb
  go_simp
  refine hK.out _ _ (S13.out) (fun _ => ?_)
  clear hK K hHeld
  try simp only [Act.put, List.setIfInBounds_toArray, List.set_cons_zero, List.set_cons_succ]
  have hHeld : ((fun W => Below V.heap.size V W)) w13 := S13.out
  refine wpAnyH_take (i := 14) (oi := { dst := some 67, op := Op.binOp BinOp.eql 4 (Operand.tmp 62) (Operand.tmp 66) 4, type := 4, pos := _, after := _, guard := some (5, true) }) (v := ?_) rfl (by kernel_rfl) (by kernel_rfl) (by kernel_rfl) (fun _ _ _ h => h) (Or.inl ⟨by rfl, ?_⟩) hHeld ?_
  rotate_left 1
  · (intro W hW; (try dsimp only at hW); go_simp; try with_reducible rfl)
  try simp only [Act.put, List.setIfInBounds_toArray, List.set_cons_zero, List.set_cons_succ]
  refine wpAnyH_take (i := 15) (oi := { dst := some 68, op := Op.pick (Operand.tmp 58) (Operand.tmp 67) (Operand.const (Value.bool false)), type := 4, pos := _, after := _, guard := none }) (v := ?_) rfl (by kernel_rfl) (by kernel_rfl) (by kernel_rfl) (fun _ _ _ h => h) (Or.inl ⟨by rfl, ?_⟩) hHeld ?_
  rotate_left 1
  · (intro W hW; (try dsimp only at hW); go_simp; try with_reducible rfl)
  try simp only [Act.put, List.setIfInBounds_toArray, List.set_cons_zero, List.set_cons_succ]
  refine wpAnyH_take (i := 16) (oi := { dst := some 69, op := Op.move (Operand.tmp 68), type := 4, pos := _, after := _, guard := none }) (v := ?_) rfl (by kernel_rfl) (by kernel_rfl) (by kernel_rfl) (fun _ _ _ h => h) (Or.inl ⟨by rfl, ?_⟩) hHeld ?_
  rotate_left 1
  · (intro W hW; (try dsimp only at hW); go_simp; try with_reducible rfl)
  try simp only [Act.put, List.setIfInBounds_toArray, List.set_cons_zero, List.set_cons_succ]
  refine wpAnyH_take (i := 17) (oi := { dst := some 70, op := Op.move (Operand.tmp 9), type := 29, pos := _, after := _, guard := some (16, true) }) (v := ?_) rfl (by kernel_rfl) (by kernel_rfl) (by kernel_rfl) (fun _ _ _ h => h) (Or.inl ⟨by rfl, ?_⟩) hHeld ?_
  rotate_left 1
  · (intro W hW; (try dsimp only at hW); go_simp; try with_reducible rfl)
  try simp only [Act.put, List.setIfInBounds_toArray, List.set_cons_zero, List.set_cons_succ]
  refine wpAnyH_take (i := 18) (oi := { dst := some 71, op := Op.convert 29 9 (Operand.tmp 70), type := 9, pos := _, after := _, guard := some (16, true) }) (v := ?_) rfl (by kernel_rfl) (by kernel_rfl) (by kernel_rfl) (fun _ _ _ h => h) (Or.inl ⟨by rfl, ?_⟩) hHeld ?_
  rotate_left 1
  · (intro W hW; have q := HQA.out W hW; (try dsimp only at hW); go_simp; try with_reducible rfl)
  try simp only [Act.put, List.setIfInBounds_toArray, List.set_cons_zero, List.set_cons_succ]
  refine wpAnyH_take (i := 19) (oi := { dst := some 72, op := Op.move (Operand.tmp 11), type := 29, pos := _, after := _, guard := some (16, true) }) (v := ?_) rfl (by kernel_rfl) (by kernel_rfl) (by kernel_rfl) (fun _ _ _ h => h) (Or.inl ⟨by rfl, ?_⟩) hHeld ?_
  rotate_left 1
  · (intro W hW; (try dsimp only at hW); go_simp; try with_reducible rfl)
  try simp only [Act.put, List.setIfInBounds_toArray, List.set_cons_zero, List.set_cons_succ]
  refine wpAnyH_take (i := 20) (oi := { dst := some 73, op := Op.convert 29 9 (Operand.tmp 72), type := 9, pos := _, after := _, guard := some (16, true) }) (v := ?_) rfl (by kernel_rfl) (by kernel_rfl) (by kernel_rfl) (fun _ _ _ h => h) (Or.inl ⟨by rfl, ?_⟩) hHeld ?_
  rotate_left 1
  · (intro W hW; have q := HQB.out W hW; (try dsimp only at hW); go_simp; try with_reducible rfl)
  try simp only [Act.put, List.setIfInBounds_toArray, List.set_cons_zero, List.set_cons_succ]
  refine wpAnyH_take (i := 21) (oi := { dst := some 74, op := Op.binOp BinOp.eql 9 (Operand.tmp 71) (Operand.tmp 73) 9, type := 4, pos := _, after := _, guard := some (16, true) }) (v := ?_) rfl (by kernel_rfl) (by kernel_rfl) (by kernel_rfl) (fun _ _ _ h => h) (Or.inl ⟨by rfl, ?_⟩) hHeld ?_
  rotate_left 1
  · (intro W hW; (try dsimp only at hW); go_simp; try with_reducible rfl)
  try simp only [Act.put, List.setIfInBounds_toArray, List.set_cons_zero, List.set_cons_succ]
  refine wpAnyH_take (i := 22) (oi := { dst := some 75, op := Op.pick (Operand.tmp 69) (Operand.tmp 74) (Operand.const (Value.bool false)), type := 4, pos := _, after := _, guard := none }) (v := ?_) rfl (by kernel_rfl) (by kernel_rfl) (by kernel_rfl) (fun _ _ _ h => h) (Or.inl ⟨by rfl, ?_⟩) hHeld ?_
  rotate_left 1
  · (intro W hW; (try dsimp only at hW); go_simp; try with_reducible rfl)
  try simp only [Act.put, List.setIfInBounds_toArray, List.set_cons_zero, List.set_cons_succ]
  refine wpAnyH_take (i := 23) (oi := { dst := some 76, op := Op.move (Operand.tmp 75), type := 4, pos := _, after := _, guard := none }) (v := ?_) rfl (by kernel_rfl) (by kernel_rfl) (by kernel_rfl) (fun _ _ _ h => h) (Or.inl ⟨by rfl, ?_⟩) hHeld ?_
  rotate_left 1
  · (intro W hW; (try dsimp only at hW); go_simp; try with_reducible rfl)
  try simp only [Act.put, List.setIfInBounds_toArray, List.set_cons_zero, List.set_cons_succ]
  refine wpAnyH_take (i := 24) (oi := { dst := some 77, op := Op.move (Operand.tmp 10), type := 4, pos := _, after := _, guard := some (23, true) }) (v := ?_) rfl (by kernel_rfl) (by kernel_rfl) (by kernel_rfl) (fun _ _ _ h => h) (Or.inl ⟨by rfl, ?_⟩) hHeld ?_
  rotate_left 1
  · (intro W hW; (try dsimp only at hW); go_simp; try with_reducible rfl)
  try simp only [Act.put, List.setIfInBounds_toArray, List.set_cons_zero, List.set_cons_succ]
  refine wpAnyH_take (i := 25) (oi := { dst := some 78, op := Op.move (Operand.tmp 12), type := 4, pos := _, after := _, guard := some (23, true) }) (v := ?_) rfl (by kernel_rfl) (by kernel_rfl) (by kernel_rfl) (fun _ _ _ h => h) (Or.inl ⟨by rfl, ?_⟩) hHeld ?_
  rotate_left 1
  · (intro W hW; (try dsimp only at hW); go_simp; try with_reducible rfl)
  try simp only [Act.put, List.setIfInBounds_toArray, List.set_cons_zero, List.set_cons_succ]
  refine wpAnyH_take (i := 26) (oi := { dst := some 79, op := Op.binOp BinOp.eql 4 (Operand.tmp 77) (Operand.tmp 78) 4, type := 4, pos := _, after := _, guard := some (23, true) }) (v := ?_) rfl (by kernel_rfl) (by kernel_rfl) (by kernel_rfl) (fun _ _ _ h => h) (Or.inl ⟨by rfl, ?_⟩) hHeld ?_
  rotate_left 1
  · (intro W hW; (try dsimp only at hW); go_simp; try with_reducible rfl)
  try simp only [Act.put, List.setIfInBounds_toArray, List.set_cons_zero, List.set_cons_succ]
  refine wpAnyH_take (i := 27) (oi := { dst := some 80, op := Op.pick (Operand.tmp 76) (Operand.tmp 79) (Operand.const (Value.bool false)), type := 4, pos := _, after := _, guard := none }) (v := ?_) rfl (by kernel_rfl) (by kernel_rfl) (by kernel_rfl) (fun _ _ _ h => h) (Or.inl ⟨by rfl, ?_⟩) hHeld ?_
  rotate_left 1
  · (intro W hW; (try dsimp only at hW); go_simp; try with_reducible rfl)
  try simp only [Act.put, List.setIfInBounds_toArray, List.set_cons_zero, List.set_cons_succ]
  refine wpAnyH_take (i := 28) (oi := { dst := some 81, op := Op.move (Operand.tmp 80), type := 4, pos := _, after := _, guard := none }) (v := ?_) rfl (by kernel_rfl) (by kernel_rfl) (by kernel_rfl) (fun _ _ _ h => h) (Or.inl ⟨by rfl, ?_⟩) hHeld ?_
  rotate_left 1
  · (intro W hW; (try dsimp only at hW); go_simp; try with_reducible rfl)
  try simp only [Act.put, List.setIfInBounds_toArray, List.set_cons_zero, List.set_cons_succ]
  refine wpAnyH_ready (rs := [29]) (by kernel_rfl) (by simp) ?_
  refine AllReadyH.cons (o := { dst := some 82, op := Op.call { callee := Callee.value (Operand.func 13), args := #[], argTypes := #[] }, type := 4, pos := _, after := _, guard := some (28, true) }) rfl (fun K hK => ?_) AllReadyH.nil
  go_simp
  refine (known9_any w13).mono ?_
  rintro e w29 ⟨rfl, hb⟩
  have S29 : Hid ((fun W => Below V.heap.size V W) w29) := Lib.hid (S13.out.trans (hb.mono S13.out.size))
  clear hb
  go_simp
  refine hK.out _ _ (S29.out) (fun _ => ?_)
  clear hK K hHeld
  try simp only [Act.put, List.setIfInBounds_toArray, List.set_cons_zero, List.set_cons_succ]
  have hHeld : ((fun W => Below V.heap.size V W)) w29 := S29.out
  refine wpAnyH_take (i := 30) (oi := { dst := some 83, op := Op.pick (Operand.tmp 81) (Operand.tmp 82) (Operand.const (Value.bool false)), type := 4, pos := _, after := _, guard := none }) (v := ?_) rfl (by kernel_rfl) (by kernel_rfl) (by kernel_rfl) (fun _ _ _ h => h) (Or.inl ⟨by rfl, ?_⟩) hHeld ?_
  rotate_left 1
  · (intro W hW; (try dsimp only at hW); go_simp; try with_reducible rfl)
  try simp only [Act.put, List.setIfInBounds_toArray, List.set_cons_zero, List.set_cons_succ]
  refine wpAnyH_take (i := 31) (oi := { dst := some 8, op := Op.assign (Operand.tmp 83), type := 4, pos := _, after := _, guard := none }) (v := ?_) rfl (by kernel_rfl) (by kernel_rfl) (by kernel_rfl) (fun _ _ _ h => h) (Or.inl ⟨by rfl, ?_⟩) hHeld ?_
  rotate_left 1
  · (intro W hW; (try dsimp only at hW); go_simp; try with_reducible rfl)
  try simp only [Act.put, List.setIfInBounds_toArray, List.set_cons_zero, List.set_cons_succ]
  refine wpAnyH_done (by kernel_rfl) ?_ _
  refine NoPanic.normal ?_
  go_wp2_with fail
  go_ret
  exact ⟨rfl, HQ.out.trans (S29.out.mono HQ.out.size)⟩
end Go.Proofs.Ytebhpjbjfbadjaa
