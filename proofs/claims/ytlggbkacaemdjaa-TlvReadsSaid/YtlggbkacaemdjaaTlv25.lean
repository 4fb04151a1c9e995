/-
  Any thing's bytes, or none, and back (statement TlvBytes): the law's walk.
-/
import Derived.Test.YtlggbkacaemdjaaTlv24
import Derived.Deep.RegionLaw
import Derived.Deep.RegionHeld3
import Derived.Deep.DrawnRows
import Derived.StillTailTactics
import Derived.BigQuiet
import Derived.Deep.QuietTactic
namespace Go.Proofs.Ytlggbkacaemdjaa
open Go.RowKit
set_option linter.unusedVariables false
set_option linter.unusedSimpArgs false
attribute [local go_sem ↓] Go.wp_at_zero Go.wp_at_succ

theorem wpAnyH_strong {P : Program} {md : Region.Mode} {ops : Array Oper} {Q : Exit → Act → World → Prop} {S S' : World → Prop} (hS : ∀ w, S' w → S w) : ∀ (fuel : Nat) (listed : Array Bool) (a : Act) (w : World), wpAnyH P md ops Q S' fuel listed a w → wpAnyH P md ops Q S fuel listed a w
  | 0, _, _, _, h => h
  | fuel + 1, _, _, _, h => ⟨h.1, fun i hi => wpOp_mono (fun a' w' h' => ⟨hS w' h'.1, wpAnyH_strong hS fuel _ a' w' h'.2⟩) (h.2 i hi)⟩
theorem count'_any (t : Lt) (w : World) (B : Nat) (hr : TrAt w B t) (hB : B ≤ w.heap.size) (hmx : t.t.count ≤ 1000000) :
    Calls Try.prog 14 #[t.val] w fun e w' => e = .returned (.int .i64 (t.t.count : Int)) ∧ Below w.heap.size w w' := count'_N (t.sz + 1) t w B (Nat.lt_succ_self _) hr hB hmx
theorem bytesT_oct (t : Lt) {w : World} {B : Nat} (hr : TrAt w B t) : ∀ x ∈ bytesT t.t, x < 256 := by
  intro x hx
  unfold bytesT at hx
  split at hx
  · exact enc_oct (t.sz + 1) t w B (Nat.lt_succ_self _) hr x hx
  · cases hx
set_option maxRecDepth 100000 in
set_option maxHeartbeats 8000000 in
theorem law_bytes (t : Lt) (w : World) (hr : TrAt w w.heap.size t) :
    Calls Try.prog 3 #[t.val] w fun e w' => e = .returned (.bool true) ∧ Below w.heap.size w w' := by
  have HQ0 : Hid (Below w.heap.size w (w.alloc (.cells t.cells 25))) := Lib.hid ((Below.refl _ _).alloc (Nat.le_refl _) _)
  have HT : Hid (∀ W, Below (w.alloc (.cells t.cells 25)).heap.size (w.alloc (.cells t.cells 25)) W → TrAt W W.heap.size t) := Lib.hid fun W hW => (hr.under' (HQ0.out.trans (hW.mono HQ0.out.size))).more' (Nat.le_trans HQ0.out.size hW.size)
  have HZ : Hid (∀ W, Below (w.alloc (.cells t.cells 25)).heap.size (w.alloc (.cells t.cells 25)) W → W.cell? ⟨w.heap.size, 0, none⟩ = some (.int .u8 (t.tag : Int)) ∧ W.cell? ⟨w.heap.size, 1, none⟩ = some (.slice t.ba t.body.length t.bc) ∧ W.cell? ⟨w.heap.size, 2, none⟩ = some (.slice t.ka t.kids.length t.kc)) := Lib.hid fun W hW => by
    have h := (Holds.fresh w 25 t.cells).under hW (Holds.fresh w 25 t.cells).lt
    exact ⟨h.cell 0, h.cell 1, h.cell 2⟩
  have H0 : Hid (Below (w.alloc (.cells t.cells 25)).heap.size (w.alloc (.cells t.cells 25)) (w.alloc (.cells t.cells 25))) := Lib.hid (Below.refl _ _)
  have HOC := Lib.hid (bytesT_oct t hr)
  have HMANY := Lib.hid (fun W hW => many_any t W W.heap.size 800 (HT.out W hW) (Nat.le_refl _) (by omega) (by omega))
  have HFIT : Hid (0 < t.t.many 800 → t.t.count ≤ 1000000 ∧ t.t.enc.length ≤ 400000) := Lib.hid fun h => Tr.many_fits h (by omega)
  have HBY := Lib.hid (fun hc he W hW => bytes_any t W W.heap.size (HT.out W hW) (Nat.le_refl _) hc he)
  have HBY' := Lib.hid (fun hc he W hW => bytes'_any t W W.heap.size (HT.out W hW) (Nat.le_refl _) hc he)
  have HIS := Lib.hid (fun hc he W hW => is_any t W W.heap.size (HT.out W hW) (Nat.le_refl _) hc he)
  have HIS' := Lib.hid (fun hc he W hW => is'_any t W W.heap.size (HT.out W hW) (Nat.le_refl _) hc he)
  have HCO := Lib.hid (fun hc W hW => count_any t W W.heap.size (HT.out W hW) (Nat.le_refl _) hc)
  have HCO' := Lib.hid (fun hc W hW => count'_any t W W.heap.size (HT.out W hW) (Nat.le_refl _) hc)
  have HSA := Lib.hid (fun W hW => same_any t t W W.heap.size (HT.out W hW) (HT.out W hW) (Nat.le_refl _) true (by simp))
  have HSA' := Lib.hid (fun (lt : Lt) W hW (hl : TrAt W W.heap.size lt) (ht : lt.t = t.t) => same'_any lt t W W.heap.size hl (HT.out W hW) (Nat.le_refl _) true (by simp [ht]))
  have HRB : Hid (isT t.t = true → readT (bytesT t.t) = .ok t.t) := Lib.hid fun h => by unfold bytesT; rw [if_pos h]; exact read_enc h
  have HNB : Hid (isT t.t = false → bytesT t.t = []) := Lib.hid fun h => by unfold bytesT; rw [h]; rfl
  rw [show t.cells = #[.int .u8 (t.tag : Int), .slice t.ba t.body.length t.bc, .slice t.ka t.kids.length t.kc] from rfl] at HQ0 HT HZ H0 HMANY HBY HBY' HIS HIS' HCO HCO' HSA HSA'
  rw [Lt.val_eq] at HMANY HBY HBY' HIS HIS' HCO HCO' HSA HSA' ⊢
  clear hr HT
  generalize bytesT t.t = y at *
  generalize isT t.t = s at *
  generalize t.t.many 800 = x at *
  generalize t.tag = tg at *
  generalize t.ba = ba at *
  generalize t.bc = bc at *
  generalize t.body.length = bl at *
  generalize t.ka = ka at *
  generalize t.kids.length = n at *
  generalize t.kc = kc at *
  obtain ⟨z0, z1, z2⟩ := HZ.out _ H0.out
  by_cases hx : x ≤ 0
  case pos =>
    have dx : decide (x ≤ 0) = true := decide_eq_true hx
    go_enter Try.func3, Try.ntmps3
    go_wp2_with fail
    refine (HMANY.out _ H0.out).mono ?_
    rintro e w1 ⟨rfl, hb1⟩
    have HB := Lib.hid (HQ0.out.trans (hb1.mono HQ0.out.size))
    clear hb1 z0 z1 z2
    go_wp2_with fail
    go_ret
    exact ⟨rfl, HB.out⟩
  have dx : decide (x ≤ 0) = false := decide_eq_false hx
  obtain ⟨hc, he⟩ := HFIT.out (by omega)
  have HC := Lib.hid hc
  have HE := Lib.hid he
  clear hc he HFIT
  go_enter Try.func3, Try.ntmps3
  go_wp2_with fail
  refine (HMANY.out _ H0.out).mono ?_
  rintro e w1 ⟨rfl, hb1⟩
  have H1 := Lib.hid (H0.out.trans (hb1.mono H0.out.size))
  clear hb1 z0 z1 z2
  obtain ⟨z0, z1, z2⟩ := HZ.out _ H1.out
  go_wp2_with fail
  refine (HBY.out HC.out HE.out _ H1.out).mono ?_
  rintro e w2 ⟨A2, c2, n2, rfl, hn2, hm2, hb2⟩
  have H2 := Lib.hid (H1.out.trans (hb2.mono H1.out.size))
  have HN2 := Lib.hid hn2
  have HM2 : Hid (Rd .u8 w2 w2.heap.size A2 c2 y) := Lib.hid hm2.rd
  clear hb2 hn2 hm2 z0 z1 z2
  obtain ⟨z0, z1, z2⟩ := HZ.out _ H2.out
  go_wp2_with fail
  refine (HIS'.out HC.out HE.out _ H2.out).mono ?_
  rintro e w3 ⟨rfl, hb3⟩
  have H3 := Lib.hid (H2.out.trans (hb3.mono H2.out.size))
  have HM3 : Hid (Rd .u8 w3 w2.heap.size A2 c2 y) := Lib.hid (HM2.out.under hb3)
  have H32 := Lib.hid hb3.size
  clear hb3 z0 z1 z2 HM2
  obtain ⟨z0, z1, z2⟩ := HZ.out _ H3.out
  have H3d := Lib.hid H3.out.drew
  have hcv3 := conv_str (w := w3) HM3.out HN2.out HOC.out
  obtain ⟨sy, hsy⟩ : ∃ sy, sy = str y := ⟨_, rfl⟩
  rw [← hsy] at hcv3
  have HSY := Lib.hid hsy
  clear hsy
  have HRD2 : Hid (∀ W, Below w3.heap.size w3 W → Rd .u8 W w2.heap.size A2 c2 y) := Lib.hid fun W hW => HM3.out.under (hW.mono H32.out)
  have HCV : Hid (∀ W, Below w3.heap.size w3 W → (convert 22 9 (.slice A2 n2 c2)).run Try.prog W = .ok (.string sy) W) := Lib.hid fun W hW => by rw [HSY.out]; exact conv_str (HRD2.out W hW) HN2.out HOC.out
  have B3 : Hid (Below w3.heap.size w3 w3) := Lib.hid (Below.refl _ _)
  go_wp2_with fail
  refine wp_region_noPanic ?_
  refine wp_region_held_drew (S := fun W => Below w3.heap.size w3 W) (by kernel_rfl) (Below.refl _ w3).drew (fun hHeld => ?_)
  refine wpAnyH_take (i := 0) (oi := { dst := some 14, op := Op.load 25 (Operand.tmp 1), type := 25, pos := _, after := _, guard := none }) (v := ?_) rfl (by kernel_rfl) (by kernel_rfl) (by kernel_rfl) (fun _ _ _ h => h) (Or.inl ⟨by rfl, ?_⟩) hHeld ?_
  rotate_left 1
  · (intro W hW; obtain ⟨k0, k1, k2⟩ := HZ.out W (H3.out.trans (hW.mono H3.out.size)); (try dsimp only at hW); go_simp; try with_reducible rfl)
  try simp only [Act.put, List.setIfInBounds_toArray, List.set_cons_zero, List.set_cons_succ]
  refine wpAnyH_take (i := 2) (oi := { dst := some 16, op := Op.move (Operand.tmp 4), type := 4, pos := _, after := _, guard := none }) (v := ?_) rfl (by kernel_rfl) (by kernel_rfl) (by kernel_rfl) (fun _ _ _ h => h) (Or.inl ⟨by rfl, ?_⟩) hHeld ?_
  rotate_left 1
  · (intro W hW; (try dsimp only at hW); go_simp; try with_reducible rfl)
  try simp only [Act.put, List.setIfInBounds_toArray, List.set_cons_zero, List.set_cons_succ]
  refine wpAnyH_ready (rs := [1]) (by kernel_rfl) (by simp) ?_
  refine AllReadyH.cons (o := { dst := some 15, op := Op.call { callee := Callee.value (Operand.func 11), args := #[Operand.tmp 14], argTypes := #[25] }, type := 4, pos := _, after := _, guard := none }) rfl (fun K hK => ?_) AllReadyH.nil
  go_simp
  refine (HIS.out HC.out HE.out _ H3d.out).mono ?_
  rintro e w4 ⟨rfl, hb4⟩
  have b4 : Hid (Below w3.heap.size w3 w4) := Lib.hid ((Below.refl _ w3).drew.trans hb4)
  have H4 := Lib.hid (H3.out.trans (b4.out.mono H3.out.size))
  have B4 := Lib.hid (B3.out.trans (b4.out.mono B3.out.size))

  clear hb4
  go_simp
  refine hK.out _ _ (b4.out) (fun _ => ?_)
  clear hK K hHeld
  try simp only [Act.put, List.setIfInBounds_toArray, List.set_cons_zero, List.set_cons_succ]
  refine wpAnyH_strong (S' := fun W => Below w4.heap.size w4 W) (fun W hW => b4.out.trans (hW.mono b4.out.size)) _ _ _ _ ?_
  have hHeld : (fun W => Below w4.heap.size w4 W) w4 := Below.refl _ _
  refine wpAnyH_take (i := 3) (oi := { dst := some 17, op := Op.binOp BinOp.neq 4 (Operand.tmp 15) (Operand.tmp 16) 4, type := 4, pos := _, after := _, guard := none }) (v := ?_) rfl (by kernel_rfl) (by kernel_rfl) (by kernel_rfl) (fun _ _ _ h => h) (Or.inl ⟨by rfl, ?_⟩) hHeld ?_
  rotate_left 1
  · (intro W hW; (try dsimp only at hW); go_simp; try with_reducible rfl)
  try simp only [Act.put, List.setIfInBounds_toArray, List.set_cons_zero, List.set_cons_succ]
  refine wpAnyH_take (i := 4) (oi := { dst := some 18, op := Op.move (Operand.tmp 17), type := 4, pos := _, after := _, guard := none }) (v := ?_) rfl (by kernel_rfl) (by kernel_rfl) (by kernel_rfl) (fun _ _ _ h => h) (Or.inl ⟨by rfl, ?_⟩) hHeld ?_
  rotate_left 1
  · (intro W hW; (try dsimp only at hW); go_simp; try with_reducible rfl)
  try simp only [Act.put, List.setIfInBounds_toArray, List.set_cons_zero, List.set_cons_succ]
  refine wpAnyH_take (i := 5) (oi := { dst := some 19, op := Op.move (Operand.tmp 3), type := 22, pos := _, after := _, guard := some (4, false) }) (v := ?_) rfl (by kernel_rfl) (by kernel_rfl) (by kernel_rfl) (fun _ _ _ h => h) (Or.inl ⟨by rfl, ?_⟩) hHeld ?_
  rotate_left 1
  · (intro W hW; (try dsimp only at hW); go_simp; try with_reducible rfl)
  try simp only [Act.put, List.setIfInBounds_toArray, List.set_cons_zero, List.set_cons_succ]
  refine wpAnyH_take (i := 6) (oi := { dst := some 20, op := Op.convert 22 9 (Operand.tmp 19), type := 9, pos := _, after := _, guard := some (4, false) }) (v := ?_) rfl (by kernel_rfl) (by kernel_rfl) (by kernel_rfl) (fun _ _ _ h => h) (Or.inl ⟨by rfl, ?_⟩) hHeld ?_
  rotate_left 1
  · (intro W hW; have kc := HCV.out W (B4.out.trans (hW.mono B4.out.size)); (try dsimp only at hW); go_simp; try with_reducible rfl)
  try simp only [Act.put, List.setIfInBounds_toArray, List.set_cons_zero, List.set_cons_succ]
  refine wpAnyH_take (i := 7) (oi := { dst := some 21, op := Op.load 25 (Operand.tmp 1), type := 25, pos := _, after := _, guard := some (4, false) }) (v := ?_) rfl (by kernel_rfl) (by kernel_rfl) (by kernel_rfl) (fun _ _ _ h => h) (Or.inl ⟨by rfl, ?_⟩) hHeld ?_
  rotate_left 1
  · (intro W hW; obtain ⟨k0, k1, k2⟩ := HZ.out W (H4.out.trans (hW.mono H4.out.size)); (try dsimp only at hW); go_simp; try with_reducible rfl)
  try simp only [Act.put, List.setIfInBounds_toArray, List.set_cons_zero, List.set_cons_succ]
  refine wpAnyH_ready (rs := [8]) (by kernel_rfl) (by simp) ?_
  refine AllReadyH.cons (o := { dst := some 22, op := Op.call { callee := Callee.value (Operand.func 12), args := #[Operand.tmp 21], argTypes := #[25] }, type := 22, pos := _, after := _, guard := some (4, false) }) rfl (fun K hK => ?_) AllReadyH.nil
  go_simp
  refine (HBY'.out HC.out HE.out _ H4.out).mono ?_
  rintro e w5 ⟨A5, c5, n5, rfl, hn5, hm5, hb5⟩
  have b5 : Hid (Below w4.heap.size w4 w5) := Lib.hid (hb5)
  have H5 := Lib.hid (H4.out.trans (b5.out.mono H4.out.size))
  have B5 := Lib.hid (B4.out.trans (b5.out.mono B4.out.size))
  have HM5 : Hid (Rd .u8 w5 w5.heap.size A5 c5 y) := Lib.hid hm5.rd
  have HN5 := Lib.hid hn5
  clear hm5 hn5
  clear hb5
  go_simp
  refine hK.out _ _ (b5.out) (fun _ => ?_)
  clear hK K hHeld
  try simp only [Act.put, List.setIfInBounds_toArray, List.set_cons_zero, List.set_cons_succ]
  refine wpAnyH_strong (S' := fun W => Below w5.heap.size w5 W) (fun W hW => b5.out.trans (hW.mono b5.out.size)) _ _ _ _ ?_
  have hHeld : (fun W => Below w5.heap.size w5 W) w5 := Below.refl _ _
  refine wpAnyH_take (i := 9) (oi := { dst := some 23, op := Op.convert 22 9 (Operand.tmp 22), type := 9, pos := _, after := _, guard := some (4, false) }) (v := ?_) rfl (by kernel_rfl) (by kernel_rfl) (by kernel_rfl) (fun _ _ _ h => h) (Or.inl ⟨by rfl, ?_⟩) hHeld ?_
  rotate_left 1
  · (intro W hW; have kc := conv_str (HM5.out.under hW) HN5.out HOC.out; rw [← HSY.out] at kc; (try dsimp only at hW); go_simp; try with_reducible rfl)
  try simp only [Act.put, List.setIfInBounds_toArray, List.set_cons_zero, List.set_cons_succ]
  refine wpAnyH_take (i := 10) (oi := { dst := some 24, op := Op.binOp BinOp.neq 9 (Operand.tmp 20) (Operand.tmp 23) 9, type := 4, pos := _, after := _, guard := some (4, false) }) (v := ?_) rfl (by kernel_rfl) (by kernel_rfl) (by kernel_rfl) (fun _ _ _ h => h) (Or.inl ⟨by rfl, ?_⟩) hHeld ?_
  rotate_left 1
  · (intro W hW; (try dsimp only at hW); go_simp; try with_reducible rfl)
  try simp only [Act.put, List.setIfInBounds_toArray, List.set_cons_zero, List.set_cons_succ]
  refine wpAnyH_take (i := 11) (oi := { dst := some 25, op := Op.pick (Operand.tmp 18) (Operand.const (Value.bool true)) (Operand.tmp 24), type := 4, pos := _, after := _, guard := none }) (v := ?_) rfl (by kernel_rfl) (by kernel_rfl) (by kernel_rfl) (fun _ _ _ h => h) (Or.inl ⟨by rfl, ?_⟩) hHeld ?_
  rotate_left 1
  · (intro W hW; (try dsimp only at hW); go_simp; try with_reducible rfl)
  try simp only [Act.put, List.setIfInBounds_toArray, List.set_cons_zero, List.set_cons_succ]
  refine wpAnyH_take (i := 12) (oi := { dst := some 26, op := Op.move (Operand.tmp 25), type := 4, pos := _, after := _, guard := none }) (v := ?_) rfl (by kernel_rfl) (by kernel_rfl) (by kernel_rfl) (fun _ _ _ h => h) (Or.inl ⟨by rfl, ?_⟩) hHeld ?_
  rotate_left 1
  · (intro W hW; (try dsimp only at hW); go_simp; try with_reducible rfl)
  try simp only [Act.put, List.setIfInBounds_toArray, List.set_cons_zero, List.set_cons_succ]
  refine wpAnyH_take (i := 13) (oi := { dst := some 27, op := Op.load 25 (Operand.tmp 1), type := 25, pos := _, after := _, guard := some (12, false) }) (v := ?_) rfl (by kernel_rfl) (by kernel_rfl) (by kernel_rfl) (fun _ _ _ h => h) (Or.inl ⟨by rfl, ?_⟩) hHeld ?_
  rotate_left 1
  · (intro W hW; obtain ⟨k0, k1, k2⟩ := HZ.out W (H5.out.trans (hW.mono H5.out.size)); (try dsimp only at hW); go_simp; try with_reducible rfl)
  try simp only [Act.put, List.setIfInBounds_toArray, List.set_cons_zero, List.set_cons_succ]
  refine wpAnyH_take (i := 15) (oi := { dst := some 29, op := Op.load 25 (Operand.tmp 1), type := 25, pos := _, after := _, guard := some (12, false) }) (v := ?_) rfl (by kernel_rfl) (by kernel_rfl) (by kernel_rfl) (fun _ _ _ h => h) (Or.inl ⟨by rfl, ?_⟩) hHeld ?_
  rotate_left 1
  · (intro W hW; obtain ⟨k0, k1, k2⟩ := HZ.out W (H5.out.trans (hW.mono H5.out.size)); (try dsimp only at hW); go_simp; try with_reducible rfl)
  try simp only [Act.put, List.setIfInBounds_toArray, List.set_cons_zero, List.set_cons_succ]
  refine wpAnyH_ready (rs := [14]) (by kernel_rfl) (by simp) ?_
  refine AllReadyH.cons (o := { dst := some 28, op := Op.call { callee := Callee.value (Operand.func 13), args := #[Operand.tmp 27], argTypes := #[25] }, type := 3, pos := _, after := _, guard := some (12, false) }) rfl (fun K hK => ?_) AllReadyH.nil
  go_simp
  refine (HCO.out HC.out _ H5.out).mono ?_
  rintro e w6 ⟨rfl, hb6⟩
  have b6 : Hid (Below w5.heap.size w5 w6) := Lib.hid (hb6)
  have H6 := Lib.hid (H5.out.trans (b6.out.mono H5.out.size))
  have B6 := Lib.hid (B5.out.trans (b6.out.mono B5.out.size))

  clear hb6
  go_simp
  refine hK.out _ _ (b6.out) (fun _ => ?_)
  clear hK K hHeld
  try simp only [Act.put, List.setIfInBounds_toArray, List.set_cons_zero, List.set_cons_succ]
  refine wpAnyH_strong (S' := fun W => Below w6.heap.size w6 W) (fun W hW => b6.out.trans (hW.mono b6.out.size)) _ _ _ _ ?_
  have hHeld : (fun W => Below w6.heap.size w6 W) w6 := Below.refl _ _
  refine wpAnyH_ready (rs := [16]) (by kernel_rfl) (by simp) ?_
  refine AllReadyH.cons (o := { dst := some 30, op := Op.call { callee := Callee.value (Operand.func 14), args := #[Operand.tmp 29], argTypes := #[25] }, type := 3, pos := _, after := _, guard := some (12, false) }) rfl (fun K hK => ?_) AllReadyH.nil
  go_simp
  refine (HCO'.out HC.out _ H6.out).mono ?_
  rintro e w7 ⟨rfl, hb7⟩
  have b7 : Hid (Below w6.heap.size w6 w7) := Lib.hid (hb7)
  have H7 := Lib.hid (H6.out.trans (b7.out.mono H6.out.size))
  have B7 := Lib.hid (B6.out.trans (b7.out.mono B6.out.size))

  clear hb7
  go_simp
  refine hK.out _ _ (b7.out) (fun _ => ?_)
  clear hK K hHeld
  try simp only [Act.put, List.setIfInBounds_toArray, List.set_cons_zero, List.set_cons_succ]
  refine wpAnyH_strong (S' := fun W => Below w7.heap.size w7 W) (fun W hW => b7.out.trans (hW.mono b7.out.size)) _ _ _ _ ?_
  have hHeld : (fun W => Below w7.heap.size w7 W) w7 := Below.refl _ _
  refine wpAnyH_take (i := 17) (oi := { dst := some 31, op := Op.binOp BinOp.neq 3 (Operand.tmp 28) (Operand.tmp 30) 3, type := 4, pos := _, after := _, guard := some (12, false) }) (v := ?_) rfl (by kernel_rfl) (by kernel_rfl) (by kernel_rfl) (fun _ _ _ h => h) (Or.inl ⟨by rfl, ?_⟩) hHeld ?_
  rotate_left 1
  · (intro W hW; (try dsimp only at hW); go_simp; try with_reducible rfl)
  try simp only [Act.put, List.setIfInBounds_toArray, List.set_cons_zero, List.set_cons_succ]
  refine wpAnyH_take (i := 18) (oi := { dst := some 32, op := Op.pick (Operand.tmp 26) (Operand.const (Value.bool true)) (Operand.tmp 31), type := 4, pos := _, after := _, guard := none }) (v := ?_) rfl (by kernel_rfl) (by kernel_rfl) (by kernel_rfl) (fun _ _ _ h => h) (Or.inl ⟨by rfl, ?_⟩) hHeld ?_
  rotate_left 1
  · (intro W hW; (try dsimp only at hW); go_simp; try with_reducible rfl)
  try simp only [Act.put, List.setIfInBounds_toArray, List.set_cons_zero, List.set_cons_succ]
  refine wpAnyH_take (i := 19) (oi := { dst := some 33, op := Op.move (Operand.tmp 32), type := 4, pos := _, after := _, guard := none }) (v := ?_) rfl (by kernel_rfl) (by kernel_rfl) (by kernel_rfl) (fun _ _ _ h => h) (Or.inl ⟨by rfl, ?_⟩) hHeld ?_
  rotate_left 1
  · (intro W hW; (try dsimp only at hW); go_simp; try with_reducible rfl)
  try simp only [Act.put, List.setIfInBounds_toArray, List.set_cons_zero, List.set_cons_succ]
  refine wpAnyH_take (i := 20) (oi := { dst := some 34, op := Op.load 25 (Operand.tmp 1), type := 25, pos := _, after := _, guard := some (19, false) }) (v := ?_) rfl (by kernel_rfl) (by kernel_rfl) (by kernel_rfl) (fun _ _ _ h => h) (Or.inl ⟨by rfl, ?_⟩) hHeld ?_
  rotate_left 1
  · (intro W hW; obtain ⟨k0, k1, k2⟩ := HZ.out W (H7.out.trans (hW.mono H7.out.size)); (try dsimp only at hW); go_simp; try with_reducible rfl)
  try simp only [Act.put, List.setIfInBounds_toArray, List.set_cons_zero, List.set_cons_succ]
  refine wpAnyH_take (i := 21) (oi := { dst := some 35, op := Op.load 25 (Operand.tmp 1), type := 25, pos := _, after := _, guard := some (19, false) }) (v := ?_) rfl (by kernel_rfl) (by kernel_rfl) (by kernel_rfl) (fun _ _ _ h => h) (Or.inl ⟨by rfl, ?_⟩) hHeld ?_
  rotate_left 1
  · (intro W hW; obtain ⟨k0, k1, k2⟩ := HZ.out W (H7.out.trans (hW.mono H7.out.size)); (try dsimp only at hW); go_simp; try with_reducible rfl)
  try simp only [Act.put, List.setIfInBounds_toArray, List.set_cons_zero, List.set_cons_succ]
  refine wpAnyH_ready (rs := [22]) (by kernel_rfl) (by simp) ?_
  refine AllReadyH.cons (o := { dst := some 36, op := Op.call { callee := Callee.value (Operand.func 15), args := #[Operand.tmp 34, Operand.tmp 35], argTypes := #[25, 25] }, type := 4, pos := _, after := _, guard := some (19, false) }) rfl (fun K hK => ?_) AllReadyH.nil
  go_simp
  refine (HSA.out _ H7.out).mono ?_
  rintro e w8 ⟨rfl, hb8⟩
  have b8 : Hid (Below w7.heap.size w7 w8) := Lib.hid (hb8)
  have H8 := Lib.hid (H7.out.trans (b8.out.mono H7.out.size))
  have B8 := Lib.hid (B7.out.trans (b8.out.mono B7.out.size))

  clear hb8
  go_simp
  refine hK.out _ _ (b8.out) (fun _ => ?_)
  clear hK K hHeld
  try simp only [Act.put, List.setIfInBounds_toArray, List.set_cons_zero, List.set_cons_succ]
  refine wpAnyH_strong (S' := fun W => Below w8.heap.size w8 W) (fun W hW => b8.out.trans (hW.mono b8.out.size)) _ _ _ _ ?_
  have hHeld : (fun W => Below w8.heap.size w8 W) w8 := Below.refl _ _
  refine wpAnyH_take (i := 23) (oi := { dst := some 37, op := Op.unOp UnOp.not 4 (Operand.tmp 36), type := 4, pos := _, after := _, guard := some (19, false) }) (v := ?_) rfl (by kernel_rfl) (by kernel_rfl) (by kernel_rfl) (fun _ _ _ h => h) (Or.inl ⟨by rfl, ?_⟩) hHeld ?_
  rotate_left 1
  · (intro W hW; (try dsimp only at hW); go_simp; try with_reducible rfl)
  try simp only [Act.put, List.setIfInBounds_toArray, List.set_cons_zero, List.set_cons_succ]
  refine wpAnyH_take (i := 24) (oi := { dst := some 38, op := Op.pick (Operand.tmp 33) (Operand.const (Value.bool true)) (Operand.tmp 37), type := 4, pos := _, after := _, guard := none }) (v := ?_) rfl (by kernel_rfl) (by kernel_rfl) (by kernel_rfl) (fun _ _ _ h => h) (Or.inl ⟨by rfl, ?_⟩) hHeld ?_
  rotate_left 1
  · (intro W hW; (try dsimp only at hW); go_simp; try with_reducible rfl)
  try simp only [Act.put, List.setIfInBounds_toArray, List.set_cons_zero, List.set_cons_succ]
  refine wpAnyH_done (by kernel_rfl) ?_ _
  refine NoPanic.normal ?_
  have HR8 := Lib.hid (HRD2.out _ B8.out)
  have H28 : Hid (w2.heap.size ≤ w8.heap.size) := Lib.hid (Nat.le_trans H32.out B8.out.size)
  obtain ⟨z0, z1, z2⟩ := HZ.out _ H8.out
  cases s
  case false =>
    have hy := HNB.out rfl
    have hn0 : n2 = 0 := by rw [← HN2.out, hy]; rfl
    subst hn0
    go_wp2_with fail
    refine (known_any _).mono ?_
    rintro e w9 ⟨rfl, hb9⟩
    have HF := Lib.hid (HQ0.out.trans ((H8.out.trans (hb9.mono H8.out.size)).mono HQ0.out.size))
    clear hb9
    go_wp2_with fail
    go_ret
    exact ⟨rfl, HF.out⟩
  case true =>
    have HRY := Lib.hid (HRB.out rfl)
    clear z0 z1 z2
    go_wp2_with fail
    have hrd := read_any w8 _ A2 c2 n2 y HR8.out HN2.out HOC.out H28.out
    rw [HRY.out] at hrd
    refine hrd.mono ?_
    rintro e w9 ⟨lt, rfl, hlt, hat, hb9⟩
    have H9 := Lib.hid (H8.out.trans (hb9.mono H8.out.size))
    have HAT := Lib.hid hat
    have HLT := Lib.hid hlt
    have HSAL := Lib.hid (fun W hW hl => HSA'.out lt W hW hl HLT.out)
    have hcl : lt.cells = #[.int .u8 (lt.tag : Int), .slice lt.ba lt.body.length lt.bc, .slice lt.ka lt.kids.length lt.kc] := rfl
    rw [Lt.val_eq] at HSAL ⊢
    clear hrd hb9 hat hlt
    generalize lt.tag = lg at *
    generalize lt.ba = lba at *
    generalize lt.bc = lbc at *
    generalize lt.body.length = lbl at *
    generalize lt.ka = lka at *
    generalize lt.kids.length = ln at *
    generalize lt.kc = lkc at *
    have hq10 : Below w9.heap.size w9 (w9.alloc (.cells #[.int .u8 (lg : Int), .slice lba lbl lbc, .slice lka ln lkc] 25)) := (Below.refl _ _).alloc (Nat.le_refl _) _
    have hh10 : Holds (w9.alloc (.cells #[.int .u8 (lg : Int), .slice lba lbl lbc, .slice lka ln lkc] 25)) w9.heap.size 25 #[.int .u8 (lg : Int), .slice lba lbl lbc, .slice lka ln lkc] := Holds.fresh _ _ _
    have H10 := Lib.hid (H9.out.trans (hq10.mono H9.out.size))
    have HL10 : Hid (TrAt (w9.alloc (.cells #[.int .u8 (lg : Int), .slice lba lbl lbc, .slice lka ln lkc] 25)) (w9.alloc (.cells #[.int .u8 (lg : Int), .slice lba lbl lbc, .slice lka ln lkc] 25)).heap.size lt) := Lib.hid ((HAT.out.under' hq10).more' hq10.size)
    have a0 := hh10.cell 0
    have a1 := hh10.cell 1
    have a2 := hh10.cell 2
    obtain ⟨z0, z1, z2⟩ := HZ.out _ H10.out
    clear hh10 hcl hq10
    go_wp2_with fail
    refine (HSAL.out _ H10.out HL10.out).mono ?_
    rintro e w11 ⟨rfl, hb11⟩
    have H11 := Lib.hid (H10.out.trans (hb11.mono H10.out.size))
    clear hb11 a0 a1 a2 z0 z1 z2
    go_wp2_with fail
    refine (known_any _).mono ?_
    rintro e w12 ⟨rfl, hb12⟩
    have HF := Lib.hid (HQ0.out.trans ((H11.out.trans (hb12.mono H11.out.size)).mono HQ0.out.size))
    clear hb12
    go_wp2_with fail
    go_ret
    exact ⟨rfl, HF.out⟩
end Go.Proofs.Ytlggbkacaemdjaa
