/-
  Whatever is done, both disks answer alike.
-/
import Derived.Test.YtbenkffjfjddgaaRf10
namespace Go.Proofs.Ytbenkffjfjddgaa
open Go.RowKit
set_option linter.unusedVariables false
set_option linter.unusedSimpArgs false
attribute [local go_sem ↓] Go.wp_at_zero Go.wp_at_succ

set_option maxRecDepth 100000 in
set_option maxHeartbeats 8000000 in
theorem plays_yes (w : World) (n : Nat) (A : Option Addr) (c m : Nat) (l : List Ac) (hm : l.length = m) (hr : RdA w A c l) (h1 : 1 ≤ n) (h2 : n ≤ 50) (h3 : m ≤ 80) :
    Calls Try.prog 3 #[.int .i64 n, .slice A m c] w fun e w' => e = .returned (.bool true) ∧ Below w.heap.size w w' := by
  have d1 : decide (50 < (n : Int)) = false := decide_eq_false (by omega)
  have d2 : decide ((80 : Int) < (m : Int)) = false := decide_eq_false (by omega)
  have HN := Lib.hid (new_yes w n h1 (by omega))
  have HR := Lib.hid (fun w1 : World => rnew_yes w1 n h1 (by omega))
  have HA := Lib.hid hr
  have HM := Lib.hid hm
  have hmc : m ≤ c := by have := hr.1; omega
  have hcm : c ≤ 9223372036854775807 := hr.2.1
  clear hr hm
  go_enter Try.func3, Try.ntmps3
  go_wp2_with fail
  refine HN.out.mono ?_
  rintro e w1 ⟨gd, rfl, hd1, hb1⟩
  have HD1 := Lib.hid hd1
  have HB1 := Lib.hid hb1
  clear hd1 hb1 HN d1 d2
  go_wp2_with fail
  refine (HR.out w1).mono ?_
  rintro e w2 ⟨rfl, hp⟩
  have HP : Hid (PlSt w gd w1.heap.size 0 (fresh n) w2) := Lib.hid ⟨(two_new HD1.out HB1.out hp).1, oct_fresh n, Nat.le_refl _, Nat.le_refl _, (two_new HD1.out HB1.out hp).2⟩
  clear hp HR HD1 HB1
  generalize w1.heap.size = gx at *
  go_wp2_with fail
  go_loopw [7] (fun i wr => RelP w gd gx m i wr) (fun i _ => m - (intOf i).toNat)
  case atStart => exact ⟨0, _, Nat.zero_le _, rfl, HP.out⟩
  case round =>
    obtain ⟨k, s, hk, rfl, hp⟩ := hrel
    obtain ⟨V, hV⟩ : ∃ V, V = wr := ⟨_, rfl⟩
    subst hV
    have HP := Lib.hid hp
    clear hp
    by_cases hkn : k < m
    case pos =>
      have hkI : (k : Int) < (m : Int) := by omega
      have hk0 : (0 : Int) ≤ (k : Int) := by omega
      have HK80 : Hid (k ≤ 80) := Lib.hid (by omega)
      have hav := HA.out.under HP.out.bel
      obtain ⟨b, off, rfl, hbl, hcs⟩ := hav.2.2.2 (by rw [HM.out]; omega)
      obtain ⟨q0, q1, q2, q3, q4⟩ := hcs k (by rw [HM.out]; exact hkn)
      obtain ⟨hrd, htr, hoc⟩ := HA.out.2.2.1 k (by rw [HM.out]; exact hkn)
      have HRD0 := Lib.hid hrd
      have HTR0 := Lib.hid htr
      have HOB0 := Lib.hid hoc
      clear hav hcs hrd htr hoc
      generalize l.getD k default = a at *
      obtain ⟨kd, at1, ba, bc, bl, ca, ka, kc, kl⟩ := a
      simp only at q0 q1 q2 q3 q4
      have HRD : Hid (∀ W, Below w.heap.size w W → Rd .u8 W W.heap.size ba bc bl) := Lib.hid fun W hW => (HRD0.out.under hW).more hW.size
      have HTR : Hid (∀ W, Below w.heap.size w W → Truths W ka kc kl) := Lib.hid fun W hW => HTR0.out.under hW
      have HOB : Hid (Oct1 bl) := Lib.hid HOB0.out
      obtain ⟨nb, hnb⟩ : ∃ x, bl.length = x := ⟨_, rfl⟩
      obtain ⟨nk, hnk⟩ : ∃ x, kl.length = x := ⟨_, rfl⟩
      have HNB := Lib.hid hnb
      have HNK := Lib.hid hnk
      rw [hnb] at q2
      rw [hnk] at q4
      have HGX : Hid (0 < nb → ∀ g, blockOf ba = some g → g ≠ gx) := Lib.hid fun h0 g hg => by
        have := HRD0.out.lt (by show 0 < bl.length; omega) hg
        have := HP.out.two.pos.2.1
        omega
      have HGD : Hid (kl ≠ [] → ∀ g, blockOf ka = some g → g ≠ gd) := Lib.hid fun h0 g hg => by
        have := HTR0.out.lt h0 g hg
        have := HP.out.two.pos.1
        omega
      clear hnb hnk HRD0 HTR0 HOB0
      obtain ⟨V1, hV1⟩ : ∃ V1, V.alloc (.cells #[.int .i64 kd, .int .i64 at1, .slice ba nb bc, .int .i64 ca, .slice ka nk kc] 33) = V1 := ⟨_, rfl⟩
      have hbb : Below V.heap.size V V1 := by rw [← hV1]; exact (Below.refl _ V).alloc (Nat.le_refl _) _
      have hs1 : V1.heap.size = V.heap.size + 1 := by rw [← hV1]; simp
      have HB_V1 : Hid (Holds V1 V.heap.size 33 #[.int .i64 kd, .int .i64 at1, .slice ba nb bc, .int .i64 ca, .slice ka nk kc]) := Lib.hid (by rw [← hV1]; exact Holds.fresh _ _ _)
      have HT_V1 : Hid (TwoX V1 w.heap.size V.heap.size gd s gx s) := Lib.hid (TwoX.of HP.out.two hbb (Nat.le_refl _) (by omega))
      have HQ_V1 : Hid (Below w.heap.size w V1) := Lib.hid (HP.out.bel.trans (hbb.mono HP.out.bel.size))
      have HOS := Lib.hid HP.out.oct
      have HLS : Hid (s.waits.length ≤ k ∧ s.ops ≤ k) := Lib.hid ⟨HP.out.wl, HP.out.ol⟩
      have HV1 := Lib.hid hV1
      clear hbb hs1 hV1 HP hbl HA
      by_cases hnb : 200 < nb
      case pos =>
        have dB : decide ((200 : Int) < (nb : Int)) = true := decide_eq_true (by omega)
        go_wp2_with fail
        rw [HV1.out]
        go_ret
        exact ⟨rfl, HQ_V1.out⟩
      have dB : decide ((200 : Int) < (nb : Int)) = false := decide_eq_false (by omega)
      by_cases hnk : 100 < nk
      case pos =>
        have dK : decide ((100 : Int) < (nk : Int)) = true := decide_eq_true (by omega)
        go_wp2_with fail
        rw [HV1.out]
        go_ret
        exact ⟨rfl, HQ_V1.out⟩
      have dK : decide ((100 : Int) < (nk : Int)) = false := decide_eq_false (by omega)
      by_cases e1 : kd = 1
      case pos =>
        have HE : Hid (V.alloc (.cells #[.int .i64 1, .int .i64 at1, .slice ba nb bc, .int .i64 ca, .slice ka nk kc] 33) = V1) := Lib.hid (by rw [← e1]; exact HV1.out)
        go_wp2_with fail
        rw [HE.out]
        refine wp_region_noPanic ?_
        refine wp_region_held_drew (S := fun W => Holds W V.heap.size 33 #[.int .i64 kd, .int .i64 at1, .slice ba nb bc, .int .i64 ca, .slice ka nk kc]) (by kernel_rfl) (HB_V1.out) (fun hHeld => ?_)
        refine wpAnyH_take (i := 0) (oi := { dst := some 53, op := Op.move (Operand.tmp 5), type := 23, pos := _, after := _, guard := none }) (v := ?_) rfl (by kernel_rfl) (by kernel_rfl) (by kernel_rfl) (fun _ _ _ h => h) (Or.inl ⟨by rfl, ?_⟩) hHeld ?_
        rotate_left 1
        · (intro W hW; (try dsimp only at hW); go_simp; try with_reducible rfl)
        try simp only [Act.put, List.setIfInBounds_toArray, List.set_cons_zero, List.set_cons_succ]
        refine wpAnyH_take (i := 1) (oi := { dst := some 54, op := Op.fieldAddr 33 (Operand.tmp 8) 1, type := 0, pos := _, after := _, guard := none }) (v := ?_) rfl (by kernel_rfl) (by kernel_rfl) (by kernel_rfl) (fun _ _ _ h => h) (Or.inl ⟨by rfl, ?_⟩) hHeld ?_
        rotate_left 1
        · (intro W hW; (try dsimp only at hW); go_simp; try with_reducible rfl)
        try simp only [Act.put, List.setIfInBounds_toArray, List.set_cons_zero, List.set_cons_succ]
        refine wpAnyH_take (i := 2) (oi := { dst := some 55, op := Op.load 3 (Operand.tmp 54), type := 3, pos := _, after := _, guard := none }) (v := ?_) rfl (by kernel_rfl) (by kernel_rfl) (by kernel_rfl) (fun _ _ _ h => h) (Or.inl ⟨by rfl, ?_⟩) hHeld ?_
        rotate_left 1
        · (intro W hW; have hk1 : W.cell? ⟨V.heap.size, 1, none⟩ = some (.int .i64 at1) := Holds.cell hW 1; (try dsimp only at hW); go_simp; try with_reducible rfl)
        try simp only [Act.put, List.setIfInBounds_toArray, List.set_cons_zero, List.set_cons_succ]
        refine wpAnyH_take (i := 3) (oi := { dst := some 56, op := Op.fieldAddr 33 (Operand.tmp 8) 2, type := 0, pos := _, after := _, guard := none }) (v := ?_) rfl (by kernel_rfl) (by kernel_rfl) (by kernel_rfl) (fun _ _ _ h => h) (Or.inl ⟨by rfl, ?_⟩) hHeld ?_
        rotate_left 1
        · (intro W hW; (try dsimp only at hW); go_simp; try with_reducible rfl)
        try simp only [Act.put, List.setIfInBounds_toArray, List.set_cons_zero, List.set_cons_succ]
        refine wpAnyH_take (i := 4) (oi := { dst := some 57, op := Op.load 28 (Operand.tmp 56), type := 28, pos := _, after := _, guard := none }) (v := ?_) rfl (by kernel_rfl) (by kernel_rfl) (by kernel_rfl) (fun _ _ _ h => h) (Or.inl ⟨by rfl, ?_⟩) hHeld ?_
        rotate_left 1
        · (intro W hW; have hk2 : W.cell? ⟨V.heap.size, 2, none⟩ = some (.slice ba nb bc) := Holds.cell hW 2; (try dsimp only at hW); go_simp; try with_reducible rfl)
        try simp only [Act.put, List.setIfInBounds_toArray, List.set_cons_zero, List.set_cons_succ]
        refine wpAnyH_take (i := 6) (oi := { dst := some 59, op := Op.move (Operand.tmp 6), type := 25, pos := _, after := _, guard := none }) (v := ?_) rfl (by kernel_rfl) (by kernel_rfl) (by kernel_rfl) (fun _ _ _ h => h) (Or.inl ⟨by rfl, ?_⟩) hHeld ?_
        rotate_left 1
        · (intro W hW; (try dsimp only at hW); go_simp; try with_reducible rfl)
        try simp only [Act.put, List.setIfInBounds_toArray, List.set_cons_zero, List.set_cons_succ]
        refine wpAnyH_take (i := 7) (oi := { dst := some 60, op := Op.fieldAddr 33 (Operand.tmp 8) 1, type := 0, pos := _, after := _, guard := none }) (v := ?_) rfl (by kernel_rfl) (by kernel_rfl) (by kernel_rfl) (fun _ _ _ h => h) (Or.inl ⟨by rfl, ?_⟩) hHeld ?_
        rotate_left 1
        · (intro W hW; (try dsimp only at hW); go_simp; try with_reducible rfl)
        try simp only [Act.put, List.setIfInBounds_toArray, List.set_cons_zero, List.set_cons_succ]
        refine wpAnyH_take (i := 8) (oi := { dst := some 61, op := Op.load 3 (Operand.tmp 60), type := 3, pos := _, after := _, guard := none }) (v := ?_) rfl (by kernel_rfl) (by kernel_rfl) (by kernel_rfl) (fun _ _ _ h => h) (Or.inl ⟨by rfl, ?_⟩) hHeld ?_
        rotate_left 1
        · (intro W hW; have hk1 : W.cell? ⟨V.heap.size, 1, none⟩ = some (.int .i64 at1) := Holds.cell hW 1; (try dsimp only at hW); go_simp; try with_reducible rfl)
        try simp only [Act.put, List.setIfInBounds_toArray, List.set_cons_zero, List.set_cons_succ]
        refine wpAnyH_take (i := 9) (oi := { dst := some 62, op := Op.fieldAddr 33 (Operand.tmp 8) 2, type := 0, pos := _, after := _, guard := none }) (v := ?_) rfl (by kernel_rfl) (by kernel_rfl) (by kernel_rfl) (fun _ _ _ h => h) (Or.inl ⟨by rfl, ?_⟩) hHeld ?_
        rotate_left 1
        · (intro W hW; (try dsimp only at hW); go_simp; try with_reducible rfl)
        try simp only [Act.put, List.setIfInBounds_toArray, List.set_cons_zero, List.set_cons_succ]
        refine wpAnyH_take (i := 10) (oi := { dst := some 63, op := Op.load 28 (Operand.tmp 62), type := 28, pos := _, after := _, guard := none }) (v := ?_) rfl (by kernel_rfl) (by kernel_rfl) (by kernel_rfl) (fun _ _ _ h => h) (Or.inl ⟨by rfl, ?_⟩) hHeld ?_
        rotate_left 1
        · (intro W hW; have hk2 : W.cell? ⟨V.heap.size, 2, none⟩ = some (.slice ba nb bc) := Holds.cell hW 2; (try dsimp only at hW); go_simp; try with_reducible rfl)
        try simp only [Act.put, List.setIfInBounds_toArray, List.set_cons_zero, List.set_cons_succ]
        refine wpAnyH_ready (rs := [5]) (by kernel_rfl) (by simp) ?_
        refine AllReadyH.cons (o := { dst := some 58, op := Op.call { callee := Callee.value (Operand.func 12), args := #[Operand.tmp 53, Operand.tmp 55, Operand.tmp 57], argTypes := #[23, 3, 28] }, type := 34, pos := _, after := _, guard := none }) rfl (fun K hK => ?_) AllReadyH.nil
        go_simp
        refine (two_write1 (HT_V1.out.under (Below.refl _ V1).drew) at1 ba nb bc bl HNB.out (HRD.out V1.drew HQ_V1.out.drew) (by have := HLS.out.1; have := HK80.out; omega) (by have := HLS.out.2; have := HK80.out; omega)).mono ?_
        rintro e wa ⟨rfl, ht, hb, hx⟩
        have HT_wa := Lib.hid ht
        have HQ_wa : Hid (Below w.heap.size w wa) := Lib.hid (HQ_V1.out.drew.trans hb)
        have HB_wa : Hid (Holds wa V.heap.size 33 #[.int .i64 kd, .int .i64 at1, .slice ba nb bc, .int .i64 ca, .slice ka nk kc]) := Lib.hid (hx.trans HB_V1.out)
        clear ht hb hx
        go_simp
        refine hK.out _ _ (HB_wa.out) (fun _ => ?_)
        clear hK K hHeld
        try simp only [Act.put, List.setIfInBounds_toArray, List.set_cons_zero, List.set_cons_succ]
        have hHeld : (fun W => Holds W V.heap.size 33 #[.int .i64 kd, .int .i64 at1, .slice ba nb bc, .int .i64 ca, .slice ka nk kc]) wa := HB_wa.out
        refine wpAnyH_ready (rs := [11]) (by kernel_rfl) (by simp) ?_
        refine AllReadyH.cons (o := { dst := some 64, op := Op.call { callee := Callee.value (Operand.func 13), args := #[Operand.tmp 59, Operand.tmp 61, Operand.tmp 63], argTypes := #[25, 3, 28] }, type := 3, pos := _, after := _, guard := none }) rfl (fun K hK => ?_) AllReadyH.nil
        go_simp
        refine (two_write2 HT_wa.out at1 ba nb bc bl HNB.out (HRD.out wa HQ_wa.out) HGX.out (by have := HLS.out.1; have := HK80.out; omega) (by have := HLS.out.2; have := HK80.out; omega)).mono ?_
        rintro e wb ⟨rfl, ht, hb, hx⟩
        have HT_wb := Lib.hid ht
        have HQ_wb : Hid (Below w.heap.size w wb) := Lib.hid (HQ_wa.out.trans hb)
        have HB_wb : Hid (Holds wb V.heap.size 33 #[.int .i64 kd, .int .i64 at1, .slice ba nb bc, .int .i64 ca, .slice ka nk kc]) := Lib.hid (hx.trans HB_wa.out)
        clear ht hb hx
        go_simp
        refine hK.out _ _ (HB_wb.out) (fun _ => ?_)
        clear hK K hHeld
        try simp only [Act.put, List.setIfInBounds_toArray, List.set_cons_zero, List.set_cons_succ]
        have hHeld : (fun W => Holds W V.heap.size 33 #[.int .i64 kd, .int .i64 at1, .slice ba nb bc, .int .i64 ca, .slice ka nk kc]) wb := HB_wb.out
        refine wpAnyH_take (i := 12) (oi := { dst := some 65, op := Op.binOp BinOp.eql 3 (Operand.tmp 58) (Operand.tmp 64) 3, type := 4, pos := _, after := _, guard := none }) (v := ?_) rfl (by kernel_rfl) (by kernel_rfl) (by kernel_rfl) (fun _ _ _ h => h) (Or.inl ⟨by rfl, ?_⟩) hHeld ?_
        rotate_left 1
        · (intro W hW; (try dsimp only at hW); go_simp; try with_reducible rfl)
        try simp only [Act.put, List.setIfInBounds_toArray, List.set_cons_zero, List.set_cons_succ]
        refine wpAnyH_take (i := 13) (oi := { dst := some 9, op := Op.assign (Operand.tmp 65), type := 4, pos := _, after := _, guard := none }) (v := ?_) rfl (by kernel_rfl) (by kernel_rfl) (by kernel_rfl) (fun _ _ _ h => h) (Or.inl ⟨by rfl, ?_⟩) hHeld ?_
        rotate_left 1
        · (intro W hW; (try dsimp only at hW); go_simp; try with_reducible rfl)
        try simp only [Act.put, List.setIfInBounds_toArray, List.set_cons_zero, List.set_cons_succ]
        refine wpAnyH_done (by kernel_rfl) ?_ _
        refine NoPanic.normal ?_
        have HOZ := Lib.hid (HOS.out.write at1 HOB.out)
        have HLZ : Hid ((s.write at1 bl).1.waits.length ≤ k + 1 ∧ (s.write at1 bl).1.ops ≤ k + 1) := Lib.hid (by have h1 := write_le s at1 bl; have h2 := HLS.out; omega)
        clear HB_V1 HT_V1 HQ_V1 HT_wa HQ_wa HB_wa HB_wb
        have HQZ : Hid (Below w.heap.size w wb) := HQ_wb
        go_wp2_with fail
        refine (same_any wb w.heap.size gd gx _ HT_wb.out.to HOZ.out (by have := HLZ.out.1; have := HK80.out; omega)).mono ?_
        rintro e wy ⟨rfl, hty, hby⟩
        have HF := Lib.hid (PlSt.mk (k := k + 1) hty HOZ.out HLZ.out.1 HLZ.out.2 (HQZ.out.trans (hby.mono HQZ.out.size)))
        clear hty hby
        go_wp2_with fail
        go_roundw
        case rel => exact ⟨k + 1, _, by omega, by go_num, HF.out⟩
        case measure => simp [intOf]; omega
      have n1 : (kd == 1) = false := by rw [beq_eq_false_iff_ne]; exact e1
      by_cases e2 : kd = 2
      case pos =>
        have HE : Hid (V.alloc (.cells #[.int .i64 2, .int .i64 at1, .slice ba nb bc, .int .i64 ca, .slice ka nk kc] 33) = V1) := Lib.hid (by rw [← e2]; exact HV1.out)
        go_wp2_with fail
        rw [HE.out]
        refine (two_flush1 HT_V1.out (by have := HLS.out.1; have := HK80.out; omega) (by have := HLS.out.2; have := HK80.out; omega)).mono ?_
        rintro e wa ⟨rfl, ht, hb, hx⟩
        have HT_wa := Lib.hid ht
        have HQ_wa : Hid (Below w.heap.size w wa) := Lib.hid (HQ_V1.out.trans hb)
        have HB_wa : Hid (Holds wa V.heap.size 33 #[.int .i64 kd, .int .i64 at1, .slice ba nb bc, .int .i64 ca, .slice ka nk kc]) := Lib.hid (hx.trans HB_V1.out)
        clear ht hb hx
        go_wp2_with fail
        refine (two_flush2 HT_wa.out (by have := HLS.out.1; have := HK80.out; omega) (by have := HLS.out.2; have := HK80.out; omega)).mono ?_
        rintro e wb ⟨rfl, ht, hb, hx⟩
        have HT_wb := Lib.hid ht
        have HQ_wb : Hid (Below w.heap.size w wb) := Lib.hid (HQ_wa.out.trans hb)
        have HB_wb : Hid (Holds wb V.heap.size 33 #[.int .i64 kd, .int .i64 at1, .slice ba nb bc, .int .i64 ca, .slice ka nk kc]) := Lib.hid (hx.trans HB_wa.out)
        clear ht hb hx
        have HOZ := Lib.hid HOS.out.flush
        have HLZ : Hid (s.flush.1.waits.length ≤ k + 1 ∧ s.flush.1.ops ≤ k + 1) := Lib.hid (by have h1 := flush_le s; have h2 := HLS.out; omega)
        clear HB_V1 HT_V1 HQ_V1 HT_wa HQ_wa HB_wa HB_wb
        have HQZ : Hid (Below w.heap.size w wb) := HQ_wb
        go_wp2_with fail
        refine (same_any wb w.heap.size gd gx _ HT_wb.out.to HOZ.out (by have := HLZ.out.1; have := HK80.out; omega)).mono ?_
        rintro e wy ⟨rfl, hty, hby⟩
        have HF := Lib.hid (PlSt.mk (k := k + 1) hty HOZ.out HLZ.out.1 HLZ.out.2 (HQZ.out.trans (hby.mono HQZ.out.size)))
        clear hty hby
        go_wp2_with fail
        go_roundw
        case rel => exact ⟨k + 1, _, by omega, by go_num, HF.out⟩
        case measure => simp [intOf]; omega
      have n2 : (kd == 2) = false := by rw [beq_eq_false_iff_ne]; exact e2
      by_cases e3 : kd = 3
      case pos =>
        have HE : Hid (V.alloc (.cells #[.int .i64 3, .int .i64 at1, .slice ba nb bc, .int .i64 ca, .slice ka nk kc] 33) = V1) := Lib.hid (by rw [← e3]; exact HV1.out)
        go_wp2_with fail
        rw [HE.out]
        refine (two_arm1 HT_V1.out ca ka kc nk kl HNK.out (HTR.out V1 HQ_V1.out) (by omega) HGD.out).mono ?_
        rintro e wa ⟨rfl, ht, hb, hx⟩
        have HT_wa := Lib.hid ht
        have HQ_wa : Hid (Below w.heap.size w wa) := Lib.hid (HQ_V1.out.trans hb)
        have HB_wa : Hid (Holds wa V.heap.size 33 #[.int .i64 kd, .int .i64 at1, .slice ba nb bc, .int .i64 ca, .slice ka nk kc]) := Lib.hid (hx.trans HB_V1.out)
        clear ht hb hx
        have e3 : wa.cell? ⟨V.heap.size, 3, none⟩ = some (.int .i64 ca) := HB_wa.out.cell 3
        have e4 : wa.cell? ⟨V.heap.size, 4, none⟩ = some (.slice ka nk kc) := HB_wa.out.cell 4
        go_wp2_with fail
        refine (two_arm2 HT_wa.out ca ka kc nk kl HNK.out (HTR.out wa HQ_wa.out) (by omega)).mono ?_
        rintro e wb ⟨rfl, ht, hb, hx⟩
        have HT_wb := Lib.hid ht
        have HQ_wb : Hid (Below w.heap.size w wb) := Lib.hid (HQ_wa.out.trans hb)
        have HB_wb : Hid (Holds wb V.heap.size 33 #[.int .i64 kd, .int .i64 at1, .slice ba nb bc, .int .i64 ca, .slice ka nk kc]) := Lib.hid (hx.trans HB_wa.out)
        clear ht hb hx
        have HOZ := Lib.hid (HOS.out.arm ca kl)
        have HLZ : Hid ((s.arm ca kl).waits.length ≤ k + 1 ∧ (s.arm ca kl).ops ≤ k + 1) := Lib.hid ⟨by have := HLS.out.1; show s.waits.length ≤ _; omega, by have := HLS.out.2; show s.ops ≤ _; omega⟩
        clear HB_V1 HT_V1 HQ_V1 HT_wa HQ_wa HB_wa HB_wb e3 e4
        have HQZ : Hid (Below w.heap.size w wb) := HQ_wb
        go_wp2_with fail
        refine (same_any wb w.heap.size gd gx _ HT_wb.out.to HOZ.out (by have := HLZ.out.1; have := HK80.out; omega)).mono ?_
        rintro e wy ⟨rfl, hty, hby⟩
        have HF := Lib.hid (PlSt.mk (k := k + 1) hty HOZ.out HLZ.out.1 HLZ.out.2 (HQZ.out.trans (hby.mono HQZ.out.size)))
        clear hty hby
        go_wp2_with fail
        go_roundw
        case rel => exact ⟨k + 1, _, by omega, by go_num, HF.out⟩
        case measure => simp [intOf]; omega
      have n3 : (kd == 3) = false := by rw [beq_eq_false_iff_ne]; exact e3
      by_cases e4 : kd = 4
      case pos =>
        have HE : Hid (V.alloc (.cells #[.int .i64 4, .int .i64 at1, .slice ba nb bc, .int .i64 ca, .slice ka nk kc] 33) = V1) := Lib.hid (by rw [← e4]; exact HV1.out)
        go_wp2_with fail
        rw [HE.out]
        refine (two_restart1 HT_V1.out (by have := HLS.out.1; have := HK80.out; omega)).mono ?_
        rintro e wa ⟨rfl, ht, hb, hx⟩
        have HT_wa := Lib.hid ht
        have HQ_wa : Hid (Below w.heap.size w wa) := Lib.hid (HQ_V1.out.trans hb)
        have HB_wa : Hid (Holds wa V.heap.size 33 #[.int .i64 kd, .int .i64 at1, .slice ba nb bc, .int .i64 ca, .slice ka nk kc]) := Lib.hid (hx.trans HB_V1.out)
        clear ht hb hx
        go_wp2_with fail
        refine (two_restart2 HT_wa.out).mono ?_
        rintro e wb ⟨rfl, ht, hb, hx⟩
        have HT_wb := Lib.hid ht
        have HQ_wb : Hid (Below w.heap.size w wb) := Lib.hid (HQ_wa.out.trans hb)
        have HB_wb : Hid (Holds wb V.heap.size 33 #[.int .i64 kd, .int .i64 at1, .slice ba nb bc, .int .i64 ca, .slice ka nk kc]) := Lib.hid (hx.trans HB_wa.out)
        clear ht hb hx
        have HOZ := Lib.hid HOS.out.restart
        have HLZ : Hid (s.restart.waits.length ≤ k + 1 ∧ s.restart.ops ≤ k + 1) := Lib.hid ⟨Nat.zero_le _, Nat.zero_le _⟩
        clear HB_V1 HT_V1 HQ_V1 HT_wa HQ_wa HB_wa HB_wb
        have HQZ : Hid (Below w.heap.size w wb) := HQ_wb
        go_wp2_with fail
        refine (same_any wb w.heap.size gd gx _ HT_wb.out.to HOZ.out (by have := HLZ.out.1; have := HK80.out; omega)).mono ?_
        rintro e wy ⟨rfl, hty, hby⟩
        have HF := Lib.hid (PlSt.mk (k := k + 1) hty HOZ.out HLZ.out.1 HLZ.out.2 (HQZ.out.trans (hby.mono HQZ.out.size)))
        clear hty hby
        go_wp2_with fail
        go_roundw
        case rel => exact ⟨k + 1, _, by omega, by go_num, HF.out⟩
        case measure => simp [intOf]; omega
      have n4 : (kd == 4) = false := by rw [beq_eq_false_iff_ne]; exact e4
      by_cases e5 : kd = 5
      case pos =>
        have HE : Hid (V.alloc (.cells #[.int .i64 5, .int .i64 at1, .slice ba nb bc, .int .i64 ca, .slice ka nk kc] 33) = V1) := Lib.hid (by rw [← e5]; exact HV1.out)
        go_wp2_with fail
        rw [HE.out]
        refine wp_region_noPanic ?_
        refine wp_region_held_drew (S := fun W => Holds W V.heap.size 33 #[.int .i64 kd, .int .i64 at1, .slice ba nb bc, .int .i64 ca, .slice ka nk kc]) (by kernel_rfl) (HB_V1.out) (fun hHeld => ?_)
        refine wpAnyH_take (i := 0) (oi := { dst := some 91, op := Op.move (Operand.tmp 5), type := 23, pos := _, after := _, guard := none }) (v := ?_) rfl (by kernel_rfl) (by kernel_rfl) (by kernel_rfl) (fun _ _ _ h => h) (Or.inl ⟨by rfl, ?_⟩) hHeld ?_
        rotate_left 1
        · (intro W hW; (try dsimp only at hW); go_simp; try with_reducible rfl)
        try simp only [Act.put, List.setIfInBounds_toArray, List.set_cons_zero, List.set_cons_succ]
        refine wpAnyH_take (i := 1) (oi := { dst := some 92, op := Op.fieldAddr 33 (Operand.tmp 8) 1, type := 0, pos := _, after := _, guard := none }) (v := ?_) rfl (by kernel_rfl) (by kernel_rfl) (by kernel_rfl) (fun _ _ _ h => h) (Or.inl ⟨by rfl, ?_⟩) hHeld ?_
        rotate_left 1
        · (intro W hW; (try dsimp only at hW); go_simp; try with_reducible rfl)
        try simp only [Act.put, List.setIfInBounds_toArray, List.set_cons_zero, List.set_cons_succ]
        refine wpAnyH_take (i := 2) (oi := { dst := some 93, op := Op.load 3 (Operand.tmp 92), type := 3, pos := _, after := _, guard := none }) (v := ?_) rfl (by kernel_rfl) (by kernel_rfl) (by kernel_rfl) (fun _ _ _ h => h) (Or.inl ⟨by rfl, ?_⟩) hHeld ?_
        rotate_left 1
        · (intro W hW; have hk1 : W.cell? ⟨V.heap.size, 1, none⟩ = some (.int .i64 at1) := Holds.cell hW 1; (try dsimp only at hW); go_simp; try with_reducible rfl)
        try simp only [Act.put, List.setIfInBounds_toArray, List.set_cons_zero, List.set_cons_succ]
        refine wpAnyH_take (i := 3) (oi := { dst := some 94, op := Op.fieldAddr 33 (Operand.tmp 8) 2, type := 0, pos := _, after := _, guard := none }) (v := ?_) rfl (by kernel_rfl) (by kernel_rfl) (by kernel_rfl) (fun _ _ _ h => h) (Or.inl ⟨by rfl, ?_⟩) hHeld ?_
        rotate_left 1
        · (intro W hW; (try dsimp only at hW); go_simp; try with_reducible rfl)
        try simp only [Act.put, List.setIfInBounds_toArray, List.set_cons_zero, List.set_cons_succ]
        refine wpAnyH_take (i := 4) (oi := { dst := some 95, op := Op.load 28 (Operand.tmp 94), type := 28, pos := _, after := _, guard := none }) (v := ?_) rfl (by kernel_rfl) (by kernel_rfl) (by kernel_rfl) (fun _ _ _ h => h) (Or.inl ⟨by rfl, ?_⟩) hHeld ?_
        rotate_left 1
        · (intro W hW; have hk2 : W.cell? ⟨V.heap.size, 2, none⟩ = some (.slice ba nb bc) := Holds.cell hW 2; (try dsimp only at hW); go_simp; try with_reducible rfl)
        try simp only [Act.put, List.setIfInBounds_toArray, List.set_cons_zero, List.set_cons_succ]
        refine wpAnyH_take (i := 7) (oi := { dst := some 98, op := Op.move (Operand.tmp 6), type := 25, pos := _, after := _, guard := none }) (v := ?_) rfl (by kernel_rfl) (by kernel_rfl) (by kernel_rfl) (fun _ _ _ h => h) (Or.inl ⟨by rfl, ?_⟩) hHeld ?_
        rotate_left 1
        · (intro W hW; (try dsimp only at hW); go_simp; try with_reducible rfl)
        try simp only [Act.put, List.setIfInBounds_toArray, List.set_cons_zero, List.set_cons_succ]
        refine wpAnyH_take (i := 8) (oi := { dst := some 99, op := Op.fieldAddr 33 (Operand.tmp 8) 1, type := 0, pos := _, after := _, guard := none }) (v := ?_) rfl (by kernel_rfl) (by kernel_rfl) (by kernel_rfl) (fun _ _ _ h => h) (Or.inl ⟨by rfl, ?_⟩) hHeld ?_
        rotate_left 1
        · (intro W hW; (try dsimp only at hW); go_simp; try with_reducible rfl)
        try simp only [Act.put, List.setIfInBounds_toArray, List.set_cons_zero, List.set_cons_succ]
        refine wpAnyH_take (i := 9) (oi := { dst := some 100, op := Op.load 3 (Operand.tmp 99), type := 3, pos := _, after := _, guard := none }) (v := ?_) rfl (by kernel_rfl) (by kernel_rfl) (by kernel_rfl) (fun _ _ _ h => h) (Or.inl ⟨by rfl, ?_⟩) hHeld ?_
        rotate_left 1
        · (intro W hW; have hk1 : W.cell? ⟨V.heap.size, 1, none⟩ = some (.int .i64 at1) := Holds.cell hW 1; (try dsimp only at hW); go_simp; try with_reducible rfl)
        try simp only [Act.put, List.setIfInBounds_toArray, List.set_cons_zero, List.set_cons_succ]
        refine wpAnyH_take (i := 10) (oi := { dst := some 101, op := Op.fieldAddr 33 (Operand.tmp 8) 2, type := 0, pos := _, after := _, guard := none }) (v := ?_) rfl (by kernel_rfl) (by kernel_rfl) (by kernel_rfl) (fun _ _ _ h => h) (Or.inl ⟨by rfl, ?_⟩) hHeld ?_
        rotate_left 1
        · (intro W hW; (try dsimp only at hW); go_simp; try with_reducible rfl)
        try simp only [Act.put, List.setIfInBounds_toArray, List.set_cons_zero, List.set_cons_succ]
        refine wpAnyH_take (i := 11) (oi := { dst := some 102, op := Op.load 28 (Operand.tmp 101), type := 28, pos := _, after := _, guard := none }) (v := ?_) rfl (by kernel_rfl) (by kernel_rfl) (by kernel_rfl) (fun _ _ _ h => h) (Or.inl ⟨by rfl, ?_⟩) hHeld ?_
        rotate_left 1
        · (intro W hW; have hk2 : W.cell? ⟨V.heap.size, 2, none⟩ = some (.slice ba nb bc) := Holds.cell hW 2; (try dsimp only at hW); go_simp; try with_reducible rfl)
        try simp only [Act.put, List.setIfInBounds_toArray, List.set_cons_zero, List.set_cons_succ]
        refine wpAnyH_ready (rs := [5]) (by kernel_rfl) (by simp) ?_
        refine AllReadyH.cons (o := { dst := some 96, op := Op.call { callee := Callee.value (Operand.func 20), args := #[Operand.tmp 95], argTypes := #[28] }, type := 28, pos := _, after := _, guard := none }) rfl (fun K hK => ?_) AllReadyH.nil
        go_simp
        refine (sectorR V1.drew ba bc nb bl HNB.out (HRD.out V1.drew HQ_V1.out.drew)).mono ?_
        rintro e wa ⟨rfl, _, hr, hb⟩
        have hb' : Below V1.heap.size V1 wa := ⟨hb.os, hb.tape, hb.output, hb.size, hb.block⟩
        have HT_wa := Lib.hid (HT_V1.out.under hb')
        have HQ_wa : Hid (Below w.heap.size w wa) := Lib.hid (HQ_V1.out.trans (hb'.mono HQ_V1.out.size))
        have HB_wa : Hid (Holds wa V.heap.size 33 #[.int .i64 kd, .int .i64 at1, .slice ba nb bc, .int .i64 ca, .slice ka nk kc]) := Lib.hid (Holds.under HB_V1.out hb' (Holds.lt HB_V1.out))
        have HR_wa : Hid (Rd .u8 wa wa.heap.size (some ⟨V1.heap.size, 0, none⟩) 64 (secOf bl)) := Lib.hid hr
        clear hr hb hb'
        go_simp
        refine hK.out _ _ (HB_wa.out) (fun _ => ?_)
        clear hK K hHeld
        try simp only [Act.put, List.setIfInBounds_toArray, List.set_cons_zero, List.set_cons_succ]
        have hHeld : (fun W => Holds W V.heap.size 33 #[.int .i64 kd, .int .i64 at1, .slice ba nb bc, .int .i64 ca, .slice ka nk kc]) wa := HB_wa.out
        refine wpAnyH_ready (rs := [6]) (by kernel_rfl) (by simp) ?_
        refine AllReadyH.cons (o := { dst := some 97, op := Op.call { callee := Callee.value (Operand.func 12), args := #[Operand.tmp 91, Operand.tmp 93, Operand.tmp 96], argTypes := #[23, 3, 28] }, type := 34, pos := _, after := _, guard := none }) rfl (fun K hK => ?_) AllReadyH.nil
        go_simp
        refine (two_write1 HT_wa.out at1 _ 64 64 (secOf bl) (secOf_length bl) HR_wa.out (by have := HLS.out.1; have := HK80.out; omega) (by have := HLS.out.2; have := HK80.out; omega)).mono ?_
        rintro e wb ⟨rfl, ht, hb, hx⟩
        have HT_wb := Lib.hid ht
        have HQ_wb : Hid (Below w.heap.size w wb) := Lib.hid (HQ_wa.out.trans hb)
        have HB_wb : Hid (Holds wb V.heap.size 33 #[.int .i64 kd, .int .i64 at1, .slice ba nb bc, .int .i64 ca, .slice ka nk kc]) := Lib.hid (hx.trans HB_wa.out)
        clear ht hb hx
        go_simp
        refine hK.out _ _ (HB_wb.out) (fun _ => ?_)
        clear hK K hHeld
        try simp only [Act.put, List.setIfInBounds_toArray, List.set_cons_zero, List.set_cons_succ]
        have hHeld : (fun W => Holds W V.heap.size 33 #[.int .i64 kd, .int .i64 at1, .slice ba nb bc, .int .i64 ca, .slice ka nk kc]) wb := HB_wb.out
        refine wpAnyH_ready (rs := [12]) (by kernel_rfl) (by simp) ?_
        refine AllReadyH.cons (o := { dst := some 103, op := Op.call { callee := Callee.value (Operand.func 20), args := #[Operand.tmp 102], argTypes := #[28] }, type := 28, pos := _, after := _, guard := none }) rfl (fun K hK => ?_) AllReadyH.nil
        go_simp
        refine (sectorR wb ba bc nb bl HNB.out (HRD.out wb HQ_wb.out)).mono ?_
        rintro e wc ⟨rfl, _, hr, hb⟩
        have hb' : Below wb.heap.size wb wc := ⟨hb.os, hb.tape, hb.output, hb.size, hb.block⟩
        have HT_wc := Lib.hid (HT_wb.out.under hb')
        have HQ_wc : Hid (Below w.heap.size w wc) := Lib.hid (HQ_wb.out.trans (hb'.mono HQ_wb.out.size))
        have HB_wc : Hid (Holds wc V.heap.size 33 #[.int .i64 kd, .int .i64 at1, .slice ba nb bc, .int .i64 ca, .slice ka nk kc]) := Lib.hid (Holds.under HB_wb.out hb' (Holds.lt HB_wb.out))
        have HR_wc : Hid (Rd .u8 wc wc.heap.size (some ⟨wb.heap.size, 0, none⟩) 64 (secOf bl)) := Lib.hid hr
        clear hr hb hb'
        go_simp
        refine hK.out _ _ (HB_wc.out) (fun _ => ?_)
        clear hK K hHeld
        try simp only [Act.put, List.setIfInBounds_toArray, List.set_cons_zero, List.set_cons_succ]
        have hHeld : (fun W => Holds W V.heap.size 33 #[.int .i64 kd, .int .i64 at1, .slice ba nb bc, .int .i64 ca, .slice ka nk kc]) wc := HB_wc.out
        refine wpAnyH_ready (rs := [13]) (by kernel_rfl) (by simp) ?_
        refine AllReadyH.cons (o := { dst := some 104, op := Op.call { callee := Callee.value (Operand.func 13), args := #[Operand.tmp 98, Operand.tmp 100, Operand.tmp 103], argTypes := #[25, 3, 28] }, type := 3, pos := _, after := _, guard := none }) rfl (fun K hK => ?_) AllReadyH.nil
        go_simp
        have hgw : 0 < 64 → ∀ g, blockOf (some (⟨wb.heap.size, 0, none⟩ : Addr)) = some g → g ≠ gx := fun _ g hg => by
          obtain rfl : wb.heap.size = g := by simpa [blockOf] using hg
          have := HT_wb.out.to.pos.2.2
          omega
        refine (two_write2 HT_wc.out at1 (some ⟨wb.heap.size, 0, none⟩) 64 64 (secOf bl) (secOf_length bl) HR_wc.out hgw (by have := HLS.out.1; have := HK80.out; omega) (by have := HLS.out.2; have := HK80.out; omega)).mono ?_
        rintro e wd ⟨rfl, ht, hb, hx⟩
        have HT_wd := Lib.hid ht
        have HQ_wd : Hid (Below w.heap.size w wd) := Lib.hid (HQ_wc.out.trans hb)
        have HB_wd : Hid (Holds wd V.heap.size 33 #[.int .i64 kd, .int .i64 at1, .slice ba nb bc, .int .i64 ca, .slice ka nk kc]) := Lib.hid (hx.trans HB_wc.out)
        clear ht hb hx
        go_simp
        refine hK.out _ _ (HB_wd.out) (fun _ => ?_)
        clear hK K hHeld
        try simp only [Act.put, List.setIfInBounds_toArray, List.set_cons_zero, List.set_cons_succ]
        have hHeld : (fun W => Holds W V.heap.size 33 #[.int .i64 kd, .int .i64 at1, .slice ba nb bc, .int .i64 ca, .slice ka nk kc]) wd := HB_wd.out
        refine wpAnyH_take (i := 14) (oi := { dst := some 105, op := Op.binOp BinOp.eql 3 (Operand.tmp 97) (Operand.tmp 104) 3, type := 4, pos := _, after := _, guard := none }) (v := ?_) rfl (by kernel_rfl) (by kernel_rfl) (by kernel_rfl) (fun _ _ _ h => h) (Or.inl ⟨by rfl, ?_⟩) hHeld ?_
        rotate_left 1
        · (intro W hW; (try dsimp only at hW); go_simp; try with_reducible rfl)
        try simp only [Act.put, List.setIfInBounds_toArray, List.set_cons_zero, List.set_cons_succ]
        refine wpAnyH_take (i := 15) (oi := { dst := some 9, op := Op.assign (Operand.tmp 105), type := 4, pos := _, after := _, guard := none }) (v := ?_) rfl (by kernel_rfl) (by kernel_rfl) (by kernel_rfl) (fun _ _ _ h => h) (Or.inl ⟨by rfl, ?_⟩) hHeld ?_
        rotate_left 1
        · (intro W hW; (try dsimp only at hW); go_simp; try with_reducible rfl)
        try simp only [Act.put, List.setIfInBounds_toArray, List.set_cons_zero, List.set_cons_succ]
        refine wpAnyH_done (by kernel_rfl) ?_ _
        refine NoPanic.normal ?_
        have HOZ := Lib.hid (HOS.out.write at1 (secOf_oct HOB.out))
        have HLZ : Hid ((s.write at1 (secOf bl)).1.waits.length ≤ k + 1 ∧ (s.write at1 (secOf bl)).1.ops ≤ k + 1) := Lib.hid (by have h1 := write_le s at1 (secOf bl); have h2 := HLS.out; omega)
        clear HB_V1 HT_V1 HQ_V1 HT_wa HQ_wa HB_wa HT_wb HQ_wb HB_wb HT_wc HQ_wc HB_wc HB_wd
        have HQZ : Hid (Below w.heap.size w wd) := HQ_wd
        go_wp2_with fail
        refine (same_any wd w.heap.size gd gx _ HT_wd.out.to HOZ.out (by have := HLZ.out.1; have := HK80.out; omega)).mono ?_
        rintro e wy ⟨rfl, hty, hby⟩
        have HF := Lib.hid (PlSt.mk (k := k + 1) hty HOZ.out HLZ.out.1 HLZ.out.2 (HQZ.out.trans (hby.mono HQZ.out.size)))
        clear hty hby
        go_wp2_with fail
        go_roundw
        case rel => exact ⟨k + 1, _, by omega, by go_num, HF.out⟩
        case measure => simp [intOf]; omega
      have n5 : (kd == 5) = false := by rw [beq_eq_false_iff_ne]; exact e5
      have HOZ := HOS
      have HLZ : Hid (s.waits.length ≤ k + 1 ∧ s.ops ≤ k + 1) := Lib.hid (by have := HLS.out; omega)
      have HQZ : Hid (Below w.heap.size w V1) := HQ_V1
      go_wp2_with fail
      rw [HV1.out]
      refine (same_any V1 w.heap.size gd gx _ HT_V1.out.to HOZ.out (by have := HLZ.out.1; have := HK80.out; omega)).mono ?_
      rintro e wy ⟨rfl, hty, hby⟩
      have HF := Lib.hid (PlSt.mk (k := k + 1) hty HOZ.out HLZ.out.1 HLZ.out.2 (HQZ.out.trans (hby.mono HQZ.out.size)))
      clear hty hby
      go_wp2_with fail
      go_roundw
      case rel => exact ⟨k + 1, _, by omega, by go_num, HF.out⟩
      case measure => simp [intOf]; omega
    case neg =>
      obtain rfl : k = m := by omega
      have hkI : ¬ ((k : Int) < (k : Int)) := by omega
      go_wp2_with fail
      refine (known_any V).mono ?_
      rintro e wy ⟨rfl, hby⟩
      have HQ := Lib.hid (HP.out.bel.trans (hby.mono HP.out.bel.size))
      clear hby
      go_wp2_with fail
      go_ret
      exact ⟨rfl, HQ.out⟩
theorem law_plays (w : World) (n : Int) (A : Option Addr) (c m : Nat) (l : List Ac) (hm : l.length = m) (hr : RdA w A c l) :
    Calls Try.prog 3 #[.int .i64 n, .slice A m c] w fun e w' => e = .returned (.bool true) ∧ Below w.heap.size w w' := by
  by_cases h : 50 < n ∨ 80 < m ∨ n < 1
  · exact plays_no w n A c m h
  · obtain ⟨k, rfl⟩ : ∃ k : Nat, n = (k : Int) := ⟨n.toNat, by omega⟩
    exact plays_yes w k A c m l hm hr (by omega) (by omega) (by omega)
end Go.Proofs.Ytbenkffjfjddgaa
