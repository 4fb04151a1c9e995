/-
  Nodes as the document's: a copy of the row.
-/
import Derived.Test.YtkfokgkehlcikaaRoom4
import Derived.Test.YtkfokgkehlcikaaOwnV
import Derived.Deep.RegionHeld3
namespace Go.Proofs.Ytkfokgkehlcikaa
open Go.RowKit
set_option linter.unusedVariables false
set_option linter.unusedSimpArgs false
attribute [local go_sem ↓] Go.wp_at_zero Go.wp_at_succ

def ncell (d : Nd) : List Value := [.string d.name, .int .i64 d.size, .slice d.pa d.pl.length d.pc]
theorem info_node3 : (Try.prog.info? 28).map (fun i => (i.zero, i.size, i.bytes)) = some (some (.agg #[.string ByteArray.empty, .int .i64 0, .slice none 0 0]), 3, 48) := by kernel_rfl
theorem RdN.of_own {w : World} {A : Option Addr} {c n : Nat} {l : List Nd} (hl : l.length = n) (h : OwnV 28 3 w A c n (l.flatMap ncell)) (hr : ∀ j, j < n → RdI .i64 w w.heap.size (l.getD j default).pa (l.getD j default).pc (l.getD j default).pl) : RdN w w.heap.size A c l := by
  subst hl
  refine ⟨h.le.1, h.le.2, hr, fun hn => ?_⟩
  have at3 : ∀ j, j < l.length → ∀ t, t < 3 → ∀ v, (ncell (l.getD j default))[t]? = some v → ∃ g, A = some ⟨g, 0, none⟩ ∧ g < w.heap.size ∧ w.cell? ⟨g, 3 * j + t, none⟩ = some v := fun j hj t ht v hv => by
    have e : l[j]? = some (l.getD j default) := by simp [List.getD, hj]
    have f := flat_at (f := ncell) (m := 3) (L := l) (fun _ _ => rfl) e (j := t) ht
    obtain ⟨g, hA, hlt, hc, _⟩ := h.at_ (j := 3 * j + t) (v := v) (by rw [f]; exact hv)
    exact ⟨g, hA, hlt, hc⟩
  obtain ⟨g, rfl, hlt, _⟩ := at3 0 hn 0 (by omega) _ rfl
  refine ⟨g, 0, rfl, hlt, fun j hj => ?_⟩
  have k : ∀ t, t < 3 → ∀ v, (ncell (l.getD j default))[t]? = some v → w.cell? ⟨g, 3 * j + t, none⟩ = some v := fun t ht v hv => by
    obtain ⟨g', e, _, hc⟩ := at3 j hj t ht v hv
    injection e with e
    obtain rfl : g = g' := by injection e
    exact hc
  exact ⟨by rw [show 0 + j * 3 = 3 * j + 0 by omega]; exact k 0 (by omega) _ rfl, by rw [show 0 + j * 3 + 1 = 3 * j + 1 by omega]; exact k 1 (by omega) _ rfl, by rw [show 0 + j * 3 + 2 = 3 * j + 2 by omega]; exact k 2 (by omega) _ rfl⟩

def RelOf (l : List Nd) (w : World) (n : Nat) (v i : Value) (wr : World) : Prop :=
  ∃ (k : Nat) (A' : Option Addr) (c' : Nat), k ≤ n ∧ i = .int .i64 k ∧ v = .slice A' k c' ∧ OwnV 28 3 wr A' c' k ((l.take k).flatMap ncell) ∧ (∀ g, blockOf A' = some g → w.heap.size ≤ g) ∧ Below w.heap.size w wr
set_option maxRecDepth 100000 in
set_option maxHeartbeats 4000000 in
theorem of_any (w : World) (A : Option Addr) (c n : Nat) (l : List Nd) (hn : l.length = n) (hr : RdN w w.heap.size A c l) (hmx : n * 48 ≤ 140737488351232) :
    Calls Try.prog 18 #[.slice A n c] w fun e w' => ∃ A' c', e = .returned (.slice A' n c') ∧ RdN w' w'.heap.size A' c' l ∧ Below w.heap.size w w' := by
  have HN := Lib.hid hn
  have HR : Hid (∀ W, Below w.heap.size w W → RdN W w.heap.size A c l) := Lib.hid fun W hW => hr.under hW
  have hlc : n ≤ c := by have := hr.1; omega
  have hc63 := hr.2.1
  clear hn hr
  go_enter Try.func18, Try.ntmps18
  go_wp2_with fail
  go_loopw [3, 4] (fun v i wr => RelOf l w n v i wr) (fun v i _ => n - (intOf i).toNat)
  case atStart => exact ⟨0, none, 0, Nat.zero_le _, rfl, rfl, OwnV.nil _ _ _, fun g hg => by simp [blockOf] at hg, Below.refl _ _⟩
  case round =>
    obtain ⟨k, A', c', hk, rfl, rfl, ho, hab, hq⟩ := hrel
    obtain ⟨V, hV⟩ : ∃ V, V = wr := ⟨_, rfl⟩
    subst hV
    have HO := Lib.hid ho
    have HAB := Lib.hid hab
    have HQ := Lib.hid hq
    clear ho hab hq
    by_cases hkn : k < n
    case pos =>
      have hkI : (k : Int) < (n : Int) := by omega
      have hk0 : (0 : Int) ≤ (k : Int) := by omega
      obtain ⟨b, off, rfl, hb, _⟩ := (HR.out w (Below.refl _ _)).2.2.2 (by rw [HN.out]; omega)
      have HTK0 : Hid ((l.take (k + 1)).flatMap ncell = (l.take k).flatMap ncell ++ ncell (l.getD k default)) := Lib.hid (by
        rw [List.take_add_one, List.flatMap_append, show l[k]? = some (l.getD k default) by simp [List.getD, show k < l.length by have := HN.out; omega]]
        simp)
      have HCS : Hid (∀ W, Below w.heap.size w W → W.cell? ⟨b, off + k * 3, none⟩ = some (.string (l.getD k default).name) ∧ W.cell? ⟨b, off + k * 3 + 1, none⟩ = some (.int .i64 (l.getD k default).size) ∧ W.cell? ⟨b, off + k * 3 + 2, none⟩ = some (.slice (l.getD k default).pa (l.getD k default).pl.length (l.getD k default).pc)) := Lib.hid fun W hW => by
        obtain ⟨b', off', e, _, h⟩ := (HR.out W hW).2.2.2 (by rw [HN.out]; omega)
        injection e with e
        injection e with e1 e2
        subst e1 e2
        exact h k (by rw [HN.out]; exact hkn)
      generalize l.getD k default = d at *
      obtain ⟨dn, dz, pa, pc, pl⟩ := d
      obtain ⟨m, hm⟩ : ∃ m, pl.length = m := ⟨_, rfl⟩
      have HTK : Hid ((l.take (k + 1)).flatMap ncell = (l.take k).flatMap ncell ++ [.string dn, .int .i64 dz, .slice pa m pc]) := Lib.hid (by rw [HTK0.out, ncell, hm])
      simp only at HCS
      rw [hm] at HCS
      clear hm HTK0
      obtain ⟨V3, hV3⟩ : ∃ V3, (V.alloc (.cells #[.string dn, .int .i64 dz, .slice pa m pc] 28)).drew = V3 := ⟨_, rfl⟩
      have hb3 : Below V.heap.size V V3 := by rw [← hV3]; exact ((Below.refl _ V).alloc (Nat.le_refl _) _).drew
      have HQ3 : Hid (Below w.heap.size w V3) := Lib.hid (HQ.out.trans (hb3.mono HQ.out.size))
      have HO3 : Hid (OwnV 28 3 V3 A' c' k ((l.take k).flatMap ncell)) := Lib.hid (HO.out.keep fun g _ hlt => hb3.block g hlt)
      have HH3 : Hid (Holds V3 V.heap.size 28 [Value.string dn, .int .i64 dz, .slice pa m pc].toArray) := Lib.hid (by rw [← hV3]; exact Holds.fresh V _ _)
      have HWL : Hid ([Value.string dn, .int .i64 dz, .slice pa m pc].length = 3) := Lib.hid rfl
      have HW1 : Hid (∀ u ∈ [Value.string dn, .int .i64 dz, .slice pa m pc], u.oneCell' = true) := Lib.hid (by intro u hu; simp at hu; rcases hu with rfl | rfl | rfl <;> rfl)
      have HWN : Hid (k ≤ 9000000000000000000 ∧ (k + 1) * 48 ≤ 140737488355328) := Lib.hid (by omega)
      have HV3 := Lib.hid hV3
      clear hb3 hV3
      go_wp2_with fail
      refine wp_region_noPanic ?_
      refine wp_region_held_drew (S := fun W => Below w.heap.size w W) (by kernel_rfl) (HQ.out.drew) (fun hHeld => ?_)
      refine wpAnyH_take (i := 0) (oi := { dst := some 11, op := Op.move (Operand.tmp 3), type := 43, pos := _, after := _, guard := none }) (v := ?_) rfl (by kernel_rfl) (by kernel_rfl) (by kernel_rfl) (fun _ _ _ h => h) (Or.inl ⟨by rfl, ?_⟩) hHeld ?_
      rotate_left 1
      · (intro W hW; (try dsimp only at hW); go_simp; try with_reducible rfl)
      try simp only [Act.put, List.setIfInBounds_toArray, List.set_cons_zero, List.set_cons_succ]
      refine wpAnyH_take (i := 1) (oi := { dst := some 12, op := Op.move (Operand.tmp 0), type := 38, pos := _, after := _, guard := none }) (v := ?_) rfl (by kernel_rfl) (by kernel_rfl) (by kernel_rfl) (fun _ _ _ h => h) (Or.inl ⟨by rfl, ?_⟩) hHeld ?_
      rotate_left 1
      · (intro W hW; (try dsimp only at hW); go_simp; try with_reducible rfl)
      try simp only [Act.put, List.setIfInBounds_toArray, List.set_cons_zero, List.set_cons_succ]
      refine wpAnyH_take (i := 2) (oi := { dst := some 13, op := Op.move (Operand.tmp 4), type := 3, pos := _, after := _, guard := none }) (v := ?_) rfl (by kernel_rfl) (by kernel_rfl) (by kernel_rfl) (fun _ _ _ h => h) (Or.inl ⟨by rfl, ?_⟩) hHeld ?_
      rotate_left 1
      · (intro W hW; (try dsimp only at hW); go_simp; try with_reducible rfl)
      try simp only [Act.put, List.setIfInBounds_toArray, List.set_cons_zero, List.set_cons_succ]
      refine wpAnyH_take (i := 3) (oi := { dst := some 14, op := Op.indexAddr 38 (Operand.tmp 12) (Operand.tmp 13), type := 0, pos := _, after := _, guard := none }) (v := ?_) rfl (by kernel_rfl) (by kernel_rfl) (by kernel_rfl) (fun _ _ _ h => h) (Or.inl ⟨by rfl, ?_⟩) hHeld ?_
      rotate_left 1
      · (intro W hW; (try dsimp only at hW); go_simp; try with_reducible rfl)
      try simp only [Act.put, List.setIfInBounds_toArray, List.set_cons_zero, List.set_cons_succ]
      refine wpAnyH_take (i := 4) (oi := { dst := some 15, op := Op.fieldAddr 25 (Operand.tmp 14) 0, type := 0, pos := _, after := _, guard := none }) (v := ?_) rfl (by kernel_rfl) (by kernel_rfl) (by kernel_rfl) (fun _ _ _ h => h) (Or.inl ⟨by rfl, ?_⟩) hHeld ?_
      rotate_left 1
      · (intro W hW; (try dsimp only at hW); go_simp; try with_reducible rfl)
      try simp only [Act.put, List.setIfInBounds_toArray, List.set_cons_zero, List.set_cons_succ]
      refine wpAnyH_take (i := 5) (oi := { dst := some 16, op := Op.load 9 (Operand.tmp 15), type := 9, pos := _, after := _, guard := none }) (v := ?_) rfl (by kernel_rfl) (by kernel_rfl) (by kernel_rfl) (fun _ _ _ h => h) (Or.inl ⟨by rfl, ?_⟩) hHeld ?_
      rotate_left 1
      · (intro W hW; have hk := (HCS.out W hW).1; (try dsimp only at hW); go_simp; try with_reducible rfl)
      try simp only [Act.put, List.setIfInBounds_toArray, List.set_cons_zero, List.set_cons_succ]
      refine wpAnyH_take (i := 6) (oi := { dst := some 17, op := Op.move (Operand.tmp 0), type := 38, pos := _, after := _, guard := none }) (v := ?_) rfl (by kernel_rfl) (by kernel_rfl) (by kernel_rfl) (fun _ _ _ h => h) (Or.inl ⟨by rfl, ?_⟩) hHeld ?_
      rotate_left 1
      · (intro W hW; (try dsimp only at hW); go_simp; try with_reducible rfl)
      try simp only [Act.put, List.setIfInBounds_toArray, List.set_cons_zero, List.set_cons_succ]
      refine wpAnyH_take (i := 7) (oi := { dst := some 18, op := Op.move (Operand.tmp 4), type := 3, pos := _, after := _, guard := none }) (v := ?_) rfl (by kernel_rfl) (by kernel_rfl) (by kernel_rfl) (fun _ _ _ h => h) (Or.inl ⟨by rfl, ?_⟩) hHeld ?_
      rotate_left 1
      · (intro W hW; (try dsimp only at hW); go_simp; try with_reducible rfl)
      try simp only [Act.put, List.setIfInBounds_toArray, List.set_cons_zero, List.set_cons_succ]
      refine wpAnyH_take (i := 8) (oi := { dst := some 19, op := Op.indexAddr 38 (Operand.tmp 17) (Operand.tmp 18), type := 0, pos := _, after := _, guard := none }) (v := ?_) rfl (by kernel_rfl) (by kernel_rfl) (by kernel_rfl) (fun _ _ _ h => h) (Or.inl ⟨by rfl, ?_⟩) hHeld ?_
      rotate_left 1
      · (intro W hW; (try dsimp only at hW); go_simp; try with_reducible rfl)
      try simp only [Act.put, List.setIfInBounds_toArray, List.set_cons_zero, List.set_cons_succ]
      refine wpAnyH_take (i := 9) (oi := { dst := some 20, op := Op.fieldAddr 25 (Operand.tmp 19) 1, type := 0, pos := _, after := _, guard := none }) (v := ?_) rfl (by kernel_rfl) (by kernel_rfl) (by kernel_rfl) (fun _ _ _ h => h) (Or.inl ⟨by rfl, ?_⟩) hHeld ?_
      rotate_left 1
      · (intro W hW; (try dsimp only at hW); go_simp; try with_reducible rfl)
      try simp only [Act.put, List.setIfInBounds_toArray, List.set_cons_zero, List.set_cons_succ]
      refine wpAnyH_take (i := 10) (oi := { dst := some 21, op := Op.load 3 (Operand.tmp 20), type := 3, pos := _, after := _, guard := none }) (v := ?_) rfl (by kernel_rfl) (by kernel_rfl) (by kernel_rfl) (fun _ _ _ h => h) (Or.inl ⟨by rfl, ?_⟩) hHeld ?_
      rotate_left 1
      · (intro W hW; have hk := (HCS.out W hW).2.1; (try dsimp only at hW); go_simp; try with_reducible rfl)
      try simp only [Act.put, List.setIfInBounds_toArray, List.set_cons_zero, List.set_cons_succ]
      refine wpAnyH_take (i := 11) (oi := { dst := some 22, op := Op.move (Operand.tmp 0), type := 38, pos := _, after := _, guard := none }) (v := ?_) rfl (by kernel_rfl) (by kernel_rfl) (by kernel_rfl) (fun _ _ _ h => h) (Or.inl ⟨by rfl, ?_⟩) hHeld ?_
      rotate_left 1
      · (intro W hW; (try dsimp only at hW); go_simp; try with_reducible rfl)
      try simp only [Act.put, List.setIfInBounds_toArray, List.set_cons_zero, List.set_cons_succ]
      refine wpAnyH_take (i := 12) (oi := { dst := some 23, op := Op.move (Operand.tmp 4), type := 3, pos := _, after := _, guard := none }) (v := ?_) rfl (by kernel_rfl) (by kernel_rfl) (by kernel_rfl) (fun _ _ _ h => h) (Or.inl ⟨by rfl, ?_⟩) hHeld ?_
      rotate_left 1
      · (intro W hW; (try dsimp only at hW); go_simp; try with_reducible rfl)
      try simp only [Act.put, List.setIfInBounds_toArray, List.set_cons_zero, List.set_cons_succ]
      refine wpAnyH_take (i := 13) (oi := { dst := some 24, op := Op.indexAddr 38 (Operand.tmp 22) (Operand.tmp 23), type := 0, pos := _, after := _, guard := none }) (v := ?_) rfl (by kernel_rfl) (by kernel_rfl) (by kernel_rfl) (fun _ _ _ h => h) (Or.inl ⟨by rfl, ?_⟩) hHeld ?_
      rotate_left 1
      · (intro W hW; (try dsimp only at hW); go_simp; try with_reducible rfl)
      try simp only [Act.put, List.setIfInBounds_toArray, List.set_cons_zero, List.set_cons_succ]
      refine wpAnyH_take (i := 14) (oi := { dst := some 25, op := Op.fieldAddr 25 (Operand.tmp 24) 2, type := 0, pos := _, after := _, guard := none }) (v := ?_) rfl (by kernel_rfl) (by kernel_rfl) (by kernel_rfl) (fun _ _ _ h => h) (Or.inl ⟨by rfl, ?_⟩) hHeld ?_
      rotate_left 1
      · (intro W hW; (try dsimp only at hW); go_simp; try with_reducible rfl)
      try simp only [Act.put, List.setIfInBounds_toArray, List.set_cons_zero, List.set_cons_succ]
      refine wpAnyH_take (i := 15) (oi := { dst := some 26, op := Op.load 23 (Operand.tmp 25), type := 23, pos := _, after := _, guard := none }) (v := ?_) rfl (by kernel_rfl) (by kernel_rfl) (by kernel_rfl) (fun _ _ _ h => h) (Or.inl ⟨by rfl, ?_⟩) hHeld ?_
      rotate_left 1
      · (intro W hW; have hk := (HCS.out W hW).2.2; (try dsimp only at hW); go_simp; try with_reducible rfl)
      try simp only [Act.put, List.setIfInBounds_toArray, List.set_cons_zero, List.set_cons_succ]
      refine wpAnyH_take (i := 16) (oi := { dst := some 27, op := Op.build 28 #[(0, Operand.tmp 16), (1, Operand.tmp 21), (2, Operand.tmp 26)], type := 28, pos := _, after := _, guard := none }) (v := ?_) rfl (by kernel_rfl) (by kernel_rfl) (by kernel_rfl) (fun _ _ _ h => h) (Or.inl ⟨by rfl, ?_⟩) hHeld ?_
      rotate_left 1
      · (intro W hW; (try dsimp only at hW); go_simp; try with_reducible rfl)
      try simp only [Act.put, List.setIfInBounds_toArray, List.set_cons_zero, List.set_cons_succ]
      refine wpAnyH_ready (rs := [17]) (by kernel_rfl) (by simp) ?_
      refine AllReadyH.cons (o := { dst := some 28, op := Op.buildSlice 43 1 #[(0, Operand.tmp 27)], type := 43, pos := _, after := _, guard := none }) rfl (fun K hK => ?_) AllReadyH.nil
      go_simp
      rw [HV3.out]
      refine hK.out _ _ (HQ3.out) (fun _ => ?_)
      clear hK K hHeld
      try simp only [Act.put, List.setIfInBounds_toArray, List.set_cons_zero, List.set_cons_succ]
      have hHeld : (fun W => Below w.heap.size w W) V3 := HQ3.out
      refine wpAnyH_ready (rs := [18]) (by kernel_rfl) (by simp) ?_
      refine AllReadyH.cons (o := { dst := some 29, op := Op.call { callee := Callee.builtin Builtin.append, args := #[Operand.tmp 11, Operand.tmp 28], argTypes := #[43, 43] }, type := 43, pos := _, after := _, guard := none }) rfl (fun K hK => ?_) AllReadyH.nil
      refine step_pushV _ rfl (.tmp 11) (.tmp 28) 43 rfl 28 (.agg #[.string ByteArray.empty, .int .i64 0, .slice none 0 0]) 3 48 Try.underlying43 info_node3 rfl (by omega) (by omega) rfl HO3.out rfl HWL.out HW1.out HH3.out HWN.out ?_
      intro g5 c5 W3 hw3 hgr3 hat3 hlt3
      have hq5 : Below w.heap.size w W3 := HQ3.out.trans ⟨hgr3.os, hgr3.tape, hgr3.output, hgr3.size, fun g hg => hgr3.block g (Nat.lt_of_lt_of_le hg HQ3.out.size) (fun e => by have := HAB.out g e.symm; omega)⟩
      have HQ5 := Lib.hid hq5
      have HO5 : Hid (OwnV 28 3 W3 (some ⟨g5, 0, none⟩) c5 (k + 1) ((l.take (k + 1)).flatMap ncell)) := Lib.hid (by rw [HTK.out]; exact hw3)
      have HG5 : Hid (w.heap.size ≤ g5) := Lib.hid (hat3.elim (HAB.out g5) fun e => by have := HQ3.out.size; omega)
      clear hw3 hgr3 hat3 hlt3 hq5
      refine hK.out _ _ (HQ5.out) (fun _ => ?_)
      clear hK K hHeld
      try simp only [Act.put, List.setIfInBounds_toArray, List.set_cons_zero, List.set_cons_succ]
      have hHeld : (fun W => Below w.heap.size w W) W3 := HQ5.out
      refine wpAnyH_take (i := 19) (oi := { dst := some 3, op := Op.assign (Operand.tmp 29), type := 43, pos := _, after := _, guard := none }) (v := ?_) rfl (by kernel_rfl) (by kernel_rfl) (by kernel_rfl) (fun _ _ _ h => h) (Or.inl ⟨by rfl, ?_⟩) hHeld ?_
      rotate_left 1
      · (intro W hW; (try dsimp only at hW); go_simp; try with_reducible rfl)
      try simp only [Act.put, List.setIfInBounds_toArray, List.set_cons_zero, List.set_cons_succ]
      refine wpAnyH_done (by kernel_rfl) ?_ _
      refine NoPanic.normal ?_
      go_wp2_with fail
      go_roundw
      case rel => exact ⟨k + 1, _, _, by omega, by go_num, rfl, HO5.out, fun g hg => by
        obtain rfl : g5 = g := by simpa [blockOf] using hg
        exact HG5.out, HQ5.out⟩
      case measure => simp [intOf]; omega
    case neg =>
      obtain rfl : k = n := by omega
      have hkI : ¬ ((k : Int) < (k : Int)) := by omega
      have HD : Hid (RdN V V.heap.size A' c' l) := Lib.hid (RdN.of_own HN.out (by have := HO.out; rwa [List.take_of_length_le (by rw [HN.out]; exact Nat.le_refl _)] at this) fun j hj => ((HR.out V HQ.out).2.2.1 j (by rw [HN.out]; exact hj)).more HQ.out.size)
      go_wp2_with fail
      go_ret
      exact ⟨A', c', rfl, HD.out, HQ.out⟩
end Go.Proofs.Ytkfokgkehlcikaa
