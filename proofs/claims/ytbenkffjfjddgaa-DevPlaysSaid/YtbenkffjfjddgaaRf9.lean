/-
  Are both disks the same?
-/
import Derived.Test.YtbenkffjfjddgaaRf8
namespace Go.Proofs.Ytbenkffjfjddgaa
open Go.RowKit
set_option linter.unusedVariables false
set_option linter.unusedSimpArgs false
attribute [local go_sem ↓] Go.wp_at_zero Go.wp_at_succ

/-- All bytes are bytes. -/
def Dk.Oct (s : Dk) : Prop := (∀ x ∈ s.lasts, Oct1 x) ∧ ∀ p ∈ s.waits, Oct1 p.2
theorem fallN_oct {W : List (Nat × List Nat)} {L : List (List Nat)} (hL : ∀ x ∈ L, Oct1 x) (hW : ∀ p ∈ W, Oct1 p.2) (kp : Nat → Bool) : ∀ k, k ≤ W.length → ∀ x ∈ fallN kp W L k, Oct1 x
  | 0, _ => hL
  | k + 1, hk => by
    rw [fallN]
    have ih := fallN_oct hL hW kp k (by omega)
    split
    · intro x hx
      rcases List.mem_or_eq_of_mem_set hx with h | h
      · exact ih x h
      · subst h
        have e : W[k]? = some (W.getD k default) := by simp [List.getD, show k < W.length by omega]
        exact hW _ (List.mem_of_getElem? e)
    · exact ih
theorem Dk.Oct.read {s : Dk} (h : s.Oct) (hs : s.Sound) (i : Int) : Oct1 (s.read i) := by
  unfold Dk.read
  split
  · rw [List.getD]
    cases e : s.now[i.toNat]? with
    | none => intro x hx; cases hx
    | some x => exact fallN_oct h.1 h.2 _ _ (Nat.le_refl _) x (by rw [← hs]; exact List.mem_of_getElem? e)
  · intro x hx; cases hx
theorem Dk.Oct.write {s : Dk} (h : s.Oct) (i : Int) {x : List Nat} (hx : Oct1 x) : (s.write i x).1.Oct := by
  unfold Dk.write
  split
  · exact h
  · split
    · split
      · exact ⟨fallN_oct h.1 h.2 _ _ (Nat.le_refl _), fun p hp => by cases hp⟩
      · refine ⟨h.1, fun p hp => ?_⟩
        rcases List.mem_append.1 hp with h1 | h1
        · exact h.2 p h1
        · obtain rfl := List.mem_singleton.1 h1
          exact hx
    · exact h
theorem Dk.Oct.flush {s : Dk} (h : s.Oct) : s.flush.1.Oct := by
  unfold Dk.flush
  split
  · exact h
  · split
    · exact ⟨fallN_oct h.1 h.2 _ _ (Nat.le_refl _), fun p hp => by cases hp⟩
    · exact ⟨fallN_oct h.1 h.2 _ _ (Nat.le_refl _), fun p hp => by cases hp⟩
theorem Dk.Oct.restart {s : Dk} (h : s.Oct) : s.restart.Oct := ⟨h.1, fun p hp => by cases hp⟩
theorem Dk.Oct.arm {s : Dk} (h : s.Oct) (a : Int) (k : List Bool) : (s.arm a k).Oct := h
theorem oct_fresh (n : Nat) : (fresh n).Oct := ⟨fun x hx => by rw [List.eq_of_mem_replicate hx]; exact zsec_oct, fun p hp => by cases hp⟩

section
variable {w w' : World} {B gd gx : Nat} {s s1 s2 : Dk}
theorem two_read1 (h : Two w B gd s1 gx s2) (i : Int) (x : List Nat) (hx : s1.read i = x) :
    Calls Try.prog 23 #[.pointer (some ⟨gd, 0, none⟩), .int .i64 i] w fun e w' => ∃ A' c', e = .returned (.slice A' x.length c') ∧ Rd .u8 w' w'.heap.size A' c' x ∧ Below w.heap.size w w' := by
  obtain ⟨hB, F1, F2, d, r, l1, l2, hd⟩ := h
  exact diskB_read (B := B) ⟨hB, d.more fun k hk => (l1 k hk).1⟩ i x hx
theorem two_read2 (h : Two w B gd s1 gx s2) (hwl : s2.waits.length ≤ 100000) (i : Int) (x : List Nat) (hx : s2.read i = x) :
    Calls Try.prog 32 #[.pointer (some ⟨gx, 0, none⟩), .int .i64 i] w fun e w' => ∃ A' c', e = .returned (.slice A' x.length c') ∧ Rd .u8 w' w'.heap.size A' c' x ∧ Below w.heap.size w w' := by
  obtain ⟨hB, F1, F2, d, r, l1, l2, hd⟩ := h
  exact ref_read r hwl i x hx
theorem Two.cells (h : Two w B gd s1 gx s2) : ∃ gS cS, w.cell? ⟨gx, 0, none⟩ = some (.slice (some ⟨gS, 0, none⟩) s2.now.length cS) ∧ w.cell? ⟨gx, 2, none⟩ = some (.int .i64 (s2.ops : Int)) ∧ w.cell? ⟨gx, 6, none⟩ = some (.bool s2.down) := by
  obtain ⟨hB, F1, F2, d, r, l1, l2, hd⟩ := h
  exact r.cells
theorem Two.down (h : Two w B gd s1 gx s2) : Calls Try.prog 22 #[.pointer (some ⟨gd, 0, none⟩)] w fun e w' => e = .returned (.bool s1.down) ∧ w = w' := by
  obtain ⟨hB, F1, F2, d, r, l1, l2, hd⟩ := h
  exact disk_down d
theorem Two.size (h : Two w B gd s1 gx s2) : Calls Try.prog 25 #[.pointer (some ⟨gd, 0, none⟩)] w fun e w' => e = .returned (.int .i64 (s1.now.length : Int)) ∧ w = w' := by
  obtain ⟨hB, F1, F2, d, r, l1, l2, hd⟩ := h
  exact disk_size d
theorem Two.ops (h : Two w B gd s1 gx s2) : Calls Try.prog 24 #[.pointer (some ⟨gd, 0, none⟩)] w fun e w' => e = .returned (.int .i64 (s1.ops : Int)) ∧ w = w' := by
  obtain ⟨hB, F1, F2, d, r, l1, l2, hd⟩ := h
  exact disk_ops d
theorem Two.many (h : Two w B gd s1 gx s2) : s1.now.length ≤ 2000 := by
  obtain ⟨hB, F1, F2, d, r, l1, l2, hd⟩ := h
  exact d.len.2.2
end

def RelSm (w : World) (B gd gx : Nat) (s : Dk) (n : Nat) (i : Value) (wr : World) : Prop :=
  ∃ j : Int, -1 ≤ j ∧ j ≤ (n : Int) + 1 ∧ i = .int .i64 j ∧ Two wr B gd s gx s ∧ Below w.heap.size w wr
set_option maxRecDepth 100000 in
set_option maxHeartbeats 4000000 in
theorem same_any (w : World) (B gd gx : Nat) (s : Dk) (h : Two w B gd s gx s) (ho : s.Oct) (hwl : s.waits.length ≤ 100000) :
    Calls Try.prog 21 #[.pointer (some ⟨gd, 0, none⟩), .pointer (some ⟨gx, 0, none⟩)] w fun e w' => e = .returned (.bool true) ∧ Two w' B gd s gx s ∧ Below w.heap.size w w' := by
  have hn2 := h.many
  have HRO : Hid (∀ i, Oct1 (s.read i)) := Lib.hid (ho.read h.sound)
  obtain ⟨n, hn⟩ : ∃ n, n = s.now.length := ⟨_, rfl⟩
  rw [← hn] at hn2
  have HN := Lib.hid hn
  have HH := Lib.hid h
  have HWL := Lib.hid hwl
  clear h ho hwl hn
  go_enter Try.func21, Try.ntmps21
  go_wp2_with fail
  go_loopw [5] (fun i wr => RelSm w B gd gx s n i wr) (fun i _ => (n + 2) - (intOf i + 1).toNat)
  case atStart => exact ⟨-1, by omega, by omega, rfl, HH.out, Below.refl _ _⟩
  case round =>
    obtain ⟨j, hj0, hj1, rfl, ht, hq⟩ := hrel
    obtain ⟨V, hV⟩ : ∃ V, V = wr := ⟨_, rfl⟩
    subst hV
    have HT := Lib.hid ht
    have HQ := Lib.hid hq
    obtain ⟨gS, cS, c0, c2, c6⟩ := ht.cells
    rw [← HN.out] at c0
    clear ht hq HH
    by_cases hjn : j ≤ (n : Int)
    case pos =>
      have hjB : decide (j ≤ (n : Int)) = true := decide_eq_true hjn
      have hwj : IntKind.i64.wrap (j + 1) = j + 1 := IntWalk.i64_in _ (by omega)
      obtain ⟨x, hx⟩ : ∃ x, s.read j = x := ⟨_, rfl⟩
      have HX := Lib.hid hx
      have HXO : Hid (∀ y ∈ x, y < 256) := Lib.hid (by rw [← hx]; exact HRO.out j)
      obtain ⟨z, hz⟩ : ∃ z, z = str x := ⟨_, rfl⟩
      have HZ := Lib.hid hz
      clear hx hz
      go_wp2_with fail
      refine wp_region_noPanic ?_
      refine wp_region_held_drew (S := fun W => Below V.heap.size V W) (by kernel_rfl) (Below.refl _ V).drew (fun hHeld => ?_)
      refine wpAnyH_take (i := 0) (oi := { dst := some 15, op := Op.move (Operand.tmp 0), type := 23, pos := _, after := _, guard := none }) (v := ?_) rfl (by kernel_rfl) (by kernel_rfl) (by kernel_rfl) (fun _ _ _ h => h) (Or.inl ⟨by rfl, ?_⟩) hHeld ?_
      rotate_left 1
      · (intro W hW; (try dsimp only at hW); go_simp; try with_reducible rfl)
      try simp only [Act.put, List.setIfInBounds_toArray, List.set_cons_zero, List.set_cons_succ]
      refine wpAnyH_take (i := 1) (oi := { dst := some 16, op := Op.move (Operand.tmp 5), type := 3, pos := _, after := _, guard := none }) (v := ?_) rfl (by kernel_rfl) (by kernel_rfl) (by kernel_rfl) (fun _ _ _ h => h) (Or.inl ⟨by rfl, ?_⟩) hHeld ?_
      rotate_left 1
      · (intro W hW; (try dsimp only at hW); go_simp; try with_reducible rfl)
      try simp only [Act.put, List.setIfInBounds_toArray, List.set_cons_zero, List.set_cons_succ]
      refine wpAnyH_take (i := 4) (oi := { dst := some 19, op := Op.move (Operand.tmp 1), type := 25, pos := _, after := _, guard := none }) (v := ?_) rfl (by kernel_rfl) (by kernel_rfl) (by kernel_rfl) (fun _ _ _ h => h) (Or.inl ⟨by rfl, ?_⟩) hHeld ?_
      rotate_left 1
      · (intro W hW; (try dsimp only at hW); go_simp; try with_reducible rfl)
      try simp only [Act.put, List.setIfInBounds_toArray, List.set_cons_zero, List.set_cons_succ]
      refine wpAnyH_take (i := 5) (oi := { dst := some 20, op := Op.move (Operand.tmp 5), type := 3, pos := _, after := _, guard := none }) (v := ?_) rfl (by kernel_rfl) (by kernel_rfl) (by kernel_rfl) (fun _ _ _ h => h) (Or.inl ⟨by rfl, ?_⟩) hHeld ?_
      rotate_left 1
      · (intro W hW; (try dsimp only at hW); go_simp; try with_reducible rfl)
      try simp only [Act.put, List.setIfInBounds_toArray, List.set_cons_zero, List.set_cons_succ]
      refine wpAnyH_ready (rs := [2]) (by kernel_rfl) (by simp) ?_
      refine AllReadyH.cons (o := { dst := some 17, op := Op.call { callee := Callee.value (Operand.func 23), args := #[Operand.tmp 15, Operand.tmp 16], argTypes := #[23, 3] }, type := 28, pos := _, after := _, guard := none }) rfl (fun K hK => ?_) AllReadyH.nil
      go_simp
      refine (two_read1 (HT.out.under (Below.refl _ V).drew) j x HX.out).mono ?_
      rintro e w5 ⟨A5, c5, rfl, hr5, hb5⟩
      have HB5 : Hid (Below V.heap.size V w5) := Lib.hid ⟨hb5.os, hb5.tape, hb5.output, hb5.size, hb5.block⟩
      have HT5 := Lib.hid (HT.out.under HB5.out)
      have HR5 := Lib.hid hr5
      clear hr5 hb5
      go_simp
      refine hK.out _ _ (HB5.out) (fun _ => ?_)
      clear hK K hHeld
      try simp only [Act.put, List.setIfInBounds_toArray, List.set_cons_zero, List.set_cons_succ]
      refine wpAnyH_strong (S' := fun W => Below w5.heap.size w5 W) (fun W hW => HB5.out.trans (hW.mono HB5.out.size)) _ _ _ _ ?_
      have hHeld : (fun W => Below w5.heap.size w5 W) w5 := Below.refl _ _
      refine wpAnyH_take (i := 3) (oi := { dst := some 18, op := Op.convert 28 9 (Operand.tmp 17), type := 9, pos := _, after := _, guard := none }) (v := ?_) rfl (by kernel_rfl) (by kernel_rfl) (by kernel_rfl) (fun _ _ _ h => h) (Or.inl ⟨by rfl, ?_⟩) hHeld ?_
      rotate_left 1
      · (intro W hW; have hcv := conv_str (Rd.under HR5.out hW) rfl HXO.out; rw [← HZ.out] at hcv; (try dsimp only at hW); go_simp; try with_reducible rfl)
      try simp only [Act.put, List.setIfInBounds_toArray, List.set_cons_zero, List.set_cons_succ]
      refine wpAnyH_ready (rs := [6]) (by kernel_rfl) (by simp) ?_
      refine AllReadyH.cons (o := { dst := some 21, op := Op.call { callee := Callee.value (Operand.func 32), args := #[Operand.tmp 19, Operand.tmp 20], argTypes := #[25, 3] }, type := 28, pos := _, after := _, guard := none }) rfl (fun K hK => ?_) AllReadyH.nil
      go_simp
      refine (two_read2 HT5.out HWL.out j x HX.out).mono ?_
      rintro e w6 ⟨A6, c6, rfl, hr6, hb6⟩
      have HB6 := Lib.hid hb6
      have HT6 := Lib.hid (HT5.out.under hb6)
      have HQ6 := Lib.hid ((HQ.out.trans (HB5.out.mono HQ.out.size)).trans (hb6.mono (Nat.le_trans HQ.out.size HB5.out.size)))
      have HR6 := Lib.hid hr6
      clear hr6 hb6
      go_simp
      refine hK.out _ _ (HB6.out) (fun _ => ?_)
      clear hK K hHeld
      try simp only [Act.put, List.setIfInBounds_toArray, List.set_cons_zero, List.set_cons_succ]
      refine wpAnyH_strong (S' := fun W => Below w6.heap.size w6 W) (fun W hW => HB6.out.trans (hW.mono HB6.out.size)) _ _ _ _ ?_
      have hHeld : (fun W => Below w6.heap.size w6 W) w6 := Below.refl _ _
      refine wpAnyH_take (i := 7) (oi := { dst := some 22, op := Op.convert 28 9 (Operand.tmp 21), type := 9, pos := _, after := _, guard := none }) (v := ?_) rfl (by kernel_rfl) (by kernel_rfl) (by kernel_rfl) (fun _ _ _ h => h) (Or.inl ⟨by rfl, ?_⟩) hHeld ?_
      rotate_left 1
      · (intro W hW; have hcv := conv_str (Rd.under HR6.out hW) rfl HXO.out; rw [← HZ.out] at hcv; (try dsimp only at hW); go_simp; try with_reducible rfl)
      try simp only [Act.put, List.setIfInBounds_toArray, List.set_cons_zero, List.set_cons_succ]
      refine wpAnyH_take (i := 8) (oi := { dst := some 23, op := Op.binOp BinOp.neq 9 (Operand.tmp 18) (Operand.tmp 22) 9, type := 4, pos := _, after := _, guard := none }) (v := ?_) rfl (by kernel_rfl) (by kernel_rfl) (by kernel_rfl) (fun _ _ _ h => h) (Or.inl ⟨by rfl, ?_⟩) hHeld ?_
      rotate_left 1
      · (intro W hW; (try dsimp only at hW); go_simp; try with_reducible rfl)
      try simp only [Act.put, List.setIfInBounds_toArray, List.set_cons_zero, List.set_cons_succ]
      refine wpAnyH_done (by kernel_rfl) ?_ _
      refine NoPanic.normal ?_
      clear HT HT5 HB5 HB6 HR5 HR6 HQ
      go_wp2_with fail
      go_roundw
      case rel => exact ⟨j + 1, by omega, by omega, rfl, HT6.out, HQ6.out⟩
      case measure => simp [intOf]; omega
    case neg =>
      obtain rfl : j = (n : Int) + 1 := by omega
      have hjB : decide ((n : Int) + 1 ≤ (n : Int)) = false := decide_eq_false (by omega)
      have HGX := Lib.hid HT.out.pos.2.2
      go_wp2_with fail
      refine wp_region_noPanic ?_
      refine wp_region_held_drew (S := fun W => Below V.heap.size V W) (by kernel_rfl) (Below.refl _ V).drew (fun hHeld => ?_)
      refine wpAnyH_take (i := 0) (oi := { dst := some 24, op := Op.move (Operand.tmp 0), type := 23, pos := _, after := _, guard := none }) (v := ?_) rfl (by kernel_rfl) (by kernel_rfl) (by kernel_rfl) (fun _ _ _ h => h) (Or.inl ⟨by rfl, ?_⟩) hHeld ?_
      rotate_left 1
      · (intro W hW; (try dsimp only at hW); go_simp; try with_reducible rfl)
      try simp only [Act.put, List.setIfInBounds_toArray, List.set_cons_zero, List.set_cons_succ]
      refine wpAnyH_take (i := 2) (oi := { dst := some 26, op := Op.move (Operand.tmp 1), type := 25, pos := _, after := _, guard := none }) (v := ?_) rfl (by kernel_rfl) (by kernel_rfl) (by kernel_rfl) (fun _ _ _ h => h) (Or.inl ⟨by rfl, ?_⟩) hHeld ?_
      rotate_left 1
      · (intro W hW; (try dsimp only at hW); go_simp; try with_reducible rfl)
      try simp only [Act.put, List.setIfInBounds_toArray, List.set_cons_zero, List.set_cons_succ]
      refine wpAnyH_take (i := 3) (oi := { dst := some 27, op := Op.nilCheck (Operand.tmp 26), type := 0, pos := _, after := _, guard := none }) (v := ?_) rfl (by kernel_rfl) (by kernel_rfl) (by kernel_rfl) (fun _ _ _ h => h) (Or.inl ⟨by rfl, ?_⟩) hHeld ?_
      rotate_left 1
      · (intro W hW; (try dsimp only at hW); go_simp; try with_reducible rfl)
      try simp only [Act.put, List.setIfInBounds_toArray, List.set_cons_zero, List.set_cons_succ]
      refine wpAnyH_take (i := 4) (oi := { dst := some 28, op := Op.fieldAddr 56 (Operand.tmp 27) 5, type := 0, pos := _, after := _, guard := none }) (v := ?_) rfl (by kernel_rfl) (by kernel_rfl) (by kernel_rfl) (fun _ _ _ h => h) (Or.inl ⟨by rfl, ?_⟩) hHeld ?_
      rotate_left 1
      · (intro W hW; (try dsimp only at hW); go_simp; try with_reducible rfl)
      try simp only [Act.put, List.setIfInBounds_toArray, List.set_cons_zero, List.set_cons_succ]
      refine wpAnyH_take (i := 5) (oi := { dst := some 29, op := Op.load 4 (Operand.tmp 28), type := 4, pos := _, after := _, guard := none }) (v := ?_) rfl (by kernel_rfl) (by kernel_rfl) (by kernel_rfl) (fun _ _ _ h => h) (Or.inl ⟨by rfl, ?_⟩) hHeld ?_
      rotate_left 1
      · (intro W hW; have hk := (Below.cell (p := ⟨gx, 6, none⟩) hW HGX.out).trans c6; (try dsimp only at hW); go_simp; try with_reducible rfl)
      try simp only [Act.put, List.setIfInBounds_toArray, List.set_cons_zero, List.set_cons_succ]
      refine wpAnyH_ready (rs := [1]) (by kernel_rfl) (by simp) ?_
      refine AllReadyH.cons (o := { dst := some 25, op := Op.call { callee := Callee.value (Operand.func 22), args := #[Operand.tmp 24], argTypes := #[23] }, type := 4, pos := _, after := _, guard := none }) rfl (fun K hK => ?_) AllReadyH.nil
      go_simp
      refine (HT.out.under (Below.refl _ V).drew).down.mono ?_
      rintro e w6 ⟨rfl, rfl⟩
      go_simp
      refine hK.out _ _ hHeld (fun _ => ?_)
      clear hK K
      try simp only [Act.put, List.setIfInBounds_toArray, List.set_cons_zero, List.set_cons_succ]
      refine wpAnyH_take (i := 6) (oi := { dst := some 30, op := Op.binOp BinOp.eql 4 (Operand.tmp 25) (Operand.tmp 29) 4, type := 4, pos := _, after := _, guard := none }) (v := ?_) rfl (by kernel_rfl) (by kernel_rfl) (by kernel_rfl) (fun _ _ _ h => h) (Or.inl ⟨by rfl, ?_⟩) hHeld ?_
      rotate_left 1
      · (intro W hW; (try dsimp only at hW); go_simp; try with_reducible rfl)
      try simp only [Act.put, List.setIfInBounds_toArray, List.set_cons_zero, List.set_cons_succ]
      refine wpAnyH_take (i := 7) (oi := { dst := some 31, op := Op.move (Operand.tmp 30), type := 4, pos := _, after := _, guard := none }) (v := ?_) rfl (by kernel_rfl) (by kernel_rfl) (by kernel_rfl) (fun _ _ _ h => h) (Or.inl ⟨by rfl, ?_⟩) hHeld ?_
      rotate_left 1
      · (intro W hW; (try dsimp only at hW); go_simp; try with_reducible rfl)
      try simp only [Act.put, List.setIfInBounds_toArray, List.set_cons_zero, List.set_cons_succ]
      refine wpAnyH_take (i := 8) (oi := { dst := some 32, op := Op.move (Operand.tmp 0), type := 23, pos := _, after := _, guard := some (7, true) }) (v := ?_) rfl (by kernel_rfl) (by kernel_rfl) (by kernel_rfl) (fun _ _ _ h => h) (Or.inl ⟨by rfl, ?_⟩) hHeld ?_
      rotate_left 1
      · (intro W hW; (try dsimp only at hW); go_simp; try with_reducible rfl)
      try simp only [Act.put, List.setIfInBounds_toArray, List.set_cons_zero, List.set_cons_succ]
      refine wpAnyH_take (i := 10) (oi := { dst := some 34, op := Op.move (Operand.tmp 1), type := 25, pos := _, after := _, guard := some (7, true) }) (v := ?_) rfl (by kernel_rfl) (by kernel_rfl) (by kernel_rfl) (fun _ _ _ h => h) (Or.inl ⟨by rfl, ?_⟩) hHeld ?_
      rotate_left 1
      · (intro W hW; (try dsimp only at hW); go_simp; try with_reducible rfl)
      try simp only [Act.put, List.setIfInBounds_toArray, List.set_cons_zero, List.set_cons_succ]
      refine wpAnyH_take (i := 11) (oi := { dst := some 35, op := Op.nilCheck (Operand.tmp 34), type := 0, pos := _, after := _, guard := some (7, true) }) (v := ?_) rfl (by kernel_rfl) (by kernel_rfl) (by kernel_rfl) (fun _ _ _ h => h) (Or.inl ⟨by rfl, ?_⟩) hHeld ?_
      rotate_left 1
      · (intro W hW; (try dsimp only at hW); go_simp; try with_reducible rfl)
      try simp only [Act.put, List.setIfInBounds_toArray, List.set_cons_zero, List.set_cons_succ]
      refine wpAnyH_take (i := 12) (oi := { dst := some 36, op := Op.fieldAddr 56 (Operand.tmp 35) 2, type := 0, pos := _, after := _, guard := some (7, true) }) (v := ?_) rfl (by kernel_rfl) (by kernel_rfl) (by kernel_rfl) (fun _ _ _ h => h) (Or.inl ⟨by rfl, ?_⟩) hHeld ?_
      rotate_left 1
      · (intro W hW; (try dsimp only at hW); go_simp; try with_reducible rfl)
      try simp only [Act.put, List.setIfInBounds_toArray, List.set_cons_zero, List.set_cons_succ]
      refine wpAnyH_take (i := 13) (oi := { dst := some 37, op := Op.load 3 (Operand.tmp 36), type := 3, pos := _, after := _, guard := some (7, true) }) (v := ?_) rfl (by kernel_rfl) (by kernel_rfl) (by kernel_rfl) (fun _ _ _ h => h) (Or.inl ⟨by rfl, ?_⟩) hHeld ?_
      rotate_left 1
      · (intro W hW; have hk := (Below.cell (p := ⟨gx, 2, none⟩) hW HGX.out).trans c2; (try dsimp only at hW); go_simp; try with_reducible rfl)
      try simp only [Act.put, List.setIfInBounds_toArray, List.set_cons_zero, List.set_cons_succ]
      refine wpAnyH_ready (rs := [9]) (by kernel_rfl) (by simp) ?_
      refine AllReadyH.cons (o := { dst := some 33, op := Op.call { callee := Callee.value (Operand.func 24), args := #[Operand.tmp 32], argTypes := #[23] }, type := 3, pos := _, after := _, guard := some (7, true) }) rfl (fun K hK => ?_) AllReadyH.nil
      go_simp
      refine (HT.out.under (Below.refl _ V).drew).ops.mono ?_
      rintro e w6 ⟨rfl, rfl⟩
      go_simp
      refine hK.out _ _ hHeld (fun _ => ?_)
      clear hK K
      try simp only [Act.put, List.setIfInBounds_toArray, List.set_cons_zero, List.set_cons_succ]
      refine wpAnyH_take (i := 14) (oi := { dst := some 38, op := Op.binOp BinOp.eql 3 (Operand.tmp 33) (Operand.tmp 37) 3, type := 4, pos := _, after := _, guard := some (7, true) }) (v := ?_) rfl (by kernel_rfl) (by kernel_rfl) (by kernel_rfl) (fun _ _ _ h => h) (Or.inl ⟨by rfl, ?_⟩) hHeld ?_
      rotate_left 1
      · (intro W hW; (try dsimp only at hW); go_simp; try with_reducible rfl)
      try simp only [Act.put, List.setIfInBounds_toArray, List.set_cons_zero, List.set_cons_succ]
      refine wpAnyH_take (i := 15) (oi := { dst := some 39, op := Op.pick (Operand.tmp 31) (Operand.tmp 38) (Operand.const (Value.bool false)), type := 4, pos := _, after := _, guard := none }) (v := ?_) rfl (by kernel_rfl) (by kernel_rfl) (by kernel_rfl) (fun _ _ _ h => h) (Or.inl ⟨by rfl, ?_⟩) hHeld ?_
      rotate_left 1
      · (intro W hW; (try dsimp only at hW); go_simp; try with_reducible rfl)
      try simp only [Act.put, List.setIfInBounds_toArray, List.set_cons_zero, List.set_cons_succ]
      refine wpAnyH_take (i := 16) (oi := { dst := some 40, op := Op.move (Operand.tmp 39), type := 4, pos := _, after := _, guard := none }) (v := ?_) rfl (by kernel_rfl) (by kernel_rfl) (by kernel_rfl) (fun _ _ _ h => h) (Or.inl ⟨by rfl, ?_⟩) hHeld ?_
      rotate_left 1
      · (intro W hW; (try dsimp only at hW); go_simp; try with_reducible rfl)
      try simp only [Act.put, List.setIfInBounds_toArray, List.set_cons_zero, List.set_cons_succ]
      refine wpAnyH_take (i := 17) (oi := { dst := some 41, op := Op.move (Operand.tmp 0), type := 23, pos := _, after := _, guard := some (16, true) }) (v := ?_) rfl (by kernel_rfl) (by kernel_rfl) (by kernel_rfl) (fun _ _ _ h => h) (Or.inl ⟨by rfl, ?_⟩) hHeld ?_
      rotate_left 1
      · (intro W hW; (try dsimp only at hW); go_simp; try with_reducible rfl)
      try simp only [Act.put, List.setIfInBounds_toArray, List.set_cons_zero, List.set_cons_succ]
      refine wpAnyH_take (i := 19) (oi := { dst := some 43, op := Op.move (Operand.tmp 1), type := 25, pos := _, after := _, guard := some (16, true) }) (v := ?_) rfl (by kernel_rfl) (by kernel_rfl) (by kernel_rfl) (fun _ _ _ h => h) (Or.inl ⟨by rfl, ?_⟩) hHeld ?_
      rotate_left 1
      · (intro W hW; (try dsimp only at hW); go_simp; try with_reducible rfl)
      try simp only [Act.put, List.setIfInBounds_toArray, List.set_cons_zero, List.set_cons_succ]
      refine wpAnyH_take (i := 20) (oi := { dst := some 44, op := Op.nilCheck (Operand.tmp 43), type := 0, pos := _, after := _, guard := some (16, true) }) (v := ?_) rfl (by kernel_rfl) (by kernel_rfl) (by kernel_rfl) (fun _ _ _ h => h) (Or.inl ⟨by rfl, ?_⟩) hHeld ?_
      rotate_left 1
      · (intro W hW; (try dsimp only at hW); go_simp; try with_reducible rfl)
      try simp only [Act.put, List.setIfInBounds_toArray, List.set_cons_zero, List.set_cons_succ]
      refine wpAnyH_take (i := 21) (oi := { dst := some 45, op := Op.fieldAddr 56 (Operand.tmp 44) 0, type := 0, pos := _, after := _, guard := some (16, true) }) (v := ?_) rfl (by kernel_rfl) (by kernel_rfl) (by kernel_rfl) (fun _ _ _ h => h) (Or.inl ⟨by rfl, ?_⟩) hHeld ?_
      rotate_left 1
      · (intro W hW; (try dsimp only at hW); go_simp; try with_reducible rfl)
      try simp only [Act.put, List.setIfInBounds_toArray, List.set_cons_zero, List.set_cons_succ]
      refine wpAnyH_take (i := 22) (oi := { dst := some 46, op := Op.load 48 (Operand.tmp 45), type := 48, pos := _, after := _, guard := some (16, true) }) (v := ?_) rfl (by kernel_rfl) (by kernel_rfl) (by kernel_rfl) (fun _ _ _ h => h) (Or.inl ⟨by rfl, ?_⟩) hHeld ?_
      rotate_left 1
      · (intro W hW; have hk := (Below.cell (p := ⟨gx, 0, none⟩) hW HGX.out).trans c0; (try dsimp only at hW); go_simp; try with_reducible rfl)
      try simp only [Act.put, List.setIfInBounds_toArray, List.set_cons_zero, List.set_cons_succ]
      refine wpAnyH_take (i := 23) (oi := { dst := some 47, op := Op.call { callee := Callee.builtin Builtin.len, args := #[Operand.tmp 46], argTypes := #[48] }, type := 3, pos := _, after := _, guard := some (16, true) }) (v := ?_) rfl (by kernel_rfl) (by kernel_rfl) (by kernel_rfl) (fun _ _ _ h => h) (Or.inl ⟨by rfl, ?_⟩) hHeld ?_
      rotate_left 1
      · (intro W hW; (try dsimp only at hW); go_simp; try with_reducible rfl)
      try simp only [Act.put, List.setIfInBounds_toArray, List.set_cons_zero, List.set_cons_succ]
      refine wpAnyH_ready (rs := [18]) (by kernel_rfl) (by simp) ?_
      refine AllReadyH.cons (o := { dst := some 42, op := Op.call { callee := Callee.value (Operand.func 25), args := #[Operand.tmp 41], argTypes := #[23] }, type := 3, pos := _, after := _, guard := some (16, true) }) rfl (fun K hK => ?_) AllReadyH.nil
      go_simp
      have hsz := (HT.out.under (Below.refl _ V).drew).size
      rw [← HN.out] at hsz
      refine hsz.mono ?_
      rintro e w6 ⟨rfl, rfl⟩
      go_simp
      refine hK.out _ _ hHeld (fun _ => ?_)
      clear hK K
      try simp only [Act.put, List.setIfInBounds_toArray, List.set_cons_zero, List.set_cons_succ]
      refine wpAnyH_take (i := 24) (oi := { dst := some 48, op := Op.binOp BinOp.eql 3 (Operand.tmp 42) (Operand.tmp 47) 3, type := 4, pos := _, after := _, guard := some (16, true) }) (v := ?_) rfl (by kernel_rfl) (by kernel_rfl) (by kernel_rfl) (fun _ _ _ h => h) (Or.inl ⟨by rfl, ?_⟩) hHeld ?_
      rotate_left 1
      · (intro W hW; (try dsimp only at hW); go_simp; try with_reducible rfl)
      try simp only [Act.put, List.setIfInBounds_toArray, List.set_cons_zero, List.set_cons_succ]
      refine wpAnyH_take (i := 25) (oi := { dst := some 49, op := Op.pick (Operand.tmp 40) (Operand.tmp 48) (Operand.const (Value.bool false)), type := 4, pos := _, after := _, guard := none }) (v := ?_) rfl (by kernel_rfl) (by kernel_rfl) (by kernel_rfl) (fun _ _ _ h => h) (Or.inl ⟨by rfl, ?_⟩) hHeld ?_
      rotate_left 1
      · (intro W hW; (try dsimp only at hW); go_simp; try with_reducible rfl)
      try simp only [Act.put, List.setIfInBounds_toArray, List.set_cons_zero, List.set_cons_succ]
      refine wpAnyH_take (i := 26) (oi := { dst := some 4, op := Op.assign (Operand.tmp 49), type := 4, pos := _, after := _, guard := none }) (v := ?_) rfl (by kernel_rfl) (by kernel_rfl) (by kernel_rfl) (fun _ _ _ h => h) (Or.inl ⟨by rfl, ?_⟩) hHeld ?_
      rotate_left 1
      · (intro W hW; (try dsimp only at hW); go_simp; try with_reducible rfl)
      try simp only [Act.put, List.setIfInBounds_toArray, List.set_cons_zero, List.set_cons_succ]
      refine wpAnyH_done (by kernel_rfl) ?_ _
      refine NoPanic.normal ?_
      go_wp2_with fail
      go_ret
      exact ⟨rfl, HT.out.under (Below.refl _ V).drew, HQ.out.drew⟩
end Go.Proofs.Ytbenkffjfjddgaa
