/-
  Any bytes as a thing, or the first error; what is read tells them again (statement TlvReads): the law's walk.
-/
import Derived.Test.YtlggbkacaemdjaaTlv33
import Derived.Test.YtlggbkacaemdjaaTlv27
import Derived.Deep.RegionLaw
import Derived.Deep.RegionHeld3
import Derived.Deep.DrawnRows
import Derived.StillTailTactics
import Derived.BigQuiet
import Derived.Deep.QuietTactic
namespace Go.Proofs.Ytlggbkacaemdjaa
open Go.RowKit
set_option linter.unusedVariables false
set_option linter.unusedSimpArgs false
attribute [local go_sem ↓] Go.wp_at_zero Go.wp_at_succ

set_option maxRecDepth 100000 in
set_option maxHeartbeats 8000000 in
theorem law_reads (w : World) (A : Option Addr) (c n : Nat) (L : List Nat) (hn : L.length = n) (hR : Rd .u8 w w.heap.size A c L) (ho : ∀ x ∈ L, x < 256) :
    Calls Try.prog 4 #[.slice A n c] w fun e w' => e = .returned (.bool true) ∧ Below w.heap.size w w' := by
  by_cases h20 : 20000 < n
  case pos =>
    have d1 : decide ((20000 : Int) < (n : Int)) = true := decide_eq_true (by omega)
    clear hR hn ho
    go_enter Try.func4, Try.ntmps4
    go_wp2_with fail
    go_ret
    exact ⟨rfl, Below.refl _ _⟩
  have d1 : decide ((20000 : Int) < (n : Int)) = false := decide_eq_false (by omega)
  have H1 := Lib.hid (read_any w w.heap.size A c n L hR hn ho (Nat.le_refl _))
  have H2 : Hid (∀ W, Below w.heap.size w W → Calls Try.prog 19 #[.slice A n c] W (ReadPost W (readT L))) := Lib.hid fun W hW => read'_any W w.heap.size A c n L (hR.under hW) hn ho hW.size
  have HCV : Hid (∀ W, Below w.heap.size w W → (convert 22 9 (.slice A n c)).run Try.prog W = .ok (.string (str L)) W) := Lib.hid fun W hW => conv_str (hR.under hW) hn ho
  have HIS : Hid (∀ t, readT L = .ok t → bytesT t = L ∧ t.enc.length ≤ 20000 ∧ isT t = true) := Lib.hid fun t ht => by
    have h := readT_is ho ht
    exact ⟨by unfold bytesT; rw [if_pos h.2]; exact h.1, by rw [h.1]; omega, h.2⟩
  have HNZ : Hid (∀ x, readT L = .error x → x ≠ 0) := Lib.hid fun x hx => by
    unfold readT at hx
    split at hx
    · injection hx with hx; omega
    · rcases h6 : rd L 1 0 with y | ⟨t, m, c2⟩
      · rw [h6] at hx
        injection hx with hx
        rw [← hx]
        exact (rd_err (L.length + 1)).1 _ _ _ _ (Nat.lt_succ_self _) h6
      · rw [h6] at hx
        dsimp only at hx
        split at hx
        · injection hx with hx; omega
        · cases hx
  have HO := Lib.hid ho
  clear hR hn ho
  generalize readT L = r at *
  go_enter Try.func4, Try.ntmps4
  go_wp2_with fail
  refine H1.out.mono ?_
  intro e w1 hp
  obtain ⟨lt, rfl, hat, hok, her, hb1⟩ := read_lt hp
  have HAT := Lib.hid hat
  have HQ1 := Lib.hid hb1
  have HLT := Lib.hid (And.intro hok her)
  have hcl : lt.cells = #[.int .u8 (lt.tag : Int), .slice lt.ba lt.body.length lt.bc, .slice lt.ka lt.kids.length lt.kc] := rfl
  have HV1 := Lib.hid (Lt.val_eq lt)
  rw [HV1.out]
  clear hp hat hok her hb1 hcl
  obtain ⟨cd, hcd⟩ : ∃ cd, cd = code r := ⟨_, rfl⟩
  rw [← hcd]
  have HCD := Lib.hid hcd
  clear hcd
  generalize lt.tag = la at *
  generalize lt.ba = lb at *
  generalize lt.body.length = lc at *
  generalize lt.bc = ld at *
  generalize lt.ka = le at *
  generalize lt.kids.length = lf at *
  generalize lt.kc = lg at *
  have HB1 : Hid (Below w1.heap.size w1 (w1.alloc (.cells #[.int .u8 (la : Int), .slice lb lc ld, .slice le lf lg] 25))) := Lib.hid ((Below.refl _ _).alloc (Nat.le_refl _) _)
  have HN1 : Hid (Holds (w1.alloc (.cells #[.int .u8 (la : Int), .slice lb lc ld, .slice le lf lg] 25)) w1.heap.size 25 #[.int .u8 (la : Int), .slice lb lc ld, .slice le lf lg]) := Lib.hid (Holds.fresh _ _ _)
  have HQ2 := Lib.hid (HQ1.out.trans (HB1.out.mono HQ1.out.size))
  have HK2 := Lib.hid (H2.out _ HQ2.out)
  go_wp2_with fail
  refine HK2.out.mono ?_
  intro e w2 hp
  obtain ⟨kt, rfl, hat, hok, her, hb2⟩ := read_lt hp
  have HAT2 := Lib.hid hat
  have HB2 := Lib.hid hb2
  have HKT := Lib.hid (And.intro hok her)
  have HV2 := Lib.hid (Lt.val_eq kt)
  rw [HV2.out]
  rw [← HCD.out]
  clear hp hat hok her hb2 HK2
  generalize kt.tag = ka at *
  generalize kt.ba = kb at *
  generalize kt.body.length = kc at *
  generalize kt.bc = kd at *
  generalize kt.ka = ke at *
  generalize kt.kids.length = kf at *
  generalize kt.kc = kg at *
  have HB3 : Hid (Below w2.heap.size w2 (w2.alloc (.cells #[.int .u8 (ka : Int), .slice kb kc kd, .slice ke kf kg] 25))) := Lib.hid ((Below.refl _ _).alloc (Nat.le_refl _) _)
  have HN3 : Hid (Holds (w2.alloc (.cells #[.int .u8 (ka : Int), .slice kb kc kd, .slice ke kf kg] 25)) w2.heap.size 25 #[.int .u8 (ka : Int), .slice kb kc kd, .slice ke kf kg]) := Lib.hid (Holds.fresh _ _ _)
  have H12 : Hid (Below (w1.alloc (.cells #[.int .u8 (la : Int), .slice lb lc ld, .slice le lf lg] 25)).heap.size (w1.alloc (.cells #[.int .u8 (la : Int), .slice lb lc ld, .slice le lf lg] 25)) (w2.alloc (.cells #[.int .u8 (ka : Int), .slice kb kc kd, .slice ke kf kg] 25))) := Lib.hid (HB2.out.trans (HB3.out.mono HB2.out.size))
  have HQ3 := Lib.hid (HQ2.out.trans (H12.out.mono HQ2.out.size))
  have HN1b : Hid (Holds (w2.alloc (.cells #[.int .u8 (ka : Int), .slice kb kc kd, .slice ke kf kg] 25)) w1.heap.size 25 #[.int .u8 (la : Int), .slice lb lc ld, .slice le lf lg]) := Lib.hid (HN1.out.under H12.out HN1.out.lt)
  have HSAME : Hid (lt.t = kt.t) := Lib.hid (by
    rcases r with x | t
    · rw [HLT.out.2 x rfl, HKT.out.2 x rfl]
    · rw [HLT.out.1 t rfl, HKT.out.1 t rfl])
  have HTA : Hid (TrAt (w2.alloc (.cells #[.int .u8 (ka : Int), .slice kb kc kd, .slice ke kf kg] 25)) (w2.alloc (.cells #[.int .u8 (ka : Int), .slice kb kc kd, .slice ke kf kg] 25)).heap.size lt) := Lib.hid ((((HAT.out.under' HB1.out).more' HB1.out.size).under' H12.out).more' H12.out.size)
  have HTB : Hid (TrAt (w2.alloc (.cells #[.int .u8 (ka : Int), .slice kb kc kd, .slice ke kf kg] 25)) (w2.alloc (.cells #[.int .u8 (ka : Int), .slice kb kc kd, .slice ke kf kg] 25)).heap.size kt) := Lib.hid ((HAT2.out.under' HB3.out).more' HB3.out.size)
  have HSA : Hid (Calls Try.prog 18 #[.agg #[.int .u8 (la : Int), .slice lb lc ld, .slice le lf lg], .agg #[.int .u8 (ka : Int), .slice kb kc kd, .slice ke kf kg]] (w2.alloc (.cells #[.int .u8 (ka : Int), .slice kb kc kd, .slice ke kf kg] 25)) fun e w' => e = .returned (.bool true) ∧ Below (w2.alloc (.cells #[.int .u8 (ka : Int), .slice kb kc kd, .slice ke kf kg] 25)).heap.size (w2.alloc (.cells #[.int .u8 (ka : Int), .slice kb kc kd, .slice ke kf kg] 25)) w') := Lib.hid (by
    have h := same'_any lt kt (w2.alloc (.cells #[.int .u8 (ka : Int), .slice kb kc kd, .slice ke kf kg] 25)) (w2.alloc (.cells #[.int .u8 (ka : Int), .slice kb kc kd, .slice ke kf kg] 25)).heap.size HTA.out HTB.out (Nat.le_refl _) true (by simp [HSAME.out])
    rw [HV1.out, HV2.out] at h
    exact h)
  have c0 := HN1b.out.cell 0
  have c1 := HN1b.out.cell 1
  have c2 := HN1b.out.cell 2
  have k0 := HN3.out.cell 0
  have k1 := HN3.out.cell 1
  have k2 := HN3.out.cell 2
  go_wp2_with fail
  clear HB1 HN1 HQ2 HB2 HB3 H12 HTB HAT HAT2 H1 H2 c0 c1 c2 k0 k1 k2
  generalize (w2.alloc (.cells #[.int .u8 (ka : Int), .slice kb kc kd, .slice ke kf kg] 25)) = V at *
  refine HSA.out.mono ?_
  rintro e w3 ⟨rfl, hb3⟩
  have HQ4 := Lib.hid (HQ3.out.trans (hb3.mono HQ3.out.size))
  have HN4 := Lib.hid (HN1b.out.under hb3 HN1b.out.lt)
  have HTC := Lib.hid ((HTA.out.under' hb3).more' hb3.size)
  clear hb3 HSA HQ3 HN1b HN3 HTA
  rcases r with x | t
  · have hx := HNZ.out x rfl
    have hcd : cd = x := HCD.out
    have bne : ((cd : Int) != 0) = true := by simp; omega
    have dne : decide ((cd : Int) = 0) = false := decide_eq_false (by omega)
    clear hcd hx HTC HN4
    go_wp2_with fail
    go_quiet (fail)
    go_wp2_with fail
    go_ret
    exact ⟨rfl, HQ4.out.trans ⟨rfl, rfl, rfl, Nat.le_refl _, fun _ _ => rfl⟩⟩
  · obtain rfl : cd = 0 := HCD.out
    have HLT4 : Hid (bytesT lt.t = L ∧ lt.t.enc.length ≤ 20000 ∧ lt.t.count ≤ 600) := Lib.hid (by
      have h := HIS.out t rfl
      rw [HLT.out.1 t rfl]
      refine ⟨h.1, h.2.1, ?_⟩
      have h3 := h.2.2
      simp [isT] at h3
      omega)
    have HBY : Hid (∀ W, Below w3.heap.size w3 W → Calls Try.prog 9 #[.agg #[.int .u8 (la : Int), .slice lb lc ld, .slice le lf lg]] W fun e w' => ∃ A c n, e = .returned (.slice A n c) ∧ (bytesT lt.t).length = n ∧ Mine 5 w' W.heap.size A c (bytesT lt.t) ∧ Below W.heap.size W w') := Lib.hid fun W hW => by
      have h := bytes_any lt W W.heap.size ((HTC.out.under' hW).more' hW.size) (Nat.le_refl _) (by have := HLT4.out; omega) (by have := HLT4.out; omega)
      rw [HV1.out] at h
      exact h
    have HZ : Hid (∀ W, Below w3.heap.size w3 W → W.cell? ⟨w1.heap.size, 0, none⟩ = some (.int .u8 (la : Int)) ∧ W.cell? ⟨w1.heap.size, 1, none⟩ = some (.slice lb lc ld) ∧ W.cell? ⟨w1.heap.size, 2, none⟩ = some (.slice le lf lg)) := Lib.hid fun W hW => by
      have h := HN4.out.under hW HN4.out.lt
      exact ⟨h.cell 0, h.cell 1, h.cell 2⟩
    obtain ⟨sy, hsy⟩ : ∃ sy, sy = str L := ⟨_, rfl⟩
    have HS := Lib.hid hsy
    clear hsy
    have B3 : Hid (Below w3.heap.size w3 w3) := Lib.hid (Below.refl _ _)
    clear HTC HN4
    go_wp2_with fail
    refine wp_region_noPanic ?_
    refine wp_region_held_drew (S := fun W => Below w3.heap.size w3 W) (by kernel_rfl) (Below.refl _ w3).drew (fun hHeld => ?_)
    refine wpAnyH_take (i := 0) (oi := { dst := some 29, op := Op.move (Operand.tmp 6), type := 3, pos := _, after := _, guard := none }) (v := ?_) rfl (by kernel_rfl) (by kernel_rfl) (by kernel_rfl) (fun _ _ _ h => h) (Or.inl ⟨by rfl, ?_⟩) hHeld ?_
    rotate_left 1
    · (intro W hW; (try dsimp only at hW); go_simp; try with_reducible rfl)
    try simp only [Act.put, List.setIfInBounds_toArray, List.set_cons_zero, List.set_cons_succ]
    refine wpAnyH_take (i := 1) (oi := { dst := some 30, op := Op.binOp BinOp.neq 3 (Operand.tmp 29) (Operand.const (Value.int IntKind.i64 0)) 3, type := 4, pos := _, after := _, guard := none }) (v := ?_) rfl (by kernel_rfl) (by kernel_rfl) (by kernel_rfl) (fun _ _ _ h => h) (Or.inl ⟨by rfl, ?_⟩) hHeld ?_
    rotate_left 1
    · (intro W hW; (try dsimp only at hW); go_simp; try with_reducible rfl)
    try simp only [Act.put, List.setIfInBounds_toArray, List.set_cons_zero, List.set_cons_succ]
    refine wpAnyH_take (i := 2) (oi := { dst := some 31, op := Op.move (Operand.tmp 30), type := 4, pos := _, after := _, guard := none }) (v := ?_) rfl (by kernel_rfl) (by kernel_rfl) (by kernel_rfl) (fun _ _ _ h => h) (Or.inl ⟨by rfl, ?_⟩) hHeld ?_
    rotate_left 1
    · (intro W hW; (try dsimp only at hW); go_simp; try with_reducible rfl)
    try simp only [Act.put, List.setIfInBounds_toArray, List.set_cons_zero, List.set_cons_succ]
    refine wpAnyH_take (i := 3) (oi := { dst := some 32, op := Op.load 25 (Operand.tmp 3), type := 25, pos := _, after := _, guard := some (2, false) }) (v := ?_) rfl (by kernel_rfl) (by kernel_rfl) (by kernel_rfl) (fun _ _ _ h => h) (Or.inl ⟨by rfl, ?_⟩) hHeld ?_
    rotate_left 1
    · (intro W hW; obtain ⟨c0, c1, c2⟩ := HZ.out W hW; (try dsimp only at hW); go_simp; try with_reducible rfl)
    try simp only [Act.put, List.setIfInBounds_toArray, List.set_cons_zero, List.set_cons_succ]
    refine wpAnyH_take (i := 6) (oi := { dst := some 35, op := Op.move (Operand.tmp 0), type := 22, pos := _, after := _, guard := some (2, false) }) (v := ?_) rfl (by kernel_rfl) (by kernel_rfl) (by kernel_rfl) (fun _ _ _ h => h) (Or.inl ⟨by rfl, ?_⟩) hHeld ?_
    rotate_left 1
    · (intro W hW; (try dsimp only at hW); go_simp; try with_reducible rfl)
    try simp only [Act.put, List.setIfInBounds_toArray, List.set_cons_zero, List.set_cons_succ]
    refine wpAnyH_take (i := 7) (oi := { dst := some 36, op := Op.convert 22 9 (Operand.tmp 35), type := 9, pos := _, after := _, guard := some (2, false) }) (v := ?_) rfl (by kernel_rfl) (by kernel_rfl) (by kernel_rfl) (fun _ _ _ h => h) (Or.inl ⟨by rfl, ?_⟩) hHeld ?_
    rotate_left 1
    · (intro W hW; have kc := HCV.out W (HQ4.out.trans (B3.out.trans (hW.mono B3.out.size) |>.mono HQ4.out.size)); rw [← HS.out] at kc; (try dsimp only at hW); go_simp; try with_reducible rfl)
    try simp only [Act.put, List.setIfInBounds_toArray, List.set_cons_zero, List.set_cons_succ]
    refine wpAnyH_ready (rs := [4]) (by kernel_rfl) (by simp) ?_
    refine AllReadyH.cons (o := { dst := some 33, op := Op.call { callee := Callee.value (Operand.func 9), args := #[Operand.tmp 32], argTypes := #[25] }, type := 22, pos := _, after := _, guard := some (2, false) }) rfl (fun K hK => ?_) AllReadyH.nil
    go_simp
    refine (HBY.out w3.drew (Below.refl _ w3).drew).mono ?_
    rintro e w4 ⟨A4, c4, n4, rfl, hn4, hm4, hb4⟩
    have b4 : Hid (Below w3.heap.size w3 w4) := Lib.hid ((Below.refl _ w3).drew.trans hb4)
    have B4 := b4
    have HM4 : Hid (Rd .u8 w4 w4.heap.size A4 c4 L) := Lib.hid (by have h := hm4.rd; rw [HLT4.out.1] at h; exact h)
    have hn4b : L.length = n4 := by rw [← HLT4.out.1]; exact hn4
    have HN4b := Lib.hid hn4b
    clear hb4 hm4 hn4 hn4b
    go_simp
    refine hK.out _ _ (b4.out) (fun _ => ?_)
    clear hK K hHeld
    try simp only [Act.put, List.setIfInBounds_toArray, List.set_cons_zero, List.set_cons_succ]
    refine wpAnyH_strong (S' := fun W => Below w4.heap.size w4 W) (fun W hW => b4.out.trans (hW.mono b4.out.size)) _ _ _ _ ?_
    have hHeld : (fun W => Below w4.heap.size w4 W) w4 := Below.refl _ _
    refine wpAnyH_take (i := 5) (oi := { dst := some 34, op := Op.convert 22 9 (Operand.tmp 33), type := 9, pos := _, after := _, guard := some (2, false) }) (v := ?_) rfl (by kernel_rfl) (by kernel_rfl) (by kernel_rfl) (fun _ _ _ h => h) (Or.inl ⟨by rfl, ?_⟩) hHeld ?_
    rotate_left 1
    · (intro W hW; have kc := conv_str (HM4.out.under hW) HN4b.out HO.out; rw [← HS.out] at kc; (try dsimp only at hW); go_simp; try with_reducible rfl)
    try simp only [Act.put, List.setIfInBounds_toArray, List.set_cons_zero, List.set_cons_succ]
    refine wpAnyH_take (i := 8) (oi := { dst := some 37, op := Op.binOp BinOp.eql 9 (Operand.tmp 34) (Operand.tmp 36) 9, type := 4, pos := _, after := _, guard := some (2, false) }) (v := ?_) rfl (by kernel_rfl) (by kernel_rfl) (by kernel_rfl) (fun _ _ _ h => h) (Or.inl ⟨by rfl, ?_⟩) hHeld ?_
    rotate_left 1
    · (intro W hW; (try dsimp only at hW); go_simp; try with_reducible rfl)
    try simp only [Act.put, List.setIfInBounds_toArray, List.set_cons_zero, List.set_cons_succ]
    refine wpAnyH_take (i := 9) (oi := { dst := some 38, op := Op.move (Operand.tmp 37), type := 4, pos := _, after := _, guard := some (2, false) }) (v := ?_) rfl (by kernel_rfl) (by kernel_rfl) (by kernel_rfl) (fun _ _ _ h => h) (Or.inl ⟨by rfl, ?_⟩) hHeld ?_
    rotate_left 1
    · (intro W hW; (try dsimp only at hW); go_simp; try with_reducible rfl)
    try simp only [Act.put, List.setIfInBounds_toArray, List.set_cons_zero, List.set_cons_succ]
    refine wpAnyH_ready (rs := [10]) (by kernel_rfl) (by simp) ?_
    refine AllReadyH.cons (o := { dst := some 39, op := Op.call { callee := Callee.value (Operand.func 16), args := #[], argTypes := #[] }, type := 4, pos := _, after := _, guard := some (9, true) }) rfl (fun K hK => ?_) AllReadyH.nil
    go_simp
    refine (known_any w4).mono ?_
    rintro e w5 ⟨rfl, hb5⟩
    have b5 : Hid (Below w4.heap.size w4 w5) := Lib.hid hb5
    clear hb5
    go_simp
    refine hK.out _ _ (b5.out) (fun _ => ?_)
    clear hK K hHeld
    try simp only [Act.put, List.setIfInBounds_toArray, List.set_cons_zero, List.set_cons_succ]
    refine wpAnyH_strong (S' := fun W => Below w5.heap.size w5 W) (fun W hW => b5.out.trans (hW.mono b5.out.size)) _ _ _ _ ?_
    have hHeld : (fun W => Below w5.heap.size w5 W) w5 := Below.refl _ _
    refine wpAnyH_take (i := 11) (oi := { dst := some 40, op := Op.pick (Operand.tmp 38) (Operand.tmp 39) (Operand.const (Value.bool false)), type := 4, pos := _, after := _, guard := some (2, false) }) (v := ?_) rfl (by kernel_rfl) (by kernel_rfl) (by kernel_rfl) (fun _ _ _ h => h) (Or.inl ⟨by rfl, ?_⟩) hHeld ?_
    rotate_left 1
    · (intro W hW; (try dsimp only at hW); go_simp; try with_reducible rfl)
    try simp only [Act.put, List.setIfInBounds_toArray, List.set_cons_zero, List.set_cons_succ]
    refine wpAnyH_take (i := 12) (oi := { dst := some 41, op := Op.pick (Operand.tmp 31) (Operand.const (Value.bool true)) (Operand.tmp 40), type := 4, pos := _, after := _, guard := none }) (v := ?_) rfl (by kernel_rfl) (by kernel_rfl) (by kernel_rfl) (fun _ _ _ h => h) (Or.inl ⟨by rfl, ?_⟩) hHeld ?_
    rotate_left 1
    · (intro W hW; (try dsimp only at hW); go_simp; try with_reducible rfl)
    try simp only [Act.put, List.setIfInBounds_toArray, List.set_cons_zero, List.set_cons_succ]
    refine wpAnyH_take (i := 13) (oi := { dst := some 2, op := Op.assign (Operand.tmp 41), type := 4, pos := _, after := _, guard := none }) (v := ?_) rfl (by kernel_rfl) (by kernel_rfl) (by kernel_rfl) (fun _ _ _ h => h) (Or.inl ⟨by rfl, ?_⟩) hHeld ?_
    rotate_left 1
    · (intro W hW; (try dsimp only at hW); go_simp; try with_reducible rfl)
    try simp only [Act.put, List.setIfInBounds_toArray, List.set_cons_zero, List.set_cons_succ]
    refine wpAnyH_done (by kernel_rfl) ?_ _
    refine NoPanic.normal ?_
    go_wp2_with fail
    go_ret
    exact ⟨rfl, HQ4.out.trans ((b4.out.trans (b5.out.mono b4.out.size)).mono HQ4.out.size)⟩
end Go.Proofs.Ytlggbkacaemdjaa
