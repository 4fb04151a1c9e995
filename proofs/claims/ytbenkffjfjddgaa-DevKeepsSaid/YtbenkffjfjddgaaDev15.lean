/-
  Of writes that wait just those that are kept last.
-/
import Derived.Test.YtbenkffjfjddgaaDev14
namespace Go.Proofs.Ytbenkffjfjddgaa
open Go.RowKit
set_option linter.unusedVariables false
set_option linter.unusedSimpArgs false
attribute [local go_sem ↓] Go.wp_at_zero Go.wp_at_succ

/-- A sector of one byte that was reckoned. -/
theorem sector_one' (W : World) (x : Nat) {y : Int} (hy : ((x : Nat) : Int) = y) :
    Calls Try.prog 20 #[.slice (some ⟨W.heap.size, 0, none⟩) 1 1] (W.alloc (.cells #[.int .u8 y] 5)) fun e w' => e = .returned (.slice (some ⟨W.heap.size + 1, 0, none⟩) 64 64) ∧ Rd .u8 w' w'.heap.size (some ⟨W.heap.size + 1, 0, none⟩) 64 (secOf [x]) ∧ Below W.heap.size W w' := by
  subst hy
  exact sector_one W x (0, 0)

def kpW (n : Nat) : List (Nat × List Nat) := (List.range n).map fun j => (j, secOf [j + 1])
theorem kpW_length (n : Nat) : (kpW n).length = n := by simp [kpW]
theorem kpW_getD {n j : Nat} (h : j < n) : (kpW n).getD j default = (j, secOf [j + 1]) := by simp [kpW, List.getD, h]
theorem kpW_succ (n : Nat) : kpW (n + 1) = kpW n ++ [(n, secOf [n + 1])] := by simp [kpW, List.range_succ]
/-- So many unlike sectors are written. -/
structure Kst (n i : Nat) (s : Dk) : Prop where
  now : s.now.length = n
  lasts : s.lasts = List.replicate n zsec
  waits : s.waits = kpW i
  armed : s.armed = false
  down : s.down = false
  ops : s.ops = i
theorem Kst.next {n i : Nat} {s : Dk} (h : Kst n i s) (hi : i < n) : s.write (i : Int) (secOf [i + 1]) = (s.wrote i (secOf [i + 1]), 0) ∧ Kst n (i + 1) (s.wrote i (secOf [i + 1])) :=
  ⟨Dk.write_good h.down (by rw [h.now]; exact hi) (secOf_length _) (due_unarmed h.armed), ⟨by simp [Dk.wrote, h.now], h.lasts, by show s.waits ++ _ = _; rw [h.waits, kpW_succ], h.armed, h.down, by simp [Dk.wrote, h.ops]⟩⟩
theorem fallN_kp (kp : Nat → Bool) (n m : Nat) (L : List (List Nat)) (hL : L.length = n) : ∀ k, k ≤ m → k ≤ n → ∀ i, i < n → (fallN kp (kpW m) L k).getD i [] = if i < k ∧ kp i = true then secOf [i + 1] else L.getD i []
  | 0, _, _, i, hi => by rw [fallN, if_neg (by omega)]
  | k + 1, hk, hn, i, hi => by
    have ih := fallN_kp kp n m L hL k (by omega) (by omega) i hi
    rw [fallN, kpW_getD (by omega)]
    have hlen : (fallN kp (kpW m) L k).length = n := by rw [fallN_length, hL]
    by_cases hkp : kp k = true
    · rw [if_pos hkp]
      by_cases hik : i = k
      · subst hik
        rw [if_pos ⟨by omega, hkp⟩]
        simp [List.getD, hlen, hi]
      · have e : ((fallN kp (kpW m) L k).set k (secOf [k + 1])).getD i [] = (fallN kp (kpW m) L k).getD i [] := by
          simp [List.getD, List.getElem?_set_ne (fun e => hik e.symm)]
        show ((fallN kp (kpW m) L k).set k (secOf [k + 1])).getD i [] = _
        rw [e, ih]
        by_cases h1 : i < k ∧ kp i = true
        · rw [if_pos h1, if_pos ⟨by omega, h1.2⟩]
        · rw [if_neg h1, if_neg (fun e => h1 ⟨by omega, e.2⟩)]
    · rw [if_neg hkp, ih]
      by_cases h1 : i < k ∧ kp i = true
      · rw [if_pos h1, if_pos ⟨by omega, h1.2⟩]
      · rw [if_neg h1, if_neg (fun e => h1 ⟨by rcases Nat.lt_or_ge i k with h | h; exact h; exact absurd e.2 (by rw [show i = k by omega]; exact hkp), e.2⟩)]
theorem backN_kp (L now : List (List Nat)) (n m : Nat) (hn : now.length = n) : ∀ k, k ≤ m → k ≤ n → ∀ i, i < k → (backN L (kpW m) now k).getD i [] = L.getD i []
  | 0, _, _, i, hi => absurd hi (by omega)
  | k + 1, hk, hkn, i, hi => by
    rw [backN, kpW_getD (by omega)]
    have hlen : (backN L (kpW m) now k).length = n := by rw [backN_length, hn]
    show ((backN L (kpW m) now k).set k (L.getD k [])).getD i [] = _
    by_cases hik : i = k
    · subst hik
      simp [List.getD, hlen, show i < n by omega]
    · have e : ((backN L (kpW m) now k).set k (L.getD k [])).getD i [] = (backN L (kpW m) now k).getD i [] := by
        simp [List.getD, List.getElem?_set_ne (fun e => hik e.symm)]
      rw [e]
      exact backN_kp L now n m hn k (by omega) (by omega) i (by omega)
/-- What is wanted of a sector. -/
def want (keep : List Bool) (i : Nat) : List Nat := if keep.getD i false = true then secOf [i + 1] else zsec
theorem want_length (keep : List Bool) (i : Nat) : (want keep i).length = 64 := by unfold want; split; exact secOf_length _; rfl
theorem want_oct (keep : List Bool) (i : Nat) (hi : i < 40) : ∀ x ∈ want keep i, x < 256 := by
  unfold want
  split
  · exact secOf_oct (by intro x hx; simp at hx; omega)
  · exact zsec_oct
structure Kend (n : Nat) (keep : List Bool) (s : Dk) : Prop where
  down : s.down = false
  armed : s.armed = false
  ops : s.ops = 0
  waits : s.waits = []
  read : ∀ i : Nat, i < n → s.read (i : Int) = want keep i
theorem Kst.crash {n : Nat} {s : Dk} (h : Kst n n s) (keep : List Bool) :
    (s.arm 0 keep).flush = ((s.arm 0 keep).fall, 6) ∧ (s.arm 0 keep).fall.down = true ∧ (∀ i x, (s.arm 0 keep).fall.write i x = ((s.arm 0 keep).fall, 6)) ∧ Kend n keep (s.arm 0 keep).fall.restart := by
  have hdue : (s.arm 0 keep).due = true := by simp [Dk.due, Dk.arm]
  refine ⟨?_, rfl, fun i x => ?_, rfl, rfl, rfl, rfl, fun i hi => ?_⟩
  · unfold Dk.flush
    rw [if_neg (by show ¬ s.down = true; rw [h.down]; decide), if_pos hdue]
  · unfold Dk.write
    rw [if_pos (show (s.arm 0 keep).fall.down = true from rfl)]
  · have hnow : (s.arm 0 keep).fall.restart.now = backN (s.arm 0 keep).kept s.waits s.now s.waits.length := rfl
    have hk : (s.arm 0 keep).kept = fallN (fun j => keep.getD j false) s.waits s.lasts s.waits.length := rfl
    unfold Dk.read
    rw [if_pos (by omega), Int.toNat_natCast, hnow, hk, h.waits, h.lasts, kpW_length]
    rw [backN_kp _ _ n n h.now n (Nat.le_refl _) (Nat.le_refl _) i hi, fallN_kp _ n n _ (by simp) n (Nat.le_refl _) (Nat.le_refl _) i hi]
    unfold want
    by_cases hb : keep.getD i false = true
    · rw [if_pos ⟨hi, hb⟩, if_pos hb]
    · rw [if_neg (fun e => hb e.2), if_neg hb]
      simp [List.getD, hi]

def RelK1 (w : World) (gd n : Nat) (i : Value) (wr : World) : Prop :=
  ∃ (k : Nat) (s : Dk), k ≤ n ∧ i = .int .i64 k ∧ DiskB wr w.heap.size gd s ∧ Kst n k s ∧ Below w.heap.size w wr
def RelK2 (w : World) (gd n : Nat) (keep : List Bool) (s : Dk) (i : Value) (wr : World) : Prop :=
  ∃ k : Nat, k ≤ n ∧ i = .int .i64 k ∧ DiskB wr w.heap.size gd s ∧ Below w.heap.size w wr

set_option maxRecDepth 100000 in
set_option maxHeartbeats 4000000 in
theorem keeps_no (w : World) (n : Int) (A : Option Addr) (c m : Nat) (h : n < 1 ∨ 40 < n ∨ 60 < m) :
    Calls Try.prog 4 #[.int .i64 n, .slice A m c] w fun e w' => e = .returned (.bool true) ∧ Below w.heap.size w w' := by
  by_cases h1 : n < 1
  · have d1 : decide (n < 1) = true := decide_eq_true h1
    clear h
    go_enter Try.func4, Try.ntmps4
    go_wp2_with fail
    go_ret
    exact ⟨rfl, Below.refl _ _⟩
  have d1 : decide (n < 1) = false := decide_eq_false h1
  by_cases h2 : 40 < n
  · have d2 : decide (40 < n) = true := decide_eq_true h2
    clear h
    go_enter Try.func4, Try.ntmps4
    go_wp2_with fail
    go_ret
    exact ⟨rfl, Below.refl _ _⟩
  have d2 : decide (40 < n) = false := decide_eq_false h2
  have d3 : decide ((60 : Int) < (m : Int)) = true := decide_eq_true (by omega)
  clear h
  go_enter Try.func4, Try.ntmps4
  go_wp2_with fail
  go_ret
  exact ⟨rfl, Below.refl _ _⟩

set_option maxRecDepth 100000 in
set_option maxHeartbeats 4000000 in
theorem keeps_yes (w : World) (n : Nat) (A : Option Addr) (c m : Nat) (keep : List Bool) (hm : keep.length = m) (ht : Truths w A c keep) (h1 : 1 ≤ n) (h2 : n ≤ 40) (h3 : m ≤ 60) :
    Calls Try.prog 4 #[.int .i64 n, .slice A m c] w fun e w' => e = .returned (.bool true) ∧ Below w.heap.size w w' := by
  have d1 : decide ((n : Int) < 1) = false := decide_eq_false (by omega)
  have d2 : decide (40 < (n : Int)) = false := decide_eq_false (by omega)
  have d3 : decide ((60 : Int) < (m : Int)) = false := decide_eq_false (by omega)
  have hmc : m ≤ c := by have := ht.1; omega
  have HM := Lib.hid hm
  have HT := Lib.hid ht
  have HNEW := Lib.hid (diskB_new w n h1 (by omega))
  clear hm ht
  go_enter Try.func4, Try.ntmps4
  go_wp2_with fail
  refine HNEW.out.mono ?_
  rintro e w1 ⟨gd, rfl, hd1, hb1⟩
  have HD1 := Lib.hid hd1
  have HQ1 := Lib.hid hb1
  clear hd1 hb1 HNEW d1 d2 d3
  go_wp2_with fail
  go_loopw [6] (fun i wr => RelK1 w gd n i wr) (fun i _ => n - (intOf i).toNat)
  case atStart => exact ⟨0, fresh n, Nat.zero_le _, rfl, HD1.out, ⟨by simp [fresh], rfl, rfl, rfl, rfl, rfl⟩, HQ1.out⟩
  case round =>
    obtain ⟨k, s, hk, rfl, hd, hu, hq⟩ := hrel
    obtain ⟨V, hV⟩ : ∃ V, V = wr := ⟨_, rfl⟩
    subst hV
    have HD := Lib.hid hd
    have HQ := Lib.hid hq
    have HU := Lib.hid hu
    clear hd hq hu HD1 HQ1
    by_cases hkn : k < n
    case pos =>
      have hkI : (k : Int) < (n : Int) := by omega
      have hk0 : (0 : Int) ≤ (k : Int) := by omega
      have hk40 : (k : Int) ≤ 39 := by omega
      go_wp2_with fail
      refine (sector_one' V (k + 1) (by push_cast; rfl)).mono ?_
      rintro e w2 ⟨rfl, hr2, hb2⟩
      have HD2 := Lib.hid (HD.out.under hb2)
      have HQ2 := Lib.hid (HQ.out.trans (hb2.mono HQ.out.size))
      have HR2 := Lib.hid hr2
      clear hr2 hb2
      go_wp2_with fail
      obtain ⟨hw, hu⟩ := HU.out.next hkn
      have HW := Lib.hid hw
      have HU2 := Lib.hid hu
      clear hw hu
      refine (diskB_write HD2.out (k : Int) _ 64 64 (secOf [k + 1]) (secOf_length _) HR2.out (by rw [HU.out.waits, kpW_length]; omega) (by rw [HU.out.ops]; omega)).mono ?_
      rintro e w3 ⟨rfl, hd3, hb3⟩
      rw [HW.out] at hd3 ⊢
      have HD3 := Lib.hid hd3
      have HQ3 := Lib.hid (HQ2.out.trans hb3)
      clear hd3 hb3
      go_wp2_with fail
      go_roundw
      case rel => exact ⟨k + 1, _, by omega, by go_num, HD3.out, HU2.out, HQ3.out⟩
      case measure => simp [intOf]; omega
    case neg =>
      obtain rfl : k = n := by omega
      have hkI : ¬ ((k : Int) < (k : Int)) := by omega
      obtain ⟨hc1, hc2, hc3, hc4⟩ := HU.out.crash keep
      have HC1 := Lib.hid hc1
      have HC2 := Lib.hid hc2
      have HC3 := Lib.hid hc3
      have HC4 := Lib.hid hc4
      clear hc1 hc2 hc3 hc4
      go_wp2_with fail
      refine (diskB_arm HD.out 0 A c m keep HM.out (HT.out.under HQ.out) (by omega) (fun hne g hg => by have := HT.out.lt hne g hg; have := HD.out.pos.1; omega)).mono ?_
      rintro e w2 ⟨rfl, hd2, hb2⟩
      have HD2 := Lib.hid hd2
      have HQ2 := Lib.hid (HQ.out.trans hb2)
      clear hd2 hb2
      go_wp2_with fail
      refine (diskB_flush HD2.out (by show s.waits.length ≤ _; rw [HU.out.waits, kpW_length]; omega) (by show s.ops ≤ _; rw [HU.out.ops]; omega)).mono ?_
      rintro e w3 ⟨rfl, hd3, hb3⟩
      rw [HC1.out] at hd3 ⊢
      have HD3 := Lib.hid hd3
      have HQ3 := Lib.hid (HQ2.out.trans hb3)
      clear hd3 hb3
      have hdn := disk_down HD3.out.2
      rw [HC2.out] at hdn
      have HDN := Lib.hid hdn
      clear hdn
      go_wp2_with (refine HDN.out.mono ?_; rintro e w6 ⟨rfl, rfl⟩)
      refine (sector_nil w3).mono ?_
      rintro e w4 ⟨rfl, hr4, hb4⟩
      have HD4 := Lib.hid (HD3.out.under hb4)
      have HQ4 := Lib.hid (HQ3.out.trans (hb4.mono HQ3.out.size))
      have HR4 := Lib.hid hr4
      clear hr4 hb4
      go_wp2_with fail
      refine (diskB_write HD4.out 0 _ 64 64 zsec rfl HR4.out (by show ([] : List (Nat × List Nat)).length ≤ _; simp) (by show s.ops ≤ _; rw [HU.out.ops]; omega)).mono ?_
      rintro e w5 ⟨rfl, hd5, hb5⟩
      rw [HC3.out] at hd5 ⊢
      have HD5 := Lib.hid hd5
      have HQ5 := Lib.hid (HQ4.out.trans hb5)
      clear hd5 hb5
      go_wp2_with fail
      refine (diskB_restart HD5.out (by show ([] : List (Nat × List Nat)).length ≤ _; simp)).mono ?_
      rintro e w7 ⟨rfl, hd7, hb7⟩
      have HD7 := Lib.hid hd7
      have HQ7 := Lib.hid (HQ5.out.trans hb7)
      clear hd7 hb7 HD HQ HU HD2 HQ2 HD3 HQ3 HDN HR4 HD4 HQ4 HD5 HQ5 HC1 HC2 HC3
      generalize (s.arm 0 keep).fall.restart = s2 at *
      go_wp2_with fail
      go_loopw [7] (fun i wr => RelK2 w gd k keep s2 i wr) (fun i _ => k - (intOf i).toNat)
      case atStart => exact ⟨0, Nat.zero_le _, rfl, HD7.out, HQ7.out⟩
      case round =>
        obtain ⟨j, hj, rfl, hd, hq⟩ := hrel
        obtain ⟨V2, hV⟩ : ∃ V, V = wr := ⟨_, rfl⟩
        subst hV
        have HD := Lib.hid hd
        have HQ := Lib.hid hq
        clear hd hq HD7 HQ7
        by_cases hjn : j < k
        case pos =>
          have hjI : (j : Int) < (k : Int) := by omega
          have hj0 : (0 : Int) ≤ (j : Int) := by omega
          have hj40 : (j : Int) ≤ 39 := by omega
          have HRE0 : Hid (s2.read (j : Int) = want keep j) := Lib.hid (HC4.out.read j hjn)
          obtain ⟨z, hz⟩ : ∃ z, z = str (want keep j) := ⟨_, rfl⟩
          have HZ := Lib.hid hz
          have HWL := Lib.hid (want_length keep j)
          have HWO := Lib.hid (want_oct keep j (by omega))
          have main : ∀ (w5 : World) (Aw : Option Addr) (cw : Nat), Hid (DiskB w5 w.heap.size gd s2) → Hid (Below w.heap.size w w5) → Hid (Rd .u8 w5 w5.heap.size Aw cw (want keep j)) → True := fun _ _ _ _ _ _ => trivial
          clear hz main
          go_wp2_with fail
          refine (sector_nil V2).mono ?_
          rintro e w4 ⟨rfl, hr4, hb4⟩
          have HD4 := Lib.hid (HD.out.under hb4)
          have HQ4 := Lib.hid (HQ.out.trans (hb4.mono HQ.out.size))
          have HR4 := Lib.hid hr4
          clear hr4 hb4
          have hjm0 : Hid (∀ b : Bool, keep.getD j false = b → want keep j = if b = true then secOf [j + 1] else zsec) := Lib.hid fun b hb => by unfold want; rw [hb]
          by_cases hjk : j < m
          case pos =>
            obtain ⟨b, off, rfl, hb, hbc⟩ := (HT.out.under HQ4.out).2.2 (by rw [HM.out]; omega)
            have hcell := hbc j (by rw [HM.out]; exact hjk)
            have hjmI : (j : Int) < (m : Int) := by omega
            have hkv := hjm0.out (keep.getD j false) rfl
            generalize keep.getD j false = bk at *
            clear hbc
            cases bk
            case true =>
              have HKV := Lib.hid hkv
              clear hkv
              go_wp2_with fail
              refine (sector_one' w4 (j + 1) (by push_cast; rfl)).mono ?_
              rintro e w5 ⟨rfl, hr5, hb5⟩
              have HD5 := Lib.hid (HD4.out.under hb5)
              have HQ5 := Lib.hid (HQ4.out.trans (hb5.mono HQ4.out.size))
              have HR5 : Hid (Rd .u8 w5 w5.heap.size (some ⟨w4.heap.size + 1, 0, none⟩) 64 (want keep j)) := Lib.hid (by rw [HKV.out]; exact hr5)
              clear hr5 hb5 hcell
              go_wp2_with fail
              refine wp_region_noPanic ?_
              refine wp_region_held_drew (S := fun W => Below w5.heap.size w5 W) (by kernel_rfl) (Below.refl _ w5).drew (fun hHeld => ?_)
              refine wpAnyH_take (i := 0) (oi := { dst := some 77, op := Op.move (Operand.tmp 5), type := 23, pos := _, after := _, guard := none }) (v := ?_) rfl (by kernel_rfl) (by kernel_rfl) (by kernel_rfl) (fun _ _ _ h => h) (Or.inl ⟨by rfl, ?_⟩) hHeld ?_
              rotate_left 1
              · (intro W hW; (try dsimp only at hW); go_simp; try with_reducible rfl)
              try simp only [Act.put, List.setIfInBounds_toArray, List.set_cons_zero, List.set_cons_succ]
              refine wpAnyH_take (i := 1) (oi := { dst := some 78, op := Op.move (Operand.tmp 7), type := 3, pos := _, after := _, guard := none }) (v := ?_) rfl (by kernel_rfl) (by kernel_rfl) (by kernel_rfl) (fun _ _ _ h => h) (Or.inl ⟨by rfl, ?_⟩) hHeld ?_
              rotate_left 1
              · (intro W hW; (try dsimp only at hW); go_simp; try with_reducible rfl)
              try simp only [Act.put, List.setIfInBounds_toArray, List.set_cons_zero, List.set_cons_succ]
              refine wpAnyH_take (i := 4) (oi := { dst := some 81, op := Op.move (Operand.tmp 8), type := 28, pos := _, after := _, guard := none }) (v := ?_) rfl (by kernel_rfl) (by kernel_rfl) (by kernel_rfl) (fun _ _ _ h => h) (Or.inl ⟨by rfl, ?_⟩) hHeld ?_
              rotate_left 1
              · (intro W hW; (try dsimp only at hW); go_simp; try with_reducible rfl)
              try simp only [Act.put, List.setIfInBounds_toArray, List.set_cons_zero, List.set_cons_succ]
              refine wpAnyH_take (i := 5) (oi := { dst := some 82, op := Op.convert 28 9 (Operand.tmp 81), type := 9, pos := _, after := _, guard := none }) (v := ?_) rfl (by kernel_rfl) (by kernel_rfl) (by kernel_rfl) (fun _ _ _ h => h) (Or.inl ⟨by rfl, ?_⟩) hHeld ?_
              rotate_left 1
              · (intro W hW; have hcv := conv_str (Rd.under HR5.out hW) HWL.out HWO.out; rw [← HZ.out] at hcv; (try dsimp only at hW); go_simp; try with_reducible rfl)
              try simp only [Act.put, List.setIfInBounds_toArray, List.set_cons_zero, List.set_cons_succ]
              refine wpAnyH_ready (rs := [2]) (by kernel_rfl) (by simp) ?_
              refine AllReadyH.cons (o := { dst := some 79, op := Op.call { callee := Callee.value (Operand.func 23), args := #[Operand.tmp 77, Operand.tmp 78], argTypes := #[23, 3] }, type := 28, pos := _, after := _, guard := none }) rfl (fun K hK => ?_) AllReadyH.nil
              go_simp
              refine (diskB_read (HD5.out.drew) (j : Int) (want keep j) HRE0.out).mono ?_
              rintro e w6 ⟨A6, c6, rfl, hr6, hb6⟩
              rw [HWL.out]
              have HR6 := Lib.hid hr6
              have HB6 : Hid (Below w5.heap.size w5 w6) := Lib.hid ⟨hb6.os, hb6.tape, hb6.output, hb6.size, hb6.block⟩
              clear hr6 hb6
              go_simp
              refine hK.out _ _ (HB6.out) (fun _ => ?_)
              clear hK K hHeld
              try simp only [Act.put, List.setIfInBounds_toArray, List.set_cons_zero, List.set_cons_succ]
              refine wpAnyH_strong (S' := fun W => Below w6.heap.size w6 W) (fun W hW => HB6.out.trans (hW.mono HB6.out.size)) _ _ _ _ ?_
              have hHeld : (fun W => Below w6.heap.size w6 W) w6 := Below.refl _ _
              refine wpAnyH_take (i := 3) (oi := { dst := some 80, op := Op.convert 28 9 (Operand.tmp 79), type := 9, pos := _, after := _, guard := none }) (v := ?_) rfl (by kernel_rfl) (by kernel_rfl) (by kernel_rfl) (fun _ _ _ h => h) (Or.inl ⟨by rfl, ?_⟩) hHeld ?_
              rotate_left 1
              · (intro W hW; have hcv := conv_str (Rd.under HR6.out hW) HWL.out HWO.out; rw [← HZ.out] at hcv; (try dsimp only at hW); go_simp; try with_reducible rfl)
              try simp only [Act.put, List.setIfInBounds_toArray, List.set_cons_zero, List.set_cons_succ]
              refine wpAnyH_take (i := 6) (oi := { dst := some 83, op := Op.binOp BinOp.neq 9 (Operand.tmp 80) (Operand.tmp 82) 9, type := 4, pos := _, after := _, guard := none }) (v := ?_) rfl (by kernel_rfl) (by kernel_rfl) (by kernel_rfl) (fun _ _ _ h => h) (Or.inl ⟨by rfl, ?_⟩) hHeld ?_
              rotate_left 1
              · (intro W hW; (try dsimp only at hW); go_simp; try with_reducible rfl)
              try simp only [Act.put, List.setIfInBounds_toArray, List.set_cons_zero, List.set_cons_succ]
              refine wpAnyH_done (by kernel_rfl) ?_ _
              refine NoPanic.normal ?_
              have HD6 := Lib.hid (HD5.out.under HB6.out)
              have HQ6 := Lib.hid (HQ5.out.trans (HB6.out.mono HQ5.out.size))
              go_wp2_with fail
              go_roundw
              case rel => exact ⟨j + 1, by omega, by go_num, HD6.out, HQ6.out⟩
              case measure => simp [intOf]; omega
            case false =>
              have HKV := Lib.hid hkv
              clear hkv
              obtain ⟨w5, hw5⟩ : ∃ w5, w5 = w4 := ⟨_, rfl⟩
              subst hw5
              have HD5 := HD4
              have HQ5 := HQ4
              have HR5 : Hid (Rd .u8 w5 w5.heap.size (some ⟨V2.heap.size, 0, none⟩) 64 (want keep j)) := Lib.hid (by rw [HKV.out]; exact HR4.out)
              go_wp2_with fail
              clear hcell
              refine wp_region_noPanic ?_
              refine wp_region_held_drew (S := fun W => Below w5.heap.size w5 W) (by kernel_rfl) (Below.refl _ w5).drew (fun hHeld => ?_)
              refine wpAnyH_take (i := 0) (oi := { dst := some 77, op := Op.move (Operand.tmp 5), type := 23, pos := _, after := _, guard := none }) (v := ?_) rfl (by kernel_rfl) (by kernel_rfl) (by kernel_rfl) (fun _ _ _ h => h) (Or.inl ⟨by rfl, ?_⟩) hHeld ?_
              rotate_left 1
              · (intro W hW; (try dsimp only at hW); go_simp; try with_reducible rfl)
              try simp only [Act.put, List.setIfInBounds_toArray, List.set_cons_zero, List.set_cons_succ]
              refine wpAnyH_take (i := 1) (oi := { dst := some 78, op := Op.move (Operand.tmp 7), type := 3, pos := _, after := _, guard := none }) (v := ?_) rfl (by kernel_rfl) (by kernel_rfl) (by kernel_rfl) (fun _ _ _ h => h) (Or.inl ⟨by rfl, ?_⟩) hHeld ?_
              rotate_left 1
              · (intro W hW; (try dsimp only at hW); go_simp; try with_reducible rfl)
              try simp only [Act.put, List.setIfInBounds_toArray, List.set_cons_zero, List.set_cons_succ]
              refine wpAnyH_take (i := 4) (oi := { dst := some 81, op := Op.move (Operand.tmp 8), type := 28, pos := _, after := _, guard := none }) (v := ?_) rfl (by kernel_rfl) (by kernel_rfl) (by kernel_rfl) (fun _ _ _ h => h) (Or.inl ⟨by rfl, ?_⟩) hHeld ?_
              rotate_left 1
              · (intro W hW; (try dsimp only at hW); go_simp; try with_reducible rfl)
              try simp only [Act.put, List.setIfInBounds_toArray, List.set_cons_zero, List.set_cons_succ]
              refine wpAnyH_take (i := 5) (oi := { dst := some 82, op := Op.convert 28 9 (Operand.tmp 81), type := 9, pos := _, after := _, guard := none }) (v := ?_) rfl (by kernel_rfl) (by kernel_rfl) (by kernel_rfl) (fun _ _ _ h => h) (Or.inl ⟨by rfl, ?_⟩) hHeld ?_
              rotate_left 1
              · (intro W hW; have hcv := conv_str (Rd.under HR5.out hW) HWL.out HWO.out; rw [← HZ.out] at hcv; (try dsimp only at hW); go_simp; try with_reducible rfl)
              try simp only [Act.put, List.setIfInBounds_toArray, List.set_cons_zero, List.set_cons_succ]
              refine wpAnyH_ready (rs := [2]) (by kernel_rfl) (by simp) ?_
              refine AllReadyH.cons (o := { dst := some 79, op := Op.call { callee := Callee.value (Operand.func 23), args := #[Operand.tmp 77, Operand.tmp 78], argTypes := #[23, 3] }, type := 28, pos := _, after := _, guard := none }) rfl (fun K hK => ?_) AllReadyH.nil
              go_simp
              refine (diskB_read (HD5.out.drew) (j : Int) (want keep j) HRE0.out).mono ?_
              rintro e w6 ⟨A6, c6, rfl, hr6, hb6⟩
              rw [HWL.out]
              have HR6 := Lib.hid hr6
              have HB6 : Hid (Below w5.heap.size w5 w6) := Lib.hid ⟨hb6.os, hb6.tape, hb6.output, hb6.size, hb6.block⟩
              clear hr6 hb6
              go_simp
              refine hK.out _ _ (HB6.out) (fun _ => ?_)
              clear hK K hHeld
              try simp only [Act.put, List.setIfInBounds_toArray, List.set_cons_zero, List.set_cons_succ]
              refine wpAnyH_strong (S' := fun W => Below w6.heap.size w6 W) (fun W hW => HB6.out.trans (hW.mono HB6.out.size)) _ _ _ _ ?_
              have hHeld : (fun W => Below w6.heap.size w6 W) w6 := Below.refl _ _
              refine wpAnyH_take (i := 3) (oi := { dst := some 80, op := Op.convert 28 9 (Operand.tmp 79), type := 9, pos := _, after := _, guard := none }) (v := ?_) rfl (by kernel_rfl) (by kernel_rfl) (by kernel_rfl) (fun _ _ _ h => h) (Or.inl ⟨by rfl, ?_⟩) hHeld ?_
              rotate_left 1
              · (intro W hW; have hcv := conv_str (Rd.under HR6.out hW) HWL.out HWO.out; rw [← HZ.out] at hcv; (try dsimp only at hW); go_simp; try with_reducible rfl)
              try simp only [Act.put, List.setIfInBounds_toArray, List.set_cons_zero, List.set_cons_succ]
              refine wpAnyH_take (i := 6) (oi := { dst := some 83, op := Op.binOp BinOp.neq 9 (Operand.tmp 80) (Operand.tmp 82) 9, type := 4, pos := _, after := _, guard := none }) (v := ?_) rfl (by kernel_rfl) (by kernel_rfl) (by kernel_rfl) (fun _ _ _ h => h) (Or.inl ⟨by rfl, ?_⟩) hHeld ?_
              rotate_left 1
              · (intro W hW; (try dsimp only at hW); go_simp; try with_reducible rfl)
              try simp only [Act.put, List.setIfInBounds_toArray, List.set_cons_zero, List.set_cons_succ]
              refine wpAnyH_done (by kernel_rfl) ?_ _
              refine NoPanic.normal ?_
              have HD6 := Lib.hid (HD5.out.under HB6.out)
              have HQ6 := Lib.hid (HQ5.out.trans (HB6.out.mono HQ5.out.size))
              go_wp2_with fail
              go_roundw
              case rel => exact ⟨j + 1, by omega, by go_num, HD6.out, HQ6.out⟩
              case measure => simp [intOf]; omega
          case neg =>
            have hkv : want keep j = zsec := by unfold want; rw [show keep.getD j false = false by rw [List.getD, List.getElem?_eq_none (by rw [HM.out]; omega)]; rfl]; rfl
            have HKV := Lib.hid hkv
            have hjmB : decide ((j : Int) < (m : Int)) = false := decide_eq_false (by omega)
            obtain ⟨w5, hw5⟩ : ∃ w5, w5 = w4 := ⟨_, rfl⟩
            subst hw5
            have HD5 := HD4
            have HQ5 := HQ4
            have HR5 : Hid (Rd .u8 w5 w5.heap.size (some ⟨V2.heap.size, 0, none⟩) 64 (want keep j)) := Lib.hid (by rw [HKV.out]; exact HR4.out)
            clear hkv
            go_wp2_with fail
            refine wp_region_noPanic ?_
            refine wp_region_held_drew (S := fun W => Below w5.heap.size w5 W) (by kernel_rfl) (Below.refl _ w5).drew (fun hHeld => ?_)
            refine wpAnyH_take (i := 0) (oi := { dst := some 77, op := Op.move (Operand.tmp 5), type := 23, pos := _, after := _, guard := none }) (v := ?_) rfl (by kernel_rfl) (by kernel_rfl) (by kernel_rfl) (fun _ _ _ h => h) (Or.inl ⟨by rfl, ?_⟩) hHeld ?_
            rotate_left 1
            · (intro W hW; (try dsimp only at hW); go_simp; try with_reducible rfl)
            try simp only [Act.put, List.setIfInBounds_toArray, List.set_cons_zero, List.set_cons_succ]
            refine wpAnyH_take (i := 1) (oi := { dst := some 78, op := Op.move (Operand.tmp 7), type := 3, pos := _, after := _, guard := none }) (v := ?_) rfl (by kernel_rfl) (by kernel_rfl) (by kernel_rfl) (fun _ _ _ h => h) (Or.inl ⟨by rfl, ?_⟩) hHeld ?_
            rotate_left 1
            · (intro W hW; (try dsimp only at hW); go_simp; try with_reducible rfl)
            try simp only [Act.put, List.setIfInBounds_toArray, List.set_cons_zero, List.set_cons_succ]
            refine wpAnyH_take (i := 4) (oi := { dst := some 81, op := Op.move (Operand.tmp 8), type := 28, pos := _, after := _, guard := none }) (v := ?_) rfl (by kernel_rfl) (by kernel_rfl) (by kernel_rfl) (fun _ _ _ h => h) (Or.inl ⟨by rfl, ?_⟩) hHeld ?_
            rotate_left 1
            · (intro W hW; (try dsimp only at hW); go_simp; try with_reducible rfl)
            try simp only [Act.put, List.setIfInBounds_toArray, List.set_cons_zero, List.set_cons_succ]
            refine wpAnyH_take (i := 5) (oi := { dst := some 82, op := Op.convert 28 9 (Operand.tmp 81), type := 9, pos := _, after := _, guard := none }) (v := ?_) rfl (by kernel_rfl) (by kernel_rfl) (by kernel_rfl) (fun _ _ _ h => h) (Or.inl ⟨by rfl, ?_⟩) hHeld ?_
            rotate_left 1
            · (intro W hW; have hcv := conv_str (Rd.under HR5.out hW) HWL.out HWO.out; rw [← HZ.out] at hcv; (try dsimp only at hW); go_simp; try with_reducible rfl)
            try simp only [Act.put, List.setIfInBounds_toArray, List.set_cons_zero, List.set_cons_succ]
            refine wpAnyH_ready (rs := [2]) (by kernel_rfl) (by simp) ?_
            refine AllReadyH.cons (o := { dst := some 79, op := Op.call { callee := Callee.value (Operand.func 23), args := #[Operand.tmp 77, Operand.tmp 78], argTypes := #[23, 3] }, type := 28, pos := _, after := _, guard := none }) rfl (fun K hK => ?_) AllReadyH.nil
            go_simp
            refine (diskB_read (HD5.out.drew) (j : Int) (want keep j) HRE0.out).mono ?_
            rintro e w6 ⟨A6, c6, rfl, hr6, hb6⟩
            rw [HWL.out]
            have HR6 := Lib.hid hr6
            have HB6 : Hid (Below w5.heap.size w5 w6) := Lib.hid ⟨hb6.os, hb6.tape, hb6.output, hb6.size, hb6.block⟩
            clear hr6 hb6
            go_simp
            refine hK.out _ _ (HB6.out) (fun _ => ?_)
            clear hK K hHeld
            try simp only [Act.put, List.setIfInBounds_toArray, List.set_cons_zero, List.set_cons_succ]
            refine wpAnyH_strong (S' := fun W => Below w6.heap.size w6 W) (fun W hW => HB6.out.trans (hW.mono HB6.out.size)) _ _ _ _ ?_
            have hHeld : (fun W => Below w6.heap.size w6 W) w6 := Below.refl _ _
            refine wpAnyH_take (i := 3) (oi := { dst := some 80, op := Op.convert 28 9 (Operand.tmp 79), type := 9, pos := _, after := _, guard := none }) (v := ?_) rfl (by kernel_rfl) (by kernel_rfl) (by kernel_rfl) (fun _ _ _ h => h) (Or.inl ⟨by rfl, ?_⟩) hHeld ?_
            rotate_left 1
            · (intro W hW; have hcv := conv_str (Rd.under HR6.out hW) HWL.out HWO.out; rw [← HZ.out] at hcv; (try dsimp only at hW); go_simp; try with_reducible rfl)
            try simp only [Act.put, List.setIfInBounds_toArray, List.set_cons_zero, List.set_cons_succ]
            refine wpAnyH_take (i := 6) (oi := { dst := some 83, op := Op.binOp BinOp.neq 9 (Operand.tmp 80) (Operand.tmp 82) 9, type := 4, pos := _, after := _, guard := none }) (v := ?_) rfl (by kernel_rfl) (by kernel_rfl) (by kernel_rfl) (fun _ _ _ h => h) (Or.inl ⟨by rfl, ?_⟩) hHeld ?_
            rotate_left 1
            · (intro W hW; (try dsimp only at hW); go_simp; try with_reducible rfl)
            try simp only [Act.put, List.setIfInBounds_toArray, List.set_cons_zero, List.set_cons_succ]
            refine wpAnyH_done (by kernel_rfl) ?_ _
            refine NoPanic.normal ?_
            have HD6 := Lib.hid (HD5.out.under HB6.out)
            have HQ6 := Lib.hid (HQ5.out.trans (HB6.out.mono HQ5.out.size))
            go_wp2_with fail
            go_roundw
            case rel => exact ⟨j + 1, by omega, by go_num, HD6.out, HQ6.out⟩
            case measure => simp [intOf]; omega
        case neg =>
          obtain rfl : j = k := by omega
          have hjI : ¬ ((j : Int) < (j : Int)) := by omega
          have hdn := disk_down HD.out.2
          rw [HC4.out.down] at hdn
          have HDN := Lib.hid hdn
          have hop := disk_ops HD.out.2
          rw [HC4.out.ops] at hop
          have HOP := Lib.hid hop
          have hfl := Dk.flush_good HC4.out.down (due_unarmed HC4.out.armed)
          have HFL := Lib.hid hfl
          clear hdn hop hfl
          go_wp2_with (first | (refine HDN.out.mono ?_; rintro e w6 ⟨rfl, rfl⟩) | (refine HOP.out.mono ?_; rintro e w6 ⟨rfl, rfl⟩) | fail)
          refine (diskB_flush HD.out (by rw [HC4.out.waits]; simp) (by rw [HC4.out.ops]; omega)).mono ?_
          rintro e w8 ⟨rfl, hd8, hb8⟩
          rw [HFL.out]
          have HQ8 := Lib.hid (HQ.out.trans hb8)
          clear hd8 hb8
          go_wp2_with fail
          refine (known_any w8).mono ?_
          rintro e w9 ⟨rfl, hb9⟩
          have HQ9 := Lib.hid (HQ8.out.trans (hb9.mono HQ8.out.size))
          clear hb9
          go_wp2_with fail
          go_ret
          exact ⟨rfl, HQ9.out⟩
theorem law_keeps (w : World) (n : Int) (A : Option Addr) (c m : Nat) (keep : List Bool) (hm : keep.length = m) (ht : Truths w A c keep) :
    Calls Try.prog 4 #[.int .i64 n, .slice A m c] w fun e w' => e = .returned (.bool true) ∧ Below w.heap.size w w' := by
  by_cases h : n < 1 ∨ 40 < n ∨ 60 < m
  · exact keeps_no w n A c m h
  · obtain ⟨k, rfl⟩ : ∃ k : Nat, n = (k : Int) := ⟨n.toNat, by omega⟩
    exact keeps_yes w k A c m keep hm ht (by omega) (by omega) (by omega)
end Go.Proofs.Ytbenkffjfjddgaa
