/-
  Products: by nat, and by the document's own reckoning.
-/
import Derived.Test.YtphfgchfphdcaaaNat11
namespace Go.Proofs.Ytphfgchfphdcaaa
open Go.RowKit
set_option linter.unusedVariables false

set_option maxRecDepth 100000 in
set_option maxHeartbeats 400000 in
theorem mul_any (w : World) (B B' : Nat) (A A' : Option Addr) (c c' : Nat) (l l' : List Nat) (hr : Rd .u32 w B A c l) (hr' : Rd .u32 w B' A' c' l') (hB : B ≤ w.heap.size) (hB' : B' ≤ w.heap.size) (hd : Dg l) (hd' : Dg l') (hs : l.length ≤ 5000) (hs' : l'.length ≤ 5000) :
    Calls Try.prog 28 #[.slice A l.length c, .slice A' l'.length c'] w fun e w' => ∃ A2 c2 r, e = .returned (.slice A2 r.length c2) ∧ NumIs r (val l * val l') ∧ Fresh .u32 31 w' w.heap.size A2 c2 r ∧ Below w.heap.size w w' := by
  have hlc : l.length ≤ c := hr.1
  have hc63 : c ≤ 9223372036854775807 := hr.2.1
  have hlc' : l'.length ≤ c' := hr'.1
  have hc63' : c' ≤ 9223372036854775807 := hr'.2.1
  have hmk := make_nat ((l.length : Int) + (l'.length : Int)) (l.length + l'.length) (by omega) (by omega)
  go_enter Try.func28, Try.ntmps28
  go_wp2_with fail
  have hR0 : Row .u32 31 (w.alloc (.cells (nums .u32 (List.replicate (l.length + l'.length) 0)) 31)) w.heap.size (List.replicate (l.length + l'.length) 0) := Holds.fresh _ _ _
  clear hmk
  go_loopw [19] (fun si wr => ∃ (i : Nat) (L : List Nat), i ≤ l.length ∧ si = .int .i64 i ∧ Row .u32 31 wr w.heap.size L ∧ L.length = l.length + l'.length ∧ Dg L ∧ Hid (val L = val (l.take i) * val l') ∧ Hid (∀ k, i + l'.length ≤ k → L.getD k 0 = 0) ∧ Below w.heap.size w wr)
    (fun si _ => l.length - (intOf si).toNat)
  case atStart => exact ⟨0, _, by omega, rfl, hR0, by simp, Dg.noughts _, by show _ = _; rw [val_noughts]; simp [val], fun k _ => getD_noughts _ k, (Below.refl _ _).alloc (Nat.le_refl _) _⟩
  case round =>
    obtain ⟨i, L, hi, rfl, hR, hL, hdL, Hval, Hfar, hbel⟩ := hrel
    obtain ⟨wo, rfl⟩ : ∃ wo : World, wo = wr := ⟨_, rfl⟩
    have hz := Holds.lt hR
    have HL := Lib.hid hL
    clear hL
    by_cases h : i < l.length
    · obtain ⟨b, off, x, rfl, hb, hx, Hx⟩ := (hr.under (hbel.mono hB)).at_ h
      have hxl : x < 4294967296 := by rw [Hx.out]; exact hd.at_ i
      go_wp2_with fail
      go_loopw [8, 26] (fun ov sj wr => ∃ (j o : Nat) (L2 : List Nat), j ≤ l'.length ∧ sj = .int .i64 j ∧ ov = .int .u64 o ∧ o < 4294967296 ∧ Row .u32 31 wr w.heap.size L2 ∧ L2.length = l.length + l'.length ∧ Dg L2 ∧ Hid (val L2 + pw (i + j) * o = val L + pw i * x * val (l'.take j)) ∧ Hid (∀ k, i + j ≤ k → L2.getD k 0 = L.getD k 0) ∧ Below w.heap.size w wr)
        (fun _ sj _ => l'.length - (intOf sj).toNat)
      case atStart => exact ⟨0, 0, L, by omega, rfl, rfl, by omega, hR, HL.out, hdL, by show _ = _; simp [val], fun _ _ => rfl, hbel⟩
      case round =>
        obtain ⟨j, o, L2, hj, rfl, rfl, ho, hR2, hL2, hdL2, Hval2, Hfar2, hbel2⟩ := hrel
        have hz2 := Holds.lt hR2
        have HL2 := Lib.hid hL2
        clear hL2
        have hfr := hR2.open_
        by_cases h' : j < l'.length
        · obtain ⟨b', off', y, rfl, hb', hy, Hy⟩ := (hr'.under (hbel2.mono hB')).at_ h'
          have hyl : y < 4294967296 := by rw [Hy.out]; exact hd'.at_ j
          have hcell := hR2.cell (i := i + j) (by rw [HL2.out]; omega)
          obtain ⟨z, Hz⟩ : ∃ z, Hid (z = L2.getD (i + j) 0) := ⟨_, rfl⟩
          rw [← Hz.out] at hcell
          have hzl : z < 4294967296 := by rw [Hz.out]; exact hdL2.at_ _
          obtain ⟨t, Ht⟩ : ∃ t, Hid (t = o + (x * y + z)) := ⟨_, rfl⟩
          obtain ⟨htl, hpl⟩ := mul_bound ho hxl hyl hzl Ht.out
          obtain ⟨p, Hp⟩ : ∃ p, Hid (p = x * y) := ⟨_, rfl⟩
          have hmul : (x : Int) * (y : Int) = (p : Int) := by rw [Hp.out]; push_cast; rfl
          rw [← Hp.out] at hpl
          have hij : (i : Int) + (j : Int) < (l.length : Int) + (l'.length : Int) := by omega
          have hsum1 : (o : Int) + ((p : Int) + (z : Int)) = (t : Int) := by rw [Ht.out, Hp.out]; push_cast; rfl
          go_wp2_with fail
          have hst := hR2.set (i + j) (t % 4294967296)
          have hv := mul_step (by rw [HL2.out]; omega) Hval2.out Hy.out Hz.out Ht.out
          exact ⟨⟨j + 1, t / 4294967296, _, by omega, by go_num, by go_num, by omega, hst, by rw [List.length_set]; exact HL2.out, hdL2.set _ _ (by omega), hv, fun k hk => by rw [getD_set, if_neg (by omega)]; exact Hfar2.out k (by omega), hbel2.setCell (Nat.le_refl _) _⟩, by simp [intOf]; omega⟩
        · have hjl : j = l'.length := by omega
          have Hj := Lib.hid hjl
          clear hjl
          have hcell := hR2.cell (i := i + l'.length) (by rw [HL2.out]; omega)
          have hv := mul_row (o := o) (l := l) (by rw [HL2.out]; omega) (by have := Hval2.out; rwa [Hj.out, val_take_all l' _ (Nat.le_refl _)] at this) (by rw [Hfar2.out _ (by omega)]; exact Hfar.out _ (Nat.le_refl _)) Hval.out Hx.out
          have Hv := Lib.hid hv
          clear hv
          go_wp2_with fail
          have hst := hR2.set (i + l'.length) o
          exact ⟨⟨i + 1, _, by omega, by go_num, hst, by rw [List.length_set]; exact HL2.out, hdL2.set _ _ ho, Hv.out, fun k hk => by rw [getD_set, if_neg (by omega), Hfar2.out k (by omega)]; exact Hfar.out k (by omega), hbel2.setCell (Nat.le_refl _) _⟩, by simp [intOf]; omega⟩
    · have hv : val L = val l * val l' := by rw [Hval.out, val_take_all l i (by omega)]
      have Hv := Lib.hid hv
      clear hv
      go_wp2_with fail
      refine (trim_at wo _ _ _ _ L (rd_whole hR (Nat.le_of_eq HL.out) (by omega)) HL.out).mono ?_
      rintro e w1 ⟨rfl, rfl⟩
      go_wp2_with fail
      go_ret
      exact ⟨_, _, trl L, rfl, num_trl hdL Hv.out, fresh_trl hR (Nat.le_refl _) (Nat.le_of_eq HL.out) (by omega), hbel⟩
set_option maxRecDepth 100000 in
set_option maxHeartbeats 400000 in
theorem mul'_any (w : World) (B B' : Nat) (A A' : Option Addr) (c c' : Nat) (l l' : List Nat) (hr : Rd .u32 w B A c l) (hr' : Rd .u32 w B' A' c' l') (hB : B ≤ w.heap.size) (hB' : B' ≤ w.heap.size) (hd : Dg l) (hd' : Dg l') (hs : l.length ≤ 5000) (hs' : l'.length ≤ 5000) :
    Calls Try.prog 30 #[.slice A l.length c, .slice A' l'.length c'] w fun e w' => ∃ A2 c2 r, e = .returned (.slice A2 r.length c2) ∧ NumIs r (val l * val l') ∧ Fresh .u32 31 w' w.heap.size A2 c2 r ∧ Below w.heap.size w w' := by
  have hlc : l.length ≤ c := hr.1
  have hc63 : c ≤ 9223372036854775807 := hr.2.1
  have hlc' : l'.length ≤ c' := hr'.1
  have hc63' : c' ≤ 9223372036854775807 := hr'.2.1
  have hmk := make_nat ((l.length : Int) + (l'.length : Int)) (l.length + l'.length) (by omega) (by omega)
  go_enter Try.func30, Try.ntmps30
  go_wp2_with fail
  have hR0 : Row .u32 31 (w.alloc (.cells (nums .u32 (List.replicate (l.length + l'.length) 0)) 31)) w.heap.size (List.replicate (l.length + l'.length) 0) := Holds.fresh _ _ _
  clear hmk
  go_loopw [6] (fun si wr => ∃ (i : Nat) (L : List Nat), i ≤ l.length ∧ si = .int .i64 i ∧ Row .u32 31 wr w.heap.size L ∧ L.length = l.length + l'.length ∧ Dg L ∧ Hid (val L = val (l.take i) * val l') ∧ Hid (∀ k, i + l'.length ≤ k → L.getD k 0 = 0) ∧ Below w.heap.size w wr)
    (fun si _ => l.length - (intOf si).toNat)
  case atStart => exact ⟨0, _, by omega, rfl, hR0, by simp, Dg.noughts _, by show _ = _; rw [val_noughts]; simp [val], fun k _ => getD_noughts _ k, (Below.refl _ _).alloc (Nat.le_refl _) _⟩
  case round =>
    obtain ⟨i, L, hi, rfl, hR, hL, hdL, Hval, Hfar, hbel⟩ := hrel
    obtain ⟨wo, rfl⟩ : ∃ wo : World, wo = wr := ⟨_, rfl⟩
    have hz := Holds.lt hR
    have HL := Lib.hid hL
    clear hL
    by_cases h : i < l.length
    · obtain ⟨x, Hx⟩ : ∃ x, Hid (x = l.getD i 0) := ⟨_, rfl⟩
      have hxl : x < 4294967296 := by rw [Hx.out]; exact hd.at_ i
      go_wp2_with fail
      go_loopw [7, 8] (fun ov sj wr => ∃ (j o : Nat) (L2 : List Nat), j ≤ l'.length ∧ sj = .int .i64 j ∧ ov = .int .u64 o ∧ o < 4294967296 ∧ Row .u32 31 wr w.heap.size L2 ∧ L2.length = l.length + l'.length ∧ Dg L2 ∧ Hid (val L2 + pw (i + j) * o = val L + pw i * x * val (l'.take j)) ∧ Hid (∀ k, i + j ≤ k → L2.getD k 0 = L.getD k 0) ∧ Below w.heap.size w wr)
        (fun _ sj _ => l'.length - (intOf sj).toNat)
      case atStart => exact ⟨0, 0, L, by omega, rfl, rfl, by omega, hR, HL.out, hdL, by show _ = _; simp [val], fun _ _ => rfl, hbel⟩
      case round =>
        obtain ⟨j, o, L2, hj, rfl, rfl, ho, hR2, hL2, hdL2, Hval2, Hfar2, hbel2⟩ := hrel
        have hz2 := Holds.lt hR2
        have HL2 := Lib.hid hL2
        clear hL2
        have hfr := hR2.open_
        by_cases h' : j < l'.length
        · obtain ⟨b', off', y, rfl, hb', hy, Hy⟩ := (hr'.under (hbel2.mono hB')).at_ h'
          obtain ⟨b, off, x', rfl, hb, hx, Hx'⟩ := (hr.under (hbel2.mono hB)).at_ h
          obtain rfl : x = x' := by rw [Hx'.out, Hx.out]
          have hin1 : (i : Int) < (l.length : Int) := by omega
          have hin2 : (j : Int) < (l'.length : Int) := by omega
          have hyl : y < 4294967296 := by rw [Hy.out]; exact hd'.at_ j
          have hcell := hR2.cell (i := i + j) (by rw [HL2.out]; omega)
          obtain ⟨z, Hz⟩ : ∃ z, Hid (z = L2.getD (i + j) 0) := ⟨_, rfl⟩
          rw [← Hz.out] at hcell
          have hzl : z < 4294967296 := by rw [Hz.out]; exact hdL2.at_ _
          obtain ⟨t, Ht⟩ : ∃ t, Hid (t = o + (x * y + z)) := ⟨_, rfl⟩
          obtain ⟨htl, hpl⟩ := mul_bound ho hxl hyl hzl Ht.out
          obtain ⟨p, Hp⟩ : ∃ p, Hid (p = x * y) := ⟨_, rfl⟩
          have hmul : (x : Int) * (y : Int) = (p : Int) := by rw [Hp.out]; push_cast; rfl
          rw [← Hp.out] at hpl
          have hij : (i : Int) + (j : Int) < (l.length : Int) + (l'.length : Int) := by omega
          have hsum1 : (z : Int) + (p : Int) + (o : Int) = (t : Int) := by rw [Ht.out, Hp.out]; push_cast; omega
          have hpz : p + z ≤ 18446744069414584320 := by omega
          go_wp2_with fail
          go_quiet (fail)
          go_wp2_with fail
          have hv := mul_step (by rw [HL2.out]; omega) Hval2.out Hy.out Hz.out Ht.out
          exact ⟨⟨j + 1, t / 4294967296, _, by omega, by go_num, by go_num, by omega, Row.set (Holds.drewN hR2 _) (i + j) (t % 4294967296), by rw [List.length_set]; exact HL2.out, hdL2.set _ _ (by omega), hv, fun k hk => by rw [getD_set, if_neg (by omega)]; exact Hfar2.out k (by omega), (below_drewN hbel2 _).setCell (Nat.le_refl _) _⟩, by simp [intOf]; omega⟩
        · have hjl : j = l'.length := by omega
          have Hj := Lib.hid hjl
          clear hjl
          have hcell := hR2.cell (i := i + l'.length) (by rw [HL2.out]; omega)
          have hv := mul_row (o := o) (l := l) (by rw [HL2.out]; omega) (by have := Hval2.out; rwa [Hj.out, val_take_all l' _ (Nat.le_refl _)] at this) (by rw [Hfar2.out _ (by omega)]; exact Hfar.out _ (Nat.le_refl _)) Hval.out Hx.out
          have Hv := Lib.hid hv
          clear hv
          go_wp2_with fail
          have hst := hR2.set (i + l'.length) o
          exact ⟨⟨i + 1, _, by omega, by go_num, hst, by rw [List.length_set]; exact HL2.out, hdL2.set _ _ ho, Hv.out, fun k hk => by rw [getD_set, if_neg (by omega), Hfar2.out k (by omega)]; exact Hfar.out k (by omega), hbel2.setCell (Nat.le_refl _) _⟩, by simp [intOf]; omega⟩
    · have hv : val L = val l * val l' := by rw [Hval.out, val_take_all l i (by omega)]
      have Hv := Lib.hid hv
      clear hv
      go_wp2_with fail
      refine (trim'_at wo _ _ _ _ L (rd_whole hR (Nat.le_of_eq HL.out) (by omega)) HL.out).mono ?_
      rintro e w1 ⟨rfl, rfl⟩
      go_wp2_with fail
      go_ret
      exact ⟨_, _, trl L, rfl, num_trl hdL Hv.out, fresh_trl hR (Nat.le_refl _) (Nat.le_of_eq HL.out) (by omega), hbel⟩
end Go.Proofs.Ytphfgchfphdcaaa
