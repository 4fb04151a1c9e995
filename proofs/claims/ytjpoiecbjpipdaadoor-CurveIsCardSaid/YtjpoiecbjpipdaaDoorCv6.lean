/-
  Numbers into the field and out of it.
-/
import Derived.Test.YtjpoiecbjpipdaaDoorCv5
import Derived.StillTailTactics
namespace Go.Proofs.YtjpoiecbjpipdaaDoor
open Go.RowKit
set_option linter.unusedVariables false
set_option linter.unusedSimpArgs false

theorem pw_even (q : Nat) : pw (2 * q) = q64 q := by
  induction q with
  | zero => rfl
  | succ q ih => rw [q64_succ, ← ih, show 2 * (q + 1) = 2 * q + 1 + 1 by omega, pw_succ, pw_succ]; omega
theorem pw_odd (q : Nat) : pw (2 * q + 1) = q64 q * 4294967296 := by rw [← pw_even, pw_succ]; omega
theorem v64_set (l : List Nat) (i x : Nat) (h : i < l.length) : v64 (l.set i (l.getD i 0 + x)) = v64 l + q64 i * x := by
  have e1 : v64 (l.set i (l.getD i 0 + x)) = v64 ((l.set i (l.getD i 0 + x)).take (i + 1)) + q64 (i + 1) * v64 (l.drop (i + 1)) := by
    have h1 := v64_append ((l.set i (l.getD i 0 + x)).take (i + 1)) ((l.set i (l.getD i 0 + x)).drop (i + 1))
    rw [List.take_append_drop, List.drop_set_of_lt (by omega), List.length_take, List.length_set, Nat.min_eq_left (by omega)] at h1
    exact h1
  have e2 : v64 l = v64 (l.take (i + 1)) + q64 (i + 1) * v64 (l.drop (i + 1)) := by
    have h1 := v64_append (l.take (i + 1)) (l.drop (i + 1))
    rw [List.take_append_drop, List.length_take, Nat.min_eq_left (by omega)] at h1
    exact h1
  rw [v64_take_set l i _ h] at e1
  rw [v64_take_succ] at e2
  rw [e1, e2, Nat.mul_add]
  omega
theorem or_even (d : Nat) (hd : d < 4294967296) : bits .or .u64 0 (d : Int) = (d : Int) := by
  have h := u64_or_nat 0 d (by omega) (by omega)
  rw [Nat.zero_or] at h
  exact h
theorem or_odd (y d : Nat) (hy : y < 4294967296) (hd : d < 4294967296) : bits .or .u64 (y : Int) ((d : Int) * 4294967296) = ((y + d * 4294967296 : Nat) : Int) := by
  have h := u64_or_nat y (d * 4294967296) (by omega) (by omega)
  rw [show (y ||| d * 4294967296) = d * 4294967296 + y from or_shift d 32 y (by omega), Nat.add_comm] at h
  rw [show ((d : Int) * 4294967296) = ((d * 4294967296 : Nat) : Int) by omega, h]
def RelE (w : World) (l : List Nat) (B c : Nat) (A : Option Addr) (i : Value) (wr : World) : Prop :=
  ∃ (k : Nat) (L : List Nat), k ≤ l.length ∧ i = .int .i64 (k : Int) ∧ Hid (Row .u64 47 wr (w.heap.size + 1) L ∧ L.length = 4 ∧ D64 L ∧ v64 L = val (l.take k) ∧ (∀ j, k ≤ 2 * j → L.getD j 0 = 0) ∧ (k % 2 = 1 → L.getD (k / 2) 0 < 4294967296) ∧
    Rd .u32 wr B A c l ∧ Holds wr w.heap.size 47 #[.int .u64 0, .int .u64 0, .int .u64 0, .int .u64 0] ∧ Below w.heap.size w wr)
set_option maxRecDepth 100000 in
set_option maxHeartbeats 4000000 in
/-- A number below P, made one of the field. -/
theorem enter_any (w : World) (hm : CMet w) (B c : Nat) (A : Option Addr) (l : List Nat) (hB : B ≤ w.heap.size) (hrd : Rd .u32 w B A c l) (hl : l.length ≤ 8) (hd : Dg l) :
    Calls Tryd.prog 28 #[.slice A l.length c] w fun e w' => e = .returned (nv (nm (mm (val l) (v64 sL)))) ∧ Below w.heap.size w w' := by
  obtain ⟨w1, hw1⟩ : ∃ W, W = ((w.alloc (.cells #[.int .u64 0, .int .u64 0, .int .u64 0, .int .u64 0] 47)).alloc (.cells #[.int .u64 0, .int .u64 0, .int .u64 0, .int .u64 0] 47)) := ⟨_, rfl⟩
  have hR : Holds w1 w.heap.size 47 #[.int .u64 0, .int .u64 0, .int .u64 0, .int .u64 0] := by
    rw [hw1]
    exact (Holds.fresh w _ _).alloc _
  have hT : Row .u64 47 w1 (w.heap.size + 1) (List.replicate 4 0) := by
    rw [hw1]
    have h := Holds.fresh (w.alloc (.cells #[.int .u64 0, .int .u64 0, .int .u64 0, .int .u64 0] 47)) 47 #[.int .u64 0, .int .u64 0, .int .u64 0, .int .u64 0]
    rw [show (w.alloc (.cells #[.int .u64 0, .int .u64 0, .int .u64 0, .int .u64 0] 47)).heap.size = w.heap.size + 1 by simp] at h
    exact h
  have hb : Below w.heap.size w w1 := by rw [hw1]; exact ((Below.refl _ _).alloc (Nat.le_refl _) _).alloc (by simp) _
  have HS : RelE w l B c A (.int .i64 0) w1 := ⟨0, _, by omega, rfl, Lib.hid ⟨hT, by simp, D64.noughts 4, by rw [v64_noughts]; simp [val], fun j _ => getD_noughts 4 j, fun h => by omega, hrd.under (hb.mono hB), hR, hb⟩⟩
  have HCM := Lib.hid hm
  have HW := Lib.hid hw1
  have HD := Lib.hid hd
  have HL := Lib.hid hl
  clear hm hd hR hT hb hw1 hrd
  go_enter Tryd.func28, Tryd.ntmps28
  go_wp2_with fail
  rw [← HW.out]
  clear HW
  go_loopw [8] (fun i wr => RelE w l B c A i wr) (fun i _ => l.length - (intOf i).toNat)
  case atStart => exact HS
  case round =>
    obtain ⟨k, L, hk, rfl, H⟩ := hrel
    clear HS
    obtain ⟨hT, hTl, hTd, hv, hz, ho, hrd, hR, hb⟩ := H.out
    by_cases hlt : k < l.length
    case pos =>
      have t1 : decide ((k : Int) < (l.length : Int)) = true := decide_eq_true (by omega)
      obtain ⟨b, off, d, hA, hbB, cd, Hx⟩ := hrd.at_ hlt
      subst hA
      have hd := Hx.out
      have hd64 : d < 4294967296 := by rw [hd]; exact HD.out.at_ k
      have hd2 := Hx
      clear hd Hx
      rcases Nat.mod_two_eq_zero_or_one k with hpar | hpar
      · obtain ⟨q, hkq⟩ : ∃ q, k = 2 * q := ⟨k / 2, by omega⟩
        have hq : q < 4 := by omega
        have hz0 := hz q (by omega)
        have hy := hT.cell (i := q) (by rw [hTl]; exact hq)
        rw [hz0] at hy
        have q2 : Int.tmod (k : Int) 2 = 0 := by rw [Int.tmod_eq_emod_of_nonneg (by omega)]; omega
        have hor := or_even d hd64
        have hset := v64_set L q d (by rw [hTl]; exact hq)
        rw [hz0, Nat.zero_add] at hset
        obtain ⟨t, ht⟩ : ∃ t, t = d := ⟨_, rfl⟩
        have ht64 : t < 18446744073709551616 := by omega
        replace hor : bits .or .u64 0 (d : Int) = (t : Int) := by rw [hor, ht]
        rw [← ht] at hset
        have hval : v64 L + q64 q * t = val (l.take (k + 1)) := by rw [hv, val_take_succ, ← hd2.out, hkq, pw_even, ht]
        have hlow : (k + 1) % 2 = 1 → (L.set q t).getD ((k + 1) / 2) 0 < 4294967296 := fun _ => by rw [show (k + 1) / 2 = q by omega, getD_set, if_pos ⟨rfl, by rw [hTl]; exact hq⟩, ht]; exact hd64
        have fy := hT.open_ q
        have q1 : Int.tdiv (k : Int) 2 = (q : Int) := by rw [Int.tdiv_eq_ediv_of_nonneg (by omega)]; omega
        have q3 : (q : Int) < 4 := by omega
        have q4 : (0 : Int) ≤ q := by omega
        have q5 : IntKind.i64.wrap (q : Int) = (q : Int) := IntWalk.i64_in _ (by omega)
        have q6 : IntKind.u64.wrap (d : Int) = (d : Int) := IntWalk.u64_in _ (by omega)
        have q0 : IntKind.i64.wrap 0 = 0 := by decide
        have HN : Hid (RelE w l B c (some ⟨b, off, none⟩) (.int .i64 ((k : Int) + 1)) (wr.drew.setCell ⟨w.heap.size + 1, q, none⟩ (.int .u64 (t : Int)))) := Lib.hid
          ⟨k + 1, L.set q t, by omega, by push_cast; rfl, Lib.hid ⟨hT.set q t, by rw [List.length_set]; exact hTl, hTd.set q t ht64, by rw [hset, hval], fun j hj => by rw [getD_set, if_neg (by omega)]; exact hz j (by omega), hlow,
            hrd.under (bdN ((Below.refl B wr).setCell (p := ⟨w.heap.size + 1, q, none⟩) (by show B ≤ w.heap.size + 1; omega) _) 1), Holds.aside hR (p := ⟨w.heap.size + 1, q, none⟩) (by show w.heap.size ≠ w.heap.size + 1; omega) _, bdN (hb.setCell (p := ⟨w.heap.size + 1, q, none⟩) (by show w.heap.size ≤ w.heap.size + 1; omega) _) 1⟩⟩
        have fzd : wr.drew.frozen? ⟨w.heap.size + 1, q, none⟩ = false := fy
        have czd := hy
        replace czd : wr.drew.cell? ⟨w.heap.size + 1, q, none⟩ = _ := czd
        clear hz ho hTd hv hpar hkq H hT hTl hR hb hrd hval hlow hset ht ht64 hz0
        go_wp2_with fail
        go_still_tail 12, (by kernel_rfl)
        repeat still_step
        change wpList _ _ _ _ _ wr.drew
        clear cd hy fy
        generalize wr.drew = wd at *
        go_wp2_with fail
        go_roundw
        · exact HN.out
        · simp [intOf]; omega
      · obtain ⟨q, hkq⟩ : ∃ q, k = 2 * q + 1 := ⟨k / 2, by omega⟩
        have hq : q < 4 := by omega
        have hlt32 := ho hpar
        rw [show k / 2 = q by omega] at hlt32
        obtain ⟨y, hyd⟩ : ∃ y, y = L.getD q 0 := ⟨_, rfl⟩
        have hy := hT.cell (i := q) (by rw [hTl]; exact hq)
        rw [← hyd] at hy hlt32
        have q2 : Int.tmod (k : Int) 2 = 1 := by rw [Int.tmod_eq_emod_of_nonneg (by omega)]; omega
        have hor := or_odd y d hlt32 hd64
        have hset := v64_set L q (d * 4294967296) (by rw [hTl]; exact hq)
        rw [← hyd] at hset
        obtain ⟨t, ht⟩ : ∃ t, t = y + d * 4294967296 := ⟨_, rfl⟩
        have ht64 : t < 18446744073709551616 := by omega
        rw [← ht] at hor hset
        have hval : v64 L + q64 q * (d * 4294967296) = val (l.take (k + 1)) := by rw [hv, val_take_succ, ← hd2.out, hkq, pw_odd, Nat.mul_comm d, Nat.mul_assoc]
        have hlow : (k + 1) % 2 = 1 → (L.set q t).getD ((k + 1) / 2) 0 < 4294967296 := fun h => by omega
        have q7 : IntKind.u64.wrap ((d : Int) * 4294967296) = (d : Int) * 4294967296 := IntWalk.u64_in _ (by omega)
        have q8 : IntKind.i64.wrap 32 = 32 := by decide
        have fy := hT.open_ q
        have q1 : Int.tdiv (k : Int) 2 = (q : Int) := by rw [Int.tdiv_eq_ediv_of_nonneg (by omega)]; omega
        have q3 : (q : Int) < 4 := by omega
        have q4 : (0 : Int) ≤ q := by omega
        have q5 : IntKind.i64.wrap (q : Int) = (q : Int) := IntWalk.i64_in _ (by omega)
        have q6 : IntKind.u64.wrap (d : Int) = (d : Int) := IntWalk.u64_in _ (by omega)
        have q0 : IntKind.i64.wrap 0 = 0 := by decide
        have HN : Hid (RelE w l B c (some ⟨b, off, none⟩) (.int .i64 ((k : Int) + 1)) (wr.drew.setCell ⟨w.heap.size + 1, q, none⟩ (.int .u64 (t : Int)))) := Lib.hid
          ⟨k + 1, L.set q t, by omega, by push_cast; rfl, Lib.hid ⟨hT.set q t, by rw [List.length_set]; exact hTl, hTd.set q t ht64, by rw [hset, hval], fun j hj => by rw [getD_set, if_neg (by omega)]; exact hz j (by omega), hlow,
            hrd.under (bdN ((Below.refl B wr).setCell (p := ⟨w.heap.size + 1, q, none⟩) (by show B ≤ w.heap.size + 1; omega) _) 1), Holds.aside hR (p := ⟨w.heap.size + 1, q, none⟩) (by show w.heap.size ≠ w.heap.size + 1; omega) _, bdN (hb.setCell (p := ⟨w.heap.size + 1, q, none⟩) (by show w.heap.size ≤ w.heap.size + 1; omega) _) 1⟩⟩
        have fzd : wr.drew.frozen? ⟨w.heap.size + 1, q, none⟩ = false := fy
        have czd := hy
        replace czd : wr.drew.cell? ⟨w.heap.size + 1, q, none⟩ = _ := czd
        clear hz ho hTd hv hpar hkq H hT hTl hR hb hrd hval hlow hset ht ht64 hyd hlt32
        go_wp2_with fail
        go_still_tail 12, (by kernel_rfl)
        repeat still_step
        change wpList _ _ _ _ _ wr.drew
        clear cd hy fy
        generalize wr.drew = wd at *
        go_wp2_with fail
        go_roundw
        · exact HN.out
        · simp [intOf]; omega
    case neg =>
      obtain rfl : k = l.length := by omega
      have t1 : decide ((l.length : Int) < (l.length : Int)) = false := decide_eq_false (by omega)
      rw [List.take_length] at hv
      obtain ⟨d0, d1, d2, d3, hLx⟩ := four hTl
      obtain ⟨s0, s1, s2, s3, hs⟩ := four (rfl : sL.length = 4)
      have hm := HCM.out.under hb
      have hmul := mulF_any wr hm L sL hTl rfl hTd (by unfold D64 sL; decide) (by decide +kernel)
      rw [hv] at hmul
      obtain ⟨n0, n1, n2, n3, hn⟩ := four (nm_len (mm (val l) (v64 sL)))
      have hTH : Holds wr (w.heap.size + 1) 47 #[.int .u64 (d0 : Int), .int .u64 (d1 : Int), .int .u64 (d2 : Int), .int .u64 (d3 : Int)] := by
        have h := hT
        unfold Row at h
        rwa [nv_of hLx] at h
      have hsq : ∀ t, t < 4 → wr.cell? ⟨1, t, none⟩ = some (.int .u64 (([s0, s1, s2, s3].getD t 0 : Nat) : Int)) := by
        rw [← hs]
        exact hm.2.1.2
      have b0 : wr.cell? ⟨1, 0, none⟩ = some (.int .u64 (s0 : Int)) := hsq 0 (by omega)
      have b1 : wr.cell? ⟨1, 1, none⟩ = some (.int .u64 (s1 : Int)) := hsq 1 (by omega)
      have b2 : wr.cell? ⟨1, 2, none⟩ = some (.int .u64 (s2 : Int)) := hsq 2 (by omega)
      have b3 : wr.cell? ⟨1, 3, none⟩ = some (.int .u64 (s3 : Int)) := hsq 3 (by omega)
      unfold nv at hmul
      rw [nv_of hLx, nv_of hs, nv_of hn] at hmul
      have HNN := Lib.hid hn
      have HON := Lib.hid hmul
      have HRR := Lib.hid hR
      have HBB := Lib.hid hb
      have a0 := hTH.cell 0
      have a1 := hTH.cell 1
      have a2 := hTH.cell 2
      have a3 := hTH.cell 3
      clear hT hTl hTd hv hz ho hrd hR hb hLx hs hm hmul hn hTH hsq H
      go_wp2_with fail
      refine HON.out.mono ?_
      rintro e w2 ⟨rfl, hb2⟩
      have hr2 := HRR.out.under hb2 HRR.out.lt
      have HR2 := Lib.hid hr2
      have HB2 := Lib.hid (HBB.out.trans (hb2.mono HBB.out.size))
      clear a0 a1 a2 a3 b0 b1 b2 b3 hb2 HON
      have z0 := hr2.cell 0
      have o0 := hr2.open_ 0
      have z1 := hr2.cell 1
      have o1 := hr2.open_ 1
      have z2 := hr2.cell 2
      have o2 := hr2.open_ 2
      have z3 := hr2.cell 3
      have o3 := hr2.open_ 3
      clear hr2
      go_wp2_with fail
      refine ret_num rfl rfl (set4 HR2.out _ _ _ _) rfl ⟨?_, below4 HB2.out (by omega) _ _ _ _⟩
      unfold nv
      rw [nv_of HNN.out]
end Go.Proofs.YtjpoiecbjpipdaaDoor
