/-
  A length, read: by the program.
-/
import Derived.Test.YtdjklhglkmacbaaDoorTlv15
namespace Go.Proofs.YtdjklhglkmacbaaDoor
open Go.RowKit
set_option linter.unusedVariables false
set_option linter.unusedSimpArgs false

set_option maxRecDepth 100000 in
theorem i64_or8 (x c : Nat) (hx : x < 1000000) (hc : c < 256) : bits .or .i64 ((x : Int) * 256) (c : Int) = ((x * 256 + c : Nat) : Int) := by
  rw [bits_join .i64 62 (by decide) (fun n h0 h1 => IntWalk.i64_in n (by omega)) 8 ((x : Int) * 256) (c : Int) (by omega) (by omega) (by omega) (by omega) (by omega) (by omega)]
  push_cast
  rfl
def LenPost (w : World) (Br : Nat) (A : Option Addr) (n c : Nat) : Option (Nat × Nat) → Ending → World → Prop
  | none, e, w' => e = .returned (.tuple #[.int .i64 0, .bool false]) ∧ w' = w
  | some (k, u), e, w' => e = .returned (.tuple #[.int .i64 (k : Int), .bool true]) ∧ w' = w.setCell ⟨Br, 0, none⟩ (.slice (dropA A u c) (n - u) (c - u))
def RelRL (m : Nat) (rr : List Nat) (w : World) (v i : Value) (wr : World) : Prop :=
  ∃ j x : Nat, j ≤ m ∧ i = .int .i64 (j : Int) ∧ v = .int .i64 (x : Int) ∧ x ≤ 12000 ∧ Hid (x = big (rr.take j)) ∧ wr = w
set_option maxRecDepth 100000 in
set_option maxHeartbeats 4000000 in
theorem rlen_any (w : World) (Br B : Nat) (A : Option Addr) (c n left : Nat) (L : List Nat) (hR : Rd .u8 w B A c L) (hn : L.length = n) (h12 : n ≤ 12000) (hl : left ≤ n) (ho : ∀ x ∈ L, x < 256)
    (hB : w.cell? ⟨Br, 0, none⟩ = some (.slice A n c)) (hF : w.frozen? ⟨Br, 0, none⟩ = false) :
    Calls Tryd.prog 77 #[.pointer (some ⟨Br, 0, none⟩), .int .i64 (left : Int)] w (LenPost w Br A n c (lenOf (L.take left))) := by
  have hlc : n ≤ c := by rw [← hn]; exact hR.1
  have hc63 := hR.2.1
  by_cases hl0 : left = 0
  case pos =>
    subst hl0
    rw [List.take_zero]
    clear hR ho hn
    go_enter Tryd.func77, Tryd.ntmps77
    go_wp2_with fail
    go_ret2
    exact ⟨rfl, rfl⟩
  obtain ⟨b, off, rfl, hb, hcs⟩ := hR.2.2 (by omega)
  rcases L with _ | ⟨x, L⟩
  · rw [List.length_nil] at hn; omega
  obtain ⟨q, rfl⟩ : ∃ q, left = q + 1 := ⟨left - 1, by omega⟩
  have hx : x < 256 := ho x (by simp)
  have e0 : w.cell? ⟨b, off, none⟩ = some (.int .u8 (x : Int)) := hcs 0 (by rw [List.length_cons]; omega)
  have HC1 : Hid (∀ j, j < q → w.cell? ⟨b, off + 1 + j, none⟩ = some (.int .u8 (((L.take q).getD j 0 : Nat) : Int))) := Lib.hid fun j hj => by
    have := hcs (1 + j) (by rw [List.length_cons] at hn ⊢; omega)
    rw [← Nat.add_assoc] at this
    rw [this]
    simp [List.getD, Nat.add_comm 1 j, hj]
  have HRL : Hid ((L.take q).length = q) := Lib.hid (by rw [List.length_take]; rw [List.length_cons] at hn; omega)
  have HO : Hid (∀ j, (L.take q).getD j 0 < 256) := Lib.hid fun j => by
    rw [List.getD_eq_getElem?_getD]
    rcases h : (L.take q)[j]? with _ | y
    · simp
    · exact ho y (List.mem_cons_of_mem _ (List.mem_of_mem_take (List.mem_of_getElem? h)))
  rw [List.take_succ_cons]
  generalize L.take q = r at *
  have HLO : Hid (lenOf (x :: r) = if x < 128 then (if x ≤ q then some (x, 1) else none)
    else if x ≠ 128 ∧ x - 128 ≤ q ∧ r.getD 0 0 ≠ 0 ∧ 128 ≤ big (r.take (x - 128)) ∧ big (r.take (x - 128)) ≤ q - (x - 128) then some (big (r.take (x - 128)), x - 127) else none) := Lib.hid (by rw [← HRL.out]; rfl)
  generalize lenOf (x :: r) = o at *
  have hn0 : 1 ≤ n := by omega
  clear hR hcs ho hn
  have hq1 : ((q + 1 : Nat) : Int) - 1 = (q : Int) := by omega
  have dq0 : decide (((q + 1 : Nat) : Int) = 0) = false := decide_eq_false (by omega)
  by_cases h128 : x < 128
  case pos =>
    have d1 : decide (128 ≤ (x : Int)) = false := decide_eq_false (by omega)
    have hs : (Instr.sliceAt 28 (.slice (some ⟨b, off, none⟩) n c) (some (.int .i64 1)) none none).run Tryd.prog w = .ok (.slice (dropA (some ⟨b, off, none⟩) 1 c) (n - 1) (c - 1)) w := run_drop w (some ⟨b, off, none⟩) n c 1 hn0 hlc
    by_cases hxq : x ≤ q
    case pos =>
      have d2 : decide ((q : Int) < (x : Int)) = false := decide_eq_false (by omega)
      have HLE : Hid (o = some (x, 1)) := Lib.hid (by rw [HLO.out, if_pos h128, if_pos hxq])
      obtain ⟨D, hD⟩ : ∃ D, D = dropA (some ⟨b, off, none⟩) 1 c := ⟨_, rfl⟩
      have HDD := Lib.hid hD
      rw [← hD] at hs
      clear hD
      go_enter Tryd.func77, Tryd.ntmps77
      go_wp2_with fail
      go_ret2
      rw [HLE.out]
      exact ⟨rfl, by rw [HDD.out]⟩
    case neg =>
      have d2 : decide ((q : Int) < (x : Int)) = true := decide_eq_true (by omega)
      have HLE : Hid (o = none) := Lib.hid (by rw [HLO.out, if_pos h128, if_neg hxq])
      go_enter Tryd.func77, Tryd.ntmps77
      go_wp2_with fail
      go_ret2
      rw [HLE.out]
      exact ⟨rfl, rfl⟩
  obtain ⟨m, rfl⟩ : ∃ m, x = 128 + m := ⟨x - 128, by omega⟩
  have hm : m < 128 := by omega
  have HLO2 : Hid (o = if m ≠ 0 ∧ m ≤ q ∧ r.getD 0 0 ≠ 0 ∧ 128 ≤ big (r.take m) ∧ big (r.take m) ≤ q - m then some (big (r.take m), 1 + m) else none) := Lib.hid (by
    have e1 : 128 + m - 128 = m := by omega
    have e2 : 128 + m - 127 = 1 + m := by omega
    rw [HLO.out, if_neg h128, e1, e2]
    by_cases h : m ≠ 0 ∧ m ≤ q ∧ r.getD 0 0 ≠ 0 ∧ 128 ≤ big (r.take m) ∧ big (r.take m) ≤ q - m
    · rw [if_pos h, if_pos ⟨by have := h.1; omega, h.2⟩]
    · rw [if_neg h, if_neg (fun k => h ⟨by have := k.1; omega, k.2⟩)])
  have d1 : decide (128 ≤ ((128 + m : Nat) : Int)) = true := decide_eq_true (by omega)
  have hs0 : ((128 + m : Nat) : Int) - 128 = (m : Int) := by omega
  obtain ⟨X, hX⟩ : ∃ X : Int, X = ((128 + m : Nat) : Int) := ⟨_, rfl⟩
  rw [← hX] at e0 d1 hs0
  have hX1 : 128 ≤ X := by omega
  have hX2 : X < 256 := by omega
  clear HLO hX
  by_cases hm0 : m = 0
  case pos =>
    have d2 : decide ((m : Int) = 0) = true := decide_eq_true (by omega)
    have HLE : Hid (o = none) := Lib.hid (by rw [HLO2.out, if_neg (fun h => h.1 hm0)])
    go_enter Tryd.func77, Tryd.ntmps77
    go_wp2_with fail
    go_ret2
    rw [HLE.out]
    exact ⟨rfl, rfl⟩
  have d2 : decide ((m : Int) = 0) = false := decide_eq_false (by omega)
  have b2 : ((m : Int) == 0) = false := by simp; omega
  by_cases hmq : m ≤ q
  case neg =>
    have d3 : decide ((q : Int) < (m : Int)) = true := decide_eq_true (by omega)
    have HLE : Hid (o = none) := Lib.hid (by rw [HLO2.out, if_neg (fun h => hmq h.2.1)])
    go_enter Tryd.func77, Tryd.ntmps77
    go_wp2_with fail
    go_ret2
    rw [HLE.out]
    exact ⟨rfl, rfl⟩
  have d3 : decide ((q : Int) < (m : Int)) = false := decide_eq_false (by omega)
  have e1 : w.cell? ⟨b, off + 1, none⟩ = some (.int .u8 ((r.getD 0 0 : Nat) : Int)) := HC1.out 0 (by omega)
  by_cases hy0 : r.getD 0 0 = 0
  case pos =>
    have HLE : Hid (o = none) := Lib.hid (by rw [HLO2.out, if_neg (fun h => h.2.2.1 hy0)])
    rw [hy0] at e1
    go_enter Tryd.func77, Tryd.ntmps77
    go_wp2_with fail
    go_ret2
    rw [HLE.out]
    exact ⟨rfl, rfl⟩
  have HO2 : Hid (o = if 128 ≤ big (r.take m) ∧ big (r.take m) ≤ q - m then some (big (r.take m), 1 + m) else none) := Lib.hid (by
    rw [HLO2.out]
    by_cases h : 128 ≤ big (r.take m) ∧ big (r.take m) ≤ q - m
    · rw [if_pos h, if_pos ⟨hm0, hmq, hy0, h⟩]
    · rw [if_neg h, if_neg (fun k => h k.2.2.2)])
  have HY : Hid (r.getD 0 0 = r.getD 0 0) := Lib.hid rfl
  obtain ⟨y, hy⟩ : ∃ y, y = r.getD 0 0 := ⟨_, rfl⟩
  rw [← hy] at e1 hy0
  have d4 : decide ((y : Int) = 0) = false := decide_eq_false (by omega)
  have b4 : ((y : Int) == 0) = false := by simp; omega
  have hsm : (Instr.sliceAt 28 (.slice (some ⟨b, off, none⟩) n c) (some (.int .i64 1)) (some (.int .i64 (1 + (m : Int)))) none).run Tryd.prog w = .ok (.slice (some ⟨b, off + 1, none⟩) m (c - 1)) w := by
    have h := run_mid w (some ⟨b, off, none⟩) n c 1 (1 + m) (by omega) (by omega) hlc
    rw [show 1 + m - 1 = m by omega] at h
    unfold dropA at h
    rw [if_neg (by omega)] at h
    push_cast at h
    exact h
  have hsu : (Instr.sliceAt 28 (.slice (some ⟨b, off, none⟩) n c) (some (.int .i64 (1 + (m : Int)))) none none).run Tryd.prog w = .ok (.slice (dropA (some ⟨b, off, none⟩) (1 + m) c) (n - (1 + m)) (c - (1 + m))) w := by
    have h := run_drop w (some ⟨b, off, none⟩) n c (1 + m) (by omega) hlc
    push_cast at h
    exact h
  obtain ⟨D, hD⟩ : ∃ D, D = dropA (some ⟨b, off, none⟩) (1 + m) c := ⟨_, rfl⟩
  have HDD := Lib.hid hD
  rw [← hD] at hsu
  clear hD HY hy HLO2
  go_enter Tryd.func77, Tryd.ntmps77
  go_wp2_with fail
  go_loopw [6, 50] (fun v i wr => RelRL m r w v i wr) (fun v i _ => m - (intOf i).toNat)
  case atStart => exact ⟨0, 0, Nat.zero_le _, rfl, rfl, by omega, Lib.hid (by simp [big]), rfl⟩
  case round =>
    obtain ⟨j, z, hj, rfl, rfl, hz, HZ, rfl⟩ := hrel
    by_cases hjm : j < m
    case pos =>
      have d5 : decide ((j : Int) < (m : Int)) = true := decide_eq_true (by omega)
      have e2 : wr.cell? ⟨b, off + 1 + j, none⟩ = some (.int .u8 ((r.getD j 0 : Nat) : Int)) := HC1.out j (by omega)
      have HZ2 : Hid (big (r.take (j + 1)) = z * 256 + r.getD j 0) := Lib.hid (by
        rw [List.take_add_one, show r[j]? = some (r.getD j 0) by simp [List.getD, show j < r.length by have := HRL.out; omega], HZ.out]
        exact big_snoc _ _)
      have hu : r.getD j 0 < 256 := HO.out j
      generalize r.getD j 0 = u at *
      have hbits := i64_or8 z u (by omega) hu
      obtain ⟨z2, hz2⟩ : ∃ z2, z2 = z * 256 + u := ⟨_, rfl⟩
      rw [← hz2] at hbits HZ2
      by_cases hbig : 12000 < z2
      case pos =>
        have d6 : decide (12000 < (z2 : Int)) = true := decide_eq_true (by omega)
        have HLE : Hid (o = none) := Lib.hid (by
          rw [HO2.out, if_neg]
          intro h
          have h1 := big_take_le r (j + 1) m (by omega)
          rw [HZ2.out] at h1
          omega)
        go_wp2_with fail
        go_ret2
        rw [HLE.out]
        exact ⟨rfl, rfl⟩
      case neg =>
        have d6 : decide (12000 < (z2 : Int)) = false := decide_eq_false (by omega)
        go_wp2_with fail
        go_roundw
        case rel => exact ⟨j + 1, z2, by omega, rfl, by rw [hz2]; push_cast; rfl, by omega, Lib.hid HZ2.out.symm, rfl⟩
        case measure => simp [intOf]; omega
    case neg =>
      have d5 : decide ((j : Int) < (m : Int)) = false := decide_eq_false (by omega)
      obtain rfl : j = m := by omega
      have HO3 : Hid (o = if 128 ≤ z ∧ z ≤ q - j then some (z, 1 + j) else none) := Lib.hid (by rw [HO2.out, ← HZ.out])
      by_cases hz1 : z < 128
      case pos =>
        have d6 : decide ((z : Int) < 128) = true := decide_eq_true (by omega)
        have HLE : Hid (o = none) := Lib.hid (by rw [HO3.out, if_neg (by omega)])
        go_wp2_with fail
        go_ret2
        rw [HLE.out]
        exact ⟨rfl, rfl⟩
      have d6 : decide ((z : Int) < 128) = false := decide_eq_false (by omega)
      have hq2 : ((q + 1 : Nat) : Int) - (1 + (j : Int)) = ((q - j : Nat) : Int) := by omega
      obtain ⟨p, hp⟩ : ∃ p, p = q - j := ⟨_, rfl⟩
      have HP := Lib.hid hp
      rw [← hp] at hq2 HO3
      clear hp
      by_cases hzp : z ≤ p
      case pos =>
        have d7 : decide ((p : Int) < (z : Int)) = false := decide_eq_false (by omega)
        have HLE : Hid (o = some (z, 1 + j)) := Lib.hid (by rw [HO3.out, if_pos ⟨by omega, hzp⟩])
        go_wp2_with fail
        go_ret2
        rw [HLE.out]
        exact ⟨rfl, by rw [HDD.out]⟩
      case neg =>
        have d7 : decide ((p : Int) < (z : Int)) = true := decide_eq_true (by omega)
        have HLE : Hid (o = none) := Lib.hid (by rw [HO3.out, if_neg (by omega)])
        go_wp2_with fail
        go_ret2
        rw [HLE.out]
        exact ⟨rfl, rfl⟩
end Go.Proofs.YtdjklhglkmacbaaDoor
