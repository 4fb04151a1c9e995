/-
  May a byte stand in a part; may it be a part: the document's, the program's.
-/
import Derived.Test.YtoikkblclmgioaaDoorChecked
import Derived.WalkKit
import Derived.WalkSpells
import Derived.WalkLawsBesides
import Derived.Outline
import Derived.BigQuiet
import Derived.Deep.QuietTactic
import Derived.IntWalk
import Derived.Lib.Strings
import Derived.Test.YtoikkblclmgioaaDoorMem
import Derived.Test.YtoikkblclmgioaaDoorPt1
namespace Go.Proofs.YtoikkblclmgioaaDoor
open Go.RowKit
set_option linter.unusedVariables false

def letterN (x : Nat) : Bool := (decide (97 ≤ x) && decide (x ≤ 122)) || (decide (48 ≤ x) && decide (x ≤ 57)) || decide (x = 45) || decide (x = 95) || decide (x = 46)
theorem letterB_N (c : UInt8) : letterB c = letterN c.toNat := rfl
theorem ret_bool {a b : Bool} (h : a = b) : Ending.returned (.bool a) = .returned (.bool b) := by rw [h]

theorem ten (x : Nat) : x < 45 ∨ x = 45 ∨ x = 46 ∨ x = 47 ∨ (48 ≤ x ∧ x ≤ 57) ∨ (58 ≤ x ∧ x ≤ 94) ∨ x = 95 ∨ x = 96 ∨ (97 ≤ x ∧ x ≤ 122) ∨ 123 ≤ x := by omega

set_option maxRecDepth 100000 in
set_option maxHeartbeats 2000000 in
theorem letter'_any (w : World) (x : Nat) : Calls Tryd.prog 16 #[.int .u8 (x : Int)] w fun e w' => e = .returned (.bool (letterN x)) ∧ w = w' := by
  rcases ten x with h | rfl | rfl | rfl | ⟨h, h'⟩ | ⟨h, h'⟩ | rfl | rfl | ⟨h, h'⟩ | h
  all_goals
    go_enter Tryd.func16, Tryd.ntmps16
    go_wp2_with fail
    go_ret
    exact ⟨ret_bool (by first | rfl | (rw [Bool.eq_iff_iff]; simp [letterN]; omega)), rfl⟩

def RelC (s : ByteArray) (n : Nat) (i : Value) : Prop := ∃ k : Nat, k ≤ n ∧ i = .int .i64 k ∧ Hid (∀ j, j < k → letterB (s.data.toList.getD j 0) = true)
theorem good5 {x : Nat} (h : letterN x = true) : x = 45 ∨ x = 46 ∨ (48 ≤ x ∧ x ≤ 57) ∨ x = 95 ∨ (97 ≤ x ∧ x ≤ 122) := by
  simp [letterN] at h; omega
theorem bad5 {x : Nat} (h : letterN x = false) : x < 45 ∨ x = 47 ∨ (58 ≤ x ∧ x ≤ 94) ∨ x = 96 ∨ 123 ≤ x := by
  simp [letterN] at h; omega
theorem all_getD (l : List UInt8) (f : UInt8 → Bool) : l.all f = true ↔ ∀ j, j < l.length → f (l.getD j 0) = true := by
  rw [List.all_eq_true]
  constructor
  · intro h j hj
    have := h _ (List.getElem_mem hj)
    simpa [List.getD, hj] using this
  · intro h x hx
    obtain ⟨i, hi, rfl⟩ := List.getElem_of_mem hx
    have := h i hi
    simpa [List.getD, hi] using this
theorem byte_at (s : ByteArray) {k : Nat} (h : k < s.size) : s.data.toList.getD k 0 = s[k] := by
  have h' : k < s.data.toList.length := by simpa using h
  rw [List.getD, List.getElem?_eq_getElem h']
  rfl
theorem may_bad {s : ByteArray} {k : Nat} (h : k < s.size) (hb : letterN s[k].toNat = false) : mayB s.data.toList = false := by
  have : s.data.toList.all letterB = false := by
    rw [← Bool.not_eq_true]
    intro e
    have := (all_getD _ _).1 e k (by simpa using h)
    rw [byte_at s h, letterB_N, hb] at this
    cases this
  unfold mayB
  rw [this, Bool.and_false]
theorem may_more {s : ByteArray} {k : Nat} (h : k < s.size) (hb : letterN s[k].toNat = true) (ha : ∀ j, j < k → letterB (s.data.toList.getD j 0) = true) : ∀ j, j < k + 1 → letterB (s.data.toList.getD j 0) = true := by
  intro j hj
  rcases Nat.lt_or_ge j k with h' | h'
  · exact ha j h'
  · obtain rfl : j = k := by omega
    rw [byte_at s h]; exact hb
theorem len_data (s : ByteArray) : s.data.toList.length = s.size := by simp
theorem may_end {s : ByteArray} (ha : ∀ j, j < s.size → letterB (s.data.toList.getD j 0) = true) : mayB s.data.toList = (decide (1 ≤ s.size) && decide (s.size ≤ 20) && !(s.data.toList == [46]) && !(s.data.toList == [46, 46])) := by
  unfold mayB
  rw [(all_getD s.data.toList letterB).2 (fun j hj => ha j (by simpa using hj)), Bool.and_true, len_data]

set_option maxRecDepth 100000 in
set_option maxHeartbeats 2000000 in
theorem part'_any (w : World) (s : ByteArray) (hs : s.size ≤ 9223372036854775807) : Calls Tryd.prog 14 #[.string s] w fun e w' => e = .returned (.bool (mayB s.data.toList)) ∧ w = w' := by
  go_enter Tryd.func14, Tryd.ntmps14
  go_wp2_with fail
  go_loop [3] (fun i => RelC s s.size i) (fun i => s.size - (intOf i).toNat)
  case atStart => exact ⟨0, Nat.zero_le _, rfl, Lib.hid (fun j h => by omega)⟩
  case round =>
    obtain ⟨k, hk, rfl, HA⟩ := hrel
    by_cases hlt : k < s.size
    case pos =>
      rcases hb : letterN s[k].toNat with _ | _
      · have HB := Lib.hid (may_bad hlt hb)
        have HC := Lib.hid hb
        clear hb
        go_wp2_with fail
        refine (letter'_any _ _).mono ?_
        rintro e w1 ⟨rfl, rfl⟩
        rw [HC.out]
        go_wp2_with fail
        go_ret
        exact ⟨ret_bool HB.out.symm, rfl⟩
      · have HB := Lib.hid (may_more hlt hb HA.out)
        have HC := Lib.hid hb
        clear hb
        go_wp2_with fail
        refine (letter'_any _ _).mono ?_
        rintro e w1 ⟨rfl, rfl⟩
        rw [HC.out]
        go_wp2_with fail
        go_round
        case rel => exact ⟨k + 1, by omega, by go_num, HB⟩
        case measure => simp [intOf]; omega
    case neg =>
      obtain rfl : k = s.size := by omega
      have HE := Lib.hid (may_end HA.out)
      by_cases h1 : s.size < 1
      · go_wp2_with fail
        go_ret
        exact ⟨ret_bool (by rw [HE.out]; simp; omega), rfl⟩
      by_cases h2 : 20 < s.size
      · go_wp2_with fail
        go_ret
        exact ⟨ret_bool (by rw [HE.out]; simp; omega), rfl⟩
      have HE2 : Hid (mayB s.data.toList = (!(s.toList == [46]) && !(s.toList == [46, 46]))) := Lib.hid (by
        rw [HE.out, Lib.toList_data, decide_eq_true (by omega : 1 ≤ s.size), decide_eq_true (by omega : s.size ≤ 20)]; simp only [Bool.true_and])
      clear HE HA
      go_wp2_with fail
      all_goals
        go_ret
        exact ⟨ret_bool (HE2.out.trans (by first | rfl | simp [*])).symm, rfl⟩

set_option maxRecDepth 100000 in
set_option maxHeartbeats 2000000 in
theorem may_any (w : World) (s : ByteArray) (hs : s.size ≤ 9223372036854775807) : Calls Tryd.prog 13 #[.string s] w fun e w' => e = .returned (.bool (mayB s.data.toList)) ∧ w = w' := by
  by_cases h0 : s.toList = [] ∨ s.toList = [46] ∨ s.toList = [46, 46] ∨ 20 < s.size
  · have HE : Hid (mayB s.data.toList = false) := Lib.hid (by
      unfold mayB
      rw [← Lib.toList_data]
      rcases h0 with h | h | h | h
      · rw [h]; rfl
      · rw [h]; rfl
      · rw [h]; rfl
      · have : s.toList.length = s.size := by rw [Lib.toList_data]; simp
        rw [this, decide_eq_false (by omega : ¬ s.size ≤ 20)]; simp)
    rcases h0 with h | h | h | h
    all_goals
      go_enter Tryd.func13, Tryd.ntmps13
      go_wp2_with fail
      all_goals
        go_ret
        exact ⟨ret_bool HE.out.symm, rfl⟩
  · have h1 : ¬ s.toList = [] := fun e => h0 (.inl e)
    have h2 : ¬ s.toList = [46] := fun e => h0 (.inr (.inl e))
    have h3 : ¬ s.toList = [46, 46] := fun e => h0 (.inr (.inr (.inl e)))
    have h4 : s.size ≤ 20 := by
      rcases Nat.lt_or_ge 20 s.size with h | h
      · exact absurd (.inr (.inr (.inr h))) h0
      · exact h
    clear h0
    have hb1 : s.toList.isEmpty = false := by simpa using h1
    have hb2 : (s.toList == [46]) = false := by simpa using h2
    have hb3 : (s.toList == [46, 46]) = false := by simpa using h3
    have HN := Lib.hid (And.intro hb2 (And.intro hb3 h1))
    clear h1 h2 h3
    go_enter Tryd.func13, Tryd.ntmps13
    go_wp2_with fail
    go_loop [23] (fun i => RelC s s.size i) (fun i => s.size - (intOf i).toNat)
    case atStart => exact ⟨0, Nat.zero_le _, rfl, Lib.hid (fun j h => by omega)⟩
    case round =>
      obtain ⟨k, hk, rfl, HA⟩ := hrel
      by_cases hlt : k < s.size
      case pos =>
        rcases hb : letterN s[k].toNat with _ | _
        · have HB := Lib.hid (may_bad hlt hb)
          have h5 := bad5 hb
          clear hb
          have n1 : ((s[k].toNat : Int) != 45) = true := by rw [bne_iff_ne]; omega
          have n2 : ((s[k].toNat : Int) != 95) = true := by rw [bne_iff_ne]; omega
          have n3 : ((s[k].toNat : Int) != 46) = true := by rw [bne_iff_ne]; omega
          rcases h5 with h | h | ⟨h, h'⟩ | h | h
          case' inr.inr.inl =>
            have m1 : decide ((s[k].toNat : Int) ≤ 57) = false := decide_eq_false (by omega)
          case' inr.inr.inr.inr =>
            have m1 : decide ((s[k].toNat : Int) ≤ 57) = false := decide_eq_false (by omega)
            have m2 : decide ((s[k].toNat : Int) ≤ 122) = false := decide_eq_false (by omega)
          all_goals
            go_wp2_with fail
            go_ret
            exact ⟨ret_bool HB.out.symm, rfl⟩
        · have HB := Lib.hid (may_more hlt hb HA.out)
          have h5 := good5 hb
          clear hb
          rcases h5 with h | h | ⟨h, h'⟩ | h | ⟨h, h'⟩
          all_goals
            go_wp2_with fail
            go_round
            case rel => exact ⟨k + 1, by omega, by go_num, HB⟩
            case measure => simp [intOf]; omega
      case neg =>
        obtain rfl : k = s.size := by omega
        have HE : Hid (mayB s.data.toList = true) := Lib.hid (by
          rw [may_end HA.out, ← Lib.toList_data, HN.out.1, HN.out.2.1, decide_eq_true h4]
          have : s.size ≠ 0 := fun e => HN.out.2.2 (by
            rw [Lib.toList_data]
            exact List.eq_nil_of_length_eq_zero (by rw [len_data, e]))
          rw [decide_eq_true (by omega : 1 ≤ s.size)]
          rfl)
        go_wp2_with fail
        go_ret
        exact ⟨ret_bool HE.out.symm, rfl⟩
end Go.Proofs.YtoikkblclmgioaaDoor
