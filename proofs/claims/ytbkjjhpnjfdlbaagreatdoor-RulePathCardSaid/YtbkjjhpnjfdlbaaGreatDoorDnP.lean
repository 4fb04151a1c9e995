/-
  Names, plainly: a text's bytes; which names may be; a name's thing.
-/
import Derived.Test.YtbkjjhpnjfdlbaaGreatDoorTx4
import Derived.Test.YtbkjjhpnjfdlbaaGreatDoorDn2
import Derived.Test.YtbkjjhpnjfdlbaaGreatDoorKids
namespace Go.Proofs.YtbkjjhpnjfdlbaaGreatDoor
open Go.RowKit
set_option linter.unusedVariables false
set_option linter.unusedSimpArgs false

theorem str_all (t : ByteArray) : ∃ l : List Nat, t = str l ∧ ∀ x ∈ l, x < 256 := by
  refine ⟨t.data.toList.map UInt8.toNat, ?_, fun x hx => ?_⟩
  · cases t with
    | mk d =>
      unfold str
      congr 1
      rw [List.map_map]
      have : (UInt8.ofNat ∘ UInt8.toNat) = id := by funext x; simp
      rw [this, List.map_id]
  · obtain ⟨y, _, rfl⟩ := List.mem_map.1 hx
    exact y.toNat_lt
/-- A text's bytes. -/
def bts (s : ByteArray) : List Nat := s.data.toList.map UInt8.toNat
theorem bts_oct (s : ByteArray) : ∀ x ∈ bts s, x < 256 := fun x hx => by
  obtain ⟨y, _, rfl⟩ := List.mem_map.1 hx
  exact y.toNat_lt
theorem str_bts (s : ByteArray) : str (bts s) = s := by
  cases s with
  | mk d =>
    unfold str bts
    congr 1
    rw [List.map_map]
    have : (UInt8.ofNat ∘ UInt8.toNat) = id := by funext x; simp
    rw [this, List.map_id]
theorem bts_str {l : List Nat} (ho : ∀ x ∈ l, x < 256) : bts (str l) = l := by
  have h := str_bts (str l)
  exact str_inj (bts_oct _) ho h
theorem bts_len (s : ByteArray) : (bts s).length = s.size := by rw [bts, List.length_map]; rfl
/-- Is there such a kind? -/
def kdOk (k : Int) : Bool := decide (k = 3 ∨ k = 6 ∨ k = 10 ∨ k = 11)
/-- May it be a part of a name? -/
def atOk (a : Att) : Bool := kdOk a.k && decide (0 < (bts a.s).length) && textOk (bts a.s)
/-- May it be a name? -/
def dnOk (l : List Att) : Bool := decide (1 ≤ l.length ∧ l.length ≤ 4 ∧ ∀ i, i < l.length → atOk (l.getD i default) = true)
theorem dnOk_iff {l : List Att} : dnOk l = true ↔ 1 ≤ l.length ∧ l.length ≤ 4 ∧ ∀ i, i < l.length → atOk (l.getD i default) = true := by unfold dnOk; rw [decide_eq_true_iff]
theorem dnOk_no {l : List Att} (h : ¬ (1 ≤ l.length ∧ l.length ≤ 4 ∧ ∀ i, i < l.length → atOk (l.getD i default) = true)) : dnOk l = false := by rw [Bool.eq_false_iff]; exact fun hh => h (dnOk_iff.1 hh)
theorem atOk_iff {a : Att} : atOk a = true ↔ kdOk a.k = true ∧ 0 < (bts a.s).length ∧ textOk (bts a.s) = true := by unfold atOk; rw [Bool.and_eq_true, Bool.and_eq_true, decide_eq_true_iff, and_assoc]
theorem kd_cases {k : Int} (h : kdOk k = true) : k = 3 ∨ k = 6 ∨ k = 10 ∨ k = 11 := of_decide_eq_true h
/-- A part's thing, a name's thing. -/
def atTr (a : Att) : Tr := .mk 49 [] [.mk 48 [] [.mk 6 [85, 4, a.k.toNat] [], .mk 12 (bts a.s) []]]
def dnTr (l : List Att) : Tr := .mk 48 [] (l.map atTr)
theorem empty_no {s : ByteArray} (h : 0 < (bts s).length) : s.toList.isEmpty = false := by
  rw [Lib.toList_data, List.isEmpty_eq_false_iff]
  intro e
  unfold bts at h
  rw [List.length_map, e] at h
  exact absurd h (by simp)
theorem empty_yes {s : ByteArray} (h : ¬ 0 < (bts s).length) : s.toList.isEmpty = true := by
  unfold bts at h
  rw [List.length_map] at h
  rw [Lib.toList_data, List.eq_nil_of_length_eq_zero (show s.data.toList.length = 0 by omega)]
  rfl
set_option maxRecDepth 100000 in
theorem kind_any (w : World) (k : Int) (b : Bool) (hb : kdOk k = b) : Calls Tryz.prog 81 #[.int .i64 k] w fun e w' => e = .returned (.bool b) ∧ w = w' := by
  have HB := Lib.hid hb
  by_cases h3 : k = 3
  · have e3 : (k == 3) = true := by simp [h3]
    have HV : Hid (b = true) := Lib.hid (by rw [← HB.out]; exact decide_eq_true (by omega))
    clear hb h3
    go_enter Tryz.func81, Tryz.ntmps81
    go_wp2_with fail
    go_ret
    rw [HV.out]; exact ⟨rfl, rfl⟩
  have e3 : (k == 3) = false := by simp [h3]
  by_cases h6 : k = 6
  · have e6 : (k == 6) = true := by simp [h6]
    have HV : Hid (b = true) := Lib.hid (by rw [← HB.out]; exact decide_eq_true (by omega))
    clear hb h3 h6
    go_enter Tryz.func81, Tryz.ntmps81
    go_wp2_with fail
    go_ret
    rw [HV.out]; exact ⟨rfl, rfl⟩
  have e6 : (k == 6) = false := by simp [h6]
  by_cases h10 : k = 10
  · have e10 : (k == 10) = true := by simp [h10]
    have HV : Hid (b = true) := Lib.hid (by rw [← HB.out]; exact decide_eq_true (by omega))
    clear hb h3 h6 h10
    go_enter Tryz.func81, Tryz.ntmps81
    go_wp2_with fail
    go_ret
    rw [HV.out]; exact ⟨rfl, rfl⟩
  have e10 : (k == 10) = false := by simp [h10]
  by_cases h11 : k = 11
  · have e11 : (k == 11) = true := by simp [h11]
    have HV : Hid (b = true) := Lib.hid (by rw [← HB.out]; exact decide_eq_true (by omega))
    clear hb h3 h6 h10 h11
    go_enter Tryz.func81, Tryz.ntmps81
    go_wp2_with fail
    go_ret
    rw [HV.out]; exact ⟨rfl, rfl⟩
  have e11 : (k == 11) = false := by simp [h11]
  have HV : Hid (b = false) := Lib.hid (by rw [← HB.out]; exact decide_eq_false (by omega))
  clear hb h3 h6 h10 h11
  go_enter Tryz.func81, Tryz.ntmps81
  go_wp2_with fail
  go_ret
  rw [HV.out]; exact ⟨rfl, rfl⟩
end Go.Proofs.YtbkjjhpnjfdlbaaGreatDoor
