/-
  So many of the places that are free: by the document.
-/
import Derived.Test.YtkfokgkehlcikaaRoom3
namespace Go.Proofs.Ytkfokgkehlcikaa
open Go.RowKit
set_option linter.unusedVariables false
set_option linter.unusedSimpArgs false

/-- What Take gives. -/
def takeN (hb : Nat → Bool) (m : Nat) (want : Int) : List Nat × Bool := if 0 ≤ want ∧ want ≤ ((freeN hb m).length : Int) then ((freeN hb m).take want.toNat, true) else ([], false)
set_option maxRecDepth 100000 in
set_option maxHeartbeats 2000000 in
theorem take'_any (w : World) (B : Nat) (A : Option Addr) (c n : Nat) (l : List Nd) (hn : l.length = n) (hr : RdN w B A c l) (hB : B ≤ w.heap.size) (m : Nat) (hm : m ≤ 2000) (y : Int) (hy : y = 40 + (m : Int) ∨ (m = 0 ∧ y ≤ 40)) (hb : Nat → Bool) (hh : ∀ x : Nat, hb x = true ↔ hasL l x n) (want : Int) :
    Calls Try.prog 23 #[.slice A n c, .int .i64 y, .int .i64 want] w fun e w' => ∃ A' c' n' b, e = .returned (.tuple #[.slice A' n' c', .bool b]) ∧ (takeN hb m want).1.length = n' ∧ (takeN hb m want).2 = b ∧ Rd .i64 w' w'.heap.size A' c' (takeN hb m want).1 ∧ Below w.heap.size w w' := by
  have HF := Lib.hid (free'_any w B A c n l hn hr hB m hm y hy hb hh)
  clear hn hr hB hy hh
  go_enter Try.func23, Try.ntmps23
  go_wp2_with fail
  refine HF.out.mono ?_
  rintro e w1 ⟨A', c', n', rfl, hl, ho, hq⟩
  have hrd := ho.rd
  have HL := Lib.hid hl
  have HRD := Lib.hid hrd
  have HQ := Lib.hid hq
  have hcap : n' ≤ c' := by have := hrd.1; omega
  have hc63 := hrd.2.1
  clear hl ho hq hrd HF
  by_cases h1 : want < 0
  case pos =>
    have d1 : decide (want < 0) = true := decide_eq_true h1
    have HT : Hid (takeN hb m want = ([], false)) := Lib.hid (by unfold takeN; rw [if_neg (by omega)])
    go_wp2_with fail
    exact bodyPost_ret (v := .tuple #[.slice none 0 0, .bool false]) (by simp [results, Try.results23, go_sem]) rfl ⟨none, 0, 0, false, rfl, by rw [HT.out]; rfl, by rw [HT.out], by rw [HT.out]; exact Rd.nil_ _ _ _, HQ.out⟩
  have d1 : decide (want < 0) = false := decide_eq_false h1
  by_cases h2 : (n' : Int) < want
  case pos =>
    have d2 : decide ((n' : Int) < want) = true := decide_eq_true h2
    have HT : Hid (takeN hb m want = ([], false)) := Lib.hid (by unfold takeN; rw [if_neg (by rw [HL.out]; omega)])
    go_wp2_with fail
    exact bodyPost_ret (v := .tuple #[.slice none 0 0, .bool false]) (by simp [results, Try.results23, go_sem]) rfl ⟨none, 0, 0, false, rfl, by rw [HT.out]; rfl, by rw [HT.out], by rw [HT.out]; exact Rd.nil_ _ _ _, HQ.out⟩
  obtain ⟨k, rfl⟩ : ∃ k : Nat, want = (k : Int) := ⟨want.toNat, by omega⟩
  have d2 : decide ((n' : Int) < (k : Int)) = false := decide_eq_false h2
  have hk : k ≤ n' := by omega
  have hkc : (k : Int) ≤ (c' : Int) := by omega
  have hk0 : (0 : Int) ≤ (k : Int) := by omega
  have HT : Hid (takeN hb m (k : Int) = ((freeN hb m).take k, true)) := Lib.hid (by unfold takeN; rw [if_pos ⟨by omega, by rw [HL.out]; omega⟩, Int.toNat_natCast])
  have HK : Hid (((freeN hb m).take k).length = k) := Lib.hid (by rw [List.length_take, HL.out]; omega)
  go_wp2_with fail
  exact bodyPost_ret (v := .tuple #[.slice A' k c', .bool true]) (by simp [results, Try.results23, go_sem]) rfl ⟨_, _, k, true, rfl, by rw [HT.out]; exact HK.out, by rw [HT.out], by rw [HT.out]; exact HRD.out.cut k, HQ.out⟩
end Go.Proofs.Ytkfokgkehlcikaa
