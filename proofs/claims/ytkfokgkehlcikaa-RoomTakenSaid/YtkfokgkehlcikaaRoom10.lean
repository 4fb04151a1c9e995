/-
  So many of the free places: by the program.
-/
import Derived.Test.YtkfokgkehlcikaaRoom9
namespace Go.Proofs.Ytkfokgkehlcikaa
open Go.RowKit Go.WideMaps Go.Maps
set_option linter.unusedVariables false
set_option linter.unusedSimpArgs false

theorem RdN.more {w : World} {B B' : Nat} {A : Option Addr} {c : Nat} {l : List Nd} (h : RdN w B A c l) (hB : B ≤ B') : RdN w B' A c l :=
  ⟨h.1, h.2.1, fun j hj => (h.2.2.1 j hj).more hB, fun hn => by
    obtain ⟨b, off, e, hlt, hc⟩ := h.2.2.2 hn
    exact ⟨b, off, e, by omega, hc⟩⟩
set_option maxRecDepth 100000 in
set_option maxHeartbeats 2000000 in
theorem take_no (w : World) (A : Option Addr) (c n : Nat) (l : List Nd) (hn : l.length = n) (hr : RdN w w.heap.size A c l) (hs : ∀ j, j < n → (l.getD j default).name.size ≤ 9223372036854775807 ∧ (l.getD j default).size ≤ 9223372036854775807) (many want : Int) (hv : ¬ RoomOk l many) :
    Calls Try.prog 22 #[.slice A n c, .int .i64 many, .int .i64 want] w fun e w' => e = .returned (.tuple #[.slice none 0 0, .bool false]) ∧ Below w.heap.size w w' := by
  have HC := Lib.hid (free_no w A c n l hn hr hs many hv)
  have HI : Hid (∀ W, Below w.heap.size w W → Calls Try.prog 20 #[.slice A n c, .int .i64 many] W fun e w' => e = .returned (.bool false) ∧ Below w.heap.size w w') := Lib.hid fun W hW => (room_any W A c n l hn ((hr.under hW).more hW.size) hs many false ⟨(fun e => by cases e), fun e => absurd e hv⟩).mono fun _ _ h => ⟨h.1, hW.trans (h.2.mono hW.size)⟩
  clear hn hr hs hv
  go_enter Try.func22, Try.ntmps22
  go_wp2_with fail
  refine HC.out.mono ?_
  rintro e w1 ⟨rfl, hb1⟩
  have HB := Lib.hid hb1
  clear hb1 HC
  go_wp2_with fail
  refine (HI.out _ HB.out).mono ?_
  rintro e w2 ⟨rfl, hb2⟩
  have HB2 := Lib.hid hb2
  clear hb2 HI
  go_wp2_with fail
  exact bodyPost_ret (v := .tuple #[.slice none 0 0, .bool false]) (by simp [results, Try.results22, go_sem]) rfl ⟨rfl, HB2.out⟩

set_option maxRecDepth 100000 in
set_option maxHeartbeats 2000000 in
theorem take_yes (w : World) (A : Option Addr) (c n : Nat) (l : List Nd) (hn : l.length = n) (hr : RdN w w.heap.size A c l) (hs : ∀ j, j < n → (l.getD j default).name.size ≤ 9223372036854775807 ∧ (l.getD j default).size ≤ 9223372036854775807) (m : Nat) (want : Int) (hv : RoomOk l (m : Int)) (hb : Nat → Bool) (hh : ∀ x : Nat, hb x = true ↔ hasL l x n) :
    Calls Try.prog 22 #[.slice A n c, .int .i64 (m : Int), .int .i64 want] w fun e w' => ∃ A' c' n' b, e = .returned (.tuple #[.slice A' n' c', .bool b]) ∧ (takeN hb (m - 40) want).1.length = n' ∧ (takeN hb (m - 40) want).2 = b ∧ Rd .i64 w' w'.heap.size A' c' (takeN hb (m - 40) want).1 ∧ Below w.heap.size w w' := by
  have HF := Lib.hid (free_yes w A c n l hn hr hs m hv hb hh)
  have HI : Hid (∀ W, Below w.heap.size w W → Calls Try.prog 20 #[.slice A n c, .int .i64 (m : Int)] W fun e w' => e = .returned (.bool true) ∧ Below W.heap.size W w' ∧ Below w.heap.size w w') := Lib.hid fun W hW => (room_any W A c n l hn ((hr.under hW).more hW.size) hs (m : Int) true ⟨fun _ => hv, fun _ => rfl⟩).mono fun _ _ h => ⟨h.1, h.2, hW.trans (h.2.mono hW.size)⟩
  clear hn hr hs hv hh
  go_enter Try.func22, Try.ntmps22
  go_wp2_with fail
  refine HF.out.mono ?_
  rintro e w1 ⟨A', c', n', rfl, hl, ho, hq⟩
  have hrd := ho.rd
  have HL := Lib.hid hl
  have HRD1 := Lib.hid hrd
  have HQ1 := Lib.hid hq
  have hcap : n' ≤ c' := by have := hrd.1; omega
  have hc63 := hrd.2.1
  clear hl ho hq hrd HF
  go_wp2_with fail
  refine (HI.out _ HQ1.out).mono ?_
  rintro e w2 ⟨rfl, hb2, hb3⟩
  have HRD : Hid (Rd .i64 w2 w2.heap.size A' c' (freeN hb (m - 40))) := Lib.hid ((HRD1.out.under hb2).more hb2.size)
  have HQ := Lib.hid hb3
  clear hb2 hb3 HI HRD1 HQ1
  by_cases h1 : want < 0
  case pos =>
    have d1 : decide (want < 0) = true := decide_eq_true h1
    have HT : Hid (takeN hb (m - 40) want = ([], false)) := Lib.hid (by unfold takeN; rw [if_neg (by omega)])
    go_wp2_with fail
    exact bodyPost_ret (v := .tuple #[.slice none 0 0, .bool false]) (by simp [results, Try.results22, go_sem]) rfl ⟨none, 0, 0, false, rfl, by rw [HT.out]; rfl, by rw [HT.out], by rw [HT.out]; exact Rd.nil_ _ _ _, HQ.out⟩
  have d1 : decide (want < 0) = false := decide_eq_false h1
  by_cases h2 : (n' : Int) < want
  case pos =>
    have d2 : decide ((n' : Int) < want) = true := decide_eq_true h2
    have HT : Hid (takeN hb (m - 40) want = ([], false)) := Lib.hid (by unfold takeN; rw [if_neg (by rw [HL.out]; omega)])
    go_wp2_with fail
    exact bodyPost_ret (v := .tuple #[.slice none 0 0, .bool false]) (by simp [results, Try.results22, go_sem]) rfl ⟨none, 0, 0, false, rfl, by rw [HT.out]; rfl, by rw [HT.out], by rw [HT.out]; exact Rd.nil_ _ _ _, HQ.out⟩
  obtain ⟨k, rfl⟩ : ∃ k : Nat, want = (k : Int) := ⟨want.toNat, by omega⟩
  have d2 : decide ((n' : Int) < (k : Int)) = false := decide_eq_false h2
  have hk : k ≤ n' := by omega
  have hkc : (k : Int) ≤ (c' : Int) := by omega
  have hk0 : (0 : Int) ≤ (k : Int) := by omega
  have HT : Hid (takeN hb (m - 40) (k : Int) = ((freeN hb (m - 40)).take k, true)) := Lib.hid (by unfold takeN; rw [if_pos ⟨by omega, by rw [HL.out]; omega⟩, Int.toNat_natCast])
  have HK : Hid (((freeN hb (m - 40)).take k).length = k) := Lib.hid (by rw [List.length_take, HL.out]; omega)
  go_wp2_with fail
  exact bodyPost_ret (v := .tuple #[.slice A' k c', .bool true]) (by simp [results, Try.results22, go_sem]) rfl ⟨_, _, k, true, rfl, by rw [HT.out]; exact HK.out, by rw [HT.out], by rw [HT.out]; exact HRD.out.cut k, HQ.out⟩
end Go.Proofs.Ytkfokgkehlcikaa
