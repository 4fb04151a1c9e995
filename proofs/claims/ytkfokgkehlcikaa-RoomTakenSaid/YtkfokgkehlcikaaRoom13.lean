/-
  What is such, what is free, what is taken: the law.
-/
import Derived.Test.YtkfokgkehlcikaaRoom12
namespace Go.Proofs.Ytkfokgkehlcikaa
open Go.RowKit Go.WideMaps Go.Maps
set_option linter.unusedVariables false
set_option linter.unusedSimpArgs false
attribute [local go_sem ↓] Go.wp_at_zero Go.wp_at_succ

set_option maxRecDepth 100000 in
set_option maxHeartbeats 4000000 in
theorem law_tells (w : World) (A : Option Addr) (c n : Nat) (l : List Nd) (hn : l.length = n) (hr : RdN w w.heap.size A c l) (hs : ∀ j, j < n → (l.getD j default).name.size ≤ 9223372036854775807 ∧ (l.getD j default).size ≤ 9223372036854775807) (hmx : n * 48 ≤ 140737488351232) (places want : Int) :
    Calls Try.prog 6 #[.slice A n c, .int .i64 places, .int .i64 want] w fun e w' => e = .returned (.bool true) ∧ Below w.heap.size w w' := by
  have HMY := Lib.hid (many_any w A c n l hn hr)
  have HOF : Hid (∀ W, Below w.heap.size w W → Calls Try.prog 18 #[.slice A n c] W fun e w' => ∃ A' c', e = .returned (.slice A' n c') ∧ RdN w' w'.heap.size A' c' l ∧ Below W.heap.size W w') := Lib.hid fun W hW => of_any W A c n l hn ((hr.under hW).more hW.size) hmx
  have HKN := Lib.hid known4_any
  have HIR : Hid (∀ W A' c', RdN W W.heap.size A' c' l → ∀ v, (v = true ↔ RoomOk l places) → Calls Try.prog 19 #[.slice A' n c', .int .i64 places] W fun e w' => e = .returned (.bool v) ∧ Below W.heap.size W w') := Lib.hid fun W A' c' hR v hv => room'_any W A' c' n l hn hR hs places v hv
  have HIP : Hid (∀ W, Below w.heap.size w W → ∀ v, (v = true ↔ RoomOk l places) → Calls Try.prog 20 #[.slice A n c, .int .i64 places] W fun e w' => e = .returned (.bool v) ∧ Below W.heap.size W w') := Lib.hid fun W hW v hv => room_any W A c n l hn ((hr.under hW).more hW.size) hs places v hv
  by_cases hok : RoomOk l places
  case neg =>
    have hipf : Hid (∀ W, Below w.heap.size w W → Calls Try.prog 20 #[.slice A n c, .int .i64 places] W fun e w' => e = .returned (.bool false) ∧ Below W.heap.size W w') := Lib.hid fun W hW => HIP.out W hW false ⟨(fun e => by cases e), fun e => absurd e hok⟩
    have hirf : Hid (∀ W A' c', RdN W W.heap.size A' c' l → Calls Try.prog 19 #[.slice A' n c', .int .i64 places] W fun e w' => e = .returned (.bool false) ∧ Below W.heap.size W w') := Lib.hid fun W A' c' hR => HIR.out W A' c' hR false ⟨(fun e => by cases e), fun e => absurd e hok⟩
    clear hn hr hs hok HIR HIP
    go_enter Try.func6, Try.ntmps6
    go_wp2_with fail
    refine HMY.out.mono ?_
    rintro e w1 ⟨b, rfl, hb1⟩
    have HB1 := Lib.hid hb1
    clear hb1 HMY
    cases b
    case true =>
      go_wp2_with fail
      go_ret
      exact ⟨rfl, HB1.out⟩
    case false =>
      go_wp2_with fail
      refine (HOF.out _ HB1.out).mono ?_
      rintro e w2 ⟨A2, c2, rfl, hr2, hb2⟩
      have HB2 := Lib.hid (HB1.out.trans (hb2.mono HB1.out.size))
      have HR2 := Lib.hid hr2
      clear hb2 hr2 HOF HB1
      -- the three ways in which it may be none
      by_cases h0 : 0 ≤ places
      case neg =>
        have d0 : decide (0 ≤ places) = false := decide_eq_false h0
        go_wp2_with fail
        refine (hipf.out _ HB2.out).mono ?_
        rintro e w3 ⟨rfl, hb3⟩
        have HB3 := Lib.hid (HB2.out.trans (hb3.mono HB2.out.size))
        clear hb3 HB2
        go_wp2_with fail
        refine (hipf.out _ HB3.out).mono ?_
        rintro e w4 ⟨rfl, hb4⟩
        have HB4 := Lib.hid (HB3.out.trans (hb4.mono HB3.out.size))
        clear hb4 HB3
        go_wp2_with fail
        refine (HKN.out _).mono ?_
        rintro e w5 ⟨rfl, hb5⟩
        have HB5 := Lib.hid (HB4.out.trans (hb5.mono HB4.out.size))
        clear hb5 HB4
        go_wp2_with fail
        go_ret
        exact ⟨rfl, HB5.out⟩
      have d0 : decide (0 ≤ places) = true := decide_eq_true h0
      by_cases h1 : places ≤ 2000
      case neg =>
        have d1 : decide (places ≤ 2000) = false := decide_eq_false h1
        go_wp2_with fail
        refine (hipf.out _ HB2.out).mono ?_
        rintro e w3 ⟨rfl, hb3⟩
        have HB3 := Lib.hid (HB2.out.trans (hb3.mono HB2.out.size))
        clear hb3 HB2
        go_wp2_with fail
        refine (hipf.out _ HB3.out).mono ?_
        rintro e w4 ⟨rfl, hb4⟩
        have HB4 := Lib.hid (HB3.out.trans (hb4.mono HB3.out.size))
        clear hb4 HB3
        go_wp2_with fail
        refine (HKN.out _).mono ?_
        rintro e w5 ⟨rfl, hb5⟩
        have HB5 := Lib.hid (HB4.out.trans (hb5.mono HB4.out.size))
        clear hb5 HB4
        go_wp2_with fail
        go_ret
        exact ⟨rfl, HB5.out⟩
      have d1 : decide (places ≤ 2000) = true := decide_eq_true h1
      go_wp2_with fail
      refine (hirf.out _ _ _ HR2.out).mono ?_
      rintro e w2' ⟨rfl, hb2'⟩
      have HB2' := Lib.hid (HB2.out.trans (hb2'.mono HB2.out.size))
      clear hb2' HB2 HR2
      go_wp2_with fail
      refine (hipf.out _ HB2'.out).mono ?_
      rintro e w3 ⟨rfl, hb3⟩
      have HB3 := Lib.hid (HB2'.out.trans (hb3.mono HB2'.out.size))
      clear hb3 HB2'
      go_wp2_with fail
      refine (hipf.out _ HB3.out).mono ?_
      rintro e w4 ⟨rfl, hb4⟩
      have HB4 := Lib.hid (HB3.out.trans (hb4.mono HB3.out.size))
      clear hb4 HB3
      go_wp2_with fail
      refine (HKN.out _).mono ?_
      rintro e w5 ⟨rfl, hb5⟩
      have HB5 := Lib.hid (HB4.out.trans (hb5.mono HB4.out.size))
      clear hb5 HB4
      go_wp2_with fail
      go_ret
      exact ⟨rfl, HB5.out⟩
  case pos =>
    have hp0 := hok.m0
    have hp1 := hok.m1
    obtain ⟨m, rfl⟩ : ∃ m : Nat, places = (m : Int) := ⟨places.toNat, by omega⟩
    obtain ⟨hb, hh⟩ : ∃ hb : Nat → Bool, ∀ x : Nat, hb x = true ↔ hasL l x n := ⟨fun x => @decide (hasL l x n) (Classical.propDecidable _), fun x => by simp⟩
    have d0 : decide (0 ≤ (m : Int)) = true := decide_eq_true hp0
    have d1 : decide ((m : Int) ≤ 2000) = true := decide_eq_true hp1
    have hy : (m : Int) = 40 + ((m - 40 : Nat) : Int) ∨ (m - 40 = 0 ∧ (m : Int) ≤ 40) := by omega
    have hipf : Hid (∀ W, Below w.heap.size w W → Calls Try.prog 20 #[.slice A n c, .int .i64 (m : Int)] W fun e w' => e = .returned (.bool true) ∧ Below W.heap.size W w') := Lib.hid fun W hW => HIP.out W hW true ⟨fun _ => hok, fun _ => rfl⟩
    have hirf : Hid (∀ W A' c', RdN W W.heap.size A' c' l → Calls Try.prog 19 #[.slice A' n c', .int .i64 (m : Int)] W fun e w' => e = .returned (.bool true) ∧ Below W.heap.size W w') := Lib.hid fun W A' c' hR => HIR.out W A' c' hR true ⟨fun _ => hok, fun _ => rfl⟩
    have HTP : Hid (∀ W, Below w.heap.size w W → Calls Try.prog 22 #[.slice A n c, .int .i64 (m : Int), .int .i64 want] W fun e w' => ∃ A' c' n' b, e = .returned (.tuple #[.slice A' n' c', .bool b]) ∧ (takeN hb (m - 40) want).1.length = n' ∧ (takeN hb (m - 40) want).2 = b ∧ Rd .i64 w' w'.heap.size A' c' (takeN hb (m - 40) want).1 ∧ Below W.heap.size W w') := Lib.hid fun W hW => take_yes W A c n l hn ((hr.under hW).more hW.size) hs m want hok hb hh
    have HTR : Hid (∀ W A' c', RdN W W.heap.size A' c' l → Calls Try.prog 23 #[.slice A' n c', .int .i64 (m : Int), .int .i64 want] W fun e w' => ∃ A' c' n' b, e = .returned (.tuple #[.slice A' n' c', .bool b]) ∧ (takeN hb (m - 40) want).1.length = n' ∧ (takeN hb (m - 40) want).2 = b ∧ Rd .i64 w' w'.heap.size A' c' (takeN hb (m - 40) want).1 ∧ Below W.heap.size W w') := Lib.hid fun W A' c' hR => take'_any W W.heap.size A' c' n l hn hR (Nat.le_refl _) (m - 40) (by omega) (m : Int) hy hb hh want
    have HFP : Hid (∀ W, Below w.heap.size w W → Calls Try.prog 25 #[.slice A n c, .int .i64 (m : Int)] W fun e w' => ∃ A' c' n', e = .returned (.slice A' n' c') ∧ (freeN hb (m - 40)).length = n' ∧ Own .i64 3 w' W.heap.size A' c' (freeN hb (m - 40)) ∧ Below W.heap.size W w') := Lib.hid fun W hW => free_yes W A c n l hn ((hr.under hW).more hW.size) hs m hok hb hh
    have HFR : Hid (∀ W A' c', RdN W W.heap.size A' c' l → Calls Try.prog 26 #[.slice A' n c', .int .i64 (m : Int)] W fun e w' => ∃ A' c' n', e = .returned (.slice A' n' c') ∧ (freeN hb (m - 40)).length = n' ∧ Own .i64 3 w' W.heap.size A' c' (freeN hb (m - 40)) ∧ Below W.heap.size W w') := Lib.hid fun W A' c' hR => free'_any W W.heap.size A' c' n l hn hR (Nat.le_refl _) (m - 40) (by omega) (m : Int) hy hb hh
    clear hn hr hs hok HIR HIP hh hy
    go_enter Try.func6, Try.ntmps6
    go_wp2_with fail
    refine HMY.out.mono ?_
    rintro e w1 ⟨b, rfl, hb1⟩
    have HB1 := Lib.hid hb1
    clear hb1 HMY
    cases b
    case true =>
      go_wp2_with fail
      go_ret
      exact ⟨rfl, HB1.out⟩
    case false =>
      go_wp2_with fail
      refine (HOF.out _ HB1.out).mono ?_
      rintro e w2 ⟨A2, c2, rfl, hr2, hb2⟩
      have HB2 := Lib.hid (HB1.out.trans (hb2.mono HB1.out.size))
      have HR2 : Hid (∀ W, Below w2.heap.size w2 W → RdN W W.heap.size A2 c2 l) := Lib.hid fun W hW => (hr2.under hW).more hW.size
      clear hb2 hr2 HOF HB1
      go_wp2_with fail
      refine (hirf.out _ _ _ (HR2.out _ (Below.refl _ _))).mono ?_
      rintro e w3 ⟨rfl, hb3⟩
      have HX3 := Lib.hid hb3
      have HB3 := Lib.hid (HB2.out.trans (hb3.mono HB2.out.size))
      clear hb3
      go_wp2_with fail
      refine (hipf.out _ HB3.out).mono ?_
      rintro e w4 ⟨rfl, hb4⟩
      have HX4 := Lib.hid (HX3.out.trans (hb4.mono HX3.out.size))
      have HB4 := Lib.hid (HB3.out.trans (hb4.mono HB3.out.size))
      clear hb4 HX3 HB3
      go_wp2_with fail
      refine (HTP.out _ HB4.out).mono ?_
      rintro e w5 ⟨A5, c5, n5, b5, rfl, h51, h52, h53, hb5⟩
      have HX5 := Lib.hid (HX4.out.trans (hb5.mono HX4.out.size))
      have HB5 := Lib.hid (HB4.out.trans (hb5.mono HB4.out.size))
      have HL5 := Lib.hid h51
      have HC5 := Lib.hid h52
      have HR5 : Hid (∀ W, Below w5.heap.size w5 W → Rd .i64 W W.heap.size A5 c5 (takeN hb (m - 40) want).1) := Lib.hid fun W hW => (h53.under hW).more hW.size
      clear hb5 h51 h52 h53 HX4 HB4 HTP
      go_wp2_with fail
      refine (HTR.out _ _ _ (HR2.out _ HX5.out)).mono ?_
      rintro e w6 ⟨A6, c6, n6, b6, rfl, h61, h62, h63, hb6⟩
      have HX6 := Lib.hid (HX5.out.trans (hb6.mono HX5.out.size))
      have HB6 := Lib.hid (HB5.out.trans (hb6.mono HB5.out.size))
      have HY6 := Lib.hid hb6
      obtain rfl : n5 = n6 := by rw [← h61, HL5.out]
      obtain rfl : b5 = b6 := by rw [← h62, HC5.out]
      have HR6 : Hid (∀ W, Below w6.heap.size w6 W → Rd .i64 W W.heap.size A6 c6 (takeN hb (m - 40) want).1) := Lib.hid fun W hW => (h63.under hW).more hW.size
      clear hb6 h61 h62 h63 HX5 HB5 HTR
      go_wp2_with fail
      refine (HFP.out _ HB6.out).mono ?_
      rintro e w7 ⟨A7, c7, n7, rfl, h71, h72, hb7⟩
      have HX7 := Lib.hid (HX6.out.trans (hb7.mono HX6.out.size))
      have HB7 := Lib.hid (HB6.out.trans (hb7.mono HB6.out.size))
      have HY7 := Lib.hid hb7
      have HL7 := Lib.hid h71
      have HR7 : Hid (∀ W, Below w7.heap.size w7 W → Rd .i64 W W.heap.size A7 c7 (freeN hb (m - 40))) := Lib.hid fun W hW => (h72.rd.under hW).more hW.size
      clear hb7 h71 h72 HX6 HB6 HFP
      go_wp2_with fail
      refine (HFR.out _ _ _ (HR2.out _ HX7.out)).mono ?_
      rintro e w8 ⟨A8, c8, n8, rfl, h81, h82, hb8⟩
      obtain rfl : n7 = n8 := by rw [← h81, HL7.out]
      have HC8 := Lib.hid (ints_nat w8 _ _ _ _ c7 c8 n7 n7 _ _ HL7.out h81 (HR7.out _ hb8) h82.rd true ⟨fun _ => rfl, fun _ => rfl⟩)
      have HX8 := Lib.hid (HX7.out.trans (hb8.mono HX7.out.size))
      have HB8 := Lib.hid (HB7.out.trans (hb8.mono HB7.out.size))
      have HY8 : Hid (Below w6.heap.size w6 w8) := Lib.hid (HY7.out.trans (hb8.mono HY7.out.size))
      clear hb8 h81 h82 HX7 HB7 HFR
      go_wp2_with fail
      refine HC8.out.mono ?_
      rintro e w9 ⟨rfl, q, rfl⟩
      have HC9 := Lib.hid (ints_nat (w8.drewN q) _ _ _ _ c5 c6 n5 n5 _ _ HL5.out HL5.out (HR5.out _ (below_drewN (HY6.out.trans (HY8.out.mono HY6.out.size)) q)) (HR6.out _ (below_drewN HY8.out q)) true ⟨fun _ => rfl, fun _ => rfl⟩)
      have HB9 := Lib.hid (below_drewN HB8.out q)
      clear HC8 HB8
      generalize w8.drewN q = W9 at *
      go_wp2_with fail
      refine HC9.out.mono ?_
      rintro e w10 ⟨rfl, q2, rfl⟩
      have HB10 := Lib.hid (below_drewN HB9.out q2)
      clear HC9 HB9
      generalize W9.drewN q2 = W10 at *
      have hbb : (b5 == b5) = true := by cases b5 <;> rfl
      go_wp2_with fail
      refine (HKN.out _).mono ?_
      rintro e w11 ⟨rfl, hb11⟩
      have HB11 := Lib.hid (HB10.out.trans (hb11.mono HB10.out.size))
      clear hb11 HB10
      go_wp2_with fail
      go_ret
      exact ⟨rfl, HB11.out⟩
end Go.Proofs.Ytkfokgkehlcikaa
