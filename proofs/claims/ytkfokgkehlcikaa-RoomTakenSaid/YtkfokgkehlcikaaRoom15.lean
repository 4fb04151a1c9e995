/-
  What is taken was free, rises, and is gone once a node has it: the law.
-/
import Derived.Test.YtkfokgkehlcikaaRoom14
namespace Go.Proofs.Ytkfokgkehlcikaa
open Go.RowKit Go.WideMaps Go.Maps
set_option linter.unusedVariables false
set_option linter.unusedSimpArgs false
attribute [local go_sem ↓] Go.wp_at_zero Go.wp_at_succ

set_option maxRecDepth 100000 in
set_option maxHeartbeats 4000000 in
theorem law_taken (w : World) (A : Option Addr) (c n : Nat) (l : List Nd) (hn : l.length = n) (hr : RdN w w.heap.size A c l) (hs : ∀ j, j < n → (l.getD j default).name.size ≤ 9223372036854775807 ∧ (l.getD j default).size ≤ 9223372036854775807) (hmx : n * 48 ≤ 140737488351232) (places want : Int) :
    Calls Try.prog 7 #[.slice A n c, .int .i64 places, .int .i64 want] w fun e w' => e = .returned (.bool true) ∧ Below w.heap.size w w' := by
  have HMY := Lib.hid (many_any w A c n l hn hr)
  have HOF : Hid (∀ W, Below w.heap.size w W → Calls Try.prog 18 #[.slice A n c] W fun e w' => ∃ A' c', e = .returned (.slice A' n c') ∧ RdN w' w'.heap.size A' c' l ∧ Below W.heap.size W w') := Lib.hid fun W hW => of_any W A c n l hn ((hr.under hW).more hW.size) hmx
  have HKN := Lib.hid known4_any
  have hlc : n ≤ c := by have := hr.1; omega
  have hc63 := hr.2.1
  have HIR : Hid (∀ W A' c', RdN W W.heap.size A' c' l → ∀ v, (v = true ↔ RoomOk l places) → Calls Try.prog 19 #[.slice A' n c', .int .i64 places] W fun e w' => e = .returned (.bool v) ∧ Below W.heap.size W w') := Lib.hid fun W A' c' hR v hv => room'_any W A' c' n l hn hR hs places v hv
  have HNM : Hid (∀ W, Below w.heap.size w W → ∀ v, (v = true ↔ ∃ j, j < n ∧ (l.getD j default).name = taken) → Calls Try.prog 27 #[.slice A n c, .string taken] W fun e w' => e = .returned (.bool v) ∧ ∃ q, w' = W.drewN q) := Lib.hid fun W hW v hv => namedL_any W w.heap.size A c n l hn (hr.under hW) taken v hv
  have HN := Lib.hid hn
  have HR : Hid (∀ W, Below w.heap.size w W → RdN W w.heap.size A c l) := Lib.hid fun W hW => hr.under hW
  have HS := Lib.hid hs
  clear hn hr hs
  go_enter Try.func7, Try.ntmps7
  go_wp2_with fail
  refine HMY.out.mono ?_
  rintro e w1 ⟨b, rfl, hb1⟩
  have HB1 := Lib.hid hb1
  clear hb1 HMY
  cases b
  case true =>
    go_wp2_with fail
    go_ret
    exact ⟨rfl, HB1.out⟩
  case false =>
  by_cases g1 : 30 < n
  case pos =>
    have d1 : decide ((30 : Int) < (n : Int)) = true := decide_eq_true (by omega)
    go_wp2_with fail
    go_ret
    exact ⟨rfl, HB1.out⟩
  have d1 : decide ((30 : Int) < (n : Int)) = false := decide_eq_false (by omega)
  by_cases g2 : places < 0
  case pos =>
    have d2 : decide (places < 0) = true := decide_eq_true g2
    go_wp2_with fail
    go_ret
    exact ⟨rfl, HB1.out⟩
  have d2 : decide (places < 0) = false := decide_eq_false g2
  by_cases g3 : 2000 < places
  case pos =>
    have d3 : decide (2000 < places) = true := decide_eq_true g3
    go_wp2_with fail
    go_ret
    exact ⟨rfl, HB1.out⟩
  have d3 : decide (2000 < places) = false := decide_eq_false g3
  by_cases g4 : want < 0
  case pos =>
    have d4 : decide (want < 0) = true := decide_eq_true g4
    go_wp2_with fail
    go_ret
    exact ⟨rfl, HB1.out⟩
  have d4 : decide (want < 0) = false := decide_eq_false g4
  by_cases g5 : 9 < want
  case pos =>
    have d5 : decide (9 < want) = true := decide_eq_true g5
    go_wp2_with fail
    go_ret
    exact ⟨rfl, HB1.out⟩
  have d5 : decide (9 < want) = false := decide_eq_false g5
  by_cases hok : RoomOk l places
  case neg =>
    have hirf : Hid (∀ W A' c', RdN W W.heap.size A' c' l → Calls Try.prog 19 #[.slice A' n c', .int .i64 places] W fun e w' => e = .returned (.bool false) ∧ Below W.heap.size W w') := Lib.hid fun W A' c' hR => HIR.out W A' c' hR false ⟨(fun e => by cases e), fun e => absurd e hok⟩
    clear hok
    go_wp2_with fail
    refine (HOF.out _ HB1.out).mono ?_
    rintro e w2 ⟨A2, c2, rfl, hr2, hb2⟩
    have HB2 := Lib.hid (HB1.out.trans (hb2.mono HB1.out.size))
    have HR2 := Lib.hid hr2
    clear hb2 hr2 HOF HB1
    go_wp2_with fail
    refine (hirf.out _ _ _ HR2.out).mono ?_
    rintro e w3 ⟨rfl, hb3⟩
    have HB3 := Lib.hid (HB2.out.trans (hb3.mono HB2.out.size))
    clear hb3 HB2 HR2
    go_wp2_with fail
    go_ret
    exact ⟨rfl, HB3.out⟩
  case pos =>
  obtain ⟨m, rfl⟩ : ∃ m : Nat, places = (m : Int) := ⟨places.toNat, by omega⟩
  obtain ⟨k, rfl⟩ : ∃ k : Nat, want = (k : Int) := ⟨want.toNat, by omega⟩
  have hk9 : k ≤ 9 := by omega
  have hn30 : n ≤ 30 := by omega
  obtain ⟨hb, hh⟩ : ∃ hb : Nat → Bool, ∀ x : Nat, hb x = true ↔ hasL l x n := ⟨fun x => @decide (hasL l x n) (Classical.propDecidable _), fun x => by simp⟩
  have hy : (m : Int) = 40 + ((m - 40 : Nat) : Int) ∨ (m - 40 = 0 ∧ (m : Int) ≤ 40) := by omega
  have hirf : Hid (∀ W A' c', RdN W W.heap.size A' c' l → Calls Try.prog 19 #[.slice A' n c', .int .i64 (m : Int)] W fun e w' => e = .returned (.bool true) ∧ Below W.heap.size W w') := Lib.hid fun W A' c' hR => HIR.out W A' c' hR true ⟨fun _ => hok, fun _ => rfl⟩
  have HTP : Hid (∀ W, Below w.heap.size w W → Calls Try.prog 22 #[.slice A n c, .int .i64 (m : Int), .int .i64 (k : Int)] W fun e w' => ∃ A' c' n' b, e = .returned (.tuple #[.slice A' n' c', .bool b]) ∧ (takeN hb (m - 40) (k : Int)).1.length = n' ∧ (takeN hb (m - 40) (k : Int)).2 = b ∧ Rd .i64 w' w'.heap.size A' c' (takeN hb (m - 40) (k : Int)).1 ∧ Below W.heap.size W w') := Lib.hid fun W hW => take_yes W A c n l HN.out ((HR.out W hW).more hW.size) HS.out m (k : Int) hok hb hh
  have HFP : Hid (∀ W, Below w.heap.size w W → Calls Try.prog 25 #[.slice A n c, .int .i64 (m : Int)] W fun e w' => ∃ A' c' n', e = .returned (.slice A' n' c') ∧ (freeN hb (m - 40)).length = n' ∧ Own .i64 3 w' W.heap.size A' c' (freeN hb (m - 40)) ∧ Below W.heap.size W w') := Lib.hid fun W hW => free_yes W A c n l HN.out ((HR.out W hW).more hW.size) HS.out m hok hb hh
  have HFR : Hid (∀ W A' c', RdN W W.heap.size A' c' l → Calls Try.prog 26 #[.slice A' n c', .int .i64 (m : Int)] W fun e w' => ∃ A' c' n', e = .returned (.slice A' n' c') ∧ (freeN hb (m - 40)).length = n' ∧ Own .i64 3 w' W.heap.size A' c' (freeN hb (m - 40)) ∧ Below W.heap.size W w') := Lib.hid fun W A' c' hR => free'_any W W.heap.size A' c' n l HN.out hR (Nat.le_refl _) (m - 40) (by omega) (m : Int) hy hb hh
  have HOK := Lib.hid hok
  have HH := Lib.hid hh
  clear hok hh hy HIR
  go_wp2_with fail
  refine (HOF.out _ HB1.out).mono ?_
  rintro e w2 ⟨A2, c2, rfl, hr2, hb2⟩
  have HB2 := Lib.hid (HB1.out.trans (hb2.mono HB1.out.size))
  have HR2 := Lib.hid hr2
  clear hb2 hr2 HB1
  go_wp2_with fail
  refine (hirf.out _ _ _ HR2.out).mono ?_
  rintro e w3 ⟨rfl, hb3⟩
  have HB3 := Lib.hid (HB2.out.trans (hb3.mono HB2.out.size))
  clear hb3 HB2 HR2
  go_wp2_with fail
  clear d1 d2 d3 d4 d5
  refine (HTP.out _ HB3.out).mono ?_
  rintro e w4 ⟨A4, c4, n4, b4, rfl, h41, h42, h43, hb4⟩
  have HB4 := Lib.hid (HB3.out.trans (hb4.mono HB3.out.size))
  have HL4 := Lib.hid h41
  have HC4 := Lib.hid h42
  have HR4 := Lib.hid h43
  clear hb4 h41 h42 h43 HB3 HTP
  cases b4
  case false =>
    have hT : takeN hb (m - 40) (k : Int) = ([], false) ∧ (freeN hb (m - 40)).length < k := by
      have hc := HC4.out
      unfold takeN at hc ⊢
      by_cases h : 0 ≤ (k : Int) ∧ (k : Int) ≤ ((freeN hb (m - 40)).length : Int)
      · rw [if_pos h] at hc; cases hc
      · rw [if_neg h]; exact ⟨rfl, by omega⟩
    obtain rfl : n4 = 0 := by rw [← HL4.out, hT.1]; rfl
    have HLT := Lib.hid hT.2
    clear hT
    go_wp2_with fail
    refine (HFP.out _ HB4.out).mono ?_
    rintro e w5 ⟨A5, c5, n5, rfl, h51, _, hb5⟩
    have HB5 := Lib.hid (HB4.out.trans (hb5.mono HB4.out.size))
    have hlt : decide (n5 < k) = true := decide_eq_true (by have := HLT.out; omega)
    clear h51 hb5 HB4 HFP HLT
    go_wp2_with fail
    refine (HKN.out _).mono ?_
    rintro e w6 ⟨rfl, hb6⟩
    have HB6 := Lib.hid (HB5.out.trans (hb6.mono HB5.out.size))
    clear hb6 HB5
    go_wp2_with fail
    go_ret
    exact ⟨rfl, HB6.out⟩
  case true =>
    have hT : takeN hb (m - 40) (k : Int) = ((freeN hb (m - 40)).take k, true) ∧ k ≤ (freeN hb (m - 40)).length := by
      have hc := HC4.out
      unfold takeN at hc ⊢
      by_cases h : 0 ≤ (k : Int) ∧ (k : Int) ≤ ((freeN hb (m - 40)).length : Int)
      · rw [if_pos h]; exact ⟨by rw [Int.toNat_natCast], by omega⟩
      · rw [if_neg h] at hc; cases hc
    have HKF := Lib.hid hT.2
    obtain ⟨a, ha⟩ : ∃ a, a = (freeN hb (m - 40)).take k := ⟨_, rfl⟩
    have HA := Lib.hid ha
    have hak : a.length = k := by rw [ha, List.length_take]; omega
    obtain rfl : n4 = k := by rw [← HL4.out, hT.1, ← ha]; exact hak
    have HAK := Lib.hid hak
    have HRA : Hid (Rd .i64 w4 w4.heap.size A4 c4 a) := Lib.hid (by have := HR4.out; rw [hT.1, ← ha] at this; exact this)
    clear hT HL4 HC4 HR4 ha hak
    have hk64 : IntKind.i64.wrap (64 * (n4 : Int)) = 64 * (n4 : Int) := IntWalk.i64_in _ (by omega)
    obtain ⟨g', c5, w5, hrun5, hgr5, hown5, hat5, hlt5⟩ := run_nodes (w4.alloc (.cells #[] 25)) w.heap.size n ((HR.out w4 HB4.out).under ((Below.refl _ _).alloc (by have := HB4.out.size; omega) _)) HN.out (by omega) w4.heap.size (Holds.fresh w4 _ _) 38
    have HR5 := Lib.hid hrun5
    have HQ5 : Hid (Below w.heap.size w w5) := Lib.hid ((HB4.out.alloc HB4.out.size _).trans ⟨hgr5.os, hgr5.tape, hgr5.output, hgr5.size, fun g hg => hgr5.block g (by have := HB4.out.size; simp; omega) (fun e => by injection e with e; have := HB4.out.size; omega)⟩)
    have HO5 := Lib.hid hown5
    have HG5 : Hid (w4.heap.size ≤ g') := Lib.hid (hat5.elim (fun e => by omega) fun e => by rw [e]; simp)
    have HX5 : Hid (Below w4.heap.size w4 w5) := Lib.hid (((Below.refl _ w4).alloc (Nat.le_refl _) _).trans ⟨hgr5.os, hgr5.tape, hgr5.output, hgr5.size, fun g hg => hgr5.block g (by simp; omega) (fun e => by injection e with e; omega)⟩)
    clear hrun5 hgr5 hown5 hat5 hlt5
    have HO6 : Hid (OwnV 25 3 (w5.alloc (.cells #[.string taken, .int .i64 (64 * (n4 : Int)), .slice A4 n4 c4] 25)) (some ⟨g', 0, none⟩) c5 n (l.flatMap ncell)) := Lib.hid (HO5.out.keep fun g _ hlt => Below.heap_alloc _ _ _ hlt)
    have HH6 : Hid (Holds (w5.alloc (.cells #[.string taken, .int .i64 (64 * (n4 : Int)), .slice A4 n4 c4] 25)) w5.heap.size 25 [Value.string taken, .int .i64 (64 * (n4 : Int)), .slice A4 n4 c4].toArray) := Lib.hid (Holds.fresh _ _ _)
    have HWN : Hid (n ≤ 9000000000000000000 ∧ (n + 1) * 48 ≤ 140737488355328) := Lib.hid (by omega)
    go_wp2_with (first
      | (refine wpList_append_run _ rfl (.tmp 63) (.tmp 64) 38 rfl rfl _ _ rfl rfl _ _ HR5.out ?_)
      | (refine wpList_pushV _ rfl (.tmp 65) (.tmp 70) 38 rfl 25 (.agg #[.string ByteArray.empty, .int .i64 0, .slice none 0 0]) 3 48 Try.underlying38 info_node rfl (by omega) (by omega) rfl HO6.out rfl rfl (by intro u hu; simp at hu; rcases hu with rfl | rfl | rfl <;> rfl) HH6.out HWN.out ?_; intro g7 c7 w7 ho7 hgr7 hat7 hlt7)
      | fail)
    obtain ⟨W6, hW6⟩ : ∃ W6, w5.alloc (.cells #[.string taken, .int .i64 (64 * (n4 : Int)), .slice A4 n4 c4] 25) = W6 := ⟨_, rfl⟩
    have hx6 : Below w4.heap.size w4 W6 := by rw [← hW6]; exact HX5.out.alloc (by have := HX5.out.size; omega) _
    have hb6 : Below w.heap.size w W6 := HB4.out.trans (hx6.mono HB4.out.size)
    have hgr : W6.grownBy w7 (some g') := by rw [← hW6]; exact hgr7
    have hx7 : Below w4.heap.size w4 w7 := hx6.trans ⟨hgr.os, hgr.tape, hgr.output, hgr.size, fun g hg => hgr.block g (Nat.lt_of_lt_of_le hg hx6.size) (fun e => by injection e with e; have := HG5.out; omega)⟩
    have HB7 : Hid (Below w.heap.size w w7) := Lib.hid (HB4.out.trans (hx7.mono HB4.out.size))
    have hN := HN.out
    have hlp : (plus l n4 A4 c4 a).length = n + 1 := by rw [plus_length, hN]
    have hrp : RdN w7 w7.heap.size (some ⟨g7, 0, none⟩) c7 (plus l n4 A4 c4 a) := by
      refine RdN.of_ownT (e := 25) hlp ?_ fun j hj => ?_
      · have e : (plus l n4 A4 c4 a).flatMap ncell = l.flatMap ncell ++ [Value.string taken, .int .i64 (64 * (n4 : Int)), .slice A4 n4 c4] := by
          unfold plus
          rw [List.flatMap_append]
          simp [ncell, HAK.out]
        rw [e]; exact ho7
      · rcases Nat.lt_or_ge j n with h | h
        · rw [plus_low (by omega)]
          exact ((HR.out w7 HB7.out).2.2.1 j (by omega)).more HB7.out.size
        · obtain rfl : j = n := by omega
          rw [← hN, plus_last]
          exact RdI.of_rd ((HRA.out.under hx7).more hx7.size)
    have hsp : ∀ j, j < n + 1 → ((plus l n4 A4 c4 a).getD j default).name.size ≤ 9223372036854775807 ∧ ((plus l n4 A4 c4 a).getD j default).size ≤ 9223372036854775807 := fun j hj => by
      rcases Nat.lt_or_ge j n with h | h
      · rw [plus_low (by omega)]; exact HS.out j h
      · obtain rfl : j = n := by omega
        rw [← hN, plus_last]
        exact ⟨show taken.size ≤ 9223372036854775807 by decide, by show 64 * (n4 : Int) ≤ _; omega⟩
    have hhl : ∀ x : Nat, hb x = true ↔ hasL l (x : Int) l.length := by rw [hN]; exact HH.out
    have HADD : Hid (¬ (∃ j, j < n ∧ (l.getD j default).name = taken) → RoomOk (plus l n4 A4 c4 a) (m : Int)) := Lib.hid fun h => roomOk_plus HOK.out (by omega) hk9 hhl HA.out HAK.out (by rw [hN]; exact h)
    have HHP : Hid (∀ x : Nat, hasL (plus l n4 A4 c4 a) (x : Int) (n + 1) ↔ hb x = true ∨ x ∈ a) := Lib.hid fun x => by
      have := hasL_plus (l := l) (k := n4) (A := A4) (c := c4) (a := a) (x := x)
      rw [hN] at this
      rw [this, HH.out]
    have HX7 := Lib.hid hx7
    have HLP := Lib.hid hlp
    have HRP := Lib.hid hrp
    have HSP := Lib.hid hsp
    clear hlp hrp hsp hhl hx7 hx6 hb6 hgr ho7 hgr7 hat7 hlt7 hW6 HO6 HH6 HX5 HO5 HQ5 HR5 HG5 hN
    by_cases hok7 : RoomOk (plus l n4 A4 c4 a) (m : Int)
    case neg =>
      have hnm : ∃ j, j < n ∧ (l.getD j default).name = taken := Classical.byContradiction fun h => hok7 (HADD.out h)
      have HNT : Hid (∀ W, Below w.heap.size w W → Calls Try.prog 27 #[.slice A n c, .string taken] W fun e w' => e = .returned (.bool true) ∧ ∃ q, w' = W.drewN q) := Lib.hid fun W hW => HNM.out W hW true ⟨fun _ => hnm, fun _ => rfl⟩
      have HI7 := Lib.hid (room_any w7 _ c7 (n + 1) _ HLP.out HRP.out HSP.out (m : Int) false ⟨(fun e => by cases e), fun e => absurd e hok7⟩)
      clear hok7 hnm HADD HHP HRP HSP HLP
      refine HI7.out.mono ?_
      rintro e w8 ⟨rfl, hb8⟩
      have HB8 := Lib.hid (HB7.out.trans (hb8.mono HB7.out.size))
      clear hb8 HB7 HI7
      go_wp2_with fail
      refine (HOF.out _ HB8.out).mono ?_
      rintro e w9 ⟨A9, c9, rfl, hr9, hb9⟩
      have HB9 := Lib.hid (HB8.out.trans (hb9.mono HB8.out.size))
      have HR9 := Lib.hid hr9
      clear hb9 hr9 HB8
      go_wp2_with fail
      refine (hirf.out _ _ _ HR9.out).mono ?_
      rintro e w10 ⟨rfl, hb10⟩
      have HB10 := Lib.hid (HB9.out.trans (hb10.mono HB9.out.size))
      clear hb10 HB9 HR9
      go_wp2_with fail
      refine (HNT.out _ HB10.out).mono ?_
      rintro e w11 ⟨rfl, q, rfl⟩
      have HB11 := Lib.hid (below_drewN HB10.out q)
      clear HB10
      generalize w10.drewN q = w11 at *
      go_wp2_with fail
      refine (HKN.out _).mono ?_
      rintro e w12 ⟨rfl, hb12⟩
      have HB12 := Lib.hid (HB11.out.trans (hb12.mono HB11.out.size))
      clear hb12 HB11
      go_wp2_with fail
      go_ret
      exact ⟨rfl, HB12.out⟩
    case pos =>
      have HI7 := Lib.hid (room_any w7 _ c7 (n + 1) _ HLP.out HRP.out HSP.out (m : Int) true ⟨fun _ => hok7, fun _ => rfl⟩)
      obtain ⟨hb', hh'⟩ : ∃ hb' : Nat → Bool, ∀ x : Nat, hb' x = true ↔ hasL (plus l n4 A4 c4 a) x (n + 1) := ⟨fun x => @decide (hasL (plus l n4 A4 c4 a) x (n + 1)) (Classical.propDecidable _), fun x => by simp⟩
      have HF7 : Hid (∀ W, Below w7.heap.size w7 W → Calls Try.prog 25 #[.slice (some ⟨g7, 0, none⟩) (n + 1) c7, .int .i64 (m : Int)] W fun e w' => ∃ A' c' n', e = .returned (.slice A' n' c') ∧ (freeN hb' (m - 40)).length = n' ∧ Own .i64 3 w' W.heap.size A' c' (freeN hb' (m - 40)) ∧ Below W.heap.size W w') := Lib.hid fun W hW => free_yes W _ c7 (n + 1) _ HLP.out ((HRP.out.under hW).more hW.size) HSP.out m hok7 hb' hh'
      have HLE : Hid ((freeN hb' (m - 40)).length + n4 = (freeN hb (m - 40)).length) := Lib.hid (by
        rw [freeN_less (hb := hb) (k := n4) (fun x => by rw [hh', HHP.out, HA.out]), List.length_drop]
        have := HKF.out
        omega)
      clear hok7 hh' HADD HHP HRP HSP HLP
      refine HI7.out.mono ?_
      rintro e w8 ⟨rfl, hb8⟩
      have HB8 := Lib.hid (HB7.out.trans (hb8.mono HB7.out.size))
      have HX8 := Lib.hid hb8
      clear hb8 HB7 HI7
      go_wp2_with fail
      refine (HF7.out _ HX8.out).mono ?_
      rintro e w9 ⟨A9, c9, n9, rfl, h91, _, hb9⟩
      have HL9 := Lib.hid h91
      have HB9 := Lib.hid (HB8.out.trans (hb9.mono HB8.out.size))
      clear hb9 h91 HB8 HX8 HF7
      go_wp2_with fail
      refine (HOF.out _ HB9.out).mono ?_
      rintro e w10 ⟨A10, c10, rfl, hr10, hb10⟩
      have HB10 := Lib.hid (HB9.out.trans (hb10.mono HB9.out.size))
      have HR10 := Lib.hid hr10
      clear hb10 hr10 HB9
      go_wp2_with fail
      refine (HFR.out _ _ _ HR10.out).mono ?_
      rintro e w11 ⟨A11, c11, n11, rfl, h111, _, hb11⟩
      have HL11 := Lib.hid h111
      have HB11 := Lib.hid (HB10.out.trans (hb11.mono HB10.out.size))
      have hlm : n11 ≤ 2000 := by rw [← h111]; have := freeN_length hb (m - 40); omega
      clear hb11 h111 HB10 HR10
      obtain rfl : n11 = n9 + n4 := by have := HLE.out; have := HL9.out; have := HL11.out; omega
      have hws : IntKind.i64.wrap (((n9 + n4 : Nat) : Int) - (n4 : Int)) = (n9 : Int) := by rw [IntWalk.i64_in _ (by omega)]; omega
      have hee : ((n9 : Int) == (n9 : Int)) = true := by rw [beq_iff_eq]
      go_wp2_with fail
      refine (HKN.out _).mono ?_
      rintro e w12 ⟨rfl, hb12⟩
      have HB12 := Lib.hid (HB11.out.trans (hb12.mono HB11.out.size))
      clear hb12 HB11
      go_wp2_with fail
      go_ret
      exact ⟨rfl, HB12.out⟩
end Go.Proofs.Ytkfokgkehlcikaa
