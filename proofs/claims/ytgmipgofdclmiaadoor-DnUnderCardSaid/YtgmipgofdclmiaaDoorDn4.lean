/-
  The known name.
-/
import Derived.Test.YtgmipgofdclmiaaDoorDn3
namespace Go.Proofs.YtgmipgofdclmiaaDoor
open Go.RowKit
set_option linter.unusedVariables false

/-- Texts of one byte each. -/
def Good (l : List Att) : Prop := ∀ j, j < l.length → ((l.getD j default).k = 3 ∨ (l.getD j default).k = 6 ∨ (l.getD j default).k = 10 ∨ (l.getD j default).k = 11) ∧ ∃ x : Nat, x < 128 ∧ (l.getD j default).s = str [x]

def RelN (n B : Nat) (A : Option Addr) (c : Nat) (l : List Att) (w : World) (i : Value) (wr : World) : Prop :=
  ∃ k : Nat, k ≤ n ∧ i = .int .i64 k ∧ RdA wr B A c l ∧ Below w.heap.size w wr

theorem str1_ne (x : Nat) : ((str [x]).toList == (⟨#[]⟩ : ByteArray).toList) = false := by
  rw [Lib.toList_data, Lib.toList_data]
  rfl

set_option maxRecDepth 100000 in
set_option maxHeartbeats 2000000 in
theorem isA_good (w : World) (B : Nat) (A : Option Addr) (c n : Nat) (l : List Att) (hn : l.length = n) (hr : RdA w B A c l) (hB : B ≤ w.heap.size) (h1 : 1 ≤ n) (h4 : n ≤ 4) (hg : Good l) :
    Calls Tryd.prog 9 #[.slice A n c] w fun e w' => e = .returned (.bool true) ∧ Below w.heap.size w w' := by
  have HN := Lib.hid hn
  have HG := Lib.hid hg
  have hlc := hr.1
  have hc63 := hr.2.1
  have b1 : decide ((n : Int) < 1) = false := decide_eq_false (by omega)
  have b2 : decide (4 < (n : Int)) = false := decide_eq_false (by omega)
  clear hn hg
  go_enter Tryd.func9, Tryd.ntmps9
  go_wp2_with fail
  go_loopw [17] (fun i wr => RelN n B A c l w i wr) (fun i _ => n - (intOf i).toNat)
  case atStart => exact ⟨0, Nat.zero_le _, rfl, hr, Below.refl _ _⟩
  case round =>
    obtain ⟨k, hk, rfl, hrk, hbk⟩ := hrel
    obtain ⟨W, hW⟩ : ∃ W, W = wr := ⟨_, rfl⟩
    subst hW
    by_cases hkn : k < n
    case neg =>
      obtain rfl : k = n := by omega
      have hf : decide ((k : Int) < (k : Int)) = false := decide_eq_false (by omega)
      have hf2 : decide (k < k) = false := decide_eq_false (by omega)
      go_wp2_with fail
      go_ret
      exact ⟨rfl, hbk⟩
    case pos =>
    obtain ⟨b, off, rfl, hb, hx⟩ := hrk.2.2 (by have := HN.out; omega)
    obtain ⟨hx1, hx2⟩ := hx k (by have := HN.out; omega)
    obtain ⟨hkd, x, hx128, hsx⟩ := HG.out k (by have := HN.out; omega)
    obtain ⟨kd, Hkd⟩ : ∃ kd, Hid ((l.getD k default).k = kd) := ⟨_, rfl⟩
    obtain ⟨s, Hs⟩ : ∃ s, Hid (s = str [x]) := ⟨_, rfl⟩
    rw [Hkd.out] at hx1 hkd
    rw [hsx, ← Hs.out] at hx2
    have hse : (s.toList == (⟨#[]⟩ : ByteArray).toList) = false := by rw [Hs.out]; exact str1_ne x
    have hse2 : (s.toList == []) = false := by rw [← hse, Lib.toList_data ⟨#[]⟩]
    have HKD := Lib.hid hkd
    have hk0 : (0 : Int) ≤ (k : Int) := by omega
    have hkI : (k : Int) < (n : Int) := by omega
    clear hx hsx hkd
    go_wp2_with fail
    have hbox := Holds.fresh W 36 #[.int .i64 kd, .string s]
    have hbel := hbk.alloc hbk.size (.cells #[.int .i64 kd, .string s] 36)
    have hrb := hrk.under ((Below.refl B W).alloc (Nat.le_trans hB hbk.size) (.cells #[.int .i64 kd, .string s] 36))
    generalize W.alloc (.cells #[.int .i64 kd, .string s] 36) = V at *
    have hlt := hbox.lt
    have hcA := hbox.cell 0
    have hcB := hbox.cell 1
    refine (kind_yes V kd HKD.out).mono ?_
    rintro e w1 ⟨rfl, rfl⟩
    go_wp2_with fail
    rw [Hs.out]
    refine (text_one V x hx128).mono ?_
    rintro e w2 ⟨g2, c2, rfl, hr2, hb2⟩
    have hbel2 := hbel.trans (hb2.mono hbel.size)
    have hrb2 := hrb.under (hb2.mono (by have := hbk.size; omega))
    clear hbox hbel hrb hcA hcB
    go_wp2_with fail
    refine (getText_one w2 _ g2 0 c2 x hr2 (Nat.le_refl _) hx128).mono ?_
    rintro e w3 ⟨rfl, hb3⟩
    have hbel3 := hbel2.trans (hb3.mono hbel2.size)
    have hrb3 := hrb2.under (hb3.mono (by have := hbel2.size; omega))
    clear hbel2 hrb2 hr2
    go_wp2_with fail
    go_roundw
    case rel => exact ⟨k + 1, by omega, by go_num, hrb3, hbel3⟩
    case measure => simp [intOf]; omega

def knownL : List Att := [⟨10, ⟨#[111]⟩⟩, ⟨3, ⟨#[99]⟩⟩]
theorem known_good : Good knownL := by
  intro j hj
  have hj2 : j < 2 := hj
  rcases (show j = 0 ∨ j = 1 by omega) with rfl | rfl
  · exact ⟨.inr (.inr (.inl rfl)), 111, by omega, rfl⟩
  · exact ⟨.inl rfl, 99, by omega, rfl⟩
theorem row_known {w : World} {g : Nat} (h : Holds w g 36 #[.int .i64 10, .string ⟨#[111]⟩, .int .i64 3, .string ⟨#[99]⟩]) : RdA w (g + 1) (some ⟨g, 0, none⟩) 2 knownL :=
  ⟨Nat.le_refl _, by omega, fun _ => ⟨g, 0, rfl, by omega, fun j hj => by
    have hj2 : j < 2 := hj
    rcases (show j = 0 ∨ j = 1 by omega) with rfl | rfl
    · exact ⟨h.cell 0, h.cell 1⟩
    · exact ⟨h.cell 2, h.cell 3⟩⟩⟩

set_option maxRecDepth 100000 in
set_option maxHeartbeats 2000000 in
theorem known15_any (w : World) : Calls Tryd.prog 7 #[] w fun e w' => e = .returned (.bool true) ∧ Below w.heap.size w w' := by
  have hbox := Holds.fresh w 36 #[.int .i64 10, .string ⟨#[111]⟩]
  have hbel : Below w.heap.size w (w.alloc (.cells #[.int .i64 10, .string ⟨#[111]⟩] 36)) := (Below.refl _ _).alloc (Nat.le_refl _) _
  have hk0 := hbox.cell 0
  have hk1 := hbox.cell 1
  have hrow := Holds.fresh (w.alloc (.cells #[.int .i64 10, .string ⟨#[111]⟩] 36)) 36 #[.int .i64 10, .string ⟨#[111]⟩, .int .i64 3, .string ⟨#[99]⟩]
  have hbel2 := hbel.alloc hbel.size (.cells #[.int .i64 10, .string ⟨#[111]⟩, .int .i64 3, .string ⟨#[99]⟩] 36)
  rw [show (w.alloc (.cells #[.int .i64 10, .string ⟨#[111]⟩] 36)).heap.size = w.heap.size + 1 by simp] at hrow
  go_enter Tryd.func7, Tryd.ntmps7
  go_wp2_with fail
  generalize (w.alloc (.cells #[.int .i64 10, .string ⟨#[111]⟩] 36)).alloc (.cells #[.int .i64 10, .string ⟨#[111]⟩, .int .i64 3, .string ⟨#[99]⟩] 36) = W at *
  have hlt := hrow.lt
  have hR := (row_known hrow).more (B' := W.heap.size) (by omega)
  clear hbox hbel hk0 hk1 hrow
  refine (isA_good W W.heap.size _ 2 2 knownL rfl hR (Nat.le_refl _) (by omega) (by omega) known_good).mono ?_
  rintro e w1 ⟨rfl, hb1⟩
  have hR1 := hR.next (Nat.le_refl _) hb1
  have hbel3 := hbel2.trans (hb1.mono hbel2.size)
  clear hR hb1 hbel2
  go_wp2_with fail
  refine (underA_any w1 _ _ _ _ 2 2 2 1 knownL (knownL.take 1) rfl rfl hR1 (hR1.cut 1) true ⟨fun _ => ⟨by omega, rfl⟩, fun _ => rfl⟩).mono ?_
  rintro e w2 ⟨rfl, q, rfl⟩
  have hR2 := hR1.drewN q
  have hbel4 : Below w.heap.size w (w1.drewN q) := ⟨hbel3.os, hbel3.tape, hbel3.output, hbel3.size, hbel3.block⟩
  clear hbel3 hR1
  generalize w1.drewN q = w2 at *
  go_wp2_with fail
  refine (underA_any w2 _ _ _ _ 2 2 1 2 (knownL.take 1) knownL rfl rfl (hR2.cut 1) hR2 false ⟨(fun e => by cases e), fun e => absurd e.1 (by omega)⟩).mono ?_
  rintro e w3 ⟨rfl, q, rfl⟩
  have hR3 := hR2.drewN q
  have hbel5 : Below w.heap.size w (w2.drewN q) := ⟨hbel4.os, hbel4.tape, hbel4.output, hbel4.size, hbel4.block⟩
  clear hbel4 hR2
  generalize w2.drewN q = w3 at *
  go_wp2_with fail
  refine (sameA_any w3 _ _ _ _ 2 2 2 2 knownL knownL rfl rfl hR3 hR3 true ⟨fun _ => rfl, fun _ => rfl⟩).mono ?_
  rintro e w4 ⟨rfl, q, rfl⟩
  go_wp2_with fail
  go_ret
  exact ⟨rfl, ⟨hbel5.os, hbel5.tape, hbel5.output, hbel5.size, hbel5.block⟩⟩
end Go.Proofs.YtgmipgofdclmiaaDoor
