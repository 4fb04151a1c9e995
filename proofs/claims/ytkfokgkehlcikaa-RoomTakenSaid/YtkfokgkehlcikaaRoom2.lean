/-
  Which places are free: by the document.
-/
import Derived.Test.YtkfokgkehlcikaaRoom1
namespace Go.Proofs.Ytkfokgkehlcikaa
open Go.RowKit
set_option linter.unusedVariables false
set_option linter.unusedSimpArgs false

/-- Of the first k places for contents those that are free. -/
def freeN (hb : Nat → Bool) (k : Nat) : List Nat := ((List.range k).map fun i => 40 + i).filter fun x => !hb x
theorem freeN_succ (hb : Nat → Bool) (k : Nat) : freeN hb (k + 1) = if hb (40 + k) = true then freeN hb k else freeN hb k ++ [40 + k] := by
  unfold freeN
  rw [List.range_succ, List.map_append, List.filter_append]
  cases h : hb (40 + k) <;> simp [h]
theorem freeN_length (hb : Nat → Bool) (k : Nat) : (freeN hb k).length ≤ k := by
  unfold freeN
  refine Nat.le_trans (List.length_filter_le _ _) ?_
  simp

def RelF (hb : Nat → Bool) (w : World) (m : Nat) (v i : Value) (wr : World) : Prop :=
  ∃ (k : Nat) (A' : Option Addr) (c' n' : Nat), k ≤ m ∧ i = .int .i64 (40 + (k : Int)) ∧ v = .slice A' n' c' ∧ (freeN hb k).length = n' ∧ Own .i64 3 wr w.heap.size A' c' (freeN hb k) ∧ Below w.heap.size w wr
theorem info_int : (Try.prog.info? 3).map (fun i => (i.zero, i.size, i.bytes)) = some (some (.int .i64 0), 1, 8) := by kernel_rfl
set_option maxRecDepth 100000 in
set_option maxHeartbeats 4000000 in
theorem free'_any (w : World) (B : Nat) (A : Option Addr) (c n : Nat) (l : List Nd) (hn : l.length = n) (hr : RdN w B A c l) (hB : B ≤ w.heap.size) (m : Nat) (hm : m ≤ 2000) (y : Int) (hy : y = 40 + (m : Int) ∨ (m = 0 ∧ y ≤ 40)) (hb : Nat → Bool) (hh : ∀ x : Nat, hb x = true ↔ hasL l x n) :
    Calls Try.prog 26 #[.slice A n c, .int .i64 y] w fun e w' => ∃ A' c' n', e = .returned (.slice A' n' c') ∧ (freeN hb m).length = n' ∧ Own .i64 3 w' w.heap.size A' c' (freeN hb m) ∧ Below w.heap.size w w' := by
  have HH := Lib.hid hh
  have HN := Lib.hid hn
  have HR : Hid (∀ W, Below w.heap.size w W → RdN W B A c l) := Lib.hid fun W hW => hr.under (hW.mono hB)
  have HY := Lib.hid hy
  clear hh hn hr hy
  go_enter Try.func26, Try.ntmps26
  go_wp2_with fail
  go_loopw [5, 6] (fun v i wr => RelF hb w m v i wr) (fun v i _ => m - (intOf i - 40).toNat)
  case atStart => exact ⟨0, none, 0, 0, Nat.zero_le _, rfl, rfl, rfl, Own.nil _ _ _ _, Below.refl _ _⟩
  case round =>
    obtain ⟨k, A', c', n', hk, rfl, rfl, hl, ho, hq⟩ := hrel
    obtain ⟨V, hV⟩ : ∃ V, V = wr := ⟨_, rfl⟩
    subst hV
    have HL := Lib.hid hl
    have HO := Lib.hid ho
    have HQ := Lib.hid hq
    have hn' : n' ≤ 2000 := by have := freeN_length hb k; omega
    clear hl ho hq
    by_cases hkm : k < m
    case pos =>
      have hkI : decide (40 + (k : Int) < y) = true := decide_eq_true (by have := HY.out; omega)
      have hw1 : IntKind.i64.wrap (40 + (k : Int) + 1) = 40 + ((k + 1 : Nat) : Int) := by rw [IntWalk.i64_in _ (by omega)]; push_cast; omega
      obtain ⟨bv, hbv⟩ : ∃ b, b = hb (40 + k) := ⟨_, rfl⟩
      have HC := Lib.hid (has_any V B A c n l HN.out (HR.out V HQ.out) (40 + (k : Int)) bv (by rw [hbv, HH.out (40 + k)]; push_cast; exact Iff.rfl))
      have HF : Hid (freeN hb (k + 1) = if bv = true then freeN hb k else freeN hb k ++ [40 + k]) := Lib.hid (by rw [hbv]; exact freeN_succ hb k)
      clear hbv
      cases bv
      case true =>
        have HF1 : Hid (freeN hb (k + 1) = freeN hb k) := Lib.hid (by have := HF.out; simpa using this)
        clear HF
        go_wp2_with (refine HC.out.mono ?_; rintro e w6 ⟨rfl, rfl⟩)
        go_roundw
        case rel => exact ⟨k + 1, A', c', n', by omega, by go_num, rfl, by rw [HF1.out]; exact HL.out, by rw [HF1.out]; exact HO.out, HQ.out⟩
        case measure => simp [intOf]; omega
      case false =>
        have HF1 : Hid (freeN hb (k + 1) = freeN hb k ++ [40 + k]) := Lib.hid (by have := HF.out; simpa using this)
        clear HF
        have hnu : nums .i64 [40 + k] = #[.int .i64 (40 + (k : Int))] := by simp [nums]
        have hg : Holds (V.alloc (.cells #[.int .i64 (40 + (k : Int))] 3)) V.heap.size 3 (nums .i64 [40 + k]) := by rw [hnu]; exact Holds.fresh _ _ _
        have ho2 : Own .i64 3 (V.alloc (.cells #[.int .i64 (40 + (k : Int))] 3)) w.heap.size A' c' (freeN hb k) := HO.out.alloc _
        have hq2 : Below w.heap.size w (V.alloc (.cells #[.int .i64 (40 + (k : Int))] 3)) := HQ.out.alloc HQ.out.size _
        have HG := Lib.hid hg
        have HO2 := Lib.hid ho2
        have HQ2 := Lib.hid hq2
        have HAB : Hid (∀ g, blockOf A' = some g → w.heap.size ≤ g) := Lib.hid fun g hg => (HO.out.block hg).1
        clear hnu hg ho2 hq2
        go_wp2_with (first | (refine HC.out.mono ?_; rintro e w6 ⟨rfl, rfl⟩) | (refine wpList_push _ rfl (.tmp 16) (.tmp 18) 23 rfl .i64 w.heap.size 3 8 Try.underlying23 info_int A' n' c' (freeN hb k) rfl HL.out HO2.out V.heap.size 1 1 [40 + k] rfl rfl HG.out (by omega) (by omega) (by omega) HQ2.out.size ?_; intro g5 c5 W5 ho5 hgr5 hat5) | fail)
        have hq5 : Below w.heap.size w W5 := HQ2.out.trans ⟨hgr5.os, hgr5.tape, hgr5.output, hgr5.size, fun g hg => hgr5.block g (Nat.lt_of_lt_of_le hg HQ2.out.size) (fun e => by have := HAB.out g e.symm; omega)⟩
        have HQ5 := Lib.hid hq5
        have HO5 := Lib.hid ho5
        clear hq5 ho5 hgr5 hat5
        go_wp2_with fail
        go_roundw
        case rel => exact ⟨k + 1, _, _, n' + 1, by omega, by go_num, rfl, by rw [HF1.out, List.length_append, HL.out]; rfl, by rw [HF1.out]; exact HO5.out, HQ5.out⟩
        case measure => simp [intOf]; omega
    case neg =>
      obtain rfl : k = m := by omega
      have hkI : decide (40 + (k : Int) < y) = false := decide_eq_false (by have := HY.out; omega)
      go_wp2_with fail
      go_ret
      exact ⟨A', c', n', rfl, HL.out, HO.out, HQ.out⟩
end Go.Proofs.Ytkfokgkehlcikaa
