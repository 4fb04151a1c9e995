/-
  Whether a node is such: by the program.
-/
import Derived.Test.YtkfokgkehlcikaaNode1
namespace Go.Proofs.Ytkfokgkehlcikaa
open Go.RowKit
set_option linter.unusedVariables false

/-- It is such a node. -/
structure NodeOk (s : ByteArray) (z : Int) (l : List Int) : Prop where
  name : NameOk s
  z0 : 0 ≤ z
  z600 : z ≤ 600
  len : (l.length : Int) = needI z
  rng : ∀ i, i < l.length → 0 ≤ l.getD i 0 ∧ l.getD i 0 ≤ 65535
  dist : ∀ i j, j < i → i < l.length → l.getD j 0 ≠ l.getD i 0

theorem quiet_first {P : Program} {f : FuncId} {args : Array Value} {w : World} {n : Nat} {v : Value} (h : ∀ W : World, Calls P f args W fun e w' => e = .returned v ∧ W = w') : Calls P f args (w.drewN n) fun e w' => e = .returned v ∧ ∃ m, w' = w.drewN m :=
  (h _).mono fun _ _ hh => ⟨hh.1, n, hh.2.symm⟩
theorem below_drewN {B : Nat} {a w : World} (h : Below B a w) (n : Nat) : Below B a (w.drewN n) := ⟨h.os, h.tape, h.output, h.size, h.block⟩
theorem not_true {v : Bool} (h : v = true → False) : v = false := by cases v; rfl; exact (h rfl).elim
theorem needI_le {z : Int} (h : z ≤ 600) : needI z ≤ 10 := by unfold needI; split <;> omega
theorem needI_ge (z : Int) : 0 ≤ needI z := by unfold needI; split <;> omega

set_option maxRecDepth 100000 in
set_option maxHeartbeats 4000000 in
theorem is_any (w : World) (s : ByteArray) (hs : s.size ≤ 9223372036854775807) (z : Int) (hz : z ≤ 9223372036854775807) (B : Nat) (A : Option Addr) (c n : Nat) (l : List Int) (hn : l.length = n) (hr : RdI .i64 w B A c l) (hB : B ≤ w.heap.size) (v : Bool) (hv : v = true ↔ NodeOk s z l) :
    Calls Try.prog 15 #[.agg #[.string s, .int .i64 z, .slice A n c]] w fun e w' => e = .returned (.bool v) ∧ Below w.heap.size w w' := by
  have HV := Lib.hid hv
  have HN := Lib.hid hn
  have hrb := hr.alloc hB (.cells #[.string s, .int .i64 z, .slice A n c] 25)
  have hbel : Below w.heap.size w (w.alloc (.cells #[.string s, .int .i64 z, .slice A n c] 25)) := (Below.refl _ _).alloc (Nat.le_refl _) _
  have hc63 := hr.2.1
  have hlc : n ≤ c := by have := hr.1; omega
  clear hv hn hr
  by_cases hname : NameOk s
  case neg =>
    have HF := Lib.hid (not_true (fun e => hname (HV.out.1 e).name))
    have hcall : ∀ W, Calls Try.prog 33 #[.string s] W fun e w' => e = .returned (.bool false) ∧ W = w' := fun W => named_any W s hs false ⟨(fun e => by cases e), fun h => absurd h hname⟩
    have HC := Lib.hid hcall
    clear hcall hname
    go_enter Try.func15, Try.ntmps15
    go_wp2_with fail
    go_big_quiet ((go_at_call 33; exact quiet_first (fun W => HC.out W)))
    go_wp2_with fail
    go_ret
    exact ⟨by rw [HF.out]; rfl, below_drewN hbel _⟩
  case pos =>
  have hcall : ∀ W, Calls Try.prog 33 #[.string s] W fun e w' => e = .returned (.bool true) ∧ W = w' := fun W => named_any W s hs true ⟨fun _ => hname, fun _ => rfl⟩
  have HC := Lib.hid hcall
  have HNM := Lib.hid hname
  clear hcall hname
  by_cases h0 : 0 ≤ z
  case neg =>
    have HF := Lib.hid (not_true (fun e => h0 (HV.out.1 e).z0))
    have q1 : decide (z < 0) = true := decide_eq_true (by omega)
    clear h0
    go_enter Try.func15, Try.ntmps15
    go_wp2_with fail
    go_big_quiet ((go_at_call 33; exact quiet_first (fun W => HC.out W)))
    go_wp2_with fail
    go_ret
    exact ⟨by rw [HF.out]; rfl, below_drewN hbel _⟩
  case pos =>
  have q1 : decide (z < 0) = false := decide_eq_false (by omega)
  by_cases h6 : z ≤ 600
  case neg =>
    have HF := Lib.hid (not_true (fun e => h6 (HV.out.1 e).z600))
    have q2 : decide (600 < z) = true := decide_eq_true (by omega)
    clear h6
    go_enter Try.func15, Try.ntmps15
    go_wp2_with fail
    go_big_quiet ((go_at_call 33; exact quiet_first (fun W => HC.out W)))
    go_wp2_with fail
    go_ret
    exact ⟨by rw [HF.out]; rfl, below_drewN hbel _⟩
  case pos =>
  have q2 : decide (600 < z) = false := decide_eq_false (by omega)
  obtain ⟨nd, Hnd⟩ : ∃ nd : Int, Hid (needI z = nd) := ⟨_, rfl⟩
  have hnd10 : nd ≤ 10 := by rw [← Hnd.out]; exact needI_le h6
  have hcn : ∀ W, Calls Try.prog 30 #[.int .i64 z] W fun e w' => e = .returned (.int .i64 nd) ∧ W = w' := fun W => need_any W z (by omega) nd Hnd.out
  have HCN := Lib.hid hcn
  clear hcn
  by_cases hlen : (n : Int) = nd
  case neg =>
    have HF := Lib.hid (not_true (fun e => hlen (by have := (HV.out.1 e).len; have := HN.out; have := Hnd.out; omega)))
    have q3 : ((n : Int) != nd) = true := by rw [bne_iff_ne]; exact hlen
    clear hlen
    go_enter Try.func15, Try.ntmps15
    go_wp2_with fail
    go_big_quiet ((first | (go_at_call 33; exact quiet_first (fun W => HC.out W)) | (go_at_call 30; exact quiet_first (fun W => HCN.out W))))
    go_wp2_with fail
    go_ret
    exact ⟨by rw [HF.out]; rfl, below_drewN hbel _⟩
  case pos =>
  have q3 : ((n : Int) != nd) = false := by rw [bne_eq_false_iff_eq]; exact hlen
  have HLEN := Lib.hid hlen
  have hn10 : n ≤ 10 := by omega
  clear hlen
  go_enter Try.func15, Try.ntmps15
  go_wp2_with fail
  go_big_quiet ((first | (go_at_call 33; exact quiet_first (fun W => HC.out W)) | (go_at_call 30; exact quiet_first (fun W => HCN.out W))))
  go_wp2_with fail
  have hboxW := (Holds.fresh w 25 #[.string s, .int .i64 z, .slice A n c]).drewN nq
  have hrW : RdI .i64 ((w.alloc (.cells #[.string s, .int .i64 z, .slice A n c] 25)).drewN nq) B A c l := hrb
  have hbelW := below_drewN hbel nq
  generalize (w.alloc (.cells #[.string s, .int .i64 z, .slice A n c] 25)).drewN nq = W at *
  clear hrb hbel q1 q2 q3
  have hcb : W.cell? ⟨w.heap.size, 2, none⟩ = some (.slice A n c) := hboxW.cell 2
  clear hboxW
  go_loop [33] (fun i => ∃ k : Nat, k ≤ n ∧ i = .int .i64 k ∧ Hid ((∀ i, i < k → 0 ≤ l.getD i 0 ∧ l.getD i 0 ≤ 65535) ∧ (∀ i j, j < i → i < k → l.getD j 0 ≠ l.getD i 0))) (fun i => n - (intOf i).toNat)
  case atStart => exact ⟨0, Nat.zero_le _, rfl, Lib.hid ⟨fun i h => by omega, fun i j _ h => by omega⟩⟩
  case round =>
    obtain ⟨k, hk, rfl, HD⟩ := hrel
    by_cases hkn : k < n
    case neg =>
      obtain rfl : k = n := by omega
      have hf : decide ((k : Int) < (k : Int)) = false := decide_eq_false (by omega)
      have hf2 : decide (k < k) = false := decide_eq_false (by omega)
      have HT := Lib.hid (HV.out.2 ⟨HNM.out, h0, h6, by have := HN.out; have := HLEN.out; have := Hnd.out; omega, fun i h => HD.out.1 i (by have := HN.out; omega), fun i j h h' => HD.out.2 i j h (by have := HN.out; omega)⟩)
      go_wp2_with fail
      go_ret
      exact ⟨by rw [HT.out]; rfl, hbelW⟩
    case pos =>
    obtain ⟨b, off, x, rfl, hb, hx, Hx⟩ := hrW.at_ (i := k) (by have := HN.out; omega)
    have hk0 : (0 : Int) ≤ (k : Int) := by omega
    have hkI : (k : Int) < (n : Int) := by omega
    have hkc : (k : Int) ≤ (c : Int) := by omega
    by_cases hx0 : 0 ≤ x
    case neg =>
      have HF := Lib.hid (not_true (fun e => hx0 (by rw [Hx.out]; exact ((HV.out.1 e).rng k (by have := HN.out; omega)).1)))
      have b1 : decide (x < 0) = true := decide_eq_true (by omega)
      go_wp2_with fail
      go_ret
      exact ⟨by rw [HF.out]; rfl, hbelW⟩
    case pos =>
    by_cases hx1 : x ≤ 65535
    case neg =>
      have HF := Lib.hid (not_true (fun e => hx1 (by rw [Hx.out]; exact ((HV.out.1 e).rng k (by have := HN.out; omega)).2)))
      have b1 : decide (x < 0) = false := decide_eq_false (by omega)
      have b2 : decide (65535 < x) = true := decide_eq_true (by omega)
      go_wp2_with fail
      go_ret
      exact ⟨by rw [HF.out]; rfl, hbelW⟩
    case pos =>
    have b1 : decide (x < 0) = false := decide_eq_false (by omega)
    have b2 : decide (65535 < x) = false := decide_eq_false (by omega)
    go_wp2_with fail
    go_loop [49] (fun i => ∃ j : Nat, j ≤ k ∧ i = .int .i64 j ∧ Hid (∀ i, i < j → l.getD i 0 ≠ x)) (fun i => k - (intOf i).toNat)
    case atStart => exact ⟨0, Nat.zero_le _, rfl, Lib.hid (fun i h => by omega)⟩
    case round =>
      obtain ⟨j, hj, rfl, HJ⟩ := hrel
      by_cases hjk : j < k
      case neg =>
        obtain rfl : j = k := by omega
        have hf : decide ((j : Int) < (j : Int)) = false := decide_eq_false (by omega)
        have hf2 : decide (j < j) = false := decide_eq_false (by omega)
        have HD2 : Hid ((∀ i, i < j + 1 → 0 ≤ l.getD i 0 ∧ l.getD i 0 ≤ 65535) ∧ (∀ i i', i' < i → i < j + 1 → l.getD i' 0 ≠ l.getD i 0)) := Lib.hid ⟨fun i h => by
          rcases Nat.lt_or_ge i j with h' | h'
          · exact HD.out.1 i h'
          · obtain rfl : i = j := by omega
            rw [← Hx.out]; exact ⟨hx0, hx1⟩, fun i i' h h' => by
          rcases Nat.lt_or_ge i j with h'' | h''
          · exact HD.out.2 i i' h h''
          · obtain rfl : i = j := by omega
            rw [← Hx.out]; exact HJ.out i' h⟩
        go_wp2_with fail
        go_round
        case rel => exact ⟨j + 1, by omega, by go_num, HD2⟩
        case measure => simp [intOf]; omega
      case pos =>
      obtain ⟨_, _, y, e0, _, hy, Hy⟩ := hrW.at_ (i := j) (by have := HN.out; omega)
      obtain ⟨rfl, rfl⟩ : b = _ ∧ off = _ := by injection e0 with e0; injection e0 with e1 e2; exact ⟨e1, e2⟩
      clear e0
      have hj0 : (0 : Int) ≤ (j : Int) := by omega
      have hjI : (j : Int) < (k : Int) := by omega
      by_cases hxy : x = y
      · have HF := Lib.hid (not_true (fun e => (HV.out.1 e).dist k j hjk (by have := HN.out; omega) (by rw [← Hx.out, ← Hy.out, hxy])))
        subst hxy
        go_wp2_with fail
        go_ret
        exact ⟨by rw [HF.out]; rfl, hbelW⟩
      · have HJ2 : Hid (∀ i, i < j + 1 → l.getD i 0 ≠ x) := Lib.hid (fun i h => by
          rcases Nat.lt_or_ge i j with h' | h'
          · exact HJ.out i h'
          · obtain rfl : i = j := by omega
            rw [← Hy.out]; exact Ne.symm hxy)
        have b3 : (x == y) = false := by rw [beq_eq_false_iff_ne]; exact hxy
        clear hxy
        go_wp2_with fail
        go_round
        case rel => exact ⟨j + 1, by omega, by go_num, HJ2⟩
        case measure => simp [intOf]; omega
end Go.Proofs.Ytkfokgkehlcikaa
