/-
  Two nodes compared: by the document.
-/
import Derived.Test.YtkfokgkehlcikaaNode14
namespace Go.Proofs.Ytkfokgkehlcikaa
open Go.RowKit
set_option linter.unusedVariables false
attribute [local go_sem ↓] Go.wp_at_zero Go.wp_at_succ

set_option maxRecDepth 100000 in
theorem of_any (w : World) (s : ByteArray) (z : Int) (A : Option Addr) (n c : Nat) :
    Calls Try.prog 11 #[.agg #[.string s, .int .i64 z, .slice A n c]] w fun e w' => e = .returned (.agg #[.string s, .int .i64 z, .slice A n c]) ∧ Below w.heap.size w w' := by
  have hbel : Below w.heap.size w (w.alloc (.cells #[.string s, .int .i64 z, .slice A n c] 25)) := (Below.refl _ _).alloc (Nat.le_refl _) _
  have hbox := Holds.fresh w 25 #[.string s, .int .i64 z, .slice A n c]
  go_enter Try.func11, Try.ntmps11
  go_wp2_with fail
  have hsz : (w.alloc (.cells #[.string s, .int .i64 z, .slice A n c] 25)).heap.size = w.heap.size + 1 := by simp
  generalize w.alloc (.cells #[.string s, .int .i64 z, .slice A n c] 25) = W at *
  have c0 := hbox.cell 0
  have c1 := hbox.cell 1
  have c2 := hbox.cell 2
  have hR := Holds.fresh W 28 #[.string s, .int .i64 z, .slice A n c]
  rw [hsz] at hR
  have hbel2 := hbel.alloc hbel.size (.cells #[.string s, .int .i64 z, .slice A n c] 28)
  go_wp2_with fail
  generalize W.alloc (.cells #[.string s, .int .i64 z, .slice A n c] 28) = V at *
  have hc := hR.cell
  refine bodyPost_ret (v := .agg #[.string s, .int .i64 z, .slice A n c]) (by simp [results, Try.results11, go_sem, hc]) rfl ?_
  exact ⟨rfl, hbel2⟩

def RelS (n : Nat) (l l' : List Nat) (W : World) (i : Value) (wr : World) : Prop :=
  ∃ k q : Nat, k ≤ n ∧ i = .int .i64 k ∧ Hid (∀ j, j < k → l.getD j 0 = l'.getD j 0) ∧ wr = W.drewN q

set_option maxRecDepth 100000 in
set_option maxHeartbeats 4000000 in
theorem same_any (w : World) (s s' : ByteArray) (z z' : Nat) (hz : z ≤ 9223372036854775807) (hz' : z' ≤ 9223372036854775807) (A A' : Option Addr) (B B' c c' n n' : Nat) (l l' : List Nat) (hn : l.length = n) (hn' : l'.length = n') (hr : Rd .i64 w B A c l) (hr' : Rd .i64 w B' A' c' l') (hB : B ≤ w.heap.size) (hB' : B' ≤ w.heap.size) (v : Bool) (hv : v = true ↔ s = s' ∧ z = z' ∧ l = l') :
    Calls Try.prog 10 #[.agg #[.string s, .int .i64 z, .slice A n c], .agg #[.string s', .int .i64 z', .slice A' n' c']] w fun e w' => e = .returned (.bool v) ∧ Below w.heap.size w w' := by
  have HV := Lib.hid hv
  have HN := Lib.hid hn
  have HN' := Lib.hid hn'
  have hrb := (hr.alloc hB (.cells #[.string s, .int .i64 z, .slice A n c] 28)).alloc (by simp; omega) (.cells #[.string s', .int .i64 z', .slice A' n' c'] 28)
  have hrb' := (hr'.alloc hB' (.cells #[.string s, .int .i64 z, .slice A n c] 28)).alloc (by simp; omega) (.cells #[.string s', .int .i64 z', .slice A' n' c'] 28)
  have hbel : Below w.heap.size w ((w.alloc (.cells #[.string s, .int .i64 z, .slice A n c] 28)).alloc (.cells #[.string s', .int .i64 z', .slice A' n' c'] 28)) := ((Below.refl _ _).alloc (Nat.le_refl _) _).alloc (by simp) _
  have hbox := (Holds.fresh w 28 #[.string s, .int .i64 z, .slice A n c]).alloc (.cells #[.string s', .int .i64 z', .slice A' n' c'] 28)
  have hbox' := Holds.fresh (w.alloc (.cells #[.string s, .int .i64 z, .slice A n c] 28)) 28 #[.string s', .int .i64 z', .slice A' n' c']
  rw [show (w.alloc (.cells #[.string s, .int .i64 z, .slice A n c] 28)).heap.size = w.heap.size + 1 by simp] at hbox'
  have hc63 := hr.2.1
  have hlc : n ≤ c := by have := hr.1; omega
  have hc63' := hr'.2.1
  have hlc' : n' ≤ c' := by have := hr'.1; omega
  clear hv hn hn' hr hr'
  have hcs := hbox.cell 0
  have hcz := hbox.cell 1
  have hcl := hbox.cell 2
  have hcs' := hbox'.cell 0
  have hcz' := hbox'.cell 1
  have hcl' := hbox'.cell 2
  by_cases hs : s = s'
  case neg =>
    have hsb : (s.toList == s'.toList) = false := by
      rw [beq_eq_false_iff_ne, Lib.toList_data, Lib.toList_data]
      intro e
      exact hs (ByteArray.ext (Array.ext' e))
    have HF := Lib.hid (not_true (fun e => hs (HV.out.1 e).1))
    clear hs
    go_enter Try.func10, Try.ntmps10
    go_wp2_with fail
    go_ret
    exact ⟨by rw [HF.out]; rfl, hbel⟩
  case pos =>
  subst hs
  by_cases hz1 : z = z'
  case neg =>
    have q1 : ((z : Int) != (z' : Int)) = true := by rw [bne_iff_ne]; omega
    have HF := Lib.hid (not_true (fun e => hz1 (HV.out.1 e).2.1))
    clear hz1
    go_enter Try.func10, Try.ntmps10
    go_wp2_with fail
    go_ret
    exact ⟨by rw [HF.out]; rfl, hbel⟩
  case pos =>
  subst hz1
  by_cases hnn : n = n'
  case neg =>
    have q1 : ((n : Int) != (n' : Int)) = true := by rw [bne_iff_ne]; omega
    have HF := Lib.hid (not_true (fun e => hnn (by have := (HV.out.1 e).2.2; rw [← HN.out, ← HN'.out, this])))
    clear hnn
    go_enter Try.func10, Try.ntmps10
    go_wp2_with fail
    go_ret
    exact ⟨by rw [HF.out]; rfl, hbel⟩
  case pos =>
  subst hnn
  go_enter Try.func10, Try.ntmps10
  go_wp2_with fail
  generalize ((w.alloc (.cells #[.string s, .int .i64 z, .slice A n c] 28)).alloc (.cells #[.string s, .int .i64 z, .slice A' n c'] 28)) = W at *
  go_loopw [5] (fun i wr => RelS n l l' W i wr) (fun i _ => n - (intOf i).toNat)
  case atStart => exact ⟨0, 0, Nat.zero_le _, rfl, Lib.hid (fun i h => by omega), rfl⟩
  case round =>
    obtain ⟨k, q, hk, rfl, HD, rfl⟩ := hrel
    replace hrb : Rd .i64 (W.drewN q) B A c l := hrb
    replace hrb' : Rd .i64 (W.drewN q) B' A' c' l' := hrb'
    replace hbel : Below w.heap.size w (W.drewN q) := below_drewN hbel q
    have hcl := (hbox.drewN q).cell 2
    have hcl' := (hbox'.drewN q).cell 2
    have hdd := fun m => World.drewN_drewN W q m
    have HDD := Lib.hid hdd
    clear hdd hbox hbox' hcs hcz hcs' hcz'
    obtain ⟨V, HV2⟩ : ∃ V, Hid (V = W.drewN q) := ⟨_, rfl⟩
    rw [← HV2.out] at hrb hrb' hbel hcl hcl' ⊢
    by_cases hkn : k < n
    case neg =>
      obtain rfl : k = n := by omega
      have hf : decide ((k : Int) < (k : Int)) = false := decide_eq_false (by omega)
      have hf2 : decide (k < k) = false := decide_eq_false (by omega)
      have hE : l = l' := by
        apply List.ext_getElem (by rw [HN.out, HN'.out])
        intro i h1 h2
        have := HD.out i (by have := HN.out; omega)
        simpa [List.getD, h1, h2] using this
      have HT := Lib.hid (HV.out.2 (by first | exact ⟨rfl, rfl, hE⟩ | exact ⟨trivial, trivial, hE⟩))
      clear hE
      go_wp2_with fail
      go_ret
      exact ⟨by rw [HT.out]; rfl, hbel⟩
    case pos =>
    obtain ⟨b, off, x, rfl, hb, hx, Hx⟩ := hrb.at_ (i := k) (by have := HN.out; omega)
    obtain ⟨b', off', y, rfl, hb', hy, Hy⟩ := hrb'.at_ (i := k) (by have := HN'.out; omega)
    have hk0 : (0 : Int) ≤ (k : Int) := by omega
    have hkI : (k : Int) < (n : Int) := by omega
    by_cases hxy : x = y
    case neg =>
      have HF := Lib.hid (not_true (fun e => hxy (by have := (HV.out.1 e).2.2; rw [Hx.out, Hy.out, this])))
      have b3 : ((x : Int) != (y : Int)) = true := by rw [bne_iff_ne]; omega
      clear hxy
      go_wp2_with fail
      go_quiet (fail)
      go_wp2_with fail
      go_ret
      exact ⟨by rw [HF.out]; rfl, below_drewN hbel _⟩
    case pos =>
      subst hxy
      have HD2 : Hid (∀ j, j < k + 1 → l.getD j 0 = l'.getD j 0) := Lib.hid (fun j h => by
        rcases Nat.lt_or_ge j k with h' | h'
        · exact HD.out j h'
        · obtain rfl : j = k := by omega
          rw [← Hx.out, ← Hy.out])
      go_wp2_with fail
      go_quiet (fail)
      go_wp2_with fail
      go_roundw
      case rel => exact ⟨k + 1, q + nq, by omega, by go_num, HD2, by rw [HV2.out, HDD.out]⟩
      case measure => simp [intOf]; omega
end Go.Proofs.Ytkfokgkehlcikaa
