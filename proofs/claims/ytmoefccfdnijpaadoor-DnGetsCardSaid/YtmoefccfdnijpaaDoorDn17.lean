/-
  Names compared by the document; names by hand.
-/
import Derived.Test.YtmoefccfdnijpaaDoorDn15
import Derived.Test.YtmoefccfdnijpaaDoorDn16
import Derived.Deep.QuietTactic
import Derived.BigQuiet
namespace Go.Proofs.YtmoefccfdnijpaaDoor
open Go.RowKit
set_option linter.unusedVariables false
set_option linter.unusedSimpArgs false

set_option maxRecDepth 100000 in
set_option maxHeartbeats 1000000 in
theorem underR_any (w : World) (B B' : Nat) (A A' : Option Addr) (c c' n n' : Nat) (l l' : List Att) (hn : l.length = n) (hn' : l'.length = n') (hr : RdA w B A c l) (hr' : RdA w B' A' c' l') (v : Bool) (hv : v = true ↔ n' ≤ n ∧ l.take n' = l') :
    Calls Tryd.prog 12 #[.slice A n c, .slice A' n' c'] w fun e w' => e = .returned (.bool v) ∧ ∃ q, w' = w.drewN q := by
  have HV := Lib.hid hv
  have HN := Lib.hid hn
  have HN' := Lib.hid hn'
  have hlc := hr.1
  have hc63 := hr.2.1
  have hlc' := hr'.1
  have hc63' := hr'.2.1
  clear hv
  by_cases hnn : n < n'
  case pos =>
    have q1 : decide ((n : Int) < (n' : Int)) = true := decide_eq_true (by omega)
    have q2 : decide (n < n') = true := decide_eq_true hnn
    have HF : Hid (v = false) := Lib.hid (by
      cases v
      · rfl
      · have := (HV.out.1 rfl).1; omega)
    go_enter Tryd.func12, Tryd.ntmps12
    go_wp2_with fail
    go_ret
    exact ⟨by rw [HF.out]; rfl, 0, rfl⟩
  case neg =>
  have q1 : decide ((n : Int) < (n' : Int)) = false := decide_eq_false (by omega)
  have q2 : decide (n < n') = false := decide_eq_false hnn
  go_enter Tryd.func12, Tryd.ntmps12
  go_wp2_with fail
  go_loopw [5] (fun i wr => RelEA n' l l' w i wr) (fun i _ => n' - (intOf i).toNat)
  case atStart => exact ⟨0, 0, Nat.zero_le _, rfl, Lib.hid (fun i h => by omega), rfl⟩
  case round =>
    obtain ⟨k, q, hk, rfl, HD, rfl⟩ := hrel
    have hrb := hr.drewN q
    have hrb' := hr'.drewN q
    have HDD := Lib.hid (fun m => World.drewN_drewN w q m)
    obtain ⟨V, HV2⟩ : ∃ V, Hid (V = w.drewN q) := ⟨_, rfl⟩
    rw [← HV2.out] at hrb hrb' ⊢
    by_cases hkn : k < n'
    case neg =>
      obtain rfl : k = n' := by omega
      have hf : decide ((k : Int) < (k : Int)) = false := decide_eq_false (by omega)
      have hf2 : decide (k < k) = false := decide_eq_false (by omega)
      have hE : l.take k = l' := by
        apply List.ext_getElem (by rw [List.length_take, HN.out, HN'.out]; omega)
        intro i h1 h2
        have h3 := HD.out i (by have := HN'.out; omega)
        have h4 : i < l.length := by rw [List.length_take] at h1; omega
        simpa [List.getD, h4, h2] using h3
      have HT := Lib.hid (HV.out.2 ⟨by omega, hE⟩)
      clear hE
      go_wp2_with fail
      go_ret
      exact ⟨by rw [HT.out]; rfl, q, HV2.out⟩
    case pos =>
    obtain ⟨b, off, rfl, hb, hx⟩ := hrb.2.2 (by have := HN.out; omega)
    obtain ⟨b', off', rfl, hb', hy⟩ := hrb'.2.2 (by have := HN'.out; omega)
    obtain ⟨hx1, hx2⟩ := hx k (by have := HN.out; omega)
    obtain ⟨hy1, hy2⟩ := hy k (by have := HN'.out; omega)
    obtain ⟨a, Ha⟩ : ∃ a, Hid (l.getD k default = a) := ⟨_, rfl⟩
    obtain ⟨a', Ha'⟩ : ∃ a, Hid (l'.getD k default = a) := ⟨_, rfl⟩
    rw [Ha.out] at hx1 hx2
    rw [Ha'.out] at hy1 hy2
    obtain ⟨ka, sa⟩ := a
    obtain ⟨kb, sb⟩ := a'
    change V.cell? ⟨b, off + k * 2, none⟩ = some (.int .i64 ka) at hx1
    change V.cell? ⟨b, off + k * 2 + 1, none⟩ = some (.string sa) at hx2
    change V.cell? ⟨b', off' + k * 2, none⟩ = some (.int .i64 kb) at hy1
    change V.cell? ⟨b', off' + k * 2 + 1, none⟩ = some (.string sb) at hy2
    have hk0 : (0 : Int) ≤ (k : Int) := by omega
    have hkI : (k : Int) < (n' : Int) := by omega
    have hkI2 : (k : Int) < (n : Int) := by omega
    clear hx hy
    have hg := guardA
    have heq := eqA ka kb sa sb
    by_cases hab : (ka == kb && (sa.toList == sb.toList)) = true
    case neg =>
      have habf : (ka == kb && (sa.toList == sb.toList)) = false := by simpa using hab
      have HF : Hid (v = false) := Lib.hid (by
        cases v
        · rfl
        · exfalso
          apply hab
          have e := (HV.out.1 rfl).2
          have e2 : (⟨ka, sa⟩ : Att) = ⟨kb, sb⟩ := by
            rw [← Ha.out, ← Ha'.out, ← e]
            simp [List.getD, show k < n' from hkn]
          injection e2 with e3 e4
          rw [e3, e4]
          simp)
      rw [habf] at heq
      clear hab habf
      go_wp2_with fail
      go_quiet (fail)
      go_wp2_with fail
      go_ret
      exact ⟨by rw [HF.out]; rfl, q + nq, by rw [HV2.out, HDD.out]⟩
    case pos =>
      have HD2 : Hid (∀ j, j < k + 1 → l.getD j default = l'.getD j default) := Lib.hid (fun j h => by
        rcases Nat.lt_or_ge j k with h' | h'
        · exact HD.out j h'
        · obtain rfl : j = k := by omega
          rw [Ha.out, Ha'.out]
          simp only [Bool.and_eq_true, beq_iff_eq] at hab
          refine Att.ext_ hab.1 ?_
          have h3 := hab.2
          rw [Lib.toList_data, Lib.toList_data] at h3
          exact ByteArray.ext (Array.ext' h3))
      rw [hab] at heq
      clear hab
      go_wp2_with fail
      go_quiet (fail)
      go_wp2_with fail
      go_roundw
      case rel => exact ⟨k + 1, q + nq, by omega, by go_num, HD2, by rw [HV2.out, HDD.out]⟩
      case measure => simp [intOf]; omega
set_option maxRecDepth 100000 in
theorem sameR_any (w : World) (B B' : Nat) (A A' : Option Addr) (c c' n n' : Nat) (l l' : List Att) (hn : l.length = n) (hn' : l'.length = n') (hr : RdA w B A c l) (hr' : RdA w B' A' c' l') (v : Bool) (hv : v = true ↔ l = l') :
    Calls Tryd.prog 11 #[.slice A n c, .slice A' n' c'] w fun e w' => e = .returned (.bool v) ∧ ∃ q, w' = w.drewN q := by
  by_cases hnn : n = n'
  · subst hnn
    have e0 : ((n : Int) == (n : Int)) = true := by simp
    have HC := Lib.hid (underR_any w B B' A A' c c' n n l l' hn hn' hr hr' v (by rw [hv, List.take_of_length_le (by omega)]; simp))
    clear hv hr hr'
    go_enter Tryd.func11, Tryd.ntmps11
    go_wp2_with fail
    refine HC.out.mono ?_
    rintro e w1 ⟨rfl, q, rfl⟩
    go_wp2_with fail
    go_ret
    exact ⟨rfl, q, rfl⟩
  · have e0 : ((n : Int) == (n' : Int)) = false := by simp; omega
    have e1 : (n == n') = false := by simp; omega
    have HF : Hid (v = false) := Lib.hid (by
      cases v
      · rfl
      · exact absurd (hv.1 rfl) (fun e => hnn (by rw [← hn, ← hn', e])))
    clear hv hr hr'
    go_enter Tryd.func11, Tryd.ntmps11
    go_wp2_with fail
    go_ret
    exact ⟨by rw [HF.out]; rfl, 0, rfl⟩
def knownL : List Att := [⟨10, ⟨#[111]⟩⟩, ⟨3, ⟨#[99]⟩⟩]
theorem known_ok : dnOk knownL = true := by
  refine dnOk_iff.2 ⟨by decide, by decide, fun i hi => ?_⟩
  have hi2 : i < 2 := hi
  have hv : ∀ x, x < 128 → textOk [x] = true := fun x hx => by
    unfold textOk
    rw [show vd [x] = true by
      have h := rn_yes (l := [x]) (by simp; omega) (by simp) (by rw [rn_asc (by simpa using hx)]; omega)
      rw [rn_asc (by simpa using hx)] at h
      rw [← h.2]; exact vd_nil]
    rfl
  rcases (show i = 0 ∨ i = 1 by omega) with rfl | rfl
  · refine atOk_iff.2 ⟨rfl, by decide, ?_⟩
    exact hv 111 (by omega)
  · refine atOk_iff.2 ⟨rfl, by decide, ?_⟩
    exact hv 99 (by omega)
theorem known_sz : ∀ x ∈ knownL, (bts x.s).length ≤ 9223372036854775807 := by
  intro x hx
  simp only [knownL, List.mem_cons, List.not_mem_nil, or_false] at hx
  rcases hx with rfl | rfl <;> decide
theorem row_known {w : World} {g : Nat} (h : Holds w g 39 #[.int .i64 10, .string ⟨#[111]⟩, .int .i64 3, .string ⟨#[99]⟩]) : RdA w (g + 1) (some ⟨g, 0, none⟩) 2 knownL :=
  ⟨Nat.le_refl _, by omega, fun _ => ⟨g, 0, rfl, by omega, fun j hj => by
    have hj2 : j < 2 := hj
    rcases (show j = 0 ∨ j = 1 by omega) with rfl | rfl
    · exact ⟨h.cell 0, h.cell 1⟩
    · exact ⟨h.cell 2, h.cell 3⟩⟩⟩

set_option maxRecDepth 100000 in
set_option maxHeartbeats 2000000 in
theorem known15_any (w : World) (hT : Lib.Utf8Tabs 0 1 w) : Calls Tryd.prog 8 #[] w fun e w' => e = .returned (.bool true) ∧ Below w.heap.size w w' := by
  have hbox := Holds.fresh w 39 #[.int .i64 10, .string ⟨#[111]⟩]
  have hbel : Below w.heap.size w (w.alloc (.cells #[.int .i64 10, .string ⟨#[111]⟩] 39)) := (Below.refl _ _).alloc (Nat.le_refl _) _
  have hk0 := hbox.cell 0
  have hk1 := hbox.cell 1
  have hrow := Holds.fresh (w.alloc (.cells #[.int .i64 10, .string ⟨#[111]⟩] 39)) 39 #[.int .i64 10, .string ⟨#[111]⟩, .int .i64 3, .string ⟨#[99]⟩]
  have hbel2 := hbel.alloc hbel.size (.cells #[.int .i64 10, .string ⟨#[111]⟩, .int .i64 3, .string ⟨#[99]⟩] 39)
  rw [show (w.alloc (.cells #[.int .i64 10, .string ⟨#[111]⟩] 39)).heap.size = w.heap.size + 1 by simp] at hrow
  have HT := Lib.hid hT
  clear hT
  go_enter Tryd.func8, Tryd.ntmps8
  go_wp2_with fail
  generalize (w.alloc (.cells #[.int .i64 10, .string ⟨#[111]⟩] 39)).alloc (.cells #[.int .i64 10, .string ⟨#[111]⟩, .int .i64 3, .string ⟨#[99]⟩] 39) = W at *
  have hlt := hrow.lt
  have hR := (row_known hrow).more (B' := W.heap.size) (by omega)
  clear hbox hbel hk0 hk1 hrow
  have hI := isDn_any W W.heap.size _ 2 2 knownL rfl hR (Nat.le_refl _) known_sz (Utf8Tabs_below HT.out hbel2)
  rw [known_ok] at hI
  refine hI.mono ?_
  rintro e w1 ⟨rfl, hb1⟩
  have hR1 := hR.next (Nat.le_refl _) hb1
  have hbel3 := hbel2.trans (hb1.mono hbel2.size)
  clear hR hb1 hbel2 hI
  go_wp2_with fail
  refine (underA_any w1 _ _ _ _ 2 2 2 1 knownL (knownL.take 1) rfl rfl hR1 (hR1.cut 1) true ⟨fun _ => ⟨by omega, rfl⟩, fun _ => rfl⟩).mono ?_
  rintro e w2 ⟨rfl, q, rfl⟩
  have hR2 := hR1.drewN q
  have hbel4 : Below w.heap.size w (w1.drewN q) := ⟨hbel3.os, hbel3.tape, hbel3.output, hbel3.size, hbel3.block⟩
  clear hbel3 hR1
  generalize w1.drewN q = w2 at *
  go_wp2_with fail
  refine (underA_any w2 _ _ _ _ 2 2 1 2 (knownL.take 1) knownL rfl rfl (hR2.cut 1) hR2 false ⟨(fun e => by cases e), fun e => absurd e.1 (by omega)⟩).mono ?_
  rintro e w3 ⟨rfl, q, rfl⟩
  have hR3 := hR2.drewN q
  have hbel5 : Below w.heap.size w (w2.drewN q) := ⟨hbel4.os, hbel4.tape, hbel4.output, hbel4.size, hbel4.block⟩
  clear hbel4 hR2
  generalize w2.drewN q = w3 at *
  go_wp2_with fail
  refine (sameA_any w3 _ _ _ _ 2 2 2 2 knownL knownL rfl rfl hR3 hR3 true ⟨fun _ => rfl, fun _ => rfl⟩).mono ?_
  rintro e w4 ⟨rfl, q, rfl⟩
  go_wp2_with fail
  go_ret
  exact ⟨rfl, ⟨hbel5.os, hbel5.tape, hbel5.output, hbel5.size, hbel5.block⟩⟩
end Go.Proofs.YtmoefccfdnijpaaDoor
