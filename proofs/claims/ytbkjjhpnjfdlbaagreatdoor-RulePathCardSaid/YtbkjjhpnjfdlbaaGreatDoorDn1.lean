/-
  Names compared: by the program.
-/
import Derived.Test.YtbkjjhpnjfdlbaaGreatDoorStr
namespace Go.Proofs.YtbkjjhpnjfdlbaaGreatDoor
open Go.RowKit
set_option linter.unusedVariables false

/-- A part of a name: its kind, its text. -/
structure Att where
  k : Int
  s : ByteArray
instance : Inhabited Att := ⟨⟨0, ⟨#[]⟩⟩⟩
theorem Att.ext_ {a b : Att} (h1 : a.k = b.k) (h2 : a.s = b.s) : a = b := by cases a; cases b; simp at h1 h2; simp [h1, h2]

/-- The slice '.slice A l.length c' reads as the parts l. -/
def RdA (w : World) (B : Nat) (A : Option Addr) (c : Nat) (l : List Att) : Prop :=
  l.length ≤ c ∧ c ≤ 9223372036854775807 ∧ (0 < l.length → ∃ b off, A = some ⟨b, off, none⟩ ∧ b < B ∧ ∀ j, j < l.length →
    w.cell? ⟨b, off + j * 2, none⟩ = some (.int .i64 (l.getD j default).k) ∧ w.cell? ⟨b, off + j * 2 + 1, none⟩ = some (.string (l.getD j default).s))
section
variable {w w' : World} {B B' : Nat} {A : Option Addr} {c : Nat} {l : List Att}
theorem RdA.keep (h : RdA w B A c l) (hk : ∀ b o, b < B → w'.cell? ⟨b, o, none⟩ = w.cell? ⟨b, o, none⟩) : RdA w' B A c l :=
  ⟨h.1, h.2.1, fun hn => by
    obtain ⟨b, off, e, hb, hc⟩ := h.2.2 hn
    exact ⟨b, off, e, hb, fun j hj => ⟨(hk _ _ hb).trans (hc j hj).1, (hk _ _ hb).trans (hc j hj).2⟩⟩⟩
theorem RdA.more (h : RdA w B A c l) (hB : B ≤ B') : RdA w B' A c l :=
  ⟨h.1, h.2.1, fun hn => by
    obtain ⟨b, off, e, hb, hc⟩ := h.2.2 hn
    exact ⟨b, off, e, by omega, hc⟩⟩
theorem RdA.under (h : RdA w B A c l) (hb : Below B w w') : RdA w' B A c l := h.keep fun b o hlt => hb.cell (p := ⟨b, o, none⟩) hlt
theorem RdA.next (h : RdA w B A c l) (hB : B ≤ w.heap.size) (hb : Below w.heap.size w w') : RdA w' w'.heap.size A c l := ((h.more hB).under hb).more hb.size
theorem RdA.drewN (h : RdA w B A c l) (n : Nat) : RdA (w.drewN n) B A c l := h
theorem RdA.nil_ (w : World) (B : Nat) (A : Option Addr) (c : Nat) (h : c ≤ 9223372036854775807) : RdA w B A c [] := ⟨Nat.zero_le _, h, fun h => by simp at h⟩
theorem RdA.cut (h : RdA w B A c l) (n : Nat) : RdA w B A c (l.take n) := by
  refine ⟨by have := h.1; simp; omega, h.2.1, fun hn => ?_⟩
  have hn' : 0 < l.length := by simp at hn; omega
  obtain ⟨b, off, e, hb, hc⟩ := h.2.2 hn'
  refine ⟨b, off, e, hb, fun j hj => ?_⟩
  have hj' : j < n ∧ j < l.length := by simp at hj; omega
  have e2 : (l.take n).getD j default = l.getD j default := by simp [List.getD, hj'.1]
  rw [e2]
  exact hc j hj'.2
end

theorem guardA : Tryz.prog.eqGuardType Tryz.prog.depth 62 = false := by kernel_rfl
theorem plain_intA : Tryz.prog.plainKey 3 = true := by kernel_rfl
theorem plain_strA : Tryz.prog.plainKey 9 = true := by kernel_rfl
theorem eqA (a b : Int) (s t : ByteArray) (W : World) : (Op.equalIn 10000 62 (.agg #[.int .i64 a, .string s]) (.agg #[.int .i64 b, .string t])).run Tryz.prog W = .ok (a == b && (s.toList == t.toList)) W := by
  refine (run_equalIn_struct W 9999 62 _ _ (by kernel_rfl) (by kernel_rfl)).trans ?_
  have h1 : ∀ (xs : Array Value) (j : Nat) (v : Value) (W : World), xs[j]? = some v → (Go.part 3 xs j).run Tryz.prog W = .ok v W := fun xs j v W h => run_part_plain W plain_intA h
  have h2 : ∀ (xs : Array Value) (j : Nat) (v : Value) (W : World), xs[j]? = some v → (Go.part 9 xs j).run Tryz.prog W = .ok v W := fun xs j v W h => run_part_plain W plain_strA h
  have e1 := h1 #[.int .i64 a, .string s] 0 _ W rfl
  have e2 := h1 #[.int .i64 b, .string t] 0 _ W rfl
  have e3 := h2 #[.int .i64 a, .string s] 1 _ W rfl
  have e4 := h2 #[.int .i64 b, .string t] 1 _ W rfl
  have e5 := run_equalIn_int (P := Tryz.prog) W 9998 3 .i64 .i64 a b Tryz.underlying3
  have e6 := run_equalIn_string (P := Tryz.prog) W 9998 9 s t Tryz.underlying9
  simp only [Program.fieldsOf, Tryz.underlying62, Op.eqFields]
  cases h : (a == b)
  · simp [Sem.run_bind, e1, e2, e5, h, Result.andThen_ok]
  · cases h' : (s.toList == t.toList)
    · rw [h'] at e6
      simp [Sem.run_bind, e1, e2, e3, e4, e5, e6, h, Result.andThen_ok]
    · rw [h'] at e6
      simp [Sem.run_bind, e1, e2, e3, e4, e5, e6, h, Result.andThen_ok]

def RelEA (n : Nat) (l l' : List Att) (W : World) (i : Value) (wr : World) : Prop :=
  ∃ k q : Nat, k ≤ n ∧ i = .int .i64 k ∧ Hid (∀ j, j < k → l.getD j default = l'.getD j default) ∧ wr = W.drewN q

set_option maxRecDepth 100000 in
set_option maxHeartbeats 1000000 in
theorem equalA_any (w : World) (B B' : Nat) (A A' : Option Addr) (c c' n n' : Nat) (l l' : List Att) (hn : l.length = n) (hn' : l'.length = n') (hr : RdA w B A c l) (hr' : RdA w B' A' c' l') (v : Bool) (hv : v = true ↔ l = l') :
    Calls Tryz.prog 66 #[.slice A n c, .slice A' n' c'] w fun e w' => e = .returned (.bool v) ∧ ∃ q, w' = w.drewN q := by
  have HV := Lib.hid hv
  have HN := Lib.hid hn
  have HN' := Lib.hid hn'
  have hlc := hr.1
  have hc63 := hr.2.1
  have hlc' := hr'.1
  have hc63' := hr'.2.1
  clear hv
  by_cases hnn : n = n'
  case neg =>
    have q1 : ((n : Int) != (n' : Int)) = true := by rw [bne_iff_ne]; omega
    have HF : Hid (v = false) := Lib.hid (by
      cases v
      · rfl
      · exact absurd (HV.out.1 rfl) (fun e => hnn (by rw [← HN.out, ← HN'.out, e])))
    go_enter Tryz.func66, Tryz.ntmps66
    go_wp2_with fail
    go_ret
    exact ⟨by rw [HF.out]; rfl, 0, rfl⟩
  case pos =>
  subst hnn
  go_enter Tryz.func66, Tryz.ntmps66
  go_wp2_with fail
  go_loopw [13] (fun i wr => RelEA n l l' w i wr) (fun i _ => n - (intOf i).toNat)
  case atStart => exact ⟨0, 0, Nat.zero_le _, rfl, Lib.hid (fun i h => by omega), rfl⟩
  case round =>
    obtain ⟨k, q, hk, rfl, HD, rfl⟩ := hrel
    have hrb := hr.drewN q
    have hrb' := hr'.drewN q
    have HDD := Lib.hid (fun m => World.drewN_drewN w q m)
    obtain ⟨V, HV2⟩ : ∃ V, Hid (V = w.drewN q) := ⟨_, rfl⟩
    rw [← HV2.out] at hrb hrb' ⊢
    by_cases hkn : k < n
    case neg =>
      obtain rfl : k = n := by omega
      have hf : decide ((k : Int) < (k : Int)) = false := decide_eq_false (by omega)
      have hf2 : decide (k < k) = false := decide_eq_false (by omega)
      have hE : l = l' := by
        apply List.ext_getElem (by rw [HN.out, HN'.out])
        intro i h1 h2
        have := HD.out i (by have := HN.out; omega)
        simpa [List.getD, h1, h2] using this
      have HT := Lib.hid (HV.out.2 hE)
      clear hE
      go_wp2_with fail
      go_ret
      exact ⟨by rw [HT.out]; rfl, q, HV2.out⟩
    case pos =>
    obtain ⟨b, off, rfl, hb, hx⟩ := hrb.2.2 (by have := HN.out; omega)
    obtain ⟨b', off', rfl, hb', hy⟩ := hrb'.2.2 (by have := HN'.out; omega)
    obtain ⟨hx1, hx2⟩ := hx k (by have := HN.out; omega)
    obtain ⟨hy1, hy2⟩ := hy k (by have := HN'.out; omega)
    obtain ⟨a, Ha⟩ : ∃ a, Hid (l.getD k default = a) := ⟨_, rfl⟩
    obtain ⟨a', Ha'⟩ : ∃ a, Hid (l'.getD k default = a) := ⟨_, rfl⟩
    rw [Ha.out] at hx1 hx2
    rw [Ha'.out] at hy1 hy2
    obtain ⟨ka, sa⟩ := a
    obtain ⟨kb, sb⟩ := a'
    change V.cell? ⟨b, off + k * 2, none⟩ = some (.int .i64 ka) at hx1
    change V.cell? ⟨b, off + k * 2 + 1, none⟩ = some (.string sa) at hx2
    change V.cell? ⟨b', off' + k * 2, none⟩ = some (.int .i64 kb) at hy1
    change V.cell? ⟨b', off' + k * 2 + 1, none⟩ = some (.string sb) at hy2
    have hk0 : (0 : Int) ≤ (k : Int) := by omega
    have hkI : (k : Int) < (n : Int) := by omega
    clear hx hy
    have hg := guardA
    have heq := eqA ka kb sa sb
    by_cases hab : (ka == kb && (sa.toList == sb.toList)) = true
    case neg =>
      have habf : (ka == kb && (sa.toList == sb.toList)) = false := by simpa using hab
      have HF : Hid (v = false) := Lib.hid (by
        cases v
        · rfl
        · exfalso
          apply hab
          have e := HV.out.1 rfl
          have e2 : (⟨ka, sa⟩ : Att) = ⟨kb, sb⟩ := by rw [← Ha.out, ← Ha'.out, e]
          injection e2 with e3 e4
          rw [e3, e4]
          simp)
      rw [habf] at heq
      clear hab habf
      go_wp2_with fail
      go_quiet (fail)
      go_wp2_with fail
      go_ret
      exact ⟨by rw [HF.out]; rfl, q + nq, by rw [HV2.out, HDD.out]⟩
    case pos =>
      have HD2 : Hid (∀ j, j < k + 1 → l.getD j default = l'.getD j default) := Lib.hid (fun j h => by
        rcases Nat.lt_or_ge j k with h' | h'
        · exact HD.out j h'
        · obtain rfl : j = k := by omega
          rw [Ha.out, Ha'.out]
          simp only [Bool.and_eq_true, beq_iff_eq] at hab
          refine Att.ext_ hab.1 ?_
          have h3 := hab.2
          rw [Lib.toList_data, Lib.toList_data] at h3
          exact ByteArray.ext (Array.ext' h3))
      rw [hab] at heq
      clear hab
      go_wp2_with fail
      go_quiet (fail)
      go_wp2_with fail
      go_roundw
      case rel => exact ⟨k + 1, q + nq, by omega, by go_num, HD2, by rw [HV2.out, HDD.out]⟩
      case measure => simp [intOf]; omega
end Go.Proofs.YtbkjjhpnjfdlbaaGreatDoor
