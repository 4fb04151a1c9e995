/-
  Nodes in a row; has a node a place? are two rows of numbers one?
-/
import Derived.Test.YtkfokgkehlcikaaNode3
namespace Go.Proofs.Ytkfokgkehlcikaa
open Go.RowKit
set_option linter.unusedVariables false
set_option linter.unusedSimpArgs false

/-- A node of a row. -/
structure Nd where
  name : ByteArray
  size : Int
  pa : Option Addr
  pc : Nat
  pl : List Int
instance : Inhabited Nd := ⟨⟨ByteArray.empty, 0, none, 0, []⟩⟩
/-- The slice '.slice A l.length c' reads as these nodes. -/
def RdN (w : World) (B : Nat) (A : Option Addr) (c : Nat) (l : List Nd) : Prop :=
  l.length ≤ c ∧ c ≤ 9223372036854775807 ∧ (∀ j, j < l.length → RdI .i64 w B (l.getD j default).pa (l.getD j default).pc (l.getD j default).pl) ∧
    (0 < l.length → ∃ b off, A = some ⟨b, off, none⟩ ∧ b < B ∧ ∀ j, j < l.length → w.cell? ⟨b, off + j * 3, none⟩ = some (.string (l.getD j default).name) ∧ w.cell? ⟨b, off + j * 3 + 1, none⟩ = some (.int .i64 (l.getD j default).size) ∧
      w.cell? ⟨b, off + j * 3 + 2, none⟩ = some (.slice (l.getD j default).pa (l.getD j default).pl.length (l.getD j default).pc))
theorem RdN.under {w w' : World} {B : Nat} {A : Option Addr} {c : Nat} {l : List Nd} (h : RdN w B A c l) (hb : Below B w w') : RdN w' B A c l :=
  ⟨h.1, h.2.1, fun j hj => (h.2.2.1 j hj).under hb, fun hn => by
    obtain ⟨b, off, e, hlt, hc⟩ := h.2.2.2 hn
    exact ⟨b, off, e, hlt, fun j hj => ⟨(hb.cell (p := ⟨b, _, none⟩) hlt).trans (hc j hj).1, (hb.cell (p := ⟨b, _, none⟩) hlt).trans (hc j hj).2.1, (hb.cell (p := ⟨b, _, none⟩) hlt).trans (hc j hj).2.2⟩⟩⟩
/-- Some node of the first k has the place. -/
def hasL (l : List Nd) (x : Int) (k : Nat) : Prop := ∃ j i, j < k ∧ j < l.length ∧ i < (l.getD j default).pl.length ∧ (l.getD j default).pl.getD i 0 = x

set_option maxRecDepth 100000 in
set_option maxHeartbeats 4000000 in
theorem has_any (w : World) (B : Nat) (A : Option Addr) (c n : Nat) (l : List Nd) (hn : l.length = n) (hr : RdN w B A c l) (x : Int) (v : Bool) (hv : v = true ↔ hasL l x n) :
    Calls Try.prog 35 #[.slice A n c, .int .i64 x] w fun e w' => e = .returned (.bool v) ∧ w = w' := by
  have HV := Lib.hid hv
  have HN := Lib.hid hn
  have HR := Lib.hid hr
  have hlc : n ≤ c := by have := hr.1; omega
  have hc63 := hr.2.1
  clear hv hn hr
  go_enter Try.func35, Try.ntmps35
  go_wp2_with fail
  go_loop [5] (fun i => ∃ k : Nat, k ≤ n ∧ i = .int .i64 k ∧ Hid (¬ hasL l x k)) (fun i => n - (intOf i).toNat)
  case atStart => exact ⟨0, Nat.zero_le _, rfl, Lib.hid (fun ⟨j, i, h, _⟩ => by omega)⟩
  case round =>
    obtain ⟨k, hk, rfl, HD⟩ := hrel
    by_cases hkn : k < n
    case pos =>
      have hkI : (k : Int) < (n : Int) := by omega
      have hk0 : (0 : Int) ≤ (k : Int) := by omega
      obtain ⟨b, off, rfl, hb, hcs⟩ := HR.out.2.2.2 (by rw [HN.out]; omega)
      obtain ⟨_, _, q2⟩ := hcs k (by rw [HN.out]; exact hkn)
      have hri := HR.out.2.2.1 k (by rw [HN.out]; exact hkn)
      have HX : Hid (∀ i, i < (l.getD k default).pl.length → (l.getD k default).pl.getD i 0 = x → v = true) := Lib.hid fun i hi e => HV.out.2 ⟨k, i, hkn, by rw [HN.out]; exact hkn, hi, e⟩
      have HD2 : Hid ((∀ i, i < (l.getD k default).pl.length → (l.getD k default).pl.getD i 0 ≠ x) → ¬ hasL l x (k + 1)) := Lib.hid fun h ⟨j, i, h1, h2, h3, h4⟩ => by
        rcases Nat.lt_or_ge j k with h5 | h5
        · exact HD.out ⟨j, i, h5, h2, h3, h4⟩
        · obtain rfl : j = k := by omega
          exact h i h3 h4
      have HRI := Lib.hid hri
      have hple : (l.getD k default).pl.length ≤ (l.getD k default).pc := hri.1
      have hpc := hri.2.1
      clear hcs hri
      generalize l.getD k default = d at *
      obtain ⟨dn, dz, pa, pc, pl⟩ := d
      simp only at q2 HX HD2 HRI hple hpc
      go_wp2_with fail
      go_loop [6] (fun i => ∃ m : Nat, m ≤ pl.length ∧ i = .int .i64 m ∧ Hid (∀ i, i < m → pl.getD i 0 ≠ x)) (fun i => pl.length - (intOf i).toNat)
      case atStart => exact ⟨0, Nat.zero_le _, rfl, Lib.hid (fun i h => by omega)⟩
      case round =>
        obtain ⟨m, hm, rfl, HM⟩ := hrel
        by_cases hml : m < pl.length
        case pos =>
          have hmI : (m : Int) < (pl.length : Int) := by omega
          have hm0 : (0 : Int) ≤ (m : Int) := by omega
          obtain ⟨b2, off2, y, rfl, hb2, hy, Hy⟩ := HRI.out.at_ hml
          by_cases hyx : y = x
          case pos =>
            have hB : (y == x) = true := by rw [beq_iff_eq]; exact hyx
            have HT : Hid (v = true) := Lib.hid (HX.out m hml (by rw [← Hy.out]; exact hyx))
            clear hyx
            go_wp2_with fail
            go_ret
            exact ⟨by rw [HT.out]; rfl, rfl⟩
          case neg =>
            have hB : (y == x) = false := by rw [beq_eq_false_iff_ne]; exact hyx
            have HM2 : Hid (∀ i, i < m + 1 → pl.getD i 0 ≠ x) := Lib.hid fun i hi => by
              rcases Nat.lt_or_ge i m with h5 | h5
              · exact HM.out i h5
              · obtain rfl : i = m := by omega
                rw [← Hy.out]; exact hyx
            clear hyx
            go_wp2_with fail
            go_round
            case rel => exact ⟨m + 1, by omega, by go_num, HM2⟩
            case measure => simp [intOf]; omega
        case neg =>
          obtain rfl : m = pl.length := by omega
          have hmI : ¬ ((pl.length : Int) < (pl.length : Int)) := by omega
          have HD3 := Lib.hid (HD2.out HM.out)
          go_wp2_with fail
          go_round
          case rel => exact ⟨k + 1, by omega, by go_num, HD3⟩
          case measure => simp [intOf]; omega
    case neg =>
      obtain rfl : k = n := by omega
      have hkI : ¬ ((k : Int) < (k : Int)) := by omega
      have HF : Hid (v = false) := Lib.hid (not_true fun e => HD.out (HV.out.1 e))
      go_wp2_with fail
      go_ret
      exact ⟨by rw [HF.out]; rfl, rfl⟩
set_option maxRecDepth 100000 in
set_option maxHeartbeats 2000000 in
theorem ints_any (w : World) (B B' : Nat) (A A' : Option Addr) (c c' n n' : Nat) (l l' : List Int) (hn : l.length = n) (hn' : l'.length = n') (hr : RdI .i64 w B A c l) (hr' : RdI .i64 w B' A' c' l') (v : Bool) (hv : v = true ↔ l = l') :
    Calls Try.prog 24 #[.slice A n c, .slice A' n' c'] w fun e w' => e = .returned (.bool v) ∧ ∃ q, w' = w.drewN q := by
  have HV := Lib.hid hv
  have HN := Lib.hid hn
  have HN' := Lib.hid hn'
  have HR := Lib.hid hr
  have HR' := Lib.hid hr'
  have hlc : n ≤ c := by have := hr.1; omega
  have hc63 := hr.2.1
  have hlc' : n' ≤ c' := by have := hr'.1; omega
  have hc63' := hr'.2.1
  clear hv hn hn' hr hr'
  by_cases hnn : n = n'
  case neg =>
    have hB : ((n : Int) != (n' : Int)) = true := by rw [bne_iff_ne]; omega
    have HF : Hid (v = false) := Lib.hid (not_true fun e => hnn (by have := HV.out.1 e; rw [← HN.out, ← HN'.out, this]))
    clear hnn
    go_enter Try.func24, Try.ntmps24
    go_wp2_with fail
    go_ret
    exact ⟨by rw [HF.out]; rfl, 0, rfl⟩
  case pos =>
  subst hnn
  go_enter Try.func24, Try.ntmps24
  go_wp2_with fail
  go_loopw [5] (fun i wr => ∃ k : Nat, k ≤ n ∧ i = .int .i64 k ∧ (∃ q, wr = w.drewN q) ∧ Hid (∀ i, i < k → l.getD i 0 = l'.getD i 0)) (fun i _ => n - (intOf i).toNat)
  case atStart => exact ⟨0, Nat.zero_le _, rfl, ⟨0, rfl⟩, Lib.hid (fun i h => by omega)⟩
  case round =>
    obtain ⟨k, hk, rfl, ⟨q, hq⟩, HD⟩ := hrel
    obtain ⟨V, hV⟩ : ∃ V, V = wr := ⟨_, rfl⟩
    subst hV
    have HQ := Lib.hid hq
    have HRV : Hid (RdI .i64 V B A c l) := Lib.hid (by rw [hq]; exact HR.out.drewN q)
    have HRV' : Hid (RdI .i64 V B' A' c' l') := Lib.hid (by rw [hq]; exact HR'.out.drewN q)
    clear hq
    by_cases hkn : k < n
    case pos =>
      have hkI : (k : Int) < (n : Int) := by omega
      have hk0 : (0 : Int) ≤ (k : Int) := by omega
      obtain ⟨b1, off1, y, rfl, hb1, hy, Hy⟩ := HRV.out.at_ (i := k) (by rw [HN.out]; exact hkn)
      obtain ⟨b2, off2, z, rfl, hb2, hz, Hz⟩ := HRV'.out.at_ (i := k) (by rw [HN'.out]; exact hkn)
      by_cases hyz : y = z
      case pos =>
        have hB : (y != z) = false := by rw [bne_eq_false_iff_eq]; exact hyz
        have HD2 : Hid (∀ i, i < k + 1 → l.getD i 0 = l'.getD i 0) := Lib.hid fun i hi => by
          rcases Nat.lt_or_ge i k with h5 | h5
          · exact HD.out i h5
          · obtain rfl : i = k := by omega
            rw [← Hy.out, ← Hz.out]; exact hyz
        clear hyz
        go_wp2_with fail
        go_quiet (fail)
        go_wp2_with fail
        go_roundw
        case rel => exact ⟨k + 1, by omega, by go_num, ⟨_, by rw [HQ.out, World.drewN_drewN]⟩, HD2⟩
        case measure => simp [intOf]; omega
      case neg =>
        have hB : (y != z) = true := by rw [bne_iff_ne]; exact hyz
        have HF : Hid (v = false) := Lib.hid (not_true fun e => hyz (by rw [Hy.out, Hz.out, HV.out.1 e]))
        clear hyz
        go_wp2_with fail
        go_quiet (fail)
        go_wp2_with fail
        go_ret
        exact ⟨by rw [HF.out]; rfl, _, by rw [HQ.out, World.drewN_drewN]⟩
    case neg =>
      obtain rfl : k = n := by omega
      have hkI : ¬ ((k : Int) < (k : Int)) := by omega
      have HT : Hid (v = true) := Lib.hid (HV.out.2 (by
        apply List.ext_getElem (by rw [HN.out, HN'.out])
        intro i h1 h2
        have := HD.out i (by rw [← HN.out]; exact h1)
        simpa [List.getD, h1, h2] using this))
      go_wp2_with fail
      go_ret
      exact ⟨by rw [HT.out]; rfl, _, HQ.out⟩
end Go.Proofs.Ytkfokgkehlcikaa
