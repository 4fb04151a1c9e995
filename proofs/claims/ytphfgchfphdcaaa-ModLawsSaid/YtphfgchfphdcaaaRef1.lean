/-
  The document's own division: by one digit.
-/
import Derived.Test.YtphfgchfphdcaaaNat18
namespace Go.Proofs.Ytphfgchfphdcaaa
open Go.RowKit
set_option linter.unusedVariables false

set_option maxRecDepth 100000 in
theorem short'_any (w : World) (B : Nat) (A : Option Addr) (c : Nat) (l : List Nat) (hr : Rd .u32 w B A c l) (hB : B ≤ w.heap.size) (hd : Dg l) (hs : l.length ≤ 5000) (b : Nat) (hb0 : 0 < b) (hb : b < 4294967296) :
    Calls Try.prog 47 #[.slice A l.length c, .int .u64 b] w (Divided w (val l) b) := by
  have hlc : l.length ≤ c := hr.1
  have hc63 : c ≤ 9223372036854775807 := hr.2.1
  have hmk := make_nat (l.length : Int) l.length rfl (by omega)
  go_enter Try.func47, Try.ntmps47
  go_wp2_with fail
  have hR0 : Row .u32 31 (w.alloc (.cells (nums .u32 (List.replicate l.length 0)) 31)) w.heap.size (List.replicate l.length 0) := Holds.fresh _ _ _
  clear hmk
  go_loopw [8, 9] (fun sv si wr => ∃ (i v : Nat) (L : List Nat), i ≤ l.length ∧ si = .int .i64 ((i : Int) - 1) ∧ sv = .int .u64 v ∧ v < b ∧ Row .u32 31 wr w.heap.size L ∧ L.length = l.length ∧ Dg L ∧ Hid (val (L.drop i) * b + v = val (l.drop i)) ∧ Below w.heap.size w wr)
    (fun _ si _ => (intOf si + 1).toNat)
  case atStart => exact ⟨l.length, 0, _, Nat.le_refl _, rfl, rfl, hb0, hR0, by simp, Dg.noughts _, by show _ = _; simp [val], (Below.refl _ _).alloc (Nat.le_refl _) _⟩
  case round =>
    obtain ⟨i, v, L, hi, rfl, rfl, hv, hR, hL, hdL, Hval, hbel⟩ := hrel
    have hz := Holds.lt hR
    have HL := Lib.hid hL
    clear hL
    have hfr := hR.open_
    rcases i with _ | m
    · have hfin : val L * b + v = val l := Hval.out
      have Hq := Lib.hid (show val L = val l / b by
        rw [← hfin, Nat.mul_comm, Nat.mul_add_div (by omega), Nat.div_eq_of_lt hv, Nat.add_zero])
      have Hm := Lib.hid (show v = val l % b by
        rw [← hfin, Nat.mul_comm, Nat.mul_add_mod, Nat.mod_eq_of_lt hv])
      clear hfin
      go_wp2_with fail
      refine (trim'_at wr _ _ l.length l.length L (rd_whole hR (Nat.le_of_eq HL.out) (by omega)) HL.out).mono ?_
      rintro e w1 ⟨rfl, rfl⟩
      go_wp2_with fail
      have hT : Row .u32 31 (wr.alloc (.cells #[.int .u32 v] 31)) wr.heap.size [v] := Holds.fresh _ _ _
      refine (trim'_at _ _ _ 1 1 [v] (rd_whole hT (by simp) (by omega)) rfl).mono ?_
      rintro e w1 ⟨rfl, rfl⟩
      go_wp2_with fail
      go_ret3
      refine ⟨_, _, trl L, _, _, trl [v], rfl, num_trl hdL Hq.out, by rw [← Hm.out]; exact one_digit v (by omega), fresh_trl (Holds.alloc hR _) (Nat.le_refl _) (Nat.le_of_eq HL.out) (by omega), fresh_trl hT (by omega) (by simp) (by omega), hbel.alloc hbel.size _⟩
    · rw [show (((m + 1 : Nat) : Int) - 1) = (m : Int) from by omega]
      obtain ⟨bb, off, x, rfl, hbb, hx, Hx⟩ := (hr.under (hbel.mono hB)).at_ (i := m) (by omega)
      have hxl : x < 4294967296 := by rw [Hx.out]; exact hd.at_ m
      have hcell := hR.cell (i := m) (by rw [HL.out]; omega)
      have hor := or_u64 v x (by omega) hxl
      have hfit := short_fit hv hxl
      have hst0 := short_step (by rw [HL.out]; omega) (by omega) Hval.out Hx.out (m := m)
      have Hst := Lib.hid hst0
      clear hst0
      obtain ⟨t, Ht⟩ : ∃ t, Hid (t = v * 4294967296 + x) := ⟨_, rfl⟩
      rw [← Ht.out] at hor hfit Hst
      have htl : t < 18446744073709551616 := by rw [Ht.out]; omega
      have hbi : ((b : Int) == 0) = false := by simp; omega
      obtain ⟨d, Hd⟩ : ∃ d, Hid (d = t / b) := ⟨_, rfl⟩
      obtain ⟨z, Hz⟩ : ∃ z, Hid (z = t % b) := ⟨_, rfl⟩
      have hzb : z < b := by rw [Hz.out]; exact Nat.mod_lt _ hb0
      have hw1 : IntKind.u64.wrap ((t : Int) / (b : Int)) = (d : Int) := by
        have e : ((t : Int) / (b : Int)) = (d : Int) := by rw [Hd.out]; rfl
        rw [e]
        exact u64_in _ (by omega) (by rw [← Hd.out] at hfit; omega)
      have Hw2 := Lib.hid (show (t : Int) % (b : Int) = (z : Int) by rw [Hz.out]; rfl)
      rw [← Hd.out] at hfit Hst
      rw [← Hz.out] at Hst
      go_wp2_with fail
      have hst := hR.set m d
      exact ⟨⟨m, z, _, by omega, rfl, congrArg (Value.int IntKind.u64) Hw2.out, hzb, hst, by rw [List.length_set]; exact HL.out, hdL.set _ _ hfit, Hst.out, hbel.setCell (Nat.le_refl _) _⟩, by simp [intOf]⟩
end Go.Proofs.Ytphfgchfphdcaaa
