/-
  The document's own division: shifting.
-/
import Derived.Test.YtphfgchfphdcaaaRef1
namespace Go.Proofs.Ytphfgchfphdcaaa
open Go.RowKit
set_option linter.unusedVariables false

theorem shl_or {x o s : Nat} (hx : x < 4294967296) (hs : s < 32) (ho : o < 2 ^ s) : (o ||| (x * 2 ^ s % 4294967296)) = (x * 2 ^ s + o) % 4294967296 ∧ x * 2 ^ s / 4294967296 = (x * 2 ^ s + o) / 4294967296 := by
  have e : 4294967296 = 2 ^ s * 2 ^ (32 - s) := by rw [← Nat.pow_add, show s + (32 - s) = 32 by omega]
  have h1 : x * 2 ^ s % 4294967296 = x % 2 ^ (32 - s) * 2 ^ s := by
    rw [e, Nat.mul_comm x, Nat.mul_mod_mul_left, Nat.mul_comm]
  have hp : 0 < 2 ^ (32 - s) := Nat.pow_pos (by omega)
  have hd := Nat.mod_add_div x (2 ^ (32 - s))
  have hl := Nat.mod_lt x hp
  rw [h1, or_shift _ s o ho]
  generalize x % 2 ^ (32 - s) = y at *
  generalize x / 2 ^ (32 - s) = z at *
  have h2 : x * 2 ^ s = y * 2 ^ s + 4294967296 * z := by
    rw [← hd, Nat.add_mul, e]
    congr 1
    rw [Nat.mul_comm (2 ^ (32 - s) * z), Nat.mul_assoc]
  have h3 : (y + 1) * 2 ^ s ≤ 2 ^ (32 - s) * 2 ^ s := Nat.mul_le_mul_right _ hl
  rw [Nat.mul_comm (2 ^ (32 - s)), ← e, Nat.add_mul] at h3
  rw [h2]
  omega

set_option maxRecDepth 100000 in
theorem shifted'_any (w : World) (B : Nat) (A : Option Addr) (c n : Nat) (l : List Nat) (hn : l.length = n) (hr : Rd .u32 w B A c l) (hB : B ≤ w.heap.size) (hd : Dg l) (hls : n ≤ 5000) (s : Nat) (hs : s < 32) :
    Calls Try.prog 48 #[.slice A n c, .int .u64 s] w fun e w' => ∃ L, e = .returned (.slice (some ⟨w.heap.size, 0, none⟩) (n + 1) (n + 1)) ∧ L.length = n + 1 ∧ Dg L ∧ val L = val l * 2 ^ s ∧ Row .u32 31 w' w.heap.size L ∧ Below w.heap.size w w' := by
  subst hn
  have hlc : l.length ≤ c := hr.1
  have hc63 : c ≤ 9223372036854775807 := hr.2.1
  have hmk := make_nat ((l.length : Int) + 1) (l.length + 1) (by omega) (by omega)
  go_enter Try.func48, Try.ntmps48
  go_wp2_with fail
  have hR0 : Row .u32 31 (w.alloc (.cells (nums .u32 (List.replicate (l.length + 1) 0)) 31)) w.heap.size (List.replicate (l.length + 1) 0) := Holds.fresh _ _ _
  clear hmk
  go_loopw [6] (fun si wr => ∃ (i o : Nat) (L : List Nat), i ≤ l.length ∧ si = .int .i64 i ∧ o < 4294967296 ∧ Hid (o < 2 ^ s) ∧ Hid (L.getD i 0 = o) ∧ Row .u32 31 wr w.heap.size L ∧ L.length = l.length + 1 ∧ Dg L ∧ Hid (val (L.take i) + pw i * o = val (l.take i) * 2 ^ s) ∧ Below w.heap.size w wr)
    (fun si _ => l.length - (intOf si).toNat)
  case atStart => exact ⟨0, 0, _, by omega, rfl, by omega, Nat.pow_pos (by omega), getD_noughts _ _, hR0, by simp, Dg.noughts _, by show _ = _; simp [val], (Below.refl _ _).alloc (Nat.le_refl _) _⟩
  case round =>
    obtain ⟨i, o, L, hi, rfl, ho, Ho, Hat, hR, hL, hdL, Hval, hbel⟩ := hrel
    have hz := Holds.lt hR
    have HL := Lib.hid hL
    clear hL
    have hfr := hR.open_
    by_cases h : i < l.length
    · obtain ⟨b, off, x, rfl, hb, hx, Hx⟩ := (hr.under (hbel.mono hB)).at_ h
      have hxl : x < 4294967296 := by rw [Hx.out]; exact hd.at_ i
      have hcell := hR.cell (i := i) (by rw [HL.out]; omega)
      rw [Hat.out] at hcell
      have hcell2 := hR.cell (i := i + 1) (by rw [HL.out]; omega)
      obtain ⟨X, HX⟩ : ∃ X, Hid (X = x * 2 ^ s) := ⟨_, rfl⟩
      have hso := shl_or hxl hs Ho.out
      obtain ⟨hf1, hf2⟩ := shl_fit hxl hs Ho.out
      have Hf2 := Lib.hid hf2
      have hXl : X < 18446744073709551616 := by rw [HX.out]; omega
      have hw : IntKind.u64.wrap ((x : Int) * 2 ^ s) = (X : Int) := by
        have e : ((x : Int) * 2 ^ s) = (X : Int) := by rw [HX.out, Int.natCast_mul, Int.natCast_pow]; rfl
        rw [e, u64_in _ (by omega) (by omega)]
      obtain ⟨d, Hd⟩ : ∃ d, Hid (d = (x * 2 ^ s + o) % 4294967296) := ⟨_, rfl⟩
      obtain ⟨u, Hu⟩ : ∃ u, Hid (u = (x * 2 ^ s + o) / 4294967296) := ⟨_, rfl⟩
      have hdl : d < 4294967296 := by rw [Hd.out]; omega
      have hul : u < 4294967296 := by rw [Hu.out]; omega
      have hor : bits .or .u32 (o : Int) ((X : Int) % 4294967296) = (d : Int) := by
        have h1 := u32_or_nat o (X % 4294967296) ho (by omega)
        rw [HX.out, hso.1, ← Hd.out, ← HX.out] at h1
        exact h1
      have hXu : (X : Int) / 4294967296 = (u : Int) := by
        have h1 := hso.2
        rw [← Hu.out, ← HX.out] at h1
        omega
      have hsi : (s : Int) < 64 := by omega
      have Hstep := Lib.hid (shl_step (t := x * 2 ^ s + o) (by rw [HL.out]; omega) Hval.out Hx.out rfl)
      rw [← Hd.out, ← Hu.out] at Hstep
      rw [← Hu.out] at Hf2
      clear hso hf1 hf2
      go_wp2_with fail
      have hst := (hR.set i d).set (i + 1) u
      exact ⟨⟨i + 1, u, _, by omega, by go_num, hul, Hf2.out, by show _ = _; rw [getD_set, if_pos ⟨rfl, by rw [List.length_set, HL.out]; omega⟩], hst, by rw [List.length_set, List.length_set]; exact HL.out, (hdL.set _ _ hdl).set _ _ hul, by
        show _ = _
        rw [take_set_low _ _ _ _ (Nat.le_refl _)]
        exact Hstep.out, (hbel.setCell (Nat.le_refl _) _).setCell (Nat.le_refl _) _⟩, by simp [intOf]; omega⟩
    · have hin : i = l.length := by omega
      go_wp2_with fail
      go_ret
      refine ⟨L, rfl, HL.out, hdL, ?_, hR, hbel⟩
      have h1 := val_take_succ L i
      rw [Hat.out, Hval.out, val_take_all L _ (by rw [HL.out]; omega), val_take_all l _ (by omega)] at h1
      exact h1
end Go.Proofs.Ytphfgchfphdcaaa
