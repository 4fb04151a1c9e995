/-
  The document's own division: shifting back.
-/
import Derived.Test.YtphfgchfphdcaaaRef2
import Derived.StillTailTactics
import Derived.IntWalk
namespace Go.Proofs.Ytphfgchfphdcaaa
open Go.RowKit
set_option linter.unusedVariables false

theorem drop_div {l : List Nat} (hd : Dg l) (i : Nat) : val l / pw i = val (l.drop i) := by
  have h1 := val_split l i
  have hlow : val (l.take i) < pw i := Nat.lt_of_lt_of_le (val_lt (hd.take i)) (pw_mono (by rw [List.length_take]; exact Nat.min_le_left _ _))
  rw [h1, Nat.add_mul_div_left _ _ (pw_pos _), Nat.div_eq_of_lt hlow, Nat.zero_add]
theorem val_drop' (l : List Nat) (i : Nat) : val (l.drop i) = l.getD i 0 + 4294967296 * val (l.drop (i + 1)) := by
  rcases Nat.lt_or_ge i l.length with h | h
  · exact val_drop l h
  · rw [val_drop_all l h, val_drop_all l (by omega), List.getD, List.getElem?_eq_none h]
    simp
theorem back_digit {l : List Nat} (hd : Dg l) {i s x y t : Nat} (hs : s < 32) (hx : x = l.getD i 0) (hy : y = l.getD (i + 1) 0) (ht : t = y * 4294967296 + x) : val l / 2 ^ s % pw (i + 1) = val l / 2 ^ s % pw i + pw i * (t / 2 ^ s % 4294967296) := by
  rw [pw_succ, Nat.mul_comm 4294967296, Nat.mod_mul]
  congr 2
  rw [Nat.div_div_eq_div_mul, Nat.mul_comm, ← Nat.div_div_eq_div_mul, drop_div hd, val_drop' l i, val_drop' l (i + 1), ← hx, ← hy]
  generalize val (l.drop (i + 1 + 1)) = R
  have e1 : x + 4294967296 * (y + 4294967296 * R) = t + 2 ^ s * (4294967296 * (2 ^ (32 - s) * R)) := by
    have e : 4294967296 = 2 ^ s * 2 ^ (32 - s) := by rw [← Nat.pow_add, show s + (32 - s) = 32 by omega]
    have e2 : 2 ^ s * (4294967296 * (2 ^ (32 - s) * R)) = 4294967296 * (4294967296 * R) := by
      rw [Nat.mul_left_comm]
      congr 1
      rw [← Nat.mul_assoc, ← e]
    rw [e2, ht, Nat.mul_add, Nat.mul_comm y]
    generalize 4294967296 * (4294967296 * R) = z
    omega
  rw [e1, Nat.add_mul_div_left _ _ (Nat.pow_pos (by omega)), Nat.add_mul_mod_self_left]

set_option maxRecDepth 100000 in
theorem back'_any (w : World) (B : Nat) (A : Option Addr) (c n : Nat) (l : List Nat) (hn : l.length = n) (hr : Rd .u32 w B A c l) (hB : B ≤ w.heap.size) (hd : Dg l) (hls : n ≤ 5000) (s : Nat) (hs : s < 32) :
    Calls Try.prog 51 #[.slice A n c, .int .u64 s] w fun e w' => ∃ A2 c2 r, e = .returned (.slice A2 r.length c2) ∧ NumIs r (val l / 2 ^ s) ∧ Fresh .u32 31 w' w.heap.size A2 c2 r ∧ Below w.heap.size w w' := by
  subst hn
  have hlc : l.length ≤ c := hr.1
  have hc63 : c ≤ 9223372036854775807 := hr.2.1
  have hmk := make_nat (l.length : Int) l.length rfl (by omega)
  go_enter Try.func51, Try.ntmps51
  go_wp2_with fail
  have hR0 : Row .u32 31 (w.alloc (.cells (nums .u32 (List.replicate l.length 0)) 31)) w.heap.size (List.replicate l.length 0) := Holds.fresh _ _ _
  clear hmk
  go_loopw [6] (fun si wr => ∃ (i : Nat) (L : List Nat), i ≤ l.length ∧ si = .int .i64 i ∧ Row .u32 31 wr w.heap.size L ∧ L.length = l.length ∧ Dg L ∧ Hid (val (L.take i) = val l / 2 ^ s % pw i) ∧ Below w.heap.size w wr)
    (fun si _ => l.length - (intOf si).toNat)
  case atStart => exact ⟨0, _, by omega, rfl, hR0, by simp, Dg.noughts _, by show _ = _; rw [pw_zero, Nat.mod_one]; simp [val], (Below.refl _ _).alloc (Nat.le_refl _) _⟩
  case round =>
    obtain ⟨i, L, hi, rfl, hR, hL, hdL, Hval, hbel⟩ := hrel
    have hz := Holds.lt hR
    have HL := Lib.hid hL
    clear hL
    have hfr := hR.open_
    by_cases h : i < l.length
    · have hrw := hr.under (hbel.mono hB)
      obtain ⟨b, off, x, hA, hb, hx, Hx⟩ := hrw.at_ h
      have hxl : x < 4294967296 := by rw [Hx.out]; exact hd.at_ i
      have hcell := hR.cell (i := i) (by rw [HL.out]; omega)
      obtain ⟨y, Hy⟩ : ∃ y, Hid (y = l.getD (i + 1) 0) := ⟨_, rfl⟩
      have hyl : y < 4294967296 := by rw [Hy.out]; exact hd.at_ _
      obtain ⟨t, Ht⟩ : ∃ t, Hid (t = y * 4294967296 + x) := ⟨_, rfl⟩
      have hor := or_u64 y x hyl hxl
      rw [← Ht.out] at hor
      have htl : t < 18446744073709551616 := by rw [Ht.out]; omega
      have hsi : (s : Int) < 64 := by omega
      have Hst := Lib.hid (back_digit hd hs Hx.out Hy.out Ht.out)
      subst hA
      have Hdig : Calls Try.prog 36 #[.slice (some ⟨b, off, none⟩) l.length c, .int .i64 ((i : Int) + 1)] wr.drew fun e w' => e = .returned (.int .u64 (y : Int)) ∧ w' = wr.drew :=
        (digit_any wr.drew B _ c l hrw hd (i + 1) (by omega) y Hy.out.symm).mono fun e w' h => ⟨h.1, h.2.symm⟩
      have hwi : IntKind.i64.wrap ((i : Int) + 1) = (i : Int) + 1 := IntWalk.i64_in _ (by omega)
      go_wp2_with fail
      go_still_tail 17, (by kernel_rfl)
      still_call Hdig
      repeat still_step
      refine wpStill_nil ?_
      change wpList _ _ _ _ _ wr.drew
      have hRd : Row .u32 31 wr.drew w.heap.size L := hR
      have hrwd : Rd .u32 wr.drew B (some ⟨b, off, none⟩) c l := hrw
      have hbeld : Below w.heap.size w wr.drew := hbel.drew
      clear hR hrw hbel hcell hx hz hfr Hdig hwi
      generalize wr.drew = wd at *
      have hcell := hRd.cell (i := i) (by rw [HL.out]; omega)
      have hfr := hRd.open_
      have hz := Holds.lt hRd
      obtain ⟨b2, off2, x2, hA2, _, hx, Hx2⟩ := hrwd.at_ h
      go_wp2_with fail
      have hst := hRd.set i (t / 2 ^ s % 4294967296)
      rw [Int.natCast_emod, Int.natCast_ediv, Int.natCast_pow] at hst
      exact ⟨⟨i + 1, _, by omega, by go_num, hst, by rw [List.length_set]; exact HL.out, hdL.set _ _ (Nat.mod_lt _ (by omega)), by
        show _ = _
        rw [take_set_succ L i _ (by rw [HL.out]; omega), Hval.out, Hst.out], hbeld.setCell (Nat.le_refl _) _⟩, by simp [intOf]; omega⟩
    · have hin : i = l.length := by omega
      go_wp2_with fail
      refine (trim'_at wr _ _ l.length l.length L (rd_whole hR (Nat.le_of_eq HL.out) (by omega)) HL.out).mono ?_
      rintro e w1 ⟨rfl, rfl⟩
      go_wp2_with fail
      go_ret
      refine ⟨_, _, trl L, rfl, num_trl hdL ?_, fresh_trl hR (Nat.le_refl _) (Nat.le_of_eq HL.out) (by omega), hbel⟩
      have h1 := Hval.out
      rw [hin, val_take_all L _ (by rw [HL.out]; omega)] at h1
      rw [h1]
      exact Nat.mod_eq_of_lt (Nat.lt_of_le_of_lt (Nat.div_le_self _ _) (val_lt hd))
end Go.Proofs.Ytphfgchfphdcaaa
