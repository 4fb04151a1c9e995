/-
  Sums and differences by the document's own reckoning.
-/
import Derived.Test.YtphfgchfphdcaaaNat10
namespace Go.Proofs.Ytphfgchfphdcaaa
open Go.RowKit
set_option linter.unusedVariables false

set_option maxRecDepth 100000 in
theorem add'_any (w : World) (B B' : Nat) (A A' : Option Addr) (c c' : Nat) (l l' : List Nat) (hr : Rd .u32 w B A c l) (hr' : Rd .u32 w B' A' c' l') (hB : B ≤ w.heap.size) (hB' : B' ≤ w.heap.size) (hd : Dg l) (hd' : Dg l') (hs : l.length ≤ 5000) (hs' : l'.length ≤ 5000) :
    Calls Try.prog 22 #[.slice A l.length c, .slice A' l'.length c'] w fun e w' => ∃ A2 c2 r, e = .returned (.slice A2 r.length c2) ∧ NumIs r (val l + val l') ∧ Fresh .u32 31 w' w.heap.size A2 c2 r ∧ Below w.heap.size w w' := by
  have hlc : l.length ≤ c := hr.1
  have hc63 : c ≤ 9223372036854775807 := hr.2.1
  have hlc' : l'.length ≤ c' := hr'.1
  have hc63' : c' ≤ 9223372036854775807 := hr'.2.1
  obtain ⟨m, hm⟩ : ∃ m, m = max l.length l'.length := ⟨_, rfl⟩
  have hm1 : l.length ≤ m := by omega
  have hm2 : l'.length ≤ m := by omega
  have hm3 : m ≤ 5000 := by omega
  have hmx : max (l.length : Int) (l'.length : Int) = (m : Int) := by omega
  have Hm := Lib.hid hm
  clear hm
  have hmk := make_nat ((m : Int) + 1) (m + 1) (by omega) (by omega)
  go_enter Try.func22, Try.ntmps22
  go_wp2_with fail
  have hR0 : Row .u32 31 (w.alloc (.cells (nums .u32 (List.replicate (m + 1) 0)) 31)) w.heap.size (List.replicate (m + 1) 0) := Holds.fresh _ _ _
  clear hmk hmx
  go_loopw [7, 8] (fun ov si wr => ∃ (i o : Nat) (L : List Nat), i ≤ m + 1 ∧ si = .int .i64 i ∧ ov = .int .u64 o ∧ o ≤ 1 ∧ Row .u32 31 wr w.heap.size L ∧ L.length = m + 1 ∧ Dg L ∧ Hid (val (L.take i) + pw i * o = val (l.take i) + val (l'.take i)) ∧ Below w.heap.size w wr)
    (fun _ si _ => m + 1 - (intOf si).toNat)
  case atStart => exact ⟨0, 0, _, by omega, rfl, rfl, by omega, hR0, by simp, Dg.noughts _, by show _ = _; simp [val], (Below.refl _ _).alloc (Nat.le_refl _) _⟩
  case round =>
    obtain ⟨i, o, L, hi, rfl, rfl, ho, hR, hL, hdL, Hval, hbel⟩ := hrel
    have hz := Holds.lt hR
    have HL := Lib.hid hL
    clear hL
    have hfr := hR.open_
    have hrW := hr.under (hbel.mono hB)
    have hrW' := hr'.under (hbel.mono hB')
    by_cases h : i < m + 1
    · have hcell := hR.cell (i := i) (by rw [HL.out]; omega)
      obtain ⟨x, Hx⟩ : ∃ x, Hid (x = l.getD i 0) := ⟨_, rfl⟩
      obtain ⟨y, Hy⟩ : ∃ y, Hid (y = l'.getD i 0) := ⟨_, rfl⟩
      have hxl : x < 4294967296 := by rw [Hx.out]; exact hd.at_ i
      have hyl : y < 4294967296 := by rw [Hy.out]; exact hd'.at_ i
      go_wp2_with fail
      refine (digit_any wr B A c l hrW hd i (by omega) x Hx.out.symm).mono ?_
      rintro e w1 ⟨rfl, rfl⟩
      go_wp2_with fail
      refine (digit_any wr B' A' c' l' hrW' hd' i (by omega) y Hy.out.symm).mono ?_
      rintro e w1 ⟨rfl, rfl⟩
      go_wp2_with fail
      have hst := hR.set i ((o + x + y) % 4294967296)
      have hv := add_step (by rw [HL.out]; omega) Hval.out Hx.out Hy.out
      rw [show o + x + y = x + y + o by omega] at hst hv
      refine ⟨⟨i + 1, (x + y + o) / 4294967296, _, by omega, by go_num, by go_num, by omega, hst, by rw [List.length_set]; exact HL.out, hdL.set _ _ (by omega), hv, hbel.setCell (Nat.le_refl _) _⟩, by simp [intOf]; omega⟩
    · have hv : val L = val l + val l' := by
        have h1 := Hval.out
        have h2 := val_take_all L i (by rw [HL.out]; omega)
        rw [h2, val_take_all l i (by omega), val_take_all l' i (by omega)] at h1
        rcases Nat.eq_zero_or_pos o with h0 | h0
        · subst h0; omega
        · exfalso
          have b1 := val_lt hd
          have b2 := val_lt hd'
          have p1 := pw_mono hm1
          have p2 := pw_mono hm2
          have p3 : pw i = 4294967296 * pw m := by rw [show i = m + 1 by omega, pw_succ]
          obtain rfl : o = 1 := by omega
          have := pw_pos m
          omega
      have hlen : L.length = m + 1 := HL.out
      have Hlen := Lib.hid hlen
      have Hv := Lib.hid hv
      clear hlen hv
      go_wp2_with fail
      refine (trim'_at wr _ _ _ _ L (rd_whole hR (Nat.le_of_eq Hlen.out) (by omega)) Hlen.out).mono ?_
      rintro e w1 ⟨rfl, rfl⟩
      go_wp2_with fail
      go_ret
      exact ⟨_, _, trl L, rfl, num_trl hdL Hv.out, fresh_trl hR (Nat.le_refl _) (Nat.le_of_eq Hlen.out) (by omega), hbel⟩

set_option maxRecDepth 100000 in
theorem sub'_no (w : World) (B B' : Nat) (A A' : Option Addr) (c c' : Nat) (l l' : List Nat) (hr : Rd .u32 w B A c l) (hr' : Rd .u32 w B' A' c' l') (hd : Dg l) (hd' : Dg l') (hn : nrm l) (hn' : nrm l') (h : val l < val l') :
    Calls Try.prog 29 #[.slice A l.length c, .slice A' l'.length c'] w fun e w' => e = .returned (.tuple #[.slice none 0 0, .bool false]) ∧ ∃ q, w' = w.drewN q := by
  have hc := cmpL_val hd hd' hn hn'
  rw [if_pos h] at hc
  go_enter Try.func29, Try.ntmps29
  go_wp2_with fail
  refine (cmp'_any w B B' A A' c c' l l' hr hr' (-1) hc).mono ?_
  rintro e w1 ⟨rfl, q, rfl⟩
  go_wp2_with fail
  go_ret2
  exact ⟨rfl, q, rfl⟩

set_option maxRecDepth 100000 in
theorem sub'_yes (w : World) (B B' : Nat) (A A' : Option Addr) (c c' : Nat) (l l' : List Nat) (hr : Rd .u32 w B A c l) (hr' : Rd .u32 w B' A' c' l') (hB : B ≤ w.heap.size) (hB' : B' ≤ w.heap.size) (hd : Dg l) (hd' : Dg l') (hn : nrm l) (hn' : nrm l') (hs : l.length ≤ 5000) (hs' : l'.length ≤ 5000) (h : ¬ val l < val l') :
    Calls Try.prog 29 #[.slice A l.length c, .slice A' l'.length c'] w fun e w' => ∃ A2 c2 r, e = .returned (.tuple #[.slice A2 r.length c2, .bool true]) ∧ NumIs r (val l - val l') ∧ Fresh .u32 31 w' w.heap.size A2 c2 r ∧ Below w.heap.size w w' := by
  obtain ⟨v, hc, hv⟩ : ∃ v : Int, cmpL l l' = v ∧ ¬ v < 0 := ⟨_, rfl, by rw [cmpL_val hd hd' hn hn', if_neg h]; split <;> omega⟩
  have hlt : l'.length ≤ l.length := by
    rcases Nat.lt_or_ge l.length l'.length with h1 | h1
    · have := len_less hd hn' h1
      omega
    · exact h1
  have hlc : l.length ≤ c := hr.1
  have hc63 : c ≤ 9223372036854775807 := hr.2.1
  have hmk := make_nat (l.length : Int) l.length rfl (by omega)
  go_enter Try.func29, Try.ntmps29
  go_wp2_with fail
  refine (cmp'_any w B B' A A' c c' l l' hr hr' v hc).mono ?_
  rintro e w1 ⟨rfl, q, rfl⟩
  have hrW := hr.drewN q
  have hrW' := hr'.drewN q
  have hbW : Below w.heap.size w (w.drewN q) := below_drewN (Below.refl _ _) q
  have hsW : (w.drewN q).heap.size = w.heap.size := rfl
  clear hr hr' hc
  generalize w.drewN q = W at *
  have HsW := Lib.hid hsW
  rw [← hsW] at hB hB'
  clear hsW
  go_wp2_with fail
  have hR0 : Row .u32 31 (W.alloc (.cells (nums .u32 (List.replicate l.length 0)) 31)) W.heap.size (List.replicate l.length 0) := Holds.fresh _ _ _
  clear hmk
  go_loopw [7, 8] (fun ov si wr => ∃ (i o : Nat) (L : List Nat), i ≤ l.length ∧ si = .int .i64 i ∧ ov = .int .u64 o ∧ o ≤ 1 ∧ Row .u32 31 wr W.heap.size L ∧ L.length = l.length ∧ Dg L ∧ Hid (val (L.take i) + val (l'.take i) = val (l.take i) + pw i * o) ∧ Below W.heap.size W wr)
    (fun _ si _ => l.length - (intOf si).toNat)
  case atStart => exact ⟨0, 0, _, by omega, rfl, rfl, by omega, hR0, by simp, Dg.noughts _, by show _ = _; simp [val], (Below.refl _ _).alloc (Nat.le_refl _) _⟩
  case round =>
    obtain ⟨i, o, L, hi, rfl, rfl, ho, hR, hL, hdL, Hval, hbel⟩ := hrel
    have hz := Holds.lt hR
    have HL := Lib.hid hL
    clear hL
    have hfr := hR.open_
    have hrV := hrW.under (hbel.mono hB)
    have hrV' := hrW'.under (hbel.mono hB')
    by_cases h : i < l.length
    · have hcell := hR.cell (i := i) (by rw [HL.out]; omega)
      obtain ⟨x, Hx⟩ : ∃ x, Hid (x = l.getD i 0) := ⟨_, rfl⟩
      obtain ⟨y, Hy⟩ : ∃ y, Hid (y = l'.getD i 0) := ⟨_, rfl⟩
      have hxl : x < 4294967296 := by rw [Hx.out]; exact hd.at_ i
      have hyl : y < 4294967296 := by rw [Hy.out]; exact hd'.at_ i
      go_wp2_with fail
      refine (digit_any wr B A c l hrV hd i (by omega) x Hx.out.symm).mono ?_
      rintro e w1 ⟨rfl, rfl⟩
      go_wp2_with fail
      refine (digit_any wr B' A' c' l' hrV' hd' i (by omega) y Hy.out.symm).mono ?_
      rintro e w1 ⟨rfl, rfl⟩
      go_wp2_with fail
      obtain ⟨d, o1, hd1, ho1, hdi, hoi, hde⟩ := less_digit x y o hxl hyl ho
      have hst := hR.set i d
      rw [hdi] at hst
      have hv := less_step (by rw [HL.out]; omega) Hval.out Hx.out Hy.out hde
      refine ⟨⟨i + 1, o1, _, by omega, by go_num, by rw [hoi], ho1, hst, by rw [List.length_set]; exact HL.out, hdL.set _ _ hd1, hv, hbel.setCell (Nat.le_refl _) _⟩, by simp [intOf]; omega⟩
    · have hv2 : val L = val l - val l' := by
        have h1 := Hval.out
        have h2 := val_take_all L i (by rw [HL.out]; omega)
        rw [h2, val_take_all l i (by omega), val_take_all l' i (by omega)] at h1
        rcases Nat.eq_zero_or_pos o with h0 | h0
        · subst h0; omega
        · exfalso
          have b1 := val_lt hdL
          rw [HL.out] at b1
          obtain rfl : o = 1 := by omega
          obtain rfl : i = l.length := by omega
          have := pw_pos l.length
          omega
      have Hlen := Lib.hid (show L.length = l.length from HL.out)
      have Hv := Lib.hid hv2
      clear hv2
      go_wp2_with fail
      refine (trim'_at wr _ _ _ _ L (rd_whole hR (Nat.le_of_eq Hlen.out) (by omega)) Hlen.out).mono ?_
      rintro e w1 ⟨rfl, rfl⟩
      go_wp2_with fail
      go_ret2
      exact ⟨_, _, trl L, rfl, num_trl hdL Hv.out, fresh_trl hR (Nat.le_of_eq HsW.out.symm) (Nat.le_of_eq Hlen.out) (by omega), hbW.trans (by rw [← HsW.out]; exact hbel)⟩
end Go.Proofs.Ytphfgchfphdcaaa
