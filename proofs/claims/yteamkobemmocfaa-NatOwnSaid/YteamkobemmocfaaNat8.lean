/-
  The law's own example, and the law of bytes: any bytes' number, and back.
-/
import Derived.Test.YteamkobemmocfaaNat7
import Derived.WalkSmall
namespace Go.Proofs.Yteamkobemmocfaa
open Go.RowKit
set_option linter.unusedVariables false

theorem num_known : numOf [1, 0, 0, 0, 0] = [0, 1] := by decide +kernel
theorem out_known : out [0, 1] 6 = [0, 1, 0, 0, 0, 0] := by decide +kernel
theorem fits_known : fits [0, 1] 6 = true := by decide +kernel
theorem nb_known : nb (trl [0, 1]) = 33 := by decide +kernel
theorem dg_known : Dg [0, 1] := fun x hx => by simp at hx; omega
theorem str_known : ((str [0, 1, 0, 0, 0, 0]).toList == [0, 1, 0, 0, 0, 0]) = true := by decide +kernel
theorem Fresh.rd {k : IntKind} {T : TypeId} {w' : World} {B : Nat} {A : Option Addr} {c : Nat} {r : List Nat} (h : Fresh k T w' B A c r) : Rd k w' w'.heap.size A c r := h.1

set_option maxRecDepth 100000 in
theorem known_any (w : World) : Calls Try.prog 16 #[] w fun e w' => e = .returned (.bool true) ∧ Below w.heap.size w w' := by
  go_enter Try.func16, Try.ntmps16
  go_wp2_with fail
  have hR : Row .u8 5 (w.alloc (.cells #[.int .u8 1, .int .u8 0, .int .u8 0, .int .u8 0, .int .u8 0] 5)) w.heap.size [1, 0, 0, 0, 0] := Holds.fresh _ _ _
  have hb0 : Below w.heap.size w (w.alloc (.cells #[.int .u8 1, .int .u8 0, .int .u8 0, .int .u8 0, .int .u8 0] 5)) := (Below.refl _ _).alloc (Nat.le_refl _) _
  refine (of_all _ _ _ 5 [1, 0, 0, 0, 0] (rd_whole hR (by simp) (by omega)) (by simp) (oct_rev (by decide))).mono ?_
  rintro e w1 ⟨A1, c1, rfl, hf1, hb1⟩
  rw [num_known] at hf1 ⊢
  have h1 : Below w.heap.size w w1 := hb0.trans (hb1.mono (by simp))
  have hr1 := hf1.rd
  clear hR hb0 hb1
  go_wp2_with fail
  refine (bytes_all w1 _ A1 c1 _ [0, 1] hr1 rfl (Nat.le_refl _) dg_known (.inr (by decide)) (by decide) 6).mono ?_
  rintro e w2 ⟨A2, c2, rfl, hf2, hb2⟩
  rw [out_known, fits_known] at *
  have h2 : Below w.heap.size w w2 := h1.trans (hb2.mono h1.size)
  have hr2 := hf2.rd
  have hr1b := hr1.under hb2
  go_wp2_with fail
  have hT : Row .u32 39 (w2.alloc (.cells #[.int .u32 0, .int .u32 1] 39)) w2.heap.size [0, 1] := Holds.fresh _ _ _
  have hrT := rd_whole (c := 2) hT (by simp) (by omega)
  have hrA := (hr1b.more hb2.size).alloc (Nat.le_refl _) (.cells #[.int .u32 0, .int .u32 1] 39)
  have h3 : Below w.heap.size w (w2.alloc (.cells #[.int .u32 0, .int .u32 1] 39)) := h2.alloc h2.size _
  have hrS := hr2.alloc (Nat.le_refl _) (.cells #[.int .u32 0, .int .u32 1] 39)
  generalize w2.alloc (.cells #[.int .u32 0, .int .u32 1] 39) = w3 at *
  refine (same_one w3 _ _ A1 _ c1 2 [0, 1] hrA hrT).mono ?_
  rintro e w4 ⟨rfl, q, rfl⟩
  go_wp2_with fail
  refine (bits_any (w3.drewN q) _ A1 c1 2 [0, 1] (hrA.drewN q) rfl dg_known (by decide) 33 nb_known).mono ?_
  rintro e w5 ⟨rfl, rfl⟩
  have hsk := str_known
  have hcs := conv_str (n := 6) (hrS.drewN q) rfl (by decide)
  go_wp2_with fail
  refine (is_any (w3.drewN q) _ A1 c1 [0, 1] (hrA.drewN q) true rfl).mono ?_
  rintro e w5 ⟨rfl, rfl⟩
  go_wp2_with fail
  have hT2 : Row .u32 39 ((w3.alloc (.cells #[.int .u32 0] 39)).drewN q) w3.heap.size [0] := (Holds.fresh w3 _ _).drewN q
  have hrT2 := rd_whole (c := 1) hT2 (by simp) (by omega)
  refine (is_any _ _ _ 1 [0] hrT2 false rfl).mono ?_
  rintro e w5 ⟨rfl, rfl⟩
  go_wp2_with fail
  go_ret
  exact ⟨rfl, below_drewN (h3.alloc h3.size _) q⟩

set_option maxRecDepth 100000 in
theorem law_bytes (w : World) (B : Nat) (A : Option Addr) (c : Nat) (l : List Nat) (hr : Rd .u8 w B A c l) (hB : B ≤ w.heap.size) (h8 : ∀ x ∈ l, x < 256) (n : Int) :
    Calls Try.prog 3 #[.slice A l.length c, .int .i64 n] w fun e w' => e = .returned (.bool true) ∧ Below w.heap.size w w' := by
  have hlc : l.length ≤ c := hr.1
  have hc63 : c ≤ 9223372036854775807 := hr.2.1
  by_cases hlong : 1100 < l.length
  · go_enter Try.func3, Try.ntmps3
    go_wp2_with fail
    go_ret
    exact ⟨rfl, Below.refl _ _⟩
  · have ho := oct_rev h8
    have hdg := numOf_dg ho
    have hnm := numOf_nrm l
    have hln := numOf_length l
    have hns : (numOf l).length ≤ 5000 := by omega
    have hlong' : decide (1100 < (l.length : Int)) = false := by simp; omega
    go_enter Try.func3, Try.ntmps3
    go_wp2_with fail
    refine (of_all w B A c l hr hB ho).mono ?_
    rintro e w1 ⟨A1, c1, rfl, hf1, hb1⟩
    have hr1 := hf1.rd
    have h1 : Below w.heap.size w w1 := hb1
    have hrb1 := hr.under (hb1.mono hB)
    go_wp2_with fail
    refine (bytes_all w1 _ A1 c1 _ (numOf l) hr1 rfl (Nat.le_refl _) hdg hnm hns n).mono ?_
    rintro e w2 ⟨A2, c2, rfl, hf2, hb2⟩
    have h2 : Below w.heap.size w w2 := h1.trans (hb2.mono h1.size)
    have hr2 := hf2.rd
    have hr1 := hr1.under hb2
    have hrb2 := hrb1.under (hb2.mono (by have := h1.size; omega))
    go_wp2_with fail
    refine (of'_all w2 B A c l hrb2 (by have := h2.size; omega) ho).mono ?_
    rintro e w3 ⟨A3, c3, rfl, hf3, hb3⟩
    have h3 : Below w.heap.size w w3 := h2.trans (hb3.mono h2.size)
    have hr3 := hf3.rd
    have hr1 := hr1.under (hb3.mono hb2.size)
    have hr2 := hr2.under hb3
    have hrb3 := hrb2.under (hb3.mono (by have := h2.size; omega))
    go_wp2_with fail
    refine (bytes'_all w3 _ A3 c3 (numOf l) hr3 (Nat.le_refl _) hdg hns n).mono ?_
    rintro e w4 ⟨A4, c4, rfl, hf4, hb4⟩
    have h4 : Below w.heap.size w w4 := h3.trans (hb4.mono h3.size)
    have hr4 := hf4.rd
    have hr1 := (hr1.more hb2.size).under (hb4.mono hb3.size)
    have hr2 := hr2.under (hb4.mono hb3.size)
    have hrb4 := hrb3.under (hb4.mono (by have := h3.size; omega))
    go_wp2_with fail
    refine (of'_all w4 B A c l hrb4 (by have := h4.size; omega) ho).mono ?_
    rintro e w5 ⟨A5, c5, rfl, hf5, hb5⟩
    have h5 : Below w.heap.size w w5 := h4.trans (hb5.mono h4.size)
    have hr5 := hf5.rd
    have hr1 := (hr1.more hb3.size).under (hb5.mono hb4.size)
    have hr2 := (hr2.more hb3.size).under (hb5.mono hb4.size)
    have hr4 := hr4.under hb5
    have hrb5 := hrb4.under (hb5.mono (by have := h4.size; omega))
    go_wp2_with fail
    refine (same_one w5 _ _ A1 A5 c1 c5 (numOf l) hr1 hr5).mono ?_
    rintro e w6 ⟨rfl, q, rfl⟩
    have hcs2 := conv_str (hr2.drewN q) rfl (out_oct _ n)
    have hcs4 := conv_str (hr4.drewN q) rfl (out_oct _ n)
    go_wp2_with fail
    refine (bits_any (w5.drewN q) _ A1 c1 _ (numOf l) (hr1.drewN q) rfl hdg hns (nb (numOf l)) (by rw [trl_id hnm])).mono ?_
    rintro e w6 ⟨rfl, rfl⟩
    go_wp2_with fail
    refine (bits'_any (w5.drewN q) _ A1 c1 (numOf l) (hr1.drewN q) hdg hns (nb (numOf l)) rfl).mono ?_
    rintro e w6 ⟨rfl, rfl⟩
    have h5q : Below w.heap.size w (w5.drewN q) := below_drewN h5 q
    have hrb := hrb5.drewN q
    have hr1 := hr1.drewN q
    clear hr2 hr4 hcs2 hcs4 hr5
    by_cases hmid : 1024 < l.length
    · have hmid' : decide (1024 < (l.length : Int)) = true := by simp; omega
      have hz0 : (((numOf l).length : Int) == 0) = true := by rw [numOf_far hmid]; rfl
      go_wp2_with fail
      refine (known_any _).mono ?_
      rintro e w7 ⟨rfl, hb7⟩
      go_wp2_with fail
      go_ret
      exact ⟨rfl, h5q.trans (hb7.mono h5q.size)⟩
    · have hmid' : decide (1024 < (l.length : Int)) = false := by simp; omega
      have Hback := Lib.hid (show bytesOf (numOf l) l.length = l by rw [numOf_near hmid]; exact words_back ho)
      have hfit : nb (trl (numOf l)) ≤ 8 * l.length := by rw [trl_id hnm, numOf_near hmid]; exact words_fit ho
      go_wp2_with fail
      refine (bytes_yes (w5.drewN q) _ A1 c1 _ (numOf l) hr1 rfl (Nat.le_trans hb4.size hb5.size) hdg hns l.length (by omega) hfit).mono ?_
      rintro e w7 ⟨A7, rfl, hf7, hb7⟩
      rw [Hback.out] at hf7
      have h7 : Below w.heap.size w w7 := h5q.trans (hb7.mono h5q.size)
      have hcs7 := conv_str hf7.rd rfl h8
      have hcsb := conv_str (hrb.under (hb7.mono (Nat.le_trans hB h5q.size))) rfl h8
      go_wp2_with fail
      refine (known_any _).mono ?_
      rintro e w8 ⟨rfl, hb8⟩
      go_wp2_with fail
      go_ret
      exact ⟨rfl, h7.trans (hb8.mono h7.size)⟩
end Go.Proofs.Yteamkobemmocfaa
