/-
  A hundred and twenty-eight, by hand; what was read, compared.
-/
import Derived.Test.YtogbeiifnhegiaaDoorAt7
import Derived.Deep.RegionHeld3
namespace Go.Proofs.YtogbeiifnhegiaaDoor
open Go.RowKit
set_option linter.unusedVariables false
set_option linter.unusedSimpArgs false
attribute [local go_sem ↓] Go.wp_at_zero Go.wp_at_succ

theorem nb128 : nb [128] = 8 := by
  rw [nb_succ (m := 0) rfl]
  rfl
theorem intB128 : intB [128] = [0, 128] := by
  unfold intB
  rw [nb128]
  rfl
theorem gi128 : gi [0, 128] 9 = some [128] := by
  rw [← intB128]
  exact gi_int (by intro x hx; simp at hx; omega) (.inr (by simp)) (by simp) (by rw [nb128]; decide)
theorem small128 : smallOf (if heldOk 2 0 2 = true then gi [0, 128] 9 else none) = some 128 := by
  rw [if_pos (by rfl), gi128]
  simp [smallOf, nb128, val]
set_option maxRecDepth 100000 in
set_option maxHeartbeats 4000000 in
theorem known_any (w : World) : Calls Tryd.prog 25 #[] w fun e w' => e = .returned (.bool true) ∧ Below w.heap.size w w' := by
  have hrow : Row .u32 53 (w.alloc (.cells #[.int .u32 ((128 : Nat) : Int)] 53)) w.heap.size [128] := Holds.fresh _ _ _
  have hrd : Rd .u32 (w.alloc (.cells #[.int .u32 ((128 : Nat) : Int)] 53)) (w.heap.size + 1) (some ⟨w.heap.size, 0, none⟩) 1 [128] := rd_whole hrow (by simp) (by omega)
  have HIN : Hid (Calls Tryd.prog 33 #[.slice (some ⟨w.heap.size, 0, none⟩) 1 1] (w.alloc (.cells #[.int .u32 128] 53)) _) := Lib.hid (int_any _ _ _ 1 1 [128] hrd rfl (by simp) (by intro x hx; simp at hx; omega) rfl)
  rw [intB128] at HIN
  have HB1 : Hid (Below w.heap.size w (w.alloc (.cells #[.int .u32 128] 53))) := Lib.hid ((Below.refl _ _).alloc (Nat.le_refl _) _)
  clear hrow hrd
  go_enter Tryd.func25, Tryd.ntmps25
  go_wp2_with fail
  refine HIN.out.mono ?_
  rintro e w2 ⟨v2, rfl, hp2, hb2⟩
  obtain ⟨A2, c2, rfl, hr2, _, ho2, _⟩ := hp2
  have HB2 : Hid (Below w.heap.size w w2) := Lib.hid (HB1.out.trans (hb2.mono HB1.out.size))
  have hq : Below w2.heap.size w2 (w2.alloc (.cells #[.int .u8 2, .slice A2 2 c2, .slice none 0 0] 27)) := (Below.refl _ _).alloc (Nat.le_refl _) _
  have hh := Holds.fresh w2 27 #[.int .u8 2, .slice A2 2 c2, .slice none 0 0]
  have HH := Lib.hid hh
  have HB3 : Hid (Below w.heap.size w (w2.alloc (.cells #[.int .u8 2, .slice A2 2 c2, .slice none 0 0] 27))) := Lib.hid (HB2.out.trans (hq.mono HB2.out.size))
  have hr3 : Rd .u8 (w2.alloc (.cells #[.int .u8 2, .slice A2 2 c2, .slice none 0 0] 27)) (w2.alloc (.cells #[.int .u8 2, .slice A2 2 c2, .slice none 0 0] 27)).heap.size A2 c2 [0, 128] := (hr2.under hq).more hq.size
  have HR3 := Lib.hid hr3
  have HGS := Lib.hid (getSmall_any _ 2 2 c2 0 0 _ A2 none [0, 128] hr3 rfl (Nat.le_refl _) ho2)
  rw [small128] at HGS
  have a0 := hh.cell 0
  have a1 := hh.cell 1
  have a2 := hh.cell 2
  have HO := Lib.hid ho2
  clear hb2 hr2 ho2 hq hh hr3 HIN
  go_wp2_with fail
  refine HGS.out.mono ?_
  rintro e w4 ⟨rfl, hb4⟩
  have HB4 := Lib.hid (HB3.out.trans (hb4.mono HB3.out.size))
  have hh4 := HH.out.under hb4 HH.out.lt
  have kc := conv_str (HR3.out.under hb4) (n := 2) rfl HO.out
  have ks : ((str [0, 128]).toList == [0, 128]) = true := by rw [show (str [0, 128]).toList = _ from Lib.toList_data _]; rfl
  have k0 := hh4.cell 0
  have k1 := hh4.cell 1
  clear a0 a1 a2 hb4 hh4 HGS
  go_wp2_with fail
  go_ret
  exact ⟨rfl, HB4.out⟩
/-- Two primitive things of the same bytes are the same. -/
theorem same_prim (w : World) (A A' : Option Addr) (n c c' tag B B' : Nat) (b : List Nat) (h : PrimAt (.agg #[.int .u8 (tag : Int), .slice A n c, .slice none 0 0]) w B tag b) (h' : PrimAt (.agg #[.int .u8 (tag : Int), .slice A' n c', .slice none 0 0]) w B' tag b) :
    Calls Tryd.prog 19 #[.agg #[.int .u8 (tag : Int), .slice A n c, .slice none 0 0], .agg #[.int .u8 (tag : Int), .slice A' n c', .slice none 0 0]] w fun e w' => e = .returned (.bool true) ∧ Below w.heap.size w w' := by
  obtain ⟨lt, e, ht, hat⟩ := h.is
  obtain ⟨lt', e', ht', hat'⟩ := h'.is
  rw [e, e']
  exact same'_any lt lt' w w.heap.size hat hat' (Nat.le_refl _) true (by rw [ht, ht']; simp)
theorem getIntPost_one {w : World} {o : Option (List Nat)} {e : Ending} {w' : World} (h : GetIntPost w o e w') : ∃ A c, e = .returned (.tuple #[.slice A (o.getD []).length c, .bool o.isSome]) ∧ Rd .u32 w' w'.heap.size A c (o.getD []) ∧ Below w.heap.size w w' := by
  rcases o with _ | l
  · exact ⟨none, 0, h.1, Rd.nil_ _ _ _, h.2⟩
  · exact h
/-- How a number's thing reads. -/
theorem read_int {l : List Nat} (hd : Dg l) (hok : okN l = true) (most : Int) : gi (intB l) most = (if ((nb l / 8 + 1 : Nat) : Int) ≤ most then some l else none) ∧ gi' (intB l) most = (if ((nb l / 8 + 1 : Nat) : Int) ≤ most then some l else none) := by
  obtain ⟨h256, hn⟩ := okN_iff.1 hok
  have h := gi_same (intB l) most (int_far hd hn h256)
  by_cases hm : ((nb l / 8 + 1 : Nat) : Int) ≤ most
  · rw [h, if_pos hm, gi_int hd hn h256 hm]; exact ⟨rfl, rfl⟩
  · rw [h, if_neg hm, gi_int_far (by omega)]; exact ⟨rfl, rfl⟩
theorem dg2_good {v : Nat} (hv : v < 18446744073709551616) : Dg (dg2 v) ∧ nrm (dg2 v) ∧ okN (dg2 v) = true ∧ val (dg2 v) = v ∧ nb (dg2 v) ≤ 64 := by
  have hd : Dg [v % 4294967296, v / 4294967296] := fun y hy => by
    simp only [List.mem_cons, List.not_mem_nil, or_false] at hy
    rcases hy with rfl | rfl <;> omega
  have hl : (dg2 v).length ≤ 2 := by unfold dg2; rw [trl_length]; exact tlen_le _ _
  have hn : nrm (dg2 v) := trl_nrm _
  have hd2 : Dg (dg2 v) := trl_dg hd
  refine ⟨hd2, hn, okN_iff.2 ⟨by omega, hn⟩, ?_, ?_⟩
  · unfold dg2
    rw [trl_val]
    simp [val]; omega
  · rcases Nat.eq_zero_or_pos (dg2 v).length with h0 | h0
    · rw [nb_nil h0]; omega
    · obtain ⟨m, top, bl, hm, _, hnb, _, h32, _, _⟩ := nb_top hd2 hn (by omega)
      omega
theorem small_back {v : Nat} (hv : v < 18446744073709551616) : smallOf (if heldOk 2 0 2 = true then gi (intB (dg2 v)) 9 else none) = some v := by
  obtain ⟨hd, hn, hok, hval, h64⟩ := dg2_good hv
  rw [if_pos (by rfl), (read_int hd hok 9).1, if_pos (by omega)]
  simp only [smallOf]
  rw [if_pos h64, hval]
end Go.Proofs.YtogbeiifnhegiaaDoor
