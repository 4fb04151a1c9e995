/-
  Differences: by nat.
-/
import Derived.Test.YtphfgchfphdcaaaNat9
import Derived.Laws.CopyOwn
namespace Go.Proofs.Ytphfgchfphdcaaa
open Go.RowKit
set_option linter.unusedVariables false

theorem one_u32 : (Try.prog.info? 31).map (·.size) = some 1 := by kernel_rfl
/-- The cells of a number, as a copy of it takes them. -/
def vals (l : List Nat) : List Value := l.map fun x : Nat => Value.int .u32 (x : Int)
theorem vals_length (l : List Nat) : (vals l).length = l.length := by simp [vals]
theorem vals_one (l : List Nat) : ∀ v ∈ vals l, v.oneCell' = true := by
  intro v hv
  obtain ⟨x, _, rfl⟩ := List.mem_map.1 hv
  rfl
theorem vals_from {w : World} {B : Nat} {A : Option Addr} {c : Nat} {l : List Nat} (hr : Rd .u32 w B A c l) (h : 0 < l.length) : ∃ ad, A = some ad ∧ ∀ j v, (vals l)[j]? = some v → w.cell? (ad.add j) = some v := by
  obtain ⟨b, off, rfl, hb, hc⟩ := hr.2.2 h
  refine ⟨_, rfl, fun j v hv => ?_⟩
  have hj : j < l.length := by
    have := (List.getElem?_eq_some_iff.1 hv).1
    simpa [vals] using this
  have ha : (⟨b, off, none⟩ : Addr).add j = ⟨b, off + j, none⟩ := by unfold Addr.add; split <;> simp_all
  rw [ha, hc j hj, ← hv]
  simp [vals, List.getD, hj]
theorem splice_whole {α : Type} (L cs : List α) (h : L.length = cs.length) : splice L 0 cs = cs := by
  simp [splice, List.drop_eq_nil_of_le (Nat.le_of_eq h)]

theorem cmp_vals {l l' : List Nat} (hd : Dg l) (hd' : Dg l') : cmpL (trl l) (trl l') = if val l < val l' then -1 else if val l' < val l then 1 else 0 := by
  rw [cmpL_val (trl_dg hd) (trl_dg hd') (trl_nrm l) (trl_nrm l'), trl_val, trl_val]

set_option maxRecDepth 100000 in
theorem sub_no (w : World) (B B' : Nat) (A A' : Option Addr) (c c' : Nat) (l l' : List Nat) (hr : Rd .u32 w B A c l) (hr' : Rd .u32 w B' A' c' l') (hd : Dg l) (hd' : Dg l') (h : val l < val l') :
    Calls Try.prog 27 #[.slice A l.length c, .slice A' l'.length c'] w fun e w' => e = .returned (.tuple #[.slice none 0 0, .bool false]) ∧ ∃ q, w' = w.drewN q := by
  have hc := cmp_vals hd hd'
  rw [if_pos h] at hc
  go_enter Try.func27, Try.ntmps27
  go_wp2_with fail
  refine (cmp_any w B B' A A' c c' l l' hr hr' (-1) hc).mono ?_
  rintro e w1 ⟨rfl, q, rfl⟩
  go_wp2_with fail
  go_ret2
  exact ⟨rfl, q, rfl⟩

set_option maxRecDepth 100000 in
theorem sub_yes (w : World) (B B' : Nat) (A A' : Option Addr) (c c' : Nat) (l l' : List Nat) (hr : Rd .u32 w B A c l) (hr' : Rd .u32 w B' A' c' l') (hB : B ≤ w.heap.size) (hB' : B' ≤ w.heap.size) (hd : Dg l) (hd' : Dg l') (hs : l.length ≤ 5000) (hs' : l'.length ≤ 5000) (h : ¬ val l < val l') :
    Calls Try.prog 27 #[.slice A l.length c, .slice A' l'.length c'] w fun e w' => ∃ A2 c2 r, e = .returned (.tuple #[.slice A2 r.length c2, .bool true]) ∧ NumIs r (val l - val l') ∧ Fresh .u32 31 w' w.heap.size A2 c2 r ∧ Below w.heap.size w w' := by
  obtain ⟨v, hc, hv⟩ : ∃ v : Int, cmpL (trl l) (trl l') = v ∧ ¬ v < 0 := ⟨_, rfl, by rw [cmp_vals hd hd', if_neg h]; split <;> omega⟩
  have hlc : l.length ≤ c := hr.1
  have hc63 : c ≤ 9223372036854775807 := hr.2.1
  have hmk := make_nat (l.length : Int) l.length rfl (by omega)
  go_enter Try.func27, Try.ntmps27
  go_wp2_with fail
  refine (cmp_any w B B' A A' c c' l l' hr hr' v hc).mono ?_
  rintro e w1 ⟨rfl, q, rfl⟩
  have hrW := hr.drewN q
  have hrW' := hr'.drewN q
  have hbW : Below w.heap.size w (w.drewN q) := below_drewN (Below.refl _ _) q
  have hsW : (w.drewN q).heap.size = w.heap.size := rfl
  clear hr hr'
  generalize w.drewN q = W at *
  have HsW := Lib.hid hsW
  rw [← hsW] at hB hB'
  clear hsW
  go_wp2_with fail
  refine (trim_any W B' A' c' l' hrW').mono ?_
  rintro e w1 ⟨rfl, rfl⟩
  rw [← trl_length]
  have hrt : Rd .u32 W B' A' c' (trl l') := hrW'.cut _
  have hdt := trl_dg hd'
  have hvt := trl_val l'
  have hlt : (trl l').length ≤ l.length := by
    rcases Nat.lt_or_ge l.length (trl l').length with h1 | h1
    · have := len_less hd (trl_nrm l') h1
      omega
    · exact h1
  have Hv' := Lib.hid hvt
  clear hvt hrW' hc
  generalize trl l' = t at *
  have Hg0 := Lib.hid (show (W.alloc (.cells (nums .u32 (List.replicate l.length 0)) 31)).heap[W.heap.size]? = some (.cells (vals (List.replicate l.length 0)).toArray 31 (0, 0)) from Holds.fresh W 31 (nums .u32 (List.replicate l.length 0)))
  have hb0 : Below W.heap.size W (W.alloc (.cells (nums .u32 (List.replicate l.length 0)) 31)) := (Below.refl _ _).alloc (Nat.le_refl _) _
  go_wp2_with (with_reducible refine wpList_copy_splice rfl (.tmp 16) (.tmp 17) _ _ rfl 31 Try.underlying23 one_u32 _ _ _ _ _ _ rfl rfl W.heap.size 0 (vals (List.replicate l.length 0)) _ Hg0.out (vals l) ?h1 ?h5 ?h2 (vals_one l) W.heap.size W hb0 (Nat.le_refl _) ?h3)
  case h1 => rw [vals_length]; exact (Nat.min_self _).symm
  case h2 => rw [vals_length, vals_length]; simp
  case h5 => first | exact fun h0 => ⟨rfl, vals_from (hrW.under (hb0.mono hB)) (by rwa [vals_length] at h0)⟩ | exact fun h0 => vals_from (hrW.under (hb0.mono hB)) (by rwa [vals_length] at h0)
  intro w2 HG hb2
  rw [splice_whole _ _ (by rw [vals_length, vals_length]; simp)] at HG
  have hR2 : Row .u32 31 w2 W.heap.size l := HG.out
  clear HG Hg0
  have hb2' : ∀ w', w2.grownBy w' (some W.heap.size) → Below W.heap.size W w' := fun w' hg => hb2.trans (one_below hg (Nat.le_refl _) hb2.size)
  have Hb2' := Lib.hid hb2'
  have Hrt := Lib.hid (show ∀ w', w2.grownBy w' (some W.heap.size) → Rd .u32 w' B' A' c' t from fun w' hg => hrt.under ((hb2' w' hg).mono hB'))
  clear hb2'
  go_wp2_with fail
  refine (subtract_any w2 W.heap.size 0 l.length l.length l hR2 hd (by omega) (Nat.le_refl _) (by omega) hs A' c' B' t Hrt.out hdt hlt 1 (by omega)).mono ?_
  rintro e w3 ⟨L', lent, rfl, hlent, hL', hdL', hR3, hg3, hval, _⟩
  have hlen0 : lent = 0 ∧ val L' = val l - val l' := by
    have e1 : seg L' 0 l.length = L' := by rw [← hL']; exact seg_whole L'
    rw [e1, seg_whole, Hv'.out] at hval
    have h1 := val_lt hdL'
    rw [hL'] at h1
    rcases Nat.eq_zero_or_pos lent with h2 | h2
    · subst h2
      exact ⟨rfl, by omega⟩
    · obtain rfl : lent = 1 := by omega
      omega
  have hb3 := Hb2'.out _ hg3
  go_wp2_with fail
  refine (trim_at w3 _ _ l.length l.length L' (rd_whole hR3 (Nat.le_of_eq hL') (by omega)) hL').mono ?_
  rintro e w4 ⟨rfl, rfl⟩
  go_wp2_with fail
  go_ret2
  exact ⟨_, _, trl L', rfl, num_trl hdL' hlen0.2, fresh_trl hR3 (Nat.le_of_eq HsW.out.symm) (Nat.le_of_eq hL') (by omega), hbW.trans (by rw [← HsW.out]; exact hb3)⟩
end Go.Proofs.Ytphfgchfphdcaaa
