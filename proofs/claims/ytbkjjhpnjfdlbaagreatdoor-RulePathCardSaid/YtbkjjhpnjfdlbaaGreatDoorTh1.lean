/-
  Things in a row, copied; a thing of bytes, of truths, of things, made by atom.
-/
import Derived.Test.YtbkjjhpnjfdlbaaGreatDoorOff
import Derived.Test.YtbkjjhpnjfdlbaaGreatDoorAt1
import Derived.Deep.AppendSrc
import Derived.Deep.Upon
namespace Go.Proofs.YtbkjjhpnjfdlbaaGreatDoor
open Go.RowKit
set_option linter.unusedVariables false
set_option linter.unusedSimpArgs false

theorem under_nodes : Tryz.prog.underlying 29 = some (.slice 31) := by kernel_rfl
theorem off_block {xs : List Nat} {w : World} {g c : Nat} {cs : Array Value} {l : List Lt} (hH : Holds w g 31 cs) (hc : ∀ (j : Nat) (u : Value), (l.flatMap lcell)[j]? = some u → cs[j]? = some u) (hx : g ∉ xs) (hl : l.length ≤ c) (h63 : c ≤ 9223372036854775807)
    (hk : ∀ x ∈ l, Off xs (ThP x) w) : Off xs (KiP (some ⟨g, 0, none⟩) c l) w := by
  intro w' h2 h3
  have hH' : Holds w' g 31 cs := (h3 _ hx hH.lt).trans hH
  refine ⟨⟨hl, h63, fun hn => ⟨g, 0, rfl, by have := hH.lt; omega, fun j hj => ?_⟩⟩, fun x hx2 => hk x hx2 w' h2 h3⟩
  have e : l[j]? = some (l.getD j default) := by simp [List.getD, hj]
  have f : ∀ t, t < 3 → (l.flatMap lcell)[3 * j + t]? = (lcell (l.getD j default))[t]? := fun t ht => flat_at (f := lcell) (m := 3) (L := l) (fun _ _ => rfl) e (j := t) ht
  have k : ∀ t, t < 3 → ∀ v, (lcell (l.getD j default))[t]? = some v → w'.cell? ⟨g, 3 * j + t, none⟩ = some v := fun t ht v hv => by
    rw [hH'.cell]
    exact hc _ _ (by rw [f t ht, hv])
  exact ⟨by rw [show 0 + j * 3 = 3 * j + 0 by omega]; exact k 0 (by omega) _ rfl, by rw [show 0 + j * 3 + 1 = 3 * j + 1 by omega]; exact k 1 (by omega) _ rfl, by rw [show 0 + j * 3 + 2 = 3 * j + 2 by omega]; exact k 2 (by omega) _ rfl⟩
theorem off_none (xs : List Nat) (w : World) : Off xs (KiP none 0 []) w := fun _ _ _ => ⟨⟨by simp, by omega, fun h => by simp at h⟩, fun x hx => by cases hx⟩
theorem KiP.nil_of {A : Option Addr} {c : Nat} {w : World} (h : KiP A c [] w) : True := trivial
theorem rowT_cells {w : World} {B c : Nat} {a : Addr} {l : List Lt} (h : RowT w B (some a) c l) : ∀ (j : Nat) (u : Value), (l.flatMap lcell)[j]? = some u → w.cell? (a.add j) = some u := by
  intro j u hu
  have hj : j < (l.flatMap lcell).length := (List.getElem?_eq_some_iff.1 hu).1
  rw [flat_length (f := lcell) (m := 3) (fun _ _ => rfl)] at hj
  obtain ⟨b, off, e, hlt, hc⟩ := h.2.2 (by omega)
  injection e with e
  subst e
  have hq : j / 3 < l.length := by omega
  obtain ⟨c0, c1, c2⟩ := hc (j / 3) hq
  have e2 : l[j / 3]? = some (l.getD (j / 3) default) := by simp [List.getD, hq]
  have f := flat_at (f := lcell) (m := 3) (L := l) (fun _ _ => rfl) e2 (j := j % 3) (by omega)
  rw [show 3 * (j / 3) + j % 3 = j by omega, hu] at f
  have ha : (⟨b, off, none⟩ : Addr).add j = ⟨b, off + j, none⟩ := by unfold Addr.add; split <;> simp_all
  rw [ha, f]
  rcases (by omega : j % 3 = 0 ∨ j % 3 = 1 ∨ j % 3 = 2) with h3 | h3 | h3
  · rw [show off + j = off + j / 3 * 3 by omega, c0, h3]; rfl
  · rw [show off + j = off + j / 3 * 3 + 1 by omega, c1, h3]; rfl
  · rw [show off + j = off + j / 3 * 3 + 2 by omega, c2, h3]; rfl
theorem lcell_one (l : List Lt) : ∀ u ∈ l.flatMap lcell, u.oneCell' = true := by
  intro u hu
  obtain ⟨t, _, h⟩ := List.mem_flatMap.1 hu
  simp only [lcell, List.mem_cons, List.not_mem_nil, or_false] at h
  rcases h with rfl | rfl | rfl <;> rfl
set_option maxRecDepth 100000 in
set_option maxHeartbeats 2000000 in
theorem cloneT_any (w : World) (xs : List Nat) (A : Option Addr) (c n : Nat) (ks : List Lt) (h : Off xs (KiP A c ks) w) (hn : ks.length = n) (hsz : n ≤ 100000) (hxs : ∀ x ∈ xs, x < w.heap.size) :
    Calls Tryz.prog 59 #[.slice A n c] w fun e w' => ∃ A' c', e = .returned (.slice A' n c') ∧ Off xs (KiP A' c' ks) w' ∧ Below w.heap.size w w' := by
  rcases A with _ | a
  · have hn0 : n = 0 := by
      rcases Nat.eq_zero_or_pos n with h0 | h0
      · exact h0
      · obtain ⟨_, _, e, _⟩ := h.at_.1.2.2 (by omega)
        cases e
    subst hn0
    obtain rfl := List.eq_nil_of_length_eq_zero hn
    clear h hn hxs
    have hnl : (binOp .eql 29 (.slice none 0 c) (.slice none 0 0)).run Tryz.prog w = .ok (.bool true) w := run_eql_slice_nil w _ _ none 0 c under_nodes
    go_enter Tryz.func59, Tryz.ntmps59
    go_wp2_with fail
    go_ret
    exact ⟨_, _, rfl, off_none _ _, Below.refl _ _⟩
  · obtain ⟨i, hi, hz, hsize, hbytes⟩ := info_parts info_node
    have hq : Below w.heap.size w (w.alloc (.cells #[] 31)) := (Below.refl _ _).alloc (Nat.le_refl _) _
    have hsrc : Src Tryz.prog i.size 29 (.slice (some a) n c) n (ks.flatMap lcell) (w.alloc (.cells #[] 31)) := by
      rw [hsize]
      exact Src.ofSlice _ under_nodes a n c _ (by rw [flat_length (f := lcell) (m := 3) (fun _ _ => rfl), hn, Nat.mul_comm]) (rowT_cells (h.alloc (.cells #[] 31)).at_.1) (lcell_one ks)
    have hnl : (binOp .eql 29 (.slice (some a) n c) (.slice none 0 0)).run Tryz.prog w = .ok (.bool false) w := run_eql_slice_nil w _ _ (some a) n c under_nodes
    have hrun : ∃ A' c' W, (Builtin.append_ #[29, 29] 29 #[.slice (some ⟨w.heap.size, 0, none⟩) 0 0, .slice (some a) n c]).run Tryz.prog (w.alloc (.cells #[] 31)) = .ok (.slice A' n c') W ∧ Off xs (KiP A' c' ks) W ∧ Below w.heap.size w W := by
      rcases Nat.eq_zero_or_pos n with h0 | h0
      · subst h0
        obtain rfl := List.eq_nil_of_length_eq_zero hn
        refine ⟨_, _, _, run_append_nothing _ _ _ _ 31 i under_nodes hi _ 0 0 (Nat.le_refl _) _ hsrc, fun _ _ _ => ⟨⟨by simp, by omega, fun h => by simp at h⟩, fun x hx => by cases hx⟩, hq⟩
      · have hold : (Builtin.firstCells i.size 0 (.slice (some ⟨w.heap.size, 0, none⟩) 0 0)).run Tryz.prog (w.alloc (.cells #[] 31)).drew = .ok ([] : List Value).toArray (w.alloc (.cells #[] 31)).drew :=
          run_firstCells_some _ i.size 0 ⟨w.heap.size, 0, none⟩ 0 0 [] (by simp) (fun j u hu => by simp at hu)
        have hfit : Builtin.nextslicecap (0 + n) 0 * i.bytes ≤ 281474976710656 := growslice_fits (by omega) (by rw [hbytes]; omega)
        have hrun := run_append_grow_src (P := Tryz.prog) (w.alloc (.cells #[] 31)) 29 29 29 31 i _ under_nodes hi hz _ 0 0 [] hold _ n _ hsrc (by omega) (by omega) hfit
        rw [Nat.zero_add] at hrun
        have hge := grownCap_ge (w.alloc (.cells #[] 31)) n 0 31
        have hcm : grownCap (w.alloc (.cells #[] 31)) n 0 31 ≤ maxLen := grownCap_le_maxLen _ n 0 _ (by unfold maxLen; omega)
        unfold maxLen at hcm
        have hs1 : (w.alloc (.cells #[] 31)).heap.size = w.heap.size + 1 := by simp
        refine ⟨_, _, _, hrun, ?_, hq.drew.alloc (by show w.heap.size ≤ (w.alloc (.cells #[] 31)).heap.size; rw [hs1]; omega) _⟩
        refine off_block (cs := _) (Holds.fresh (w.alloc (.cells #[] 31)).drew 31 _) (fun j u hu => ?_) (fun hx => ?_) (by omega) hcm (fun x hx => ?_)
        · rw [Array.getElem?_append_left (by have := (List.getElem?_eq_some_iff.1 hu).1; simpa using this)]
          simpa using hu
        · have := hxs _ hx
          have e : (w.alloc (.cells #[] 31)).drew.heap.size = w.heap.size + 1 := hs1
          omega
        · exact ((h.alloc (.cells #[] 31)).drew.imp fun _ hh => hh.2 x hx).alloc _
    obtain ⟨A', c', W, hrun, ho, hbw⟩ := hrun
    have HO := Lib.hid ho
    have HB := Lib.hid hbw
    clear h hn hxs ho hbw hsrc hq hi hz hsize hbytes
    go_enter Tryz.func59, Tryz.ntmps59
    go_wp2_with (first | (refine wpList_append_run _ rfl (.tmp 5) (.tmp 6) 29 rfl rfl _ _ rfl rfl _ _ hrun ?_) | fail)
    go_ret
    exact ⟨_, _, rfl, HO.out, HB.out⟩
end Go.Proofs.YtbkjjhpnjfdlbaaGreatDoor
