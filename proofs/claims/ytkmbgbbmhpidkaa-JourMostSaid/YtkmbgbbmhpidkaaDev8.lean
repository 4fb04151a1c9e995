/-
  A crash is armed.
-/
import Derived.Test.YtkmbgbbmhpidkaaDev7
import Derived.Deep.AppendSrc
import Derived.OwnWalk
import Derived.Deep.Upon
import Derived.BigRegion
import Derived.Deep.RegionLaw
namespace Go.Proofs.Ytkmbgbbmhpidkaa
open Go.RowKit
set_option linter.unusedVariables false

def bools (l : List Bool) : List Value := l.map Value.bool
theorem bools_length (l : List Bool) : (bools l).length = l.length := by simp [bools]
theorem bools_at (l : List Bool) {i : Nat} (h : i < l.length) : (bools l)[i]? = some (.bool (l.getD i false)) := by simp [bools, List.getD, h]
theorem bools_one (l : List Bool) : ∀ u ∈ bools l, u.oneCell' = true := by
  intro u hu
  obtain ⟨x, _, rfl⟩ := List.mem_map.1 hu
  rfl
theorem info_bool : (Try.prog.info? 4).map (fun i => (i.zero, i.size, i.bytes)) = some (some (.bool false), 1, 1) := by kernel_rfl
/-- Truths appended to nothing: in new memory. -/
theorem run_truths (W : World) (K : Option Addr) (c n : Nat) (l : List Bool) (hn : l.length = n) (h : Truths W K c l) (hsz : n ≤ 1000000) :
    ∃ K' c' w', (Builtin.append_ #[28, 28] 28 #[.slice none 0 0, .slice K n c]).run Try.prog W = .ok (.slice K' n c') w' ∧ Truths w' K' c' l ∧ W.grownBy w' none ∧ ∀ g, blockOf K' = some g → W.heap.size ≤ g ∧ g < w'.heap.size := by
  subst hn
  obtain ⟨i, hi', hz, hsize, hbytes⟩ := info_parts info_bool
  have hsrc : Src Try.prog 1 28 (.slice K l.length c) l.length (bools l) W := by
    rcases Nat.eq_zero_or_pos l.length with h0 | h0
    · obtain rfl := List.eq_nil_of_length_eq_zero h0
      rcases K with _ | a
      · exact Src.ofNil W Try.underlying28 c
      · exact Src.ofSlice W Try.underlying28 a 0 c [] rfl (fun j u hj => by simp at hj) (fun u hu => by cases hu)
    · obtain ⟨b, off, rfl, hb, hc⟩ := h.2.2 h0
      refine Src.ofSlice W Try.underlying28 ⟨b, off, none⟩ l.length c (bools l) (by rw [bools_length, Nat.mul_one]) (fun j u hj => ?_) (bools_one l)
      have hj' : j < l.length := by have := (List.getElem?_eq_some_iff.1 hj).1; rwa [bools_length] at this
      rw [Addr.add_lit, hc j hj', ← bools_at l hj', hj]
  rw [← hsize] at hsrc
  rcases Nat.eq_zero_or_pos l.length with h0 | h0
  · obtain rfl := List.eq_nil_of_length_eq_zero h0
    have hrun := run_append_nothing (P := Try.prog) W 28 28 28 4 i Try.underlying28 hi' none 0 0 (by omega) _ hsrc
    exact ⟨none, 0, W, hrun, Truths.nil W, World.grownBy.refl W _, fun g hg => by simp [blockOf] at hg⟩
  · have hold : (Builtin.firstCells i.size 0 (.slice none 0 0)).run Try.prog W.drew = .ok ([] : List Value).toArray W.drew := run_firstCells_none W.drew i.size 0 0 0
    have hfit : Builtin.nextslicecap (0 + l.length) 0 * i.bytes ≤ 281474976710656 := growslice_fits (by omega) (by rw [hbytes]; omega)
    have hrun := run_append_grow_src (P := Try.prog) W 28 28 28 4 i (.bool false) Try.underlying28 hi' hz none 0 0 [] hold _ l.length (bools l) hsrc (by omega) (by omega) hfit
    have hge := grownCap_ge W (0 + l.length) 0 4
    have hcm : grownCap W (0 + l.length) 0 4 ≤ maxLen := grownCap_le_maxLen W (0 + l.length) 0 4 (by unfold maxLen; omega)
    rw [Nat.zero_add] at hrun hge hcm
    refine ⟨_, _, _, hrun, ⟨hge, by unfold maxLen at hcm; exact hcm, fun _ => ⟨W.heap.size, 0, rfl, by simp, fun j hj => ?_⟩⟩, ⟨rfl, rfl, rfl, by simp, fun k hk _ => Go.heap_alloc_old W.drew _ hk⟩, fun g hg => ?_⟩
    · rw [cell_of_row _ W.heap.size (0 + j) _ 4 (0, 0) (heap_alloc_new W.drew _), Nat.zero_add, List.nil_append, Array.getElem?_append_left (by simp [bools_length]; omega), List.getElem?_toArray]
      exact bools_at l hj
    · obtain rfl : W.heap.size = g := by simpa [blockOf] using hg
      exact ⟨Nat.le_refl _, by simp⟩

theorem step_append_run {P : Program} {W : World} {ops : Array Oper} {o : Oper} {a : Act} {K : Act → World → Prop} {Q : Exit → Act → World → Prop} {E : Prop} (hgd : o.guard = none) (s x : Operand) (t : TypeId)
    (ho : o.op = .call { callee := .builtin .append, args := #[s, x], argTypes := #[t, t] }) (hot : o.type = t) (sv xv : Value) (hs : a.eval s = sv) (hx : a.eval x = xv) (v : Value) (w' : World) (hrun : (Builtin.append_ #[t, t] t #[sv, xv]).run P W = .ok v w') (h : K (a.put o.dst v) w') :
    if Region.wanted o (yielded ops a.tmps) = true then Oper.wp P o a W K Q else E := by
  have hw : Region.wanted o (yielded ops a.tmps) = true := by simp [Region.wanted, hgd]
  rw [if_pos hw]
  unfold Oper.wp
  simp [execOp, ho, hot, resolve, invoke, builtin, hs, hx, hrun, Result.andThen]
  exact h

def ArmPost (w : World) (gd gn gl : Nat) (A : Option Addr) (cw : Nat) (s : Dk) (w' : World) : Prop :=
  (∃ K' ck', DiskAt w' gd gn gl A cw K' ck' s ∧ ∀ g, blockOf K' = some g → w.heap.size ≤ g) ∧ Only (fun g => g = gd) w w'

set_option maxRecDepth 100000 in
set_option maxHeartbeats 1000000 in
theorem arm_low (w : World) (gd gn gl : Nat) (A : Option Addr) (cw : Nat) (K : Option Addr) (ck : Nat) (s : Dk) (h : DiskAt w gd gn gl A cw K ck s) (a : Int) (K2 : Option Addr) (c2 n2 : Nat) (l : List Bool) (hn : l.length = n2) (hr : Truths w K2 c2 l) (hsz : n2 ≤ 1000000) (hne : l ≠ [] → ∀ g, blockOf K2 = some g → g ≠ gd) :
    Calls Try.prog 12 #[.pointer (some ⟨gd, 0, none⟩), .agg #[.int .i64 a, .slice K2 n2 c2]] w fun e w' => e = .returned (.tuple #[]) ∧ ArmPost w gd gn gl A cw (s.arm a l) w' := by
  have hd1 := h.head 4 (.bool true) { s with armed := true } rfl rfl rfl rfl rfl
  have ho1 : Only (fun g => g = gd) w (w.setCell ⟨gd, 4, none⟩ (.bool true)) := (Only.refl (fun g => g = gd) w).setCell (p := ⟨gd, 4, none⟩) (.inl rfl) (.bool true)
  have hr1 := hr.aside (i := 4) (.bool true) hne
  have hs1 : (w.setCell ⟨gd, 4, none⟩ (.bool true)).heap.size = w.heap.size := by simp [World.setCell]
  have ho2 := ho1.alloc (.cells #[.int .i64 a, .slice K2 n2 c2] 30)
  have hd2 := hd1.keepAll (w' := (w.setCell ⟨gd, 4, none⟩ (.bool true)).alloc (.cells #[.int .i64 a, .slice K2 n2 c2] 30)) (by simp) (fun g _ hg => Below.heap_alloc _ _ g hg)
  have hb2 : Holds ((w.setCell ⟨gd, 4, none⟩ (.bool true)).alloc (.cells #[.int .i64 a, .slice K2 n2 c2] 30)) w.heap.size 30 #[.int .i64 a, .slice K2 n2 c2] := by
    have := Holds.fresh (w.setCell ⟨gd, 4, none⟩ (.bool true)) 30 #[.int .i64 a, .slice K2 n2 c2]
    rwa [hs1] at this
  have hr2 := hr1.keep (w' := (w.setCell ⟨gd, 4, none⟩ (.bool true)).alloc (.cells #[.int .i64 a, .slice K2 n2 c2] 30)) (by simp) fun g _ hg => Below.heap_alloc _ _ g hg
  have e4 : w.cell? ⟨gd, 4, none⟩ = some (.bool s.armed) := h.hd.cell 4
  have f4 : w.frozen? ⟨gd, 4, none⟩ = false := h.hd.open_ 4
  have e4' : (w.alloc (.cells #[.int .i64 a, .slice K2 n2 c2] 30)).cell? ⟨gd, 4, none⟩ = some (.bool s.armed) := (h.hd.alloc _).cell 4
  have f4' : (w.alloc (.cells #[.int .i64 a, .slice K2 n2 c2] 30)).frozen? ⟨gd, 4, none⟩ = false := (h.hd.alloc _).open_ 4
  have HGL := Holds.lt h.hd
  have HD2 := Lib.hid hd2
  have HO2 := Lib.hid ho2
  have HB2 := Lib.hid hb2
  have HR2 := Lib.hid hr2
  have HN := Lib.hid hn
  clear h hd1 hr1 ho1 hd2 ho2 hb2 hr2 hn hr hs1
  go_enter Try.func12, Try.ntmps12
  go_wp2_with fail
  clear e4 f4 e4' f4'
  have hd2 := HD2.out
  have ho2 := HO2.out
  have hb2 := HB2.out
  have hr2 := HR2.out
  clear HD2 HO2 HB2 HR2
  generalize (w.setCell ⟨gd, 4, none⟩ (.bool true)).alloc (.cells #[.int .i64 a, .slice K2 n2 c2] 30) = W2 at *
  have c0 : W2.cell? ⟨w.heap.size, 0, none⟩ = some (.int .i64 a) := hb2.cell 0
  have c1 : W2.cell? ⟨w.heap.size, 1, none⟩ = some (.slice K2 n2 c2) := hb2.cell 1
  obtain ⟨K', c', w3, hrun, ht3, hg3, hb3⟩ := run_truths W2.drew K2 c2 n2 l HN.out (hr2.keep (Nat.le_refl _) fun _ _ _ => rfl) hsz
  have hd3 := hd2.keepAll (w' := w3) hg3.size fun g _ hg => hg3.block g hg (fun e => by cases e)
  have k4 := hd3.head 5 (.int .i64 a) { s with armed := true, at_ := a } rfl rfl rfl rfl rfl
  have hltA : ∀ g, g = gd ∨ g = gn ∨ g = gl ∨ blockOf A = some g → g < W2.heap.size := fun g hg => by
    rcases hg with rfl | rfl | rfl | hg
    · exact Holds.lt hd2.hd
    · exact hd2.hn.lt
    · exact hd2.hl.lt
    · exact hd2.hw.lt hg
  have hge3 : ∀ g, blockOf K' = some g → W2.heap.size ≤ g := fun g hg => (hb3 g hg).1
  have k5 := k4.rekeep K' c' l (ht3.keep (by simp [World.setCell]) fun g hg _ => Below.heap_setCell w3 ⟨gd, 5, none⟩ _ g (fun e => by have := hge3 g hg; have := hltA gd (.inl rfl); have e' : g = gd := e; omega))
    (fun g hg => ⟨fun e => by have := hge3 g hg; have := hltA g (.inl e); omega, fun e => by have := hge3 g hg; have := hltA g (.inr (.inl e)); omega, fun e => by have := hge3 g hg; have := hltA g (.inr (.inr (.inl e))); omega, fun e => by have := hge3 g hg; have := hltA g (.inr (.inr (.inr e))); omega⟩)
    (fun g hg => by simpa [World.setCell] using (hb3 g hg).2)
  have o5 := ((ho2.drew.grown hg3 (fun g e => by cases e)).setCell (p := ⟨gd, 5, none⟩) (.inl rfl) (.int .i64 a)).setCell (p := ⟨gd, 6, none⟩) (.inl rfl) (.slice K' l.length c')
  rw [HN.out] at k5 o5
  have e5 : w3.cell? ⟨gd, 5, none⟩ = some (.int .i64 s.at_) := hd3.hd.cell 5
  have e6 : w3.cell? ⟨gd, 6, none⟩ = some (.slice K s.keep.length ck) := hd3.hd.cell 6
  have f5 := hd3.hd.open_ 5
  have f6 := hd3.hd.open_ 6
  have c0' : w3.cell? ⟨w.heap.size, 0, none⟩ = some (.int .i64 a) := (Holds.grown (show Holds W2.drew w.heap.size _ _ from hb2) hg3 (fun e => by cases e)).cell 0
  have HK5 := Lib.hid k5
  have HO5 := Lib.hid o5
  have HGE : Hid (∀ g, blockOf K' = some g → w.heap.size ≤ g) := Lib.hid fun g hg => Nat.le_trans ho2.size (hge3 g hg)
  clear hd2 ho2 hb2 hr2 hd3 k4 k5 o5 ht3 hg3 hb3 hltA hge3
  have HRUN := Lib.hid hrun
  clear hrun
  go_region_law (refine step_append_run rfl (.const (.slice none 0 0)) (.tmp 13) 28 rfl rfl _ _ rfl rfl _ w3 HRUN.out ?_)
  all_goals
    go_wp2_with fail
    go_end0
    exact ⟨rfl, ⟨K', c', HK5.out, HGE.out⟩, HO5.out⟩
end Go.Proofs.Ytkmbgbbmhpidkaa
