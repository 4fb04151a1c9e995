/-
  What the law knows.
-/
import Derived.Test.YtkfokgkehlcikaaRoom11
namespace Go.Proofs.Ytkfokgkehlcikaa
open Go.RowKit Go.WideMaps Go.Maps
set_option linter.unusedVariables false
set_option linter.unusedSimpArgs false
attribute [local go_sem ↓] Go.wp_at_zero Go.wp_at_succ

theorem Row.rd_whole {k : IntKind} {T : TypeId} {w : World} {g : Nat} {l : List Nat} (h : Row k T w g l) {n : Nat} (hn : l.length = n) (h63 : n ≤ 9223372036854775807) : Rd k w w.heap.size (some ⟨g, 0, none⟩) n l := by
  subst hn
  have := (h.rd (Nat.le_refl _) (Nat.le_refl _) h63).more (Holds.lt h)
  rwa [List.take_of_length_le (Nat.le_refl _)] at this
theorem RdN.nil_ (w : World) (B : Nat) : RdN w B none 0 [] := ⟨Nat.le_refl _, by omega, fun j hj => by simp at hj, fun h => by simp at h⟩
theorem roomOk_nil (m : Int) (h0 : 0 ≤ m) (h1 : m ≤ 2000) : RoomOk [] m := ⟨by simp, h0, h1, ⟨fun j hj => by simp at hj, fun j i hj => by simp at hj, fun j i hi hj => by simp at hj⟩⟩
theorem hasL_nil (x : Int) (k : Nat) : ¬ hasL [] x k := fun ⟨j, i, _, h, _⟩ => by simp at h
/-- The same rows of numbers, as two rows. -/
theorem ints_nat (w : World) (B B' : Nat) (A A' : Option Addr) (c c' n n' : Nat) (l l' : List Nat) (hn : l.length = n) (hn' : l'.length = n') (hr : Rd .i64 w B A c l) (hr' : Rd .i64 w B' A' c' l') (v : Bool) (hv : v = true ↔ l = l') :
    Calls Try.prog 24 #[.slice A n c, .slice A' n' c'] w fun e w' => e = .returned (.bool v) ∧ ∃ q, w' = w.drewN q :=
  ints_any w B B' A A' c c' n n' _ _ (by simpa using hn) (by simpa using hn') (RdI.of_rd hr) (RdI.of_rd hr') v (by
    rw [hv]
    exact ⟨fun e => by rw [e], fun e => List.map_inj_right (f := fun x : Nat => (x : Int)) (fun a b h => by omega) |>.1 e⟩)
set_option maxRecDepth 100000 in
set_option maxHeartbeats 4000000 in
theorem known4_any (w : World) : Calls Try.prog 21 #[] w fun e w' => e = .returned (.bool true) ∧ Below w.heap.size w w' := by
  have hs0 : ∀ j, j < 0 → (([] : List Nd).getD j default).name.size ≤ 9223372036854775807 ∧ (([] : List Nd).getD j default).size ≤ 9223372036854775807 := fun j hj => by omega
  have HT : Hid (∀ W, Calls Try.prog 22 #[.slice none 0 0, .int .i64 43, .int .i64 2] W fun e w' => ∃ A' c', e = .returned (.tuple #[.slice A' 2 c', .bool true]) ∧ Rd .i64 w' w'.heap.size A' c' [40, 41] ∧ Below W.heap.size W w') := Lib.hid fun W => by
    refine (take_yes W none 0 0 [] rfl (RdN.nil_ _ _) hs0 43 2 (roomOk_nil _ (by omega) (by omega)) (fun _ => false) (fun x => ⟨(fun e => by cases e), fun h => absurd h (hasL_nil _ _)⟩)).mono ?_
    rintro e w' ⟨A', c', n', b, rfl, h1, h2, h3, h4⟩
    have e1 : takeN (fun _ => false) (43 - 40) 2 = ([40, 41], true) := by decide
    rw [e1] at h1 h2 h3
    obtain rfl : n' = 2 := h1.symm
    obtain rfl : b = true := h2.symm
    exact ⟨A', c', rfl, h3, h4⟩
  have HF : Hid (∀ W, Calls Try.prog 25 #[.slice none 0 0, .int .i64 43] W fun e w' => ∃ A' c', e = .returned (.slice A' 3 c') ∧ Rd .i64 w' w'.heap.size A' c' [40, 41, 42] ∧ Below W.heap.size W w') := Lib.hid fun W => by
    refine (free_yes W none 0 0 [] rfl (RdN.nil_ _ _) hs0 43 (roomOk_nil _ (by omega) (by omega)) (fun _ => false) (fun x => ⟨(fun e => by cases e), fun h => absurd h (hasL_nil _ _)⟩)).mono ?_
    rintro e w' ⟨A', c', n', rfl, h1, h2, h3⟩
    have e1 : freeN (fun _ => false) (43 - 40) = [40, 41, 42] := by decide
    rw [e1] at h1 h2
    obtain rfl : n' = 3 := h1.symm
    exact ⟨A', c', rfl, h2.rd, h3⟩
  have HI : Hid (∀ W, Calls Try.prog 20 #[.slice none 0 0, .int .i64 43] W fun e w' => e = .returned (.bool true) ∧ Below W.heap.size W w') := Lib.hid fun W => room_any W none 0 0 [] rfl (RdN.nil_ _ _) hs0 43 true ⟨fun _ => roomOk_nil _ (by omega) (by omega), fun _ => rfl⟩
  have HJ : Hid (∀ W, Calls Try.prog 20 #[.slice none 0 0, .int .i64 (-1)] W fun e w' => e = .returned (.bool false) ∧ Below W.heap.size W w') := Lib.hid fun W => room_any W none 0 0 [] rfl (RdN.nil_ _ _) hs0 (-1) false ⟨(fun e => by cases e), fun h => by have := h.m0; omega⟩
  go_enter Try.func21, Try.ntmps21
  go_wp2_with fail
  refine (HT.out _).mono ?_
  rintro e w1 ⟨A1, c1, rfl, hr1, hb1⟩
  have HR1 := Lib.hid hr1
  have HB1 := Lib.hid hb1
  clear hr1 hb1
  go_wp2_with fail
  refine (HF.out _).mono ?_
  rintro e w2 ⟨A2, c2, rfl, hr2, hb2⟩
  have hg2 : Rd .i64 (w2.alloc (.cells (nums .i64 [40, 41, 42]) 3)) (w2.alloc (.cells (nums .i64 [40, 41, 42]) 3)).heap.size (some ⟨w2.heap.size, 0, none⟩) 3 [40, 41, 42] := Row.rd_whole (T := 3) (Holds.fresh w2 3 (nums .i64 [40, 41, 42])) rfl (by omega)
  have HC2 := Lib.hid (ints_nat _ _ _ _ _ c2 3 3 3 _ _ rfl rfl (hr2.alloc (Nat.le_refl _) (.cells (nums .i64 [40, 41, 42]) 3)) hg2 true ⟨fun _ => rfl, fun _ => rfl⟩)
  have HB2 : Hid (Below w.heap.size w (w2.alloc (.cells (nums .i64 [40, 41, 42]) 3))) := Lib.hid ((HB1.out.trans (hb2.mono HB1.out.size)).alloc (Nat.le_trans HB1.out.size hb2.size) _)
  have HR2 : Hid (Rd .i64 (w2.alloc (.cells (nums .i64 [40, 41, 42]) 3)) (w2.alloc (.cells (nums .i64 [40, 41, 42]) 3)).heap.size A1 c1 [40, 41]) := Lib.hid (((HR1.out.under hb2).more hb2.size).alloc (Nat.le_refl _) _ |>.more (by simp))
  rw [show nums .i64 [40, 41, 42] = #[.int .i64 40, .int .i64 41, .int .i64 42] from rfl] at HC2 HB2 HR2
  clear hr2 hb2 hg2 HF HB1 HR1
  go_wp2_with fail
  generalize w2.alloc (.cells #[.int .i64 40, .int .i64 41, .int .i64 42] 3) = W at *
  refine HC2.out.mono ?_
  rintro e w3 ⟨rfl, q, rfl⟩
  have hg3 : Rd .i64 ((W.drewN q).alloc (.cells (nums .i64 [40, 41]) 3)) ((W.drewN q).alloc (.cells (nums .i64 [40, 41]) 3)).heap.size (some ⟨(W.drewN q).heap.size, 0, none⟩) 2 [40, 41] := Row.rd_whole (T := 3) (Holds.fresh (W.drewN q) 3 (nums .i64 [40, 41])) rfl (by omega)
  have HC3 := Lib.hid (ints_nat _ _ _ _ _ c1 2 2 2 _ _ rfl rfl ((HR2.out.drewN q).alloc (Nat.le_refl _) (.cells (nums .i64 [40, 41]) 3)) hg3 true ⟨fun _ => rfl, fun _ => rfl⟩)
  have HB3 : Hid (Below w.heap.size w ((W.drewN q).alloc (.cells (nums .i64 [40, 41]) 3))) := Lib.hid ((below_drewN HB2.out q).alloc HB2.out.size _)
  rw [show nums .i64 [40, 41] = #[.int .i64 40, .int .i64 41] from rfl] at HC3 HB3
  clear hg3 HC2 HB2 HR2
  generalize W.drewN q = X at *
  go_wp2_with fail
  generalize X.alloc (.cells #[.int .i64 40, .int .i64 41] 3) = Y at *
  refine HC3.out.mono ?_
  rintro e w4 ⟨rfl, q2, rfl⟩
  have HB4 := Lib.hid (below_drewN HB3.out q2)
  clear HC3 HB3
  generalize Y.drewN q2 = Z at *
  go_wp2_with fail
  refine (HI.out _).mono ?_
  rintro e w5 ⟨rfl, hb5⟩
  have HB5 := Lib.hid (HB4.out.trans (hb5.mono HB4.out.size))
  clear hb5 HI HB4
  go_wp2_with fail
  refine (HJ.out _).mono ?_
  rintro e w6 ⟨rfl, hb6⟩
  have HB6 := Lib.hid (HB5.out.trans (hb6.mono HB5.out.size))
  clear hb6 HJ HB5
  go_wp2_with fail
  go_ret
  exact ⟨rfl, HB6.out⟩
end Go.Proofs.Ytkfokgkehlcikaa
