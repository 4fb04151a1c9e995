/-
  What is known of paths; the calls of the laws.
-/
import Derived.Test.YtoikkblclmgioaaDoorPt6
namespace Go.Proofs.YtoikkblclmgioaaDoor
open Go.RowKit
set_option linter.unusedVariables false

theorem is_as (w : World) (s : ByteArray) (v : Bool) (h : isP s.data.toList = v) (hs : s.size ≤ 9223372036854775807) (hm : Big w) : Calls Tryd.prog 7 #[.string s] w fun e w' => e = .returned (.bool v) ∧ Below w.heap.size w w' ∧ Big w' := by
  subst h
  exact (is_any w s hs hm).mono fun e w' ⟨h1, h2⟩ => ⟨h1, h2, hm.under h2⟩
theorem rdS_one {w : World} {g : Nat} {cs : Array Value} {l : List ByteArray} (h : Holds w g 9 cs) (hc : cs = (l.map Value.string).toArray) (hl : l.length ≤ 9223372036854775807) : RdS w (g + 1) (some ⟨g, 0, none⟩) l.length l := by
  subst hc
  exact ⟨Nat.le_refl _, hl, fun _ => ⟨g, 0, rfl, by omega, fun j hj => by rw [Nat.zero_add, h.cell j, strs_at l hj]⟩⟩
theorem all_built (W : World) (l : List ByteArray) (v : Bool) (hl : l.length ≤ 9223372036854775807) (hv : v = true ↔ AllOk (tx l)) (hsz : ∀ p ∈ l, p.size ≤ 9223372036854775807) (hm : Big W) :
    Calls Tryd.prog 9 #[.slice (some ⟨W.heap.size, 0, none⟩) l.length l.length] (W.alloc (.cells (l.map Value.string).toArray 9)) fun e w' => e = .returned (.bool v) ∧ Below W.heap.size W w' ∧ Big w' := by
  have hbel : Below W.heap.size W (W.alloc (.cells (l.map Value.string).toArray 9)) := (Below.refl _ _).alloc (Nat.le_refl _) _
  have hbox := Holds.fresh W 9 (l.map Value.string).toArray
  have hr := rdS_one hbox rfl hl
  have hm1 := hm.under hbel
  refine (all_any _ _ _ _ _ l rfl hr (by simp) hsz hm1 v hv).mono fun e w' ⟨h1, h2⟩ => ⟨h1, hbel.trans (h2.mono hbel.size), hm1.under h2⟩
theorem all'_built (W : World) (l : List ByteArray) (v : Bool) (hl : l.length ≤ 9223372036854775807) (hv : v = true ↔ AllOk (tx l)) (hsz : ∀ p ∈ l, p.size ≤ 9223372036854775807) (hm : Big W) :
    Calls Tryd.prog 10 #[.slice (some ⟨W.heap.size, 0, none⟩) l.length l.length] (W.alloc (.cells (l.map Value.string).toArray 9)) fun e w' => e = .returned (.bool v) ∧ Below W.heap.size W w' ∧ Big w' := by
  have hbel : Below W.heap.size W (W.alloc (.cells (l.map Value.string).toArray 9)) := (Below.refl _ _).alloc (Nat.le_refl _) _
  have hbox := Holds.fresh W 9 (l.map Value.string).toArray
  have hr := rdS_one hbox rfl hl
  have hm1 := hm.under hbel
  refine (all'_any _ _ _ _ _ l rfl hr (by simp) hsz v hv).mono fun e w' ⟨h1, h2⟩ => ⟨h1, hbel.trans (h2.mono hbel.size), hm1.under h2⟩
/-- Two texts, one. -/
theorem all_two (W : World) (a b : ByteArray) (v : Bool) (hv : v = true ↔ AllOk [a.data.toList, b.data.toList]) (ha : a.size ≤ 9223372036854775807) (hb : b.size ≤ 9223372036854775807) (hm : Big W) :
    Calls Tryd.prog 9 #[.slice (some ⟨W.heap.size, 0, none⟩) 2 2] (W.alloc (.cells #[.string a, .string b] 9)) fun e w' => e = .returned (.bool v) ∧ Below W.heap.size W w' ∧ Big w' :=
  all_built W [a, b] v (by simp) hv (fun p hp => by rcases List.mem_cons.1 hp with rfl | hp; exact ha; rcases List.mem_cons.1 hp with rfl | hp; exact hb; cases hp) hm
theorem all'_two (W : World) (a b : ByteArray) (v : Bool) (hv : v = true ↔ AllOk [a.data.toList, b.data.toList]) (ha : a.size ≤ 9223372036854775807) (hb : b.size ≤ 9223372036854775807) (hm : Big W) :
    Calls Tryd.prog 10 #[.slice (some ⟨W.heap.size, 0, none⟩) 2 2] (W.alloc (.cells #[.string a, .string b] 9)) fun e w' => e = .returned (.bool v) ∧ Below W.heap.size W w' ∧ Big w' :=
  all'_built W [a, b] v (by simp) hv (fun p hp => by rcases List.mem_cons.1 hp with rfl | hp; exact ha; rcases List.mem_cons.1 hp with rfl | hp; exact hb; cases hp) hm
theorem all_one (W : World) (a : ByteArray) (v : Bool) (hv : v = true ↔ AllOk [a.data.toList]) (ha : a.size ≤ 9223372036854775807) (hm : Big W) :
    Calls Tryd.prog 9 #[.slice (some ⟨W.heap.size, 0, none⟩) 1 1] (W.alloc (.cells #[.string a] 9)) fun e w' => e = .returned (.bool v) ∧ Below W.heap.size W w' ∧ Big w' :=
  all_built W [a] v (by simp) hv (fun p hp => by rcases List.mem_cons.1 hp with rfl | hp; exact ha; cases hp) hm
theorem all_none (W : World) (hm : Big W) : Calls Tryd.prog 9 #[.slice none 0 0] W fun e w' => e = .returned (.bool true) ∧ Below W.heap.size W w' ∧ Big w' :=
  (all_any W 0 none 0 0 [] rfl (RdS.nil_ W 0) (Nat.zero_le _) (fun p hp => by cases hp) hm true ⟨fun _ => ⟨(fun s hs => by cases hs), List.Pairwise.nil, (fun s hs => by cases hs)⟩, fun _ => rfl⟩).mono fun e w' ⟨h1, h2⟩ => ⟨h1, h2, hm.under h2⟩

theorem known_all : AllOk [(⟨#[97, 47, 98]⟩ : ByteArray).data.toList, (⟨#[97, 47, 99]⟩ : ByteArray).data.toList] := ⟨by decide, by decide, by decide⟩
theorem known_not : ¬ AllOk [(⟨#[97]⟩ : ByteArray).data.toList, (⟨#[97, 47, 98]⟩ : ByteArray).data.toList] := fun h =>
  h.2.2 [97, 47, 98] (by decide) 1 (by decide) rfl (by decide)

set_option maxRecDepth 100000 in
set_option maxHeartbeats 2000000 in
theorem known21_any (w : World) (hm : Big w) : Calls Tryd.prog 11 #[] w fun e w' => e = .returned (.bool true) ∧ Below w.heap.size w w' := by
  go_enter Tryd.func11, Tryd.ntmps11
  go_wp2_with fail
  refine (is_as w ⟨#[97, 47, 98, 46, 99]⟩ true (by decide) (by decide) hm).mono ?_
  rintro e w1 ⟨rfl, hb1, hm1⟩
  have hbel1 := hb1
  clear hm
  go_wp2_with fail
  refine (is_as w1 ⟨#[97, 47, 46, 46, 47, 98]⟩ false (by decide) (by decide) hm1).mono ?_
  rintro e w2 ⟨rfl, hb2, hm2⟩
  have hbel2 := hbel1.trans (hb2.mono hbel1.size)
  clear hbel1 hb2 hm1
  go_wp2_with fail
  refine (is_as w2 ⟨#[47, 97]⟩ false (by decide) (by decide) hm2).mono ?_
  rintro e w3 ⟨rfl, hb3, hm3⟩
  have hbel3 := hbel2.trans (hb3.mono hbel2.size)
  clear hbel2 hb3 hm2
  go_wp2_with fail
  refine (is_as w3 ⟨#[]⟩ false (by decide) (by decide) hm3).mono ?_
  rintro e w4 ⟨rfl, hb4, hm4⟩
  have hbel4 := hbel3.trans (hb4.mono hbel3.size)
  clear hbel3 hb4 hm3
  go_wp2_with fail
  refine (all_two w4 ⟨#[97, 47, 98]⟩ ⟨#[97, 47, 99]⟩ true ⟨fun _ => known_all, fun _ => rfl⟩ (by decide) (by decide) hm4).mono ?_
  rintro e w5 ⟨rfl, hb5, hm5⟩
  have hbel5 := hbel4.trans (hb5.mono hbel4.size)
  clear hbel4 hb5 hm4
  go_wp2_with fail
  refine (all_two w5 ⟨#[97]⟩ ⟨#[97, 47, 98]⟩ false ⟨(fun h => by cases h), fun h => absurd h known_not⟩ (by decide) (by decide) hm5).mono ?_
  rintro e w6 ⟨rfl, hb6, hm6⟩
  have hbel6 := hbel5.trans (hb6.mono hbel5.size)
  clear hbel5 hb6 hm5
  go_wp2_with fail
  go_ret
  exact ⟨rfl, hbel6⟩
end Go.Proofs.YtoikkblclmgioaaDoor
