/-
  The known node, by hand.
-/
import Derived.Test.YtkfokgkehlcikaaNode10
namespace Go.Proofs.Ytkfokgkehlcikaa
open Go.RowKit
set_option linter.unusedVariables false

theorem known_ok : NodeOk ⟨#[97]⟩ (65 : Nat) (([50, 300] : List Nat).map fun x : Nat => (x : Int)) where
  name := ⟨by decide, by decide, by
    intro i h
    have h1 : i < 1 := h
    obtain rfl : i = 0 := by omega
    exact ⟨by decide +revert, by decide +revert⟩⟩
  z0 := by decide
  z600 := by decide
  len := by decide
  rng := by
    intro i h
    have h1 : i < 2 := h
    rcases (show i = 0 ∨ i = 1 by omega) with rfl | rfl <;> decide
  dist := by
    intro i j h h'
    have h1 : i < 2 := h'
    obtain ⟨rfl, rfl⟩ : i = 1 ∧ j = 0 := by omega
    decide
theorem known_is : IsNode (enc ⟨#[97]⟩ 65 [50, 300]) ⟨#[97]⟩ 65 [50, 300] := ⟨known_ok, by decide, rfl⟩

set_option maxRecDepth 100000 in
set_option maxHeartbeats 4000000 in
theorem known_any (w : World) : Calls Try.prog 12 #[] w fun e w' => e = .returned (.bool true) ∧ Below w.heap.size w w' := by
  have hrow := Holds.fresh w 3 (nums .i64 [50, 300])
  have hbel : Below w.heap.size w (w.alloc (.cells (nums .i64 [50, 300]) 3)) := (Below.refl _ _).alloc (Nat.le_refl _) _
  have hr : Rd .i64 (w.alloc (.cells (nums .i64 [50, 300]) 3)) (w.alloc (.cells (nums .i64 [50, 300]) 3)).heap.size (some ⟨w.heap.size, 0, none⟩) 2 [50, 300] := Row.rd_all (T := 3) hrow rfl (by omega)
  have HB := Lib.hid (bytes_some (w.alloc (.cells (nums .i64 [50, 300]) 3)) ⟨#[97]⟩ 65 _ _ 2 2 [50, 300] rfl hr (Nat.le_refl _) known_ok (by decide))
  have e1 : (nums .i64 [50, 300]) = #[.int .i64 50, .int .i64 300] := rfl
  rw [e1] at HB hbel
  have hsz : (w.alloc (.cells #[.int .i64 50, .int .i64 300] 3)).heap.size = w.heap.size + 1 := by simp
  clear hrow hr e1
  go_enter Try.func12, Try.ntmps12
  go_wp2_with fail
  generalize w.alloc (.cells #[.int .i64 50, .int .i64 300] 3) = W at *
  refine HB.out.mono ?_
  rintro e w1 ⟨g, rfl, hg, hrow1, hb1⟩
  have hbel1 := hbel.trans (hb1.mono (by omega))
  obtain ⟨b, Hb⟩ : ∃ b, Hid (b = enc ⟨#[97]⟩ 65 [50, 300]) := ⟨_, rfl⟩
  rw [← Hb.out] at hrow1
  have hlb : b.length = 64 := by rw [Hb.out]; exact enc_length _ _ _
  have hob : Oct8 b := by rw [Hb.out]; exact enc_oct (by decide) (by decide) (by decide)
  have HI := Lib.hid (show IsNode b ⟨#[97]⟩ 65 [50, 300] by rw [Hb.out]; exact known_is)
  have hltg := Holds.lt hrow1
  clear hbel hb1 HB
  go_wp2_with fail
  refine (read_any w1 _ _ 64 64 b hlb (hrow1.rd_all hlb (by omega)) (Nat.le_refl _) hob).mono ?_
  rintro e w2 ⟨s, z, A, n, c, p, f, o, rfl, HR, hn, hr2, hb2⟩
  obtain ⟨rfl, rfl, rfl, rfl, rfl⟩ := HR.out.one (.node HI.out)
  have hrow2 := hrow1.under hb2 hltg
  have hbel2 := hbel1.trans (hb2.mono hbel1.size)
  have hlt2 := Holds.lt hrow2
  clear HR hr2 hb2 hrow1 hbel1
  obtain ⟨R, hR0⟩ : ∃ R, R = List.replicate 64 0 := ⟨_, rfl⟩
  have hmk := make_bytes 64 64 rfl (by omega)
  rw [← hR0] at hmk
  have HR0 := Lib.hid hR0
  have hRl : R.length = 64 := by rw [hR0, List.length_replicate]
  have hRo : Oct8 R := fun x hx => by rw [hR0] at hx; have := (List.mem_replicate.1 hx).2; omega
  clear hR0
  go_wp2_with fail
  have hbox := Holds.fresh w2 25 #[.string ⟨#[97]⟩, .int .i64 65, .slice A n c]
  have hrow3 := hrow2.alloc (.cells #[.string ⟨#[97]⟩, .int .i64 65, .slice A n c] 25)
  have hbel3 := hbel2.alloc hbel2.size (.cells #[.string ⟨#[97]⟩, .int .i64 65, .slice A n c] 25)
  have hlt3 := hbox.lt
  have hsz3 : (w2.alloc (.cells #[.string ⟨#[97]⟩, .int .i64 65, .slice A n c] 25)).heap.size = w2.heap.size + 1 := by simp
  generalize w2.alloc (.cells #[.string ⟨#[97]⟩, .int .i64 65, .slice A n c] 25) = W3 at *
  clear hrow2 hbel2
  have hz := Holds.fresh W3 5 (nums .u8 R)
  have hbox4 := hbox.alloc (.cells (nums .u8 R) 5)
  have hrow4 := hrow3.alloc (.cells (nums .u8 R) 5)
  have hbel4 := hbel3.alloc hbel3.size (.cells (nums .u8 R) 5)
  rw [hsz3] at hz
  generalize W3.alloc (.cells (nums .u8 R) 5) = W4 at *
  refine (read_any W4 _ (some ⟨w2.heap.size + 1, 0, none⟩) 64 64 R hRl (Row.rd_all (T := 5) hz hRl (by omega)) (Nat.le_refl _) hRo).mono ?_
  rintro e w5 ⟨s', z', A', n', c', p', f', o', rfl, HR', hn', _, hb5⟩
  obtain ⟨rfl, rfl, rfl, rfl, rfl⟩ := HR'.out.one (.free rfl rfl rfl HR0.out)
  have hbox5 := hbox4.under hb5 hbox4.lt
  have hrow5 : Row .u8 5 w5 g b := Holds.under hrow4 hb5 (Holds.lt hrow4)
  have hbel5 := hbel4.trans (hb5.mono hbel4.size)
  have hrow6 : Row .u8 5 (w5.alloc (.cells #[.string ⟨#[]⟩, .int .i64 0, .slice A' n' c'] 25)) g b := Holds.alloc hrow5 _
  have hbox6 := hbox5.alloc (.cells #[.string ⟨#[]⟩, .int .i64 0, .slice A' n' c'] 25)
  have hfin := hbel5.alloc hbel5.size (.cells #[.string ⟨#[]⟩, .int .i64 0, .slice A' n' c'] 25)
  have HN2 := Lib.hid (show needI 65 = 2 by decide)
  go_wp2_with fail
  generalize w5.alloc (.cells #[.string ⟨#[]⟩, .int .i64 0, .slice A' n' c'] 25) = W6 at *
  have k0 := hrow6.cell (i := 0) (by omega)
  have k46 := hrow6.cell (i := 46) (by omega)
  have v0 : b.getD 0 0 = 1 := by rw [Hb.out]; rfl
  have v46 : b.getD 46 0 = 44 := by rw [Hb.out]; rfl
  rw [v0] at k0
  rw [v46] at k46
  have kb := hbox6.cell 0
  refine (need_any W6 65 (by omega) 2 HN2.out).mono ?_
  rintro e w7 ⟨rfl, rfl⟩
  go_wp2_with fail
  go_ret
  exact ⟨rfl, hfin⟩
end Go.Proofs.Ytkfokgkehlcikaa
