/-
  The law of times, outside the times that are told; a second more.
-/
import Derived.Test.YtjhpibbhkdjeiaaWhen14
namespace Go.Proofs.Ytjhpibbhkdjeiaa
open Go.RowKit
set_option linter.unusedVariables false
attribute [local go_sem ↓] Go.wp_at_zero Go.wp_at_succ

set_option maxRecDepth 100000 in
set_option maxHeartbeats 4000000 in
theorem times_no (w : World) (t : Int) (hout : t < -631152000 ∨ 253402300799 < t) :
    Calls Try.prog 3 #[.int .i64 t] w fun e w' => e = .returned (.bool true) ∧ Below w.heap.size w w' := by
  go_enter Try.func3, Try.ntmps3
  go_wp2_with fail
  refine (time_no _ t hout).mono ?_
  rintro e w1 ⟨rfl, hb⟩
  have hbox := Holds.fresh w1 25 #[.int .u8 0, .slice none 0 0, .slice none 0 0]
  have hbel := hb.alloc hb.size (.cells #[.int .u8 0, .slice none 0 0, .slice none 0 0] 25)
  have hszw := hb.size
  clear hb
  go_wp2_with fail
  refine (is'_no _ t hout).mono ?_
  rintro e w2 ⟨rfl, rfl⟩
  go_wp2_with fail
  obtain ⟨g, Hg⟩ : ∃ g, Hid (g = w1.heap.size) := ⟨_, rfl⟩
  rw [← Hg.out] at hbox hszw ⊢
  have hgs : g < (w1.alloc (.cells #[.int .u8 0, .slice none 0 0, .slice none 0 0] 25)).heap.size := Holds.lt hbox
  generalize w1.alloc (.cells #[.int .u8 0, .slice none 0 0, .slice none 0 0] 25) = W at *
  clear Hg
  have hc := hbox.cell
  have HBX := Lib.hid hbox.drew
  have HBE := Lib.hid hbel.drew
  clear hbox hbel
  go_region_law (first
    | (go_simp; go_at_call 10; refine (is_no _ t hout).mono ?_; rintro e w' ⟨rfl, rfl⟩; go_simp)
    | (go_simp; go_at_call 12; refine (time'_no _ t hout).mono ?_; rintro e w2 ⟨rfl, hb2⟩; have hsz2 := hb2.size; have hbox2 := HBX.out.under hb2 (by simpa using hgs); have hbel2 := HBE.out.trans (hb2.mono (by simp; omega)); have hc2 := hbox2.cell; have HBX2 := Lib.hid hbox2; clear hb2 hbox2; go_simp)
    | (go_simp; go_at_call 11; refine (same'_all _ 0 0 none none 0 0 0 0 [] rfl (Rd.nil_ _ _ _) (Rd.nil_ _ _ _) (by omega) (by omega) (by intro x hx; cases hx)).mono ?_; rintro e w3 ⟨rfl, hb3⟩; go_simp)
    | (go_simp; go_at_call 13; refine (law_date_no _ t hout).mono ?_; rintro e w4 ⟨rfl, hb4⟩; go_simp))
  all_goals
    have hb24 : Below w2.heap.size w2 w4 := hb3.trans (hb4.mono hb3.size)
    have hg2 : g < w2.heap.size := Holds.lt HBX2.out
    have hbox4 := HBX2.out.under hb24 hg2
    have hbel4 := hbel2.trans (hb24.mono hbel2.size)
    have hc4 := hbox4.cell
    have hg4 := Holds.lt hbox4
    clear hbox4 hb24 hb3 hb4 hbel2 HBX2 hc2 HBX HBE hc
    go_wp2_with fail
    refine (get_any _ 0 0 none 0 0 [] rfl (Rd.nil_ _ _ _) (by omega) (by intro x hx; cases hx) (by omega) none 0 0 (by omega)).mono ?_
    rintro e w5 ⟨hp, hb5⟩
    rcases hp with ⟨u, hu, rfl⟩ | ⟨hn, rfl⟩
    case inl =>
      exfalso
      obtain ⟨_, _, ⟨h1, _⟩ | ⟨h1, _⟩⟩ := time_says hu
      · omega
      · omega
    have hbel5 := hbel4.trans (hb5.mono hbel4.size)
    clear hn hb5 hbel4 hc4
    go_wp2_with fail
    refine (known_any _).mono ?_
    rintro e w6 ⟨rfl, hb6⟩
    go_wp2_with fail
    go_ret
    exact ⟨rfl, hbel5.trans (hb6.mono hbel5.size)⟩

theorem law_times (w : World) (t : Int) :
    Calls Try.prog 3 #[.int .i64 t] w fun e w' => e = .returned (.bool true) ∧ Below w.heap.size w w' := by
  by_cases h : -631152000 ≤ t ∧ t ≤ 253402300799
  · exact times_yes w t h.1 h.2
  · exact times_no w t (by omega)
end Go.Proofs.Ytjhpibbhkdjeiaa
