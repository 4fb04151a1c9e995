/-
  The law: any time's thing, its date, or nothing, and back.
-/
import Derived.Test.YtjhpibbhkdjeiaaWhen13
namespace Go.Proofs.Ytjhpibbhkdjeiaa
open Go.RowKit
set_option linter.unusedVariables false
attribute [local go_sem ↓] Go.wp_at_zero Go.wp_at_succ

theorem bool_eqT : (true == true) = true := rfl

set_option maxRecDepth 100000 in
set_option maxHeartbeats 4000000 in
theorem times_yes (w : World) (t : Int) (h0 : -631152000 ≤ t) (h1 : t ≤ 253402300799) :
    Calls Try.prog 3 #[.int .i64 t] w fun e w' => e = .returned (.bool true) ∧ Below w.heap.size w w' := by
  obtain ⟨x, hx⟩ := date_is t h0 h1
  have HX := Lib.hid hx
  clear hx
  obtain ⟨T, HT⟩ : ∃ T, Hid (tagOf x = T) := ⟨_, rfl⟩
  obtain ⟨N, HN⟩ : ∃ N, Hid ((bodyOf x).length = N) := ⟨_, rfl⟩
  have hT : T < 256 := by rw [← HT.out]; unfold tagOf; split <;> omega
  go_enter Try.func3, Try.ntmps3
  go_wp2_with fail
  refine (time_yes _ t h0 h1 x HX.out T N HT.out HN.out).mono ?_
  rintro e w1 ⟨A, c, rfl, hr, hb⟩
  have hbox := Holds.fresh w1 25 #[.int .u8 (T : Int), .slice A N c, .slice none 0 0]
  have hr1 := hr.alloc (Nat.le_refl _) (.cells #[.int .u8 (T : Int), .slice A N c, .slice none 0 0] 25)
  have hbel := hb.alloc hb.size (.cells #[.int .u8 (T : Int), .slice A N c, .slice none 0 0] 25)
  have hszw := hb.size
  clear hb hr
  go_wp2_with fail
  refine (is'_yes _ t h0 h1).mono ?_
  rintro e w2 ⟨rfl, rfl⟩
  go_wp2_with fail
  obtain ⟨g, Hg⟩ : ∃ g, Hid (g = w1.heap.size) := ⟨_, rfl⟩
  rw [← Hg.out] at hbox hr1 hszw ⊢
  have hgs : g < (w1.alloc (.cells #[.int .u8 (T : Int), .slice A N c, .slice none 0 0] 25)).heap.size := Holds.lt hbox
  generalize w1.alloc (.cells #[.int .u8 (T : Int), .slice A N c, .slice none 0 0] 25) = W at *
  clear Hg
  have hc := hbox.cell
  have HBX := Lib.hid hbox.drew
  have HR : Hid (Rd .u8 W.drew g A c (bodyOf x)) := Lib.hid hr1
  have HBE := Lib.hid hbel.drew
  clear hbox hr1 hbel
  go_region_law (first
    | (go_simp; go_at_call 10; refine (is_yes _ t h0 h1).mono ?_; rintro e w' ⟨rfl, rfl⟩; go_simp)
    | (go_simp; go_at_call 12; refine (time'_yes _ t h0 h1 x HX.out T N HT.out HN.out).mono ?_; rintro e w2 ⟨A2, c2, rfl, hr2, hb2⟩; have hsz2 := hb2.size; have hbox2 := HBX.out.under hb2 (by simpa using hgs); have hra2 := HR.out.under (hb2.mono (by simp; omega)); have hbel2 := HBE.out.trans (hb2.mono (by simp; omega)); have hc2 := hbox2.cell; have HBX2 := Lib.hid hbox2; clear hb2 hbox2; go_simp)
    | (go_simp; go_at_call 11; refine (same'_all _ g _ A A2 c c2 N T (bodyOf x) HN.out hra2 hr2 (by simp at hsz2; omega) (Nat.le_refl _) (body_oct x)).mono ?_; rintro e w3 ⟨rfl, hb3⟩; go_simp)
    | (go_simp; go_at_call 13; refine (law_date _ t h0 h1).mono ?_; rintro e w4 ⟨rfl, hb4⟩; go_simp))
  all_goals
    have hb24 : Below w2.heap.size w2 w4 := hb3.trans (hb4.mono hb3.size)
    have hg2 : g < w2.heap.size := Holds.lt HBX2.out
    have hbox4 := HBX2.out.under hb24 hg2
    have hr4 := hra2.under (hb24.mono (Nat.le_of_lt hg2))
    have hbel4 := hbel2.trans (hb24.mono hbel2.size)
    have hc4 := hbox4.cell
    have hg4 := Holds.lt hbox4
    clear hbox4 hb24 hb3 hb4 hra2 hr2 hbel2 HBX2 hc2 HBX HR HBE hc
    go_wp2_with fail
    refine (get_any _ T g A c N (bodyOf x) HN.out hr4 (by omega) (body_oct x) hT none 0 0 (by omega)).mono ?_
    rintro e w5 ⟨hp, hb5⟩
    rcases hp with ⟨u, hu, rfl⟩ | ⟨hn, rfl⟩
    case inr => exact absurd ⟨x, h0, h1, HX.out, HT.out.symm, rfl, rfl⟩ (hn t)
    obtain rfl := IsTime.one hu ⟨x, h0, h1, HX.out, HT.out.symm, rfl, rfl⟩
    have hbel5 := hbel4.trans (hb5.mono hbel4.size)
    clear hu hb5 hbel4 hc4 hr4
    go_wp2_with fail
    refine (known_any _).mono ?_
    rintro e w6 ⟨rfl, hb6⟩
    go_wp2_with fail
    go_ret
    exact ⟨rfl, hbel5.trans (hb6.mono hbel5.size)⟩
end Go.Proofs.Ytjhpibbhkdjeiaa
