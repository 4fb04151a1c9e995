/-
  The law: any thing as a time, or none.
-/
import Derived.Test.YtjhpibbhkdjeiaaWhen20
namespace Go.Proofs.Ytjhpibbhkdjeiaa
open Go.RowKit
set_option linter.unusedVariables false

set_option maxRecDepth 100000 in
set_option maxHeartbeats 2000000 in
theorem law_gets (w : World) (tag : Nat) (A : Option Addr) (c n : Nat) (b : List Nat) (hn : b.length = n) (hr : Rd .u8 w w.heap.size A c b) (ho : Oct8 b) (ht : tag < 256) (K : Option Addr) (nk kc : Nat) :
    Calls Try.prog 4 #[.agg #[.int .u8 tag, .slice A n c, .slice K nk kc]] w fun e w' => e = .returned (.bool true) ∧ Below w.heap.size w w' := by
  have hbel : Below w.heap.size w (w.alloc (.cells #[.int .u8 tag, .slice A n c, .slice K nk kc] 25)) := (Below.refl _ _).alloc (Nat.le_refl _) _
  by_cases h100 : n ≤ 100
  · by_cases h5 : nk ≤ 5
    · have q1 : decide ((100 : Int) < (n : Int)) = false := decide_eq_false (by omega)
      have q1' : decide (100 < n) = false := decide_eq_false (by omega)
      have q2 : decide ((5 : Int) < (nk : Int)) = false := decide_eq_false (by omega)
      have q2' : decide (5 < nk) = false := decide_eq_false (by omega)
      have HN := Lib.hid hn
      have hrb : Rd .u8 (w.alloc (.cells #[.int .u8 tag, .slice A n c, .slice K nk kc] 25)) w.heap.size A c b := hr.alloc (Nat.le_refl _) _
      have hbox := Holds.fresh w 25 #[.int .u8 tag, .slice A n c, .slice K nk kc]
      clear hn hr
      go_enter Try.func4, Try.ntmps4
      go_wp2_with fail
      refine (get_any _ tag w.heap.size A c n b HN.out hrb (by simp) ho ht K nk kc (by omega)).mono ?_
      rintro e w1 hp
      have hb1 := hp.2
      have hbox1 := hbox.under hb1 (by simp)
      have hr1 := hrb.under (hb1.mono (by simp))
      have hbel1 := hbel.trans (hb1.mono (by simp))
      have hsz1 : w.heap.size < w1.heap.size := Holds.lt hbox1
      obtain ⟨v, ok, rfl⟩ : ∃ (v : Int) (ok : Bool), e = .returned (.tuple #[.int .i64 v, .bool ok]) := by
        obtain ⟨⟨t, _, rfl⟩ | ⟨_, rfl⟩, _⟩ := hp
        · exact ⟨_, _, rfl⟩
        · exact ⟨_, _, rfl⟩
      have HP := Lib.hid hp
      have hc1 := hbox1.cell
      clear hp hb1 hbox hrb hbel
      go_wp2_with fail
      refine (get'_any _ tag w.heap.size A c n b HN.out hr1 (by omega) ho ht K nk kc (by omega) (by omega)).mono ?_
      rintro e w2 hp2
      have he := GetPost.one hp2 HP.out
      subst he
      have hb2 := hp2.2
      have hbel2 := hbel1.trans (hb2.mono hbel1.size)
      clear hp2 hb2 hbel1 hc1 hr1
      go_wp2_with fail
      refine (known_any _).mono ?_
      rintro e w3 ⟨rfl, hb3⟩
      go_wp2_with fail
      go_ret
      exact ⟨rfl, hbel2.trans (hb3.mono hbel2.size)⟩
    · have q1 : decide ((100 : Int) < (n : Int)) = false := decide_eq_false (by omega)
      have q1' : decide (100 < n) = false := decide_eq_false (by omega)
      have q2 : decide ((5 : Int) < (nk : Int)) = true := decide_eq_true (by omega)
      have q2' : decide (5 < nk) = true := decide_eq_true (by omega)
      have q2'' : 5 < nk := by omega
      clear hn h5
      go_enter Try.func4, Try.ntmps4
      go_wp2_with fail
      go_ret
      exact ⟨rfl, hbel⟩
  · have q1 : decide ((100 : Int) < (n : Int)) = true := decide_eq_true (by omega)
    have q1' : decide (100 < n) = true := decide_eq_true (by omega)
    have q1'' : 100 < n := by omega
    clear hn h100
    go_enter Try.func4, Try.ntmps4
    go_wp2_with fail
    go_ret
    exact ⟨rfl, hbel⟩
end Go.Proofs.Ytjhpibbhkdjeiaa
