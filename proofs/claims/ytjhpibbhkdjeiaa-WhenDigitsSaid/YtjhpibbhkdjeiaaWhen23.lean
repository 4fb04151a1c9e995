/-
  The law of digits, walked.
-/
import Derived.Test.YtjhpibbhkdjeiaaWhen22
namespace Go.Proofs.Ytjhpibbhkdjeiaa
open Go.RowKit
set_option linter.unusedVariables false
attribute [local go_sem ↓] Go.wp_at_zero Go.wp_at_succ

set_option maxRecDepth 100000 in
set_option maxHeartbeats 4000000 in
theorem digits_yes (w : World) (y m d h i s : Nat) (hy : y ≤ 9999) (hm : m ≤ 99) (hd : d ≤ 99) (hh : h ≤ 99) (hi : i ≤ 99) (hs : s ≤ 99) (hs1 : 1950 ≤ y) (hs2 : y < 2050) :
    Calls Try.prog 5 #[.int .i64 y, .int .i64 m, .int .i64 d, .int .i64 h, .int .i64 i, .int .i64 s] w fun e w' => e = .returned (.bool true) ∧ Below w.heap.size w w' := by
  have HH : Hid (Holds (w.alloc (.cells #[.int .u8 (48 + (y : Int) / 10 % 10), .int .u8 (48 + (y : Int) % 10), .int .u8 (48 + (m : Int) / 10), .int .u8 (48 + (m : Int) % 10), .int .u8 (48 + (d : Int) / 10), .int .u8 (48 + (d : Int) % 10), .int .u8 (48 + (h : Int) / 10), .int .u8 (48 + (h : Int) % 10), .int .u8 (48 + (i : Int) / 10), .int .u8 (48 + (i : Int) % 10), .int .u8 (48 + (s : Int) / 10), .int .u8 (48 + (s : Int) % 10), .int .u8 90] 5)) w.heap.size 5 (nums .u8 (D13 y m d h i s))) := Lib.hid (Holds.fresh w 5 (nums .u8 (D13 y m d h i s)))
  have HOC := Lib.hid (D13_oct y m d h i s hm hd hh hi hs)
  have HDS := Lib.hid (fun t ht => digits_short (y := y) hm hd hh hi hs hs1 hs2 (t := t) ht)
  have hbel : Below w.heap.size w (w.alloc (.cells #[.int .u8 (48 + (y : Int) / 10 % 10), .int .u8 (48 + (y : Int) % 10), .int .u8 (48 + (m : Int) / 10), .int .u8 (48 + (m : Int) % 10), .int .u8 (48 + (d : Int) / 10), .int .u8 (48 + (d : Int) % 10), .int .u8 (48 + (h : Int) / 10), .int .u8 (48 + (h : Int) % 10), .int .u8 (48 + (i : Int) / 10), .int .u8 (48 + (i : Int) % 10), .int .u8 (48 + (s : Int) / 10), .int .u8 (48 + (s : Int) % 10), .int .u8 90] 5)) := (Below.refl _ _).alloc (Nat.le_refl _) _
  have hrb0 : Rd .u8 (w.alloc (.cells #[.int .u8 (48 + (y : Int) / 10 % 10), .int .u8 (48 + (y : Int) % 10), .int .u8 (48 + (m : Int) / 10), .int .u8 (48 + (m : Int) % 10), .int .u8 (48 + (d : Int) / 10), .int .u8 (48 + (d : Int) % 10), .int .u8 (48 + (h : Int) / 10), .int .u8 (48 + (h : Int) % 10), .int .u8 (48 + (i : Int) / 10), .int .u8 (48 + (i : Int) % 10), .int .u8 (48 + (s : Int) / 10), .int .u8 (48 + (s : Int) % 10), .int .u8 90] 5)) (w.heap.size + 1) (some ⟨w.heap.size, 0, none⟩) 13 (D13 y m d h i s) := by
    have := Row.rd (l := D13 y m d h i s) HH.out (n := 13) (c := 13) (Nat.le_refl _) (Nat.le_refl _) (by omega)
    exact this
  have hwz : (w.alloc (.cells #[.int .u8 (48 + (y : Int) / 10 % 10), .int .u8 (48 + (y : Int) % 10), .int .u8 (48 + (m : Int) / 10), .int .u8 (48 + (m : Int) % 10), .int .u8 (48 + (d : Int) / 10), .int .u8 (48 + (d : Int) % 10), .int .u8 (48 + (h : Int) / 10), .int .u8 (48 + (h : Int) % 10), .int .u8 (48 + (i : Int) / 10), .int .u8 (48 + (i : Int) % 10), .int .u8 (48 + (s : Int) / 10), .int .u8 (48 + (s : Int) % 10), .int .u8 90] 5)).heap.size = w.heap.size + 1 := by simp
  go_enter Try.func5, Try.ntmps5
  go_wp2_with fail
  generalize w.alloc (.cells #[.int .u8 (48 + (y : Int) / 10 % 10), .int .u8 (48 + (y : Int) % 10), .int .u8 (48 + (m : Int) / 10), .int .u8 (48 + (m : Int) % 10), .int .u8 (48 + (d : Int) / 10), .int .u8 (48 + (d : Int) % 10), .int .u8 (48 + (h : Int) / 10), .int .u8 (48 + (h : Int) % 10), .int .u8 (48 + (i : Int) / 10), .int .u8 (48 + (i : Int) % 10), .int .u8 (48 + (s : Int) / 10), .int .u8 (48 + (s : Int) % 10), .int .u8 90] 5) = V at *
  have hbox : Holds (V.alloc (.cells #[.int .u8 23, .slice (some ⟨w.heap.size, 0, none⟩) 13 13, .slice none 0 0] 25)) (w.heap.size + 1) 25 #[.int .u8 23, .slice (some ⟨w.heap.size, 0, none⟩) 13 13, .slice none 0 0] := by rw [← hwz]; exact Holds.fresh V _ _
  have hrb := (hrb0.more (B' := V.heap.size) (by omega)).alloc (Nat.le_refl _) (.cells #[.int .u8 23, .slice (some ⟨w.heap.size, 0, none⟩) 13 13, .slice none 0 0] 25)
  have hbel := hbel.alloc hbel.size (.cells #[.int .u8 23, .slice (some ⟨w.heap.size, 0, none⟩) 13 13, .slice none 0 0] 25)
  have HSZ : Hid (w.heap.size ≤ (V.alloc (.cells #[.int .u8 23, .slice (some ⟨w.heap.size, 0, none⟩) 13 13, .slice none 0 0] 25)).heap.size) := Lib.hid hbel.size
  clear hrb0 HH
  refine (get_any _ 23 V.heap.size (some ⟨w.heap.size, 0, none⟩) 13 13 (D13 y m d h i s) rfl hrb (by simp) HOC.out (by omega) none 0 0 (by omega)).mono ?_
  rintro e w1 hp
  have hb1 := hp.2
  have hbox1 := hbox.under hb1 (by simp; omega)
  have hr1 := hrb.under (hb1.mono (by simp))
  have hbel1 := hbel.trans (hb1.mono HSZ.out)
  have hsz1 : w.heap.size + 1 < w1.heap.size := Holds.lt hbox1
  have hc1 := hbox1.cell
  have HP := Lib.hid hp
  rcases hp with ⟨⟨t, ht, rfl⟩ | ⟨hn, rfl⟩, _⟩
  · obtain ⟨hdt, ht0, ht1⟩ := HDS.out t ht
    have Hd := fun W => date'_yes W t ht0 ht1 _ hdt
    unfold Parts6.vals at Hd
    have HD := Lib.hid Hd
    clear Hd hdt ht hb1 hbox hrb hbel
    go_wp2_with fail
    refine (get'_any _ 23 V.heap.size (some ⟨w.heap.size, 0, none⟩) 13 13 (D13 y m d h i s) rfl hr1 (by omega) HOC.out (by omega) none 0 0 (by omega) (by omega)).mono ?_
    rintro e w2 hp2
    have he := GetPost.one hp2 HP.out
    subst he
    have hbel2 := hbel1.trans (hp2.2.mono hbel1.size)
    clear hp2 hbel1 hc1 hr1 HP
    go_wp2_with fail
    refine (HD.out _).mono ?_
    rintro e w3 ⟨rfl, hb3⟩
    have hbel3 := hbel2.trans (hb3.mono hbel2.size)
    have g6 := guard6
    have h6 := eq6
    clear hb3 hbel2
    go_wp2_with fail
    refine (known_any _).mono ?_
    rintro e w4 ⟨rfl, hb4⟩
    clear g6 h6
    go_wp2_with fail
    go_ret
    exact ⟨rfl, hbel3.trans (hb4.mono hbel3.size)⟩
  · clear hn hb1 hbox hrb hbel
    go_wp2_with fail
    refine (get'_any _ 23 V.heap.size (some ⟨w.heap.size, 0, none⟩) 13 13 (D13 y m d h i s) rfl hr1 (by omega) HOC.out (by omega) none 0 0 (by omega) (by omega)).mono ?_
    rintro e w2 hp2
    have he := GetPost.one hp2 HP.out
    subst he
    have hbel2 := hbel1.trans (hp2.2.mono hbel1.size)
    clear hp2 hbel1 hc1 hr1 HP
    go_wp2_with fail
    go_ret
    exact ⟨rfl, hbel2⟩
end Go.Proofs.Ytjhpibbhkdjeiaa
