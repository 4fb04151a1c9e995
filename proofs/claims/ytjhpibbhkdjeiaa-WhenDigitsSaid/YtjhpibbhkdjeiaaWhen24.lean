/-
  The law of digits, walked.
-/
import Derived.Test.YtjhpibbhkdjeiaaWhen23
namespace Go.Proofs.Ytjhpibbhkdjeiaa
open Go.RowKit
set_option linter.unusedVariables false
attribute [local go_sem ↓] Go.wp_at_zero Go.wp_at_succ

set_option maxRecDepth 100000 in
set_option maxHeartbeats 8000000 in
theorem digits_other (w : World) (y m d h i s : Nat) (hy : y ≤ 9999) (hm : m ≤ 99) (hd : d ≤ 99) (hh : h ≤ 99) (hi : i ≤ 99) (hs : s ≤ 99) (hl : y < 1950 ∨ 2050 ≤ y) :
    Calls Try.prog 5 #[.int .i64 y, .int .i64 m, .int .i64 d, .int .i64 h, .int .i64 i, .int .i64 s] w fun e w' => e = .returned (.bool true) ∧ Below w.heap.size w w' := by
  have hoc15 : Oct8 ([48 + y / 1000, 48 + y / 100 % 10] ++ D13 y m d h i s) := by
    intro x hx
    rcases List.mem_append.1 hx with h' | h'
    · simp at h'; omega
    · exact D13_oct y m d h i s hm hd hh hi hs x h'
  have HOC := Lib.hid hoc15
  have HDS := Lib.hid (fun t ht => digits_long (y := y) hy hm hd hh hi hs (t := t) ht)
  have HH : Hid (Holds (((w.alloc (.cells #[.int .u8 (48 + (y : Int) / 10 % 10), .int .u8 (48 + (y : Int) % 10), .int .u8 (48 + (m : Int) / 10), .int .u8 (48 + (m : Int) % 10), .int .u8 (48 + (d : Int) / 10), .int .u8 (48 + (d : Int) % 10), .int .u8 (48 + (h : Int) / 10), .int .u8 (48 + (h : Int) % 10), .int .u8 (48 + (i : Int) / 10), .int .u8 (48 + (i : Int) % 10), .int .u8 (48 + (s : Int) / 10), .int .u8 (48 + (s : Int) % 10), .int .u8 90] 5)).alloc (.cells #[.int .u8 23, .slice (some ⟨w.heap.size, 0, none⟩) 13 13, .slice none 0 0] 25)).alloc (.cells #[.int .u8 (48 + (y : Int) / 1000), .int .u8 (48 + (y : Int) / 100 % 10)] 5)) w.heap.size 5 (nums .u8 (D13 y m d h i s))) := Lib.hid (((Holds.fresh w 5 (nums .u8 (D13 y m d h i s))).alloc _).alloc _)
  have HN : Hid (Holds (((w.alloc (.cells #[.int .u8 (48 + (y : Int) / 10 % 10), .int .u8 (48 + (y : Int) % 10), .int .u8 (48 + (m : Int) / 10), .int .u8 (48 + (m : Int) % 10), .int .u8 (48 + (d : Int) / 10), .int .u8 (48 + (d : Int) % 10), .int .u8 (48 + (h : Int) / 10), .int .u8 (48 + (h : Int) % 10), .int .u8 (48 + (i : Int) / 10), .int .u8 (48 + (i : Int) % 10), .int .u8 (48 + (s : Int) / 10), .int .u8 (48 + (s : Int) % 10), .int .u8 90] 5)).alloc (.cells #[.int .u8 23, .slice (some ⟨w.heap.size, 0, none⟩) 13 13, .slice none 0 0] 25)).alloc (.cells #[.int .u8 (48 + (y : Int) / 1000), .int .u8 (48 + (y : Int) / 100 % 10)] 5)) (w.heap.size + 1) 25 #[.int .u8 23, .slice (some ⟨w.heap.size, 0, none⟩) 13 13, .slice none 0 0]) := Lib.hid ((by simpa using Holds.fresh (w.alloc (.cells #[.int .u8 (48 + (y : Int) / 10 % 10), .int .u8 (48 + (y : Int) % 10), .int .u8 (48 + (m : Int) / 10), .int .u8 (48 + (m : Int) % 10), .int .u8 (48 + (d : Int) / 10), .int .u8 (48 + (d : Int) % 10), .int .u8 (48 + (h : Int) / 10), .int .u8 (48 + (h : Int) % 10), .int .u8 (48 + (i : Int) / 10), .int .u8 (48 + (i : Int) % 10), .int .u8 (48 + (s : Int) / 10), .int .u8 (48 + (s : Int) % 10), .int .u8 90] 5)) 25 #[.int .u8 23, .slice (some ⟨w.heap.size, 0, none⟩) 13 13, .slice none 0 0] : Holds ((w.alloc (.cells #[.int .u8 (48 + (y : Int) / 10 % 10), .int .u8 (48 + (y : Int) % 10), .int .u8 (48 + (m : Int) / 10), .int .u8 (48 + (m : Int) % 10), .int .u8 (48 + (d : Int) / 10), .int .u8 (48 + (d : Int) % 10), .int .u8 (48 + (h : Int) / 10), .int .u8 (48 + (h : Int) % 10), .int .u8 (48 + (i : Int) / 10), .int .u8 (48 + (i : Int) % 10), .int .u8 (48 + (s : Int) / 10), .int .u8 (48 + (s : Int) % 10), .int .u8 90] 5)).alloc (.cells #[.int .u8 23, .slice (some ⟨w.heap.size, 0, none⟩) 13 13, .slice none 0 0] 25)) (w.heap.size + 1) 25 #[.int .u8 23, .slice (some ⟨w.heap.size, 0, none⟩) 13 13, .slice none 0 0]).alloc _)
  have HO : Hid (Own .u8 5 (((w.alloc (.cells #[.int .u8 (48 + (y : Int) / 10 % 10), .int .u8 (48 + (y : Int) % 10), .int .u8 (48 + (m : Int) / 10), .int .u8 (48 + (m : Int) % 10), .int .u8 (48 + (d : Int) / 10), .int .u8 (48 + (d : Int) % 10), .int .u8 (48 + (h : Int) / 10), .int .u8 (48 + (h : Int) % 10), .int .u8 (48 + (i : Int) / 10), .int .u8 (48 + (i : Int) % 10), .int .u8 (48 + (s : Int) / 10), .int .u8 (48 + (s : Int) % 10), .int .u8 90] 5)).alloc (.cells #[.int .u8 23, .slice (some ⟨w.heap.size, 0, none⟩) 13 13, .slice none 0 0] 25)).alloc (.cells #[.int .u8 (48 + (y : Int) / 1000), .int .u8 (48 + (y : Int) / 100 % 10)] 5)) (w.heap.size + 2) (some ⟨w.heap.size + 2, 0, none⟩) 2 [48 + y / 1000, 48 + y / 100 % 10]) := Lib.hid (Own.of_row (l := [48 + y / 1000, 48 + y / 100 % 10]) (Nat.le_refl _) (by simp) (by
    have hf := Holds.fresh ((w.alloc (.cells #[.int .u8 (48 + (y : Int) / 10 % 10), .int .u8 (48 + (y : Int) % 10), .int .u8 (48 + (m : Int) / 10), .int .u8 (48 + (m : Int) % 10), .int .u8 (48 + (d : Int) / 10), .int .u8 (48 + (d : Int) % 10), .int .u8 (48 + (h : Int) / 10), .int .u8 (48 + (h : Int) % 10), .int .u8 (48 + (i : Int) / 10), .int .u8 (48 + (i : Int) % 10), .int .u8 (48 + (s : Int) / 10), .int .u8 (48 + (s : Int) % 10), .int .u8 90] 5)).alloc (.cells #[.int .u8 23, .slice (some ⟨w.heap.size, 0, none⟩) 13 13, .slice none 0 0] 25)) 5 (nums .u8 [48 + y / 1000, 48 + y / 100 % 10])
    rw [show ((w.alloc (.cells #[.int .u8 (48 + (y : Int) / 10 % 10), .int .u8 (48 + (y : Int) % 10), .int .u8 (48 + (m : Int) / 10), .int .u8 (48 + (m : Int) % 10), .int .u8 (48 + (d : Int) / 10), .int .u8 (48 + (d : Int) % 10), .int .u8 (48 + (h : Int) / 10), .int .u8 (48 + (h : Int) % 10), .int .u8 (48 + (i : Int) / 10), .int .u8 (48 + (i : Int) % 10), .int .u8 (48 + (s : Int) / 10), .int .u8 (48 + (s : Int) % 10), .int .u8 90] 5)).alloc (.cells #[.int .u8 23, .slice (some ⟨w.heap.size, 0, none⟩) 13 13, .slice none 0 0] 25)).heap.size = w.heap.size + 2 by simp] at hf
    exact hf))
  have HB : Hid (Below w.heap.size w (((w.alloc (.cells #[.int .u8 (48 + (y : Int) / 10 % 10), .int .u8 (48 + (y : Int) % 10), .int .u8 (48 + (m : Int) / 10), .int .u8 (48 + (m : Int) % 10), .int .u8 (48 + (d : Int) / 10), .int .u8 (48 + (d : Int) % 10), .int .u8 (48 + (h : Int) / 10), .int .u8 (48 + (h : Int) % 10), .int .u8 (48 + (i : Int) / 10), .int .u8 (48 + (i : Int) % 10), .int .u8 (48 + (s : Int) / 10), .int .u8 (48 + (s : Int) % 10), .int .u8 90] 5)).alloc (.cells #[.int .u8 23, .slice (some ⟨w.heap.size, 0, none⟩) 13 13, .slice none 0 0] 25)).alloc (.cells #[.int .u8 (48 + (y : Int) / 1000), .int .u8 (48 + (y : Int) / 100 % 10)] 5))) := Lib.hid ((((Below.refl _ _).alloc (Nat.le_refl _) _).alloc (by simp) _).alloc (by simp; omega) _)
  clear hoc15
  rcases hl with hl | hl
  all_goals
    go_enter Try.func5, Try.ntmps5
    go_wp2_with (with_reducible refine wpList_push _ rfl (.tmp 132) (.tmp 133) 22 rfl .u8 (w.heap.size + 2) 5 1 Try.underlying22 info_u8 (some ⟨w.heap.size + 2, 0, none⟩) 2 2 [48 + y / 1000, 48 + y / 100 % 10] rfl rfl HO.out w.heap.size 13 13 (D13 y m d h i s) rfl rfl HH.out (by omega) (by omega) (by omega) (by simp) ?_)
    intro g' c' w2 hown hgr hat
    have hn2 := Holds.grown HN.out hgr (by simp [blockOf])
    have hgb := (hown.block (g := g') rfl).1
    have hbw : Below w.heap.size w w2 := HB.out.trans ⟨hgr.os, hgr.tape, hgr.output, hgr.size, fun k hk => hgr.block k (by simp; omega) (by simp [blockOf]; omega)⟩
    have hne : blockOf (some (⟨g', 0, none⟩ : Addr)) ≠ some (w.heap.size + 1) := by
      intro e
      have e' : g' = w.heap.size + 1 := by simpa [blockOf] using e
      omega
    have hn3 : Holds (((w2.setCell ⟨w.heap.size + 1, 0, none⟩ (.int .u8 24)).setCell ⟨w.heap.size + 1, 1, none⟩ (.slice (some ⟨g', 0, none⟩) 15 c')).setCell ⟨w.heap.size + 1, 2, none⟩ (.slice none 0 0)) (w.heap.size + 1) 25 #[.int .u8 24, .slice (some ⟨g', 0, none⟩) 15 c', .slice none 0 0] := ((hn2.stored 0 _).stored 1 _).stored 2 _
    have ho3 : Own .u8 5 (((w2.setCell ⟨w.heap.size + 1, 0, none⟩ (.int .u8 24)).setCell ⟨w.heap.size + 1, 1, none⟩ (.slice (some ⟨g', 0, none⟩) 15 c')).setCell ⟨w.heap.size + 1, 2, none⟩ (.slice none 0 0)) (w.heap.size + 2) (some ⟨g', 0, none⟩) c' ([48 + y / 1000, 48 + y / 100 % 10] ++ D13 y m d h i s) := ((Own.aside (l := [48 + y / 1000, 48 + y / 100 % 10] ++ D13 y m d h i s) hown hne _).aside hne _).aside hne _
    have hb3 : Below w.heap.size w (((w2.setCell ⟨w.heap.size + 1, 0, none⟩ (.int .u8 24)).setCell ⟨w.heap.size + 1, 1, none⟩ (.slice (some ⟨g', 0, none⟩) 15 c')).setCell ⟨w.heap.size + 1, 2, none⟩ (.slice none 0 0)) := ((hbw.setCell (by simp) _).setCell (by simp) _).setCell (by simp) _
    have hc := hn2.cell
    have hf := hn2.open_
    clear hown hgr hat HH HO HN HB hn2 hgb hbw hne
    go_wp2_with fail
    clear hc hf
    generalize (((w2.setCell ⟨w.heap.size + 1, 0, none⟩ (.int .u8 24)).setCell ⟨w.heap.size + 1, 1, none⟩ (.slice (some ⟨g', 0, none⟩) 15 c')).setCell ⟨w.heap.size + 1, 2, none⟩ (.slice none 0 0)) = V at *
    have hrb := ho3.rd
    have hbox := hn3
    have hbel := hb3
    have hwz := hb3.size
    have HSZ : Hid (w.heap.size ≤ V.heap.size) := Lib.hid hb3.size
    clear ho3 hn3 hb3
    refine (get_any _ 24 V.heap.size (some ⟨g', 0, none⟩) c' 15 ([48 + y / 1000, 48 + y / 100 % 10] ++ D13 y m d h i s) rfl hrb (Nat.le_refl _) HOC.out (by omega) none 0 0 (by omega)).mono ?_
    rintro e w1 hp
    have hb1 := hp.2
    have hsv := hb1.size
    have hbox1 := hbox.under hb1 (Holds.lt hbox)
    have hr1 := hrb.under hb1
    have hbel1 := hbel.trans (hb1.mono HSZ.out)
    have hsz1 : w.heap.size + 1 < w1.heap.size := Holds.lt hbox1
    have hc1 := hbox1.cell
    have HP := Lib.hid hp
    rcases hp with ⟨⟨t, ht, rfl⟩ | ⟨hn, rfl⟩, _⟩
    · obtain ⟨hdt, ht0, ht1⟩ := HDS.out t ht
      have Hd := fun W => date'_yes W t ht0 ht1 _ hdt
      unfold Parts6.vals at Hd
      have HD := Lib.hid Hd
      clear Hd hdt ht hb1 hbox hrb hbel
      go_wp2_with fail
      refine (get'_any _ 24 V.heap.size (some ⟨g', 0, none⟩) c' 15 ([48 + y / 1000, 48 + y / 100 % 10] ++ D13 y m d h i s) rfl hr1 hsv HOC.out (by omega) none 0 0 (by omega) (by omega)).mono ?_
      rintro e w2 hp2
      have he := GetPost.one hp2 HP.out
      subst he
      have hbel2 := hbel1.trans (hp2.2.mono hbel1.size)
      clear hp2 hbel1 hc1 hr1 HP
      go_wp2_with fail
      refine (HD.out _).mono ?_
      rintro e w3 ⟨rfl, hb3⟩
      have hbel3 := hbel2.trans (hb3.mono hbel2.size)
      have g6 := guard6
      have h6 := eq6
      clear hb3 hbel2
      go_wp2_with fail
      refine (known_any _).mono ?_
      rintro e w4 ⟨rfl, hb4⟩
      clear g6 h6
      go_wp2_with fail
      go_ret
      exact ⟨rfl, hbel3.trans (hb4.mono hbel3.size)⟩
    · clear hn hb1 hbox hrb hbel
      go_wp2_with fail
      refine (get'_any _ 24 V.heap.size (some ⟨g', 0, none⟩) c' 15 ([48 + y / 1000, 48 + y / 100 % 10] ++ D13 y m d h i s) rfl hr1 hsv HOC.out (by omega) none 0 0 (by omega) (by omega)).mono ?_
      rintro e w2 hp2
      have he := GetPost.one hp2 HP.out
      subst he
      have hbel2 := hbel1.trans (hp2.2.mono hbel1.size)
      clear hp2 hbel1 hc1 hr1 HP
      go_wp2_with fail
      go_ret
      exact ⟨rfl, hbel2⟩
end Go.Proofs.Ytjhpibbhkdjeiaa
