/-
  The laws of paths, walked: through, and known.
-/
import Derived.Test.YtoikkblclmgioaaDoorPt8
namespace Go.Proofs.YtoikkblclmgioaaDoor
open Go.RowKit
set_option linter.unusedVariables false

theorem allOk_perm {l l' : List (List UInt8)} (h : l.Perm l') : AllOk l → AllOk l' := fun ⟨h1, h2, h3⟩ =>
  ⟨fun s hs => h1 s (h.mem_iff.2 hs), h.nodup_iff.1 h2, fun s hs i hi h47 hm => h3 s (h.mem_iff.2 hs) i hi h47 (h.mem_iff.2 hm)⟩
theorem allOk_swap (x y : List UInt8) : AllOk [x, y] ↔ AllOk [y, x] := ⟨allOk_perm (List.Perm.swap y x []), allOk_perm (List.Perm.swap x y [])⟩
theorem thru_two (x y : List UInt8) : ¬ AllOk [x, x ++ 47 :: y] := fun h =>
  h.2.2 (x ++ 47 :: y) (by simp) x.length (by simp) (by simp [List.getD]) (by simp)
theorem allOk_one {x : List UInt8} (h : isP x = true) : AllOk [x] :=
  ⟨fun s hs => by rw [List.mem_singleton.1 hs]; exact h, by simp, fun s hs i hi _ hm => by
    rw [List.mem_singleton.1 hs] at hi hm
    have := congrArg List.length (List.mem_singleton.1 hm)
    rw [List.length_take] at this
    omega⟩
theorem through_all {a b : ByteArray} (ha : isP a.data.toList = true) (hb : isP b.data.toList = true) (hl : a.size + b.size ≤ 31) :
    ¬ AllOk [a.data.toList, (a ++ ⟨#[47]⟩ ++ b).data.toList] ∧ ¬ AllOk [(a ++ ⟨#[47]⟩ ++ b).data.toList, a.data.toList] ∧ ¬ AllOk [a.data.toList, a.data.toList] ∧ AllOk [(a ++ ⟨#[47]⟩ ++ b).data.toList] := by
  have hj : isP (a ++ ⟨#[47]⟩ ++ b).data.toList = true := by rw [joined ha hb]; simp; omega
  have e : (a ++ ⟨#[47]⟩ ++ b).data.toList = a.data.toList ++ 47 :: b.data.toList := by
    rw [app_data, app_data, show ((⟨#[47]⟩ : ByteArray).data.toList) = [47] from rfl, List.append_assoc]; rfl
  refine ⟨?_, ?_, fun h => ?_, allOk_one hj⟩
  · rw [e]; exact thru_two _ _
  · rw [e, allOk_swap]; exact thru_two _ _
  · have := h.2.1
    simp at this

set_option maxRecDepth 100000 in
set_option maxHeartbeats 2000000 in
theorem law_through_yes (w : World) (a b : ByteArray) (ha : isP a.data.toList = true) (hb : isP b.data.toList = true) (hl : a.size + b.size ≤ 31) (hm : Big w) :
    Calls Tryd.prog 5 #[.string a, .string b] w fun e w' => e = .returned (.bool true) ∧ Below w.heap.size w w' := by
  have haz' := isP_size ha
  have hbz' := isP_size hb
  have haz : a.size ≤ 9223372036854775807 := by omega
  have hbz : b.size ≤ 9223372036854775807 := by omega
  have hcz : (a ++ ⟨#[47]⟩ ++ b).size ≤ 9223372036854775807 := cat_size haz' (by decide) hbz'
  have HA := Lib.hid ha
  have HB := Lib.hid hb
  have HK := Lib.hid (through_all ha hb hl)
  obtain ⟨v, hv⟩ := said (AllOk [a.data.toList, b.data.toList])
  have HV := Lib.hid hv
  have HV2 := Lib.hid (hv.trans (allOk_swap a.data.toList b.data.toList))
  clear ha hb hv
  go_enter Tryd.func5, Tryd.ntmps5
  go_wp2_with fail
  refine (is'_as w a true HA.out haz).mono ?_
  rintro e wq ⟨rfl, rfl⟩
  go_wp2_with fail
  refine (is'_as w b true HB.out hbz).mono ?_
  rintro e wq ⟨rfl, rfl⟩
  go_wp2_with fail
  have hc := all_two w a (a ++ ⟨#[47]⟩ ++ b) false ⟨(fun e => by cases e), fun h => absurd h HK.out.1⟩ haz hcz hm
  refine (hc).mono ?_
  rintro e w1 ⟨rfl, hb1, hm1⟩
  have hbel1 := hb1
  clear hm
  clear hc
  go_wp2_with fail
  have hc := all_two w1 (a ++ ⟨#[47]⟩ ++ b) a false ⟨(fun e => by cases e), fun h => absurd h HK.out.2.1⟩ hcz haz hm1
  refine (hc).mono ?_
  rintro e w2 ⟨rfl, hb2, hm2⟩
  have hbel2 := hbel1.trans (hb2.mono hbel1.size)
  clear hbel1 hb2 hm1
  clear hc
  go_wp2_with fail
  have hc := all_two w2 a a false ⟨(fun e => by cases e), fun h => absurd h HK.out.2.2.1⟩ haz haz hm2
  refine (hc).mono ?_
  rintro e w3 ⟨rfl, hb3, hm3⟩
  have hbel3 := hbel2.trans (hb3.mono hbel2.size)
  clear hbel2 hb3 hm2
  clear hc
  go_wp2_with fail
  have hc := all_one w3 (a ++ ⟨#[47]⟩ ++ b) true ⟨fun _ => HK.out.2.2.2, fun _ => rfl⟩ hcz hm3
  refine (hc).mono ?_
  rintro e w4 ⟨rfl, hb4, hm4⟩
  have hbel4 := hbel3.trans (hb4.mono hbel3.size)
  clear hbel3 hb4 hm3
  clear hc
  go_wp2_with fail
  have hc := all_two w4 a b v HV.out haz hbz hm4
  refine (hc).mono ?_
  rintro e w5 ⟨rfl, hb5, hm5⟩
  have hbel5 := hbel4.trans (hb5.mono hbel4.size)
  clear hbel4 hb5 hm4
  clear hc
  go_wp2_with fail
  have hc := all_two w5 b a v HV2.out hbz haz hm5
  refine (hc).mono ?_
  rintro e w6 ⟨rfl, hb6, hm6⟩
  have hbel6 := hbel5.trans (hb6.mono hbel5.size)
  clear hbel5 hb6 hm5
  clear hc
  go_wp2_with fail
  have hc := all_two w6 a b v HV.out haz hbz hm6
  refine (hc).mono ?_
  rintro e w7 ⟨rfl, hb7, hm7⟩
  have hbel7 := hbel6.trans (hb7.mono hbel6.size)
  clear hbel6 hb7 hm6
  clear hc
  go_wp2_with fail
  have hc := all'_two w7 a b v HV.out haz hbz hm7
  refine (hc).mono ?_
  rintro e w8 ⟨rfl, hb8, hm8⟩
  have hbel8 := hbel7.trans (hb8.mono hbel7.size)
  clear hbel7 hb8 hm7
  clear hc
  go_wp2_with fail
  refine (known21_any w8 hm8).mono ?_
  rintro e wk ⟨rfl, hbk⟩
  go_wp2_with fail
  go_ret
  exact ⟨rfl, hbel8.trans (hbk.mono hbel8.size)⟩

set_option maxRecDepth 100000 in
theorem law_through (w : World) (a b : ByteArray) (haz : a.size ≤ 9223372036854775807) (hbz : b.size ≤ 9223372036854775807) (hm : Big w) :
    Calls Tryd.prog 5 #[.string a, .string b] w fun e w' => e = .returned (.bool true) ∧ Below w.heap.size w w' := by
  rcases ha : isP a.data.toList with _ | _
  · have HA := Lib.hid ha
    clear ha
    go_enter Tryd.func5, Tryd.ntmps5
    go_wp2_with fail
    refine (is'_as w a false HA.out haz).mono ?_
    rintro e wq ⟨rfl, rfl⟩
    go_wp2_with fail
    go_ret
    exact ⟨rfl, Below.refl _ _⟩
  rcases hb : isP b.data.toList with _ | _
  · have HA := Lib.hid ha
    have HB := Lib.hid hb
    clear ha hb
    go_enter Tryd.func5, Tryd.ntmps5
    go_wp2_with fail
    refine (is'_as w a true HA.out haz).mono ?_
    rintro e wq ⟨rfl, rfl⟩
    go_wp2_with fail
    refine (is'_as w b false HB.out hbz).mono ?_
    rintro e wq ⟨rfl, rfl⟩
    go_wp2_with fail
    go_ret
    exact ⟨rfl, Below.refl _ _⟩
  by_cases hl : a.size + b.size ≤ 31
  · exact law_through_yes w a b ha hb hl hm
  · have HA := Lib.hid ha
    have HB := Lib.hid hb
    have haz' := isP_size ha
    have hbz' := isP_size hb
    have hlong : decide ((31 : Int) < (a.size : Int) + (b.size : Int)) = true := decide_eq_true (by omega)
    clear ha hb
    go_enter Tryd.func5, Tryd.ntmps5
    go_wp2_with fail
    refine (is'_as w a true HA.out haz).mono ?_
    rintro e wq ⟨rfl, rfl⟩
    go_wp2_with fail
    refine (is'_as w b true HB.out hbz).mono ?_
    rintro e wq ⟨rfl, rfl⟩
    go_wp2_with fail
    go_ret
    exact ⟨rfl, Below.refl _ _⟩

/-- Texts that are no path. -/
def odd : List ByteArray := [⟨#[]⟩, ⟨#[47]⟩, ⟨#[97, 47]⟩, ⟨#[47, 97]⟩, ⟨#[97, 47, 47, 98]⟩, ⟨#[46]⟩, ⟨#[46, 46]⟩, ⟨#[97, 47, 46]⟩, ⟨#[97, 47, 46, 46]⟩, ⟨#[65]⟩, ⟨#[97, 32, 98]⟩, ⟨#[97, 92, 98]⟩, ⟨#[195, 169]⟩, ⟨#[97, 98, 99, 100, 101, 102, 103, 104, 105, 106, 107, 108, 109, 110, 111, 112, 113, 114, 115, 116, 117]⟩, ⟨#[97, 47, 98, 47, 99, 47, 100, 47, 101, 47, 102, 47, 103, 47, 104, 47, 105, 47, 106, 47, 107, 47, 108, 47, 109, 47, 110, 47, 111, 47, 112, 47, 113]⟩, ⟨#[97, 0]⟩]
theorem odd_not : ∀ k, k < 16 → isP (odd.getD k ByteArray.empty).data.toList = false := by decide
theorem odd_size : ∀ k, k < 16 → (odd.getD k ByteArray.empty).size ≤ 9223372036854775807 := by decide

set_option maxRecDepth 100000 in
set_option maxHeartbeats 2000000 in
theorem law_known (w : World) (way : Int) (hm : Big w) :
    Calls Tryd.prog 6 #[.int .i64 way] w fun e w' => e = .returned (.bool true) ∧ Below w.heap.size w w' := by
  have hbel0 : Below w.heap.size w (w.alloc (.cells #[.string ⟨#[]⟩, .string ⟨#[47]⟩, .string ⟨#[97, 47]⟩, .string ⟨#[47, 97]⟩, .string ⟨#[97, 47, 47, 98]⟩, .string ⟨#[46]⟩, .string ⟨#[46, 46]⟩, .string ⟨#[97, 47, 46]⟩, .string ⟨#[97, 47, 46, 46]⟩, .string ⟨#[65]⟩, .string ⟨#[97, 32, 98]⟩, .string ⟨#[97, 92, 98]⟩, .string ⟨#[195, 169]⟩, .string ⟨#[97, 98, 99, 100, 101, 102, 103, 104, 105, 106, 107, 108, 109, 110, 111, 112, 113, 114, 115, 116, 117]⟩, .string ⟨#[97, 47, 98, 47, 99, 47, 100, 47, 101, 47, 102, 47, 103, 47, 104, 47, 105, 47, 106, 47, 107, 47, 108, 47, 109, 47, 110, 47, 111, 47, 112, 47, 113]⟩, .string ⟨#[97, 0]⟩] 9)) := (Below.refl _ _).alloc (Nat.le_refl _) _
  by_cases h1 : way < 0
  · go_enter Tryd.func6, Tryd.ntmps6
    go_wp2_with fail
    go_ret
    exact ⟨rfl, hbel0⟩
  by_cases h2 : 16 ≤ way
  · go_enter Tryd.func6, Tryd.ntmps6
    go_wp2_with fail
    go_ret
    exact ⟨rfl, hbel0⟩
  obtain ⟨k, rfl⟩ : ∃ k : Nat, way = (k : Int) := ⟨way.toNat, by omega⟩
  have hk : k < 16 := by omega
  have hk0 : (0 : Int) ≤ (k : Int) := by omega
  have hk16 : (k : Int) < 16 := by omega
  have hbox := Holds.fresh w 9 #[.string ⟨#[]⟩, .string ⟨#[47]⟩, .string ⟨#[97, 47]⟩, .string ⟨#[47, 97]⟩, .string ⟨#[97, 47, 47, 98]⟩, .string ⟨#[46]⟩, .string ⟨#[46, 46]⟩, .string ⟨#[97, 47, 46]⟩, .string ⟨#[97, 47, 46, 46]⟩, .string ⟨#[65]⟩, .string ⟨#[97, 32, 98]⟩, .string ⟨#[97, 92, 98]⟩, .string ⟨#[195, 169]⟩, .string ⟨#[97, 98, 99, 100, 101, 102, 103, 104, 105, 106, 107, 108, 109, 110, 111, 112, 113, 114, 115, 116, 117]⟩, .string ⟨#[97, 47, 98, 47, 99, 47, 100, 47, 101, 47, 102, 47, 103, 47, 104, 47, 105, 47, 106, 47, 107, 47, 108, 47, 109, 47, 110, 47, 111, 47, 112, 47, 113]⟩, .string ⟨#[97, 0]⟩]
  have hm0 := hm.under hbel0
  have hc0 : (w.alloc (.cells #[.string ⟨#[]⟩, .string ⟨#[47]⟩, .string ⟨#[97, 47]⟩, .string ⟨#[47, 97]⟩, .string ⟨#[97, 47, 47, 98]⟩, .string ⟨#[46]⟩, .string ⟨#[46, 46]⟩, .string ⟨#[97, 47, 46]⟩, .string ⟨#[97, 47, 46, 46]⟩, .string ⟨#[65]⟩, .string ⟨#[97, 32, 98]⟩, .string ⟨#[97, 92, 98]⟩, .string ⟨#[195, 169]⟩, .string ⟨#[97, 98, 99, 100, 101, 102, 103, 104, 105, 106, 107, 108, 109, 110, 111, 112, 113, 114, 115, 116, 117]⟩, .string ⟨#[97, 47, 98, 47, 99, 47, 100, 47, 101, 47, 102, 47, 103, 47, 104, 47, 105, 47, 106, 47, 107, 47, 108, 47, 109, 47, 110, 47, 111, 47, 112, 47, 113]⟩, .string ⟨#[97, 0]⟩] 9)).cell? ⟨w.heap.size, k, none⟩ = some (.string (odd.getD k ByteArray.empty)) := (hbox.cell k).trans (strs_at odd hk)
  have HB := Lib.hid (odd_not k hk)
  have hz := odd_size k hk
  have hlt : w.heap.size < (w.alloc (.cells #[.string ⟨#[]⟩, .string ⟨#[47]⟩, .string ⟨#[97, 47]⟩, .string ⟨#[47, 97]⟩, .string ⟨#[97, 47, 47, 98]⟩, .string ⟨#[46]⟩, .string ⟨#[46, 46]⟩, .string ⟨#[97, 47, 46]⟩, .string ⟨#[97, 47, 46, 46]⟩, .string ⟨#[65]⟩, .string ⟨#[97, 32, 98]⟩, .string ⟨#[97, 92, 98]⟩, .string ⟨#[195, 169]⟩, .string ⟨#[97, 98, 99, 100, 101, 102, 103, 104, 105, 106, 107, 108, 109, 110, 111, 112, 113, 114, 115, 116, 117]⟩, .string ⟨#[97, 47, 98, 47, 99, 47, 100, 47, 101, 47, 102, 47, 103, 47, 104, 47, 105, 47, 106, 47, 107, 47, 108, 47, 109, 47, 110, 47, 111, 47, 112, 47, 113]⟩, .string ⟨#[97, 0]⟩] 9)).heap.size := by simp
  generalize odd.getD k ByteArray.empty = s at *
  clear h1 h2 hm hbox
  go_enter Tryd.func6, Tryd.ntmps6
  go_wp2_with fail
  generalize w.alloc (.cells #[.string ⟨#[]⟩, .string ⟨#[47]⟩, .string ⟨#[97, 47]⟩, .string ⟨#[47, 97]⟩, .string ⟨#[97, 47, 47, 98]⟩, .string ⟨#[46]⟩, .string ⟨#[46, 46]⟩, .string ⟨#[97, 47, 46]⟩, .string ⟨#[97, 47, 46, 46]⟩, .string ⟨#[65]⟩, .string ⟨#[97, 32, 98]⟩, .string ⟨#[97, 92, 98]⟩, .string ⟨#[195, 169]⟩, .string ⟨#[97, 98, 99, 100, 101, 102, 103, 104, 105, 106, 107, 108, 109, 110, 111, 112, 113, 114, 115, 116, 117]⟩, .string ⟨#[97, 47, 98, 47, 99, 47, 100, 47, 101, 47, 102, 47, 103, 47, 104, 47, 105, 47, 106, 47, 107, 47, 108, 47, 109, 47, 110, 47, 111, 47, 112, 47, 113]⟩, .string ⟨#[97, 0]⟩] 9) = W at *
  have hc := is_as W s false HB.out hz hm0
  refine hc.mono ?_
  rintro e w1 ⟨rfl, hb1, hm1⟩
  have hbel1 := hbel0.trans (hb1.mono hbel0.size)
  have hc1 : w1.cell? ⟨w.heap.size, k, none⟩ = some (.string s) := (hb1.cell (p := ⟨w.heap.size, k, none⟩) hlt).trans hc0
  clear hc hb1 hc0 hbel0 hm0
  go_wp2_with fail
  have hc := all_one w1 s false ⟨(fun e => by cases e), fun h => absurd (h.1 s.data.toList (by simp)) (by rw [HB.out]; simp)⟩ hz hm1
  refine (hc).mono ?_
  rintro e w2 ⟨rfl, hb2, hm2⟩
  have hbel2 := hbel1.trans (hb2.mono hbel1.size)
  clear hbel1 hb2 hm1
  clear hc
  go_wp2_with fail
  have hc := all_none w2 hm2
  refine (hc).mono ?_
  rintro e w3 ⟨rfl, hb3, hm3⟩
  have hbel3 := hbel2.trans (hb3.mono hbel2.size)
  clear hbel2 hb3 hm2
  clear hc
  go_wp2_with fail
  have hc := is_as w3 ⟨#[46, 46, 46]⟩ true (by decide) (by decide) hm3
  refine (hc).mono ?_
  rintro e w4 ⟨rfl, hb4, hm4⟩
  have hbel4 := hbel3.trans (hb4.mono hbel3.size)
  clear hbel3 hb4 hm3
  clear hc
  go_wp2_with fail
  have hc := is_as w4 ⟨#[97, 47, 98, 47, 99, 47, 100, 47, 101, 47, 102, 47, 103, 47, 104, 47, 105, 47, 106, 47, 107, 47, 108, 47, 109, 47, 110, 47, 111, 47, 112]⟩ true (by decide) (by decide) hm4
  refine (hc).mono ?_
  rintro e w5 ⟨rfl, hb5, hm5⟩
  have hbel5 := hbel4.trans (hb5.mono hbel4.size)
  clear hbel4 hb5 hm4
  clear hc
  go_wp2_with fail
  refine (known21_any w5 hm5).mono ?_
  rintro e wk ⟨rfl, hbk⟩
  go_wp2_with fail
  go_ret
  exact ⟨rfl, hbel5.trans (hbk.mono hbel5.size)⟩
end Go.Proofs.YtoikkblclmgioaaDoor
