/-
  The laws of paths, walked.
-/
import Derived.Test.YtoikkblclmgioaaDoorPt7
namespace Go.Proofs.YtoikkblclmgioaaDoor
open Go.RowKit
set_option linter.unusedVariables false

theorem is'_as (w : World) (s : ByteArray) (v : Bool) (h : isP s.data.toList = v) (hs : s.size ≤ 9223372036854775807) : Calls Tryd.prog 8 #[.string s] w fun e w' => e = .returned (.bool v) ∧ w = w' := by
  subst h
  exact is'_any w s hs
theorem said (p : Prop) : ∃ v : Bool, v = true ↔ p := by
  rcases Classical.em p with h | h
  · exact ⟨true, ⟨fun _ => h, fun _ => rfl⟩⟩
  · exact ⟨false, ⟨(fun e => by cases e), fun e => absurd e h⟩⟩
theorem isP_size {s : ByteArray} (h : isP s.data.toList = true) : s.size ≤ 32 := by
  unfold isP at h
  rw [len_data] at h
  simp at h
  exact h.1
theorem isP_from {s : ByteArray} (h : isP s.data.toList = true) : okFrom [] s.data.toList = true := by
  unfold isP at h
  simp at h
  exact h.2
theorem from_join (y : List UInt8) : ∀ (x cur : List UInt8), okFrom cur (x ++ 47 :: y) = (okFrom cur x && okFrom [] y)
  | [], cur => by simp [okFrom]
  | c :: x, cur => by
    rw [List.cons_append, okFrom, okFrom]
    by_cases h : c = 47
    · rw [if_pos h, if_pos h, from_join y x [], Bool.and_assoc]
    · rw [if_neg h, if_neg h, from_join y x]
theorem app_data (a b : ByteArray) : (a ++ b).data.toList = a.data.toList ++ b.data.toList := by simp

set_option maxRecDepth 100000 in
set_option maxHeartbeats 2000000 in
theorem law_tells (w : World) (s : ByteArray) (hs : s.size ≤ 9223372036854775807) (A : Option Addr) (c n : Nat) (l : List ByteArray) (hn : l.length = n) (hr : RdS w w.heap.size A c l) (hsz : ∀ p ∈ l, p.size ≤ 9223372036854775807) (hm : Big w) :
    Calls Tryd.prog 3 #[.string s, .slice A n c] w fun e w' => e = .returned (.bool true) ∧ Below w.heap.size w w' := by
  have hlc := hr.1
  have hc63 := hr.2.1
  by_cases h1 : 100 < s.size
  · go_enter Tryd.func3, Tryd.ntmps3
    go_wp2_with fail
    go_ret
    exact ⟨rfl, Below.refl _ _⟩
  by_cases h2 : 20 < n
  · have d1 : decide ((20 : Int) < (n : Int)) = true := decide_eq_true (by omega)
    go_enter Tryd.func3, Tryd.ntmps3
    go_wp2_with fail
    go_ret
    exact ⟨rfl, Below.refl _ _⟩
  have d1 : decide ((20 : Int) < (n : Int)) = false := decide_eq_false (by omega)
  obtain ⟨v, hv⟩ : ∃ v, isP s.data.toList = v := ⟨_, rfl⟩
  obtain ⟨v2, hv2⟩ := said (AllOk (tx l))
  have HV := Lib.hid hv
  have HV2 := Lib.hid hv2
  have HN := Lib.hid hn
  have HSZ := Lib.hid hsz
  clear hv hv2 hn hsz hlc
  go_enter Tryd.func3, Tryd.ntmps3
  go_wp2_with fail
  refine (is_as w s v HV.out hs hm).mono ?_
  rintro e w1 ⟨rfl, hb1, hm1⟩
  have hr1 := (hr.under hb1).more hb1.size
  clear hr
  go_wp2_with fail
  refine (is'_as w1 s v HV.out hs).mono ?_
  rintro e wq ⟨rfl, rfl⟩
  go_wp2_with fail
  refine (all_any w1 _ A c n l HN.out hr1 (Nat.le_refl _) HSZ.out hm1 v2 HV2.out).mono ?_
  rintro e w2 ⟨rfl, hb2⟩
  have hm2 := hm1.under hb2
  have hr2 := (hr1.under hb2).more hb2.size
  have hbel2 := hb1.trans (hb2.mono hb1.size)
  clear hr1 hb1 hb2 hm1
  go_wp2_with fail
  refine (all'_any w2 _ A c n l HN.out hr2 (Nat.le_refl _) HSZ.out v2 HV2.out).mono ?_
  rintro e w3 ⟨rfl, hb3⟩
  have hm3 := hm2.under hb3
  have hbel3 := hbel2.trans (hb3.mono hbel2.size)
  clear hr2 hbel2 hb3 hm2
  go_wp2_with fail
  refine (known21_any w3 hm3).mono ?_
  rintro e wk ⟨rfl, hbk⟩
  go_wp2_with fail
  go_ret
  exact ⟨rfl, hbel3.trans (hbk.mono hbel3.size)⟩

theorem cat_size {a c b : ByteArray} (ha : a.size ≤ 32) (hc : c.size ≤ 4) (hb : b.size ≤ 32) : (a ++ c ++ b).size ≤ 9223372036854775807 := by
  rw [ByteArray.size_append, ByteArray.size_append]; omega
theorem cat_size2 {a b : ByteArray} (ha : a.size ≤ 32) (hb : b.size ≤ 32) : (a ++ b).size ≤ 9223372036854775807 := by
  rw [ByteArray.size_append]; omega
theorem isP_and {l : List UInt8} (h : okFrom [] l = false) : isP l = false := by unfold isP; rw [h, Bool.and_false]
theorem not_joins {a b : ByteArray} (ha : isP a.data.toList = true) (hb : isP b.data.toList = true) :
    isP (a ++ ⟨#[47, 47]⟩ ++ b).data.toList = false ∧ isP (a ++ ⟨#[47, 46, 47]⟩ ++ b).data.toList = false ∧ isP (a ++ ⟨#[47, 46, 46, 47]⟩ ++ b).data.toList = false ∧ isP ((⟨#[47]⟩ : ByteArray) ++ a).data.toList = false ∧ isP (a ++ ⟨#[47]⟩).data.toList = false := by
  refine ⟨isP_and ?_, isP_and ?_, isP_and ?_, isP_and ?_, isP_and ?_⟩
  · rw [app_data, app_data, show ((⟨#[47, 47]⟩ : ByteArray).data.toList) = 47 :: [47] from rfl, List.append_assoc, List.cons_append, from_join]
    simp [okFrom, mayB]
  · rw [app_data, app_data, show ((⟨#[47, 46, 47]⟩ : ByteArray).data.toList) = 47 :: [46, 47] from rfl, List.append_assoc, List.cons_append, from_join]
    simp [okFrom, mayB]
  · rw [app_data, app_data, show ((⟨#[47, 46, 46, 47]⟩ : ByteArray).data.toList) = 47 :: [46, 46, 47] from rfl, List.append_assoc, List.cons_append, from_join]
    simp [okFrom, mayB]
  · rw [app_data, show ((⟨#[47]⟩ : ByteArray).data.toList) = [47] from rfl]
    simp [okFrom, mayB]
  · rw [app_data, show ((⟨#[47]⟩ : ByteArray).data.toList) = 47 :: [] from rfl, from_join]
    simp [okFrom, mayB]
theorem joined {a b : ByteArray} (ha : isP a.data.toList = true) (hb : isP b.data.toList = true) : isP (a ++ ⟨#[47]⟩ ++ b).data.toList = decide (a.size + b.size + 1 ≤ 32) := by
  have e : (a ++ ⟨#[47]⟩ ++ b).data.toList = a.data.toList ++ 47 :: b.data.toList := by
    rw [app_data, app_data, show ((⟨#[47]⟩ : ByteArray).data.toList) = [47] from rfl, List.append_assoc]; rfl
  unfold isP
  rw [e, from_join, isP_from ha, isP_from hb, List.length_append, List.length_cons, len_data, len_data, Bool.and_true, Bool.and_true, ← Nat.add_assoc]

set_option maxRecDepth 100000 in
set_option maxHeartbeats 2000000 in
theorem law_joins_true (w : World) (a b : ByteArray) (ha : isP a.data.toList = true) (hb : isP b.data.toList = true) (hm : Big w) (hv : decide (a.size + b.size + 1 ≤ 32) = true) :
    Calls Tryd.prog 4 #[.string a, .string b] w fun e w' => e = .returned (.bool true) ∧ Below w.heap.size w w' := by
  have haz' := isP_size ha
  have hbz' := isP_size hb
  have haz : a.size ≤ 9223372036854775807 := by omega
  have hbz : b.size ≤ 9223372036854775807 := by omega
  have HA := Lib.hid ha
  have HB := Lib.hid hb
  have HK := Lib.hid (not_joins ha hb)
  have HJ := Lib.hid ((joined ha hb).trans hv)
  have hlong : decide ((32 : Int) < (a.size : Int) + (b.size : Int) + 1) = false := by
    simp at hv ⊢
    omega
  clear ha hb hv
  go_enter Tryd.func4, Tryd.ntmps4
  go_wp2_with fail
  refine (is'_as w a true HA.out haz).mono ?_
  rintro e wq ⟨rfl, rfl⟩
  go_wp2_with fail
  refine (is'_as w b true HB.out hbz).mono ?_
  rintro e wq ⟨rfl, rfl⟩
  go_wp2_with fail
  have hz := cat_size (c := ⟨#[47]⟩) haz' (by decide) hbz'
  have hc := is_as w (a ++ ⟨#[47]⟩ ++ b) true HJ.out hz hm
  refine (hc).mono ?_
  rintro e w1 ⟨rfl, hb1, hm1⟩
  have hbel1 := hb1
  clear hm
  clear hc hz
  go_wp2_with fail
  have hz := cat_size (c := ⟨#[47, 47]⟩) haz' (by decide) hbz'
  have hc := is_as w1 (a ++ ⟨#[47, 47]⟩ ++ b) false HK.out.1 hz hm1
  refine (hc).mono ?_
  rintro e w2 ⟨rfl, hb2, hm2⟩
  have hbel2 := hbel1.trans (hb2.mono hbel1.size)
  clear hbel1 hb2 hm1
  clear hc hz
  go_wp2_with fail
  have hz := cat_size (c := ⟨#[47, 46, 47]⟩) haz' (by decide) hbz'
  have hc := is_as w2 (a ++ ⟨#[47, 46, 47]⟩ ++ b) false HK.out.2.1 hz hm2
  refine (hc).mono ?_
  rintro e w3 ⟨rfl, hb3, hm3⟩
  have hbel3 := hbel2.trans (hb3.mono hbel2.size)
  clear hbel2 hb3 hm2
  clear hc hz
  go_wp2_with fail
  have hz := cat_size (c := ⟨#[47, 46, 46, 47]⟩) haz' (by decide) hbz'
  have hc := is_as w3 (a ++ ⟨#[47, 46, 46, 47]⟩ ++ b) false HK.out.2.2.1 hz hm3
  refine (hc).mono ?_
  rintro e w4 ⟨rfl, hb4, hm4⟩
  have hbel4 := hbel3.trans (hb4.mono hbel3.size)
  clear hbel3 hb4 hm3
  clear hc hz
  go_wp2_with fail
  have hz := cat_size2 (a := ⟨#[47]⟩) (by decide) haz'
  have hc := is_as w4 (⟨#[47]⟩ ++ a) false HK.out.2.2.2.1 hz hm4
  refine (hc).mono ?_
  rintro e w5 ⟨rfl, hb5, hm5⟩
  have hbel5 := hbel4.trans (hb5.mono hbel4.size)
  clear hbel4 hb5 hm4
  clear hc hz
  go_wp2_with fail
  have hz := cat_size2 (b := ⟨#[47]⟩) haz' (by decide)
  have hc := is_as w5 (a ++ ⟨#[47]⟩) false HK.out.2.2.2.2 hz hm5
  refine (hc).mono ?_
  rintro e w6 ⟨rfl, hb6, hm6⟩
  have hbel6 := hbel5.trans (hb6.mono hbel5.size)
  clear hbel5 hb6 hm5
  clear hc hz
  go_wp2_with fail
  refine (known21_any w6 hm6).mono ?_
  rintro e wk ⟨rfl, hbk⟩
  go_wp2_with fail
  go_ret
  exact ⟨rfl, hbel6.trans (hbk.mono hbel6.size)⟩

set_option maxRecDepth 100000 in
set_option maxHeartbeats 2000000 in
theorem law_joins_false (w : World) (a b : ByteArray) (ha : isP a.data.toList = true) (hb : isP b.data.toList = true) (hm : Big w) (hv : decide (a.size + b.size + 1 ≤ 32) = false) :
    Calls Tryd.prog 4 #[.string a, .string b] w fun e w' => e = .returned (.bool true) ∧ Below w.heap.size w w' := by
  have haz' := isP_size ha
  have hbz' := isP_size hb
  have haz : a.size ≤ 9223372036854775807 := by omega
  have hbz : b.size ≤ 9223372036854775807 := by omega
  have HA := Lib.hid ha
  have HB := Lib.hid hb
  have HK := Lib.hid (not_joins ha hb)
  have HJ := Lib.hid ((joined ha hb).trans hv)
  have hlong : decide ((32 : Int) < (a.size : Int) + (b.size : Int) + 1) = true := by
    simp at hv ⊢
    omega
  clear ha hb hv
  go_enter Tryd.func4, Tryd.ntmps4
  go_wp2_with fail
  refine (is'_as w a true HA.out haz).mono ?_
  rintro e wq ⟨rfl, rfl⟩
  go_wp2_with fail
  refine (is'_as w b true HB.out hbz).mono ?_
  rintro e wq ⟨rfl, rfl⟩
  go_wp2_with fail
  have hz := cat_size (c := ⟨#[47]⟩) haz' (by decide) hbz'
  have hc := is_as w (a ++ ⟨#[47]⟩ ++ b) false HJ.out hz hm
  refine (hc).mono ?_
  rintro e w1 ⟨rfl, hb1, hm1⟩
  have hbel1 := hb1
  clear hm
  clear hc hz
  go_wp2_with fail
  have hz := cat_size (c := ⟨#[47, 47]⟩) haz' (by decide) hbz'
  have hc := is_as w1 (a ++ ⟨#[47, 47]⟩ ++ b) false HK.out.1 hz hm1
  refine (hc).mono ?_
  rintro e w2 ⟨rfl, hb2, hm2⟩
  have hbel2 := hbel1.trans (hb2.mono hbel1.size)
  clear hbel1 hb2 hm1
  clear hc hz
  go_wp2_with fail
  have hz := cat_size (c := ⟨#[47, 46, 47]⟩) haz' (by decide) hbz'
  have hc := is_as w2 (a ++ ⟨#[47, 46, 47]⟩ ++ b) false HK.out.2.1 hz hm2
  refine (hc).mono ?_
  rintro e w3 ⟨rfl, hb3, hm3⟩
  have hbel3 := hbel2.trans (hb3.mono hbel2.size)
  clear hbel2 hb3 hm2
  clear hc hz
  go_wp2_with fail
  have hz := cat_size (c := ⟨#[47, 46, 46, 47]⟩) haz' (by decide) hbz'
  have hc := is_as w3 (a ++ ⟨#[47, 46, 46, 47]⟩ ++ b) false HK.out.2.2.1 hz hm3
  refine (hc).mono ?_
  rintro e w4 ⟨rfl, hb4, hm4⟩
  have hbel4 := hbel3.trans (hb4.mono hbel3.size)
  clear hbel3 hb4 hm3
  clear hc hz
  go_wp2_with fail
  have hz := cat_size2 (a := ⟨#[47]⟩) (by decide) haz'
  have hc := is_as w4 (⟨#[47]⟩ ++ a) false HK.out.2.2.2.1 hz hm4
  refine (hc).mono ?_
  rintro e w5 ⟨rfl, hb5, hm5⟩
  have hbel5 := hbel4.trans (hb5.mono hbel4.size)
  clear hbel4 hb5 hm4
  clear hc hz
  go_wp2_with fail
  have hz := cat_size2 (b := ⟨#[47]⟩) haz' (by decide)
  have hc := is_as w5 (a ++ ⟨#[47]⟩) false HK.out.2.2.2.2 hz hm5
  refine (hc).mono ?_
  rintro e w6 ⟨rfl, hb6, hm6⟩
  have hbel6 := hbel5.trans (hb6.mono hbel5.size)
  clear hbel5 hb6 hm5
  clear hc hz
  go_wp2_with fail
  refine (known21_any w6 hm6).mono ?_
  rintro e wk ⟨rfl, hbk⟩
  go_wp2_with fail
  go_ret
  exact ⟨rfl, hbel6.trans (hbk.mono hbel6.size)⟩

set_option maxRecDepth 100000 in
theorem law_joins (w : World) (a b : ByteArray) (haz : a.size ≤ 9223372036854775807) (hbz : b.size ≤ 9223372036854775807) (hm : Big w) :
    Calls Tryd.prog 4 #[.string a, .string b] w fun e w' => e = .returned (.bool true) ∧ Below w.heap.size w w' := by
  rcases ha : isP a.data.toList with _ | _
  · have HA := Lib.hid ha
    clear ha
    go_enter Tryd.func4, Tryd.ntmps4
    go_wp2_with fail
    refine (is'_as w a false HA.out haz).mono ?_
    rintro e wq ⟨rfl, rfl⟩
    go_wp2_with fail
    go_ret
    exact ⟨rfl, Below.refl _ _⟩
  rcases hb : isP b.data.toList with _ | _
  · have HA := Lib.hid ha
    have HB := Lib.hid hb
    clear ha hb
    go_enter Tryd.func4, Tryd.ntmps4
    go_wp2_with fail
    refine (is'_as w a true HA.out haz).mono ?_
    rintro e wq ⟨rfl, rfl⟩
    go_wp2_with fail
    refine (is'_as w b false HB.out hbz).mono ?_
    rintro e wq ⟨rfl, rfl⟩
    go_wp2_with fail
    go_ret
    exact ⟨rfl, Below.refl _ _⟩
  rcases hv : decide (a.size + b.size + 1 ≤ 32) with _ | _
  · exact law_joins_false w a b ha hb hm hv
  · exact law_joins_true w a b ha hb hm hv
end Go.Proofs.YtoikkblclmgioaaDoor
