/-
  What the digits of a time's thing say.
-/
import Derived.Test.YtjhpibbhkdjeiaaWhen10
namespace Go.Proofs.Ytjhpibbhkdjeiaa
open Go.RowKit
set_option linter.unusedVariables false

/-- A thing is a time's. -/
def IsTime (tag : Nat) (b : List Nat) (nk : Nat) (t : Int) : Prop :=
  ∃ x, -631152000 ≤ t ∧ t ≤ 253402300799 ∧ IsDate t x ∧ tag = tagOf x ∧ b = bodyOf x ∧ nk = 0

theorem oct_dig2 (v : Nat) : ∀ x ∈ dig2 v, IsDig x := by
  intro x hx
  simp [dig2] at hx
  unfold IsDig
  omega
theorem body_short {x : Parts6} (h : x.y < 2050) : bodyOf x = [48 + x.y % 100 / 10 % 10, 48 + x.y % 100 % 10, 48 + x.m / 10 % 10, 48 + x.m % 10, 48 + x.d / 10 % 10, 48 + x.d % 10, 48 + x.h / 10 % 10, 48 + x.h % 10, 48 + x.i / 10 % 10, 48 + x.i % 10, 48 + x.s / 10 % 10, 48 + x.s % 10, 90] := by
  unfold bodyOf
  rw [if_neg (by omega)]
  rfl
theorem body_long {x : Parts6} (h : 2050 ≤ x.y) : bodyOf x = [48 + x.y / 100 / 10 % 10, 48 + x.y / 100 % 10, 48 + x.y % 100 / 10 % 10, 48 + x.y % 100 % 10, 48 + x.m / 10 % 10, 48 + x.m % 10, 48 + x.d / 10 % 10, 48 + x.d % 10, 48 + x.h / 10 % 10, 48 + x.h % 10, 48 + x.i / 10 % 10, 48 + x.i % 10, 48 + x.s / 10 % 10, 48 + x.s % 10, 90] := by
  unfold bodyOf
  rw [if_pos h]
  rfl
theorem body_good (x : Parts6) : Good (bodyOf x) := by
  rcases Nat.lt_or_ge x.y 2050 with h | h
  · rw [body_short h]
    refine ⟨by simp, by simp, rfl, fun i hi => ?_⟩
    have hi' : i = 0 ∨ i = 1 ∨ i = 2 ∨ i = 3 ∨ i = 4 ∨ i = 5 ∨ i = 6 ∨ i = 7 ∨ i = 8 ∨ i = 9 ∨ i = 10 ∨ i = 11 := by simp at hi; omega
    rcases hi' with rfl | rfl | rfl | rfl | rfl | rfl | rfl | rfl | rfl | rfl | rfl | rfl <;> (simp [IsDig, List.getD]; omega)
  · rw [body_long h]
    refine ⟨by simp, by simp, rfl, fun i hi => ?_⟩
    have hi' : i = 0 ∨ i = 1 ∨ i = 2 ∨ i = 3 ∨ i = 4 ∨ i = 5 ∨ i = 6 ∨ i = 7 ∨ i = 8 ∨ i = 9 ∨ i = 10 ∨ i = 11 ∨ i = 12 ∨ i = 13 := by simp at hi; omega
    rcases hi' with rfl | rfl | rfl | rfl | rfl | rfl | rfl | rfl | rfl | rfl | rfl | rfl | rfl | rfl <;> (simp [IsDig, List.getD]; omega)
theorem body_oct (x : Parts6) : Oct8 (bodyOf x) := by
  intro v hv
  have hg := body_good x
  obtain ⟨i, hi, rfl⟩ := List.mem_iff_getElem.1 hv
  have e : (bodyOf x)[i] = (bodyOf x).getD i 0 := by simp [List.getD, hi]
  rw [e]
  by_cases h : i + 1 < (bodyOf x).length
  · have := hg.dig i h; unfold IsDig at this; omega
  · have : i = (bodyOf x).length - 1 := by omega
    rw [this, hg.z]; omega
theorem pvs_short {x : Parts6} (h : x.y < 2050) (hm : x.m ≤ 99) (hd : x.d ≤ 99) (hh : x.h ≤ 99) (hi : x.i ≤ 99) (hs : x.s ≤ 99) : (bodyOf x).length = 13 ∧ pvs (bodyOf x) 6 = [x.y % 100, x.m, x.d, x.h, x.i, x.s] := by
  rw [body_short h]
  refine ⟨rfl, ?_⟩
  simp [pvs, pv, List.range_succ, List.getD]
  omega
theorem pvs_long {x : Parts6} (h : 2050 ≤ x.y) (hy : x.y ≤ 9999) (hm : x.m ≤ 99) (hd : x.d ≤ 99) (hh : x.h ≤ 99) (hi : x.i ≤ 99) (hs : x.s ≤ 99) : (bodyOf x).length = 15 ∧ pvs (bodyOf x) 7 = [x.y / 100, x.y % 100, x.m, x.d, x.h, x.i, x.s] := by
  rw [body_long h]
  refine ⟨rfl, ?_⟩
  simp [pvs, pv, List.range_succ, List.getD]
  omega
theorem pv_le {b : List Nat} (hg : Good b) {i : Nat} (hi : 2 * i + 2 < b.length) : pv b i ≤ 99 := by
  have h1 := hg.dig (2*i) (by omega)
  have h2 := hg.dig (2*i+1) (by omega)
  unfold IsDig at h1 h2
  unfold pv
  omega

/-- The time that pairs of digits say. -/
def sayI (y m d h i s : Int) : Int := dayI y m d * 86400 + (h * 3600 + i * 60 + s)
theorem say_is {t : Int} {x : Parts6} (h : IsDate t x) : sayI x.y x.m x.d x.h x.i x.s = t := by
  unfold sayI
  rw [day_num h.valid]
  have := h.tot
  omega
/-- The year that two digits say. -/
def year2 (a : Nat) : Nat := if a < 50 then a + 2000 else a + 1900
theorem year2_is {y : Nat} (h1 : 1950 ≤ y) (h2 : y < 2050) : year2 (y % 100) = y := by
  unfold year2
  split <;> omega
/-- The digits of a time's thing say that time. -/
theorem time_says {tag : Nat} {b : List Nat} {nk : Nat} {t : Int} (h : IsTime tag b nk t) :
    Good b ∧ nk = 0 ∧ ((tag = 23 ∧ b.length = 13 ∧ sayI (year2 (pv b 0)) (pv b 1) (pv b 2) (pv b 3) (pv b 4) (pv b 5) = t) ∨ (tag = 24 ∧ b.length = 15 ∧ 1950 ≤ 100 * pv b 0 + pv b 1 ∧ sayI (100 * pv b 0 + pv b 1 : Nat) (pv b 2) (pv b 3) (pv b 4) (pv b 5) (pv b 6) = t)) := by
  obtain ⟨x, h0, h1, hx, rfl, rfl, rfl⟩ := h
  have a1 := hx.valid.m12
  have a2 := hx.valid.d31
  have a3 := hx.h23
  have a4 := hx.i59
  have a5 := hx.s59
  refine ⟨body_good x, rfl, ?_⟩
  rcases Nat.lt_or_ge x.y 2050 with h | h
  · left
    obtain ⟨e1, e2⟩ := pvs_short h (by omega) (by omega) (by omega) (by omega) (by omega)
    simp [pvs, List.range_succ] at e2
    obtain ⟨p0, p1, p2, p3, p4, p5⟩ := e2
    refine ⟨by unfold tagOf; rw [if_neg (by omega)], e1, ?_⟩
    rw [p0, p1, p2, p3, p4, p5, year2_is hx.y1950 h]
    exact say_is hx
  · right
    obtain ⟨e1, e2⟩ := pvs_long h hx.y9999 (by omega) (by omega) (by omega) (by omega) (by omega)
    simp [pvs, List.range_succ] at e2
    obtain ⟨p0, p1, p2, p3, p4, p5, p6⟩ := e2
    refine ⟨by unfold tagOf; rw [if_pos h], e1, ?_⟩
    rw [p0, p1, p2, p3, p4, p5, p6, show 100 * (x.y / 100) + x.y % 100 = x.y by omega]
    exact ⟨hx.y1950, say_is hx⟩
end Go.Proofs.Ytjhpibbhkdjeiaa
