/-
  The law: any digits of a date: just if there is such a date.
-/
import Derived.Test.YtjhpibbhkdjeiaaWhen21
namespace Go.Proofs.Ytjhpibbhkdjeiaa
open Go.RowKit
set_option linter.unusedVariables false
attribute [local go_sem ↓] Go.wp_at_zero Go.wp_at_succ

def D13 (y m d h i s : Nat) : List Nat := [48 + y / 10 % 10, 48 + y % 10, 48 + m / 10, 48 + m % 10, 48 + d / 10, 48 + d % 10, 48 + h / 10, 48 + h % 10, 48 + i / 10, 48 + i % 10, 48 + s / 10, 48 + s % 10, 90]
theorem D13_is {y m d h i s : Nat} (hm : m ≤ 99) (hd : d ≤ 99) (hh : h ≤ 99) (hi : i ≤ 99) (hs : s ≤ 99) : D13 y m d h i s = dig2 (y % 100) ++ dig2 m ++ dig2 d ++ dig2 h ++ dig2 i ++ dig2 s ++ [90] := by
  unfold D13 dig2
  have e : ∀ v, v ≤ 99 → v / 10 = v / 10 % 10 := fun v hv => by omega
  have ey : y / 10 % 10 = y % 100 / 10 % 10 := by omega
  have ez : y % 10 = y % 100 % 10 := by omega
  rw [e m hm, e d hd, e h hh, e i hi, e s hs, ey, ez]
  simp
theorem D13_oct (y m d h i s : Nat) (hm : m ≤ 99) (hd : d ≤ 99) (hh : h ≤ 99) (hi : i ≤ 99) (hs : s ≤ 99) : Oct8 (D13 y m d h i s) := by
  intro x hx
  simp [D13] at hx
  omega
theorem dig2_inj {a b : Nat} (ha : a ≤ 99) (hb : b ≤ 99) (h : dig2 a = dig2 b) : a = b := by
  have := (says_dig2 ha).one (h ▸ says_dig2 hb)
  omega
theorem digits_short {y m d h i s : Nat} (hm : m ≤ 99) (hd : d ≤ 99) (hh : h ≤ 99) (hi : i ≤ 99) (hs : s ≤ 99) (hy1 : 1950 ≤ y) (hy2 : y < 2050) {t : Int} (ht : IsTime 23 (D13 y m d h i s) 0 t) : IsDate t ⟨y, m, d, h, i, s⟩ ∧ -631152000 ≤ t ∧ t ≤ 253402300799 := by
  obtain ⟨⟨y', m', d', h', i', s'⟩, hx, hx1, hx2, e0, e1, e2, e3, e4, e5⟩ := is_short ht
  have a1 := hx.valid.m12
  have a2 := hx.valid.d31
  have a3 := hx.h23
  have a4 := hx.i59
  have a5 := hx.s59
  simp only at a1 a2 a3 a4 a5 hx1 hx2 e0 e1 e2 e3 e4 e5
  rw [D13_is hm hd hh hi hs] at e0 e1 e2 e3 e4 e5
  have f0 := dig2_inj (by omega) (by omega) (show dig2 (y % 100) = dig2 (y' % 100) from e0)
  have f1 := dig2_inj hm (by omega) (show dig2 m = dig2 m' from e1)
  have f2 := dig2_inj hd (by omega) (show dig2 d = dig2 d' from e2)
  have f3 := dig2_inj hh (by omega) (show dig2 h = dig2 h' from e3)
  have f4 := dig2_inj hi (by omega) (show dig2 i = dig2 i' from e4)
  have f5 := dig2_inj hs (by omega) (show dig2 s = dig2 s' from e5)
  obtain rfl : y = y' := by omega
  subst f1 f2 f3 f4 f5
  obtain ⟨_, h0, h1, _⟩ := ht
  exact ⟨hx, h0, h1⟩
theorem digits_long {y m d h i s : Nat} (hy : y ≤ 9999) (hm : m ≤ 99) (hd : d ≤ 99) (hh : h ≤ 99) (hi : i ≤ 99) (hs : s ≤ 99) {t : Int} (ht : IsTime 24 ([48 + y / 1000, 48 + y / 100 % 10] ++ D13 y m d h i s) 0 t) : IsDate t ⟨y, m, d, h, i, s⟩ ∧ -631152000 ≤ t ∧ t ≤ 253402300799 := by
  obtain ⟨⟨y', m', d', h', i', s'⟩, hx, hx1, hx2, e0, e1, e2, e3, e4, e5⟩ := is_long ht
  have a0 := hx.y9999
  have a1 := hx.valid.m12
  have a2 := hx.valid.d31
  have a3 := hx.h23
  have a4 := hx.i59
  have a5 := hx.s59
  simp only at a0 a1 a2 a3 a4 a5 hx1 hx2 e0 e1 e2 e3 e4 e5
  have ey : [48 + y / 1000, 48 + y / 100 % 10] = dig2 (y / 100) := by
    unfold dig2
    have : y / 1000 = y / 100 / 10 % 10 := by omega
    rw [this]
  rw [D13_is hm hd hh hi hs, ey] at e0 e1 e2 e3 e4 e5
  have f0 : y = y' := by
    have := (says_dig4 hy).one (v' := y') ((show dig2 (y / 100) ++ dig2 (y % 100) = dig2 (y' / 100) ++ dig2 (y' % 100) from e0) ▸ says_dig4 a0)
    omega
  have f1 := dig2_inj hm (by omega) (show dig2 m = dig2 m' from e1)
  have f2 := dig2_inj hd (by omega) (show dig2 d = dig2 d' from e2)
  have f3 := dig2_inj hh (by omega) (show dig2 h = dig2 h' from e3)
  have f4 := dig2_inj hi (by omega) (show dig2 i = dig2 i' from e4)
  have f5 := dig2_inj hs (by omega) (show dig2 s = dig2 s' from e5)
  subst f0 f1 f2 f3 f4 f5
  obtain ⟨_, h0, h1, _⟩ := ht
  exact ⟨hx, h0, h1⟩
end Go.Proofs.Ytjhpibbhkdjeiaa
