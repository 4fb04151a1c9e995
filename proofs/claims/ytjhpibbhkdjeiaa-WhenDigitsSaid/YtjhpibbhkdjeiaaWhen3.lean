/-
  Dates: each time has one; the program answers it.
-/
import Derived.Test.YtjhpibbhkdjeiaaWhen2
namespace Go.Proofs.Ytjhpibbhkdjeiaa
open Go.RowKit

theorem day_is (N : Nat) (h : num 1950 1 1 ≤ N) : ∃ y m d, Valid y m d ∧ num y m d = N ∧ 1950 ≤ y := by
  induction N with
  | zero =>
    have : num 1950 1 1 = 712163 := by decide +kernel
    omega
  | succ N ih =>
    by_cases h0 : num 1950 1 1 ≤ N
    · obtain ⟨y, m, d, hv, hn, hy⟩ := ih h0
      have h1 := num_day y m d hv.d1
      have h2 := hv.dd
      have h3 := hv.m12
      have h4 := hv.m1
      have h5 := hv.d1
      by_cases hd : d < dim y m
      · refine ⟨y, m, d+1, ⟨hv.y1, hv.m1, hv.m12, by omega, by omega⟩, ?_, hy⟩
        have := num_day y m (d+1) (by omega)
        omega
      · by_cases hm : m < 12
        · refine ⟨y, m+1, 1, ⟨hv.y1, by omega, by omega, by omega, by have := dim_le y (m+1); omega⟩, ?_, hy⟩
          have := num_next y m hv.y1 hv.m1 (by omega)
          omega
        · obtain rfl : m = 12 := by omega
          refine ⟨y+1, 1, 1, ⟨by omega, by omega, by omega, by omega, by have := dim_le (y+1) 1; omega⟩, ?_, by omega⟩
          have := num_dec y hv.y1
          have : dim y 12 = 31 := rfl
          omega
    · have : num 1950 1 1 = N + 1 := by omega
      exact ⟨1950, 1, 1, ⟨by omega, by omega, by omega, by omega, by decide⟩, this, by omega⟩

theorem date_is (t : Int) (h0 : -631152000 ≤ t) (h1 : t ≤ 253402300799) : ∃ x, IsDate t x := by
  have e1 : num 1950 1 1 = 712163 := by decide +kernel
  have e2 : num 10000 1 1 = 3652365 := by decide +kernel
  obtain ⟨T, hT⟩ : ∃ T : Nat, t + 62162035200 = (T : Int) := ⟨(t + 62162035200).toNat, by omega⟩
  obtain ⟨y, m, d, hv, hn, hy⟩ := day_is (T / 86400) (by omega)
  have hin := num_in hv
  refine ⟨⟨y, m, d, T % 86400 / 3600, T % 86400 / 60 % 60, T % 86400 % 60⟩, hv, by simp; omega, by simp; omega, by simp; omega, ?_, hy, ?_⟩
  · show y ≤ 9999
    rcases Nat.lt_or_ge 9999 y with h | h
    · have := num_mono_year (y := 10000) (y' := y) (by omega) (by omega)
      omega
    · exact h
  · show _ = (num y m d : Int) * 86400 + ((T % 86400 / 3600 * 3600 + T % 86400 / 60 % 60 * 60 + T % 86400 % 60 : Nat) : Int)
    rw [hT, hn]
    omega

/-- It is the only one. -/
theorem IsDate.same {t : Int} {x z : Parts6} (h : IsDate t x) (h' : IsDate t z) : x = z := by
  obtain ⟨y, m, d, hh, i, s⟩ := x
  obtain ⟨y', m', d', hh', i', s'⟩ := z
  have a := h.tot
  have b := h'.tot
  have c1 := h.h23
  have c2 := h.i59
  have c3 := h.s59
  have c4 := h'.h23
  have c5 := h'.i59
  have c6 := h'.s59
  simp only at a b c1 c2 c3 c4 c5 c6
  have hn : num y m d = num y' m' d' := by omega
  have := civ_num h.valid
  have h2 := civ_num h'.valid
  simp only at this h2
  rw [hn, h2] at this
  simp only [Prod.mk.injEq] at this
  obtain ⟨rfl, rfl, rfl⟩ := this
  have e1 : hh = hh' := by omega
  have e2 : i = i' := by omega
  have e3 : s = s' := by omega
  rw [e1, e2, e3]

theorem results_tmp6 {fn : Func} {t u v x y z : Tmp} (h : fn.results = #[.tmp t, .tmp u, .tmp v, .tmp x, .tmp y, .tmp z]) (tmps : Array Value) (P : Program) (w : World) :
    (results fn tmps).run P w = .ok (.tuple #[tmps.getD t undef, tmps.getD u undef, tmps.getD v undef, tmps.getD x undef, tmps.getD y undef, tmps.getD z undef]) w := by simp [results, h]

def Parts6.vals (x : Parts6) : Array Value := #[.int .i64 x.y, .int .i64 x.m, .int .i64 x.d, .int .i64 x.h, .int .i64 x.i, .int .i64 x.s]

theorem six_ret {a b c d e f : Int} {x : Parts6} (h1 : a = x.y) (h2 : b = x.m) (h3 : c = x.d) (h4 : d = x.h) (h5 : e = x.i) (h6 : f = x.s) :
    Ending.returned (.tuple #[.int .i64 a, .int .i64 b, .int .i64 c, .int .i64 d, .int .i64 e, .int .i64 f]) = .returned (.tuple x.vals) := by
  subst h1; subst h2; subst h3; subst h4; subst h5; subst h6; rfl
theorem six_agg {a b c d e f : Int} {x : Parts6} (h1 : a = x.y) (h2 : b = x.m) (h3 : c = x.d) (h4 : d = x.h) (h5 : e = x.i) (h6 : f = x.s) :
    (Value.agg #[.int .i64 a, .int .i64 b, .int .i64 c, .int .i64 d, .int .i64 e, .int .i64 f]) = .agg x.vals := by
  subst h1; subst h2; subst h3; subst h4; subst h5; subst h6; rfl

set_option maxRecDepth 100000 in
set_option maxHeartbeats 1000000 in
theorem date_yes (w : World) (t : Int) (h0 : -631152000 ≤ t) (h1 : t ≤ 253402300799) (x : Parts6) (hx : IsDate t x) :
    Calls Try.prog 18 #[.int .i64 t] w fun e w' => e = .returned (.tuple x.vals) ∧ w = w' := by
  have hc := civ_num hx.valid
  have htot := hx.tot
  have b1 := hx.h23
  have b2 := hx.i59
  have b3 := hx.s59
  obtain ⟨T, hT⟩ : ∃ T : Nat, t + 62162035200 = (T : Int) := ⟨(t + 62162035200).toNat, by omega⟩
  have hTl : T ≤ 315564336000 := by omega
  have hn : T / 86400 = num x.y x.m x.d := by omega
  have hS : T % 86400 = x.h * 3600 + x.i * 60 + x.s := by omega
  have hnl : T / 86400 ≤ 4000000 := by omega
  rw [← hn] at hc
  have HT := Lib.hid hT
  have HC := Lib.hid hc
  have HS := Lib.hid hS
  clear hc hT hn hS htot hx
  have hdiv : ((T : Int) / 86400) = ((T / 86400 : Nat) : Int) := by omega
  have HD := Lib.hid hdiv
  clear hdiv
  go_enter Try.func18, Try.ntmps18
  go_wp2_with fail
  refine (is_yes _ t h0 h1).mono ?_
  rintro e w1 ⟨rfl, rfl⟩
  go_wp2_with fail
  rw [HT.out, HD.out]
  refine (civil_any _ (T / 86400) hnl _ _ _ HC.out).mono ?_
  rintro e w1 ⟨rfl, rfl⟩
  go_wp2_with fail
  refine bodyPost_ret (results_tmp6 (t := 2) (u := 3) (v := 4) (x := 5) (y := 6) (z := 7) rfl _ _ _) rfl ⟨six_ret rfl rfl rfl ?_ ?_ ?_, rfl⟩
  all_goals
    have := HS.out
    have := HT.out
    omega

set_option maxRecDepth 100000 in
theorem date_no (w : World) (t : Int) (h : t < -631152000 ∨ 253402300799 < t) :
    Calls Try.prog 18 #[.int .i64 t] w fun e w' => e = .returned (.tuple #[.int .i64 0, .int .i64 0, .int .i64 0, .int .i64 0, .int .i64 0, .int .i64 0]) ∧ w = w' := by
  go_enter Try.func18, Try.ntmps18
  go_wp2_with fail
  refine (is_no _ t h).mono ?_
  rintro e w1 ⟨rfl, rfl⟩
  go_wp2_with fail
  exact bodyPost_ret (results_tmp6 (t := 2) (u := 3) (v := 4) (x := 5) (y := 6) (z := 7) rfl _ _ _) rfl ⟨rfl, rfl⟩
end Go.Proofs.Ytjhpibbhkdjeiaa
