/-
  The law: a second more is a second more of the date, or of all that goes round.
-/
import Derived.Test.YtjhpibbhkdjeiaaWhen15
namespace Go.Proofs.Ytjhpibbhkdjeiaa
open Go.RowKit
set_option linter.unusedVariables false
attribute [local go_sem ↓] Go.wp_at_zero Go.wp_at_succ

def Parts6.list (x : Parts6) : List Nat := [x.y, x.m, x.d, x.h, x.i, x.s]
theorem lex_rises {t t' : Int} {x z : Parts6} (h : IsDate t x) (h' : IsDate t' z) (hlt : t < t') (k : Nat) (hk : k < 6) (he : ∀ j, j < k → x.list.getD j 0 = z.list.getD j 0) (hne : x.list.getD k 0 ≠ z.list.getD k 0) : x.list.getD k 0 < z.list.getD k 0 := by
  have a := h.tot
  have b := h'.tot
  have c1 := h.h23
  have c2 := h.i59
  have c3 := h.s59
  have c4 := h'.h23
  have c5 := h'.i59
  have c6 := h'.s59
  have hn : num x.y x.m x.d ≤ num z.y z.m z.d := by omega
  obtain ⟨l1, l2⟩ := later h.valid h'.valid hn
  have e0 := he 0
  have e1 := he 1
  have e2 := he 2
  have e3 := he 3
  have e4 := he 4
  clear he
  have hk' : k = 0 ∨ k = 1 ∨ k = 2 ∨ k = 3 ∨ k = 4 ∨ k = 5 := by omega
  rcases hk' with rfl | rfl | rfl | rfl | rfl | rfl
  · simp [Parts6.list] at hne ⊢; omega
  · simp [Parts6.list] at hne e0 ⊢
    have := (l2 e0).1; omega
  · simp [Parts6.list] at hne e0 e1 ⊢
    have := (l2 e0).2 e1; omega
  all_goals
    simp [Parts6.list] at hne e0 e1 e2 e3 e4 ⊢
    have hd : num x.y x.m x.d = num z.y z.m z.d := by rw [e0, e1, e2]
    rw [hd] at a
    omega
theorem lex_some {t t' : Int} {x z : Parts6} (h : IsDate t x) (h' : IsDate t' z) (hlt : t < t') (he : ∀ j, j < 6 → x.list.getD j 0 = z.list.getD j 0) : False := by
  have e0 := he 0 (by omega)
  have e1 := he 1 (by omega)
  have e2 := he 2 (by omega)
  have e3 := he 3 (by omega)
  have e4 := he 4 (by omega)
  have e5 := he 5 (by omega)
  simp [Parts6.list] at e0 e1 e2 e3 e4 e5
  have a := h.tot
  have b := h'.tot
  rw [e0, e1, e2, e3, e4, e5] at a
  omega

set_option maxRecDepth 100000 in
set_option maxHeartbeats 4000000 in
theorem rises_yes (w : World) (t more : Int) (h0 : -631152000 ≤ t) (h1 : t ≤ 253402300799) (hm1 : 1 ≤ more) (hm2 : more ≤ 1099511627776) (h3 : t + more ≤ 253402300799) :
    Calls Try.prog 6 #[.int .i64 t, .int .i64 more] w fun e w' => e = .returned (.bool true) ∧ Below w.heap.size w w' := by
  have h2 : -631152000 ≤ t + more := by omega
  obtain ⟨x, hx⟩ := date_is t h0 h1
  obtain ⟨z, hz⟩ := date_is (t + more) h2 h3
  have Hd := fun W => date_yes W t h0 h1 x hx
  have Hd' := fun W => date_yes W (t + more) h2 h3 z hz
  have HL : Hid (∀ k, k < 6 → (∀ j, j < k → x.list.getD j 0 = z.list.getD j 0) → x.list.getD k 0 ≠ z.list.getD k 0 → x.list.getD k 0 < z.list.getD k 0) := Lib.hid (lex_rises hx hz (by omega))
  have HS : Hid ((∀ j, j < 6 → x.list.getD j 0 = z.list.getD j 0) → False) := Lib.hid (lex_some hx hz (by omega))
  clear hx hz
  have hbx : Hid (∀ j, j < 6 → (x.vals)[j]? = some (.int .i64 ((x.list.getD j 0 : Nat) : Int))) := Lib.hid (fun j hj => by
    have : j = 0 ∨ j = 1 ∨ j = 2 ∨ j = 3 ∨ j = 4 ∨ j = 5 := by omega
    rcases this with rfl | rfl | rfl | rfl | rfl | rfl <;> rfl)
  have hbz : Hid (∀ j, j < 6 → (z.vals)[j]? = some (.int .i64 ((z.list.getD j 0 : Nat) : Int))) := Lib.hid (fun j hj => by
    have : j = 0 ∨ j = 1 ∨ j = 2 ∨ j = 3 ∨ j = 4 ∨ j = 5 := by omega
    rcases this with rfl | rfl | rfl | rfl | rfl | rfl <;> rfl)
  obtain ⟨xl, Hxl⟩ : ∃ xl, Hid (xl = x.list) := ⟨_, rfl⟩
  obtain ⟨zl, Hzl⟩ : ∃ zl, Hid (zl = z.list) := ⟨_, rfl⟩
  rw [← Hxl.out, ← Hzl.out] at HL HS
  rw [← Hxl.out] at hbx
  rw [← Hzl.out] at hbz
  clear Hxl Hzl
  have hB1 : Hid (Holds ((w.alloc (.cells x.vals 3)).alloc (.cells z.vals 3)) w.heap.size 3 x.vals) := Lib.hid ((Holds.fresh w _ _).alloc _)
  have hB2 : Hid (Holds ((w.alloc (.cells x.vals 3)).alloc (.cells z.vals 3)) (w.heap.size + 1) 3 z.vals) := Lib.hid (by simpa using Holds.fresh (w.alloc (.cells x.vals 3)) 3 z.vals)
  have hBW : Hid (Below w.heap.size w ((w.alloc (.cells x.vals 3)).alloc (.cells z.vals 3))) := Lib.hid (((Below.refl _ _).alloc (Nat.le_refl _) _).alloc (by simp) _)
  obtain ⟨xv, Hxv⟩ : ∃ xv, Hid (x.vals = xv) := ⟨_, rfl⟩
  obtain ⟨zv, Hzv⟩ : ∃ zv, Hid (z.vals = zv) := ⟨_, rfl⟩
  obtain ⟨y, m, d, h, i, s⟩ := x
  obtain ⟨y', m', d', h', i', s'⟩ := z
  unfold Parts6.vals at Hd Hd' hB1 hB2 hBW hbx hbz
  have HD := Lib.hid Hd
  have HD' := Lib.hid Hd'
  clear Hd Hd' Hxv Hzv
  go_enter Try.func6, Try.ntmps6
  go_wp2_with fail
  refine (is'_yes _ t h0 h1).mono ?_
  rintro e w1 ⟨rfl, rfl⟩
  go_wp2_with fail
  refine (is'_yes _ (t + more) h2 h3).mono ?_
  rintro e w1 ⟨rfl, rfl⟩
  go_wp2_with fail
  refine (HD.out _).mono ?_
  rintro e w1 ⟨rfl, rfl⟩
  go_wp2_with fail
  refine (HD'.out _).mono ?_
  rintro e w1 ⟨rfl, rfl⟩
  go_wp2_with fail
  generalize ((w.alloc (.cells #[.int .i64 y, .int .i64 m, .int .i64 d, .int .i64 h, .int .i64 i, .int .i64 s] 3)).alloc (.cells #[.int .i64 y', .int .i64 m', .int .i64 d', .int .i64 h', .int .i64 i', .int .i64 s'] 3)) = W at *
  go_loopw [19] (fun v wr => ∃ k q : Nat, k ≤ 6 ∧ v = .int .i64 k ∧ wr = W.drewN q ∧ Hid (∀ j, j < k → xl.getD j 0 = zl.getD j 0)) (fun v _ => 6 - (intOf v).toNat)
  case atStart => exact ⟨0, 0, by omega, rfl, rfl, Lib.hid (fun j hj => by omega)⟩
  case round =>
    obtain ⟨k, q, hk, rfl, rfl, HE⟩ := hrel
    by_cases hk6 : k < 6
    case neg =>
      obtain rfl : k = 6 := by omega
      exact (HS.out HE.out).elim
    case pos =>
    have hx1 : W.cell? ⟨w.heap.size, k, none⟩ = some (.int .i64 ((xl.getD k 0 : Nat) : Int)) := (hB1.out.cell k).trans (hbx.out k hk6)
    have hz1 : W.cell? ⟨w.heap.size + 1, k, none⟩ = some (.int .i64 ((zl.getD k 0 : Nat) : Int)) := (hB2.out.cell k).trans (hbz.out k hk6)
    have hL := HL.out k hk6 HE.out
    obtain ⟨a, Ha⟩ : ∃ a, Hid (a = xl.getD k 0) := ⟨_, rfl⟩
    obtain ⟨b, Hb⟩ : ∃ b, Hid (b = zl.getD k 0) := ⟨_, rfl⟩
    rw [← Ha.out] at hx1 hL
    rw [← Hb.out] at hz1 hL
    have hkI : (0 : Int) ≤ (k : Int) := by omega
    have hkI6 : (k : Int) < 6 := by omega
    by_cases hab : a = b
    · have HE2 : Hid (∀ j, j < k + 1 → xl.getD j 0 = zl.getD j 0) := Lib.hid (fun j hj => by
        rcases Nat.lt_or_ge j k with h | h
        · exact HE.out j h
        · obtain rfl : j = k := by omega
          rw [← Ha.out, ← Hb.out, hab])
      subst hab
      clear hL
      go_wp2_with fail
      go_quiet (fail)
      go_wp2_with fail
      go_roundw
      case rel => exact ⟨k + 1, _, by omega, by go_num, rfl, HE2⟩
      case measure => simp [intOf]; omega
    · have hlt := hL hab
      have hq : ((a : Int) != (b : Int)) = true := by rw [bne_iff_ne]; omega
      have hq2 : decide ((a : Int) < (b : Int)) = true := decide_eq_true (by omega)
      clear hL hab
      have hsW := hBW.out.size
      go_wp2_with fail
      go_quiet (fail)
      go_wp2_with fail
      have hxV : (W.drewN (q + nq)).cell? ⟨w.heap.size, k, none⟩ = some (.int .i64 (a : Int)) := hx1
      have hzV : (W.drewN (q + nq)).cell? ⟨w.heap.size + 1, k, none⟩ = some (.int .i64 (b : Int)) := hz1
      have hBV := Lib.hid ((below_drewN hBW.out (q + nq)).drew)
      have hsV : w.heap.size ≤ (W.drewN (q + nq)).heap.size := hsW
      try rw [World.drewN_drewN]
      generalize W.drewN (q + nq) = V at *
      have hw1 : IntKind.i64.wrap (t + more) = t + more := IntWalk.i64_in _ (by omega)
      go_region_law (first
        | (go_simp; go_at_call 13; (with_reducible refine (law_date _ t h0 h1).mono ?_); rintro e w4 ⟨rfl, hb4⟩; go_simp)
        | (go_simp; go_at_call 13; (with_reducible refine (law_date _ (t + more) h2 h3).mono ?_); rintro e w5 ⟨rfl, hb5⟩; go_simp)
        | (go_simp; go_at_call 15; refine (known_any _).mono ?_; rintro e w6 ⟨rfl, hb6⟩; go_simp))
      all_goals
        have hb46 := (hBV.out.trans (hb4.mono hBV.out.size)).trans ((hb5.trans (hb6.mono hb5.size)).mono (Nat.le_trans hBV.out.size hb4.size))
        clear hb4 hb5 hb6 hw1
        go_wp2_with fail
        go_ret
        exact ⟨rfl, hb46⟩

set_option maxRecDepth 100000 in
theorem law_rises (w : World) (t more : Int) :
    Calls Try.prog 6 #[.int .i64 t, .int .i64 more] w fun e w' => e = .returned (.bool true) ∧ Below w.heap.size w w' := by
  by_cases h : -631152000 ≤ t ∧ t ≤ 253402300799
  · obtain ⟨h0, h1⟩ := h
    by_cases hm1 : 1 ≤ more
    · by_cases hm2 : more ≤ 1099511627776
      · by_cases h3 : t + more ≤ 253402300799
        · exact rises_yes w t more h0 h1 hm1 hm2 h3
        · go_enter Try.func6, Try.ntmps6
          go_wp2_with fail
          refine (is'_yes _ t h0 h1).mono ?_
          rintro e w1 ⟨rfl, rfl⟩
          go_wp2_with fail
          refine (is'_no _ (t + more) (by omega)).mono ?_
          rintro e w1 ⟨rfl, rfl⟩
          go_wp2_with fail
          go_ret
          exact ⟨rfl, Below.refl _ _⟩
      · have hq : decide ((1099511627776 : Int) < more) = true := decide_eq_true (by omega)
        go_enter Try.func6, Try.ntmps6
        go_wp2_with fail
        refine (is'_yes _ t h0 h1).mono ?_
        rintro e w1 ⟨rfl, rfl⟩
        go_wp2_with fail
        go_ret
        exact ⟨rfl, Below.refl _ _⟩
    · have hq : decide (more < 1) = true := decide_eq_true (by omega)
      go_enter Try.func6, Try.ntmps6
      go_wp2_with fail
      refine (is'_yes _ t h0 h1).mono ?_
      rintro e w1 ⟨rfl, rfl⟩
      go_wp2_with fail
      go_ret
      exact ⟨rfl, Below.refl _ _⟩
  · go_enter Try.func6, Try.ntmps6
    go_wp2_with fail
    refine (is'_no _ t (by omega)).mono ?_
    rintro e w1 ⟨rfl, rfl⟩
    go_wp2_with fail
    go_ret
    exact ⟨rfl, Below.refl _ _⟩
end Go.Proofs.Ytjhpibbhkdjeiaa
