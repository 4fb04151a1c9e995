/-
  What the laws of times say by hand; both dates are one.
-/
import Derived.Test.YtjhpibbhkdjeiaaWhen12
import Derived.ChangeKeysEq
namespace Go.Proofs.Ytjhpibbhkdjeiaa
open Go.RowKit
set_option linter.unusedVariables false
attribute [local go_sem ↓] Go.wp_at_zero Go.wp_at_succ

theorem guard6 : Try.prog.eqGuardType Try.prog.depth 33 = false := by kernel_rfl
theorem int_info : ∃ i, Try.prog.info? 3 = some i := by
  obtain ⟨i, hi, _⟩ := info_parts info_i64
  exact ⟨i, hi⟩
theorem cells_int : Try.prog.cellsOf 3 = 1 := by kernel_rfl
theorem eq_int (d : Nat) (W : World) (a b : Int) : (Op.equalIn (d + 1) 3 (.int .i64 a) (.int .i64 b)).run Try.prog W = .ok (a == b) W := by
  simp [Op.equalIn, run_underlying Try.underlying3]
theorem plain_int : Try.prog.plainKey 3 = true := by kernel_rfl
theorem eq6 (a b c d e f : Int) (W : World) : (Op.equalIn 10000 33 (.agg #[.int .i64 a, .int .i64 b, .int .i64 c, .int .i64 d, .int .i64 e, .int .i64 f]) (.agg #[.int .i64 a, .int .i64 b, .int .i64 c, .int .i64 d, .int .i64 e, .int .i64 f])).run Try.prog W = .ok true W := by
  obtain ⟨i, hi⟩ := int_info
  have hp : ∀ (xs : Array Value) (j : Nat) (v : Value) (W : World), xs[j]? = some v → (Go.part 3 xs j).run Try.prog W = .ok v W := fun xs j v W h => run_part_plain W plain_int h
  have hq : ∀ (W : World) (a : Int), (Op.equalIn 9999 3 (.int .i64 a) (.int .i64 a)).run Try.prog W = .ok true W := fun W a => by
    have := eq_int 9998 W a a
    rw [beq_self_eq_true] at this
    exact this
  refine (run_equalIn_array W 9999 _ _ Try.underlying33 hi).trans ?_
  rw [cells_int]
  have key : ∀ (xs : Array Value) (is : List Nat), (∀ j ∈ is, ∃ v : Int, xs[j]? = some (.int .i64 v)) → ∀ W, (Op.eqItems 9999 3 1 xs xs is).run Try.prog W = .ok true W := by
    intro xs is
    induction is with
    | nil => intro _ W; rfl
    | cons j is ih =>
      intro h W
      obtain ⟨v, hv⟩ := h j (by simp)
      have h1 := hp xs (j * 1) (.int .i64 v) W (by rw [Nat.mul_one]; exact hv)
      have h2 := hq W v
      have h3 := ih (fun k hk => h k (by simp [hk])) W
      simp only [Op.eqItems, Sem.run_bind, h1, Result.andThen_ok, h2, Bool.not_true, Bool.false_eq_true, if_false, h3]
  apply key
  intro j hj
  have : j = 0 ∨ j = 1 ∨ j = 2 ∨ j = 3 ∨ j = 4 ∨ j = 5 := by simp at hj; omega
  rcases this with rfl | rfl | rfl | rfl | rfl | rfl <;> exact ⟨_, rfl⟩

set_option maxRecDepth 100000 in
theorem law_date (w : World) (t : Int) (h0 : -631152000 ≤ t) (h1 : t ≤ 253402300799) :
    Calls Try.prog 13 #[.int .i64 t] w fun e w' => e = .returned (.bool true) ∧ Below w.heap.size w w' := by
  obtain ⟨x, hx⟩ := date_is t h0 h1
  have Hd := fun W => date_yes W t h0 h1 x hx
  have Hd' := fun W => date'_yes W t h0 h1 x hx
  obtain ⟨y, m, d, h, i, s⟩ := x
  unfold Parts6.vals at Hd Hd'
  have HD := Lib.hid Hd
  have HD' := Lib.hid Hd'
  clear Hd Hd' hx
  have g6 := guard6
  have h6 := eq6
  go_enter Try.func13, Try.ntmps13
  go_wp2_with fail
  refine (HD.out _).mono ?_
  rintro e w1 ⟨rfl, rfl⟩
  go_wp2_with fail
  refine (HD'.out _).mono ?_
  rintro e w1 ⟨rfl, hb⟩
  go_wp2_with fail
  go_ret
  exact ⟨rfl, hb⟩
set_option maxRecDepth 100000 in
theorem law_date_no (w : World) (t : Int) (h : t < -631152000 ∨ 253402300799 < t) :
    Calls Try.prog 13 #[.int .i64 t] w fun e w' => e = .returned (.bool true) ∧ Below w.heap.size w w' := by
  go_enter Try.func13, Try.ntmps13
  go_wp2_with fail
  refine (date_no _ t h).mono ?_
  rintro e w1 ⟨rfl, rfl⟩
  have g6 := guard6
  have h6 := eq6
  go_wp2_with fail
  refine (date'_no _ t h).mono ?_
  rintro e w1 ⟨rfl, hb⟩
  go_wp2_with fail
  go_ret
  exact ⟨rfl, hb⟩

theorem zero_date : IsDate 0 ⟨1970, 1, 1, 0, 0, 0⟩ := by
  refine ⟨⟨by decide, by decide, by decide, by decide, by decide⟩, by decide, by decide, by decide, by decide, by decide, ?_⟩
  have : num 1970 1 1 = 719468 := by decide +kernel
  show _ = (num 1970 1 1 : Int) * 86400 + _
  rw [this]
  rfl
theorem zero_is : IsTime 23 [55, 48, 48, 49, 48, 49, 48, 48, 48, 48, 48, 48, 90] 0 0 :=
  ⟨⟨1970, 1, 1, 0, 0, 0⟩, by omega, by omega, zero_date, rfl, rfl, rfl⟩
theorem IsTime.one {tag : Nat} {b : List Nat} {nk : Nat} {t t' : Int} (h : IsTime tag b nk t) (h' : IsTime tag b nk t') : t = t' := by
  obtain ⟨_, _, a⟩ := time_says h
  obtain ⟨_, _, a'⟩ := time_says h'
  rcases a with ⟨h1, _, e⟩ | ⟨h1, _, _, e⟩ <;> rcases a' with ⟨h1', _, e'⟩ | ⟨h1', _, _, e'⟩
  · rw [← e, ← e']
  · omega
  · omega
  · rw [← e, ← e']

set_option maxRecDepth 100000 in
theorem known_any (w : World) : Calls Try.prog 15 #[] w fun e w' => e = .returned (.bool true) ∧ Below w.heap.size w w' := by
  go_enter Try.func15, Try.ntmps15
  go_wp2_with fail
  refine (time_yes _ 0 (by omega) (by omega) _ zero_date 23 13 rfl rfl).mono ?_
  rintro e w1 ⟨A, c, rfl, hr, hb⟩
  go_wp2_with fail
  refine (get_any _ 23 w1.heap.size A c 13 (bodyOf ⟨1970, 1, 1, 0, 0, 0⟩) rfl (hr.alloc (Nat.le_refl _) _) (by simp) (body_oct _) (by omega) none 0 0 (by omega)).mono ?_
  rintro e w2 ⟨hp, hb2⟩
  rcases hp with ⟨t, ht, rfl⟩ | ⟨hn, rfl⟩
  case inr => exact absurd zero_is (hn 0)
  obtain rfl := IsTime.one ht zero_is
  have hbox := (Holds.fresh w1 25 #[.int .u8 23, .slice A 13 c, .slice none 0 0]).under hb2 (by simp)
  have hc := hbox.cell
  have hr2 := (hr.alloc (Nat.le_refl _) (.cells #[.int .u8 23, .slice A 13 c, .slice none 0 0] 25)).under (hb2.mono (by simp))
  have hcv := conv_str hr2 (n := 13) rfl (body_oct _)
  have hs : str (bodyOf ⟨1970, 1, 1, 0, 0, 0⟩) = ⟨#[55, 48, 48, 49, 48, 49, 48, 48, 48, 48, 48, 48, 90]⟩ := rfl
  rw [hs] at hcv
  have hbel : Below w.heap.size w w2 := (hb.alloc hb.size _).trans (hb2.mono (by have := hb.size; simp; omega))
  clear hr hr2 ht hbox hb2 hb hs
  go_wp2_with fail
  refine (is_yes _ 0 (by omega) (by omega)).mono ?_
  rintro e w3 ⟨rfl, rfl⟩
  go_wp2_with fail
  go_ret
  exact ⟨rfl, hbel⟩
end Go.Proofs.Ytjhpibbhkdjeiaa
