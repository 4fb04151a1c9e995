/-
  Things compared, one of which has no kids.
-/
import Derived.Test.YtjhpibbhkdjeiaaWhen7
import Derived.BigQuiet
import Derived.Deep.QuietTactic
namespace Go.Proofs.Ytjhpibbhkdjeiaa
open Go.RowKit
set_option linter.unusedVariables false

section
variable (w : World) (B B' : Nat) (A A' K : Option Addr) (c c' n n' k kc ta tb : Nat) (l l' : List Nat)
set_option maxRecDepth 100000 in
theorem same_tag (hne : ta ≠ tb) :
    Calls Try.prog 23 #[.agg #[.int .u8 ta, .slice A n c, .slice none 0 0], .agg #[.int .u8 tb, .slice A' n' c', .slice K k kc]] w fun e w' => e = .returned (.bool false) ∧ Below w.heap.size w w' := by
  have h : ((ta : Int) != (tb : Int)) = true := by rw [bne_iff_ne]; omega
  clear hne
  go_enter Try.func23, Try.ntmps23
  go_wp2_with fail
  go_ret
  exact ⟨rfl, ((Below.refl _ _).alloc (Nat.le_refl _) _).alloc (by simp) _⟩
set_option maxRecDepth 100000 in
theorem same_body (hn : l.length = n) (hn' : l'.length = n') (hr : Rd .u8 w B A c l) (hr' : Rd .u8 w B' A' c' l') (hB : B ≤ w.heap.size) (hB' : B' ≤ w.heap.size) (ho : Oct8 l) (ho' : Oct8 l') (hne : l ≠ l') :
    Calls Try.prog 23 #[.agg #[.int .u8 ta, .slice A n c, .slice none 0 0], .agg #[.int .u8 ta, .slice A' n' c', .slice K k kc]] w fun e w' => e = .returned (.bool false) ∧ Below w.heap.size w w' := by
  have HN := Lib.hid hn
  have HN' := Lib.hid hn'
  have HNE := Lib.hid hne
  clear hn hn' hne
  go_enter Try.func23, Try.ntmps23
  go_wp2_with fail
  refine (equal_no _ B B' A A' c c' n n' l l' HN.out HN'.out ((hr.alloc hB _).alloc (Nat.le_trans hB (by simp)) _) ((hr'.alloc hB' _).alloc (Nat.le_trans hB' (by simp)) _) ho ho' HNE.out).mono ?_
  rintro e w1 ⟨rfl, rfl⟩
  go_wp2_with fail
  go_ret
  exact ⟨rfl, ((Below.refl _ _).alloc (Nat.le_refl _) _).alloc (by simp) _⟩
set_option maxRecDepth 100000 in
theorem same_kids (hn : l.length = n) (hr : Rd .u8 w B A c l) (hr' : Rd .u8 w B' A' c' l) (hB : B ≤ w.heap.size) (hB' : B' ≤ w.heap.size) (ho : Oct8 l) (hk : 0 < k) (hkc : k ≤ 1000000) :
    Calls Try.prog 23 #[.agg #[.int .u8 ta, .slice A n c, .slice none 0 0], .agg #[.int .u8 ta, .slice A' n c', .slice K k kc]] w fun e w' => e = .returned (.bool false) ∧ Below w.heap.size w w' := by
  have HN := Lib.hid hn
  have h : ((0 : Int) != (k : Int)) = true := by rw [bne_iff_ne]; omega
  clear hn
  go_enter Try.func23, Try.ntmps23
  go_wp2_with fail
  refine (equal_yes _ B B' A A' c c' n l HN.out ((hr.alloc hB _).alloc (Nat.le_trans hB (by simp)) _) ((hr'.alloc hB' _).alloc (Nat.le_trans hB' (by simp)) _) ho).mono ?_
  rintro e w1 ⟨rfl, rfl⟩
  go_wp2_with fail
  go_ret
  exact ⟨rfl, ((Below.refl _ _).alloc (Nat.le_refl _) _).alloc (by simp) _⟩
set_option maxRecDepth 100000 in
theorem same_all (hn : l.length = n) (hr : Rd .u8 w B A c l) (hr' : Rd .u8 w B' A' c' l) (hB : B ≤ w.heap.size) (hB' : B' ≤ w.heap.size) (ho : Oct8 l) :
    Calls Try.prog 23 #[.agg #[.int .u8 ta, .slice A n c, .slice none 0 0], .agg #[.int .u8 ta, .slice A' n c', .slice K 0 kc]] w fun e w' => e = .returned (.bool true) ∧ Below w.heap.size w w' := by
  have HN := Lib.hid hn
  clear hn
  go_enter Try.func23, Try.ntmps23
  go_wp2_with fail
  refine (equal_yes _ B B' A A' c c' n l HN.out ((hr.alloc hB _).alloc (Nat.le_trans hB (by simp)) _) ((hr'.alloc hB' _).alloc (Nat.le_trans hB' (by simp)) _) ho).mono ?_
  rintro e w1 ⟨rfl, rfl⟩
  go_wp2_with fail
  refine wp_loop_rounds 1 ?_
  rw [rounds_succ]
  go_wp2_with fail
  go_ret
  exact ⟨rfl, ((Below.refl _ _).alloc (Nat.le_refl _) _).alloc (by simp) _⟩

set_option maxRecDepth 100000 in
theorem same'_all (hn : l.length = n) (hr : Rd .u8 w B A c l) (hr' : Rd .u8 w B' A' c' l) (hB : B ≤ w.heap.size) (hB' : B' ≤ w.heap.size) (ho : Oct8 l) :
    Calls Try.prog 11 #[.agg #[.int .u8 ta, .slice A n c, .slice none 0 0], .agg #[.int .u8 ta, .slice A' n c', .slice none 0 0]] w fun e w' => e = .returned (.bool true) ∧ Below w.heap.size w w' := by
  have h1 := conv_str ((hr.alloc hB (.cells #[.int .u8 ta, .slice A n c, .slice none 0 0] 25)).alloc (Nat.le_trans hB (by simp)) (.cells #[.int .u8 ta, .slice A' n c', .slice none 0 0] 25)) hn ho
  have h2 := conv_str ((hr'.alloc hB' (.cells #[.int .u8 ta, .slice A n c, .slice none 0 0] 25)).alloc (Nat.le_trans hB' (by simp)) (.cells #[.int .u8 ta, .slice A' n c', .slice none 0 0] 25)) hn ho
  clear hn
  generalize str l = s at *
  go_enter Try.func11, Try.ntmps11
  go_wp2_with fail
  refine wp_loop_rounds 1 ?_
  rw [rounds_succ]
  go_wp2_with fail
  go_ret
  exact ⟨rfl, ((Below.refl _ _).alloc (Nat.le_refl _) _).alloc (by simp) _⟩
end
end Go.Proofs.Ytjhpibbhkdjeiaa
