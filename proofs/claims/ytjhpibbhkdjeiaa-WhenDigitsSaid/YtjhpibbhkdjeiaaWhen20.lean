/-
  Any thing's time, by the document.
-/
import Derived.Test.YtjhpibbhkdjeiaaWhen19
namespace Go.Proofs.Ytjhpibbhkdjeiaa
open Go.RowKit
set_option linter.unusedVariables false

theorem not_time {tag : Nat} {b : List Nat} {nk : Nat} (h : ¬ (nk = 0 ∧ ((tag = 23 ∧ b.length = 13) ∨ (tag = 24 ∧ b.length = 15)))) (t : Int) : ¬ IsTime tag b nk t := fun ht => by
  obtain ⟨_, h0, ⟨h1, h2, _⟩ | ⟨h1, h2, _⟩⟩ := time_says ht
  · exact h ⟨h0, .inl ⟨h1, h2⟩⟩
  · exact h ⟨h0, .inr ⟨h1, h2⟩⟩

set_option maxRecDepth 100000 in
set_option maxHeartbeats 2000000 in
theorem get'_any (w : World) (tag : Nat) (B : Nat) (A : Option Addr) (c n : Nat) (b : List Nat) (hn : b.length = n) (hr : Rd .u8 w B A c b) (hB : B ≤ w.heap.size) (ho : Oct8 b) (ht : tag < 256) (K : Option Addr) (nk kc : Nat) (hnk : nk ≤ 1000000) (hn6 : n ≤ 1000000) :
    Calls Try.prog 16 #[.agg #[.int .u8 tag, .slice A n c, .slice K nk kc]] w (GetPost w tag b nk) := by
  by_cases hy : nk = 0 ∧ ((tag = 23 ∧ b.length = 13) ∨ (tag = 24 ∧ b.length = 15))
  · obtain ⟨rfl, ⟨rfl, h13⟩ | ⟨rfl, h15⟩⟩ := hy
    · obtain ⟨bl, off, rfl, _, _⟩ := hr.2.2 (by omega)
      obtain rfl : n = 13 := by omega
      exact get'_short w B bl off c b h13 hr hB ho K kc
    · obtain ⟨bl, off, rfl, _, _⟩ := hr.2.2 (by omega)
      obtain rfl : n = 15 := by omega
      exact get'_long w B bl off c b h15 hr hB ho K kc
  · have HNT := Lib.hid (not_time hy)
    have hbel : Below w.heap.size w (w.alloc (.cells #[.int .u8 tag, .slice A n c, .slice K nk kc] 25)) := (Below.refl _ _).alloc (Nat.le_refl _) _
    by_cases h23 : tag = 23
    · subst h23
      by_cases hk : 0 < nk
      · have hq : decide ((0 : Int) < (nk : Int)) = true := decide_eq_true (by omega)
        clear hy hn
        go_enter Try.func16, Try.ntmps16
        go_wp2_with fail
        go_ret2
        exact get_none HNT.out hbel
      · obtain rfl : nk = 0 := by omega
        have hq : ((n : Int) != 13) = true := by rw [bne_iff_ne]; intro e; exact hy ⟨rfl, .inl ⟨rfl, by omega⟩⟩
        clear hy hn
        go_enter Try.func16, Try.ntmps16
        go_wp2_with fail
        go_ret2
        exact get_none HNT.out hbel
    · by_cases h24 : tag = 24
      · subst h24
        by_cases hk : 0 < nk
        · have hq : decide ((0 : Int) < (nk : Int)) = true := decide_eq_true (by omega)
          clear hy hn h23
          go_enter Try.func16, Try.ntmps16
          go_wp2_with fail
          go_ret2
          exact get_none HNT.out hbel
        · obtain rfl : nk = 0 := by omega
          have hq : ((n : Int) != 15) = true := by rw [bne_iff_ne]; intro e; exact hy ⟨rfl, .inr ⟨rfl, by omega⟩⟩
          clear hy hn h23
          go_enter Try.func16, Try.ntmps16
          go_wp2_with fail
          go_ret2
          exact get_none HNT.out hbel
      · have q1 : ((tag : Int) == 24) = false := by rw [beq_eq_false_iff_ne]; omega
        have q2 : ((tag : Int) != 23) = true := by rw [bne_iff_ne]; omega
        have q3 : ((tag : Int) != 24) = true := by rw [bne_iff_ne]; omega
        clear hy hn h23 h24
        go_enter Try.func16, Try.ntmps16
        go_wp2_with fail
        go_ret2
        exact get_none HNT.out hbel
theorem GetPost.one {w w1 w' w1' : World} {tag : Nat} {b : List Nat} {nk : Nat} {e e' : Ending} (h : GetPost w tag b nk e w') (h' : GetPost w1 tag b nk e' w1') : e = e' := by
  obtain ⟨⟨t, ht, rfl⟩ | ⟨hn, rfl⟩, _⟩ := h <;> obtain ⟨⟨t', ht', rfl⟩ | ⟨hn', rfl⟩, _⟩ := h'
  · rw [IsTime.one ht ht']
  · exact absurd ht (hn' t)
  · exact absurd ht' (hn t')
  · rfl
end Go.Proofs.Ytjhpibbhkdjeiaa
