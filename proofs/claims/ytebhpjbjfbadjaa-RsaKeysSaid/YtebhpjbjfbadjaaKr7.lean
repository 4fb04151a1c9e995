/-
  A digest in its frame, both ways at once; known answers.
-/
import Derived.Test.YtebhpjbjfbadjaaKr5
import Derived.Test.YtebhpjbjfbadjaaKr6
namespace Go.Proofs.Ytebhpjbjfbadjaa
open Go.RowKit
set_option linter.unusedVariables false
set_option linter.unusedSimpArgs false

def frOk (d : List Nat) (n : Int) : Bool := decide (d.length = 32) && decide (62 ≤ n) && decide (n ≤ 1024)
def frL (d : List Nat) (n : Int) : List Nat := if frOk d n = true then frameL d n.toNat else []
def FrPost (w : World) (L : List Nat) (b : Bool) (m : Nat) (e : Ending) (w' : World) : Prop := ∃ A' c', e = .returned (.tuple #[.slice A' m c', .bool b]) ∧ Rd .u8 w' w'.heap.size A' c' L ∧ Below w.heap.size w w'
theorem frL_oct {d : List Nat} {n : Int} (hd : ∀ x ∈ d, x < 256) : ∀ x ∈ frL d n, x < 256 := fun x hx => by
  unfold frL at hx
  split at hx
  · exact frameL_oct hd x hx
  · cases hx
theorem frame_all (w : World) (A : Option Addr) (c m : Nat) (d : List Nat) (hd : d.length = m) (hr : Rd .u8 w w.heap.size A c d) (n : Int) :
    Calls Try.prog 7 #[.slice A m c, .int .i64 n] w (FrPost w (frL d n) (frOk d n) (frL d n).length) := by
  by_cases h : d.length = 32 ∧ 62 ≤ n ∧ n ≤ 1024
  · have hb : frOk d n = true := by unfold frOk; simp [h]
    have hL : frL d n = frameL d n.toNat := if_pos hb
    obtain ⟨k, rfl⟩ := Int.eq_ofNat_of_zero_le (show 0 ≤ n by omega)
    rw [Int.toNat_natCast] at hL
    rw [hb, hL, frameL_length h.1 (by omega)]
    obtain rfl : m = 32 := by rw [← hd, h.1]
    exact (frame_yes w _ A c d k h.1 hr (Nat.le_refl _) (by omega) (by omega))
  · have hb : frOk d n = false := by
      rw [Bool.eq_false_iff]
      intro hh
      unfold frOk at hh
      simp only [Bool.and_eq_true, decide_eq_true_eq] at hh
      exact h ⟨hh.1.1, hh.1.2, hh.2⟩
    have hL : frL d n = [] := if_neg (by rw [hb]; simp)
    rw [hb, hL]
    refine (frame_no w A c m n (by rw [← hd]; omega)).mono ?_
    rintro e w' ⟨rfl, rfl⟩
    exact ⟨none, 0, rfl, Rd.nil_ _ _ _, Below.refl _ _⟩
theorem frame9_all (w : World) (A : Option Addr) (c m : Nat) (d : List Nat) (hd : d.length = m) (hr : Rd .u8 w w.heap.size A c d) (n : Int) :
    Calls Try.prog 8 #[.slice A m c, .int .i64 n] w (FrPost w (frL d n) (frOk d n) (frL d n).length) := by
  by_cases h : d.length = 32 ∧ 62 ≤ n ∧ n ≤ 1024
  · have hb : frOk d n = true := by unfold frOk; simp [h]
    have hL : frL d n = frameL d n.toNat := if_pos hb
    obtain ⟨k, rfl⟩ := Int.eq_ofNat_of_zero_le (show 0 ≤ n by omega)
    rw [Int.toNat_natCast] at hL
    rw [hb, hL, frameL_length h.1 (by omega)]
    obtain rfl : m = 32 := by rw [← hd, h.1]
    exact (frame9_yes w _ A c d k h.1 hr (Nat.le_refl _) (by omega) (by omega))
  · have hb : frOk d n = false := by
      rw [Bool.eq_false_iff]
      intro hh
      unfold frOk at hh
      simp only [Bool.and_eq_true, decide_eq_true_eq] at hh
      exact h ⟨hh.1.1, hh.1.2, hh.2⟩
    have hL : frL d n = [] := if_neg (by rw [hb]; simp)
    rw [hb, hL]
    refine (frame9_no w A c m n (by rw [← hd]; omega)).mono ?_
    rintro e w' ⟨rfl, rfl⟩
    exact ⟨none, 0, rfl, Rd.nil_ _ _ _, Below.refl _ _⟩

set_option maxRecDepth 100000 in
set_option maxHeartbeats 2000000 in
theorem known9_any (w : World) : Calls Try.prog 13 #[] w fun e w' => e = .returned (.bool true) ∧ Below w.heap.size w w' := by
  have hm := make_bytes (32 : Int) 32 rfl (by omega) w
  obtain ⟨d, hd⟩ : ∃ d, d = List.replicate 32 0 := ⟨_, rfl⟩
  rw [← hd] at hm
  have hH : Holds (w.alloc (.cells (nums .u8 d) 5)) w.heap.size 5 (nums .u8 d) := Holds.fresh w _ _
  have hl : d.length = 32 := by rw [hd]; simp
  obtain ⟨w1, hw1⟩ : ∃ W, W = w.alloc (.cells (nums .u8 d) 5) := ⟨_, rfl⟩
  rw [← hw1] at hm hH
  have hB : Below w.heap.size w w1 := by rw [hw1]; exact (Below.refl _ _).alloc (Nat.le_refl _) _
  have hr : Rd .u8 w1 w1.heap.size (some ⟨w.heap.size, 0, none⟩) 32 d := (rd_whole (c := 32) (show Row .u8 5 w1 w.heap.size d from hH) (by omega) (by omega)).more (Holds.lt hH)
  have HF := Lib.hid (frame_yes w1 _ (some ⟨w.heap.size, 0, none⟩) 32 d 62 hl hr (Nat.le_refl _) (by omega) (by omega))
  have HN := Lib.hid fun W => frame_no W (some ⟨w.heap.size, 0, none⟩) 32 32 61 (.inr (.inl (by omega)))
  have HB := Lib.hid hB
  have HL1 : Hid ((frameL d 62).getD 1 0 = 1 ∧ (frameL d 62).getD 9 0 = 255 ∧ (frameL d 62).getD 10 0 = 0 ∧ (frameL d 62).getD 11 0 = 48 ∧ (frameL d 62).length = 62) := Lib.hid (by rw [hd]; decide)
  clear hw1 hH hl hB hr hd
  go_enter Try.func13, Try.ntmps13
  go_wp2_with fail
  refine HF.out.mono ?_
  rintro e w2 ⟨A2, c2, rfl, hr2, hb2⟩
  have S2 := Lib.hid (HB.out.trans (hb2.mono HB.out.size))
  obtain ⟨g1, g9, g10, g11, gl⟩ := HL1.out
  obtain ⟨b, off, rfl, hlt, hc⟩ := hr2.2.2 (by omega)
  have x1 := hc 1 (by omega)
  have x9 := hc 9 (by omega)
  have x10 := hc 10 (by omega)
  have x11 := hc 11 (by omega)
  rw [g1] at x1
  rw [g9] at x9
  rw [g10] at x10
  rw [g11] at x11
  clear hm hr2 hb2 HF HL1 g1 g9 g10 g11 gl hc HB hlt
  go_wp2_with fail
  refine (HN.out w2).mono ?_
  rintro e w3 ⟨rfl, rfl⟩
  go_wp2_with fail
  go_ret
  exact ⟨rfl, S2.out⟩
end Go.Proofs.Ytebhpjbjfbadjaa
