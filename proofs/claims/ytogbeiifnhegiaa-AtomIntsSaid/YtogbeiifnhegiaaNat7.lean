/-
  What is known of bytes and numbers together: there and back.
-/
import Derived.Test.YtogbeiifnhegiaaNat6
import Derived.Laws.IdiomStrings
import Derived.Laws.BytesArg
namespace Go.Proofs.Ytogbeiifnhegiaa
open Go.RowKit
set_option linter.unusedVariables false

theorem words_byte {b : List Nat} (h : Oct b.reverse) {k : Nat} (hk : k < b.length) : byteAt (trl (words b)) k = b.reverse.getD k 0 := by
  unfold byteAt
  rw [trl_at, words_at b (by omega), part_byte h]
/-- The number of bytes, as so many bytes, is those. -/
theorem words_back {b : List Nat} (h : Oct b.reverse) : bytesOf (trl (words b)) b.length = b := by
  symm
  apply bytesOf_eq rfl
  intro j hj
  rw [words_byte h (by omega), rev_at (i := j) (by omega)]
theorem words_fit {b : List Nat} (h : Oct b.reverse) : nb (trl (words b)) ≤ 8 * b.length := by
  rcases hm : (trl (words b)).length with _ | m
  · rw [nb_nil hm]; omega
  · have hlt : m < (b.length + 3) / 4 := by
      have h1 := trl_length (words b)
      have h2 := tlen_le (words b) (words b).length
      have h3 := words_length b
      omega
    rw [nb_succ hm, trl_at, words_at b hlt]
    have hl := part_low h (n := b.length) (m := m) (by omega) (fun k hk => by rw [List.getD, List.getElem?_eq_none (by simpa using hk)]; rfl)
    rcases Nat.lt_or_ge (8 * (b.length - 4 * m)) 64 with h6 | h6
    · have := Lib.bitLen_le _ (8 * (b.length - 4 * m)) (by omega) hl
      omega
    · have := Lib.bitLen_le (part b.reverse 0 m) 32 (by omega) (part_dg h 0 m)
      omega

/-- The number of at most 1024 bytes; nothing of more. -/
def numOf (b : List Nat) : List Nat := if 1024 < b.length then [] else trl (words b)
theorem numOf_far {b : List Nat} (h : 1024 < b.length) : numOf b = [] := if_pos h
theorem numOf_near {b : List Nat} (h : ¬ 1024 < b.length) : numOf b = trl (words b) := if_neg h
theorem numOf_dg {b : List Nat} (h : Oct b.reverse) : Dg (numOf b) := by
  unfold numOf
  split
  · intro x hx; cases hx
  · exact trl_dg (words_dg h)
theorem numOf_nrm (b : List Nat) : nrm (numOf b) := by
  unfold numOf
  split
  · exact .inl rfl
  · exact trl_nrm _
theorem numOf_length (b : List Nat) : (numOf b).length ≤ 256 := by
  unfold numOf
  split
  · simp
  · have h1 := trl_length (words b)
    have h2 := tlen_le (words b) (words b).length
    have h3 := words_length b
    omega
theorem fresh_nil (k : IntKind) (T : TypeId) (w : World) (B : Nat) : Fresh k T w B none 0 [] := ⟨Rd.nil_ k w _, fun h => by simp at h⟩

set_option maxRecDepth 100000 in
theorem of_all (w : World) (B : Nat) (A : Option Addr) (c : Nat) (l : List Nat) (hr : Rd .u8 w B A c l) (hB : B ≤ w.heap.size) (ho : Oct l.reverse) :
    Calls Try.prog 19 #[.slice A l.length c] w fun e w' => ∃ A2 c2, e = .returned (.slice A2 (numOf l).length c2) ∧ Fresh .u32 40 w' w.heap.size A2 c2 (numOf l) ∧ Below w.heap.size w w' := by
  by_cases h : 1024 < l.length
  · rw [numOf_far h]
    go_enter Try.func19, Try.ntmps19
    go_wp2_with fail
    go_ret
    exact ⟨none, 0, rfl, fresh_nil _ _ _ _, Below.refl _ _⟩
  · rw [numOf_near h]
    exact of_any w B A c l hr hB ho (by omega)
set_option maxRecDepth 100000 in
theorem of'_all (w : World) (B : Nat) (A : Option Addr) (c : Nat) (l : List Nat) (hr : Rd .u8 w B A c l) (hB : B ≤ w.heap.size) (ho : Oct l.reverse) :
    Calls Try.prog 21 #[.slice A l.length c] w fun e w' => ∃ A2 c2, e = .returned (.slice A2 (numOf l).length c2) ∧ Fresh .u32 40 w' w.heap.size A2 c2 (numOf l) ∧ Below w.heap.size w w' := by
  by_cases h : 1024 < l.length
  · rw [numOf_far h]
    go_enter Try.func21, Try.ntmps21
    go_wp2_with fail
    go_ret
    exact ⟨none, 0, rfl, fresh_nil _ _ _ _, Below.refl _ _⟩
  · rw [numOf_near h]
    exact of'_any w B A c l hr hB ho (by omega)

/-- Whether a number goes into so many bytes; those bytes. -/
def fits (l : List Nat) (n : Int) : Bool := decide (0 ≤ n) && decide (n ≤ 2048) && decide ((nb l : Int) ≤ 8 * n)
def out (l : List Nat) (n : Int) : List Nat := if fits l n = true then bytesOf l n.toNat else []
theorem out_oct (l : List Nat) (n : Int) : ∀ x ∈ out l n, x < 256 := by
  intro x hx
  unfold out at hx
  split at hx
  · obtain ⟨i, _, rfl⟩ := List.mem_map.1 hx
    exact byteAt_lt _ _
  · cases hx
theorem bytes_all (w : World) (B : Nat) (A : Option Addr) (c m : Nat) (l : List Nat) (hr : Rd .u32 w B A c l) (hm : l.length = m) (hB : B ≤ w.heap.size) (hd : Dg l) (hn : nrm l) (hs : l.length ≤ 5000) (n : Int) :
    Calls Try.prog 16 #[.slice A m c, .int .i64 n] w fun e w' => ∃ A2 c2, e = .returned (.tuple #[.slice A2 (out l n).length c2, .bool (fits l n)]) ∧ Fresh .u8 5 w' w.heap.size A2 c2 (out l n) ∧ Below w.heap.size w w' := by
  by_cases h : fits l n = true
  · have h' := h
    simp only [fits, Bool.and_eq_true, decide_eq_true_eq] at h'
    obtain ⟨⟨h0, h1⟩, h2⟩ := h'
    obtain ⟨k, rfl⟩ := Int.eq_ofNat_of_zero_le h0
    refine (bytes_yes w B A c m l hr hm hB hd hs k (by omega) (by rw [trl_id hn]; omega)).mono ?_
    rintro e w' ⟨A2, rfl, hf, hb⟩
    have ho : out l (k : Int) = bytesOf l k := by rw [out, if_pos h, Int.toNat_natCast]
    exact ⟨A2, k, by rw [ho, bytesOf_length, h], by rw [ho]; exact hf, hb⟩
  · have hf : fits l n = false := by simpa using h
    have h' : n < 0 ∨ 2048 < n ∨ 8 * n < (nb (trl l) : Int) := by
      rw [trl_id hn]
      simp only [fits, Bool.and_eq_true, decide_eq_true_eq] at h
      omega
    refine (bytes_no w B A c m l hr hm hd hs n h').mono ?_
    rintro e w' ⟨rfl, rfl⟩
    have ho : out l n = [] := by rw [out, if_neg h]
    exact ⟨none, 0, by rw [ho, hf]; rfl, by rw [ho]; exact fresh_nil _ _ _ _, Below.refl _ _⟩
theorem bytes'_all (w : World) (B : Nat) (A : Option Addr) (c : Nat) (l : List Nat) (hr : Rd .u32 w B A c l) (hB : B ≤ w.heap.size) (hd : Dg l) (hs : l.length ≤ 5000) (n : Int) :
    Calls Try.prog 22 #[.slice A l.length c, .int .i64 n] w fun e w' => ∃ A2 c2, e = .returned (.tuple #[.slice A2 (out l n).length c2, .bool (fits l n)]) ∧ Fresh .u8 5 w' w.heap.size A2 c2 (out l n) ∧ Below w.heap.size w w' := by
  by_cases h : fits l n = true
  · have h' := h
    simp only [fits, Bool.and_eq_true, decide_eq_true_eq] at h'
    obtain ⟨⟨h0, h1⟩, h2⟩ := h'
    obtain ⟨k, rfl⟩ := Int.eq_ofNat_of_zero_le h0
    refine (bytes'_yes w B A c _ l hr rfl hB hd hs k (by omega) (by omega)).mono ?_
    rintro e w' ⟨A2, rfl, hf, hb⟩
    have ho : out l (k : Int) = bytesOf l k := by rw [out, if_pos h, Int.toNat_natCast]
    exact ⟨A2, k, by rw [ho, bytesOf_length, h], by rw [ho]; exact hf, hb⟩
  · have hf : fits l n = false := by simpa using h
    have h' : n < 0 ∨ 2048 < n ∨ 8 * n < (nb l : Int) := by
      simp only [fits, Bool.and_eq_true, decide_eq_true_eq] at h
      omega
    refine (bytes'_no w B A c l hr hd hs n h').mono ?_
    rintro e w' ⟨rfl, rfl⟩
    have ho : out l n = [] := by rw [out, if_neg h]
    exact ⟨none, 0, by rw [ho, hf]; rfl, by rw [ho]; exact fresh_nil _ _ _ _, Below.refl _ _⟩
end Go.Proofs.Ytogbeiifnhegiaa
