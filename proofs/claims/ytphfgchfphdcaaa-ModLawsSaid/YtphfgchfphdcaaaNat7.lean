/-
  What is known of bytes and numbers together: there and back.
-/
import Derived.Test.YtphfgchfphdcaaaNat6
import Derived.Laws.IdiomStrings
import Derived.Laws.BytesArg
namespace Go.Proofs.Ytphfgchfphdcaaa
open Go.RowKit
set_option linter.unusedVariables false

theorem words_byte {b : List Nat} (h : Oct b.reverse) {k : Nat} (hk : k < b.length) : byteAt (trl (words b)) k = b.reverse.getD k 0 := by
  unfold byteAt
  rw [trl_at, words_at b (by omega), part_byte h]
/-- The number of bytes, as so many bytes, is those. -/
theorem words_back {b : List Nat} (h : Oct b.reverse) : bytesOf (trl (words b)) b.length = b := by
  symm
  apply bytesOf_eq rfl
  intro j hj
  rw [words_byte h (by omega), rev_at (i := j) (by omega)]
theorem words_fit {b : List Nat} (h : Oct b.reverse) : nb (trl (words b)) ≤ 8 * b.length := by
  rcases hm : (trl (words b)).length with _ | m
  · rw [nb_nil hm]; omega
  · have hlt : m < (b.length + 3) / 4 := by
      have h1 := trl_length (words b)
      have h2 := tlen_le (words b) (words b).length
      have h3 := words_length b
      omega
    rw [nb_succ hm, trl_at, words_at b hlt]
    have hl := part_low h (n := b.length) (m := m) (by omega) (fun k hk => by rw [List.getD, List.getElem?_eq_none (by simpa using hk)]; rfl)
    rcases Nat.lt_or_ge (8 * (b.length - 4 * m)) 64 with h6 | h6
    · have := Lib.bitLen_le _ (8 * (b.length - 4 * m)) (by omega) hl
      omega
    · have := Lib.bitLen_le (part b.reverse 0 m) 32 (by omega) (part_dg h 0 m)
      omega

/-- Bytes as a text. -/
def str (l : List Nat) : ByteArray := ⟨(l.map UInt8.ofNat).toArray⟩
/-- The number of at most 1024 bytes; nothing of more. -/
def numOf (b : List Nat) : List Nat := if 1024 < b.length then [] else trl (words b)
theorem numOf_far {b : List Nat} (h : 1024 < b.length) : numOf b = [] := if_pos h
theorem numOf_near {b : List Nat} (h : ¬ 1024 < b.length) : numOf b = trl (words b) := if_neg h
theorem numOf_dg {b : List Nat} (h : Oct b.reverse) : Dg (numOf b) := by
  unfold numOf
  split
  · intro x hx; cases hx
  · exact trl_dg (words_dg h)
theorem numOf_nrm (b : List Nat) : nrm (numOf b) := by
  unfold numOf
  split
  · exact .inl rfl
  · exact trl_nrm _
theorem numOf_length (b : List Nat) : (numOf b).length ≤ 256 := by
  unfold numOf
  split
  · simp
  · have h1 := trl_length (words b)
    have h2 := tlen_le (words b) (words b).length
    have h3 := words_length b
    omega
theorem fresh_nil (k : IntKind) (T : TypeId) (w : World) (B : Nat) : Fresh k T w B none 0 [] := ⟨Rd.nil_ k w _, fun h => by simp at h⟩

/-- Whether a number goes into so many bytes; those bytes. -/
def fits (l : List Nat) (n : Int) : Bool := decide (0 ≤ n) && decide (n ≤ 2048) && decide ((nb l : Int) ≤ 8 * n)
def out (l : List Nat) (n : Int) : List Nat := if fits l n = true then bytesOf l n.toNat else []
theorem out_oct (l : List Nat) (n : Int) : ∀ x ∈ out l n, x < 256 := by
  intro x hx
  unfold out at hx
  split at hx
  · obtain ⟨i, _, rfl⟩ := List.mem_map.1 hx
    exact byteAt_lt _ _
  · cases hx
end Go.Proofs.Ytphfgchfphdcaaa
