/-
  Whether a thing may be: by the document.
-/
import Derived.Test.YtogbeiifnhegiaaTlv8
namespace Go.Proofs.Ytogbeiifnhegiaa
open Go.RowKit
set_option linter.unusedVariables false
set_option linter.unusedSimpArgs false

/-- Its own tag and parts are such. -/
def ok1 (tag bl n : Nat) : Bool := tagOk tag && !(parted tag && decide (0 < bl)) && !(!parted tag && decide (0 < n))
mutual
def Tr.sound : Tr → Nat → Bool
  | .mk tag body kids, d => ok1 tag body.length kids.length && decide (d ≤ 12) && Tr.sounds kids (d + 1)
def Tr.sounds : List Tr → Nat → Bool
  | [], _ => true
  | x :: r, d => x.sound d && Tr.sounds r d
end
theorem Tr.sounds_iff : ∀ {l : List Tr} {d : Nat}, Tr.sounds l d = true ↔ ∀ j, j < l.length → (l.getD j default).sound d = true
  | [], d => by simp [Tr.sounds]
  | x :: r, d => by
    rw [Tr.sounds, Bool.and_eq_true, Tr.sounds_iff (l := r)]
    constructor
    · rintro ⟨h1, h2⟩ j hj
      rcases j with _ | j
      · simpa [List.getD] using h1
      · have := h2 j (by simpa using hj)
        simpa [List.getD] using this
    · intro h
      refine ⟨by simpa [List.getD] using h 0 (by simp), fun j hj => ?_⟩
      have := h (j + 1) (by simpa using hj)
      simpa [List.getD] using this
theorem Tr.sounds_not {l : List Tr} {d j : Nat} (hj : j < l.length) (h : (l.getD j default).sound d = false) : Tr.sounds l d = false := by
  cases e : Tr.sounds l d
  · rfl
  · have := Tr.sounds_iff.1 e j hj
    rw [h] at this
    cases this
def RelB (w : World) (cs : Array Value) (l : List Tr) (d n : Nat) (i : Value) (wr : World) : Prop :=
  ∃ k : Nat, k ≤ n ∧ i = .int .i64 k ∧ Hid (∀ j, j < k → (l.getD j default).sound d = true) ∧ Hid (Below w.heap.size w wr) ∧ Hid (Holds wr w.heap.size 29 cs)
end Go.Proofs.Ytogbeiifnhegiaa
