/-
  The law of a bent block, walked.
-/
import Derived.Test.YtkfokgkehlcikaaNode18
import Derived.Laws.BitsLemmas
namespace Go.Proofs.Ytkfokgkehlcikaa
open Go.RowKit
set_option linter.unusedVariables false
attribute [local go_sem ↓] Go.wp_at_zero Go.wp_at_succ

theorem xor_u8 (a b : Nat) (ha : a < 256) (hb : b < 256) : bits .xor .u8 (a : Int) (b : Int) = ((a ^^^ b : Nat) : Int) := by
  have hx : a ^^^ b < 2 ^ 8 := Nat.xor_lt_two_pow (by omega) (by omega)
  have h1 : (BitVec.ofInt 8 (a : Int)).toNat = a := by
    rw [BitVec.ofInt_natCast, BitVec.toNat_ofNat]; exact Nat.mod_eq_of_lt (by omega)
  have h2 : (BitVec.ofInt 8 (b : Int)).toNat = b := by
    rw [BitVec.ofInt_natCast, BitVec.toNat_ofNat]; exact Nat.mod_eq_of_lt (by omega)
  show IntKind.u8.wrap ((BitVec.ofInt 8 (a : Int) ^^^ BitVec.ofInt 8 (b : Int)).toNat : Int) = _
  rw [BitVec.toNat_xor, h1, h2, IntKind.wrap_u8]
  omega
theorem xor_ne (a b : Nat) (hb : b ≠ 0) : a ^^^ b ≠ a := by
  intro e
  have h : a ^^^ (a ^^^ b) = b := by rw [← Nat.xor_assoc, Nat.xor_self, Nat.zero_xor]
  rw [e, Nat.xor_self] at h
  exact hb h.symm
theorem and63 (x : Int) : ∃ j : Nat, j < 64 ∧ bits .and .i64 x 63 = (j : Int) := by
  have hlt : (BitVec.ofInt 64 x).toNat &&& 63 < 64 := Nat.lt_succ_of_le Nat.and_le_right
  refine ⟨(BitVec.ofInt 64 x).toNat &&& 63, hlt, ?_⟩
  show IntKind.i64.wrap ((BitVec.ofInt 64 x &&& BitVec.ofInt 64 63).toNat : Int) = _
  rw [BitVec.toNat_and, show (BitVec.ofInt 64 63).toNat = 63 from rfl]
  exact IntWalk.i64_in _ (by omega)

/-- Integers that are such places, as naturals. -/
theorem rd_places {w : World} {B : Nat} {A : Option Addr} {c : Nat} {l : List Int} (hr : RdI .i64 w B A c l) (h : ∀ i, i < l.length → 0 ≤ l.getD i 0 ∧ l.getD i 0 ≤ 65535) :
    Rd .i64 w B A c (l.map Int.toNat) ∧ (l.map Int.toNat).map (fun x : Nat => (x : Int)) = l ∧ ∀ x ∈ l.map Int.toNat, x ≤ 65535 := by
  have hat : ∀ i (hi : i < l.length), 0 ≤ l[i] ∧ l[i] ≤ 65535 := fun i hi => by
    have := h i hi
    simpa [List.getD, hi] using this
  refine ⟨⟨by simpa using hr.1, hr.2.1, fun hn => ?_⟩, ?_, ?_⟩
  · obtain ⟨b, off, e, hb, hc⟩ := hr.2.2 (by simpa using hn)
    refine ⟨b, off, e, hb, fun j hj => ?_⟩
    have hj' : j < l.length := by simpa using hj
    rw [hc j hj']
    simp [List.getD, hj', Int.toNat_of_nonneg (hat j hj').1]
  · apply List.ext_getElem (by simp)
    intro i h1 h2
    simp only [List.getElem_map]
    exact Int.toNat_of_nonneg (hat i h2).1
  · intro x hx
    obtain ⟨y, hy, rfl⟩ := List.mem_map.1 hx
    obtain ⟨i, hi, rfl⟩ := List.getElem_of_mem hy
    have := hat i hi
    omega

/-- Two boxes of nodes. -/
def Two (w : World) (g2 g4 : Nat) (s2 s4 : ByteArray) (z2 z4 : Int) (A2 A4 : Option Addr) (n2 n4 c2 c4 : Nat) (p2 p4 : List Nat) (W : World) : Prop :=
  Holds W g2 25 #[.string s2, .int .i64 z2, .slice A2 n2 c2] ∧ Holds W g4 25 #[.string s4, .int .i64 z4, .slice A4 n4 c4] ∧ Rd .i64 W W.heap.size A2 c2 p2 ∧ Rd .i64 W W.heap.size A4 c4 p4 ∧ Below w.heap.size w W
section
variable {w : World} {g2 g4 : Nat} {s2 s4 : ByteArray} {z2 z4 : Int} {A2 A4 : Option Addr} {n2 n4 c2 c4 : Nat} {p2 p4 : List Nat} {W W' : World}
theorem Two.next (h : Two w g2 g4 s2 s4 z2 z4 A2 A4 n2 n4 c2 c4 p2 p4 W) (hb : Below W.heap.size W W') : Two w g2 g4 s2 s4 z2 z4 A2 A4 n2 n4 c2 c4 p2 p4 W' :=
  ⟨h.1.under hb h.1.lt, h.2.1.under hb h.2.1.lt, (h.2.2.1.under hb).more hb.size, (h.2.2.2.1.under hb).more hb.size, h.2.2.2.2.trans (hb.mono h.2.2.2.2.size)⟩
theorem Two.drew (h : Two w g2 g4 s2 s4 z2 z4 A2 A4 n2 n4 c2 c4 p2 p4 W) : Two w g2 g4 s2 s4 z2 z4 A2 A4 n2 n4 c2 c4 p2 p4 W.drew := h.next (below_drewN (Below.refl _ _) 1)
theorem Two.cells (h : Two w g2 g4 s2 s4 z2 z4 A2 A4 n2 n4 c2 c4 p2 p4 W) :
    W.cell? ⟨g2, 0, none⟩ = some (.string s2) ∧ W.cell? ⟨g2, 1, none⟩ = some (.int .i64 z2) ∧ W.cell? ⟨g2, 2, none⟩ = some (.slice A2 n2 c2) ∧
    W.cell? ⟨g4, 0, none⟩ = some (.string s4) ∧ W.cell? ⟨g4, 1, none⟩ = some (.int .i64 z4) ∧ W.cell? ⟨g4, 2, none⟩ = some (.slice A4 n4 c4) ∧ Two w g2 g4 s2 s4 z2 z4 A2 A4 n2 n4 c2 c4 p2 p4 W :=
  ⟨h.1.cell 0, h.1.cell 1, h.1.cell 2, h.2.1.cell 0, h.2.1.cell 1, h.2.1.cell 2, h⟩
end

/-- A block one byte of which is bent: not free, and no node's but another's. -/
theorem bent {b : List Nat} {s : ByteArray} {z : Nat} {p : List Nat} (h : IsNode b s z p) {j x : Nat} (hj : j < 64) (hx : x ≠ b.getD j 0) :
    b.set j x ≠ List.replicate 64 0 ∧ ∀ s' z' p', IsNode (b.set j x) s' z' p' → ¬ (s' = s ∧ z' = z ∧ p' = p) := by
  have hl := h.length
  constructor
  · intro e
    have h0 := h.long
    have hlow := h.ok.name.low
    have h1 := h.at_ (i := 1) (by omega)
    have hc : encAt s z p 1 = s[0].toNat := by
      unfold encAt
      rw [if_neg (by omega), if_pos (by omega)]
      simp [List.getD, show 0 < s.size by omega]
      rfl
    rw [hc] at h1
    have h33 := (h.ok.name.all 0 (by omega)).1
    by_cases hj0 : j = 0
    · have e1 : (b.set j x).getD 1 0 = 0 := by rw [e, noughts_at]
      rw [hj0] at e1
      simp only [List.getD, List.getElem?_set, show ¬ (0 = 1) by omega, if_false] at e1
      simp only [List.getD] at h1
      omega
    · have e1 : (b.set j x).getD 0 0 = 0 := by rw [e, noughts_at]
      simp only [List.getD, List.getElem?_set, hj0, if_false] at e1
      simp only [List.getD] at h0
      omega
  · rintro s' z' p' h' ⟨rfl, rfl, rfl⟩
    have e1 := h'.at_ hj
    have e2 := h.at_ hj
    rw [← e2] at e1
    simp only [List.getD, List.getElem?_set, if_true, hl, hj] at e1
    apply hx
    simpa [List.getD] using e1
end Go.Proofs.Ytkfokgkehlcikaa
