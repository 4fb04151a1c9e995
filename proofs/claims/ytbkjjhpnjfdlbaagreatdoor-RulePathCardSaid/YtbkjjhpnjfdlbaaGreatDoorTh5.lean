/-
  Bytes compared: which stands ahead.
-/
import Derived.Test.YtbkjjhpnjfdlbaaGreatDoorTh4
import Derived.Lib.Bytealg
import Derived.Laws.Externs
import Derived.WalkLawsBesides
namespace Go.Proofs.YtbkjjhpnjfdlbaaGreatDoor
open Go.RowKit
set_option linter.unusedVariables false
set_option linter.unusedSimpArgs false

theorem run_loadBytes {P : Program} {w : World} {b : Nat} : ∀ (l : List Nat) (off : Nat) (acc : ByteArray), (∀ j, j < l.length → w.cell? ⟨b, off + j, none⟩ = some (.int .u8 ((l.getD j 0 : Nat) : Int))) →
    (Extern.Bytes.loadBytes ⟨b, off, none⟩ l.length acc).run P w = .ok ⟨acc.data ++ (l.map UInt8.ofNat).toArray⟩ w
  | [], off, acc, _ => by simp [Extern.Bytes.loadBytes]
  | x :: l, off, acc, h => by
    have h0 : w.cell? ⟨b, off, none⟩ = some (.int .u8 (x : Int)) := h 0 (by simp)
    have ih := run_loadBytes (P := P) l (off + 1) (acc.push (UInt8.ofNat x)) (fun j hj => by
      have := h (j + 1) (by simpa using hj)
      rw [show off + 1 + j = off + (j + 1) by omega]
      simpa using this)
    have ha : (⟨b, off, none⟩ : Addr).add 1 = ⟨b, off + 1, none⟩ := by unfold Addr.add; simp
    rw [List.length_cons, Extern.Bytes.loadBytes]
    simp only [Sem.run_bind]
    rw [show (load ⟨b, off, none⟩).run P w = .ok (.int .u8 (x : Int)) w from by go_simp]
    simp only [Result.andThen]
    rw [ha, show (x : Int).toNat.toUInt8 = UInt8.ofNat x from rfl, ih]
    simp [ByteArray.push]
theorem run_bytesOf {P : Program} {w : World} {B : Nat} {A : Option Addr} {c n : Nat} {l : List Nat} (hr : Rd .u8 w B A c l) (hn : l.length = n) : (Extern.Bytes.bytesOf (.slice A n c)).run P w = .ok (str l) w := by
  subst hn
  rcases Nat.eq_zero_or_pos l.length with h0 | h0
  · obtain rfl := List.eq_nil_of_length_eq_zero h0
    rcases A with _ | a
    · simp [Extern.Bytes.bytesOf, str]; rfl
    · simp [Extern.Bytes.bytesOf, Extern.Bytes.loadBytes, str]; rfl
  · obtain ⟨b, off, rfl, hb, hc⟩ := hr.2.2 h0
    simp only [Extern.Bytes.bytesOf]
    rw [run_loadBytes l off _ hc]
    simp [str]
/-- How two rows of bytes stand. -/
def lexB : List Nat → List Nat → Bool
  | _, [] => false
  | [], _ :: _ => true
  | a :: x, b :: y => decide (a < b) || (decide (a = b) && lexB x y)
theorem u8_lt {a b : Nat} (ha : a < 256) (hb : b < 256) : (UInt8.ofNat a < UInt8.ofNat b) = (a < b) := by
  simp [UInt8.lt_iff_toNat_lt, Nat.mod_eq_of_lt ha, Nat.mod_eq_of_lt hb]
theorem u8_eq {a b : Nat} (ha : a < 256) (hb : b < 256) : (UInt8.ofNat a = UInt8.ofNat b) = (a = b) := by
  rw [← UInt8.toNat_inj]
  simp [Nat.mod_eq_of_lt ha, Nat.mod_eq_of_lt hb]
theorem less_lex : ∀ (l l' : List Nat), (∀ x ∈ l, x < 256) → (∀ x ∈ l', x < 256) → Op.bytesLess (l.map UInt8.ofNat) (l'.map UInt8.ofNat) = lexB l l'
  | [], [], _, _ => by simp [Op.bytesLess, lexB]
  | _ :: _, [], _, _ => by simp [Op.bytesLess, lexB]
  | [], _ :: _, _, _ => by simp [Op.bytesLess, lexB]
  | a :: l, b :: l', h, h' => by
    have ih := less_lex l l' (fun x hx => h x (by simp [hx])) (fun x hx => h' x (by simp [hx]))
    have ha := h a (by simp)
    have hb := h' b (by simp)
    rw [List.map_cons, List.map_cons, Op.bytesLess, lexB, ih]
    congr 1
    · simp only [u8_lt ha hb]
    · congr 1
      rw [Bool.eq_iff_iff, beq_iff_eq, decide_eq_true_iff, u8_eq ha hb]
theorem comp_lex : ∀ (l l' : List Nat), (∀ x ∈ l, x < 256) → (∀ x ∈ l', x < 256) → (decide ((0 : Int) ≤ Lib.compareBytes (l.map UInt8.ofNat) (l'.map UInt8.ofNat)) = !lexB l l')
  | [], [], _, _ => by simp [Lib.compareBytes, lexB]
  | _ :: _, [], _, _ => by simp [Lib.compareBytes, lexB]
  | [], _ :: _, _, _ => by simp [Lib.compareBytes, lexB]
  | a :: l, b :: l', h, h' => by
    have ih := comp_lex l l' (fun x hx => h x (by simp [hx])) (fun x hx => h' x (by simp [hx]))
    have ha := h a (by simp)
    have hb := h' b (by simp)
    rw [List.map_cons, List.map_cons, Lib.compareBytes, lexB]
    simp only [u8_lt ha hb, u8_lt hb ha]
    rcases Nat.lt_trichotomy a b with h1 | h1 | h1
    · simp [h1]
    · subst h1; simpa using ih
    · rw [if_neg (by omega), if_pos h1]
      have : ¬ a < b := by omega
      have : ¬ a = b := by omega
      simp [*]
theorem str_data (l : List Nat) : (str l).toList = l.map UInt8.ofNat := by
  rw [Lib.toList_data]; simp [str]
/-- bytes.Compare. -/
def cmpB (l l' : List Nat) : Int := Lib.compareBytes (l.map UInt8.ofNat) (l'.map UInt8.ofNat)
end Go.Proofs.YtbkjjhpnjfdlbaaGreatDoor
