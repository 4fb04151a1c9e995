/-
  A map of names; a row of truths: what the program's room keeps.
-/
import Derived.Test.YtkfokgkehlcikaaRoom6
import Derived.Maps.Own
import Derived.Maps.Views
import Derived.Maps.OwnOps
import Derived.Maps.OwnSet
import Derived.Laws.MakeOwn
namespace Go.Proofs.Ytkfokgkehlcikaa
open Go.RowKit Go.WideMaps Go.Maps
set_option linter.unusedVariables false

theorem law : Keyed Try.prog 9 := string_keyed Try.underlying9
theorem zeroI (w : World) : (zeroValue 3).run Try.prog w = .ok (.int .i64 0) w := by kernel_rfl
/-- Block b is a map that has 1 at each of these. -/
def MapTo (w : World) (b k : Nat) (ls : List (List UInt8)) : Prop :=
  ∃ D : DataW Unit, w.ownsMap Try.prog 9 (plainElem Try.prog 3) b k D ∧ ∀ s : List UInt8, D.atKey (.string s) (.lit (.int .i64 0)) = .lit (.int .i64 (if s ∈ ls then 1 else 0))
theorem mapTo_made (w : World) : MapTo (w.alloc (.map #[] 0)) w.heap.size 0 [] := ⟨.map [], World.ownsMap_made _ _ _ _, fun s => rfl⟩
theorem mapTo_lt {w : World} {b k : Nat} {ls : List (List UInt8)} (h : MapTo w b k ls) : b < w.heap.size := by obtain ⟨D, h, _⟩ := h; exact h.lt
theorem mapTo_keep {w w' : World} {b k : Nat} {ls : List (List UInt8)} (h : MapTo w b k ls) (hb : w'.heap[b]? = w.heap[b]?) : MapTo w' b k ls := by
  obtain ⟨D, ⟨es, clock, hw, r⟩, hat⟩ := h
  exact ⟨D, ⟨es, clock, hb.trans hw, r⟩, hat⟩
theorem mapTo_look {w : World} {b k : Nat} {ls : List (List UInt8)} (h : MapTo w b k ls) (s : ByteArray) (hs : s.size ≤ 9223372036854775807) :
    (Instr.lookup 60 (.map (some b)) (.string s) false).run Try.prog w = .ok (.int .i64 (if s.data.toList ∈ ls then 1 else 0)) w := by
  obtain ⟨D, hown, hat⟩ := h
  obtain ⟨c, hrun, hat', _⟩ := hown.lookup_int law Try.underlying60 Try.underlying3 (zeroI _) (keyOf_string_mk Try.underlying9 (s := s) (by unfold maxLen; omega))
  rw [hat] at hat'
  injection hat' with e
  injection e with _ e
  rw [hrun, e]
theorem mapTo_put {w : World} {b k : Nat} {ls : List (List UInt8)} {D : DataW Unit} {s : List UInt8} (hm : IsMap D) (hat : ∀ s : List UInt8, D.atKey (.string s) (.lit (.int .i64 0)) = .lit (.int .i64 (if s ∈ ls then 1 else 0)))
    (hown : w.ownsMap Try.prog 9 (plainElem Try.prog 3) b k (D.put (.string s) (.lit (.int .i64 1)))) : MapTo w b k (ls ++ [s]) := by
  refine ⟨_, hown, fun t => ?_⟩
  by_cases e : t = s
  · subst e
    rw [atKey_put_same hm (k := .string t) trivial]
    simp
  · rw [atKey_put_other (by intro h; injection h with h; exact e h), hat]
    simp [e]

/-- Truths of the first m numbers. -/
def bits (m : Nat) (f : Nat → Bool) : Array Value := ((List.range m).map fun x => Value.bool (f x)).toArray
theorem bits_size (m : Nat) (f : Nat → Bool) : (bits m f).size = m := by simp [bits]
theorem bits_at {m : Nat} (f : Nat → Bool) {i : Nat} (h : i < m) : (bits m f)[i]? = some (.bool (f i)) := by simp [bits, h]
theorem bits_set {m : Nat} (f : Nat → Bool) {i : Nat} (h : i < m) : (bits m f).setIfInBounds i (.bool true) = bits m (fun x => x == i || f x) := by
  apply Array.ext'
  simp only [bits, Array.toList_setIfInBounds]
  apply List.ext_getElem
  · simp
  · intro j h1 h2
    by_cases e : j = i
    · subst e; simp
    · rw [List.getElem_set_ne (by omega)]
      simp [e]
theorem bits_made (m : Nat) : madeCells #[.bool false] m = bits m (fun _ => false) := by
  apply Array.ext'
  simp only [bits, madeCells]
  apply List.ext_getElem <;> simp [Nat.mod_one]
theorem info_bool : (Try.prog.info? 4).map (fun i => (i.zero, i.size, i.bytes)) = some (some (.bool false), 1, 1) := by kernel_rfl
theorem make_bits (n : Nat) (h2 : n ≤ 2000) (W : World) : (Instr.makeSlice 61 (.int .i64 (n : Int)) (.int .i64 (n : Int))).run Try.prog W = .ok (.slice (some ⟨W.heap.size, 0, none⟩) n n) (W.alloc (.cells (bits n fun _ => false) 4)) := by
  obtain ⟨i, hi, hz, hsize, hbytes⟩ := info_parts info_bool
  have h := run_make (P := Try.prog) W 61 4 i (.bool false) Try.underlying61 hi hz .i64 .i64 n n (by omega) (Int.le_refl _) (by rw [hbytes]; omega) (by omega)
  rw [h, hsize, Nat.mul_one, Int.toNat_natCast]
  rw [show (Value.bool false).cells = #[.bool false] from rfl, bits_made]
/-- The names of the first k. -/
def namesOf (l : List Nd) (k : Nat) : List (List UInt8) := (l.take k).map fun d => d.name.data.toList
theorem namesOf_succ {l : List Nd} {k : Nat} (h : k < l.length) : namesOf l (k + 1) = namesOf l k ++ [(l.getD k default).name.data.toList] := by
  unfold namesOf
  rw [List.take_add_one, List.map_append]
  simp [List.getD, h]
theorem mem_namesOf {l : List Nd} {k : Nat} (hk : k ≤ l.length) {s : ByteArray} : s.data.toList ∈ namesOf l k ↔ ∃ j, j < k ∧ (l.getD j default).name = s := by
  unfold namesOf
  constructor
  · intro h
    obtain ⟨d, hd, e⟩ := List.mem_map.1 h
    obtain ⟨j, hj, e2⟩ := List.getElem_of_mem hd
    have hjk : j < k := by simp at hj; omega
    refine ⟨j, hjk, ?_⟩
    have : (l.getD j default) = d := by rw [← e2]; simp [List.getD, show j < l.length by omega]
    rw [this]
    exact ByteArray.ext (Array.ext' e)
  · rintro ⟨j, hj, rfl⟩
    refine List.mem_map.2 ⟨l.getD j default, ?_, rfl⟩
    rw [List.mem_iff_getElem]
    exact ⟨j, by simp; omega, by simp [List.getD, show j < l.length by omega]⟩
end Go.Proofs.Ytkfokgkehlcikaa
