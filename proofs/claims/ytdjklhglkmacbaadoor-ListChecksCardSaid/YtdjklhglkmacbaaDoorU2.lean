/-
  Bytes that are text: said by the bytes alone; eight at once.
-/
import Derived.Test.YtdjklhglkmacbaaDoorU1
import Derived.Test.YtdjklhglkmacbaaDoorStr
import Derived.Lib.ValidAsc
import Derived.Lib.ValidLaws
import Derived.Lib.RuneCountTail
namespace Go.Proofs.YtdjklhglkmacbaaDoor
open Go.RowKit
set_option linter.unusedVariables false
set_option linter.unusedSimpArgs false

/-- Are these bytes text? -/
def vd (l : List Nat) : Bool := Lib.validD (l.map UInt8.ofNat)
theorem u8_nat {x : Nat} (h : x < 256) : (UInt8.ofNat x).toNat = x := by simp [UInt8.toNat_ofNat, Nat.mod_eq_of_lt h]
theorem vd_nil : vd [] = true := Lib.validD_nil
theorem vd_skip (k : Nat) (l : List Nat) (ho : ∀ x ∈ l, x < 256) (h : ∀ x ∈ l.take k, x < 128) : vd (l.drop k) = vd l := by
  unfold vd
  rw [Lib.validD_ascii k (l.map UInt8.ofNat) (fun b hb => by
    rw [← List.map_take] at hb
    obtain ⟨x, hx, rfl⟩ := List.mem_map.1 hb
    rw [u8_nat (ho x (List.mem_of_mem_take hx))]
    exact h x hx), List.map_drop]
theorem u8_at (l : List Nat) (ho : ∀ x ∈ l, x < 256) (j : Nat) : ((l.map UInt8.ofNat).getD j 0).toNat = l.getD j 0 := by
  by_cases hj : j < l.length
  · simp only [List.getD, List.getElem?_map, List.getElem?_eq_getElem hj, Option.map_some, Option.getD_some]
    exact u8_nat (ho _ (List.getElem_mem hj))
  · simp [List.getD, List.getElem?_eq_none (Nat.le_of_not_lt hj)]
theorem vd_lead (l : List Nat) (ho : ∀ x ∈ l, x < 256) (h0 : 128 ≤ l.getD 0 0) :
    vd l = match Lib.checkN l.length (l.getD 1 0) (l.getD 2 0) (l.getD 3 0) (Lib.firstT (l.getD 0 0) % 8) (Lib.accLo (Lib.firstT (l.getD 0 0) / 16)) (Lib.accHi (Lib.firstT (l.getD 0 0) / 16)) with
      | none => false
      | some k => vd (l.drop k) := by
  have hne : l.map UInt8.ofNat ≠ [] := fun h => by
    have : l = [] := by simpa using h
    subst this
    simp at h0
  have h := Lib.validD_lead (l.map UInt8.ofNat) hne (by rw [u8_at l ho]; exact h0)
  rw [u8_at l ho, u8_at l ho, u8_at l ho, u8_at l ho, List.length_map] at h
  unfold vd
  rw [h]
  rcases Lib.checkN l.length (l.getD 1 0) (l.getD 2 0) (l.getD 3 0) (Lib.firstT (l.getD 0 0) % 8) (Lib.accLo (Lib.firstT (l.getD 0 0) / 16)) (Lib.accHi (Lib.firstT (l.getD 0 0) / 16)) with _ | k
  · rfl
  · show Lib.validD _ = Lib.validD _
    rw [List.map_drop]
/-- These bytes lie here. -/
def Lies (w : World) (b off : Nat) (l : List Nat) : Prop := ∀ j, j < l.length → w.cell? ⟨b, off + j, none⟩ = some (.int .u8 ((l.getD j 0 : Nat) : Int))
theorem Lies.drop {w : World} {b off : Nat} {l : List Nat} (h : Lies w b off l) (k : Nat) : Lies w b (off + k) (l.drop k) := fun j hj => by
  rw [List.length_drop] at hj
  rw [Nat.add_assoc, h (k + j) (by omega)]
  simp [List.getD, List.getElem?_drop]
theorem str_get (l : List Nat) (j : Nat) : (str l).get! j = (l.map UInt8.ofNat).getD j 0 := by
  rw [← Lib.getD_get!']
  simp [str]
theorem str_len (l : List Nat) : (str l).size = l.length := by simp [str, ByteArray.size]
/-- Eight bytes as a number. -/
def w8 (l : List Nat) : Nat := Lib.leNat [(str l).get! 0, (str l).get! 1, (str l).get! 2, (str l).get! 3, (str l).get! 4, (str l).get! 5, (str l).get! 6, (str l).get! 7]
theorem w8_lt (l : List Nat) : w8 l < 18446744073709551616 := Lib.word_lt (str l)
theorem w8_asc {l : List Nat} (ho : ∀ x ∈ l, x < 256) (h8 : 8 ≤ l.length) (h : w8 l &&& 9259542123273814144 = 0) : ∀ x ∈ l.take 8, x < 128 := fun x hx => by
  have := (Lib.word_asc (str l) (by rw [str_len]; exact h8)).1 h (UInt8.ofNat x) (by
    have : (str l).data.toList = l.map UInt8.ofNat := by simp [str]
    rw [this, ← List.map_take]
    exact List.mem_map_of_mem hx)
  rwa [u8_nat (ho x (List.mem_of_mem_take hx))] at this
theorem w8_any (w : World) (b off c n : Nat) (l : List Nat) (ho : ∀ x ∈ l, x < 256) (h : Lies w b off l) (hn : l.length = n) (h8 : 8 ≤ n) :
    Calls Tryd.prog 85 #[.slice (some ⟨b, off, none⟩) n c] w fun e w' => e = .returned (.int .u64 (w8 l)) ∧ ∃ q, w' = w.drewN q := by
  subst hn
  have := u8word_any w b off c (str l) (fun j hj => by
    rw [str_len] at hj
    rw [h j hj, str_get, u8_at l ho]) (by rw [str_len]; exact h8)
  rw [str_len] at this
  exact this
theorem asc_more {l : List Nat} {a b : Nat} (ha : ∀ x ∈ l.take a, x < 128) (hb : ∀ x ∈ (l.drop a).take b, x < 128) : ∀ x ∈ l.take (a + b), x < 128 := fun x hx => by
  rw [List.take_add] at hx
  rcases List.mem_append.1 hx with h | h
  · exact ha x h
  · exact hb x h
end Go.Proofs.YtdjklhglkmacbaaDoor
