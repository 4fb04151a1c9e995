/-
  A number out of bytes, and back: by nat, and by the document's own reckoning.
-/
import Derived.Test.YtogbeiifnhegiaaNat4
import Derived.RegionTactic
import Derived.ChangeAlike
import Derived.Laws.BitsAllLaws
namespace Go.Proofs.Ytogbeiifnhegiaa
open Go.RowKit
set_option linter.unusedVariables false

/-- The digits of bytes, the highest byte first. -/
def words (b : List Nat) : List Nat := (List.range ((b.length + 3) / 4)).map (part b.reverse 0)

theorem words_length (b : List Nat) : (words b).length = (b.length + 3) / 4 := by simp [words]
theorem words_at (b : List Nat) {j : Nat} (h : j < (b.length + 3) / 4) : (words b).getD j 0 = part b.reverse 0 j := by
  simp [words, List.getD, h]
theorem words_dg {b : List Nat} (h : Oct b.reverse) : Dg (words b) := fun x hx => by
  obtain ⟨j, _, rfl⟩ := List.mem_map.1 hx
  exact part_dg h 0 j
theorem words_eq {b L : List Nat} (hl : L.length = (b.length + 3) / 4) (h : ∀ j, j < L.length → L.getD j 0 = part b.reverse 0 j) : L = words b := by
  apply List.ext_getElem
  · rw [hl, words_length]
  · intro j j1 j2
    have e1 := h j j1
    have e2 := words_at b (j := j) (by omega)
    rw [← e2] at e1
    simpa [List.getD, j1, j2] using e1
theorem or_val {r : List Nat} (ho : Oct r) {k x y : Nat} (hx : x = r.getD k 0) (hy : y = part r (k + 1) (k / 4)) : bits .or .u32 (y : Int) ((x : Int) * 2 ^ (k % 4 * 8) % 4294967296) = ((part r k (k / 4) : Nat) : Int) := by
  have hx' : x < 256 := by rw [hx]; exact ho k
  have hs := shl_nat x (k % 4) hx' (Nat.mod_lt _ (by omega))
  have e1 : ((x : Int) * 2 ^ (k % 4 * 8) % 4294967296) = ((x * 2 ^ (8 * (k % 4)) : Nat) : Int) := by
    have e2 : ((x : Int) * 2 ^ (k % 4 * 8)) = ((x * 2 ^ (8 * (k % 4)) : Nat) : Int) := by rw [Nat.mul_comm 8]; push_cast; rfl
    rw [e2]
    omega
  rw [e1, u32_or_nat y _ (by rw [hy]; exact part_dg ho _ _) hs, ← part_step ho k, ← hx, ← hy, Nat.shiftLeft_eq]
theorem or_val' {r : List Nat} (ho : Oct r) {k x y : Nat} (hx : x = r.getD k 0) (hy : y = part r (k + 1) (k / 4)) : bits .or .u32 (y : Int) ((x : Int) * 2 ^ (8 * (k % 4)) % 4294967296) = ((part r k (k / 4) : Nat) : Int) := by
  rw [← or_val ho hx hy, Nat.mul_comm 8]
theorem put_at {r L : List Nat} {k : Nat} (h : ∀ j, j < L.length → L.getD j 0 = part r (k + 1) j) (hk : k / 4 < L.length) : ∀ j, j < (L.set (k / 4) (part r k (k / 4))).length → (L.set (k / 4) (part r k (k / 4))).getD j 0 = part r k j := by
  intro j hj
  rw [List.length_set] at hj
  by_cases e : j = k / 4
  · subst e
    simp [List.getD, hk]
  · rw [← part_far r k j e, ← h j hj]
    simp [List.getD, List.getElem?_set_ne (by omega : k / 4 ≠ j)]

theorem start_at (l : List Nat) : ∀ j, j < (List.replicate ((l.length + 3) / 4) 0).length → (List.replicate ((l.length + 3) / 4) 0).getD j 0 = part l.reverse (l.length - 0) j := by
  intro j hj
  have hz : ∀ k, l.length ≤ k → l.reverse.getD k 0 = 0 := fun k hk => by rw [List.getD, List.getElem?_eq_none (by simpa using hk)]; rfl
  have e : ∀ k, (if l.length - 0 ≤ k then l.reverse.getD k 0 else 0) = 0 := fun k => by
    split
    · exact hz k (by omega)
    · rfl
  unfold part
  rw [e, e, e, e]
  have hj' : j < (l.length + 3) / 4 := by simpa using hj
  simp [List.getD, hj']

set_option maxRecDepth 100000 in
theorem of_any (w : World) (B : Nat) (A : Option Addr) (c : Nat) (l : List Nat) (hr : Rd .u8 w B A c l) (hB : B ≤ w.heap.size) (ho : Oct l.reverse) (hs : l.length ≤ 1024) :
    Calls Try.prog 19 #[.slice A l.length c] w fun e w' => ∃ A2 c2, e = .returned (.slice A2 (trl (words l)).length c2) ∧ Fresh .u32 40 w' w.heap.size A2 c2 (trl (words l)) ∧ Below w.heap.size w w' := by
  have hlc : l.length ≤ c := hr.1
  have hc63 : c ≤ 9223372036854775807 := hr.2.1
  have hlong : decide (1024 < (l.length : Int)) = false := by simp; omega
  have hmk := make_nat (((l.length : Int) + 3) / 4) ((l.length + 3) / 4) (by omega) (by omega)
  go_enter Try.func19, Try.ntmps19
  go_wp2_with fail
  have hR0 : Row .u32 40 (w.alloc (.cells (nums .u32 (List.replicate ((l.length + 3) / 4) 0)) 40)) w.heap.size (List.replicate ((l.length + 3) / 4) 0) := Holds.fresh _ _ _
  clear hmk
  go_loopw [17] (fun si wr => ∃ (i : Nat) (L : List Nat), i ≤ l.length ∧ si = .int .i64 i ∧ Row .u32 40 wr w.heap.size L ∧ L.length = (l.length + 3) / 4 ∧ Hid (∀ j, j < L.length → L.getD j 0 = part l.reverse (l.length - i) j) ∧ Below w.heap.size w wr)
    (fun si _ => l.length - (intOf si).toNat)
  case atStart => exact ⟨0, _, by omega, rfl, hR0, by simp, start_at l, (Below.refl _ _).alloc (Nat.le_refl _) _⟩
  case round =>
    obtain ⟨i, L, hi, rfl, hR, hL, HD, hbel⟩ := hrel
    have hz := Holds.lt hR
    have HL := Lib.hid hL
    clear hL
    have hfr := hR.open_
    by_cases h : i < l.length
    · obtain ⟨b, off, x, rfl, hb, hx, Hx⟩ := (hr.under (hbel.mono hB)).at_ h
      obtain ⟨k, hk⟩ : ∃ k : Nat, l.length = k + 1 + i := ⟨l.length - 1 - i, by omega⟩
      have Hx2 := Lib.hid (show x = l.reverse.getD k 0 by rw [rev_at hk]; exact Hx.out)
      have hxl : x < 256 := by rw [Hx2.out]; exact ho k
      have hc0 := hR.cell (i := k / 4) (by rw [HL.out]; omega)
      have HD2 := Lib.hid (show ∀ j, j < L.length → L.getD j 0 = part l.reverse (k + 1) j by have := HD.out; rwa [show l.length - i = k + 1 by omega] at this)
      obtain ⟨y, Hy⟩ : ∃ y, Hid (y = L.getD (k / 4) 0) := ⟨_, rfl⟩
      rw [← Hy.out] at hc0
      have Hy2 := Lib.hid (show y = part l.reverse (k + 1) (k / 4) by rw [Hy.out]; exact HD2.out _ (by rw [HL.out]; omega))
      have hkl : (k : Int) / 4 < ((l.length : Int) + 3) / 4 := by omega
      have ek : (l.length : Int) - 1 - i = k := by omega
      have hkk : l.length - (i + 1) = k := by omega
      have Hkk := Lib.hid hkk
      clear hk hkk HD
      go_wp2_with fail
      go_region
      all_goals go_wp2_with fail
      have hst := hR.set (k / 4) (part l.reverse k (k / 4))
      have hpa := put_at HD2.out (by rw [HL.out]; omega)
      refine ⟨⟨i + 1, _, by omega, by go_num, by rw [or_val ho Hx2.out Hy2.out]; exact hst, by rw [List.length_set]; exact HL.out, by rw [Hkk.out]; exact hpa, (hbel.setCell (Nat.le_refl _) _).drew⟩, by simp [intOf]; omega⟩
    · have hLw : L = words l := words_eq HL.out (by have := HD.out; rwa [show l.length - i = 0 by omega] at this)
      subst hLw
      go_wp2_with fail
      refine (trim_at _ _ _ _ _ (words l) (rd_whole hR (Nat.le_of_eq HL.out) (by omega)) HL.out).mono ?_
      rintro e w1 ⟨rfl, rfl⟩
      go_wp2_with fail
      go_ret
      exact ⟨_, _, rfl, fresh_trl hR (Nat.le_refl _) (Nat.le_of_eq HL.out) (by omega), hbel⟩
set_option maxRecDepth 100000 in
theorem of'_any (w : World) (B : Nat) (A : Option Addr) (c : Nat) (l : List Nat) (hr : Rd .u8 w B A c l) (hB : B ≤ w.heap.size) (ho : Oct l.reverse) (hs : l.length ≤ 1024) :
    Calls Try.prog 21 #[.slice A l.length c] w fun e w' => ∃ A2 c2, e = .returned (.slice A2 (trl (words l)).length c2) ∧ Fresh .u32 40 w' w.heap.size A2 c2 (trl (words l)) ∧ Below w.heap.size w w' := by
  have hlc : l.length ≤ c := hr.1
  have hc63 : c ≤ 9223372036854775807 := hr.2.1
  have hlong : decide (1024 < (l.length : Int)) = false := by simp; omega
  have hmk := make_nat (((l.length : Int) + 3) / 4) ((l.length + 3) / 4) (by omega) (by omega)
  go_enter Try.func21, Try.ntmps21
  go_wp2_with fail
  have hR0 : Row .u32 40 (w.alloc (.cells (nums .u32 (List.replicate ((l.length + 3) / 4) 0)) 40)) w.heap.size (List.replicate ((l.length + 3) / 4) 0) := Holds.fresh _ _ _
  clear hmk
  go_loopw [4] (fun si wr => ∃ (i : Nat) (L : List Nat), i ≤ l.length ∧ si = .int .i64 i ∧ Row .u32 40 wr w.heap.size L ∧ L.length = (l.length + 3) / 4 ∧ Hid (∀ j, j < L.length → L.getD j 0 = part l.reverse (l.length - i) j) ∧ Below w.heap.size w wr)
    (fun si _ => l.length - (intOf si).toNat)
  case atStart => exact ⟨0, _, by omega, rfl, hR0, by simp, start_at l, (Below.refl _ _).alloc (Nat.le_refl _) _⟩
  case round =>
    obtain ⟨i, L, hi, rfl, hR, hL, HD, hbel⟩ := hrel
    have hz := Holds.lt hR
    have HL := Lib.hid hL
    clear hL
    have hfr := hR.open_
    by_cases h : i < l.length
    · obtain ⟨b, off, x, rfl, hb, hx, Hx⟩ := (hr.under (hbel.mono hB)).at_ h
      obtain ⟨k, hk⟩ : ∃ k : Nat, l.length = k + 1 + i := ⟨l.length - 1 - i, by omega⟩
      have Hx2 := Lib.hid (show x = l.reverse.getD k 0 by rw [rev_at hk]; exact Hx.out)
      have hxl : x < 256 := by rw [Hx2.out]; exact ho k
      have hc0 := hR.cell (i := k / 4) (by rw [HL.out]; omega)
      have HD2 := Lib.hid (show ∀ j, j < L.length → L.getD j 0 = part l.reverse (k + 1) j by have := HD.out; rwa [show l.length - i = k + 1 by omega] at this)
      obtain ⟨y, Hy⟩ : ∃ y, Hid (y = L.getD (k / 4) 0) := ⟨_, rfl⟩
      rw [← Hy.out] at hc0
      have Hy2 := Lib.hid (show y = part l.reverse (k + 1) (k / 4) by rw [Hy.out]; exact HD2.out _ (by rw [HL.out]; omega))
      have hkl : (k : Int) / 4 < ((l.length : Int) + 3) / 4 := by omega
      have ek : (l.length : Int) - 1 - i = k := by omega
      have hkk : l.length - (i + 1) = k := by omega
      have Hkk := Lib.hid hkk
      clear hk hkk HD
      go_wp2_with fail
      go_region
      all_goals go_wp2_with fail
      have hst := hR.set (k / 4) (part l.reverse k (k / 4))
      have hpa := put_at HD2.out (by rw [HL.out]; omega)
      refine ⟨⟨i + 1, _, by omega, by go_num, by rw [or_val' ho Hx2.out Hy2.out]; exact hst, by rw [List.length_set]; exact HL.out, by rw [Hkk.out]; exact hpa, (hbel.setCell (Nat.le_refl _) _).drew⟩, by simp [intOf]; omega⟩
    · have hLw : L = words l := words_eq HL.out (by have := HD.out; rwa [show l.length - i = 0 by omega] at this)
      subst hLw
      go_wp2_with fail
      refine (trim'_at _ _ _ _ _ (words l) (rd_whole hR (Nat.le_of_eq HL.out) (by omega)) HL.out).mono ?_
      rintro e w1 ⟨rfl, rfl⟩
      go_wp2_with fail
      go_ret
      exact ⟨_, _, rfl, fresh_trl hR (Nat.le_refl _) (Nat.le_of_eq HL.out) (by omega), hbel⟩
end Go.Proofs.Ytogbeiifnhegiaa
