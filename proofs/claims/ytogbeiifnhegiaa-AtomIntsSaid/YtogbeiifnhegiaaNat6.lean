/-
  A number as so many bytes: by nat, and by the document's own reckoning.
-/
import Derived.Test.YtogbeiifnhegiaaNat5
namespace Go.Proofs.Ytogbeiifnhegiaa
open Go.RowKit
set_option linter.unusedVariables false

set_option maxRecDepth 100000 in
theorem bytes_no (w : World) (B : Nat) (A : Option Addr) (c m : Nat) (l : List Nat) (hr : Rd .u32 w B A c l) (hm : l.length = m) (hd : Dg l) (hs : l.length ≤ 5000) (n : Int) (h : n < 0 ∨ 2048 < n ∨ 8 * n < (nb (trl l) : Int)) :
    Calls Try.prog 16 #[.slice A m c, .int .i64 n] w fun e w' => e = .returned (.tuple #[.slice none 0 0, .bool false]) ∧ w = w' := by
  by_cases h1 : n < 0
  · go_enter Try.func16, Try.ntmps16
    go_wp2_with fail
    go_ret2
    exact ⟨rfl, rfl⟩
  by_cases h2 : 2048 < n
  · go_enter Try.func16, Try.ntmps16
    go_wp2_with fail
    go_ret2
    exact ⟨rfl, rfl⟩
  · have h3 : 8 * n < (nb (trl l) : Int) := by omega
    have h4 : n ≤ 2048 := by omega
    clear h
    go_enter Try.func16, Try.ntmps16
    go_wp2_with fail
    refine (bits_any w B A c m l hr hm hd hs _ rfl).mono ?_
    rintro e w1 ⟨rfl, rfl⟩
    generalize nb (trl l) = y at *
    go_wp2_with fail
    go_ret2
    exact ⟨rfl, rfl⟩

set_option maxRecDepth 100000 in
theorem bytes'_no (w : World) (B : Nat) (A : Option Addr) (c : Nat) (l : List Nat) (hr : Rd .u32 w B A c l) (hd : Dg l) (hs : l.length ≤ 5000) (n : Int) (h : n < 0 ∨ 2048 < n ∨ 8 * n < (nb l : Int)) :
    Calls Try.prog 22 #[.slice A l.length c, .int .i64 n] w fun e w' => e = .returned (.tuple #[.slice none 0 0, .bool false]) ∧ w = w' := by
  by_cases h1 : n < 0
  · go_enter Try.func22, Try.ntmps22
    go_wp2_with fail
    go_ret2
    exact ⟨rfl, rfl⟩
  by_cases h2 : 2048 < n
  · go_enter Try.func22, Try.ntmps22
    go_wp2_with fail
    go_ret2
    exact ⟨rfl, rfl⟩
  · have h3 : 8 * n < (nb l : Int) := by omega
    have h4 : n ≤ 2048 := by omega
    clear h
    go_enter Try.func22, Try.ntmps22
    go_wp2_with fail
    refine (bits'_any w B A c l hr hd hs _ rfl).mono ?_
    rintro e w1 ⟨rfl, rfl⟩
    generalize nb l = y at *
    go_wp2_with fail
    go_ret2
    exact ⟨rfl, rfl⟩

theorem byte_val {l : List Nat} {k x : Nat} (hx : x = l.getD (k / 4) 0) : ((x : Int) / 2 ^ (k % 4 * 8) % 256) = ((byteAt l k : Nat) : Int) := by
  unfold byteAt
  rw [← hx, Nat.mul_comm 8, Int.natCast_emod, Int.natCast_ediv, Int.natCast_pow]
  rfl
theorem byte_val' {l : List Nat} {k x : Nat} (hx : x = l.getD (k / 4) 0) : ((x : Int) / 2 ^ (8 * (k % 4)) % 256) = ((byteAt l k : Nat) : Int) := by
  rw [← byte_val hx, Nat.mul_comm 8]
theorem fresh_whole {k : IntKind} {T : TypeId} {w' : World} {B g c : Nat} {L : List Nat} (h : Row k T w' g L) (hB : B ≤ g) (hc : L.length ≤ c) (h63 : c ≤ 9223372036854775807) : Fresh k T w' B (some ⟨g, 0, none⟩) c L := by
  have := fresh_row h hB (Nat.le_refl _) hc h63
  rwa [List.take_length] at this

set_option maxRecDepth 100000 in
theorem bytes_yes (w : World) (B : Nat) (A : Option Addr) (c m : Nat) (l : List Nat) (hr : Rd .u32 w B A c l) (hm : l.length = m) (hB : B ≤ w.heap.size) (hd : Dg l) (hs : l.length ≤ 5000) (n : Nat) (h2 : n ≤ 2048) (h3 : nb (trl l) ≤ 8 * n) :
    Calls Try.prog 16 #[.slice A m c, .int .i64 n] w fun e w' => ∃ A2, e = .returned (.tuple #[.slice A2 n n, .bool true]) ∧ Fresh .u8 5 w' w.heap.size A2 n (bytesOf l n) ∧ Below w.heap.size w w' := by
  subst hm
  have hlc : l.length ≤ c := hr.1
  have hc63 : c ≤ 9223372036854775807 := hr.2.1
  have hmk := make_bytes (n : Int) n rfl (by omega)
  go_enter Try.func16, Try.ntmps16
  go_wp2_with fail
  refine (bits_any w B A c _ l hr rfl hd hs _ rfl).mono ?_
  rintro e w1 ⟨rfl, rfl⟩
  generalize nb (trl l) = yb at *
  go_wp2_with fail
  have hR0 : Row .u8 5 (w.alloc (.cells (nums .u8 (List.replicate n 0)) 5)) w.heap.size (List.replicate n 0) := Holds.fresh _ _ _
  clear hmk
  go_loopw [26] (fun si wr => ∃ (i : Nat) (L : List Nat), i ≤ n ∧ si = .int .i64 i ∧ Row .u8 5 wr w.heap.size L ∧ L.length = n ∧ Hid (∀ j, j < n → L.getD j 0 = if j < i then byteAt l (n - 1 - j) else 0) ∧ Below w.heap.size w wr)
    (fun si _ => n - (intOf si).toNat)
  case atStart => exact ⟨0, _, by omega, rfl, hR0, by simp, fun j hj => by simp [List.getD, hj], (Below.refl _ _).alloc (Nat.le_refl _) _⟩
  case round =>
    obtain ⟨i, L, hi, rfl, hR, hL, HD, hbel⟩ := hrel
    have hz := Holds.lt hR
    have HL := Lib.hid hL
    clear hL
    have hfr := hR.open_
    by_cases h : i < n
    · obtain ⟨k, hk⟩ : ∃ k : Nat, n = k + 1 + i := ⟨n - 1 - i, by omega⟩
      have ek : (n : Int) - 1 - i = k := by omega
      have hkk : n - 1 - i = k := by omega
      have Hkk := Lib.hid hkk
      have hcell := hR.cell (i := i) (by rw [HL.out]; omega)
      clear hk hkk
      by_cases h4 : k / 4 < l.length
      · obtain ⟨b, off, x, rfl, hb, hx, Hx⟩ := (hr.under (hbel.mono hB)).at_ h4
        have hxl : x < 4294967296 := by rw [Hx.out]; exact hd.at_ _
        have h4' : (k : Int) / 4 < l.length := by omega
        go_wp2_with fail
        have hst := hR.set i (byteAt l k)
        have hp := bput (i := i) HL.out HD.out
        rw [Hkk.out] at hp
        exact ⟨⟨i + 1, _, by omega, by go_num, by rw [byte_val Hx.out]; exact hst, by rw [List.length_set]; exact HL.out, hp, hbel.setCell (Nat.le_refl _) _⟩, by simp [intOf]; omega⟩
      · have h4' : ¬ (k : Int) / 4 < l.length := by omega
        have hp := bskip h (by rw [Hkk.out]; exact byteAt_far (by omega)) HD.out
        have Hp := Lib.hid hp
        clear hp
        go_wp2_with fail
        exact ⟨⟨i + 1, _, by omega, by go_num, hR, HL.out, Hp.out, hbel⟩, by simp [intOf]; omega⟩
    · have hLw : L = bytesOf l n := bytesOf_eq HL.out (fun j hj => by rw [HD.out j hj, if_pos (by omega)])
      subst hLw
      go_wp2_with fail
      go_ret2
      exact ⟨_, rfl, fresh_whole hR (Nat.le_refl _) (Nat.le_of_eq HL.out) (by omega), hbel⟩
set_option maxRecDepth 100000 in
theorem bytes'_yes (w : World) (B : Nat) (A : Option Addr) (c m : Nat) (l : List Nat) (hr : Rd .u32 w B A c l) (hm : l.length = m) (hB : B ≤ w.heap.size) (hd : Dg l) (hs : l.length ≤ 5000) (n : Nat) (h2 : n ≤ 2048) (h3 : nb l ≤ 8 * n) :
    Calls Try.prog 22 #[.slice A m c, .int .i64 n] w fun e w' => ∃ A2, e = .returned (.tuple #[.slice A2 n n, .bool true]) ∧ Fresh .u8 5 w' w.heap.size A2 n (bytesOf l n) ∧ Below w.heap.size w w' := by
  subst hm
  have hlc : l.length ≤ c := hr.1
  have hc63 : c ≤ 9223372036854775807 := hr.2.1
  have hmk := make_bytes (n : Int) n rfl (by omega)
  go_enter Try.func22, Try.ntmps22
  go_wp2_with fail
  refine (bits'_any w B A c l hr hd hs _ rfl).mono ?_
  rintro e w1 ⟨rfl, rfl⟩
  generalize nb l = yb at *
  go_wp2_with fail
  have hR0 : Row .u8 5 (w.alloc (.cells (nums .u8 (List.replicate n 0)) 5)) w.heap.size (List.replicate n 0) := Holds.fresh _ _ _
  clear hmk
  go_loopw [7] (fun si wr => ∃ (k : Nat) (L : List Nat), k ≤ n ∧ si = .int .i64 k ∧ Row .u8 5 wr w.heap.size L ∧ L.length = n ∧ Hid (∀ j, j < n → L.getD j 0 = if n - 1 - j < k then byteAt l (n - 1 - j) else 0) ∧ Below w.heap.size w wr)
    (fun si _ => n - (intOf si).toNat)
  case atStart => exact ⟨0, _, by omega, rfl, hR0, by simp, fun j hj => by simp [List.getD, hj], (Below.refl _ _).alloc (Nat.le_refl _) _⟩
  case round =>
    obtain ⟨k, L, hi, rfl, hR, hL, HD, hbel⟩ := hrel
    have hz := Holds.lt hR
    have HL := Lib.hid hL
    clear hL
    have hfr := hR.open_
    by_cases h : k < n ∧ k / 4 < l.length
    · obtain ⟨h1, h4⟩ := h
      obtain ⟨b, off, x, rfl, hb, hx, Hx⟩ := (hr.under (hbel.mono hB)).at_ h4
      obtain ⟨i, hi'⟩ : ∃ i : Nat, n = k + 1 + i := ⟨n - 1 - k, by omega⟩
      have ek : (n : Int) - 1 - k = i := by omega
      have Hkk := Lib.hid (show n - 1 - k = i by omega)
      have hin : (i : Int) < n := by omega
      have hcell := hR.cell (i := i) (by rw [HL.out]; omega)
      have hxl : x < 4294967296 := by rw [Hx.out]; exact hd.at_ _
      have h4' : decide ((k : Int) / 4 < l.length) = true := by simp; omega
      clear hi'
      go_wp2_with fail
      have hst := hR.set i (byteAt l k)
      have hp := bput' HL.out h1 HD.out
      rw [Hkk.out] at hp
      exact ⟨⟨k + 1, _, by omega, by go_num, by rw [byte_val' Hx.out]; exact hst, by rw [List.length_set]; exact HL.out, hp, hbel.setCell (Nat.le_refl _) _⟩, by simp [intOf]; omega⟩
    · have hLw : L = bytesOf l n := bytesOf_eq HL.out (bend' (by omega) HD.out)
      subst hLw
      by_cases h1 : k < n
      · have h4' : decide ((k : Int) / 4 < l.length) = false := by simp; omega
        go_wp2_with fail
        go_ret2
        exact ⟨_, rfl, fresh_whole hR (Nat.le_refl _) (Nat.le_of_eq HL.out) (by omega), hbel⟩
      · go_wp2_with fail
        go_ret2
        exact ⟨_, rfl, fresh_whole hR (Nat.le_refl _) (Nat.le_of_eq HL.out) (by omega), hbel⟩
end Go.Proofs.Ytogbeiifnhegiaa
