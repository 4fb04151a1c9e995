/-
  Names; how many sectors bytes need: by the program, by the document.
-/
import Derived.Test.YtkfokgkehlcikaaChecked
import Derived.WalkKit
import Derived.WalkSpells
import Derived.WalkLawsBesides
import Derived.Outline
import Derived.BigQuiet
import Derived.Deep.QuietTactic
import Derived.IntWalk
import Derived.Test.YtkfokgkehlcikaaMem
import Derived.Test.YtkfokgkehlcikaaRead
import Derived.Test.YtkfokgkehlcikaaOwn
namespace Go.Proofs.Ytkfokgkehlcikaa
open Go.RowKit
set_option linter.unusedVariables false

theorem ret_int {k : IntKind} {a b : Int} (h : a = b) : Ending.returned (.int k a) = .returned (.int k b) := by rw [h]
theorem ret_bool {a b : Bool} (h : a = b) : Ending.returned (.bool a) = .returned (.bool b) := by rw [h]

/-- A file's name. -/
structure NameOk (s : ByteArray) : Prop where
  low : 1 ≤ s.size
  high : s.size ≤ 40
  all : ∀ i (h : i < s.size), 33 ≤ s[i].toNat ∧ s[i].toNat ≤ 126

set_option maxRecDepth 100000 in
theorem named_any (w : World) (s : ByteArray) (hs : s.size ≤ 9223372036854775807) (v : Bool) (hv : v = true ↔ NameOk s) :
    Calls Try.prog 33 #[.string s] w fun e w' => e = .returned (.bool v) ∧ w = w' := by
  have HV := Lib.hid hv
  clear hv
  go_enter Try.func33, Try.ntmps33
  go_wp2_with fail
  go_loop [3, 6] (fun u i => ∃ k : Nat, k ≤ s.size ∧ i = .int .i64 k ∧ Hid (∀ j (h : j < s.size), j < k → 33 ≤ s[j].toNat ∧ s[j].toNat ≤ 126)) (fun _ i => s.size - (intOf i).toNat)
  case atStart => exact ⟨0, Nat.zero_le _, rfl, Lib.hid (fun j h hj => by omega)⟩
  case round =>
    obtain ⟨k, hk, rfl, HD⟩ := hrel
    by_cases hlt : k < s.size
    · by_cases h1 : 33 ≤ s[k].toNat
      · by_cases h2 : s[k].toNat ≤ 126
        · have HX : Hid (∀ j (h : j < s.size), j < k + 1 → 33 ≤ s[j].toNat ∧ s[j].toNat ≤ 126) := Lib.hid (fun j h hj => by
            rcases Nat.lt_or_ge j k with h' | h'
            · exact HD.out j h h'
            · obtain rfl : j = k := by omega
              exact ⟨h1, h2⟩)
          have b1 : decide (((s[k].toNat : Nat) : Int) < 33) = false := decide_eq_false (by omega)
          have b2 : decide (126 < ((s[k].toNat : Nat) : Int)) = false := decide_eq_false (by omega)
          go_wp2_with fail
          go_round
          case rel => exact ⟨k + 1, by omega, by go_num, HX⟩
          case measure => simp [intOf]; omega
        · have HF : Hid (v = false) := Lib.hid (by
            cases v
            · rfl
            · exact absurd ((HV.out.1 rfl).all k hlt).2 h2)
          have b1 : decide (((s[k].toNat : Nat) : Int) < 33) = false := decide_eq_false (by omega)
          have b2 : decide (126 < ((s[k].toNat : Nat) : Int)) = true := decide_eq_true (by omega)
          go_wp2_with fail
          go_ret
          exact ⟨by rw [HF.out]; rfl, rfl⟩
      · have HF : Hid (v = false) := Lib.hid (by
          cases v
          · rfl
          · exact absurd ((HV.out.1 rfl).all k hlt).1 h1)
        have b1 : decide (((s[k].toNat : Nat) : Int) < 33) = true := decide_eq_true (by omega)
        go_wp2_with fail
        go_ret
        exact ⟨by rw [HF.out]; rfl, rfl⟩
    · obtain rfl : k = s.size := by omega
      have hf : decide (s.size < s.size) = false := decide_eq_false (by omega)
      by_cases h1 : 1 ≤ s.size
      · by_cases h2 : s.size ≤ 40
        · have HT : Hid (v = true) := Lib.hid (HV.out.2 ⟨h1, h2, fun i h => HD.out i h h⟩)
          have b1 : decide ((1 : Int) ≤ (s.size : Int)) = true := decide_eq_true (by omega)
          have b2 : decide ((s.size : Int) ≤ 40) = true := decide_eq_true (by omega)
          go_wp2_with fail
          go_ret
          exact ⟨by rw [HT.out]; simp, rfl⟩
        · have HF : Hid (v = false) := Lib.hid (by
            cases v
            · rfl
            · exact absurd (HV.out.1 rfl).high h2)
          go_wp2_with fail
          go_ret
          exact ⟨by rw [HF.out]; first | (simp; done) | (simp; omega), rfl⟩
      · have HF : Hid (v = false) := Lib.hid (by
          cases v
          · rfl
          · exact absurd (HV.out.1 rfl).low h1)
        go_wp2_with fail
        go_ret
        exact ⟨by rw [HF.out]; first | (simp; done) | (simp; omega), rfl⟩

set_option maxRecDepth 100000 in
theorem named'_any (w : World) (s : ByteArray) (hs : s.size ≤ 9223372036854775807) (v : Bool) (hv : v = true ↔ NameOk s) :
    Calls Try.prog 32 #[.string s] w fun e w' => e = .returned (.bool v) ∧ w = w' := by
  have HV := Lib.hid hv
  clear hv
  go_enter Try.func32, Try.ntmps32
  go_wp2_with fail
  go_loop [3] (fun i => ∃ k : Nat, k ≤ s.size ∧ i = .int .i64 k ∧ Hid (∀ j (h : j < s.size), j < k → 33 ≤ s[j].toNat ∧ s[j].toNat ≤ 126)) (fun i => s.size - (intOf i).toNat)
  case atStart => exact ⟨0, Nat.zero_le _, rfl, Lib.hid (fun j h hj => by omega)⟩
  case round =>
    obtain ⟨k, hk, rfl, HD⟩ := hrel
    by_cases hlt : k < s.size
    · by_cases h1 : 33 ≤ s[k].toNat
      · by_cases h2 : s[k].toNat ≤ 126
        · have HX : Hid (∀ j (h : j < s.size), j < k + 1 → 33 ≤ s[j].toNat ∧ s[j].toNat ≤ 126) := Lib.hid (fun j h hj => by
            rcases Nat.lt_or_ge j k with h' | h'
            · exact HD.out j h h'
            · obtain rfl : j = k := by omega
              exact ⟨h1, h2⟩)
          have b1 : decide (((s[k].toNat : Nat) : Int) < 33) = false := decide_eq_false (by omega)
          have b2 : decide (126 < ((s[k].toNat : Nat) : Int)) = false := decide_eq_false (by omega)
          go_wp2_with fail
          go_round
          case rel => exact ⟨k + 1, by omega, by go_num, HX⟩
          case measure => simp [intOf]; omega
        · have HF : Hid (v = false) := Lib.hid (by
            cases v
            · rfl
            · exact absurd ((HV.out.1 rfl).all k hlt).2 h2)
          have b1 : decide (((s[k].toNat : Nat) : Int) < 33) = false := decide_eq_false (by omega)
          have b2 : decide (126 < ((s[k].toNat : Nat) : Int)) = true := decide_eq_true (by omega)
          go_wp2_with fail
          go_ret
          exact ⟨by rw [HF.out]; rfl, rfl⟩
      · have HF : Hid (v = false) := Lib.hid (by
          cases v
          · rfl
          · exact absurd ((HV.out.1 rfl).all k hlt).1 h1)
        have b1 : decide (((s[k].toNat : Nat) : Int) < 33) = true := decide_eq_true (by omega)
        go_wp2_with fail
        go_ret
        exact ⟨by rw [HF.out]; rfl, rfl⟩
    · obtain rfl : k = s.size := by omega
      have hf : decide (s.size < s.size) = false := decide_eq_false (by omega)
      by_cases h1 : 1 ≤ s.size
      · by_cases h2 : s.size ≤ 40
        · have HT : Hid (v = true) := Lib.hid (HV.out.2 ⟨h1, h2, fun i h => HD.out i h h⟩)
          have b1 : decide ((1 : Int) ≤ (s.size : Int)) = true := decide_eq_true (by omega)
          have b2 : decide ((s.size : Int) ≤ 40) = true := decide_eq_true (by omega)
          go_wp2_with fail
          go_ret
          exact ⟨by rw [HT.out]; simp, rfl⟩
        · have HF : Hid (v = false) := Lib.hid (by
            cases v
            · rfl
            · exact absurd (HV.out.1 rfl).high h2)
          go_wp2_with fail
          go_ret
          exact ⟨by rw [HF.out]; first | (simp; done) | (simp; omega), rfl⟩
      · have HF : Hid (v = false) := Lib.hid (by
          cases v
          · rfl
          · exact absurd (HV.out.1 rfl).low h1)
        go_wp2_with fail
        go_ret
        exact ⟨by rw [HF.out]; first | (simp; done) | (simp; omega), rfl⟩

/-- How many sectors so many bytes need. -/
def needI (z : Int) : Int := if z < 1 then 0 else (z - 1) / 64 + 1
set_option maxRecDepth 100000 in
theorem need_any (w : World) (z : Int) (h1 : z ≤ 9223372036854775807) (v : Int) (hv : needI z = v) :
    Calls Try.prog 30 #[.int .i64 z] w fun e w' => e = .returned (.int .i64 v) ∧ w = w' := by
  have HV := Lib.hid hv
  clear hv
  by_cases h1 : z < 1
  · go_enter Try.func30, Try.ntmps30
    go_wp2_with fail
    go_ret
    exact ⟨by rw [← HV.out]; unfold needI; rw [if_pos h1]; rfl, rfl⟩
  · go_enter Try.func30, Try.ntmps30
    go_wp2_with fail
    go_ret
    exact ⟨by rw [← HV.out]; unfold needI; rw [if_neg (by omega)]; rfl, rfl⟩
set_option maxRecDepth 100000 in
theorem need'_any (w : World) (z : Int) (h1 : z ≤ 9223372036854775807) (v : Int) (hv : needI z = v) :
    Calls Try.prog 31 #[.int .i64 z] w fun e w' => e = .returned (.int .i64 v) ∧ w = w' := by
  have HV := Lib.hid hv
  clear hv
  by_cases h1 : z < 1
  · go_enter Try.func31, Try.ntmps31
    go_wp2_with fail
    go_ret
    exact ⟨by rw [← HV.out]; unfold needI; rw [if_pos h1]; rfl, rfl⟩
  · go_enter Try.func31, Try.ntmps31
    go_wp2_with fail
    go_ret
    exact ⟨by rw [← HV.out]; unfold needI; rw [if_neg (by omega)]; rfl, rfl⟩

/-- The slice '.slice A l.length c' reads as the integers l. -/
def RdI (k : IntKind) (w : World) (B : Nat) (A : Option Addr) (c : Nat) (l : List Int) : Prop :=
  l.length ≤ c ∧ c ≤ 9223372036854775807 ∧ (0 < l.length → ∃ b off, A = some ⟨b, off, none⟩ ∧ b < B ∧ ∀ j, j < l.length → w.cell? ⟨b, off + j, none⟩ = some (.int k (l.getD j 0)))
section
variable {k : IntKind} {w w' : World} {B B' : Nat} {A : Option Addr} {c : Nat} {l : List Int}
theorem RdI.at_ (h : RdI k w B A c l) {i : Nat} (hi : i < l.length) : ∃ b off x, A = some ⟨b, off, none⟩ ∧ b < B ∧ w.cell? ⟨b, off + i, none⟩ = some (.int k x) ∧ Hid (x = l.getD i 0) := by
  obtain ⟨b, off, e, hb, hc⟩ := h.2.2 (by omega)
  exact ⟨b, off, _, e, hb, hc i hi, rfl⟩
theorem RdI.nil_ (k : IntKind) (w : World) (B : Nat) : RdI k w B none 0 [] := ⟨by simp, by omega, fun h => by simp at h⟩
theorem RdI.keep (h : RdI k w B A c l) (hk : ∀ b o, b < B → w'.cell? ⟨b, o, none⟩ = w.cell? ⟨b, o, none⟩) : RdI k w' B A c l :=
  ⟨h.1, h.2.1, fun hn => by
    obtain ⟨b, off, e, hb, hc⟩ := h.2.2 hn
    exact ⟨b, off, e, hb, fun j hj => (hk _ _ hb).trans (hc j hj)⟩⟩
theorem RdI.more (h : RdI k w B A c l) (hB : B ≤ B') : RdI k w B' A c l :=
  ⟨h.1, h.2.1, fun hn => by
    obtain ⟨b, off, e, hb, hc⟩ := h.2.2 hn
    exact ⟨b, off, e, by omega, hc⟩⟩
theorem RdI.under (h : RdI k w B A c l) (hb : Below B w w') : RdI k w' B A c l := h.keep fun b o hlt => hb.cell (p := ⟨b, o, none⟩) hlt
theorem RdI.alloc (h : RdI k w B A c l) (hB : B ≤ w.heap.size) (o : Obj) : RdI k (w.alloc o) B A c l := h.keep fun b o' hb => World.cell?_alloc_past _ b o' (by omega)
theorem RdI.drewN (h : RdI k w B A c l) (n : Nat) : RdI k (w.drewN n) B A c l := h
theorem RdI.of_rd {m : List Nat} (h : Rd k w B A c m) : RdI k w B A c (m.map (fun x : Nat => (x : Int))) := by
  refine ⟨by simpa using h.1, h.2.1, fun hn => ?_⟩
  obtain ⟨b, off, e, hb, hc⟩ := h.2.2 (by simpa using hn)
  refine ⟨b, off, e, hb, fun j hj => ?_⟩
  have hj' : j < m.length := by simpa using hj
  rw [hc j hj']
  simp [List.getD, hj']
end
end Go.Proofs.Ytkfokgkehlcikaa
