/-
  The number that decimal digits say; minus one where one is none.
-/
import Derived.Test.YtjhpibbhkdjeiaaWhen13
namespace Go.Proofs.Ytjhpibbhkdjeiaa
open Go.RowKit
set_option linter.unusedVariables false
attribute [local go_sem ↓] Go.wp_at_zero Go.wp_at_succ

def numV (l : List Nat) (k : Nat) : Nat := match k with
  | 0 => 0
  | k + 1 => numV l k * 10 + (l.getD k 0 - 48)
/-- The number that all of them say. -/
structure Says (l : List Nat) (v : Int) : Prop where
  yes : (∀ i, i < l.length → IsDig (l.getD i 0)) → v = (numV l l.length : Int)
  no : ¬ (∀ i, i < l.length → IsDig (l.getD i 0)) → v = -1
theorem numV_lt (l : List Nat) (k : Nat) (h : ∀ i, i < k → IsDig (l.getD i 0)) : numV l k < 10 ^ k := by
  induction k with
  | zero => simp [numV]
  | succ k ih =>
    have := ih (fun i hi => h i (by omega))
    have hd := h k (by omega)
    unfold IsDig at hd
    unfold numV
    rw [Nat.pow_succ]
    omega
theorem numV_small (l : List Nat) (k : Nat) (h : ∀ i, i < k → IsDig (l.getD i 0)) (h4 : k ≤ 4) : numV l k ≤ 9999 := by
  have := numV_lt l k h
  have : k = 0 ∨ k = 1 ∨ k = 2 ∨ k = 3 ∨ k = 4 := by omega
  rcases this with rfl | rfl | rfl | rfl | rfl <;> simp at * <;> omega

def AtNum (w : World) (l : List Nat) (n i : Value) (W : World) : Prop :=
  ∃ k q : Nat, k ≤ l.length ∧ i = .int .i64 (k : Int) ∧ n = .int .i64 (numV l k : Int) ∧ (∀ j, j < k → IsDig (l.getD j 0)) ∧ numV l k ≤ 99999 ∧ W = w.drewN q

set_option maxRecDepth 100000 in
set_option maxHeartbeats 1000000 in
theorem number_any (w : World) (B : Nat) (A : Option Addr) (c n : Nat) (l : List Nat) (hn : l.length = n) (hr : Rd .u8 w B A c l) (ho : Oct8 l) (h4 : n ≤ 4) (v : Int) (hv : Says l v) :
    Calls Try.prog 24 #[.slice A n c] w fun e w' => e = .returned (.int .i64 v) ∧ ∃ q, w' = w.drewN q := by
  have HV := Lib.hid hv
  have HN := Lib.hid hn
  have hc63 : c ≤ 9223372036854775807 := hr.2.1
  have hlc : n ≤ c := by have := hr.1; omega
  clear hv hn
  go_enter Try.func24, Try.ntmps24
  go_wp2_with fail
  go_loopw [3, 4] (fun s i wr => AtNum w l s i wr) (fun _ i _ => (n - intOf i).toNat)
  case atStart => exact ⟨0, 0, Nat.zero_le _, rfl, rfl, fun j hj => by omega, by simp [numV], rfl⟩
  case round =>
    obtain ⟨k, q, hk, rfl, rfl, hd, hle, rfl⟩ := hrel
    have HD := Lib.hid hd
    clear hd
    have hkn : k ≤ n := by have := HN.out; omega
    obtain ⟨V, HVV⟩ : ∃ V, Hid (V = numV l k) := ⟨_, rfl⟩
    rw [← HVV.out] at hle ⊢
    have hk0 : (0 : Int) ≤ (k : Int) := by omega
    have hV0 : (0 : Int) ≤ (V : Int) := by omega
    have hV1 : (V : Int) ≤ 99999 := by omega
    by_cases hlt : k < n
    · obtain ⟨b, off, x, rfl, hb, hx, Hx⟩ := hr.at_ (i := k) (by have := HN.out; omega)
      have hx256 : x < 256 := by rw [Hx.out]; exact ho _ (by rw [List.getD, List.getElem?_eq_getElem (by have := HN.out; omega)]; exact List.getElem_mem _)
      have hkI : (k : Int) < (n : Int) := by omega
      by_cases hdx : IsDig x
      · have h1 : decide ((x : Int) < 48) = false := decide_eq_false (by have := hdx.1; omega)
        have h2 : decide (57 < (x : Int)) = false := decide_eq_false (by have := hdx.2; omega)
        have hx1 := hdx.1
        have hx2 := hdx.2
        have HX := Lib.hid hdx
        clear hdx
        go_wp2_with fail
        go_roundw
        case rel =>
          have e : numV l (k+1) = V * 10 + (x - 48) := by
            show numV l k * 10 + (l.getD k 0 - 48) = _
            rw [← HVV.out, ← Hx.out]
          have hall : ∀ j, j < k + 1 → IsDig (l.getD j 0) := fun j hj => by
            rcases Nat.lt_or_ge j k with h | h
            · exact HD.out j h
            · obtain rfl : j = k := by omega
              rw [← Hx.out]; exact HX.out
          refine ⟨k + 1, q, by have := HN.out; omega, by go_num, ?_, hall, ?_, rfl⟩
          · rw [e]; exact congrArg (Value.int IntKind.i64) (by omega)
          · have := numV_small l (k + 1) hall (by omega)
            omega
        case measure => simp [intOf]; omega
      · have hbad : Hid (v = -1) := Lib.hid (HV.out.no (fun h => hdx (by rw [Hx.out]; exact h k (by have := HN.out; omega))))
        have hdx' : x < 48 ∨ 57 < x := by unfold IsDig at hdx; omega
        clear hdx
        rcases hdx' with h | h
        · have h1 : decide ((x : Int) < 48) = true := decide_eq_true (by omega)
          go_wp2_with fail
          go_ret
          exact ⟨by rw [hbad.out]; rfl, _, rfl⟩
        · have h1 : decide ((x : Int) < 48) = false := decide_eq_false (by omega)
          have h2 : decide (57 < (x : Int)) = true := decide_eq_true (by omega)
          go_wp2_with fail
          go_ret
          exact ⟨by rw [hbad.out]; rfl, _, rfl⟩
    · have hkk : Hid (k = l.length) := Lib.hid (by have := HN.out; omega)
      have hf : decide ((k : Int) < (n : Int)) = false := decide_eq_false (by omega)
      have hf2 : decide (k < n) = false := decide_eq_false (by omega)
      go_wp2_with fail
      go_ret
      refine ⟨?_, _, rfl⟩
      rw [HV.out.yes (by rw [← hkk.out]; exact HD.out), ← hkk.out, ← HVV.out]; rfl

theorem says_of (l : List Nat) : ∃ v, Says l v ∧ -1 ≤ v ∧ (l.length ≤ 4 → v ≤ 9999) ∧ (l.length ≤ 2 → v ≤ 99) := by
  by_cases h : ∀ i, i < l.length → IsDig (l.getD i 0)
  · refine ⟨_, ⟨fun _ => rfl, fun h' => absurd h h'⟩, by omega, fun h4 => ?_, fun h2 => ?_⟩
    · have := numV_small l _ h h4; omega
    · have := numV_lt l _ h
      have h5 : l.length = 0 ∨ l.length = 1 ∨ l.length = 2 := by omega
      rcases h5 with e | e | e <;> rw [e] at this ⊢ <;> simp at this ⊢ <;> omega
  · exact ⟨-1, ⟨fun h' => absurd h' h, fun _ => rfl⟩, by omega, by omega, by omega⟩
theorem Says.one {l : List Nat} {v v' : Int} (h : Says l v) (h' : Says l v') : v = v' := by
  by_cases hd : ∀ i, i < l.length → IsDig (l.getD i 0)
  · rw [h.yes hd, h'.yes hd]
  · rw [h.no hd, h'.no hd]
theorem says_dig2 {v : Nat} (h : v ≤ 99) : Says (dig2 v) v := by
  refine ⟨fun _ => ?_, fun hn => absurd (fun i hi => ?_) hn⟩
  · show _ = ((numV (dig2 v) 2 : Nat) : Int)
    simp [numV, dig2, List.getD]; omega
  · have : i = 0 ∨ i = 1 := by simp [dig2] at hi; omega
    rcases this with rfl | rfl <;> simp [dig2, IsDig, List.getD] <;> omega
theorem says_dig4 {v : Nat} (h : v ≤ 9999) : Says (dig2 (v / 100) ++ dig2 (v % 100)) v := by
  refine ⟨fun _ => ?_, fun hn => absurd (fun i hi => ?_) hn⟩
  · show _ = ((numV (dig2 (v / 100) ++ dig2 (v % 100)) 4 : Nat) : Int)
    simp [numV, dig2, List.getD]; omega
  · have : i = 0 ∨ i = 1 ∨ i = 2 ∨ i = 3 := by simp [dig2] at hi; omega
    rcases this with rfl | rfl | rfl | rfl <;> simp [dig2, IsDig, List.getD] <;> omega
/-- A part of a slice. -/
theorem Rd.part {k : IntKind} {w : World} {B b off c : Nat} {l : List Nat} (h : Rd k w B (some ⟨b, off, none⟩) c l) {j m : Nat} (hjm : j + m ≤ l.length) : Rd k w B (some ⟨b, off + j, none⟩) (c - j) ((l.drop j).take m) := by
  have hlc := h.1
  refine ⟨by simp; omega, by have := h.2.1; omega, fun hn => ?_⟩
  have hl : 0 < l.length := by simp at hn; omega
  obtain ⟨b', off', e, hb, hc⟩ := h.2.2 hl
  obtain ⟨rfl, rfl⟩ : b = b' ∧ off = off' := by injection e with e; injection e with e1 e2; exact ⟨e1, e2⟩
  refine ⟨b, off + j, rfl, hb, fun i hi => ?_⟩
  have hi' : i < m := by simp at hi; omega
  rw [Nat.add_assoc, hc (j + i) (by omega)]
  have e3 : ((l.drop j).take m).getD i 0 = l.getD (j + i) 0 := by
    simp [List.getD, hi', List.getElem?_drop]
  rw [e3]
end Go.Proofs.Ytjhpibbhkdjeiaa
