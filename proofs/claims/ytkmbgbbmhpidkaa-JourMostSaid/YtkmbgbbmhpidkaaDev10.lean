/-
  Bytes as a sector; texts of bytes.
-/
import Derived.Test.YtkmbgbbmhpidkaaDev9
import Derived.Laws.IdiomStrings
import Derived.Laws.BytesArg
import Derived.Lib.Strings
import Derived.Lib.SlBytesConst
import Derived.Lib.SmallJoins
namespace Go.Proofs.Ytkmbgbbmhpidkaa
open Go.RowKit
set_option linter.unusedVariables false

/-- Bytes as a text. -/
def str (l : List Nat) : ByteArray := ⟨(l.map UInt8.ofNat).toArray⟩
theorem str_inj {l l' : List Nat} (h : ∀ x ∈ l, x < 256) (h' : ∀ x ∈ l', x < 256) (e : str l = str l') : l = l' := by
  have e1 : l.map UInt8.ofNat = l'.map UInt8.ofNat := by
    have := congrArg (fun b : ByteArray => b.data.toList) e
    simpa [str] using this
  have e2 : (l.map UInt8.ofNat).map UInt8.toNat = (l'.map UInt8.ofNat).map UInt8.toNat := by rw [e1]
  have e3 : ∀ m : List Nat, (∀ x ∈ m, x < 256) → (m.map UInt8.ofNat).map UInt8.toNat = m := by
    intro m hm
    rw [List.map_map]
    conv => rhs; rw [← List.map_id m]
    apply List.map_congr_left
    intro x hx
    simp [Nat.mod_eq_of_lt (hm x hx)]
  rw [e3 l h, e3 l' h'] at e2
  exact e2
theorem conv_str {w : World} {B : Nat} {A : Option Addr} {c n : Nat} {l : List Nat} (hr : Rd .u8 w B A c l) (hn : l.length = n) (h : ∀ x ∈ l, x < 256) : (convert 40 9 (.slice A n c)).run Try.prog w = .ok (.string (str l)) w := by
  subst hn
  rcases Nat.eq_zero_or_pos l.length with h0 | h0
  · obtain rfl := List.eq_nil_of_length_eq_zero h0
    rcases A with _ | a
    · exact run_convert_bytes_nil w 40 5 Try.underlying40 Try.underlying5 0 c 9 Try.underlying9
    · exact run_convert_bytes_back w 40 9 5 a c [] Try.underlying40 Try.underlying5 Try.underlying9 (fun j hj => by simp at hj)
  · obtain ⟨b, off, rfl, hb, hc⟩ := hr.2.2 h0
    have hh := run_convert_bytes_back w 40 9 5 ⟨b, off, none⟩ c (l.map UInt8.ofNat) Try.underlying40 Try.underlying5 Try.underlying9 (fun j hj => by
      have hj' : j < l.length := by simpa using hj
      have e := hc j hj'
      have ha : (⟨b, off, none⟩ : Addr).add j = ⟨b, off + j, none⟩ := by unfold Addr.add; split <;> simp_all
      rw [ha, e]
      have hx := h l[j] (List.getElem_mem hj')
      simp [List.getD, hj', Nat.mod_eq_of_lt hx])
    rwa [List.length_map] at hh
def Oct1 (l : List Nat) : Prop := ∀ x ∈ l, x < 256
theorem str_ne {l l' : List Nat} (ho : Oct1 l) (ho' : Oct1 l') (h : l ≠ l') : ((str l).toList == (str l').toList) = false := by
  rw [beq_eq_false_iff_ne, Lib.toList_data, Lib.toList_data]
  intro e
  exact h (str_inj ho ho' (by unfold str at e ⊢; simp at e; simp [e]))

/-- Noughts, the first k of them replaced. -/
def fillS (l : List Nat) : Nat → List Nat
  | 0 => zsec
  | k + 1 => (fillS l k).set k (l.getD k 0)
theorem fillS_length (l : List Nat) : ∀ k, (fillS l k).length = 64
  | 0 => by simp [fillS, zsec]
  | k + 1 => by rw [fillS, List.length_set, fillS_length l k]
/-- Bytes as a sector. -/
def secOf (l : List Nat) : List Nat := fillS l (min l.length 64)
theorem secOf_length (l : List Nat) : (secOf l).length = 64 := fillS_length l _
theorem secOf_nil : secOf [] = zsec := rfl
theorem zsec_oct : Oct1 zsec := fun x hx => by rw [List.eq_of_mem_replicate hx]; omega
theorem fillS_oct {l : List Nat} (h : Oct1 l) : ∀ k, Oct1 (fillS l k)
  | 0 => zsec_oct
  | k + 1 => fun x hx => by
    rcases List.mem_or_eq_of_mem_set hx with h1 | rfl
    · exact fillS_oct h k x h1
    · rw [List.getD]
      rcases Nat.lt_or_ge k l.length with hk | hk
      · rw [List.getElem?_eq_getElem hk]; exact h _ (List.getElem_mem hk)
      · rw [List.getElem?_eq_none hk]; exact (by decide : 0 < 256)
theorem secOf_oct {l : List Nat} (h : Oct1 l) : Oct1 (secOf l) := fillS_oct h _

def RelS (w : World) (l : List Nat) (B : Nat) (A : Option Addr) (c n : Nat) (i : Value) (wr : World) : Prop :=
  ∃ k : Nat, k ≤ n ∧ k ≤ 64 ∧ i = .int .i64 k ∧ Row .u8 5 wr w.heap.size (fillS l k) ∧ Rd .u8 wr B A c l ∧ Below w.heap.size w wr

set_option maxRecDepth 100000 in
set_option maxHeartbeats 1000000 in
theorem sector_any (w : World) (B : Nat) (A : Option Addr) (c n : Nat) (l : List Nat) (hn : l.length = n) (hr : Rd .u8 w B A c l) (hB : B ≤ w.heap.size) :
    Calls Try.prog 21 #[.slice A n c] w fun e w' => e = .returned (.slice (some ⟨w.heap.size, 0, none⟩) 64 64) ∧ Row .u8 5 w' w.heap.size (secOf l) ∧ Below w.heap.size w w' := by
  have hmk := make_row
  have hrow : Row .u8 5 (w.alloc (.cells zrow 5)) w.heap.size (fillS l 0) := Holds.fresh _ _ _
  have hb : Below w.heap.size w (w.alloc (.cells zrow 5)) := (Below.refl _ _).alloc (Nat.le_refl _) _
  have hr1 := hr.under (hb.mono hB)
  have hc63 := hr.2.1
  have hlc : n ≤ c := by have := hr.1; omega
  have HN := Lib.hid hn
  clear hn hr
  go_enter Try.func21, Try.ntmps21
  go_wp2_with fail
  clear hmk
  generalize zrow = zr at *
  generalize w.alloc (.cells zr 5) = W0 at *
  go_loopw [4] (fun i wr => RelS w l B A c n i wr) (fun i _ => 64 - (intOf i).toNat)
  case atStart => exact ⟨0, Nat.zero_le _, Nat.zero_le _, rfl, hrow, hr1, hb⟩
  case round =>
    clear hrow hr1 hb
    obtain ⟨k, hk, hk64, rfl, hrow, hr1, hb⟩ := hrel
    obtain ⟨V, hV⟩ : ∃ V, V = wr := ⟨_, rfl⟩
    subst hV
    by_cases hkn : k < n
    case pos =>
      have hkI : (k : Int) < (n : Int) := by omega
      have hk0 : (0 : Int) ≤ (k : Int) := by omega
      by_cases hk6 : k < 64
      case pos =>
        have hk6I : (k : Int) < 64 := by omega
        obtain ⟨b, off, x, rfl, hbB, hx, Hx⟩ := hr1.at_ (i := k) (by have := HN.out; omega)
        have hcell := hrow.cell (i := k) (by rw [fillS_length]; exact hk6)
        have hfr := hrow.open_ k
        have hst := hrow.set k x
        have hne : b ≠ w.heap.size := by omega
        have HS : Hid (Row .u8 5 (V.setCell ⟨w.heap.size, k, none⟩ (.int .u8 (x : Int))) w.heap.size (fillS l (k + 1))) := Lib.hid (by rw [fillS, ← Hx.out]; exact hst)
        have HR : Hid (Rd .u8 (V.setCell ⟨w.heap.size, k, none⟩ (.int .u8 (x : Int))) B (some ⟨b, off, none⟩) c l) := Lib.hid (hr1.keep fun b' o hb' => World.cell?_of_block (a := ⟨b', o, none⟩) (Below.heap_setCell V ⟨w.heap.size, k, none⟩ _ b' (fun e => absurd (show b' = w.heap.size from e) (by omega))))
        have HBB := Lib.hid (hb.setCell (p := ⟨w.heap.size, k, none⟩) (Nat.le_refl _) (.int .u8 (x : Int)))
        clear hst hr1 hb hrow
        go_wp2_with fail
        go_roundw
        case rel => exact ⟨k + 1, by omega, by omega, by go_num, HS.out, HR.out, HBB.out⟩
        case measure => simp [intOf]; omega
      case neg =>
        obtain rfl : k = 64 := by omega
        have hd : decide (((64 : Nat) : Int) < 64) = false := by decide
        have HE : Hid (secOf l = fillS l 64) := Lib.hid (by unfold secOf; rw [HN.out, Nat.min_eq_right (by omega)])
        have HF := Lib.hid hrow
        have HBB := Lib.hid hb
        clear hrow hr1 hb
        go_wp2_with fail
        go_ret
        exact ⟨rfl, by rw [HE.out]; exact HF.out, HBB.out⟩
    case neg =>
      obtain rfl : k = n := by omega
      have hd : decide ((k : Int) < (k : Int)) = false := decide_eq_false (by omega)
      have HE : Hid (secOf l = fillS l k) := Lib.hid (by unfold secOf; rw [HN.out, Nat.min_eq_left (by omega)])
      have HF := Lib.hid hrow
      have HBB := Lib.hid hb
      clear hrow hr1 hb
      go_wp2_with fail
      go_ret
      exact ⟨rfl, by rw [HE.out]; exact HF.out, HBB.out⟩
end Go.Proofs.Ytkmbgbbmhpidkaa
