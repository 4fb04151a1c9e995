/-
  The known digest, by hand; bytes as a text.
-/
import Derived.Test.YtoggfooeeafadaaDoorSha10
import Derived.Laws.IdiomStrings
import Derived.Laws.BytesArg
import Derived.Lib.Strings
import Derived.Lib.SlBytesConst
import Derived.Lib.SmallJoins
namespace Go.Proofs.YtoggfooeeafadaaDoor
open Go.RowKit
set_option linter.unusedVariables false
attribute [local go_sem ↓] Go.wp_at_zero Go.wp_at_succ

/-- Bytes as a text. -/
def str (l : List Nat) : ByteArray := ⟨(l.map UInt8.ofNat).toArray⟩
theorem str_inj {l l' : List Nat} (h : ∀ x ∈ l, x < 256) (h' : ∀ x ∈ l', x < 256) (e : str l = str l') : l = l' := by
  have e1 : l.map UInt8.ofNat = l'.map UInt8.ofNat := by
    have := congrArg (fun b : ByteArray => b.data.toList) e
    simpa [str] using this
  have e2 : (l.map UInt8.ofNat).map UInt8.toNat = (l'.map UInt8.ofNat).map UInt8.toNat := by rw [e1]
  have e3 : ∀ m : List Nat, (∀ x ∈ m, x < 256) → (m.map UInt8.ofNat).map UInt8.toNat = m := by
    intro m hm
    rw [List.map_map]
    conv => rhs; rw [← List.map_id m]
    apply List.map_congr_left
    intro x hx
    simp [Nat.mod_eq_of_lt (hm x hx)]
  rw [e3 l h, e3 l' h'] at e2
  exact e2
theorem conv_str {w : World} {B : Nat} {A : Option Addr} {c n : Nat} {l : List Nat} (hr : Rd .u8 w B A c l) (hn : l.length = n) (h : ∀ x ∈ l, x < 256) : (convert 22 9 (.slice A n c)).run Tryd.prog w = .ok (.string (str l)) w := by
  subst hn
  rcases Nat.eq_zero_or_pos l.length with h0 | h0
  · obtain rfl := List.eq_nil_of_length_eq_zero h0
    rcases A with _ | a
    · exact run_convert_bytes_nil w 22 5 Tryd.underlying22 Tryd.underlying5 0 c 9 Tryd.underlying9
    · exact run_convert_bytes_back w 22 9 5 a c [] Tryd.underlying22 Tryd.underlying5 Tryd.underlying9 (fun j hj => by simp at hj)
  · obtain ⟨b, off, rfl, hb, hc⟩ := hr.2.2 h0
    have hh := run_convert_bytes_back w 22 9 5 ⟨b, off, none⟩ c (l.map UInt8.ofNat) Tryd.underlying22 Tryd.underlying5 Tryd.underlying9 (fun j hj => by
      have hj' : j < l.length := by simpa using hj
      have e := hc j hj'
      have ha : (⟨b, off, none⟩ : Addr).add j = ⟨b, off + j, none⟩ := by unfold Addr.add; split <;> simp_all
      rw [ha, e]
      have hx := h l[j] (List.getElem_mem hj')
      simp [List.getD, hj', Nat.mod_eq_of_lt hx])
    rwa [List.length_map] at hh


theorem oct6_of {l : List Nat} (h : ∀ x ∈ l, x < 256) : Oct6 l := fun i => by
  rcases Nat.lt_or_ge i l.length with hi | hi
  · rw [List.getD, List.getElem?_eq_getElem hi]; exact h _ (List.getElem_mem hi)
  · rw [List.getD, List.getElem?_eq_none hi]; exact (by decide : (0 : Nat) < 256)
/-- A call with one row. -/
theorem rdR_one {W : World} {A : Option Addr} {c : Nat} {l : List Nat} (hr : Rd .u8 W W.heap.size A c l) (e : TypeId) : RdR (W.alloc (.cells #[.slice A l.length c] e)) (W.heap.size + 1) (some ⟨W.heap.size, 0, none⟩) 1 [⟨A, c, l⟩] := by
  have hb : Below W.heap.size W (W.alloc (.cells #[.slice A l.length c] e)) := (Below.refl _ _).alloc (Nat.le_refl _) _
  refine ⟨Nat.le_refl _, by decide, fun j hj => ?_, fun _ => ⟨W.heap.size, 0, rfl, Nat.lt_succ_self _, fun j hj => ?_⟩⟩
  · obtain rfl : j = 0 := by simpa using hj
    exact (hr.under hb).more (Nat.le_succ _)
  · obtain rfl : j = 0 := by simpa using hj
    rw [cell_of_row _ _ _ _ e (0, 0) (heap_alloc_new W _)]
    rfl
theorem rd_const (W : World) (e : TypeId) (l : List Nat) (fr : Nat × Nat) (h63 : l.length ≤ 9223372036854775807) : Rd .u8 (W.alloc (.cells (bvals l).toArray e fr)) (W.heap.size + 1) (some ⟨W.heap.size, 0, none⟩) l.length l :=
  ⟨Nat.le_refl _, h63, fun _ => ⟨W.heap.size, 0, rfl, Nat.lt_succ_self _, fun j hj => by
    rw [cell_of_row _ _ _ _ e fr (heap_alloc_new W _), Nat.zero_add, List.getElem?_toArray]
    exact bvals_at l hj⟩⟩
theorem of_one (W : World) (A : Option Addr) (c n : Nat) (l : List Nat) (hn : l.length = n) (hr : Rd .u8 W W.heap.size A c l) (ho : Oct6 l) (hsz : n ≤ 100000) (hk : KMet W) :
    Calls Tryd.prog 7 #[.slice (some ⟨W.heap.size, 0, none⟩) 1 1] (W.alloc (.cells #[.slice A n c] 22)) fun e w' => ∃ A' c', e = .returned (.slice A' 32 c') ∧ Rd .u8 w' w'.heap.size A' c' (digest l) ∧ Below (W.heap.size + 1) (W.alloc (.cells #[.slice A n c] 22)) w' := by
  subst hn
  have hb : Below W.heap.size W (W.alloc (.cells #[.slice A l.length c] 22)) := (Below.refl _ _).alloc (Nat.le_refl _) _
  refine (of_any (W.alloc (.cells #[.slice A l.length c] 22)) (W.heap.size + 1) (some ⟨W.heap.size, 0, none⟩) 1 1 [⟨A, c, l⟩] rfl (rdR_one hr _) (by simp) (fun j => ?_) (by simpa [flat] using hsz) (hk.under hb)).mono ?_
  · rcases j with _ | j
    · exact ho
    · intro i; exact (by decide : (0 : Nat) < 256)
  · rintro e w' ⟨A', c', rfl, hm, hb'⟩
    exact ⟨A', c', rfl, by simpa [flat] using hm.rd, hb'.mono (by simp)⟩

set_option maxRecDepth 100000 in
set_option maxHeartbeats 600000 in
theorem known6_any (w : World) (hk : KMet w) : Calls Tryd.prog 9 #[] w fun e w' => e = .returned (.bool true) ∧ Below w.heap.size w w' := by
  have hb1 : Below w.heap.size w (w.alloc (.cells #[Value.int .u8 97, Value.int .u8 98, Value.int .u8 99] 5 (3, 4))) := (Below.refl _ _).alloc (Nat.le_refl _) _
  have hr1 : Rd .u8 (w.alloc (.cells #[Value.int .u8 97, Value.int .u8 98, Value.int .u8 99] 5 (3, 4))) (w.alloc (.cells #[Value.int .u8 97, Value.int .u8 98, Value.int .u8 99] 5 (3, 4))).heap.size (some ⟨w.heap.size, 0, none⟩) 3 [97, 98, 99] := (rd_const w 5 [97, 98, 99] (3, 4) (by decide)).more (by simp)
  have HC := Lib.hid (of_one _ _ 3 3 [97, 98, 99] rfl hr1 (oct6_of (by decide)) (by decide) (hk.under hb1))
  have HB := Lib.hid hb1
  have hw1 : (w.alloc (.cells #[Value.int .u8 97, Value.int .u8 98, Value.int .u8 99] 5 (3, 4))).heap.size = w.heap.size + 1 := by simp
  rw [hw1] at HC
  have kc := fun (w : World) (C : Array Value) (n c : Nat) => Lib.run_convert_bytes_const (P := Tryd.prog) w 22 5 C n c Tryd.underlying22 Tryd.underlying5
  clear hk hb1 hr1 hw1
  go_enter Tryd.func9, Tryd.ntmps9
  go_wp2_with fail
  refine HC.out.mono ?_
  rintro e w1 ⟨A1, c1, rfl, hr1, hb1⟩
  have HB1 : Hid (Below w.heap.size w w1) := Lib.hid (HB.out.trans (((Below.refl _ _).alloc (Nat.le_refl _) _ |>.mono HB.out.size).trans (hb1.mono (Nat.le_succ_of_le (Nat.le_succ _)))))
  have hs := conv_str hr1 (digest_length _) (digest_oct _)
  rw [show digest [97, 98, 99] = _ from of_known] at hs
  clear HC HB hr1 hb1 kc
  go_wp2_with fail
  go_ret
  exact ⟨by rw [show (str [186, 120, 22, 191, 143, 1, 207, 234, 65, 65, 64, 222, 93, 174, 34, 35, 176, 3, 97, 163, 150, 23, 122, 156, 180, 16, 255, 97, 242, 0, 21, 173]).toList = _ from Lib.toList_data _]; rfl, HB1.out⟩
end Go.Proofs.YtoggfooeeafadaaDoor
