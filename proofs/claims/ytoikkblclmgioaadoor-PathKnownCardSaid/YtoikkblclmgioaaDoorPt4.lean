/-
  May it be a path: the program's, the document's.
-/
import Derived.Test.YtoikkblclmgioaaDoorPt3
import Derived.Deep.LoopGhost
namespace Go.Proofs.YtoikkblclmgioaaDoor
open Go.RowKit
set_option linter.unusedVariables false

theorem isP_long {s : ByteArray} (h : 32 < s.size) : isP s.data.toList = false := by
  unfold isP
  rw [len_data, decide_eq_false (by omega), Bool.false_and]
theorem isP_short {s : ByteArray} (h : s.size ≤ 32) : isP s.data.toList = okFrom [] s.data.toList := by
  unfold isP
  rw [len_data, decide_eq_true h, Bool.true_and]
theorem strs_at (ps : List ByteArray) {i : Nat} (h : i < ps.length) : (ps.map Value.string).toArray[i]? = some (.string (ps.getD i ByteArray.empty)) := by
  simp [List.getD, h]
theorem all_getB (ps : List ByteArray) (f : ByteArray → Bool) : ps.all f = true ↔ ∀ j, j < ps.length → f (ps.getD j ByteArray.empty) = true := by
  rw [List.all_eq_true]
  constructor
  · intro h j hj
    have := h _ (List.getElem_mem hj)
    simpa [List.getD, hj] using this
  · intro h x hx
    obtain ⟨i, hi, rfl⟩ := List.getElem_of_mem hx
    have := h i hi
    simpa [List.getD, hi] using this
def mayS (p : ByteArray) : Bool := mayB p.data.toList
theorem pieces_bad {ps : List ByteArray} {k : Nat} (h : k < ps.length) (hb : mayS (ps.getD k ByteArray.empty) = false) : ps.all mayS = false := by
  rw [← Bool.not_eq_true]
  intro e
  have := (all_getB ps _).1 e k h
  rw [hb] at this
  cases this

def RelI (ps : List ByteArray) (n : Nat) (i : Value) : Prop := ∃ k : Nat, k ≤ n ∧ i = .int .i64 k ∧ Hid (∀ j, j < k → mayS (ps.getD j ByteArray.empty) = true)

set_option maxRecDepth 100000 in
set_option maxHeartbeats 2000000 in
theorem is_any (w : World) (s : ByteArray) (hs : s.size ≤ 9223372036854775807) (hm : Big w) : Calls Tryd.prog 7 #[.string s] w fun e w' => e = .returned (.bool (isP s.data.toList)) ∧ Below w.heap.size w w' := by
  by_cases hl : 32 < s.size
  · have HE := Lib.hid (isP_long hl)
    go_enter Tryd.func7, Tryd.ntmps7
    go_wp2_with fail
    go_ret
    exact ⟨ret_bool HE.out.symm, Below.refl _ _⟩
  have HS := Lib.hid (isP_short (s := s) (by omega))
  go_enter Tryd.func7, Tryd.ntmps7
  go_wp2_with fail
  refine (split_any w s (by omega) hm).mono ?_
  rintro e w1 ⟨ps, rfl, rfl, hall, hsz, hlen⟩
  have hbel : Below w.heap.size w (w.alloc (.cells (ps.map Value.string).toArray 9)) := (Below.refl _ _).alloc (Nat.le_refl _) _
  have hbox := Holds.fresh w 9 (ps.map Value.string).toArray
  generalize w.alloc (.cells (ps.map Value.string).toArray 9) = W at *
  obtain ⟨n, hn⟩ : ∃ n, n = ps.length := ⟨_, rfl⟩
  have HALL := Lib.hid hall
  have HSZ := Lib.hid hsz
  rw [← hn] at hlen ⊢
  have HN := Lib.hid hn
  clear hall hsz hn
  go_wp2_with fail
  go_loop [11] (fun i => RelI ps n i) (fun i => n - (intOf i).toNat)
  case atStart => exact ⟨0, Nat.zero_le _, rfl, Lib.hid (fun j h => by omega)⟩
  case round =>
    obtain ⟨k, hk, rfl, HA⟩ := hrel
    by_cases hlt : k < n
    case pos =>
      have hc0 := (hbox.cell k).trans (strs_at ps (by have := HN.out; omega))
      obtain ⟨p, hp⟩ : ∃ p, p = ps.getD k ByteArray.empty := ⟨_, rfl⟩
      rw [← hp] at hc0
      have hpz : p.size ≤ 9223372036854775807 := by
        have := HSZ.out (ps.getD k ByteArray.empty) (by
          have h : k < ps.length := by have := HN.out; omega
          simp [List.getD, h])
        rw [hp]; omega
      have HP := Lib.hid hp
      clear hp
      rcases hb : mayS p with _ | _
      · have HB : Hid (isP s.data.toList = false) := Lib.hid (by
          rw [HS.out, ← HALL.out]
          exact pieces_bad (k := k) (by have := HN.out; omega) (by rw [← HP.out]; exact hb))
        have HC := Lib.hid hb
        clear hb
        go_wp2_with fail
        refine (may_any _ p hpz).mono ?_
        rintro e w1 ⟨rfl, rfl⟩
        have hq : mayB p.data.toList = false := HC.out
        rw [hq]
        clear hq
        go_wp2_with fail
        go_ret
        exact ⟨ret_bool HB.out.symm, hbel⟩
      · have HB : Hid (∀ j, j < k + 1 → mayS (ps.getD j ByteArray.empty) = true) := Lib.hid (fun j hj => by
          rcases Nat.lt_or_ge j k with h' | h'
          · exact HA.out j h'
          · obtain rfl : j = k := by omega
            rw [← HP.out]; exact hb)
        have HC := Lib.hid hb
        clear hb
        go_wp2_with fail
        refine (may_any _ p hpz).mono ?_
        rintro e w1 ⟨rfl, rfl⟩
        have hq : mayB p.data.toList = true := HC.out
        rw [hq]
        clear hq
        go_wp2_with fail
        go_round
        case rel => exact ⟨k + 1, by omega, by go_num, HB⟩
        case measure => simp [intOf]; omega
    case neg =>
      obtain rfl : k = n := by omega
      have hf : decide (k < k) = false := decide_eq_false (by omega)
      have hf2 : decide ((k : Int) < (k : Int)) = false := decide_eq_false (by omega)
      have HE : Hid (isP s.data.toList = true) := Lib.hid (by
        rw [HS.out, ← HALL.out]
        exact (all_getB ps _).2 (fun j hj => HA.out j (by have := HN.out; omega)))
      go_wp2_with fail
      go_ret
      exact ⟨ret_bool HE.out.symm, hbel⟩

/-! The document's. -/
theorem drop_cons (s : ByteArray) {k : Nat} (h : k < s.size) : s.data.toList.drop k = s[k] :: s.data.toList.drop (k + 1) := by
  rw [List.drop_eq_getElem_cons (by simpa using h)]
  rfl
theorem seg_more (s : ByteArray) {f k : Nat} (hf : f ≤ k) (h : k < s.size) : (s.data.toList.drop f).take (k + 1 - f) = (s.data.toList.drop f).take (k - f) ++ [s[k]] := by
  rw [show k + 1 - f = (k - f) + 1 by omega, List.take_add_one, List.getElem?_drop, show f + (k - f) = k by omega, List.getElem?_eq_getElem (by simpa using h)]
  rfl
/-- The parts up to here are such. -/
def Upto (s : ByteArray) (f k : Nat) : Prop := okFrom [] s.data.toList = okFrom ((s.data.toList.drop f).take (k - f)) (s.data.toList.drop k)
theorem upto_zero (s : ByteArray) : Upto s 0 0 := rfl
theorem upto_byte {s : ByteArray} {f k : Nat} (h : Upto s f k) (hf : f ≤ k) (hk : k < s.size) (hc : s[k] ≠ 47) : Upto s f (k + 1) := by
  unfold Upto at *
  rw [h, drop_cons s hk, okFrom, if_neg hc, seg_more s hf hk]
theorem upto_part {s : ByteArray} {f k : Nat} (h : Upto s f k) (hk : k < s.size) (hc : s[k] = 47) (hp : mayB (s.extract f k).data.toList = true) : Upto s (k + 1) (k + 1) := by
  unfold Upto at *
  rw [Lib.extract_data] at hp
  rw [h, drop_cons s hk, okFrom, if_pos hc, hp, Bool.true_and]
  simp
theorem upto_bad {s : ByteArray} {f k : Nat} (h : Upto s f k) (hk : k < s.size) (hc : s[k] = 47) (hp : mayB (s.extract f k).data.toList = false) : okFrom [] s.data.toList = false := by
  unfold Upto at h
  rw [Lib.extract_data] at hp
  rw [h, drop_cons s hk, okFrom, if_pos hc, hp, Bool.false_and]
theorem upto_end {s : ByteArray} {f : Nat} (h : Upto s f s.size) : okFrom [] s.data.toList = mayB (s.extract f s.size).data.toList := by
  unfold Upto at h
  rw [Lib.extract_data, h, show s.data.toList.drop s.size = [] from List.drop_of_length_le (by simp)]
  rfl
def RelU (s : ByteArray) (f i : Value) : Prop := ∃ a k : Nat, a ≤ k ∧ k ≤ s.size + 1 ∧ f = .int .i64 a ∧ i = .int .i64 k ∧ Hid (k ≤ s.size → Upto s a k) ∧ Hid (k = s.size + 1 → okFrom [] s.data.toList = true)

set_option maxRecDepth 100000 in
set_option maxHeartbeats 2000000 in
theorem is'_any (w : World) (s : ByteArray) (hs : s.size ≤ 9223372036854775807) : Calls Tryd.prog 8 #[.string s] w fun e w' => e = .returned (.bool (isP s.data.toList)) ∧ w = w' := by
  by_cases hl : 32 < s.size
  · have HE := Lib.hid (isP_long hl)
    go_enter Tryd.func8, Tryd.ntmps8
    go_wp2_with fail
    go_ret
    exact ⟨ret_bool HE.out.symm, rfl⟩
  by_cases h0 : s.size < 1
  · have HE : Hid (isP s.data.toList = false) := Lib.hid (by
      rw [List.eq_nil_of_length_eq_zero (show s.data.toList.length = 0 by rw [len_data]; omega)]; rfl)
    go_enter Tryd.func8, Tryd.ntmps8
    go_wp2_with fail
    go_ret
    exact ⟨ret_bool HE.out.symm, rfl⟩
  have HS := Lib.hid (isP_short (s := s) (by omega))
  go_enter Tryd.func8, Tryd.ntmps8
  go_wp2_with fail
  go_loop [3, 4] (fun f i => RelU s f i) (fun _ i => s.size + 1 - (intOf i).toNat)
  case atStart => exact ⟨0, 0, Nat.le_refl _, Nat.zero_le _, rfl, rfl, Lib.hid (fun _ => upto_zero s), Lib.hid (fun h => by omega)⟩
  case round =>
    obtain ⟨a, k, hak, hk, rfl, rfl, HU, HT⟩ := hrel
    by_cases hlt : k < s.size
    case pos =>
      have hne : ((k : Int) == (s.size : Int)) = false := by rw [beq_eq_false_iff_ne]; omega
      have hle : k ≤ s.size := by omega
      by_cases hc : s[k] = 47
      case neg =>
        have hcx : ((s[k].toNat : Int) == 47) = false := by
          rw [beq_eq_false_iff_ne]
          intro e
          exact hc (UInt8.toNat_inj.1 (by show s[k].toNat = 47; omega))
        have HX := Lib.hid (upto_byte (HU.out hle) hak hlt hc)
        clear hc
        go_wp2_with fail
        go_round
        case rel => exact ⟨a, k + 1, by omega, by omega, rfl, by go_num, Lib.hid (fun _ => HX.out), Lib.hid (fun h => by omega)⟩
        case measure => simp [intOf]; omega
      case pos =>
        have hcx : ((s[k].toNat : Int) == 47) = true := by rw [hc]; rfl
        have hez : (s.extract a k).size ≤ 9223372036854775807 := by rw [ByteArray.size_extract]; omega
        rcases hb : mayB (s.extract a k).data.toList with _ | _
        · have HB : Hid (isP s.data.toList = false) := Lib.hid (by rw [HS.out]; exact upto_bad (HU.out hle) hlt hc hb)
          have HC := Lib.hid hb
          clear hb hc
          go_wp2_with fail
          refine (part'_any _ _ hez).mono ?_
          rintro e w1 ⟨rfl, rfl⟩
          rw [HC.out]
          go_wp2_with fail
          go_ret
          exact ⟨ret_bool HB.out.symm, rfl⟩
        · have HX := Lib.hid (upto_part (HU.out hle) hlt hc hb)
          have HC := Lib.hid hb
          clear hb hc
          go_wp2_with fail
          refine (part'_any _ _ hez).mono ?_
          rintro e w1 ⟨rfl, rfl⟩
          rw [HC.out]
          go_wp2_with fail
          go_round
          case rel => exact ⟨k + 1, k + 1, by omega, by omega, by go_num, by go_num, Lib.hid (fun _ => HX.out), Lib.hid (fun h => by omega)⟩
          case measure => simp [intOf]; omega
    case neg =>
      by_cases hend : k = s.size
      case pos =>
        subst hend
        have hez : (s.extract a s.size).size ≤ 9223372036854775807 := by rw [ByteArray.size_extract]; omega
        have HV := Lib.hid (upto_end (HU.out (Nat.le_refl _)))
        rcases hb : mayB (s.extract a s.size).data.toList with _ | _
        · have HB : Hid (isP s.data.toList = false) := Lib.hid (by rw [HS.out, HV.out]; exact hb)
          have HC := Lib.hid hb
          clear hb
          go_wp2_with fail
          refine (part'_any _ _ hez).mono ?_
          rintro e w1 ⟨rfl, rfl⟩
          rw [HC.out]
          go_wp2_with fail
          go_ret
          exact ⟨ret_bool HB.out.symm, rfl⟩
        · have HB : Hid (okFrom [] s.data.toList = true) := Lib.hid (by rw [HV.out]; exact hb)
          have HC := Lib.hid hb
          clear hb
          go_wp2_with fail
          refine (part'_any _ _ hez).mono ?_
          rintro e w1 ⟨rfl, rfl⟩
          rw [HC.out]
          go_wp2_with fail
          go_round
          case rel => exact ⟨s.size + 1, s.size + 1, by omega, by omega, by go_num, by go_num, Lib.hid (fun h => by omega), Lib.hid (fun _ => HB.out)⟩
          case measure => simp [intOf]
      case neg =>
        obtain ⟨n, hn⟩ : ∃ n, n = s.size + 1 := ⟨_, rfl⟩
        have hkn : k = s.size + 1 := by omega
        have HB : Hid (isP s.data.toList = true) := Lib.hid (by rw [HS.out]; exact HT.out hkn)
        have hf1 : decide ((k : Int) ≤ (s.size : Int)) = false := decide_eq_false (by omega)
        have hf2 : decide (k ≤ s.size) = false := decide_eq_false (by omega)
        clear hend hkn hn
        go_wp2_with fail
        go_ret
        exact ⟨ret_bool HB.out.symm, rfl⟩
end Go.Proofs.YtoikkblclmgioaaDoor
