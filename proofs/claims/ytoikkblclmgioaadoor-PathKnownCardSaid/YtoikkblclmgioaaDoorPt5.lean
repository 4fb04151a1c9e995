/-
  May several be together: the program's.
-/
import Derived.Test.YtoikkblclmgioaaDoorPt4
import Derived.Maps.Own
import Derived.Maps.Views
import Derived.Maps.OwnOps
import Derived.Maps.OwnSet
namespace Go.Proofs.YtoikkblclmgioaaDoor
open Go.RowKit Go.WideMaps Go.Maps
set_option linter.unusedVariables false

/-- The slice '.slice A l.length c' reads as the texts l. -/
def RdS (w : World) (B : Nat) (A : Option Addr) (c : Nat) (l : List ByteArray) : Prop :=
  l.length ≤ c ∧ c ≤ 9223372036854775807 ∧ (0 < l.length → ∃ b off, A = some ⟨b, off, none⟩ ∧ b < B ∧ ∀ j, j < l.length → w.cell? ⟨b, off + j, none⟩ = some (.string (l.getD j ByteArray.empty)))
section
variable {w w' : World} {B B' : Nat} {A : Option Addr} {c : Nat} {l : List ByteArray}
theorem RdS.keep (h : RdS w B A c l) (hk : ∀ b o, b < B → w'.cell? ⟨b, o, none⟩ = w.cell? ⟨b, o, none⟩) : RdS w' B A c l :=
  ⟨h.1, h.2.1, fun hn => by
    obtain ⟨b, off, e, hb, hc⟩ := h.2.2 hn
    exact ⟨b, off, e, hb, fun j hj => (hk _ _ hb).trans (hc j hj)⟩⟩
theorem RdS.more (h : RdS w B A c l) (hB : B ≤ B') : RdS w B' A c l :=
  ⟨h.1, h.2.1, fun hn => by
    obtain ⟨b, off, e, hb, hc⟩ := h.2.2 hn
    exact ⟨b, off, e, by omega, hc⟩⟩
theorem RdS.under (h : RdS w B A c l) (hb : Below B w w') : RdS w' B A c l := h.keep fun b o hlt => hb.cell (p := ⟨b, o, none⟩) hlt
theorem RdS.drewN (h : RdS w B A c l) (n : Nat) : RdS (w.drewN n) B A c l := h
theorem RdS.nil_ (w : World) (B : Nat) : RdS w B none 0 [] := ⟨by simp, by omega, fun h => by simp at h⟩
theorem RdS.at_ (h : RdS w B A c l) {i : Nat} (hi : i < l.length) : ∃ b off, A = some ⟨b, off, none⟩ ∧ b < B ∧ w.cell? ⟨b, off + i, none⟩ = some (.string (l.getD i ByteArray.empty)) := by
  obtain ⟨b, off, e, hb, hc⟩ := h.2.2 (by omega)
  exact ⟨b, off, e, hb, hc i hi⟩
end

/-- The texts as lists. -/
def tx (l : List ByteArray) : List (List UInt8) := l.map fun p => p.data.toList
theorem tx_length (l : List ByteArray) : (tx l).length = l.length := by simp [tx]
theorem tx_at (l : List ByteArray) (k : Nat) : (tx l).getD k [] = (l.getD k ByteArray.empty).data.toList := by
  by_cases h : k < l.length
  · simp [tx, List.getD, h]
  · simp [tx, List.getD, h]
theorem tx_take (l : List ByteArray) (k : Nat) : (tx l).take k = tx (l.take k) := by simp [tx]
theorem tx_more (l : List ByteArray) {k : Nat} (h : k < l.length) : (tx l).take (k + 1) = (tx l).take k ++ [(l.getD k ByteArray.empty).data.toList] := by
  rw [List.take_add_one, List.getElem?_eq_getElem (by rw [tx_length]; exact h), ← tx_at]
  simp [List.getD, h, tx]

theorem law : Keyed Tryd.prog 9 := string_keyed Tryd.underlying9
theorem zeroI (w : World) : (zeroValue 3).run Tryd.prog w = .ok (.int .i64 0) w := by kernel_rfl
/-- Block b is a map that has 1 at each of these. -/
def MapTo (w : World) (b k : Nat) (ls : List (List UInt8)) : Prop :=
  ∃ D : DataW Unit, w.ownsMap Tryd.prog 9 (plainElem Tryd.prog 3) b k D ∧ ∀ s : List UInt8, D.atKey (.string s) (.lit (.int .i64 0)) = .lit (.int .i64 (if s ∈ ls then 1 else 0))
theorem mapTo_made (w : World) : MapTo (w.alloc (.map #[] 0)) w.heap.size 0 [] := ⟨.map [], World.ownsMap_made _ _ _ _, fun s => rfl⟩
theorem mapTo_lt {w : World} {b k : Nat} {ls : List (List UInt8)} (h : MapTo w b k ls) : b < w.heap.size := by obtain ⟨D, h, _⟩ := h; exact h.lt
theorem mapTo_under {w w' : World} {b k B : Nat} {ls : List (List UInt8)} (h : MapTo w b k ls) (hb : Below B w w') (hlt : b < B) : MapTo w' b k ls := by
  obtain ⟨D, ⟨es, clock, hw, r⟩, hat⟩ := h
  exact ⟨D, ⟨es, clock, (hb.block b hlt).trans hw, r⟩, hat⟩
theorem mapTo_look {w : World} {b k : Nat} {ls : List (List UInt8)} (h : MapTo w b k ls) (s : ByteArray) (hs : s.size ≤ 9223372036854775807) :
    (Instr.lookup 31 (.map (some b)) (.string s) false).run Tryd.prog w = .ok (.int .i64 (if s.data.toList ∈ ls then 1 else 0)) w := by
  obtain ⟨D, hown, hat⟩ := h
  obtain ⟨c, hrun, hat', _⟩ := hown.lookup_int law Tryd.underlying31 Tryd.underlying3 (zeroI _) (keyOf_string_mk Tryd.underlying9 (s := s) (by unfold maxLen; omega))
  rw [hat] at hat'
  injection hat' with e
  injection e with _ e
  rw [hrun, e]
theorem mapTo_put {w : World} {b k : Nat} {ls : List (List UInt8)} {D : DataW Unit} {s : List UInt8} (hm : IsMap D) (hat : ∀ s : List UInt8, D.atKey (.string s) (.lit (.int .i64 0)) = .lit (.int .i64 (if s ∈ ls then 1 else 0)))
    (hown : w.ownsMap Tryd.prog 9 (plainElem Tryd.prog 3) b k (D.put (.string s) (.lit (.int .i64 1)))) : MapTo w b k (ls ++ [s]) := by
  refine ⟨_, hown, fun t => ?_⟩
  by_cases e : t = s
  · subst e
    rw [atKey_put_same hm (k := .string t) trivial]
    simp
  · rw [atKey_put_other (by intro h; injection h with h; exact e h), hat]
    simp [e]

def RelM (w : World) (l : List ByteArray) (B : Nat) (A : Option Addr) (c n : Nat) (i : Value) (wr : World) : Prop :=
  ∃ k : Nat, k ≤ n ∧ i = .int .i64 k ∧ Hid (Had (tx l) k) ∧ RdS wr B A c l ∧ MapTo wr w.heap.size k ((tx l).take k) ∧ Below w.heap.size w wr ∧ Big wr
def RelT (l : List ByteArray) (n : Nat) (i : Value) : Prop := ∃ k : Nat, k ≤ n ∧ i = .int .i64 k ∧ Hid (Thru (tx l) k 0)
def RelJ (l : List ByteArray) (k m : Nat) (i : Value) : Prop := ∃ j : Nat, j ≤ m ∧ i = .int .i64 j ∧ Hid (Thru (tx l) k j)
theorem off_of {ls : List (List UInt8)} {v : Bool} (hv : v = true ↔ AllOk ls) (h : ¬ AllOk ls) : v = false := by
  cases v
  · rfl
  · exact absurd (hv.1 rfl) h

set_option maxRecDepth 100000 in
set_option maxHeartbeats 4000000 in
theorem all_any (w : World) (B : Nat) (A : Option Addr) (c n : Nat) (l : List ByteArray) (hn : l.length = n) (hr : RdS w B A c l) (hB : B ≤ w.heap.size) (hsz : ∀ p ∈ l, p.size ≤ 9223372036854775807) (hm : Big w) (v : Bool) (hv : v = true ↔ AllOk (tx l)) :
    Calls Tryd.prog 9 #[.slice A n c] w fun e w' => e = .returned (.bool v) ∧ Below w.heap.size w w' := by
  have HV := Lib.hid hv
  have HN := Lib.hid hn
  have HSZ := Lib.hid hsz
  have hlc := hr.1
  have hc63 := hr.2.1
  have hnc : n ≤ c := by omega
  have hmm := @run_makeMap Tryd.prog
  have hmap := mapTo_made w
  have hbel : Below w.heap.size w (w.alloc (.map #[] 0)) := (Below.refl _ _).alloc (Nat.le_refl _) _
  have hr0 := hr.keep (w' := w.alloc (.map #[] 0)) (fun b o hb => hbel.cell (p := ⟨b, o, none⟩) (Nat.lt_of_lt_of_le hb hB))
  have hm0 := hm.under hbel
  have hm0lt := hm.lt
  clear hv hn hsz hlc
  go_enter Tryd.func9, Tryd.ntmps9
  go_wp2_with fail
  generalize w.alloc (.map #[] 0) = W at *
  clear hmm hr hm
  go_loopw [12] (fun i wr => RelM w l B A c n i wr) (fun i _ => n - (intOf i).toNat)
  case atStart => exact ⟨0, Nat.zero_le _, rfl, Lib.hid (had_zero _), hr0, hmap, hbel, hm0⟩
  case round =>
    clear hr0 hmap hbel hm0
    obtain ⟨k, hk, rfl, HH, hrk, hmk, hbk, hbig⟩ := hrel
    obtain ⟨V, hV⟩ : ∃ V, V = wr := ⟨_, rfl⟩
    subst hV
    by_cases hkn : k < n
    case pos =>
      obtain ⟨b, off, rfl, hb, hx⟩ := hrk.at_ (i := k) (by have := HN.out; omega)
      obtain ⟨p, hp⟩ : ∃ p, p = l.getD k ByteArray.empty := ⟨_, rfl⟩
      rw [← hp] at hx
      have hkl : k < l.length := by have := HN.out; omega
      have hpz : p.size ≤ 9223372036854775807 := HSZ.out p (by rw [hp]; simp [List.getD, hkl])
      have HP : Hid (p.data.toList = (tx l).getD k []) := Lib.hid (by rw [tx_at, hp])
      have HT : Hid ((tx l).take (k + 1) = (tx l).take k ++ [p.data.toList]) := Lib.hid (by rw [tx_more l hkl, hp])
      have HL : Hid ((tx l).length = l.length) := Lib.hid (tx_length l)
      clear hp hkl
      have hk0 : (0 : Int) ≤ (k : Int) := by omega
      have hkI : (k : Int) < (n : Int) := by omega
      go_wp2_with fail
      refine (is_any V p hpz hbig).mono ?_
      rintro e w1 ⟨rfl, hb1⟩
      have hmk1 := mapTo_under hmk hb1 (mapTo_lt hmk)
      have hlk := mapTo_look hmk1 p hpz
      have hrk1 := hrk.under (hb1.mono (Nat.le_trans hB hbk.size))
      have hbel1 := hbk.trans (hb1.mono hbk.size)
      have hbig1 := hbig.under hb1
      clear hrk hmk hbk hbig hb1 hx
      rcases hip : isP p.data.toList with _ | _
      · have HF : Hid (v = false) := Lib.hid (off_of HV.out (not_path (k := k) (by have := HL.out; have := HN.out; omega) (by rw [← HP.out]; exact hip)))
        clear hip
        go_wp2_with fail
        go_ret
        exact ⟨ret_bool HF.out.symm, hbel1⟩
      · by_cases hin : p.data.toList ∈ (tx l).take k
        · have HF : Hid (v = false) := Lib.hid (off_of HV.out (not_twice (k := k) (by have := HL.out; have := HN.out; omega) (by rw [← HP.out]; exact hin)))
          rw [if_pos hin] at hlk
          clear hip hin
          go_wp2_with fail
          go_ret
          exact ⟨ret_bool HF.out.symm, hbel1⟩
        · have HH1 := Lib.hid (had_step HH.out (by rw [← HP.out]; exact hip) (by rw [← HP.out]; exact hin) (by have := HL.out; have := HN.out; omega))
          rw [if_neg hin] at hlk
          clear hip hin
          obtain ⟨D, hown, hat⟩ := hmk1
          have HAT := Lib.hid hat
          have hkey := keyOf_string_mk (P := Tryd.prog) Tryd.underlying9 (s := p) (by unfold maxLen; omega)
          clear hat
          go_wp2_with (at_mapUpdate; refine wpList_mapUpdate_own _ rfl _ _ _ 31 rfl 9 3 law Tryd.underlying31 _ w.heap.size k _ rfl hown (by unfold maxLen; omega) _ _ _ rfl rfl hkey _ [] (plainElem_int Tryd.underlying3 (by decide)) ?_)
          intro w2 hown2 hgr2
          have hmk2 := mapTo_put (World.ownsMap.isMap hown) HAT.out hown2
          rw [← HT.out] at hmk2
          have hbel2 := hbel1.grown hgr2 hbel1.size (fun j hj => by cases hj; exact Nat.le_refl _)
          have hlow := (Below.refl w.heap.size w1).grown hgr2 hbel1.size (fun j hj => by cases hj; exact Nat.le_refl _)
          have hrk2 := hrk1.under (hlow.mono hB)
          have hbig2 : Big w2 := by
            have hlt : 0 < w.heap.size := hm0lt
            obtain ⟨m, hm⟩ := hbig1
            exact ⟨m, (hlow.cell (p := ⟨0, 0, none⟩) hlt).trans hm⟩
          clear hown hown2 hgr2 hlk hrk1 hbel1 hbig1 hlow hkey
          go_wp2_with fail
          go_roundw
          case rel => exact ⟨k + 1, by omega, by go_num, HH1, hrk2, hmk2, hbel2, hbig2⟩
          case measure => simp [intOf]; omega
    case neg =>
      obtain rfl : k = n := by omega
      have hf : decide (k < k) = false := decide_eq_false (by omega)
      have hf2 : decide ((k : Int) < (k : Int)) = false := decide_eq_false (by omega)
      have HLN : Hid (k = (tx l).length) := Lib.hid (by rw [tx_length]; have := HN.out; omega)
      have hmk : MapTo V w.heap.size k (tx l) := by
        have h := hmk
        rw [List.take_of_length_le (by have := HLN.out; omega)] at h
        exact h
      go_wp2_with fail
      clear hf hf2
      go_loop [30] (fun i => RelT l k i) (fun i => k - (intOf i).toNat)
      case atStart => exact ⟨0, Nat.zero_le _, rfl, Lib.hid (thru_zero _)⟩
      case round =>
        obtain ⟨m, hmk2, rfl, HT⟩ := hrel
        by_cases hmn : m < k
        case neg =>
          obtain rfl : m = k := by omega
          have hf : decide (m < m) = false := decide_eq_false (by omega)
          have hf2 : decide ((m : Int) < (m : Int)) = false := decide_eq_false (by omega)
          have HF : Hid (v = true) := Lib.hid (HV.out.2 (by
            have h1 := HH.out
            have h2 := HT.out
            rw [HLN.out] at h1 h2
            exact all_end h1 h2))
          go_wp2_with fail
          go_ret
          exact ⟨ret_bool HF.out.symm, hbk⟩
        case pos =>
          obtain ⟨b, off, rfl, hb, hx⟩ := hrk.at_ (i := m) (by have := HN.out; omega)
          obtain ⟨p, hp⟩ : ∃ p, p = l.getD m ByteArray.empty := ⟨_, rfl⟩
          rw [← hp] at hx
          have hkl : m < l.length := by have := HN.out; omega
          have hpz : p.size ≤ 9223372036854775807 := HSZ.out p (by rw [hp]; simp [List.getD, hkl])
          have HP : Hid (p.data.toList = (tx l).getD m []) := Lib.hid (by rw [tx_at, hp])
          clear hp hkl
          have hk0 : (0 : Int) ≤ (m : Int) := by omega
          have hkI : (m : Int) < (k : Int) := by omega
          go_wp2_with fail
          go_loop [36] (fun i => RelJ l m p.size i) (fun i => p.size - (intOf i).toNat)
          case atStart => exact ⟨0, Nat.zero_le _, rfl, HT⟩
          case round =>
            obtain ⟨j, hj, rfl, HJ⟩ := hrel
            by_cases hjp : j < p.size
            case neg =>
              obtain rfl : j = p.size := by omega
              have hf : decide (p.size < p.size) = false := decide_eq_false (by omega)
              have hf2 : decide ((p.size : Int) < (p.size : Int)) = false := decide_eq_false (by omega)
              have HT1 := Lib.hid (thru_next HJ.out (by rw [← HP.out, len_data]; exact Nat.le_refl _))
              go_wp2_with fail
              go_round
              case rel => exact ⟨m + 1, by omega, by go_num, HT1⟩
              case measure => simp [intOf]; omega
            case pos =>
              by_cases hc : p[j] = 47
              case neg =>
                have hcx : ((p[j].toNat : Int) == 47) = false := by
                  rw [beq_eq_false_iff_ne]
                  intro e
                  exact hc (UInt8.toNat_inj.1 (by show p[j].toNat = 47; omega))
                have HT1 := Lib.hid (thru_other HJ.out (by rw [← HP.out, byte_at p hjp]; exact hc))
                clear hc
                go_wp2_with fail
                go_round
                case rel => exact ⟨j + 1, by omega, by go_num, HT1⟩
                case measure => simp [intOf]; omega
              case pos =>
                have hcx : ((p[j].toNat : Int) == 47) = true := by rw [hc]; rfl
                have hlk := mapTo_look hmk (p.extract 0 j) (by rw [ByteArray.size_extract]; omega)
                have hex : (p.extract 0 j).data.toList = ((tx l).getD m []).take j := by rw [Lib.extract_from_zero, HP.out]
                rw [hex] at hlk
                by_cases hin : ((tx l).getD m []).take j ∈ tx l
                · have HF : Hid (v = false) := Lib.hid (off_of HV.out (not_thru (k := m) (i := j) (by have := HLN.out; omega) (by rw [← HP.out, len_data]; exact hjp) (by rw [← HP.out, byte_at p hjp]; exact hc) hin))
                  rw [if_pos hin] at hlk
                  clear hin hex hc
                  go_wp2_with fail
                  go_ret
                  exact ⟨ret_bool HF.out.symm, hbk⟩
                · have HT1 := Lib.hid (thru_free HJ.out hin)
                  rw [if_neg hin] at hlk
                  clear hin hex hc
                  go_wp2_with fail
                  go_round
                  case rel => exact ⟨j + 1, by omega, by go_num, HT1⟩
                  case measure => simp [intOf]; omega
end Go.Proofs.YtoikkblclmgioaaDoor
