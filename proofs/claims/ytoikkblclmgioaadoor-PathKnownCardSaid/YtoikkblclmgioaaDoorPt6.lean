/-
  May several be together: the document's.
-/
import Derived.Test.YtoikkblclmgioaaDoorPt5
namespace Go.Proofs.YtoikkblclmgioaaDoor
open Go.RowKit
set_option linter.unusedVariables false

def RelO (w : World) (l : List ByteArray) (B : Nat) (A : Option Addr) (c n : Nat) (i : Value) (wr : World) : Prop :=
  ∃ k : Nat, k ≤ n ∧ i = .int .i64 k ∧ Hid (RefTo (tx l) k 0) ∧ RdS wr B A c l ∧ Below w.heap.size w wr
def RelIn (w : World) (l : List ByteArray) (B : Nat) (A : Option Addr) (c n m : Nat) (i : Value) (wr : World) : Prop :=
  ∃ k : Nat, k ≤ n ∧ i = .int .i64 k ∧ Hid (RefTo (tx l) m k) ∧ RdS wr B A c l ∧ Below w.heap.size w wr
theorem text_same {a b : ByteArray} (h : a.toList = b.toList) : a.data.toList = b.data.toList := by
  rwa [Lib.toList_data, Lib.toList_data] at h
/-- b leads through a. -/
theorem thru_of {a b : ByteArray} (h1 : a.size < b.size) (h2 : ((b.extract 0 a.size).toList == a.toList) = true) (h3 : b[a.size] = 47) : ¬ Apart a.data.toList b.data.toList := by
  intro h
  refine h.2 ⟨by simpa using h1, ?_, ?_⟩
  · have := eq_of_beq h2
    rw [Lib.toList_data, Lib.toList_data, Lib.extract_from_zero] at this
    rw [len_data]; exact this
  · rw [len_data, byte_at b h1]; exact h3
theorem apart_short {a b : ByteArray} (he : ¬ a.toList = b.toList) (h1 : ¬ a.size < b.size) : Apart a.data.toList b.data.toList :=
  ⟨fun e => he (by rw [Lib.toList_data, Lib.toList_data, e]), fun h => h1 (by have := h.1; rwa [len_data, len_data] at this)⟩
theorem apart_other {a b : ByteArray} (he : ¬ a.toList = b.toList) (h2 : ((b.extract 0 a.size).toList == a.toList) = false) : Apart a.data.toList b.data.toList :=
  ⟨fun e => he (by rw [Lib.toList_data, Lib.toList_data, e]), fun h => by
    have h4 := h.2.1
    rw [len_data] at h4
    rw [beq_eq_false_iff_ne, Lib.toList_data, Lib.toList_data, Lib.extract_from_zero] at h2
    exact h2 h4⟩
theorem apart_byte {a b : ByteArray} (he : ¬ a.toList = b.toList) (h1 : a.size < b.size) (h3 : ¬ b[a.size] = 47) : Apart a.data.toList b.data.toList :=
  ⟨fun e => he (by rw [Lib.toList_data, Lib.toList_data, e]), fun h => by
    have h4 := h.2.2
    rw [len_data, byte_at b h1] at h4
    exact h3 h4⟩

set_option maxRecDepth 100000 in
set_option maxHeartbeats 8000000 in
theorem all'_any (w : World) (B : Nat) (A : Option Addr) (c n : Nat) (l : List ByteArray) (hn : l.length = n) (hr : RdS w B A c l) (hB : B ≤ w.heap.size) (hsz : ∀ p ∈ l, p.size ≤ 9223372036854775807) (v : Bool) (hv : v = true ↔ AllOk (tx l)) :
    Calls Tryd.prog 10 #[.slice A n c] w fun e w' => e = .returned (.bool v) ∧ Below w.heap.size w w' := by
  have HV := Lib.hid hv
  have HN := Lib.hid hn
  have HSZ := Lib.hid hsz
  have hlc := hr.1
  have hc63 := hr.2.1
  have hnc : n ≤ c := by omega
  have HL : Hid ((tx l).length = n) := Lib.hid (by rw [tx_length]; exact hn)
  clear hv hn hsz hlc
  go_enter Tryd.func10, Tryd.ntmps10
  go_wp2_with fail
  go_loopw [3] (fun i wr => RelO w l B A c n i wr) (fun i _ => n - (intOf i).toNat)
  case atStart => exact ⟨0, Nat.zero_le _, rfl, Lib.hid (refTo_zero _), hr, Below.refl _ _⟩
  case round =>
    clear hr
    obtain ⟨m, hm, rfl, HR, hrk, hbk⟩ := hrel
    obtain ⟨V, hV⟩ : ∃ V, V = wr := ⟨_, rfl⟩
    subst hV
    by_cases hmn : m < n
    case neg =>
      obtain rfl : m = n := by omega
      have hf : decide (m < m) = false := decide_eq_false (by omega)
      have hf2 : decide ((m : Int) < (m : Int)) = false := decide_eq_false (by omega)
      have HF : Hid (v = true) := Lib.hid (HV.out.2 (by
        have h := HR.out
        rw [← HL.out] at h
        exact refTo_end h))
      go_wp2_with fail
      go_ret
      exact ⟨ret_bool HF.out.symm, hbk⟩
    case pos =>
      obtain ⟨b, off, rfl, hb, hx⟩ := hrk.at_ (i := m) (by have := HN.out; omega)
      obtain ⟨p, hp⟩ : ∃ p, p = l.getD m ByteArray.empty := ⟨_, rfl⟩
      rw [← hp] at hx
      have hpz : p.size ≤ 9223372036854775807 := HSZ.out p (by
        have : m < l.length := by have := HN.out; omega
        rw [hp]; simp [List.getD, this])
      have HP : Hid (p.data.toList = (tx l).getD m []) := Lib.hid (by rw [tx_at, hp])
      clear hp
      have hk0 : (0 : Int) ≤ (m : Int) := by omega
      have hkI : (m : Int) < (n : Int) := by omega
      go_wp2_with fail
      refine (is'_any V p hpz).mono ?_
      rintro e w1 ⟨rfl, rfl⟩
      rcases hip : isP p.data.toList with _ | _
      · have HF : Hid (v = false) := Lib.hid (off_of HV.out (not_path (k := m) (by have := HL.out; omega) (by rw [← HP.out]; exact hip)))
        clear hip
        go_wp2_with fail
        go_ret
        exact ⟨ret_bool HF.out.symm, hbk⟩
      have HI : Hid (isP ((tx l).getD m []) = true) := Lib.hid (by rw [← HP.out]; exact hip)
      clear hip
      go_wp2_with fail
      clear hx
      go_loopw [4] (fun i wr => RelIn w l B (some ⟨b, off, none⟩) c n m i wr) (fun i _ => n - (intOf i).toNat)
      case atStart => exact ⟨0, Nat.zero_le _, rfl, HR, hrk, hbk⟩
      case round =>
        clear HR hrk hbk
        obtain ⟨k, hk, rfl, HR, hrk, hbk⟩ := hrel
        obtain ⟨W, hW⟩ : ∃ W, W = wr := ⟨_, rfl⟩
        subst hW
        by_cases hkn : k < n
        case neg =>
          obtain rfl : k = n := by omega
          have hf : decide (k < k) = false := decide_eq_false (by omega)
          have hf2 : decide ((k : Int) < (k : Int)) = false := decide_eq_false (by omega)
          have HX := Lib.hid (refTo_next HR.out (by have := HL.out; omega) HI.out)
          go_wp2_with fail
          go_roundw
          case rel => exact ⟨m + 1, by omega, by go_num, HX, hrk, hbk⟩
          case measure => simp [intOf]; omega
        case pos =>
          have hx : W.cell? ⟨b, off + m, none⟩ = some (.string p) := by
            obtain ⟨b2, off2, e2, _, hx2⟩ := hrk.at_ (i := m) (by have := HN.out; omega)
            injection e2 with e2
            injection e2 with e3 e4
            subst e3 e4
            rw [hx2]
            have := HP.out
            rw [tx_at] at this
            congr 2
            exact (ByteArray.ext (Array.ext' this)).symm
          obtain ⟨q, hq⟩ : ∃ q, q = l.getD k ByteArray.empty := ⟨_, rfl⟩
          have hy : W.cell? ⟨b, off + k, none⟩ = some (.string q) := by
            obtain ⟨b2, off2, e2, _, hx2⟩ := hrk.at_ (i := k) (by have := HN.out; omega)
            injection e2 with e2
            injection e2 with e3 e4
            subst e3 e4
            rw [hx2, hq]
          have hqz : q.size ≤ 9223372036854775807 := HSZ.out q (by
            have : k < l.length := by have := HN.out; omega
            rw [hq]; simp [List.getD, this])
          have HQ : Hid (q.data.toList = (tx l).getD k []) := Lib.hid (by rw [tx_at, hq])
          clear hq
          have hk0' : (0 : Int) ≤ (k : Int) := by omega
          have hkI' : (k : Int) < (n : Int) := by omega
          go_wp2_with fail
          go_quiet (fail)
          have hrk2 := hrk.drewN nq
          have hbk2 : Below w.heap.size w (W.drewN nq) := ⟨hbk.os, hbk.tape, hbk.output, hbk.size, hbk.block⟩
          generalize W.drewN nq = W2 at *
          clear hx hy hrk hbk
          by_cases hkm : k = m
          · have hne : ((k : Int) != (m : Int)) = false := by simp [hkm]
            have HX := Lib.hid (refTo_step HR.out (fun e => absurd hkm e))
            clear hkm
            go_wp2_with fail
            go_roundw
            case rel => exact ⟨k + 1, by omega, by go_num, HX, hrk2, hbk2⟩
            case measure => simp [intOf]; omega
          have hne : ((k : Int) != (m : Int)) = true := by rw [bne_iff_ne]; omega
          by_cases he : p.toList = q.toList
          · have heb : (p.toList == q.toList) = true := by simp [he]
            have HF : Hid (v = false) := Lib.hid (off_of HV.out (not_apart (i := m) (k := k) (by have := HL.out; omega) (by have := HL.out; omega) hkm (by rw [← HP.out, ← HQ.out]; exact fun h => h.1 (text_same he))))
            clear he hkm
            go_wp2_with fail
            go_ret
            exact ⟨ret_bool HF.out.symm, hbk2⟩
          have heb : (p.toList == q.toList) = false := by simpa using he
          by_cases hl : p.size < q.size
          case neg =>
            have HX := Lib.hid (refTo_step HR.out (fun _ => by rw [← HP.out, ← HQ.out]; exact apart_short he hl))
            have hd1 : decide (p.size < q.size) = false := decide_eq_false hl
            have hd2 : decide ((p.size : Int) < (q.size : Int)) = false := decide_eq_false (by omega)
            clear he hkm
            go_wp2_with fail
            go_roundw
            case rel => exact ⟨k + 1, by omega, by go_num, HX, hrk2, hbk2⟩
            case measure => simp [intOf]; omega
          case pos =>
          rcases hx : ((q.extract 0 p.size).toList == p.toList) with _ | _
          · have HX := Lib.hid (refTo_step HR.out (fun _ => by rw [← HP.out, ← HQ.out]; exact apart_other he hx))
            clear he hkm
            go_wp2_with fail
            go_roundw
            case rel => exact ⟨k + 1, by omega, by go_num, HX, hrk2, hbk2⟩
            case measure => simp [intOf]; omega
          by_cases hc : q[p.size] = 47
          · have hcx : ((q[p.size].toNat : Int) == 47) = true := by rw [hc]; rfl
            have HF : Hid (v = false) := Lib.hid (off_of HV.out (not_apart (i := m) (k := k) (by have := HL.out; omega) (by have := HL.out; omega) hkm (by rw [← HP.out, ← HQ.out]; exact thru_of hl hx hc)))
            clear he hkm hc
            go_wp2_with fail
            go_ret
            exact ⟨ret_bool HF.out.symm, hbk2⟩
          · have hcx : ((q[p.size].toNat : Int) == 47) = false := by
              rw [beq_eq_false_iff_ne]
              intro e
              exact hc (UInt8.toNat_inj.1 (by show q[p.size].toNat = 47; omega))
            have HX := Lib.hid (refTo_step HR.out (fun _ => by rw [← HP.out, ← HQ.out]; exact apart_byte he hl hc))
            clear he hkm hc
            go_wp2_with fail
            go_roundw
            case rel => exact ⟨k + 1, by omega, by go_num, HX, hrk2, hbk2⟩
            case measure => simp [intOf]; omega
end Go.Proofs.YtoikkblclmgioaaDoor
