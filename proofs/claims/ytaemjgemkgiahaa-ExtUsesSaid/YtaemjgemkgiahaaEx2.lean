/-
  Whether extensions may be: by the document.
-/
import Derived.Test.YtaemjgemkgiahaaEx1
namespace Go.Proofs.Ytaemjgemkgiahaa
open Go.RowKit
set_option linter.unusedVariables false
set_option linter.unusedSimpArgs false

theorem str_less {l l' : List Nat} (h : ∀ x ∈ l, x < 256) (h' : ∀ x ∈ l', x < 256) : Op.bytesLess (str l).toList (str l').toList = lexB l l' := by
  rw [str_data, str_data]; exact less_lex l l' h h'
set_option maxRecDepth 100000 in
set_option maxHeartbeats 8000000 in
theorem exIs'_any (w : World) (A : Option Addr) (c n : Nat) (l : List Ex) (h : XP A c l w) (hn : l.length = n) :
    Calls Try.prog 7 #[.slice A n c] w fun e w' => e = .returned (.bool (exIs (l.map Ex.v))) ∧ Below w.heap.size w w' := by
  obtain ⟨r, HR⟩ : ∃ r, Hid (r = exIs (l.map Ex.v)) := ⟨_, rfl⟩
  rw [← HR.out]
  have hlc : n ≤ c := by rw [← hn]; exact h.1.1
  have hc63 := h.1.2.1
  have HN := Lib.hid hn
  have HX := Lib.hid (Off.of_x h)
  clear h hn
  go_enter Try.func7, Try.ntmps7
  go_wp2_with fail
  go_loopw [3] (fun iv wr => ∃ i : Nat, i ≤ n ∧ iv = .int .i64 (i : Int) ∧ Hid (∀ j, j < i → exOne (l.map Ex.v) j = true) ∧ Below w.heap.size w wr) (fun iv _ => n - (intOf iv).toNat)
  case atStart => exact ⟨0, by omega, rfl, fun j hj => by omega, Below.refl _ _⟩
  case round =>
    obtain ⟨i, hi, rfl, HA, hB⟩ := hrel
    have HB3 := Lib.hid hB
    clear hB
    by_cases hlt : i < n
    · have hx := (HX.out.under HB3.out).at_
      obtain ⟨g, off, rfl, hg, hcs⟩ := hx.1.2.2 (by rw [HN.out]; omega)
      obtain ⟨c0, c1, c2⟩ := hcs i (by rw [HN.out]; exact hlt)
      have hxe := hx.at_ (by rw [HN.out]; exact hlt)
      have HV : Hid ((l.map Ex.v).getD i default = (l.getD i default).v) := Lib.hid (ev_at (by rw [HN.out]; exact hlt))
      have hcp := fun h1 : i - 1 < n => hcs (i - 1) (by rw [HN.out]; exact h1)
      have hxp := fun h1 : i - 1 < n => hx.at_ (j := i - 1) (by rw [HN.out]; exact h1)
      obtain ⟨e, he⟩ : ∃ e, e = l.getD i default := ⟨_, rfl⟩
      rw [← he] at c0 c1 c2 hxe HV
      clear he hcs hx
      obtain ⟨ia, ic, id, cr, va, vc, val⟩ := e
      obtain ⟨hr1, ho1, hr2, ho2⟩ := hxe
      dsimp only at c0 c1 c2 hr1 ho1 hr2 ho2
      obtain ⟨n1, hn1⟩ : ∃ n1, id.length = n1 := ⟨_, rfl⟩
      obtain ⟨n2, hn2⟩ : ∃ n2, val.length = n2 := ⟨_, rfl⟩
      rw [hn1] at c0
      rw [hn2] at c2
      have HN1 := Lib.hid hn1
      have HN2 := Lib.hid hn2
      have HO1 := Lib.hid ho1
      have HII : Hid (∀ k, Calls Try.prog 23 #[.slice ia n1 ic] (wr.drewN k) fun e w' => e = .returned (.bool (idOk id)) ∧ w' = wr.drewN k) := Lib.hid fun k => (isID'_any (wr.drewN k) n1 ic _ ia id (hr1.drewN k) hn1 ho1).mono fun _ _ ⟨a, b⟩ => ⟨a, b.symm⟩
      rcases hid : idOk id with _ | _
      · have HF : Hid (r = false) := Lib.hid (by rw [HR.out]; exact exIs_no fun h => by have := h.2 i (by rw [List.length_map, HN.out]; exact hlt); unfold exOne at this; rw [HV.out] at this; simp [Ex.v, hid] at this)
        rw [hid] at HII
        clear hid hr1 ho1 hr2 ho2 hn1 hn2 hcp hxp
        go_wp2_with fail
        go_quiet ((go_at_call 23; exact Calls.quiet_of_same (HII.out _)))
        go_wp2_with fail
        go_ret
        exact ⟨by rw [HF.out]; rfl, below_drewN HB3.out _⟩
      have HOK := Lib.hid hid
      rw [hid] at HII
      clear hid
      by_cases h600 : 600 < n2
      · have HF : Hid (r = false) := Lib.hid (by rw [HR.out]; exact exIs_no fun h => by have := h.2 i (by rw [List.length_map, HN.out]; exact hlt); unfold exOne at this; rw [HV.out] at this; simp [Ex.v, HN2.out] at this; omega)
        have d6 : decide ((600 : Int) < (n2 : Int)) = true := decide_eq_true (by omega)
        clear hr1 ho1 hr2 ho2 hn1 hn2 hcp hxp
        go_wp2_with fail
        go_quiet ((go_at_call 23; exact Calls.quiet_of_same (HII.out _)))
        go_wp2_with fail
        go_ret
        exact ⟨by rw [HF.out]; rfl, below_drewN HB3.out _⟩
      have d6 : decide ((600 : Int) < (n2 : Int)) = false := decide_eq_false (by omega)
      by_cases hi0 : i = 0
      · have d7 : decide ((0 : Int) < (i : Int)) = false := decide_eq_false (by omega)
        have d8 : decide (0 < i) = false := decide_eq_false (by omega)
        have HONE : Hid (exOne (l.map Ex.v) i = true) := Lib.hid (by unfold exOne; rw [HV.out]; simp [Ex.v, HOK.out, HN2.out, hi0]; omega)
        clear hi0 hr1 ho1 hr2 ho2 hn1 hn2 hcp hxp
        go_wp2_with fail
        go_quiet ((go_at_call 23; exact Calls.quiet_of_same (HII.out _)))
        go_wp2_with fail
        go_roundw
        case rel => exact ⟨i + 1, by omega, by go_num, fun j hj => by
          rcases Nat.lt_or_ge j i with h3 | h3
          · exact HA.out j h3
          · obtain rfl : j = i := by omega
            exact HONE.out, below_drewN HB3.out _⟩
        case measure => simp [intOf]; omega
      · have d7 : decide ((0 : Int) < (i : Int)) = true := decide_eq_true (by omega)
        have d8 : decide (0 < i) = true := decide_eq_true (by omega)
        have hi1 : 1 ≤ i := by omega
        obtain ⟨p0, _, _⟩ := hcp (by omega)
        have hpe := hxp (by omega)
        have HVP : Hid ((l.map Ex.v).getD (i - 1) default = (l.getD (i - 1) default).v) := Lib.hid (ev_at (by rw [HN.out]; omega))
        obtain ⟨q, hq⟩ : ∃ q, q = l.getD (i - 1) default := ⟨_, rfl⟩
        rw [← hq] at p0 hpe HVP
        obtain ⟨pa, pc, pid, pcr, pva, pvc, pval⟩ := q
        obtain ⟨pr1, po1, _, _⟩ := hpe
        dsimp only at p0 pr1 po1
        obtain ⟨n4, hn4⟩ : ∃ n4, pid.length = n4 := ⟨_, rfl⟩
        rw [hn4] at p0
        have k1 : ∀ k, (convert 23 9 (.slice pa n4 pc)).run Try.prog (wr.drewN k) = .ok (.string (str pid)) (wr.drewN k) := fun k => conv_str (pr1.drewN k) hn4 po1
        have k2 : ∀ k, (convert 23 9 (.slice ia n1 ic)).run Try.prog (wr.drewN k) = .ok (.string (str id)) (wr.drewN k) := fun k => conv_str (hr1.drewN k) hn1 ho1
        have hlex : Op.bytesLess (str pid).toList (str id).toList = lexB pid id := str_less po1 ho1
        have HLX : Hid (exOne (l.map Ex.v) i = lexB pid id) := Lib.hid (by unfold exOne; rw [HV.out, HVP.out]; simp [Ex.v, HOK.out, HN2.out, hi0]; omega)
        generalize str pid = s1 at *
        generalize str id = s2 at *
        clear hi0 hr1 ho1 hr2 ho2 hn1 hn2 hcp hxp pr1 po1 hn4 hq
        rcases hlb : lexB pid id with _ | _
        · have HF : Hid (r = false) := Lib.hid (by rw [HR.out]; exact exIs_no fun h => by have := h.2 i (by rw [List.length_map, HN.out]; exact hlt); rw [HLX.out, hlb] at this; cases this)
          rw [hlb] at hlex
          clear hlb
          go_wp2_with fail
          go_quiet ((go_at_call 23; exact Calls.quiet_of_same (HII.out _)))
          go_wp2_with fail
          go_ret
          exact ⟨by rw [HF.out]; rfl, below_drewN HB3.out _⟩
        · rw [hlb] at hlex
          have HONE : Hid (exOne (l.map Ex.v) i = true) := Lib.hid (by rw [HLX.out, hlb])
          clear hlb
          go_wp2_with fail
          go_quiet ((go_at_call 23; exact Calls.quiet_of_same (HII.out _)))
          go_wp2_with fail
          go_roundw
          case rel => exact ⟨i + 1, by omega, by go_num, fun j hj => by
            rcases Nat.lt_or_ge j i with h3 | h3
            · exact HA.out j h3
            · obtain rfl : j = i := by omega
              exact HONE.out, below_drewN HB3.out _⟩
          case measure => simp [intOf]; omega
    · by_cases h12 : n ≤ 12
      · have d12 : decide ((n : Int) ≤ 12) = true := decide_eq_true (by omega)
        have HF : Hid (r = true) := Lib.hid (by rw [HR.out]; exact exIs_iff.2 ⟨by rw [List.length_map, HN.out]; omega, fun j hj => HA.out j (by rw [List.length_map, HN.out] at hj; omega)⟩)
        go_wp2_with fail
        go_ret
        exact ⟨by rw [HF.out]; rfl, HB3.out⟩
      · have d12 : decide ((n : Int) ≤ 12) = false := decide_eq_false (by omega)
        have HF : Hid (r = false) := Lib.hid (by rw [HR.out]; exact exIs_no fun h => by have := h.1; rw [List.length_map, HN.out] at this; omega)
        go_wp2_with fail
        go_ret
        exact ⟨by rw [HF.out]; rfl, HB3.out⟩
end Go.Proofs.Ytaemjgemkgiahaa
