/-
  Which names may be: by dn, by the document.
-/
import Derived.Test.YtbkjjhpnjfdlbaaGreatDoorDnP
namespace Go.Proofs.YtbkjjhpnjfdlbaaGreatDoor
open Go.RowKit
set_option linter.unusedVariables false
set_option linter.unusedSimpArgs false
attribute [local go_sem ↓] Go.wp_at_zero Go.wp_at_succ

theorem MadeT.prim {w w' : World} {xs : List Nat} {tag : Nat} {b : List Nat} {e : Ending} (h : MadeT w xs (.mk tag b []) e w') : ∃ A c K kc, e = .returned (.agg #[.int .u8 (tag : Int), .slice A b.length c, .slice K 0 kc]) ∧ Rd .u8 w' w'.heap.size A c b ∧ Below w.heap.size w w' := by
  obtain ⟨lt, rfl, hlt, hoff, hb⟩ := h
  obtain ⟨h1, h2, h3⟩ := lt_parts hlt
  rcases lt with ⟨t, ba, bc, body, ka, kc, kids⟩
  simp only [Lt.tag, Lt.body, Lt.kids] at h1 h2 h3
  subst h1 h2
  refine ⟨ba, bc, ka, kc, ?_, (ThP.iff.1 hoff.at_).2.1, hb⟩
  rw [List.length_nil] at h3
  show Ending.returned (.agg #[.int .u8 (t : Int), .slice ba body.length bc, .slice ka kids.length kc]) = _
  rw [h3]
theorem tx_back (l : List Nat) : txOf 12 0 l = if textOk l = true then some l else none := by simp [txOf, heldOk]
def TxAgain (w : World) (v : Bool) (e : Ending) (w' : World) : Prop := (∃ s, e = .returned (.tuple #[.string s, .bool v])) ∧ Below w.heap.size w w'
/-- A text made a thing, and read again. -/
theorem text_again (w : World) (n c kc : Nat) (A K : Option Addr) (b : List Nat) (hr : Rd .u8 w w.heap.size A c b) (hn : b.length = n) (ho : ∀ y ∈ b, y < 256) (hT : Lib.Utf8Tabs 0 1 w) (v : Bool) (hv : textOk b = v) :
    Calls Tryz.prog 80 #[.agg #[.int .u8 12, .slice A n c, .slice K 0 kc]] w (TxAgain w v) := by
  have h := getText_any w 12 n c 0 kc _ A K b hr hn (Nat.le_refl _) ho hT
  rw [tx_back] at h
  refine h.mono fun e w' hh => ?_
  obtain ⟨rfl, hb⟩ := hh.one
  have : (if textOk b = true then some b else none : Option (List Nat)).isSome = v := by rw [hv]; cases v <;> rfl
  rw [this]
  exact ⟨⟨_, rfl⟩, hb⟩
set_option maxRecDepth 100000 in
set_option maxHeartbeats 4000000 in
theorem isDn_any (w : World) (B : Nat) (A : Option Addr) (c n : Nat) (l : List Att) (hn : l.length = n) (hr : RdA w B A c l) (hB : B ≤ w.heap.size) (hsz : ∀ x ∈ l, (bts x.s).length ≤ 9223372036854775807) (hT : Lib.Utf8Tabs 0 1 w) :
    Calls Tryz.prog 63 #[.slice A n c] w fun e w' => e = .returned (.bool (dnOk l)) ∧ Below w.heap.size w w' := by
  have hlc : n ≤ c := by rw [← hn]; exact hr.1
  have hc63 := hr.2.1
  obtain ⟨r, hre⟩ : ∃ r, dnOk l = r := ⟨_, rfl⟩
  rw [hre]
  have HR := Lib.hid hre
  have HN := Lib.hid hn
  have HT := Lib.hid hT
  have HRD := Lib.hid hr
  have HSZ := Lib.hid hsz
  clear hre hn hT hr hsz
  by_cases h1 : n < 1
  · have d1 : decide ((n : Int) < 1) = true := decide_eq_true (by omega)
    have hf : r = false := by rw [← HR.out]; exact dnOk_no (by rw [HN.out]; omega)
    have HF := Lib.hid hf
    clear hf
    go_enter Tryz.func63, Tryz.ntmps63
    go_wp2_with fail
    go_ret
    rw [HF.out]; exact ⟨rfl, Below.refl _ _⟩
  have d1 : decide ((n : Int) < 1) = false := decide_eq_false (by omega)
  by_cases h4 : 4 < n
  · have d4 : decide ((4 : Int) < (n : Int)) = true := decide_eq_true (by omega)
    have hf : r = false := by rw [← HR.out]; exact dnOk_no (by rw [HN.out]; omega)
    have HF := Lib.hid hf
    clear hf
    go_enter Tryz.func63, Tryz.ntmps63
    go_wp2_with fail
    go_ret
    rw [HF.out]; exact ⟨rfl, Below.refl _ _⟩
  have d4 : decide ((4 : Int) < (n : Int)) = false := decide_eq_false (by omega)
  obtain ⟨g, off, rfl, hg, hcs⟩ := HRD.out.2.2 (by rw [HN.out]; omega)
  have HCS := Lib.hid hcs
  clear hcs
  go_enter Tryz.func63, Tryz.ntmps63
  go_wp2_with fail
  go_loopw [17] (fun iv wr => ∃ k : Nat, k ≤ n ∧ iv = .int .i64 (k : Int) ∧ Hid (∀ j, j < k → atOk (l.getD j default) = true) ∧ Below w.heap.size w wr) (fun iv _ => n - (intOf iv).toNat)
  case atStart => exact ⟨0, by omega, rfl, Lib.hid fun j hj => by omega, Below.refl _ _⟩
  case round =>
    obtain ⟨k, hk, rfl, HA, hB'⟩ := hrel
    have HB := Lib.hid hB'
    clear hB'
    by_cases hlt : k < n
    · obtain ⟨q0, q1⟩ := HCS.out k (by rw [HN.out]; exact hlt)
      have c0 := (HB.out.cell (p := ⟨g, off + k * 2, none⟩) (by show g < _; omega)).trans q0
      have c1 := (HB.out.cell (p := ⟨g, off + k * 2 + 1, none⟩) (by show g < _; omega)).trans q1
      obtain ⟨a, ha⟩ : ∃ a, a = l.getD k default := ⟨_, rfl⟩
      rw [← ha] at c0 c1
      have HAA := Lib.hid ha
      obtain ⟨kd, s⟩ := a
      dsimp only at c0 c1
      obtain ⟨L, rfl, hoL⟩ := str_all s
      have HOL := Lib.hid hoL
      clear q0 q1 ha hoL
      have hH := Holds.fresh wr 62 #[.int .i64 kd, .string (str L)]
      have HQ1 : Hid (Below w.heap.size w (wr.alloc (.cells #[.int .i64 kd, .string (str L)] 62))) := Lib.hid (HB.out.alloc HB.out.size _)
      have z0 := hH.cell 0
      have z1 := hH.cell 1
      clear hH
      rcases hkd : kdOk kd with _ | _
      · have hf : r = false := by rw [← HR.out]; exact dnOk_no fun h => by have := (atOk_iff.1 (h.2.2 k (by rw [HN.out]; exact hlt))).1; rw [← HAA.out, hkd] at this; cases this
        have HF := Lib.hid hf
        have HK := Lib.hid (kind_any (wr.alloc (.cells #[.int .i64 kd, .string (str L)] 62)) kd false hkd)
        clear hf hkd
        go_wp2_with fail
        refine HK.out.mono ?_
        rintro e w2 ⟨rfl, rfl⟩
        go_wp2_with fail
        go_ret
        rw [HF.out]; exact ⟨rfl, HQ1.out⟩
      have HK := Lib.hid (kind_any (wr.alloc (.cells #[.int .i64 kd, .string (str L)] 62)) kd true hkd)
      have HKD := Lib.hid hkd
      clear hkd
      by_cases hem : 0 < L.length
      case neg =>
        have hf : r = false := by rw [← HR.out]; exact dnOk_no fun h => by have := (atOk_iff.1 (h.2.2 k (by rw [HN.out]; exact hlt))).2.1; rw [← HAA.out] at this; exact hem (by rwa [bts_str HOL.out] at this)
        have HF := Lib.hid hf
        have e0 := empty_yes (s := str L) (by rw [bts_str HOL.out]; exact hem)
        clear hf
        go_wp2_with fail
        refine HK.out.mono ?_
        rintro e w2 ⟨rfl, rfl⟩
        go_wp2_with fail
        go_ret
        rw [HF.out]; exact ⟨rfl, HQ1.out⟩
      have e0 := empty_no (s := str L) (by rw [bts_str HOL.out]; exact hem)
      have HEM := Lib.hid hem
      clear hem
      obtain ⟨tk, htk⟩ : ∃ tk, textOk L = tk := ⟨_, rfl⟩
      have HTK := Lib.hid htk
      clear htk
      have h100 : L.length ≤ 9223372036854775807 := by
        have := HSZ.out (l.getD k default) (getD_mem (by rw [HN.out]; exact hlt))
        rw [← HAA.out] at this
        rwa [bts_str HOL.out] at this
      go_wp2_with fail
      refine HK.out.mono ?_
      rintro e w2 ⟨rfl, rfl⟩
      go_wp2_with fail
      refine (text_any _ [] L HOL.out h100 (by simp)).mono ?_
      intro e w3 hm
      obtain ⟨a3, d3, K3, e3, rfl, hr3, hb⟩ := hm.prim
      have HQ3 := Lib.hid (HQ1.out.trans (hb.mono HQ1.out.size))
      obtain ⟨m3, hm3⟩ : ∃ m, L.length = m := ⟨_, rfl⟩
      have HTX := Lib.hid (text_again w3 m3 d3 e3 a3 K3 L hr3 hm3 HOL.out (Utf8Tabs_below HT.out HQ3.out) tk HTK.out)
      rw [hm3]
      clear hm hb hr3 hm3 HK
      go_wp2_with fail
      refine HTX.out.mono ?_
      rintro e w4 ⟨⟨s4, rfl⟩, hb⟩
      have HQ4 := Lib.hid (HQ3.out.trans (hb.mono HQ3.out.size))
      clear hb HTX
      cases tk
      · have hf : r = false := by rw [← HR.out]; exact dnOk_no fun h => by have := (atOk_iff.1 (h.2.2 k (by rw [HN.out]; exact hlt))).2.2; rw [← HAA.out] at this; rw [bts_str HOL.out, HTK.out] at this; cases this
        have HF := Lib.hid hf
        clear hf
        go_wp2_with fail
        go_ret
        rw [HF.out]; exact ⟨rfl, HQ4.out⟩
      · have HA2 : Hid (∀ j, j < k + 1 → atOk (l.getD j default) = true) := Lib.hid fun j hj => by
          rcases Nat.lt_or_ge j k with h | h
          · exact HA.out j h
          · obtain rfl : j = k := by omega
            rw [← HAA.out]
            exact atOk_iff.2 ⟨HKD.out, by rw [bts_str HOL.out]; exact HEM.out, by rw [bts_str HOL.out]; exact HTK.out⟩
        go_wp2_with fail
        go_roundw
        case rel => exact ⟨k + 1, by omega, by go_num, HA2, HQ4.out⟩
        case measure => simp [intOf]; omega
    · obtain rfl : k = n := by omega
      have hf : r = true := by rw [← HR.out]; exact dnOk_iff.2 ⟨by rw [HN.out]; omega, by rw [HN.out]; omega, fun i hi => HA.out i (by rw [HN.out] at hi; exact hi)⟩
      have HF := Lib.hid hf
      clear hf
      go_wp2_with fail
      go_ret
      rw [HF.out]; exact ⟨rfl, HB.out⟩
end Go.Proofs.YtbkjjhpnjfdlbaaGreatDoor
