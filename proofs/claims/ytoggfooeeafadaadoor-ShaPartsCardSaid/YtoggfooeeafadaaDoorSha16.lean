/-
  The law of a digest in parts.
-/
import Derived.Test.YtoggfooeeafadaaDoorSha15
namespace Go.Proofs.YtoggfooeeafadaaDoor
open Go.RowKit
set_option linter.unusedVariables false
attribute [local go_sem ↓] Go.wp_at_zero Go.wp_at_succ

def ShortB (rs : List Rw) (k : Nat) : Prop := ∀ j, j < k → (rs.getD j default).l.length ≤ 200
theorem flat_short {rs : List Rw} : ∀ {k : Nat}, ShortB rs k → (flat rs k).length ≤ 200 * k
  | 0, _ => by simp [flat]
  | k + 1, h => by
    have h1 := flat_short (k := k) fun j hj => h j (by omega)
    have h2 := h k (by omega)
    rw [flat, List.length_append]; omega
/-- So many rows are joined. -/
def RelP16 (rs : List Rw) (w : World) (A : Option Addr) (c n : Nat) (v i : Value) (wr : World) : Prop :=
  ∃ (k N : Nat) (A' : Option Addr) (c' : Nat), k ≤ n ∧ i = .int .i64 k ∧ Hid ((flat rs k).length = N) ∧ v = .slice A' N c' ∧ Mine 5 wr w.heap.size A' c' (flat rs k) ∧ RdR wr w.heap.size A c rs ∧ Below w.heap.size w wr ∧ Hid (ShortB rs k)

set_option maxRecDepth 100000 in
set_option maxHeartbeats 2000000 in
theorem law_parts (w : World) (A : Option Addr) (c n : Nat) (rs : List Rw) (hn : rs.length = n) (hr : RdR w w.heap.size A c rs) (ho : ∀ j, Oct6 (rs.getD j default).l) (hk : KMet w) :
    Calls Tryd.prog 5 #[.slice A n c] w fun e w' => e = .returned (.bool true) ∧ Below w.heap.size w w' := by
  have HN := Lib.hid hn
  have HK := Lib.hid hk
  have HO := Lib.hid ho
  have hlc := hr.1
  have hc63 := hr.2.1
  have hnc : n ≤ c := by omega
  by_cases h12 : 12 < n
  · have hnB : decide ((12 : Int) < (n : Int)) = true := decide_eq_true (by omega)
    clear hn hr ho hk hlc
    go_enter Tryd.func5, Tryd.ntmps5
    go_wp2_with fail
    go_ret
    exact ⟨rfl, Below.refl _ _⟩
  · have hnB : decide ((12 : Int) < (n : Int)) = false := decide_eq_false (by omega)
    have HR0 := Lib.hid hr
    clear hn hr ho hk hlc
    go_enter Tryd.func5, Tryd.ntmps5
    go_wp2_with fail
    go_loopw [3, 4] (fun v i wr => RelP16 rs w A c n v i wr) (fun _ i _ => n - (intOf i).toNat)
    case atStart => exact ⟨0, 0, none, 0, Nat.zero_le _, rfl, Lib.hid rfl, rfl, Mine.nil _ _ _, HR0.out, Below.refl _ _, Lib.hid fun j hj => by omega⟩
    case round =>
      clear HR0
      obtain ⟨k, N, A', c', hk, rfl, HNN, rfl, hmine, hrr, hbel, HSH⟩ := hrel
      obtain ⟨V, hV⟩ : ∃ V, V = wr := ⟨_, rfl⟩
      subst hV
      by_cases hkn : k < n
      case pos =>
        obtain ⟨b, off, rfl, hb, hcell⟩ := hrr.2.2.2 (by have := HN.out; omega)
        have hcx := hcell k (by have := HN.out; omega)
        have hrd := hrr.2.2.1 k (by have := HN.out; omega)
        have HF : Hid (flat rs (k + 1) = flat rs k ++ (rs.getD k default).l) := Lib.hid rfl
        have HSS : (rs.getD k default).l.length ≤ 200 → Hid (ShortB rs (k + 1)) := fun h => Lib.hid fun j hj => by
          rcases Nat.lt_or_ge j k with h1 | h1
          · exact HSH.out j h1
          · rw [show j = k by omega]; exact h
        have hlim : N ≤ 2400 := by have := flat_short HSH.out; have := HNN.out; omega
        generalize rs.getD k default = r at *
        obtain ⟨ra, rc, rl⟩ := r
        obtain ⟨m, hm⟩ : ∃ m, m = rl.length := ⟨_, rfl⟩
        dsimp only at hcx hrd HSS HF
        rw [← hm] at hcx HSS
        have HM := Lib.hid hm
        have hk0 : (0 : Int) ≤ (k : Int) := by omega
        have hkI : (k : Int) < (n : Int) := by omega
        clear hcell hm
        have hVs1 : w.heap.size ≤ V.heap.size := hbel.size
        by_cases hm2 : 200 < m
        case pos =>
          have hmB : decide ((200 : Int) < (m : Int)) = true := decide_eq_true (by omega)
          have HB := Lib.hid hbel
          clear hbel hmine hrr hrd HSS
          go_wp2_with fail
          go_ret
          exact ⟨rfl, HB.out⟩
        case neg =>
          have hmB : decide ((200 : Int) < (m : Int)) = false := decide_eq_false (by omega)
          have HS1 := HSS (by omega)
          clear HSS
          have HB := Lib.hid hbel
          have HRR := Lib.hid hrr
          clear hbel hrr
          go_wp2_with (refine wpList_mine _ rfl (.tmp 20) (.tmp 24) 22 rfl 5 rfl rfl rfl hmine HNN.out rfl hrd HM.out.symm (by omega) (by omega) ?_; intro A2 c2 V2 hm2 hg2 hb2; have hbb := grown_below hg2 (fun g e => (hmine.block e).1) hVs1; have HB2 := Lib.hid (HB.out.trans hbb); have HRR2 := Lib.hid (HRR.out.under hbb); clear hg2 hb2 hbb)
          go_roundw
          case rel => exact ⟨k + 1, N + m, A2, c2, by omega, by go_num, Lib.hid (by rw [HF.out, List.length_append, HNN.out, HM.out]), rfl, by rw [HF.out]; exact hm2, HRR2.out, HB2.out, HS1⟩
          case measure => simp [intOf]; omega
      case neg =>
        obtain rfl : k = n := by omega
        have hlim : N ≤ 100000 := by have := flat_short HSH.out; have := HNN.out; omega
        have HLM := Lib.hid hlim
        obtain ⟨s, hs⟩ : ∃ s, s = str (digest (flat rs k)) := ⟨_, rfl⟩
        have HS := Lib.hid hs
        have HKV := Lib.hid (HK.out.under hbel)
        have HSF : Hid ((flat rs k).length ≤ 100000) := Lib.hid (by rw [HNN.out]; exact hlim)
        have HOF := Lib.hid (of_any V.drew w.heap.size A c k rs HN.out hrr hbel.size HO.out HSF.out HKV.out)
        have HFO := Lib.hid (flat_oct rs HO.out k)
        have HM := Lib.hid hmine.rd
        have HRR := Lib.hid hrr
        have HB := Lib.hid hbel
        clear hs hmine hrr hbel hlim HK
        go_wp2_with fail
        go_region_law (first
          | (go_simp; go_at_call 7; (with_reducible refine HOF.out.mono ?_); intro e w1 hp; obtain ⟨A1, c1, rfl, hm1, hb1⟩ := hp; have hr1 := hm1.rd; have HQ1 : Hid (Below V.heap.size V w1) := Lib.hid (((Below.refl V.heap.size V).drew).trans hb1); have hs1 := conv_str hr1 (digest_length (flat rs k)) (digest_oct (flat rs k)); rw [← HS.out] at hs1; have HR1 := Lib.hid hr1; clear hr1 hb1 hm1 HOF; go_simp)
          | (go_simp; go_at_call 8; refine (of'_any _ V.heap.size A' c' N (flat rs k) HNN.out (HM.out.under HQ1.out) HQ1.out.size HFO.out HLM.out).mono ?_; intro e w2 hp; obtain ⟨A2, c2, rfl, hr2, hb2⟩ := hp; have hs2 := conv_str (HR1.out.under hb2) (digest_length (flat rs k)) (digest_oct (flat rs k)); rw [← HS.out] at hs2; have hs3 := conv_str hr2 (digest_length (flat rs k)) (digest_oct (flat rs k)); rw [← HS.out] at hs3; have HQ2 := Lib.hid (HQ1.out.trans (hb2.mono HQ1.out.size)); clear hb2 hr2; go_simp)
          | (go_simp; go_at_call 7; (with_reducible refine (of_one _ A' c' N (flat rs k) HNN.out ((HM.out.under HQ2.out).more HQ2.out.size) HFO.out HLM.out (HKV.out.under HQ2.out)).mono ?_); intro e w4 hp; obtain ⟨A4, c4, rfl, hr4, hb4⟩ := hp; have HQ4 := Lib.hid ((HQ2.out.alloc HQ2.out.size (.cells #[.slice A' N c'] 22)).trans (hb4.mono (Nat.le_succ_of_le HQ2.out.size))); have hs4 := conv_str hr4 (digest_length (flat rs k)) (digest_oct (flat rs k)); rw [← HS.out] at hs4; have HR4 := Lib.hid hr4; clear hr4 hb4; go_simp)
          | (go_simp; go_at_call 7; (with_reducible refine (of_any _ w.heap.size A c k rs HN.out (HRR.out.under (HQ4.out.mono HB.out.size)) (Nat.le_trans HB.out.size HQ4.out.size) HO.out HSF.out (HKV.out.under HQ4.out)).mono ?_); intro e w5 hp; obtain ⟨A5, c5, rfl, hm5, hb5⟩ := hp; have HQ5 := Lib.hid (HQ4.out.trans (hb5.mono HQ4.out.size)); have hs5 := conv_str hm5.rd (digest_length (flat rs k)) (digest_oct (flat rs k)); rw [← HS.out] at hs5; have hs6 := conv_str (HR4.out.under hb5) (digest_length (flat rs k)) (digest_oct (flat rs k)); rw [← HS.out] at hs6; clear hb5 hm5; go_simp)
          | (go_simp; go_at_call 9; refine (known6_any _ (HKV.out.under HQ5.out)).mono ?_; intro e w6 hp; obtain ⟨rfl, hb6⟩ := hp; have HQ6 := Lib.hid (HQ5.out.trans (hb6.mono HQ5.out.size)); clear hb6; go_simp))
        all_goals
          go_wp2_with fail
          go_ret
          exact ⟨rfl, HB.out.trans (HQ6.out.mono HB.out.size)⟩
end Go.Proofs.YtoggfooeeafadaaDoor
