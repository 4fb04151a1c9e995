/-
  Any thing as a name, or none (statement DnGets): the law's walk.
-/
import Derived.Test.YtmoefccfdnijpaaDoorDn18
import Derived.Test.YtmoefccfdnijpaaDoorTlv33
import Derived.Test.YtmoefccfdnijpaaDoorTlv26
namespace Go.Proofs.YtmoefccfdnijpaaDoor
open Go.RowKit
set_option linter.unusedVariables false
set_option linter.unusedSimpArgs false
attribute [local go_sem ↓] Go.wp_at_zero Go.wp_at_succ

theorem enc_split (t : Tr) : t.body.length + (Tr.encs t.kids).length < t.enc.length := by
  obtain ⟨tag, body, kids⟩ := t
  rw [Tr.enc]
  simp [Tr.body, Tr.kids]
  omega
theorem encs_kid : ∀ {l : List Tr} {k : Tr}, k ∈ l → k.enc.length ≤ (Tr.encs l).length
  | x :: r, k, h => by
    rw [Tr.encs, List.length_append]
    rcases List.mem_cons.1 h with rfl | h
    · omega
    · have := encs_kid h
      omega
theorem encs_len : ∀ l : List Tr, l.length ≤ (Tr.encs l).length
  | [] => by simp
  | x :: r => by
    rw [Tr.encs, List.length_append, List.length_cons]
    have := encs_len r
    have := enc_split x
    omega
theorem fit_encG {t : Tr} (h : t.enc.length ≤ 12000) : FitG t := by
  have h1 := enc_split t
  have h2 := encs_len t.kids
  refine ⟨by omega, fun k hk => ?_⟩
  have h3 := encs_kid hk
  have h4 := enc_split k
  have h5 := encs_len k.kids
  refine ⟨by omega, fun k2 hk2 => ?_⟩
  have h6 := encs_kid hk2
  have h7 := enc_split k2
  have h8 := encs_len k2.kids
  refine ⟨by omega, fun p hp => ?_⟩
  have h9 := encs_kid hp
  have h10 := enc_split p
  omega
theorem getD_open {w : World} {T : Tr} {e : Ending} {w1 : World} (h : GetDPost w T e w1) : ∃ A c l b, e = .returned (.tuple #[.slice A l.length c, .bool b]) ∧ RdA w1 w1.heap.size A c l ∧ Below w.heap.size w w1 ∧ Hid (b = true ∧ dnOk l = true ∧ dnTr l = T ∨ b = false ∧ l = [] ∧ ∀ l : List Att, dnOk l = true → dnTr l ≠ T) := by
  rcases h with ⟨A, c, l, rfl, h1, h2, h3, h4⟩ | ⟨rfl, h1, h2⟩
  · exact ⟨A, c, l, true, rfl, h1, h4, .inl ⟨rfl, h2, h3⟩⟩
  · exact ⟨none, 0, [], false, rfl, RdA.nil_ _ _ _ _ (by omega), h2, .inr ⟨rfl, rfl, h1⟩⟩
theorem getD_one {T : Tr} {l l' : List Att} {b b' : Bool} (h : b = true ∧ dnOk l = true ∧ dnTr l = T ∨ b = false ∧ l = [] ∧ ∀ l : List Att, dnOk l = true → dnTr l ≠ T)
    (h' : b' = true ∧ dnOk l' = true ∧ dnTr l' = T ∨ b' = false ∧ l' = [] ∧ ∀ l : List Att, dnOk l = true → dnTr l ≠ T) : b = b' ∧ l = l' := by
  rcases h with ⟨rfl, h2, h3⟩ | ⟨rfl, rfl, h1⟩ <;> rcases h' with ⟨rfl, g2, g3⟩ | ⟨rfl, rfl, g1⟩
  · exact ⟨rfl, dnTr_inj h2 g2 (h3.trans g3.symm)⟩
  · exact absurd h3 (g1 _ h2)
  · exact absurd g3 (h1 _ g2)
  · exact ⟨rfl, rfl⟩
set_option maxRecDepth 100000 in
set_option maxHeartbeats 4000000 in
theorem law_getsD (w : World) (hT : Lib.Utf8Tabs 0 1 w) (A : Option Addr) (c n : Nat) (L : List Nat) (hR : Rd .u8 w w.heap.size A c L) (hn : L.length = n) (ho : ∀ x ∈ L, x < 256) :
    Calls Tryd.prog 5 #[.slice A n c] w fun e w' => e = .returned (.bool true) ∧ Below w.heap.size w w' := by
  have HR := Lib.hid (read'_any w _ A c n L hR hn ho (Nat.le_refl _))
  have HN := Lib.hid hn
  have HO := Lib.hid ho
  have HT := Lib.hid hT
  clear hR hn ho hT
  rcases hrt : readT L with y | T
  · rw [hrt] at HR
    have hy0 : y ≠ 0 := by
      have h := hrt
      unfold readT at h
      split at h
      · injection h with h; omega
      · rcases h6 : rd L 1 0 with y2 | ⟨t, m, c2⟩
        · rw [h6] at h
          have := (rd_err (L.length + 1)).1 _ _ _ _ (Nat.lt_succ_self _) h6
          injection h with h; omega
        · rw [h6] at h
          dsimp only at h
          split at h
          · injection h with h; omega
          · cases h
    have bne : ((y : Int) != 0) = true := by simp; omega
    have beq : ((y : Int) == 0) = false := by simp; omega
    clear hrt
    go_enter Tryd.func5, Tryd.ntmps5
    go_wp2_with fail
    refine HR.out.mono ?_
    rintro e w2 ⟨rfl, hb2⟩
    have HB2 := Lib.hid (hb2.alloc hb2.size (.cells #[.int .u8 0, .slice none 0 0, .slice none 0 0] 32))
    clear hb2
    simp only [noNode]
    by_cases h3 : 1000 < n
    · have d3 : decide ((1000 : Int) < (n : Int)) = true := decide_eq_true (by omega)
      go_wp2_with fail
      go_ret
      exact ⟨rfl, HB2.out⟩
    · have d3 : decide ((1000 : Int) < (n : Int)) = false := decide_eq_false (by omega)
      go_wp2_with fail
      go_ret
      exact ⟨rfl, HB2.out⟩
  · rw [hrt] at HR
    have hti := readT_is HO.out hrt
    have HLE : Hid (T.enc.length = n) := Lib.hid (by rw [hti.1]; exact HN.out)
    clear hrt hti
    go_enter Tryd.func5, Tryd.ntmps5
    go_wp2_with fail
    refine HR.out.mono ?_
    rintro e w2 ⟨lt, rfl, hlt, hat, hb2⟩
    have HVAL : Hid (lt.val = .agg #[.int .u8 (lt.tag : Int), .slice lt.ba lt.body.length lt.bc, .slice lt.ka lt.kids.length lt.kc]) := Lib.hid rfl
    have hoff := Off.of_at hat (Nat.le_refl _)
    have HB2 := Lib.hid hb2
    rw [HVAL.out]
    have HLT := Lib.hid hlt
    have HOF := Lib.hid hoff
    clear hlt hat hoff hb2
    by_cases h3 : 1000 < n
    · have d3 : decide ((1000 : Int) < (n : Int)) = true := decide_eq_true (by omega)
      have HB3 := Lib.hid (HB2.out.alloc HB2.out.size (.cells #[.int .u8 (lt.tag : Int), .slice lt.ba lt.body.length lt.bc, .slice lt.ka lt.kids.length lt.kc] 32))
      go_wp2_with fail
      go_ret
      exact ⟨rfl, HB3.out⟩
    have d3 : decide ((1000 : Int) < (n : Int)) = false := decide_eq_false (by omega)
    have HG : Hid (∀ W, Below w2.heap.size w2 W → Calls Tryd.prog 13 #[lt.val] W (GetDPost W T)) := Lib.hid fun W hW => by
      have h := getD_any W lt (HOF.out.under hW) (by rw [HLT.out]; exact fit_encG (by rw [HLE.out]; omega)) (Utf8Tabs_below HT.out (HB2.out.trans (hW.mono HB2.out.size)))
      rwa [HLT.out] at h
    have HG' : Hid (∀ W, Below w2.heap.size w2 W → Calls Tryd.prog 18 #[lt.val] W (GetDPost W T)) := Lib.hid fun W hW => by
      have h := getD'_any W lt (HOF.out.under hW) (by rw [HLT.out]; exact fit_encG (by rw [HLE.out]; omega))
      rwa [HLT.out] at h
    rw [HVAL.out] at HG HG'
    clear HVAL HLT HOF
    generalize lt.tag = lg at *
    generalize lt.ba = lba at *
    generalize lt.bc = lbc at *
    generalize lt.body.length = lbl at *
    generalize lt.ka = lka at *
    generalize lt.kids.length = ln at *
    generalize lt.kc = lkc at *
    have hq3 : Below w2.heap.size w2 (w2.alloc (.cells #[.int .u8 (lg : Int), .slice lba lbl lbc, .slice lka ln lkc] 32)) := (Below.refl _ _).alloc (Nat.le_refl _) _
    have hh3 := Holds.fresh w2 32 #[.int .u8 (lg : Int), .slice lba lbl lbc, .slice lka ln lkc]
    have HH3 := Lib.hid hh3
    have a0 := hh3.cell 0
    have a1 := hh3.cell 1
    have a2 := hh3.cell 2
    have HG3 := Lib.hid (HG.out _ hq3)
    have HQ3 := Lib.hid hq3
    clear hh3 hq3
    go_wp2_with fail
    refine HG3.out.mono ?_
    rintro e w4 hpost
    obtain ⟨A4, c4, l4, b4, rfl, hx4, hb4, H4⟩ := getD_open hpost
    have HX4 := Lib.hid hx4
    have HQ4 := Lib.hid (HQ3.out.trans (hb4.mono HQ3.out.size))
    have hh4 := HH3.out.under hb4 HH3.out.lt
    have z0 := hh4.cell 0
    have z1 := hh4.cell 1
    have z2 := hh4.cell 2
    have HG4 := Lib.hid (HG'.out _ HQ4.out)
    obtain ⟨k4, hk4⟩ : ∃ k, k = l4.length := ⟨_, rfl⟩
    have HK4 := Lib.hid hk4
    rw [← hk4]
    clear hpost hx4 hb4 hh4 a0 a1 a2 HG3 HG HG' hk4
    go_wp2_with fail
    refine HG4.out.mono ?_
    rintro e w5 hpost
    obtain ⟨A5, c5, l5, b5, rfl, hx5, hb5, H5⟩ := getD_open hpost
    obtain ⟨hbb, hvv⟩ := getD_one H4.out H5.out
    subst hbb
    subst hvv
    have HQ5 := Lib.hid (HQ4.out.trans (hb5.mono HQ4.out.size))
    have HSM := Lib.hid (sameR_any w5 _ _ A4 A5 c4 c5 k4 k4 l4 l4 HK4.out.symm HK4.out.symm ((HX4.out.under hb5).more hb5.size) hx5 true (by simp))
    rw [← HK4.out]
    clear hpost hx5 hb5 z0 z1 z2 HG4
    cases b4
    all_goals
      go_wp2_with fail
      refine HSM.out.mono ?_
      rintro e w6 ⟨rfl, q, rfl⟩
      have HQ6 := Lib.hid (drawn_b HQ5.out q)
      generalize w5.drewN q = w6 at *
      go_wp2_with fail
      refine (known15_any w6 (Utf8Tabs_below HT.out (HB2.out.trans (HQ6.out.mono HB2.out.size)))).mono ?_
      rintro e w7 ⟨rfl, hb7⟩
      have HF := Lib.hid (HB2.out.trans ((HQ6.out.trans (hb7.mono HQ6.out.size)).mono HB2.out.size))
      clear hb7
      go_wp2_with fail
      go_ret
      exact ⟨rfl, HF.out⟩
end Go.Proofs.YtmoefccfdnijpaaDoor
