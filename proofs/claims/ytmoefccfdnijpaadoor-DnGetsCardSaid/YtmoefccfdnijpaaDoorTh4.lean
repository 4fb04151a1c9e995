/-
  What things hold, on: bytes by atom; IDs, bytes by the document.
-/
import Derived.Test.YtmoefccfdnijpaaDoorTh3
namespace Go.Proofs.YtmoefccfdnijpaaDoor
open Go.RowKit
set_option linter.unusedVariables false
set_option linter.unusedSimpArgs false

set_option maxRecDepth 100000 in
theorem clone_nil (w : World) : Calls Tryd.prog 41 #[.slice none 0 0] w fun e w' => e = .returned (.slice none 0 0) ∧ Below w.heap.size w w' := by
  have hnl : (binOp .eql 29 (.slice none 0 0) (.slice none 0 0)).run Tryd.prog w = .ok (.bool true) w := run_eql_slice_nil w _ _ none 0 0 under22
  go_enter Tryd.func41, Tryd.ntmps41
  go_wp2_with fail
  go_ret
  exact ⟨rfl, Below.refl _ _⟩
set_option maxRecDepth 100000 in
set_option maxHeartbeats 4000000 in
theorem isID'_any (w : World) (n c B : Nat) (A : Option Addr) (b : List Nat) (hr : Rd .u8 w B A c b) (hn : b.length = n) (ho : ∀ y ∈ b, y < 256) :
    Calls Tryd.prog 51 #[.slice A n c] w fun e w' => e = .returned (.bool (idOk b)) ∧ w = w' := by
  have hlc : n ≤ c := by rw [← hn]; exact hr.1
  have hc63 := hr.2.1
  have HR := Lib.hid hr
  have HN := Lib.hid hn
  have HO := Lib.hid ho
  clear hr hn ho
  by_cases h0 : n = 0
  case pos =>
    have HE : Hid (idOk b = false) := Lib.hid (idOk_no fun h => by have := HN.out; omega)
    subst h0
    go_enter Tryd.func51, Tryd.ntmps51
    go_wp2_with fail
    go_ret
    exact ⟨by rw [HE.out]; rfl, rfl⟩
  have d0 : decide ((n : Int) < 1) = false := decide_eq_false (by omega)
  by_cases h20 : 20 < n
  case pos =>
    have HE : Hid (idOk b = false) := Lib.hid (idOk_no fun h => by have := HN.out; omega)
    have d1 : decide ((20 : Int) < (n : Int)) = true := decide_eq_true (by omega)
    go_enter Tryd.func51, Tryd.ntmps51
    go_wp2_with fail
    go_ret
    exact ⟨by rw [HE.out]; rfl, rfl⟩
  have d1 : decide ((20 : Int) < (n : Int)) = false := decide_eq_false (by omega)
  obtain ⟨k, off, rfl, hk, hcs⟩ := HR.out.2.2 (by rw [HN.out]; omega)
  have HC : Hid (∀ j, j < n → w.cell? ⟨k, off + j, none⟩ = some (.int .u8 ((b.getD j 0 : Nat) : Int))) := Lib.hid fun j hj => hcs j (by rw [HN.out]; exact hj)
  clear hcs
  have hy6 : b.getD (n - 1) 0 < 256 := rd_oct HO.out _
  have el := HC.out (n - 1) (by omega)
  generalize hy0 : b.getD (n - 1) 0 = y0 at *
  have HY0 := Lib.hid hy0
  clear hy0
  by_cases hl : 128 ≤ y0
  case pos =>
    have HE : Hid (idOk b = false) := Lib.hid (idOk_no fun h => by have h3 := h.2.2.1; rw [HN.out, HY0.out] at h3; omega)
    have d2 : decide ((128 : Int) ≤ (y0 : Int)) = true := decide_eq_true (by omega)
    go_enter Tryd.func51, Tryd.ntmps51
    go_wp2_with fail
    go_ret
    exact ⟨by rw [HE.out]; rfl, rfl⟩
  have HLS : Hid (y0 < 128) := Lib.hid (by omega)
  have d2 : decide ((128 : Int) ≤ (y0 : Int)) = false := decide_eq_false (by omega)
  go_enter Tryd.func51, Tryd.ntmps51
  go_wp2_with fail
  clear el d0 d1 d2
  go_loopw [3] (fun iv wr => ∃ (i : Nat), i ≤ n ∧ iv = .int .i64 (i : Int) ∧ Hid (∀ j, j < i → ¬ (b.getD j 0 = 128 ∧ (j = 0 ∨ b.getD (j - 1) 0 < 128))) ∧ wr = w) (fun iv _ => n - (intOf iv).toNat)
  case atStart => exact ⟨0, by omega, rfl, fun j hj => by omega, rfl⟩
  case round =>
    obtain ⟨i, hi, rfl, HA, rfl⟩ := hrel
    by_cases hlt : i < n
    · have ec := HC.out i hlt
      have hy : b.getD i 0 < 256 := rd_oct HO.out _
      obtain ⟨y, hyd⟩ : ∃ y, y = b.getD i 0 := ⟨_, rfl⟩
      have HY := Lib.hid hyd
      rw [← hyd] at ec hy
      clear hyd
      by_cases h128 : y = 128
      · have HY8 := Lib.hid h128
        have q1 : ((y : Int) == 128) = true := by rw [beq_iff_eq]; omega
        clear h128
        by_cases hi0 : i = 0
        · have HE : Hid (idOk b = false) := Lib.hid (idOk_no fun h => h.2.2.2 i (by rw [HN.out]; exact hlt) ⟨by rw [← HY.out, HY8.out], .inl hi0⟩)
          have e3 : ((i : Int) == 0) = true := by rw [beq_iff_eq]; omega
          clear hi0
          go_wp2_with fail
          go_ret
          exact ⟨by rw [HE.out]; rfl, rfl⟩
        · have e3 : ((i : Int) == 0) = false := by rw [beq_eq_false_iff_ne]; omega
          have ep := HC.out (i - 1) (by omega)
          have hp6 : b.getD (i - 1) 0 < 256 := rd_oct HO.out _
          obtain ⟨p, hpd⟩ : ∃ p, p = b.getD (i - 1) 0 := ⟨_, rfl⟩
          have HP := Lib.hid hpd
          rw [← hpd] at ep hp6
          clear hpd
          by_cases hp8 : p < 128
          · have HE : Hid (idOk b = false) := Lib.hid (idOk_no fun h => h.2.2.2 i (by rw [HN.out]; exact hlt) ⟨by rw [← HY.out, HY8.out], .inr (by rw [← HP.out]; exact hp8)⟩)
            have d3 : decide ((p : Int) < 128) = true := decide_eq_true (by omega)
            go_wp2_with fail
            go_ret
            exact ⟨by rw [HE.out]; rfl, rfl⟩
          · have d3 : decide ((p : Int) < 128) = false := decide_eq_false (by omega)
            have HP8 := Lib.hid hp8
            have HI0 := Lib.hid hi0
            have hi1 : 1 ≤ i := by omega
            clear hp8 hi0
            go_wp2_with fail
            go_roundw
            case rel => exact ⟨i + 1, by omega, by go_num, fun j hj => by
              rcases Nat.lt_or_ge j i with h3 | h3
              · exact HA.out j h3
              · obtain rfl : j = i := by omega
                exact fun h => by rcases h.2 with h4 | h4; exact HI0.out h4; exact HP8.out (by rw [HP.out]; exact h4), trivial⟩
            case measure => simp [intOf]; omega
      · have q1 : ((y : Int) == 128) = false := by rw [beq_eq_false_iff_ne]; omega
        have HY8 := Lib.hid h128
        clear h128
        go_wp2_with fail
        go_roundw
        case rel => exact ⟨i + 1, by omega, by go_num, fun j hj => by
          rcases Nat.lt_or_ge j i with h3 | h3
          · exact HA.out j h3
          · obtain rfl : j = i := by omega
            exact fun h => HY8.out (by rw [HY.out]; exact h.1), trivial⟩
        case measure => simp [intOf]; omega
    · have HE : Hid (idOk b = true) := Lib.hid (idOk_iff.2 ⟨by rw [HN.out]; omega, by rw [HN.out]; omega, by rw [HN.out, HY0.out]; exact HLS.out, fun j hj => HA.out j (by rw [HN.out] at hj; omega)⟩)
      go_wp2_with fail
      go_ret
      exact ⟨by rw [HE.out]; rfl, rfl⟩
set_option maxRecDepth 100000 in
set_option maxHeartbeats 2000000 in
theorem getID'_any (w : World) (x n c kn kc B : Nat) (A K : Option Addr) (b : List Nat) (hr : Rd .u8 w B A c b) (hn : b.length = n) (hB : B ≤ w.heap.size) (ho : ∀ y ∈ b, y < 256) (hmx : n ≤ 900000) :
    Calls Tryd.prog 46 #[.agg #[.int .u8 (x : Int), .slice A n c, .slice K kn kc]] w (GetB w (if (heldOk x kn 6 && idOk b) = true then some b else none)) := by
  obtain ⟨o, HOO⟩ : ∃ o, Hid (o = if (heldOk x kn 6 && idOk b) = true then some b else none) := ⟨_, rfl⟩
  rw [← HOO.out]
  have hH := Holds.fresh w 32 #[.int .u8 (x : Int), .slice A n c, .slice K kn kc]
  have HB0 : Hid (Below w.heap.size w (w.alloc (.cells #[.int .u8 (x : Int), .slice A n c, .slice K kn kc] 32))) := Lib.hid ((Below.refl _ _).alloc (Nat.le_refl _) _)
  have c0 := hH.cell 0
  have c1 := hH.cell 1
  have c2 := hH.cell 2
  have HK := Lib.hid (held'_any (w.alloc (.cells #[.int .u8 (x : Int), .slice A n c, .slice K kn kc] 32)) x n c kn kc 6 B A K b (hr.under (HB0.out.mono hB)) hn (Nat.le_trans hB HB0.out.size) hmx)
  have HN := Lib.hid hn
  have HO := Lib.hid ho
  clear hr hn ho
  rcases hok : heldOk x kn 6 with _ | _
  case false =>
    have HE : Hid (o = none) := Lib.hid (by rw [HOO.out, hok]; rfl)
    rw [hok] at HK
    go_enter Tryd.func46, Tryd.ntmps46
    go_wp2_with fail
    refine HK.out.mono ?_
    rintro e w2 ⟨rfl, hb2⟩
    have HQ := Lib.hid (HB0.out.trans (hb2.mono HB0.out.size))
    clear hb2 HK
    go_wp2_with fail
    go_ret2
    rw [HE.out]
    exact ⟨rfl, HQ.out⟩
  rw [hok] at HK
  rw [hok, Bool.true_and] at HOO
  go_enter Tryd.func46, Tryd.ntmps46
  go_wp2_with fail
  refine HK.out.mono ?_
  rintro e w2 ⟨A2, c2, rfl, hm2, hb2⟩
  have HQ := Lib.hid (HB0.out.trans (hb2.mono HB0.out.size))
  have HM := Lib.hid (hm2.less HB0.out.size)
  have HI := Lib.hid (isID'_any w2 n c2 _ A2 b hm2.rd HN.out HO.out)
  clear hb2 hm2 HK
  rcases hid : idOk b with _ | _
  · rw [hid] at HI HOO
    have HE : Hid (o = none) := Lib.hid (by rw [HOO.out]; rfl)
    go_wp2_with fail
    refine HI.out.mono ?_
    rintro e w3 ⟨rfl, rfl⟩
    go_wp2_with fail
    go_ret2
    rw [HE.out]
    exact ⟨rfl, HQ.out⟩
  · rw [hid] at HI HOO
    have HE : Hid (o = some b) := Lib.hid (by rw [HOO.out]; rfl)
    go_wp2_with fail
    refine HI.out.mono ?_
    rintro e w3 ⟨rfl, rfl⟩
    go_wp2_with fail
    go_ret2
    rw [HE.out]
    exact ⟨A2, c2, by rw [HN.out]; rfl, HM.out, HQ.out⟩
end Go.Proofs.YtmoefccfdnijpaaDoor
