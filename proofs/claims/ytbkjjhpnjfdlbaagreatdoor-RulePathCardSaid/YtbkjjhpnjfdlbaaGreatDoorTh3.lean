/-
  What things hold: things, IDs, bytes: by atom, by the document.
-/
import Derived.Test.YtbkjjhpnjfdlbaaGreatDoorTh2
namespace Go.Proofs.YtbkjjhpnjfdlbaaGreatDoor
open Go.RowKit
set_option linter.unusedVariables false
set_option linter.unusedSimpArgs false

/-- Is it things in one, of a tag? -/
def seqOk (x : Nat) (n : Nat) (tag : Nat) : Bool := decide (x = tag) && parted tag && decide (n = 0)
def SeqPost (w : World) (xs : List Nat) (ks : List Lt) : Bool → Ending → World → Prop
  | true, e, w' => ∃ A c, e = .returned (.tuple #[.slice A ks.length c, .bool true]) ∧ Off xs (KiP A c ks) w' ∧ Below w.heap.size w w'
  | false, e, w' => e = .returned (.tuple #[.slice none 0 0, .bool false]) ∧ Below w.heap.size w w'
/-- Bytes of one's own, or none. -/
def GetB (w : World) : Option (List Nat) → Ending → World → Prop
  | none, e, w' => e = .returned (.tuple #[.slice none 0 0, .bool false]) ∧ Below w.heap.size w w'
  | some b, e, w' => ∃ A c, e = .returned (.tuple #[.slice A b.length c, .bool true]) ∧ Mine 5 w' w.heap.size A c b ∧ Below w.heap.size w w'
theorem GetB.one {w : World} {o : Option (List Nat)} {e : Ending} {w' : World} (h : GetB w o e w') : ∃ A c, e = .returned (.tuple #[.slice A (o.getD []).length c, .bool o.isSome]) ∧ Mine 5 w' w.heap.size A c (o.getD []) ∧ Below w.heap.size w w' := by
  rcases o with _ | b
  · exact ⟨none, 0, h.1, Mine.nil _ _ _, h.2⟩
  · exact h
/-- May it be an ID? -/
def idOk (b : List Nat) : Bool := decide (1 ≤ b.length ∧ b.length ≤ 20 ∧ b.getD (b.length - 1) 0 < 128 ∧ ∀ i, i < b.length → ¬ (b.getD i 0 = 128 ∧ (i = 0 ∨ b.getD (i - 1) 0 < 128)))
theorem idOk_iff {b : List Nat} : idOk b = true ↔ 1 ≤ b.length ∧ b.length ≤ 20 ∧ b.getD (b.length - 1) 0 < 128 ∧ ∀ i, i < b.length → ¬ (b.getD i 0 = 128 ∧ (i = 0 ∨ b.getD (i - 1) 0 < 128)) := by
  unfold idOk; rw [decide_eq_true_iff]
theorem idOk_no {b : List Nat} (h : ¬ (1 ≤ b.length ∧ b.length ≤ 20 ∧ b.getD (b.length - 1) 0 < 128 ∧ ∀ i, i < b.length → ¬ (b.getD i 0 = 128 ∧ (i = 0 ∨ b.getD (i - 1) 0 < 128)))) : idOk b = false := by
  rw [Bool.eq_false_iff]; exact fun hh => h (idOk_iff.1 hh)
theorem rd_oct {b : List Nat} (ho : ∀ x ∈ b, x < 256) (j : Nat) : b.getD j 0 < 256 := by
  rw [List.getD_eq_getElem?_getD]
  rcases h : b[j]? with _ | y
  · simp
  · exact ho y (List.mem_of_getElem? h)
theorem and32_is (x : Nat) (hx : x < 256) : (Go.bits BinOp.and IntKind.u8 ((x : Nat) : Int) 32 == 0) = !parted x := by
  have h := parted_is x hx
  rw [← h]
  unfold bne
  rw [Bool.not_not]
set_option maxRecDepth 100000 in
set_option maxHeartbeats 2000000 in
theorem getSeq_any (w : World) (xs : List Nat) (x n c kn kc tag : Nat) (A K : Option Addr) (ks : List Lt) (hk : Off xs (KiP K kc ks) w) (hn : ks.length = kn) (ht : tag < 256) (hsz : kn ≤ 100000) (hxs : ∀ x ∈ xs, x < w.heap.size) :
    Calls Tryz.prog 42 #[.agg #[.int .u8 (x : Int), .slice A n c, .slice K kn kc], .int .u8 (tag : Int)] w (SeqPost w xs ks (seqOk x n tag)) := by
  have hH := Holds.fresh w 31 #[.int .u8 (x : Int), .slice A n c, .slice K kn kc]
  have HB0 : Hid (Below w.heap.size w (w.alloc (.cells #[.int .u8 (x : Int), .slice A n c, .slice K kn kc] 31))) := Lib.hid ((Below.refl _ _).alloc (Nat.le_refl _) _)
  have c0 := hH.cell 0
  have c1 := hH.cell 1
  have c2 := hH.cell 2
  have hkV := hk.alloc (.cells #[.int .u8 (x : Int), .slice A n c, .slice K kn kc] 31)
  have HC := Lib.hid (cloneT_any (w.alloc (.cells #[.int .u8 (x : Int), .slice A n c, .slice K kn kc] 31)) xs K kc kn ks hkV hn hsz (fun y hy => by have := hxs y hy; have := hH.lt; omega))
  have HK := Lib.hid hkV
  have HN := Lib.hid hn
  have hand := and32_is tag ht
  clear hk hn hkV
  by_cases h1 : x = tag
  case neg =>
    have HE : Hid (seqOk x n tag = false) := Lib.hid (by simp [seqOk, h1])
    have b1 : ((x : Int) != (tag : Int)) = true := by simp; omega
    have d1 : decide ((x : Int) = (tag : Int)) = false := decide_eq_false (by omega)
    clear hand
    go_enter Tryz.func42, Tryz.ntmps42
    go_wp2_with fail
    go_ret2
    rw [HE.out]
    exact ⟨rfl, HB0.out⟩
  subst h1
  rcases hp : parted x with _ | _
  case false =>
    have HE : Hid (seqOk x n x = false) := Lib.hid (by simp [seqOk, hp])
    rw [hp] at hand
    have hand2 : (Go.bits BinOp.and IntKind.u8 ((x : Nat) : Int) 32 == 0) = true := hand
    clear hand
    go_enter Tryz.func42, Tryz.ntmps42
    go_wp2_with fail
    go_ret2
    rw [HE.out]
    exact ⟨rfl, HB0.out⟩
  rw [hp] at hand
  have hand2 : (Go.bits BinOp.and IntKind.u8 ((x : Nat) : Int) 32 == 0) = false := hand
  clear hand
  by_cases h2 : n = 0
  case neg =>
    have HE : Hid (seqOk x n x = false) := Lib.hid (by simp [seqOk, h2])
    have d2 : decide ((0 : Int) < (n : Int)) = true := decide_eq_true (by omega)
    go_enter Tryz.func42, Tryz.ntmps42
    go_wp2_with fail
    go_ret2
    rw [HE.out]
    exact ⟨rfl, HB0.out⟩
  subst h2
  have HE : Hid (seqOk x 0 x = true) := Lib.hid (by simp [seqOk, hp])
  go_enter Tryz.func42, Tryz.ntmps42
  go_wp2_with fail
  refine HC.out.mono ?_
  rintro e w2 ⟨A2, c2, rfl, hk2, hb2⟩
  have HQ2 := Lib.hid (HB0.out.trans (hb2.mono HB0.out.size))
  have HK2 := Lib.hid hk2
  clear hb2 hk2 HC
  go_wp2_with fail
  go_ret2
  rw [HE.out]
  exact ⟨A2, c2, by rw [HN.out]; rfl, HK2.out, HQ2.out⟩
set_option maxRecDepth 100000 in
set_option maxHeartbeats 4000000 in
theorem getID_any (w : World) (x n c kn kc B : Nat) (A K : Option Addr) (b : List Nat) (hr : Rd .u8 w B A c b) (hn : b.length = n) (hB : B ≤ w.heap.size) (ho : ∀ y ∈ b, y < 256) :
    Calls Tryz.prog 29 #[.agg #[.int .u8 (x : Int), .slice A n c, .slice K kn kc]] w (GetB w (if (heldOk x kn 6 && idOk b) = true then some b else none)) := by
  obtain ⟨o, HOO⟩ : ∃ o, Hid (o = if (heldOk x kn 6 && idOk b) = true then some b else none) := ⟨_, rfl⟩
  rw [← HOO.out]
  have hH := Holds.fresh w 31 #[.int .u8 (x : Int), .slice A n c, .slice K kn kc]
  have HB0 : Hid (Below w.heap.size w (w.alloc (.cells #[.int .u8 (x : Int), .slice A n c, .slice K kn kc] 31))) := Lib.hid ((Below.refl _ _).alloc (Nat.le_refl _) _)
  have c0 := hH.cell 0
  have c1 := hH.cell 1
  have c2 := hH.cell 2
  have hlc : n ≤ c := by rw [← hn]; exact hr.1
  have hc63 := hr.2.1
  have HK := Lib.hid (held_any (w.alloc (.cells #[.int .u8 (x : Int), .slice A n c, .slice K kn kc] 31)) x n c kn kc 6 A K)
  have HR := Lib.hid hr
  have HN := Lib.hid hn
  have HO := Lib.hid ho
  clear hr hn ho
  rcases hok : heldOk x kn 6 with _ | _
  case false =>
    have HE : Hid (o = none) := Lib.hid (by rw [HOO.out, hok]; rfl)
    rw [hok] at HK
    go_enter Tryz.func29, Tryz.ntmps29
    go_wp2_with fail
    refine HK.out.mono ?_
    rintro e w2 ⟨rfl, hb2⟩
    have HQ := Lib.hid (HB0.out.trans (hb2.mono HB0.out.size))
    clear hb2 HK
    go_wp2_with fail
    go_ret2
    rw [HE.out]
    exact ⟨rfl, HQ.out⟩
  rw [hok] at HK
  by_cases h0 : n = 0
  case pos =>
    have HE : Hid (o = none) := Lib.hid (by rw [HOO.out, show idOk b = false from idOk_no fun h => by have := HN.out; omega]; simp)
    subst h0
    go_enter Tryz.func29, Tryz.ntmps29
    go_wp2_with fail
    refine HK.out.mono ?_
    rintro e w2 ⟨rfl, hb2⟩
    have hq := HB0.out.trans (hb2.mono HB0.out.size)
    have HQ := Lib.hid hq
    clear hb2 HK hq
    go_wp2_with fail
    go_ret2
    rw [HE.out]
    exact ⟨rfl, HQ.out⟩
  have d0 : decide ((n : Int) = 0) = false := decide_eq_false (by omega)
  have q0 : ((n : Int) == 0) = false := by rw [beq_eq_false_iff_ne]; omega
  by_cases h20 : 20 < n
  case pos =>
    have HE : Hid (o = none) := Lib.hid (by rw [HOO.out, show idOk b = false from idOk_no fun h => by have := HN.out; omega]; simp)
    have d1 : decide ((20 : Int) < (n : Int)) = true := decide_eq_true (by omega)
    go_enter Tryz.func29, Tryz.ntmps29
    go_wp2_with fail
    refine HK.out.mono ?_
    rintro e w2 ⟨rfl, hb2⟩
    have hq := HB0.out.trans (hb2.mono HB0.out.size)
    have HQ := Lib.hid hq
    clear hb2 HK hq
    go_wp2_with fail
    go_ret2
    rw [HE.out]
    exact ⟨rfl, HQ.out⟩
  have d1 : decide ((20 : Int) < (n : Int)) = false := decide_eq_false (by omega)
  obtain ⟨k, off, rfl, hk, hcs⟩ := HR.out.2.2 (by rw [HN.out]; omega)
  have HC : Hid (∀ W, Below w.heap.size w W → ∀ j, j < n → W.cell? ⟨k, off + j, none⟩ = some (.int .u8 ((b.getD j 0 : Nat) : Int))) := Lib.hid fun W hW j hj => by
    rw [hW.cell (p := ⟨k, off + j, none⟩) (by show k < _; omega)]
    exact hcs j (by rw [HN.out]; exact hj)
  clear hcs
  have hy6 : b.getD (n - 1) 0 < 256 := rd_oct HO.out _
  by_cases hl : 128 ≤ b.getD (n - 1) 0
  case pos =>
    have HE : Hid (o = none) := Lib.hid (by rw [HOO.out, show idOk b = false from idOk_no fun h => by have h3 := h.2.2.1; rw [HN.out] at h3; omega]; simp)
    have d2 : decide ((128 : Int) ≤ ((b.getD (n - 1) 0 : Nat) : Int)) = true := decide_eq_true (by omega)
    go_enter Tryz.func29, Tryz.ntmps29
    go_wp2_with fail
    refine HK.out.mono ?_
    rintro e w2 ⟨rfl, hb2⟩
    have hq := HB0.out.trans (hb2.mono HB0.out.size)
    have HQ := Lib.hid hq
    have el : w2.cell? ⟨k, off + (n - 1), none⟩ = some (.int .u8 ((b.getD (n - 1) 0 : Nat) : Int)) := HC.out _ hq (n - 1) (by omega)
    generalize b.getD (n - 1) 0 = y0 at *
    clear hb2 HK hq
    go_wp2_with fail
    go_ret2
    rw [HE.out]
    exact ⟨rfl, HQ.out⟩
  have HLS : Hid (b.getD (n - 1) 0 < 128) := Lib.hid (by omega)
  have d2 : decide ((128 : Int) ≤ ((b.getD (n - 1) 0 : Nat) : Int)) = false := decide_eq_false (by omega)
  go_enter Tryz.func29, Tryz.ntmps29
  go_wp2_with fail
  refine HK.out.mono ?_
  rintro e w2 ⟨rfl, hb2⟩
  have hq := HB0.out.trans (hb2.mono HB0.out.size)
  have HQ := Lib.hid hq
  have el : w2.cell? ⟨k, off + (n - 1), none⟩ = some (.int .u8 ((b.getD (n - 1) 0 : Nat) : Int)) := HC.out _ hq (n - 1) (by omega)
  have HCL := Lib.hid (clone_any w2 B (some ⟨k, off, none⟩) c n b (HR.out.under (hq.mono hB)) HN.out (Nat.le_trans hB hq.size) (by omega))
  have HC2 := Lib.hid (HC.out w2 hq)
  clear hb2 HK hq HC
  generalize hy0 : b.getD (n - 1) 0 = y0 at *
  have HY0 := Lib.hid hy0
  clear hy0
  go_wp2_with fail
  clear el d0 q0 d1 d2
  go_loop [6, 37] (fun fv iv => ∃ (i : Nat) (f : Bool), i ≤ n ∧ iv = .int .i64 (i : Int) ∧ fv = .bool f ∧ Hid (f = true ↔ i = 0 ∨ b.getD (i - 1) 0 < 128) ∧ Hid (∀ j, j < i → ¬ (b.getD j 0 = 128 ∧ (j = 0 ∨ b.getD (j - 1) 0 < 128)))) (fun _ iv => n - (intOf iv).toNat)
  case atStart => exact ⟨0, true, by omega, rfl, rfl, by show _ ↔ _; simp, fun j hj => by omega⟩
  case round =>
    obtain ⟨i, f, hi, rfl, rfl, HF, HA⟩ := hrel
    by_cases hlt : i < n
    · have ec := HC2.out i hlt
      have hy : b.getD i 0 < 256 := rd_oct HO.out _
      obtain ⟨y, hyd⟩ : ∃ y, y = b.getD i 0 := ⟨_, rfl⟩
      have HY := Lib.hid hyd
      rw [← hyd] at ec hy
      clear hyd
      by_cases h128 : y = 128
      · rcases f with _ | _
        · have HF2 : Hid (¬ (i = 0 ∨ b.getD (i - 1) 0 < 128)) := Lib.hid fun h => by have := HF.out.2 h; cases this
          have q1 : ((y : Int) == 128) = true := by rw [beq_iff_eq]; omega
          have d3 : decide ((y : Int) < 128) = false := decide_eq_false (by omega)
          have HY8 := Lib.hid h128
          clear h128
          go_wp2_with fail
          go_round
          case rel => exact ⟨i + 1, false, by omega, by go_num, rfl, ⟨fun h => by (cases h), fun h => by rw [Nat.add_sub_cancel, ← HY.out, HY8.out] at h; omega⟩, fun j hj => by
            rcases Nat.lt_or_ge j i with h3 | h3
            · exact HA.out j h3
            · obtain rfl : j = i := by omega
              exact fun h => HF2.out h.2⟩
          case measure => simp [intOf]; omega
        · have HF2 : Hid (i = 0 ∨ b.getD (i - 1) 0 < 128) := Lib.hid (HF.out.1 rfl)
          have HE : Hid (o = none) := Lib.hid (by
            rw [HOO.out, show idOk b = false from idOk_no fun h => h.2.2.2 i (by rw [HN.out]; exact hlt) ⟨by rw [← HY.out, h128], HF2.out⟩]; simp)
          have q1 : ((y : Int) == 128) = true := by rw [beq_iff_eq]; omega
          clear h128
          go_wp2_with fail
          go_ret2
          rw [HE.out]
          exact ⟨rfl, HQ.out⟩
      · have q1 : ((y : Int) == 128) = false := by rw [beq_eq_false_iff_ne]; omega
        have d3 : decide ((y : Int) = 128) = false := decide_eq_false (by omega)
        have HY8 := Lib.hid h128
        by_cases hy8 : y < 128
        · have d4 : decide ((y : Int) < 128) = true := decide_eq_true (by omega)
          have HYL := Lib.hid hy8
          clear h128 hy8
          rcases f with _ | _
          all_goals
            go_wp2_with fail
            go_round
            case rel => exact ⟨i + 1, true, by omega, by go_num, rfl, ⟨fun h => .inr (by rw [Nat.add_sub_cancel, ← HY.out]; exact HYL.out), fun h => rfl⟩, fun j hj => by
              rcases Nat.lt_or_ge j i with h3 | h3
              · exact HA.out j h3
              · obtain rfl : j = i := by omega
                exact fun h => HY8.out (by rw [HY.out]; exact h.1)⟩
            case measure => simp [intOf]; omega
        · have d4 : decide ((y : Int) < 128) = false := decide_eq_false (by omega)
          have HYL := Lib.hid hy8
          clear h128 hy8
          rcases f with _ | _
          all_goals
            go_wp2_with fail
            go_round
            case rel => exact ⟨i + 1, false, by omega, by go_num, rfl, ⟨fun h => by (cases h), fun h => by rw [Nat.add_sub_cancel, ← HY.out] at h; have := HYL.out; omega⟩, fun j hj => by
              rcases Nat.lt_or_ge j i with h3 | h3
              · exact HA.out j h3
              · obtain rfl : j = i := by omega
                exact fun h => HY8.out (by rw [HY.out]; exact h.1)⟩
            case measure => simp [intOf]; omega
    · have HE : Hid (o = some b) := Lib.hid (by
        rw [HOO.out, if_pos]
        rw [hok, Bool.true_and]
        exact idOk_iff.2 ⟨by rw [HN.out]; omega, by rw [HN.out]; omega, by rw [HN.out, HY0.out]; exact HLS.out, fun j hj => HA.out j (by rw [HN.out] at hj; omega)⟩)
      go_wp2_with fail
      refine HCL.out.mono ?_
      rintro e w3 ⟨A3, c3, rfl, hm3, hb3⟩
      have HQ3 := Lib.hid (HQ.out.trans (hb3.mono HQ.out.size))
      have HM3 := Lib.hid (hm3.less HQ.out.size)
      clear hb3 hm3
      go_wp2_with fail
      go_ret2
      rw [HE.out]
      exact ⟨A3, c3, by rw [HN.out]; rfl, HM3.out, HQ3.out⟩
end Go.Proofs.YtbkjjhpnjfdlbaaGreatDoor
