/-
  What is handed in stays as it is.
-/
import Derived.Test.YteamkobemmocfaaNat18
import Derived.Deep.Upon
namespace Go.Proofs.Yteamkobemmocfaa
open Go.RowKit
set_option linter.unusedVariables false

/-- A number appended to nothing: its digits, somewhere. -/
theorem run_copied {w : World} {B : Nat} {A : Option Addr} {c : Nat} {l : List Nat} (hr : Rd .u32 w B A c l) (hl : l.length ≤ 5000) (g : Nat) (hg : w.heap[g]? = some (.cells #[] 39 (0, 0))) (ty : TypeId) :
    ∃ A2 c2 w', (Builtin.append_ #[24, 24] ty #[.slice (some ⟨g, 0, none⟩) 0 0, .slice A l.length c]).run Try.prog w = .ok (.slice A2 l.length c2) w' ∧ w.grownBy w' (some g) ∧ Rd .u32 w' w'.heap.size A2 c2 l := by
  obtain ⟨i0, hi, hz0, hz1, hz2⟩ := info_parts info_u32
  rcases Nat.eq_zero_or_pos l.length with h0 | h0
  · obtain rfl := List.eq_nil_of_length_eq_zero h0
    have hs : Src Try.prog i0.size 24 (.slice A 0 c) 0 [] w := by
      rcases A with _ | a
      · exact Src.ofNil w Try.underlying24 c
      · exact Src.ofSlice w Try.underlying24 a 0 c [] (by simp) (fun j u h => by simp at h) (fun u h => by cases h)
    exact ⟨_, _, _, run_append_nothing w 24 24 ty 39 i0 Try.underlying24 hi _ 0 0 (Nat.le_refl _) _ hs, World.grownBy.refl w _, by simp, by omega, fun h => by simp at h⟩
  · obtain ⟨a, rfl, hnews⟩ := vals_from hr h0
    have hlt : g < w.heap.size := (Array.getElem?_eq_some_iff.1 hg).1
    obtain ⟨v', w', hrun, hown, hgr, _⟩ := run_append_own (P := Try.prog) w 0 24 ty 39 i0 (.int .u32 0) 1 4 Try.underlying24 hi hz0 hz1 hz2 rfl (by omega)
      (.slice (some ⟨g, 0, none⟩) 0 0) 0 [] ⟨rfl, .inr ⟨g, 0, #[], rfl, Nat.zero_le _, hg, Nat.le_refl _, Nat.zero_le _, rfl, rfl⟩⟩ a l.length c (vals l) (by rw [vals_length]; omega) hnews (vals_one l) (by simp [maxLen]; omega) (by omega) (Nat.zero_le _)
    obtain ⟨hlen, h1 | ⟨g', cap, cur, rfl, _, hcur, hle, hmax, hsz, htk⟩⟩ := hown
    · omega
    · rw [Nat.zero_add] at hrun hle htk
      rw [Nat.mul_one, List.nil_append] at htk
      refine ⟨_, _, w', hrun, hgr, hle, by simp only [maxLen] at hmax; omega, fun _ => ⟨g', 0, rfl, (Array.getElem?_eq_some_iff.1 hcur).1, fun i hi => ?_⟩⟩
      have e1 : w'.cell? ⟨g', 0 + i, none⟩ = cur[i]? := by rw [Nat.zero_add]; exact cell_of_row w' g' i cur 39 (0, 0) hcur
      rw [e1]
      have e2 : (vals l)[i]? = some (.int .u32 ((l.getD i 0 : Nat) : Int)) := by simp [vals, List.getD, hi]
      rw [← e2, ← htk, List.getElem?_take_of_lt hi, Array.getElem?_toList]

theorem wpList_copied (w : World) {ops : Array Oper} {rest : List Oper} {o : Oper} {a : Act} {Q : Exit → Act → World → Prop} (hgd : o.guard = none) (s x : Operand)
    (ho : o.op = .call { callee := .builtin .append, args := #[s, x], argTypes := #[24, 24] })
    (g : Nat) (B : Nat) (A : Option Addr) (c n : Nat) (l : List Nat) (hv : a.eval s = .slice (some ⟨g, 0, none⟩) 0 0) (hx : a.eval x = .slice A n c) (hn : l.length = n) (hr : Rd .u32 w B A c l) (hl : n ≤ 5000) (hg : w.heap[g]? = some (.cells #[] 39 (0, 0)))
    (hK : ∀ A2 c2 w', w.grownBy w' (some g) → Rd .u32 w' w'.heap.size A2 c2 l → wpList Try.prog ops Q rest (a.put o.dst (.slice A2 n c2)) w') : wpList Try.prog ops Q (o :: rest) a w := by
  subst hn
  refine wpList_plain hgd fun K hK' => ?_
  obtain ⟨A2, c2, w', hrun, h2, h3⟩ := run_copied hr hl g hg o.type
  unfold Oper.wp
  simp [execOp, ho, resolve, invoke, builtin, hv, hx, hrun, Result.andThen]
  exact hK' _ _ (hK A2 c2 w' h2 h3)

theorem div_all (w : World) (B B' : Nat) (A A' : Option Addr) (c c' : Nat) (l l' : List Nat) (hr : Rd .u32 w B A c l) (hr' : Rd .u32 w B' A' c' l') (hB : B ≤ w.heap.size) (hB' : B' ≤ w.heap.size) (hd : Dg l) (hd' : Dg l') (hs : l.length ≤ 4000) (hs' : l'.length ≤ 4000) :
    Calls Try.prog 27 #[.slice A l.length c, .slice A' l'.length c'] w fun e w' => ∃ A2 c2 q A3 c3 r b, e = .returned (.tuple #[.slice A2 q c2, .slice A3 r c3, .bool b]) ∧ (∃ L, L.length = r ∧ r ≤ 4000 ∧ Dg L ∧ Fresh .u32 39 w' w.heap.size A3 c3 L) ∧ Below w.heap.size w w' := by
  by_cases h0 : val l' = 0
  · refine (div_none w B B' A A' c c' l l' hr hr' ?_).mono ?_
    · have h1 : NumIs (trl l') 0 := num_trl hd' h0
      obtain h2 := num_one h1 num_nil
      rw [h2]; rfl
    · rintro e w' ⟨rfl, rfl⟩
      exact ⟨none, 0, 0, none, 0, 0, false, rfl, ⟨[], rfl, by omega, (fun x hx => by cases hx), fresh_nil _ _ _ _⟩, Below.refl _ _⟩
  · refine (div_any w B B' A A' c c' l l' hr hr' hB hB' hd hd' hs hs' h0).mono ?_
    rintro e w' ⟨A2, c2, q, A3, c3, r, rfl, hq, hrr, hf2, hf3, hb⟩
    exact ⟨_, _, _, _, _, _, _, rfl, ⟨r, rfl, Nat.le_trans (num_len' hrr (Nat.lt_of_le_of_lt (Nat.mod_le _ _) (val_lt hd))) hs, hrr.1, hf3⟩, hb⟩

set_option maxRecDepth 100000 in
theorem own_yes (w : World) (A A' : Option Addr) (c c' : Nat) (l l' : List Nat) (hra : Rd .u32 w w.heap.size A c l) (hrb : Rd .u32 w w.heap.size A' c' l') (hd : Dg l) (hd' : Dg l') (h1 : okN l = true) (h2 : okN l' = true) (h0 : ¬ 200 < l.length + l'.length) :
    Calls Try.prog 7 #[.slice A l.length c, .slice A' l'.length c'] w fun e w' => e = .returned (.bool true) ∧ Below w.heap.size w w' := by
  have hbel : Below w.heap.size w w := Below.refl _ _
  have hlen : ¬ (200 : Int) < (l.length : Int) + (l'.length : Int) := by omega
  go_enter Try.func7, Try.ntmps7
  go_wp2_with fail
  refine (is'_any w _ A c l hra true h1).mono ?_
  rintro e w1 ⟨rfl, rfl⟩
  go_wp2_with fail
  refine (is'_any w _ A' c' l' hrb true h2).mono ?_
  rintro e w1 ⟨rfl, rfl⟩
  have hbE : Below w.heap.size w (w.alloc (.cells #[] 39)) := (Below.refl _ _).alloc (Nat.le_refl _) _
  have hE : (w.alloc (.cells #[] 39)).heap[w.heap.size]? = some (.cells #[] 39 (0, 0)) := Holds.fresh w 39 #[]
  have HE := Lib.hid hE
  clear hE
  go_wp2_with (with_reducible refine wpList_copied _ rfl (.tmp 29) (.tmp 30) rfl w.heap.size w.heap.size A c l.length l rfl rfl rfl (hra.under hbE) ?hl HE.out ?hk)
  case hl => omega
  intro A1 c1 w2 hg1 hr1
  have hb1 : Below w.heap.size w w2 := hbE.trans (one_below hg1 (Nat.le_refl _) hbE.size)
  have hra1 := rd_next hra (Nat.le_refl _) hb1
  have hrb1 := rd_next hrb (Nat.le_refl _) hb1
  clear HE hbE hg1 hra hrb
  have hbE : Below w2.heap.size w2 (w2.alloc (.cells #[] 39)) := (Below.refl _ _).alloc (Nat.le_refl _) _
  have hE : (w2.alloc (.cells #[] 39)).heap[w2.heap.size]? = some (.cells #[] 39 (0, 0)) := Holds.fresh w2 39 #[]
  have HE := Lib.hid hE
  clear hE
  go_wp2_with (with_reducible refine wpList_copied _ rfl (.tmp 32) (.tmp 33) rfl w2.heap.size w2.heap.size A' c' l'.length l' rfl rfl rfl (hrb1.under hbE) ?hl2 HE.out ?hk2)
  case hl2 => omega
  intro A2 c2 w3 hg2 hr2
  have hb2 : Below w2.heap.size w2 w3 := hbE.trans (one_below hg2 (Nat.le_refl _) hbE.size)
  have ha0 := rd_next hra1 (Nat.le_refl _) hb2
  have hb0 := rd_next hrb1 (Nat.le_refl _) hb2
  have hx0 := rd_next hr1 (Nat.le_refl _) hb2
  have hy0 := hr2
  have hbel := hb1.trans (hb2.mono hb1.size)
  clear HE hbE hg2 hra1 hrb1 hr1 hr2 hb1 hb2
  have hL : l.length ≤ 200 ∧ l'.length ≤ 200 := by omega
  go_wp2_with fail
  refine (add_any w3 _ _ A1 A2 c1 c2 l l' hx0 hy0 (Nat.le_refl _) (Nat.le_refl _) hd hd' (by omega) (by omega)).mono ?_
  rintro e w4 ⟨As, cs, s, rfl, hns, hfs, hb4⟩
  have hss : s.length ≤ 201 := num_len' hns (sum_lt hd hd' hL.1 hL.2)
  go_wp2_with fail
  refine (mul_any w4 _ _ A1 A2 c1 c2 l l' (hx0.under hb4) (hy0.under hb4) hb4.size hb4.size hd hd' (by omega) (by omega)).mono ?_
  rintro e w5 ⟨Am, cm, rm, rfl, hnm, hfm, hb5⟩
  have hb05 := hb4.trans (hb5.mono hb4.size)
  go_wp2_with fail
  refine (sub_all w5 _ _ A1 A2 c1 c2 l l' (hx0.under hb05) (hy0.under hb05) hb05.size hb05.size hd hd' (by omega) (by omega) _ rfl).mono ?_
  rintro e w6 ⟨Ad, cd, rd, rfl, hnd, hfd, hb6⟩
  have hb06 := hb05.trans (hb6.mono hb05.size)
  generalize decide (val l' ≤ val l) = vd
  go_wp2_with fail
  refine (div_all w6 _ _ A1 A2 c1 c2 l l' (hx0.under hb06) (hy0.under hb06) hb06.size hb06.size hd hd' (by omega) (by omega)).mono ?_
  rintro e w7 ⟨Aq, cq, nq, Ar, cr, nr, vb, rfl, ⟨r, hrn, hnr, hdr, hfr⟩, hb7⟩
  have hb07 := hb06.trans (hb7.mono hb06.size)
  have hfs2 : 0 < s.length → ∃ g L, As = some ⟨g, 0, none⟩ ∧ w3.heap.size ≤ g ∧ g < w6.heap.size ∧ Row .u32 39 w7 g L ∧ s.length ≤ L.length := fun h => by
    obtain ⟨g, L, h1, h2, h3, h4⟩ := hfs.2 h
    have h5 := Holds.lt h3
    have h6 := Holds.under h3 hb5 h5
    have h7 := Holds.under h6 hb6 (Holds.lt h6)
    have h8 := Holds.under h7 hb7 (Holds.lt h7)
    refine ⟨g, L, h1, h2, Holds.lt h7, h8, ?_⟩
    rw [h4, List.length_take]
    exact Nat.min_le_right _ _
  have hsc : s.length ≤ cs ∧ cs ≤ 9223372036854775807 := ⟨hfs.1.1, hfs.1.2.1⟩
  have hrc : nr ≤ cr ∧ cr ≤ 9223372036854775807 := ⟨by have := hfr.1.1; omega, hfr.1.2.1⟩
  have hfr2 : 0 < nr → ∃ g L, Ar = some ⟨g, 0, none⟩ ∧ w6.heap.size ≤ g ∧ Row .u32 39 w7 g L ∧ nr ≤ L.length := fun h => by
    obtain ⟨g, L, h1, h2, h3, h4⟩ := hfr.2 (by omega)
    refine ⟨g, L, h1, h2, h3, ?_⟩
    rw [← hrn, h4, List.length_take]
    exact Nat.min_le_right _ _
  have H607 := Lib.hid (⟨hb06, hb07⟩ : _ ∧ _)
  clear hfs hns hfm hnm hfd hnd hfr hdr hb4 hb5 hb6 hb7 hb05 hb06 hb07 hrn
  generalize s.length = ns at *
  rcases Nat.eq_zero_or_pos ns with hns | hns
  · subst hns
    clear hfs2
    rcases Nat.eq_zero_or_pos nr with hnr0 | hnr0
    · subst hnr0
      clear hfr2
      have hbr := H607.out.2
      go_wp2_with fail
      go_loopw [11] (fun si wzs => si = .int .i64 0 ∧ w7 = wzs) (fun _ _ => 0)
      case atStart => exact ⟨rfl, rfl⟩
      case round =>
        obtain ⟨rfl, rfl⟩ := hrel
        go_wp2_with fail
        go_loopw [12] (fun si wzr => si = .int .i64 0 ∧ w7 = wzr) (fun _ _ => 0)
        case atStart => exact ⟨rfl, rfl⟩
        case round =>
          obtain ⟨rfl, rfl⟩ := hrel
          go_wp2_with fail
          refine (same_one _ _ _ A1 A c1 c l (hx0.under hbr) (ha0.under hbr)).mono ?_
          rintro e we ⟨rfl, q, rfl⟩
          have hbr := below_drewN hbr q
          go_wp2_with fail
          refine (same_one _ _ _ A2 A' c2 c' l' (hy0.under hbr) (hb0.under hbr)).mono ?_
          rintro e wf ⟨rfl, q2, rfl⟩
          have hbr := below_drewN hbr q2
          rw [World.drewN_drewN] at hbr
          go_wp2_with fail
          refine (known_any _).mono ?_
          rintro e wk ⟨rfl, hbk⟩
          go_wp2_with fail
          go_ret
          exact ⟨rfl, hbel.trans ((hbr.trans (hbk.mono hbr.size)).mono hbel.size)⟩
    · obtain ⟨gr, Lr, rfl, hgr6, hRr, hlr⟩ := hfr2 hnr0
      have hgr3 : w3.heap.size ≤ gr := Nat.le_trans H607.out.1.size hgr6
      have hbr := H607.out.2
      go_wp2_with fail
      go_loopw [11] (fun si wzs => si = .int .i64 0 ∧ w7 = wzs) (fun _ _ => 0)
      case atStart => exact ⟨rfl, rfl⟩
      case round =>
        obtain ⟨rfl, rfl⟩ := hrel
        go_wp2_with fail
        go_loopw [12] (fun si wxr => ∃ (i : Nat) (L2 : List Nat), i ≤ nr ∧ si = .int .i64 i ∧ L2.length = Lr.length ∧ Row .u32 39 wxr gr L2 ∧ w7.grownBy wxr (some gr))
          (fun si _ => nr - (intOf si).toNat)
        case atStart => exact ⟨0, Lr, Nat.zero_le _, rfl, rfl, hRr, World.grownBy.refl _ _⟩
        case round =>
          obtain ⟨i, L2, hi, rfl, hL2, hR2, hgrr⟩ := hrel
          have HL2 := Lib.hid hL2
          clear hL2
          by_cases hr : i < nr
          · have hcell := hR2.cell (i := i) (by rw [HL2.out]; omega)
            obtain ⟨x, Hx⟩ : ∃ x, Hid (x = L2.getD i 0) := ⟨_, rfl⟩
            rw [← Hx.out] at hcell
            have hfr2 := hR2.open_
            have hz2 := Holds.lt hR2
            go_wp2_with fail
            have hst := hR2.set i ((x + 1) % 4294967296)
            exact ⟨⟨i + 1, _, by omega, by go_num, by rw [List.length_set]; exact HL2.out, hst, one_setCell hgrr _ _⟩, by simp [intOf]; omega⟩
          · clear HL2
            have hbr := hbr.trans (one_below hgrr hgr3 hbr.size)
            clear hRr
            go_wp2_with fail
            refine (same_one _ _ _ A1 A c1 c l (hx0.under hbr) (ha0.under hbr)).mono ?_
            rintro e we ⟨rfl, q, rfl⟩
            have hbr := below_drewN hbr q
            go_wp2_with fail
            refine (same_one _ _ _ A2 A' c2 c' l' (hy0.under hbr) (hb0.under hbr)).mono ?_
            rintro e wf ⟨rfl, q2, rfl⟩
            have hbr := below_drewN hbr q2
            rw [World.drewN_drewN] at hbr
            go_wp2_with fail
            refine (known_any _).mono ?_
            rintro e wk ⟨rfl, hbk⟩
            go_wp2_with fail
            go_ret
            exact ⟨rfl, hbel.trans ((hbr.trans (hbk.mono hbr.size)).mono hbel.size)⟩
  · obtain ⟨gs, Ls, rfl, hgs3, hgs6, hRs, hls⟩ := hfs2 hns
    rcases Nat.eq_zero_or_pos nr with hnr0 | hnr0
    · subst hnr0
      clear hfr2
      have hbr := H607.out.2
      go_wp2_with fail
      go_loopw [11] (fun si wxs => ∃ (i : Nat) (L2 : List Nat), i ≤ ns ∧ si = .int .i64 i ∧ L2.length = Ls.length ∧ Row .u32 39 wxs gs L2 ∧ w7.grownBy wxs (some gs))
        (fun si _ => ns - (intOf si).toNat)
      case atStart => exact ⟨0, Ls, Nat.zero_le _, rfl, rfl, hRs, World.grownBy.refl _ _⟩
      case round =>
        obtain ⟨i, L2, hi, rfl, hL2, hR2, hgrs⟩ := hrel
        have HL2 := Lib.hid hL2
        clear hL2
        by_cases hs : i < ns
        · have hcell := hR2.cell (i := i) (by rw [HL2.out]; omega)
          obtain ⟨x, Hx⟩ : ∃ x, Hid (x = L2.getD i 0) := ⟨_, rfl⟩
          rw [← Hx.out] at hcell
          have hfr2 := hR2.open_
          have hz2 := Holds.lt hR2
          go_wp2_with fail
          have hst := hR2.set i ((x + 1) % 4294967296)
          exact ⟨⟨i + 1, _, by omega, by go_num, by rw [List.length_set]; exact HL2.out, hst, one_setCell hgrs _ _⟩, by simp [intOf]; omega⟩
        · clear HL2
          obtain ⟨wxs, hwx⟩ : ∃ W, W = wr := ⟨_, rfl⟩
          subst hwx
          have hbr := hbr.trans (one_below hgrs hgs3 hbr.size)
          clear hRs
          go_wp2_with fail
          go_loopw [12] (fun si wzr => si = .int .i64 0 ∧ wxs = wzr) (fun _ _ => 0)
          case atStart => exact ⟨rfl, rfl⟩
          case round =>
            obtain ⟨rfl, rfl⟩ := hrel
            go_wp2_with fail
            refine (same_one _ _ _ A1 A c1 c l (hx0.under hbr) (ha0.under hbr)).mono ?_
            rintro e we ⟨rfl, q, rfl⟩
            have hbr := below_drewN hbr q
            go_wp2_with fail
            refine (same_one _ _ _ A2 A' c2 c' l' (hy0.under hbr) (hb0.under hbr)).mono ?_
            rintro e wf ⟨rfl, q2, rfl⟩
            have hbr := below_drewN hbr q2
            rw [World.drewN_drewN] at hbr
            go_wp2_with fail
            refine (known_any _).mono ?_
            rintro e wk ⟨rfl, hbk⟩
            go_wp2_with fail
            go_ret
            exact ⟨rfl, hbel.trans ((hbr.trans (hbk.mono hbr.size)).mono hbel.size)⟩
    · obtain ⟨gr, Lr, rfl, hgr6, hRr, hlr⟩ := hfr2 hnr0
      have hgr3 : w3.heap.size ≤ gr := Nat.le_trans H607.out.1.size hgr6
      have hbr := H607.out.2
      go_wp2_with fail
      go_loopw [11] (fun si wxs => ∃ (i : Nat) (L2 : List Nat), i ≤ ns ∧ si = .int .i64 i ∧ L2.length = Ls.length ∧ Row .u32 39 wxs gs L2 ∧ w7.grownBy wxs (some gs))
        (fun si _ => ns - (intOf si).toNat)
      case atStart => exact ⟨0, Ls, Nat.zero_le _, rfl, rfl, hRs, World.grownBy.refl _ _⟩
      case round =>
        obtain ⟨i, L2, hi, rfl, hL2, hR2, hgrs⟩ := hrel
        have HL2 := Lib.hid hL2
        clear hL2
        by_cases hs : i < ns
        · have hcell := hR2.cell (i := i) (by rw [HL2.out]; omega)
          obtain ⟨x, Hx⟩ : ∃ x, Hid (x = L2.getD i 0) := ⟨_, rfl⟩
          rw [← Hx.out] at hcell
          have hfr2 := hR2.open_
          have hz2 := Holds.lt hR2
          go_wp2_with fail
          have hst := hR2.set i ((x + 1) % 4294967296)
          exact ⟨⟨i + 1, _, by omega, by go_num, by rw [List.length_set]; exact HL2.out, hst, one_setCell hgrs _ _⟩, by simp [intOf]; omega⟩
        · clear HL2
          obtain ⟨wxs, hwx⟩ : ∃ W, W = wr := ⟨_, rfl⟩
          subst hwx
          have hbr := hbr.trans (one_below hgrs hgs3 hbr.size)
          have hRr := Holds.grown hRr hgrs (by intro he; injection he with he; omega)
          clear hRs
          go_wp2_with fail
          go_loopw [12] (fun si wxr => ∃ (i : Nat) (L2 : List Nat), i ≤ nr ∧ si = .int .i64 i ∧ L2.length = Lr.length ∧ Row .u32 39 wxr gr L2 ∧ wxs.grownBy wxr (some gr))
            (fun si _ => nr - (intOf si).toNat)
          case atStart => exact ⟨0, Lr, Nat.zero_le _, rfl, rfl, hRr, World.grownBy.refl _ _⟩
          case round =>
            obtain ⟨i, L2, hi, rfl, hL2, hR2, hgrr⟩ := hrel
            have HL2 := Lib.hid hL2
            clear hL2
            by_cases hr : i < nr
            · have hcell := hR2.cell (i := i) (by rw [HL2.out]; omega)
              obtain ⟨x, Hx⟩ : ∃ x, Hid (x = L2.getD i 0) := ⟨_, rfl⟩
              rw [← Hx.out] at hcell
              have hfr2 := hR2.open_
              have hz2 := Holds.lt hR2
              go_wp2_with fail
              have hst := hR2.set i ((x + 1) % 4294967296)
              exact ⟨⟨i + 1, _, by omega, by go_num, by rw [List.length_set]; exact HL2.out, hst, one_setCell hgrr _ _⟩, by simp [intOf]; omega⟩
            · clear HL2
              have hbr := hbr.trans (one_below hgrr hgr3 hbr.size)
              clear hRr
              go_wp2_with fail
              refine (same_one _ _ _ A1 A c1 c l (hx0.under hbr) (ha0.under hbr)).mono ?_
              rintro e we ⟨rfl, q, rfl⟩
              have hbr := below_drewN hbr q
              go_wp2_with fail
              refine (same_one _ _ _ A2 A' c2 c' l' (hy0.under hbr) (hb0.under hbr)).mono ?_
              rintro e wf ⟨rfl, q2, rfl⟩
              have hbr := below_drewN hbr q2
              rw [World.drewN_drewN] at hbr
              go_wp2_with fail
              refine (known_any _).mono ?_
              rintro e wk ⟨rfl, hbk⟩
              go_wp2_with fail
              go_ret
              exact ⟨rfl, hbel.trans ((hbr.trans (hbk.mono hbr.size)).mono hbel.size)⟩

set_option maxRecDepth 100000 in
theorem law_own (w : World) (A A' : Option Addr) (c c' : Nat) (l l' : List Nat) (hra : Rd .u32 w w.heap.size A c l) (hrb : Rd .u32 w w.heap.size A' c' l') (hd : Dg l) (hd' : Dg l') :
    Calls Try.prog 7 #[.slice A l.length c, .slice A' l'.length c'] w fun e w' => e = .returned (.bool true) ∧ Below w.heap.size w w' := by
  have hbel : Below w.heap.size w w := Below.refl _ _
  rcases h1 : okN l with _ | _
  · go_enter Try.func7, Try.ntmps7
    go_wp2_with fail
    refine (is'_any w _ A c l hra false h1).mono ?_
    rintro e w1 ⟨rfl, rfl⟩
    go_wp2_with fail
    go_ret
    exact ⟨rfl, hbel⟩
  · rcases h2 : okN l' with _ | _
    · go_enter Try.func7, Try.ntmps7
      go_wp2_with fail
      refine (is'_any w _ A c l hra true h1).mono ?_
      rintro e w1 ⟨rfl, rfl⟩
      go_wp2_with fail
      refine (is'_any w _ A' c' l' hrb false h2).mono ?_
      rintro e w1 ⟨rfl, rfl⟩
      go_wp2_with fail
      go_ret
      exact ⟨rfl, hbel⟩
    · by_cases h0 : 200 < l.length + l'.length
      · have hlen : (200 : Int) < (l.length : Int) + (l'.length : Int) := by omega
        have hla := (okN_nrm h1).1
        have hlb := (okN_nrm h2).1
        go_enter Try.func7, Try.ntmps7
        go_wp2_with fail
        refine (is'_any w _ A c l hra true h1).mono ?_
        rintro e w1 ⟨rfl, rfl⟩
        go_wp2_with fail
        refine (is'_any w _ A' c' l' hrb true h2).mono ?_
        rintro e w1 ⟨rfl, rfl⟩
        go_wp2_with fail
        go_ret
        exact ⟨rfl, hbel⟩
      · exact own_yes w A A' c c' l l' hra hrb hd hd' h1 h2 h0
end Go.Proofs.Yteamkobemmocfaa
