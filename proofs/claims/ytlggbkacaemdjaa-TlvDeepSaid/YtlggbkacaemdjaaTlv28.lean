/-
  A thing's bytes, whatever it is: by the law.
-/
import Derived.Test.YtlggbkacaemdjaaTlv27
namespace Go.Proofs.Ytlggbkacaemdjaa
open Go.RowKit
set_option linter.unusedVariables false
set_option linter.unusedSimpArgs false

theorem Mine.freshL (w : World) (B : Nat) (l : List Nat) (hB : B ≤ w.heap.size) (hl : l.length ≤ 100) : Mine 5 (w.alloc (.cells (nums .u8 l) 5)) B (some ⟨w.heap.size, 0, none⟩) l.length l :=
  .inr ⟨w.heap.size, 0, nums .u8 l, rfl, hB, Holds.fresh w _ _, Nat.le_refl _, by omega, by rw [nums_size]; omega, fun j hj => by rw [Nat.zero_add]; exact nums_at .u8 l hj⟩
theorem lenB_mid {m : Nat} (h1 : 128 ≤ m) (h2 : m < 256) : lenB m = [129, m] := by
  unfold lenB
  rw [if_neg (by omega)]
  have e : dig 6 m = [m] := by
    rw [dig, if_neg (by omega), show m / 256 = 0 by omega, dig_zero, show m % 256 = m by omega]; rfl
  rw [e]; rfl
theorem lenB_far {m : Nat} (h1 : 256 ≤ m) (h2 : m < 65536) : lenB m = [130, m / 256, m % 256] := by
  unfold lenB
  rw [if_neg (by omega)]
  have e : dig 6 m = [m / 256, m % 256] := by
    rw [dig, if_neg (by omega), dig, if_neg (by omega), show m / 256 / 256 = 0 by omega, dig_zero, show m / 256 % 256 = m / 256 by omega]; rfl
  rw [e]; rfl
set_option maxRecDepth 100000 in
set_option maxHeartbeats 600000 in
theorem raw_N : ∀ (N : Nat) (t : Lt) (w : World) (B : Nat), t.sz < N → TrAt w B t → B ≤ w.heap.size → t.t.enc.length ≤ 60000 →
    Calls Try.prog 20 #[t.val] w fun e w' => ∃ A c, e = .returned (.slice A t.t.enc.length c) ∧ Mine 5 w' w.heap.size A c t.t.enc ∧ Below w.heap.size w w' := by
  intro N
  induction N with
  | zero => intro t w B h; omega
  | succ N ih =>
    intro t w B hN hr hB hmx
    obtain ⟨tag, ba, bc, body, ka, kc, kids⟩ := t
    rw [trAt_mk] at hr
    obtain ⟨_, hbody, _, hrow, hkids⟩ := hr
    rw [Lt.t_mk] at hmx ⊢
    obtain ⟨n, hn⟩ : ∃ n, kids.length = n := ⟨_, rfl⟩
    obtain ⟨bl, hbl⟩ : ∃ n, body.length = n := ⟨_, rfl⟩
    obtain ⟨L, hL⟩ : ∃ L, kids.map Lt.t = L := ⟨_, rfl⟩
    have hLn : L.length = n := by rw [← hL, List.length_map, hn]
    rw [hL] at hmx ⊢
    have hmx2 : bl + (Tr.encs L).length ≤ 60000 := by
      rw [Tr.enc] at hmx
      simp only [List.length_cons, List.length_append] at hmx
      omega
    have HENC : Hid ((Tr.mk tag body L).enc = [tag] ++ lenB (bl + (Tr.encs L).length) ++ (body ++ Tr.encs L)) := Lib.hid (by rw [Tr.enc, hbl]; simp)
    have HMX := Lib.hid hmx2
    have HLN := Lib.hid hLn
    have hlc : n ≤ kc := by have := hrow.1; omega
    have hc63 := hrow.2.1
    have hblc : bl ≤ bc := by have := hbody.1; omega
    have hbc63 := hbody.2.1
    have HROW : Hid (∀ W, Below w.heap.size w W → RowT W B ka kc kids) := Lib.hid fun W hW => hrow.under (hW.mono hB)
    have HIH : Hid (∀ k, k < n → ∀ W, Below w.heap.size w W → Calls Try.prog 20 #[(kids.getD k default).val] W fun e w' => ∃ A c, e = .returned (.slice A (L.getD k default).enc.length c) ∧ Rd .u8 w' w'.heap.size A c (L.getD k default).enc ∧ Below W.heap.size W w') := Lib.hid fun k hk W hW => by
      have e : (L.getD k default) = (kids.getD k default).t := by rw [← hL, Lt.ts_at (by omega)]
      rw [e]
      refine (ih _ W B ?_ ((hkids k (by omega)).under' (hW.mono hB)) (by have := hW.size; omega) ?_).mono fun _ _ ⟨A, c, h1, h2, h3⟩ => ⟨A, c, h1, h2.rd, h3⟩
      · have := lt_kid (tag := tag) (ba := ba) (bc := bc) (body := body) (ka := ka) (kc := kc) (kids := kids) (j := k) (by omega)
        omega
      · have h1 := Tr.enc_kid (l := L) (k := k) (by omega)
        rw [e] at h1
        omega
    have HN2 := Lib.hid hn
    have HBL := Lib.hid hbl
    have hval : (Lt.mk tag ba bc body ka kc kids).val = .agg #[.int .u8 (tag : Int), .slice ba bl bc, .slice ka n kc] := by rw [← hn, ← hbl]; rfl
    rw [hval]
    obtain ⟨W1, hW1⟩ : ∃ W1, (w.alloc (.cells #[.int .u8 (tag : Int), .slice ba bl bc, .slice ka n kc] 25)) = W1 := ⟨_, rfl⟩
    have hs1 : W1.heap.size = w.heap.size + 1 := by rw [← hW1]; exact World.size_alloc _ _
    have hq1 : Below w.heap.size w W1 := by rw [← hW1]; exact (Below.refl _ _).alloc (Nat.le_refl _) _
    have hb1 : Holds W1 w.heap.size 25 #[.int .u8 (tag : Int), .slice ba bl bc, .slice ka n kc] := by rw [← hW1]; exact Holds.fresh _ _ _
    have hM0 : Hid (Mine 5 (W1.alloc (.cells #[] 5)) (w.heap.size + 1) (some ⟨w.heap.size + 1, 0, none⟩) 0 []) := Lib.hid (by rw [← hs1]; exact Mine.fresh0 W1 _ (Nat.le_refl _))
    have hQ0 : Hid (Below w.heap.size w (W1.alloc (.cells #[] 5))) := Lib.hid (hq1.alloc hq1.size _)
    have hB0 : Hid (Holds (W1.alloc (.cells #[] 5)) w.heap.size 25 #[.int .u8 (tag : Int), .slice ba bl bc, .slice ka n kc]) := Lib.hid (hb1.alloc _)
    have hR0 : Hid (Rd .u8 (W1.alloc (.cells #[] 5)) B ba bc body) := Lib.hid (hbody.under (hQ0.out.mono hB))
    rw [← hW1] at hM0 hQ0 hB0 hR0
    have z1 : ((w.alloc (.cells #[.int .u8 (tag : Int), .slice ba bl bc, .slice ka n kc] 25)).alloc (.cells #[] 5)).cell? ⟨w.heap.size, 1, none⟩ = some (.slice ba bl bc) := hB0.out.cell 1
    have e1 : (w.alloc (.cells #[.int .u8 (tag : Int), .slice ba bl bc, .slice ka n kc] 25)).heap.size = w.heap.size + 1 := World.size_alloc _ _
    have hblm : bl ≤ 60000 := by omega
    clear hN ih hrow hkids hmx hmx2 hLn hL hval hn hbl hbody hq1 hb1 hs1 hW1
    go_enter Try.func20, Try.ntmps20
    go_wp2_with (first | (at_builtin; refine wpList_mine (B := w.heap.size + 1) (l := []) _ rfl (.tmp 5) (.tmp 7) 22 rfl 5 Try.underlying22 info_u8 rfl hM0.out rfl rfl hR0.out HBL.out (by simp) (by omega) ?_; intro A5 c5 W5 hm5 hg5 hat5))
    rw [List.nil_append] at hm5
    have hQ5 : Hid (Below w.heap.size w W5) := Lib.hid (hQ0.out.trans (below_mine hM0.out hg5 hQ0.out.size))
    have hB5 : Hid (Holds W5 w.heap.size 25 #[.int .u8 (tag : Int), .slice ba bl bc, .slice ka n kc]) := Lib.hid (holds_mine hB0.out hM0.out hg5)
    have hM5 := Lib.hid hm5
    clear hm5 hg5 hat5 hM0 hQ0 hB0 hR0 z1 e1
    try rw [Nat.zero_add]
    go_loopw [3, 4] (fun v i wr => RelE w #[.int .u8 (tag : Int), .slice ba bl bc, .slice ka n kc] body L n v i wr) (fun v i _ => n - (intOf i).toNat)
    case atStart => exact ⟨0, _, _, bl, Nat.zero_le _, rfl, rfl, Lib.hid (by simp [Tr.encs, HBL.out]), by simpa [Tr.encs] using hM5, hQ5, hB5⟩
    case round =>
      clear hM5 hQ5 hB5
      obtain ⟨k, A', c', m, hk, rfl, rfl, HL, HM, HQ, HB⟩ := hrel
      obtain ⟨V, hV⟩ : ∃ V, V = wr := ⟨_, rfl⟩
      subst hV
      have z2 : V.cell? ⟨w.heap.size, 2, none⟩ = some (.slice ka n kc) := HB.out.cell 2
      have hmle : m ≤ 60000 := by
        have h1 := HL.out
        have h2 := Tr.encs_le L k
        have := HMX.out
        rw [List.length_append, HBL.out] at h1
        omega
      by_cases hkn : k < n
      case pos =>
        have hkI : (k : Int) < (n : Int) := by omega
        have hk0 : (0 : Int) ≤ (k : Int) := by omega
        obtain ⟨b, off, rfl, hb, hcs⟩ := (HROW.out V HQ.out).2.2 (by have := HN2.out; omega)
        obtain ⟨q0, q1, q2⟩ := hcs k (by have := HN2.out; omega)
        have HC := Lib.hid (HIH.out k hkn V HQ.out)
        have HEM : Hid (body ++ Tr.encs (L.take (k + 1)) = body ++ Tr.encs (L.take k) ++ (L.getD k default).enc ∧ (L.getD k default).enc.length ≤ 60000) := Lib.hid (by
          rw [Tr.encs_more (by have := HLN.out; omega), List.append_assoc]
          have := Tr.enc_kid (l := L) (k := k) (by have := HLN.out; omega)
          have := HMX.out
          exact ⟨rfl, by omega⟩)
        rw [show (kids.getD k default).val = .agg #[.int .u8 ((kids.getD k default).tag : Int), .slice (kids.getD k default).ba (kids.getD k default).body.length (kids.getD k default).bc, .slice (kids.getD k default).ka (kids.getD k default).kids.length (kids.getD k default).kc] from rfl] at HC
        clear hcs
        generalize (kids.getD k default).tag = dt at *
        generalize (kids.getD k default).ba = dba at *
        generalize (kids.getD k default).bc = dbc at *
        generalize (kids.getD k default).body.length = dbl at *
        generalize (kids.getD k default).ka = dka at *
        generalize (kids.getD k default).kids.length = dkl at *
        generalize (kids.getD k default).kc = dkc at *
        generalize (L.getD k default).enc = y at *
        go_wp2_with fail
        refine HC.out.mono ?_
        rintro e w2 ⟨A2, c2, rfl, hr2, hb2⟩
        have HQ2 : Hid (Below w.heap.size w w2) := Lib.hid (HQ.out.trans (hb2.mono HQ.out.size))
        have HB2 := Lib.hid (HB.out.under hb2 HB.out.lt)
        have HM2 := Lib.hid (HM.out.under hb2)
        have HR2 := Lib.hid hr2
        have hyl : y.length ≤ 60000 := HEM.out.2
        have hs2 : w.heap.size + 1 ≤ w2.heap.size := HB2.out.lt
        obtain ⟨yl, hyl0⟩ : ∃ n, y.length = n := ⟨_, rfl⟩
        have HYL := Lib.hid hyl0
        rw [hyl0] at hyl ⊢
        clear hb2 HC q0 q1 q2 z2 hr2 hyl0
        go_wp2_with (first | (at_builtin; refine wpList_mine (B := w.heap.size + 1) _ rfl (.tmp 16) (.tmp 22) 22 rfl 5 Try.underlying22 info_u8 rfl HM2.out HL.out rfl HR2.out HYL.out hs2 (by omega) ?_; intro A5 c5 W5 hm5 hg5 hat5))
        have HQ5 : Hid (Below w.heap.size w W5) := Lib.hid (HQ2.out.trans (below_mine HM2.out hg5 HQ2.out.size))
        have HB5 : Hid (Holds W5 w.heap.size 25 _) := Lib.hid (holds_mine HB2.out HM2.out hg5)
        have HM5 : Hid (Mine 5 W5 (w.heap.size + 1) A5 c5 (body ++ Tr.encs (L.take (k + 1)))) := Lib.hid (by rw [HEM.out.1]; exact hm5)
        clear hm5 hg5 hat5
        go_wp2_with fail
        go_roundw
        case rel => exact ⟨k + 1, _, _, m + yl, by omega, by go_num, rfl, Lib.hid (by rw [HEM.out.1, List.length_append, HL.out, HYL.out]), HM5, HQ5, HB5⟩
        case measure => simp [intOf]; omega
      case neg =>
        obtain rfl : k = n := by omega
        have hkI : ¬ ((k : Int) < (k : Int)) := by omega
        have z0 : V.cell? ⟨w.heap.size, 0, none⟩ = some (.int .u8 (tag : Int)) := HB.out.cell 0
        have HE : Hid (Tr.encs (L.take k) = Tr.encs L) := Lib.hid (by rw [List.take_of_length_le (by have := HLN.out; omega)])
        have HL2 : Hid ((body ++ Tr.encs L).length = m) := Lib.hid (by have := HL.out; rw [HE.out] at this; exact this)
        have HM2 : Hid (Mine 5 V (w.heap.size + 1) A' c' (body ++ Tr.encs L)) := Lib.hid (by have := HM.out; rw [HE.out] at this; exact this)
        have HENC2 : Hid ((Tr.mk tag body L).enc = [tag] ++ lenB m ++ (body ++ Tr.encs L)) := Lib.hid (by
          have h := HL2.out
          rw [List.length_append, HBL.out] at h
          rw [HENC.out, h])
        clear HL HM HENC HE
        have HBV : Hid (w.heap.size + 1 ≤ V.heap.size) := Lib.hid HB.out.lt
        by_cases h128 : m < 128
        case pos =>
          have d1 : decide ((m : Int) < 128) = true := decide_eq_true (by omega)
          have hw : IntKind.u8.wrap (m : Int) = (m : Int) := by simp [IntKind.wrap, IntKind.signed, IntKind.bits]; omega
          have HX1 : Hid (Mine 5 (V.alloc (.cells #[.int .u8 (tag : Int), .int .u8 (m : Int)] 5)) (w.heap.size + 1) (some ⟨V.heap.size, 0, none⟩) 2 [tag, m]) := Lib.hid (Mine.freshL V _ [tag, m] HBV.out (by simp))
          have HX2 : Hid (Rd .u8 (V.alloc (.cells #[.int .u8 (tag : Int), .int .u8 (m : Int)] 5)) V.heap.size A' c' (body ++ Tr.encs L)) := Lib.hid (HM2.out.rd.alloc (Nat.le_refl _) _)
          have HX3 : Hid (Below w.heap.size w (V.alloc (.cells #[.int .u8 (tag : Int), .int .u8 (m : Int)] 5))) := Lib.hid (HQ.out.alloc HQ.out.size _)
          have HX4 : Hid (w.heap.size + 1 ≤ (V.alloc (.cells #[.int .u8 (tag : Int), .int .u8 (m : Int)] 5)).heap.size) := Lib.hid (by have := HBV.out; simp; omega)
          go_wp2_with (first | (at_builtin; refine wpList_mine (B := w.heap.size + 1) (B2 := V.heap.size) _ rfl (.tmp 33) (.tmp 34) 22 rfl 5 Try.underlying22 info_u8 rfl HX1.out rfl rfl HX2.out HL2.out HX4.out (by omega) ?_; intro A5 c5 W5 hm5 hg5 hat5))
          have HE2 : Hid ((Tr.mk tag body L).enc = [tag, m] ++ (body ++ Tr.encs L)) := Lib.hid (by rw [HENC2.out, show lenB m = [m] by unfold lenB; rw [if_pos h128]]; rfl)
          have hfin : Below w.heap.size w W5 := HX3.out.trans (below_mine HX1.out hg5 HX3.out.size)
          have HFIN := Lib.hid hfin
          have HM5 := Lib.hid hm5
          clear hfin hm5 hg5 hat5
          go_wp2_with fail
          go_ret
          refine ⟨A5, c5, ?_, by rw [HE2.out]; exact HM5.out.less (by omega), HFIN.out⟩
          rw [HE2.out, List.length_append, HL2.out]
          rfl
        have d1 : decide ((m : Int) < 128) = false := decide_eq_false (by omega)
        by_cases h256 : m < 256
        case pos =>
          have d2 : decide ((m : Int) < 256) = true := decide_eq_true (by omega)
          have hw : IntKind.u8.wrap (m : Int) = (m : Int) := by simp [IntKind.wrap, IntKind.signed, IntKind.bits]; omega
          have HX1 : Hid (Mine 5 (V.alloc (.cells #[.int .u8 (tag : Int), .int .u8 129, .int .u8 (m : Int)] 5)) (w.heap.size + 1) (some ⟨V.heap.size, 0, none⟩) 3 [tag, 129, m]) := Lib.hid (Mine.freshL V _ [tag, 129, m] HBV.out (by simp))
          have HX2 : Hid (Rd .u8 (V.alloc (.cells #[.int .u8 (tag : Int), .int .u8 129, .int .u8 (m : Int)] 5)) V.heap.size A' c' (body ++ Tr.encs L)) := Lib.hid (HM2.out.rd.alloc (Nat.le_refl _) _)
          have HX3 : Hid (Below w.heap.size w (V.alloc (.cells #[.int .u8 (tag : Int), .int .u8 129, .int .u8 (m : Int)] 5))) := Lib.hid (HQ.out.alloc HQ.out.size _)
          have HX4 : Hid (w.heap.size + 1 ≤ (V.alloc (.cells #[.int .u8 (tag : Int), .int .u8 129, .int .u8 (m : Int)] 5)).heap.size) := Lib.hid (by have := HBV.out; simp; omega)
          go_wp2_with (first | (at_builtin; refine wpList_mine (B := w.heap.size + 1) (B2 := V.heap.size) _ rfl (.tmp 45) (.tmp 46) 22 rfl 5 Try.underlying22 info_u8 rfl HX1.out rfl rfl HX2.out HL2.out HX4.out (by omega) ?_; intro A5 c5 W5 hm5 hg5 hat5))
          have HE2 : Hid ((Tr.mk tag body L).enc = [tag, 129, m] ++ (body ++ Tr.encs L)) := Lib.hid (by rw [HENC2.out, lenB_mid (by omega) h256]; rfl)
          have hfin : Below w.heap.size w W5 := HX3.out.trans (below_mine HX1.out hg5 HX3.out.size)
          have HFIN := Lib.hid hfin
          have HM5 := Lib.hid hm5
          clear hfin hm5 hg5 hat5
          go_wp2_with fail
          go_ret
          refine ⟨A5, c5, ?_, by rw [HE2.out]; exact HM5.out.less (by omega), HFIN.out⟩
          rw [HE2.out, List.length_append, HL2.out]
          rfl
        have d2 : decide ((m : Int) < 256) = false := decide_eq_false (by omega)
        have hq : Int.tdiv (m : Int) 256 = ((m / 256 : Nat) : Int) := by rw [Int.tdiv_eq_ediv_of_nonneg (by omega)]; omega
        have hr : Int.tmod (m : Int) 256 = ((m % 256 : Nat) : Int) := by rw [Int.tmod_eq_emod_of_nonneg (by omega)]; omega
        have hlf := lenB_far (m := m) (by omega) (by omega)
        have HLF := Lib.hid hlf
        have hq2 : m / 256 < 256 := by omega
        have hr2 : m % 256 < 256 := by omega
        clear hlf
        generalize m / 256 = mq at *
        generalize m % 256 = mr at *
        have hw : IntKind.u8.wrap (mq : Int) = (mq : Int) := by simp [IntKind.wrap, IntKind.signed, IntKind.bits]; omega
        have hw2 : IntKind.u8.wrap (mr : Int) = (mr : Int) := by simp [IntKind.wrap, IntKind.signed, IntKind.bits]; omega
        have HX1 : Hid (Mine 5 (V.alloc (.cells #[.int .u8 (tag : Int), .int .u8 130, .int .u8 (mq : Int), .int .u8 (mr : Int)] 5)) (w.heap.size + 1) (some ⟨V.heap.size, 0, none⟩) 4 [tag, 130, mq, mr]) := Lib.hid (Mine.freshL V _ [tag, 130, mq, mr] HBV.out (by simp))
        have HX2 : Hid (Rd .u8 (V.alloc (.cells #[.int .u8 (tag : Int), .int .u8 130, .int .u8 (mq : Int), .int .u8 (mr : Int)] 5)) V.heap.size A' c' (body ++ Tr.encs L)) := Lib.hid (HM2.out.rd.alloc (Nat.le_refl _) _)
        have HX3 : Hid (Below w.heap.size w (V.alloc (.cells #[.int .u8 (tag : Int), .int .u8 130, .int .u8 (mq : Int), .int .u8 (mr : Int)] 5))) := Lib.hid (HQ.out.alloc HQ.out.size _)
        have HX4 : Hid (w.heap.size + 1 ≤ (V.alloc (.cells #[.int .u8 (tag : Int), .int .u8 130, .int .u8 (mq : Int), .int .u8 (mr : Int)] 5)).heap.size) := Lib.hid (by have := HBV.out; simp; omega)
        go_wp2_with (first | (at_builtin; refine wpList_mine (B := w.heap.size + 1) (B2 := V.heap.size) _ rfl (.tmp 58) (.tmp 59) 22 rfl 5 Try.underlying22 info_u8 rfl HX1.out rfl rfl HX2.out HL2.out HX4.out (by omega) ?_; intro A5 c5 W5 hm5 hg5 hat5))
        have HE2 : Hid ((Tr.mk tag body L).enc = [tag, 130, mq, mr] ++ (body ++ Tr.encs L)) := Lib.hid (by rw [HENC2.out, HLF.out]; rfl)
        have hfin : Below w.heap.size w W5 := HX3.out.trans (below_mine HX1.out hg5 HX3.out.size)
        have HFIN := Lib.hid hfin
        have HM5 := Lib.hid hm5
        clear hfin hm5 hg5 hat5
        go_wp2_with fail
        go_ret
        refine ⟨A5, c5, ?_, by rw [HE2.out]; exact HM5.out.less (by omega), HFIN.out⟩
        rw [HE2.out, List.length_append, HL2.out]
        rfl
theorem raw_any (t : Lt) (w : World) (B : Nat) (hr : TrAt w B t) (hB : B ≤ w.heap.size) (hmx : t.t.enc.length ≤ 60000) :
    Calls Try.prog 20 #[t.val] w fun e w' => ∃ A c, e = .returned (.slice A t.t.enc.length c) ∧ Mine 5 w' w.heap.size A c t.t.enc ∧ Below w.heap.size w w' := raw_N (t.sz + 1) t w B (Nat.lt_succ_self _) hr hB hmx
end Go.Proofs.Ytlggbkacaemdjaa
