/-
  Are two things one: by the document, by the program.
-/
import Derived.Test.YtdjklhglkmacbaaDoorTlv2
import Derived.StillTailTactics
namespace Go.Proofs.YtdjklhglkmacbaaDoor
open Go.RowKit
set_option linter.unusedVariables false
set_option linter.unusedSimpArgs false

def RelS (w : World) (ca cb : Array Value) (la lb : List Tr) (n : Nat) (i : Value) (wr : World) : Prop :=
  ∃ k : Nat, k ≤ n ∧ i = .int .i64 k ∧ Hid (∀ j, j < k → la.getD j default = lb.getD j default) ∧ Hid (Below w.heap.size w wr) ∧ Hid (Holds wr w.heap.size 31 ca) ∧ Hid (Holds wr (w.heap.size + 1) 31 cb)

set_option maxRecDepth 100000 in
set_option maxHeartbeats 4000000 in
theorem same'_N : ∀ (N : Nat) (a b : Lt) (w : World) (B : Nat), a.sz < N → TrAt w B a → TrAt w B b → B ≤ w.heap.size → ∀ (v : Bool), (v = true ↔ a.t = b.t) →
    Calls Tryd.prog 10 #[a.val, b.val] w fun e w' => e = .returned (.bool v) ∧ Below w.heap.size w w' := by
  intro N
  induction N with
  | zero => intro a b w B h; omega
  | succ N ih =>
    intro a b w B hN hr hs hB v hv
    obtain ⟨at0, aba, abc, abody, aka, akc, akids⟩ := a
    obtain ⟨bt0, bba, bbc, bbody, bka, bkc, bkids⟩ := b
    rw [trAt_mk] at hr hs
    obtain ⟨ht1, hab, hao, harow, hakids⟩ := hr
    obtain ⟨ht2, hbb, hbo, hbrow, hbkids⟩ := hs
    rw [Lt.t_mk, Lt.t_mk] at hv
    have HV : Hid (v = true ↔ at0 = bt0 ∧ abody = bbody ∧ akids.map Lt.t = bkids.map Lt.t) := Lib.hid (by rw [hv]; exact ⟨fun e => by injection e with e1 e2 e3; exact ⟨e1, e2, e3⟩, fun ⟨e1, e2, e3⟩ => by rw [e1, e2, e3]⟩)
    clear hv
    obtain ⟨an, han⟩ : ∃ n, akids.length = n := ⟨_, rfl⟩
    obtain ⟨bn, hbn⟩ : ∃ n, bkids.length = n := ⟨_, rfl⟩
    obtain ⟨abl, habl⟩ : ∃ n, abody.length = n := ⟨_, rfl⟩
    obtain ⟨bbl, hbbl⟩ : ∃ n, bbody.length = n := ⟨_, rfl⟩
    have hlca : an ≤ akc := by have := harow.1; omega
    have hc63a := harow.2.1
    have hlcb : bn ≤ bkc := by have := hbrow.1; omega
    have hc63b := hbrow.2.1
    have hbla : abl ≤ abc := by have := hab.1; omega
    have hb63a := hab.2.1
    have hblb : bbl ≤ bbc := by have := hbb.1; omega
    have hb63b := hbb.2.1
    have HAROW : Hid (∀ W, Below w.heap.size w W → RowT W B aka akc akids) := Lib.hid fun W hW => harow.under (hW.mono hB)
    have HBROW : Hid (∀ W, Below w.heap.size w W → RowT W B bka bkc bkids) := Lib.hid fun W hW => hbrow.under (hW.mono hB)
    have HAB : Hid (∀ W, Below w.heap.size w W → Rd .u8 W B aba abc abody) := Lib.hid fun W hW => hab.under (hW.mono hB)
    have HBB : Hid (∀ W, Below w.heap.size w W → Rd .u8 W B bba bbc bbody) := Lib.hid fun W hW => hbb.under (hW.mono hB)
    have HIH : Hid (∀ k, k < an → k < bn → ∀ W, Below w.heap.size w W → ∀ u : Bool, (u = true ↔ (akids.map Lt.t).getD k default = (bkids.map Lt.t).getD k default) → Calls Tryd.prog 10 #[(akids.getD k default).val, (bkids.getD k default).val] W fun e w' => e = .returned (.bool u) ∧ Below W.heap.size W w') := Lib.hid fun k hk hk2 W hW u hu => by
      rw [Lt.ts_at (by omega), Lt.ts_at (by omega)] at hu
      refine ih _ _ W B ?_ ((hakids k (by omega)).under' (hW.mono hB)) ((hbkids k (by omega)).under' (hW.mono hB)) (by have := hW.size; omega) u hu
      have := lt_kid (tag := at0) (ba := aba) (bc := abc) (body := abody) (ka := aka) (kc := akc) (kids := akids) (j := k) (by omega)
      omega
    have HAN := Lib.hid han
    have HBN := Lib.hid hbn
    have HABL := Lib.hid habl
    have HBBL := Lib.hid hbbl
    have HAO := Lib.hid hao
    have HBO := Lib.hid hbo
    have hva : (Lt.mk at0 aba abc abody aka akc akids).val = .agg #[.int .u8 (at0 : Int), .slice aba abl abc, .slice aka an akc] := by rw [← han, ← habl]; rfl
    have hvb : (Lt.mk bt0 bba bbc bbody bka bkc bkids).val = .agg #[.int .u8 (bt0 : Int), .slice bba bbl bbc, .slice bka bn bkc] := by rw [← hbn, ← hbbl]; rfl
    rw [hva, hvb]
    clear hN ih harow hbrow hakids hbkids hva hvb han hbn habl hbbl hab hbb hao hbo
    have hq1 : Below w.heap.size w (w.alloc (.cells #[.int .u8 (at0 : Int), .slice aba abl abc, .slice aka an akc] 31)) := (Below.refl _ _).alloc (Nat.le_refl _) _
    have hq0 : Hid (Below w.heap.size w ((w.alloc (.cells #[.int .u8 (at0 : Int), .slice aba abl abc, .slice aka an akc] 31)).alloc (.cells #[.int .u8 (bt0 : Int), .slice bba bbl bbc, .slice bka bn bkc] 31))) := Lib.hid (hq1.alloc (by simp) _)
    have ha0 : Hid (Holds ((w.alloc (.cells #[.int .u8 (at0 : Int), .slice aba abl abc, .slice aka an akc] 31)).alloc (.cells #[.int .u8 (bt0 : Int), .slice bba bbl bbc, .slice bka bn bkc] 31)) w.heap.size 31 #[.int .u8 (at0 : Int), .slice aba abl abc, .slice aka an akc]) := Lib.hid ((Holds.fresh w 31 #[.int .u8 (at0 : Int), .slice aba abl abc, .slice aka an akc]).alloc _)
    have hb0 : Hid (Holds ((w.alloc (.cells #[.int .u8 (at0 : Int), .slice aba abl abc, .slice aka an akc] 31)).alloc (.cells #[.int .u8 (bt0 : Int), .slice bba bbl bbc, .slice bka bn bkc] 31)) (w.heap.size + 1) 31 #[.int .u8 (bt0 : Int), .slice bba bbl bbc, .slice bka bn bkc]) := Lib.hid (by
      have := Holds.fresh (w.alloc (.cells #[.int .u8 (at0 : Int), .slice aba abl abc, .slice aka an akc] 31)) 31 #[.int .u8 (bt0 : Int), .slice bba bbl bbc, .slice bka bn bkc]
      rwa [World.size_alloc] at this)
    clear hq1
    have za0 : ((w.alloc (.cells #[.int .u8 (at0 : Int), .slice aba abl abc, .slice aka an akc] 31)).alloc (.cells #[.int .u8 (bt0 : Int), .slice bba bbl bbc, .slice bka bn bkc] 31)).cell? ⟨w.heap.size, 0, none⟩ = some (.int .u8 (at0 : Int)) := ha0.out.cell 0
    have za1 : ((w.alloc (.cells #[.int .u8 (at0 : Int), .slice aba abl abc, .slice aka an akc] 31)).alloc (.cells #[.int .u8 (bt0 : Int), .slice bba bbl bbc, .slice bka bn bkc] 31)).cell? ⟨w.heap.size, 1, none⟩ = some (.slice aba abl abc) := ha0.out.cell 1
    have za2 : ((w.alloc (.cells #[.int .u8 (at0 : Int), .slice aba abl abc, .slice aka an akc] 31)).alloc (.cells #[.int .u8 (bt0 : Int), .slice bba bbl bbc, .slice bka bn bkc] 31)).cell? ⟨w.heap.size, 2, none⟩ = some (.slice aka an akc) := ha0.out.cell 2
    have zb0 : ((w.alloc (.cells #[.int .u8 (at0 : Int), .slice aba abl abc, .slice aka an akc] 31)).alloc (.cells #[.int .u8 (bt0 : Int), .slice bba bbl bbc, .slice bka bn bkc] 31)).cell? ⟨w.heap.size + 1, 0, none⟩ = some (.int .u8 (bt0 : Int)) := hb0.out.cell 0
    have zb1 : ((w.alloc (.cells #[.int .u8 (at0 : Int), .slice aba abl abc, .slice aka an akc] 31)).alloc (.cells #[.int .u8 (bt0 : Int), .slice bba bbl bbc, .slice bka bn bkc] 31)).cell? ⟨w.heap.size + 1, 1, none⟩ = some (.slice bba bbl bbc) := hb0.out.cell 1
    have zb2 : ((w.alloc (.cells #[.int .u8 (at0 : Int), .slice aba abl abc, .slice aka an akc] 31)).alloc (.cells #[.int .u8 (bt0 : Int), .slice bba bbl bbc, .slice bka bn bkc] 31)).cell? ⟨w.heap.size + 1, 2, none⟩ = some (.slice bka bn bkc) := hb0.out.cell 2
    by_cases hte : at0 = bt0
    case neg =>
      have hB1 : ((at0 : Int) != (bt0 : Int)) = true := by rw [bne_iff_ne]; omega
      have hB2 : (at0 != bt0) = true := by rw [bne_iff_ne]; omega
      have HF : Hid (v = false) := Lib.hid (not_true fun e => hte (HV.out.1 e).1)
      clear hte
      go_enter Tryd.func10, Tryd.ntmps10
      go_wp2_with fail
      go_ret
      exact ⟨ret_bool HF.out.symm, hq0.out⟩
    subst hte
    have hB1 : ((at0 : Int) != (at0 : Int)) = false := by rw [bne_eq_false_iff_eq]
    have hB2 : (at0 != at0) = false := by rw [bne_eq_false_iff_eq]
    by_cases hbe : abody = bbody
    case neg =>
      have HF : Hid (v = false) := Lib.hid (not_true fun e => hbe (HV.out.1 e).2.1)
      have c1 := conv_str (HAB.out _ hq0.out) HABL.out HAO.out
      have c2 := conv_str (HBB.out _ hq0.out) HBBL.out HBO.out
      have c3 := str_ne HAO.out HBO.out hbe
      have c4 : ((str abody).toList != (str bbody).toList) = true := by simp [bne, c3]
      generalize str abody = s1 at *
      generalize str bbody = s2 at *
      go_enter Tryd.func10, Tryd.ntmps10
      go_wp2_with fail
      go_wp2_with fail
      go_ret
      exact ⟨ret_bool HF.out.symm, hq0.out⟩
    subst hbe
    obtain rfl : abl = bbl := by rw [← HABL.out, HBBL.out]
    have c1 := conv_str (HAB.out _ hq0.out) HABL.out HAO.out
    have c2 := conv_str (HBB.out _ hq0.out) HABL.out HAO.out
    have c4 : ((str abody).toList != (str abody).toList) = false := by simp [bne]
    generalize str abody = s1 at *
    by_cases hle : an = bn
    case neg =>
      have HF : Hid (v = false) := Lib.hid (not_true fun e => hle (by have := congrArg List.length (HV.out.1 e).2.2; simp only [List.length_map] at this; rw [← HAN.out, ← HBN.out, this]))
      have hB5 : ((an : Int) != (bn : Int)) = true := by rw [bne_iff_ne]; omega
      have hB6 : (an != bn) = true := by rw [bne_iff_ne]; omega
      clear hle
      go_enter Tryd.func10, Tryd.ntmps10
      go_wp2_with fail
      go_ret
      exact ⟨ret_bool HF.out.symm, hq0.out⟩
    subst hle
    have hB5 : ((an : Int) != (an : Int)) = false := by rw [bne_eq_false_iff_eq]
    have hB6 : (an != an) = false := by rw [bne_eq_false_iff_eq]
    have HALL : Hid ((∀ j, j < an → (akids.map Lt.t).getD j default = (bkids.map Lt.t).getD j default) → v = true) := Lib.hid fun h => HV.out.2 ⟨rfl, rfl, List.ext_getElem (by rw [List.length_map, List.length_map, HAN.out, HBN.out]) fun j h1 h2 => by
      have h3 := h j (by rw [← HAN.out]; simpa using h1)
      simpa [List.getD, show j < akids.length by simpa using h1, show j < bkids.length by simpa using h2] using h3⟩
    have HONE : Hid (∀ j, ¬ (akids.map Lt.t).getD j default = (bkids.map Lt.t).getD j default → v = false) := Lib.hid fun j h => not_true fun e => h (by rw [(HV.out.1 e).2.2])
    clear HV
    go_enter Tryd.func10, Tryd.ntmps10
    go_wp2_with fail
    try rw [show (w.alloc (.cells #[.int .u8 (at0 : Int), .slice aba abl abc, .slice aka an akc] 31)).heap.size = w.heap.size + 1 from World.size_alloc _ _]
    generalize ((w.alloc (.cells #[.int .u8 (at0 : Int), .slice aba abl abc, .slice aka an akc] 31)).alloc (.cells #[.int .u8 (at0 : Int), .slice bba abl bbc, .slice bka an bkc] 31)) = W at *
    clear za0 za1 za2 zb0 zb1 zb2
    go_loopw [5] (fun i wr => RelS w #[.int .u8 (at0 : Int), .slice aba abl abc, .slice aka an akc] #[.int .u8 (at0 : Int), .slice bba abl bbc, .slice bka an bkc] (akids.map Lt.t) (bkids.map Lt.t) an i wr) (fun i _ => an - (intOf i).toNat)
    case atStart => exact ⟨0, Nat.zero_le _, rfl, Lib.hid (fun j hj => by omega), hq0, ha0, hb0⟩
    case round =>
      clear c1 c2 c4
      clear hq0 ha0 hb0
      obtain ⟨k, hk, rfl, HS, HQ, HA, HB⟩ := hrel
      obtain ⟨V, hV⟩ : ∃ V, V = wr := ⟨_, rfl⟩
      subst hV
      have za2 : V.cell? ⟨w.heap.size, 2, none⟩ = some (.slice aka an akc) := HA.out.cell 2
      have zb2 : V.cell? ⟨w.heap.size + 1, 2, none⟩ = some (.slice bka an bkc) := HB.out.cell 2
      by_cases hkn : k < an
      case pos =>
        have hkI : (k : Int) < (an : Int) := by omega
        have hk0 : (0 : Int) ≤ (k : Int) := by omega
        obtain ⟨b1, off1, rfl, hb1, hcs1⟩ := (HAROW.out V HQ.out).2.2 (by have := HAN.out; omega)
        obtain ⟨b2, off2, rfl, hb2, hcs2⟩ := (HBROW.out V HQ.out).2.2 (by have := HBN.out; omega)
        obtain ⟨p0, p1, p2⟩ := hcs1 k (by have := HAN.out; omega)
        obtain ⟨q0, q1, q2⟩ := hcs2 k (by have := HBN.out; omega)
        clear hcs1 hcs2
        by_cases hsk : (akids.map Lt.t).getD k default = (bkids.map Lt.t).getD k default
        case pos =>
          have HC := Lib.hid (HIH.out k hkn hkn V.drew HQ.out.drew true ⟨fun _ => hsk, fun _ => rfl⟩)
          have HS2 : Hid (∀ j, j < k + 1 → (akids.map Lt.t).getD j default = (bkids.map Lt.t).getD j default) := Lib.hid fun j hj => by
            rcases Nat.lt_or_ge j k with h | h
            · exact HS.out j h
            · obtain rfl : j = k := by omega
              exact hsk
          rw [show (akids.getD k default).val = .agg #[.int .u8 ((akids.getD k default).tag : Int), .slice (akids.getD k default).ba (akids.getD k default).body.length (akids.getD k default).bc, .slice (akids.getD k default).ka (akids.getD k default).kids.length (akids.getD k default).kc] from rfl, show (bkids.getD k default).val = .agg #[.int .u8 ((bkids.getD k default).tag : Int), .slice (bkids.getD k default).ba (bkids.getD k default).body.length (bkids.getD k default).bc, .slice (bkids.getD k default).ka (bkids.getD k default).kids.length (bkids.getD k default).kc] from rfl] at HC
          clear hsk
          generalize (akids.getD k default).tag = adt at *
          generalize (akids.getD k default).ba = adba at *
          generalize (akids.getD k default).bc = adbc at *
          generalize (akids.getD k default).body.length = adbl at *
          generalize (akids.getD k default).ka = adka at *
          generalize (akids.getD k default).kids.length = adkl at *
          generalize (akids.getD k default).kc = adkc at *
          generalize (bkids.getD k default).tag = bdt at *
          generalize (bkids.getD k default).ba = bdba at *
          generalize (bkids.getD k default).bc = bdbc at *
          generalize (bkids.getD k default).body.length = bdbl at *
          generalize (bkids.getD k default).ka = bdka at *
          generalize (bkids.getD k default).kids.length = bdkl at *
          generalize (bkids.getD k default).kc = bdkc at *
          go_wp2_with fail
          go_still_tail 10, (by kernel_rfl)
          change wpList _ _ _ _ _ V.drew
          go_wp2_with fail
          refine HC.out.mono ?_
          rintro e w2 ⟨rfl, hb2⟩
          have HQ2 : Hid (Below w.heap.size w w2) := Lib.hid (HQ.out.drew.trans (hb2.mono HQ.out.size))
          have HA2 := Lib.hid (HA.out.drew.under hb2 HA.out.lt)
          have HB2 := Lib.hid (HB.out.drew.under hb2 HB.out.lt)
          clear hb2 HC p0 p1 p2 q0 q1 q2 za2 zb2
          go_wp2_with fail
          go_roundw
          case rel => exact ⟨k + 1, by omega, by go_num, HS2, HQ2, HA2, HB2⟩
          case measure => simp [intOf]; omega
        case neg =>
          have HC := Lib.hid (HIH.out k hkn hkn V.drew HQ.out.drew false ⟨(fun e => by cases e), fun e => absurd e hsk⟩)
          have HF : Hid (v = false) := Lib.hid (HONE.out k hsk)
          rw [show (akids.getD k default).val = .agg #[.int .u8 ((akids.getD k default).tag : Int), .slice (akids.getD k default).ba (akids.getD k default).body.length (akids.getD k default).bc, .slice (akids.getD k default).ka (akids.getD k default).kids.length (akids.getD k default).kc] from rfl, show (bkids.getD k default).val = .agg #[.int .u8 ((bkids.getD k default).tag : Int), .slice (bkids.getD k default).ba (bkids.getD k default).body.length (bkids.getD k default).bc, .slice (bkids.getD k default).ka (bkids.getD k default).kids.length (bkids.getD k default).kc] from rfl] at HC
          clear hsk
          generalize (akids.getD k default).tag = adt at *
          generalize (akids.getD k default).ba = adba at *
          generalize (akids.getD k default).bc = adbc at *
          generalize (akids.getD k default).body.length = adbl at *
          generalize (akids.getD k default).ka = adka at *
          generalize (akids.getD k default).kids.length = adkl at *
          generalize (akids.getD k default).kc = adkc at *
          generalize (bkids.getD k default).tag = bdt at *
          generalize (bkids.getD k default).ba = bdba at *
          generalize (bkids.getD k default).bc = bdbc at *
          generalize (bkids.getD k default).body.length = bdbl at *
          generalize (bkids.getD k default).ka = bdka at *
          generalize (bkids.getD k default).kids.length = bdkl at *
          generalize (bkids.getD k default).kc = bdkc at *
          go_wp2_with fail
          go_still_tail 10, (by kernel_rfl)
          change wpList _ _ _ _ _ V.drew
          go_wp2_with fail
          refine HC.out.mono ?_
          rintro e w2 ⟨rfl, hb2⟩
          have HQ2 : Hid (Below w.heap.size w w2) := Lib.hid (HQ.out.drew.trans (hb2.mono HQ.out.size))
          clear hb2 HC p0 p1 p2 q0 q1 q2 za2 zb2
          go_wp2_with fail
          go_ret
          exact ⟨ret_bool HF.out.symm, HQ2.out⟩
      case neg =>
        obtain rfl : k = an := by omega
        have hkI : ¬ ((k : Int) < (k : Int)) := by omega
        have HT : Hid (v = true) := Lib.hid (HALL.out HS.out)
        go_wp2_with fail
        go_ret
        exact ⟨ret_bool HT.out.symm, HQ.out⟩
theorem same'_any (a b : Lt) (w : World) (B : Nat) (hr : TrAt w B a) (hs : TrAt w B b) (hB : B ≤ w.heap.size) (v : Bool) (hv : v = true ↔ a.t = b.t) :
    Calls Tryd.prog 10 #[a.val, b.val] w fun e w' => e = .returned (.bool v) ∧ Below w.heap.size w w' := same'_N (a.sz + 1) a b w B (Nat.lt_succ_self _) hr hs hB v hv

end Go.Proofs.YtdjklhglkmacbaaDoor
