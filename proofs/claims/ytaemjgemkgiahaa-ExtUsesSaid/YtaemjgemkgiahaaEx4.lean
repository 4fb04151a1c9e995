/-
  The things of extensions by the document.
-/
import Derived.Test.YtaemjgemkgiahaaEx3
namespace Go.Proofs.Ytaemjgemkgiahaa
open Go.RowKit
set_option linter.unusedVariables false
set_option linter.unusedSimpArgs false

set_option maxRecDepth 100000 in
set_option maxHeartbeats 16000000 in
theorem exNode'_any (w : World) (xs : List Nat) (A : Option Addr) (c n : Nat) (l : List Ex) (h : XP A c l w) (hn : l.length = n) (hsz : ∀ x ∈ l, x.id.length ≤ 12000 ∧ x.val.length ≤ 12000) (h100 : n ≤ 100) (hxs : ∀ x ∈ xs, x < w.heap.size) :
    Calls Try.prog 16 #[.slice A n c] w (MadeT w xs (exsTr (l.map Ex.v))) := by
  have hlc : n ≤ c := by rw [← hn]; exact h.1.1
  have hc63 := h.1.2.1
  have HN := Lib.hid hn
  have HX := Lib.hid (Off.of_x h)
  have HS := Lib.hid hsz
  obtain ⟨V, hV⟩ : ∃ V, V = w.alloc (.cells #[.int .u8 0, .slice none 0 0, .slice none 0 0] 35) := ⟨_, rfl⟩
  have hz : Holds V w.heap.size 35 #[.int .u8 0, .slice none 0 0, .slice none 0 0] := by rw [hV]; exact Holds.fresh _ _ _
  have HB0 : Hid (Below w.heap.size w V) := Lib.hid (by rw [hV]; exact (Below.refl _ _).alloc (Nat.le_refl _) _)
  have hVs : w.heap.size < V.heap.size := hz.lt
  have HXS : Hid (∀ W : World, V.heap.size ≤ W.heap.size → ∀ x ∈ w.heap.size :: xs, x < W.heap.size) := Lib.hid fun W hW x hx => by
    rcases List.mem_cons.1 hx with rfl | hx
    · omega
    · have := hxs x hx; omega
  have HZ := Lib.hid hz
  have HV := Lib.hid hV
  clear h hn hsz hz hV hxs
  go_enter Try.func16, Try.ntmps16
  go_wp2_with fail
  rw [← HV.out]
  clear HV
  go_loopw [3, 4] (fun kv iv wr => ∃ (i : Nat) (K : Option Addr) (d : Nat) (ks : List Lt), i ≤ n ∧ iv = .int .i64 (i : Int) ∧ kv = .slice K i d ∧ Kids (w.heap.size :: xs) K d i ks wr ∧ Hid (ks.map Lt.t = ((l.map Ex.v).take i).map exTr) ∧ Hid (∀ g, blockOf K = some g → w.heap.size < g) ∧ Holds wr w.heap.size 35 #[.int .u8 0, .slice none 0 0, .slice none 0 0] ∧ V.heap.size ≤ wr.heap.size ∧ Below w.heap.size w wr) (fun _ iv _ => n - (intOf iv).toNat)
  case atStart => exact ⟨0, none, 0, [], by omega, rfl, rfl, Kids.nil _ _, rfl, fun g hg => by simp [blockOf] at hg, HZ.out, Nat.le_refl _, HB0.out⟩
  case round =>
    obtain ⟨i, K, d, ks, hi, rfl, rfl, hK, HT, HG, hZ, hVW, hB⟩ := hrel
    have HVW := Lib.hid hVW
    have HB := Lib.hid hB
    have HZr := Lib.hid hZ
    have HK := Lib.hid hK
    have hwr : w.heap.size < wr.heap.size := hZ.lt
    clear hVW hB hZ hK
    by_cases hlt : i < n
    · have hx := (HX.out.under HB.out).at_
      obtain ⟨g, off, rfl, hg, hcs⟩ := hx.1.2.2 (by rw [HN.out]; omega)
      obtain ⟨c0, c1, c2⟩ := hcs i (by rw [HN.out]; exact hlt)
      have hxe := hx.at_ (by rw [HN.out]; exact hlt)
      have HV1 : Hid ((l.map Ex.v).take (i + 1) = (l.map Ex.v).take i ++ [(l.getD i default).v]) := Lib.hid (by rw [take_more _ (by rw [List.length_map, HN.out]; exact hlt), ev_at (by rw [HN.out]; exact hlt)])
      have hs12 := HS.out _ (getD_mem (l := l) (j := i) (by rw [HN.out]; exact hlt))
      obtain ⟨e, he⟩ : ∃ e, e = l.getD i default := ⟨_, rfl⟩
      rw [← he] at c0 c1 c2 hxe HV1 hs12
      clear he hcs hx
      obtain ⟨ia, ic, id, cr, va, vc, val⟩ := e
      obtain ⟨hr1, ho1, hr2, ho2⟩ := hxe
      dsimp only at c0 c1 c2 hr1 ho1 hr2 ho2 hs12
      obtain ⟨n1, hn1⟩ : ∃ n1, id.length = n1 := ⟨_, rfl⟩
      obtain ⟨n2, hn2⟩ : ∃ n2, val.length = n2 := ⟨_, rfl⟩
      rw [hn1] at c0 hs12
      rw [hn2] at c2 hs12
      have HN1 := Lib.hid hn1
      have HN2 := Lib.hid hn2
      have HO1 := Lib.hid ho1
      have HO2 := Lib.hid ho2
      have HRI : Hid (∀ W, Below wr.heap.size wr W → Rd .u8 W wr.heap.size ia ic id) := Lib.hid fun W hW => hr1.under hW
      have HRV : Hid (∀ W, Below wr.heap.size wr W → Rd .u8 W wr.heap.size va vc val) := Lib.hid fun W hW => hr2.under hW
      have HBD : Hid (∀ W, Below wr.heap.size wr W → ∀ x ∈ bl K ++ w.heap.size :: xs, x < W.heap.size) := Lib.hid fun W hW x hx => by
        have h1 := HK.out.bound (HXS.out wr HVW.out) x hx
        have h2 := hW.size
        omega
      have HC : Hid (∀ W, Below wr.heap.size wr W → W.cell? ⟨g, off + i * 3, none⟩ = some (.slice ia n1 ic) ∧ W.cell? ⟨g, off + i * 3 + 1, none⟩ = some (.bool cr) ∧ W.cell? ⟨g, off + i * 3 + 2, none⟩ = some (.slice va n2 vc)) := Lib.hid fun W hW => ⟨(hW.cell (p := ⟨g, _, none⟩) hg).trans c0, (hW.cell (p := ⟨g, _, none⟩) hg).trans c1, (hW.cell (p := ⟨g, _, none⟩) hg).trans c2⟩
      have Q1 : Hid (Below wr.heap.size wr wr) := Lib.hid (Below.refl _ _)
      have HI := Lib.hid (id'_any wr (bl K ++ w.heap.size :: xs) ia ic n1 wr.heap.size id hr1 hn1 (Nat.le_refl _) (by omega) ho1 (HBD.out wr Q1.out))
      clear hr1 ho1 hr2 ho2 hn1 hn2
      rcases cr with _ | _
      · go_wp2_with fail
        refine HI.out.mono ?_
        rintro e w2 hm2
        obtain ⟨lt2, pt, pa, pn, pc, pk, pm, pd, rfl, h62, hT2, hO2, hb2⟩ := MadeT.six hm2
        have Q2 := Lib.hid (Q1.out.trans (hb2.mono Q1.out.size))
        have P2 := Lib.hid (Kids.one6 hO2 h62 (HBD.out _ Q2.out))
        have q2 : Below w2.heap.size w2 (w2.alloc (.cells #[.int .u8 (pt : Int), .slice pa pn pc, .slice pk pm pd] 35)) := (Below.refl _ _).alloc (Nat.le_refl _) _
        have Q3 := Lib.hid (Q2.out.trans (q2.mono Q2.out.size))
        obtain ⟨x0, x1, x2⟩ := HC.out _ Q3.out
        have G2 : Hid (∀ g, blockOf (some (⟨w2.heap.size, 0, none⟩ : Addr)) = some g → wr.heap.size ≤ g) := Lib.hid fun g hg => by
          have e : w2.heap.size = g := by simpa [blockOf] using hg
          have := Q2.out.size
  
          omega
        clear hm2 hb2 q2 hO2 HI
        have HOC := Lib.hid (octets'_any (w2.alloc (.cells #[.int .u8 (pt : Int), .slice pa pn pc, .slice pk pm pd] 35)) (bl (some ⟨w2.heap.size, 0, none⟩) ++ (bl K ++ w.heap.size :: xs)) va vc n2 wr.heap.size val (HRV.out _ Q3.out) HN2.out Q3.out.size (by omega) HO2.out (P2.out.bound (HBD.out _ Q3.out)))
        go_wp2_with fail
        refine HOC.out.mono ?_
        rintro e w8 hm8
        obtain ⟨lt8, ot, oa, on_, oc, ok, om, od, rfl, h68, hT8, hO8, hb8⟩ := MadeT.six hm8
        have q8 : Below w8.heap.size w8 (w8.alloc (.cells #[.int .u8 (ot : Int), .slice oa on_ oc, .slice ok om od] 35)) := (Below.refl _ _).alloc (Nat.le_refl _) _
        have hb89 : Below (w2.alloc (.cells #[.int .u8 (pt : Int), .slice pa pn pc, .slice pk pm pd] 35)).heap.size (w2.alloc (.cells #[.int .u8 (pt : Int), .slice pa pn pc, .slice pk pm pd] 35)) (w8.alloc (.cells #[.int .u8 (ot : Int), .slice oa on_ oc, .slice ok om od] 35)) := hb8.trans (q8.mono hb8.size)
        have Q9 := Lib.hid (Q3.out.trans (hb89.mono Q3.out.size))
        have P9 := Lib.hid (P2.out.under hb89)
        have O9 := Lib.hid (hO8.alloc (.cells #[.int .u8 (ot : Int), .slice oa on_ oc, .slice ok om od] 35))
        have HW9 := Lib.hid P9.out.own
        have BD9 := Lib.hid (HBD.out _ Q9.out)
        clear hm8 hb8 q8 hb89 hO8 HOC x0 x1 x2
        go_wp2_with (first | (at_builtin; refine wpList_pushV _ rfl (.tmp 29) (.tmp 36) 33 rfl 35 _ 3 56 Try.underlying33 info_node rfl (by omega) (by omega) rfl HW9.out (cs := [.int .u8 (ot : Int), .slice oa on_ oc, .slice ok om od]) rfl rfl one6 fresh6 (by omega) ?_; intro g10 c10 W10 ho10 hg10 hat10 hlt10))
        have P10 := Lib.hid (P9.out.push6 O9.out h68 ho10 hg10 hat10 BD9.out)
        have Q10 := Lib.hid (below_own Q9.out hg10 (fun g hg => by have := G2.out g hg; omega) (Nat.le_refl _))
        have HSE := Lib.hid (seq'_any W10 (bl K ++ w.heap.size :: xs) 48 c10 2 (some ⟨g10, 0, none⟩) ([lt2] ++ [lt8]) P10.out.ki P10.out.len (by omega))
        clear ho10 hg10 hat10 HW9 O9 P9 BD9
        go_wp2_with fail
        refine HSE.out.mono ?_
        rintro e w12 hm12
        obtain ⟨lt12, st, sa, sn, sc, sk, sm, sd, rfl, h612, hT12, hO12, hb12⟩ := MadeT.six hm12
        have q12 : Below w12.heap.size w12 (w12.alloc (.cells #[.int .u8 (st : Int), .slice sa sn sc, .slice sk sm sd] 35)) := (Below.refl _ _).alloc (Nat.le_refl _) _
        have hb1213 : Below W10.heap.size W10 (w12.alloc (.cells #[.int .u8 (st : Int), .slice sa sn sc, .slice sk sm sd] 35)) := hb12.trans (q12.mono hb12.size)
        have Q13 := Lib.hid (Q10.out.trans (hb1213.mono Q10.out.size))
        have K13 := Lib.hid (HK.out.under Q13.out)
        have O13 := Lib.hid (hO12.alloc (.cells #[.int .u8 (st : Int), .slice sa sn sc, .slice sk sm sd] 35))
        have HW13 := Lib.hid K13.out.own
        have BX13 := Lib.hid (HXS.out _ (Nat.le_trans HVW.out Q13.out.size))
        have Z13 := Lib.hid (HZr.out.under Q13.out hwr)
        have B13 := Lib.hid (HB.out.trans (Q13.out.mono HB.out.size))
        have V13 := Lib.hid (Nat.le_trans HVW.out Q13.out.size)
        have HTT : Hid ((ks ++ [lt12]).map Lt.t = ((l.map Ex.v).take (i + 1)).map exTr) := Lib.hid (by
          rw [HV1.out, List.map_append, List.map_append, HT.out]
          simp [exTr, exParts, Ex.v, hT12, hT2, hT8])
        clear hm12 hb12 q12 hb1213 hO12 HSE
        go_wp2_with (first | (at_builtin; refine wpList_pushV _ rfl (.tmp 28) (.tmp 39) 33 rfl 35 _ 3 56 Try.underlying33 info_node rfl (by omega) (by omega) rfl HW13.out (cs := [.int .u8 (st : Int), .slice sa sn sc, .slice sk sm sd]) rfl rfl one6 fresh6 (by omega) ?_; intro g14 c14 W14 ho14 hg14 hat14 hlt14))
        have K14 := Lib.hid (K13.out.push6 O13.out h612 ho14 hg14 hat14 BX13.out)
        have Z14 := Lib.hid (Z13.out.grown hg14 (fun h => by have := HG.out _ h.symm; omega))
        have B14 := Lib.hid (below_own B13.out hg14 (fun g hg => by have := HG.out g hg; omega) (Nat.le_refl _))
        have V14 := Lib.hid (Nat.le_trans V13.out hg14.size)
        have G14 : Hid (∀ g, blockOf (some (⟨g14, 0, none⟩ : Addr)) = some g → w.heap.size < g) := Lib.hid fun g hg => by
          rcases hat14 with h | h
          · exact HG.out g (h.trans (by simpa [blockOf] using hg))
          · have e : g14 = g := by simpa [blockOf] using hg
            have := Z13.out.lt
            omega
        clear ho14 hg14 hat14 HW13 O13 K13 BX13
        go_wp2_with fail
        go_roundw
        case rel => exact ⟨i + 1, _, _, _, by omega, by go_num, rfl, K14.out, HTT.out, G14.out, Z14.out, V14.out, B14.out⟩
        case measure => simp [intOf]; omega
      · go_wp2_with fail
        refine HI.out.mono ?_
        rintro e w2 hm2
        obtain ⟨lt2, pt, pa, pn, pc, pk, pm, pd, rfl, h62, hT2, hO2, hb2⟩ := MadeT.six hm2
        have Q2 := Lib.hid (Q1.out.trans (hb2.mono Q1.out.size))
        have P2 := Lib.hid (Kids.one6 hO2 h62 (HBD.out _ Q2.out))
        have q2 : Below w2.heap.size w2 (w2.alloc (.cells #[.int .u8 (pt : Int), .slice pa pn pc, .slice pk pm pd] 35)) := (Below.refl _ _).alloc (Nat.le_refl _) _
        have Q3 := Lib.hid (Q2.out.trans (q2.mono Q2.out.size))
        obtain ⟨x0, x1, x2⟩ := HC.out _ Q3.out
        have G2 : Hid (∀ g, blockOf (some (⟨w2.heap.size, 0, none⟩ : Addr)) = some g → wr.heap.size ≤ g) := Lib.hid fun g hg => by
          have e : w2.heap.size = g := by simpa [blockOf] using hg
          have := Q2.out.size
  
          omega
        clear hm2 hb2 q2 hO2 HI
        have HBO := Lib.hid (bool'_any (w2.alloc (.cells #[.int .u8 (pt : Int), .slice pa pn pc, .slice pk pm pd] 35)) (bl (some ⟨w2.heap.size, 0, none⟩) ++ (bl K ++ w.heap.size :: xs)) true (P2.out.bound fun x hx => by have := HBD.out _ Q2.out x hx; simp; omega))
        go_wp2_with fail
        refine HBO.out.mono ?_
        rintro e w4 hm4
        obtain ⟨lt4, bt, ba, bn, bc, bk, bm, bd, rfl, h64, hT4, hO4, hb4⟩ := MadeT.six hm4
        have q4 : Below w4.heap.size w4 (w4.alloc (.cells #[.int .u8 (bt : Int), .slice ba bn bc, .slice bk bm bd] 35)) := (Below.refl _ _).alloc (Nat.le_refl _) _
        have hb45 : Below (w2.alloc (.cells #[.int .u8 (pt : Int), .slice pa pn pc, .slice pk pm pd] 35)).heap.size (w2.alloc (.cells #[.int .u8 (pt : Int), .slice pa pn pc, .slice pk pm pd] 35)) (w4.alloc (.cells #[.int .u8 (bt : Int), .slice ba bn bc, .slice bk bm bd] 35)) := hb4.trans (q4.mono hb4.size)
        have Q5 := Lib.hid (Q3.out.trans (hb45.mono Q3.out.size))
        have P5 := Lib.hid (P2.out.under hb45)
        have O5 := Lib.hid (hO4.alloc (.cells #[.int .u8 (bt : Int), .slice ba bn bc, .slice bk bm bd] 35))
        have hown5 := P5.out.own
        rw [flat6 h62] at hown5
        have HW5 := Lib.hid hown5
        have BD5 := Lib.hid (HBD.out _ Q5.out)
        clear hm4 hb4 q4 hb45 hO4 HBO x0 x1 x2 hown5
        go_wp2_with (first | (at_builtin; refine wpList_pushV _ rfl (.tmp 24) (.tmp 26) 33 rfl 35 _ 3 56 Try.underlying33 info_node rfl (by omega) (by omega) rfl HW5.out (cs := [.int .u8 (bt : Int), .slice ba bn bc, .slice bk bm bd]) rfl rfl one6 fresh6 (by omega) ?_; intro g6 c6 W6 ho6 hg6 hat6 hlt6; obtain ⟨x0, x1, x2⟩ := HC.out _ (below_own Q5.out hg6 (fun g hg => by have := G2.out g hg; omega) (Nat.le_refl _))))
        have P6 := Lib.hid (P5.out.push6 O5.out h64 (by rw [flat6 h62]; exact ho6) hg6 hat6 BD5.out)
        have Q6 := Lib.hid (below_own Q5.out hg6 (fun g hg => by have := G2.out g hg; omega) (Nat.le_refl _))
        have G6 : Hid (∀ g, blockOf (some (⟨g6, 0, none⟩ : Addr)) = some g → wr.heap.size ≤ g) := Lib.hid fun g hg => by
          rcases hat6 with h | h
          · exact G2.out g (h.trans (by simpa [blockOf] using hg))
          · have e : g6 = g := by simpa [blockOf] using hg
            have := Q5.out.size
    
            omega
        clear ho6 hg6 hat6 HW5 O5 P5 BD5
        have HOC := Lib.hid (octets'_any W6 (bl (some ⟨g6, 0, none⟩) ++ (bl K ++ w.heap.size :: xs)) va vc n2 wr.heap.size val (HRV.out _ Q6.out) HN2.out Q6.out.size (by omega) HO2.out (P6.out.bound (HBD.out _ Q6.out)))
        go_wp2_with fail
        refine HOC.out.mono ?_
        rintro e w8 hm8
        obtain ⟨lt8, ot, oa, on_, oc, ok, om, od, rfl, h68, hT8, hO8, hb8⟩ := MadeT.six hm8
        have q8 : Below w8.heap.size w8 (w8.alloc (.cells #[.int .u8 (ot : Int), .slice oa on_ oc, .slice ok om od] 35)) := (Below.refl _ _).alloc (Nat.le_refl _) _
        have hb89 : Below W6.heap.size W6 (w8.alloc (.cells #[.int .u8 (ot : Int), .slice oa on_ oc, .slice ok om od] 35)) := hb8.trans (q8.mono hb8.size)
        have Q9 := Lib.hid (Q6.out.trans (hb89.mono Q6.out.size))
        have P9 := Lib.hid (P6.out.under hb89)
        have O9 := Lib.hid (hO8.alloc (.cells #[.int .u8 (ot : Int), .slice oa on_ oc, .slice ok om od] 35))
        have HW9 := Lib.hid P9.out.own
        have BD9 := Lib.hid (HBD.out _ Q9.out)
        clear hm8 hb8 q8 hb89 hO8 HOC x0 x1 x2
        go_wp2_with (first | (at_builtin; refine wpList_pushV _ rfl (.tmp 29) (.tmp 36) 33 rfl 35 _ 3 56 Try.underlying33 info_node rfl (by omega) (by omega) rfl HW9.out (cs := [.int .u8 (ot : Int), .slice oa on_ oc, .slice ok om od]) rfl rfl one6 fresh6 (by omega) ?_; intro g10 c10 W10 ho10 hg10 hat10 hlt10))
        have P10 := Lib.hid (P9.out.push6 O9.out h68 ho10 hg10 hat10 BD9.out)
        have Q10 := Lib.hid (below_own Q9.out hg10 (fun g hg => by have := G6.out g hg; omega) (Nat.le_refl _))
        have HSE := Lib.hid (seq'_any W10 (bl K ++ w.heap.size :: xs) 48 c10 3 (some ⟨g10, 0, none⟩) (([lt2] ++ [lt4]) ++ [lt8]) P10.out.ki P10.out.len (by omega))
        clear ho10 hg10 hat10 HW9 O9 P9 BD9
        go_wp2_with fail
        refine HSE.out.mono ?_
        rintro e w12 hm12
        obtain ⟨lt12, st, sa, sn, sc, sk, sm, sd, rfl, h612, hT12, hO12, hb12⟩ := MadeT.six hm12
        have q12 : Below w12.heap.size w12 (w12.alloc (.cells #[.int .u8 (st : Int), .slice sa sn sc, .slice sk sm sd] 35)) := (Below.refl _ _).alloc (Nat.le_refl _) _
        have hb1213 : Below W10.heap.size W10 (w12.alloc (.cells #[.int .u8 (st : Int), .slice sa sn sc, .slice sk sm sd] 35)) := hb12.trans (q12.mono hb12.size)
        have Q13 := Lib.hid (Q10.out.trans (hb1213.mono Q10.out.size))
        have K13 := Lib.hid (HK.out.under Q13.out)
        have O13 := Lib.hid (hO12.alloc (.cells #[.int .u8 (st : Int), .slice sa sn sc, .slice sk sm sd] 35))
        have HW13 := Lib.hid K13.out.own
        have BX13 := Lib.hid (HXS.out _ (Nat.le_trans HVW.out Q13.out.size))
        have Z13 := Lib.hid (HZr.out.under Q13.out hwr)
        have B13 := Lib.hid (HB.out.trans (Q13.out.mono HB.out.size))
        have V13 := Lib.hid (Nat.le_trans HVW.out Q13.out.size)
        have HTT : Hid ((ks ++ [lt12]).map Lt.t = ((l.map Ex.v).take (i + 1)).map exTr) := Lib.hid (by
          rw [HV1.out, List.map_append, List.map_append, HT.out]
          simp [exTr, exParts, Ex.v, hT12, hT2, hT4, hT8])
        clear hm12 hb12 q12 hb1213 hO12 HSE
        go_wp2_with (first | (at_builtin; refine wpList_pushV _ rfl (.tmp 28) (.tmp 39) 33 rfl 35 _ 3 56 Try.underlying33 info_node rfl (by omega) (by omega) rfl HW13.out (cs := [.int .u8 (st : Int), .slice sa sn sc, .slice sk sm sd]) rfl rfl one6 fresh6 (by omega) ?_; intro g14 c14 W14 ho14 hg14 hat14 hlt14))
        have K14 := Lib.hid (K13.out.push6 O13.out h612 ho14 hg14 hat14 BX13.out)
        have Z14 := Lib.hid (Z13.out.grown hg14 (fun h => by have := HG.out _ h.symm; omega))
        have B14 := Lib.hid (below_own B13.out hg14 (fun g hg => by have := HG.out g hg; omega) (Nat.le_refl _))
        have V14 := Lib.hid (Nat.le_trans V13.out hg14.size)
        have G14 : Hid (∀ g, blockOf (some (⟨g14, 0, none⟩ : Addr)) = some g → w.heap.size < g) := Lib.hid fun g hg => by
          rcases hat14 with h | h
          · exact HG.out g (h.trans (by simpa [blockOf] using hg))
          · have e : g14 = g := by simpa [blockOf] using hg
            have := Z13.out.lt
            omega
        clear ho14 hg14 hat14 HW13 O13 K13 BX13
        go_wp2_with fail
        go_roundw
        case rel => exact ⟨i + 1, _, _, _, by omega, by go_num, rfl, K14.out, HTT.out, G14.out, Z14.out, V14.out, B14.out⟩
        case measure => simp [intOf]; omega
    · obtain rfl : i = n := by omega
      have HTT : Hid (ks.map Lt.t = (l.map Ex.v).map exTr) := Lib.hid (by rw [HT.out, List.take_of_length_le (by rw [List.length_map, HN.out]; exact Nat.le_refl _)])
      have HSE := Lib.hid (seq'_any wr (w.heap.size :: xs) 48 d i K ks HK.out.ki HK.out.len (by omega))
      go_wp2_with fail
      refine HSE.out.mono ?_
      rintro e w2 hm2
      obtain ⟨lt2, pt, pa, pn, pc, pk, pm, pd, rfl, h62, hT2, hO2, hb2⟩ := MadeT.six hm2
      have HQ2 := Lib.hid (HB.out.trans (hb2.mono HB.out.size))
      have hz2 := HZr.out.under hb2 hwr
      have HO2 := Lib.hid hO2
      have z0 := hz2.cell 0
      have z1 := hz2.cell 1
      have z2 := hz2.cell 2
      have y0 := hz2.open_ 0
      have y1 := hz2.open_ 1
      have y2 := hz2.open_ 2
      have HLT : Hid (lt2.val = .agg #[.int .u8 (pt : Int), .slice pa pn pc, .slice pk pm pd]) := Lib.hid (by rw [Lt.val, ← lcell_cells, show lcell lt2 = _ from h62])
      have HTE : Hid (lt2.t = exsTr (l.map Ex.v)) := Lib.hid (by rw [hT2, HTT.out]; rfl)
      clear hm2 hb2 hO2 HSE hT2
      go_wp2_with fail
      refine ret_one rfl rfl (((hz2.stored 0 _).stored 1 _).stored 2 _) rfl ?_
      exact ⟨lt2, by rw [HLT.out]; rfl, HTE.out, made_out HO2.out _ _ _, below_out HQ2.out _ _ _⟩
end Go.Proofs.Ytaemjgemkgiahaa
