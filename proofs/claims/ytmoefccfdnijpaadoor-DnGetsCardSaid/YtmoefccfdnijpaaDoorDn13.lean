/-
  A thing as a part of a name: by the document.
-/
import Derived.Test.YtmoefccfdnijpaaDoorDn11
namespace Go.Proofs.YtmoefccfdnijpaaDoor
open Go.RowKit
set_option linter.unusedVariables false
set_option linter.unusedSimpArgs false
attribute [local go_sem ↓] Go.wp_at_zero Go.wp_at_succ

set_option maxRecDepth 100000 in
set_option maxHeartbeats 8000000 in
theorem attr'_any (w : World) (t : Lt) (h : Off [] (ThP t) w) (hf : FitA t.t) :
    Calls Tryd.prog 34 #[t.val] w (AttrP w (attrT true t.t)) := by
  obtain ⟨T, hT'⟩ : ∃ T, T = t.t := ⟨_, rfl⟩
  obtain ⟨o, HOO⟩ : ∃ o, Hid (o = attrT true T) := ⟨_, rfl⟩
  obtain ⟨qs, hqs⟩ : ∃ qs, qs = seqL 49 t := ⟨_, rfl⟩
  have HPS : Hid (seqK 49 T = qs.map Lt.t) := Lib.hid (by rw [hT', seq_map, hqs])
  rw [← hT', ← HOO.out]
  have HFQ : Hid (∀ x ∈ qs, x.kids.length ≤ 12000 ∧ ∀ p ∈ x.kids, p.body.length ≤ 12000) := Lib.hid fun x hx => by
    have h1 := seqL_mem (by rw [← hqs]; exact hx)
    obtain ⟨h2, h3⟩ := hf.2 x.t (by rw [(t_parts t).2.2]; exact List.mem_map_of_mem h1)
    rw [(t_parts x).2.2] at h2 h3
    rw [List.length_map] at h2
    refine ⟨h2, fun p hp => ?_⟩
    have h4 := h3 p.t (List.mem_map_of_mem hp)
    rwa [(t_parts p).2.1] at h4
  have hkl : t.kids.length ≤ 100000 := by have := hf.1; rw [(t_parts t).2.2, List.length_map] at this; omega
  have hth := h.at_
  obtain ⟨tag, ba, bc, body, ka, kc, kids⟩ := t
  have hko := kids_off h
  have hq2 : qs = if seqOk tag body.length 49 = true then kids else [] := hqs
  have htag : tag < 256 := (ThP.iff.1 hth).1
  have hkl2 : kids.length ≤ 100000 := hkl
  obtain ⟨n, hn⟩ : ∃ n, n = body.length := ⟨_, rfl⟩
  obtain ⟨kn, hkn⟩ : ∃ k, k = kids.length := ⟨_, rfl⟩
  rw [← hn] at hq2
  rw [← hkn] at hkl2
  have hval : (Lt.mk tag ba bc body ka kc kids).val = .agg #[.int .u8 (tag : Int), .slice ba n bc, .slice ka kn kc] := by rw [hn, hkn]; rfl
  rw [hval]
  have hH1 := Holds.fresh w 32 #[.int .u8 (tag : Int), .slice ba n bc, .slice ka kn kc]
  have hs1 : (w.alloc (.cells #[.int .u8 (tag : Int), .slice ba n bc, .slice ka kn kc] 32)).heap.size = w.heap.size + 1 := by simp
  have hH2 := hH1.alloc (.cells #[.int .i64 0, .string ⟨#[]⟩] 39)
  have hE2 : Holds ((w.alloc (.cells #[.int .u8 (tag : Int), .slice ba n bc, .slice ka kn kc] 32)).alloc (.cells #[.int .i64 0, .string ⟨#[]⟩] 39)) (w.heap.size + 1) 39 #[.int .i64 0, .string ⟨#[]⟩] := by
    have := Holds.fresh (w.alloc (.cells #[.int .u8 (tag : Int), .slice ba n bc, .slice ka kn kc] 32)) 39 #[.int .i64 0, .string ⟨#[]⟩]
    rw [hs1] at this
    exact this
  have hB2 : Below w.heap.size w ((w.alloc (.cells #[.int .u8 (tag : Int), .slice ba n bc, .slice ka kn kc] 32)).alloc (.cells #[.int .i64 0, .string ⟨#[]⟩] 39)) := ((Below.refl _ _).alloc (Nat.le_refl _) _).alloc (by omega) _
  obtain ⟨sq, hsq⟩ : ∃ b, seqOk tag n 49 = b := ⟨_, rfl⟩
  rw [hsq] at hq2
  have hgs := getSeq'_any ((w.alloc (.cells #[.int .u8 (tag : Int), .slice ba n bc, .slice ka kn kc] 32)).alloc (.cells #[.int .i64 0, .string ⟨#[]⟩] 39)) [w.heap.size + 1] tag n bc kn kc 49 ba ka kids (((hko.new (g := w.heap.size + 1) (by omega)).alloc _).alloc _) hkn.symm (by omega)
  rw [hsq] at hgs
  have HGS := Lib.hid hgs
  have HQS := Lib.hid hq2
  have c0 := hH2.cell 0
  have c1 := hH2.cell 1
  have c2 := hH2.cell 2
  have HE2 := Lib.hid hE2
  have HB2 := Lib.hid hB2

  clear h hf hqs hkl hth hT' hko hq2 htag hn hkn hval hH1 hs1 hH2 hE2 hB2 hgs hkl2 hsq
  go_enter Tryd.func34, Tryd.ntmps34
  go_wp2_with fail
  refine HGS.out.mono ?_
  intro e w3 hm
  obtain ⟨A3, c3, rfl, hk3, hb3⟩ := hm.one
  rw [← HQS.out] at hk3 ⊢
  have HB3 := Lib.hid (HB2.out.trans (hb3.mono HB2.out.size))
  have HE3 := Lib.hid (HE2.out.under hb3 HE2.out.lt)
  have HK3 := Lib.hid (hk3.less (ys := []) (fun g hg => by cases hg))
  obtain ⟨m, hm'⟩ : ∃ m, m = qs.length := ⟨_, rfl⟩
  have HM := Lib.hid hm'
  have HM0 : Hid (m = (if sq = true then kids else []).length) := Lib.hid (by rw [hm', HQS.out])
  rw [← hm']
  have hmc : m ≤ c3 := by rw [hm']; exact hk3.at_.1.1
  have hc63 := hk3.at_.1.2.1
  clear hm hb3 hk3 hm' HGS c0 c1 c2
  have HX1 : Hid (bad true 1 m = true → o = none) := Lib.hid fun hb => by rw [HOO.out]; unfold attrT; rw [HPS.out, List.length_map, ← HM.out, if_pos hb]
  cases sq
  case false =>
    have h0 : m = 0 := by rw [HM0.out]; rfl
    have HNO : Hid (o = none) := Lib.hid (HX1.out (by subst h0; rfl))
    have z0 := HE3.out.cell 0
    have z1 := HE3.out.cell 1
    have y0 := HE3.out.open_ 0
    have y1 := HE3.out.open_ 1
    go_wp2_with fail
    rw [HNO.out]
    exact ret_att rfl rfl rfl ((HE3.out.stored 0 _).stored 1 _) rfl ⟨_, _, rfl, below_att HB3.out (Nat.le_succ _) _ _⟩
  case true =>
    by_cases hq1 : m = 1
    case neg =>
      have HNO : Hid (o = none) := Lib.hid (HX1.out (by unfold bad; rw [if_pos rfl]; exact decide_eq_true hq1))
      have d1 : ((m : Int) != 1) = true := by simp; omega
      have z0 := HE3.out.cell 0
      have z1 := HE3.out.cell 1
      have y0 := HE3.out.open_ 0
      have y1 := HE3.out.open_ 1
      go_wp2_with fail
      rw [HNO.out]
      exact ret_att rfl rfl rfl ((HE3.out.stored 0 _).stored 1 _) rfl ⟨_, _, rfl, below_att HB3.out (Nat.le_succ _) _ _⟩
    case pos =>
      have d1 : ((m : Int) != 1) = false := by simp; omega
      clear HX1
      obtain ⟨g, off, rfl, hg, hcs⟩ := KiP.cells (j := 0) HK3.out (by rw [← HM.out]; omega)
      obtain ⟨p0, p1, p2⟩ := hcs w3 (Below.refl _ _)
      have ht0 := KiP.kid HK3.out (j := 0) (by rw [← HM.out]; omega)
      have hf0 := HFQ.out _ (getD_mem (l := qs) (j := 0) (by rw [← HM.out]; omega))
      have HD0 : Hid ((seqK 49 T).getD 0 default = (qs.getD 0 default).t) := Lib.hid (by rw [HPS.out]; exact lt_at (by rw [← HM.out]; omega))
      obtain ⟨q0, hq0⟩ : ∃ q, q = qs.getD 0 default := ⟨_, rfl⟩
      rw [← hq0] at p0 p1 p2 ht0 hf0 HD0
      obtain ⟨rs, hrs⟩ : ∃ rs, rs = seqL 48 q0 := ⟨_, rfl⟩
      have HRS : Hid (seqK 48 ((seqK 49 T).getD 0 default) = rs.map Lt.t) := Lib.hid (by rw [HD0.out, seq_map, hrs])
      have HFR : Hid (∀ x ∈ rs, x.body.length ≤ 12000) := Lib.hid fun x hx => hf0.2 x (seqL_mem (by rw [← hrs]; exact hx))
      have HX0 : Hid (bad true 1 m ≠ true) := Lib.hid (by unfold bad; rw [if_pos rfl]; simp; omega)
      rw [show off + 0 * 3 = off by omega] at p0 p1 p2
      clear hq0 hcs HD0 HFQ
      obtain ⟨x1, b1a, b1c, b1, k1a, k1c, k1⟩ := q0
      dsimp only [Lt.tag, Lt.ba, Lt.bc, Lt.body, Lt.ka, Lt.kc, Lt.kids] at p0 p1 p2 hf0
      have hx1 : x1 < 256 := (ThP.iff.1 ht0.at_).1
      have hrs2 : rs = if seqOk x1 b1.length 48 = true then k1 else [] := hrs
      obtain ⟨n1, hn1⟩ : ∃ n, b1.length = n := ⟨_, rfl⟩
      obtain ⟨m1, hm1⟩ : ∃ n, k1.length = n := ⟨_, rfl⟩
      rw [hn1] at p1 hrs2
      rw [hm1] at p2 hf0
      obtain ⟨sr, hsr⟩ : ∃ b, seqOk x1 n1 48 = b := ⟨_, rfl⟩
      rw [hsr] at hrs2
      have hgs := getSeq'_any w3 [] x1 n1 b1c m1 k1c 48 b1a k1a k1 (kids_off ht0) hm1 (by omega)
      rw [hsr] at hgs
      have HGS := Lib.hid hgs
      have HRS2 := Lib.hid hrs2
      clear hgs hrs hrs2 hsr hn1 hm1 ht0
      go_wp2_with fail
      refine HGS.out.mono ?_
      intro e w4 hm
      obtain ⟨A4, c4, rfl, hk4, hb4⟩ := hm.one
      rw [← HRS2.out] at hk4 ⊢
      have HB4 := Lib.hid (HB3.out.trans (hb4.mono HB3.out.size))
      have HE4 := Lib.hid (HE3.out.under hb4 HE3.out.lt)
      have HK4 := Lib.hid hk4
      obtain ⟨r, hr'⟩ : ∃ r, r = rs.length := ⟨_, rfl⟩
      have HR := Lib.hid hr'
      have HR0 : Hid (r = (if sr = true then k1 else []).length) := Lib.hid (by rw [hr', HRS2.out])
      rw [← hr']
      have hrc : r ≤ c4 := by rw [hr']; exact hk4.at_.1.1
      have hr63 := hk4.at_.1.2.1
      clear hm hb4 hk4 hr' HGS p0 p1 p2
      have HX2 : Hid (bad true 2 r = true → o = none) := Lib.hid fun hb => by rw [HOO.out]; unfold attrT; rw [HPS.out, List.length_map, ← HM.out, if_neg HX0.out, ← HPS.out, HRS.out, List.length_map, ← HR.out, if_pos hb]
      cases sr
      case false =>
        have h0 : r = 0 := by rw [HR0.out]; rfl
        have HNO : Hid (o = none) := Lib.hid (HX2.out (by subst h0; rfl))
        have z0 := HE4.out.cell 0
        have z1 := HE4.out.cell 1
        have y0 := HE4.out.open_ 0
        have y1 := HE4.out.open_ 1
        go_wp2_with fail
        rw [HNO.out]
        exact ret_att rfl rfl rfl ((HE4.out.stored 0 _).stored 1 _) rfl ⟨_, _, rfl, below_att HB4.out (Nat.le_succ _) _ _⟩
      case true =>
        by_cases hq2 : r = 2
        case neg =>
          have HNO : Hid (o = none) := Lib.hid (HX2.out (by unfold bad; rw [if_pos rfl]; exact decide_eq_true hq2))
          have d1 : ((r : Int) != 2) = true := by simp; omega
          have z0 := HE4.out.cell 0
          have z1 := HE4.out.cell 1
          have y0 := HE4.out.open_ 0
          have y1 := HE4.out.open_ 1
          go_wp2_with fail
          rw [HNO.out]
          exact ret_att rfl rfl rfl ((HE4.out.stored 0 _).stored 1 _) rfl ⟨_, _, rfl, below_att HB4.out (Nat.le_succ _) _ _⟩
        case pos =>
          have d1 : ((r : Int) != 2) = false := by simp; omega
          have HX3 : Hid (bad true 2 r ≠ true) := Lib.hid (by unfold bad; rw [if_pos rfl]; simp; omega)
          clear HX2
          obtain ⟨g5, off5, rfl, hg5, hcs⟩ := KiP.cells (j := 0) HK4.out (by rw [← HR.out]; omega)
          obtain ⟨g6, off6, he6, hg6, hcs6⟩ := KiP.cells (j := 1) HK4.out (by rw [← HR.out]; omega)
          injection he6 with he6
          obtain rfl : g5 = g6 := by injection he6
          obtain rfl : off5 = off6 := by injection he6
          obtain ⟨p0, p1, p2⟩ := hcs w4 (Below.refl _ _)
          have hta := KiP.kid HK4.out (j := 0) (by rw [← HR.out]; omega)
          have htb := KiP.kid HK4.out (j := 1) (by rw [← HR.out]; omega)
          have hba := HFR.out _ (getD_mem (l := rs) (j := 0) (by rw [← HR.out]; omega))
          have hbb := HFR.out _ (getD_mem (l := rs) (j := 1) (by rw [← HR.out]; omega))
          have HO1 : Hid (o = if (txB (rs.getD 1 default).t).isSome = true ∧ (idB (rs.getD 0 default).t).length = 3 then some ⟨((idB (rs.getD 0 default).t).getD 2 0 : Nat), str (rs.getD 1 default).t.body⟩ else none) := Lib.hid (by
            rw [HOO.out]; unfold attrT
            rw [HPS.out, List.length_map, ← HM.out, if_neg HX0.out, ← HPS.out, HRS.out, List.length_map, ← HR.out, if_neg HX3.out, lt_at (by rw [← HR.out]; omega), lt_at (by rw [← HR.out]; omega)])
          obtain ⟨qa, hqa⟩ : ∃ q, q = rs.getD 0 default := ⟨_, rfl⟩
          obtain ⟨qb, hqb⟩ : ∃ q, q = rs.getD 1 default := ⟨_, rfl⟩
          rw [← hqa] at p0 p1 p2 hta hba HO1
          rw [← hqb] at hcs6 htb hbb HO1
          rw [show off5 + 0 * 3 = off5 by omega] at p0 p1 p2
          rw [show off5 + 1 * 3 = off5 + 3 by omega] at hcs6
          have HC6 := Lib.hid hcs6
          clear hqa hqb hcs hcs6 he6 HX0 HX3 HPS HRS HOO HFR HRS2
          obtain ⟨xa, aa, ac, ab, aka, akc, akk⟩ := qa
          obtain ⟨xb, ba', bc', bb, bka, bkc, bkk⟩ := qb
          dsimp only [Lt.tag, Lt.ba, Lt.bc, Lt.body, Lt.ka, Lt.kc, Lt.kids] at p0 p1 p2 HC6 hba hbb
          have hia : idB (Lt.mk xa aa ac ab aka akc akk).t = if (heldOk xa akk.length 6 && idOk ab) = true then ab else [] := by rw [Lt.t_mk]; unfold idB; simp [Tr.tag, Tr.kids, Tr.body]
          have htx : txB (Lt.mk xb ba' bc' bb bka bkc bkk).t = txOf xb bkk.length bb := by rw [Lt.t_mk]; unfold txB; simp [Tr.tag, Tr.kids, Tr.body]
          have hbo : (Lt.mk xb ba' bc' bb bka bkc bkk).t.body = bb := by rw [Lt.t_mk]; rfl
          rw [hia, htx, hbo] at HO1
          obtain ⟨na, hna⟩ : ∃ n, ab.length = n := ⟨_, rfl⟩
          obtain ⟨nb, hnb⟩ : ∃ n, bb.length = n := ⟨_, rfl⟩
          obtain ⟨ka', hka⟩ : ∃ n, akk.length = n := ⟨_, rfl⟩
          obtain ⟨kb', hkb⟩ : ∃ n, bkk.length = n := ⟨_, rfl⟩
          rw [hna] at p1 hba
          rw [hka] at p2 HO1
          rw [hnb] at HC6 hbb
          rw [hkb] at HC6 HO1
          obtain ⟨_, hra, hoa, _⟩ := ThP.iff.1 hta.at_
          obtain ⟨_, _, hob, _⟩ := ThP.iff.1 htb.at_
          have HGI := Lib.hid (getID'_any w4 xa na ac ka' akc _ aa aka ab hra hna (Nat.le_refl _) hoa (by omega))
          have HTB := Lib.hid htb
          have HNB := Lib.hid hnb
          have HOB := Lib.hid hob
          have HOA := Lib.hid hoa
          clear hra hoa hob hta htb hnb hna hka hkb hia htx hbo
          go_wp2_with fail
          refine HGI.out.mono ?_
          intro e w5 hm
          obtain ⟨A5, c5, rfl, hm5, hb5⟩ := hm.one
          have hidb : (if (heldOk xa ka' 6 && idOk ab) = true then some ab else none : Option (List Nat)).getD [] = if (heldOk xa ka' 6 && idOk ab) = true then ab else [] := by split <;> rfl
          obtain ⟨is_, his⟩ : ∃ b, (heldOk xa ka' 6 && idOk ab) = b := ⟨_, rfl⟩
          have hiss : (if (heldOk xa ka' 6 && idOk ab) = true then some ab else none : Option (List Nat)).isSome = is_ := by rw [his]; cases is_ <;> rfl
          rw [hidb] at hm5 ⊢
          rw [hiss]
          obtain ⟨D, hD⟩ : ∃ D, (if (heldOk xa ka' 6 && idOk ab) = true then ab else []) = D := ⟨_, rfl⟩
          rw [hD] at hm5 HO1 ⊢
          have hDo : ∀ y ∈ D, y < 256 := fun y hy => by
            rw [← hD] at hy
            split at hy
            · exact HOA.out y hy
            · cases hy
          have HDO := Lib.hid hDo
          have hDn : is_ = false → D = [] := fun h => by rw [← hD, his, h]; rfl
          obtain ⟨nd, hnd⟩ : ∃ n, D.length = n := ⟨_, rfl⟩
          rw [hnd] at HO1 ⊢
          have HDN := Lib.hid hDn
          have HND := Lib.hid hnd
          have HB5 := Lib.hid (HB4.out.trans (hb5.mono HB4.out.size))
          have HE5 := Lib.hid (HE4.out.under hb5 HE4.out.lt)
          have HM5 := Lib.hid hm5
          obtain ⟨p0, p1, p2⟩ := HC6.out w5 hb5
          have hrb := (ThP.iff.1 (HTB.out.under hb5).at_).2.1
          have hndc : nd ≤ c5 := by rw [← hnd]; exact hm5.le.1
          have hnd63 := hm5.le.2
          have HGT := Lib.hid (getText'_any w5 xb nb bc' kb' bkc _ ba' bka bb hrb HNB.out (Nat.le_refl _) HOB.out (by omega))
          clear hm hb5 hm5 hidb his hiss hD hDn hDo hnd hrb HGI
          go_wp2_with fail
          refine HGT.out.mono ?_
          intro e w6 hm
          obtain ⟨rfl, hb6⟩ := hm.one
          have HB6 := Lib.hid (HB5.out.trans (hb6.mono HB5.out.size))
          have HE6 := Lib.hid (HE5.out.under hb6 HE5.out.lt)
          have HM6 := Lib.hid (HM5.out.under hb6)
          obtain ⟨tk, htk⟩ : ∃ b, (txOf xb kb' bb).isSome = b := ⟨_, rfl⟩
          have htg : tk = true → (txOf xb kb' bb).getD [] = bb := fun h => by
            rw [h] at htk
            unfold txOf at htk ⊢
            split at htk
            · rename_i h2; rw [if_pos h2]; rfl
            · cases htk
          obtain ⟨X, hX⟩ : ∃ X, (txOf xb kb' bb).getD [] = X := ⟨_, rfl⟩
          rw [hX] at htg
          rw [htk] at HO1
          rw [htk, hX]
          have HTG := Lib.hid htg
          have z0 := HE6.out.cell 0
          have z1 := HE6.out.cell 1
          have y0 := HE6.out.open_ 0
          have y1 := HE6.out.open_ 1
          clear hm hb6 htk htg hX HGT p0 p1 p2 HM5 HE5
          by_cases hall : tk = true ∧ nd = 3
          · obtain ⟨rfl, rfl⟩ := hall
            have HSO : Hid (o = some ⟨((D.getD 2 0 : Nat) : Int), str bb⟩) := Lib.hid (by rw [HO1.out, if_pos ⟨rfl, rfl⟩])
            have hX2 := HTG.out rfl
            subst hX2
            obtain rfl : is_ = true := by rcases is_ with _ | _; (have := HDN.out rfl; rw [this] at HND; have := HND.out; simp at this); rfl
            obtain ⟨g7, off7, rfl, hg7, hc7⟩ := HM6.out.rd.2.2 (by rw [HND.out]; omega)
            have k7 := hc7 2 (by rw [HND.out]; omega)
            have ho7 : D.getD 2 0 < 256 := HDO.out _ (by
              have h : 2 < D.length := by rw [HND.out]; omega
              simp [List.getD, h])
            obtain ⟨y, hy⟩ : ∃ y, D.getD 2 0 = y := ⟨_, rfl⟩
            rw [hy] at k7 ho7 HSO
            clear hc7 hy HO1
            go_wp2_with fail
            rw [HSO.out]
            exact ret_att rfl rfl rfl ((HE6.out.stored 0 _).stored 1 _) rfl ⟨rfl, below_att HB6.out (Nat.le_succ _) _ _⟩
          · have HNO : Hid (o = none) := Lib.hid (by rw [HO1.out, if_neg hall])
            cases tk
            · cases is_ <;> (go_wp2_with fail; rw [HNO.out]; exact ret_att rfl rfl rfl ((HE6.out.stored 0 _).stored 1 _) rfl ⟨_, _, rfl, below_att HB6.out (Nat.le_succ _) _ _⟩)
            · have hn3 : nd ≠ 3 := fun h => hall ⟨rfl, h⟩
              have d3 : ((nd : Int) != 3) = true := by simp; omega
              cases is_ <;> (go_wp2_with fail; rw [HNO.out]; exact ret_att rfl rfl rfl ((HE6.out.stored 0 _).stored 1 _) rfl ⟨_, _, rfl, below_att HB6.out (Nat.le_succ _) _ _⟩)
end Go.Proofs.YtmoefccfdnijpaaDoor
