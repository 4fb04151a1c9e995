/-
  Are two manifests one? The whole, both sides. Are two manifests one? The whole, both sides.
-/
import Derived.Test.YtdjklhglkmacbaaDoorLiA
namespace Go.Proofs.YtdjklhglkmacbaaDoor
open Go.RowKit
set_option linter.unusedVariables false
set_option linter.unusedSimpArgs false
attribute [local go_sem ↓] Go.wp_at_zero Go.wp_at_succ

def mvEq (a b : MV) : Bool := decide (a.name = b.name ∧ a.ctr = b.ctr ∧ a.files = b.files)
set_option maxRecDepth 100000 in
set_option maxHeartbeats 4000000 in
theorem mfSame_any (w : World) (m m2 : Mf) (h : MfP m w) (h2 : MfP m2 w) :
    Calls Tryd.prog 13 #[.agg (mcell m).toArray, .agg (mcell m2).toArray] w fun x w' => x = .returned (.bool (mvEq m.v m2.v)) ∧ Below w.heap.size w w' := by
  obtain ⟨r, HR⟩ : ∃ r, Hid (r = mvEq m.v m2.v) := ⟨_, rfl⟩
  rw [← HR.out]
  have hn1 := h.1
  have hn2 := h2.1
  have ho1 := h.2.1
  have ho2 := h2.2.1
  obtain ⟨name, ctr, fa, fc, files⟩ := m
  obtain ⟨name2, ctr2, fa2, fc2, files2⟩ := m2
  clear h h2
  have HRE : Hid (r = decide (name = name2 ∧ ctr = ctr2 ∧ files.map En.v = files2.map En.v)) := Lib.hid HR.out
  clear HR
  simp only [mcell] at *
  obtain ⟨fn, hfn⟩ : ∃ k, files.length = k := ⟨_, rfl⟩
  obtain ⟨fn2, hfn2⟩ : ∃ k, files2.length = k := ⟨_, rfl⟩
  rw [hfn, hfn2]
  have HPS : Hid (name = name2 → ((str name).toList == (str name2).toList) = true) := Lib.hid fun he => by rw [he]; exact str_same _
  have HPN : Hid (name ≠ name2 → ((str name).toList == (str name2).toList) = false) := Lib.hid fun he => str_ne ho1 ho2 he
  obtain ⟨u, hu⟩ : ∃ k, k = (ctr : Int) := ⟨_, rfl⟩
  obtain ⟨u2, hu2⟩ : ∃ k, k = (ctr2 : Int) := ⟨_, rfl⟩
  rw [← hu, ← hu2]
  have HUU : Hid (ctr = ctr2 ↔ u = u2) := Lib.hid (by rw [hu, hu2]; omega)
  have HLN : Hid (files.map En.v = files2.map En.v → fn = fn2) := Lib.hid fun he => by
    have := congrArg List.length he
    rw [List.length_map, List.length_map, hfn, hfn2] at this
    exact this
  generalize str name = s1 at *
  generalize str name2 = s2 at *
  have hq : Below w.heap.size w ((w.alloc (.cells #[.string s1, .int .u64 u, .slice fa fn fc] 25)).alloc (.cells #[.string s2, .int .u64 u2, .slice fa2 fn2 fc2] 25)) := ((Below.refl _ _).alloc (Nat.le_refl _) _).alloc (by simp) _
  have hA := (Holds.fresh w 25 #[.string s1, .int .u64 u, .slice fa fn fc]).alloc (.cells #[.string s2, .int .u64 u2, .slice fa2 fn2 fc2] 25)
  have hB := Holds.fresh (w.alloc (.cells #[.string s1, .int .u64 u, .slice fa fn fc] 25)) 25 #[.string s2, .int .u64 u2, .slice fa2 fn2 fc2]
  rw [show (w.alloc (.cells #[.string s1, .int .u64 u, .slice fa fn fc] 25)).heap.size = w.heap.size + 1 by simp] at hB
  have HQ := Lib.hid hq
  have HX := Lib.hid ((Off.of_n hn1).under hq)
  have HX2 := Lib.hid ((Off.of_n hn2).under hq)
  have HFN := Lib.hid hfn
  have HFN2 := Lib.hid hfn2
  have HA := Lib.hid hA
  have HB := Lib.hid hB
  have a0 := hA.cell 0
  have a1 := hA.cell 1
  have a2 := hA.cell 2
  have b0 := hB.cell 0
  have b1 := hB.cell 1
  have b2 := hB.cell 2
  have hfc := HX.out.at_.1.1
  have hfc63 := HX.out.at_.1.2.1
  have hfd := HX2.out.at_.1.1
  have hfd63 := HX2.out.at_.1.2.1
  rw [hfn] at hfc
  rw [hfn2] at hfd
  clear hn1 hn2 ho1 ho2 hu hu2 hq hA hB hfn hfn2
  by_cases hp : name = name2
  case neg =>
    have d := HPN.out hp
    have HE : Hid (r = false) := Lib.hid (by rw [HRE.out]; exact decide_eq_false fun h => hp h.1)
    clear hp
    go_enter Tryd.func13, Tryd.ntmps13
    go_wp2_with fail
    go_ret
    exact ⟨by rw [HE.out]; rfl, HQ.out⟩
  have d := HPS.out hp
  by_cases hc : u = u2
  case neg =>
    have d2 : (u == u2) = false := by rw [beq_eq_false_iff_ne]; exact hc
    have HE : Hid (r = false) := Lib.hid (by rw [HRE.out]; exact decide_eq_false fun h => hc (HUU.out.1 h.2.1))
    clear hp hc
    go_enter Tryd.func13, Tryd.ntmps13
    go_wp2_with fail
    go_ret
    exact ⟨by rw [HE.out]; rfl, HQ.out⟩
  have d2 : (u == u2) = true := by rw [beq_iff_eq]; exact hc
  have HC := equalF_any ((w.alloc (.cells #[.string s1, .int .u64 u, .slice fa fn fc] 25)).alloc (.cells #[.string s2, .int .u64 u2, .slice fa2 fn2 fc2] 25)) fa fa2 fc fc2 fn fn2 files files2 HX.out.at_ HX2.out.at_ HFN.out HFN2.out
  have HE : Hid (r = decide (files.map En.v = files2.map En.v)) := Lib.hid (by
    rw [HRE.out]
    exact decide_eq_decide.2 ⟨fun h => h.2.2, fun h => ⟨hp, HUU.out.2 hc, h⟩⟩)
  rw [← HE.out] at HC
  have HC := Lib.hid HC
  clear hp hc
  go_enter Tryd.func13, Tryd.ntmps13
  go_wp2_with fail
  refine HC.out.mono ?_
  rintro x w2 ⟨rfl, hb2⟩
  have HB2 := Lib.hid (HQ.out.trans (hb2.mono HQ.out.size))
  clear hb2
  go_wp2_with fail
  go_ret
  exact ⟨rfl, HB2.out⟩
end Go.Proofs.YtdjklhglkmacbaaDoor
namespace Go.Proofs.YtdjklhglkmacbaaDoor
open Go.RowKit
set_option linter.unusedVariables false
set_option linter.unusedSimpArgs false
attribute [local go_sem ↓] Go.wp_at_zero Go.wp_at_succ

set_option maxRecDepth 100000 in
set_option maxHeartbeats 16000000 in
theorem mfSame'_any (w : World) (m m2 : Mf) (h : MfP m w) (h2 : MfP m2 w) :
    Calls Tryd.prog 14 #[.agg (mcell m).toArray, .agg (mcell m2).toArray] w fun x w' => x = .returned (.bool (mvEq m.v m2.v)) ∧ Below w.heap.size w w' := by
  obtain ⟨r, HR⟩ : ∃ r, Hid (r = mvEq m.v m2.v) := ⟨_, rfl⟩
  rw [← HR.out]
  have hn1 := h.1
  have hn2 := h2.1
  have ho1 := h.2.1
  have ho2 := h2.2.1
  obtain ⟨name, ctr, fa, fc, files⟩ := m
  obtain ⟨name2, ctr2, fa2, fc2, files2⟩ := m2
  clear h h2
  have HRE : Hid (r = decide (name = name2 ∧ ctr = ctr2 ∧ files.map En.v = files2.map En.v)) := Lib.hid HR.out
  clear HR
  simp only [mcell] at *
  obtain ⟨fn, hfn⟩ : ∃ k, files.length = k := ⟨_, rfl⟩
  obtain ⟨fn2, hfn2⟩ : ∃ k, files2.length = k := ⟨_, rfl⟩
  rw [hfn, hfn2]
  have HPS : Hid (name = name2 → ((str name).toList == (str name2).toList) = true) := Lib.hid fun he => by rw [he]; exact str_same _
  have HPN : Hid (name ≠ name2 → ((str name).toList == (str name2).toList) = false) := Lib.hid fun he => str_ne ho1 ho2 he
  obtain ⟨u, hu⟩ : ∃ k, k = (ctr : Int) := ⟨_, rfl⟩
  obtain ⟨u2, hu2⟩ : ∃ k, k = (ctr2 : Int) := ⟨_, rfl⟩
  rw [← hu, ← hu2]
  have HUU : Hid (ctr = ctr2 ↔ u = u2) := Lib.hid (by rw [hu, hu2]; omega)
  have HLN : Hid (files.map En.v = files2.map En.v → fn = fn2) := Lib.hid fun he => by
    have := congrArg List.length he
    rw [List.length_map, List.length_map, hfn, hfn2] at this
    exact this
  generalize str name = s1 at *
  generalize str name2 = s2 at *
  have hq : Below w.heap.size w ((w.alloc (.cells #[.string s1, .int .u64 u, .slice fa fn fc] 25)).alloc (.cells #[.string s2, .int .u64 u2, .slice fa2 fn2 fc2] 25)) := ((Below.refl _ _).alloc (Nat.le_refl _) _).alloc (by simp) _
  have hA := (Holds.fresh w 25 #[.string s1, .int .u64 u, .slice fa fn fc]).alloc (.cells #[.string s2, .int .u64 u2, .slice fa2 fn2 fc2] 25)
  have hB := Holds.fresh (w.alloc (.cells #[.string s1, .int .u64 u, .slice fa fn fc] 25)) 25 #[.string s2, .int .u64 u2, .slice fa2 fn2 fc2]
  rw [show (w.alloc (.cells #[.string s1, .int .u64 u, .slice fa fn fc] 25)).heap.size = w.heap.size + 1 by simp] at hB
  have HQ := Lib.hid hq
  have HX := Lib.hid ((Off.of_n hn1).under hq)
  have HX2 := Lib.hid ((Off.of_n hn2).under hq)
  have HFN := Lib.hid hfn
  have HFN2 := Lib.hid hfn2
  have HA := Lib.hid hA
  have HB := Lib.hid hB
  have a0 := hA.cell 0
  have a1 := hA.cell 1
  have a2 := hA.cell 2
  have b0 := hB.cell 0
  have b1 := hB.cell 1
  have b2 := hB.cell 2
  have hfc := HX.out.at_.1.1
  have hfc63 := HX.out.at_.1.2.1
  have hfd := HX2.out.at_.1.1
  have hfd63 := HX2.out.at_.1.2.1
  rw [hfn] at hfc
  rw [hfn2] at hfd
  clear hn1 hn2 ho1 ho2 hu hu2 hq hA hB hfn hfn2
  by_cases hp : name = name2
  case neg =>
    have d := HPN.out hp
    have d' : (s1.toList != s2.toList) = true := by rw [bne, d]; rfl
    have HE : Hid (r = false) := Lib.hid (by rw [HRE.out]; exact decide_eq_false fun h => hp h.1)
    clear hp
    go_enter Tryd.func14, Tryd.ntmps14
    go_wp2_with fail
    go_ret
    exact ⟨by rw [HE.out]; rfl, HQ.out⟩
  have d := HPS.out hp
  have d' : (s1.toList != s2.toList) = false := by rw [bne, d]; rfl
  by_cases hc : u = u2
  case neg =>
    have d2 : (u == u2) = false := by rw [beq_eq_false_iff_ne]; exact hc
    have d2' : (u != u2) = true := by rw [bne, d2]; rfl
    have HE : Hid (r = false) := Lib.hid (by rw [HRE.out]; exact decide_eq_false fun h => hc (HUU.out.1 h.2.1))
    clear hp hc
    go_enter Tryd.func14, Tryd.ntmps14
    go_wp2_with fail
    go_ret
    exact ⟨by rw [HE.out]; rfl, HQ.out⟩
  have d2 : (u == u2) = true := by rw [beq_iff_eq]; exact hc
  have d2' : (u != u2) = false := by rw [bne, d2]; rfl
  by_cases hl : fn = fn2
  case neg =>
    have d3 : ((fn : Int) != (fn2 : Int)) = true := by rw [bne_iff_ne]; omega
    have HE : Hid (r = false) := Lib.hid (by rw [HRE.out]; exact decide_eq_false fun h => hl (HLN.out h.2.2))
    clear hp hc hl
    go_enter Tryd.func14, Tryd.ntmps14
    go_wp2_with fail
    go_ret
    exact ⟨by rw [HE.out]; rfl, HQ.out⟩
  subst hl
  have HRF : Hid (r = decide (files.map En.v = files2.map En.v)) := Lib.hid (by
    rw [HRE.out]
    exact decide_eq_decide.2 ⟨fun h => h.2.2, fun h => ⟨hp, HUU.out.2 hc, h⟩⟩)
  obtain ⟨V, hV⟩ : ∃ V, V = ((w.alloc (.cells #[.string s1, .int .u64 u, .slice fa fn fc] 25)).alloc (.cells #[.string s2, .int .u64 u2, .slice fa2 fn fc2] 25)) := ⟨_, rfl⟩
  rw [← hV] at HQ HX HX2 HA HB
  have HV := Lib.hid hV
  have HQW : Hid (w.heap.size + 1 < V.heap.size) := Lib.hid HB.out.lt
  clear hV hp hc
  go_enter Tryd.func14, Tryd.ntmps14
  go_wp2_with fail
  rw [← HV.out]
  clear HV a0 a1 a2 b0 b1 b2 d d' d2 d2'
  go_loopw [5] (fun iv wr => ∃ i : Nat, i ≤ fn ∧ iv = .int .i64 (i : Int) ∧ Hid (∀ j, j < i → (files.getD j default).v = (files2.getD j default).v) ∧ Below V.heap.size V wr) (fun iv _ => fn - (intOf iv).toNat)
  case atStart => exact ⟨0, by omega, rfl, fun j hj => by omega, Below.refl _ _⟩
  case round =>
    obtain ⟨i, hi, rfl, HS, hBr⟩ := hrel
    have a2 := (HA.out.under hBr HA.out.lt).cell 2
    have b2 := (HB.out.under hBr HB.out.lt).cell 2
    have HBB := Lib.hid (HQ.out.trans (hBr.mono HQ.out.size))
    have HB3 := Lib.hid hBr
    by_cases hlt : i < fn
    · have hx := (HX.out.under hBr).at_
      have hx2 := (HX2.out.under hBr).at_
      obtain ⟨g, off, rfl, hg, hcs⟩ := hx.1.2.2 (by rw [HFN.out]; omega)
      obtain ⟨g2, off2, rfl, hg2, hcs2⟩ := hx2.1.2.2 (by rw [HFN2.out]; omega)
      obtain ⟨c0, c1, c2'⟩ := hcs i (by rw [HFN.out]; exact hlt)
      obtain ⟨f0, f1, f2⟩ := hcs2 i (by rw [HFN2.out]; exact hlt)
      have hxe := hx.at_ (by rw [HFN.out]; exact hlt)
      have hxe2 := hx2.at_ (by rw [HFN2.out]; exact hlt)
      have HST : Hid ((files.getD i default).v = (files2.getD i default).v → ∀ j, j < i + 1 → (files.getD j default).v = (files2.getD j default).v) := Lib.hid fun he j hj => by
        rcases Nat.lt_or_ge j i with h3 | h3
        · exact HS.out j h3
        · obtain rfl : j = i := by omega
          exact he
      have HNE : Hid ((files.getD i default).v ≠ (files2.getD i default).v → r = false) := Lib.hid fun he => by
        rw [HRF.out]
        exact decide_eq_false (map_ne (by rw [HFN.out]; exact hlt) he (by rw [HFN.out, HFN2.out]))
      obtain ⟨e, he⟩ : ∃ e, e = files.getD i default := ⟨_, rfl⟩
      obtain ⟨e2, he2⟩ : ∃ e, e = files2.getD i default := ⟨_, rfl⟩
      rw [← he] at c0 c1 c2' hxe HST HNE
      rw [← he2] at f0 f1 f2 hxe2 HST HNE
      clear he he2 hcs hcs2 hx hx2 hBr
      obtain ⟨pa, sz, da, dc, dig⟩ := e
      obtain ⟨pa2, sz2, da2, dc2, dig2⟩ := e2
      obtain ⟨hr1, ho1, hop1⟩ := hxe
      obtain ⟨hr2, ho2, hop2⟩ := hxe2
      dsimp only at c0 c1 c2' f0 f1 f2 hr1 ho1 hop1 hr2 ho2 hop2
      obtain ⟨n1, hn1⟩ : ∃ n1, dig.length = n1 := ⟨_, rfl⟩
      obtain ⟨n2, hn2⟩ : ∃ n2, dig2.length = n2 := ⟨_, rfl⟩
      rw [hn1] at c2'
      rw [hn2] at f2
      have k1 : ∀ k, (convert 28 9 (.slice da n1 dc)).run Tryd.prog (wr.drewN k) = .ok (.string (str dig)) (wr.drewN k) := fun k => conv_str (hr1.drewN k) hn1 ho1
      have k2 : ∀ k, (convert 28 9 (.slice da2 n2 dc2)).run Tryd.prog (wr.drewN k) = .ok (.string (str dig2)) (wr.drewN k) := fun k => conv_str (hr2.drewN k) hn2 ho2
      have HPS : Hid (pa = pa2 → ((str pa).toList == (str pa2).toList) = true) := Lib.hid fun he => by rw [he]; exact str_same _
      have HPN : Hid (pa ≠ pa2 → ((str pa).toList == (str pa2).toList) = false) := Lib.hid fun he => str_ne hop1 hop2 he
      have HDS : Hid (dig = dig2 → ((str dig).toList == (str dig2).toList) = true) := Lib.hid fun he => by rw [he]; exact str_same _
      have HDN : Hid (dig ≠ dig2 → ((str dig).toList == (str dig2).toList) = false) := Lib.hid fun he => str_ne ho1 ho2 he
      have HNE : Hid ((pa = pa2 ∧ sz = sz2 ∧ dig = dig2 → False) → r = false) := Lib.hid fun he => HNE.out fun h => he (en_eq.1 h)
      have HST : Hid (pa = pa2 ∧ sz = sz2 ∧ dig = dig2 → ∀ j, j < i + 1 → (files.getD j default).v = (files2.getD j default).v) := Lib.hid fun h => HST.out (en_eq.2 h)
      generalize str pa = q1 at *
      generalize str pa2 = q2 at *
      generalize str dig = q3 at *
      generalize str dig2 = q4 at *
      clear hr1 ho1 hop1 hr2 ho2 hop2 hn1 hn2 hg hg2
      by_cases hpp : pa = pa2
      case neg =>
        have d := HPN.out hpp
        have d' : (q1.toList != q2.toList) = true := by rw [bne, d]; rfl
        have HE : Hid (r = false) := Lib.hid (HNE.out fun he => hpp he.1)
        go_wp2_with fail
        go_quiet (fail)
        go_wp2_with fail
        go_ret
        exact ⟨by rw [HE.out]; rfl, below_drewN HBB.out _⟩
      have d := HPS.out hpp
      have d' : (q1.toList != q2.toList) = false := by rw [bne, d]; rfl
      by_cases hss : sz = sz2
      case neg =>
        have d2 : (sz == sz2) = false := by rw [beq_eq_false_iff_ne]; exact hss
        have d2' : (sz != sz2) = true := by rw [bne, d2]; rfl
        have HE : Hid (r = false) := Lib.hid (HNE.out fun he => hss he.2.1)
        go_wp2_with fail
        go_quiet (fail)
        go_wp2_with fail
        go_ret
        exact ⟨by rw [HE.out]; rfl, below_drewN HBB.out _⟩
      have d2 : (sz == sz2) = true := by rw [beq_iff_eq]; exact hss
      have d2' : (sz != sz2) = false := by rw [bne, d2]; rfl
      by_cases hdd : dig = dig2
      case neg =>
        have d3 := HDN.out hdd
        have d3' : (q3.toList != q4.toList) = true := by rw [bne, d3]; rfl
        have HE : Hid (r = false) := Lib.hid (HNE.out fun he => hdd he.2.2)
        go_wp2_with fail
        go_quiet (fail)
        go_wp2_with fail
        go_ret
        exact ⟨by rw [HE.out]; rfl, below_drewN HBB.out _⟩
      have d3 := HDS.out hdd
      have d3' : (q3.toList != q4.toList) = false := by rw [bne, d3]; rfl
      have HC := Lib.hid (HST.out ⟨hpp, hss, hdd⟩)
      clear hpp hss hdd
      go_wp2_with fail
      go_quiet (fail)
      go_wp2_with fail
      go_roundw
      case rel => exact ⟨i + 1, by omega, by go_num, HC, below_drewN HB3.out _⟩
      case measure => simp [intOf]; omega
    · obtain rfl : i = fn := by omega
      have HE : Hid (r = true) := Lib.hid (by
        rw [HRF.out]
        exact decide_eq_true (map_eq (by rw [HFN.out, HFN2.out]) fun j hj => HS.out j (by rw [HFN.out] at hj; exact hj)))
      have hf : decide ((i : Int) < (i : Int)) = false := decide_eq_false (by omega)
      clear hBr
      go_wp2_with fail
      go_ret
      exact ⟨by rw [HE.out]; rfl, HBB.out⟩
end Go.Proofs.YtdjklhglkmacbaaDoor
