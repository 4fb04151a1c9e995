/-
  A thing's extensions: by the document.
-/
import Derived.Test.YtaemjgemkgiahaaEx8
namespace Go.Proofs.Ytaemjgemkgiahaa
open Go.RowKit
set_option linter.unusedVariables false
set_option linter.unusedSimpArgs false
attribute [local go_sem ↓] Go.wp_at_zero Go.wp_at_succ

def octOf (p : Tr) : List Nat := if heldOk p.tag p.kids.length 4 = true then p.body else []
theorem octOf_lt (t : Lt) : octOf t.t = (if heldOk t.tag t.kids.length 4 = true then some t.body else none).getD [] := by
  obtain ⟨h1, h2, h3⟩ := t_parts t
  unfold octOf
  rw [h1, h2, h3, List.length_map]
  split <;> rfl
def oneT' (t : Tr) : Option EV :=
  if (psOf t).length < 2 then none
  else some ⟨idOf ((psOf t).getD 0 default), decide ((psOf t).length = 3), octOf ((psOf t).getD ((psOf t).length - 1) default)⟩
theorem one_ex' {e : EV} (h : idOk e.id = true) : oneT' (exTr e) = some e := by
  obtain ⟨id, cr, val⟩ := e
  have hp : parted 48 = true := rfl
  have hps : psOf (exTr ⟨id, cr, val⟩) = exParts ⟨id, cr, val⟩ := by
    unfold psOf exTr
    simp [Tr.tag, Tr.body, Tr.kids, seqOk, hp]
  have hid : idOf (.mk 6 id []) = id := by
    unfold idOf
    show (if (heldOk 6 0 6 && idOk id) = true then id else []) = id
    rw [show idOk id = true from h]
    rfl
  have hoc : octOf (.mk 4 val []) = val := rfl
  unfold oneT'
  rw [hps]
  cases cr <;> simp [exParts, hid, hoc]
theorem exs_read' {l l0 : List EV} (h : exIs l = true) {ks : List Tr} (hk : ks = l.map exTr) (hl : l0.length = ks.length) (ho : ∀ j, j < ks.length → oneT' (ks.getD j default) = some (l0.getD j default)) : l0 = l := by
  subst hk
  rw [List.length_map] at hl ho
  refine List.ext_getElem hl fun j h1 h2 => ?_
  have h3 := ho j h2
  rw [show (l.map exTr).getD j default = exTr (l.getD j default) by simp [List.getD, h2], one_ex' (exs_ids h j h2)] at h3
  injection h3 with h3
  simpa [List.getD, h1, h2] using h3.symm
set_option maxRecDepth 100000 in
set_option maxHeartbeats 16000000 in
theorem getX'_any (w : World) (t : Lt) (h : Off [] (ThP t) w) (hf : FitX t.t) :
    Calls Try.prog 18 #[t.val] w (GetXPost w t.t) := by
  obtain ⟨T, hT⟩ : ∃ T, T = t.t := ⟨_, rfl⟩
  rw [← hT]
  have HTH := Lib.hid h
  have HTT := Lib.hid hT
  have HVAL : Hid (t.val = .agg #[.int .u8 (t.tag : Int), .slice t.ba t.body.length t.bc, .slice t.ka t.kids.length t.kc]) := Lib.hid rfl
  have HF := Lib.hid hf
  have hko : Off [] (KiP t.ka t.kc t.kids) w := by
    obtain ⟨tag, ba, bc, body, ka, kc, kids⟩ := t
    exact kids_off h
  have hkl : t.kids.length ≤ 100000 := by have := hf.1; rw [(t_parts t).2.2, List.length_map] at this; omega
  have HTK : Hid (T.kids = t.kids.map Lt.t ∧ seqOk T.tag T.body.length 48 = seqOk t.tag t.body.length 48) := Lib.hid (by rw [hT, (t_parts t).1, (t_parts t).2.1, (t_parts t).2.2]; exact ⟨rfl, rfl⟩)
  rw [HVAL.out]
  obtain ⟨ks, hks⟩ : ∃ ks, ks = t.kids := ⟨_, rfl⟩
  have HKS := Lib.hid hks
  rw [← hks] at hko hkl HTK HVAL ⊢
  clear h hT hf hks
  generalize t.tag = tag at *
  generalize t.ba = ba at *
  generalize t.bc = bc at *
  generalize t.body.length = n at *
  generalize t.ka = ka at *
  generalize t.kc = kc at *
  obtain ⟨kn, hkn⟩ : ∃ k, k = ks.length := ⟨_, rfl⟩
  have HKN := Lib.hid hkn
  rw [← hkn] at hkl HVAL ⊢
  have hH1 := Holds.fresh w 35 #[.int .u8 (tag : Int), .slice ba n bc, .slice ka kn kc]
  have HH1 := Lib.hid hH1
  have HB1 : Hid (Below w.heap.size w (w.alloc (.cells #[.int .u8 (tag : Int), .slice ba n bc, .slice ka kn kc] 35))) := Lib.hid ((Below.refl _ _).alloc (Nat.le_refl _) _)
  have hk1 := hko.alloc (.cells #[.int .u8 (tag : Int), .slice ba n bc, .slice ka kn kc] 35)
  have HGS := Lib.hid (getSeq'_any _ [] tag n bc kn kc 48 ba ka ks hk1 hkn.symm (by omega))
  have c0 := hH1.cell 0
  have c1 := hH1.cell 1
  have c2 := hH1.cell 2
  clear hko hkn hH1 hk1
  rcases hsq : seqOk tag n 48 with _ | _
  case false =>
    have HNO : Hid (∀ l : List EV, exIs l = true → exsTr l ≠ T) := Lib.hid fun l _ h2 => by
      have := (exs_parts h2).1
      rw [HTK.out.2, hsq] at this
      cases this
    rw [hsq] at HGS
    go_enter Try.func18, Try.ntmps18
    go_wp2_with fail
    refine HGS.out.mono ?_
    rintro e w3 ⟨rfl, hb3⟩
    have HB3 := Lib.hid (HB1.out.trans (hb3.mono HB1.out.size))
    clear hb3 HGS
    go_wp2_with fail
    go_ret2
    exact getX_no HNO.out HB3.out
  rw [hsq] at HGS
  have HSQ := Lib.hid hsq
  clear hsq
  by_cases h12 : 12 < kn
  case pos =>
    have HNO : Hid (∀ l : List EV, exIs l = true → exsTr l ≠ T) := Lib.hid fun l h1 h2 => by
      have h3 := (exs_parts h2).2
      rw [HTK.out.1] at h3
      have h4 := congrArg List.length h3
      rw [List.length_map, List.length_map, ← HKN.out] at h4
      have := (exIs_iff.1 h1).1
      omega
    have d1 : decide ((12 : Int) < (kn : Int)) = true := decide_eq_true (by omega)
    go_enter Try.func18, Try.ntmps18
    go_wp2_with fail
    refine HGS.out.mono ?_
    rintro e w3 ⟨A3, c3, rfl, hk3, hb3⟩
    rw [← HKN.out]
    have HB3 := Lib.hid (HB1.out.trans (hb3.mono HB1.out.size))
    clear hb3 HGS hk3
    go_wp2_with fail
    go_ret2
    exact getX_no HNO.out HB3.out
  have d1 : decide ((12 : Int) < (kn : Int)) = false := decide_eq_false (by omega)
  go_enter Try.func18, Try.ntmps18
  go_wp2_with fail
  refine HGS.out.mono ?_
  rintro e w3 ⟨A3, c3, rfl, hk3, hb3⟩
  rw [← HKN.out]
  have HB3 := Lib.hid (HB1.out.trans (hb3.mono HB1.out.size))
  have HH3 := Lib.hid (HH1.out.under hb3 HH1.out.lt)
  have HK3 := Lib.hid hk3
  have hmc : kn ≤ c3 := by rw [HKN.out]; exact hk3.at_.1.1
  have hc63 := hk3.at_.1.2.1
  clear hb3 HGS hk3 c0 c1 c2 d1
  go_wp2_with fail
  go_loopw [6, 7] (fun lv iv wr => ∃ (i : Nat) (A : Option Addr) (c : Nat) (l : List Ex), i ≤ kn ∧ iv = .int .i64 (i : Int) ∧ lv = .slice A i c ∧ Exts A c i l wr ∧ Hid (∀ j, j < i → oneT' (ks.getD j default).t = some (l.getD j default).v) ∧ Hid (∀ g, blockOf A = some g → w3.heap.size ≤ g) ∧ Below w3.heap.size w3 wr) (fun _ iv _ => kn - (intOf iv).toNat)
  case atStart => exact ⟨0, none, 0, [], by omega, rfl, rfl, Exts.nil _, fun j hj => by omega, fun g hg => by simp [blockOf] at hg, Below.refl _ _⟩
  case round =>
    obtain ⟨i, A, c, l, hi, rfl, rfl, hE, HA, HG, hB⟩ := hrel
    have HB := Lib.hid hB
    have HE := Lib.hid hE
    clear hB hE
    by_cases hlt : i < kn
    · have hk4 := HK3.out.under HB.out
      obtain ⟨g, off, rfl, hg, hcs⟩ := hk4.at_.1.2.2 (by rw [← HKN.out]; omega)
      obtain ⟨q0, q1, q2⟩ := hcs i (by rw [← HKN.out]; exact hlt)
      have hti := off_nodes hk4 (j := i) (by rw [← HKN.out]; exact hlt)
      have HFI : Hid (FitK (ks.getD i default).t) := Lib.hid (by
        refine HF.out.2 _ ?_
        rw [(t_parts t).2.2, ← HKS.out]
        exact List.mem_map_of_mem (getD_mem (by rw [← HKN.out]; exact hlt)))
      obtain ⟨q, hq⟩ : ∃ q, q = ks.getD i default := ⟨_, rfl⟩
      rw [← hq] at q0 q1 q2 hti HFI
      have HQ := Lib.hid hq
      clear hq hcs hk4
      have HTQ : Hid (oneT' (ks.getD i default).t = oneT' q.t) := Lib.hid (by rw [HQ.out])
      obtain ⟨qs, hqs⟩ : ∃ qs, qs = qsOf q := ⟨_, rfl⟩
      have HPS : Hid (psOf q.t = qs.map Lt.t) := Lib.hid (by rw [ps_qs, hqs])
      have HFQ : Hid (∀ x ∈ qs, x.t.body.length ≤ 12000) := Lib.hid fun x hx => HFI.out.2 x.t (by rw [(t_parts q).2.2]; exact List.mem_map_of_mem (qs_mem (by rw [← hqs]; exact hx)))
      have hGS : Calls Try.prog 41 #[.agg #[.int .u8 (q.tag : Int), .slice q.ba q.body.length q.bc, .slice q.ka q.kids.length q.kc], .int .u8 48] wr fun e w' => ∃ A c, e = .returned (.tuple #[.slice A qs.length c, .bool (seqOk q.tag q.body.length 48)]) ∧ Off [] (KiP A c qs) w' ∧ Below wr.heap.size wr w' := by
        have hqo : Off [] (KiP q.ka q.kc q.kids) wr := by
          obtain ⟨t1, t2, t3, t4, t5, t6, t7⟩ := q
          exact kids_off hti
        exact (getSeq'_any wr [] q.tag q.body.length q.bc q.kids.length q.kc 48 q.ba q.ka q.kids hqo rfl (by omega)).mono fun _ _ hh => by rw [hqs]; exact SeqPost.one hh
      have HGS := Lib.hid hGS
      have hqz : seqOk q.tag q.body.length 48 = false → qs = [] := fun h => by rw [hqs]; unfold qsOf; rw [h]; rfl
      clear hqs hGS hti HFI
      generalize q.tag = qt at *
      generalize q.ba = qa at *
      generalize q.bc = qc at *
      generalize q.body.length = qn at *
      generalize q.ka = qk at *
      generalize q.kids.length = qm at *
      generalize q.kc = qd at *
      have HQZ := Lib.hid hqz
      clear hqz
      go_wp2_with fail
      refine HGS.out.mono ?_
      rintro e w5 ⟨A5, c5, rfl, hk5, hb5⟩
      have HK5 := Lib.hid hk5
      have HQ5 := Lib.hid hb5
      obtain ⟨m, hm⟩ : ∃ m, m = qs.length := ⟨_, rfl⟩
      have HM := Lib.hid hm
      rw [← hm]
      have hmc5 : m ≤ c5 := by rw [hm]; exact hk5.at_.1.1
      have hc563 := hk5.at_.1.2.1
      clear hb5 hk5 hm HGS q0 q1 q2
      by_cases hm2 : m < 2
      case pos =>
        have HNO : Hid (∀ l : List EV, exIs l = true → exsTr l ≠ T) := Lib.hid fun l2 h1 h2 => by
          have h3 := (exs_parts h2).2
          rw [HTK.out.1] at h3
          have h4 : (ks.map Lt.t).getD i default = (l2.map exTr).getD i default := by rw [h3]
          have hl2 : i < l2.length := by have h5 := congrArg List.length h3; rw [List.length_map, List.length_map, ← HKN.out] at h5; omega
          rw [Lt.ts_at (by rw [← HKN.out]; exact hlt), show (l2.map exTr).getD i default = exTr (l2.getD i default) by simp [List.getD, hl2]] at h4
          have h6 := one_ex' (exs_ids h1 i hl2)
          rw [← h4, HTQ.out] at h6
          unfold oneT' at h6
          rw [if_pos (by rw [HPS.out, List.length_map, ← HM.out]; exact hm2)] at h6
          cases h6
        have HB5 := Lib.hid (HB3.out.trans ((HB.out.trans (HQ5.out.mono HB.out.size)).mono HB3.out.size))
        have d2 : decide ((m : Int) < 2) = true := decide_eq_true (by omega)
        generalize seqOk qt qn 48 = sq at *
        cases sq
        all_goals
          go_wp2_with fail
          go_ret2
          exact getX_no HNO.out HB5.out
      have d2 : decide ((m : Int) < 2) = false := decide_eq_false (by omega)
      have hsqt : seqOk qt qn 48 = true := by
        rcases h : seqOk qt qn 48 with _ | _
        · have := HQZ.out h
          have := HM.out
          subst_vars
          simp at hm2
        · rfl
      rw [hsqt]
      clear hsqt
      obtain ⟨g5, off5, rfl, hg5, hcs5⟩ := HK5.out.at_.1.2.2 (by rw [← HM.out]; omega)
      have p0 := hcs5 0 (by rw [← HM.out]; omega)
      have pl := hcs5 (m - 1) (by rw [← HM.out]; omega)
      have t0 := (HK5.out.at_.2 _ (getD_mem (l := qs) (j := 0) (by rw [← HM.out]; omega))).open_
      have hpl := fun W (hW : Below w5.heap.size w5 W) => (((HK5.out.under hW).at_.2 _ (getD_mem (l := qs) (j := m - 1) (by rw [← HM.out]; omega))).open_)
      have HD0 : Hid ((psOf q.t).getD 0 default = (qs.getD 0 default).t) := Lib.hid (by rw [HPS.out]; exact Lt.ts_at (by rw [← HM.out]; omega))
      have HDL : Hid ((psOf q.t).getD ((psOf q.t).length - 1) default = (qs.getD (m - 1) default).t) := Lib.hid (by rw [HPS.out, List.length_map, ← HM.out]; exact Lt.ts_at (by rw [← HM.out]; omega))
      have hb12 : (qs.getD (m - 1) default).body.length ≤ 12000 := by
        have := HFQ.out _ (getD_mem (l := qs) (j := m - 1) (by rw [← HM.out]; omega))
        rwa [(t_parts _).2.1] at this
      have hb10 : (qs.getD 0 default).body.length ≤ 12000 := by
        have := HFQ.out _ (getD_mem (l := qs) (j := 0) (by rw [← HM.out]; omega))
        rwa [(t_parts _).2.1] at this
      have HONE : Hid (oneT' q.t = some ⟨(if (heldOk (qs.getD 0 default).tag (qs.getD 0 default).kids.length 6 && idOk (qs.getD 0 default).body) = true then some (qs.getD 0 default).body else none).getD [], decide (m = 3), (if heldOk (qs.getD (m - 1) default).tag (qs.getD (m - 1) default).kids.length 4 = true then some (qs.getD (m - 1) default).body else none).getD []⟩) := Lib.hid (by
        unfold oneT'
        rw [if_neg (by rw [HPS.out, List.length_map, ← HM.out]; omega), HD0.out, HDL.out, idOf_lt, octOf_lt, HPS.out, List.length_map, ← HM.out])
      obtain ⟨z0, hz0⟩ : ∃ q, q = qs.getD 0 default := ⟨_, rfl⟩
      obtain ⟨zl, hzl⟩ : ∃ q, q = qs.getD (m - 1) default := ⟨_, rfl⟩
      rw [← hz0] at p0 t0 HONE hb10
      rw [← hzl] at pl hpl HONE hb12
      clear hz0 hzl hcs5 HD0 HDL HPS HFQ
      obtain ⟨p00, p01, p02⟩ := p0
      rw [show off5 + 0 * 3 = off5 by omega] at p00 p01 p02
      obtain ⟨x0, b0a, b0c, b0, k0a, k0c, k0⟩ := z0
      obtain ⟨xl, bla, blc, bll, kla, klc, kl⟩ := zl
      dsimp only [Lt.tag, Lt.ba, Lt.bc, Lt.body, Lt.ka, Lt.kc, Lt.kids] at p00 p01 p02 pl hpl HONE hb12 hb10 t0
      obtain ⟨n0, hn0⟩ : ∃ n, b0.length = n := ⟨_, rfl⟩
      obtain ⟨m0, hm0⟩ : ∃ n, k0.length = n := ⟨_, rfl⟩
      obtain ⟨nl, hnl⟩ : ∃ n, bll.length = n := ⟨_, rfl⟩
      obtain ⟨ml, hml⟩ : ∃ n, kl.length = n := ⟨_, rfl⟩
      rw [hn0] at p01 hb10
      simp only [hm0] at p02 HONE
      rw [hnl] at pl hb12
      simp only [hml] at pl HONE
      have HG0 := Lib.hid ((getID'_any w5 x0 n0 b0c m0 k0c w5.heap.size b0a k0a b0 t0.1 hn0 (Nat.le_refl _) t0.2.1 (by omega)).mono fun _ _ hh => GetB.one hh)
      have HGL : Hid (∀ W, Below w5.heap.size w5 W → Calls Try.prog 43 #[.agg #[.int .u8 (xl : Int), .slice bla nl blc, .slice kla ml klc]] W fun e w' => ∃ A c, e = .returned (.tuple #[.slice A ((if heldOk xl ml 4 = true then some bll else none).getD []).length c, .bool (if heldOk xl ml 4 = true then some bll else none).isSome]) ∧ Mine 5 w' W.heap.size A c ((if heldOk xl ml 4 = true then some bll else none).getD []) ∧ Below W.heap.size W w') := Lib.hid fun W hW => (getOct'_any W xl nl blc ml klc W.heap.size bla kla bll (hpl W hW).1 hnl (Nat.le_refl _) (by omega)).mono fun _ _ hh => GetB.one hh
      have HOI : Hid (∀ x ∈ (if (heldOk x0 m0 6 && idOk b0) = true then some b0 else none).getD [], x < 256) := Lib.hid fun x hx => by
        split at hx
        · exact t0.2.1 x hx
        · cases hx
      have HOV : Hid (∀ x ∈ (if heldOk xl ml 4 = true then some bll else none).getD [], x < 256) := Lib.hid fun x hx => by
        split at hx
        · exact (hpl w5 (Below.refl _ _)).2.1 x hx
        · cases hx
      have HCL : Hid (∀ W, Below w5.heap.size w5 W → W.cell? ⟨g5, off5 + (m - 1) * 3, none⟩ = some (.int .u8 (xl : Int)) ∧ W.cell? ⟨g5, off5 + (m - 1) * 3 + 1, none⟩ = some (.slice bla nl blc) ∧ W.cell? ⟨g5, off5 + (m - 1) * 3 + 2, none⟩ = some (.slice kla ml klc)) := Lib.hid fun W hW => ⟨(hW.cell (p := ⟨g5, _, none⟩) hg5).trans pl.1, (hW.cell (p := ⟨g5, _, none⟩) hg5).trans pl.2.1, (hW.cell (p := ⟨g5, _, none⟩) hg5).trans pl.2.2⟩
      clear t0 hpl pl hn0 hm0 hnl hml
      generalize (if (heldOk x0 m0 6 && idOk b0) = true then some b0 else none) = o1 at *
      generalize (if heldOk xl ml 4 = true then some bll else none) = o2 at *
      obtain ⟨id, hid⟩ : ∃ b, b = o1.getD [] := ⟨_, rfl⟩
      obtain ⟨val, hval⟩ : ∃ b, b = o2.getD [] := ⟨_, rfl⟩
      rw [← hid] at HG0 HOI HONE
      rw [← hval] at HGL HOV HONE
      obtain ⟨s1, hs1⟩ : ∃ s, s = o1.isSome := ⟨_, rfl⟩
      obtain ⟨s2, hs2⟩ : ∃ s, s = o2.isSome := ⟨_, rfl⟩
      rw [← hs1] at HG0
      rw [← hs2] at HGL
      obtain ⟨n1, hn1⟩ : ∃ n1, n1 = id.length := ⟨_, rfl⟩
      obtain ⟨n2, hn2⟩ : ∃ n2, n2 = val.length := ⟨_, rfl⟩
      rw [← hn1] at HG0
      rw [← hn2] at HGL
      have HN1 := Lib.hid hn1
      have HN2 := Lib.hid hn2
      clear hid hval hs1 hs2 hn1 hn2
      obtain ⟨cr, hcr⟩ : ∃ b, b = decide (m = 3) := ⟨_, rfl⟩
      rw [← hcr] at HONE
      have q3 : ((m : Int) == 3) = cr := by
        rw [hcr, Bool.eq_iff_iff, beq_iff_eq, decide_eq_true_iff]; omega
      clear hcr
      go_wp2_with fail
      refine HG0.out.mono ?_
      rintro e w6 ⟨ia, ic, rfl, hm6, hb6⟩
      have HQ6 := Lib.hid (HQ5.out.trans (hb6.mono HQ5.out.size))
      have HM6 := Lib.hid hm6
      have HGL6 := Lib.hid (HGL.out w6 hb6)
      have H56 := Lib.hid hb6
      obtain ⟨l0, l1, l2⟩ := HCL.out w6 hb6
      clear hm6 hb6 HG0 HGL HCL p00 p01 p02
      go_wp2_with fail
      refine HGL6.out.mono ?_
      rintro e w7 ⟨va, vc, rfl, hm7, hb7⟩
      have hb17 := HQ6.out.trans (hb7.mono HQ6.out.size)
      have hq8 : Below w7.heap.size w7 (w7.alloc (.cells #[.slice ia n1 ic, .bool cr, .slice va n2 vc] 26)) := (Below.refl _ _).alloc (Nat.le_refl _) _
      have hb18 := hb17.trans (hq8.mono hb17.size)
      have HB7 := Lib.hid (HB.out.trans (hb18.mono HB.out.size))
      have HE7 := Lib.hid (HE.out.under hb18)
      have hnb : ∀ x ∈ bl A, x < wr.heap.size := fun x hx => HE.out.lt (mem_bl.1 hx)
      have hr6 : Off (bl A) (fun W => Rd .u8 W W.heap.size ia ic id) w7 := (Off.of_mine HM6.out (fun g hg hx => by have := (HM6.out.block hg).1; have := hnb g hx; have := HQ5.out.size; omega)).under hb7
      have hr7 : Off (bl A) (fun W => Rd .u8 W W.heap.size va vc val) w7 := Off.of_mine hm7 (fun g hg hx => by have := (hm7.block hg).1; have := hnb g hx; have := HQ6.out.size; omega)
      have HO7 : Hid (Off (bl A) (ExP ⟨ia, ic, id, cr, va, vc, val⟩) (w7.alloc (.cells #[.slice ia n1 ic, .bool cr, .slice va n2 vc] 26))) := Lib.hid (((hr6.and hr7).imp fun _ hh => ⟨hh.1, HOI.out, hh.2, HOV.out⟩).alloc _)
      have hfx : Holds (w7.alloc (.cells #[.slice ia n1 ic, .bool cr, .slice va n2 vc] 26)) w7.heap.size 26 [.slice ia n1 ic, .bool cr, .slice va n2 vc].toArray := Holds.fresh _ _ _
      have HFX := Lib.hid hfx
      have HOW := Lib.hid HE7.out.own
      clear hb7 hm7 hb17 hq8 hb18 hnb hr6 hr7 hfx HGL6 l0 l1 l2
      go_wp2_with (first | (at_builtin; refine wpList_pushV _ rfl (.tmp 64) (.tmp 71) 22 rfl 26 _ 3 56 Try.underlying22 info_ext rfl (by omega) (by omega) rfl HOW.out (cs := [.slice ia n1 ic, .bool cr, .slice va n2 vc]) rfl rfl one6x HFX.out (by omega) ?_; intro g9 c9 W9 ho9 hg9 hat9 hlt9))
      have HE9 := Lib.hid (HE7.out.push HO7.out (by rw [← HN1.out, ← HN2.out]; exact ho9) hg9 hat9)
      have HB9 := Lib.hid (below_own HB7.out hg9 HG.out (Nat.le_refl _))
      have HG9 : Hid (∀ g, blockOf (some (⟨g9, 0, none⟩ : Addr)) = some g → w3.heap.size ≤ g) := Lib.hid fun g hg => by
        rcases hat9 with h | h
        · exact HG.out g (h.trans (by simpa [blockOf] using hg))
        · have e : g9 = g := by simpa [blockOf] using hg
          have := HB7.out.size
          omega
      have HA9 : Hid (∀ j, j < i + 1 → oneT' (ks.getD j default).t = some ((l ++ [(⟨ia, ic, id, cr, va, vc, val⟩ : Ex)]).getD j default).v) := Lib.hid fun j hj => by
        have hl := HE.out.len
        rcases Nat.lt_or_ge j i with h3 | h3
        · rw [HA.out j h3]
          simp [List.getD, List.getElem?_append_left (show j < l.length by omega)]
        · obtain rfl : j = i := by omega
          rw [HTQ.out, HONE.out]
          simp [List.getD, hl, Ex.v]
      clear ho9 hg9 hat9 HOW HFX HE7
      go_wp2_with fail
      go_roundw
      case rel => exact ⟨i + 1, _, _, _, by omega, by go_num, rfl, HE9.out, HA9.out, HG9.out, HB9.out⟩
      case measure => simp [intOf]; omega
    · obtain rfl : i = kn := by omega
      have HLL : Hid (l.length = i) := Lib.hid HE.out.len
      have HRD : Hid (∀ l2 : List EV, exIs l2 = true → exsTr l2 = T → l.map Ex.v = l2) := Lib.hid fun l2 h1 h2 => by
        have h3 := (exs_parts h2).2
        rw [HTK.out.1] at h3
        refine exs_read' h1 h3 (by rw [List.length_map, List.length_map, HLL.out, HKN.out]) fun j hj => ?_
        rw [List.length_map, ← HKN.out] at hj
        rw [Lt.ts_at (by rw [← HKN.out]; exact hj), HA.out j hj, ev_at (by rw [HLL.out]; exact hj)]
      have HBW := Lib.hid (HB3.out.trans (HB.out.mono HB3.out.size))
      have HXP := Lib.hid (Off.of_x HE.out.xp)
      have HIS : Hid (∀ W, Below wr.heap.size wr W → Calls Try.prog 7 #[.slice A i c] W fun e w' => e = .returned (.bool (exIs (l.map Ex.v))) ∧ Below W.heap.size W w') := Lib.hid fun W hW => exIs'_any W A c i l (HXP.out.under hW).at_ HLL.out
      rcases hxi : exIs (l.map Ex.v) with _ | _
      · have HNO : Hid (∀ l2 : List EV, exIs l2 = true → exsTr l2 ≠ T) := Lib.hid fun l2 h1 h2 => by
          have h3 := HRD.out l2 h1 h2
          rw [h3, h1] at hxi
          cases hxi
        rw [hxi] at HIS
        clear hxi
        go_wp2_with fail
        refine wp_region_noPanic ?_
        refine wp_region_held_drew (S := fun W => Below wr.heap.size wr W) (by kernel_rfl) (Below.refl _ wr).drew (fun hHeld => ?_)
        refine wpAnyH_take (i := 0) (oi := { dst := some 73, op := Op.move (Operand.tmp 6), type := 22, pos := _, after := _, guard := none }) (v := ?_) rfl (by kernel_rfl) (by kernel_rfl) (by kernel_rfl) (fun _ _ _ h => h) (Or.inl ⟨by rfl, ?_⟩) hHeld ?_
        rotate_left 1
        · (intro W hW; (try dsimp only at hW); go_simp; try with_reducible rfl)
        try simp only [Act.put, List.setIfInBounds_toArray, List.set_cons_zero, List.set_cons_succ]
        refine wpAnyH_ready (rs := [1]) (by kernel_rfl) (by simp) ?_
        refine AllReadyH.cons (o := { dst := some 74, op := Op.call { callee := Callee.value (Operand.func 7), args := #[Operand.tmp 73], argTypes := #[22] }, type := 4, pos := _, after := _, guard := none }) rfl (fun K hK => ?_) AllReadyH.nil
        go_simp
        refine (HIS.out _ ((Below.refl _ wr).drew)).mono ?_
        rintro e w4 ⟨rfl, hb4⟩
        have b4 : Hid (Below wr.heap.size wr w4) := Lib.hid (((Below.refl _ wr).drew).trans hb4)
        clear hb4
        go_simp
        refine hK.out _ _ (b4.out) (fun _ => ?_)
        clear hK K hHeld
        try simp only [Act.put, List.setIfInBounds_toArray, List.set_cons_zero, List.set_cons_succ]
        refine wpAnyH_strong (S' := fun W => Below w4.heap.size w4 W) (fun W hW => b4.out.trans (hW.mono b4.out.size)) _ _ _ _ ?_
        have hHeld : (fun W => Below w4.heap.size w4 W) w4 := Below.refl _ _
        refine wpAnyH_take (i := 2) (oi := { dst := some 75, op := Op.unOp UnOp.not 4 (Operand.tmp 74), type := 4, pos := _, after := _, guard := none }) (v := ?_) rfl (by kernel_rfl) (by kernel_rfl) (by kernel_rfl) (fun _ _ _ h => h) (Or.inl ⟨by rfl, ?_⟩) hHeld ?_
        rotate_left 1
        · (intro W hW; (try dsimp only at hW); go_simp; try with_reducible rfl)
        try simp only [Act.put, List.setIfInBounds_toArray, List.set_cons_zero, List.set_cons_succ]
        refine wpAnyH_take (i := 3) (oi := { dst := some 76, op := Op.move (Operand.tmp 75), type := 4, pos := _, after := _, guard := none }) (v := ?_) rfl (by kernel_rfl) (by kernel_rfl) (by kernel_rfl) (fun _ _ _ h => h) (Or.inl ⟨by rfl, ?_⟩) hHeld ?_
        rotate_left 1
        · (intro W hW; (try dsimp only at hW); go_simp; try with_reducible rfl)
        try simp only [Act.put, List.setIfInBounds_toArray, List.set_cons_zero, List.set_cons_succ]
        refine wpAnyH_take (i := 4) (oi := { dst := some 77, op := Op.move (Operand.tmp 6), type := 22, pos := _, after := _, guard := some (3, false) }) (v := undef) rfl (by kernel_rfl) (by kernel_rfl) (by kernel_rfl) (fun _ _ _ h => h) (Or.inr ⟨by rfl, rfl⟩) hHeld ?_
        try simp only [Act.put, List.setIfInBounds_toArray, List.set_cons_zero, List.set_cons_succ]
        refine wpAnyH_take (i := 5) (oi := { dst := some 78, op := Op.call { callee := Callee.value (Operand.func 16), args := #[Operand.tmp 77], argTypes := #[22] }, type := 35, pos := _, after := _, guard := some (3, false) }) (v := undef) rfl (by kernel_rfl) (by kernel_rfl) (by kernel_rfl) (fun _ _ _ h => h) (Or.inr ⟨by rfl, rfl⟩) hHeld ?_
        try simp only [Act.put, List.setIfInBounds_toArray, List.set_cons_zero, List.set_cons_succ]
        refine wpAnyH_take (i := 6) (oi := { dst := some 79, op := Op.load 35 (Operand.tmp 1), type := 35, pos := _, after := _, guard := some (3, false) }) (v := undef) rfl (by kernel_rfl) (by kernel_rfl) (by kernel_rfl) (fun _ _ _ h => h) (Or.inr ⟨by rfl, rfl⟩) hHeld ?_
        try simp only [Act.put, List.setIfInBounds_toArray, List.set_cons_zero, List.set_cons_succ]
        refine wpAnyH_take (i := 7) (oi := { dst := some 80, op := Op.call { callee := Callee.value (Operand.func 15), args := #[Operand.tmp 78, Operand.tmp 79], argTypes := #[35, 35] }, type := 4, pos := _, after := _, guard := some (3, false) }) (v := undef) rfl (by kernel_rfl) (by kernel_rfl) (by kernel_rfl) (fun _ _ _ h => h) (Or.inr ⟨by rfl, rfl⟩) hHeld ?_
        try simp only [Act.put, List.setIfInBounds_toArray, List.set_cons_zero, List.set_cons_succ]
        refine wpAnyH_take (i := 8) (oi := { dst := some 81, op := Op.unOp UnOp.not 4 (Operand.tmp 80), type := 4, pos := _, after := _, guard := some (3, false) }) (v := undef) rfl (by kernel_rfl) (by kernel_rfl) (by kernel_rfl) (fun _ _ _ h => h) (Or.inr ⟨by rfl, rfl⟩) hHeld ?_
        try simp only [Act.put, List.setIfInBounds_toArray, List.set_cons_zero, List.set_cons_succ]
        refine wpAnyH_take (i := 9) (oi := { dst := some 82, op := Op.pick (Operand.tmp 76) (Operand.const (Value.bool true)) (Operand.tmp 81), type := 4, pos := _, after := _, guard := none }) (v := ?_) rfl (by kernel_rfl) (by kernel_rfl) (by kernel_rfl) (fun _ _ _ h => h) (Or.inl ⟨by rfl, ?_⟩) hHeld ?_
        rotate_left 1
        · (intro W hW; (try dsimp only at hW); go_simp; try with_reducible rfl)
        try simp only [Act.put, List.setIfInBounds_toArray, List.set_cons_zero, List.set_cons_succ]
        refine wpAnyH_done (by kernel_rfl) ?_ _
        refine NoPanic.normal ?_
        go_wp2_with fail
        go_ret2
        exact getX_no HNO.out (HBW.out.trans (b4.out.mono HBW.out.size))
      · have HXI := Lib.hid hxi
        have HND : Hid (∀ W, Below wr.heap.size wr W → Calls Try.prog 16 #[.slice A i c] W (MadeT W [] (exsTr (l.map Ex.v)))) := Lib.hid fun W hW => exNode'_any W [] A c i l (HXP.out.under hW).at_ HLL.out (fun x hx => by
          obtain ⟨j, hj, rfl⟩ := List.getElem_of_mem hx
          have h1 := (exIs_iff.1 hxi).2 j (by rw [List.length_map]; exact hj)
          unfold exOne at h1
          rw [ev_at hj] at h1
          simp only [Bool.and_eq_true, decide_eq_true_eq] at h1
          have h2 : l.getD j default = l[j] := by simp [List.getD, hj]
          rw [h2] at h1
          have h3 := (idOk_iff.1 h1.1.1).2.1
          have h4 := h1.1.2
          simp only [Ex.v] at h3 h4
          omega) (by omega) (by simp)
        rw [hxi] at HIS
        clear hxi
        have HZ : Hid (∀ W, Below wr.heap.size wr W → W.cell? ⟨w.heap.size, 0, none⟩ = some (.int .u8 (tag : Int)) ∧ W.cell? ⟨w.heap.size, 1, none⟩ = some (.slice ba n bc) ∧ W.cell? ⟨w.heap.size, 2, none⟩ = some (.slice ka i kc)) := Lib.hid fun W hW => by
          have h := (HH3.out.under HB.out HH3.out.lt).under hW (by have := HH3.out.lt; have := HB.out.size; omega)
          exact ⟨h.cell 0, h.cell 1, h.cell 2⟩
        by_cases hte : exsTr (l.map Ex.v) = T
        · have HS : Hid (∀ (W : World) (lt : Lt), Below wr.heap.size wr W → lt.t = exsTr (l.map Ex.v) → Off [] (ThP lt) W → Calls Try.prog 15 #[lt.val, .agg #[.int .u8 (tag : Int), .slice ba n bc, .slice ka i kc]] W fun e w' => e = .returned (.bool true) ∧ Below W.heap.size W w') := Lib.hid fun W lt hW hl ho => by
            rw [← HVAL.out]
            exact same'_any lt t W W.heap.size ho.at_ (HTH.out.under (HBW.out.trans (hW.mono HBW.out.size))).at_ (Nat.le_refl _) true (by rw [hl, hte, HTT.out]; simp)
          have HTE := Lib.hid hte
          clear hte
          go_wp2_with fail
          refine wp_region_noPanic ?_
          refine wp_region_held_drew (S := fun W => Below wr.heap.size wr W) (by kernel_rfl) (Below.refl _ wr).drew (fun hHeld => ?_)
          refine wpAnyH_take (i := 0) (oi := { dst := some 73, op := Op.move (Operand.tmp 6), type := 22, pos := _, after := _, guard := none }) (v := ?_) rfl (by kernel_rfl) (by kernel_rfl) (by kernel_rfl) (fun _ _ _ h => h) (Or.inl ⟨by rfl, ?_⟩) hHeld ?_
          rotate_left 1
          · (intro W hW; (try dsimp only at hW); go_simp; try with_reducible rfl)
          try simp only [Act.put, List.setIfInBounds_toArray, List.set_cons_zero, List.set_cons_succ]
          refine wpAnyH_ready (rs := [1]) (by kernel_rfl) (by simp) ?_
          refine AllReadyH.cons (o := { dst := some 74, op := Op.call { callee := Callee.value (Operand.func 7), args := #[Operand.tmp 73], argTypes := #[22] }, type := 4, pos := _, after := _, guard := none }) rfl (fun K hK => ?_) AllReadyH.nil
          go_simp
          refine (HIS.out _ ((Below.refl _ wr).drew)).mono ?_
          rintro e w4 ⟨rfl, hb4⟩
          have b4 : Hid (Below wr.heap.size wr w4) := Lib.hid (((Below.refl _ wr).drew).trans hb4)
          clear hb4
          go_simp
          refine hK.out _ _ (b4.out) (fun _ => ?_)
          clear hK K hHeld
          try simp only [Act.put, List.setIfInBounds_toArray, List.set_cons_zero, List.set_cons_succ]
          refine wpAnyH_strong (S' := fun W => Below w4.heap.size w4 W) (fun W hW => b4.out.trans (hW.mono b4.out.size)) _ _ _ _ ?_
          have hHeld : (fun W => Below w4.heap.size w4 W) w4 := Below.refl _ _
          refine wpAnyH_take (i := 2) (oi := { dst := some 75, op := Op.unOp UnOp.not 4 (Operand.tmp 74), type := 4, pos := _, after := _, guard := none }) (v := ?_) rfl (by kernel_rfl) (by kernel_rfl) (by kernel_rfl) (fun _ _ _ h => h) (Or.inl ⟨by rfl, ?_⟩) hHeld ?_
          rotate_left 1
          · (intro W hW; (try dsimp only at hW); go_simp; try with_reducible rfl)
          try simp only [Act.put, List.setIfInBounds_toArray, List.set_cons_zero, List.set_cons_succ]
          refine wpAnyH_take (i := 3) (oi := { dst := some 76, op := Op.move (Operand.tmp 75), type := 4, pos := _, after := _, guard := none }) (v := ?_) rfl (by kernel_rfl) (by kernel_rfl) (by kernel_rfl) (fun _ _ _ h => h) (Or.inl ⟨by rfl, ?_⟩) hHeld ?_
          rotate_left 1
          · (intro W hW; (try dsimp only at hW); go_simp; try with_reducible rfl)
          try simp only [Act.put, List.setIfInBounds_toArray, List.set_cons_zero, List.set_cons_succ]
          refine wpAnyH_take (i := 4) (oi := { dst := some 77, op := Op.move (Operand.tmp 6), type := 22, pos := _, after := _, guard := some (3, false) }) (v := ?_) rfl (by kernel_rfl) (by kernel_rfl) (by kernel_rfl) (fun _ _ _ h => h) (Or.inl ⟨by rfl, ?_⟩) hHeld ?_
          rotate_left 1
          · (intro W hW; (try dsimp only at hW); go_simp; try with_reducible rfl)
          try simp only [Act.put, List.setIfInBounds_toArray, List.set_cons_zero, List.set_cons_succ]
          refine wpAnyH_take (i := 6) (oi := { dst := some 79, op := Op.load 35 (Operand.tmp 1), type := 35, pos := _, after := _, guard := some (3, false) }) (v := ?_) rfl (by kernel_rfl) (by kernel_rfl) (by kernel_rfl) (fun _ _ _ h => h) (Or.inl ⟨by rfl, ?_⟩) hHeld ?_
          rotate_left 1
          · (intro W hW; obtain ⟨k0, k1, k2⟩ := HZ.out W (b4.out.trans (hW.mono b4.out.size)); (try dsimp only at hW); go_simp; try with_reducible rfl)
          try simp only [Act.put, List.setIfInBounds_toArray, List.set_cons_zero, List.set_cons_succ]
          refine wpAnyH_ready (rs := [5]) (by kernel_rfl) (by simp) ?_
          refine AllReadyH.cons (o := { dst := some 78, op := Op.call { callee := Callee.value (Operand.func 16), args := #[Operand.tmp 77], argTypes := #[22] }, type := 35, pos := _, after := _, guard := some (3, false) }) rfl (fun K hK => ?_) AllReadyH.nil
          go_simp
          refine (HND.out _ b4.out).mono ?_
          rintro e w5 hm5
          obtain ⟨lt5, pt, pa, pn, pc, pk, pm, pd, rfl, h65, hT5, hO5, hb5⟩ := MadeT.six hm5
          have b5 : Hid (Below w4.heap.size w4 w5) := Lib.hid hb5
          have H5 := Lib.hid (b4.out.trans (hb5.mono b4.out.size))
          have HLT : Hid (lt5.val = .agg #[.int .u8 (pt : Int), .slice pa pn pc, .slice pk pm pd]) := Lib.hid (by rw [Lt.val, ← lcell_cells, show lcell lt5 = _ from h65])
          have HSA := Lib.hid (HS.out w5 lt5 H5.out hT5 hO5)
          rw [HLT.out] at HSA
          clear hb5 hm5 hT5 hO5 h65
          go_simp
          refine hK.out _ _ (b5.out) (fun _ => ?_)
          clear hK K hHeld
          try simp only [Act.put, List.setIfInBounds_toArray, List.set_cons_zero, List.set_cons_succ]
          refine wpAnyH_strong (S' := fun W => Below w5.heap.size w5 W) (fun W hW => b5.out.trans (hW.mono b5.out.size)) _ _ _ _ ?_
          have hHeld : (fun W => Below w5.heap.size w5 W) w5 := Below.refl _ _
          refine wpAnyH_ready (rs := [7]) (by kernel_rfl) (by simp) ?_
          refine AllReadyH.cons (o := { dst := some 80, op := Op.call { callee := Callee.value (Operand.func 15), args := #[Operand.tmp 78, Operand.tmp 79], argTypes := #[35, 35] }, type := 4, pos := _, after := _, guard := some (3, false) }) rfl (fun K hK => ?_) AllReadyH.nil
          go_simp
          refine HSA.out.mono ?_
          rintro e w7 ⟨rfl, hb7⟩
          have b7 : Hid (Below w5.heap.size w5 w7) := Lib.hid hb7
          have H7 := Lib.hid (H5.out.trans (hb7.mono H5.out.size))
          clear hb7
          go_simp
          refine hK.out _ _ (b7.out) (fun _ => ?_)
          clear hK K hHeld
          try simp only [Act.put, List.setIfInBounds_toArray, List.set_cons_zero, List.set_cons_succ]
          refine wpAnyH_strong (S' := fun W => Below w7.heap.size w7 W) (fun W hW => b7.out.trans (hW.mono b7.out.size)) _ _ _ _ ?_
          have hHeld : (fun W => Below w7.heap.size w7 W) w7 := Below.refl _ _
          refine wpAnyH_take (i := 8) (oi := { dst := some 81, op := Op.unOp UnOp.not 4 (Operand.tmp 80), type := 4, pos := _, after := _, guard := some (3, false) }) (v := ?_) rfl (by kernel_rfl) (by kernel_rfl) (by kernel_rfl) (fun _ _ _ h => h) (Or.inl ⟨by rfl, ?_⟩) hHeld ?_
          rotate_left 1
          · (intro W hW; (try dsimp only at hW); go_simp; try with_reducible rfl)
          try simp only [Act.put, List.setIfInBounds_toArray, List.set_cons_zero, List.set_cons_succ]
          refine wpAnyH_take (i := 9) (oi := { dst := some 82, op := Op.pick (Operand.tmp 76) (Operand.const (Value.bool true)) (Operand.tmp 81), type := 4, pos := _, after := _, guard := none }) (v := ?_) rfl (by kernel_rfl) (by kernel_rfl) (by kernel_rfl) (fun _ _ _ h => h) (Or.inl ⟨by rfl, ?_⟩) hHeld ?_
          rotate_left 1
          · (intro W hW; (try dsimp only at hW); go_simp; try with_reducible rfl)
          try simp only [Act.put, List.setIfInBounds_toArray, List.set_cons_zero, List.set_cons_succ]
          refine wpAnyH_done (by kernel_rfl) ?_ _
          refine NoPanic.normal ?_
          go_wp2_with fail
          go_ret2
          exact .inl ⟨A, c, l, by rw [HLL.out]; rfl, (HXP.out.under H7.out).at_, HXI.out, HTE.out, HBW.out.trans (H7.out.mono HBW.out.size)⟩
        · have HS : Hid (∀ (W : World) (lt : Lt), Below wr.heap.size wr W → lt.t = exsTr (l.map Ex.v) → Off [] (ThP lt) W → Calls Try.prog 15 #[lt.val, .agg #[.int .u8 (tag : Int), .slice ba n bc, .slice ka i kc]] W fun e w' => e = .returned (.bool false) ∧ Below W.heap.size W w') := Lib.hid fun W lt hW hl ho => by
            rw [← HVAL.out]
            exact same'_any lt t W W.heap.size ho.at_ (HTH.out.under (HBW.out.trans (hW.mono HBW.out.size))).at_ (Nat.le_refl _) false (by rw [hl, ← HTT.out]; simp [hte])
          have HNO : Hid (∀ l2 : List EV, exIs l2 = true → exsTr l2 ≠ T) := Lib.hid fun l2 h1 h2 => by
            have h3 := HRD.out l2 h1 h2
            exact hte (by rw [h3]; exact h2)
          clear hte
          go_wp2_with fail
          refine wp_region_noPanic ?_
          refine wp_region_held_drew (S := fun W => Below wr.heap.size wr W) (by kernel_rfl) (Below.refl _ wr).drew (fun hHeld => ?_)
          refine wpAnyH_take (i := 0) (oi := { dst := some 73, op := Op.move (Operand.tmp 6), type := 22, pos := _, after := _, guard := none }) (v := ?_) rfl (by kernel_rfl) (by kernel_rfl) (by kernel_rfl) (fun _ _ _ h => h) (Or.inl ⟨by rfl, ?_⟩) hHeld ?_
          rotate_left 1
          · (intro W hW; (try dsimp only at hW); go_simp; try with_reducible rfl)
          try simp only [Act.put, List.setIfInBounds_toArray, List.set_cons_zero, List.set_cons_succ]
          refine wpAnyH_ready (rs := [1]) (by kernel_rfl) (by simp) ?_
          refine AllReadyH.cons (o := { dst := some 74, op := Op.call { callee := Callee.value (Operand.func 7), args := #[Operand.tmp 73], argTypes := #[22] }, type := 4, pos := _, after := _, guard := none }) rfl (fun K hK => ?_) AllReadyH.nil
          go_simp
          refine (HIS.out _ ((Below.refl _ wr).drew)).mono ?_
          rintro e w4 ⟨rfl, hb4⟩
          have b4 : Hid (Below wr.heap.size wr w4) := Lib.hid (((Below.refl _ wr).drew).trans hb4)
          clear hb4
          go_simp
          refine hK.out _ _ (b4.out) (fun _ => ?_)
          clear hK K hHeld
          try simp only [Act.put, List.setIfInBounds_toArray, List.set_cons_zero, List.set_cons_succ]
          refine wpAnyH_strong (S' := fun W => Below w4.heap.size w4 W) (fun W hW => b4.out.trans (hW.mono b4.out.size)) _ _ _ _ ?_
          have hHeld : (fun W => Below w4.heap.size w4 W) w4 := Below.refl _ _
          refine wpAnyH_take (i := 2) (oi := { dst := some 75, op := Op.unOp UnOp.not 4 (Operand.tmp 74), type := 4, pos := _, after := _, guard := none }) (v := ?_) rfl (by kernel_rfl) (by kernel_rfl) (by kernel_rfl) (fun _ _ _ h => h) (Or.inl ⟨by rfl, ?_⟩) hHeld ?_
          rotate_left 1
          · (intro W hW; (try dsimp only at hW); go_simp; try with_reducible rfl)
          try simp only [Act.put, List.setIfInBounds_toArray, List.set_cons_zero, List.set_cons_succ]
          refine wpAnyH_take (i := 3) (oi := { dst := some 76, op := Op.move (Operand.tmp 75), type := 4, pos := _, after := _, guard := none }) (v := ?_) rfl (by kernel_rfl) (by kernel_rfl) (by kernel_rfl) (fun _ _ _ h => h) (Or.inl ⟨by rfl, ?_⟩) hHeld ?_
          rotate_left 1
          · (intro W hW; (try dsimp only at hW); go_simp; try with_reducible rfl)
          try simp only [Act.put, List.setIfInBounds_toArray, List.set_cons_zero, List.set_cons_succ]
          refine wpAnyH_take (i := 4) (oi := { dst := some 77, op := Op.move (Operand.tmp 6), type := 22, pos := _, after := _, guard := some (3, false) }) (v := ?_) rfl (by kernel_rfl) (by kernel_rfl) (by kernel_rfl) (fun _ _ _ h => h) (Or.inl ⟨by rfl, ?_⟩) hHeld ?_
          rotate_left 1
          · (intro W hW; (try dsimp only at hW); go_simp; try with_reducible rfl)
          try simp only [Act.put, List.setIfInBounds_toArray, List.set_cons_zero, List.set_cons_succ]
          refine wpAnyH_take (i := 6) (oi := { dst := some 79, op := Op.load 35 (Operand.tmp 1), type := 35, pos := _, after := _, guard := some (3, false) }) (v := ?_) rfl (by kernel_rfl) (by kernel_rfl) (by kernel_rfl) (fun _ _ _ h => h) (Or.inl ⟨by rfl, ?_⟩) hHeld ?_
          rotate_left 1
          · (intro W hW; obtain ⟨k0, k1, k2⟩ := HZ.out W (b4.out.trans (hW.mono b4.out.size)); (try dsimp only at hW); go_simp; try with_reducible rfl)
          try simp only [Act.put, List.setIfInBounds_toArray, List.set_cons_zero, List.set_cons_succ]
          refine wpAnyH_ready (rs := [5]) (by kernel_rfl) (by simp) ?_
          refine AllReadyH.cons (o := { dst := some 78, op := Op.call { callee := Callee.value (Operand.func 16), args := #[Operand.tmp 77], argTypes := #[22] }, type := 35, pos := _, after := _, guard := some (3, false) }) rfl (fun K hK => ?_) AllReadyH.nil
          go_simp
          refine (HND.out _ b4.out).mono ?_
          rintro e w5 hm5
          obtain ⟨lt5, pt, pa, pn, pc, pk, pm, pd, rfl, h65, hT5, hO5, hb5⟩ := MadeT.six hm5
          have b5 : Hid (Below w4.heap.size w4 w5) := Lib.hid hb5
          have H5 := Lib.hid (b4.out.trans (hb5.mono b4.out.size))
          have HLT : Hid (lt5.val = .agg #[.int .u8 (pt : Int), .slice pa pn pc, .slice pk pm pd]) := Lib.hid (by rw [Lt.val, ← lcell_cells, show lcell lt5 = _ from h65])
          have HSA := Lib.hid (HS.out w5 lt5 H5.out hT5 hO5)
          rw [HLT.out] at HSA
          clear hb5 hm5 hT5 hO5 h65
          go_simp
          refine hK.out _ _ (b5.out) (fun _ => ?_)
          clear hK K hHeld
          try simp only [Act.put, List.setIfInBounds_toArray, List.set_cons_zero, List.set_cons_succ]
          refine wpAnyH_strong (S' := fun W => Below w5.heap.size w5 W) (fun W hW => b5.out.trans (hW.mono b5.out.size)) _ _ _ _ ?_
          have hHeld : (fun W => Below w5.heap.size w5 W) w5 := Below.refl _ _
          refine wpAnyH_ready (rs := [7]) (by kernel_rfl) (by simp) ?_
          refine AllReadyH.cons (o := { dst := some 80, op := Op.call { callee := Callee.value (Operand.func 15), args := #[Operand.tmp 78, Operand.tmp 79], argTypes := #[35, 35] }, type := 4, pos := _, after := _, guard := some (3, false) }) rfl (fun K hK => ?_) AllReadyH.nil
          go_simp
          refine HSA.out.mono ?_
          rintro e w7 ⟨rfl, hb7⟩
          have b7 : Hid (Below w5.heap.size w5 w7) := Lib.hid hb7
          have H7 := Lib.hid (H5.out.trans (hb7.mono H5.out.size))
          clear hb7
          go_simp
          refine hK.out _ _ (b7.out) (fun _ => ?_)
          clear hK K hHeld
          try simp only [Act.put, List.setIfInBounds_toArray, List.set_cons_zero, List.set_cons_succ]
          refine wpAnyH_strong (S' := fun W => Below w7.heap.size w7 W) (fun W hW => b7.out.trans (hW.mono b7.out.size)) _ _ _ _ ?_
          have hHeld : (fun W => Below w7.heap.size w7 W) w7 := Below.refl _ _
          refine wpAnyH_take (i := 8) (oi := { dst := some 81, op := Op.unOp UnOp.not 4 (Operand.tmp 80), type := 4, pos := _, after := _, guard := some (3, false) }) (v := ?_) rfl (by kernel_rfl) (by kernel_rfl) (by kernel_rfl) (fun _ _ _ h => h) (Or.inl ⟨by rfl, ?_⟩) hHeld ?_
          rotate_left 1
          · (intro W hW; (try dsimp only at hW); go_simp; try with_reducible rfl)
          try simp only [Act.put, List.setIfInBounds_toArray, List.set_cons_zero, List.set_cons_succ]
          refine wpAnyH_take (i := 9) (oi := { dst := some 82, op := Op.pick (Operand.tmp 76) (Operand.const (Value.bool true)) (Operand.tmp 81), type := 4, pos := _, after := _, guard := none }) (v := ?_) rfl (by kernel_rfl) (by kernel_rfl) (by kernel_rfl) (fun _ _ _ h => h) (Or.inl ⟨by rfl, ?_⟩) hHeld ?_
          rotate_left 1
          · (intro W hW; (try dsimp only at hW); go_simp; try with_reducible rfl)
          try simp only [Act.put, List.setIfInBounds_toArray, List.set_cons_zero, List.set_cons_succ]
          refine wpAnyH_done (by kernel_rfl) ?_ _
          refine NoPanic.normal ?_
          go_wp2_with fail
          go_ret2
          exact getX_no HNO.out (HBW.out.trans (H7.out.mono HBW.out.size))
end Go.Proofs.Ytaemjgemkgiahaa
