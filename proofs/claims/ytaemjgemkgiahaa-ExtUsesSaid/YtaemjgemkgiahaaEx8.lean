/-
  A thing's extensions: by ext.
-/
import Derived.Test.YtaemjgemkgiahaaEx7
import Derived.Test.YtaemjgemkgiahaaStrong
namespace Go.Proofs.Ytaemjgemkgiahaa
open Go.RowKit
set_option linter.unusedVariables false
set_option linter.unusedSimpArgs false
attribute [local go_sem ↓] Go.wp_at_zero Go.wp_at_succ

theorem info_ext : (Try.prog.info? 26).map (fun i => (i.zero, i.size, i.bytes)) = some (some (.agg #[.slice none 0 0, .bool false, .slice none 0 0]), 3, 56) := by kernel_rfl
/-- A row of one's own of extensions. -/
structure Exts (A : Option Addr) (c n : Nat) (l : List Ex) (w : World) : Prop where
  len : l.length = n
  own : OwnV 26 3 w A c n (l.flatMap xcell)
  each : ∀ x ∈ l, Off (bl A) (ExP x) w
theorem RowX.of_own {w : World} {A : Option Addr} {c n : Nat} {l : List Ex} (hl : l.length = n) (h : OwnV 26 3 w A c n (l.flatMap xcell)) : RowX w w.heap.size A c l := by
  subst hl
  refine ⟨h.le.1, h.le.2, fun hn => ?_⟩
  have at3 : ∀ j, j < l.length → ∀ t, t < 3 → ∀ v, (xcell (l.getD j default))[t]? = some v → ∃ g, A = some ⟨g, 0, none⟩ ∧ g < w.heap.size ∧ w.cell? ⟨g, 3 * j + t, none⟩ = some v := fun j hj t ht v hv => by
    have e : l[j]? = some (l.getD j default) := by simp [List.getD, hj]
    have f := flat_at (f := xcell) (m := 3) (L := l) (fun _ _ => rfl) e (j := t) ht
    obtain ⟨g, hA, hlt, hc, _⟩ := h.at_ (j := 3 * j + t) (v := v) (by rw [f]; exact hv)
    exact ⟨g, hA, hlt, hc⟩
  obtain ⟨g, rfl, hlt, _⟩ := at3 0 hn 0 (by omega) _ rfl
  refine ⟨g, 0, rfl, hlt, fun j hj => ?_⟩
  have k : ∀ t, t < 3 → ∀ v, (xcell (l.getD j default))[t]? = some v → w.cell? ⟨g, 3 * j + t, none⟩ = some v := fun t ht v hv => by
    obtain ⟨g', e, _, hc⟩ := at3 j hj t ht v hv
    injection e with e
    obtain rfl : g = g' := by injection e
    exact hc
  exact ⟨by rw [show 0 + j * 3 = 3 * j + 0 by omega]; exact k 0 (by omega) _ rfl, by rw [show 0 + j * 3 + 1 = 3 * j + 1 by omega]; exact k 1 (by omega) _ rfl, by rw [show 0 + j * 3 + 2 = 3 * j + 2 by omega]; exact k 2 (by omega) _ rfl⟩
section
variable {A : Option Addr} {c n : Nat} {l : List Ex} {w w' : World}
theorem Exts.nil (w : World) : Exts none 0 0 [] w := ⟨rfl, OwnV.nil _ _ _, fun x hx => by cases hx⟩
theorem Exts.under (h : Exts A c n l w) (hb : Below w.heap.size w w') : Exts A c n l w' :=
  ⟨h.len, h.own.keep fun g _ hg => hb.block g hg, fun x hx => (h.each x hx).under hb⟩
theorem Exts.lt (h : Exts A c n l w) {g : Nat} (hg : blockOf A = some g) : g < w.heap.size := h.own.lt hg
theorem Exts.xp (h : Exts A c n l w) : XP A c l w := ⟨RowX.of_own h.len h.own, fun x hx => (h.each x hx).at_⟩
theorem Exts.push {e : Ex} {g' c' : Nat} (h : Exts A c n l w) (ht : Off (bl A) (ExP e) w) (ho : OwnV 26 3 w' (some ⟨g', 0, none⟩) c' (n + 1) (l.flatMap xcell ++ [.slice e.ia e.id.length e.ic, .bool e.cr, .slice e.va e.val.length e.vc])) (hg : w.grownBy w' (blockOf A))
    (ha : blockOf A = some g' ∨ g' = w.heap.size) : Exts (some ⟨g', 0, none⟩) c' (n + 1) (l ++ [e]) w' := by
  have hy : ∀ g, g ∈ bl (some ⟨g', 0, none⟩) → g ∈ bl A ∨ w.heap.size ≤ g := fun g hg => by
    have e := mem_bl.1 hg
    have e : g' = g := by simpa [blockOf] using e
    subst e
    rcases ha with h2 | h2
    · exact .inl (mem_bl.2 h2)
    · exact .inr (by omega)
  have hA : ∀ g, blockOf A = some g → g ∈ bl A := fun g e => mem_bl.2 e
  refine ⟨by simp [h.len], by rw [List.flatMap_append]; simpa [xcell] using ho, fun x hx2 => ?_⟩
  rcases List.mem_append.1 hx2 with h1 | h1
  · exact (h.each x h1).push hg hA hy
  · rw [List.mem_singleton.1 h1]; exact ht.push hg hA hy
end
theorem one6x {ia va : Option Addr} {n1 ic n2 vc : Nat} {b : Bool} : ∀ u ∈ [Value.slice ia n1 ic, .bool b, .slice va n2 vc], u.oneCell' = true := by
  intro u hu
  simp only [List.mem_cons, List.not_mem_nil, or_false] at hu
  rcases hu with rfl | rfl | rfl <;> rfl
/-- A thing is just the extensions' that are read of it. -/
theorem one_ex {e : EV} (h : idOk e.id = true) : oneT (exTr e) = some e := by
  obtain ⟨id, cr, val⟩ := e
  have hp : parted 48 = true := rfl
  have hps : psOf (exTr ⟨id, cr, val⟩) = exParts ⟨id, cr, val⟩ := by
    unfold psOf exTr
    simp [Tr.tag, Tr.body, Tr.kids, seqOk, hp]
  have hid : idOf (.mk 6 id []) = id := by
    unfold idOf
    show (if (heldOk 6 0 6 && idOk id) = true then id else []) = id
    rw [show idOk id = true from h]
    rfl
  unfold oneT
  rw [hps]
  cases cr <;> simp [exParts, hid, Tr.tag, Tr.kids, Tr.body, heldOk]
theorem exTr_inj {e e' : EV} (h : exTr e = exTr e') : e = e' := by
  obtain ⟨id, cr, val⟩ := e
  obtain ⟨id', cr', val'⟩ := e'
  simp only [exTr, exParts] at h
  cases cr <;> cases cr' <;> simp at h
  · obtain ⟨rfl, rfl⟩ := h; rfl
  · obtain ⟨rfl, rfl⟩ := h; rfl
theorem exsTr_inj {l l' : List EV} (h : exsTr l = exsTr l') : l = l' := by
  have h2 : l.map exTr = l'.map exTr := by
    simp only [exsTr] at h
    injection h
  clear h
  induction l generalizing l' with
  | nil => cases l' with
    | nil => rfl
    | cons => simp at h2
  | cons x l ih => cases l' with
    | nil => simp at h2
    | cons y l' =>
      simp only [List.map_cons, List.cons.injEq] at h2
      rw [exTr_inj h2.1, ih h2.2]
def GetXPost (w : World) (T : Tr) (e : Ending) (w' : World) : Prop :=
  (∃ A c, ∃ l : List Ex, e = .returned (.tuple #[.slice A l.length c, .bool true]) ∧ XP A c l w' ∧ exIs (l.map Ex.v) = true ∧ exsTr (l.map Ex.v) = T ∧ Below w.heap.size w w') ∨
  (e = .returned (.tuple #[.slice none 0 0, .bool false]) ∧ (∀ l : List EV, exIs l = true → exsTr l ≠ T) ∧ Below w.heap.size w w')
theorem getX_no {w w' : World} {T : Tr} (h : ∀ l : List EV, exIs l = true → exsTr l ≠ T) (hb : Below w.heap.size w w') : GetXPost w T (.returned (.tuple #[.slice none 0 0, .bool false])) w' := .inr ⟨rfl, h, hb⟩
theorem exs_ids {l : List EV} (h : exIs l = true) : ∀ j, j < l.length → idOk (l.getD j default).id = true := fun j hj => by
  have := (exIs_iff.1 h).2 j hj
  unfold exOne at this
  simp only [Bool.and_eq_true] at this
  exact this.1.1
/-- What is read of a thing that is some extensions' is those. -/
theorem exs_read {l l0 : List EV} (h : exIs l = true) {ks : List Tr} (hk : ks = l.map exTr) (hl : l0.length = ks.length) (ho : ∀ j, j < ks.length → oneT (ks.getD j default) = some (l0.getD j default)) : l0 = l := by
  subst hk
  rw [List.length_map] at hl ho
  refine List.ext_getElem hl fun j h1 h2 => ?_
  have h3 := ho j h2
  rw [show (l.map exTr).getD j default = exTr (l.getD j default) by simp [List.getD, h2], one_ex (exs_ids h j h2)] at h3
  injection h3 with h3
  simpa [List.getD, h1, h2] using h3.symm
theorem exs_parts {l : List EV} {T : Tr} (h : exsTr l = T) : seqOk T.tag T.body.length 48 = true ∧ T.kids = l.map exTr := by
  subst h
  exact ⟨rfl, rfl⟩
theorem off_nodes {xs : List Nat} {w : World} {A : Option Addr} {c j : Nat} {ks : List Lt} (h : Off xs (KiP A c ks) w) (hj : j < ks.length) : Off xs (ThP (ks.getD j default)) w := KiP.kid h hj
set_option maxRecDepth 100000 in
set_option maxHeartbeats 16000000 in
theorem getX_any (w : World) (t : Lt) (h : Off [] (ThP t) w) (hf : FitX t.t) :
    Calls Try.prog 13 #[t.val] w (GetXPost w t.t) := by
  obtain ⟨T, hT⟩ : ∃ T, T = t.t := ⟨_, rfl⟩
  rw [← hT]
  have HTH := Lib.hid h
  have HTT := Lib.hid hT
  have HVAL : Hid (t.val = .agg #[.int .u8 (t.tag : Int), .slice t.ba t.body.length t.bc, .slice t.ka t.kids.length t.kc]) := Lib.hid rfl
  have HF := Lib.hid hf
  have hko : Off [] (KiP t.ka t.kc t.kids) w := by
    obtain ⟨tag, ba, bc, body, ka, kc, kids⟩ := t
    exact kids_off h
  have hkl : t.kids.length ≤ 100000 := by have := hf.1; rw [(t_parts t).2.2, List.length_map] at this; omega
  have HTK : Hid (T.kids = t.kids.map Lt.t ∧ seqOk T.tag T.body.length 48 = seqOk t.tag t.body.length 48) := Lib.hid (by rw [hT, (t_parts t).1, (t_parts t).2.1, (t_parts t).2.2]; exact ⟨rfl, rfl⟩)
  rw [HVAL.out]
  obtain ⟨ks, hks⟩ : ∃ ks, ks = t.kids := ⟨_, rfl⟩
  have HKS := Lib.hid hks
  rw [← hks] at hko hkl HTK HVAL ⊢
  clear h hT hf hks
  generalize t.tag = tag at *
  generalize t.ba = ba at *
  generalize t.bc = bc at *
  generalize t.body.length = n at *
  generalize t.ka = ka at *
  generalize t.kc = kc at *
  obtain ⟨kn, hkn⟩ : ∃ k, k = ks.length := ⟨_, rfl⟩
  have HKN := Lib.hid hkn
  rw [← hkn] at hkl HVAL ⊢
  have hH1 := Holds.fresh w 35 #[.int .u8 (tag : Int), .slice ba n bc, .slice ka kn kc]
  have HH1 := Lib.hid hH1
  have HB1 : Hid (Below w.heap.size w (w.alloc (.cells #[.int .u8 (tag : Int), .slice ba n bc, .slice ka kn kc] 35))) := Lib.hid ((Below.refl _ _).alloc (Nat.le_refl _) _)
  have hk1 := hko.alloc (.cells #[.int .u8 (tag : Int), .slice ba n bc, .slice ka kn kc] 35)
  have HGS := Lib.hid (getSeq_any _ [] tag n bc kn kc 48 ba ka ks hk1 hkn.symm (by omega) hkl (by simp))
  have c0 := hH1.cell 0
  have c1 := hH1.cell 1
  have c2 := hH1.cell 2
  clear hko hkn hH1 hk1
  rcases hsq : seqOk tag n 48 with _ | _
  case false =>
    have HNO : Hid (∀ l : List EV, exIs l = true → exsTr l ≠ T) := Lib.hid fun l _ h2 => by
      have := (exs_parts h2).1
      rw [HTK.out.2, hsq] at this
      cases this
    rw [hsq] at HGS
    go_enter Try.func13, Try.ntmps13
    go_wp2_with fail
    refine HGS.out.mono ?_
    rintro e w3 ⟨rfl, hb3⟩
    have HB3 := Lib.hid (HB1.out.trans (hb3.mono HB1.out.size))
    clear hb3 HGS
    go_wp2_with fail
    go_ret2
    exact getX_no HNO.out HB3.out
  rw [hsq] at HGS
  have HSQ := Lib.hid hsq
  clear hsq
  by_cases h12 : 12 < kn
  case pos =>
    have HNO : Hid (∀ l : List EV, exIs l = true → exsTr l ≠ T) := Lib.hid fun l h1 h2 => by
      have h3 := (exs_parts h2).2
      rw [HTK.out.1] at h3
      have h4 := congrArg List.length h3
      rw [List.length_map, List.length_map, ← HKN.out] at h4
      have := (exIs_iff.1 h1).1
      omega
    have d1 : decide ((12 : Int) < (kn : Int)) = true := decide_eq_true (by omega)
    go_enter Try.func13, Try.ntmps13
    go_wp2_with fail
    refine HGS.out.mono ?_
    rintro e w3 ⟨A3, c3, rfl, hk3, hb3⟩
    rw [← HKN.out]
    have HB3 := Lib.hid (HB1.out.trans (hb3.mono HB1.out.size))
    clear hb3 HGS hk3
    go_wp2_with fail
    go_ret2
    exact getX_no HNO.out HB3.out
  have d1 : decide ((12 : Int) < (kn : Int)) = false := decide_eq_false (by omega)
  go_enter Try.func13, Try.ntmps13
  go_wp2_with fail
  refine HGS.out.mono ?_
  rintro e w3 ⟨A3, c3, rfl, hk3, hb3⟩
  rw [← HKN.out]
  have HB3 := Lib.hid (HB1.out.trans (hb3.mono HB1.out.size))
  have HH3 := Lib.hid (HH1.out.under hb3 HH1.out.lt)
  have HK3 := Lib.hid hk3
  have hmc : kn ≤ c3 := by rw [HKN.out]; exact hk3.at_.1.1
  have hc63 := hk3.at_.1.2.1
  clear hb3 HGS hk3 c0 c1 c2 d1
  go_wp2_with fail
  go_loopw [6, 25] (fun lv iv wr => ∃ (i : Nat) (A : Option Addr) (c : Nat) (l : List Ex), i ≤ kn ∧ iv = .int .i64 (i : Int) ∧ lv = .slice A i c ∧ Exts A c i l wr ∧ Hid (∀ j, j < i → oneT (ks.getD j default).t = some (l.getD j default).v) ∧ Hid (∀ g, blockOf A = some g → w3.heap.size ≤ g) ∧ Below w3.heap.size w3 wr) (fun _ iv _ => kn - (intOf iv).toNat)
  case atStart => exact ⟨0, none, 0, [], by omega, rfl, rfl, Exts.nil _, fun j hj => by omega, fun g hg => by simp [blockOf] at hg, Below.refl _ _⟩
  case round =>
    obtain ⟨i, A, c, l, hi, rfl, rfl, hE, HA, HG, hB⟩ := hrel
    have HB := Lib.hid hB
    have HE := Lib.hid hE
    clear hB hE
    by_cases hlt : i < kn
    · have hk4 := HK3.out.under HB.out
      obtain ⟨g, off, rfl, hg, hcs⟩ := hk4.at_.1.2.2 (by rw [← HKN.out]; omega)
      obtain ⟨q0, q1, q2⟩ := hcs i (by rw [← HKN.out]; exact hlt)
      have hti := off_nodes hk4 (j := i) (by rw [← HKN.out]; exact hlt)
      have HFI : Hid (FitK (ks.getD i default).t) := Lib.hid (by
        refine HF.out.2 _ ?_
        rw [(t_parts t).2.2, ← HKS.out]
        exact List.mem_map_of_mem (getD_mem (by rw [← HKN.out]; exact hlt)))
      obtain ⟨q, hq⟩ : ∃ q, q = ks.getD i default := ⟨_, rfl⟩
      rw [← hq] at q0 q1 q2 hti HFI
      have HQ := Lib.hid hq
      clear hq hcs hk4
      have hq1 : Below wr.heap.size wr (wr.alloc (.cells #[.int .u8 (q.tag : Int), .slice q.ba q.body.length q.bc, .slice q.ka q.kids.length q.kc] 35)) := (Below.refl _ _).alloc (Nat.le_refl _) _
      have hHq := Holds.fresh wr 35 #[.int .u8 (q.tag : Int), .slice q.ba q.body.length q.bc, .slice q.ka q.kids.length q.kc]
      have z0 := hHq.cell 0
      have z1 := hHq.cell 1
      have z2 := hHq.cell 2
      have HON : Hid (Calls Try.prog 33 #[.agg #[.int .u8 (q.tag : Int), .slice q.ba q.body.length q.bc, .slice q.ka q.kids.length q.kc]] (wr.alloc (.cells #[.int .u8 (q.tag : Int), .slice q.ba q.body.length q.bc, .slice q.ka q.kids.length q.kc] 35)) (OneP (wr.alloc (.cells #[.int .u8 (q.tag : Int), .slice q.ba q.body.length q.bc, .slice q.ka q.kids.length q.kc] 35)) (bl A) (oneT q.t))) := Lib.hid (one_any _ (bl A) q (hti.under hq1) HFI.out (fun x hx => by have := HE.out.lt (mem_bl.1 hx); have := hq1.size; omega))
      have HQ1 := Lib.hid hq1
      clear hq1 hHq hti HFI
      generalize q.tag = qt at *
      generalize q.ba = qa at *
      generalize q.bc = qc at *
      generalize q.body.length = qn at *
      generalize q.ka = qk at *
      generalize q.kids.length = qm at *
      generalize q.kc = qd at *
      rcases hot : oneT q.t with _ | ev
      · have HNO : Hid (∀ l : List EV, exIs l = true → exsTr l ≠ T) := Lib.hid fun l2 h1 h2 => by
          have h3 := (exs_parts h2).2
          rw [HTK.out.1] at h3
          have h4 : (ks.map Lt.t).getD i default = (l2.map exTr).getD i default := by rw [h3]
          have hl2 : i < l2.length := by have h5 := congrArg List.length h3; rw [List.length_map, List.length_map, ← HKN.out] at h5; omega
          rw [Lt.ts_at (by rw [← HKN.out]; exact hlt), show (l2.map exTr).getD i default = exTr (l2.getD i default) by simp [List.getD, hl2]] at h4
          rw [HQ.out, h4, one_ex (exs_ids h1 i hl2)] at hot
          cases hot
        rw [hot] at HON
        clear hot
        go_wp2_with fail
        refine HON.out.mono ?_
        rintro e w5 ⟨ia, k, ic, b, va, m, vc, rfl, hb5⟩
        have HB5 := Lib.hid (HB3.out.trans ((HB.out.trans ((HQ1.out.trans (hb5.mono HQ1.out.size)).mono HB.out.size)).mono HB3.out.size))
        have HB6 : Hid (Below w.heap.size w (w5.alloc (.cells #[.slice ia k ic, .bool b, .slice va m vc] 26))) := Lib.hid (HB5.out.alloc HB5.out.size _)
        clear hb5 z0 z1 z2 q0 q1 q2 HON
        go_wp2_with fail
        go_ret2
        exact getX_no HNO.out HB6.out
      · have HEV := Lib.hid hot
        rw [hot] at HON
        clear hot
        go_wp2_with fail
        refine HON.out.mono ?_
        rintro e w5 ⟨ex, hex, rfl, hox, hb5⟩
        have HEX := Lib.hid hex
        have hb15 := HQ1.out.trans (hb5.mono HQ1.out.size)
        obtain ⟨ia, ic, id, cr, va, vc, val⟩ := ex
        dsimp only
        obtain ⟨n1, hn1⟩ : ∃ n1, n1 = id.length := ⟨_, rfl⟩
        obtain ⟨n2, hn2⟩ : ∃ n2, n2 = val.length := ⟨_, rfl⟩
        rw [← hn1, ← hn2]
        have hH6 := Holds.fresh w5 26 #[.slice ia n1 ic, .bool cr, .slice va n2 vc]
        have hq6 : Below w5.heap.size w5 (w5.alloc (.cells #[.slice ia n1 ic, .bool cr, .slice va n2 vc] 26)) := (Below.refl _ _).alloc (Nat.le_refl _) _
        have hq7 : Below (w5.alloc (.cells #[.slice ia n1 ic, .bool cr, .slice va n2 vc] 26)).heap.size (w5.alloc (.cells #[.slice ia n1 ic, .bool cr, .slice va n2 vc] 26)) ((w5.alloc (.cells #[.slice ia n1 ic, .bool cr, .slice va n2 vc] 26)).alloc (.cells #[.slice ia n1 ic, .bool cr, .slice va n2 vc] 26)) := (Below.refl _ _).alloc (Nat.le_refl _) _
        have hq67 := hq6.trans (hq7.mono hq6.size)
        have hb17 := hb15.trans (hq67.mono hb15.size)
        have HB7 := Lib.hid (HB.out.trans (hb17.mono HB.out.size))
        have HE7 := Lib.hid (HE.out.under hb17)
        have HO7 : Hid (Off (bl A) (ExP ⟨ia, ic, id, cr, va, vc, val⟩) ((w5.alloc (.cells #[.slice ia n1 ic, .bool cr, .slice va n2 vc] 26)).alloc (.cells #[.slice ia n1 ic, .bool cr, .slice va n2 vc] 26))) := Lib.hid (by
          exact (hox.alloc _).alloc _)
        have hfx : Holds ((w5.alloc (.cells #[.slice ia n1 ic, .bool cr, .slice va n2 vc] 26)).alloc (.cells #[.slice ia n1 ic, .bool cr, .slice va n2 vc] 26)) (w5.alloc (.cells #[.slice ia n1 ic, .bool cr, .slice va n2 vc] 26)).heap.size 26 [.slice ia n1 ic, .bool cr, .slice va n2 vc].toArray := Holds.fresh _ _ _
        have hs6 : (w5.alloc (.cells #[.slice ia n1 ic, .bool cr, .slice va n2 vc] 26)).heap.size = w5.heap.size + 1 := by simp
        rw [hs6] at hfx
        have HFX := Lib.hid hfx
        have HOW := Lib.hid HE7.out.own
        have HN1 := Lib.hid hn1
        have HN2 := Lib.hid hn2
        have a0 := hH6.cell 0
        have a1 := hH6.cell 1
        have a2 := hH6.cell 2
        clear hb5 hb15 hq6 hq7 hq67 hb17 hH6 hfx hs6 hn1 hn2 hox hex z0 z1 z2 q0 q1 q2 HON
        go_wp2_with (first | (at_builtin; refine wpList_pushV _ rfl (.tmp 36) (.tmp 38) 22 rfl 26 _ 3 56 Try.underlying22 info_ext rfl (by omega) (by omega) rfl HOW.out (cs := [.slice ia n1 ic, .bool cr, .slice va n2 vc]) rfl rfl one6x HFX.out (by omega) ?_; intro g9 c9 W9 ho9 hg9 hat9 hlt9))
        have HE9 := Lib.hid (HE7.out.push HO7.out (by rw [← HN1.out, ← HN2.out]; exact ho9) hg9 hat9)
        have HB9 := Lib.hid (below_own HB7.out hg9 HG.out (Nat.le_refl _))
        have HG9 : Hid (∀ g, blockOf (some (⟨g9, 0, none⟩ : Addr)) = some g → w3.heap.size ≤ g) := Lib.hid fun g hg => by
          rcases hat9 with h | h
          · exact HG.out g (h.trans (by simpa [blockOf] using hg))
          · have e : g9 = g := by simpa [blockOf] using hg
            have := HB7.out.size
            omega
        have HA9 : Hid (∀ j, j < i + 1 → oneT (ks.getD j default).t = some ((l ++ [(⟨ia, ic, id, cr, va, vc, val⟩ : Ex)]).getD j default).v) := Lib.hid fun j hj => by
          have hl := HE.out.len
          rcases Nat.lt_or_ge j i with h3 | h3
          · rw [HA.out j h3]
            simp [List.getD, List.getElem?_append_left (show j < l.length by omega)]
          · obtain rfl : j = i := by omega
            rw [← HQ.out, HEV.out, ← HEX.out]
            simp [List.getD, hl]
        clear ho9 hg9 hat9 HOW HFX HE7
        go_wp2_with fail
        go_roundw
        case rel => exact ⟨i + 1, _, _, _, by omega, by go_num, rfl, HE9.out, HA9.out, HG9.out, HB9.out⟩
        case measure => simp [intOf]; omega
    · obtain rfl : i = kn := by omega
      have HLL : Hid (l.length = i) := Lib.hid HE.out.len
      have HRD : Hid (∀ l2 : List EV, exIs l2 = true → exsTr l2 = T → l.map Ex.v = l2) := Lib.hid fun l2 h1 h2 => by
        have h3 := (exs_parts h2).2
        rw [HTK.out.1] at h3
        refine exs_read h1 h3 (by rw [List.length_map, List.length_map, HLL.out, HKN.out]) fun j hj => ?_
        rw [List.length_map, ← HKN.out] at hj
        rw [Lt.ts_at (by rw [← HKN.out]; exact hj), HA.out j hj, ev_at (by rw [HLL.out]; exact hj)]
      have HBW := Lib.hid (HB3.out.trans (HB.out.mono HB3.out.size))
      have HSZ : Hid (∀ x ∈ l, x.id.length ≤ 12000) := Lib.hid fun x hx => by
        obtain ⟨j, hj, rfl⟩ := List.getElem_of_mem hx
        have h1 := one_id (HA.out j (by rw [← HLL.out]; exact hj))
        have h2 : l.getD j default = l[j] := by simp [List.getD, hj]
        rw [h2] at h1
        have h3 : (l[j]).id.length ≤ 20 := h1
        omega
      have HXP := Lib.hid (Off.of_x HE.out.xp)
      have HIS : Hid (∀ W, Below wr.heap.size wr W → Calls Try.prog 10 #[.slice A i c] W fun e w' => e = .returned (.bool (exIs (l.map Ex.v))) ∧ Below W.heap.size W w') := Lib.hid fun W hW => exIs_any W A c i l (HXP.out.under hW).at_ HLL.out HSZ.out
      rcases hxi : exIs (l.map Ex.v) with _ | _
      · have HNO : Hid (∀ l2 : List EV, exIs l2 = true → exsTr l2 ≠ T) := Lib.hid fun l2 h1 h2 => by
          have h3 := HRD.out l2 h1 h2
          rw [h3, h1] at hxi
          cases hxi
        rw [hxi] at HIS
        clear hxi
        go_wp2_with fail
        refine wp_region_noPanic ?_
        refine wp_region_held_drew (S := fun W => Below wr.heap.size wr W) (by kernel_rfl) (Below.refl _ wr).drew (fun hHeld => ?_)
        refine wpAnyH_take (i := 0) (oi := { dst := some 41, op := Op.move (Operand.tmp 6), type := 22, pos := _, after := _, guard := none }) (v := ?_) rfl (by kernel_rfl) (by kernel_rfl) (by kernel_rfl) (fun _ _ _ h => h) (Or.inl ⟨by rfl, ?_⟩) hHeld ?_
        rotate_left 1
        · (intro W hW; (try dsimp only at hW); go_simp; try with_reducible rfl)
        try simp only [Act.put, List.setIfInBounds_toArray, List.set_cons_zero, List.set_cons_succ]
        refine wpAnyH_ready (rs := [1]) (by kernel_rfl) (by simp) ?_
        refine AllReadyH.cons (o := { dst := some 42, op := Op.call { callee := Callee.value (Operand.func 10), args := #[Operand.tmp 41], argTypes := #[22] }, type := 4, pos := _, after := _, guard := none }) rfl (fun K hK => ?_) AllReadyH.nil
        go_simp
        refine (HIS.out _ ((Below.refl _ wr).drew)).mono ?_
        rintro e w4 ⟨rfl, hb4⟩
        have b4 : Hid (Below wr.heap.size wr w4) := Lib.hid (((Below.refl _ wr).drew).trans hb4)
        clear hb4
        go_simp
        refine hK.out _ _ (b4.out) (fun _ => ?_)
        clear hK K hHeld
        try simp only [Act.put, List.setIfInBounds_toArray, List.set_cons_zero, List.set_cons_succ]
        refine wpAnyH_strong (S' := fun W => Below w4.heap.size w4 W) (fun W hW => b4.out.trans (hW.mono b4.out.size)) _ _ _ _ ?_
        have hHeld : (fun W => Below w4.heap.size w4 W) w4 := Below.refl _ _
        refine wpAnyH_take (i := 2) (oi := { dst := some 43, op := Op.unOp UnOp.not 4 (Operand.tmp 42), type := 4, pos := _, after := _, guard := none }) (v := ?_) rfl (by kernel_rfl) (by kernel_rfl) (by kernel_rfl) (fun _ _ _ h => h) (Or.inl ⟨by rfl, ?_⟩) hHeld ?_
        rotate_left 1
        · (intro W hW; (try dsimp only at hW); go_simp; try with_reducible rfl)
        try simp only [Act.put, List.setIfInBounds_toArray, List.set_cons_zero, List.set_cons_succ]
        refine wpAnyH_take (i := 3) (oi := { dst := some 44, op := Op.move (Operand.tmp 43), type := 4, pos := _, after := _, guard := none }) (v := ?_) rfl (by kernel_rfl) (by kernel_rfl) (by kernel_rfl) (fun _ _ _ h => h) (Or.inl ⟨by rfl, ?_⟩) hHeld ?_
        rotate_left 1
        · (intro W hW; (try dsimp only at hW); go_simp; try with_reducible rfl)
        try simp only [Act.put, List.setIfInBounds_toArray, List.set_cons_zero, List.set_cons_succ]
        refine wpAnyH_take (i := 4) (oi := { dst := some 45, op := Op.move (Operand.tmp 6), type := 22, pos := _, after := _, guard := some (3, false) }) (v := undef) rfl (by kernel_rfl) (by kernel_rfl) (by kernel_rfl) (fun _ _ _ h => h) (Or.inr ⟨by rfl, rfl⟩) hHeld ?_
        try simp only [Act.put, List.setIfInBounds_toArray, List.set_cons_zero, List.set_cons_succ]
        refine wpAnyH_take (i := 5) (oi := { dst := some 46, op := Op.call { callee := Callee.value (Operand.func 14), args := #[Operand.tmp 45], argTypes := #[22] }, type := 35, pos := _, after := _, guard := some (3, false) }) (v := undef) rfl (by kernel_rfl) (by kernel_rfl) (by kernel_rfl) (fun _ _ _ h => h) (Or.inr ⟨by rfl, rfl⟩) hHeld ?_
        try simp only [Act.put, List.setIfInBounds_toArray, List.set_cons_zero, List.set_cons_succ]
        refine wpAnyH_take (i := 6) (oi := { dst := some 47, op := Op.load 35 (Operand.tmp 1), type := 35, pos := _, after := _, guard := some (3, false) }) (v := undef) rfl (by kernel_rfl) (by kernel_rfl) (by kernel_rfl) (fun _ _ _ h => h) (Or.inr ⟨by rfl, rfl⟩) hHeld ?_
        try simp only [Act.put, List.setIfInBounds_toArray, List.set_cons_zero, List.set_cons_succ]
        refine wpAnyH_take (i := 7) (oi := { dst := some 48, op := Op.call { callee := Callee.value (Operand.func 34), args := #[Operand.tmp 46, Operand.tmp 47], argTypes := #[35, 35] }, type := 4, pos := _, after := _, guard := some (3, false) }) (v := undef) rfl (by kernel_rfl) (by kernel_rfl) (by kernel_rfl) (fun _ _ _ h => h) (Or.inr ⟨by rfl, rfl⟩) hHeld ?_
        try simp only [Act.put, List.setIfInBounds_toArray, List.set_cons_zero, List.set_cons_succ]
        refine wpAnyH_take (i := 8) (oi := { dst := some 49, op := Op.unOp UnOp.not 4 (Operand.tmp 48), type := 4, pos := _, after := _, guard := some (3, false) }) (v := undef) rfl (by kernel_rfl) (by kernel_rfl) (by kernel_rfl) (fun _ _ _ h => h) (Or.inr ⟨by rfl, rfl⟩) hHeld ?_
        try simp only [Act.put, List.setIfInBounds_toArray, List.set_cons_zero, List.set_cons_succ]
        refine wpAnyH_take (i := 9) (oi := { dst := some 50, op := Op.pick (Operand.tmp 44) (Operand.const (Value.bool true)) (Operand.tmp 49), type := 4, pos := _, after := _, guard := none }) (v := ?_) rfl (by kernel_rfl) (by kernel_rfl) (by kernel_rfl) (fun _ _ _ h => h) (Or.inl ⟨by rfl, ?_⟩) hHeld ?_
        rotate_left 1
        · (intro W hW; (try dsimp only at hW); go_simp; try with_reducible rfl)
        try simp only [Act.put, List.setIfInBounds_toArray, List.set_cons_zero, List.set_cons_succ]
        refine wpAnyH_done (by kernel_rfl) ?_ _
        refine NoPanic.normal ?_
        go_wp2_with fail
        go_ret2
        exact getX_no HNO.out (HBW.out.trans (b4.out.mono HBW.out.size))
      · have HXI := Lib.hid hxi
        have HND : Hid (∀ W, Below wr.heap.size wr W → Calls Try.prog 14 #[.slice A i c] W (MadeT W [] (exsTr (l.map Ex.v)))) := Lib.hid fun W hW => exNode_any W [] A c i l (HXP.out.under hW).at_ HLL.out (fun x hx => by
          obtain ⟨j, hj, rfl⟩ := List.getElem_of_mem hx
          have h1 := (exIs_iff.1 hxi).2 j (by rw [List.length_map]; exact hj)
          unfold exOne at h1
          rw [ev_at hj] at h1
          simp only [Bool.and_eq_true, decide_eq_true_eq] at h1
          have h2 : l.getD j default = l[j] := by simp [List.getD, hj]
          rw [h2] at h1
          have h3 := (idOk_iff.1 h1.1.1).2.1
          have h4 := h1.1.2
          simp only [Ex.v] at h3 h4
          omega) (by omega) (by simp)
        rw [hxi] at HIS
        clear hxi
        have HZ : Hid (∀ W, Below wr.heap.size wr W → W.cell? ⟨w.heap.size, 0, none⟩ = some (.int .u8 (tag : Int)) ∧ W.cell? ⟨w.heap.size, 1, none⟩ = some (.slice ba n bc) ∧ W.cell? ⟨w.heap.size, 2, none⟩ = some (.slice ka i kc)) := Lib.hid fun W hW => by
          have h := (HH3.out.under HB.out HH3.out.lt).under hW (by have := HH3.out.lt; have := HB.out.size; omega)
          exact ⟨h.cell 0, h.cell 1, h.cell 2⟩
        by_cases hte : exsTr (l.map Ex.v) = T
        · have HS : Hid (∀ (W : World) (lt : Lt), Below wr.heap.size wr W → lt.t = exsTr (l.map Ex.v) → Off [] (ThP lt) W → Calls Try.prog 34 #[lt.val, .agg #[.int .u8 (tag : Int), .slice ba n bc, .slice ka i kc]] W fun e w' => e = .returned (.bool true) ∧ Below W.heap.size W w') := Lib.hid fun W lt hW hl ho => by
            rw [← HVAL.out]
            exact same_any lt t W W.heap.size ho.at_ (HTH.out.under (HBW.out.trans (hW.mono HBW.out.size))).at_ (Nat.le_refl _) true (by rw [hl, hte, HTT.out]; simp)
          have HTE := Lib.hid hte
          clear hte
          go_wp2_with fail
          refine wp_region_noPanic ?_
          refine wp_region_held_drew (S := fun W => Below wr.heap.size wr W) (by kernel_rfl) (Below.refl _ wr).drew (fun hHeld => ?_)
          refine wpAnyH_take (i := 0) (oi := { dst := some 41, op := Op.move (Operand.tmp 6), type := 22, pos := _, after := _, guard := none }) (v := ?_) rfl (by kernel_rfl) (by kernel_rfl) (by kernel_rfl) (fun _ _ _ h => h) (Or.inl ⟨by rfl, ?_⟩) hHeld ?_
          rotate_left 1
          · (intro W hW; (try dsimp only at hW); go_simp; try with_reducible rfl)
          try simp only [Act.put, List.setIfInBounds_toArray, List.set_cons_zero, List.set_cons_succ]
          refine wpAnyH_ready (rs := [1]) (by kernel_rfl) (by simp) ?_
          refine AllReadyH.cons (o := { dst := some 42, op := Op.call { callee := Callee.value (Operand.func 10), args := #[Operand.tmp 41], argTypes := #[22] }, type := 4, pos := _, after := _, guard := none }) rfl (fun K hK => ?_) AllReadyH.nil
          go_simp
          refine (HIS.out _ ((Below.refl _ wr).drew)).mono ?_
          rintro e w4 ⟨rfl, hb4⟩
          have b4 : Hid (Below wr.heap.size wr w4) := Lib.hid (((Below.refl _ wr).drew).trans hb4)
          clear hb4
          go_simp
          refine hK.out _ _ (b4.out) (fun _ => ?_)
          clear hK K hHeld
          try simp only [Act.put, List.setIfInBounds_toArray, List.set_cons_zero, List.set_cons_succ]
          refine wpAnyH_strong (S' := fun W => Below w4.heap.size w4 W) (fun W hW => b4.out.trans (hW.mono b4.out.size)) _ _ _ _ ?_
          have hHeld : (fun W => Below w4.heap.size w4 W) w4 := Below.refl _ _
          refine wpAnyH_take (i := 2) (oi := { dst := some 43, op := Op.unOp UnOp.not 4 (Operand.tmp 42), type := 4, pos := _, after := _, guard := none }) (v := ?_) rfl (by kernel_rfl) (by kernel_rfl) (by kernel_rfl) (fun _ _ _ h => h) (Or.inl ⟨by rfl, ?_⟩) hHeld ?_
          rotate_left 1
          · (intro W hW; (try dsimp only at hW); go_simp; try with_reducible rfl)
          try simp only [Act.put, List.setIfInBounds_toArray, List.set_cons_zero, List.set_cons_succ]
          refine wpAnyH_take (i := 3) (oi := { dst := some 44, op := Op.move (Operand.tmp 43), type := 4, pos := _, after := _, guard := none }) (v := ?_) rfl (by kernel_rfl) (by kernel_rfl) (by kernel_rfl) (fun _ _ _ h => h) (Or.inl ⟨by rfl, ?_⟩) hHeld ?_
          rotate_left 1
          · (intro W hW; (try dsimp only at hW); go_simp; try with_reducible rfl)
          try simp only [Act.put, List.setIfInBounds_toArray, List.set_cons_zero, List.set_cons_succ]
          refine wpAnyH_take (i := 4) (oi := { dst := some 45, op := Op.move (Operand.tmp 6), type := 22, pos := _, after := _, guard := some (3, false) }) (v := ?_) rfl (by kernel_rfl) (by kernel_rfl) (by kernel_rfl) (fun _ _ _ h => h) (Or.inl ⟨by rfl, ?_⟩) hHeld ?_
          rotate_left 1
          · (intro W hW; (try dsimp only at hW); go_simp; try with_reducible rfl)
          try simp only [Act.put, List.setIfInBounds_toArray, List.set_cons_zero, List.set_cons_succ]
          refine wpAnyH_take (i := 6) (oi := { dst := some 47, op := Op.load 35 (Operand.tmp 1), type := 35, pos := _, after := _, guard := some (3, false) }) (v := ?_) rfl (by kernel_rfl) (by kernel_rfl) (by kernel_rfl) (fun _ _ _ h => h) (Or.inl ⟨by rfl, ?_⟩) hHeld ?_
          rotate_left 1
          · (intro W hW; obtain ⟨k0, k1, k2⟩ := HZ.out W (b4.out.trans (hW.mono b4.out.size)); (try dsimp only at hW); go_simp; try with_reducible rfl)
          try simp only [Act.put, List.setIfInBounds_toArray, List.set_cons_zero, List.set_cons_succ]
          refine wpAnyH_ready (rs := [5]) (by kernel_rfl) (by simp) ?_
          refine AllReadyH.cons (o := { dst := some 46, op := Op.call { callee := Callee.value (Operand.func 14), args := #[Operand.tmp 45], argTypes := #[22] }, type := 35, pos := _, after := _, guard := some (3, false) }) rfl (fun K hK => ?_) AllReadyH.nil
          go_simp
          refine (HND.out _ b4.out).mono ?_
          rintro e w5 hm5
          obtain ⟨lt5, pt, pa, pn, pc, pk, pm, pd, rfl, h65, hT5, hO5, hb5⟩ := MadeT.six hm5
          have b5 : Hid (Below w4.heap.size w4 w5) := Lib.hid hb5
          have H5 := Lib.hid (b4.out.trans (hb5.mono b4.out.size))
          have HLT : Hid (lt5.val = .agg #[.int .u8 (pt : Int), .slice pa pn pc, .slice pk pm pd]) := Lib.hid (by rw [Lt.val, ← lcell_cells, show lcell lt5 = _ from h65])
          have HSA := Lib.hid (HS.out w5 lt5 H5.out hT5 hO5)
          rw [HLT.out] at HSA
          clear hb5 hm5 hT5 hO5 h65
          go_simp
          refine hK.out _ _ (b5.out) (fun _ => ?_)
          clear hK K hHeld
          try simp only [Act.put, List.setIfInBounds_toArray, List.set_cons_zero, List.set_cons_succ]
          refine wpAnyH_strong (S' := fun W => Below w5.heap.size w5 W) (fun W hW => b5.out.trans (hW.mono b5.out.size)) _ _ _ _ ?_
          have hHeld : (fun W => Below w5.heap.size w5 W) w5 := Below.refl _ _
          refine wpAnyH_ready (rs := [7]) (by kernel_rfl) (by simp) ?_
          refine AllReadyH.cons (o := { dst := some 48, op := Op.call { callee := Callee.value (Operand.func 34), args := #[Operand.tmp 46, Operand.tmp 47], argTypes := #[35, 35] }, type := 4, pos := _, after := _, guard := some (3, false) }) rfl (fun K hK => ?_) AllReadyH.nil
          go_simp
          refine HSA.out.mono ?_
          rintro e w7 ⟨rfl, hb7⟩
          have b7 : Hid (Below w5.heap.size w5 w7) := Lib.hid hb7
          have H7 := Lib.hid (H5.out.trans (hb7.mono H5.out.size))
          clear hb7
          go_simp
          refine hK.out _ _ (b7.out) (fun _ => ?_)
          clear hK K hHeld
          try simp only [Act.put, List.setIfInBounds_toArray, List.set_cons_zero, List.set_cons_succ]
          refine wpAnyH_strong (S' := fun W => Below w7.heap.size w7 W) (fun W hW => b7.out.trans (hW.mono b7.out.size)) _ _ _ _ ?_
          have hHeld : (fun W => Below w7.heap.size w7 W) w7 := Below.refl _ _
          refine wpAnyH_take (i := 8) (oi := { dst := some 49, op := Op.unOp UnOp.not 4 (Operand.tmp 48), type := 4, pos := _, after := _, guard := some (3, false) }) (v := ?_) rfl (by kernel_rfl) (by kernel_rfl) (by kernel_rfl) (fun _ _ _ h => h) (Or.inl ⟨by rfl, ?_⟩) hHeld ?_
          rotate_left 1
          · (intro W hW; (try dsimp only at hW); go_simp; try with_reducible rfl)
          try simp only [Act.put, List.setIfInBounds_toArray, List.set_cons_zero, List.set_cons_succ]
          refine wpAnyH_take (i := 9) (oi := { dst := some 50, op := Op.pick (Operand.tmp 44) (Operand.const (Value.bool true)) (Operand.tmp 49), type := 4, pos := _, after := _, guard := none }) (v := ?_) rfl (by kernel_rfl) (by kernel_rfl) (by kernel_rfl) (fun _ _ _ h => h) (Or.inl ⟨by rfl, ?_⟩) hHeld ?_
          rotate_left 1
          · (intro W hW; (try dsimp only at hW); go_simp; try with_reducible rfl)
          try simp only [Act.put, List.setIfInBounds_toArray, List.set_cons_zero, List.set_cons_succ]
          refine wpAnyH_done (by kernel_rfl) ?_ _
          refine NoPanic.normal ?_
          go_wp2_with fail
          go_ret2
          exact .inl ⟨A, c, l, by rw [HLL.out]; rfl, (HXP.out.under H7.out).at_, HXI.out, HTE.out, HBW.out.trans (H7.out.mono HBW.out.size)⟩
        · have HS : Hid (∀ (W : World) (lt : Lt), Below wr.heap.size wr W → lt.t = exsTr (l.map Ex.v) → Off [] (ThP lt) W → Calls Try.prog 34 #[lt.val, .agg #[.int .u8 (tag : Int), .slice ba n bc, .slice ka i kc]] W fun e w' => e = .returned (.bool false) ∧ Below W.heap.size W w') := Lib.hid fun W lt hW hl ho => by
            rw [← HVAL.out]
            exact same_any lt t W W.heap.size ho.at_ (HTH.out.under (HBW.out.trans (hW.mono HBW.out.size))).at_ (Nat.le_refl _) false (by rw [hl, ← HTT.out]; simp [hte])
          have HNO : Hid (∀ l2 : List EV, exIs l2 = true → exsTr l2 ≠ T) := Lib.hid fun l2 h1 h2 => by
            have h3 := HRD.out l2 h1 h2
            exact hte (by rw [h3]; exact h2)
          clear hte
          go_wp2_with fail
          refine wp_region_noPanic ?_
          refine wp_region_held_drew (S := fun W => Below wr.heap.size wr W) (by kernel_rfl) (Below.refl _ wr).drew (fun hHeld => ?_)
          refine wpAnyH_take (i := 0) (oi := { dst := some 41, op := Op.move (Operand.tmp 6), type := 22, pos := _, after := _, guard := none }) (v := ?_) rfl (by kernel_rfl) (by kernel_rfl) (by kernel_rfl) (fun _ _ _ h => h) (Or.inl ⟨by rfl, ?_⟩) hHeld ?_
          rotate_left 1
          · (intro W hW; (try dsimp only at hW); go_simp; try with_reducible rfl)
          try simp only [Act.put, List.setIfInBounds_toArray, List.set_cons_zero, List.set_cons_succ]
          refine wpAnyH_ready (rs := [1]) (by kernel_rfl) (by simp) ?_
          refine AllReadyH.cons (o := { dst := some 42, op := Op.call { callee := Callee.value (Operand.func 10), args := #[Operand.tmp 41], argTypes := #[22] }, type := 4, pos := _, after := _, guard := none }) rfl (fun K hK => ?_) AllReadyH.nil
          go_simp
          refine (HIS.out _ ((Below.refl _ wr).drew)).mono ?_
          rintro e w4 ⟨rfl, hb4⟩
          have b4 : Hid (Below wr.heap.size wr w4) := Lib.hid (((Below.refl _ wr).drew).trans hb4)
          clear hb4
          go_simp
          refine hK.out _ _ (b4.out) (fun _ => ?_)
          clear hK K hHeld
          try simp only [Act.put, List.setIfInBounds_toArray, List.set_cons_zero, List.set_cons_succ]
          refine wpAnyH_strong (S' := fun W => Below w4.heap.size w4 W) (fun W hW => b4.out.trans (hW.mono b4.out.size)) _ _ _ _ ?_
          have hHeld : (fun W => Below w4.heap.size w4 W) w4 := Below.refl _ _
          refine wpAnyH_take (i := 2) (oi := { dst := some 43, op := Op.unOp UnOp.not 4 (Operand.tmp 42), type := 4, pos := _, after := _, guard := none }) (v := ?_) rfl (by kernel_rfl) (by kernel_rfl) (by kernel_rfl) (fun _ _ _ h => h) (Or.inl ⟨by rfl, ?_⟩) hHeld ?_
          rotate_left 1
          · (intro W hW; (try dsimp only at hW); go_simp; try with_reducible rfl)
          try simp only [Act.put, List.setIfInBounds_toArray, List.set_cons_zero, List.set_cons_succ]
          refine wpAnyH_take (i := 3) (oi := { dst := some 44, op := Op.move (Operand.tmp 43), type := 4, pos := _, after := _, guard := none }) (v := ?_) rfl (by kernel_rfl) (by kernel_rfl) (by kernel_rfl) (fun _ _ _ h => h) (Or.inl ⟨by rfl, ?_⟩) hHeld ?_
          rotate_left 1
          · (intro W hW; (try dsimp only at hW); go_simp; try with_reducible rfl)
          try simp only [Act.put, List.setIfInBounds_toArray, List.set_cons_zero, List.set_cons_succ]
          refine wpAnyH_take (i := 4) (oi := { dst := some 45, op := Op.move (Operand.tmp 6), type := 22, pos := _, after := _, guard := some (3, false) }) (v := ?_) rfl (by kernel_rfl) (by kernel_rfl) (by kernel_rfl) (fun _ _ _ h => h) (Or.inl ⟨by rfl, ?_⟩) hHeld ?_
          rotate_left 1
          · (intro W hW; (try dsimp only at hW); go_simp; try with_reducible rfl)
          try simp only [Act.put, List.setIfInBounds_toArray, List.set_cons_zero, List.set_cons_succ]
          refine wpAnyH_take (i := 6) (oi := { dst := some 47, op := Op.load 35 (Operand.tmp 1), type := 35, pos := _, after := _, guard := some (3, false) }) (v := ?_) rfl (by kernel_rfl) (by kernel_rfl) (by kernel_rfl) (fun _ _ _ h => h) (Or.inl ⟨by rfl, ?_⟩) hHeld ?_
          rotate_left 1
          · (intro W hW; obtain ⟨k0, k1, k2⟩ := HZ.out W (b4.out.trans (hW.mono b4.out.size)); (try dsimp only at hW); go_simp; try with_reducible rfl)
          try simp only [Act.put, List.setIfInBounds_toArray, List.set_cons_zero, List.set_cons_succ]
          refine wpAnyH_ready (rs := [5]) (by kernel_rfl) (by simp) ?_
          refine AllReadyH.cons (o := { dst := some 46, op := Op.call { callee := Callee.value (Operand.func 14), args := #[Operand.tmp 45], argTypes := #[22] }, type := 35, pos := _, after := _, guard := some (3, false) }) rfl (fun K hK => ?_) AllReadyH.nil
          go_simp
          refine (HND.out _ b4.out).mono ?_
          rintro e w5 hm5
          obtain ⟨lt5, pt, pa, pn, pc, pk, pm, pd, rfl, h65, hT5, hO5, hb5⟩ := MadeT.six hm5
          have b5 : Hid (Below w4.heap.size w4 w5) := Lib.hid hb5
          have H5 := Lib.hid (b4.out.trans (hb5.mono b4.out.size))
          have HLT : Hid (lt5.val = .agg #[.int .u8 (pt : Int), .slice pa pn pc, .slice pk pm pd]) := Lib.hid (by rw [Lt.val, ← lcell_cells, show lcell lt5 = _ from h65])
          have HSA := Lib.hid (HS.out w5 lt5 H5.out hT5 hO5)
          rw [HLT.out] at HSA
          clear hb5 hm5 hT5 hO5 h65
          go_simp
          refine hK.out _ _ (b5.out) (fun _ => ?_)
          clear hK K hHeld
          try simp only [Act.put, List.setIfInBounds_toArray, List.set_cons_zero, List.set_cons_succ]
          refine wpAnyH_strong (S' := fun W => Below w5.heap.size w5 W) (fun W hW => b5.out.trans (hW.mono b5.out.size)) _ _ _ _ ?_
          have hHeld : (fun W => Below w5.heap.size w5 W) w5 := Below.refl _ _
          refine wpAnyH_ready (rs := [7]) (by kernel_rfl) (by simp) ?_
          refine AllReadyH.cons (o := { dst := some 48, op := Op.call { callee := Callee.value (Operand.func 34), args := #[Operand.tmp 46, Operand.tmp 47], argTypes := #[35, 35] }, type := 4, pos := _, after := _, guard := some (3, false) }) rfl (fun K hK => ?_) AllReadyH.nil
          go_simp
          refine HSA.out.mono ?_
          rintro e w7 ⟨rfl, hb7⟩
          have b7 : Hid (Below w5.heap.size w5 w7) := Lib.hid hb7
          have H7 := Lib.hid (H5.out.trans (hb7.mono H5.out.size))
          clear hb7
          go_simp
          refine hK.out _ _ (b7.out) (fun _ => ?_)
          clear hK K hHeld
          try simp only [Act.put, List.setIfInBounds_toArray, List.set_cons_zero, List.set_cons_succ]
          refine wpAnyH_strong (S' := fun W => Below w7.heap.size w7 W) (fun W hW => b7.out.trans (hW.mono b7.out.size)) _ _ _ _ ?_
          have hHeld : (fun W => Below w7.heap.size w7 W) w7 := Below.refl _ _
          refine wpAnyH_take (i := 8) (oi := { dst := some 49, op := Op.unOp UnOp.not 4 (Operand.tmp 48), type := 4, pos := _, after := _, guard := some (3, false) }) (v := ?_) rfl (by kernel_rfl) (by kernel_rfl) (by kernel_rfl) (fun _ _ _ h => h) (Or.inl ⟨by rfl, ?_⟩) hHeld ?_
          rotate_left 1
          · (intro W hW; (try dsimp only at hW); go_simp; try with_reducible rfl)
          try simp only [Act.put, List.setIfInBounds_toArray, List.set_cons_zero, List.set_cons_succ]
          refine wpAnyH_take (i := 9) (oi := { dst := some 50, op := Op.pick (Operand.tmp 44) (Operand.const (Value.bool true)) (Operand.tmp 49), type := 4, pos := _, after := _, guard := none }) (v := ?_) rfl (by kernel_rfl) (by kernel_rfl) (by kernel_rfl) (fun _ _ _ h => h) (Or.inl ⟨by rfl, ?_⟩) hHeld ?_
          rotate_left 1
          · (intro W hW; (try dsimp only at hW); go_simp; try with_reducible rfl)
          try simp only [Act.put, List.setIfInBounds_toArray, List.set_cons_zero, List.set_cons_succ]
          refine wpAnyH_done (by kernel_rfl) ?_ _
          refine NoPanic.normal ?_
          go_wp2_with fail
          go_ret2
          exact getX_no HNO.out (HBW.out.trans (H7.out.mono HBW.out.size))
end Go.Proofs.Ytaemjgemkgiahaa
