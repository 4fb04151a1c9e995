/-
  A thing as an extension: by ext.
-/
import Derived.Test.YtaemjgemkgiahaaEx6
namespace Go.Proofs.Ytaemjgemkgiahaa
open Go.RowKit
set_option linter.unusedVariables false
set_option linter.unusedSimpArgs false

/-- The things of a Seq; none of another thing. -/
def psOf (t : Tr) : List Tr := if seqOk t.tag t.body.length 48 = true then t.kids else []
def qsOf (t : Lt) : List Lt := if seqOk t.tag t.body.length 48 = true then t.kids else []
theorem t_parts (t : Lt) : t.t.tag = t.tag ∧ t.t.body = t.body ∧ t.t.kids = t.kids.map Lt.t := by
  rcases t with ⟨tag, ba, bc, body, ka, kc, kids⟩
  rw [Lt.t_mk]
  exact ⟨rfl, rfl, rfl⟩
theorem ps_qs (t : Lt) : psOf t.t = (qsOf t).map Lt.t := by
  obtain ⟨h1, h2, h3⟩ := t_parts t
  unfold psOf qsOf
  rw [h1, h2, h3]
  split <;> rfl
def idOf (p : Tr) : List Nat := if (heldOk p.tag p.kids.length 6 && idOk p.body) = true then p.body else []
def oneT (t : Tr) : Option EV :=
  if (psOf t).length < 2 then none
  else if heldOk ((psOf t).getD ((psOf t).length - 1) default).tag ((psOf t).getD ((psOf t).length - 1) default).kids.length 4 = true then
    some ⟨idOf ((psOf t).getD 0 default), decide (2 < (psOf t).length), ((psOf t).getD ((psOf t).length - 1) default).body⟩
  else none
def OneP (w : World) (xs : List Nat) : Option EV → Ending → World → Prop
  | none, e, w' => ∃ ia k ic b va m vc, e = .returned (.tuple #[.agg #[.slice ia k ic, .bool b, .slice va m vc], .bool false]) ∧ Below w.heap.size w w'
  | some ev, e, w' => ∃ ex : Ex, ex.v = ev ∧ e = .returned (.tuple #[.agg #[.slice ex.ia ex.id.length ex.ic, .bool ex.cr, .slice ex.va ex.val.length ex.vc], .bool true]) ∧ Off xs (ExP ex) w' ∧ Below w.heap.size w w'
theorem SeqPost.one {w : World} {xs : List Nat} {ks : List Lt} {b : Bool} {e : Ending} {w' : World} (h : SeqPost w xs ks b e w') : ∃ A c, e = .returned (.tuple #[.slice A (if b = true then ks else []).length c, .bool b]) ∧ Off xs (KiP A c (if b = true then ks else [])) w' ∧ Below w.heap.size w w' := by
  rcases b with _ | _
  · exact ⟨none, 0, h.1, off_none _ _, h.2⟩
  · exact h
/-- A thing that is small enough. -/
def FitX (t : Tr) : Prop := t.kids.length ≤ 12000 ∧ ∀ k ∈ t.kids, k.kids.length ≤ 12000 ∧ ∀ p ∈ k.kids, p.body.length ≤ 12000
def FitK (k : Tr) : Prop := k.kids.length ≤ 12000 ∧ ∀ p ∈ k.kids, p.body.length ≤ 12000
theorem ThP.open_ {t : Lt} {w : World} (h : ThP t w) : Rd .u8 w w.heap.size t.ba t.bc t.body ∧ (∀ x ∈ t.body, x < 256) ∧ t.tag < 256 := rd_body h
theorem qs_mem {t x : Lt} (h : x ∈ qsOf t) : x ∈ t.kids := by
  unfold qsOf at h
  split at h
  · exact h
  · cases h
theorem idOf_lt (t : Lt) : idOf t.t = (if (heldOk t.tag t.kids.length 6 && idOk t.body) = true then some t.body else none).getD [] := by
  obtain ⟨h1, h2, h3⟩ := t_parts t
  unfold idOf
  rw [h1, h2, h3, List.length_map]
  split <;> rfl
theorem held_lt (t : Lt) (k : Nat) : heldOk t.t.tag t.t.kids.length k = heldOk t.tag t.kids.length k := by
  obtain ⟨h1, h2, h3⟩ := t_parts t
  rw [h1, h3, List.length_map]
theorem below_ext {w w' : World} {h : Nat} (hb : Below w.heap.size w w') (hh : w.heap.size ≤ h) (a b c : Value) : Below w.heap.size w (((w'.setCell ⟨h, 0, none⟩ a).setCell ⟨h, 1, none⟩ b).setCell ⟨h, 2, none⟩ c) :=
  ((hb.setCell (p := ⟨h, 0, none⟩) hh _).setCell (p := ⟨h, 1, none⟩) hh _).setCell (p := ⟨h, 2, none⟩) hh _
theorem one_id {t : Tr} {ev : EV} (h : oneT t = some ev) : ev.id.length ≤ 20 := by
  unfold oneT at h
  split at h
  · cases h
  · split at h
    · injection h with h
      subst h
      show (idOf _).length ≤ 20
      unfold idOf
      split
      · rename_i h2
        simp only [Bool.and_eq_true] at h2
        exact (idOk_iff.1 h2.2).2.1
      · simp
    · cases h
set_option maxRecDepth 100000 in
set_option maxHeartbeats 8000000 in
theorem one_any (w : World) (xs : List Nat) (t : Lt) (h : Off [] (ThP t) w) (hf : FitK t.t) (hxs : ∀ x ∈ xs, x < w.heap.size) :
    Calls Try.prog 33 #[t.val] w (OneP w xs (oneT t.t)) := by
  obtain ⟨T, hT⟩ : ∃ T, T = t.t := ⟨_, rfl⟩
  obtain ⟨o, HOO⟩ : ∃ o, Hid (o = oneT T) := ⟨_, rfl⟩
  obtain ⟨qs, hqs⟩ : ∃ qs, qs = qsOf t := ⟨_, rfl⟩
  have HPS : Hid (psOf T = qs.map Lt.t) := Lib.hid (by rw [hT, ps_qs, hqs])
  rw [← hT, ← HOO.out]
  have HFQ : Hid (∀ x ∈ qs, x.t.body.length ≤ 12000) := Lib.hid fun x hx => by
    have h1 := qs_mem (by rw [← hqs]; exact hx)
    have h2 := hf.2 x.t (by rw [(t_parts t).2.2]; exact List.mem_map_of_mem h1)
    exact h2
  have hkl : t.kids.length ≤ 100000 := by have := hf.1; rw [(t_parts t).2.2, List.length_map] at this; omega
  have hth := h.at_
  obtain ⟨tag, ba, bc, body, ka, kc, kids⟩ := t
  have hko := kids_off h
  have hq2 : qs = if seqOk tag body.length 48 = true then kids else [] := hqs
  have htag : tag < 256 := (ThP.iff.1 hth).1
  have hkl2 : kids.length ≤ 100000 := hkl
  obtain ⟨n, hn⟩ : ∃ n, n = body.length := ⟨_, rfl⟩
  obtain ⟨kn, hkn⟩ : ∃ k, k = kids.length := ⟨_, rfl⟩
  rw [← hn] at hq2
  rw [← hkn] at hkl2
  have hval : (Lt.mk tag ba bc body ka kc kids).val = .agg #[.int .u8 (tag : Int), .slice ba n bc, .slice ka kn kc] := by rw [hn, hkn]; rfl
  rw [hval]
  have hH1 := Holds.fresh w 35 #[.int .u8 (tag : Int), .slice ba n bc, .slice ka kn kc]
  have hs1 : (w.alloc (.cells #[.int .u8 (tag : Int), .slice ba n bc, .slice ka kn kc] 35)).heap.size = w.heap.size + 1 := by simp
  have hH2 := hH1.alloc (.cells #[.slice none 0 0, .bool false, .slice none 0 0] 26)
  have hE2 : Holds ((w.alloc (.cells #[.int .u8 (tag : Int), .slice ba n bc, .slice ka kn kc] 35)).alloc (.cells #[.slice none 0 0, .bool false, .slice none 0 0] 26)) (w.heap.size + 1) 26 #[.slice none 0 0, .bool false, .slice none 0 0] := by
    have := Holds.fresh (w.alloc (.cells #[.int .u8 (tag : Int), .slice ba n bc, .slice ka kn kc] 35)) 26 #[.slice none 0 0, .bool false, .slice none 0 0]
    rw [hs1] at this
    exact this
  have hB2 : Below w.heap.size w ((w.alloc (.cells #[.int .u8 (tag : Int), .slice ba n bc, .slice ka kn kc] 35)).alloc (.cells #[.slice none 0 0, .bool false, .slice none 0 0] 26)) := ((Below.refl _ _).alloc (Nat.le_refl _) _).alloc (by omega) _
  have hk2 := ((hko.new (g := w.heap.size + 1) (by omega)).alloc (.cells #[.int .u8 (tag : Int), .slice ba n bc, .slice ka kn kc] 35)).alloc (.cells #[.slice none 0 0, .bool false, .slice none 0 0] 26)
  have hgs := getSeq_any _ [w.heap.size + 1] tag n bc kn kc 48 ba ka kids hk2 hkn.symm (by omega) hkl2 (fun x hx => by rw [List.mem_singleton.1 hx]; exact hE2.lt)
  have HGS : Hid (Calls Try.prog 32 #[.agg #[.int .u8 (tag : Int), .slice ba n bc, .slice ka kn kc], .int .u8 48] ((w.alloc (.cells #[.int .u8 (tag : Int), .slice ba n bc, .slice ka kn kc] 35)).alloc (.cells #[.slice none 0 0, .bool false, .slice none 0 0] 26)) fun e w' => ∃ A c, e = .returned (.tuple #[.slice A qs.length c, .bool (seqOk tag n 48)]) ∧ Off [w.heap.size + 1] (KiP A c qs) w' ∧ Below ((w.alloc (.cells #[.int .u8 (tag : Int), .slice ba n bc, .slice ka kn kc] 35)).alloc (.cells #[.slice none 0 0, .bool false, .slice none 0 0] 26)).heap.size ((w.alloc (.cells #[.int .u8 (tag : Int), .slice ba n bc, .slice ka kn kc] 35)).alloc (.cells #[.slice none 0 0, .bool false, .slice none 0 0] 26)) w') := Lib.hid (hgs.mono fun _ _ hh => by rw [hq2]; exact SeqPost.one hh)
  have c0 := hH2.cell 0
  have c1 := hH2.cell 1
  have c2 := hH2.cell 2
  have HE2 := Lib.hid hE2
  have HB2 := Lib.hid hB2
  clear h hf hqs hkl hth hT hko hq2 htag hn hkn hval hH1 hs1 hH2 hE2 hB2 hk2 hgs hkl2
  generalize seqOk tag n 48 = sq at *
  go_enter Try.func33, Try.ntmps33
  go_wp2_with fail
  refine HGS.out.mono ?_
  rintro e w3 ⟨A3, c3, rfl, hk3, hb3⟩
  have HB3 := Lib.hid (HB2.out.trans (hb3.mono HB2.out.size))
  have HE3 := Lib.hid (HE2.out.under hb3 HE2.out.lt)
  have HK3 := Lib.hid hk3
  obtain ⟨m, hm⟩ : ∃ m, m = qs.length := ⟨_, rfl⟩
  have HM := Lib.hid hm
  rw [← hm]
  have hmc : m ≤ c3 := by rw [hm]; exact hk3.at_.1.1
  have hc63 := hk3.at_.1.2.1
  clear hb3 hk3 hm HGS c0 c1 c2
  by_cases hm2 : m < 2
  case pos =>
    have HN : Hid (o = none) := Lib.hid (by rw [HOO.out]; unfold oneT; rw [if_pos (by rw [HPS.out, List.length_map, ← HM.out]; exact hm2)])
    have d1 : decide ((m : Int) < 2) = true := decide_eq_true (by omega)
    have z0 := HE3.out.cell 0
    have z1 := HE3.out.cell 1
    have z2 := HE3.out.cell 2
    have y0 := HE3.out.open_ 0
    have y1 := HE3.out.open_ 1
    have y2 := HE3.out.open_ 2
    go_wp2_with fail
    rw [HN.out]
    exact ret_ext rfl rfl rfl (((HE3.out.stored 0 _).stored 1 _).stored 2 _) rfl ⟨_, _, _, _, _, _, _, rfl, below_ext HB3.out (Nat.le_succ _) _ _ _⟩
  have d1 : decide ((m : Int) < 2) = false := decide_eq_false (by omega)
  obtain ⟨g, off, rfl, hg, hcs⟩ := HK3.out.at_.1.2.2 (by rw [← HM.out]; omega)
  have p0 := hcs 0 (by rw [← HM.out]; omega)
  have pl := hcs (m - 1) (by rw [← HM.out]; omega)
  have t0 := (HK3.out.at_.2 _ (getD_mem (l := qs) (j := 0) (by rw [← HM.out]; omega))).open_
  have hpl := fun W (hW : Below w3.heap.size w3 W) => (((HK3.out.under hW).at_.2 _ (getD_mem (l := qs) (j := m - 1) (by rw [← HM.out]; omega))).open_)
  have HD0 : Hid ((psOf T).getD 0 default = (qs.getD 0 default).t) := Lib.hid (by rw [HPS.out]; exact Lt.ts_at (by rw [← HM.out]; omega))
  have HDL : Hid ((psOf T).getD ((psOf T).length - 1) default = (qs.getD (m - 1) default).t) := Lib.hid (by rw [HPS.out, List.length_map, ← HM.out]; exact Lt.ts_at (by rw [← HM.out]; omega))
  have hb12 : (qs.getD (m - 1) default).body.length ≤ 12000 := by
    have := HFQ.out _ (getD_mem (l := qs) (j := m - 1) (by rw [← HM.out]; omega))
    rwa [(t_parts _).2.1] at this
  have HONE : Hid (o = if heldOk (qs.getD (m - 1) default).tag (qs.getD (m - 1) default).kids.length 4 = true then some ⟨(if (heldOk (qs.getD 0 default).tag (qs.getD 0 default).kids.length 6 && idOk (qs.getD 0 default).body) = true then some (qs.getD 0 default).body else none).getD [], decide (2 < m), (qs.getD (m - 1) default).body⟩ else none) := Lib.hid (by
    rw [HOO.out]
    unfold oneT
    rw [if_neg (by rw [HPS.out, List.length_map, ← HM.out]; omega), HD0.out, HDL.out, held_lt, idOf_lt, (t_parts _).2.1, HPS.out, List.length_map, ← HM.out])
  obtain ⟨q0, hq0⟩ : ∃ q, q = qs.getD 0 default := ⟨_, rfl⟩
  obtain ⟨ql, hql⟩ : ∃ q, q = qs.getD (m - 1) default := ⟨_, rfl⟩
  rw [← hq0] at p0 t0 HONE
  rw [← hql] at pl hpl HONE hb12
  clear hq0 hql hcs HD0 HDL HPS HFQ HOO
  obtain ⟨p00, p01, p02⟩ := p0
  rw [show off + 0 * 3 = off by omega] at p00 p01 p02
  obtain ⟨x0, b0a, b0c, b0, k0a, k0c, k0⟩ := q0
  obtain ⟨xl, bla, blc, bll, kla, klc, kl⟩ := ql
  dsimp only [Lt.tag, Lt.ba, Lt.bc, Lt.body, Lt.ka, Lt.kc, Lt.kids] at p00 p01 p02 pl hpl HONE hb12 t0
  obtain ⟨n0, hn0⟩ : ∃ n, b0.length = n := ⟨_, rfl⟩
  obtain ⟨m0, hm0⟩ : ∃ n, k0.length = n := ⟨_, rfl⟩
  obtain ⟨nl, hnl⟩ : ∃ n, bll.length = n := ⟨_, rfl⟩
  obtain ⟨ml, hml⟩ : ∃ n, kl.length = n := ⟨_, rfl⟩
  rw [hn0] at p01
  simp only [hm0] at p02 HONE
  rw [hnl] at pl hb12
  simp only [hml] at pl HONE
  have HG0 := Lib.hid ((getID_any w3 x0 n0 b0c m0 k0c w3.heap.size b0a k0a b0 t0.1 hn0 (Nat.le_refl _) t0.2.1).mono fun _ _ hh => GetB.one hh)
  have HGL : Hid (∀ W, Below w3.heap.size w3 W → Calls Try.prog 55 #[.agg #[.int .u8 (xl : Int), .slice bla nl blc, .slice kla ml klc]] W fun e w' => ∃ A c, e = .returned (.tuple #[.slice A ((if heldOk xl ml 4 = true then some bll else none).getD []).length c, .bool (if heldOk xl ml 4 = true then some bll else none).isSome]) ∧ Mine 5 w' W.heap.size A c ((if heldOk xl ml 4 = true then some bll else none).getD []) ∧ Below W.heap.size W w') := Lib.hid fun W hW => (getOct_any W xl nl blc ml klc W.heap.size bla kla bll (hpl W hW).1 hnl (Nat.le_refl _) hb12).mono fun _ _ hh => GetB.one hh
  have HOI : Hid (∀ x ∈ (if (heldOk x0 m0 6 && idOk b0) = true then some b0 else none).getD [], x < 256) := Lib.hid fun x hx => by
    split at hx
    · exact t0.2.1 x hx
    · cases hx
  have HOV : Hid (∀ x ∈ bll, x < 256) := Lib.hid (hpl w3 (Below.refl _ _)).2.1
  have HCL : Hid (∀ W, Below w3.heap.size w3 W → W.cell? ⟨g, off + (m - 1) * 3, none⟩ = some (.int .u8 (xl : Int)) ∧ W.cell? ⟨g, off + (m - 1) * 3 + 1, none⟩ = some (.slice bla nl blc) ∧ W.cell? ⟨g, off + (m - 1) * 3 + 2, none⟩ = some (.slice kla ml klc)) := Lib.hid fun W hW => ⟨(hW.cell (p := ⟨g, _, none⟩) hg).trans pl.1, (hW.cell (p := ⟨g, _, none⟩) hg).trans pl.2.1, (hW.cell (p := ⟨g, _, none⟩) hg).trans pl.2.2⟩
  have hlt3 : w.heap.size + 1 < w3.heap.size := HE3.out.lt
  clear t0 hpl pl hn0 hm0 hnl hml
  generalize (if (heldOk x0 m0 6 && idOk b0) = true then some b0 else none) = o1 at *
  obtain ⟨n4, hn4⟩ : ∃ n, n = (o1.getD []).length := ⟨_, rfl⟩
  obtain ⟨s4, hs4⟩ : ∃ s, s = o1.isSome := ⟨_, rfl⟩
  have HN4 := Lib.hid hn4
  rw [← hn4, ← hs4] at HG0
  clear hn4 hs4
  rcases hol : heldOk xl ml 4 with _ | _
  all_goals
    have HV2 : Hid (o = _) := Lib.hid HONE.out
    rw [hol] at HV2 HGL
    clear HONE hol
    simp only [if_true, Bool.false_eq_true, if_false, Option.getD_some, Option.getD_none, Option.isSome_some, Option.isSome_none] at HV2 HGL
    go_wp2_with fail
    refine HG0.out.mono ?_
    rintro e w4 ⟨A4, c4, rfl, hm4, hb4⟩
    have HB4 := Lib.hid (HB3.out.trans (hb4.mono HB3.out.size))
    have HE4 := Lib.hid (HE3.out.under hb4 HE3.out.lt)
    have HM4 := Lib.hid hm4
    have HGL4 := Lib.hid (HGL.out w4 hb4)
    obtain ⟨l0, l1, l2⟩ := HCL.out w4 hb4
    clear hm4 hb4 HG0 HGL HCL p00 p01 p02
    go_wp2_with fail
    refine HGL4.out.mono ?_
    rintro e w6 ⟨A6, c6, rfl, hm6, hb6⟩
    have HB6 := Lib.hid (HB4.out.trans (hb6.mono HB4.out.size))
    have HE6 := Lib.hid (HE4.out.under hb6 HE4.out.lt)
    have HM6 := Lib.hid hm6
    have H46 := Lib.hid hb6
    have z0 := HE6.out.cell 0
    have z1 := HE6.out.cell 1
    have z2 := HE6.out.cell 2
    have y0 := HE6.out.open_ 0
    have y1 := HE6.out.open_ 1
    have y2 := HE6.out.open_ 2
    clear hm6 hb6 HGL4 l0 l1 l2
    go_wp2_with fail
    rw [HV2.out]
    first
    | exact ret_ext rfl rfl rfl (((HE6.out.stored 0 _).stored 1 _).stored 2 _) rfl ⟨_, _, _, _, _, _, _, rfl, below_ext HB6.out (Nat.le_succ _) _ _ _⟩
    | (refine ret_ext rfl rfl rfl (((HE6.out.stored 0 _).stored 1 _).stored 2 _) rfl ?_
       have o4 : Off ((w.heap.size + 1) :: xs) (fun W => Rd .u8 W W.heap.size A4 c4 (o1.getD [])) w6 := (Off.of_mine HM4.out (fun g hg hx => by have := (HM4.out.block hg).1; rcases List.mem_cons.1 hx with h | h; omega; have := hxs g h; omega)).under H46.out
       have o6 : Off ((w.heap.size + 1) :: xs) (fun W => Rd .u8 W W.heap.size A6 c6 bll) w6 := Off.of_mine HM6.out (fun g hg hx => by have := (HM6.out.block hg).1; have := HE4.out.lt; rcases List.mem_cons.1 hx with h | h; omega; have := hxs g h; omega)
       have oe : Off ((w.heap.size + 1) :: xs) (ExP ⟨A4, c4, o1.getD [], decide (2 < m), A6, c6, bll⟩) w6 := (o4.and o6).imp fun _ hh => ⟨hh.1, HOI.out, hh.2, HOV.out⟩
       have hd : decide ((2 : Int) < (m : Int)) = decide (2 < m) := decide_eq_decide.2 (by omega)
       refine ⟨⟨A4, c4, o1.getD [], decide (2 < m), A6, c6, bll⟩, rfl, ?_, ((((oe.store (p := ⟨w.heap.size + 1, 0, none⟩) (by simp) _).store (p := ⟨w.heap.size + 1, 1, none⟩) (by simp) _).store (p := ⟨w.heap.size + 1, 2, none⟩) (by simp) _).less (fun g hg => List.mem_cons_of_mem _ hg)), below_ext HB6.out (Nat.le_succ _) _ _ _⟩
       rw [HN4.out, hd]
       rfl)
end Go.Proofs.Ytaemjgemkgiahaa
