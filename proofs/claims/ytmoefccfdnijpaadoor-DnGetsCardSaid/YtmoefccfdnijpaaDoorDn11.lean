/-
  A thing as a part of a name, plainly; a thing's text by the document.
-/
import Derived.Test.YtmoefccfdnijpaaDoorDn8
namespace Go.Proofs.YtmoefccfdnijpaaDoor
open Go.RowKit
set_option linter.unusedVariables false
set_option linter.unusedSimpArgs false
attribute [local go_sem ↓] Go.wp_at_zero Go.wp_at_succ

set_option maxRecDepth 100000 in
set_option maxHeartbeats 2000000 in
theorem getText'_any (w : World) (x n c kn kc B : Nat) (A K : Option Addr) (b : List Nat) (hr : Rd .u8 w B A c b) (hn : b.length = n) (hB : B ≤ w.heap.size) (ho : ∀ y ∈ b, y < 256) (hmx : n ≤ 900000) :
    Calls Tryd.prog 47 #[.agg #[.int .u8 (x : Int), .slice A n c, .slice K kn kc]] w (GetTx w (txOf x kn b)) := by
  have hH := Holds.fresh w 32 #[.int .u8 (x : Int), .slice A n c, .slice K kn kc]
  have hq1 : Below w.heap.size w (w.alloc (.cells #[.int .u8 (x : Int), .slice A n c, .slice K kn kc] 32)) := (Below.refl _ _).alloc (Nat.le_refl _) _
  have HB0 := Lib.hid hq1
  have c0 := hH.cell 0
  have c1 := hH.cell 1
  have c2 := hH.cell 2
  have HK := Lib.hid (held'_any (w.alloc (.cells #[.int .u8 (x : Int), .slice A n c, .slice K kn kc] 32)) x n c kn kc 12 B A K b (hr.under (hq1.mono hB)) hn (Nat.le_trans hB hq1.size) hmx)
  have HN := Lib.hid hn
  have HO := Lib.hid ho
  clear hr hn ho hq1
  obtain ⟨o, HOO⟩ : ∃ o, Hid (o = txOf x kn b) := ⟨_, rfl⟩
  rw [← HOO.out]
  rcases hok : heldOk x kn 12 with _ | _
  case false =>
    have HE : Hid (o = none) := Lib.hid (by rw [HOO.out]; unfold txOf; rw [hok]; rfl)
    rw [hok] at HK
    go_enter Tryd.func47, Tryd.ntmps47
    go_wp2_with fail
    refine HK.out.mono ?_
    rintro e w2 ⟨rfl, hb2⟩
    have HQ := Lib.hid (HB0.out.trans (hb2.mono HB0.out.size))
    clear hb2 HK
    go_wp2_with fail
    go_ret2
    rw [HE.out]
    exact ⟨rfl, HQ.out⟩
  obtain ⟨tk, htk⟩ : ∃ tk, textOk b = tk := ⟨_, rfl⟩
  have HE : Hid (o = if tk = true then some b else none) := Lib.hid (by rw [HOO.out]; unfold txOf; rw [htk]; cases tk <;> simp [hok])
  have HTK := Lib.hid htk
  rw [hok] at HK
  clear htk hok HOO
  go_enter Tryd.func47, Tryd.ntmps47
  go_wp2_with fail
  refine HK.out.mono ?_
  rintro e w2 ⟨A2, c2, rfl, hm2, hb2⟩
  have HQ := Lib.hid (HB0.out.trans (hb2.mono HB0.out.size))
  have hcv := conv_str (w := w2) hm2.rd HN.out HO.out
  have HM2 := Lib.hid hm2
  have hit := isText'_any w2 b HO.out
  rw [HTK.out] at hit
  have HIT := Lib.hid hit
  clear hb2 HK hm2 hit
  go_wp2_with fail
  refine HIT.out.mono ?_
  rintro e w3 ⟨rfl, hb3⟩
  have HQ3 := Lib.hid (HQ.out.trans (hb3.mono HQ.out.size))
  have hcv3 := conv_str (w := w3) (HM2.out.under hb3).rd HN.out HO.out
  clear hb3 HIT hcv
  cases tk
  · go_wp2_with fail
    go_ret2
    rw [HE.out]
    exact ⟨rfl, HQ3.out⟩
  · go_wp2_with fail
    go_ret2
    rw [HE.out]
    exact ⟨rfl, HQ3.out⟩
theorem ret_att {R : Ending → World → Prop} {tmps : Array Value} {w : World} {g : Nat} {t : TypeId} {cs : Array Value} {v : Value} {fn : Func} {p u : Tmp}
    (hr : fn.results = #[.cell p 39, .tmp u]) (hp : tmps.getD p undef = .pointer (some ⟨g, 0, none⟩)) (hu : tmps.getD u undef = v) (hg : Holds w g t cs) (hcs : cs.size = 2) (hR : R (.returned (.tuple #[.agg cs, v])) w) :
    bodyPost Tryd.prog fn R .ret { tmps := tmps, defers := [] } w := by
  have hi : (Tryd.prog.info? 39).map (·.size) = some cs.size := by rw [hcs]; kernel_rfl
  refine bodyPost_ret (v := .tuple #[.agg cs, v]) ?_ rfl hR
  rw [results_cell_tmp hr]
  have hp' : tmps[p]?.getD undef = .pointer (some ⟨g, 0, none⟩) := by simpa using hp
  have hu' : tmps[u]?.getD undef = v := by simpa using hu
  simp [hp', hu', asAddr, run_loadVar_row w g t _ cs (0, 0) _ hg Tryd.underlying39 rfl hi, Result.andThen]
/-- The things of a Seq of a tag; none of another thing. -/
def seqK (k : Nat) (t : Tr) : List Tr := if seqOk t.tag t.body.length k = true then t.kids else []
def seqL (k : Nat) (t : Lt) : List Lt := if seqOk t.tag t.body.length k = true then t.kids else []
theorem t_parts (t : Lt) : t.t.tag = t.tag ∧ t.t.body = t.body ∧ t.t.kids = t.kids.map Lt.t := by
  rcases t with ⟨tag, ba, bc, body, ka, kc, kids⟩
  rw [Lt.t_mk]
  exact ⟨rfl, rfl, rfl⟩
theorem seq_map (k : Nat) (t : Lt) : seqK k t.t = (seqL k t).map Lt.t := by
  obtain ⟨h1, h2, h3⟩ := t_parts t
  unfold seqK seqL
  rw [h1, h2, h3]
  split <;> rfl
theorem seqL_mem {k : Nat} {t x : Lt} (h : x ∈ seqL k t) : x ∈ t.kids := by
  unfold seqL at h
  split at h
  · exact h
  · cases h
def idB (p : Tr) : List Nat := if (heldOk p.tag p.kids.length 6 && idOk p.body) = true then p.body else []
def txB (p : Tr) : Option (List Nat) := txOf p.tag p.kids.length p.body
/-- Are so many too few, or (strictly) not so many? -/
def bad (s : Bool) (k n : Nat) : Bool := if s = true then decide (n ≠ k) else decide (n < k)
/-- A thing as a part of a name. -/
def attrT (s : Bool) (t : Tr) : Option Att :=
  if bad s 1 (seqK 49 t).length = true then none
  else if bad s 2 (seqK 48 ((seqK 49 t).getD 0 default)).length = true then none
  else if (txB ((seqK 48 ((seqK 49 t).getD 0 default)).getD 1 default)).isSome = true ∧ (idB ((seqK 48 ((seqK 49 t).getD 0 default)).getD 0 default)).length = 3 then
    some ⟨((idB ((seqK 48 ((seqK 49 t).getD 0 default)).getD 0 default)).getD 2 0 : Nat), str ((seqK 48 ((seqK 49 t).getD 0 default)).getD 1 default).body⟩
  else none
def AttrP (w : World) : Option Att → Ending → World → Prop
  | none, e, w' => ∃ k s, e = .returned (.tuple #[.agg #[.int .i64 k, .string s], .bool false]) ∧ Below w.heap.size w w'
  | some a, e, w' => e = .returned (.tuple #[.agg #[.int .i64 a.k, .string a.s], .bool true]) ∧ Below w.heap.size w w'
theorem SeqPost.one {w : World} {xs : List Nat} {ks : List Lt} {b : Bool} {e : Ending} {w' : World} (h : SeqPost w xs ks b e w') : ∃ A c, e = .returned (.tuple #[.slice A (if b = true then ks else []).length c, .bool b]) ∧ Off xs (KiP A c (if b = true then ks else [])) w' ∧ Below w.heap.size w w' := by
  rcases b with _ | _
  · exact ⟨none, 0, h.1, off_none _ _, h.2⟩
  · exact h
/-- A thing that is small enough. -/
def FitA (t : Tr) : Prop := t.kids.length ≤ 12000 ∧ ∀ k ∈ t.kids, k.kids.length ≤ 12000 ∧ ∀ p ∈ k.kids, p.body.length ≤ 12000
theorem below_att {w w' : World} {h : Nat} (hb : Below w.heap.size w w') (hh : w.heap.size ≤ h) (a b : Value) : Below w.heap.size w ((w'.setCell ⟨h, 0, none⟩ a).setCell ⟨h, 1, none⟩ b) :=
  (hb.setCell (p := ⟨h, 0, none⟩) hh _).setCell (p := ⟨h, 1, none⟩) hh _
theorem lt_at {l : List Lt} {j : Nat} (h : j < l.length) : (l.map Lt.t).getD j default = (l.getD j default).t := by simp [List.getD, h]
/-- A thing in a row: its cells, and itself. -/
theorem KiP.cells {w : World} {A : Option Addr} {c j : Nat} {l : List Lt} (h : Off [] (KiP A c l) w) (hj : j < l.length) : ∃ g off, A = some ⟨g, off, none⟩ ∧ g < w.heap.size ∧
    (∀ W, Below w.heap.size w W → W.cell? ⟨g, off + j * 3, none⟩ = some (.int .u8 ((l.getD j default).tag : Int)) ∧ W.cell? ⟨g, off + j * 3 + 1, none⟩ = some (.slice (l.getD j default).ba (l.getD j default).body.length (l.getD j default).bc) ∧ W.cell? ⟨g, off + j * 3 + 2, none⟩ = some (.slice (l.getD j default).ka (l.getD j default).kids.length (l.getD j default).kc)) := by
  obtain ⟨g, off, e, hg, hc⟩ := h.at_.1.2.2 (by omega)
  obtain ⟨q0, q1, q2⟩ := hc j hj
  exact ⟨g, off, e, hg, fun W hW => ⟨(hW.cell (p := ⟨g, _, none⟩) hg).trans q0, (hW.cell (p := ⟨g, _, none⟩) hg).trans q1, (hW.cell (p := ⟨g, _, none⟩) hg).trans q2⟩⟩
end Go.Proofs.YtmoefccfdnijpaaDoor
