/-
  Extensions in a row: as they lie in memory; whether they may be: by ext.
-/
import Derived.Test.YtaemjgemkgiahaaTh5
import Derived.BigQuiet
import Derived.Deep.QuietTactic
namespace Go.Proofs.Ytaemjgemkgiahaa
open Go.RowKit
set_option linter.unusedVariables false
set_option linter.unusedSimpArgs false

/-- An extension. -/
structure EV where
  id : List Nat
  cr : Bool
  val : List Nat
/-- An extension, and where it lies. -/
structure Ex where
  ia : Option Addr
  ic : Nat
  id : List Nat
  cr : Bool
  va : Option Addr
  vc : Nat
  val : List Nat
instance : Inhabited EV := ⟨⟨[], false, []⟩⟩
instance : Inhabited Ex := ⟨⟨none, 0, [], false, none, 0, []⟩⟩
def Ex.v (e : Ex) : EV := ⟨e.id, e.cr, e.val⟩
def xcell (e : Ex) : List Value := [.slice e.ia e.id.length e.ic, .bool e.cr, .slice e.va e.val.length e.vc]
def ExP (e : Ex) (w : World) : Prop := Rd .u8 w w.heap.size e.ia e.ic e.id ∧ (∀ x ∈ e.id, x < 256) ∧ Rd .u8 w w.heap.size e.va e.vc e.val ∧ (∀ x ∈ e.val, x < 256)
/-- The row's cells. -/
def RowX (w : World) (B : Nat) (A : Option Addr) (c : Nat) (l : List Ex) : Prop :=
  l.length ≤ c ∧ c ≤ 9223372036854775807 ∧ (0 < l.length → ∃ b off, A = some ⟨b, off, none⟩ ∧ b < B ∧ ∀ j, j < l.length → w.cell? ⟨b, off + j * 3, none⟩ = some (.slice (l.getD j default).ia (l.getD j default).id.length (l.getD j default).ic) ∧
    w.cell? ⟨b, off + j * 3 + 1, none⟩ = some (.bool (l.getD j default).cr) ∧ w.cell? ⟨b, off + j * 3 + 2, none⟩ = some (.slice (l.getD j default).va (l.getD j default).val.length (l.getD j default).vc))
def XP (A : Option Addr) (c : Nat) (l : List Ex) (w : World) : Prop := RowX w w.heap.size A c l ∧ ∀ x ∈ l, ExP x w
theorem XP.none (w : World) : XP none 0 [] w := ⟨⟨by simp, by omega, fun h => by simp at h⟩, fun x hx => by cases hx⟩
theorem RowX.congr {w w' : World} {B : Nat} {A : Option Addr} {c : Nat} {l : List Ex} (h : RowX w B A c l) (hk : ∀ g, g < B → w'.heap[g]? = w.heap[g]?) : RowX w' B A c l :=
  ⟨h.1, h.2.1, fun hn => by
    obtain ⟨b, off, e, hlt, hc⟩ := h.2.2 hn
    have k : ∀ o, w'.cell? ⟨b, o, none⟩ = w.cell? ⟨b, o, none⟩ := fun o => by simp only [World.cell?]; rw [hk b hlt]
    exact ⟨b, off, e, hlt, fun j hj => ⟨(k _).trans (hc j hj).1, (k _).trans (hc j hj).2.1, (k _).trans (hc j hj).2.2⟩⟩⟩
theorem RowX.more {w : World} {B B' : Nat} {A : Option Addr} {c : Nat} {l : List Ex} (h : RowX w B A c l) (hB : B ≤ B') : RowX w B' A c l :=
  ⟨h.1, h.2.1, fun hn => by
    obtain ⟨b, off, e, hlt, hc⟩ := h.2.2 hn
    exact ⟨b, off, e, by omega, hc⟩⟩
theorem Off.of_x {A : Option Addr} {c : Nat} {l : List Ex} {w : World} (h : XP A c l w) : Off [] (XP A c l) w := fun w' h2 h3 => by
  have hk : ∀ g, g < w.heap.size → w'.heap[g]? = w.heap[g]? := fun g hg => h3 g (by simp) hg
  exact ⟨(h.1.congr hk).more h2, fun x hx => ⟨((h.2 x hx).1.congr hk).more h2, (h.2 x hx).2.1, ((h.2 x hx).2.2.1.congr hk).more h2, (h.2 x hx).2.2.2⟩⟩
theorem XP.at_ {A : Option Addr} {c j : Nat} {l : List Ex} {w : World} (h : XP A c l w) (hj : j < l.length) : ExP (l.getD j default) w := h.2 _ (getD_mem hj)
/-- May they be? -/
def exOne (l : List EV) (i : Nat) : Bool := idOk (l.getD i default).id && decide ((l.getD i default).val.length ≤ 600) && (decide (i = 0) || lexB (l.getD (i - 1) default).id (l.getD i default).id)
def exIs (l : List EV) : Bool := decide (l.length ≤ 12 ∧ ∀ i, i < l.length → exOne l i = true)
theorem exIs_iff {l : List EV} : exIs l = true ↔ l.length ≤ 12 ∧ ∀ i, i < l.length → exOne l i = true := by unfold exIs; rw [decide_eq_true_iff]
theorem exIs_no {l : List EV} (h : ¬ (l.length ≤ 12 ∧ ∀ i, i < l.length → exOne l i = true)) : exIs l = false := by rw [Bool.eq_false_iff]; exact fun hh => h (exIs_iff.1 hh)
theorem ev_at {l : List Ex} {j : Nat} (h : j < l.length) : (l.map Ex.v).getD j default = (l.getD j default).v := by simp [List.getD, h]
theorem MadeT.prim {w w' : World} {xs : List Nat} {tag : Nat} {b : List Nat} {e : Ending} (h : MadeT w xs (.mk tag b []) e w') : ∃ A c K kc, e = .returned (.agg #[.int .u8 (tag : Int), .slice A b.length c, .slice K 0 kc]) ∧ Rd .u8 w' w'.heap.size A c b ∧ Below w.heap.size w w' := by
  obtain ⟨lt, rfl, hlt, hoff, hb⟩ := h
  obtain ⟨h1, h2, h3⟩ := lt_parts hlt
  rcases lt with ⟨t, ba, bc, body, ka, kc, kids⟩
  simp only [Lt.tag, Lt.body, Lt.kids] at h1 h2 h3
  subst h1 h2
  refine ⟨ba, bc, ka, kc, ?_, (ThP.iff.1 hoff.at_).2.1, hb⟩
  rw [List.length_nil] at h3
  show Ending.returned (.agg #[.int .u8 (t : Int), .slice ba body.length bc, .slice ka kids.length kc]) = _
  rw [h3]
/-- An ID made, and read again. -/
theorem idAgain (w : World) (n c kc : Nat) (A K : Option Addr) (b : List Nat) (hr : Rd .u8 w w.heap.size A c b) (hn : b.length = n) (ho : ∀ y ∈ b, y < 256) :
    Calls Try.prog 26 #[.agg #[.int .u8 6, .slice A n c, .slice K 0 kc]] w fun e w' => ∃ A2 n2 c2, e = .returned (.tuple #[.slice A2 n2 c2, .bool (idOk b)]) ∧ Below w.heap.size w w' := by
  have h := getID_any w 6 n c 0 kc w.heap.size A K b hr hn (Nat.le_refl _) ho
  refine h.mono fun e w' hh => ?_
  obtain ⟨A2, c2, he, _, hb⟩ := GetB.one hh
  have hio : (if (heldOk 6 0 6 && idOk b) = true then some b else none).isSome = idOk b := by rcases idOk b <;> rfl
  rw [hio] at he
  exact ⟨A2, _, c2, he, hb⟩
set_option maxRecDepth 100000 in
set_option maxHeartbeats 8000000 in
theorem exIs_any (w : World) (A : Option Addr) (c n : Nat) (l : List Ex) (h : XP A c l w) (hn : l.length = n) (hsz : ∀ x ∈ l, x.id.length ≤ 12000) :
    Calls Try.prog 10 #[.slice A n c] w fun e w' => e = .returned (.bool (exIs (l.map Ex.v))) ∧ Below w.heap.size w w' := by
  obtain ⟨r, HR⟩ : ∃ r, Hid (r = exIs (l.map Ex.v)) := ⟨_, rfl⟩
  rw [← HR.out]
  have hlc : n ≤ c := by rw [← hn]; exact h.1.1
  have hc63 := h.1.2.1
  have HN := Lib.hid hn
  have HX := Lib.hid (Off.of_x h)
  have HS := Lib.hid hsz
  clear h hn hsz
  by_cases h12 : 12 < n
  case pos =>
    have HE : Hid (r = false) := Lib.hid (by rw [HR.out]; exact exIs_no fun h => by have := h.1; rw [List.length_map, HN.out] at this; omega)
    have d1 : decide ((12 : Int) < (n : Int)) = true := decide_eq_true (by omega)
    go_enter Try.func10, Try.ntmps10
    go_wp2_with fail
    go_ret
    exact ⟨by rw [HE.out]; rfl, Below.refl _ _⟩
  have d1 : decide ((12 : Int) < (n : Int)) = false := decide_eq_false (by omega)
  go_enter Try.func10, Try.ntmps10
  go_wp2_with fail
  clear d1
  go_loopw [12] (fun iv wr => ∃ i : Nat, i ≤ n ∧ iv = .int .i64 (i : Int) ∧ Hid (∀ j, j < i → exOne (l.map Ex.v) j = true) ∧ Below w.heap.size w wr) (fun iv _ => n - (intOf iv).toNat)
  case atStart => exact ⟨0, by omega, rfl, fun j hj => by omega, Below.refl _ _⟩
  case round =>
    obtain ⟨i, hi, rfl, HA, hB⟩ := hrel
    by_cases hlt : i < n
    · have hx := (HX.out.under hB).at_
      obtain ⟨g, off, rfl, hg, hcs⟩ := hx.1.2.2 (by rw [HN.out]; omega)
      obtain ⟨c0, c1, c2⟩ := hcs i (by rw [HN.out]; exact hlt)
      have hxe := hx.at_ (by rw [HN.out]; exact hlt)
      have HV : Hid ((l.map Ex.v).getD i default = (l.getD i default).v) := Lib.hid (ev_at (by rw [HN.out]; exact hlt))
      have hs12 : (l.getD i default).id.length ≤ 12000 := HS.out _ (getD_mem (by rw [HN.out]; exact hlt))
      obtain ⟨e, he⟩ : ∃ e, e = l.getD i default := ⟨_, rfl⟩
      rw [← he] at c0 c1 c2 hxe HV hs12
      have HE := Lib.hid he
      clear he hcs
      obtain ⟨ia, ic, id, cr, va, vc, val⟩ := e
      obtain ⟨hr1, ho1, hr2, ho2⟩ := hxe
      dsimp only at c0 c1 c2 hr1 ho1 hr2 ho2 hs12
      obtain ⟨n1, hn1⟩ : ∃ n1, id.length = n1 := ⟨_, rfl⟩
      obtain ⟨n2, hn2⟩ : ∃ n2, val.length = n2 := ⟨_, rfl⟩
      rw [hn1] at c0 hs12
      rw [hn2] at c2
      have HN1 := Lib.hid hn1
      have HN2 := Lib.hid hn2
      have HO1 := Lib.hid ho1
      have hq1 : Below wr.heap.size wr (wr.alloc (.cells #[.slice ia n1 ic, .bool cr, .slice va n2 vc] 26)) := (Below.refl _ _).alloc (Nat.le_refl _) _
      have hB1 := hB.trans (hq1.mono hB.size)
      have hH1 := Holds.fresh wr 26 #[.slice ia n1 ic, .bool cr, .slice va n2 vc]
      have HH1 := Lib.hid hH1
      have HB1 := Lib.hid hB1
      have z0 := hH1.cell 0
      have z1 := hH1.cell 1
      have z2 := hH1.cell 2
      have HRI : Hid (∀ W, Below wr.heap.size wr W → Rd .u8 W wr.heap.size ia ic id) := Lib.hid fun W hW => hr1.under hW
      have HID := Lib.hid (id_any (wr.alloc (.cells #[.slice ia n1 ic, .bool cr, .slice va n2 vc] 26)) [] ia ic n1 wr.heap.size id (hr1.under hq1) hn1 hq1.size (by omega) ho1 (by simp))
      have HQ1 := Lib.hid hq1
      have HOX : Hid (∀ W, Below w.heap.size w W → XP (some ⟨g, off, none⟩) c l W) := Lib.hid fun W hW => (HX.out.under hW).at_
      clear hx hr1 ho1 hr2 ho2 hn1 hn2 hq1 hB hH1
      go_wp2_with fail
      refine HID.out.mono ?_
      rintro ex w2 hm
      obtain ⟨A2, c2', K2, kc2, rfl, hrr, hb2⟩ := MadeT.prim hm
      rw [HN1.out]
      have HB2 := Lib.hid (HB1.out.trans (hb2.mono HB1.out.size))
      have HQ2 := Lib.hid (HQ1.out.trans (hb2.mono HQ1.out.size))
      have HH2 := Lib.hid (HH1.out.under hb2 HH1.out.lt)
      have HGI := Lib.hid (idAgain w2 n1 c2' kc2 A2 K2 id hrr HN1.out HO1.out)
      clear hm hrr hb2 z0 z1 z2 HID HH1 HB1 HQ1
      go_wp2_with fail
      refine HGI.out.mono ?_
      rintro ex w3 ⟨A3, n3, c3, rfl, hb3⟩
      have HB3 := Lib.hid (HB2.out.trans (hb3.mono HB2.out.size))
      have HQ3 := Lib.hid (HQ2.out.trans (hb3.mono HQ2.out.size))
      have hH3 := HH2.out.under hb3 HH2.out.lt
      have x0 := hH3.cell 0
      have x2 := hH3.cell 2
      clear hb3 hH3 HGI HB2 HQ2 HH2
      rcases hid : idOk id with _ | _
      · have HF : Hid (r = false) := Lib.hid (by rw [HR.out]; exact exIs_no fun h => by have := h.2 i (by rw [List.length_map, HN.out]; exact hlt); unfold exOne at this; rw [HV.out] at this; simp [Ex.v, hid] at this)
        clear hid
        go_wp2_with fail
        go_ret
        exact ⟨by rw [HF.out]; rfl, HB3.out⟩
      have HOK := Lib.hid hid
      clear hid
      by_cases h600 : 600 < n2
      · have HF : Hid (r = false) := Lib.hid (by rw [HR.out]; exact exIs_no fun h => by have := h.2 i (by rw [List.length_map, HN.out]; exact hlt); unfold exOne at this; rw [HV.out] at this; simp [Ex.v, HN2.out] at this; omega)
        have d6 : decide ((600 : Int) < (n2 : Int)) = true := decide_eq_true (by omega)
        go_wp2_with fail
        go_ret
        exact ⟨by rw [HF.out]; rfl, HB3.out⟩
      have d6 : decide ((600 : Int) < (n2 : Int)) = false := decide_eq_false (by omega)
      by_cases hi0 : i = 0
      · have d7 : decide ((0 : Int) < (i : Int)) = false := decide_eq_false (by omega)
        have d8 : decide (0 < i) = false := decide_eq_false (by omega)
        have HONE : Hid (exOne (l.map Ex.v) i = true) := Lib.hid (by unfold exOne; rw [HV.out]; simp [Ex.v, HOK.out, HN2.out, hi0]; omega)
        clear hi0
        go_wp2_with fail
        go_quiet (fail)
        go_wp2_with fail
        go_roundw
        case rel => exact ⟨i + 1, by omega, by go_num, fun j hj => by
          rcases Nat.lt_or_ge j i with h3 | h3
          · exact HA.out j h3
          · obtain rfl : j = i := by omega
            exact HONE.out, below_drewN HB3.out _⟩
        case measure => simp [intOf]; omega
      · have d7 : decide ((0 : Int) < (i : Int)) = true := decide_eq_true (by omega)
        have d8 : decide (0 < i) = true := decide_eq_true (by omega)
        have hi1 : 1 ≤ i := by omega
        have hxp := HOX.out w3 HB3.out
        obtain ⟨g', off', eA, hg', hcs'⟩ := hxp.1.2.2 (by rw [HN.out]; omega)
        injection eA with eA
        obtain ⟨rfl, rfl⟩ : g = g' ∧ off = off' := by injection eA with e1 e2; exact ⟨e1, e2⟩
        have p0 := (hcs' (i - 1) (by rw [HN.out]; omega)).1
        have hpe := hxp.at_ (j := i - 1) (by rw [HN.out]; omega)
        have HVP : Hid ((l.map Ex.v).getD (i - 1) default = (l.getD (i - 1) default).v) := Lib.hid (ev_at (by rw [HN.out]; omega))
        obtain ⟨q, hq⟩ : ∃ q, q = l.getD (i - 1) default := ⟨_, rfl⟩
        rw [← hq] at p0 hpe HVP
        obtain ⟨pa, pc, pid, pcr, pva, pvc, pval⟩ := q
        obtain ⟨pr1, po1, _, _⟩ := hpe
        dsimp only at p0 pr1 po1
        obtain ⟨n4, hn4⟩ : ∃ n4, pid.length = n4 := ⟨_, rfl⟩
        rw [hn4] at p0
        have HCM : Hid (∀ k, Calls Try.prog 28 #[.slice pa n4 pc, .slice ia n1 ic] (w3.drewN k) fun e w' => e = .returned (.int .i64 (cmpB pid id)) ∧ w' = w3.drewN k) := Lib.hid fun k => (cmpB_any (w3.drewN k) _ _ pa ia pc ic n4 n1 pid id (pr1.drewN k) hn4 ((HRI.out w3 HQ3.out).drewN k) HN1.out).mono fun _ _ ⟨a, b⟩ => ⟨a, b.symm⟩
        have hlex := comp_lex pid id po1 HO1.out
        have HLX : Hid (exOne (l.map Ex.v) i = lexB pid id) := Lib.hid (by unfold exOne; rw [HV.out, HVP.out]; simp [Ex.v, HOK.out, HN2.out, hi0]; omega)
        obtain ⟨z, hz⟩ : ∃ z, z = cmpB pid id := ⟨_, rfl⟩
        have hlex2 : decide ((0 : Int) ≤ z) = !lexB pid id := by rw [hz]; exact hlex
        rw [← hz] at HCM
        clear hxp hcs' hg' pr1 po1 hn4 hq hlex hz hi0 eA
        rcases hlb : lexB pid id with _ | _
        · have HF : Hid (r = false) := Lib.hid (by rw [HR.out]; exact exIs_no fun h => by have := h.2 i (by rw [List.length_map, HN.out]; exact hlt); rw [HLX.out, hlb] at this; cases this)
          rw [hlb] at hlex2
          have hlex3 : decide ((0 : Int) ≤ z) = true := hlex2
          clear hlb hlex2
          go_wp2_with fail
          go_quiet ((go_at_call 28; exact Calls.quiet_of_same (HCM.out _)))
          go_wp2_with fail
          go_ret
          exact ⟨by rw [HF.out]; rfl, below_drewN HB3.out _⟩
        · rw [hlb] at hlex2
          have hlex3 : decide ((0 : Int) ≤ z) = false := hlex2
          have HONE : Hid (exOne (l.map Ex.v) i = true) := Lib.hid (by rw [HLX.out, hlb])
          clear hlb hlex2
          go_wp2_with fail
          go_quiet ((go_at_call 28; exact Calls.quiet_of_same (HCM.out _)))
          go_wp2_with fail
          go_roundw
          case rel => exact ⟨i + 1, by omega, by go_num, fun j hj => by
            rcases Nat.lt_or_ge j i with h3 | h3
            · exact HA.out j h3
            · obtain rfl : j = i := by omega
              exact HONE.out, below_drewN HB3.out _⟩
          case measure => simp [intOf]; omega
    · have HF : Hid (r = true) := Lib.hid (by rw [HR.out]; exact exIs_iff.2 ⟨by rw [List.length_map, HN.out]; omega, fun j hj => HA.out j (by rw [List.length_map, HN.out] at hj; omega)⟩)
      have HBF := Lib.hid hB
      clear hB
      go_wp2_with fail
      go_ret
      exact ⟨by rw [HF.out]; rfl, HBF.out⟩
end Go.Proofs.Ytaemjgemkgiahaa
