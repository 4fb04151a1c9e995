/-
  Extensions in a row: as they lie in memory; whether they may be: by ext. Whether extensions may be: by the document. The things of extensions: by ext, by the document. The things of extensions by the document. Rows of extensions that are the same. Nothing said: the known answers. A thing as an extension: by ext. A thing's extensions: by ext. A thing's extensions: by the document. The law of things read as extensions: ExtGets. Whether extensions are more than is looked at; the one of an ID: by ext, by the document. The extension of an ID: by ext. The law of extensions: ExtNodes.
-/
import Derived.Test.YtbkjjhpnjfdlbaaGreatDoorTh5
import Derived.BigQuiet
import Derived.Deep.QuietTactic
import Derived.Test.YtbkjjhpnjfdlbaaGreatDoorDn8
import Derived.Test.YtbkjjhpnjfdlbaaGreatDoorKids
import Derived.Deep.RegionLaw
import Derived.Deep.DrawnRows
import Derived.Laws.IdiomStrings
import Derived.Laws.BytesArg
import Derived.Test.YtbkjjhpnjfdlbaaGreatDoorStrong
import Derived.Test.YtbkjjhpnjfdlbaaGreatDoorTlv26
namespace Go.Proofs.YtbkjjhpnjfdlbaaGreatDoor
open Go.RowKit
set_option linter.unusedVariables false
set_option linter.unusedSimpArgs false

/-- An extension. -/
structure EV where
  id : List Nat
  cr : Bool
  val : List Nat
/-- An extension, and where it lies. -/
structure Ex where
  ia : Option Addr
  ic : Nat
  id : List Nat
  cr : Bool
  va : Option Addr
  vc : Nat
  val : List Nat
instance : Inhabited EV := ⟨⟨[], false, []⟩⟩
instance : Inhabited Ex := ⟨⟨none, 0, [], false, none, 0, []⟩⟩
def Ex.v (e : Ex) : EV := ⟨e.id, e.cr, e.val⟩
def xcell (e : Ex) : List Value := [.slice e.ia e.id.length e.ic, .bool e.cr, .slice e.va e.val.length e.vc]
def ExP (e : Ex) (w : World) : Prop := Rd .u8 w w.heap.size e.ia e.ic e.id ∧ (∀ x ∈ e.id, x < 256) ∧ Rd .u8 w w.heap.size e.va e.vc e.val ∧ (∀ x ∈ e.val, x < 256)
/-- The row's cells. -/
def RowX (w : World) (B : Nat) (A : Option Addr) (c : Nat) (l : List Ex) : Prop :=
  l.length ≤ c ∧ c ≤ 9223372036854775807 ∧ (0 < l.length → ∃ b off, A = some ⟨b, off, none⟩ ∧ b < B ∧ ∀ j, j < l.length → w.cell? ⟨b, off + j * 3, none⟩ = some (.slice (l.getD j default).ia (l.getD j default).id.length (l.getD j default).ic) ∧
    w.cell? ⟨b, off + j * 3 + 1, none⟩ = some (.bool (l.getD j default).cr) ∧ w.cell? ⟨b, off + j * 3 + 2, none⟩ = some (.slice (l.getD j default).va (l.getD j default).val.length (l.getD j default).vc))
def XP (A : Option Addr) (c : Nat) (l : List Ex) (w : World) : Prop := RowX w w.heap.size A c l ∧ ∀ x ∈ l, ExP x w
theorem XP.none (w : World) : XP none 0 [] w := ⟨⟨by simp, by omega, fun h => by simp at h⟩, fun x hx => by cases hx⟩
theorem RowX.congr {w w' : World} {B : Nat} {A : Option Addr} {c : Nat} {l : List Ex} (h : RowX w B A c l) (hk : ∀ g, g < B → w'.heap[g]? = w.heap[g]?) : RowX w' B A c l :=
  ⟨h.1, h.2.1, fun hn => by
    obtain ⟨b, off, e, hlt, hc⟩ := h.2.2 hn
    have k : ∀ o, w'.cell? ⟨b, o, none⟩ = w.cell? ⟨b, o, none⟩ := fun o => by simp only [World.cell?]; rw [hk b hlt]
    exact ⟨b, off, e, hlt, fun j hj => ⟨(k _).trans (hc j hj).1, (k _).trans (hc j hj).2.1, (k _).trans (hc j hj).2.2⟩⟩⟩
theorem RowX.more {w : World} {B B' : Nat} {A : Option Addr} {c : Nat} {l : List Ex} (h : RowX w B A c l) (hB : B ≤ B') : RowX w B' A c l :=
  ⟨h.1, h.2.1, fun hn => by
    obtain ⟨b, off, e, hlt, hc⟩ := h.2.2 hn
    exact ⟨b, off, e, by omega, hc⟩⟩
theorem Off.of_x {A : Option Addr} {c : Nat} {l : List Ex} {w : World} (h : XP A c l w) : Off [] (XP A c l) w := fun w' h2 h3 => by
  have hk : ∀ g, g < w.heap.size → w'.heap[g]? = w.heap[g]? := fun g hg => h3 g (by simp) hg
  exact ⟨(h.1.congr hk).more h2, fun x hx => ⟨((h.2 x hx).1.congr hk).more h2, (h.2 x hx).2.1, ((h.2 x hx).2.2.1.congr hk).more h2, (h.2 x hx).2.2.2⟩⟩
theorem XP.at_ {A : Option Addr} {c j : Nat} {l : List Ex} {w : World} (h : XP A c l w) (hj : j < l.length) : ExP (l.getD j default) w := h.2 _ (getD_mem hj)
/-- May they be? -/
def exOne (l : List EV) (i : Nat) : Bool := idOk (l.getD i default).id && decide ((l.getD i default).val.length ≤ 600) && (decide (i = 0) || lexB (l.getD (i - 1) default).id (l.getD i default).id)
def exIs (l : List EV) : Bool := decide (l.length ≤ 12 ∧ ∀ i, i < l.length → exOne l i = true)
theorem exIs_iff {l : List EV} : exIs l = true ↔ l.length ≤ 12 ∧ ∀ i, i < l.length → exOne l i = true := by unfold exIs; rw [decide_eq_true_iff]
theorem exIs_no {l : List EV} (h : ¬ (l.length ≤ 12 ∧ ∀ i, i < l.length → exOne l i = true)) : exIs l = false := by rw [Bool.eq_false_iff]; exact fun hh => h (exIs_iff.1 hh)
theorem ev_at {l : List Ex} {j : Nat} (h : j < l.length) : (l.map Ex.v).getD j default = (l.getD j default).v := by simp [List.getD, h]
/-- An ID made, and read again. -/
theorem idAgain (w : World) (n c kc : Nat) (A K : Option Addr) (b : List Nat) (hr : Rd .u8 w w.heap.size A c b) (hn : b.length = n) (ho : ∀ y ∈ b, y < 256) :
    Calls Tryz.prog 29 #[.agg #[.int .u8 6, .slice A n c, .slice K 0 kc]] w fun e w' => ∃ A2 n2 c2, e = .returned (.tuple #[.slice A2 n2 c2, .bool (idOk b)]) ∧ Below w.heap.size w w' := by
  have h := getID_any w 6 n c 0 kc w.heap.size A K b hr hn (Nat.le_refl _) ho
  refine h.mono fun e w' hh => ?_
  obtain ⟨A2, c2, he, _, hb⟩ := GetB.one hh
  have hio : (if (heldOk 6 0 6 && idOk b) = true then some b else none).isSome = idOk b := by rcases idOk b <;> rfl
  rw [hio] at he
  exact ⟨A2, _, c2, he, hb⟩
end Go.Proofs.YtbkjjhpnjfdlbaaGreatDoor
namespace Go.Proofs.YtbkjjhpnjfdlbaaGreatDoor
open Go.RowKit
set_option linter.unusedVariables false
set_option linter.unusedSimpArgs false

theorem str_less {l l' : List Nat} (h : ∀ x ∈ l, x < 256) (h' : ∀ x ∈ l', x < 256) : Op.bytesLess (str l).toList (str l').toList = lexB l l' := by
  rw [str_data, str_data]; exact less_lex l l' h h'
end Go.Proofs.YtbkjjhpnjfdlbaaGreatDoor
namespace Go.Proofs.YtbkjjhpnjfdlbaaGreatDoor
open Go.RowKit
set_option linter.unusedVariables false
set_option linter.unusedSimpArgs false

/-- The thing of an extension, of extensions. -/
def exParts (e : EV) : List Tr := [.mk 6 e.id []] ++ (if e.cr then [.mk 1 [255] []] else []) ++ [.mk 4 e.val []]
def exTr (e : EV) : Tr := .mk 48 [] (exParts e)
def exsTr (l : List EV) : Tr := .mk 48 [] (l.map exTr)
theorem Kids.one6 {xs : List Nat} {w : World} {lt : Lt} {t n c m d : Nat} {a k : Option Addr} (h : Off xs (ThP lt) w) (h6 : Of6 lt t a n c k m d) (hx : ∀ x ∈ xs, x < w.heap.size) : Kids xs (some ⟨w.heap.size, 0, none⟩) 1 1 [lt] (w.alloc (.cells #[.int .u8 (t : Int), .slice a n c, .slice k m d] 31)) := by
  have := Kids.one h hx
  rwa [show lcell lt = _ from h6] at this
theorem flat6 {lt : Lt} {t n c m d : Nat} {a k : Option Addr} (h : Of6 lt t a n c k m d) : [lt].flatMap lcell = [.int .u8 (t : Int), .slice a n c, .slice k m d] := by
  rw [List.flatMap_cons, List.flatMap_nil, List.append_nil]; exact h
theorem fresh6 {w : World} {t n c m d : Nat} {a k : Option Addr} : Holds (w.alloc (.cells #[.int .u8 (t : Int), .slice a n c, .slice k m d] 31)) w.heap.size 31 [.int .u8 (t : Int), .slice a n c, .slice k m d].toArray := Holds.fresh _ _ _
end Go.Proofs.YtbkjjhpnjfdlbaaGreatDoor
namespace Go.Proofs.YtbkjjhpnjfdlbaaGreatDoor
open Go.RowKit
set_option linter.unusedVariables false
set_option linter.unusedSimpArgs false

end Go.Proofs.YtbkjjhpnjfdlbaaGreatDoor
namespace Go.Proofs.YtbkjjhpnjfdlbaaGreatDoor
open Go.RowKit
set_option linter.unusedVariables false
set_option linter.unusedSimpArgs false

end Go.Proofs.YtbkjjhpnjfdlbaaGreatDoor
namespace Go.Proofs.YtbkjjhpnjfdlbaaGreatDoor
open Go.RowKit
set_option linter.unusedVariables false
set_option linter.unusedSimpArgs false
attribute [local go_sem ↓] Go.wp_at_zero Go.wp_at_succ

theorem ret_ext {R : Ending → World → Prop} {tmps : Array Value} {w : World} {g : Nat} {t : TypeId} {cs : Array Value} {v : Value} {fn : Func} {p u : Tmp}
    (hr : fn.results = #[.cell p 24, .tmp u]) (hp : tmps.getD p undef = .pointer (some ⟨g, 0, none⟩)) (hu : tmps.getD u undef = v) (hg : Holds w g t cs) (hcs : cs.size = 3) (hR : R (.returned (.tuple #[.agg cs, v])) w) :
    bodyPost Tryz.prog fn R .ret { tmps := tmps, defers := [] } w := by
  have hi : (Tryz.prog.info? 24).map (·.size) = some cs.size := by rw [hcs]; kernel_rfl
  refine bodyPost_ret (v := .tuple #[.agg cs, v]) ?_ rfl hR
  rw [results_cell_tmp hr]
  have hp' : tmps[p]?.getD undef = .pointer (some ⟨g, 0, none⟩) := by simpa using hp
  have hu' : tmps[u]?.getD undef = v := by simpa using hu
  simp [hp', hu', asAddr, run_loadVar_row w g t _ cs (0, 0) _ hg Tryz.underlying24 rfl hi, Result.andThen]
theorem ret_basic {R : Ending → World → Prop} {tmps : Array Value} {w : World} {g : Nat} {t : TypeId} {cs : Array Value} {v : Value} {fn : Func} {p u : Tmp}
    (hr : fn.results = #[.cell p 52, .tmp u]) (hp : tmps.getD p undef = .pointer (some ⟨g, 0, none⟩)) (hu : tmps.getD u undef = v) (hg : Holds w g t cs) (hcs : cs.size = 2) (hR : R (.returned (.tuple #[.agg cs, v])) w) :
    bodyPost Tryz.prog fn R .ret { tmps := tmps, defers := [] } w := by
  have hi : (Tryz.prog.info? 52).map (·.size) = some cs.size := by rw [hcs]; kernel_rfl
  refine bodyPost_ret (v := .tuple #[.agg cs, v]) ?_ rfl hR
  rw [results_cell_tmp hr]
  have hp' : tmps[p]?.getD undef = .pointer (some ⟨g, 0, none⟩) := by simpa using hp
  have hu' : tmps[u]?.getD undef = v := by simpa using hu
  simp [hp', hu', asAddr, run_loadVar_row w g t _ cs (0, 0) _ hg Tryz.underlying52 rfl hi, Result.andThen]
theorem ret_node3 {R : Ending → World → Prop} {tmps : Array Value} {w : World} {g : Nat} {t : TypeId} {cs : Array Value} {v v' : Value} {fn : Func} {p u u' : Tmp}
    (hr : fn.results = #[.cell p 31, .tmp u, .tmp u']) (hp : tmps.getD p undef = .pointer (some ⟨g, 0, none⟩)) (hu : tmps.getD u undef = v) (hu2 : tmps.getD u' undef = v') (hg : Holds w g t cs) (hcs : cs.size = 3) (hR : R (.returned (.tuple #[.agg cs, v, v'])) w) :
    bodyPost Tryz.prog fn R .ret { tmps := tmps, defers := [] } w := by
  have hi : (Tryz.prog.info? 31).map (·.size) = some cs.size := by rw [hcs]; kernel_rfl
  refine bodyPost_ret (v := .tuple #[.agg cs, v, v']) ?_ rfl hR
  have hp' : tmps[p]?.getD undef = .pointer (some ⟨g, 0, none⟩) := by simpa using hp
  have hu' : tmps[u]?.getD undef = v := by simpa using hu
  have hu2' : tmps[u']?.getD undef = v' := by simpa using hu2
  simp [results, hr, hp', hu', hu2', asAddr, run_loadVar_row w g t _ cs (0, 0) _ hg Tryz.underlying31 rfl hi, Result.andThen]
set_option maxRecDepth 100000 in
set_option maxHeartbeats 1000000 in
theorem find_nil (w : World) (A : Option Addr) (n c : Nat) :
    Calls Tryz.prog 40 #[.slice none 0 0, .slice A n c] w fun e w' => e = .returned (.tuple #[.agg #[.slice none 0 0, .bool false, .slice none 0 0], .bool false]) ∧ Below w.heap.size w w' := by
  have hz := Holds.fresh w 24 #[.slice none 0 0, .bool false, .slice none 0 0]
  have HZ := Lib.hid hz
  have HB : Hid (Below w.heap.size w (w.alloc (.cells #[.slice none 0 0, .bool false, .slice none 0 0] 24))) := Lib.hid ((Below.refl _ _).alloc (Nat.le_refl _) _)
  clear hz
  go_enter Tryz.func40, Tryz.ntmps40
  go_wp2_with fail
  go_loopw [10] (fun iv wr => iv = .int .i64 0 ∧ Holds wr w.heap.size 24 #[.slice none 0 0, .bool false, .slice none 0 0] ∧ Below w.heap.size w wr) (fun _ _ => 0)
  case atStart => exact ⟨rfl, HZ.out, HB.out⟩
  case round =>
    obtain ⟨rfl, hz, hB⟩ := hrel
    have z0 := hz.cell 0
    have z1 := hz.cell 1
    have z2 := hz.cell 2
    have y0 := hz.open_ 0
    have y1 := hz.open_ 1
    have y2 := hz.open_ 2
    have HZ2 := Lib.hid hz
    have HB2 := Lib.hid hB
    clear hz hB
    go_wp2_with fail
    exact ret_ext rfl rfl rfl (((HZ2.out.stored 0 _).stored 1 _).stored 2 _) rfl ⟨rfl, below_out HB2.out _ _ _⟩
set_option maxRecDepth 100000 in
set_option maxHeartbeats 1000000 in
theorem value_nil (w : World) (s : ByteArray) (hs : s.size ≤ 1000) :
    Calls Tryz.prog 25 #[.slice none 0 0, .string s] w fun e w' => e = .returned (.tuple #[.agg #[.int .u8 0, .slice none 0 0, .slice none 0 0], .bool false, .bool true]) ∧ Below w.heap.size w w' := by
  obtain ⟨V, hV⟩ : ∃ V, V = w.alloc (.cells #[.int .u8 0, .slice none 0 0, .slice none 0 0] 31) := ⟨_, rfl⟩
  have hz : Holds V w.heap.size 31 #[.int .u8 0, .slice none 0 0, .slice none 0 0] := by rw [hV]; exact Holds.fresh _ _ _
  have HB0 : Hid (Below w.heap.size w V) := Lib.hid (by rw [hV]; exact (Below.refl _ _).alloc (Nat.le_refl _) _)
  have hc := run_bytes_of_string (P := Tryz.prog) V 9 22 5 s Tryz.underlying9 Tryz.underlying22 Tryz.underlying5
  obtain ⟨W, sv, hc2, hbW⟩ : ∃ (W : World) (sv : Option Addr × Nat × Nat), (convert 9 22 (.string s)).run Tryz.prog V = .ok (.slice sv.1 sv.2.1 sv.2.2) W ∧ Below V.heap.size V W := ⟨_, (_, _, _), hc, (Below.refl _ _).drew.alloc (Nat.le_refl _) _⟩
  clear hc
  have HBW := Lib.hid (HB0.out.trans (hbW.mono HB0.out.size))
  have HZW := Lib.hid (hz.under hbW hz.lt)
  have HF := Lib.hid (find_nil W sv.1 sv.2.1 sv.2.2)
  have hlt : w.heap.size < W.heap.size := HZW.out.lt
  rw [hV] at hc2
  clear hz hbW hV
  obtain ⟨sa, sn, sc⟩ := sv
  dsimp only at hc2 HF
  go_enter Tryz.func25, Tryz.ntmps25
  go_wp2_with fail
  refine HF.out.mono ?_
  rintro e w2 ⟨rfl, hb2⟩
  have HB2 := Lib.hid (HBW.out.trans (hb2.mono HBW.out.size))
  have HZ2 := Lib.hid (HZW.out.under hb2 hlt)
  have hq : Below w2.heap.size w2 (w2.alloc (.cells #[.slice none 0 0, .bool false, .slice none 0 0] 24)) := (Below.refl _ _).alloc (Nat.le_refl _) _
  have hz3 := HZ2.out.alloc (.cells #[.slice none 0 0, .bool false, .slice none 0 0] 24)
  have HB3 := Lib.hid (HB2.out.trans (hq.mono HB2.out.size))
  have z0 := hz3.cell 0
  have z1 := hz3.cell 1
  have z2 := hz3.cell 2
  have y0 := hz3.open_ 0
  have y1 := hz3.open_ 1
  have y2 := hz3.open_ 2
  have HZ3 := Lib.hid hz3
  clear hb2 hq hz3 HF hc2
  go_wp2_with fail
  exact ret_node3 rfl rfl rfl rfl (((HZ3.out.stored 0 _).stored 1 _).stored 2 _) rfl ⟨rfl, below_out HB3.out _ _ _⟩
set_option maxRecDepth 100000 in
set_option maxHeartbeats 1000000 in
theorem basic_nil (w : World) :
    Calls Tryz.prog 15 #[.slice none 0 0] w fun e w' => e = .returned (.tuple #[.agg #[.bool false, .int .i64 (-1)], .bool true]) ∧ Below w.heap.size w w' := by
  obtain ⟨V, hV⟩ : ∃ V, V = w.alloc (.cells #[.bool false, .int .i64 0] 52) := ⟨_, rfl⟩
  have hz : Holds V w.heap.size 52 #[.bool false, .int .i64 0] := by rw [hV]; exact Holds.fresh _ _ _
  have HB0 : Hid (Below w.heap.size w V) := Lib.hid (by rw [hV]; exact (Below.refl _ _).alloc (Nat.le_refl _) _)
  have hlt : w.heap.size < V.heap.size := hz.lt
  have HZ := Lib.hid hz
  have HV := Lib.hid hV
  clear hz hV
  go_enter Tryz.func15, Tryz.ntmps15
  go_wp2_with fail
  rw [← HV.out]
  refine (value_nil V _ (by decide)).mono ?_
  rintro e w2 ⟨rfl, hb2⟩
  have hq : Below w2.heap.size w2 (w2.alloc (.cells #[.int .u8 0, .slice none 0 0, .slice none 0 0] 31)) := (Below.refl _ _).alloc (Nat.le_refl _) _
  have HB2 := Lib.hid (HB0.out.trans (hb2.mono HB0.out.size))
  have HB3 := Lib.hid (HB2.out.trans (hq.mono HB2.out.size))
  have hz3 := (HZ.out.under hb2 hlt).alloc (.cells #[.int .u8 0, .slice none 0 0, .slice none 0 0] 31)
  have z0 := hz3.cell 0
  have z1 := hz3.cell 1
  have y0 := hz3.open_ 0
  have y1 := hz3.open_ 1
  have HZ3 := Lib.hid hz3
  clear hb2 hq hz3 HV
  go_wp2_with fail
  exact ret_basic rfl rfl rfl ((HZ3.out.stored 0 _).stored 1 _) rfl ⟨rfl, (HB3.out.setCell (p := ⟨w.heap.size, 0, none⟩) (Nat.le_refl _) _).setCell (p := ⟨w.heap.size, 1, none⟩) (Nat.le_refl _) _⟩
set_option maxRecDepth 100000 in
set_option maxHeartbeats 1000000 in
theorem usage_nil (w : World) :
    Calls Tryz.prog 27 #[.slice none 0 0] w fun e w' => e = .returned (.tuple #[.int .u8 0, .bool false, .bool true]) ∧ Below w.heap.size w w' := by
  go_enter Tryz.func27, Tryz.ntmps27
  go_wp2_with fail
  refine (value_nil w _ (by decide)).mono ?_
  rintro e w2 ⟨rfl, hb2⟩
  have HB3 : Hid (Below w.heap.size w (w2.alloc (.cells #[.int .u8 0, .slice none 0 0, .slice none 0 0] 31))) := Lib.hid (hb2.alloc hb2.size _)
  clear hb2
  go_wp2_with fail
  go_ret3
  exact ⟨rfl, HB3.out⟩
set_option maxRecDepth 100000 in
theorem odd_nil (w : World) :
    Calls Tryz.prog 30 #[.slice none 0 0] w fun e w' => e = .returned (.bool false) ∧ Below w.heap.size w w' := by
  go_enter Tryz.func30, Tryz.ntmps30
  go_wp2_with fail
  go_loopw [7] (fun iv wr => iv = .int .i64 0 ∧ Below w.heap.size w wr) (fun _ _ => 0)
  case atStart => exact ⟨rfl, Below.refl _ _⟩
  case round =>
    obtain ⟨rfl, hB⟩ := hrel
    go_wp2_with fail
    go_ret
    exact ⟨rfl, hB⟩
end Go.Proofs.YtbkjjhpnjfdlbaaGreatDoor
namespace Go.Proofs.YtbkjjhpnjfdlbaaGreatDoor
open Go.RowKit
set_option linter.unusedVariables false
set_option linter.unusedSimpArgs false

/-- The things of a Seq; none of another thing. -/
def psOf (t : Tr) : List Tr := if seqOk t.tag t.body.length 48 = true then t.kids else []
def qsOf (t : Lt) : List Lt := if seqOk t.tag t.body.length 48 = true then t.kids else []
theorem t_parts (t : Lt) : t.t.tag = t.tag ∧ t.t.body = t.body ∧ t.t.kids = t.kids.map Lt.t := by
  rcases t with ⟨tag, ba, bc, body, ka, kc, kids⟩
  rw [Lt.t_mk]
  exact ⟨rfl, rfl, rfl⟩
theorem ps_qs (t : Lt) : psOf t.t = (qsOf t).map Lt.t := by
  obtain ⟨h1, h2, h3⟩ := t_parts t
  unfold psOf qsOf
  rw [h1, h2, h3]
  split <;> rfl
def idOf (p : Tr) : List Nat := if (heldOk p.tag p.kids.length 6 && idOk p.body) = true then p.body else []
def oneT (t : Tr) : Option EV :=
  if (psOf t).length < 2 then none
  else if heldOk ((psOf t).getD ((psOf t).length - 1) default).tag ((psOf t).getD ((psOf t).length - 1) default).kids.length 4 = true then
    some ⟨idOf ((psOf t).getD 0 default), decide (2 < (psOf t).length), ((psOf t).getD ((psOf t).length - 1) default).body⟩
  else none
def OneP (w : World) (xs : List Nat) : Option EV → Ending → World → Prop
  | none, e, w' => ∃ ia k ic b va m vc, e = .returned (.tuple #[.agg #[.slice ia k ic, .bool b, .slice va m vc], .bool false]) ∧ Below w.heap.size w w'
  | some ev, e, w' => ∃ ex : Ex, ex.v = ev ∧ e = .returned (.tuple #[.agg #[.slice ex.ia ex.id.length ex.ic, .bool ex.cr, .slice ex.va ex.val.length ex.vc], .bool true]) ∧ Off xs (ExP ex) w' ∧ Below w.heap.size w w'
theorem SeqPost.one {w : World} {xs : List Nat} {ks : List Lt} {b : Bool} {e : Ending} {w' : World} (h : SeqPost w xs ks b e w') : ∃ A c, e = .returned (.tuple #[.slice A (if b = true then ks else []).length c, .bool b]) ∧ Off xs (KiP A c (if b = true then ks else [])) w' ∧ Below w.heap.size w w' := by
  rcases b with _ | _
  · exact ⟨none, 0, h.1, off_none _ _, h.2⟩
  · exact h
/-- A thing that is small enough. -/
def FitX (t : Tr) : Prop := t.kids.length ≤ 12000 ∧ ∀ k ∈ t.kids, k.kids.length ≤ 12000 ∧ ∀ p ∈ k.kids, p.body.length ≤ 12000
def FitK (k : Tr) : Prop := k.kids.length ≤ 12000 ∧ ∀ p ∈ k.kids, p.body.length ≤ 12000
theorem ThP.open_ {t : Lt} {w : World} (h : ThP t w) : Rd .u8 w w.heap.size t.ba t.bc t.body ∧ (∀ x ∈ t.body, x < 256) ∧ t.tag < 256 := rd_body h
theorem qs_mem {t x : Lt} (h : x ∈ qsOf t) : x ∈ t.kids := by
  unfold qsOf at h
  split at h
  · exact h
  · cases h
theorem idOf_lt (t : Lt) : idOf t.t = (if (heldOk t.tag t.kids.length 6 && idOk t.body) = true then some t.body else none).getD [] := by
  obtain ⟨h1, h2, h3⟩ := t_parts t
  unfold idOf
  rw [h1, h2, h3, List.length_map]
  split <;> rfl
theorem held_lt (t : Lt) (k : Nat) : heldOk t.t.tag t.t.kids.length k = heldOk t.tag t.kids.length k := by
  obtain ⟨h1, h2, h3⟩ := t_parts t
  rw [h1, h3, List.length_map]
theorem below_ext {w w' : World} {h : Nat} (hb : Below w.heap.size w w') (hh : w.heap.size ≤ h) (a b c : Value) : Below w.heap.size w (((w'.setCell ⟨h, 0, none⟩ a).setCell ⟨h, 1, none⟩ b).setCell ⟨h, 2, none⟩ c) :=
  ((hb.setCell (p := ⟨h, 0, none⟩) hh _).setCell (p := ⟨h, 1, none⟩) hh _).setCell (p := ⟨h, 2, none⟩) hh _
theorem one_id {t : Tr} {ev : EV} (h : oneT t = some ev) : ev.id.length ≤ 20 := by
  unfold oneT at h
  split at h
  · cases h
  · split at h
    · injection h with h
      subst h
      show (idOf _).length ≤ 20
      unfold idOf
      split
      · rename_i h2
        simp only [Bool.and_eq_true] at h2
        exact (idOk_iff.1 h2.2).2.1
      · simp
    · cases h
end Go.Proofs.YtbkjjhpnjfdlbaaGreatDoor
namespace Go.Proofs.YtbkjjhpnjfdlbaaGreatDoor
open Go.RowKit
set_option linter.unusedVariables false
set_option linter.unusedSimpArgs false
attribute [local go_sem ↓] Go.wp_at_zero Go.wp_at_succ

theorem info_ext : (Tryz.prog.info? 24).map (fun i => (i.zero, i.size, i.bytes)) = some (some (.agg #[.slice none 0 0, .bool false, .slice none 0 0]), 3, 56) := by kernel_rfl
/-- A row of one's own of extensions. -/
structure Exts (A : Option Addr) (c n : Nat) (l : List Ex) (w : World) : Prop where
  len : l.length = n
  own : OwnV 24 3 w A c n (l.flatMap xcell)
  each : ∀ x ∈ l, Off (bl A) (ExP x) w
theorem RowX.of_own {w : World} {A : Option Addr} {c n : Nat} {l : List Ex} (hl : l.length = n) (h : OwnV 24 3 w A c n (l.flatMap xcell)) : RowX w w.heap.size A c l := by
  subst hl
  refine ⟨h.le.1, h.le.2, fun hn => ?_⟩
  have at3 : ∀ j, j < l.length → ∀ t, t < 3 → ∀ v, (xcell (l.getD j default))[t]? = some v → ∃ g, A = some ⟨g, 0, none⟩ ∧ g < w.heap.size ∧ w.cell? ⟨g, 3 * j + t, none⟩ = some v := fun j hj t ht v hv => by
    have e : l[j]? = some (l.getD j default) := by simp [List.getD, hj]
    have f := flat_at (f := xcell) (m := 3) (L := l) (fun _ _ => rfl) e (j := t) ht
    obtain ⟨g, hA, hlt, hc, _⟩ := h.at_ (j := 3 * j + t) (v := v) (by rw [f]; exact hv)
    exact ⟨g, hA, hlt, hc⟩
  obtain ⟨g, rfl, hlt, _⟩ := at3 0 hn 0 (by omega) _ rfl
  refine ⟨g, 0, rfl, hlt, fun j hj => ?_⟩
  have k : ∀ t, t < 3 → ∀ v, (xcell (l.getD j default))[t]? = some v → w.cell? ⟨g, 3 * j + t, none⟩ = some v := fun t ht v hv => by
    obtain ⟨g', e, _, hc⟩ := at3 j hj t ht v hv
    injection e with e
    obtain rfl : g = g' := by injection e
    exact hc
  exact ⟨by rw [show 0 + j * 3 = 3 * j + 0 by omega]; exact k 0 (by omega) _ rfl, by rw [show 0 + j * 3 + 1 = 3 * j + 1 by omega]; exact k 1 (by omega) _ rfl, by rw [show 0 + j * 3 + 2 = 3 * j + 2 by omega]; exact k 2 (by omega) _ rfl⟩
section
variable {A : Option Addr} {c n : Nat} {l : List Ex} {w w' : World}
theorem Exts.nil (w : World) : Exts none 0 0 [] w := ⟨rfl, OwnV.nil _ _ _, fun x hx => by cases hx⟩
theorem Exts.under (h : Exts A c n l w) (hb : Below w.heap.size w w') : Exts A c n l w' :=
  ⟨h.len, h.own.keep fun g _ hg => hb.block g hg, fun x hx => (h.each x hx).under hb⟩
theorem Exts.lt (h : Exts A c n l w) {g : Nat} (hg : blockOf A = some g) : g < w.heap.size := h.own.lt hg
theorem Exts.xp (h : Exts A c n l w) : XP A c l w := ⟨RowX.of_own h.len h.own, fun x hx => (h.each x hx).at_⟩
theorem Exts.push {e : Ex} {g' c' : Nat} (h : Exts A c n l w) (ht : Off (bl A) (ExP e) w) (ho : OwnV 24 3 w' (some ⟨g', 0, none⟩) c' (n + 1) (l.flatMap xcell ++ [.slice e.ia e.id.length e.ic, .bool e.cr, .slice e.va e.val.length e.vc])) (hg : w.grownBy w' (blockOf A))
    (ha : blockOf A = some g' ∨ g' = w.heap.size) : Exts (some ⟨g', 0, none⟩) c' (n + 1) (l ++ [e]) w' := by
  have hy : ∀ g, g ∈ bl (some ⟨g', 0, none⟩) → g ∈ bl A ∨ w.heap.size ≤ g := fun g hg => by
    have e := mem_bl.1 hg
    have e : g' = g := by simpa [blockOf] using e
    subst e
    rcases ha with h2 | h2
    · exact .inl (mem_bl.2 h2)
    · exact .inr (by omega)
  have hA : ∀ g, blockOf A = some g → g ∈ bl A := fun g e => mem_bl.2 e
  refine ⟨by simp [h.len], by rw [List.flatMap_append]; simpa [xcell] using ho, fun x hx2 => ?_⟩
  rcases List.mem_append.1 hx2 with h1 | h1
  · exact (h.each x h1).push hg hA hy
  · rw [List.mem_singleton.1 h1]; exact ht.push hg hA hy
end
theorem one6x {ia va : Option Addr} {n1 ic n2 vc : Nat} {b : Bool} : ∀ u ∈ [Value.slice ia n1 ic, .bool b, .slice va n2 vc], u.oneCell' = true := by
  intro u hu
  simp only [List.mem_cons, List.not_mem_nil, or_false] at hu
  rcases hu with rfl | rfl | rfl <;> rfl
/-- A thing is just the extensions' that are read of it. -/
theorem one_ex {e : EV} (h : idOk e.id = true) : oneT (exTr e) = some e := by
  obtain ⟨id, cr, val⟩ := e
  have hp : parted 48 = true := rfl
  have hps : psOf (exTr ⟨id, cr, val⟩) = exParts ⟨id, cr, val⟩ := by
    unfold psOf exTr
    simp [Tr.tag, Tr.body, Tr.kids, seqOk, hp]
  have hid : idOf (.mk 6 id []) = id := by
    unfold idOf
    show (if (heldOk 6 0 6 && idOk id) = true then id else []) = id
    rw [show idOk id = true from h]
    rfl
  unfold oneT
  rw [hps]
  cases cr <;> simp [exParts, hid, Tr.tag, Tr.kids, Tr.body, heldOk]
theorem exTr_inj {e e' : EV} (h : exTr e = exTr e') : e = e' := by
  obtain ⟨id, cr, val⟩ := e
  obtain ⟨id', cr', val'⟩ := e'
  simp only [exTr, exParts] at h
  cases cr <;> cases cr' <;> simp at h
  · obtain ⟨rfl, rfl⟩ := h; rfl
  · obtain ⟨rfl, rfl⟩ := h; rfl
theorem exsTr_inj {l l' : List EV} (h : exsTr l = exsTr l') : l = l' := by
  have h2 : l.map exTr = l'.map exTr := by
    simp only [exsTr] at h
    injection h
  clear h
  induction l generalizing l' with
  | nil => cases l' with
    | nil => rfl
    | cons => simp at h2
  | cons x l ih => cases l' with
    | nil => simp at h2
    | cons y l' =>
      simp only [List.map_cons, List.cons.injEq] at h2
      rw [exTr_inj h2.1, ih h2.2]
def GetXPost (w : World) (T : Tr) (e : Ending) (w' : World) : Prop :=
  (∃ A c, ∃ l : List Ex, e = .returned (.tuple #[.slice A l.length c, .bool true]) ∧ XP A c l w' ∧ exIs (l.map Ex.v) = true ∧ exsTr (l.map Ex.v) = T ∧ Below w.heap.size w w') ∨
  (e = .returned (.tuple #[.slice none 0 0, .bool false]) ∧ (∀ l : List EV, exIs l = true → exsTr l ≠ T) ∧ Below w.heap.size w w')
theorem getX_no {w w' : World} {T : Tr} (h : ∀ l : List EV, exIs l = true → exsTr l ≠ T) (hb : Below w.heap.size w w') : GetXPost w T (.returned (.tuple #[.slice none 0 0, .bool false])) w' := .inr ⟨rfl, h, hb⟩
theorem exs_ids {l : List EV} (h : exIs l = true) : ∀ j, j < l.length → idOk (l.getD j default).id = true := fun j hj => by
  have := (exIs_iff.1 h).2 j hj
  unfold exOne at this
  simp only [Bool.and_eq_true] at this
  exact this.1.1
/-- What is read of a thing that is some extensions' is those. -/
theorem exs_read {l l0 : List EV} (h : exIs l = true) {ks : List Tr} (hk : ks = l.map exTr) (hl : l0.length = ks.length) (ho : ∀ j, j < ks.length → oneT (ks.getD j default) = some (l0.getD j default)) : l0 = l := by
  subst hk
  rw [List.length_map] at hl ho
  refine List.ext_getElem hl fun j h1 h2 => ?_
  have h3 := ho j h2
  rw [show (l.map exTr).getD j default = exTr (l.getD j default) by simp [List.getD, h2], one_ex (exs_ids h j h2)] at h3
  injection h3 with h3
  simpa [List.getD, h1, h2] using h3.symm
theorem exs_parts {l : List EV} {T : Tr} (h : exsTr l = T) : seqOk T.tag T.body.length 48 = true ∧ T.kids = l.map exTr := by
  subst h
  exact ⟨rfl, rfl⟩
theorem off_nodes {xs : List Nat} {w : World} {A : Option Addr} {c j : Nat} {ks : List Lt} (h : Off xs (KiP A c ks) w) (hj : j < ks.length) : Off xs (ThP (ks.getD j default)) w := KiP.kid h hj
end Go.Proofs.YtbkjjhpnjfdlbaaGreatDoor
namespace Go.Proofs.YtbkjjhpnjfdlbaaGreatDoor
open Go.RowKit
set_option linter.unusedVariables false
set_option linter.unusedSimpArgs false
attribute [local go_sem ↓] Go.wp_at_zero Go.wp_at_succ

def octOf (p : Tr) : List Nat := if heldOk p.tag p.kids.length 4 = true then p.body else []
theorem octOf_lt (t : Lt) : octOf t.t = (if heldOk t.tag t.kids.length 4 = true then some t.body else none).getD [] := by
  obtain ⟨h1, h2, h3⟩ := t_parts t
  unfold octOf
  rw [h1, h2, h3, List.length_map]
  split <;> rfl
def oneT' (t : Tr) : Option EV :=
  if (psOf t).length < 2 then none
  else some ⟨idOf ((psOf t).getD 0 default), decide ((psOf t).length = 3), octOf ((psOf t).getD ((psOf t).length - 1) default)⟩
theorem one_ex' {e : EV} (h : idOk e.id = true) : oneT' (exTr e) = some e := by
  obtain ⟨id, cr, val⟩ := e
  have hp : parted 48 = true := rfl
  have hps : psOf (exTr ⟨id, cr, val⟩) = exParts ⟨id, cr, val⟩ := by
    unfold psOf exTr
    simp [Tr.tag, Tr.body, Tr.kids, seqOk, hp]
  have hid : idOf (.mk 6 id []) = id := by
    unfold idOf
    show (if (heldOk 6 0 6 && idOk id) = true then id else []) = id
    rw [show idOk id = true from h]
    rfl
  have hoc : octOf (.mk 4 val []) = val := rfl
  unfold oneT'
  rw [hps]
  cases cr <;> simp [exParts, hid, hoc]
theorem exs_read' {l l0 : List EV} (h : exIs l = true) {ks : List Tr} (hk : ks = l.map exTr) (hl : l0.length = ks.length) (ho : ∀ j, j < ks.length → oneT' (ks.getD j default) = some (l0.getD j default)) : l0 = l := by
  subst hk
  rw [List.length_map] at hl ho
  refine List.ext_getElem hl fun j h1 h2 => ?_
  have h3 := ho j h2
  rw [show (l.map exTr).getD j default = exTr (l.getD j default) by simp [List.getD, h2], one_ex' (exs_ids h j h2)] at h3
  injection h3 with h3
  simpa [List.getD, h1, h2] using h3.symm
end Go.Proofs.YtbkjjhpnjfdlbaaGreatDoor
namespace Go.Proofs.YtbkjjhpnjfdlbaaGreatDoor
open Go.RowKit
set_option linter.unusedVariables false
set_option linter.unusedSimpArgs false
attribute [local go_sem ↓] Go.wp_at_zero Go.wp_at_succ

theorem enc_split (t : Tr) : t.body.length + (Tr.encs t.kids).length < t.enc.length := by
  obtain ⟨tag, body, kids⟩ := t
  rw [Tr.enc]
  simp [Tr.body, Tr.kids]
  omega
theorem encs_kid : ∀ {l : List Tr} {k : Tr}, k ∈ l → k.enc.length ≤ (Tr.encs l).length
  | x :: r, k, h => by
    rw [Tr.encs, List.length_append]
    rcases List.mem_cons.1 h with rfl | h
    · omega
    · have := encs_kid h
      omega
theorem encs_len : ∀ l : List Tr, l.length ≤ (Tr.encs l).length
  | [] => by simp
  | x :: r => by
    rw [Tr.encs, List.length_append, List.length_cons]
    have := encs_len r
    have := enc_split x
    omega
theorem fit_enc {t : Tr} (h : t.enc.length ≤ 12000) : FitX t := by
  have h1 := enc_split t
  have h2 := encs_len t.kids
  refine ⟨by omega, fun k hk => ?_⟩
  have h3 := encs_kid hk
  have h4 := enc_split k
  have h5 := encs_len k.kids
  refine ⟨by omega, fun p hp => ?_⟩
  have h6 := encs_kid hp
  have h7 := enc_split p
  omega
/-- Two answers on one thing are the same. -/
theorem getX_two {w w' : World} {T : Tr} {e e' : Ending} {w1 w2 : World} (h : GetXPost w T e w1) (h' : GetXPost w' T e' w2) :
    ∃ A c A' c' l l' b, e = .returned (.tuple #[.slice A l.length c, .bool b]) ∧ e' = .returned (.tuple #[.slice A' l.length c', .bool b]) ∧ XP A c l w1 ∧ XP A' c' l' w2 ∧ l.map Ex.v = l'.map Ex.v ∧ Below w.heap.size w w1 ∧ Below w'.heap.size w' w2 := by
  rcases h with ⟨A, c, l, rfl, h1, h2, h3, h4⟩ | ⟨rfl, h1, h2⟩ <;> rcases h' with ⟨A', c', l', rfl, g1, g2, g3, g4⟩ | ⟨rfl, g1, g2⟩
  · have e := exsTr_inj (h3.trans g3.symm)
    exact ⟨A, c, A', c', l, l', true, rfl, by have := congrArg List.length e; simp only [List.length_map] at this; rw [this], h1, g1, e, h4, g4⟩
  · exact absurd h3 (g1 _ h2)
  · exact absurd g3 (h1 _ g2)
  · exact ⟨none, 0, none, 0, [], [], false, rfl, rfl, XP.none _, XP.none _, rfl, h2, g2⟩
theorem getX_open {w : World} {T : Tr} {e : Ending} {w1 : World} (h : GetXPost w T e w1) : ∃ A c l b, e = .returned (.tuple #[.slice A l.length c, .bool b]) ∧ XP A c l w1 ∧ Below w.heap.size w w1 ∧ Hid (b = true ∧ exIs (l.map Ex.v) = true ∧ exsTr (l.map Ex.v) = T ∨ b = false ∧ l = [] ∧ ∀ l : List EV, exIs l = true → exsTr l ≠ T) := by
  rcases h with ⟨A, c, l, rfl, h1, h2, h3, h4⟩ | ⟨rfl, h1, h2⟩
  · exact ⟨A, c, l, true, rfl, h1, h4, .inl ⟨rfl, h2, h3⟩⟩
  · exact ⟨none, 0, [], false, rfl, XP.none _, h2, .inr ⟨rfl, rfl, h1⟩⟩
theorem getX_one {T : Tr} {l l' : List Ex} {b b' : Bool} (h : b = true ∧ exIs (l.map Ex.v) = true ∧ exsTr (l.map Ex.v) = T ∨ b = false ∧ l = [] ∧ ∀ l : List EV, exIs l = true → exsTr l ≠ T)
    (h' : b' = true ∧ exIs (l'.map Ex.v) = true ∧ exsTr (l'.map Ex.v) = T ∨ b' = false ∧ l' = [] ∧ ∀ l : List EV, exIs l = true → exsTr l ≠ T) : b = b' ∧ l.map Ex.v = l'.map Ex.v := by
  rcases h with ⟨rfl, h2, h3⟩ | ⟨rfl, rfl, h1⟩ <;> rcases h' with ⟨rfl, g2, g3⟩ | ⟨rfl, rfl, g1⟩
  · exact ⟨rfl, exsTr_inj (h3.trans g3.symm)⟩
  · exact absurd h3 (g1 _ h2)
  · exact absurd g3 (h1 _ g2)
  · exact ⟨rfl, rfl⟩
end Go.Proofs.YtbkjjhpnjfdlbaaGreatDoor
namespace Go.Proofs.YtbkjjhpnjfdlbaaGreatDoor
open Go.RowKit
set_option linter.unusedVariables false
set_option linter.unusedSimpArgs false
attribute [local go_sem ↓] Go.wp_at_zero Go.wp_at_succ

def lenX (e : Ex) : Nat := e.id.length + e.val.length
def sumX (l : List Ex) : Nat := (l.map lenX).sum
theorem sumX_more {l : List Ex} {i : Nat} (h : i < l.length) : sumX (l.take (i + 1)) = sumX (l.take i) + lenX (l.getD i default) := by
  unfold sumX
  rw [take_more l h, List.map_append, List.sum_append]
  simp
theorem sumX_le : ∀ {l : List Ex} {x : Ex}, x ∈ l → lenX x ≤ sumX l
  | y :: r, x, h => by
    unfold sumX
    rw [List.map_cons, List.sum_cons]
    rcases List.mem_cons.1 h with rfl | h
    · omega
    · have := sumX_le h
      unfold sumX at this
      omega
/-- The first one of an ID. -/
def firstX : List EV → List Nat → Option EV
  | [], _ => none
  | e :: r, id => if e.id = id then some e else firstX r id
theorem first_at : ∀ {l : List EV} {id : List Nat} {i : Nat}, i < l.length → (l.getD i default).id = id → (∀ j, j < i → (l.getD j default).id ≠ id) → firstX l id = some (l.getD i default)
  | e :: r, id, 0, _, h, _ => by
    rw [firstX]
    have h' : e.id = id := h
    rw [if_pos h']; rfl
  | e :: r, id, i + 1, hi, h, hn => by
    have h0 : e.id ≠ id := hn 0 (by omega)
    rw [firstX, if_neg h0]
    exact first_at (l := r) (by simpa using hi) h (fun j hj => hn (j + 1) (by omega))
theorem first_none : ∀ {l : List EV} {id : List Nat}, (∀ j, j < l.length → (l.getD j default).id ≠ id) → firstX l id = none
  | [], _, _ => rfl
  | e :: r, id, h => by
    have h0 : e.id ≠ id := h 0 (by simp)
    rw [firstX, if_neg h0]
    exact first_none (l := r) (fun j hj => h (j + 1) (by simpa using hj))
def FindPost (w : World) (o : Option EV) (e : Ending) (w' : World) : Prop :=
  ∃ ex : Ex, ex.v = o.getD default ∧ e = .returned (.tuple #[.agg #[.slice ex.ia ex.id.length ex.ic, .bool ex.cr, .slice ex.va ex.val.length ex.vc], .bool o.isSome]) ∧ Off [] (ExP ex) w' ∧ Below w.heap.size w w'
theorem exNone (w : World) : Off [] (ExP ⟨none, 0, [], false, none, 0, []⟩) w := fun w' _ _ => ⟨Rd.nil_ _ _ _, by simp, Rd.nil_ _ _ _, by simp⟩
theorem off_ext {xs : List Nat} {A : Option Addr} {c : Nat} {l : List Ex} {w : World} {j : Nat} (h : Off xs (XP A c l) w) (hj : j < l.length) : Off xs (ExP (l.getD j default)) w := h.imp fun _ hh => hh.at_ hj
theorem ext_out {w w' : World} {e : Ex} (h : Off [w.heap.size] (ExP e) w') (a b c : Value) :
    Off [] (ExP e) (((w'.setCell ⟨w.heap.size, 0, none⟩ a).setCell ⟨w.heap.size, 1, none⟩ b).setCell ⟨w.heap.size, 2, none⟩ c) :=
  (((h.store (p := ⟨w.heap.size, 0, none⟩) (by simp) a).store (p := ⟨w.heap.size, 1, none⟩) (by simp) b).store (p := ⟨w.heap.size, 2, none⟩) (by simp) c).less (fun g hg => by simp at hg)
end Go.Proofs.YtbkjjhpnjfdlbaaGreatDoor
namespace Go.Proofs.YtbkjjhpnjfdlbaaGreatDoor
open Go.RowKit
set_option linter.unusedVariables false
set_option linter.unusedSimpArgs false
attribute [local go_sem ↓] Go.wp_at_zero Go.wp_at_succ

set_option maxRecDepth 100000 in
set_option maxHeartbeats 8000000 in
theorem find_any (w : World) (A A2 : Option Addr) (c n c2 m : Nat) (l : List Ex) (q : List Nat) (h : XP A c l w) (hn : l.length = n) (hr : Rd .u8 w w.heap.size A2 c2 q) (hm : q.length = m) (hq : ∀ x ∈ q, x < 256) (hsz : ∀ x ∈ l, x.id.length ≤ 12000 ∧ x.val.length ≤ 12000) :
    Calls Tryz.prog 40 #[.slice A n c, .slice A2 m c2] w (FindPost w (firstX (l.map Ex.v) q)) := by
  obtain ⟨o, HOO⟩ : ∃ o, Hid (o = firstX (l.map Ex.v) q) := ⟨_, rfl⟩
  rw [← HOO.out]
  have hlc : n ≤ c := by rw [← hn]; exact h.1.1
  have hc63 := h.1.2.1
  have HN := Lib.hid hn
  have HX := Lib.hid ((Off.of_x h).new (Nat.le_refl _))
  have HR := Lib.hid (Off.of_rd hr (Nat.le_refl _))
  have HM := Lib.hid hm
  have HQ := Lib.hid hq
  have HS := Lib.hid hsz
  obtain ⟨V, hV⟩ : ∃ V, V = w.alloc (.cells #[.slice none 0 0, .bool false, .slice none 0 0] 24) := ⟨_, rfl⟩
  have hz : Holds V w.heap.size 24 #[.slice none 0 0, .bool false, .slice none 0 0] := by rw [hV]; exact Holds.fresh _ _ _
  have HB0 : Hid (Below w.heap.size w V) := Lib.hid (by rw [hV]; exact (Below.refl _ _).alloc (Nat.le_refl _) _)
  have HZ := Lib.hid hz
  have HV := Lib.hid hV
  clear h hn hr hm hq hz hV hsz
  go_enter Tryz.func40, Tryz.ntmps40
  go_wp2_with fail
  rw [← HV.out]
  clear HV
  go_loopw [10] (fun iv wr => ∃ i : Nat, i ≤ n ∧ iv = .int .i64 (i : Int) ∧ Hid (∀ j, j < i → ((l.map Ex.v).getD j default).id ≠ q) ∧ Holds wr w.heap.size 24 #[.slice none 0 0, .bool false, .slice none 0 0] ∧ Below w.heap.size w wr) (fun iv _ => n - (intOf iv).toNat)
  case atStart => exact ⟨0, by omega, rfl, fun j hj => by omega, HZ.out, HB0.out⟩
  case round =>
    obtain ⟨i, hi, rfl, HA, hz, hB⟩ := hrel
    have HB3 := Lib.hid hB
    have HZ3 := Lib.hid hz
    have hwr : w.heap.size < wr.heap.size := hz.lt
    clear hB hz
    by_cases hlt : i < n
    · have hxo := HX.out.under HB3.out
      have hx := hxo.at_
      obtain ⟨g, off, rfl, hg, hcs⟩ := hx.1.2.2 (by rw [HN.out]; omega)
      obtain ⟨c0, c1, c2'⟩ := hcs i (by rw [HN.out]; exact hlt)
      have hxe := hx.at_ (by rw [HN.out]; exact hlt)
      have HV1 : Hid ((l.map Ex.v).getD i default = (l.getD i default).v) := Lib.hid (ev_at (by rw [HN.out]; exact hlt))
      have hs12 := HS.out _ (getD_mem (l := l) (j := i) (by rw [HN.out]; exact hlt))
      obtain ⟨e, he⟩ : ∃ e, e = l.getD i default := ⟨_, rfl⟩
      rw [← he] at c0 c1 c2' hxe HV1 hs12
      clear he hcs hx hg hxo
      obtain ⟨ia, ic, id, cr, va, vc, val⟩ := e
      obtain ⟨hr1, ho1, hr2, ho2⟩ := hxe
      dsimp only at c0 c1 c2' hr1 ho1 hr2 ho2 hs12
      obtain ⟨n1, hn1⟩ : ∃ n1, id.length = n1 := ⟨_, rfl⟩
      obtain ⟨n2, hn2⟩ : ∃ n2, val.length = n2 := ⟨_, rfl⟩
      rw [hn1] at c0 hs12
      rw [hn2] at c2' hs12
      have HN1 := Lib.hid hn1
      have HN2 := Lib.hid hn2
      have HO1 := Lib.hid ho1
      have HO2 := Lib.hid ho2
      have hq1 : Below wr.heap.size wr (wr.alloc (.cells #[.slice ia n1 ic, .bool cr, .slice va n2 vc] 24)) := (Below.refl _ _).alloc (Nat.le_refl _) _
      have hH1 := Holds.fresh wr 24 #[.slice ia n1 ic, .bool cr, .slice va n2 vc]
      have HB4 := Lib.hid (HB3.out.trans (hq1.mono HB3.out.size))
      have HZ4 := Lib.hid (HZ3.out.under hq1 hwr)
      have HRI : Hid (∀ W, Below wr.heap.size wr W → Rd .u8 W wr.heap.size ia ic id) := Lib.hid fun W hW => hr1.under hW
      have HRV : Hid (∀ W, Below wr.heap.size wr W → Rd .u8 W wr.heap.size va vc val) := Lib.hid fun W hW => hr2.under hW
      have hrq := (HR.out.under HB4.out).at_
      have HQ1 := Lib.hid hq1
      have HH1 := Lib.hid hH1
      have z0 := hH1.cell 0
      have z1 := hH1.cell 1
      have z2 := hH1.cell 2
      by_cases hid : id = q
      · have HFE : Hid (o = some ⟨id, cr, val⟩) := Lib.hid (by
          rw [HOO.out, first_at (i := i) (by rw [List.length_map, HN.out]; exact hlt) (by rw [HV1.out]; exact hid) HA.out, HV1.out]; rfl)
        have hmn : n1 = m := by rw [← HM.out, ← hid, hn1]
        subst hmn
        have HEQ := Lib.hid (equal_yes (wr.alloc (.cells #[.slice ia n1 ic, .bool cr, .slice va n2 vc] 24)) _ _ ia A2 ic c2 n1 id hn1 (hr1.under hq1) (by rw [hid]; exact hrq) ho1)
        have HX0 : Hid (∀ W, Below (wr.alloc (.cells #[.slice ia n1 ic, .bool cr, .slice va n2 vc] 24)).heap.size (wr.alloc (.cells #[.slice ia n1 ic, .bool cr, .slice va n2 vc] 24)) W → W.cell? ⟨wr.heap.size, 0, none⟩ = some (.slice ia n1 ic) ∧ W.cell? ⟨wr.heap.size, 1, none⟩ = some (.bool cr) ∧ W.cell? ⟨wr.heap.size, 2, none⟩ = some (.slice va n2 vc)) := Lib.hid fun W hW => by
          have h := hH1.under hW hH1.lt
          exact ⟨h.cell 0, h.cell 1, h.cell 2⟩
        clear hid hr1 ho1 hr2 ho2 hn1 hn2 hq1 hH1 hrq
        go_wp2_with fail
        refine HEQ.out.mono ?_
        rintro e w4 ⟨rfl, hw4⟩
        have HW4 := Lib.hid hw4.symm
        rw [HW4.out]
        clear hw4 HW4
        go_wp2_with fail
        refine wp_region_noPanic ?_
        refine wp_region_held_drew (S := fun W => W.cell? ⟨wr.heap.size, 0, none⟩ = some (.slice ia n1 ic) ∧ W.cell? ⟨wr.heap.size, 1, none⟩ = some (.bool cr) ∧ W.cell? ⟨wr.heap.size, 2, none⟩ = some (.slice va n2 vc)) (by kernel_rfl) (⟨z0, z1, z2⟩) (fun hHeld => ?_)
        refine wpAnyH_take (i := 0) (oi := { dst := some 18, op := Op.fieldAddr 24 (Operand.tmp 7) 0, type := 0, pos := _, after := _, guard := none }) (v := ?_) rfl (by kernel_rfl) (by kernel_rfl) (by kernel_rfl) (fun _ _ _ h => h) (Or.inl ⟨by rfl, ?_⟩) hHeld ?_
        rotate_left 1
        · (intro W hW; (try dsimp only at hW); go_simp; try with_reducible rfl)
        try simp only [Act.put, List.setIfInBounds_toArray, List.set_cons_zero, List.set_cons_succ]
        refine wpAnyH_take (i := 1) (oi := { dst := some 19, op := Op.load 22 (Operand.tmp 18), type := 22, pos := _, after := _, guard := none }) (v := ?_) rfl (by kernel_rfl) (by kernel_rfl) (by kernel_rfl) (fun _ _ _ h => h) (Or.inl ⟨by rfl, ?_⟩) hHeld ?_
        rotate_left 1
        · (intro W hW; obtain ⟨k0, k1, k2⟩ := hW; (try dsimp only at hW); go_simp; try with_reducible rfl)
        try simp only [Act.put, List.setIfInBounds_toArray, List.set_cons_zero, List.set_cons_succ]
        refine wpAnyH_take (i := 3) (oi := { dst := some 21, op := Op.fieldAddr 24 (Operand.tmp 7) 1, type := 0, pos := _, after := _, guard := none }) (v := ?_) rfl (by kernel_rfl) (by kernel_rfl) (by kernel_rfl) (fun _ _ _ h => h) (Or.inl ⟨by rfl, ?_⟩) hHeld ?_
        rotate_left 1
        · (intro W hW; (try dsimp only at hW); go_simp; try with_reducible rfl)
        try simp only [Act.put, List.setIfInBounds_toArray, List.set_cons_zero, List.set_cons_succ]
        refine wpAnyH_take (i := 4) (oi := { dst := some 22, op := Op.load 4 (Operand.tmp 21), type := 4, pos := _, after := _, guard := none }) (v := ?_) rfl (by kernel_rfl) (by kernel_rfl) (by kernel_rfl) (fun _ _ _ h => h) (Or.inl ⟨by rfl, ?_⟩) hHeld ?_
        rotate_left 1
        · (intro W hW; obtain ⟨k0, k1, k2⟩ := hW; (try dsimp only at hW); go_simp; try with_reducible rfl)
        try simp only [Act.put, List.setIfInBounds_toArray, List.set_cons_zero, List.set_cons_succ]
        refine wpAnyH_take (i := 5) (oi := { dst := some 23, op := Op.fieldAddr 24 (Operand.tmp 7) 2, type := 0, pos := _, after := _, guard := none }) (v := ?_) rfl (by kernel_rfl) (by kernel_rfl) (by kernel_rfl) (fun _ _ _ h => h) (Or.inl ⟨by rfl, ?_⟩) hHeld ?_
        rotate_left 1
        · (intro W hW; (try dsimp only at hW); go_simp; try with_reducible rfl)
        try simp only [Act.put, List.setIfInBounds_toArray, List.set_cons_zero, List.set_cons_succ]
        refine wpAnyH_take (i := 6) (oi := { dst := some 24, op := Op.load 22 (Operand.tmp 23), type := 22, pos := _, after := _, guard := none }) (v := ?_) rfl (by kernel_rfl) (by kernel_rfl) (by kernel_rfl) (fun _ _ _ h => h) (Or.inl ⟨by rfl, ?_⟩) hHeld ?_
        rotate_left 1
        · (intro W hW; obtain ⟨k0, k1, k2⟩ := hW; (try dsimp only at hW); go_simp; try with_reducible rfl)
        try simp only [Act.put, List.setIfInBounds_toArray, List.set_cons_zero, List.set_cons_succ]
        refine wpAnyH_ready (rs := [2]) (by kernel_rfl) (by simp) ?_
        refine AllReadyH.cons (o := { dst := some 20, op := Op.call { callee := Callee.value (Operand.func 47), args := #[Operand.tmp 19], argTypes := #[22] }, type := 22, pos := _, after := _, guard := none }) rfl (fun K hK => ?_) AllReadyH.nil
        go_simp
        refine (clone_any (wr.alloc (.cells #[.slice ia n1 ic, .bool cr, .slice va n2 vc] 24)).drew wr.heap.size ia ic n1 id ((HRI.out _ HQ1.out).under ((Below.refl _ (wr.alloc (.cells #[.slice ia n1 ic, .bool cr, .slice va n2 vc] 24))).drew.mono HQ1.out.size)) HN1.out HQ1.out.size (by omega)).mono ?_
        rintro e w5 ⟨A5, c5, rfl, hm5, hb5⟩
        have b5 : Hid (Below (wr.alloc (.cells #[.slice ia n1 ic, .bool cr, .slice va n2 vc] 24)).heap.size (wr.alloc (.cells #[.slice ia n1 ic, .bool cr, .slice va n2 vc] 24)) w5) := Lib.hid ((Below.refl _ (wr.alloc (.cells #[.slice ia n1 ic, .bool cr, .slice va n2 vc] 24))).drew.trans hb5)
        have S5 : Hid ((fun W => W.cell? ⟨wr.heap.size, 0, none⟩ = some (.slice ia n1 ic) ∧ W.cell? ⟨wr.heap.size, 1, none⟩ = some (.bool cr) ∧ W.cell? ⟨wr.heap.size, 2, none⟩ = some (.slice va n2 vc)) w5) := Lib.hid (HX0.out _ b5.out)
        have HM5 := Lib.hid hm5
        have Q5 := Lib.hid (HQ1.out.trans (b5.out.mono HQ1.out.size))
        clear hb5 hm5
        go_simp
        refine hK.out _ _ (S5.out) (fun _ => ?_)
        clear hK K hHeld
        try simp only [Act.put, List.setIfInBounds_toArray, List.set_cons_zero, List.set_cons_succ]
        have hHeld : (fun W => W.cell? ⟨wr.heap.size, 0, none⟩ = some (.slice ia n1 ic) ∧ W.cell? ⟨wr.heap.size, 1, none⟩ = some (.bool cr) ∧ W.cell? ⟨wr.heap.size, 2, none⟩ = some (.slice va n2 vc)) w5 := S5.out
        refine wpAnyH_ready (rs := [7]) (by kernel_rfl) (by simp) ?_
        refine AllReadyH.cons (o := { dst := some 25, op := Op.call { callee := Callee.value (Operand.func 47), args := #[Operand.tmp 24], argTypes := #[22] }, type := 22, pos := _, after := _, guard := none }) rfl (fun K hK => ?_) AllReadyH.nil
        go_simp
        refine (clone_any w5 wr.heap.size va vc n2 val (HRV.out _ Q5.out) HN2.out Q5.out.size (by omega)).mono ?_
        rintro e w7 ⟨A7, c7, rfl, hm7, hb7⟩
        have b7 : Hid (Below (wr.alloc (.cells #[.slice ia n1 ic, .bool cr, .slice va n2 vc] 24)).heap.size (wr.alloc (.cells #[.slice ia n1 ic, .bool cr, .slice va n2 vc] 24)) w7) := Lib.hid (b5.out.trans (hb7.mono b5.out.size))
        have S7 : Hid ((fun W => W.cell? ⟨wr.heap.size, 0, none⟩ = some (.slice ia n1 ic) ∧ W.cell? ⟨wr.heap.size, 1, none⟩ = some (.bool cr) ∧ W.cell? ⟨wr.heap.size, 2, none⟩ = some (.slice va n2 vc)) w7) := Lib.hid (HX0.out _ b7.out)
        have HM7 := Lib.hid hm7
        have H57 := Lib.hid hb7
        have Q7 := Lib.hid (HQ1.out.trans (b7.out.mono HQ1.out.size))
        have hz7 := HZ4.out.under b7.out HZ4.out.lt
        have HZ7 := Lib.hid hz7
        have HB7 := Lib.hid (HB4.out.trans (b7.out.mono HB4.out.size))
        have x0 := hz7.cell 0
        have x1 := hz7.cell 1
        have x2 := hz7.cell 2
        have y0 := hz7.open_ 0
        have y1 := hz7.open_ 1
        have y2 := hz7.open_ 2
        have S9 : Hid ((fun W => W.cell? ⟨wr.heap.size, 0, none⟩ = some (.slice ia n1 ic) ∧ W.cell? ⟨wr.heap.size, 1, none⟩ = some (.bool cr) ∧ W.cell? ⟨wr.heap.size, 2, none⟩ = some (.slice va n2 vc)) (((w7.setCell ⟨w.heap.size, 0, none⟩ (.slice A5 n1 c5)).setCell ⟨w.heap.size, 1, none⟩ (.bool cr)).setCell ⟨w.heap.size, 2, none⟩ (.slice A7 n2 c7))) := Lib.hid (by
          have hne : ∀ (W : World) (j k : Nat) (u : Value), (W.setCell ⟨w.heap.size, j, none⟩ u).cell? ⟨wr.heap.size, k, none⟩ = W.cell? ⟨wr.heap.size, k, none⟩ := fun W j k u => by
            simp only [World.cell?]; rw [Below.heap_setCell W ⟨w.heap.size, j, none⟩ u wr.heap.size (by show wr.heap.size ≠ w.heap.size; omega)]
          refine ⟨?_, ?_, ?_⟩
          · rw [hne, hne, hne]; exact S7.out.1
          · rw [hne, hne, hne]; exact S7.out.2.1
          · rw [hne, hne, hne]; exact S7.out.2.2)
        clear hb7 hm7 hz7
        go_simp
        refine hK.out _ _ (S7.out) (fun _ => ?_)
        clear hK K hHeld
        try simp only [Act.put, List.setIfInBounds_toArray, List.set_cons_zero, List.set_cons_succ]
        have hHeld : (fun W => W.cell? ⟨wr.heap.size, 0, none⟩ = some (.slice ia n1 ic) ∧ W.cell? ⟨wr.heap.size, 1, none⟩ = some (.bool cr) ∧ W.cell? ⟨wr.heap.size, 2, none⟩ = some (.slice va n2 vc)) w7 := S7.out
        refine wpAnyH_take (i := 8) (oi := { dst := some 26, op := Op.build 24 #[(0, Operand.tmp 20), (1, Operand.tmp 22), (2, Operand.tmp 25)], type := 24, pos := _, after := _, guard := none }) (v := ?_) rfl (by kernel_rfl) (by kernel_rfl) (by kernel_rfl) (fun _ _ _ h => h) (Or.inl ⟨by rfl, ?_⟩) hHeld ?_
        rotate_left 1
        · (intro W hW; (try dsimp only at hW); go_simp; try with_reducible rfl)
        try simp only [Act.put, List.setIfInBounds_toArray, List.set_cons_zero, List.set_cons_succ]
        refine wpAnyH_ready (rs := [9]) (by kernel_rfl) (by simp) ?_
        refine AllReadyH.cons (o := { dst := none, op := Op.store 24 (Operand.tmp 4) (Operand.tmp 26), type := 0, pos := _, after := _, guard := none }) rfl (fun K hK => ?_) AllReadyH.nil
        go_simp
        refine hK.out _ _ (S9.out) (fun _ => ?_)
        clear hK K hHeld
        try simp only [Act.put, List.setIfInBounds_toArray, List.set_cons_zero, List.set_cons_succ]
        have hHeld : (fun W => W.cell? ⟨wr.heap.size, 0, none⟩ = some (.slice ia n1 ic) ∧ W.cell? ⟨wr.heap.size, 1, none⟩ = some (.bool cr) ∧ W.cell? ⟨wr.heap.size, 2, none⟩ = some (.slice va n2 vc)) (((w7.setCell ⟨w.heap.size, 0, none⟩ (.slice A5 n1 c5)).setCell ⟨w.heap.size, 1, none⟩ (.bool cr)).setCell ⟨w.heap.size, 2, none⟩ (.slice A7 n2 c7)) := S9.out
        refine wpAnyH_take (i := 10) (oi := { dst := some 5, op := Op.assign (Operand.const (Value.bool true)), type := 4, pos := _, after := _, guard := none }) (v := ?_) rfl (by kernel_rfl) (by kernel_rfl) (by kernel_rfl) (fun _ _ _ h => h) (Or.inl ⟨by rfl, ?_⟩) hHeld ?_
        rotate_left 1
        · (intro W hW; (try dsimp only at hW); go_simp; try with_reducible rfl)
        try simp only [Act.put, List.setIfInBounds_toArray, List.set_cons_zero, List.set_cons_succ]
        refine wpAnyH_done (by kernel_rfl) ?_ _
        refine NoPanic.normal ?_
        go_wp2_with fail
        rw [HFE.out]
        refine ret_ext rfl rfl rfl (((HZ7.out.stored 0 _).stored 1 _).stored 2 _) rfl ?_
        have o5 : Off [w.heap.size] (fun W => Rd .u8 W W.heap.size A5 c5 id) w7 := (Off.of_mine HM5.out (fun g hg hx => by have h1 := (HM5.out.block hg).1; have h2 := HZ4.out.lt; rw [List.mem_singleton] at hx; simp only [World.drew] at h1; omega)).under H57.out
        have o7 : Off [w.heap.size] (fun W => Rd .u8 W W.heap.size A7 c7 val) w7 := Off.of_mine HM7.out (fun g hg hx => by have h1 := (HM7.out.block hg).1; have h2 := HZ4.out.lt; have h3 := b5.out.size; rw [List.mem_singleton] at hx; omega)
        have oe : Off [w.heap.size] (ExP ⟨A5, c5, id, cr, A7, c7, val⟩) w7 := (o5.and o7).imp fun _ hh => ⟨hh.1, HO1.out, hh.2, HO2.out⟩
        refine ⟨⟨A5, c5, id, cr, A7, c7, val⟩, rfl, ?_, ext_out oe _ _ _, below_ext HB7.out (Nat.le_refl _) _ _ _⟩
        rw [← HN1.out, ← HN2.out]
        rfl
      · have HNI : Hid (((l.map Ex.v).getD i default).id ≠ q) := Lib.hid (by rw [HV1.out]; exact hid)
        have HEQ := Lib.hid (equal_no (wr.alloc (.cells #[.slice ia n1 ic, .bool cr, .slice va n2 vc] 24)) _ _ ia A2 ic c2 n1 m id q hn1 HM.out (hr1.under hq1) hrq ho1 HQ.out hid)
        clear hid hr1 ho1 hr2 ho2 hn1 hn2 hq1 hH1 hrq
        go_wp2_with fail
        refine HEQ.out.mono ?_
        rintro e w4 ⟨rfl, hw4⟩
        have HW4 := Lib.hid hw4.symm
        rw [HW4.out]
        clear hw4 HW4
        go_wp2_with fail
        go_roundw
        case rel => exact ⟨i + 1, by omega, by go_num, fun j hj => by
          rcases Nat.lt_or_ge j i with h3 | h3
          · exact HA.out j h3
          · obtain rfl : j = i := by omega
            exact HNI.out, HZ4.out, HB4.out⟩
        case measure => simp [intOf]; omega
    · have HFE : Hid (o = none) := Lib.hid (by rw [HOO.out]; exact first_none fun j hj => HA.out j (by rw [List.length_map, HN.out] at hj; omega))
      have z0 := HZ3.out.cell 0
      have z1 := HZ3.out.cell 1
      have z2 := HZ3.out.cell 2
      have y0 := HZ3.out.open_ 0
      have y1 := HZ3.out.open_ 1
      have y2 := HZ3.out.open_ 2
      go_wp2_with fail
      rw [HFE.out]
      exact ret_ext rfl rfl rfl (((HZ3.out.stored 0 _).stored 1 _).stored 2 _) rfl ⟨⟨none, 0, [], false, none, 0, []⟩, rfl, rfl, exNone _, below_ext HB3.out (Nat.le_refl _) _ _ _⟩
end Go.Proofs.YtbkjjhpnjfdlbaaGreatDoor
namespace Go.Proofs.YtbkjjhpnjfdlbaaGreatDoor
open Go.RowKit
set_option linter.unusedVariables false
set_option linter.unusedSimpArgs false
attribute [local go_sem ↓] Go.wp_at_zero Go.wp_at_succ

theorem xp_one {w : World} {e : Ex} (h : Off [] (ExP e) w) : Off [] (XP (some ⟨w.heap.size, 0, none⟩) 1 [e]) (w.alloc (.cells (xcell e).toArray 24)) := by
  have hH := Holds.fresh w 24 (xcell e).toArray
  intro w' h2 h3
  have hs : (w.alloc (.cells (xcell e).toArray 24)).heap.size = w.heap.size + 1 := by simp
  have hH' : Holds w' w.heap.size 24 (xcell e).toArray := (h3 _ (by simp) (by omega)).trans hH
  refine ⟨⟨by simp, by omega, fun _ => ⟨w.heap.size, 0, rfl, by omega, fun j hj => ?_⟩⟩, fun x hx => ?_⟩
  · obtain rfl : j = 0 := by simp at hj; omega
    exact ⟨hH'.cell 0, hH'.cell 1, hH'.cell 2⟩
  · rw [List.mem_singleton.1 hx]
    exact (h.alloc _) w' h2 h3
/-- A row's cells by name. -/
def Of3 (e : Ex) (a : Option Addr) (n c : Nat) (b : Bool) (a2 : Option Addr) (n2 c2 : Nat) : Prop := xcell e = [.slice a n c, .bool b, .slice a2 n2 c2]
theorem FindPost.three {w w' : World} {o : Option EV} {e : Ending} (h : FindPost w o e w') : ∃ (ex : Ex) (a : Option Addr) (n c : Nat) (b : Bool) (a2 : Option Addr) (n2 c2 : Nat), Of3 ex a n c b a2 n2 c2 ∧ ex.v = o.getD default ∧ e = .returned (.tuple #[.agg #[.slice a n c, .bool b, .slice a2 n2 c2], .bool o.isSome]) ∧ Off [] (ExP ex) w' ∧ Below w.heap.size w w' := by
  obtain ⟨ex, h1, rfl, h3, h4⟩ := h
  exact ⟨ex, _, _, _, _, _, _, _, rfl, h1, rfl, h3, h4⟩
theorem fit_exs {L : List EV} (h : exIs L = true) : FitX (exsTr L) := by
  obtain ⟨h12, h1⟩ := exIs_iff.1 h
  refine ⟨by simp [exsTr, Tr.kids]; omega, fun k hk => ?_⟩
  obtain ⟨e, he, rfl⟩ := List.mem_map.1 (show k ∈ L.map exTr from hk)
  obtain ⟨j, hj, rfl⟩ := List.getElem_of_mem he
  have h2 := h1 j hj
  unfold exOne at h2
  simp only [Bool.and_eq_true, decide_eq_true_eq] at h2
  have h3 : L.getD j default = L[j] := by simp [List.getD, hj]
  rw [h3] at h2
  have h4 := (idOk_iff.1 h2.1.1).2.1
  have h5 := h2.1.2
  generalize L[j] = e at *
  obtain ⟨id, cr, val⟩ := e
  dsimp only at h4 h5
  refine ⟨?_, fun p hp => ?_⟩
  · show (exParts ⟨id, cr, val⟩).length ≤ 12000
    unfold exParts
    cases cr <;> simp
  · have hp : p ∈ exParts ⟨id, cr, val⟩ := hp
    unfold exParts at hp
    cases cr <;> simp at hp
    · rcases hp with rfl | rfl <;> simp only [Tr.body] <;> omega
    · rcases hp with rfl | rfl | rfl <;> simp only [Tr.body, List.length_cons, List.length_nil] <;> omega
end Go.Proofs.YtbkjjhpnjfdlbaaGreatDoor
