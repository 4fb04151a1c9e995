/-
  Things that a call answers, by their cells; rows of one, two, three. Manifests: in memory, and which may be. A manifest: may it be? By the document. A manifest: may it be? By list. Are two manifests one? By list. A manifest's thing: words.
-/
import Derived.Test.YtdjklhglkmacbaaDoorKids
import Derived.Test.YtdjklhglkmacbaaDoorTxM
import Derived.Test.YtdjklhglkmacbaaDoorOff
import Derived.Test.YtdjklhglkmacbaaDoorAtM
import Derived.Test.YtdjklhglkmacbaaDoorStrong
import Derived.Deep.RegionHeld3
namespace Go.Proofs.YtdjklhglkmacbaaDoor
open Go.RowKit
set_option linter.unusedVariables false
set_option linter.unusedSimpArgs false

theorem MadeT.prim {w w' : World} {xs : List Nat} {tag : Nat} {b : List Nat} {e : Ending} (h : MadeT w xs (.mk tag b []) e w') : ∃ A c K kc, e = .returned (.agg #[.int .u8 (tag : Int), .slice A b.length c, .slice K 0 kc]) ∧ Rd .u8 w' w'.heap.size A c b ∧ Below w.heap.size w w' := by
  obtain ⟨lt, rfl, hlt, hoff, hb⟩ := h
  obtain ⟨h1, h2, h3⟩ := lt_parts hlt
  rcases lt with ⟨t, ba, bc, body, ka, kc, kids⟩
  simp only [Lt.tag, Lt.body, Lt.kids] at h1 h2 h3
  subst h1 h2
  refine ⟨ba, bc, ka, kc, ?_, (ThP.iff.1 hoff.at_).2.1, hb⟩
  rw [List.length_nil] at h3
  show Ending.returned (.agg #[.int .u8 (t : Int), .slice ba body.length bc, .slice ka kids.length kc]) = _
  rw [h3]

/-- A thing and the cells that a call answers. -/
def Of6 (lt : Lt) (t : Nat) (a : Option Addr) (n c : Nat) (k : Option Addr) (m d : Nat) : Prop := lcell lt = [.int .u8 (t : Int), .slice a n c, .slice k m d]
theorem MadeT.six {w w' : World} {xs : List Nat} {T : Tr} {e : Ending} (h : MadeT w xs T e w') : ∃ (lt : Lt) (t : Nat) (a : Option Addr) (n c : Nat) (k : Option Addr) (m d : Nat), e = .returned (.agg #[.int .u8 (t : Int), .slice a n c, .slice k m d]) ∧ Of6 lt t a n c k m d ∧ lt.t = T ∧ Off xs (ThP lt) w' ∧ Below w.heap.size w w' := by
  obtain ⟨lt, rfl, h1, h2, h3⟩ := h
  exact ⟨lt, _, _, _, _, _, _, _, rfl, rfl, h1, h2, h3⟩
theorem Of6.val {lt : Lt} {t n c m d : Nat} {a k : Option Addr} (h : Of6 lt t a n c k m d) : lt.val = .agg #[.int .u8 (t : Int), .slice a n c, .slice k m d] := by
  unfold Lt.val
  rw [← lcell_cells, show lcell lt = _ from h]
theorem Kids.push6 {xs : List Nat} {A : Option Addr} {c n : Nat} {ks : List Lt} {w w' : World} {lt : Lt} {t n2 c2 m d : Nat} {a k : Option Addr} {g' c' : Nat} (h : Kids xs A c n ks w) (ht : Off (bl A ++ xs) (ThP lt) w) (h6 : Of6 lt t a n2 c2 k m d)
    (ho : OwnV 31 3 w' (some ⟨g', 0, none⟩) c' (n + 1) (ks.flatMap lcell ++ [.int .u8 (t : Int), .slice a n2 c2, .slice k m d])) (hg : w.grownBy w' (blockOf A))
    (ha : blockOf A = some g' ∨ g' = w.heap.size) (hx : ∀ x ∈ xs, x < w.heap.size) : Kids xs (some ⟨g', 0, none⟩) c' (n + 1) (ks ++ [lt]) w' := h.push ht (by rw [show lcell lt = _ from h6]; exact ho) hg ha hx
theorem one6 {t n c m d : Nat} {a k : Option Addr} : ∀ u ∈ [Value.int .u8 (t : Int), .slice a n c, .slice k m d], u.oneCell' = true := by
  intro u hu
  simp only [List.mem_cons, List.not_mem_nil, or_false] at hu
  rcases hu with rfl | rfl | rfl <;> rfl
/-- Things laid at once, one or two. -/
theorem row6 {xs : List Nat} {w : World} {lt : Lt} {t n c m d : Nat} {a k : Option Addr} (h : Off xs (ThP lt) w) (h6 : Of6 lt t a n c k m d) (hx : w.heap.size ∉ xs) : Off xs (KiP (some ⟨w.heap.size, 0, none⟩) 1 [lt]) (w.alloc (.cells #[.int .u8 (t : Int), .slice a n c, .slice k m d] 31)) := by
  have := off_row (l := [lt]) (fun x hx2 => by rw [List.mem_singleton.1 hx2]; exact h) hx (by simp)
  rwa [show ([lt].flatMap lcell).toArray = #[.int .u8 (t : Int), .slice a n c, .slice k m d] by rw [List.flatMap_cons, List.flatMap_nil, List.append_nil, show lcell lt = _ from h6]] at this
theorem row66 {xs : List Nat} {w : World} {lt lt' : Lt} {t n c m d t' n' c' m' d' : Nat} {a k a' k' : Option Addr} (h : Off xs (ThP lt) w) (h6 : Of6 lt t a n c k m d) (h' : Off xs (ThP lt') w) (h6' : Of6 lt' t' a' n' c' k' m' d') (hx : w.heap.size ∉ xs) :
    Off xs (KiP (some ⟨w.heap.size, 0, none⟩) 2 [lt, lt']) (w.alloc (.cells #[.int .u8 (t : Int), .slice a n c, .slice k m d, .int .u8 (t' : Int), .slice a' n' c', .slice k' m' d'] 31)) := by
  have := off_row (l := [lt, lt']) (fun x hx2 => by
    rcases List.mem_cons.1 hx2 with rfl | hx2
    · exact h
    · rw [List.mem_singleton.1 hx2]; exact h') hx (by simp)
  rwa [show ([lt, lt'].flatMap lcell).toArray = #[.int .u8 (t : Int), .slice a n c, .slice k m d, .int .u8 (t' : Int), .slice a' n' c', .slice k' m' d'] by rw [List.flatMap_cons, List.flatMap_cons, List.flatMap_nil, List.append_nil, show lcell lt = _ from h6, show lcell lt' = _ from h6']; rfl] at this
theorem row666 {xs : List Nat} {w : World} {l1 l2 l3 : Lt} {t n c m d t' n' c' m' d' t2 n2 c2 m2 d2 : Nat} {a k a' k' a2 k2 : Option Addr} (h : Off xs (ThP l1) w) (h6 : Of6 l1 t a n c k m d) (h' : Off xs (ThP l2) w) (h6' : Of6 l2 t' a' n' c' k' m' d') (h2 : Off xs (ThP l3) w) (h62 : Of6 l3 t2 a2 n2 c2 k2 m2 d2) (hx : w.heap.size ∉ xs) :
    Off xs (KiP (some ⟨w.heap.size, 0, none⟩) 3 [l1, l2, l3]) (w.alloc (.cells #[.int .u8 (t : Int), .slice a n c, .slice k m d, .int .u8 (t' : Int), .slice a' n' c', .slice k' m' d', .int .u8 (t2 : Int), .slice a2 n2 c2, .slice k2 m2 d2] 31)) := by
  have := off_row (l := [l1, l2, l3]) (fun x hx2 => by
    rcases List.mem_cons.1 hx2 with rfl | hx2
    · exact h
    rcases List.mem_cons.1 hx2 with rfl | hx2
    · exact h'
    · rw [List.mem_singleton.1 hx2]; exact h2) hx (by simp)
  rwa [show ([l1, l2, l3].flatMap lcell).toArray = #[.int .u8 (t : Int), .slice a n c, .slice k m d, .int .u8 (t' : Int), .slice a' n' c', .slice k' m' d', .int .u8 (t2 : Int), .slice a2 n2 c2, .slice k2 m2 d2] by rw [List.flatMap_cons, List.flatMap_cons, List.flatMap_cons, List.flatMap_nil, List.append_nil, show lcell l1 = _ from h6, show lcell l2 = _ from h6', show lcell l3 = _ from h62]; rfl] at this
theorem PrimAt.six {v : Value} {w : World} {xs : List Nat} {B tag : Nat} {b : List Nat} (h : PrimAt v w B tag b) (hx : ∀ x ∈ xs, x < B) : ∃ (lt : Lt) (t : Nat) (a : Option Addr) (n c : Nat) (k : Option Addr) (m d : Nat), v = .agg #[.int .u8 (t : Int), .slice a n c, .slice k m d] ∧ Of6 lt t a n c k m d ∧ lt.t = .mk tag b [] ∧ Off xs (ThP lt) w := by
  obtain ⟨lt, rfl, h1, h2⟩ := off_prim h hx
  exact ⟨lt, _, _, _, _, _, _, _, rfl, rfl, h1, h2⟩
end Go.Proofs.YtdjklhglkmacbaaDoor
namespace Go.Proofs.YtdjklhglkmacbaaDoor
open Go.RowKit
set_option linter.unusedVariables false

/-- A file's entry, as it is told. -/
structure EN where
  path : List Nat
  sz : Int
  dig : List Nat
deriving DecidableEq
structure En where
  path : List Nat
  sz : Int
  da : Option Addr
  dc : Nat
  dig : List Nat
instance : Inhabited EN := ⟨⟨[], 0, []⟩⟩
instance : Inhabited En := ⟨⟨[], 0, none, 0, []⟩⟩
def En.v (e : En) : EN := ⟨e.path, e.sz, e.dig⟩
def ncell (e : En) : List Value := [.string (str e.path), .int .i64 e.sz, .slice e.da e.dig.length e.dc]
def EnP (e : En) (w : World) : Prop := Rd .u8 w w.heap.size e.da e.dc e.dig ∧ (∀ x ∈ e.dig, x < 256) ∧ Oct8 e.path
/-- The row's cells. -/
def RowN (w : World) (B : Nat) (A : Option Addr) (c : Nat) (l : List En) : Prop :=
  l.length ≤ c ∧ c ≤ 9223372036854775807 ∧ (0 < l.length → ∃ b off, A = some ⟨b, off, none⟩ ∧ b < B ∧ ∀ j, j < l.length → w.cell? ⟨b, off + j * 3, none⟩ = some (.string (str (l.getD j default).path)) ∧
    w.cell? ⟨b, off + j * 3 + 1, none⟩ = some (.int .i64 (l.getD j default).sz) ∧ w.cell? ⟨b, off + j * 3 + 2, none⟩ = some (.slice (l.getD j default).da (l.getD j default).dig.length (l.getD j default).dc))
def NsP (A : Option Addr) (c : Nat) (l : List En) (w : World) : Prop := RowN w w.heap.size A c l ∧ ∀ x ∈ l, EnP x w
theorem NsP.none (w : World) : NsP none 0 [] w := ⟨⟨by simp, by omega, fun h => by simp at h⟩, fun x hx => by cases hx⟩
theorem RowN.congr {w w' : World} {B : Nat} {A : Option Addr} {c : Nat} {l : List En} (h : RowN w B A c l) (hk : ∀ g, g < B → w'.heap[g]? = w.heap[g]?) : RowN w' B A c l :=
  ⟨h.1, h.2.1, fun hn => by
    obtain ⟨b, off, e, hlt, hc⟩ := h.2.2 hn
    have hx : ∀ o, w'.cell? ⟨b, o, Option.none⟩ = w.cell? ⟨b, o, Option.none⟩ := fun o => by simp only [World.cell?]; rw [hk b hlt]
    exact ⟨b, off, e, hlt, fun j hj => ⟨(hx _).trans (hc j hj).1, (hx _).trans (hc j hj).2.1, (hx _).trans (hc j hj).2.2⟩⟩⟩
theorem RowN.more {w : World} {B B' : Nat} {A : Option Addr} {c : Nat} {l : List En} (h : RowN w B A c l) (hB : B ≤ B') : RowN w B' A c l :=
  ⟨h.1, h.2.1, fun hn => by
    obtain ⟨b, off, e, hlt, hc⟩ := h.2.2 hn
    exact ⟨b, off, e, by omega, hc⟩⟩
theorem Off.of_n {A : Option Addr} {c : Nat} {l : List En} {w : World} (h : NsP A c l w) : Off [] (NsP A c l) w := fun w' h2 h3 => by
  have hk : ∀ g, g < w.heap.size → w'.heap[g]? = w.heap[g]? := fun g hg => h3 g (by simp) hg
  exact ⟨(h.1.congr hk).more h2, fun x hx => ⟨((h.2 x hx).1.congr hk).more h2, (h.2 x hx).2⟩⟩
theorem NsP.at_ {A : Option Addr} {c j : Nat} {l : List En} {w : World} (h : NsP A c l w) (hj : j < l.length) : EnP (l.getD j default) w := h.2 _ (getD_mem hj)
theorem en_at {l : List En} {j : Nat} (h : j < l.length) : (l.map En.v).getD j default = (l.getD j default).v := by simp [List.getD, h]
/-- A manifest as it is told; in memory. -/
structure MV where
  name : List Nat
  ctr : Nat
  files : List EN
structure Mf where
  name : List Nat
  ctr : Nat
  fa : Option Addr
  fc : Nat
  files : List En
def Mf.v (m : Mf) : MV := ⟨m.name, m.ctr, m.files.map En.v⟩
def mcell (m : Mf) : List Value := [.string (str m.name), .int .u64 (m.ctr : Int), .slice m.fa m.files.length m.fc]
def MfP (m : Mf) (w : World) : Prop := NsP m.fa m.fc m.files w ∧ Oct8 m.name ∧ m.ctr < 18446744073709551616
theorem Off.of_m {m : Mf} {w : World} (h : MfP m w) : Off [] (MfP m) w := fun w' h2 h3 => ⟨Off.of_n h.1 w' h2 h3, h.2⟩
/-- Is each part such? Is none too great? Do the paths rise? -/
def enOk (e : EN) : Bool := decide (0 ≤ e.sz) && decide (e.dig.length = 32) && textOk e.path
def formedOk (v : MV) : Bool := v.files.all enOk && (!decide (v.name = []) && textOk v.name)
def greatOk (v : MV) : Bool := v.files.any (fun e => decide (600 < e.sz)) || decide (12 < v.files.length)
def riseAt (l : List EN) (i : Nat) : Bool := Op.bytesLess (str (l.getD (i - 1) default).path).toList (str (l.getD i default).path).toList
def risingOk (l : List EN) : Bool := decide (∀ i, i < l.length → 1 ≤ i → riseAt l i = true)
def mfOk (v : MV) : Bool := formedOk v && !greatOk v && risingOk v.files
theorem risingOk_iff {l : List EN} : risingOk l = true ↔ ∀ i, 1 ≤ i → i < l.length → riseAt l i = true := by
  unfold risingOk
  rw [decide_eq_true_iff]
  exact ⟨fun h i h1 h2 => h i h2 h1, fun h i h1 h2 => h i h2 h1⟩
theorem risingOk_no {l : List EN} {i : Nat} (h1 : 1 ≤ i) (hi : i < l.length) (h : riseAt l i = false) : risingOk l = false := by
  rw [Bool.eq_false_iff]; intro hh
  rw [risingOk_iff.1 hh i h1 hi] at h; cases h
theorem all_no {l : List EN} {f : EN → Bool} {e : EN} (h : e ∈ l) (hf : f e = false) : l.all f = false := by
  rw [Bool.eq_false_iff]; intro hh
  rw [List.all_eq_true.1 hh e h] at hf; cases hf
theorem all_yes {l : List EN} {f : EN → Bool} (h : ∀ j, j < l.length → f (l.getD j default) = true) : l.all f = true := by
  rw [List.all_eq_true]
  intro x hx
  obtain ⟨j, hj, rfl⟩ := List.getElem_of_mem hx
  have h2 := h j hj
  rwa [show l.getD j default = l[j] by simp only [List.getD, List.getElem?_eq_getElem hj, Option.getD_some]] at h2
theorem any_no {l : List EN} {f : EN → Bool} (h : ∀ j, j < l.length → f (l.getD j default) = false) : l.any f = false := by
  rw [List.any_eq_false]
  intro x hx
  obtain ⟨j, hj, rfl⟩ := List.getElem_of_mem hx
  have h2 := h j hj
  rw [show l.getD j default = l[j] by simp only [List.getD, List.getElem?_eq_getElem hj, Option.getD_some]] at h2
  rw [h2]; simp
theorem str_nil {l : List Nat} : (str l).toList.isEmpty = decide (l = []) := by
  rw [show (str l).toList = l.map UInt8.ofNat by rw [Lib.toList_data]; simp [str]]
  cases l <;> simp
end Go.Proofs.YtdjklhglkmacbaaDoor
namespace Go.Proofs.YtdjklhglkmacbaaDoor
open Go.RowKit
set_option linter.unusedVariables false
set_option linter.unusedSimpArgs false
attribute [local go_sem ↓] Go.wp_at_zero Go.wp_at_succ

set_option maxRecDepth 100000 in
set_option maxHeartbeats 8000000 in
theorem formed'_any (w : World) (m : Mf) (h : MfP m w) :
    Calls Tryd.prog 25 #[.agg (mcell m).toArray] w fun e w' => e = .returned (.bool (formedOk m.v)) ∧ Below w.heap.size w w' := by
  obtain ⟨r, HR⟩ : ∃ r, Hid (r = formedOk m.v) := ⟨_, rfl⟩
  rw [← HR.out]
  have hq0 : Below w.heap.size w (w.alloc (.cells (mcell m).toArray 25)) := (Below.refl _ _).alloc (Nat.le_refl _) _
  have hH0 := Holds.fresh w 25 (mcell m).toArray
  have hoc := (Off.of_n h.1).under hq0
  have hon := h.2.1
  obtain ⟨name, ctr, fa, fc, files⟩ := m
  simp only [mcell, Mf.v] at hq0 hH0 hoc hon HR ⊢
  obtain ⟨fn, hfn⟩ : ∃ k, files.length = k := ⟨_, rfl⟩
  obtain ⟨u, hu⟩ : ∃ k, k = (ctr : Int) := ⟨_, rfl⟩
  rw [hfn, ← hu] at hq0 hH0 hoc ⊢
  have HTX : Hid (∀ W, Calls Tryd.prog 49 #[.string (str name)] W fun e w' => e = .returned (.bool (textOk name)) ∧ Below W.heap.size W w') := Lib.hid fun W => isText'_any W name hon
  have HNE : Hid ((str name).toList.isEmpty = decide (name = [])) := Lib.hid str_nil
  obtain ⟨s, hs⟩ : ∃ k, k = str name := ⟨_, rfl⟩
  rw [← hs] at hq0 hH0 hoc HTX HNE ⊢
  obtain ⟨w1, hw1⟩ : ∃ W, W = w.alloc (.cells #[.string s, .int .u64 u, .slice fa fn fc] 25) := ⟨_, rfl⟩
  rw [← hw1] at hq0 hH0 hoc
  have HX := Lib.hid hoc
  have HB0 := Lib.hid hq0
  have HH0 := Lib.hid hH0
  have HFN := Lib.hid hfn
  have HW1 := Lib.hid hw1
  have HS := Lib.hid hs
  have hfc := HX.out.at_.1.1
  have hfc63 := HX.out.at_.1.2.1
  rw [hfn] at hfc
  clear h hq0 hH0 hoc hw1 hfn hu hs
  go_enter Tryd.func25, Tryd.ntmps25
  go_wp2_with fail
  rw [← HW1.out]
  go_loopw [3] (fun iv wr => ∃ i : Nat, i ≤ fn ∧ iv = .int .i64 (i : Int) ∧ Hid (∀ j, j < i → enOk ((files.map En.v).getD j default) = true) ∧ Below w1.heap.size w1 wr) (fun iv _ => fn - (intOf iv).toNat)
  case atStart => exact ⟨0, by omega, rfl, fun j hj => by omega, Below.refl _ _⟩
  case round =>
    obtain ⟨i, hi, rfl, HA, hB⟩ := hrel
    have hH := HH0.out.under hB HH0.out.lt
    have k0 := hH.cell 0
    have k2 := hH.cell 2
    by_cases hlt : i < fn
    · clear hH
      have hx := (HX.out.under hB).at_
      obtain ⟨g, off, rfl, hg, hcs⟩ := hx.1.2.2 (by rw [HFN.out]; omega)
      obtain ⟨c0, c1, c2⟩ := hcs i (by rw [HFN.out]; exact hlt)
      have hxe := hx.at_ (by rw [HFN.out]; exact hlt)
      have HV : Hid ((files.map En.v).getD i default = (files.getD i default).v) := Lib.hid (en_at (by rw [HFN.out]; exact hlt))
      have HMM : Hid ((files.getD i default).v ∈ files.map En.v) := Lib.hid (List.mem_map_of_mem (getD_mem (by rw [HFN.out]; exact hlt)))
      obtain ⟨e, he⟩ : ∃ e, e = files.getD i default := ⟨_, rfl⟩
      rw [← he] at c0 c1 c2 hxe HV HMM
      clear he
      obtain ⟨pa, sz, da, dc, dig⟩ := e
      obtain ⟨hr1, ho1, hop⟩ := hxe
      dsimp only at c0 c1 c2 hr1 ho1 hop
      obtain ⟨n1, hn1⟩ : ∃ n1, dig.length = n1 := ⟨_, rfl⟩
      rw [hn1] at c2
      have HB2 := Lib.hid hB
      have hH1 := Holds.fresh wr 42 #[.string (str pa), .int .i64 sz, .slice da n1 dc]
      have hq1 : Below wr.heap.size wr (wr.alloc (.cells #[.string (str pa), .int .i64 sz, .slice da n1 dc] 42)) := (Below.refl _ _).alloc (Nat.le_refl _) _
      have HB3 := Lib.hid (hB.trans (hq1.mono hB.size))
      have HBB := Lib.hid (HB0.out.trans (HB3.out.mono HB0.out.size))
      have z0 := hH1.cell 0
      have z1 := hH1.cell 1
      have z2 := hH1.cell 2
      have HTP := Lib.hid (isText'_any (wr.alloc (.cells #[.string (str pa), .int .i64 sz, .slice da n1 dc] 42)) pa hop)
      have HEO : Hid (enOk ⟨pa, sz, dig⟩ = (decide (0 ≤ sz) && decide (n1 = 32) && textOk pa)) := Lib.hid (by unfold enOk; rw [hn1])
      have HFL : Hid (enOk ⟨pa, sz, dig⟩ = false → r = false) := Lib.hid fun hf => by
        rw [HR.out]; unfold formedOk
        rw [all_no HMM.out hf]; rfl
      clear hx hcs hr1 ho1 hop hn1 hq1 hH1 hB
      generalize str pa = ps at *
      by_cases hsz : sz < 0
      · have HE : Hid (r = false) := Lib.hid (HFL.out (by rw [HEO.out, decide_eq_false (show ¬ 0 ≤ sz by omega)]; rfl))
        have d : decide (sz < (0 : Int)) = true := decide_eq_true hsz
        go_wp2_with fail
        go_ret
        exact ⟨by rw [HE.out]; rfl, HBB.out⟩
      have dsz : decide (sz < (0 : Int)) = false := decide_eq_false hsz
      by_cases h32 : n1 = 32
      case neg =>
        have HE : Hid (r = false) := Lib.hid (HFL.out (by rw [HEO.out, decide_eq_false h32]; simp))
        have d : ((n1 : Int) != 32) = true := by simp; omega
        go_wp2_with fail
        go_ret
        exact ⟨by rw [HE.out]; rfl, HBB.out⟩
      have d32 : ((n1 : Int) != 32) = false := by simp; omega
      have HONE0 : Hid (enOk ⟨pa, sz, dig⟩ = textOk pa) := Lib.hid (by rw [HEO.out, decide_eq_true (show 0 ≤ sz by omega), decide_eq_true h32]; rfl)
      clear h32
      go_wp2_with fail
      refine HTP.out.mono ?_
      rintro ex w3 ⟨rfl, hb3⟩
      have HB4 := Lib.hid (HB3.out.trans (hb3.mono HB3.out.size))
      have HBC := Lib.hid (HBB.out.trans (hb3.mono HBB.out.size))
      clear hb3
      rcases htx : textOk pa with _ | _
      · have HE : Hid (r = false) := Lib.hid (HFL.out (by rw [HONE0.out, htx]))
        clear htx
        go_wp2_with fail
        go_ret
        exact ⟨by rw [HE.out]; rfl, HBC.out⟩
      · have HONE : Hid (enOk ⟨pa, sz, dig⟩ = true) := Lib.hid (by rw [HONE0.out, htx])
        clear htx
        have HC : Hid (∀ j, j < i + 1 → enOk ((files.map En.v).getD j default) = true) := Lib.hid fun j hj => by
          rcases Nat.lt_or_ge j i with h3 | h3
          · exact HA.out j h3
          · obtain rfl : j = i := by omega
            rw [HV.out]; exact HONE.out
        go_wp2_with fail
        go_roundw
        case rel => exact ⟨i + 1, by omega, by go_num, HC, HB4.out⟩
        case measure => simp [intOf]; omega
    · obtain rfl : i = fn := by omega
      have HRW : Hid (r = (!decide (name = []) && textOk name)) := Lib.hid (by
        rw [HR.out]; unfold formedOk
        rw [all_yes (fun j hj => HA.out j (by rw [List.length_map, HFN.out] at hj; exact hj)), Bool.true_and])
      have HBB := Lib.hid (HB0.out.trans (hB.mono HB0.out.size))
      clear hB hH
      rcases hne : decide (name = []) with _ | _
      · have hne2 : s.toList.isEmpty = false := by rw [HNE.out, hne]
        have HE : Hid (r = textOk name) := Lib.hid (by rw [HRW.out, hne]; rfl)
        clear hne
        go_wp2_with fail
        refine (HTX.out wr).mono ?_
        rintro e w2 ⟨rfl, hb2⟩
        have HB2 := Lib.hid (HBB.out.trans (hb2.mono HBB.out.size))
        rw [← HE.out]
        clear hb2
        go_wp2_with fail
        go_ret
        exact ⟨rfl, HB2.out⟩
      · have hne2 : s.toList.isEmpty = true := by rw [HNE.out, hne]
        have HE : Hid (r = false) := Lib.hid (by rw [HRW.out, hne]; rfl)
        clear hne
        go_wp2_with fail
        go_ret
        exact ⟨by rw [HE.out]; rfl, HBB.out⟩
set_option maxRecDepth 100000 in
set_option maxHeartbeats 8000000 in
theorem great'_any (w : World) (m : Mf) (h : MfP m w) :
    Calls Tryd.prog 26 #[.agg (mcell m).toArray] w fun e w' => e = .returned (.bool (greatOk m.v)) ∧ Below w.heap.size w w' := by
  obtain ⟨r, HR⟩ : ∃ r, Hid (r = greatOk m.v) := ⟨_, rfl⟩
  rw [← HR.out]
  have hq0 : Below w.heap.size w (w.alloc (.cells (mcell m).toArray 25)) := (Below.refl _ _).alloc (Nat.le_refl _) _
  have hH0 := Holds.fresh w 25 (mcell m).toArray
  have hoc := (Off.of_n h.1).under hq0
  have hon := h.2.1
  obtain ⟨name, ctr, fa, fc, files⟩ := m
  simp only [mcell, Mf.v] at hq0 hH0 hoc hon HR ⊢
  obtain ⟨fn, hfn⟩ : ∃ k, files.length = k := ⟨_, rfl⟩
  obtain ⟨u, hu⟩ : ∃ k, k = (ctr : Int) := ⟨_, rfl⟩
  rw [hfn, ← hu] at hq0 hH0 hoc ⊢
  obtain ⟨s, hs⟩ : ∃ k, k = str name := ⟨_, rfl⟩
  rw [← hs] at hq0 hH0 hoc ⊢
  obtain ⟨w1, hw1⟩ : ∃ W, W = w.alloc (.cells #[.string s, .int .u64 u, .slice fa fn fc] 25) := ⟨_, rfl⟩
  rw [← hw1] at hq0 hH0 hoc
  have HX := Lib.hid hoc
  have HB0 := Lib.hid hq0
  have HH0 := Lib.hid hH0
  have HFN := Lib.hid hfn
  have HW1 := Lib.hid hw1
  have HS := Lib.hid hs
  have hfc := HX.out.at_.1.1
  have hfc63 := HX.out.at_.1.2.1
  rw [hfn] at hfc
  clear h hq0 hH0 hoc hw1 hfn hu hs
  go_enter Tryd.func26, Tryd.ntmps26
  go_wp2_with fail
  rw [← HW1.out]
  go_loopw [3] (fun iv wr => ∃ i : Nat, i ≤ fn ∧ iv = .int .i64 (i : Int) ∧ Hid (∀ j, j < i → decide (600 < ((files.map En.v).getD j default).sz) = false) ∧ Below w1.heap.size w1 wr) (fun iv _ => fn - (intOf iv).toNat)
  case atStart => exact ⟨0, by omega, rfl, fun j hj => by omega, Below.refl _ _⟩
  case round =>
    obtain ⟨i, hi, rfl, HA, hB⟩ := hrel
    have hH := HH0.out.under hB HH0.out.lt
    have k2 := hH.cell 2
    have HBB := Lib.hid (HB0.out.trans (hB.mono HB0.out.size))
    by_cases hlt : i < fn
    · clear hH
      have hx := (HX.out.under hB).at_
      obtain ⟨g, off, rfl, hg, hcs⟩ := hx.1.2.2 (by rw [HFN.out]; omega)
      obtain ⟨c0, c1, c2⟩ := hcs i (by rw [HFN.out]; exact hlt)
      have hxe := hx.at_ (by rw [HFN.out]; exact hlt)
      have HV : Hid ((files.map En.v).getD i default = (files.getD i default).v) := Lib.hid (en_at (by rw [HFN.out]; exact hlt))
      have HMM : Hid ((files.getD i default).v ∈ files.map En.v) := Lib.hid (List.mem_map_of_mem (getD_mem (by rw [HFN.out]; exact hlt)))
      obtain ⟨e, he⟩ : ∃ e, e = files.getD i default := ⟨_, rfl⟩
      rw [← he] at c0 c1 c2 hxe HV HMM
      clear he
      obtain ⟨pa, sz, da, dc, dig⟩ := e
      obtain ⟨hr1, ho1, hop⟩ := hxe
      dsimp only at c0 c1 c2 hr1 ho1 hop
      obtain ⟨n1, hn1⟩ : ∃ n1, dig.length = n1 := ⟨_, rfl⟩
      rw [hn1] at c2
      have HB2 := Lib.hid hB
      clear hx hcs hr1 ho1 hop hn1 hB
      by_cases hsz : 600 < sz
      · have HE : Hid (r = true) := Lib.hid (by
          rw [HR.out]; unfold greatOk
          rw [List.any_eq_true.2 ⟨_, HMM.out, decide_eq_true hsz⟩]; rfl)
        have d : decide ((600 : Int) < sz) = true := decide_eq_true hsz
        go_wp2_with fail
        go_ret
        exact ⟨by rw [HE.out]; rfl, HBB.out⟩
      · have d : decide ((600 : Int) < sz) = false := decide_eq_false hsz
        have HONE : Hid (decide (600 < sz) = false) := Lib.hid d
        have HC : Hid (∀ j, j < i + 1 → decide (600 < ((files.map En.v).getD j default).sz) = false) := Lib.hid fun j hj => by
          rcases Nat.lt_or_ge j i with h3 | h3
          · exact HA.out j h3
          · obtain rfl : j = i := by omega
            rw [HV.out]; exact HONE.out
        go_wp2_with fail
        go_roundw
        case rel => exact ⟨i + 1, by omega, by go_num, HC, HB2.out⟩
        case measure => simp [intOf]; omega
    · obtain rfl : i = fn := by omega
      have HRW : Hid (r = decide (12 < i)) := Lib.hid (by
        rw [HR.out]; unfold greatOk
        rw [any_no (fun j hj => HA.out j (by rw [List.length_map, HFN.out] at hj; exact hj)), Bool.false_or, List.length_map, HFN.out])
      clear hB hH
      by_cases h12 : 12 < i
      · have d : decide ((12 : Int) < (i : Int)) = true := decide_eq_true (by omega)
        go_wp2_with fail
        go_ret
        exact ⟨by rw [HRW.out, decide_eq_true h12]; rfl, HBB.out⟩
      · have d : decide ((12 : Int) < (i : Int)) = false := decide_eq_false (by omega)
        go_wp2_with fail
        go_ret
        exact ⟨by rw [HRW.out, decide_eq_false h12]; rfl, HBB.out⟩
set_option maxRecDepth 100000 in
set_option maxHeartbeats 8000000 in
theorem rising'_any (w : World) (m : Mf) (h : MfP m w) :
    Calls Tryd.prog 27 #[.agg (mcell m).toArray] w fun e w' => e = .returned (.bool (risingOk m.v.files)) ∧ Below w.heap.size w w' := by
  obtain ⟨r, HR⟩ : ∃ r, Hid (r = risingOk m.v.files) := ⟨_, rfl⟩
  rw [← HR.out]
  have hq0 : Below w.heap.size w (w.alloc (.cells (mcell m).toArray 25)) := (Below.refl _ _).alloc (Nat.le_refl _) _
  have hH0 := Holds.fresh w 25 (mcell m).toArray
  have hoc := (Off.of_n h.1).under hq0
  have hon := h.2.1
  obtain ⟨name, ctr, fa, fc, files⟩ := m
  simp only [mcell, Mf.v] at hq0 hH0 hoc hon HR ⊢
  obtain ⟨fn, hfn⟩ : ∃ k, files.length = k := ⟨_, rfl⟩
  obtain ⟨u, hu⟩ : ∃ k, k = (ctr : Int) := ⟨_, rfl⟩
  rw [hfn, ← hu] at hq0 hH0 hoc ⊢
  obtain ⟨s, hs⟩ : ∃ k, k = str name := ⟨_, rfl⟩
  rw [← hs] at hq0 hH0 hoc ⊢
  obtain ⟨w1, hw1⟩ : ∃ W, W = w.alloc (.cells #[.string s, .int .u64 u, .slice fa fn fc] 25) := ⟨_, rfl⟩
  rw [← hw1] at hq0 hH0 hoc
  have HX := Lib.hid hoc
  have HB0 := Lib.hid hq0
  have HH0 := Lib.hid hH0
  have HFN := Lib.hid hfn
  have HW1 := Lib.hid hw1
  have HS := Lib.hid hs
  have hfc := HX.out.at_.1.1
  have hfc63 := HX.out.at_.1.2.1
  rw [hfn] at hfc
  clear h hq0 hH0 hoc hw1 hfn hu hs
  go_enter Tryd.func27, Tryd.ntmps27
  go_wp2_with fail
  rw [← HW1.out]
  go_loopw [3] (fun iv wr => ∃ i : Nat, 1 ≤ i ∧ i ≤ fn + 1 ∧ iv = .int .i64 (i : Int) ∧ Hid (∀ j, 1 ≤ j → j < i → j < fn → riseAt (files.map En.v) j = true) ∧ Below w1.heap.size w1 wr) (fun iv _ => fn + 1 - (intOf iv).toNat)
  case atStart => exact ⟨1, by omega, by omega, rfl, fun j h1 hj => by omega, Below.refl _ _⟩
  case round =>
    obtain ⟨i, hi1, hi, rfl, HA, hB⟩ := hrel
    have hH := HH0.out.under hB HH0.out.lt
    have k2 := hH.cell 2
    have HBB := Lib.hid (HB0.out.trans (hB.mono HB0.out.size))
    by_cases hlt : i < fn
    · clear hH
      have hx := (HX.out.under hB).at_
      obtain ⟨g, off, rfl, hg, hcs⟩ := hx.1.2.2 (by rw [HFN.out]; omega)
      have c0 := (hcs i (by rw [HFN.out]; exact hlt)).1
      have p0 := (hcs (i - 1) (by rw [HFN.out]; omega)).1
      have HRI : Hid (riseAt (files.map En.v) i = Op.bytesLess (str (files.getD (i - 1) default).path).toList (str (files.getD i default).path).toList) := Lib.hid (by
        unfold riseAt
        rw [en_at (by rw [HFN.out]; omega), en_at (by rw [HFN.out]; exact hlt)]; rfl)
      have HB2 := Lib.hid hB
      clear hx hcs hB
      generalize str (files.getD (i - 1) default).path = s1 at *
      generalize str (files.getD i default).path = s2 at *
      rcases hrs : Op.bytesLess s1.toList s2.toList with _ | _
      · have HE : Hid (r = false) := Lib.hid (by rw [HR.out]; exact risingOk_no hi1 (by rw [List.length_map, HFN.out]; exact hlt) (by rw [HRI.out, hrs]))
        go_wp2_with fail
        go_quiet (fail)
        go_wp2_with fail
        go_ret
        exact ⟨by rw [HE.out]; rfl, below_drewN HBB.out _⟩
      · have HC : Hid (∀ j, 1 ≤ j → j < i + 1 → j < fn → riseAt (files.map En.v) j = true) := Lib.hid fun j h1 h2 h3 => by
          rcases Nat.lt_or_ge j i with h4 | h4
          · exact HA.out j h1 h4 h3
          · obtain rfl : j = i := by omega
            rw [HRI.out, hrs]
        go_wp2_with fail
        go_quiet (fail)
        go_wp2_with fail
        go_roundw
        case rel => exact ⟨i + 1, by omega, by omega, by go_num, HC, below_drewN HB2.out _⟩
        case measure => simp [intOf]; omega
    · have HE : Hid (r = true) := Lib.hid (by
        rw [HR.out]
        refine risingOk_iff.2 fun j h1 hj => ?_
        rw [List.length_map, HFN.out] at hj
        exact HA.out j h1 (by omega) hj)
      have d : decide ((i : Int) < (fn : Int)) = false := decide_eq_false (by omega)
      clear hB hH
      go_wp2_with fail
      go_ret
      exact ⟨by rw [HE.out]; rfl, HBB.out⟩
set_option maxRecDepth 100000 in
set_option maxHeartbeats 4000000 in
theorem mfIs'_any (w : World) (m : Mf) (h : MfP m w) :
    Calls Tryd.prog 8 #[.agg (mcell m).toArray] w fun e w' => e = .returned (.bool (mfOk m.v)) ∧ Below w.heap.size w w' := by
  obtain ⟨r, HR⟩ : ∃ r, Hid (r = mfOk m.v) := ⟨_, rfl⟩
  rw [← HR.out]
  have HRM : Hid (r = (formedOk m.v && !greatOk m.v && risingOk m.v.files)) := Lib.hid HR.out
  have hq0 : Below w.heap.size w (w.alloc (.cells (mcell m).toArray 25)) := (Below.refl _ _).alloc (Nat.le_refl _) _
  have hH0 := Holds.fresh w 25 (mcell m).toArray
  have HF := Lib.hid (fun W (hW : Below w.heap.size w W) => formed'_any W m ((Off.of_m h).under hW).at_)
  have HG := Lib.hid (fun W (hW : Below w.heap.size w W) => great'_any W m ((Off.of_m h).under hW).at_)
  have HI := Lib.hid (fun W (hW : Below w.heap.size w W) => rising'_any W m ((Off.of_m h).under hW).at_)
  generalize formedOk m.v = b1 at *
  generalize greatOk m.v = b2 at *
  generalize risingOk m.v.files = b3 at *
  obtain ⟨name, ctr, fa, fc, files⟩ := m
  simp only [mcell] at hq0 hH0 HF HG HI ⊢
  generalize files.length = fn at *
  generalize str name = s at *
  have HB0 := Lib.hid hq0
  have HH0 := Lib.hid hH0
  have c0 := hH0.cell 0
  have c1 := hH0.cell 1
  have c2 := hH0.cell 2
  have HF1 := Lib.hid (HF.out _ hq0)
  clear h hq0 hH0 HR
  go_enter Tryd.func8, Tryd.ntmps8
  go_wp2_with fail
  refine HF1.out.mono ?_
  rintro e w2 ⟨rfl, hb2⟩
  have HB2 := Lib.hid (HB0.out.trans (hb2.mono HB0.out.size))
  have HH2 := Lib.hid (HH0.out.under hb2 HH0.out.lt)
  clear hb2 c0 c1 c2
  cases b1 with
  | false =>
    go_wp2_with fail
    go_ret
    exact ⟨by rw [HRM.out]; rfl, HB2.out⟩
  | true =>
  have c0 := HH2.out.cell 0
  have c1 := HH2.out.cell 1
  have c2 := HH2.out.cell 2
  have HG2 := Lib.hid (HG.out _ HB2.out)
  go_wp2_with fail
  refine HG2.out.mono ?_
  rintro e w3 ⟨rfl, hb3⟩
  have HB3 := Lib.hid (HB2.out.trans (hb3.mono HB2.out.size))
  have HH3 := Lib.hid (HH2.out.under hb3 HH2.out.lt)
  clear hb3 c0 c1 c2
  cases b2 with
  | true =>
    go_wp2_with fail
    go_ret
    exact ⟨by rw [HRM.out]; rfl, HB3.out⟩
  | false =>
  have c0 := HH3.out.cell 0
  have c1 := HH3.out.cell 1
  have c2 := HH3.out.cell 2
  have HI3 := Lib.hid (HI.out _ HB3.out)
  go_wp2_with fail
  refine HI3.out.mono ?_
  rintro e w4 ⟨rfl, hb4⟩
  have HB4 := Lib.hid (HB3.out.trans (hb4.mono HB3.out.size))
  have HE : Hid (r = b3) := Lib.hid (by rw [HRM.out]; simp)
  clear hb4 c0 c1 c2
  go_wp2_with fail
  go_ret
  exact ⟨by rw [HE.out]; rfl, HB4.out⟩
end Go.Proofs.YtdjklhglkmacbaaDoor
namespace Go.Proofs.YtdjklhglkmacbaaDoor
open Go.RowKit
set_option linter.unusedVariables false
set_option linter.unusedSimpArgs false
attribute [local go_sem ↓] Go.wp_at_zero Go.wp_at_succ

set_option maxRecDepth 100000 in
set_option maxHeartbeats 2000000 in
theorem textL_any (w : World) (l : List Nat) (ho : Oct8 l) (hl : l.length ≤ 9223372036854775807) (hT : Lib.Utf8Tabs 0 1 w) :
    Calls Tryd.prog 28 #[.string (str l)] w fun e w' => e = .returned (.bool (textOk l)) ∧ Below w.heap.size w w' := by
  have HTX := Lib.hid (text_any w [] l ho hl (by simp))
  have HT := Lib.hid hT
  have HO := Lib.hid ho
  obtain ⟨s, hs⟩ : ∃ s, s = str l := ⟨_, rfl⟩
  rw [← hs] at HTX ⊢
  clear hT ho hl hs
  go_enter Tryd.func28, Tryd.ntmps28
  go_wp2_with fail
  refine HTX.out.mono ?_
  intro e w2 hm
  obtain ⟨A2, c2, K2, kc2, rfl, hrr, hb2⟩ := MadeT.prim hm
  have HG := getText_any w2 12 l.length c2 0 kc2 _ A2 K2 l hrr rfl (Nat.le_refl _) HO.out (Utf8Tabs_below HT.out hb2)
  rw [show txOf 12 0 l = if textOk l = true then some l else none by unfold txOf; rw [show heldOk 12 0 12 = true by decide]; simp] at HG
  have HG := Lib.hid HG
  have HB2 := Lib.hid hb2
  obtain ⟨n, hn⟩ : ∃ n, n = l.length := ⟨_, rfl⟩
  rw [← hn] at HG ⊢
  clear hm hrr hb2 hn HTX
  go_wp2_with fail
  refine HG.out.mono ?_
  intro e w3 hp
  obtain ⟨rfl, hb3⟩ := GetTx.one hp
  have HB3 := Lib.hid (HB2.out.trans (hb3.mono HB2.out.size))
  have HE : Hid ((if textOk l = true then some l else none).isSome = textOk l) := Lib.hid (by split <;> simp_all)
  rw [HE.out]
  generalize str ((if textOk l = true then some l else none).getD []) = s2 at *
  clear hp hb3 HE
  go_wp2_with fail
  go_ret
  exact ⟨rfl, HB3.out⟩
set_option maxRecDepth 100000 in
set_option maxHeartbeats 4000000 in
theorem rise_any (w : World) (A : Option Addr) (c n : Nat) (files : List En) (h : NsP A c files w) (hn : files.length = n) :
    Calls Tryd.prog 29 #[.slice A n c] w fun e w' => e = .returned (.bool (risingOk (files.map En.v))) ∧ Below w.heap.size w w' := by
  obtain ⟨r, HR⟩ : ∃ r, Hid (r = risingOk (files.map En.v)) := ⟨_, rfl⟩
  rw [← HR.out]
  have HX := Lib.hid (Off.of_n h)
  have HFN := Lib.hid hn
  have hfc := h.1.1
  have hfc63 := h.1.2.1
  rw [hn] at hfc
  clear h hn
  go_enter Tryd.func29, Tryd.ntmps29
  go_wp2_with fail
  go_loopw [3] (fun iv wr => ∃ i : Nat, 1 ≤ i ∧ i ≤ n + 1 ∧ iv = .int .i64 (i : Int) ∧ Hid (∀ j, 1 ≤ j → j < i → j < n → riseAt (files.map En.v) j = true) ∧ Below w.heap.size w wr) (fun iv _ => n + 1 - (intOf iv).toNat)
  case atStart => exact ⟨1, by omega, by omega, rfl, fun j h1 hj => by omega, Below.refl _ _⟩
  case round =>
    obtain ⟨i, hi1, hi, rfl, HA, hB⟩ := hrel
    have HBB := Lib.hid hB
    by_cases hlt : i < n
    · have hx := (HX.out.under hB).at_
      obtain ⟨g, off, rfl, hg, hcs⟩ := hx.1.2.2 (by rw [HFN.out]; omega)
      have c0 := (hcs i (by rw [HFN.out]; exact hlt)).1
      have p0 := (hcs (i - 1) (by rw [HFN.out]; omega)).1
      have HRI : Hid (riseAt (files.map En.v) i = Op.bytesLess (str (files.getD (i - 1) default).path).toList (str (files.getD i default).path).toList) := Lib.hid (by
        unfold riseAt
        rw [en_at (by rw [HFN.out]; omega), en_at (by rw [HFN.out]; exact hlt)]; rfl)
      clear hx hcs hB
      generalize str (files.getD (i - 1) default).path = s1 at *
      generalize str (files.getD i default).path = s2 at *
      rcases hrs : Op.bytesLess s1.toList s2.toList with _ | _
      · have HE : Hid (r = false) := Lib.hid (by rw [HR.out]; exact risingOk_no hi1 (by rw [List.length_map, HFN.out]; exact hlt) (by rw [HRI.out, hrs]))
        go_wp2_with fail
        go_quiet (fail)
        go_wp2_with fail
        go_ret
        exact ⟨by rw [HE.out]; rfl, below_drewN HBB.out _⟩
      · have HC : Hid (∀ j, 1 ≤ j → j < i + 1 → j < n → riseAt (files.map En.v) j = true) := Lib.hid fun j h1 h2 h3 => by
          rcases Nat.lt_or_ge j i with h4 | h4
          · exact HA.out j h1 h4 h3
          · obtain rfl : j = i := by omega
            rw [HRI.out, hrs]
        go_wp2_with fail
        go_quiet (fail)
        go_wp2_with fail
        go_roundw
        case rel => exact ⟨i + 1, by omega, by omega, by go_num, HC, below_drewN HBB.out _⟩
        case measure => simp [intOf]; omega
    · have HE : Hid (r = true) := Lib.hid (by
        rw [HR.out]
        refine risingOk_iff.2 fun j h1 hj => ?_
        rw [List.length_map, HFN.out] at hj
        exact HA.out j h1 (by omega) hj)
      have d : decide ((i : Int) < (n : Int)) = false := decide_eq_false (by omega)
      clear hB
      go_wp2_with fail
      go_ret
      exact ⟨by rw [HE.out]; rfl, HBB.out⟩
theorem mf_name {v : MV} (h : v.name = [] ∨ textOk v.name = false) : mfOk v = false := by
  have : formedOk v = false := by
    unfold formedOk
    rcases h with h | h <;> simp [h]
  unfold mfOk; rw [this]; rfl
theorem mf_many {v : MV} (h : 12 < v.files.length) : mfOk v = false := by
  have : greatOk v = true := by unfold greatOk; rw [decide_eq_true h, Bool.or_true]
  unfold mfOk; rw [this]; simp
theorem mf_one {v : MV} {e : EN} (he : e ∈ v.files) (h : enOk e = false ∨ 600 < e.sz) : mfOk v = false := by
  rcases h with h | h
  · have : formedOk v = false := by unfold formedOk; rw [all_no he h]; rfl
    unfold mfOk; rw [this]; rfl
  · have : greatOk v = true := by unfold greatOk; rw [List.any_eq_true.2 ⟨e, he, decide_eq_true h⟩]; rfl
    unfold mfOk; rw [this]; simp
theorem mf_rest {v : MV} (h1 : v.name ≠ []) (h2 : textOk v.name = true) (h3 : v.files.length ≤ 12) (h4 : ∀ j, j < v.files.length → (enOk (v.files.getD j default) && !decide (600 < (v.files.getD j default).sz)) = true) : mfOk v = risingOk v.files := by
  have e1 : formedOk v = true := by
    unfold formedOk
    rw [all_yes (fun j hj => by have := h4 j hj; rw [Bool.and_eq_true] at this; exact this.1), h2]
    simp [h1]
  have e2 : greatOk v = false := by
    unfold greatOk
    rw [any_no (fun j hj => by have := h4 j hj; rw [Bool.and_eq_true] at this; simpa using this.2), decide_eq_false (by omega)]; rfl
  unfold mfOk; rw [e1, e2]; rfl
set_option maxRecDepth 100000 in
set_option maxHeartbeats 16000000 in
theorem mfIs_any (w : World) (m : Mf) (h : MfP m w) (hT : Lib.Utf8Tabs 0 1 w) (hsz : m.name.length ≤ 9223372036854775807 ∧ ∀ e ∈ m.files, e.path.length ≤ 9223372036854775807) :
    Calls Tryd.prog 9 #[.agg (mcell m).toArray] w fun e w' => e = .returned (.bool (mfOk m.v)) ∧ Below w.heap.size w w' := by
  obtain ⟨r, HR⟩ : ∃ r, Hid (r = mfOk m.v) := ⟨_, rfl⟩
  rw [← HR.out]
  have HT0 := Lib.hid hT
  have hsz1 := hsz.1
  have HSZ := Lib.hid hsz.2
  clear hsz hT
  have hq0 : Below w.heap.size w (w.alloc (.cells (mcell m).toArray 25)) := (Below.refl _ _).alloc (Nat.le_refl _) _
  have hH0 := Holds.fresh w 25 (mcell m).toArray
  have hoc := (Off.of_n h.1).under hq0
  have hon := h.2.1
  obtain ⟨name, ctr, fa, fc, files⟩ := m
  simp only [mcell, Mf.v] at hq0 hH0 hoc hon HR ⊢
  obtain ⟨fn, hfn⟩ : ∃ k, files.length = k := ⟨_, rfl⟩
  obtain ⟨u, hu⟩ : ∃ k, k = (ctr : Int) := ⟨_, rfl⟩
  rw [hfn, ← hu] at hq0 hH0 hoc ⊢
  have HTX : Hid (Calls Tryd.prog 28 #[.string (str name)] (w.alloc (.cells #[.string (str name), .int .u64 u, .slice fa fn fc] 25)) fun e w' => e = .returned (.bool (textOk name)) ∧ Below (w.alloc (.cells #[.string (str name), .int .u64 u, .slice fa fn fc] 25)).heap.size (w.alloc (.cells #[.string (str name), .int .u64 u, .slice fa fn fc] 25)) w') := Lib.hid (textL_any _ name hon hsz1 (Utf8Tabs_below HT0.out hq0))
  have HNE : Hid ((str name).toList.isEmpty = decide (name = [])) := Lib.hid str_nil
  have HRM : Hid (r = mfOk ⟨name, ctr, files.map En.v⟩) := Lib.hid HR.out
  obtain ⟨s, hs⟩ : ∃ k, k = str name := ⟨_, rfl⟩
  rw [← hs] at hq0 hH0 hoc HTX HNE ⊢
  obtain ⟨w1, hw1⟩ : ∃ W, W = w.alloc (.cells #[.string s, .int .u64 u, .slice fa fn fc] 25) := ⟨_, rfl⟩
  rw [← hw1] at hq0 hH0 hoc HTX
  have HX := Lib.hid hoc
  have HB0 := Lib.hid hq0
  have HH0 := Lib.hid hH0
  have HFN := Lib.hid hfn
  have HW1 := Lib.hid hw1
  have HS := Lib.hid hs
  have hfc := HX.out.at_.1.1
  have hfc63 := HX.out.at_.1.2.1
  rw [hfn] at hfc
  clear h hq0 hH0 hoc hw1 hfn hu hs
  have c0 := HH0.out.cell 0
  have c2 := HH0.out.cell 2
  rw [HW1.out] at c0 c2
  have k0 := HH0.out.cell 0
  have k2 := HH0.out.cell 2
  rcases hne : decide (name = []) with _ | _
  case true =>
    have hne2 : s.toList.isEmpty = true := by rw [HNE.out, hne]
    have HE : Hid (r = false) := Lib.hid (by rw [HRM.out]; exact mf_name (.inl (of_decide_eq_true hne)))
    have HBW := Lib.hid HB0.out
    clear hne
    go_enter Tryd.func9, Tryd.ntmps9
    go_wp2_with fail
    go_ret
    exact ⟨by rw [HE.out]; rfl, by rw [← HW1.out]; exact HBW.out⟩
  have hne2 : s.toList.isEmpty = false := by rw [HNE.out, hne]
  have HNN : Hid (name ≠ []) := Lib.hid (of_decide_eq_false hne)
  clear hne
  go_enter Tryd.func9, Tryd.ntmps9
  go_wp2_with fail
  rw [← HW1.out]
  refine HTX.out.mono ?_
  rintro e w2 ⟨rfl, hb2⟩
  have HB2 := Lib.hid (HB0.out.trans (hb2.mono HB0.out.size))
  have HX2 := Lib.hid (HX.out.under hb2)
  have hH2 := HH0.out.under hb2 HH0.out.lt
  have HH2 := Lib.hid hH2
  clear c0 c2 k0 k2
  have k0 := hH2.cell 0
  have k2 := hH2.cell 2
  have hHS := HS.out
  clear hb2 hH2 HW1 HTX
  rcases htx : textOk name with _ | _
  · have HE : Hid (r = false) := Lib.hid (by rw [HRM.out]; exact mf_name (.inr htx))
    clear htx hHS
    go_wp2_with fail
    go_ret
    exact ⟨by rw [HE.out]; rfl, HB2.out⟩
  have HTN := Lib.hid htx
  clear htx hHS
  by_cases h12 : 12 < fn
  · have HE : Hid (r = false) := Lib.hid (by rw [HRM.out]; exact mf_many (by simp only [List.length_map, HFN.out]; exact h12))
    have d : decide ((12 : Int) < (fn : Int)) = true := decide_eq_true (by omega)
    go_wp2_with fail
    go_ret
    exact ⟨by rw [HE.out]; rfl, HB2.out⟩
  have d12 : decide ((12 : Int) < (fn : Int)) = false := decide_eq_false (by omega)
  go_wp2_with fail
  clear k0 k2
  go_loopw [23] (fun iv wr => ∃ i : Nat, i ≤ fn ∧ iv = .int .i64 (i : Int) ∧ Hid (∀ j, j < i → (enOk ((files.map En.v).getD j default) && !decide (600 < ((files.map En.v).getD j default).sz)) = true) ∧ Below w2.heap.size w2 wr) (fun iv _ => fn - (intOf iv).toNat)
  case atStart => exact ⟨0, by omega, rfl, fun j hj => by omega, Below.refl _ _⟩
  case round =>
    obtain ⟨i, hi, rfl, HA, hB⟩ := hrel
    have hH := HH2.out.under hB HH2.out.lt
    have k2 := hH.cell 2
    clear d12
    by_cases hlt : i < fn
    · clear hH
      have hx := (HX2.out.under hB).at_
      obtain ⟨g, off, rfl, hg, hcs⟩ := hx.1.2.2 (by rw [HFN.out]; omega)
      obtain ⟨c0, c1, c2⟩ := hcs i (by rw [HFN.out]; exact hlt)
      have hxe := hx.at_ (by rw [HFN.out]; exact hlt)
      have HV : Hid ((files.map En.v).getD i default = (files.getD i default).v) := Lib.hid (en_at (by rw [HFN.out]; exact hlt))
      have HMM : Hid ((files.getD i default).v ∈ files.map En.v) := Lib.hid (List.mem_map_of_mem (getD_mem (by rw [HFN.out]; exact hlt)))
      have hsp := HSZ.out _ (getD_mem (l := files) (j := i) (by rw [HFN.out]; exact hlt))
      obtain ⟨e, he⟩ : ∃ e, e = files.getD i default := ⟨_, rfl⟩
      rw [← he] at hsp c0 c1 c2 hxe HV HMM
      clear he
      obtain ⟨pa, sz, da, dc, dig⟩ := e
      obtain ⟨hr1, ho1, hop⟩ := hxe
      dsimp only at c0 c1 c2 hr1 ho1 hop hsp
      obtain ⟨n1, hn1⟩ : ∃ n1, dig.length = n1 := ⟨_, rfl⟩
      rw [hn1] at c2
      have hH1 := Holds.fresh wr 42 #[.string (str pa), .int .i64 sz, .slice da n1 dc]
      have hq1 : Below wr.heap.size wr (wr.alloc (.cells #[.string (str pa), .int .i64 sz, .slice da n1 dc] 42)) := (Below.refl _ _).alloc (Nat.le_refl _) _
      have HB3 := Lib.hid (hB.trans (hq1.mono hB.size))
      have HBB := Lib.hid (HB2.out.trans (HB3.out.mono HB2.out.size))
      have z0 := hH1.cell 0
      have z1 := hH1.cell 1
      have z2 := hH1.cell 2
      have HTP := Lib.hid (textL_any (wr.alloc (.cells #[.string (str pa), .int .i64 sz, .slice da n1 dc] 42)) pa hop hsp (Utf8Tabs_below HT0.out HBB.out))
      have HEO : Hid (enOk ⟨pa, sz, dig⟩ = (decide (0 ≤ sz) && decide (n1 = 32) && textOk pa)) := Lib.hid (by unfold enOk; rw [hn1])
      have HFL : Hid (enOk ⟨pa, sz, dig⟩ = false ∨ 600 < sz → r = false) := Lib.hid fun hf => by
        rw [HRM.out]; exact mf_one HMM.out hf
      clear hx hcs hr1 ho1 hop hn1 hq1 hH1 hB hsp
      generalize str pa = ps at *
      by_cases hsz : sz < 0
      · have HE : Hid (r = false) := Lib.hid (HFL.out (.inl (by rw [HEO.out, decide_eq_false (show ¬ 0 ≤ sz by omega)]; rfl)))
        have d : decide (sz < (0 : Int)) = true := decide_eq_true hsz
        go_wp2_with fail
        go_ret
        exact ⟨by rw [HE.out]; rfl, HBB.out⟩
      have dsz : decide (sz < (0 : Int)) = false := decide_eq_false hsz
      by_cases h600 : 600 < sz
      · have HE : Hid (r = false) := Lib.hid (HFL.out (.inr h600))
        have d : decide ((600 : Int) < sz) = true := decide_eq_true h600
        go_wp2_with fail
        go_ret
        exact ⟨by rw [HE.out]; rfl, HBB.out⟩
      have d600 : decide ((600 : Int) < sz) = false := decide_eq_false h600
      by_cases h32 : n1 = 32
      case neg =>
        have HE : Hid (r = false) := Lib.hid (HFL.out (.inl (by rw [HEO.out, decide_eq_false h32]; simp)))
        have d : ((n1 : Int) != 32) = true := by simp; omega
        go_wp2_with fail
        go_ret
        exact ⟨by rw [HE.out]; rfl, HBB.out⟩
      have d32 : ((n1 : Int) != 32) = false := by simp; omega
      have HONE0 : Hid (enOk ⟨pa, sz, dig⟩ = textOk pa) := Lib.hid (by rw [HEO.out, decide_eq_true (show 0 ≤ sz by omega), decide_eq_true h32]; rfl)
      clear h32
      go_wp2_with fail
      refine HTP.out.mono ?_
      rintro ex w3 ⟨rfl, hb3⟩
      have HB4 := Lib.hid (HB3.out.trans (hb3.mono HB3.out.size))
      have HBC := Lib.hid (HBB.out.trans (hb3.mono HBB.out.size))
      clear hb3
      rcases htx : textOk pa with _ | _
      · have HE : Hid (r = false) := Lib.hid (HFL.out (.inl (by rw [HONE0.out, htx])))
        clear htx
        go_wp2_with fail
        go_ret
        exact ⟨by rw [HE.out]; rfl, HBC.out⟩
      · have HONE : Hid ((enOk ⟨pa, sz, dig⟩ && !decide (600 < sz)) = true) := Lib.hid (by rw [HONE0.out, htx, decide_eq_false (show ¬ 600 < sz by omega)]; rfl)
        clear htx
        have HC : Hid (∀ j, j < i + 1 → (enOk ((files.map En.v).getD j default) && !decide (600 < ((files.map En.v).getD j default).sz)) = true) := Lib.hid fun j hj => by
          rcases Nat.lt_or_ge j i with h3 | h3
          · exact HA.out j h3
          · obtain rfl : j = i := by omega
            rw [HV.out]; exact HONE.out
        go_wp2_with fail
        go_roundw
        case rel => exact ⟨i + 1, by omega, by go_num, HC, HB4.out⟩
        case measure => simp [intOf]; omega
    · obtain rfl : i = fn := by omega
      have HRW : Hid (r = risingOk (files.map En.v)) := Lib.hid (by
        rw [HRM.out]
        exact mf_rest HNN.out HTN.out (by simp only [List.length_map, HFN.out]; omega) (fun j hj => HA.out j (by simp only [List.length_map, HFN.out] at hj; exact hj)))
      have HBB := Lib.hid (HB2.out.trans (hB.mono HB2.out.size))
      have HRI := rise_any wr fa fc i files (HX2.out.under hB).at_ HFN.out
      rw [← HRW.out] at HRI
      have HRI := Lib.hid HRI
      clear hB hH
      go_wp2_with fail
      refine HRI.out.mono ?_
      rintro e w3 ⟨rfl, hb3⟩
      have HB3 := Lib.hid (HBB.out.trans (hb3.mono HBB.out.size))
      clear hb3
      go_wp2_with fail
      go_ret
      exact ⟨rfl, HB3.out⟩
end Go.Proofs.YtdjklhglkmacbaaDoor
namespace Go.Proofs.YtdjklhglkmacbaaDoor
open Go.RowKit
set_option linter.unusedVariables false
set_option linter.unusedSimpArgs false
attribute [local go_sem ↓] Go.wp_at_zero Go.wp_at_succ

theorem en_eq {a b : En} : a.v = b.v ↔ a.path = b.path ∧ a.sz = b.sz ∧ a.dig = b.dig := by
  unfold En.v
  constructor
  · intro h; injection h with h1 h2 h3; exact ⟨h1, h2, h3⟩
  · rintro ⟨h1, h2, h3⟩; rw [h1, h2, h3]
set_option maxRecDepth 100000 in
set_option maxHeartbeats 4000000 in
theorem sameE_any (w : World) (e e2 : En) (h : EnP e w) (h2 : EnP e2 w) :
    Calls Tryd.prog 35 #[.agg (ncell e).toArray, .agg (ncell e2).toArray] w fun x w' => x = .returned (.bool (decide (e.v = e2.v))) ∧ Below w.heap.size w w' := by
  obtain ⟨r, HR⟩ : ∃ r, Hid (r = decide (e.v = e2.v)) := ⟨_, rfl⟩
  rw [← HR.out]
  have HRE : Hid (r = decide (e.path = e2.path ∧ e.sz = e2.sz ∧ e.dig = e2.dig)) := Lib.hid (by rw [HR.out]; exact decide_eq_decide.2 en_eq)
  obtain ⟨pa, sz, da, dc, dig⟩ := e
  obtain ⟨pa2, sz2, da2, dc2, dig2⟩ := e2
  obtain ⟨hr1, ho1, hp1⟩ := h
  obtain ⟨hr2, ho2, hp2⟩ := h2
  simp only [ncell] at *
  obtain ⟨n1, hn1⟩ : ∃ k, dig.length = k := ⟨_, rfl⟩
  obtain ⟨n2, hn2⟩ : ∃ k, dig2.length = k := ⟨_, rfl⟩
  rw [hn1, hn2]
  have hq : Below w.heap.size w ((w.alloc (.cells #[.string (str pa), .int .i64 sz, .slice da n1 dc] 42)).alloc (.cells #[.string (str pa2), .int .i64 sz2, .slice da2 n2 dc2] 42)) := ((Below.refl _ _).alloc (Nat.le_refl _) _).alloc (by simp) _
  have hA := (Holds.fresh w 42 #[.string (str pa), .int .i64 sz, .slice da n1 dc]).alloc (.cells #[.string (str pa2), .int .i64 sz2, .slice da2 n2 dc2] 42)
  have hB := Holds.fresh (w.alloc (.cells #[.string (str pa), .int .i64 sz, .slice da n1 dc] 42)) 42 #[.string (str pa2), .int .i64 sz2, .slice da2 n2 dc2]
  rw [show (w.alloc (.cells #[.string (str pa), .int .i64 sz, .slice da n1 dc] 42)).heap.size = w.heap.size + 1 by simp] at hB
  have HQ := Lib.hid hq
  have a0 := hA.cell 0
  have a1 := hA.cell 1
  have a2 := hA.cell 2
  have b0 := hB.cell 0
  have b1 := hB.cell 1
  have b2 := hB.cell 2
  have HEY := Lib.hid (fun (he : dig = dig2) => equal_yes ((w.alloc (.cells #[.string (str pa), .int .i64 sz, .slice da n1 dc] 42)).alloc (.cells #[.string (str pa2), .int .i64 sz2, .slice da2 n2 dc2] 42)) _ _ da da2 dc dc2 n1 dig hn1 (hr1.under hq) (by rw [he]; exact hr2.under hq) ho1)
  have HEN := Lib.hid (fun (he : dig ≠ dig2) => equal_no ((w.alloc (.cells #[.string (str pa), .int .i64 sz, .slice da n1 dc] 42)).alloc (.cells #[.string (str pa2), .int .i64 sz2, .slice da2 n2 dc2] 42)) _ _ da da2 dc dc2 n1 n2 dig dig2 hn1 hn2 (hr1.under hq) (hr2.under hq) ho1 ho2 he)
  have HPS : Hid (pa = pa2 → ((str pa).toList == (str pa2).toList) = true) := Lib.hid fun he => by rw [he]; exact str_same _
  have HPN : Hid (pa ≠ pa2 → ((str pa).toList == (str pa2).toList) = false) := Lib.hid fun he => str_ne hp1 hp2 he
  have HNN : Hid (dig = dig2 → n1 = n2) := Lib.hid fun he => by rw [← hn1, ← hn2, he]
  clear hr1 ho1 hp1 hr2 ho2 hp2 hn1 hn2 hq hA hB HR
  generalize str pa = s1 at *
  generalize str pa2 = s2 at *
  by_cases hp : pa = pa2
  case neg =>
    have d := HPN.out hp
    have HE : Hid (r = false) := Lib.hid (by rw [HRE.out]; exact decide_eq_false fun h => hp h.1)
    clear hp
    go_enter Tryd.func35, Tryd.ntmps35
    go_wp2_with fail
    go_ret
    exact ⟨by rw [HE.out]; rfl, HQ.out⟩
  have d := HPS.out hp
  by_cases hs : sz = sz2
  case neg =>
    have d2 : (sz == sz2) = false := by rw [beq_eq_false_iff_ne]; exact hs
    have HE : Hid (r = false) := Lib.hid (by rw [HRE.out]; exact decide_eq_false fun h => hs h.2.1)
    clear hp hs
    go_enter Tryd.func35, Tryd.ntmps35
    go_wp2_with fail
    go_ret
    exact ⟨by rw [HE.out]; rfl, HQ.out⟩
  have d2 : (sz == sz2) = true := by rw [beq_iff_eq]; exact hs
  by_cases hg : dig = dig2
  case neg =>
    have HC := Lib.hid (HEN.out hg)
    have HE : Hid (r = false) := Lib.hid (by rw [HRE.out]; exact decide_eq_false fun h => hg h.2.2)
    clear hp hs hg
    go_enter Tryd.func35, Tryd.ntmps35
    go_wp2_with fail
    refine HC.out.mono ?_
    rintro x w2 ⟨rfl, rfl⟩
    go_wp2_with fail
    go_ret
    exact ⟨by rw [HE.out]; rfl, HQ.out⟩
  · have hnn := HNN.out hg
    have HC := HEY.out hg
    have HE : Hid (r = true) := Lib.hid (by rw [HRE.out]; exact decide_eq_true ⟨hp, hs, hg⟩)
    subst hnn
    have HC := Lib.hid HC
    clear hp hs hg
    go_enter Tryd.func35, Tryd.ntmps35
    go_wp2_with fail
    refine HC.out.mono ?_
    rintro x w2 ⟨rfl, rfl⟩
    go_wp2_with fail
    go_ret
    exact ⟨by rw [HE.out]; rfl, HQ.out⟩
theorem map_ne {l l2 : List En} {j : Nat} (hj : j < l.length) (h : (l.getD j default).v ≠ (l2.getD j default).v) (hl : l.length = l2.length) : l.map En.v ≠ l2.map En.v := fun e => by
  apply h
  rw [← en_at hj, ← en_at (by omega : j < l2.length), e]
theorem map_eq {l l2 : List En} (hl : l.length = l2.length) (h : ∀ j, j < l.length → (l.getD j default).v = (l2.getD j default).v) : l.map En.v = l2.map En.v := by
  apply List.ext_getElem (by simp [hl])
  intro i h1 h2
  have hi : i < l.length := by simpa using h1
  have := h i hi
  simpa [List.getD, hi, show i < l2.length by omega] using this
set_option maxRecDepth 100000 in
set_option maxHeartbeats 8000000 in
theorem equalF_any (w : World) (A A2 : Option Addr) (c c2 n n2 : Nat) (l l2 : List En) (h : NsP A c l w) (h2 : NsP A2 c2 l2 w) (hn : l.length = n) (hn2 : l2.length = n2) :
    Calls Tryd.prog 37 #[.slice A n c, .slice A2 n2 c2, .func (.func 35) #[] #[]] w fun e w' => e = .returned (.bool (decide (l.map En.v = l2.map En.v))) ∧ Below w.heap.size w w' := by
  obtain ⟨r, HR⟩ : ∃ r, Hid (r = decide (l.map En.v = l2.map En.v)) := ⟨_, rfl⟩
  rw [← HR.out]
  have HX := Lib.hid (Off.of_n h)
  have HX2 := Lib.hid (Off.of_n h2)
  have HN := Lib.hid hn
  have HN2 := Lib.hid hn2
  have hc := h.1.1
  have hc63 := h.1.2.1
  have hd := h2.1.1
  have hd63 := h2.1.2.1
  rw [hn] at hc
  rw [hn2] at hd
  clear h h2 hn hn2
  by_cases hnn : n = n2
  case neg =>
    have q1 : ((n : Int) != (n2 : Int)) = true := by rw [bne_iff_ne]; omega
    have HE : Hid (r = false) := Lib.hid (by
      rw [HR.out]
      refine decide_eq_false fun e => hnn ?_
      have := congrArg List.length e
      rw [List.length_map, List.length_map, HN.out, HN2.out] at this
      exact this)
    go_enter Tryd.func37, Tryd.ntmps37
    go_wp2_with fail
    go_ret
    exact ⟨by rw [HE.out]; rfl, Below.refl _ _⟩
  subst hnn
  go_enter Tryd.func37, Tryd.ntmps37
  go_wp2_with fail
  go_loopw [17] (fun iv wr => ∃ i : Nat, i ≤ n ∧ iv = .int .i64 (i : Int) ∧ Hid (∀ j, j < i → (l.getD j default).v = (l2.getD j default).v) ∧ Below w.heap.size w wr) (fun iv _ => n - (intOf iv).toNat)
  case atStart => exact ⟨0, by omega, rfl, fun j hj => by omega, Below.refl _ _⟩
  case round =>
    obtain ⟨i, hi, rfl, HA, hB⟩ := hrel
    have HB := Lib.hid hB
    by_cases hlt : i < n
    · have hx := (HX.out.under hB).at_
      have hx2 := (HX2.out.under hB).at_
      obtain ⟨g, off, rfl, hg, hcs⟩ := hx.1.2.2 (by rw [HN.out]; omega)
      obtain ⟨g2, off2, rfl, hg2, hcs2⟩ := hx2.1.2.2 (by rw [HN2.out]; omega)
      obtain ⟨c0, c1, c2'⟩ := hcs i (by rw [HN.out]; exact hlt)
      obtain ⟨f0, f1, f2⟩ := hcs2 i (by rw [HN2.out]; exact hlt)
      have hxe := hx.at_ (by rw [HN.out]; exact hlt)
      have hxe2 := hx2.at_ (by rw [HN2.out]; exact hlt)
      have HST : Hid ((l.getD i default).v = (l2.getD i default).v → ∀ j, j < i + 1 → (l.getD j default).v = (l2.getD j default).v) := Lib.hid fun he j hj => by
        rcases Nat.lt_or_ge j i with h3 | h3
        · exact HA.out j h3
        · obtain rfl : j = i := by omega
          exact he
      have HNE : Hid ((l.getD i default).v ≠ (l2.getD i default).v → r = false) := Lib.hid fun he => by
        rw [HR.out]
        exact decide_eq_false (map_ne (by rw [HN.out]; exact hlt) he (by rw [HN.out, HN2.out]))
      obtain ⟨e, he⟩ : ∃ e, e = l.getD i default := ⟨_, rfl⟩
      obtain ⟨e2, he2⟩ : ∃ e, e = l2.getD i default := ⟨_, rfl⟩
      rw [← he] at c0 c1 c2' hxe HST HNE
      rw [← he2] at f0 f1 f2 hxe2 HST HNE
      clear he he2 hcs hcs2 hx hx2
      obtain ⟨dd, hdd⟩ : ∃ d, d = decide (e.v = e2.v) := ⟨_, rfl⟩
      have HST2 : Hid (dd = true → ∀ j, j < i + 1 → (l.getD j default).v = (l2.getD j default).v) := Lib.hid fun h => HST.out (of_decide_eq_true (by rw [← hdd]; exact h))
      have HNE2 : Hid (dd = false → r = false) := Lib.hid fun h => HNE.out (of_decide_eq_false (by rw [← hdd]; exact h))
      have hq : Below wr.heap.size wr ((wr.alloc (.cells (ncell e).toArray 42)).alloc (.cells (ncell e2).toArray 42)) := ((Below.refl _ _).alloc (Nat.le_refl _) _).alloc (by simp) _
      have hA1 := (Holds.fresh wr 42 (ncell e).toArray).alloc (.cells (ncell e2).toArray 42)
      have hA2 := Holds.fresh (wr.alloc (.cells (ncell e).toArray 42)) 42 (ncell e2).toArray
      rw [show (wr.alloc (.cells (ncell e).toArray 42)).heap.size = wr.heap.size + 1 by simp] at hA2
      have hu : ∀ x : En, EnP x wr → EnP x ((wr.alloc (.cells (ncell e).toArray 42)).alloc (.cells (ncell e2).toArray 42)) := fun x hx => ⟨(hx.1.under hq).more hq.size, hx.2⟩
      have hse := sameE_any ((wr.alloc (.cells (ncell e).toArray 42)).alloc (.cells (ncell e2).toArray 42)) e e2 (hu e hxe) (hu e2 hxe2)
      rw [← hdd] at hse
      have HB3 := Lib.hid (hB.trans (hq.mono hB.size))
      obtain ⟨pa, sz, da, dc, dig⟩ := e
      obtain ⟨pa2, sz2, da2, dc2, dig2⟩ := e2
      simp only [ncell] at *
      generalize dig.length = n1 at *
      generalize dig2.length = n3 at *
      generalize str pa = s1 at *
      generalize str pa2 = s2 at *
      have HSE := Lib.hid hse
      have a0 := hA1.cell 0
      have a1 := hA1.cell 1
      have a2 := hA1.cell 2
      have b0 := hA2.cell 0
      have b1 := hA2.cell 1
      have b2 := hA2.cell 2
      have p0 : (wr.alloc (.cells #[.string s1, .int .i64 sz, .slice da n1 dc] 42)).cell? ⟨g2, off2 + i * 3, none⟩ = some (.string s2) := (((Below.refl wr.heap.size wr).alloc (Nat.le_refl _) (.cells #[.string s1, .int .i64 sz, .slice da n1 dc] 42)).cell (p := ⟨g2, _, none⟩) hg2).trans f0
      have p1 : (wr.alloc (.cells #[.string s1, .int .i64 sz, .slice da n1 dc] 42)).cell? ⟨g2, off2 + i * 3 + 1, none⟩ = some (.int .i64 sz2) := (((Below.refl wr.heap.size wr).alloc (Nat.le_refl _) (.cells #[.string s1, .int .i64 sz, .slice da n1 dc] 42)).cell (p := ⟨g2, _, none⟩) hg2).trans f1
      have p2 : (wr.alloc (.cells #[.string s1, .int .i64 sz, .slice da n1 dc] 42)).cell? ⟨g2, off2 + i * 3 + 2, none⟩ = some (.slice da2 n3 dc2) := (((Below.refl wr.heap.size wr).alloc (Nat.le_refl _) (.cells #[.string s1, .int .i64 sz, .slice da n1 dc] 42)).cell (p := ⟨g2, _, none⟩) hg2).trans f2
      clear hxe hxe2 hq hA1 hA2 hu hse hB HST HNE hdd f0 f1 f2
      go_wp2_with fail
      refine HSE.out.mono ?_
      rintro x w3 ⟨rfl, hb3⟩
      have HB4 := Lib.hid (HB3.out.trans (hb3.mono HB3.out.size))
      clear hb3 a0 a1 a2 b0 b1 b2 p0 p1 p2 c0 c1 c2' HSE
      cases dd with
      | false =>
        have HE : Hid (r = false) := Lib.hid (HNE2.out rfl)
        go_wp2_with fail
        go_ret
        exact ⟨by rw [HE.out]; rfl, HB4.out⟩
      | true =>
        have HC := Lib.hid (HST2.out rfl)
        go_wp2_with fail
        go_roundw
        case rel => exact ⟨i + 1, by omega, by go_num, HC, HB4.out⟩
        case measure => simp [intOf]; omega
    · obtain rfl : i = n := by omega
      have HE : Hid (r = true) := Lib.hid (by
        rw [HR.out]
        exact decide_eq_true (map_eq (by rw [HN.out, HN2.out]) fun j hj => HA.out j (by rw [HN.out] at hj; exact hj)))
      have hf : decide ((i : Int) < (i : Int)) = false := decide_eq_false (by omega)
      go_wp2_with fail
      go_ret
      exact ⟨by rw [HE.out]; rfl, HB.out⟩
end Go.Proofs.YtdjklhglkmacbaaDoor
namespace Go.Proofs.YtdjklhglkmacbaaDoor
open Go.RowKit
set_option linter.unusedVariables false
set_option linter.unusedSimpArgs false

def enTr (e : EN) : Tr := .mk 48 [] [.mk 12 e.path [], .mk 2 (intB (dg2 e.sz.toNat)) [], .mk 4 e.dig []]
def mfTr (v : MV) : Tr := .mk 48 [] [.mk 12 v.name [], .mk 2 (intB (dg2 v.ctr)) [], .mk 48 [] (v.files.map enTr)]
theorem mfOk_parts {v : MV} (h : mfOk v = true) : v.name ≠ [] ∧ textOk v.name = true ∧ v.files.length ≤ 12 ∧ (∀ e ∈ v.files, enOk e = true ∧ e.sz ≤ 600) ∧ risingOk v.files = true := by
  unfold mfOk formedOk greatOk at h
  simp only [Bool.and_eq_true, Bool.not_eq_true', Bool.or_eq_false_iff, decide_eq_true_eq, decide_eq_false_iff_not, List.all_eq_true, List.any_eq_false] at h
  obtain ⟨⟨⟨h1, h2, h3⟩, h4, h5⟩, h6⟩ := h
  exact ⟨h2, h3, by omega, fun e he => ⟨h1 e he, by have := h4 e he; omega⟩, h6⟩
theorem text_le {l : List Nat} (h : textOk l = true) : l.length ≤ 64 := by
  unfold textOk at h
  simp only [Bool.and_eq_true, decide_eq_true_eq] at h
  exact h.1
theorem en_parts {e : EN} (h : enOk e = true) : 0 ≤ e.sz ∧ e.dig.length = 32 ∧ e.path.length ≤ 64 := by
  unfold enOk at h
  simp only [Bool.and_eq_true, decide_eq_true_eq] at h
  exact ⟨h.1.1, h.1.2, text_le h.2⟩
theorem en_take {l : List En} {i : Nat} (h : i < l.length) : ((l.map En.v).take (i + 1)).map enTr = ((l.map En.v).take i).map enTr ++ [enTr (l.getD i default).v] := by
  rw [List.take_succ_eq_append_getElem (by simpa using h), List.map_append]
  simp [List.getD, h]
theorem made_outG {xs : List Nat} {g : Nat} {w' : World} {lt : Lt} (h : Off (g :: xs) (ThP lt) w') (a b c : Value) :
    Off xs (ThP lt) (((w'.setCell ⟨g, 0, none⟩ a).setCell ⟨g, 1, none⟩ b).setCell ⟨g, 2, none⟩ c) :=
  (((h.store (p := ⟨g, 0, none⟩) (by simp) a).store (p := ⟨g, 1, none⟩) (by simp) b).store (p := ⟨g, 2, none⟩) (by simp) c).less (fun g hg => by simp [hg])
theorem below_outG {B g : Nat} {w w' : World} (h : Below B w w') (hg : B ≤ g) (a b c : Value) : Below B w (((w'.setCell ⟨g, 0, none⟩ a).setCell ⟨g, 1, none⟩ b).setCell ⟨g, 2, none⟩ c) :=
  ((h.setCell (p := ⟨g, 0, none⟩) hg _).setCell (p := ⟨g, 1, none⟩) hg _).setCell (p := ⟨g, 2, none⟩) hg _
theorem cell_ne {W : World} {g h j k : Nat} {u : Value} (hn : h ≠ g) : (W.setCell ⟨g, j, none⟩ u).cell? ⟨h, k, none⟩ = W.cell? ⟨h, k, none⟩ := by
  simp only [World.cell?]; rw [Below.heap_setCell W ⟨g, j, none⟩ u h hn]
end Go.Proofs.YtdjklhglkmacbaaDoor
