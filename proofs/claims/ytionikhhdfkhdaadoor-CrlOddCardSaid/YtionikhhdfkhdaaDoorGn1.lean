/-
  Rows of what was revoked: in memory, and which may be.
-/
import Derived.Test.YtionikhhdfkhdaaDoorDn6
import Derived.Test.YtionikhhdfkhdaaDoorAt5
namespace Go.Proofs.YtionikhhdfkhdaaDoor
open Go.RowKit
set_option linter.unusedVariables false

/-- A serial, and when it was revoked. -/
structure GV where
  ser : List Nat
  tm : Int
structure Gn where
  sa : Option Addr
  sc : Nat
  ser : List Nat
  tm : Int
instance : Inhabited GV := ⟨⟨[], 0⟩⟩
instance : Inhabited Gn := ⟨⟨none, 0, [], 0⟩⟩
def Gn.v (g : Gn) : GV := ⟨g.ser, g.tm⟩
def gcell (g : Gn) : List Value := [.slice g.sa g.ser.length g.sc, .int .i64 g.tm]
def GnP (g : Gn) (w : World) : Prop := Rd .u32 w w.heap.size g.sa g.sc g.ser ∧ Dg g.ser
/-- The row's cells. -/
def RowG (w : World) (B : Nat) (A : Option Addr) (c : Nat) (l : List Gn) : Prop :=
  l.length ≤ c ∧ c ≤ 9223372036854775807 ∧ (0 < l.length → ∃ b off, A = some ⟨b, off, none⟩ ∧ b < B ∧ ∀ j, j < l.length → w.cell? ⟨b, off + j * 2, none⟩ = some (.slice (l.getD j default).sa (l.getD j default).ser.length (l.getD j default).sc) ∧
    w.cell? ⟨b, off + j * 2 + 1, none⟩ = some (.int .i64 (l.getD j default).tm))
def GsP (A : Option Addr) (c : Nat) (l : List Gn) (w : World) : Prop := RowG w w.heap.size A c l ∧ ∀ x ∈ l, GnP x w
theorem GsP.none (w : World) : GsP none 0 [] w := ⟨⟨by simp, by omega, fun h => by simp at h⟩, fun x hx => by cases hx⟩
theorem RowG.congr {w w' : World} {B : Nat} {A : Option Addr} {c : Nat} {l : List Gn} (h : RowG w B A c l) (hk : ∀ g, g < B → w'.heap[g]? = w.heap[g]?) : RowG w' B A c l :=
  ⟨h.1, h.2.1, fun hn => by
    obtain ⟨b, off, e, hlt, hc⟩ := h.2.2 hn
    have hx : ∀ o, w'.cell? ⟨b, o, Option.none⟩ = w.cell? ⟨b, o, Option.none⟩ := fun o => by simp only [World.cell?]; rw [hk b hlt]
    exact ⟨b, off, e, hlt, fun j hj => ⟨(hx _).trans (hc j hj).1, (hx _).trans (hc j hj).2⟩⟩⟩
theorem RowG.more {w : World} {B B' : Nat} {A : Option Addr} {c : Nat} {l : List Gn} (h : RowG w B A c l) (hB : B ≤ B') : RowG w B' A c l :=
  ⟨h.1, h.2.1, fun hn => by
    obtain ⟨b, off, e, hlt, hc⟩ := h.2.2 hn
    exact ⟨b, off, e, by omega, hc⟩⟩
theorem Off.of_g {A : Option Addr} {c : Nat} {l : List Gn} {w : World} (h : GsP A c l w) : Off [] (GsP A c l) w := fun w' h2 h3 => by
  have hk : ∀ g, g < w.heap.size → w'.heap[g]? = w.heap[g]? := fun g hg => h3 g (by simp) hg
  exact ⟨(h.1.congr hk).more h2, fun x hx => ⟨((h.2 x hx).1.congr hk).more h2, (h.2 x hx).2⟩⟩
theorem GsP.at_ {A : Option Addr} {c j : Nat} {l : List Gn} {w : World} (h : GsP A c l w) (hj : j < l.length) : GnP (l.getD j default) w := h.2 _ (getD_mem hj)
theorem gv_at {l : List Gn} {j : Nat} (h : j < l.length) : (l.map Gn.v).getD j default = (l.getD j default).v := by simp [List.getD, h]
/-- May it be a serial, a time? -/
def serOk (l : List Nat) : Bool := okN l && decide (0 < l.length) && decide (nb l < 160)
def whenOk (t : Int) : Bool := decide (-631152000 ≤ t) && decide (t ≤ 253402300799)
def gnOk (l : List GV) (i : Nat) : Bool := serOk (l.getD i default).ser && whenOk (l.getD i default).tm && (decide (i = 0) || decide (cmpL (l.getD (i - 1) default).ser (l.getD i default).ser < 0))
def gonesOk (l : List GV) : Bool := decide (∀ i, i < l.length → gnOk l i = true)
theorem gonesOk_iff {l : List GV} : gonesOk l = true ↔ ∀ i, i < l.length → gnOk l i = true := by unfold gonesOk; rw [decide_eq_true_iff]
theorem gonesOk_no {l : List GV} {i : Nat} (hi : i < l.length) (h : gnOk l i = false) : gonesOk l = false := by
  rw [Bool.eq_false_iff]; intro hh
  rw [gonesOk_iff.1 hh i hi] at h; cases h
theorem gnOk_eq {l : List GV} {i : Nat} {a p : List Nat} {t : Int} (ha : (l.getD i default).ser = a) (ht : (l.getD i default).tm = t) (hp : (l.getD (i - 1) default).ser = p) : gnOk l i = (serOk a && whenOk t && (decide (i = 0) || decide (cmpL p a < 0))) := by
  unfold gnOk; rw [ha, ht, hp]
theorem whenOk_iff {t : Int} : whenOk t = true ↔ -631152000 ≤ t ∧ t ≤ 253402300799 := by unfold whenOk; simp
theorem whenOk_no {t : Int} : whenOk t = false ↔ t < -631152000 ∨ 253402300799 < t := by
  rw [Bool.eq_false_iff, Ne, whenOk_iff]; omega
theorem serOk_iff {l : List Nat} : serOk l = true ↔ okN l = true ∧ 0 < l.length ∧ nb l < 160 := by unfold serOk; simp [and_assoc]
/-- A row as it is told. -/
structure CV where
  iss : List Att
  at_ : Int
  next : Int
  gone : List GV
  sig : List Nat
def crlOk (v : CV) : Bool := dnOk v.iss && whenOk v.at_ && whenOk v.next && decide (v.at_ ≤ v.next) && decide (v.gone.length ≤ 16) && decide (1 ≤ v.sig.length ∧ v.sig.length ≤ 600) && gonesOk v.gone
/-- A row in memory: its seven parts' places. -/
structure Cl where
  ia : Option Addr
  ic : Nat
  iss : List Att
  at_ : Int
  next : Int
  ga : Option Addr
  gc : Nat
  gone : List Gn
  sa : Option Addr
  sc : Nat
  sig : List Nat
def Cl.v (c : Cl) : CV := ⟨c.iss, c.at_, c.next, c.gone.map Gn.v, c.sig⟩
def ccell (c : Cl) : List Value := [.slice c.ia c.iss.length c.ic, .int .i64 c.at_, .int .i64 c.next, .slice c.ga c.gone.length c.gc, .slice c.sa c.sig.length c.sc]
def ClP (c : Cl) (w : World) : Prop := RdA w w.heap.size c.ia c.ic c.iss ∧ GsP c.ga c.gc c.gone w ∧ Rd .u8 w w.heap.size c.sa c.sc c.sig ∧ ∀ x ∈ c.sig, x < 256
theorem Off.of_a {w : World} {A : Option Addr} {c : Nat} {l : List Att} (h : RdA w w.heap.size A c l) : Off [] (fun w => RdA w w.heap.size A c l) w := fun w' h2 h3 =>
  (h.keep (fun b o hb => by simp only [World.cell?]; rw [h3 b (by simp) hb])).more h2
theorem Off.of_c {c : Cl} {w : World} (h : ClP c w) : Off [] (ClP c) w := fun w' h2 h3 =>
  ⟨Off.of_a h.1 w' h2 h3, Off.of_g h.2.1 w' h2 h3, Off.of_rd h.2.2.1 (Nat.le_refl _) w' h2 h3, h.2.2.2⟩
theorem cmp_zero {a b : List Nat} : cmpL a b = 0 ↔ a = b := by
  constructor
  · intro h0
    unfold cmpL at h0
    by_cases h1 : a.length < b.length
    · rw [if_pos h1] at h0; cases h0
    · by_cases h2 : b.length < a.length
      · rw [if_neg h1, if_pos h2] at h0; cases h0
      · rw [if_neg h1, if_neg h2] at h0
        apply List.ext_getElem (by omega)
        intro i i1 i2
        have := top_zero a b _ h0 i i1
        simpa [List.getD, i1, i2] using this
  · rintro rfl; exact cmpL_refl a
/-- Is a serial among them, from that time on? -/
def goneS (l : List GV) (s : List Nat) (t : Int) : Bool := l.any fun g => decide (g.ser = s) && decide (g.tm ≤ t)
end Go.Proofs.YtionikhhdfkhdaaDoor
