/-
  Things within things: as they lie in memory, as they are.
-/
import Derived.Test.YtdjklhglkmacbaaDoorChecked
import Derived.WalkKit
import Derived.WalkSpells
import Derived.WalkLawsBesides
import Derived.Outline
import Derived.BigQuiet
import Derived.Deep.QuietTactic
import Derived.IntWalk
import Derived.Test.YtdjklhglkmacbaaDoorMem
import Derived.Test.YtdjklhglkmacbaaDoorRead
import Derived.Test.YtdjklhglkmacbaaDoorOwn
namespace Go.Proofs.YtdjklhglkmacbaaDoor
open Go.RowKit
set_option linter.unusedVariables false
set_option linter.unusedSimpArgs false

/-- A thing. -/
inductive Tr where
  | mk (tag : Nat) (body : List Nat) (kids : List Tr)
/-- A thing, and where it lies. -/
inductive Lt where
  | mk (tag : Nat) (ba : Option Addr) (bc : Nat) (body : List Nat) (ka : Option Addr) (kc : Nat) (kids : List Lt)
instance : Inhabited Tr := ⟨.mk 0 [] []⟩
instance : Inhabited Lt := ⟨.mk 0 none 0 [] none 0 []⟩
def Tr.tag : Tr → Nat | .mk t _ _ => t
def Tr.body : Tr → List Nat | .mk _ b _ => b
def Tr.kids : Tr → List Tr | .mk _ _ k => k
def Lt.tag : Lt → Nat | .mk t _ _ _ _ _ _ => t
def Lt.ba : Lt → Option Addr | .mk _ a _ _ _ _ _ => a
def Lt.bc : Lt → Nat | .mk _ _ c _ _ _ _ => c
def Lt.body : Lt → List Nat | .mk _ _ _ b _ _ _ => b
def Lt.ka : Lt → Option Addr | .mk _ _ _ _ a _ _ => a
def Lt.kc : Lt → Nat | .mk _ _ _ _ _ c _ => c
def Lt.kids : Lt → List Lt | .mk _ _ _ _ _ _ k => k
mutual
/-- What it is, wherever it lies. -/
def Lt.t : Lt → Tr
  | .mk tag _ _ body _ _ kids => .mk tag body (Lt.ts kids)
def Lt.ts : List Lt → List Tr
  | [] => []
  | x :: r => x.t :: Lt.ts r
end
theorem Lt.ts_map : ∀ l : List Lt, Lt.ts l = l.map Lt.t
  | [] => by simp [Lt.ts]
  | x :: r => by rw [Lt.ts, Lt.ts_map r, List.map_cons]
theorem Lt.t_mk {tag : Nat} {ba : Option Addr} {bc : Nat} {body : List Nat} {ka : Option Addr} {kc : Nat} {kids : List Lt} : (Lt.mk tag ba bc body ka kc kids).t = .mk tag body (kids.map Lt.t) := by rw [Lt.t, Lt.ts_map]
theorem Lt.ts_at {l : List Lt} {j : Nat} (h : j < l.length) : (l.map Lt.t).getD j default = (l.getD j default).t := by simp [List.getD, h]
/-- Its cells. -/
def Lt.cells (t : Lt) : Array Value := #[.int .u8 (t.tag : Int), .slice t.ba t.body.length t.bc, .slice t.ka t.kids.length t.kc]
def Lt.val (t : Lt) : Value := .agg t.cells
/-- The kids' cells, in a row. -/
def RowT (w : World) (B : Nat) (A : Option Addr) (c : Nat) (l : List Lt) : Prop :=
  l.length ≤ c ∧ c ≤ 9223372036854775807 ∧ (0 < l.length → ∃ b off, A = some ⟨b, off, none⟩ ∧ b < B ∧ ∀ j, j < l.length → w.cell? ⟨b, off + j * 3, none⟩ = some (.int .u8 ((l.getD j default).tag : Int)) ∧
    w.cell? ⟨b, off + j * 3 + 1, none⟩ = some (.slice (l.getD j default).ba (l.getD j default).body.length (l.getD j default).bc) ∧ w.cell? ⟨b, off + j * 3 + 2, none⟩ = some (.slice (l.getD j default).ka (l.getD j default).kids.length (l.getD j default).kc))
mutual
/-- It lies so in memory, below block B. -/
def TrAt (w : World) (B : Nat) : Lt → Prop
  | .mk tag ba bc body ka kc kids => tag < 256 ∧ Rd .u8 w B ba bc body ∧ (∀ x ∈ body, x < 256) ∧ RowT w B ka kc kids ∧ TrsAt w B kids
def TrsAt (w : World) (B : Nat) : List Lt → Prop
  | [] => True
  | x :: r => TrAt w B x ∧ TrsAt w B r
end
theorem trsAt_iff {w : World} {B : Nat} : ∀ {l : List Lt}, TrsAt w B l ↔ ∀ x ∈ l, TrAt w B x
  | [] => by simp [TrsAt]
  | x :: r => by rw [TrsAt, trsAt_iff (l := r)]; simp
theorem trAt_mk {w : World} {B : Nat} {tag : Nat} {ba : Option Addr} {bc : Nat} {body : List Nat} {ka : Option Addr} {kc : Nat} {kids : List Lt} :
    TrAt w B (.mk tag ba bc body ka kc kids) ↔ tag < 256 ∧ Rd .u8 w B ba bc body ∧ (∀ x ∈ body, x < 256) ∧ RowT w B ka kc kids ∧ ∀ j, j < kids.length → TrAt w B (kids.getD j default) := by
  rw [TrAt, trsAt_iff]
  refine and_congr Iff.rfl (and_congr Iff.rfl (and_congr Iff.rfl (and_congr Iff.rfl ⟨fun h j hj => h _ (by simp [List.getD, hj]), fun h x hx => ?_⟩)))
  obtain ⟨j, hj, rfl⟩ := List.getElem_of_mem hx
  have := h j hj
  simpa [List.getD, hj] using this
theorem RowT.under {w w' : World} {B : Nat} {A : Option Addr} {c : Nat} {l : List Lt} (h : RowT w B A c l) (hb : Below B w w') : RowT w' B A c l :=
  ⟨h.1, h.2.1, fun hn => by
    obtain ⟨b, off, e, hlt, hc⟩ := h.2.2 hn
    exact ⟨b, off, e, hlt, fun j hj => ⟨(hb.cell (p := ⟨b, _, none⟩) hlt).trans (hc j hj).1, (hb.cell (p := ⟨b, _, none⟩) hlt).trans (hc j hj).2.1, (hb.cell (p := ⟨b, _, none⟩) hlt).trans (hc j hj).2.2⟩⟩⟩
theorem RowT.more {w : World} {B B' : Nat} {A : Option Addr} {c : Nat} {l : List Lt} (h : RowT w B A c l) (hB : B ≤ B') : RowT w B' A c l :=
  ⟨h.1, h.2.1, fun hn => by
    obtain ⟨b, off, e, hlt, hc⟩ := h.2.2 hn
    exact ⟨b, off, e, by omega, hc⟩⟩
mutual
/-- How great it is, for inductions. -/
def Lt.sz : Lt → Nat
  | .mk _ _ _ _ _ _ kids => 1 + Lt.szs kids
def Lt.szs : List Lt → Nat
  | [] => 0
  | x :: r => x.sz + Lt.szs r
end
theorem Lt.sz_le : ∀ {l : List Lt} {x : Lt}, x ∈ l → x.sz ≤ Lt.szs l
  | [], _, h => by cases h
  | y :: r, x, h => by
    rw [Lt.szs]
    rcases List.mem_cons.1 h with rfl | h
    · omega
    · have := Lt.sz_le h
      omega
theorem lt_kid {tag : Nat} {ba : Option Addr} {bc : Nat} {body : List Nat} {ka : Option Addr} {kc : Nat} {kids : List Lt} {j : Nat} (h : j < kids.length) : (kids.getD j default).sz < (Lt.mk tag ba bc body ka kc kids).sz := by
  have h1 : kids.getD j default ∈ kids := by simp [List.getD, h]
  have h2 := Lt.sz_le h1
  rw [Lt.sz]
  omega
theorem TrAt.under {w w' : World} {B : Nat} (hb : Below B w w') : ∀ (N : Nat) {t : Lt}, t.sz < N → TrAt w B t → TrAt w' B t
  | 0, _, h, _ => by omega
  | N + 1, .mk tag ba bc body ka kc kids, h, hr => by
    rw [trAt_mk] at hr ⊢
    obtain ⟨h1, h2, h3, h4, h5⟩ := hr
    exact ⟨h1, h2.under hb, h3, h4.under hb, fun j hj => TrAt.under hb N (by have := lt_kid (tag := tag) (ba := ba) (bc := bc) (body := body) (ka := ka) (kc := kc) hj; omega) (h5 j hj)⟩
theorem TrAt.under' {w w' : World} {B : Nat} {t : Lt} (h : TrAt w B t) (hb : Below B w w') : TrAt w' B t := TrAt.under hb (t.sz + 1) (Nat.lt_succ_self _) h
theorem TrAt.more {w : World} {B B' : Nat} (hB : B ≤ B') : ∀ (N : Nat) {t : Lt}, t.sz < N → TrAt w B t → TrAt w B' t
  | 0, _, h, _ => by omega
  | N + 1, .mk tag ba bc body ka kc kids, h, hr => by
    rw [trAt_mk] at hr ⊢
    obtain ⟨h1, h2, h3, h4, h5⟩ := hr
    exact ⟨h1, h2.more hB, h3, h4.more hB, fun j hj => TrAt.more hB N (by have := lt_kid (tag := tag) (ba := ba) (bc := bc) (body := body) (ka := ka) (kc := kc) hj; omega) (h5 j hj)⟩
theorem TrAt.more' {w : World} {B B' : Nat} {t : Lt} (h : TrAt w B t) (hB : B ≤ B') : TrAt w B' t := TrAt.more hB (t.sz + 1) (Nat.lt_succ_self _) h

/-! How many things it is. -/
mutual
def Tr.count : Tr → Nat
  | .mk _ _ kids => 1 + Tr.counts kids
def Tr.counts : List Tr → Nat
  | [] => 0
  | x :: r => x.count + Tr.counts r
end
theorem Tr.counts_append : ∀ (a b : List Tr), Tr.counts (a ++ b) = Tr.counts a + Tr.counts b
  | [], b => by simp [Tr.counts]
  | x :: r, b => by rw [List.cons_append, Tr.counts, Tr.counts, Tr.counts_append r b]; omega
theorem take_more {α : Type} [Inhabited α] (l : List α) {k : Nat} (h : k < l.length) : l.take (k + 1) = l.take k ++ [l.getD k default] := by
  rw [List.take_add_one]
  simp [List.getD, h]
theorem Tr.counts_more {l : List Tr} {k : Nat} (h : k < l.length) : Tr.counts (l.take (k + 1)) = Tr.counts (l.take k) + (l.getD k default).count := by
  rw [take_more l h, Tr.counts_append]
  simp [Tr.counts]
theorem Tr.counts_le (l : List Tr) (k : Nat) : Tr.counts (l.take k) ≤ Tr.counts l := by
  have := Tr.counts_append (l.take k) (l.drop k)
  rw [List.take_append_drop] at this
  omega
theorem Tr.count_pos : ∀ t : Tr, 1 ≤ t.count
  | .mk _ _ _ => by rw [Tr.count]; omega
theorem Tr.counts_len : ∀ l : List Tr, l.length ≤ Tr.counts l
  | [] => by simp [Tr.counts]
  | x :: r => by
    rw [Tr.counts, List.length_cons]
    have := Tr.counts_len r
    have := Tr.count_pos x
    omega
end Go.Proofs.YtdjklhglkmacbaaDoor
