/-
  All things in a thing, one after the other: the program's iterator.
-/
import Derived.RangeFuncNested
import Derived.RangeFuncBound
import Derived.RangeFuncCalls
import Derived.RangeFuncLeaves
import Derived.RangeFuncKeeps
import Derived.RangeFuncFrom
import Derived.Shelf.Abstract
import Derived.Shelf.RegionOpen
import Derived.OwnWalkIn
import Derived.TacticsInMore
import Derived.LoopNIn
import Derived.LoopIn
import Derived.Test.YtdjklhglkmacbaaDoorTlv10
namespace Go.Proofs.YtdjklhglkmacbaaDoor
open Go.RowKit Go.Shelf
set_option linter.unusedVariables false
set_option linter.unusedSimpArgs false
attribute [local go_sem] Oper.semAt_some

mutual
/-- All things in a thing, itself first, with how deep each is. -/
def Lt.items : Lt → Nat → List (Nat × Lt)
  | .mk tag ba bc body ka kc kids, d => (d, .mk tag ba bc body ka kc kids) :: Lt.itemss kids (d + 1)
def Lt.itemss : List Lt → Nat → List (Nat × Lt)
  | [], _ => []
  | x :: r, d => x.items d ++ Lt.itemss r d
end
theorem Lt.itemss_append : ∀ (a b : List Lt) (d : Nat), Lt.itemss (a ++ b) d = Lt.itemss a d ++ Lt.itemss b d
  | [], b, d => by simp [Lt.itemss]
  | x :: r, b, d => by rw [List.cons_append, Lt.itemss, Lt.itemss, Lt.itemss_append r b, List.append_assoc]
theorem Lt.itemss_more {l : List Lt} {k : Nat} (h : k < l.length) (d : Nat) : Lt.itemss (l.take (k + 1)) d = Lt.itemss (l.take k) d ++ (l.getD k default).items d := by
  rw [take_more l h, Lt.itemss_append]
  simp [Lt.itemss]
theorem Lt.itemss_take (l : List Lt) (k d : Nat) : Lt.itemss (l.take k) d <+: Lt.itemss l d := by
  have := Lt.itemss_append (l.take k) (l.drop k) d
  rw [List.take_append_drop] at this
  rw [this]
  exact List.prefix_append _ _
mutual
theorem Lt.items_len : ∀ (t : Lt) (d : Nat), (t.items d).length = t.t.count
  | .mk _ _ _ _ _ _ kids, d => by rw [Lt.items, Lt.t, Tr.count, List.length_cons, Lt.itemss_len' kids (d + 1)]; omega
theorem Lt.itemss_len' : ∀ (l : List Lt) (d : Nat), (Lt.itemss l d).length = Tr.counts (Lt.ts l)
  | [], d => by simp [Lt.itemss, Lt.ts, Tr.counts]
  | x :: r, d => by rw [Lt.itemss, Lt.ts, Tr.counts, List.length_append, Lt.items_len x d, Lt.itemss_len' r d]
end
theorem Lt.itemss_len (l : List Lt) (d : Nat) : (Lt.itemss l d).length = Tr.counts (l.map Lt.t) := by rw [Lt.itemss_len', Lt.ts_map]
/-- One of them, as it is handed on. -/
abbrev It := { p : Nat × Lt // p.2.tag < 256 }
def itv (x : It) : Array Value := #[.int .i64 (x.1.1 : Int), x.1.2.val]
/-- No cell turns but those of two blocks. -/
def PassX (c1 c2 : Nat) (A B : World) : Prop := A.heap.size ≤ B.heap.size ∧ ∀ b o v, b ≠ c1 → b ≠ c2 → A.cell? ⟨b, o, none⟩ = some v → B.cell? ⟨b, o, none⟩ = some v
theorem PassX.refl (c1 c2 : Nat) (A : World) : PassX c1 c2 A A := ⟨Nat.le_refl _, fun _ _ _ _ _ h => h⟩
theorem PassX.trans {c1 c2 : Nat} {A B C : World} (h : PassX c1 c2 A B) (k : PassX c1 c2 B C) : PassX c1 c2 A C := ⟨Nat.le_trans h.1 k.1, fun b o v h1 h2 hv => k.2 b o v h1 h2 (h.2 b o v h1 h2 hv)⟩
theorem PassX.alloc (c1 c2 : Nat) (A : World) (o : Obj) : PassX c1 c2 A (A.alloc o) := ⟨by simp, fun b o' v _ _ hv => by
  have hlt := World.block_lt_of_cell? A _ hv
  rw [World.cell?_alloc_past _ _ _ hlt]; exact hv⟩
theorem TrAt.pass {w w' : World} {B : Nat} (hp : ∀ b o v, b < B → w.cell? ⟨b, o, none⟩ = some v → w'.cell? ⟨b, o, none⟩ = some v) : ∀ (N : Nat) {t : Lt}, t.sz < N → TrAt w B t → TrAt w' B t
  | 0, _, h, _ => by omega
  | N + 1, .mk tag ba bc body ka kc kids, h, hr => by
    rw [trAt_mk] at hr ⊢
    obtain ⟨h1, h2, h3, h4, h5⟩ := hr
    refine ⟨h1, ⟨h2.1, h2.2.1, fun hn => ?_⟩, h3, ⟨h4.1, h4.2.1, fun hn => ?_⟩, fun j hj => TrAt.pass hp N (by have := lt_kid (tag := tag) (ba := ba) (bc := bc) (body := body) (ka := ka) (kc := kc) hj; omega) (h5 j hj)⟩
    · obtain ⟨b, off, e, hlt, hc⟩ := h2.2.2 hn
      exact ⟨b, off, e, hlt, fun j hj => hp _ _ _ hlt (hc j hj)⟩
    · obtain ⟨b, off, e, hlt, hc⟩ := h4.2.2 hn
      exact ⟨b, off, e, hlt, fun j hj => ⟨hp _ _ _ hlt (hc j hj).1, hp _ _ _ hlt (hc j hj).2.1, hp _ _ _ hlt (hc j hj).2.2⟩⟩
theorem TrAt.passX {c1 c2 : Nat} {w w' : World} {B : Nat} {t : Lt} (h : TrAt w B t) (hp : PassX c1 c2 w w') (h1 : B ≤ c1) (h2 : B ≤ c2) : TrAt w' B t :=
  TrAt.pass (fun b o v hb hv => hp.2 b o v (by omega) (by omega) hv) (t.sz + 1) (Nat.lt_succ_self _) h
theorem room_of_none {F : Fence} (hd : F.depth = none) (k : Nat) : F.room k := fun d h => by rw [hd] at h; cases h

def RelW (l c1 c2 n : Nat) (J : List It → World → Prop) (pre : List It) (d : Nat) (me : Nat × Lt) (kids : List Lt) (W : World) (i : Value) (wr : World) : Prop :=
  ∃ (k : Nat) (ys : List It), k ≤ n ∧ i = .int .i64 k ∧ Hid (ys.map (·.1) = me :: Lt.itemss (kids.take k) (d + 1)) ∧ J (pre ++ ys) wr ∧ Hid (PassX c1 c2 W wr)
end Go.Proofs.YtdjklhglkmacbaaDoor
