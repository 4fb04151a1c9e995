/-
  A thing's bytes: as words; by the document.
-/
import Derived.Test.YtogbeiifnhegiaaTlv4
import Derived.Deep.RegionHeld3
namespace Go.Proofs.Ytogbeiifnhegiaa
open Go.RowKit
set_option linter.unusedVariables false
set_option linter.unusedSimpArgs false

mutual
/-- A thing's bytes. -/
def Tr.enc : Tr → List Nat
  | .mk tag body kids => tag :: (lenB (body.length + (Tr.encs kids).length) ++ (body ++ Tr.encs kids))
def Tr.encs : List Tr → List Nat
  | [] => []
  | x :: r => x.enc ++ Tr.encs r
end
theorem Tr.encs_append : ∀ (a b : List Tr), Tr.encs (a ++ b) = Tr.encs a ++ Tr.encs b
  | [], b => by simp [Tr.encs]
  | x :: r, b => by rw [List.cons_append, Tr.encs, Tr.encs, Tr.encs_append r b, List.append_assoc]
theorem Tr.encs_more {l : List Tr} {k : Nat} (h : k < l.length) : Tr.encs (l.take (k + 1)) = Tr.encs (l.take k) ++ (l.getD k default).enc := by
  rw [take_more l h, Tr.encs_append]
  simp [Tr.encs]
theorem Tr.encs_le (l : List Tr) (k : Nat) : (Tr.encs (l.take k)).length ≤ (Tr.encs l).length := by
  have := congrArg List.length (Tr.encs_append (l.take k) (l.drop k))
  rw [List.take_append_drop, List.length_append] at this
  omega
theorem Tr.enc_kid {l : List Tr} {k : Nat} (h : k < l.length) : (l.getD k default).enc.length ≤ (Tr.encs l).length := by
  have h1 := congrArg List.length (Tr.encs_more h)
  have h2 := Tr.encs_le l (k + 1)
  rw [List.length_append] at h1
  omega
theorem enc_oct : ∀ (N : Nat) (t : Lt) (w : World) (B : Nat), t.sz < N → TrAt w B t → ∀ x ∈ t.t.enc, x < 256 := by
  intro N
  induction N with
  | zero => intro t w B h; omega
  | succ N ih =>
    intro t w B hN hr x hx
    obtain ⟨tag, ba, bc, body, ka, kc, kids⟩ := t
    rw [trAt_mk] at hr
    obtain ⟨ht, _, hb, _, hk⟩ := hr
    rw [Lt.t_mk, Tr.enc] at hx
    rcases List.mem_cons.1 hx with rfl | hx
    · exact ht
    · rcases List.mem_append.1 hx with hx | hx
      · exact lenB_oct _ x hx
      · rcases List.mem_append.1 hx with hx | hx
        · exact hb x hx
        · have key : ∀ k, k ≤ kids.length → ∀ y ∈ Tr.encs ((kids.map Lt.t).take k), y < 256 := by
            intro k
            induction k with
            | zero => intro _ y hy; simp [Tr.encs] at hy
            | succ k ihk =>
              intro hk2 y hy
              rw [Tr.encs_more (by rw [List.length_map]; omega)] at hy
              rcases List.mem_append.1 hy with hy | hy
              · exact ihk (by omega) y hy
              · rw [Lt.ts_at (by omega)] at hy
                have := lt_kid (tag := tag) (ba := ba) (bc := bc) (body := body) (ka := ka) (kc := kc) (kids := kids) (j := k) (by omega)
                exact ih _ w B (by omega) (hk k (by omega)) y hy
          have := key kids.length (Nat.le_refl _)
          rw [List.take_of_length_le (by rw [List.length_map]; exact Nat.le_refl _)] at this
          exact this x hx

theorem Mine.less {e : TypeId} {w : World} {B B' : Nat} {A : Option Addr} {c : Nat} {l : List Nat} (h : Mine e w B A c l) (hB : B' ≤ B) : Mine e w B' A c l := by
  rcases h with h | ⟨g, off, cur, e1, hBg, rest⟩
  · exact .inl h
  · exact .inr ⟨g, off, cur, e1, by omega, rest⟩
theorem Mine.fresh0 (w : World) (B : Nat) (hB : B ≤ w.heap.size) : Mine 5 (w.alloc (.cells #[] 5)) B (some ⟨w.heap.size, 0, none⟩) 0 [] :=
  .inr ⟨w.heap.size, 0, #[], rfl, hB, Holds.fresh w _ _, Nat.le_refl _, by omega, by simp, fun j hj => by simp at hj⟩

def RelE (w : World) (cs : Array Value) (body : List Nat) (l : List Tr) (n : Nat) (v i : Value) (wr : World) : Prop :=
  ∃ (k : Nat) (A' : Option Addr) (c' m : Nat), k ≤ n ∧ i = .int .i64 k ∧ v = .slice A' m c' ∧ Hid ((body ++ Tr.encs (l.take k)).length = m) ∧ Hid (Mine 5 wr (w.heap.size + 1) A' c' (body ++ Tr.encs (l.take k))) ∧ Hid (Below w.heap.size w wr) ∧ Hid (Holds wr w.heap.size 29 cs)
theorem below_mine {V W : World} {A : Option Addr} {c : Nat} {l : List Nat} {e : TypeId} {B : Nat} (hM : Mine e V (B + 1) A c l) (hg : V.grownBy W (blk_of A)) (hB : B ≤ V.heap.size) : Below B V W := below_blk hg hB (fun g hg => by have := (hM.block hg).1; omega)
theorem holds_mine {V W : World} {A : Option Addr} {c : Nat} {l : List Nat} {e t : TypeId} {B : Nat} {cs : Array Value} (h : Holds V B t cs) (hM : Mine e V (B + 1) A c l) (hg : V.grownBy W (blk_of A)) : Holds W B t cs :=
  h.grown hg (fun e => by have := (hM.block e.symm).1; omega)
end Go.Proofs.Ytogbeiifnhegiaa
