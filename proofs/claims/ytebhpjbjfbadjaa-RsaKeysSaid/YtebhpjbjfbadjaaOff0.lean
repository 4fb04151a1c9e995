/-
  What keeps off some blocks, without things (the first part of Off, for seats that know no things).
-/
import Derived.Test.YtebhpjbjfbadjaaRead
namespace Go.Proofs.Ytebhpjbjfbadjaa
open Go.RowKit
set_option linter.unusedVariables false
set_option linter.unusedSimpArgs false

/-- P holds of the world, and of each that agrees with it but for the blocks xs and what is new. -/
def Off (xs : List Nat) (P : World → Prop) (w : World) : Prop := ∀ w' : World, w.heap.size ≤ w'.heap.size → (∀ g, g ∉ xs → g < w.heap.size → w'.heap[g]? = w.heap[g]?) → P w'
section
variable {xs ys : List Nat} {P Q : World → Prop} {w w' : World}
theorem Off.at_ (h : Off xs P w) : P w := h w (Nat.le_refl _) fun _ _ _ => rfl
theorem Off.keep (h : Off xs P w) (hs : w.heap.size ≤ w'.heap.size) (hk : ∀ g, g ∉ xs → g < w.heap.size → w'.heap[g]? = w.heap[g]?) (hx : ∀ g, g ∈ ys → g ∈ xs ∨ w.heap.size ≤ g) : Off ys P w' := fun w2 h2 h3 =>
  h w2 (Nat.le_trans hs h2) fun g h4 h5 => (h3 g (fun h6 => by rcases hx g h6 with h7 | h7; exact h4 h7; omega) (by omega)).trans (hk g h4 h5)
theorem Off.under (h : Off xs P w) (hb : Below w.heap.size w w') : Off xs P w' := h.keep hb.size (fun g _ hg => hb.block g hg) (fun g hg => .inl hg)
theorem Off.alloc (h : Off xs P w) (o : Obj) : Off xs P (w.alloc o) := h.under ((Below.refl _ _).alloc (Nat.le_refl _) o)
theorem Off.drewN (h : Off xs P w) (n : Nat) : Off xs P (w.drewN n) := h
theorem Off.drew (h : Off xs P w) : Off xs P w.drew := h
theorem Off.store (h : Off xs P w) {p : Addr} (hp : p.block ∈ xs) (u : Value) : Off xs P (w.setCell p u) := h.keep (by simp [World.setCell]) (fun g hg _ => Below.heap_setCell w p u g (fun e => hg (by rw [e]; exact hp))) (fun g hg => .inl hg)
theorem Off.grown (h : Off xs P w) {g : Nat} (hb : w.grownBy w' (some g)) (hg : g ∈ xs) : Off xs P w' := h.keep hb.size (fun k h1 h2 => hb.block k h2 (fun e => h1 (by injection e with e; rw [e]; exact hg))) (fun g hg => .inl hg)
theorem Off.new (h : Off xs P w) {g : Nat} (hg : w.heap.size ≤ g) : Off (g :: xs) P w := h.keep (Nat.le_refl _) (fun _ _ _ => rfl) (fun k hk => by rcases List.mem_cons.1 hk with rfl | hk; exact .inr hg; exact .inl hk)
theorem Off.less (h : Off xs P w) (hx : ∀ g, g ∈ ys → g ∈ xs) : Off ys P w := h.keep (Nat.le_refl _) (fun _ _ _ => rfl) (fun k hk => .inl (hx k hk))
theorem Off.imp (h : Off xs P w) (hi : ∀ w, P w → Q w) : Off xs Q w := fun w2 h2 h3 => hi w2 (h w2 h2 h3)
theorem Off.and (h : Off xs P w) (h' : Off xs Q w) : Off xs (fun w => P w ∧ Q w) w := fun w2 h2 h3 => ⟨h w2 h2 h3, h' w2 h2 h3⟩
theorem Off.all {α : Type} {l : List α} {R : α → World → Prop} (h : ∀ x ∈ l, Off xs (R x) w) : Off xs (fun w => ∀ x ∈ l, R x w) w := fun w2 h2 h3 x hx => h x hx w2 h2 h3
end

theorem Rd.congr {k : IntKind} {w w' : World} {B : Nat} {A : Option Addr} {c : Nat} {l : List Nat} (h : Rd k w B A c l) (hk : ∀ g, g < B → w'.heap[g]? = w.heap[g]?) : Rd k w' B A c l :=
  h.keep fun b o hb => by simp only [World.cell?]; rw [hk b hb]
theorem Off.of_rd {k : IntKind} {w : World} {B : Nat} {A : Option Addr} {c : Nat} {l : List Nat} (h : Rd k w B A c l) (hB : B ≤ w.heap.size) : Off [] (fun w => Rd k w w.heap.size A c l) w := fun w' h2 h3 =>
  (h.congr (fun g hg => h3 g (by simp) (by omega))).more (by omega)
end Go.Proofs.Ytebhpjbjfbadjaa
