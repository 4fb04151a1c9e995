/-
  What keeps off some blocks: a word on memory that outlives stores into those blocks, and whatever is made.
-/
import Derived.Test.YtdjklhglkmacbaaDoorTlv18
import Derived.Test.YtdjklhglkmacbaaDoorOwnV
import Derived.Test.YtdjklhglkmacbaaDoorMine
namespace Go.Proofs.YtdjklhglkmacbaaDoor
open Go.RowKit
set_option linter.unusedVariables false
set_option linter.unusedSimpArgs false

/-- P holds of the world, and of each that agrees with it but for the blocks xs and what is new. -/
def Off (xs : List Nat) (P : World → Prop) (w : World) : Prop := ∀ w' : World, w.heap.size ≤ w'.heap.size → (∀ g, g ∉ xs → g < w.heap.size → w'.heap[g]? = w.heap[g]?) → P w'
section
variable {xs ys : List Nat} {P Q : World → Prop} {w w' : World}
theorem Off.at_ (h : Off xs P w) : P w := h w (Nat.le_refl _) fun _ _ _ => rfl
theorem Off.keep (h : Off xs P w) (hs : w.heap.size ≤ w'.heap.size) (hk : ∀ g, g ∉ xs → g < w.heap.size → w'.heap[g]? = w.heap[g]?) (hx : ∀ g, g ∈ ys → g ∈ xs ∨ w.heap.size ≤ g) : Off ys P w' := fun w2 h2 h3 =>
  h w2 (Nat.le_trans hs h2) fun g h4 h5 => (h3 g (fun h6 => by rcases hx g h6 with h7 | h7; exact h4 h7; omega) (by omega)).trans (hk g h4 h5)
theorem Off.under (h : Off xs P w) (hb : Below w.heap.size w w') : Off xs P w' := h.keep hb.size (fun g _ hg => hb.block g hg) (fun g hg => .inl hg)
theorem Off.alloc (h : Off xs P w) (o : Obj) : Off xs P (w.alloc o) := h.under ((Below.refl _ _).alloc (Nat.le_refl _) o)
theorem Off.drewN (h : Off xs P w) (n : Nat) : Off xs P (w.drewN n) := h
theorem Off.drew (h : Off xs P w) : Off xs P w.drew := h
theorem Off.store (h : Off xs P w) {p : Addr} (hp : p.block ∈ xs) (u : Value) : Off xs P (w.setCell p u) := h.keep (by simp [World.setCell]) (fun g hg _ => Below.heap_setCell w p u g (fun e => hg (by rw [e]; exact hp))) (fun g hg => .inl hg)
theorem Off.grown (h : Off xs P w) {g : Nat} (hb : w.grownBy w' (some g)) (hg : g ∈ xs) : Off xs P w' := h.keep hb.size (fun k h1 h2 => hb.block k h2 (fun e => h1 (by injection e with e; rw [e]; exact hg))) (fun g hg => .inl hg)
theorem Off.new (h : Off xs P w) {g : Nat} (hg : w.heap.size ≤ g) : Off (g :: xs) P w := h.keep (Nat.le_refl _) (fun _ _ _ => rfl) (fun k hk => by rcases List.mem_cons.1 hk with rfl | hk; exact .inr hg; exact .inl hk)
theorem Off.less (h : Off xs P w) (hx : ∀ g, g ∈ ys → g ∈ xs) : Off ys P w := h.keep (Nat.le_refl _) (fun _ _ _ => rfl) (fun k hk => .inl (hx k hk))
theorem Off.imp (h : Off xs P w) (hi : ∀ w, P w → Q w) : Off xs Q w := fun w2 h2 h3 => hi w2 (h w2 h2 h3)
theorem Off.and (h : Off xs P w) (h' : Off xs Q w) : Off xs (fun w => P w ∧ Q w) w := fun w2 h2 h3 => ⟨h w2 h2 h3, h' w2 h2 h3⟩
theorem Off.all {α : Type} {l : List α} {R : α → World → Prop} (h : ∀ x ∈ l, Off xs (R x) w) : Off xs (fun w => ∀ x ∈ l, R x w) w := fun w2 h2 h3 x hx => h x hx w2 h2 h3
end

/-! A thing. -/
def ThP (t : Lt) (w : World) : Prop := TrAt w w.heap.size t
theorem Rd.congr {k : IntKind} {w w' : World} {B : Nat} {A : Option Addr} {c : Nat} {l : List Nat} (h : Rd k w B A c l) (hk : ∀ g, g < B → w'.heap[g]? = w.heap[g]?) : Rd k w' B A c l :=
  h.keep fun b o hb => by simp only [World.cell?]; rw [hk b hb]
theorem RowT.congr {w w' : World} {B : Nat} {A : Option Addr} {c : Nat} {l : List Lt} (h : RowT w B A c l) (hk : ∀ g, g < B → w'.heap[g]? = w.heap[g]?) : RowT w' B A c l :=
  ⟨h.1, h.2.1, fun hn => by
    obtain ⟨b, off, e, hlt, hc⟩ := h.2.2 hn
    have k : ∀ o, w'.cell? ⟨b, o, none⟩ = w.cell? ⟨b, o, none⟩ := fun o => by simp only [World.cell?]; rw [hk b hlt]
    exact ⟨b, off, e, hlt, fun j hj => ⟨(k _).trans (hc j hj).1, (k _).trans (hc j hj).2.1, (k _).trans (hc j hj).2.2⟩⟩⟩
theorem TrAt.congr {w w' : World} {B : Nat} (hk : ∀ g, g < B → w'.heap[g]? = w.heap[g]?) : ∀ (N : Nat) {t : Lt}, t.sz < N → TrAt w B t → TrAt w' B t
  | 0, _, h, _ => by omega
  | N + 1, .mk tag ba bc body ka kc kids, h, hr => by
    rw [trAt_mk] at hr ⊢
    obtain ⟨h1, h2, h3, h4, h5⟩ := hr
    exact ⟨h1, h2.congr hk, h3, h4.congr hk, fun j hj => TrAt.congr hk N (by have := lt_kid (tag := tag) (ba := ba) (bc := bc) (body := body) (ka := ka) (kc := kc) hj; omega) (h5 j hj)⟩
/-- What came in keeps off what is new. -/
theorem Off.of_at {w : World} {t : Lt} {B : Nat} (h : TrAt w B t) (hB : B ≤ w.heap.size) : Off [] (ThP t) w := fun w' h2 h3 =>
  ((TrAt.congr (fun g hg => h3 g (by simp) (by omega)) (t.sz + 1) (Nat.lt_succ_self _) h)).more' (by omega)
theorem Off.of_rd {k : IntKind} {w : World} {B : Nat} {A : Option Addr} {c : Nat} {l : List Nat} (h : Rd k w B A c l) (hB : B ≤ w.heap.size) : Off [] (fun w => Rd k w w.heap.size A c l) w := fun w' h2 h3 =>
  (h.congr (fun g hg => h3 g (by simp) (by omega))).more (by omega)
theorem ThP.iff {w : World} {tag : Nat} {ba : Option Addr} {bc : Nat} {body : List Nat} {ka : Option Addr} {kc : Nat} {kids : List Lt} :
    ThP (.mk tag ba bc body ka kc kids) w ↔ tag < 256 ∧ Rd .u8 w w.heap.size ba bc body ∧ (∀ x ∈ body, x < 256) ∧ RowT w w.heap.size ka kc kids ∧ ∀ j, j < kids.length → ThP (kids.getD j default) w := trAt_mk
/-- Bytes of one's own. -/
theorem Off.of_mine {xs : List Nat} {w : World} {B : Nat} {A : Option Addr} {c : Nat} {l : List Nat} (h : Mine 5 w B A c l) (hx : ∀ g, blk_of A = some g → g ∉ xs) : Off xs (fun w => Rd .u8 w w.heap.size A c l) w := fun w' h2 h3 =>
  (h.keep fun g hg => h3 g (hx g hg) (h.block hg).2).rd
theorem off_body {xs : List Nat} {w : World} {tag c : Nat} {A : Option Addr} {l : List Nat} (h : Off xs (fun w => Rd .u8 w w.heap.size A c l) w) (ht : tag < 256) (ho : ∀ x ∈ l, x < 256) : Off xs (ThP (.mk tag A c l none 0 [])) w :=
  h.imp fun w hr => ThP.iff.2 ⟨ht, hr, ho, ⟨by simp, by omega, fun hn => by simp at hn⟩, fun j hj => by simp at hj⟩
/-- Things in a row. -/
def KiP (A : Option Addr) (c : Nat) (ks : List Lt) (w : World) : Prop := RowT w w.heap.size A c ks ∧ ∀ x ∈ ks, ThP x w
theorem getD_mem {α : Type} [Inhabited α] {l : List α} {j : Nat} (h : j < l.length) : l.getD j default ∈ l := by simp [List.getD, h]
theorem off_kids {xs : List Nat} {w : World} {tag c : Nat} {A : Option Addr} {ks : List Lt} (h : Off xs (KiP A c ks) w) (ht : tag < 256) : Off xs (ThP (.mk tag none 0 [] A c ks)) w :=
  h.imp fun w hr => ThP.iff.2 ⟨ht, Rd.nil_ _ _ _, by simp, hr.1, fun j hj => hr.2 _ (getD_mem hj)⟩
theorem kids_off {xs : List Nat} {w : World} {tag bc c : Nat} {ba A : Option Addr} {body : List Nat} {ks : List Lt} (h : Off xs (ThP (.mk tag ba bc body A c ks)) w) : Off xs (KiP A c ks) w :=
  h.imp fun w hr => by
    obtain ⟨_, _, _, h4, h5⟩ := ThP.iff.1 hr
    exact ⟨h4, fun x hx => by
      obtain ⟨j, hj, rfl⟩ := List.getElem_of_mem hx
      have := h5 j hj
      simpa [List.getD, hj] using this⟩
theorem body_off {xs : List Nat} {w : World} {tag bc c : Nat} {ba A : Option Addr} {body : List Nat} {ks : List Lt} (h : Off xs (ThP (.mk tag ba bc body A c ks)) w) : Off xs (fun w => Rd .u8 w w.heap.size ba bc body) w :=
  h.imp fun w hr => (ThP.iff.1 hr).2.1
theorem KiP.kid {xs : List Nat} {w : World} {c j : Nat} {A : Option Addr} {ks : List Lt} (h : Off xs (KiP A c ks) w) (hj : j < ks.length) : Off xs (ThP (ks.getD j default)) w := h.imp fun w hr => hr.2 _ (getD_mem hj)
theorem RowT.of_ownV {w : World} {A : Option Addr} {c n : Nat} {l : List Lt} (hl : l.length = n) (h : OwnV 31 3 w A c n (l.flatMap lcell)) : RowT w w.heap.size A c l := RowT.of_own hl h
theorem off_own {xs : List Nat} {w : World} {c n : Nat} {A : Option Addr} {l : List Lt} (hl : l.length = n) (h : OwnV 31 3 w A c n (l.flatMap lcell)) (hx : ∀ g, blockOf A = some g → g ∉ xs) (hk : ∀ x ∈ l, Off xs (ThP x) w) : Off xs (KiP A c l) w := fun w' h2 h3 =>
  ⟨by
    have h' : OwnV 31 3 w' A c n (l.flatMap lcell) := h.keep fun g hg hlt => h3 g (hx g hg) hlt
    have h4 := RowT.of_own hl h'
    exact h4, fun x hx2 => hk x hx2 w' h2 h3⟩
/-- A row of things laid at once. -/
theorem off_row {xs : List Nat} {w : World} {l : List Lt} (hk : ∀ x ∈ l, Off xs (ThP x) w) (hx : w.heap.size ∉ xs) (hl : l.length ≤ 9223372036854775807) : Off xs (KiP (some ⟨w.heap.size, 0, none⟩) l.length l) (w.alloc (.cells (l.flatMap lcell).toArray 31)) := by
  have hH := Holds.fresh w 31 (l.flatMap lcell).toArray
  intro w' h2 h3
  have hs : (w.alloc (.cells (l.flatMap lcell).toArray 31)).heap.size = w.heap.size + 1 := by simp
  have hH' : Holds w' w.heap.size 31 (l.flatMap lcell).toArray := (h3 _ hx (by omega)).trans hH
  refine ⟨⟨Nat.le_refl _, hl, fun hn => ⟨w.heap.size, 0, rfl, by omega, fun j hj => ?_⟩⟩, fun x hx2 => (hk x hx2).alloc _ w' h2 h3⟩
  have e : l[j]? = some (l.getD j default) := by simp [List.getD, hj]
  have f : ∀ t, t < 3 → (l.flatMap lcell)[3 * j + t]? = (lcell (l.getD j default))[t]? := fun t ht => flat_at (f := lcell) (m := 3) (L := l) (fun _ _ => rfl) e (j := t) ht
  have k : ∀ t, t < 3 → ∀ v, (lcell (l.getD j default))[t]? = some v → w'.cell? ⟨w.heap.size, 3 * j + t, none⟩ = some v := fun t ht v hv => by
    rw [hH'.cell, List.getElem?_toArray, f t ht, hv]
  exact ⟨by rw [show 0 + j * 3 = 3 * j + 0 by omega]; exact k 0 (by omega) _ rfl, by rw [show 0 + j * 3 + 1 = 3 * j + 1 by omega]; exact k 1 (by omega) _ rfl, by rw [show 0 + j * 3 + 2 = 3 * j + 2 by omega]; exact k 2 (by omega) _ rfl⟩
/-- What a function that makes a thing answers. -/
def MadeT (w : World) (xs : List Nat) (T : Tr) (e : Ending) (w' : World) : Prop := ∃ lt : Lt, e = .returned lt.val ∧ lt.t = T ∧ Off xs (ThP lt) w' ∧ Below w.heap.size w w'
end Go.Proofs.YtdjklhglkmacbaaDoor
