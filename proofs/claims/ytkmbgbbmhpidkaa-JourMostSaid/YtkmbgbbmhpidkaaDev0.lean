/-
  Words on a disk of sectors: sectors in a block, writes that wait, what is kept.
-/
import Derived.Test.YtkmbgbbmhpidkaaChecked
import Derived.WalkKit
import Derived.WalkSpells
import Derived.WalkLawsBesides
import Derived.Outline
import Derived.BigQuiet
import Derived.Deep.QuietTactic
import Derived.IntWalk
import Derived.Test.YtkmbgbbmhpidkaaMem
import Derived.Test.YtkmbgbbmhpidkaaRead
import Derived.Test.YtkmbgbbmhpidkaaOwn
import Derived.Deep.MidRow
namespace Go.Proofs.Ytkmbgbbmhpidkaa
open Go.RowKit
set_option linter.unusedVariables false

/-! Rows of rows. -/
theorem flat_length {α β : Type} {f : α → List β} {m : Nat} : ∀ {L : List α}, (∀ x ∈ L, (f x).length = m) → (L.flatMap f).length = m * L.length
  | [], _ => rfl
  | x :: L, h => by
    rw [List.flatMap_cons, List.length_append, h x (by simp), flat_length (L := L) (fun y hy => h y (by simp [hy])), List.length_cons, Nat.mul_add, Nat.mul_one, Nat.add_comm]
theorem flat_at {α β : Type} {f : α → List β} {m : Nat} : ∀ {L : List α}, (∀ x ∈ L, (f x).length = m) → ∀ {i j : Nat} {x : α}, L[i]? = some x → j < m → (L.flatMap f)[m * i + j]? = (f x)[j]?
  | [], _, i, j, x, hx, _ => by simp at hx
  | y :: L, h, 0, j, x, hx, hj => by
    obtain rfl : y = x := by simpa using hx
    rw [List.flatMap_cons, Nat.mul_zero, Nat.zero_add, List.getElem?_append_left (by rw [h y (by simp)]; exact hj)]
  | y :: L, h, i + 1, j, x, hx, hj => by
    have hx' : L[i]? = some x := by simpa using hx
    rw [List.flatMap_cons, List.getElem?_append_right (by rw [h y (by simp), Nat.mul_add]; omega), h y (by simp), show m * (i + 1) + j - m = m * i + j by rw [Nat.mul_add]; omega]
    exact flat_at (fun z hz => h z (by simp [hz])) hx' hj

/-- Cells laid over a block from place o on. -/
theorem setCells_whole {g : Nat} {e : TypeId} : ∀ (vs : List Value) (o : Nat) (w : World) (cur : Array Value), w.heap[g]? = some (.cells cur e (0, 0)) → o + vs.length ≤ cur.size →
    ∃ cur', (w.setCells g o vs).heap[g]? = some (.cells cur' e (0, 0)) ∧ cur'.size = cur.size ∧ (∀ j, j < o ∨ o + vs.length ≤ j → cur'[j]? = cur[j]?) ∧ ∀ j, j < vs.length → cur'[o + j]? = vs[j]?
  | [], o, w, cur, h, _ => ⟨cur, h, rfl, fun j _ => rfl, fun j hj => by simp at hj⟩
  | v :: vs, o, w, cur, h, hs => by
    simp only [List.length_cons] at hs
    have h1 : (w.setCell ⟨g, o, none⟩ v).heap[g]? = some (.cells (cur.setIfInBounds o v) e (0, 0)) := by
      simp [World.setCell, Array.getElem?_modify, h]
    obtain ⟨cur', a1, a2, a3, a4⟩ := setCells_whole vs (o + 1) (w.setCell ⟨g, o, none⟩ v) (cur.setIfInBounds o v) h1 (by simp; omega)
    refine ⟨cur', a1, by rw [a2]; simp, fun j hj => ?_, fun j hj => ?_⟩
    · simp only [List.length_cons] at hj
      rw [a3 j (by omega), Array.getElem?_setIfInBounds, if_neg (by omega)]
    · rcases j with _ | j
      · rw [Nat.add_zero, a3 o (by omega), Array.getElem?_setIfInBounds, if_pos rfl, if_pos (by omega)]
        rfl
      · have := a4 j (by simp at hj; omega)
        rw [show o + (j + 1) = o + 1 + j by omega, this]
        rfl
theorem setCells_aside {g k : Nat} (hk : k ≠ g) : ∀ (vs : List Value) (o : Nat) (w : World), (w.setCells g o vs).heap[k]? = w.heap[k]?
  | [], _, _ => rfl
  | v :: vs, o, w => (setCells_aside hk vs (o + 1) _).trans (Below.heap_setCell w ⟨g, o, none⟩ v k hk)
theorem setCells_size (g : Nat) : ∀ (vs : List Value) (o : Nat) (w : World), (w.setCells g o vs).heap.size = w.heap.size
  | [], _, _ => rfl
  | v :: vs, o, w => (setCells_size g vs (o + 1) _).trans (by simp [World.setCell])

/-- Only blocks of F, and new ones, have turned. -/
structure Only (F : Nat → Prop) (w w' : World) : Prop where
  os : w'.os = w.os
  tape : w'.tape = w.tape
  output : w'.output = w.output
  size : w.heap.size ≤ w'.heap.size
  block : ∀ k, k < w.heap.size → ¬ F k → w'.heap[k]? = w.heap[k]?
section
variable {F G : Nat → Prop} {w w' w2 : World} {B : Nat}
theorem Only.refl (F : Nat → Prop) (w : World) : Only F w w := ⟨rfl, rfl, rfl, Nat.le_refl _, fun _ _ _ => rfl⟩
theorem Only.trans (h : Only F w w') (h2 : Only G w' w2) (hg : ∀ k, k < w.heap.size → G k → F k) : Only F w w2 :=
  ⟨h2.os.trans h.os, h2.tape.trans h.tape, h2.output.trans h.output, Nat.le_trans h.size h2.size, fun k hk hF => (h2.block k (Nat.lt_of_lt_of_le hk h.size) (fun e => hF (hg k hk e))).trans (h.block k hk hF)⟩
theorem Only.more (h : Only G w w') (hg : ∀ k, k < w.heap.size → G k → F k) : Only F w w' := ⟨h.os, h.tape, h.output, h.size, fun k hk hF => h.block k hk fun e => hF (hg k hk e)⟩
theorem Only.drewN (h : Only F w w') (n : Nat) : Only F w (w'.drewN n) := ⟨h.os, h.tape, h.output, h.size, h.block⟩
theorem Only.drew (h : Only F w w') : Only F w w'.drew := ⟨h.os, h.tape, h.output, h.size, h.block⟩
theorem Only.alloc (h : Only F w w') (o : Obj) : Only F w (w'.alloc o) := ⟨h.os, h.tape, h.output, Nat.le_trans h.size (by simp), fun k hk hF => (Below.heap_alloc w' o k (Nat.lt_of_lt_of_le hk h.size)).trans (h.block k hk hF)⟩
theorem Only.setCell (h : Only F w w') {p : Addr} (hp : F p.block ∨ w.heap.size ≤ p.block) (v : Value) : Only F w (w'.setCell p v) :=
  ⟨h.os, h.tape, h.output, by simpa [World.setCell] using h.size, fun k hk hF => (Below.heap_setCell w' p v k (fun e => by subst e; rcases hp with hp | hp; exact hF hp; omega)).trans (h.block k hk hF)⟩
theorem Only.setCells {F : Nat → Prop} {w : World} {g : Nat} (hp : F g ∨ w.heap.size ≤ g) : ∀ (vs : List Value) (o : Nat) {w' : World}, Only F w w' → Only F w (w'.setCells g o vs)
  | [], _, _, h => h
  | v :: vs, o, _, h => Only.setCells hp vs (o + 1) (h.setCell (p := ⟨g, o, none⟩) hp v)
theorem Only.grown {r : Option Nat} (h : Only F w w') (hg : w'.grownBy w2 r) (hr : ∀ g, r = some g → F g ∨ w.heap.size ≤ g) : Only F w w2 :=
  ⟨hg.os.trans h.os, hg.tape.trans h.tape, hg.output.trans h.output, Nat.le_trans h.size hg.size, fun k hk hF => (hg.block k (Nat.lt_of_lt_of_le hk h.size) (fun e => by rcases hr k e.symm with h1 | h1; exact hF h1; omega)).trans (h.block k hk hF)⟩
theorem Only.below (h : Only F w w') (hF : ∀ k, F k → B ≤ k) (hB : B ≤ w.heap.size) : Below B w w' := ⟨h.os, h.tape, h.output, h.size, fun k hk => h.block k (by omega) (fun e => by have := hF k e; omega)⟩
theorem Only.of_below (h : Below w.heap.size w w') : Only F w w' := ⟨h.os, h.tape, h.output, h.size, fun k hk _ => h.block k hk⟩
end
/-- F, and what is new. -/
def grow (F : Nat → Prop) (w w' : World) (k : Nat) : Prop := F k ∨ (w.heap.size ≤ k ∧ k < w'.heap.size)

/-- Block g is these sectors. -/
def Sect (w : World) (g : Nat) (L : List (List Nat)) : Prop :=
  ∃ cs e, w.heap[g]? = some (.cells cs e (0, 0)) ∧ cs.size = 64 * L.length ∧ ∀ i x, L[i]? = some x → x.length = 64 ∧ ∀ j, j < 64 → cs[64 * i + j]? = (vals .u8 x)[j]?
section
variable {w w' : World} {g : Nat} {L : List (List Nat)}
theorem Sect.keep (h : Sect w g L) (hk : w'.heap[g]? = w.heap[g]?) : Sect w' g L := by
  obtain ⟨cs, e, h1, h2⟩ := h
  exact ⟨cs, e, hk.trans h1, h2⟩
theorem Sect.lt (h : Sect w g L) : g < w.heap.size := by
  obtain ⟨cs, e, h1, h2⟩ := h
  exact (Array.getElem?_eq_some_iff.1 h1).1
theorem Sect.len (h : Sect w g L) {i : Nat} {x : List Nat} (hx : L[i]? = some x) : x.length = 64 := by
  obtain ⟨cs, e, h1, h2, h3⟩ := h
  exact (h3 i x hx).1
theorem Sect.range (h : Sect w g L) {i : Nat} {x : List Nat} (hx : L[i]? = some x) : w.rangeAt g (i * 64) (vals .u8 x) := by
  rw [Nat.mul_comm]
  obtain ⟨cs, e, h1, h2, h3⟩ := h
  intro j v hv
  obtain ⟨hl, hc⟩ := h3 i x hx
  have hj : j < 64 := by have := (List.getElem?_eq_some_iff.1 hv).1; rw [vals_length] at this; omega
  rw [cell_of_row w g _ cs e (0, 0) h1, hc j hj, hv]
theorem Sect.there (h : Sect w g L) {i : Nat} (hi : i < L.length) : w.there g (i * 64) 64 := by
  rw [Nat.mul_comm]
  obtain ⟨cs, e, h1, h2, h3⟩ := h
  intro j hj
  refine ⟨?_, by simp [World.frozen?, h1]⟩
  rw [cell_of_row w g _ cs e (0, 0) h1, Array.getElem?_eq_getElem (by omega)]; rfl
theorem Sect.store (h : Sect w g L) {i : Nat} (hi : i < L.length) {x : List Nat} (hx : x.length = 64) : Sect (w.setCells g (i * 64) (vals .u8 x)) g (L.set i x) := by
  rw [Nat.mul_comm]
  obtain ⟨cs, e, h1, h2, h3⟩ := h
  obtain ⟨cs', a1, a2, a3, a4⟩ := setCells_whole (vals .u8 x) (64 * i) w cs h1 (by rw [vals_length, hx]; omega)
  rw [vals_length, hx] at a3 a4
  refine ⟨cs', e, a1, by rw [a2, h2, List.length_set], fun k y hy => ?_⟩
  by_cases hk : i = k
  · subst hk
    obtain rfl : x = y := by simpa [hi] using hy
    exact ⟨hx, fun j hj => a4 j hj⟩
  · rw [List.getElem?_set_ne hk] at hy
    obtain ⟨b1, b2⟩ := h3 k y hy
    refine ⟨b1, fun j hj => ?_⟩
    rw [a3 _ (by omega)]
    exact b2 j hj
end

/-- Writes that wait, as cells. -/
def wcell (p : Nat × List Nat) : List Value := .int .i64 (p.1 : Int) :: vals .u8 p.2
def wcells (W : List (Nat × List Nat)) : List Value := W.flatMap wcell
theorem wcells_snoc (W : List (Nat × List Nat)) (p : Nat × List Nat) : wcells (W ++ [p]) = wcells W ++ wcell p := by simp [wcells]
/-- The slice '.slice A W.length c' holds the writes W. -/
structure Waits (w : World) (A : Option Addr) (c : Nat) (W : List (Nat × List Nat)) : Prop where
  own : w.ownsRow 0 88 65 (.slice A W.length c) W.length (wcells W)
  len : ∀ p ∈ W, p.2.length = 64
section
variable {w w' : World} {A : Option Addr} {c : Nat} {W : List (Nat × List Nat)}
theorem Waits.nil (w : World) : Waits w none 0 [] := ⟨World.ownsRow_nil w 0 _ 65, fun p hp => by cases hp⟩
theorem Waits.lt (h : Waits w A c W) {g : Nat} (hg : blockOf A = some g) : g < w.heap.size := (World.ownsRow.lt h.own g (by rwa [ownBlock_eq])).2
theorem Waits.keep (h : Waits w A c W) (hk : ∀ g, blockOf A = some g → w'.heap[g]? = w.heap[g]?) : Waits w' A c W := by
  refine ⟨⟨h.own.1, ?_⟩, h.len⟩
  rcases h.own.2 with hn | ⟨g, cap, cur, hv, hB, hgg, rest⟩
  · exact .inl hn
  · refine .inr ⟨g, cap, cur, hv, hB, ?_, rest⟩
    injection hv with hA _ _
    exact (hk g (by rw [hA]; rfl)).trans hgg
theorem Waits.le (h : Waits w A c W) : W.length ≤ c ∧ c ≤ 9223372036854775807 := by
  rcases h.own.2 with ⟨hv, hn⟩ | ⟨g, cap, cur, hv, hB, hgg, h1, h2, rest⟩
  · injection hv with _ _ hc
    omega
  · injection hv with _ _ hc
    unfold maxLen at h2
    omega
theorem Waits.range (h : Waits w A c W) {i : Nat} {p : Nat × List Nat} (hp : W[i]? = some p) : ∃ g, A = some ⟨g, 0, none⟩ ∧ g < w.heap.size ∧ w.rangeAt g (i * 65) (wcell p) := by
  rw [Nat.mul_comm]
  have hi : i < W.length := (List.getElem?_eq_some_iff.1 hp).1
  rcases h.own.2 with ⟨hv, hn⟩ | ⟨g, cap, cur, hv, hB, hgg, h1, h2, h3, h4⟩
  · omega
  · injection hv with hA _ hc
    refine ⟨g, hA, (Array.getElem?_eq_some_iff.1 hgg).1, fun j v hv => ?_⟩
    have h65 : ∀ q ∈ W, (wcell q).length = 65 := fun q hq => by simp [wcell, vals_length, h.len q hq]
    have hj : j < 65 := by have := (List.getElem?_eq_some_iff.1 hv).1; rw [h65 p (List.mem_of_getElem? hp)] at this; exact this
    rw [cell_of_row w g _ cur _ (0, 0) hgg, ← hv, ← flat_at h65 hp hj, ← Array.getElem?_toList, ← List.getElem?_take_of_lt (i := 65 * i + j) (j := W.length * 65) (by omega), h4]
    rfl
end

/-- The slice '.slice K l.length c' reads as these truths. -/
def Truths (w : World) (K : Option Addr) (c : Nat) (l : List Bool) : Prop :=
  l.length ≤ c ∧ c ≤ 9223372036854775807 ∧ (0 < l.length → ∃ b off, K = some ⟨b, off, none⟩ ∧ b < w.heap.size ∧ ∀ j, j < l.length → w.cell? ⟨b, off + j, none⟩ = some (.bool (l.getD j false)))
theorem Truths.nil (w : World) : Truths w none 0 [] := ⟨Nat.le_refl _, by omega, fun h => by simp at h⟩
theorem Truths.keep {w w' : World} {K : Option Addr} {c : Nat} {l : List Bool} (h : Truths w K c l) (hs : w.heap.size ≤ w'.heap.size) (hk : ∀ g, blockOf K = some g → g < w.heap.size → w'.heap[g]? = w.heap[g]?) : Truths w' K c l :=
  ⟨h.1, h.2.1, fun hn => by
    obtain ⟨b, off, e, hb, hc⟩ := h.2.2 hn
    exact ⟨b, off, e, by omega, fun j hj => (World.cell?_of_block (a := ⟨b, off + j, none⟩) (hk b (by rw [e]; rfl) hb)).trans (hc j hj)⟩⟩
theorem Truths.aside {w : World} {K : Option Addr} {c : Nat} {l : List Bool} (h : Truths w K c l) {gd i : Nat} (v : Value) (hne : l ≠ [] → ∀ g, blockOf K = some g → g ≠ gd) : Truths (w.setCell ⟨gd, i, none⟩ v) K c l :=
  ⟨h.1, h.2.1, fun hn => by
    obtain ⟨b, off, e, hb, hc⟩ := h.2.2 hn
    have hbd : b ≠ gd := hne (fun e => by rw [e] at hn; simp at hn) b (by rw [e]; rfl)
    exact ⟨b, off, e, by simpa [World.setCell] using hb, fun j hj => (World.cell?_of_block (a := ⟨b, off + j, none⟩) (Below.heap_setCell w ⟨gd, i, none⟩ v b hbd)).trans (hc j hj)⟩⟩
theorem Truths.under {w w' : World} {K : Option Addr} {c : Nat} {l : List Bool} (h : Truths w K c l) (hb : Below w.heap.size w w') : Truths w' K c l :=
  h.keep hb.size fun g _ hg => hb.block g hg
theorem Truths.lt {w : World} {K : Option Addr} {c : Nat} {l : List Bool} (h : Truths w K c l) (hn : l ≠ []) : ∀ g, blockOf K = some g → g < w.heap.size := fun g hg => by
  obtain ⟨b, off, e, hb, hc⟩ := h.2.2 (by cases l; exact absurd rfl hn; simp)
  rw [e] at hg
  obtain rfl : b = g := by simpa [blockOf] using hg
  exact hb
end Go.Proofs.Ytkmbgbbmhpidkaa
