/-
  A slice of the call's own that grows by append: what it holds, what keeps it.
-/
import Derived.Test.YtkmbgbbmhpidkaaMem
import Derived.Test.YtkmbgbbmhpidkaaRead
import Derived.Maps.AppendAt
import Derived.Deep.AppendLies
namespace Go.Proofs.Ytkmbgbbmhpidkaa
open Go.RowKit

def vals (k : IntKind) (l : List Nat) : List Value := l.map fun x : Nat => Value.int k (x : Int)
theorem vals_length (k : IntKind) (l : List Nat) : (vals k l).length = l.length := by simp [vals]
theorem vals_append (k : IntKind) (l m : List Nat) : vals k l ++ vals k m = vals k (l ++ m) := by simp [vals]
theorem vals_one (k : IntKind) (l : List Nat) : ∀ u ∈ vals k l, u.oneCell' = true := by
  intro u hu
  obtain ⟨x, _, rfl⟩ := List.mem_map.1 hu
  rfl
theorem vals_at (k : IntKind) (l : List Nat) {i : Nat} (h : i < l.length) : (vals k l)[i]? = some (.int k ((l.getD i 0 : Nat) : Int)) := by
  simp [vals, List.getD, h]

/-- The slice '.slice A l.length c' is the call's own from block B on: it holds the numbers l. -/
def Own (k : IntKind) (e : TypeId) (w : World) (B : Nat) (A : Option Addr) (c : Nat) (l : List Nat) : Prop :=
  w.ownsRow B e 1 (.slice A l.length c) l.length (vals k l)

/-- Its block. -/
def blockOf (A : Option Addr) : Option Nat := A.map (·.block)
theorem ownBlock_eq (A : Option Addr) (n c : Nat) : Value.ownBlock (.slice A n c) = blockOf A := by cases A <;> rfl

section
variable {k : IntKind} {e : TypeId} {w w' : World} {B : Nat} {A : Option Addr} {c : Nat} {l : List Nat}
theorem Own.nil (k : IntKind) (e : TypeId) (w : World) (B : Nat) : Own k e w B none 0 [] := World.ownsRow_nil w B e 1
theorem Own.kept {row : Option Nat} (h : Own k e w B A c l) (hg : w.grownBy w' row) (hne : blockOf A = none ∨ blockOf A ≠ row) : Own k e w' B A c l :=
  World.ownsRow.kept h hg (by rwa [ownBlock_eq])
theorem Own.alloc (h : Own k e w B A c l) (o : Obj) : Own k e (w.alloc o) B A c l := World.ownsRow.alloc h o
theorem Own.drewN (h : Own k e w B A c l) (n : Nat) : Own k e (w.drewN n) B A c l := h
theorem Own.block (h : Own k e w B A c l) {g : Nat} (hg : blockOf A = some g) : B ≤ g ∧ g < w.heap.size := World.ownsRow.lt h g (by rwa [ownBlock_eq])
theorem Own.of_row {g : Nat} (hB : B ≤ g) (hc : l.length ≤ 9223372036854775807) (h : Holds w g e (nums k l)) : Own k e w B (some ⟨g, 0, none⟩) l.length l :=
  ⟨by simp [vals], .inr ⟨g, l.length, nums k l, rfl, hB, h, Nat.le_refl _, hc, by simp [nums], by rw [Nat.mul_one]; simp only [nums, vals]; exact List.take_of_length_le (by simp)⟩⟩
theorem Own.under {B' : Nat} (h : Own k e w B A c l) (hb : Below B' w w') (hlt : ∀ g, blockOf A = some g → g < B') : Own k e w' B A c l := by
  refine ⟨h.1, ?_⟩
  rcases h.2 with hn | ⟨g, cap, cur, hv, hBg, hgg, rest⟩
  · exact .inl hn
  · refine .inr ⟨g, cap, cur, hv, hBg, ?_, rest⟩
    injection hv with hA _ _
    rw [hb.block g (hlt g (by rw [hA]; rfl))]
    exact hgg
theorem Own.under_all (h : Own k e w B A c l) (hb : Below w.heap.size w w') : Own k e w' B A c l := h.under hb fun _ hg => (h.block hg).2
theorem Own.aside (h : Own k e w B A c l) {p : Addr} (hp : blockOf A ≠ some p.block) (u : Value) : Own k e (w.setCell p u) B A c l := by
  refine ⟨h.1, ?_⟩
  rcases h.2 with hn | ⟨g, cap, cur, hv, hBg, hgg, rest⟩
  · exact .inl hn
  · refine .inr ⟨g, cap, cur, hv, hBg, ?_, rest⟩
    injection hv with hA _ _
    exact (Below.heap_setCell w p u g (fun e => hp (by rw [hA, ← e]; rfl))).trans hgg
theorem Own.rd (h : Own k e w B A c l) : Rd k w w.heap.size A c l := by
  rcases h.2 with ⟨hv, hn⟩ | ⟨g, cap, cur, hv, hBg, hgg, hle, hm, hs, ht⟩
  · injection hv with hA _ hc
    subst hA; subst hc
    refine ⟨by omega, by omega, fun h0 => by omega⟩
  · injection hv with hA _ hc
    subst hA; subst hc
    refine ⟨hle, hm, fun h0 => ⟨g, 0, rfl, (Array.getElem?_eq_some_iff.1 hgg).1, fun j hj => ?_⟩⟩
    rw [Nat.zero_add, cell_of_row w g j cur e (0, 0) hgg]
    have h1 := vals_at k l hj
    rw [← ht, Nat.mul_one, List.getElem?_take_of_lt hj, Array.getElem?_toList] at h1
    exact h1
/-- It lies in no block that is known whole and of another element type. -/
theorem Own.apart (h : Own k e w B A c l) {g : Nat} {t : TypeId} {cs : Array Value} (hg : Holds w g t cs) (hne : e ≠ t) : blockOf A ≠ some g := by
  rcases h.2 with ⟨hv, _⟩ | ⟨g', cap, cur, hv, hBg, hgg, _⟩
  · injection hv with hA _ _
    subst hA; simp [blockOf]
  · injection hv with hA _ _
    subst hA
    intro he
    have : g' = g := by simpa [blockOf] using he
    subst this
    have hg' : w.heap[g']? = some (.cells cs t (0, 0)) := hg
    rw [hgg] at hg'
    injection hg' with h1
    injection h1 with _ h2 _
    exact hne h2
end

section
variable {P : Program} (w : World) {ops : Array Oper} {rest : List Oper} {o : Oper} {a : Act} {Q : Exit → Act → World → Prop}
/-- append of a literal row's numbers. -/
theorem wpList_push (hgd : o.guard = none) (s x : Operand) (t : TypeId) (ho : o.op = .call { callee := .builtin .append, args := #[s, x], argTypes := #[t, t] })
    (k : IntKind) (B : Nat) (e : TypeId) (bytes : Nat) (ht : P.underlying t = some (.slice e)) (hi : (P.info? e).map (fun i => (i.zero, i.size, i.bytes)) = some (some (.int k 0), 1, bytes))
    (A : Option Addr) (n c : Nat) (l : List Nat) (hs : a.eval s = .slice A n c) (hn : l.length = n) (hown : Own k e w B A c l)
    (g m c2 : Nat) (news : List Nat) (hx : a.eval x = .slice (some ⟨g, 0, none⟩) m c2) (hm : news.length = m) (hg : Holds w g e (nums k news)) (hm0 : 0 < m) (hsz : n + m ≤ 100000000) (hby : bytes ≤ 8) (hB : B ≤ w.heap.size)
    (hK : ∀ g' c' w', Own k e w' B (some ⟨g', 0, none⟩) c' (l ++ news) → w.grownBy w' (blockOf A) → (blockOf A = some g' ∨ g' = w.heap.size) → wpList P ops Q rest (a.put o.dst (.slice (some ⟨g', 0, none⟩) (n + m) c')) w') :
    wpList P ops Q (o :: rest) a w := by
  subst hn; subst hm
  obtain ⟨i, hi', hz, hsize, hbytes⟩ := info_parts hi
  refine wpList_append_lies w hgd s x t ho B e i (.int k 0) 1 bytes ht hi' hz hsize hbytes rfl (by omega) (.slice A l.length c) l.length (vals k l) hs hown ⟨g, 0, none⟩ news.length c2 (vals k news) hx (by rw [vals_length]; omega)
    (fun j u hu => World.news_of_block (cs := nums k news) hg j u (by simpa [nums, vals] using hu)) (vals_one k news) hm0 (by unfold maxLen; omega)
    (Nat.le_trans (Nat.mul_le_mul hsz hby) (by omega)) hB w.heap.size rfl ?_
  intro g' cap w' hown' hgr hat hlt
  rw [ownBlock_eq] at hgr hat
  refine hK g' cap w' ?_ hgr hat
  unfold Own
  rw [List.length_append, ← vals_append]
  exact hown'
/-- The same at a step of a region that draws its order. -/
theorem step_push {K : Act → World → Prop} {E : Prop} (hgd : o.guard = none) (s x : Operand) (t : TypeId) (ho : o.op = .call { callee := .builtin .append, args := #[s, x], argTypes := #[t, t] })
    (k : IntKind) (B : Nat) (e : TypeId) (bytes : Nat) (ht : P.underlying t = some (.slice e)) (hi : (P.info? e).map (fun i => (i.zero, i.size, i.bytes)) = some (some (.int k 0), 1, bytes))
    (A : Option Addr) (n c : Nat) (l : List Nat) (hs : a.eval s = .slice A n c) (hn : l.length = n) (hown : Own k e w B A c l)
    (g m c2 : Nat) (news : List Nat) (hx : a.eval x = .slice (some ⟨g, 0, none⟩) m c2) (hm : news.length = m) (hg : Holds w g e (nums k news)) (hm0 : 0 < m) (hsz : n + m ≤ 100000000) (hby : bytes ≤ 8) (hB : B ≤ w.heap.size)
    (hK : ∀ g' c' w', Own k e w' B (some ⟨g', 0, none⟩) c' (l ++ news) → w.grownBy w' (blockOf A) → (blockOf A = some g' ∨ g' = w.heap.size) → K (a.put o.dst (.slice (some ⟨g', 0, none⟩) (n + m) c')) w') :
    if Region.wanted o (yielded ops a.tmps) = true then Oper.wp P o a w K Q else E := by
  subst hn; subst hm
  obtain ⟨i, hi', hz, hsize, hbytes⟩ := info_parts hi
  refine step_append_lies w hgd s x t ho B e i (.int k 0) 1 bytes ht hi' hz hsize hbytes rfl (by omega) (.slice A l.length c) l.length (vals k l) hs hown ⟨g, 0, none⟩ news.length c2 (vals k news) hx (by rw [vals_length]; omega)
    (fun j u hu => World.news_of_block (cs := nums k news) hg j u (by simpa [nums, vals] using hu)) (vals_one k news) hm0 (by unfold maxLen; omega)
    (Nat.le_trans (Nat.mul_le_mul hsz hby) (by omega)) hB w.heap.size rfl ?_
  intro g' cap w' hown' hgr hat hlt
  rw [ownBlock_eq] at hgr hat
  refine hK g' cap w' ?_ hgr hat
  unfold Own
  rw [List.length_append, ← vals_append]
  exact hown'
end
end Go.Proofs.Ytkmbgbbmhpidkaa
