/-
  A row of elements of many cells that grows by append (out of Rf1, Rf5, Dev0: for seats without a disk).
-/
import Derived.Test.YtdjklhglkmacbaaDoorOwn
import Derived.WalkKit
import Derived.Deep.RegionLaw
import Derived.Deep.DrawnRows
namespace Go.Proofs.YtdjklhglkmacbaaDoor
open Go.RowKit
set_option linter.unusedVariables false
set_option linter.unusedSimpArgs false

theorem flat_length {α β : Type} {f : α → List β} {m : Nat} : ∀ {L : List α}, (∀ x ∈ L, (f x).length = m) → (L.flatMap f).length = m * L.length
  | [], _ => rfl
  | x :: L, h => by
    rw [List.flatMap_cons, List.length_append, h x (by simp), flat_length (L := L) (fun y hy => h y (by simp [hy])), List.length_cons, Nat.mul_add, Nat.mul_one, Nat.add_comm]
theorem flat_at {α β : Type} {f : α → List β} {m : Nat} : ∀ {L : List α}, (∀ x ∈ L, (f x).length = m) → ∀ {i j : Nat} {x : α}, L[i]? = some x → j < m → (L.flatMap f)[m * i + j]? = (f x)[j]?
  | [], _, i, j, x, hx, _ => by simp at hx
  | y :: L, h, 0, j, x, hx, hj => by
    obtain rfl : y = x := by simpa using hx
    rw [List.flatMap_cons, Nat.mul_zero, Nat.zero_add, List.getElem?_append_left (by rw [h y (by simp)]; exact hj)]
  | y :: L, h, i + 1, j, x, hx, hj => by
    have hx' : L[i]? = some x := by simpa using hx
    rw [List.flatMap_cons, List.getElem?_append_right (by rw [h y (by simp), Nat.mul_add]; omega), h y (by simp), show m * (i + 1) + j - m = m * i + j by rw [Nat.mul_add]; omega]
    exact flat_at (fun z hz => h z (by simp [hz])) hx' hj
/-- The slice '.slice A n c' holds the cells vs, sz cells an element, and is its holder's own. -/
def OwnV (e : TypeId) (sz : Nat) (w : World) (A : Option Addr) (c n : Nat) (vs : List Value) : Prop := w.ownsRow 0 e sz (.slice A n c) n vs
section
variable {e : TypeId} {sz : Nat} {w w' : World} {A : Option Addr} {c n : Nat} {vs : List Value}
theorem OwnV.nil (e : TypeId) (sz : Nat) (w : World) : OwnV e sz w none 0 0 [] := World.ownsRow_nil w 0 e sz
theorem OwnV.lt (h : OwnV e sz w A c n vs) {g : Nat} (hg : blockOf A = some g) : g < w.heap.size := (World.ownsRow.lt h g (by rwa [ownBlock_eq])).2
theorem OwnV.keep (h : OwnV e sz w A c n vs) (hk : ∀ g, blockOf A = some g → g < w.heap.size → w'.heap[g]? = w.heap[g]?) : OwnV e sz w' A c n vs := by
  refine ⟨h.1, ?_⟩
  rcases h.2 with hn | ⟨g, cap, cur, hv, hB, hgg, rest⟩
  · exact .inl hn
  · refine .inr ⟨g, cap, cur, hv, hB, ?_, rest⟩
    injection hv with hA _ _
    exact (hk g (by rw [hA]; rfl) (Array.getElem?_eq_some_iff.1 hgg).1).trans hgg
theorem OwnV.le (h : OwnV e sz w A c n vs) : n ≤ c ∧ c ≤ 9223372036854775807 := by
  rcases h.2 with ⟨hv, hn⟩ | ⟨g, cap, cur, hv, hB, hgg, h1, h2, rest⟩
  · injection hv with _ _ hc
    omega
  · injection hv with _ _ hc
    unfold maxLen at h2
    omega
theorem OwnV.at_ (h : OwnV e sz w A c n vs) {j : Nat} {v : Value} (hv : vs[j]? = some v) : ∃ g, A = some ⟨g, 0, none⟩ ∧ g < w.heap.size ∧ w.cell? ⟨g, j, none⟩ = some v ∧ w.frozen? ⟨g, j, none⟩ = false := by
  have hj : j < vs.length := (List.getElem?_eq_some_iff.1 hv).1
  rcases h.2 with ⟨hx, hn⟩ | ⟨g, cap, cur, hx, hB, hgg, h1, h2, h3, h4⟩
  · have h1 := h.1
    rw [hn, Nat.zero_mul] at h1
    omega
  · injection hx with hA _ hc
    have hl : vs.length = n * sz := h.1
    refine ⟨g, hA, (Array.getElem?_eq_some_iff.1 hgg).1, ?_, ?_⟩
    · rw [cell_of_row w g _ cur _ (0, 0) hgg, ← hv, ← h4, List.getElem?_take_of_lt (by omega), Array.getElem?_toList]
    · simp [World.frozen?, hgg]
theorem OwnV.store {g : Nat} (h : OwnV e 1 w (some ⟨g, 0, none⟩) c n vs) {i : Nat} (hi : i < n) (v : Value) : OwnV e 1 (w.setCell ⟨g, i, none⟩ v) (some ⟨g, 0, none⟩) c n (vs.set i v) := by
  refine ⟨by rw [List.length_set]; exact h.1, ?_⟩
  rcases h.2 with ⟨hx, hn⟩ | ⟨g', cap, cur, hx, hB, hgg, h1, h2, h3, h4⟩
  · exact absurd hx (by simp)
  · injection hx with hA _ hc
    injection hA with hA
    obtain rfl : g = g' := by injection hA
    have hs := Holds.stored (show Holds w g e cur from hgg) i v
    refine .inr ⟨g, cap, _, by rw [hc], hB, hs, h1, h2, by rw [Array.size_setIfInBounds]; exact h3, ?_⟩
    rw [Array.toList_setIfInBounds, ← h4, List.take_set]
end

/-- An append of one element in a list's order. -/
theorem wpList_pushV {P : Program} (w : World) {ops : Array Oper} {rest : List Oper} {o : Oper} {a : Act} {Q : Exit → Act → World → Prop} (hgd : o.guard = none) (s x : Operand) (t : TypeId)
    (ho : o.op = .call { callee := .builtin .append, args := #[s, x], argTypes := #[t, t] }) (e : TypeId) (z : Value) (sz by_ : Nat) (ht : P.underlying t = some (.slice e)) (hi : (P.info? e).map (fun i => (i.zero, i.size, i.bytes)) = some (some z, sz, by_)) (hz : z.cells.size = sz) (hsz0 : 0 < sz) (hby : by_ ≤ 100)
    {A : Option Addr} {n c : Nat} {vs : List Value} (hs : a.eval s = .slice A n c) (hw : OwnV e sz w A c n vs)
    {g c2 : Nat} {cs : List Value} (hx : a.eval x = .slice (some ⟨g, 0, none⟩) 1 c2) (hl : cs.length = sz) (h1 : ∀ u ∈ cs, u.oneCell' = true) (hg : Holds w g e cs.toArray) (hn : n ≤ 9000000000000000000 ∧ (n + 1) * by_ ≤ 140737488355328)
    (hK : ∀ g' c' w', OwnV e sz w' (some ⟨g', 0, none⟩) c' (n + 1) (vs ++ cs) → w.grownBy w' (blockOf A) → (blockOf A = some g' ∨ g' = w.heap.size) → g' < w'.heap.size → wpList P ops Q rest (a.put o.dst (.slice (some ⟨g', 0, none⟩) (n + 1) c')) w') :
    wpList P ops Q (o :: rest) a w := by
  obtain ⟨i, hi', hz', hsize, hbytes⟩ := info_parts hi
  refine wpList_append_lies w hgd s x t ho 0 e i z sz by_ ht hi' hz' hsize hbytes hz hsz0 (.slice A n c) n vs hs hw ⟨g, 0, none⟩ 1 c2 cs hx (by omega)
    (fun j u hu => World.news_of_block (cs := cs.toArray) hg j u (by simpa using hu)) h1 (by omega) (by unfold maxLen; omega) hn.2 (Nat.zero_le _) w.heap.size rfl ?_
  intro g' cap w' hown' hgr hat hlt
  rw [ownBlock_eq] at hgr hat
  exact hK g' cap w' hown' hgr hat hlt
/-- An append whose run is known. -/
theorem wpList_append_run {P : Program} (w : World) {ops : Array Oper} {rest : List Oper} {o : Oper} {a : Act} {Q : Exit → Act → World → Prop} (hgd : o.guard = none) (s x : Operand) (t : TypeId)
    (ho : o.op = .call { callee := .builtin .append, args := #[s, x], argTypes := #[t, t] }) (hot : o.type = t) (sv xv : Value) (hs : a.eval s = sv) (hx : a.eval x = xv) (v : Value) (w' : World) (hrun : (Builtin.append_ #[t, t] t #[sv, xv]).run P w = .ok v w')
    (hK : wpList P ops Q rest (a.put o.dst v) w') : wpList P ops Q (o :: rest) a w := by
  refine wpList_plain hgd fun K hK' => ?_
  unfold Oper.wp
  simp [execOp, ho, hot, resolve, invoke, builtin, hs, hx, hrun, Result.andThen]
  exact hK' _ _ hK
/-- An append of one element at a step of a region that draws its order. -/
theorem step_pushV {P : Program} (w : World) {ops : Array Oper} {o : Oper} {a : Act} {K : Act → World → Prop} {Q : Exit → Act → World → Prop} {E : Prop} (hgd : o.guard = none) (s x : Operand) (t : TypeId)
    (ho : o.op = .call { callee := .builtin .append, args := #[s, x], argTypes := #[t, t] }) (e : TypeId) (z : Value) (sz by_ : Nat) (ht : P.underlying t = some (.slice e)) (hi : (P.info? e).map (fun i => (i.zero, i.size, i.bytes)) = some (some z, sz, by_)) (hz : z.cells.size = sz) (hsz0 : 0 < sz) (hby : by_ ≤ 100)
    {A : Option Addr} {n c : Nat} {vs : List Value} (hs : a.eval s = .slice A n c) (hw : OwnV e sz w A c n vs)
    {g c2 : Nat} {cs : List Value} (hx : a.eval x = .slice (some ⟨g, 0, none⟩) 1 c2) (hl : cs.length = sz) (h1 : ∀ u ∈ cs, u.oneCell' = true) (hg : Holds w g e cs.toArray) (hn : n ≤ 9000000000000000000 ∧ (n + 1) * by_ ≤ 140737488355328)
    (hK : ∀ g' c' w', OwnV e sz w' (some ⟨g', 0, none⟩) c' (n + 1) (vs ++ cs) → w.grownBy w' (blockOf A) → (blockOf A = some g' ∨ g' = w.heap.size) → g' < w'.heap.size → K (a.put o.dst (.slice (some ⟨g', 0, none⟩) (n + 1) c')) w') :
    if Region.wanted o (yielded ops a.tmps) = true then Oper.wp P o a w K Q else E := by
  obtain ⟨i, hi', hz', hsize, hbytes⟩ := info_parts hi
  refine step_append_lies w hgd s x t ho 0 e i z sz by_ ht hi' hz' hsize hbytes hz hsz0 (.slice A n c) n vs hs hw ⟨g, 0, none⟩ 1 c2 cs hx (by omega)
    (fun j u hu => World.news_of_block (cs := cs.toArray) hg j u (by simpa using hu)) h1 (by omega) (by unfold maxLen; omega) hn.2 (Nat.zero_le _) w.heap.size rfl ?_
  intro g' cap w' hown' hgr hat hlt
  rw [ownBlock_eq] at hgr hat
  exact hK g' cap w' hown' hgr hat hlt

end Go.Proofs.YtdjklhglkmacbaaDoor
