/-
  Bytes of the call's own, wherever in their block they begin; one append more.
-/
import Derived.Test.YtebhpjbjfbadjaaOwn
import Derived.Deep.AppendSrc
import Derived.Lib.LazyBuf
import Derived.Deep.Upon
import Derived.OwnWalk
namespace Go.Proofs.Ytebhpjbjfbadjaa
open Go.RowKit
set_option linter.unusedVariables false

/-- The slice '.slice A l.length c' lies in a block from B on, known whole; it holds the bytes l. -/
def Mine (e : TypeId) (w : World) (B : Nat) (A : Option Addr) (c : Nat) (l : List Nat) : Prop :=
  (A = none ∧ c = 0 ∧ l = []) ∨ ∃ g off cur, A = some ⟨g, off, none⟩ ∧ B ≤ g ∧ w.heap[g]? = some (.cells cur e (0, 0)) ∧ l.length ≤ c ∧ c ≤ 9223372036854775807 ∧ off + c ≤ cur.size ∧ ∀ j, j < l.length → cur[off + j]? = some (.int .u8 ((l.getD j 0 : Nat) : Int))
def blk_of (A : Option Addr) : Option Nat := A.map (·.block)

section
variable {e : TypeId} {w w' : World} {B : Nat} {A : Option Addr} {c : Nat} {l : List Nat}
theorem Mine.nil (e : TypeId) (w : World) (B : Nat) : Mine e w B none 0 [] := .inl ⟨rfl, rfl, rfl⟩
theorem Mine.rd (h : Mine e w B A c l) : Rd .u8 w w.heap.size A c l := by
  rcases h with ⟨rfl, rfl, rfl⟩ | ⟨g, off, cur, rfl, hB, hg, hl, hc, hs, hx⟩
  · exact Rd.nil_ _ _ _
  · exact ⟨hl, hc, fun _ => ⟨g, off, rfl, (Array.getElem?_eq_some_iff.1 hg).1, fun j hj => by rw [cell_of_row w g _ cur e (0, 0) hg]; exact hx j hj⟩⟩
theorem Mine.le (h : Mine e w B A c l) : l.length ≤ c ∧ c ≤ 9223372036854775807 := by
  rcases h with ⟨rfl, rfl, rfl⟩ | ⟨g, off, cur, rfl, hB, hg, hl, hc, hs, hx⟩
  · exact ⟨Nat.le_refl _, by omega⟩
  · exact ⟨hl, hc⟩
theorem Mine.block (h : Mine e w B A c l) {g : Nat} (hg : blk_of A = some g) : B ≤ g ∧ g < w.heap.size := by
  rcases h with ⟨rfl, rfl, rfl⟩ | ⟨g', off, cur, rfl, hB, hg', hl, hc, hs, hx⟩
  · simp [blk_of] at hg
  · obtain rfl : g' = g := by simpa [blk_of] using hg
    exact ⟨hB, (Array.getElem?_eq_some_iff.1 hg').1⟩
theorem Mine.keep (h : Mine e w B A c l) (hk : ∀ g, blk_of A = some g → w'.heap[g]? = w.heap[g]?) : Mine e w' B A c l := by
  rcases h with h | ⟨g, off, cur, rfl, hB, hg, rest⟩
  · exact .inl h
  · exact .inr ⟨g, off, cur, rfl, hB, (hk g rfl).trans hg, rest⟩
theorem Mine.under (h : Mine e w B A c l) (hb : Below w.heap.size w w') : Mine e w' B A c l := h.keep fun g hg => hb.block g (h.block hg).2
theorem Mine.alloc (h : Mine e w B A c l) (o : Obj) : Mine e (w.alloc o) B A c l := h.under ((Below.refl _ _).alloc (Nat.le_refl _) o)
theorem Mine.drewN (h : Mine e w B A c l) (n : Nat) : Mine e (w.drewN n) B A c l := h
theorem Mine.setRow (h : Mine e w B A c l) {g : Nat} (hne : blk_of A ≠ some g) (x : Array Value) : Mine e (w.setRow g x) B A c l := h.keep fun k hk => by
  show (w.heap.modify g _)[k]? = _
  rw [Array.getElem?_modify, if_neg (fun e => hne (by rw [hk, e]))]
/-- Its first n elements. -/
theorem Mine.take (h : Mine e w B A c l) (n : Nat) : Rd .u8 w w.heap.size A c (l.take n) := h.rd.cut n
/-- What stands behind its first n elements: at its whole capacity the address stays. -/
theorem Mine.drop (h : Mine e w B A c l) {n : Nat} (hn : n ≤ l.length) (hn0 : 0 < n) : ∃ g off, A = some ⟨g, off, none⟩ ∧ Mine e w B (some ⟨g, if c = n then off else off + n, none⟩) (c - n) (l.drop n) := by
  rcases h with ⟨rfl, rfl, rfl⟩ | ⟨g, off, cur, rfl, hB, hg, hl, hc, hs, hx⟩
  · simp at hn; omega
  · refine ⟨g, off, rfl, .inr ⟨g, _, cur, rfl, hB, hg, by rw [List.length_drop]; omega, by omega, ?_, fun j hj => ?_⟩⟩
    · split <;> omega
    · rw [List.length_drop] at hj
      have := hx (n + j) (by omega)
      rw [if_neg (by omega), Nat.add_assoc, this]
      simp [List.getD]
end

def bvals (l : List Nat) : List Value := l.map fun x : Nat => Value.int .u8 (x : Int)
theorem bvals_length (l : List Nat) : (bvals l).length = l.length := by simp [bvals]
theorem bvals_at (l : List Nat) {i : Nat} (h : i < l.length) : (bvals l)[i]? = some (.int .u8 ((l.getD i 0 : Nat) : Int)) := by simp [bvals, List.getD, h]
theorem bvals_one (l : List Nat) : ∀ u ∈ bvals l, u.oneCell' = true := by
  intro u hu
  obtain ⟨x, _, rfl⟩ := List.mem_map.1 hu
  rfl
/-- What is appended: bytes, nil too. -/
theorem src_of_rd {P : Program} {w : World} {B : Nat} {A : Option Addr} {c n : Nat} {l : List Nat} {tx e' : TypeId} (hk : P.underlying tx = some (.slice e')) (h : Rd .u8 w B A c l) (hn : l.length = n) : Src P 1 tx (.slice A n c) n (bvals l) w := by
  subst hn
  rcases Nat.eq_zero_or_pos l.length with h0 | h0
  · obtain rfl := List.eq_nil_of_length_eq_zero h0
    rcases A with _ | a
    · exact Src.ofNil w hk c
    · exact Src.ofSlice w hk a 0 c [] rfl (fun j u hj => by simp at hj) (fun u hu => by cases hu)
  · obtain ⟨b, off, rfl, hb, hc⟩ := h.2.2 h0
    refine Src.ofSlice w hk ⟨b, off, none⟩ l.length c (bvals l) (by rw [bvals_length, Nat.mul_one]) (fun j u hj => ?_) (bvals_one l)
    have hj' : j < l.length := by have := (List.getElem?_eq_some_iff.1 hj).1; rwa [bvals_length] at this
    rw [Addr.add_lit, hc j hj', ← bvals_at l hj', hj]

/-- Bytes laid over cells from place o on. -/
theorem setCells_heap {g : Nat} {e : TypeId} : ∀ (vs : List Value) (o : Nat) (w : World) (cur : Array Value), w.heap[g]? = some (.cells cur e (0, 0)) → o + vs.length ≤ cur.size →
    ∃ cur', (w.setCells g o vs).heap[g]? = some (.cells cur' e (0, 0)) ∧ cur'.size = cur.size ∧ (∀ j, j < o → cur'[j]? = cur[j]?) ∧ ∀ j, j < vs.length → cur'[o + j]? = vs[j]?
  | [], o, w, cur, h, _ => ⟨cur, h, rfl, fun j _ => rfl, fun j hj => by simp at hj⟩
  | v :: vs, o, w, cur, h, hs => by
    simp only [List.length_cons] at hs
    have h1 : (w.setCell ⟨g, o, none⟩ v).heap[g]? = some (.cells (cur.setIfInBounds o v) e (0, 0)) := by
      simp [World.setCell, Array.getElem?_modify, h]
    obtain ⟨cur', a1, a2, a3, a4⟩ := setCells_heap vs (o + 1) (w.setCell ⟨g, o, none⟩ v) (cur.setIfInBounds o v) h1 (by simp; omega)
    refine ⟨cur', a1, by rw [a2]; simp, fun j hj => ?_, fun j hj => ?_⟩
    · rw [a3 j (by omega), Array.getElem?_setIfInBounds, if_neg (by omega)]
    · rcases j with _ | j
      · rw [Nat.add_zero, a3 o (by omega), Array.getElem?_setIfInBounds, if_pos rfl, if_pos (by omega)]
        rfl
      · have := a4 j (by simp at hj; omega)
        rw [show o + (j + 1) = o + 1 + j by omega, this]
        rfl
theorem setCells_grown (g : Nat) : ∀ (vs : List Value) (o : Nat) {a w : World}, a.grownBy w (some g) → a.grownBy (w.setCells g o vs) (some g)
  | [], _, _, _, h => h
  | v :: vs, o, a, w, h => setCells_grown g vs (o + 1) (one_setCell h o v)

/-- One append more, in either way. -/
theorem run_mine {P : Program} (w : World) (t tx ty e : TypeId) (ht : P.underlying t = some (.slice e)) (htx : P.underlying tx = some (.slice e)) (hi : (P.info? e).map (fun i => (i.zero, i.size, i.bytes)) = some (some (.int .u8 0), 1, 1))
    {B B2 : Nat} {A A2 : Option Addr} {c n c2 m : Nat} {l news : List Nat} (h : Mine e w B A c l) (hn : l.length = n) (hr : Rd .u8 w B2 A2 c2 news) (hm : news.length = m) (hB : B ≤ w.heap.size) (hsz : n + m ≤ 1000000) :
    ∃ A' c' w', (Builtin.append_ #[t, tx] ty #[.slice A n c, .slice A2 m c2]).run P w = .ok (.slice A' (n + m) c') w' ∧ Mine e w' B A' c' (l ++ news) ∧ w.grownBy w' (blk_of A) ∧ (blk_of A' = blk_of A ∨ blk_of A' = some w.heap.size) := by
  obtain ⟨i, hi', hz, hsize, hbytes⟩ := info_parts hi
  have hsrc := src_of_rd (P := P) htx hr hm
  rw [← hsize] at hsrc
  by_cases hroom : n + m ≤ c
  · rcases Nat.eq_zero_or_pos m with h0 | h0
    · subst h0
      obtain rfl := List.eq_nil_of_length_eq_zero hm
      have hs0 : Src P i.size tx (.slice A2 0 c2) 0 [] w := hsrc
      have hrun := run_append_nothing (P := P) w t tx ty e i ht hi' A n c (by omega) _ hs0
      exact ⟨A, c, w, hrun, by rw [List.append_nil]; exact h, World.grownBy.refl w _, .inl rfl⟩
    · rcases h with ⟨rfl, rfl, rfl⟩ | ⟨g, off, cur, rfl, hBg, hg, hl, hc, hs, hx⟩
      · omega
      · have hcell : ∀ j, j < (bvals news).length → (w.cell? ⟨g, off + n * i.size + j, none⟩).isSome = true := fun j hj => by
          rw [bvals_length] at hj
          rw [hsize, Nat.mul_one, cell_of_row w g _ cur e (0, 0) hg, Array.getElem?_eq_getElem (by omega)]
          rfl
        have hfr : ∀ j, j < (bvals news).length → w.frozen? ⟨g, off + n * i.size + j, none⟩ = false := fun j hj => by
          simp [World.frozen?, hg]
        have hrun := run_append_room_src (P := P) w t tx ty e i ht hi' g off n c _ m (bvals news) hsrc hroom hcell hfr
        obtain ⟨cur', a1, a2, a3, a4⟩ := setCells_heap (bvals news) (off + n * i.size) w cur hg (by rw [bvals_length, hsize]; omega)
        rw [hsize, Nat.mul_one] at hrun a1 a3 a4
        refine ⟨_, c, _, hrun, .inr ⟨g, off, cur', rfl, hBg, a1, by rw [List.length_append]; omega, hc, by omega, fun j hj => ?_⟩, setCells_grown g _ _ (World.grownBy.refl w (some g)), .inl rfl⟩
        rw [List.length_append] at hj
        rcases Nat.lt_or_ge j n with hjn | hjn
        · rw [a3 _ (by omega), hx j (by omega)]
          simp [List.getD, List.getElem?_append_left (show j < l.length by omega)]
        · have := a4 (j - n) (by rw [bvals_length]; omega)
          rw [show off + n + (j - n) = off + j by omega, bvals_at news (by omega)] at this
          rw [this]
          simp [List.getD, List.getElem?_append_right (show l.length ≤ j by omega), hn]
  · have hrd := h.rd
    have hold : (Builtin.firstCells i.size n (.slice A n c)).run P w.drew = .ok (bvals l).toArray w.drew := by
      have := (src_of_rd (P := P) (tx := t) ht (w := w.drew) (B := w.heap.size) (A := A) (c := c) (n := n) (l := l) hrd hn).cells
      rw [hsize]; exact this
    have hfit : Builtin.nextslicecap (n + m) c * i.bytes ≤ 281474976710656 := growslice_fits (by omega) (by rw [hbytes]; omega)
    have hrun := run_append_grow_src (P := P) w t tx ty e i (.int .u8 0) ht hi' hz A n c (bvals l) hold _ m (bvals news) hsrc (by omega) (by omega) hfit
    have hge := grownCap_ge w (n + m) c e
    have hcm : grownCap w (n + m) c e ≤ maxLen := grownCap_le_maxLen w (n + m) c e (by unfold maxLen; omega)
    refine ⟨_, _, _, hrun, .inr ⟨w.heap.size, 0, _, rfl, hB, heap_alloc_new w.drew _, by rw [List.length_append]; omega, by unfold maxLen at hcm; exact hcm, ?_, fun j hj => ?_⟩, ⟨rfl, rfl, rfl, by simp, fun k hk _ => Go.heap_alloc_old w.drew _ hk⟩, .inr rfl⟩
    · simp only [Array.size_append, List.size_toArray, size_zeroCells, List.length_append, bvals_length]
      rw [show (Value.int IntKind.u8 0).cells.size = 1 from rfl, Nat.mul_one]
      omega
    · rw [List.length_append] at hj
      have e1 : bvals l ++ bvals news = bvals (l ++ news) := by simp [bvals]
      rw [Nat.zero_add, e1, Array.getElem?_append_left (by simp [bvals_length]; omega), List.getElem?_toArray]
      exact bvals_at _ (by rw [List.length_append]; exact hj)

/-- The same at the operation. -/
theorem wpList_mine {P : Program} (w : World) {ops : Array Oper} {rest : List Oper} {o : Oper} {a : Act} {Q : Exit → Act → World → Prop} (hgd : o.guard = none) (s x : Operand) (t : TypeId)
    (ho : o.op = .call { callee := .builtin .append, args := #[s, x], argTypes := #[t, t] }) (e : TypeId) (ht : P.underlying t = some (.slice e)) (hi : (P.info? e).map (fun i => (i.zero, i.size, i.bytes)) = some (some (.int .u8 0), 1, 1))
    {B B2 : Nat} {A A2 : Option Addr} {c n c2 m : Nat} {l news : List Nat} (hs : a.eval s = .slice A n c) (h : Mine e w B A c l) (hn : l.length = n) (hx : a.eval x = .slice A2 m c2) (hr : Rd .u8 w B2 A2 c2 news) (hm : news.length = m) (hB : B ≤ w.heap.size) (hsz : n + m ≤ 1000000)
    (hK : ∀ A' c' w', Mine e w' B A' c' (l ++ news) → w.grownBy w' (blk_of A) → (blk_of A' = blk_of A ∨ blk_of A' = some w.heap.size) → wpList P ops Q rest (a.put o.dst (.slice A' (n + m) c')) w') :
    wpList P ops Q (o :: rest) a w := by
  refine wpList_plain hgd fun K hK' => ?_
  obtain ⟨A', c', w', hrun, r1, r2, r3⟩ := run_mine (P := P) w t t o.type e ht ht hi h hn hr hm hB hsz
  unfold Oper.wp
  simp [execOp, ho, resolve, invoke, builtin, hs, hx, hrun, Result.andThen]
  exact hK' _ _ (hK A' c' w' r1 r2 r3)

/-- At a step of a region that draws its order. -/
theorem step_mine {P : Program} (w : World) {ops : Array Oper} {o : Oper} {a : Act} {Q : Exit → Act → World → Prop} {K : Act → World → Prop} {E : Prop} (hgd : o.guard = none) (s x : Operand) (t : TypeId)
    (ho : o.op = .call { callee := .builtin .append, args := #[s, x], argTypes := #[t, t] }) (e : TypeId) (hoe : o.type = t) (ht : P.underlying t = some (.slice e)) (hi : (P.info? e).map (fun i => (i.zero, i.size, i.bytes)) = some (some (.int .u8 0), 1, 1))
    {B B2 : Nat} {A A2 : Option Addr} {c n c2 m : Nat} {l news : List Nat} (hs : a.eval s = .slice A n c) (h : Mine e w B A c l) (hn : l.length = n) (hx : a.eval x = .slice A2 m c2) (hr : Rd .u8 w B2 A2 c2 news) (hm : news.length = m) (hB : B ≤ w.heap.size) (hsz : n + m ≤ 1000000)
    (hK : ∀ A' c' w', Mine e w' B A' c' (l ++ news) → w.grownBy w' (blk_of A) → K (a.put o.dst (.slice A' (n + m) c')) w') :
    if Region.wanted o (yielded ops a.tmps) = true then Oper.wp P o a w K Q else E := by
  have hw : Region.wanted o (yielded ops a.tmps) = true := by simp [Region.wanted, hgd]
  rw [if_pos hw]
  obtain ⟨A', c', w', hrun, r1, r2, r3⟩ := run_mine (P := P) w t t o.type e ht ht hi h hn hr hm hB hsz
  unfold Oper.wp
  simp [execOp, ho, resolve, invoke, builtin, hs, hx, hrun, Result.andThen]
  exact hK _ _ _ r1 r2
end Go.Proofs.Ytebhpjbjfbadjaa
