/-
  The document's disk in memory: rows of slices that grow, what a row of them keeps.
-/
import Derived.Test.YtkmbgbbmhpidkaaDev11
import Derived.Test.YtkmbgbbmhpidkaaDevR
namespace Go.Proofs.Ytkmbgbbmhpidkaa
open Go.RowKit
set_option linter.unusedVariables false
set_option linter.unusedSimpArgs false

/-- The slice '.slice A n c' holds the cells vs, sz cells an element, and is its holder's own. -/
def OwnV (e : TypeId) (sz : Nat) (w : World) (A : Option Addr) (c n : Nat) (vs : List Value) : Prop := w.ownsRow 0 e sz (.slice A n c) n vs
section
variable {e : TypeId} {sz : Nat} {w w' : World} {A : Option Addr} {c n : Nat} {vs : List Value}
theorem OwnV.nil (e : TypeId) (sz : Nat) (w : World) : OwnV e sz w none 0 0 [] := World.ownsRow_nil w 0 e sz
theorem OwnV.lt (h : OwnV e sz w A c n vs) {g : Nat} (hg : blockOf A = some g) : g < w.heap.size := (World.ownsRow.lt h g (by rwa [ownBlock_eq])).2
theorem OwnV.keep (h : OwnV e sz w A c n vs) (hk : ∀ g, blockOf A = some g → g < w.heap.size → w'.heap[g]? = w.heap[g]?) : OwnV e sz w' A c n vs := by
  refine ⟨h.1, ?_⟩
  rcases h.2 with hn | ⟨g, cap, cur, hv, hB, hgg, rest⟩
  · exact .inl hn
  · refine .inr ⟨g, cap, cur, hv, hB, ?_, rest⟩
    injection hv with hA _ _
    exact (hk g (by rw [hA]; rfl) (Array.getElem?_eq_some_iff.1 hgg).1).trans hgg
theorem OwnV.le (h : OwnV e sz w A c n vs) : n ≤ c ∧ c ≤ 9223372036854775807 := by
  rcases h.2 with ⟨hv, hn⟩ | ⟨g, cap, cur, hv, hB, hgg, h1, h2, rest⟩
  · injection hv with _ _ hc
    omega
  · injection hv with _ _ hc
    unfold maxLen at h2
    omega
theorem OwnV.at_ (h : OwnV e sz w A c n vs) {j : Nat} {v : Value} (hv : vs[j]? = some v) : ∃ g, A = some ⟨g, 0, none⟩ ∧ g < w.heap.size ∧ w.cell? ⟨g, j, none⟩ = some v ∧ w.frozen? ⟨g, j, none⟩ = false := by
  have hj : j < vs.length := (List.getElem?_eq_some_iff.1 hv).1
  rcases h.2 with ⟨hx, hn⟩ | ⟨g, cap, cur, hx, hB, hgg, h1, h2, h3, h4⟩
  · have h1 := h.1
    rw [hn, Nat.zero_mul] at h1
    omega
  · injection hx with hA _ hc
    have hl : vs.length = n * sz := h.1
    refine ⟨g, hA, (Array.getElem?_eq_some_iff.1 hgg).1, ?_, ?_⟩
    · rw [cell_of_row w g _ cur _ (0, 0) hgg, ← hv, ← h4, List.getElem?_take_of_lt (by omega), Array.getElem?_toList]
    · simp [World.frozen?, hgg]
theorem OwnV.store {g : Nat} (h : OwnV e 1 w (some ⟨g, 0, none⟩) c n vs) {i : Nat} (hi : i < n) (v : Value) : OwnV e 1 (w.setCell ⟨g, i, none⟩ v) (some ⟨g, 0, none⟩) c n (vs.set i v) := by
  refine ⟨by rw [List.length_set]; exact h.1, ?_⟩
  rcases h.2 with ⟨hx, hn⟩ | ⟨g', cap, cur, hx, hB, hgg, h1, h2, h3, h4⟩
  · exact absurd hx (by simp)
  · injection hx with hA _ hc
    injection hA with hA
    obtain rfl : g = g' := by injection hA
    have hs := Holds.stored (show Holds w g e cur from hgg) i v
    refine .inr ⟨g, cap, _, by rw [hc], hB, hs, h1, h2, by rw [Array.size_setIfInBounds]; exact h3, ?_⟩
    rw [Array.toList_setIfInBounds, ← h4, List.take_set]
end

/-- An append of one element in a list's order. -/
theorem wpList_pushV {P : Program} (w : World) {ops : Array Oper} {rest : List Oper} {o : Oper} {a : Act} {Q : Exit → Act → World → Prop} (hgd : o.guard = none) (s x : Operand) (t : TypeId)
    (ho : o.op = .call { callee := .builtin .append, args := #[s, x], argTypes := #[t, t] }) (e : TypeId) (z : Value) (sz by_ : Nat) (ht : P.underlying t = some (.slice e)) (hi : (P.info? e).map (fun i => (i.zero, i.size, i.bytes)) = some (some z, sz, by_)) (hz : z.cells.size = sz) (hsz0 : 0 < sz) (hby : by_ ≤ 100)
    {A : Option Addr} {n c : Nat} {vs : List Value} (hs : a.eval s = .slice A n c) (hw : OwnV e sz w A c n vs)
    {g c2 : Nat} {cs : List Value} (hx : a.eval x = .slice (some ⟨g, 0, none⟩) 1 c2) (hl : cs.length = sz) (h1 : ∀ u ∈ cs, u.oneCell' = true) (hg : Holds w g e cs.toArray) (hn : n ≤ 100000)
    (hK : ∀ g' c' w', OwnV e sz w' (some ⟨g', 0, none⟩) c' (n + 1) (vs ++ cs) → w.grownBy w' (blockOf A) → (blockOf A = some g' ∨ g' = w.heap.size) → g' < w'.heap.size → wpList P ops Q rest (a.put o.dst (.slice (some ⟨g', 0, none⟩) (n + 1) c')) w') :
    wpList P ops Q (o :: rest) a w := by
  obtain ⟨i, hi', hz', hsize, hbytes⟩ := info_parts hi
  refine wpList_append_lies w hgd s x t ho 0 e i z sz by_ ht hi' hz' hsize hbytes hz hsz0 (.slice A n c) n vs hs hw ⟨g, 0, none⟩ 1 c2 cs hx (by omega)
    (fun j u hu => World.news_of_block (cs := cs.toArray) hg j u (by simpa using hu)) h1 (by omega) (by unfold maxLen; omega) (Nat.le_trans (Nat.mul_le_mul (show n + 1 ≤ 100001 by omega) hby) (by omega)) (Nat.zero_le _) w.heap.size rfl ?_
  intro g' cap w' hown' hgr hat hlt
  rw [ownBlock_eq] at hgr hat
  exact hK g' cap w' hown' hgr hat hlt
/-- An append whose run is known. -/
theorem wpList_append_run {P : Program} (w : World) {ops : Array Oper} {rest : List Oper} {o : Oper} {a : Act} {Q : Exit → Act → World → Prop} (hgd : o.guard = none) (s x : Operand) (t : TypeId)
    (ho : o.op = .call { callee := .builtin .append, args := #[s, x], argTypes := #[t, t] }) (hot : o.type = t) (sv xv : Value) (hs : a.eval s = sv) (hx : a.eval x = xv) (v : Value) (w' : World) (hrun : (Builtin.append_ #[t, t] t #[sv, xv]).run P w = .ok v w')
    (hK : wpList P ops Q rest (a.put o.dst v) w') : wpList P ops Q (o :: rest) a w := by
  refine wpList_plain hgd fun K hK' => ?_
  unfold Oper.wp
  simp [execOp, ho, hot, resolve, invoke, builtin, hs, hx, hrun, Result.andThen]
  exact hK' _ _ hK
theorem info_byte : (Try.prog.info? 5).map (fun i => (i.zero, i.size, i.bytes)) = some (some (.int .u8 0), 1, 1) := by kernel_rfl
theorem vals_fromB {w : World} {B : Nat} {A : Option Addr} {c : Nat} {l : List Nat} (hr : Rd .u8 w B A c l) (h : 0 < l.length) : ∃ ad, A = some ad ∧ ∀ j v, (vals .u8 l)[j]? = some v → w.cell? (ad.add j) = some v := by
  obtain ⟨b, off, rfl, hb, hc⟩ := hr.2.2 h
  refine ⟨_, rfl, fun j v hv => ?_⟩
  have hj : j < l.length := by
    have := (List.getElem?_eq_some_iff.1 hv).1
    simpa [vals] using this
  rw [Addr.add_lit, hc j hj, ← hv]
  simp [vals, List.getD, hj]
/-- A sector copied. -/
theorem run_sector (w : World) (n : Nat) {B : Nat} {A : Option Addr} {c : Nat} {l : List Nat} (hr : Rd .u8 w B A c l) (hl : l.length = n) (h0 : 0 < n) (hn : n ≤ 1000) (g : Nat) (hg : w.heap[g]? = some (.cells #[] 5 (0, 0))) (ty : TypeId) :
    ∃ g' c2 w', (Builtin.append_ #[40, 40] ty #[.slice (some ⟨g, 0, none⟩) 0 0, .slice A n c]).run Try.prog w = .ok (.slice (some ⟨g', 0, none⟩) n c2) w' ∧ w.grownBy w' (some g) ∧ Rd .u8 w' w'.heap.size (some ⟨g', 0, none⟩) c2 l ∧ (g' = g ∨ g' = w.heap.size) ∧ g' < w'.heap.size := by
  subst hl
  obtain ⟨i, hi, hz, hsize, hby⟩ := info_parts info_byte
  obtain ⟨ad, rfl, hnews⟩ := vals_fromB hr h0
  obtain ⟨g', cap, w', hrun, hown, hgr, hat, hlt⟩ := run_append_lies (P := Try.prog) w 40 ty 0 5 i (.int .u8 0) 1 1 Try.underlying40 hi hz hsize hby rfl (by omega)
    (.slice (some ⟨g, 0, none⟩) 0 0) 0 [] ⟨rfl, .inr ⟨g, 0, #[], rfl, Nat.zero_le _, hg, Nat.le_refl _, Nat.zero_le _, rfl, rfl⟩⟩ ad l.length c (vals .u8 l) (by rw [vals_length]; omega) hnews (vals_one .u8 l) h0 (by simp [maxLen]; omega) (by omega) (Nat.zero_le _) w.heap.size rfl
  rw [Nat.zero_add, List.nil_append] at hown
  rw [Nat.zero_add] at hrun
  refine ⟨g', cap, w', hrun, hgr, ?_, ?_, hlt⟩
  · have hown' : Own .u8 5 w' 0 (some ⟨g', 0, none⟩) cap l := hown
    exact hown'.rd
  · rcases hat with h | h
    · exact .inl (by simpa [Value.ownBlock] using h.symm)
    · exact .inr h
/-- Truths copied. -/
theorem run_truthsE (w : World) (n : Nat) {K : Option Addr} {c : Nat} {l : List Bool} (hr : Truths w K c l) (hl : l.length = n) (hn : n ≤ 1000) (g : Nat) (hg : w.heap[g]? = some (.cells #[] 4 (0, 0))) (ty : TypeId) :
    ∃ g' c2 w', (Builtin.append_ #[28, 28] ty #[.slice (some ⟨g, 0, none⟩) 0 0, .slice K n c]).run Try.prog w = .ok (.slice (some ⟨g', 0, none⟩) n c2) w' ∧ w.grownBy w' (some g) ∧ Truths w' (some ⟨g', 0, none⟩) c2 l ∧ (g' = g ∨ g' = w.heap.size) ∧ g' < w'.heap.size := by
  subst hl
  obtain ⟨i, hi, hz, hsize, hby⟩ := info_parts info_bool
  have hlt0 : g < w.heap.size := (Array.getElem?_eq_some_iff.1 hg).1
  rcases Nat.eq_zero_or_pos l.length with h0 | h0
  · obtain rfl := List.eq_nil_of_length_eq_zero h0
    have hs : Src Try.prog i.size 28 (.slice K 0 c) 0 [] w := by
      rcases K with _ | a
      · exact Src.ofNil w Try.underlying28 c
      · exact Src.ofSlice w Try.underlying28 a 0 c [] (by simp) (fun j u h => by simp at h) (fun u h => by cases h)
    exact ⟨g, 0, w, run_append_nothing w 28 28 ty 4 i Try.underlying28 hi _ 0 0 (Nat.le_refl _) _ hs, World.grownBy.refl w _, ⟨by simp, by omega, fun h => by simp at h⟩, .inl rfl, hlt0⟩
  · obtain ⟨b, off, rfl, hb, hc⟩ := hr.2.2 h0
    obtain ⟨g', cap, w', hrun, hown, hgr, hat, hlt⟩ := run_append_lies (P := Try.prog) w 28 ty 0 4 i (.bool false) 1 1 Try.underlying28 hi hz hsize hby rfl (by omega)
      (.slice (some ⟨g, 0, none⟩) 0 0) 0 [] ⟨rfl, .inr ⟨g, 0, #[], rfl, Nat.zero_le _, hg, Nat.le_refl _, Nat.zero_le _, rfl, rfl⟩⟩ ⟨b, off, none⟩ l.length c (bools l) (by rw [bools_length]; omega)
      (fun j u hj => by
        have hj' : j < l.length := by have := (List.getElem?_eq_some_iff.1 hj).1; rwa [bools_length] at this
        rw [Addr.add_lit, hc j hj', ← bools_at l hj', hj]) (bools_one l) h0 (by simp [maxLen]; omega) (by omega) (Nat.zero_le _) w.heap.size rfl
    rw [Nat.zero_add, List.nil_append] at hown
    rw [Nat.zero_add] at hrun
    have hown' : OwnV 4 1 w' (some ⟨g', 0, none⟩) cap l.length (bools l) := hown
    refine ⟨g', cap, w', hrun, hgr, ⟨hown'.le.1, hown'.le.2, fun _ => ⟨g', 0, rfl, hlt, fun j hj => ?_⟩⟩, ?_, hlt⟩
    · obtain ⟨g2, e2, _, hcell, _⟩ := hown'.at_ (bools_at l hj)
      injection e2 with e2
      obtain rfl : g' = g2 := by injection e2
      rw [Nat.zero_add]
      exact hcell
    · rcases hat with h | h
      · exact .inl (by simpa [Value.ownBlock] using h.symm)
      · exact .inr h

/-! What is kept, what falls back: all as one. -/
theorem fallN_snoc (kp : Nat → Bool) (W : List (Nat × List Nat)) (p : Nat × List Nat) (L : List (List Nat)) : ∀ k, k ≤ W.length → fallN kp (W ++ [p]) L k = fallN kp W L k
  | 0, _ => rfl
  | k + 1, hk => by
    have e : (W ++ [p]).getD k default = W.getD k default := by simp [List.getD, List.getElem?_append_left (show k < W.length by omega)]
    rw [fallN, fallN, e, fallN_snoc kp W p L k (by omega)]
/-- Where no write goes nothing turns. -/
theorem fallN_off (kp : Nat → Bool) (W : List (Nat × List Nat)) (L : List (List Nat)) (i : Nat) : ∀ k, (∀ j, j < k → (W.getD j default).1 ≠ i) → (fallN kp W L k)[i]? = L[i]?
  | 0, _ => rfl
  | k + 1, h => by
    rw [fallN]
    have ih := fallN_off kp W L i k (fun j hj => h j (by omega))
    split
    · rw [List.getElem?_set_ne (h k (by omega)), ih]
    · exact ih
theorem backN_at (L now : List (List Nat)) (W : List (Nat × List Nat)) (hl : now.length = L.length) (i : Nat) : ∀ k, (∃ j, j < k ∧ (W.getD j default).1 = i) → i < L.length → (backN L W now k)[i]? = L[i]?
  | 0, h, _ => by obtain ⟨j, hj, _⟩ := h; omega
  | k + 1, h, hi => by
    rw [backN]
    by_cases e : (W.getD k default).1 = i
    · rw [e, List.getElem?_set_self (by rw [backN_length, hl]; exact hi)]
      simp [List.getD, hi]
    · rw [List.getElem?_set_ne e]
      obtain ⟨j, hj, he⟩ := h
      exact backN_at L now W hl i k ⟨j, by
        rcases Nat.lt_or_ge j k with h' | h'
        · exact h'
        · obtain rfl : j = k := by omega
          exact absurd he e, he⟩ hi
theorem backN_off (L now : List (List Nat)) (W : List (Nat × List Nat)) (i : Nat) : ∀ k, (∀ j, j < k → (W.getD j default).1 ≠ i) → (backN L W now k)[i]? = now[i]?
  | 0, _ => rfl
  | k + 1, h => by
    rw [backN, List.getElem?_set_ne (h k (by omega))]
    exact backN_off L now W i k fun j hj => h j (by omega)
/-- Taken back, all is what lasts. -/
theorem back_all (kp : Nat → Bool) (W : List (Nat × List Nat)) (L : List (List Nat)) : backN (fallN kp W L W.length) W (fallN (fun _ => true) W L W.length) W.length = fallN kp W L W.length := by
  apply List.ext_getElem?
  intro i
  by_cases hi : i < L.length
  · by_cases h : ∃ j, j < W.length ∧ (W.getD j default).1 = i
    · exact backN_at _ _ W (by rw [fallN_length, fallN_length]) i _ h (by rw [fallN_length]; exact hi)
    · have h' : ∀ j, j < W.length → (W.getD j default).1 ≠ i := fun j hj e => h ⟨j, hj, e⟩
      rw [backN_off _ _ _ _ _ h', fallN_off _ _ _ _ _ h', fallN_off _ _ _ _ _ h']
  · rw [List.getElem?_eq_none (by rw [backN_length, fallN_length]; omega), List.getElem?_eq_none (by rw [fallN_length]; omega)]
theorem back_lasts (W : List (Nat × List Nat)) (L : List (List Nat)) : backN L W (fallN (fun _ => true) W L W.length) W.length = L := by
  have h0 : ∀ k, fallN (fun _ => false) W L k = L := fun k => by
    induction k with
    | zero => rfl
    | succ k ih => rw [fallN, if_neg (by decide), ih]
  have := back_all (fun _ => false) W L
  rwa [h0] at this
/-- What Read tells is what would last if all did. -/
def Dk.Sound (s : Dk) : Prop := s.now = fallN (fun _ => true) s.waits s.lasts s.waits.length
theorem sound_fresh (n : Nat) : (fresh n).Sound := rfl
theorem Dk.Sound.wrote {s : Dk} (h : s.Sound) (i : Nat) (x : List Nat) : (s.wrote i x).Sound := by
  show s.now.set i x = fallN _ (s.waits ++ [(i, x)]) s.lasts (s.waits ++ [(i, x)]).length
  rw [List.length_append, List.length_singleton, fallN, if_pos rfl, fallN_snoc _ _ _ _ _ (Nat.le_refl _), show (s.waits ++ [(i, x)]).getD s.waits.length default = (i, x) by simp [List.getD], ← h]
theorem Dk.Sound.flushed {s : Dk} (h : s.Sound) : s.flushed.Sound := h
theorem Dk.Sound.fall {s : Dk} (h : s.Sound) : s.fall.Sound := by
  show backN s.kept s.waits s.now s.waits.length = s.kept
  rw [h]
  exact back_all _ _ _
theorem Dk.Sound.restart {s : Dk} (h : s.Sound) : s.restart.Sound := by
  show backN s.lasts s.waits s.now s.waits.length = s.lasts
  rw [h]
  exact back_lasts _ _
theorem Dk.Sound.arm {s : Dk} (h : s.Sound) (a : Int) (k : List Bool) : (s.arm a k).Sound := h
theorem Dk.Sound.write {s : Dk} (h : s.Sound) (i : Int) (x : List Nat) : (s.write i x).1.Sound := by
  unfold Dk.write
  split
  · exact h
  · split
    · split
      · exact h.fall
      · exact h.wrote _ _
    · exact h
theorem Dk.Sound.flush {s : Dk} (h : s.Sound) : s.flush.1.Sound := by
  unfold Dk.flush
  split
  · exact h
  · split
    · exact h.fall
    · exact h.flushed
end Go.Proofs.Ytkmbgbbmhpidkaa
