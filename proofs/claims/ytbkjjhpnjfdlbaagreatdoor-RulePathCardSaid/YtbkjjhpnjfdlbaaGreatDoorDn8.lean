/-
  An append of bytes that must grow; things in a row, by sixes.
-/
import Derived.Test.YtbkjjhpnjfdlbaaGreatDoorDn6
import Derived.Test.YtbkjjhpnjfdlbaaGreatDoorStrong
import Derived.Lib.SlBytesConst
import Derived.Deep.RegionHeld3
namespace Go.Proofs.YtbkjjhpnjfdlbaaGreatDoor
open Go.RowKit
set_option linter.unusedVariables false
set_option linter.unusedSimpArgs false

/-- An append to bytes that are full. -/
theorem run_grow {P : Program} (w : World) (t tx ty e : TypeId) (ht : P.underlying t = some (.slice e)) (htx : P.underlying tx = some (.slice e)) (hi : (P.info? e).map (fun i => (i.zero, i.size, i.bytes)) = some (some (.int .u8 0), 1, 1))
    {B B1 B2 : Nat} {A A2 : Option Addr} {c n c2 m : Nat} {l news : List Nat} (hrd : Rd .u8 w B1 A c l) (hn : l.length = n) (hr : Rd .u8 w B2 A2 c2 news) (hm : news.length = m) (hB : B ≤ w.heap.size) (hsz : n + m ≤ 1000000) (hroom : ¬ n + m ≤ c) :
    ∃ c' w', (Builtin.append_ #[t, tx] ty #[.slice A n c, .slice A2 m c2]).run P w = .ok (.slice (some ⟨w.heap.size, 0, none⟩) (n + m) c') w' ∧ Mine e w' B (some ⟨w.heap.size, 0, none⟩) c' (l ++ news) ∧ Below w.heap.size w w' := by
  obtain ⟨i, hi', hz, hsize, hbytes⟩ := info_parts hi
  have hsrc := src_of_rd (P := P) htx hr hm
  rw [← hsize] at hsrc
  have hold : (Builtin.firstCells i.size n (.slice A n c)).run P w.drew = .ok (bvals l).toArray w.drew := by
    have := (src_of_rd (P := P) (tx := t) ht (w := w.drew) (B := B1) (A := A) (c := c) (n := n) (l := l) hrd hn).cells
    rw [hsize]; exact this
  have hfit : Builtin.nextslicecap (n + m) c * i.bytes ≤ 281474976710656 := growslice_fits (by omega) (by rw [hbytes]; omega)
  have hrun := run_append_grow_src (P := P) w t tx ty e i (.int .u8 0) ht hi' hz A n c (bvals l) hold _ m (bvals news) hsrc (by omega) (by omega) hfit
  have hge := grownCap_ge w (n + m) c e
  have hcm : grownCap w (n + m) c e ≤ maxLen := grownCap_le_maxLen w (n + m) c e (by unfold maxLen; omega)
  refine ⟨_, _, hrun, .inr ⟨w.heap.size, 0, _, rfl, hB, heap_alloc_new w.drew _, by rw [List.length_append]; omega, by unfold maxLen at hcm; exact hcm, ?_, fun j hj => ?_⟩, ⟨rfl, rfl, rfl, by simp, fun k hk => Go.heap_alloc_old w.drew _ hk⟩⟩
  · simp only [Array.size_append, List.size_toArray, size_zeroCells, List.length_append, bvals_length]
    rw [show (Value.int IntKind.u8 0).cells.size = 1 from rfl, Nat.mul_one]
    omega
  · rw [List.length_append] at hj
    have e1 : bvals l ++ bvals news = bvals (l ++ news) := by simp [bvals]
    rw [Nat.zero_add, e1, Array.getElem?_append_left (by simp [bvals_length]; omega), List.getElem?_toArray]
    exact bvals_at _ (by rw [List.length_append]; exact hj)
/-- A thing and the cells that a call answers. -/
def Of6 (lt : Lt) (t : Nat) (a : Option Addr) (n c : Nat) (k : Option Addr) (m d : Nat) : Prop := lcell lt = [.int .u8 (t : Int), .slice a n c, .slice k m d]
theorem MadeT.six {w w' : World} {xs : List Nat} {T : Tr} {e : Ending} (h : MadeT w xs T e w') : ∃ (lt : Lt) (t : Nat) (a : Option Addr) (n c : Nat) (k : Option Addr) (m d : Nat), e = .returned (.agg #[.int .u8 (t : Int), .slice a n c, .slice k m d]) ∧ Of6 lt t a n c k m d ∧ lt.t = T ∧ Off xs (ThP lt) w' ∧ Below w.heap.size w w' := by
  obtain ⟨lt, rfl, h1, h2, h3⟩ := h
  exact ⟨lt, _, _, _, _, _, _, _, rfl, rfl, h1, h2, h3⟩
theorem Of6.val {lt : Lt} {t n c m d : Nat} {a k : Option Addr} (h : Of6 lt t a n c k m d) : lt.val = .agg #[.int .u8 (t : Int), .slice a n c, .slice k m d] := by
  unfold Lt.val
  rw [← lcell_cells, show lcell lt = _ from h]
theorem Kids.push6 {xs : List Nat} {A : Option Addr} {c n : Nat} {ks : List Lt} {w w' : World} {lt : Lt} {t n2 c2 m d : Nat} {a k : Option Addr} {g' c' : Nat} (h : Kids xs A c n ks w) (ht : Off (bl A ++ xs) (ThP lt) w) (h6 : Of6 lt t a n2 c2 k m d)
    (ho : OwnV 31 3 w' (some ⟨g', 0, none⟩) c' (n + 1) (ks.flatMap lcell ++ [.int .u8 (t : Int), .slice a n2 c2, .slice k m d])) (hg : w.grownBy w' (blockOf A))
    (ha : blockOf A = some g' ∨ g' = w.heap.size) (hx : ∀ x ∈ xs, x < w.heap.size) : Kids xs (some ⟨g', 0, none⟩) c' (n + 1) (ks ++ [lt]) w' := h.push ht (by rw [show lcell lt = _ from h6]; exact ho) hg ha hx
theorem one6 {t n c m d : Nat} {a k : Option Addr} : ∀ u ∈ [Value.int .u8 (t : Int), .slice a n c, .slice k m d], u.oneCell' = true := by
  intro u hu
  simp only [List.mem_cons, List.not_mem_nil, or_false] at hu
  rcases hu with rfl | rfl | rfl <;> rfl
/-- Things laid at once, one or two. -/
theorem row6 {xs : List Nat} {w : World} {lt : Lt} {t n c m d : Nat} {a k : Option Addr} (h : Off xs (ThP lt) w) (h6 : Of6 lt t a n c k m d) (hx : w.heap.size ∉ xs) : Off xs (KiP (some ⟨w.heap.size, 0, none⟩) 1 [lt]) (w.alloc (.cells #[.int .u8 (t : Int), .slice a n c, .slice k m d] 31)) := by
  have := off_row (l := [lt]) (fun x hx2 => by rw [List.mem_singleton.1 hx2]; exact h) hx (by simp)
  rwa [show ([lt].flatMap lcell).toArray = #[.int .u8 (t : Int), .slice a n c, .slice k m d] by rw [List.flatMap_cons, List.flatMap_nil, List.append_nil, show lcell lt = _ from h6]] at this
theorem row66 {xs : List Nat} {w : World} {lt lt' : Lt} {t n c m d t' n' c' m' d' : Nat} {a k a' k' : Option Addr} (h : Off xs (ThP lt) w) (h6 : Of6 lt t a n c k m d) (h' : Off xs (ThP lt') w) (h6' : Of6 lt' t' a' n' c' k' m' d') (hx : w.heap.size ∉ xs) :
    Off xs (KiP (some ⟨w.heap.size, 0, none⟩) 2 [lt, lt']) (w.alloc (.cells #[.int .u8 (t : Int), .slice a n c, .slice k m d, .int .u8 (t' : Int), .slice a' n' c', .slice k' m' d'] 31)) := by
  have := off_row (l := [lt, lt']) (fun x hx2 => by
    rcases List.mem_cons.1 hx2 with rfl | hx2
    · exact h
    · rw [List.mem_singleton.1 hx2]; exact h') hx (by simp)
  rwa [show ([lt, lt'].flatMap lcell).toArray = #[.int .u8 (t : Int), .slice a n c, .slice k m d, .int .u8 (t' : Int), .slice a' n' c', .slice k' m' d'] by rw [List.flatMap_cons, List.flatMap_cons, List.flatMap_nil, List.append_nil, show lcell lt = _ from h6, show lcell lt' = _ from h6']; rfl] at this
theorem bytes_block {W : World} {g : Nat} {cs : Array Value} {mk : Nat × Nat} {b : List Nat} (h : W.heap[g]? = some (.cells cs 5 mk)) (hc : cs = (bvals b).toArray) (hl : b.length ≤ 100000) : Rd .u8 W W.heap.size (some ⟨g, 0, none⟩) b.length b :=
  ⟨Nat.le_refl _, by omega, fun _ => ⟨g, 0, rfl, (Array.getElem?_eq_some_iff.1 h).1, fun j hj => by
    rw [Nat.zero_add, cell_of_row W g j cs 5 mk h, hc, List.getElem?_toArray]
    exact bvals_at b hj⟩⟩
theorem Att.v_take {l : List Att} {i : Nat} (h : i < l.length) : (l.take (i + 1)).map atTr = (l.take i).map atTr ++ [atTr (l.getD i default)] := by
  rw [List.take_succ_eq_append_getElem h, List.map_append]
  simp [List.getD, h]
end Go.Proofs.YtbkjjhpnjfdlbaaGreatDoor
