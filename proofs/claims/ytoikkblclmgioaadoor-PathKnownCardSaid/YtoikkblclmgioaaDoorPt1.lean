/-
  Paths that may be, plain: parts between strokes; several together. Nothing of the program.
-/
import Derived.Lib.Split
import Derived.Lib.SplitLaws
import Derived.Lib.Hide
namespace Go.Proofs.YtoikkblclmgioaaDoor
set_option linter.unusedVariables false

/-- May a byte stand in a part? -/
def letterB (c : UInt8) : Bool := (decide (97 ≤ c.toNat) && decide (c.toNat ≤ 122)) || (decide (48 ≤ c.toNat) && decide (c.toNat ≤ 57)) || decide (c.toNat = 45) || decide (c.toNat = 95) || decide (c.toNat = 46)
/-- May it be a part? -/
def mayB (l : List UInt8) : Bool := decide (1 ≤ l.length) && decide (l.length ≤ 20) && !(l == [46]) && !(l == [46, 46]) && l.all letterB
/-- The parts from here on; cur is what the first one has already. -/
def okFrom (cur : List UInt8) : List UInt8 → Bool
  | [] => mayB cur
  | c :: r => if c = 47 then mayB cur && okFrom [] r else okFrom (cur ++ [c]) r
/-- May it be a path? -/
def isP (l : List UInt8) : Bool := decide (l.length ≤ 32) && okFrom [] l

theorem mayB_nil : mayB [] = false := rfl
theorem isP_nil : isP [] = false := rfl

/-- The parts of a split, with more ahead of the first one. -/
def allFrom (cur : List UInt8) : List (List UInt8) → Bool
  | [] => true
  | h :: t => mayB (cur ++ h) && t.all mayB
theorem allFrom_nil (ps : List (List UInt8)) : allFrom [] ps = ps.all mayB := by cases ps <;> rfl

theorem index_cons_eq (l : List UInt8) (c : UInt8) : Lib.index (c :: l) [c] = ((0 : Nat) : Int) := by rw [Lib.index]; simp [List.isPrefixOf]
theorem index_cons_ne (b c : UInt8) (l : List UInt8) (h : b ≠ c) : Lib.index (b :: l) [c] = if Lib.index l [c] == -1 then -1 else Lib.index l [c] + 1 := by
  have hp : ([c] : List UInt8).isPrefixOf (b :: l) = false := by simp [List.isPrefixOf, Ne.symm h]
  rw [Lib.index, hp]; simp

theorem split_from : ∀ (l cur : List UInt8), okFrom cur l = allFrom cur (Lib.splitK [47] 0 (l.count 47) l)
  | [], cur => by simp [okFrom, Lib.splitK, allFrom]
  | c :: r, cur => by
    by_cases h : c = 47
    · subst h
      rw [okFrom, if_pos rfl, split_from r [], allFrom_nil, List.count_cons_self, Lib.splitK, index_cons_eq]
      simp [allFrom]
    · rw [okFrom, if_neg h, split_from r (cur ++ [c]), List.count_cons_of_ne (by simpa using h)]
      rcases hk : r.count 47 with _ | k
      · simp [Lib.splitK, allFrom]
      · have hm : ¬ Lib.index r [47] = -1 := fun e => by
          have := Lib.count_miss e
          rw [Lib.count_one] at this
          omega
        have hge := Lib.index_ge r [47]
        obtain ⟨j, hj⟩ : ∃ j : Nat, Lib.index r [47] = j := ⟨(Lib.index r [47]).toNat, by omega⟩
        have e1 : Lib.index (c :: r) [47] = ((j + 1 : Nat) : Int) := by
          rw [index_cons_ne c 47 r h, if_neg (by simpa using hm), hj]; omega
        have n1 : ¬ (Lib.index r [47] == -1) = true := by simpa using hm
        have n2 : ¬ (Lib.index (c :: r) [47] == -1) = true := by rw [e1]; simp; omega
        rw [Lib.splitK, if_neg n1, Lib.splitK, if_neg n2, e1, hj]
        simp [allFrom]

/-- Cut at every stroke, each part is one. -/
theorem split_all (s : ByteArray) : ((Lib.splitB ⟨#[47]⟩ 0 (Lib.countB s ⟨#[47]⟩) s).all fun p => mayB p.data.toList) = okFrom [] s.data.toList := by
  have e1 := Lib.splitB_data ⟨#[47]⟩ 0 (Lib.countB s ⟨#[47]⟩) s
  have e2 : Lib.countB s ⟨#[47]⟩ = s.data.toList.count 47 := Lib.count_one 47 s.data.toList
  rw [split_from, allFrom_nil, ← e2]
  have e3 : ((⟨#[47]⟩ : ByteArray).data.toList) = [47] := rfl
  rw [e3] at e1
  rw [← e1, List.all_map]
  rfl

/-- May all be together? -/
def AllOk (ls : List (List UInt8)) : Prop :=
  (∀ s ∈ ls, isP s = true) ∧ ls.Nodup ∧ ∀ s ∈ ls, ∀ i, i < s.length → s.getD i 0 = 47 → s.take i ∉ ls
/-- .. as the document asks it. -/
def Apart (a b : List UInt8) : Prop := a ≠ b ∧ ¬ (a.length < b.length ∧ b.take a.length = a ∧ b.getD a.length 0 = 47)
def RefOk (ls : List (List UInt8)) : Prop :=
  ∀ i, i < ls.length → isP (ls.getD i []) = true ∧ ∀ k, k < ls.length → k ≠ i → Apart (ls.getD i []) (ls.getD k [])

theorem getD_mem {ls : List (List UInt8)} {i : Nat} (h : i < ls.length) : ls.getD i [] ∈ ls := by simp [List.getD, h]
theorem mem_getD {ls : List (List UInt8)} {s : List UInt8} (h : s ∈ ls) : ∃ i, i < ls.length ∧ ls.getD i [] = s := by
  obtain ⟨i, hi, rfl⟩ := List.getElem_of_mem h
  exact ⟨i, hi, by simp [List.getD, hi]⟩
theorem nodup_getD (ls : List (List UInt8)) : ls.Nodup ↔ ∀ i j, i < ls.length → j < ls.length → i ≠ j → ls.getD i [] ≠ ls.getD j [] := by
  rw [List.Nodup, List.pairwise_iff_getElem]
  constructor
  · intro h i j hi hj hne
    have e : ∀ k (hk : k < ls.length), ls.getD k [] = ls[k] := fun k hk => by simp [List.getD, hk]
    rw [e i hi, e j hj]
    rcases Nat.lt_or_ge i j with h1 | h1
    · exact h i j hi hj h1
    · exact fun e => h j i hj hi (by omega) e.symm
  · intro h i j hi hj hlt
    have := h i j hi hj (by omega)
    simpa [List.getD, hi, hj] using this
theorem ref_all (ls : List (List UInt8)) : RefOk ls ↔ AllOk ls := by
  constructor
  · intro h
    refine ⟨fun s hs => ?_, (nodup_getD ls).2 fun i j hi hj hne => ((h i hi).2 j hj (Ne.symm hne)).1, fun s hs i hi h47 hm => ?_⟩
    · obtain ⟨i, hi, rfl⟩ := mem_getD hs
      exact (h i hi).1
    · obtain ⟨k, hk, rfl⟩ := mem_getD hs
      obtain ⟨j, hj, ej⟩ := mem_getD hm
      have hl : (ls.getD j []).length = i := by rw [ej, List.length_take]; omega
      have hne : k ≠ j := fun e => by rw [← e] at hl; omega
      exact ((h j hj).2 k hk hne).2 ⟨by omega, by rw [hl, ej], by rw [hl, h47]⟩
  · intro ⟨h1, h2, h3⟩ i hi
    refine ⟨h1 _ (getD_mem hi), fun k hk hne => ⟨(nodup_getD ls).1 h2 i k hi hk (Ne.symm hne), fun ⟨a, b, c⟩ => ?_⟩⟩
    exact h3 _ (getD_mem hk) _ a c (by rw [b]; exact getD_mem hi)

/-! Several, one after another. -/
/-- The first k are paths, each another one. -/
def Had (ls : List (List UInt8)) (k : Nat) : Prop := (∀ i, i < k → isP (ls.getD i []) = true) ∧ ∀ i j, i < k → j < i → ls.getD j [] ≠ ls.getD i []
theorem had_zero (ls : List (List UInt8)) : Had ls 0 := ⟨fun i h => by omega, fun i j h => by omega⟩
theorem had_step {ls : List (List UInt8)} {k : Nat} (h : Had ls k) (hp : isP (ls.getD k []) = true) (hn : ls.getD k [] ∉ ls.take k) (hk : k < ls.length) : Had ls (k + 1) := by
  refine ⟨fun i hi => ?_, fun i j hi hj => ?_⟩
  · rcases Nat.lt_or_ge i k with h' | h'
    · exact h.1 i h'
    · obtain rfl : i = k := by omega
      exact hp
  · rcases Nat.lt_or_ge i k with h' | h'
    · exact h.2 i j h' hj
    · obtain rfl : i = k := by omega
      intro e
      apply hn
      rw [← e]
      have : (ls.take i).getD j [] ∈ ls.take i := getD_mem (by simp; omega)
      simpa [List.getD, List.getElem?_take, hj] using this
theorem take_mem {ls : List (List UInt8)} {k : Nat} {s : List UInt8} (h : s ∈ ls.take k) : ∃ j, j < k ∧ j < ls.length ∧ ls.getD j [] = s := by
  obtain ⟨j, hj, e⟩ := mem_getD h
  rw [List.length_take] at hj
  have h1 : j < k := by omega
  exact ⟨j, h1, by omega, by rw [← e]; simp [List.getD, h1]⟩
theorem not_path {ls : List (List UInt8)} {k : Nat} (hk : k < ls.length) (hp : isP (ls.getD k []) = false) : ¬ AllOk ls := fun h => by
  have := h.1 _ (getD_mem hk)
  rw [hp] at this; cases this
theorem not_twice {ls : List (List UInt8)} {k : Nat} (hk : k < ls.length) (hm : ls.getD k [] ∈ ls.take k) : ¬ AllOk ls := fun h => by
  obtain ⟨j, h1, h2, e⟩ := take_mem hm
  exact (nodup_getD ls).1 h.2.1 j k h2 hk (by omega) e
/-- Of the first k none leads through another one; of the k-th the first i bytes are looked at. -/
def Thru (ls : List (List UInt8)) (k i : Nat) : Prop :=
  (∀ m, m < k → ∀ j, j < (ls.getD m []).length → (ls.getD m []).getD j 0 = 47 → (ls.getD m []).take j ∉ ls) ∧ ∀ j, j < i → j < (ls.getD k []).length → (ls.getD k []).getD j 0 = 47 → (ls.getD k []).take j ∉ ls
theorem thru_zero (ls : List (List UInt8)) : Thru ls 0 0 := ⟨fun m h => by omega, fun j h => by omega⟩
theorem thru_next {ls : List (List UInt8)} {k i : Nat} (h : Thru ls k i) (hi : (ls.getD k []).length ≤ i) : Thru ls (k + 1) 0 := by
  refine ⟨fun m hm j hj h47 => ?_, fun j hj => by omega⟩
  rcases Nat.lt_or_ge m k with h' | h'
  · exact h.1 m h' j hj h47
  · obtain rfl : m = k := by omega
    exact h.2 j (by omega) hj h47
theorem thru_other {ls : List (List UInt8)} {k i : Nat} (h : Thru ls k i) (hn : (ls.getD k []).getD i 0 ≠ 47) : Thru ls k (i + 1) := by
  refine ⟨h.1, fun j hj hl h47 => ?_⟩
  rcases Nat.lt_or_ge j i with h' | h'
  · exact h.2 j h' hl h47
  · obtain rfl : j = i := by omega
    exact absurd h47 hn
theorem thru_free {ls : List (List UInt8)} {k i : Nat} (h : Thru ls k i) (hn : (ls.getD k []).take i ∉ ls) : Thru ls k (i + 1) := by
  refine ⟨h.1, fun j hj hl h47 => ?_⟩
  rcases Nat.lt_or_ge j i with h' | h'
  · exact h.2 j h' hl h47
  · obtain rfl : j = i := by omega
    exact hn
theorem all_end {ls : List (List UInt8)} {i : Nat} (h : Had ls ls.length) (h' : Thru ls ls.length i) : AllOk ls := by
  refine ⟨fun s hs => ?_, (nodup_getD ls).2 fun i j hi hj hne => ?_, fun s hs => ?_⟩
  · obtain ⟨i, hi, rfl⟩ := mem_getD hs
    exact h.1 i hi
  · rcases Nat.lt_or_ge i j with h1 | h1
    · exact h.2 j i hj h1
    · exact fun e => h.2 i j hi (by omega) e.symm
  · obtain ⟨k, hk, rfl⟩ := mem_getD hs
    exact h'.1 k hk
theorem not_thru {ls : List (List UInt8)} {k i : Nat} (hk : k < ls.length) (hi : i < (ls.getD k []).length) (h47 : (ls.getD k []).getD i 0 = 47) (hm : (ls.getD k []).take i ∈ ls) : ¬ AllOk ls := fun h => h.2.2 _ (getD_mem hk) i hi h47 hm

/-! The document's loops. -/
def RefTo (ls : List (List UInt8)) (i k : Nat) : Prop :=
  (∀ m, m < i → isP (ls.getD m []) = true ∧ ∀ j, j < ls.length → j ≠ m → Apart (ls.getD m []) (ls.getD j [])) ∧ ∀ j, j < k → j < ls.length → j ≠ i → Apart (ls.getD i []) (ls.getD j [])
theorem refTo_zero (ls : List (List UInt8)) : RefTo ls 0 0 := ⟨fun m h => by omega, fun j h => by omega⟩
theorem refTo_next {ls : List (List UInt8)} {i k : Nat} (h : RefTo ls i k) (hk : ls.length ≤ k) (hp : isP (ls.getD i []) = true) : RefTo ls (i + 1) 0 := by
  refine ⟨fun m hm => ?_, fun j hj => by omega⟩
  rcases Nat.lt_or_ge m i with h' | h'
  · exact h.1 m h'
  · obtain rfl : m = i := by omega
    exact ⟨hp, fun j hj hne => h.2 j (by omega) hj hne⟩
theorem refTo_step {ls : List (List UInt8)} {i k : Nat} (h : RefTo ls i k) (hs : k ≠ i → Apart (ls.getD i []) (ls.getD k [])) : RefTo ls i (k + 1) := by
  refine ⟨h.1, fun j hj hl hne => ?_⟩
  rcases Nat.lt_or_ge j k with h' | h'
  · exact h.2 j h' hl hne
  · obtain rfl : j = k := by omega
    exact hs hne
theorem refTo_end {ls : List (List UInt8)} {k : Nat} (h : RefTo ls ls.length k) : AllOk ls := (ref_all ls).1 fun i hi => h.1 i hi
theorem not_apart {ls : List (List UInt8)} {i k : Nat} (hi : i < ls.length) (hk : k < ls.length) (hne : k ≠ i) (h : ¬ Apart (ls.getD i []) (ls.getD k [])) : ¬ AllOk ls := fun ha => h (((ref_all ls).2 ha i hi).2 k hk hne)

end Go.Proofs.YtoikkblclmgioaaDoor
