/-
  Many sectors at once: what is done where nothing crashes.
-/
import Derived.Test.YtkmbgbbmhpidkaaJr10
namespace Go.Proofs.Ytkmbgbbmhpidkaa
open Go.RowKit
set_option linter.unusedVariables false
set_option linter.unusedSimpArgs false

/-- It is up, and does not crash. -/
structure Well (s : Dk) : Prop where
  dn : s.down = false
  ar : s.armed = false
def setAll (a : List (List Nat)) (l : List (Int × List Nat)) : List (List Nat) := l.foldl (fun a p => a.set p.1.toNat p.2) a
theorem setAll_append (a : List (List Nat)) (l m : List (Int × List Nat)) : setAll a (l ++ m) = setAll (setAll a l) m := List.foldl_append
theorem setAll_length (a : List (List Nat)) (l : List (Int × List Nat)) : (setAll a l).length = a.length := by
  induction l generalizing a with
  | nil => rfl
  | cons p l ih => rw [setAll, List.foldl_cons]; exact (ih _).trans (List.length_set)
theorem setAll_off {a : List (List Nat)} {l : List (Int × List Nat)} {i : Nat} (h : ∀ p ∈ l, p.1.toNat ≠ i) : (setAll a l).getD i [] = a.getD i [] := by
  induction l generalizing a with
  | nil => rfl
  | cons p l ih =>
    rw [setAll, List.foldl_cons]
    refine (ih (a := a.set p.1.toNat p.2) fun q hq => h q (List.mem_cons_of_mem _ hq)).trans ?_
    simp only [List.getD]
    rw [List.getElem?_set_ne (h p (List.mem_cons_self ..))]
theorem setAll_on {a : List (List Nat)} {l r : List (Int × List Nat)} {p : Int × List Nat} (hp : p.1.toNat < a.length) (hr : ∀ q ∈ r, q.1.toNat ≠ p.1.toNat) : (setAll a (l ++ p :: r)).getD p.1.toNat [] = p.2 := by
  rw [setAll_append]
  show (setAll ((setAll a l).set p.1.toNat p.2) r).getD _ _ = _
  rw [setAll_off hr]
  simp [List.getD, setAll_length, hp]
theorem Dk.read_now (s : Dk) (i : Nat) : s.read (i : Int) = s.now.getD i [] := by unfold Dk.read; rw [if_pos (by omega), Int.toNat_natCast]
def FitW (n : Nat) (l : List (Int × List Nat)) : Prop := ∀ p ∈ l, 0 ≤ p.1 ∧ p.1 < (n : Int) ∧ p.2.length = 64
theorem Well.write {s : Dk} (h : Well s) {i : Int} {x : List Nat} (hf : 0 ≤ i ∧ i < (s.now.length : Int) ∧ x.length = 64) : s.write i x = (s.wrote i.toNat x, 0) := by
  unfold Dk.write
  rw [if_neg (by rw [h.dn]; simp), if_pos (show s.fits i x from hf), if_neg (by unfold Dk.due; rw [h.ar]; simp)]
theorem Well.puts {s : Dk} (h : Well s) {l : List (Int × List Nat)} (hf : FitW s.now.length l) : (s.puts l).2 = 0 ∧ Well (s.puts l).1 ∧ (s.puts l).1.now = setAll s.now l ∧ (s.puts l).1.ops = s.ops + l.length := by
  induction l generalizing s with
  | nil => exact ⟨rfl, h, rfl, rfl⟩
  | cons p l ih =>
    have hw := h.write (hf p (List.mem_cons_self ..))
    rw [Dk.puts, hw, if_pos rfl]
    have h2 : Well (s.wrote p.1.toNat p.2) := ⟨h.dn, h.ar⟩
    have hn : (s.wrote p.1.toNat p.2).now = s.now.set p.1.toNat p.2 := rfl
    have ho : (s.wrote p.1.toNat p.2).ops = s.ops + 1 := rfl
    obtain ⟨a1, a2, a3, a4⟩ := ih h2 (fun q hq => by rw [hn, List.length_set]; exact hf q (List.mem_cons_of_mem _ hq))
    exact ⟨a1, a2, by rw [a3, hn]; rfl, by rw [a4, ho, List.length_cons]; omega⟩
theorem Well.putf {s : Dk} (h : Well s) {l : List (Int × List Nat)} (hf : FitW s.now.length l) : (s.putf l).2 = 0 ∧ Well (s.putf l).1 ∧ (s.putf l).1.now = setAll s.now l ∧ (s.putf l).1.ops = s.ops + l.length + 1 := by
  obtain ⟨a1, a2, a3, a4⟩ := h.puts hf
  rw [putf_go a1]
  have e : (s.puts l).1.flush = ((s.puts l).1.flushed, 0) := by
    unfold Dk.flush
    rw [if_neg (by rw [a2.dn]; simp), if_neg (by unfold Dk.due; rw [a2.ar]; simp)]
  rw [e]
  exact ⟨rfl, ⟨a2.dn, a2.ar⟩, a3, by show (s.puts l).1.ops + 1 = _; rw [a4]⟩
theorem logs_fit {s : Dk} {l : List (Int × List Nat)} (hm : 0 < s.many) (hg : ∀ p ∈ l, GoodJ s.many p) (hn : l.length ≤ 150) : FitW s.now.length (logD l ++ logS l) := fun p hp => by
  have h158 : 158 ≤ s.now.length := by unfold Dk.many at hm; omega
  have hs : sheetsN l.length ≤ 5 := by unfold sheetsN; omega
  rcases List.mem_append.1 hp with hp | hp
  · obtain ⟨i, hi, rfl⟩ := List.mem_mapIdx.1 hp
    refine ⟨by dsimp only; omega, by dsimp only; omega, (hg _ (List.getElem_mem hi)).2.2⟩
  · obtain ⟨t, ht, rfl⟩ := List.mem_map.1 hp
    have := List.mem_range.1 ht
    exact ⟨by dsimp only; omega, by dsimp only; omega, secOf_length _⟩
/-- All that a commit writes. -/
def commitW (l : List (Int × List Nat)) : List (Int × List Nat) := (logD l ++ logS l) ++ ([(1, markB l.length)] ++ ((l.map fun p => (157 + p.1, p.2)) ++ [(1, zsec)]))
theorem Well.commit {s : Dk} (h : Well s) {l : List (Int × List Nat)} (hm : 0 < s.many) (hmay : mayJ s.many l = true) (h0 : l ≠ []) (hn : l.length ≤ 150) :
    (s.commit l).2 = 0 ∧ Well (s.commit l).1 ∧ (s.commit l).1.now = setAll s.now (commitW l) := by
  have hg := mayJ_good hmay
  have hml : s.now.length = s.many + 157 := by unfold Dk.many at hm ⊢; omega
  obtain ⟨a1, a2, a3, _⟩ := h.putf (logs_fit hm hg hn)
  have e : s.commit l = ((s.putf (logD l ++ logS l)).1.putf [(1, markB l.length)]).1.fin l ∧ ((s.putf (logD l ++ logS l)).1.putf [(1, markB l.length)]).2 = 0 := by
    have hb := a2.putf (l := [(1, markB l.length)]) (fun p hp => by
      rw [List.mem_singleton.1 hp, a3, setAll_length]
      exact ⟨by omega, by dsimp only; omega, secOf_length _⟩)
    refine ⟨?_, hb.1⟩
    unfold Dk.commit
    rw [if_pos hmay, if_neg (by omega), if_neg h0, if_pos a1, if_pos hb.1]
  obtain ⟨b1, b2, b3, _⟩ := a2.putf (l := [(1, markB l.length)]) (fun p hp => by
    rw [List.mem_singleton.1 hp, a3, setAll_length]
    exact ⟨by omega, by dsimp only; omega, secOf_length _⟩)
  rw [e.1]
  generalize (s.putf (logD l ++ logS l)).1.putf [(1, markB l.length)] = q at *
  obtain ⟨s2, e2⟩ := q
  dsimp only at *
  have hl2 : s2.now.length = s.now.length := by rw [b3, setAll_length, a3, setAll_length]
  obtain ⟨c1, c2, c3, _⟩ := b2.putf (l := l.map fun p => (157 + p.1, p.2)) (fun p hp => by
    obtain ⟨q, hq, rfl⟩ := List.mem_map.1 hp
    have := hg q hq
    have g1 := this.1
    have g2 := this.2.1
    rw [hl2]
    exact ⟨by dsimp only; omega, by dsimp only; omega, this.2.2⟩)
  obtain ⟨d1, d2, d3, _⟩ := c2.putf (l := [(1, zsec)]) (fun p hp => by
    rw [List.mem_singleton.1 hp, c3, setAll_length, hl2]
    exact ⟨by omega, by dsimp only; omega, zsec_len⟩)
  unfold Dk.fin
  rw [if_pos c1]
  refine ⟨d1, d2, ?_⟩
  simp only [d3, c3, b3, a3, commitW, setAll_append]
/-- Places behind a commit; the first sector; the mark. -/
theorem commitW_place {a : List (List Nat)} {l : List (Int × List Nat)} {k : Nat} {p : Int × List Nat} (hk : l[k]? = some p) (hp : 0 ≤ p.1 ∧ 157 + p.1 < (a.length : Int)) (hpos : ∀ q ∈ l, 0 ≤ q.1) (hnd : (l.map (·.1)).Nodup) : (setAll a (commitW l)).getD (157 + p.1).toNat [] = p.2 := by
  have e : commitW l = ((logD l ++ logS l) ++ ([(1, markB l.length)] ++ (l.take k).map fun p => (157 + p.1, p.2))) ++ (157 + p.1, p.2) :: (((l.drop (k + 1)).map fun p => (157 + p.1, p.2)) ++ [(1, zsec)]) := by
    unfold commitW
    conv => lhs; rw [show (l.map fun p : Int × List Nat => (157 + p.1, p.2)) = ((l.take k ++ p :: l.drop (k + 1)).map fun p : Int × List Nat => (157 + p.1, p.2)) by rw [← split_at hk]]
    simp [List.map_append]
  rw [e]
  refine setAll_on (p := (157 + p.1, p.2)) (by dsimp only; omega) fun q hq => ?_
  rcases List.mem_append.1 hq with hq | hq
  · obtain ⟨q', hq', rfl⟩ := List.mem_map.1 hq
    have h1 := hpos q' (List.mem_of_mem_drop hq')
    have hne : q'.1 ≠ p.1 := fun h => by
      rw [split_at hk, List.map_append, List.map_cons, List.nodup_append, List.nodup_cons] at hnd
      exact hnd.2.1.1 (h ▸ List.mem_map_of_mem hq')
    dsimp only
    omega
  · rw [List.mem_singleton.1 hq]
    dsimp only
    omega
theorem commitW_zero {a : List (List Nat)} {l : List (Int × List Nat)} (hpos : ∀ q ∈ l, 0 ≤ q.1) : (setAll a (commitW l)).getD 0 [] = a.getD 0 [] := setAll_off fun p hp => by
  unfold commitW at hp
  rcases List.mem_append.1 hp with hp | hp
  · rcases List.mem_append.1 hp with hp | hp
    · obtain ⟨i, hi, rfl⟩ := List.mem_mapIdx.1 hp
      dsimp only; omega
    · obtain ⟨t, ht, rfl⟩ := List.mem_map.1 hp
      dsimp only; omega
  · rcases List.mem_append.1 hp with hp | hp
    · rw [List.mem_singleton.1 hp]; simp
    · rcases List.mem_append.1 hp with hp | hp
      · obtain ⟨q, hq, rfl⟩ := List.mem_map.1 hp
        have := hpos q hq
        dsimp only; omega
      · rw [List.mem_singleton.1 hp]; simp
theorem commitW_mark {a : List (List Nat)} {l : List (Int × List Nat)} (ha : 1 < a.length) : (setAll a (commitW l)).getD 1 [] = zsec := by
  unfold commitW
  rw [← List.append_assoc, ← List.append_assoc]
  exact setAll_on (p := (1, zsec)) (r := []) ha (fun q hq => by cases hq)
/-! A new disk, made one of ours. -/
theorem format_fit {n : Nat} (hn : 158 ≤ n) : FitW n (formW n) := fun p hp => by
  unfold formW at hp
  rcases List.mem_cons.1 hp with rfl | hp
  · exact ⟨by omega, by dsimp only; omega, apst_len⟩
  rcases List.mem_cons.1 hp with rfl | hp
  · exact ⟨by omega, by dsimp only; omega, zsec_len⟩
  obtain ⟨i, hi, rfl⟩ := List.mem_map.1 hp
  have := List.mem_range.1 hi
  exact ⟨by dsimp only; omega, by dsimp only; omega, zsec_len⟩
theorem Well.format {s : Dk} (h : Well s) (hn : 158 ≤ s.now.length) : s.format.2 = 0 ∧ Well s.format.1 ∧ s.format.1.now = setAll s.now (formW s.now.length) := by
  unfold Dk.format
  rw [if_neg (by unfold Dk.many; omega)]
  obtain ⟨a1, a2, a3, _⟩ := h.putf (format_fit hn)
  exact ⟨a1, a2, a3⟩
theorem well_fresh (n : Nat) : Well (fresh n) := ⟨rfl, rfl⟩
theorem formW_zero {a : List (List Nat)} {n : Nat} (ha : 0 < a.length) : (setAll a (formW n)).getD 0 [] = apstB := by
  unfold formW
  exact setAll_on (l := []) (p := (0, apstB)) ha fun q hq => by
    rcases List.mem_cons.1 hq with rfl | hq
    · decide
    · obtain ⟨i, _, rfl⟩ := List.mem_map.1 hq
      dsimp only; omega
theorem formW_mark {a : List (List Nat)} {n : Nat} (ha : 1 < a.length) : (setAll a (formW n)).getD 1 [] = zsec := by
  unfold formW
  exact setAll_on (l := [(0, apstB)]) (p := (1, zsec)) ha fun q hq => by
    obtain ⟨i, _, rfl⟩ := List.mem_map.1 hq
    dsimp only; omega
theorem formW_place {a : List (List Nat)} {n i : Nat} (ha : a.length = n) (hi : 157 + i < n) : (setAll a (formW n)).getD (157 + i) [] = zsec := by
  have e : formW n = ((0, apstB) :: (1, zsec) :: (List.range i).map fun i : Nat => (((157 + i : Nat) : Int), zsec)) ++ (((157 + i : Nat) : Int), zsec) :: ((List.range (n - 157 - i - 1)).map fun j : Nat => (((157 + (i + 1 + j) : Nat) : Int), zsec)) := by
    unfold formW
    rw [show n - 157 = i + (1 + (n - 157 - i - 1)) by omega, List.range_add, List.map_append, List.range_add, List.map_append]
    simp [List.map_map, Function.comp_def]
    intro j hj
    omega
  rw [e]
  have h := setAll_on (a := a) (l := (0, apstB) :: (1, zsec) :: (List.range i).map fun i : Nat => (((157 + i : Nat) : Int), zsec)) (p := (((157 + i : Nat) : Int), zsec)) (r := (List.range (n - 157 - i - 1)).map fun j : Nat => (((157 + (i + 1 + j) : Nat) : Int), zsec)) (by dsimp only; omega) (fun q hq => by
    obtain ⟨j, _, rfl⟩ := List.mem_map.1 hq
    dsimp only; omega)
  dsimp only at h
  rw [Int.toNat_natCast] at h
  exact h
end Go.Proofs.Ytkmbgbbmhpidkaa
