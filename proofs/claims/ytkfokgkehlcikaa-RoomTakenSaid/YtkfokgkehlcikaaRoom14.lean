/-
  What is taken was free, rises, and is gone once a node has it: the words.
-/
import Derived.Test.YtkfokgkehlcikaaRoom13
import Derived.Deep.AppendSrc
import Derived.Deep.Upon
namespace Go.Proofs.Ytkfokgkehlcikaa
open Go.RowKit Go.WideMaps Go.Maps
set_option linter.unusedVariables false
set_option linter.unusedSimpArgs false

theorem freeN_rises (hb : Nat → Bool) (k : Nat) : (freeN hb k).Pairwise (· < ·) := by
  unfold freeN
  refine List.Pairwise.filter _ ?_
  rw [List.pairwise_map]
  exact List.pairwise_lt_range.imp (fun h => by omega)
theorem mem_freeN {hb : Nat → Bool} {k x : Nat} : x ∈ freeN hb k ↔ 40 ≤ x ∧ x < 40 + k ∧ hb x = false := by
  unfold freeN
  rw [List.mem_filter, List.mem_map]
  constructor
  · rintro ⟨⟨i, hi, rfl⟩, h⟩
    have := List.mem_range.1 hi
    exact ⟨by omega, by omega, by simpa using h⟩
  · rintro ⟨h1, h2, h3⟩
    exact ⟨⟨x - 40, List.mem_range.2 (by omega), by omega⟩, by simpa using h3⟩
theorem freeN_less {hb hb' : Nat → Bool} {r k : Nat} (h : ∀ x, hb' x = true ↔ hb x = true ∨ x ∈ (freeN hb r).take k) : freeN hb' r = (freeN hb r).drop k := by
  have e1 : freeN hb' r = (freeN hb r).filter (fun x => !hb' x) := by
    unfold freeN
    rw [List.filter_filter]
    apply List.filter_congr
    intro x _
    cases h1 : hb x
    · simp
    · have : hb' x = true := (h x).2 (.inl h1)
      simp [this]
  rw [e1]
  have hp : ((freeN hb r).take k ++ (freeN hb r).drop k).Pairwise (· < ·) := by rw [List.take_append_drop]; exact freeN_rises hb r
  have e2 : (freeN hb r).filter (fun x => !hb' x) = ((freeN hb r).take k ++ (freeN hb r).drop k).filter (fun x => !hb' x) := by rw [List.take_append_drop]
  rw [e2, List.filter_append]
  have a1 : ((freeN hb r).take k).filter (fun x => !hb' x) = [] := by
    rw [List.filter_eq_nil_iff]
    intro x hx
    have : hb' x = true := (h x).2 (.inr hx)
    simp [this]
  have a2 : ((freeN hb r).drop k).filter (fun x => !hb' x) = (freeN hb r).drop k := by
    rw [List.filter_eq_self]
    intro x hx
    have h1 := (mem_freeN.1 (List.mem_of_mem_drop hx)).2.2
    have h2 : ¬ x ∈ (freeN hb r).take k := fun hm => by
      have := (List.pairwise_append.1 hp).2.2 x hm x hx
      omega
    cases h3 : hb' x
    · rfl
    · rcases (h x).1 h3 with h4 | h4
      · rw [h1] at h4; cases h4
      · exact absurd h4 h2
  rw [a1, a2, List.nil_append]

def taken : ByteArray := ⟨#[126, 126, 126, 116, 97, 107, 101, 110]⟩
theorem taken_ok : NameOk taken := ⟨by decide, by decide, by decide⟩
/-- The nodes, and one more. -/
def plus (l : List Nd) (k : Nat) (A : Option Addr) (c : Nat) (a : List Nat) : List Nd := l ++ [⟨taken, 64 * (k : Int), A, c, a.map fun x : Nat => (x : Int)⟩]
section
variable {l : List Nd} {k : Nat} {A : Option Addr} {c : Nat} {a : List Nat}
theorem plus_length : (plus l k A c a).length = l.length + 1 := by simp [plus]
theorem plus_low {j : Nat} (h : j < l.length) : (plus l k A c a).getD j default = l.getD j default := by
  unfold plus
  simp [List.getD, List.getElem?_append_left h]
theorem plus_last : (plus l k A c a).getD l.length default = ⟨taken, 64 * (k : Int), A, c, a.map fun x : Nat => (x : Int)⟩ := by
  simp [plus, List.getD]
theorem hasL_plus_low {x : Int} {j : Nat} (h : j ≤ l.length) : hasL (plus l k A c a) x j ↔ hasL l x j := by
  constructor
  · rintro ⟨i, t, h1, h2, h3, h4⟩
    rw [plus_low (by omega)] at h3 h4
    exact ⟨i, t, h1, by omega, h3, h4⟩
  · rintro ⟨i, t, h1, h2, h3, h4⟩
    exact ⟨i, t, h1, by rw [plus_length]; omega, by rw [plus_low h2]; exact h3, by rw [plus_low h2]; exact h4⟩
theorem hasL_plus {x : Nat} : hasL (plus l k A c a) (x : Int) (l.length + 1) ↔ hasL l (x : Int) l.length ∨ x ∈ a := by
  have h := hasL_next (l := plus l k A c a) (k := l.length) (by rw [plus_length]; omega) (x := (x : Int))
  rw [h, hasL_plus_low (Nat.le_refl _), plus_last]
  refine or_congr Iff.rfl ?_
  constructor
  · rintro ⟨i, hi, he⟩
    have hi' : i < a.length := by simpa using hi
    have e : a.getD i 0 = x := by
      have := he
      simp [List.getD, hi'] at this
      simp [List.getD, hi']
      omega
    rw [← e]
    simp [List.getD, hi']
  · intro hx
    obtain ⟨i, hi, rfl⟩ := List.getElem_of_mem hx
    exact ⟨i, by simpa using hi, by simp [List.getD, hi]⟩
/-- With one node more that has free places they are still such. -/
theorem roomOk_plus {m : Nat} {hb : Nat → Bool} (hok : RoomOk l (m : Int)) (hl : l.length ≤ 30) (hk : k ≤ 9) (hh : ∀ x : Nat, hb x = true ↔ hasL l (x : Int) l.length) (ha : a = (freeN hb (m - 40)).take k) (hak : a.length = k) (hn : ¬ ∃ j, j < l.length ∧ (l.getD j default).name = taken) : RoomOk (plus l k A c a) (m : Int) := by
  have hm := hok.m1
  have hmem : ∀ i, i < a.length → 40 ≤ a.getD i 0 ∧ a.getD i 0 < m ∧ hb (a.getD i 0) = false := fun i hi => by
    have : a.getD i 0 ∈ a := by simp [List.getD, hi]
    have h2 : a.getD i 0 ∈ freeN hb (m - 40) := by
      rw [ha] at this ⊢
      exact List.mem_of_mem_take this
    obtain ⟨h3, h4, h5⟩ := mem_freeN.1 h2
    exact ⟨h3, by omega, h5⟩
  have hp : a.Pairwise (· < ·) := by rw [ha]; exact (freeN_rises hb _).sublist (List.take_sublist _ _)
  have hgd : ∀ i, i < a.length → (a.map fun x : Nat => (x : Int)).getD i 0 = ((a.getD i 0 : Nat) : Int) := fun i hi => by simp [List.getD, hi]
  refine ⟨by rw [plus_length]; omega, hok.m0, hok.m1, ⟨fun j hj => ?_, fun j i hj hi => ?_, fun j i hi hj => ?_⟩⟩
  · rw [plus_length] at hj
    rcases Nat.lt_or_ge j l.length with h | h
    · rw [plus_low h]; exact hok.all.node j h
    · obtain rfl : j = l.length := by omega
      rw [plus_last]
      refine ⟨taken_ok, by show (0 : Int) ≤ 64 * (k : Int); omega, by show 64 * (k : Int) ≤ 600; omega, ?_, fun i hi => ?_, fun i j hj hi => ?_⟩
      · show (((a.map fun x : Nat => (x : Int)).length : Nat) : Int) = needI (64 * (k : Int))
        rw [List.length_map, hak]
        unfold needI
        split <;> omega
      · have hi' : i < a.length := by simpa using hi
        show 0 ≤ (a.map fun x : Nat => (x : Int)).getD i 0 ∧ (a.map fun x : Nat => (x : Int)).getD i 0 ≤ 65535
        rw [hgd i hi']
        have := hmem i hi'
        omega
      · have hi' : i < a.length := by simpa using hi
        show (a.map fun x : Nat => (x : Int)).getD j 0 ≠ (a.map fun x : Nat => (x : Int)).getD i 0
        rw [hgd i hi', hgd j (by omega)]
        have h1 := List.pairwise_iff_getElem.1 hp j i (by omega) hi' hj
        simp [List.getD, hi', show j < a.length by omega]
        omega
  · rw [plus_length] at hj
    rcases Nat.lt_or_ge j l.length with h | h
    · rw [plus_low h] at hi ⊢
      have := hok.all.rng j i h hi
      exact ⟨this.1, this.2.1, fun hx => this.2.2 ((hasL_plus_low (by omega)).1 hx)⟩
    · obtain rfl : j = l.length := by omega
      rw [plus_last] at hi ⊢
      have hi' : i < a.length := by simpa using hi
      show 40 ≤ (a.map fun x : Nat => (x : Int)).getD i 0 ∧ (a.map fun x : Nat => (x : Int)).getD i 0 < (m : Int) ∧ ¬ hasL (plus l k A c a) ((a.map fun x : Nat => (x : Int)).getD i 0) l.length
      rw [hgd i hi', hasL_plus_low (Nat.le_refl _), ← hh]
      have := hmem i hi'
      exact ⟨by omega, by omega, by rw [this.2.2]; simp⟩
  · rw [plus_length] at hj
    rw [plus_low (show i < l.length by omega)]
    rcases Nat.lt_or_ge j l.length with h | h
    · rw [plus_low h]; exact hok.all.names j i hi h
    · obtain rfl : j = l.length := by omega
      rw [plus_last]
      exact fun e => hn ⟨i, hi, e⟩
end
/-- A row of one's own that holds nodes reads as nodes. -/
theorem RdN.of_ownT {e : TypeId} {w : World} {A : Option Addr} {c n : Nat} {l : List Nd} (hl : l.length = n) (h : OwnV e 3 w A c n (l.flatMap ncell)) (hr : ∀ j, j < n → RdI .i64 w w.heap.size (l.getD j default).pa (l.getD j default).pc (l.getD j default).pl) : RdN w w.heap.size A c l := by
  subst hl
  refine ⟨h.le.1, h.le.2, hr, fun hn => ?_⟩
  have at3 : ∀ j, j < l.length → ∀ t, t < 3 → ∀ v, (ncell (l.getD j default))[t]? = some v → ∃ g, A = some ⟨g, 0, none⟩ ∧ g < w.heap.size ∧ w.cell? ⟨g, 3 * j + t, none⟩ = some v := fun j hj t ht v hv => by
    have e : l[j]? = some (l.getD j default) := by simp [List.getD, hj]
    have f := flat_at (f := ncell) (m := 3) (L := l) (fun _ _ => rfl) e (j := t) ht
    obtain ⟨g, hA, hlt, hc, _⟩ := h.at_ (j := 3 * j + t) (v := v) (by rw [f]; exact hv)
    exact ⟨g, hA, hlt, hc⟩
  obtain ⟨g, rfl, hlt, _⟩ := at3 0 hn 0 (by omega) _ rfl
  refine ⟨g, 0, rfl, hlt, fun j hj => ?_⟩
  have k : ∀ t, t < 3 → ∀ v, (ncell (l.getD j default))[t]? = some v → w.cell? ⟨g, 3 * j + t, none⟩ = some v := fun t ht v hv => by
    obtain ⟨g', e, _, hc⟩ := at3 j hj t ht v hv
    injection e with e
    obtain rfl : g = g' := by injection e
    exact hc
  exact ⟨by rw [show 0 + j * 3 = 3 * j + 0 by omega]; exact k 0 (by omega) _ rfl, by rw [show 0 + j * 3 + 1 = 3 * j + 1 by omega]; exact k 1 (by omega) _ rfl, by rw [show 0 + j * 3 + 2 = 3 * j + 2 by omega]; exact k 2 (by omega) _ rfl⟩
theorem info_node : (Try.prog.info? 25).map (fun i => (i.zero, i.size, i.bytes)) = some (some (.agg #[.string ByteArray.empty, .int .i64 0, .slice none 0 0]), 3, 48) := by kernel_rfl
theorem ncell_one (l : List Nd) : ∀ u ∈ l.flatMap ncell, u.oneCell' = true := by
  intro u hu
  obtain ⟨d, _, hd⟩ := List.mem_flatMap.1 hu
  simp [ncell] at hd
  rcases hd with rfl | rfl | rfl <;> rfl
/-- A row of nodes, copied. -/
theorem run_nodes (w : World) (B n : Nat) {A : Option Addr} {c : Nat} {l : List Nd} (hr : RdN w B A c l) (hl : l.length = n) (hn : n ≤ 1000) (g : Nat) (hg : w.heap[g]? = some (.cells #[] 25 (0, 0))) (ty : TypeId) :
    ∃ g' c2 w', (Builtin.append_ #[38, 38] ty #[.slice (some ⟨g, 0, none⟩) 0 0, .slice A n c]).run Try.prog w = .ok (.slice (some ⟨g', 0, none⟩) n c2) w' ∧ w.grownBy w' (some g) ∧ OwnV 25 3 w' (some ⟨g', 0, none⟩) c2 n (l.flatMap ncell) ∧ (g' = g ∨ g' = w.heap.size) ∧ g' < w'.heap.size := by
  subst hl
  obtain ⟨i, hi, hz, hsize, hby⟩ := info_parts info_node
  have hlt0 : g < w.heap.size := (Array.getElem?_eq_some_iff.1 hg).1
  have hown0 : w.ownsRow 0 25 3 (.slice (some ⟨g, 0, none⟩) 0 0) 0 [] := ⟨rfl, .inr ⟨g, 0, #[], rfl, Nat.zero_le _, hg, Nat.le_refl _, Nat.zero_le _, rfl, rfl⟩⟩
  rcases Nat.eq_zero_or_pos l.length with h0 | h0
  · obtain rfl := List.eq_nil_of_length_eq_zero h0
    have hs : Src Try.prog i.size 38 (.slice A 0 c) 0 [] w := by
      rcases A with _ | a
      · exact Src.ofNil w Try.underlying38 c
      · exact Src.ofSlice w Try.underlying38 a 0 c [] (by simp) (fun j u h => by simp at h) (fun u h => by cases h)
    exact ⟨g, 0, w, run_append_nothing w 38 38 ty 25 i Try.underlying38 hi _ 0 0 (Nat.le_refl _) _ hs, World.grownBy.refl w _, hown0, .inl rfl, hlt0⟩
  · obtain ⟨b, off, rfl, hb, hc⟩ := hr.2.2.2 h0
    have hlen : (l.flatMap ncell).length = 3 * l.length := flat_length (m := 3) (fun _ _ => rfl)
    obtain ⟨g', cap, w', hrun, hown, hgr, hat, hlt⟩ := run_append_lies (P := Try.prog) w 38 ty 0 25 i _ 3 48 Try.underlying38 hi hz hsize hby rfl (by omega)
      (.slice (some ⟨g, 0, none⟩) 0 0) 0 [] hown0 ⟨b, off, none⟩ l.length c (l.flatMap ncell) (by rw [hlen]; omega)
      (fun j u hj => by
        have hj' : j < 3 * l.length := by have := (List.getElem?_eq_some_iff.1 hj).1; rwa [hlen] at this
        have hq : j / 3 < l.length := by omega
        have e : l[j / 3]? = some (l.getD (j / 3) default) := by simp [List.getD, hq]
        have f := flat_at (f := ncell) (m := 3) (L := l) (fun _ _ => rfl) e (j := j % 3) (by omega)
        rw [show 3 * (j / 3) + j % 3 = j by omega] at f
        rw [f] at hj
        obtain ⟨k0, k1, k2⟩ := hc (j / 3) hq
        rw [Addr.add_lit]
        have hm : j % 3 = 0 ∨ j % 3 = 1 ∨ j % 3 = 2 := by omega
        rcases hm with h | h | h
        · rw [h] at hj
          rw [show off + j = off + j / 3 * 3 by omega, k0, ← hj]
          rfl
        · rw [h] at hj
          rw [show off + j = off + j / 3 * 3 + 1 by omega, k1, ← hj]
          rfl
        · rw [h] at hj
          rw [show off + j = off + j / 3 * 3 + 2 by omega, k2, ← hj]
          rfl) (ncell_one l) h0 (by simp [maxLen]; omega) (by omega) (Nat.zero_le _) w.heap.size rfl
    rw [Nat.zero_add, List.nil_append] at hown
    rw [Nat.zero_add] at hrun
    refine ⟨g', cap, w', hrun, hgr, hown, ?_, hlt⟩
    rcases hat with h | h
    · exact .inl (by simpa [Value.ownBlock] using h.symm)
    · exact .inr h
end Go.Proofs.Ytkfokgkehlcikaa
