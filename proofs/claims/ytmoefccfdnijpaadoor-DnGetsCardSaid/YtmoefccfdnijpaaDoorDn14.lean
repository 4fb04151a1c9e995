/-
  A row of parts of names that grows; what a thing is that is a name's.
-/
import Derived.Test.YtmoefccfdnijpaaDoorDn11
import Derived.Test.YtmoefccfdnijpaaDoorDn9
import Derived.Test.YtmoefccfdnijpaaDoorDn10
namespace Go.Proofs.YtmoefccfdnijpaaDoor
open Go.RowKit
set_option linter.unusedVariables false
set_option linter.unusedSimpArgs false
attribute [local go_sem ↓] Go.wp_at_zero Go.wp_at_succ

theorem info_att : (Tryd.prog.info? 39).map (fun i => (i.zero, i.size, i.bytes)) = some (some (.agg #[.int .i64 0, .string ⟨#[]⟩]), 2, 24) := by kernel_rfl
def acell (a : Att) : List Value := [.int .i64 a.k, .string a.s]
theorem oneA {k : Int} {s : ByteArray} : ∀ u ∈ [Value.int .i64 k, .string s], u.oneCell' = true := by
  intro u hu
  simp only [List.mem_cons, List.not_mem_nil, or_false] at hu
  rcases hu with rfl | rfl <;> rfl
/-- A row of one's own of parts. -/
structure Ats (A : Option Addr) (c n : Nat) (l : List Att) (w : World) : Prop where
  len : l.length = n
  own : OwnV 39 2 w A c n (l.flatMap acell)
theorem RdA.of_own {w : World} {A : Option Addr} {c n : Nat} {l : List Att} (hl : l.length = n) (h : OwnV 39 2 w A c n (l.flatMap acell)) : RdA w w.heap.size A c l := by
  subst hl
  refine ⟨h.le.1, h.le.2, fun hn => ?_⟩
  have at3 : ∀ j, j < l.length → ∀ t, t < 2 → ∀ v, (acell (l.getD j default))[t]? = some v → ∃ g, A = some ⟨g, 0, none⟩ ∧ g < w.heap.size ∧ w.cell? ⟨g, 2 * j + t, none⟩ = some v := fun j hj t ht v hv => by
    have e : l[j]? = some (l.getD j default) := by simp [List.getD, hj]
    have f := flat_at (f := acell) (m := 2) (L := l) (fun _ _ => rfl) e (j := t) ht
    obtain ⟨g, hA, hlt, hc, _⟩ := h.at_ (j := 2 * j + t) (v := v) (by rw [f]; exact hv)
    exact ⟨g, hA, hlt, hc⟩
  obtain ⟨g, rfl, hlt, _⟩ := at3 0 hn 0 (by omega) _ rfl
  refine ⟨g, 0, rfl, hlt, fun j hj => ?_⟩
  have k : ∀ t, t < 2 → ∀ v, (acell (l.getD j default))[t]? = some v → w.cell? ⟨g, 2 * j + t, none⟩ = some v := fun t ht v hv => by
    obtain ⟨g', e, _, hc⟩ := at3 j hj t ht v hv
    injection e with e
    obtain rfl : g = g' := by injection e
    exact hc
  exact ⟨by rw [show 0 + j * 2 = 2 * j + 0 by omega]; exact k 0 (by omega) _ rfl, by rw [show 0 + j * 2 + 1 = 2 * j + 1 by omega]; exact k 1 (by omega) _ rfl⟩
theorem Ats.nil (w : World) : Ats none 0 0 [] w := ⟨rfl, OwnV.nil _ _ _⟩
theorem Ats.under {A : Option Addr} {c n : Nat} {l : List Att} {w w' : World} (h : Ats A c n l w) (hb : Below w.heap.size w w') : Ats A c n l w' := ⟨h.len, h.own.keep fun g _ hg => hb.block g hg⟩
theorem Ats.rd {A : Option Addr} {c n : Nat} {l : List Att} {w : World} (h : Ats A c n l w) : RdA w w.heap.size A c l := RdA.of_own h.len h.own
theorem Ats.push {n : Nat} {l : List Att} {w' : World} {a : Att} {g' c' : Nat} (h : l.length = n) (ho : OwnV 39 2 w' (some ⟨g', 0, none⟩) c' (n + 1) (l.flatMap acell ++ [.int .i64 a.k, .string a.s])) : Ats (some ⟨g', 0, none⟩) c' (n + 1) (l ++ [a]) w' :=
  ⟨by simp [h], by rw [List.flatMap_append]; simpa [acell] using ho⟩
/-- A part's thing read is that part. -/
theorem attr_back {s : Bool} {a : Att} (h : atOk a = true) : attrT s (atTr a) = some a := by
  obtain ⟨hk, hl, ht⟩ := atOk_iff.1 h
  obtain ⟨k, t⟩ := a
  have hk4 : k = 3 ∨ k = 6 ∨ k = 10 ∨ k = 11 := kd_cases hk
  have p1 : parted 49 = true := rfl
  have p2 : parted 48 = true := rfl
  have e1 : seqK 49 (atTr ⟨k, t⟩) = [.mk 48 [] [.mk 6 [85, 4, k.toNat] [], .mk 12 (bts t) []]] := by simp [seqK, atTr, Tr.tag, Tr.body, Tr.kids, seqOk, p1]
  have e2 : seqK 48 (.mk 48 [] [.mk 6 [85, 4, k.toNat] [], .mk 12 (bts t) []]) = [.mk 6 [85, 4, k.toNat] [], .mk 12 (bts t) []] := by simp [seqK, Tr.tag, Tr.body, Tr.kids, seqOk, p2]
  have e3 : txB (.mk 12 (bts t) []) = some (bts t) := by
    show txOf 12 0 (bts t) = _
    rw [tx_back, if_pos ht]
  have e4 : idB (.mk 6 [85, 4, k.toNat] []) = [85, 4, k.toNat] := by
    unfold idB
    show (if (heldOk 6 0 6 && idOk [85, 4, k.toNat]) = true then [85, 4, k.toNat] else []) = _
    rw [if_pos]
    rcases hk4 with rfl | rfl | rfl | rfl <;> decide +kernel
  have e5 : ((k.toNat : Nat) : Int) = k := by omega
  unfold attrT
  rw [e1]
  rw [if_neg (by cases s <;> simp [bad])]
  rw [show ([Tr.mk 48 [] [.mk 6 [85, 4, k.toNat] [], .mk 12 (bts t) []]] : List Tr).getD 0 default = .mk 48 [] [.mk 6 [85, 4, k.toNat] [], .mk 12 (bts t) []] from rfl, e2]
  rw [if_neg (by cases s <;> simp [bad])]
  rw [show ([Tr.mk 6 [85, 4, k.toNat] [], .mk 12 (bts t) []] : List Tr).getD 0 default = .mk 6 [85, 4, k.toNat] [] from rfl, show ([Tr.mk 6 [85, 4, k.toNat] [], .mk 12 (bts t) []] : List Tr).getD 1 default = .mk 12 (bts t) [] from rfl, e3, e4]
  rw [if_pos ⟨rfl, rfl⟩]
  show some (⟨((k.toNat : Nat) : Int), str (bts t)⟩ : Att) = _
  rw [e5, str_bts]
theorem attr_len {s : Bool} {t : Tr} {a : Att} (h : attrT s t = some a) : (bts a.s).length ≤ 64 := by
  unfold attrT at h
  split at h
  · cases h
  · split at h
    · cases h
    · split at h
      · rename_i h3
        injection h with h
        subst h
        have h4 := h3.1
        unfold txB txOf at h4
        split at h4
        · rename_i h5
          have h6 := h5.2
          unfold textOk at h6
          simp only [Bool.and_eq_true, decide_eq_true_eq] at h6
          rw [bts_len, str_len]
          exact h6.1
        · cases h4
      · cases h
theorem dn_parts {l : List Att} {T : Tr} (h : dnTr l = T) : seqOk T.tag T.body.length 48 = true ∧ T.kids = l.map atTr := by
  subst h
  exact ⟨rfl, rfl⟩
/-- What is read of a thing that is a name's is that name. -/
theorem dn_read {s : Bool} {l l0 : List Att} (h : dnOk l = true) {ks : List Tr} (hk : ks = l.map atTr) (hl : l0.length = ks.length) (ho : ∀ j, j < ks.length → attrT s (ks.getD j default) = some (l0.getD j default)) : l0 = l := by
  subst hk
  rw [List.length_map] at hl ho
  refine List.ext_getElem hl fun j h1 h2 => ?_
  have h3 := ho j h2
  rw [show (l.map atTr).getD j default = atTr (l.getD j default) by simp [List.getD, h2], attr_back ((dnOk_iff.1 h).2.2 j h2)] at h3
  injection h3 with h3
  simpa [List.getD, h1, h2] using h3.symm
theorem dnTr_inj {l l' : List Att} (h : dnOk l = true) (h' : dnOk l' = true) (e : dnTr l = dnTr l') : l = l' := by
  have h2 : l.map atTr = l'.map atTr := by
    simp only [dnTr] at e
    injection e
  have hl := congrArg List.length h2
  rw [List.length_map, List.length_map] at hl
  refine dn_read (s := true) h' h2 (by rw [List.length_map]) fun j hj => ?_
  rw [List.length_map] at hj
  rw [show (l.map atTr).getD j default = atTr (l.getD j default) by simp [List.getD, hj], attr_back ((dnOk_iff.1 h).2.2 j hj)]
def GetDPost (w : World) (T : Tr) (e : Ending) (w' : World) : Prop :=
  (∃ A c, ∃ l : List Att, e = .returned (.tuple #[.slice A l.length c, .bool true]) ∧ RdA w' w'.heap.size A c l ∧ dnOk l = true ∧ dnTr l = T ∧ Below w.heap.size w w') ∨
  (e = .returned (.tuple #[.slice none 0 0, .bool false]) ∧ (∀ l : List Att, dnOk l = true → dnTr l ≠ T) ∧ Below w.heap.size w w')
theorem getD_no {w w' : World} {T : Tr} (h : ∀ l : List Att, dnOk l = true → dnTr l ≠ T) (hb : Below w.heap.size w w') : GetDPost w T (.returned (.tuple #[.slice none 0 0, .bool false])) w' := .inr ⟨rfl, h, hb⟩
/-- A name's thing that is small enough. -/
def FitG (t : Tr) : Prop := t.kids.length ≤ 12000 ∧ ∀ k ∈ t.kids, FitA k
end Go.Proofs.YtmoefccfdnijpaaDoor
