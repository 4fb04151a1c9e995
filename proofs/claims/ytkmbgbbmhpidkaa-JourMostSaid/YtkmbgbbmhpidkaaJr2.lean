/-
  Many sectors at once: how many places, a place; sectors that begin with a text; how many sectors tell places.
-/
import Derived.Test.YtkmbgbbmhpidkaaJr1
import Derived.Lib.LazyBuf
namespace Go.Proofs.Ytkmbgbbmhpidkaa
open Go.RowKit
set_option linter.unusedVariables false
set_option linter.unusedSimpArgs false
attribute [local go_sem ↓] Go.wp_at_zero Go.wp_at_succ

theorem row_cells {g : Nat} : ∀ (l : List Nat) (o : Nat) (w : World) (L : List Nat), Row .u8 5 w g L → o + l.length ≤ L.length → Row .u8 5 (w.setCells g o (vals .u8 l)) g (L.take o ++ l ++ L.drop (o + l.length))
  | [], o, w, L, h, _ => by simpa [World.setCells, vals] using h
  | x :: l, o, w, L, h, hs => by
    simp only [List.length_cons] at hs
    have h1 := row_cells l (o + 1) _ _ (h.set o x) (by rw [List.length_set]; omega)
    have e : (L.set o x).take (o + 1) ++ l ++ (L.set o x).drop (o + 1 + l.length) = L.take o ++ (x :: l) ++ L.drop (o + (x :: l).length) := by
      rw [List.drop_set_of_lt (by omega), List.take_set, List.length_cons, show o + 1 + l.length = o + (l.length + 1) by omega]
      rw [List.take_add_one, List.getElem?_eq_getElem (by omega), List.set_append_right _ _ (by rw [List.length_take]; exact Nat.min_le_left _ _)]
      simp
      rw [show o - min o L.length = 0 by omega]
      simp
    rw [e] at h1
    exact h1
theorem fillS_is {l : List Nat} : ∀ k, k ≤ l.length → k ≤ 64 → fillS l k = l.take k ++ zsec.drop k
  | 0, _, _ => by simp [fillS]
  | k + 1, h, h2 => by
    have hz : zsec.drop k = 0 :: zsec.drop (k + 1) := by
      rw [List.drop_eq_getElem_cons (by rw [zsec, List.length_replicate]; omega)]
      congr 1
      exact List.getElem_replicate _
    have hk : (l.take k).length = k := by rw [List.length_take]; omega
    rw [fillS, fillS_is k (by omega) (by omega), hz, List.set_append_right _ _ (by omega), hk, Nat.sub_self, List.set_cons_zero, List.take_add_one, List.getElem?_eq_getElem (by omega), List.append_assoc]
    simp only [Option.toList_some, List.singleton_append]
    rw [show l.getD k 0 = l[k] by simp [List.getD, show k < l.length by omega]]
theorem secOf_short {l : List Nat} (h : l.length ≤ 64) : secOf l = l ++ zsec.drop l.length := by
  unfold secOf
  rw [Nat.min_eq_left h, fillS_is _ (Nat.le_refl _) h, List.take_of_length_le (Nat.le_refl _)]
section
variable {w : World} {F : Nat → Prop} {gd : Nat} {s : Dk}
set_option maxRecDepth 100000 in
theorem jmany (h : Disk w F gd s) : Calls Try.prog 28 #[.pointer (some ⟨gd, 0, none⟩)] w fun e w' => e = .returned (.int .i64 (s.many : Int)) ∧ w = w' := by
  have HS := Lib.hid (disk_size h)
  have h1 := h.len.2.2
  obtain ⟨m, hm⟩ : ∃ m, m = s.many := ⟨_, rfl⟩
  rw [← hm]
  unfold Dk.many at hm
  generalize s.now.length = n at *
  clear h
  have hmax : max ((n : Int) - 157) 0 = (m : Int) := by omega
  go_enter Try.func28, Try.ntmps28
  go_wp2_with (refine HS.out.mono ?_; rintro e w1 ⟨rfl, rfl⟩)
  all_goals (go_ret; refine ⟨congrArg (fun z => Ending.returned (.int .i64 z)) ?_, rfl⟩; omega)
set_option maxRecDepth 100000 in
theorem jread (h : Disk w F gd s) (i : Int) : Calls Try.prog 29 #[.pointer (some ⟨gd, 0, none⟩), .int .i64 i] w fun e w' =>
    ∃ A n c, e = .returned (.slice A n c) ∧ (if 0 ≤ i ∧ i < (s.many : Int) then s.read (157 + i) else []).length = n ∧ Rd .u8 w' w'.heap.size A c (if 0 ≤ i ∧ i < (s.many : Int) then s.read (157 + i) else []) ∧ Below w.heap.size w w' := by
  have HM := Lib.hid (jmany h)
  have HR := Lib.hid (fun i => disk_read h i)
  have hl := h.len.2.2
  have hmn : s.many ≤ 2000 := by unfold Dk.many; omega
  clear h hl
  obtain ⟨x, hx⟩ : ∃ x, x = (if 0 ≤ i ∧ i < (s.many : Int) then s.read (157 + i) else []) := ⟨_, rfl⟩
  rw [← hx]
  by_cases h0 : 0 ≤ i
  case neg =>
    rw [if_neg (fun h => h0 h.1)] at hx
    have d0 : decide (i < 0) = true := decide_eq_true (by omega)
    go_enter Try.func29, Try.ntmps29
    go_wp2_with fail
    go_ret
    subst hx
    exact ⟨none, 0, 0, rfl, rfl, Rd.nil_ _ _ _, Below.refl _ _⟩
  have d0 : decide (i < 0) = false := decide_eq_false (by omega)
  by_cases h1 : i < (s.many : Int)
  case neg =>
    rw [if_neg (fun h => h1 h.2)] at hx
    have d1 : decide ((s.many : Int) ≤ i) = true := decide_eq_true (by omega)
    generalize s.many = m at *
    go_enter Try.func29, Try.ntmps29
    go_wp2_with (refine HM.out.mono ?_; rintro e w1 ⟨rfl, rfl⟩)
    go_ret
    subst hx
    exact ⟨none, 0, 0, rfl, rfl, Rd.nil_ _ _ _, Below.refl _ _⟩
  rw [if_pos ⟨h0, h1⟩] at hx
  have d1 : decide ((s.many : Int) ≤ i) = false := decide_eq_false (by omega)
  generalize s.many = m at *
  have hw : IntKind.i64.wrap (157 + i) = 157 + i := IntWalk.i64_in _ (by omega)
  go_enter Try.func29, Try.ntmps29
  go_wp2_with (first | (refine HM.out.mono ?_; rintro e w1 ⟨rfl, rfl⟩) | fail)
  refine (HR.out (157 + i)).mono ?_
  rintro e w2 ⟨A, n, c, rfl, hn, hr, _, hb⟩
  rw [← hx] at hn hr
  have HR2 := Lib.hid hr
  have HB2 := Lib.hid hb
  have HN2 := Lib.hid hn
  clear hn hr hb hx
  go_wp2_with fail
  go_ret
  exact ⟨A, n, c, rfl, HN2.out, HR2.out, HB2.out⟩
end
theorem size_u8J (w : World) : (Go.sizeOf 5).run Try.prog w = .ok 1 w := by
  have info_u8 : (Try.prog.info? 5).map (fun i => (i.zero, i.size, i.bytes)) = some (some (.int .u8 0), 1, 1) := by kernel_rfl
  obtain ⟨i0, hi, hz0, hz1, hz2⟩ := info_parts info_u8
  exact (run_sizeOf w hi).trans (by kernel_rfl)
set_option maxRecDepth 100000 in
theorem headed_any (w : World) (s : ByteArray) (l : List Nat) (hs : s.data.toList.map (fun x => x.toNat) = l) (hl : l.length ≤ 64) :
    Calls Try.prog 47 #[.string s] w fun e w' => e = .returned (.slice (some ⟨w.heap.size, 0, none⟩) 64 64) ∧ Row .u8 5 w' w.heap.size (secOf l) ∧ Below w.heap.size w w' := by
  have hmk := make_row
  have hrow : Row .u8 5 (w.alloc (.cells zrow 5)) w.heap.size zsec := Holds.fresh _ _ _
  have hb : Below w.heap.size w (w.alloc (.cells zrow 5)) := (Below.refl _ _).alloc (Nat.le_refl _) _
  have hsz : s.size = l.length := by rw [← hs, Lib.size_eq, List.length_map]
  have hv : (s.data.toList.map fun x => Value.int .u8 (x.toNat : Int)) = vals .u8 l := by rw [← hs, vals, List.map_map]; rfl
  have hcp : ∀ ty, (Builtin.copy_ #[40, 9] ty #[.slice (some ⟨w.heap.size, 0, none⟩) 64 64, .string s]).run Try.prog (w.alloc (.cells zrow 5)) = .ok (goInt s.size) ((w.alloc (.cells zrow 5)).setCells w.heap.size 0 (vals .u8 l)) := fun ty => by
    rw [← hv]
    exact run_copy_string _ _ _ ty 5 w.heap.size 0 64 64 s Try.underlying40 size_u8J (by omega) (fun j hj => by rw [Nat.zero_add, hrow.cell (by rw [zsec, List.length_replicate]; omega)]; rfl) (fun j hj => hrow.open_ _)
  have HR := Lib.hid (row_cells l 0 _ _ hrow (by rw [zsec, List.length_replicate]; omega))
  have HB : Hid (Below w.heap.size w ((w.alloc (.cells zrow 5)).setCells w.heap.size 0 (vals .u8 l))) := Lib.hid ((Only.setCells (F := fun _ => False) (.inr (Nat.le_refl _)) (vals .u8 l) 0 (Only.of_below hb)).below (fun k e => e.elim) (Nat.le_refl _))
  have HS : Hid (secOf l = zsec.take 0 ++ l ++ zsec.drop (0 + l.length)) := Lib.hid (by rw [secOf_short hl]; simp)
  clear hrow hb hv hs hl
  go_enter Try.func47, Try.ntmps47
  go_wp2_with fail
  go_ret
  exact ⟨rfl, by rw [HS.out]; exact HR.out, HB.out⟩
theorem headed_nil (w : World) : Calls Try.prog 47 #[.string { data := #[] }] w fun e w' => e = .returned (.slice (some ⟨w.heap.size, 0, none⟩) 64 64) ∧ Row .u8 5 w' w.heap.size zsec ∧ Below w.heap.size w w' := headed_any w _ [] rfl (by simp)
theorem headed_apst (w : World) : Calls Try.prog 47 #[.string { data := #[97, 112, 115, 116] }] w fun e w' => e = .returned (.slice (some ⟨w.heap.size, 0, none⟩) 64 64) ∧ Row .u8 5 w' w.heap.size apstB ∧ Below w.heap.size w w' := headed_any w _ [97, 112, 115, 116] rfl (by simp)
theorem headed_mark (w : World) : Calls Try.prog 47 #[.string { data := #[109, 97, 114, 107] }] w fun e w' => e = .returned (.slice (some ⟨w.heap.size, 0, none⟩) 64 64) ∧ Row .u8 5 w' w.heap.size (secOf [109, 97, 114, 107]) ∧ Below w.heap.size w w' := headed_any w _ [109, 97, 114, 107] rfl (by simp)
set_option maxRecDepth 100000 in
theorem sheets_any (w : World) (n : Nat) (hn : n ≤ 1000000) : Calls Try.prog 61 #[.int .i64 (n : Int)] w fun e w' => e = .returned (.int .i64 (sheetsN n : Int)) ∧ w = w' := by
  obtain ⟨m, hm⟩ : ∃ m, m = sheetsN n := ⟨_, rfl⟩
  rw [← hm]
  unfold sheetsN at hm
  go_enter Try.func61, Try.ntmps61
  go_wp2_with fail
  go_ret
  refine ⟨?_, rfl⟩
  congr 2
  go_num
end Go.Proofs.Ytkmbgbbmhpidkaa
