/-
  A digest in its frame: by rsa.
-/
import Derived.Test.YtebhpjbjfbadjaaRsa2
import Derived.Lib.AppendStr
namespace Go.Proofs.Ytebhpjbjfbadjaa
open Go.RowKit
set_option linter.unusedVariables false
set_option linter.unusedSimpArgs false

def tailL : List Nat := [48, 49, 48, 13, 6, 9, 96, 134, 72, 1, 101, 3, 4, 2, 1, 5, 0, 4, 32]
def tailS : ByteArray := ⟨#[48, 49, 48, 13, 6, 9, 96, 134, 72, 1, 101, 3, 4, 2, 1, 5, 0, 4, 32]⟩
theorem tail_cells : Lib.strCells tailS = vals .u8 tailL := by rfl
theorem tail_size : tailS.size = 19 := by decide

/-- append of the constant's bytes. -/
theorem wpList_tail {P : Program} (w : World) {ops : Array Oper} {rest : List Oper} {o : Oper} {a : Act} {Q : Exit → Act → World → Prop} (hgd : o.guard = none) (sl x : Operand) (t u : TypeId)
    (ho : o.op = .call { callee := .builtin .append, args := #[sl, x], argTypes := #[t, u] }) (B : Nat) (e : TypeId) (ht : P.underlying t = some (.slice e)) (hu : P.underlying u = some .string)
    (hi : (P.info? e).map (fun i => (i.zero, i.size, i.bytes)) = some (some (.int .u8 0), 1, 1)) (A : Option Addr) (n c : Nat) (l : List Nat) (hs : a.eval sl = .slice A n c) (hn : l.length = n) (hown : Own .u8 e w B A c l) (hx : a.eval x = .string tailS) (hsz : n ≤ 100000000) (hB : B ≤ w.heap.size)
    (hK : ∀ g' c' w', Own .u8 e w' B (some ⟨g', 0, none⟩) c' (l ++ tailL) → w.grownBy w' (blockOf A) → wpList P ops Q rest (a.put o.dst (.slice (some ⟨g', 0, none⟩) (n + 19) c')) w') :
    wpList P ops Q (o :: rest) a w := by
  subst hn
  obtain ⟨i, hi', hz, hsize, hbytes⟩ := info_parts hi
  refine Lib.wpList_append_own_string w hgd sl x t u ho B e i ht hu hi' hz hsize hbytes (.slice A l.length c) l.length (vals .u8 l) hs hown tailS hx (by rw [tail_size]; unfold maxLen; omega) (by rw [tail_size]; omega) hB ?_
  intro v' w' hown' hgr hnil
  rw [ownBlock_eq] at hgr
  rw [tail_size, tail_cells, vals_append] at hown'
  rcases hown'.2 with ⟨rfl, h0⟩ | ⟨g, cap, cur, rfl, hBg, hgg, hrest⟩
  · omega
  · refine hK g cap w' ?_ hgr
    unfold Own
    rw [List.length_append, show tailL.length = 19 from rfl]
    exact hown'

set_option maxRecDepth 100000 in
set_option maxHeartbeats 2000000 in
theorem frame_no (w : World) (A : Option Addr) (c m : Nat) (n : Int) (h : m ≠ 32 ∨ n < 62 ∨ 1024 < n) :
    Calls Try.prog 7 #[.slice A m c, .int .i64 n] w fun e w' => e = .returned (.tuple #[.slice none 0 0, .bool false]) ∧ w' = w := by
  by_cases a1 : m = 32
  · have d1 : ((m : Int) != 32) = false := by simp; omega
    have d1' : decide (m = 32) = true := by simp [a1]
    by_cases a2 : 1024 < n
    · have d2 : decide (1024 < n) = true := decide_eq_true a2
      go_enter Try.func7, Try.ntmps7
      go_wp2_with fail
      go_ret2
      exact ⟨rfl, rfl⟩
    · have d2 : decide (1024 < n) = false := decide_eq_false a2
      have d3 : decide (n < 62) = true := decide_eq_true (by omega)
      go_enter Try.func7, Try.ntmps7
      go_wp2_with fail
      go_ret2
      exact ⟨rfl, rfl⟩
  · have d1 : ((m : Int) != 32) = true := by simp; omega
    go_enter Try.func7, Try.ntmps7
    go_wp2_with fail
    go_ret2
    exact ⟨rfl, rfl⟩

set_option maxRecDepth 100000 in
set_option maxHeartbeats 4000000 in
theorem frame_yes (w : World) (B : Nat) (A : Option Addr) (c : Nat) (l : List Nat) (n : Nat) (hl : l.length = 32) (hr : Rd .u8 w B A c l) (hB : B ≤ w.heap.size) (h1 : 62 ≤ n) (h2 : n ≤ 1024) :
    Calls Try.prog 7 #[.slice A 32 c, .int .i64 n] w fun e w' => ∃ A' c', e = .returned (.tuple #[.slice A' n c', .bool true]) ∧ Rd .u8 w' w'.heap.size A' c' (frameL l n) ∧ Below w.heap.size w w' := by
  have d2 : decide ((1024 : Int) < (n : Int)) = false := decide_eq_false (by omega)
  have d2' : decide (1024 < n) = false := decide_eq_false (by omega)
  have d3 : decide ((n : Int) < 62) = false := decide_eq_false (by omega)
  have d3' : decide (n < 62) = false := decide_eq_false (by omega)
  have HL := Lib.hid hl
  have HR := Lib.hid hr
  clear hl hr
  obtain ⟨k, rfl⟩ : ∃ k, n = k + 54 := ⟨n - 54, by omega⟩
  have hk8 : 8 ≤ k := by omega
  have hk9 : k ≤ 970 := by omega
  obtain ⟨w2, hw2⟩ : ∃ W, W = (w.alloc (.cells #[.int .u8 0, .int .u8 1] 5)).alloc (.cells #[.int .u8 255] 5) := ⟨_, rfl⟩
  have hb2 : Below w.heap.size w w2 := by rw [hw2]; exact ((Below.refl _ _).alloc (Nat.le_refl _) _).alloc (by simp) _
  have hz2 : w2.heap.size = w.heap.size + 2 := by rw [hw2]; simp
  have hO2 : Own .u8 5 w2 w.heap.size (some ⟨w.heap.size, 0, none⟩) 2 [0, 1] := by
    rw [hw2]
    exact (Own.of_row (l := [0, 1]) (Nat.le_refl _) (by show 2 ≤ _; omega) (Holds.fresh w _ _)).alloc _
  have hc2 : w2.cell? ⟨w.heap.size + 1, 0, none⟩ = some (.int .u8 255) := by
    rw [hw2]
    simp
  have HREP := Lib.hid (repeat_one w2 (w.heap.size + 1) k (by omega) (by omega) hc2)
  have HB2 := Lib.hid hb2
  have HO2 := Lib.hid hO2
  have HZ2 := Lib.hid hz2
  have HW2 := Lib.hid hw2
  clear hb2 hO2 hz2 hw2 hc2
  go_enter Try.func7, Try.ntmps7
  go_wp2_with fail
  rw [← HW2.out]
  refine HREP.out.mono ?_
  rintro e w3 ⟨rfl, hr3, hb3⟩
  have HR3 := Lib.hid hr3
  have hB3 : Below w.heap.size w w3 := HB2.out.trans (hb3.mono HB2.out.size)
  have HO3 : Hid (Own .u8 5 w3 w.heap.size (some ⟨w.heap.size, 0, none⟩) 2 [0, 1]) := Lib.hid (HO2.out.under hb3 fun g e => by
    have : w.heap.size = g := by simpa [blockOf] using e
    have := HZ2.out
    omega)
  have HB3 := Lib.hid hB3
  have hs3 := hB3.size
  have HE3 : Hid (([] : List Nat).length = 0) := Lib.hid rfl
  have HLR : Hid ((List.replicate k 255).length = k) := Lib.hid (by simp)
  clear hr3 hb3 hB3 HO2 HB2 HREP HW2
  go_wp2_with (with_reducible (refine wpList_join _ rfl (.tmp 26) (.tmp 29) 29 rfl .u8 w.heap.size 5 1 Try.underlying29 info_u8 (some ⟨w.heap.size, 0, none⟩) 2 2 [0, 1] rfl rfl HO3.out (some ⟨w2.heap.size, 0, none⟩) w3.heap.size k k (List.replicate k 255) rfl HLR.out HR3.out (by omega) (by omega) (by omega) hs3 ?hj1))
  intro g4 c4 w4 hown4 hgr4 hat4
  obtain ⟨L4, hL4⟩ : ∃ L, Hid (L = 0 :: 1 :: List.replicate k 255) := ⟨_, Lib.hid rfl⟩
  rw [← hL4.out] at hown4
  have hB4 : Below w.heap.size w w4 := HB3.out.trans (grown_below hgr4 (fun g e => by
    have : w.heap.size = g := by simpa [blockOf] using e
    omega) hs3)
  have hN4 : L4.length = 2 + k := by rw [hL4.out]; simp; omega
  have hblk4 : Hid (∀ g, blockOf (some (⟨g4, 0, none⟩ : Addr)) = some g → w.heap.size ≤ g ∧ g < w4.heap.size) := Lib.hid (fun g e => hown4.block e)
  have HO4 : Hid (∀ cs, Own .u8 5 (w4.alloc (.cells cs 5)) w.heap.size (some ⟨g4, 0, none⟩) c4 L4) := Lib.hid (fun cs => hown4.alloc _)
  have HH4 : Hid (Holds (w4.alloc (.cells #[.int .u8 0] 5)) w4.heap.size 5 (nums .u8 [0])) := Lib.hid (Holds.fresh w4 _ _)
  have HN4 := Lib.hid hN4
  have HB4 := Lib.hid hB4
  have hs4 := hB4.size
  clear hown4 hgr4 hat4 hB4 hN4 HO3 HR3 HLR
  go_wp2_with (with_reducible (refine wpList_push _ rfl (.tmp 31) (.tmp 32) 29 rfl .u8 w.heap.size 5 1 Try.underlying29 info_u8 (some ⟨g4, 0, none⟩) (2 + k) c4 L4 rfl HN4.out (HO4.out _) w4.heap.size 1 1 [0] rfl rfl HH4.out (by omega) (by omega) (by omega) (by simp; omega) ?hp1))
  intro g5 c5 w5 hown5 hgr5 hat5
  have hB5 : Below w.heap.size w w5 := (HB4.out.alloc hs4 _).trans (grown_below hgr5 (fun g e => (hblk4.out g e).1) (by simp; omega))
  have hN5 : (L4 ++ [0]).length = 2 + k + 1 := by rw [List.length_append, HN4.out]; rfl
  have hblk5 : Hid (∀ g, blockOf (some (⟨g5, 0, none⟩ : Addr)) = some g → w.heap.size ≤ g ∧ g < w5.heap.size) := Lib.hid (fun g e => hown5.block e)
  have HO5 := Lib.hid hown5
  have HN5 := Lib.hid hN5
  have HB5 := Lib.hid hB5
  have hs5 := hB5.size
  have hTS : (⟨#[48, 49, 48, 13, 6, 9, 96, 134, 72, 1, 101, 3, 4, 2, 1, 5, 0, 4, 32]⟩ : ByteArray) = tailS := rfl
  clear hown5 hgr5 hat5 hB5 hN5 HO4 HH4
  go_wp2_with (refine wpList_tail _ rfl (.tmp 34) (.const (.string tailS)) 29 9 rfl w.heap.size 5 Try.underlying29 Try.underlying9 info_u8 (some ⟨g5, 0, none⟩) (2 + k + 1) c5 (L4 ++ [0]) rfl HN5.out HO5.out rfl (by omega) hs5 ?ht1)
  intro g6 c6 w6 hown6 hgr6
  obtain ⟨L6, hL6⟩ : ∃ L, Hid (L = L4 ++ 0 :: tailL) := ⟨_, Lib.hid rfl⟩
  rw [← hL6.out] at hown6
  have hB6 : Below w.heap.size w w6 := HB5.out.trans (grown_below hgr6 (fun g e => (hblk5.out g e).1) hs5)
  have hN6 : L6.length = 2 + k + 1 + 19 := by rw [hL6.out, List.length_append, List.length_cons, HN4.out]; rfl
  have hblk6 : Hid (∀ g, blockOf (some (⟨g6, 0, none⟩ : Addr)) = some g → w.heap.size ≤ g ∧ g < w6.heap.size) := Lib.hid (fun g e => hown6.block e)
  have HO6 := Lib.hid hown6
  have HN6 := Lib.hid hN6
  have HB6 := Lib.hid hB6
  have hs6 := hB6.size
  have HR6 := Lib.hid (HR.out.under (hB6.mono hB))
  clear hown6 hgr6 hB6 hN6 HO5 hTS
  go_wp2_with (with_reducible (refine wpList_join _ rfl (.tmp 36) (.tmp 37) 29 rfl .u8 w.heap.size 5 1 Try.underlying29 info_u8 (some ⟨g6, 0, none⟩) (2 + k + 1 + 19) c6 L6 rfl HN6.out HO6.out A B 32 c l rfl HL.out HR6.out (by omega) (by omega) (by omega) hs6 ?hj2))
  intro g7 c7 w7 hown7 hgr7 hat7
  have hB7 : Below w.heap.size w w7 := HB6.out.trans (grown_below hgr7 (fun g e => (hblk6.out g e).1) hs6)
  have HB7 := Lib.hid hB7
  have HR7 := Lib.hid hown7.rd
  clear hown7 hgr7 hat7 hB7
  go_wp2_with fail
  go_ret2
  refine ⟨some ⟨g7, 0, none⟩, c7, ?_, ?_, HB7.out⟩
  · have e : 2 + k + 1 + 19 + 32 = k + 54 := by omega
    rw [e]
    rfl
  · have := HR7.out
    rw [hL6.out, hL4.out] at this
    have e2 : 0 :: 1 :: List.replicate k 255 ++ 0 :: tailL ++ l = frameL l (k + 54) := by
      unfold frameL
      rw [show k + 54 - 54 = k by omega, show headL = [0] ++ tailL from rfl]
      simp [List.append_assoc]
    rw [e2] at this
    exact this
end Go.Proofs.Ytebhpjbjfbadjaa
