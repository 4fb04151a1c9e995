/-
  A product of the field.
-/
import Derived.Test.YtjpoiecbjpipdaaDoorCv3
import Derived.StillTailTactics
namespace Go.Proofs.YtjpoiecbjpipdaaDoor
open Go.RowKit
set_option linter.unusedVariables false
set_option linter.unusedSimpArgs false

theorem row_step {T0 T b : List Nat} {j o x y z : Nat} (hj : j < T.length) (h : v64 (T.take j) + q64 j * o = v64 (T0.take j) + x * v64 (b.take j)) (hy : y = b.getD j 0) (hz : z = T0.getD j 0) :
    v64 ((T.set j ((x * y + z + o) % 18446744073709551616)).take (j + 1)) + q64 (j + 1) * ((x * y + z + o) / 18446744073709551616) = v64 (T0.take (j + 1)) + x * v64 (b.take (j + 1)) := by
  rw [v64_take_set T j _ hj, v64_take_succ T0, v64_take_succ b, ← hy, ← hz, q64_succ, Nat.mul_add, Nat.mul_left_comm x (q64 j) y]
  have e : q64 j * ((x * y + z + o) % 18446744073709551616) + 18446744073709551616 * q64 j * ((x * y + z + o) / 18446744073709551616) = q64 j * (x * y) + q64 j * z + q64 j * o := by
    rw [Nat.mul_comm 18446744073709551616 (q64 j), Nat.mul_assoc, ← Nat.mul_add, Nat.mod_add_div, Nat.mul_add, Nat.mul_add]
  omega
theorem red_step {T0 T : List Nat} {k o m p z : Nat} (hk : k < T.length) (h : 18446744073709551616 * (v64 (T.take k) + q64 k * o) = v64 (T0.take (k + 1)) + m * v64 (pL.take (k + 1))) (hp : p = pL.getD (k + 1) 0) (hz : z = T0.getD (k + 1) 0) :
    18446744073709551616 * (v64 ((T.set k ((m * p + z + o) % 18446744073709551616)).take (k + 1)) + q64 (k + 1) * ((m * p + z + o) / 18446744073709551616)) = v64 (T0.take (k + 1 + 1)) + m * v64 (pL.take (k + 1 + 1)) := by
  rw [v64_take_set T k _ hk, v64_take_succ T0 (k + 1), v64_take_succ pL (k + 1), ← hp, ← hz, Nat.mul_add m, Nat.mul_left_comm m (q64 (k + 1)) p]
  have e : q64 k * ((m * p + z + o) % 18446744073709551616) + q64 (k + 1) * ((m * p + z + o) / 18446744073709551616) = q64 k * (m * p) + q64 k * z + q64 k * o := by
    rw [q64_succ, Nat.mul_comm 18446744073709551616 (q64 k), Nat.mul_assoc, ← Nat.mul_add, Nat.mod_add_div, Nat.mul_add, Nat.mul_add]
  have e2 : q64 (k + 1) * (m * p) = 18446744073709551616 * (q64 k * (m * p)) := by rw [q64_succ, Nat.mul_assoc]
  have e3 : q64 (k + 1) * z = 18446744073709551616 * (q64 k * z) := by rw [q64_succ, Nat.mul_assoc]
  rw [Nat.add_assoc, e, e2, e3]
  omega
theorem q64_v : q64 0 = 1 ∧ q64 1 = 18446744073709551616 ∧ q64 2 = 18446744073709551616 * 18446744073709551616 ∧ q64 3 = 18446744073709551616 * 18446744073709551616 * 18446744073709551616 := by decide +kernel
/-- A round: what was there, and a digit times the other number, and so many P, less a digit. -/
theorem round_end {V W V' m x X b i : Nat} (hV : V < 2 * cP) (hx : x < 18446744073709551616) (hm : m < 18446744073709551616) (hb : b < cP) (hW : W = V + x * b) (hV' : 18446744073709551616 * V' = W + m * cP) (hmod : V * q64 i % cP = X * b % cP) :
    V' < 2 * cP ∧ V' * q64 (i + 1) % cP = (X + q64 i * x) * b % cP := by
  have h1 : x * b ≤ 18446744073709551615 * cP := Nat.mul_le_mul (by omega) (by omega)
  have h2 : m * cP ≤ 18446744073709551615 * cP := Nat.mul_le_mul_right _ (by omega)
  refine ⟨by omega, ?_⟩
  have e : V' * q64 (i + 1) = V * q64 i + q64 i * x * b + cP * (m * q64 i) := by
    have e0 : V' * q64 (i + 1) = (V + x * b + m * cP) * q64 i := by rw [q64_succ, ← hW, ← hV', Nat.mul_comm 18446744073709551616 V', Nat.mul_assoc]
    rw [e0, Nat.add_mul, Nat.add_mul, Nat.mul_comm (q64 i) x, Nat.mul_right_comm x (q64 i) b, Nat.mul_comm m cP, Nat.mul_assoc cP m]
  rw [e, Nat.add_mul_mod_self_left, Nat.add_mod, hmod, ← Nat.add_mod, ← Nat.add_mul]
/-- The digits behind the fourth, the carry put to them. -/
theorem sum_end {T0 T b : List Nat} {x c a4 s o : Nat} (hT : T.length = 6) (hb : b.length = 4) (h : v64 (T.take 4) + q64 4 * c = v64 (T0.take 4) + x * v64 (b.take 4)) (ha : a4 = T0.getD 4 0) (hs : s = (a4 + c) % 18446744073709551616) (ho : o = (a4 + c) / 18446744073709551616) :
    v64 (((T.set 4 s).set 5 o).take 6) = v64 (T0.take 5) + x * v64 b := by
  rw [v64_take_set (T.set 4 s) 5 o (by rw [List.length_set, hT]; omega), v64_take_set T 4 s (by rw [hT]; omega), v64_take_succ T0 4, ← ha, q64_succ 4]
  rw [v64_all b 4 (by omega)] at h
  have e : q64 4 * s + 18446744073709551616 * q64 4 * o = q64 4 * a4 + q64 4 * c := by
    rw [hs, ho, Nat.mul_comm 18446744073709551616 (q64 4), Nat.mul_assoc, ← Nat.mul_add, Nat.mod_add_div, Nat.mul_add]
  omega
/-- The reduction's end: one digit down. -/
theorem red_end {S U : List Nat} {m c s e : Nat} (hU : U.length = 6) (h : 18446744073709551616 * (v64 (U.take 3) + q64 3 * c) = v64 (S.take 4) + m * v64 (pL.take 4)) (hs : s = (S.getD 4 0 + c) % 18446744073709551616) (he : e = S.getD 5 0 + (S.getD 4 0 + c) / 18446744073709551616) :
    18446744073709551616 * v64 (((U.set 3 s).set 4 e).take 5) = v64 (S.take 6) + m * cP := by
  rw [v64_take_set (U.set 3 s) 4 e (by rw [List.length_set, hU]; omega), v64_take_set U 3 s (by rw [hU]; omega), v64_take_succ S 5, v64_take_succ S 4]
  rw [v64_all pL 4 (by decide), pL_val] at h
  have q : q64 4 = 18446744073709551616 * q64 3 ∧ q64 5 = 18446744073709551616 * q64 4 := ⟨q64_succ 3, q64_succ 4⟩
  have e1 : q64 3 * s + q64 4 * e = q64 4 * S.getD 5 0 + (q64 3 * S.getD 4 0 + q64 3 * c) := by
    have e0 : q64 3 * s + q64 4 * ((S.getD 4 0 + c) / 18446744073709551616) = q64 3 * S.getD 4 0 + q64 3 * c := by
      rw [hs, q.1, Nat.mul_comm 18446744073709551616 (q64 3), Nat.mul_assoc, ← Nat.mul_add, Nat.mod_add_div, Nat.mul_add]
    rw [he, Nat.mul_add]
    omega
  have e2 : q64 4 * S.getD 4 0 = 18446744073709551616 * (q64 3 * S.getD 4 0) := by rw [q.1, Nat.mul_assoc]
  have e3 : q64 5 * S.getD 5 0 = 18446744073709551616 * (q64 4 * S.getD 5 0) := by rw [q.2, Nat.mul_assoc]
  rw [e2, e3]
  omega
theorem six {l : List Nat} (h : l.length = 6) : ∃ a b c d e f, l = [a, b, c, d, e, f] := by
  rcases l with _ | ⟨a, _ | ⟨b, _ | ⟨c, _ | ⟨d, _ | ⟨e, _ | ⟨f, _ | ⟨g, r⟩⟩⟩⟩⟩⟩⟩ <;> first | (simp at h; done) | exact ⟨a, b, c, d, e, f, rfl⟩
/-- What stays through a product: both numbers, the answer's place. -/
def Mk (w : World) (l l' : List Nat) (wr : World) : Prop := Row .u64 47 wr (w.heap.size) l ∧ Row .u64 47 wr (w.heap.size + 1) l' ∧ Holds wr (w.heap.size + 1 + 1) 47 #[.int .u64 0, .int .u64 0, .int .u64 0, .int .u64 0] ∧ Below w.heap.size w wr
def RelM (w : World) (l l' : List Nat) (i : Value) (wr : World) : Prop :=
  ∃ (k : Nat) (T : List Nat), k ≤ 4 ∧ i = .int .i64 (k : Int) ∧ Hid (Row .u64 71 wr (w.heap.size + 1 + 1 + 1) T ∧ T.length = 6 ∧ D64 T ∧ v64 (T.take 5) < 2 * cP ∧ v64 (T.take 5) * q64 k % cP = v64 (l.take k) * v64 l' % cP ∧ Mk w l l' wr)
def RelI (w : World) (l l' T0 : List Nat) (x : Nat) (o j : Value) (wr : World) : Prop :=
  ∃ (k c : Nat) (T : List Nat), k ≤ 4 ∧ j = .int .i64 (k : Int) ∧ o = .int .u64 (c : Int) ∧ c < 18446744073709551616 ∧ Hid (Row .u64 71 wr (w.heap.size + 1 + 1 + 1) T ∧ T.length = 6 ∧ D64 T ∧ v64 (T.take k) + q64 k * c = v64 (T0.take k) + x * v64 (l'.take k) ∧ (∀ j, k ≤ j → T.getD j 0 = T0.getD j 0) ∧ Mk w l l' wr)
def RelJ (w : World) (l l' T0 : List Nat) (m : Nat) (o j : Value) (wr : World) : Prop :=
  ∃ (k c : Nat) (T : List Nat), k ≤ 3 ∧ j = .int .i64 ((k : Int) + 1) ∧ o = .int .u64 (c : Int) ∧ c < 18446744073709551616 ∧ Hid (Row .u64 71 wr (w.heap.size + 1 + 1 + 1) T ∧ T.length = 6 ∧ D64 T ∧ 18446744073709551616 * (v64 (T.take k) + q64 k * c) = v64 (T0.take (k + 1)) + m * v64 (pL.take (k + 1)) ∧ (∀ j, k ≤ j → T.getD j 0 = T0.getD j 0) ∧ Mk w l l' wr)
theorem Mk.store {w wr : World} {l l' : List Nat} (h : Mk w l l' wr) (k : Nat) (v : Value) (q : Nat) : Mk w l l' ((wr.setCell ⟨w.heap.size + 1 + 1 + 1, k, none⟩ v).drewN q) :=
  ⟨Holds.aside h.1 (p := ⟨w.heap.size + 1 + 1 + 1, k, none⟩) (by show w.heap.size ≠ w.heap.size + 1 + 1 + 1; omega) _, Holds.aside h.2.1 (p := ⟨w.heap.size + 1 + 1 + 1, k, none⟩) (by show w.heap.size + 1 ≠ w.heap.size + 1 + 1 + 1; omega) _, Holds.aside h.2.2.1 (p := ⟨w.heap.size + 1 + 1 + 1, k, none⟩) (by show w.heap.size + 1 + 1 ≠ w.heap.size + 1 + 1 + 1; omega) _, bdN (h.2.2.2.setCell (p := ⟨w.heap.size + 1 + 1 + 1, k, none⟩) (by show w.heap.size ≤ w.heap.size + 1 + 1 + 1; omega) _) q⟩
set_option maxRecDepth 100000 in
set_option maxHeartbeats 8000000 in
/-- A product in Montgomery's way. -/
theorem mulF_any (w : World) (hm : CMet w) (l l' : List Nat) (hl : l.length = 4) (hl' : l'.length = 4) (hd : D64 l) (hd' : D64 l') (hY0 : v64 l' < cP) :
    Calls Tryd.prog 30 #[nv l, nv l'] w fun e w' => e = .returned (nv (nm (mm (v64 l) (v64 l')))) ∧ Below w.heap.size w w' := by
  obtain ⟨x0, x1, x2, x3, hx⟩ := four hl
  obtain ⟨y0, y1, y2, y3, hy⟩ := four hl'
  obtain ⟨w1, hw1⟩ : ∃ W, W = ((((w.alloc (.cells #[.int .u64 (x0 : Int), .int .u64 (x1 : Int), .int .u64 (x2 : Int), .int .u64 (x3 : Int)] 47)).alloc (.cells #[.int .u64 (y0 : Int), .int .u64 (y1 : Int), .int .u64 (y2 : Int), .int .u64 (y3 : Int)] 47)).alloc (.cells #[.int .u64 0, .int .u64 0, .int .u64 0, .int .u64 0] 47)).alloc (.cells #[.int .u64 0, .int .u64 0, .int .u64 0, .int .u64 0, .int .u64 0, .int .u64 0] 71)) := ⟨_, rfl⟩
  have hX : Row .u64 47 w1 (w.heap.size) l := by
    rw [hw1]
    unfold Row
    rw [nv_of hx]
    exact (((Holds.fresh w _ _).alloc _).alloc _).alloc _
  have hY : Row .u64 47 w1 (w.heap.size + 1) l' := by
    rw [hw1]
    unfold Row
    rw [nv_of hy]
    have h := Holds.fresh (w.alloc (.cells #[.int .u64 (x0 : Int), .int .u64 (x1 : Int), .int .u64 (x2 : Int), .int .u64 (x3 : Int)] 47)) 47 #[.int .u64 (y0 : Int), .int .u64 (y1 : Int), .int .u64 (y2 : Int), .int .u64 (y3 : Int)]
    rw [show (w.alloc (.cells #[.int .u64 (x0 : Int), .int .u64 (x1 : Int), .int .u64 (x2 : Int), .int .u64 (x3 : Int)] 47)).heap.size = w.heap.size + 1 by simp] at h
    exact (h.alloc _).alloc _
  have hR : Holds w1 (w.heap.size + 1 + 1) 47 #[.int .u64 0, .int .u64 0, .int .u64 0, .int .u64 0] := by
    rw [hw1]
    have h := Holds.fresh ((w.alloc (.cells #[.int .u64 (x0 : Int), .int .u64 (x1 : Int), .int .u64 (x2 : Int), .int .u64 (x3 : Int)] 47)).alloc (.cells #[.int .u64 (y0 : Int), .int .u64 (y1 : Int), .int .u64 (y2 : Int), .int .u64 (y3 : Int)] 47)) 47 #[.int .u64 0, .int .u64 0, .int .u64 0, .int .u64 0]
    rw [show ((w.alloc (.cells #[.int .u64 (x0 : Int), .int .u64 (x1 : Int), .int .u64 (x2 : Int), .int .u64 (x3 : Int)] 47)).alloc (.cells #[.int .u64 (y0 : Int), .int .u64 (y1 : Int), .int .u64 (y2 : Int), .int .u64 (y3 : Int)] 47)).heap.size = w.heap.size + 1 + 1 by simp] at h
    exact h.alloc _
  have hDr : Row .u64 71 w1 (w.heap.size + 1 + 1 + 1) (List.replicate 6 0) := by
    rw [hw1]
    have h := Holds.fresh (((w.alloc (.cells #[.int .u64 (x0 : Int), .int .u64 (x1 : Int), .int .u64 (x2 : Int), .int .u64 (x3 : Int)] 47)).alloc (.cells #[.int .u64 (y0 : Int), .int .u64 (y1 : Int), .int .u64 (y2 : Int), .int .u64 (y3 : Int)] 47)).alloc (.cells #[.int .u64 0, .int .u64 0, .int .u64 0, .int .u64 0] 47)) 71 #[.int .u64 0, .int .u64 0, .int .u64 0, .int .u64 0, .int .u64 0, .int .u64 0]
    rw [show (((w.alloc (.cells #[.int .u64 (x0 : Int), .int .u64 (x1 : Int), .int .u64 (x2 : Int), .int .u64 (x3 : Int)] 47)).alloc (.cells #[.int .u64 (y0 : Int), .int .u64 (y1 : Int), .int .u64 (y2 : Int), .int .u64 (y3 : Int)] 47)).alloc (.cells #[.int .u64 0, .int .u64 0, .int .u64 0, .int .u64 0] 47)).heap.size = w.heap.size + 1 + 1 + 1 by simp] at h
    exact h
  have hb : Below w.heap.size w w1 := by rw [hw1]; exact ((((Below.refl _ _).alloc (Nat.le_refl _) _).alloc (by simp) _).alloc (by simp; omega) _).alloc (by simp; omega) _
  have HS : RelM w l l' (.int .i64 0) w1 := ⟨0, _, by omega, rfl, Lib.hid ⟨hDr, by simp, D64.noughts 6, by rw [show (List.replicate 6 0).take 5 = List.replicate 5 0 from rfl, v64_noughts]; decide +kernel, by rw [show (List.replicate 6 0).take 5 = List.replicate 5 0 from rfl, v64_noughts]; simp [v64], hX, hY, hR, hb⟩⟩
  have HCM := Lib.hid hm
  have HW := Lib.hid hw1
  have HD := Lib.hid hd
  have HD' := Lib.hid hd'
  have HL := Lib.hid hl
  have HL' := Lib.hid hl'
  have HY0 := Lib.hid hY0
  unfold nv
  rw [nv_of hx, nv_of hy]
  clear hm hl hl' hd hd' hx hy hX hY hR hDr hb hw1 hY0
  go_enter Tryd.func30, Tryd.ntmps30
  go_wp2_with fail
  rw [← HW.out]
  clear HW
  go_loopw [11] (fun i wr => RelM w l l' i wr) (fun i _ => 4 - (intOf i).toNat)
  case atStart => exact HS
  case round =>
    obtain ⟨i, T0, hi, rfl, H⟩ := hrel
    clear HS
    obtain ⟨V, hV⟩ : ∃ V, V = wr := ⟨_, rfl⟩
    subst hV
    by_cases hlt : i < 4
    case pos =>
      have t1 : decide ((i : Int) < 4) = true := decide_eq_true (by omega)
      obtain ⟨x, hx⟩ : ∃ a, a = l.getD i 0 := ⟨_, rfl⟩
      have hx64 : x < 18446744073709551616 := by rw [hx]; exact HD.out.at_ i
      have HX := Lib.hid hx
      have HI0 : RelI w l l' T0 x (.int .u64 0) (.int .i64 0) V := ⟨0, 0, T0, by omega, rfl, rfl, by omega, Lib.hid ⟨H.out.1, H.out.2.1, H.out.2.2.1, by simp [v64], fun j _ => rfl, H.out.2.2.2.2.2⟩⟩
      clear hx
      go_wp2_with fail
      go_loopw [7, 14] (fun o j wr => RelI w l l' T0 x o j wr) (fun _ j _ => 4 - (intOf j).toNat)
      case atStart => exact HI0
      case round =>
        obtain ⟨k, c, T, hk, rfl, rfl, hc, HH⟩ := hrel
        clear HI0
        obtain ⟨hT, hTl, hTd, hv, hsame, hX, hY, hR, hb⟩ := HH.out
        by_cases hkl : k < 4
        case pos =>
          have t2 : decide ((k : Int) < 4) = true := decide_eq_true (by omega)
          obtain ⟨y, hy⟩ : ∃ a, a = l'.getD k 0 := ⟨_, rfl⟩
          obtain ⟨z, hz⟩ : ∃ a, a = T0.getD k 0 := ⟨_, rfl⟩
          have cx := hX.cell (i := i) (by rw [HL.out]; exact hlt)
          have cy := hY.cell (i := k) (by rw [HL'.out]; exact hkl)
          have cz := hT.cell (i := k) (by rw [hTl]; omega)
          rw [← HX.out] at cx
          rw [← hy] at cy
          rw [hsame k (Nat.le_refl _), ← hz] at cz
          have fz := hT.open_ k
          have hy64 : y < 18446744073709551616 := by rw [hy]; exact HD'.out.at_ k
          have hz64 : z < 18446744073709551616 := by rw [hz]; exact H.out.2.2.1.at_ k
          have hstep := row_step (T := T) (T0 := T0) (b := l') (j := k) (o := c) (x := x) (y := y) (z := z) (by rw [hTl]; omega) hv hy hz
          have hpr := (product_any wr.drew x y z c hx64 hy64 hz64 hc).mono fun e w' h => (⟨h.1, h.2.symm⟩ : _ ∧ w' = wr.drew)
          obtain ⟨d, hd⟩ : ∃ d, d = (x * y + z + c) % 18446744073709551616 := ⟨_, rfl⟩
          obtain ⟨c', hc'⟩ : ∃ d, d = (x * y + z + c) / 18446744073709551616 := ⟨_, rfl⟩
          rw [← hd, ← hc'] at hstep hpr
          have hc64 : c' < 18446744073709551616 := by
            have : x * y ≤ 18446744073709551615 * 18446744073709551615 := Nat.mul_le_mul (by omega) (by omega)
            rw [hc']; omega
          have hT2 := hT.set k d
          have HN : Hid (RelI w l l' T0 x (.int .u64 (c' : Int)) (.int .i64 ((k : Int) + 1)) (wr.drew.setCell ⟨w.heap.size + 1 + 1 + 1, k, none⟩ (.int .u64 (d : Int)))) := Lib.hid
            ⟨k + 1, c', T.set k d, by omega, by push_cast; rfl, rfl, hc64, Lib.hid ⟨hT2, by rw [List.length_set]; exact hTl, hTd.set k d (by rw [hd]; exact Nat.mod_lt _ (by omega)), hstep, fun j hj => by rw [getD_set, if_neg (by omega)]; exact hsame j (by omega), HH.out.2.2.2.2.2.store k _ 1⟩⟩
          have hk6 : k < 6 := by omega
          have b1 : (k : Int) < 6 := by omega
          have b2 : (k : Int) < 4 := by omega
          have b3 : (i : Int) < 4 := by omega
          have b4 : (0 : Int) ≤ k := by omega
          have b5 : (0 : Int) ≤ i := by omega
          clear hT hTl hTd hv hsame hX hY hR hb hy hz hstep hd hc' hT2 HH
          go_wp2_with fail
          go_still_tail 17, (by kernel_rfl)
          still_call hpr
          repeat still_step
          refine wpStill_nil ?_
          change wpList _ _ _ _ _ wr.drew
          have fzd : wr.drew.frozen? ⟨w.heap.size + 1 + 1 + 1, k, none⟩ = false := fz
          have czd : wr.drew.cell? ⟨w.heap.size + 1 + 1 + 1, k, none⟩ = some (.int .u64 (z : Int)) := cz
          clear fz cz cx cy hpr
          generalize wr.drew = wd at *
          go_wp2_with fail
          go_roundw
          · exact HN.out
          · simp [intOf]; omega
        case neg =>
          obtain rfl : k = 4 := by omega
          have t2 : decide (((4 : Nat) : Int) < 4) = false := by decide
          obtain ⟨a4, ha4⟩ : ∃ a, a = T0.getD 4 0 := ⟨_, rfl⟩
          have c4 := hT.cell (i := 4) (by rw [hTl]; omega)
          have c5 := hT.cell (i := 5) (by rw [hTl]; omega)
          rw [hsame 4 (Nat.le_refl _), ← ha4] at c4
          have f4 := hT.open_ 4
          have f5 := hT.open_ 5
          have ha64 : a4 < 18446744073709551616 := by rw [ha4]; exact H.out.2.2.1.at_ 4
          have hrun := run_add0 a4 c
          obtain ⟨s, hs⟩ : ∃ d, d = (a4 + c) % 18446744073709551616 := ⟨_, rfl⟩
          obtain ⟨o, ho⟩ : ∃ d, d = (a4 + c) / 18446744073709551616 := ⟨_, rfl⟩
          rw [← hs, ← ho] at hrun
          have hS := (hT.set 4 s).set 5 o
          have HSL : Hid (((T.set 4 s).set 5 o).length = 6 ∧ D64 ((T.set 4 s).set 5 o)) := Lib.hid ⟨by simp [hTl], (hTd.set 4 s (by rw [hs]; exact Nat.mod_lt _ (by omega))).set 5 o (by rw [ho]; omega)⟩
          have HMK : Hid (Mk w l l' ((wr.setCell ⟨w.heap.size + 1 + 1 + 1, 4, none⟩ (.int .u64 (s : Int))).setCell ⟨w.heap.size + 1 + 1 + 1, 5, none⟩ (.int .u64 (o : Int)))) := Lib.hid ((HH.out.2.2.2.2.2.store 4 _ 0).store 5 _ 0)
          have HSS := Lib.hid hS
          have HT := Lib.hid (⟨hTl, hs, ho⟩ : T.length = 6 ∧ _ ∧ _)
          have HV := Lib.hid (⟨hv, hsame⟩ : _ ∧ _)
          have HA4 := Lib.hid ha4
          obtain ⟨m, hm⟩ : ∃ a, a = ((T.set 4 s).set 5 o).getD 0 0 := ⟨_, rfl⟩
          have hm64 : m < 18446744073709551616 := by rw [hm]; exact HSL.out.2.at_ 0
          have m0 := hS.cell (i := 0) (by rw [HSL.out.1]; omega)
          rw [← hm] at m0
          have hp0 := (HCM.out.under HMK.out.2.2.2).1.2 0 (by omega)
          rw [show pL.getD 0 0 = 18446744073709551615 from by decide] at hp0
          have hpr : Calls Tryd.prog 60 #[.int .u64 (m : Int), .int .u64 18446744073709551615, .int .u64 (m : Int), .int .u64 0] ((wr.setCell ⟨w.heap.size + 1 + 1 + 1, 4, none⟩ (.int .u64 (s : Int))).setCell ⟨w.heap.size + 1 + 1 + 1, 5, none⟩ (.int .u64 (o : Int))) fun e w' => e = .returned (.tuple #[.int .u64 (m : Int), .int .u64 0]) ∧ w' = ((wr.setCell ⟨w.heap.size + 1 + 1 + 1, 4, none⟩ (.int .u64 (s : Int))).setCell ⟨w.heap.size + 1 + 1 + 1, 5, none⟩ (.int .u64 (o : Int))) :=
            (product_any _ m 18446744073709551615 m 0 hm64 (by omega) hm64 (by omega)).mono fun e w' h => ⟨by rw [h.1, show (m * 18446744073709551615 + m + 0) / 18446744073709551616 = m by omega, show (m * 18446744073709551615 + m + 0) % 18446744073709551616 = 0 by omega]; rfl, h.2.symm⟩
          have HM := Lib.hid hm
          clear hT hTl hTd hv hsame hX hY hR hb ha4 hs ho hS HH hm
          go_wp2_with fail
          refine hpr.mono ?_
          rintro e w2 ⟨rfl, rfl⟩
          clear hpr m0 hp0 c4 c5 f4 f5 hrun
          obtain ⟨S, hSd⟩ : ∃ S, S = (T.set 4 s).set 5 o := ⟨_, rfl⟩
          have HSUM := Lib.hid (sum_end HT.out.1 HL'.out HV.out.1 HA4.out HT.out.2.1 HT.out.2.2)
          have HSA := Lib.hid (⟨HSL.out.1, HSL.out.2, HSS.out, HM.out⟩ : _ ∧ _ ∧ _ ∧ _)
          clear HSL HSS HM HV HT HA4
          rw [← hSd] at HSUM HSA
          clear hSd
          generalize ((wr.setCell ⟨w.heap.size + 1 + 1 + 1, 4, none⟩ (.int .u64 (s : Int))).setCell ⟨w.heap.size + 1 + 1 + 1, 5, none⟩ (.int .u64 (o : Int))) = V2 at *
          have HJ0 : RelJ w l l' S m (.int .u64 (m : Int)) (.int .i64 1) V2 := ⟨0, m, S, by omega, rfl, rfl, hm64, Lib.hid ⟨HSA.out.2.2.1, HSA.out.1, HSA.out.2.1, by
            rw [v64_take_succ S 0, v64_take_succ pL 0, ← HSA.out.2.2.2, show pL.getD 0 0 = 18446744073709551615 from by decide]
            simp only [List.take_zero, v64, q64, Nat.pow_zero]
            omega, fun _ _ => rfl, HMK.out⟩⟩
          go_wp2_with fail
          go_loopw [7, 10] (fun o j wr => RelJ w l l' S m o j wr) (fun _ j _ => 4 - (intOf j).toNat)
          case atStart => exact HJ0
          case round =>
            obtain ⟨k, c, U, hk, rfl, rfl, hc, HH⟩ := hrel
            clear HJ0
            obtain ⟨hT, hTl, hTd, hv, hsame, hMk⟩ := HH.out
            by_cases hkl : k < 3
            case pos =>
              have t3 : decide ((k : Int) + 1 < 4) = true := decide_eq_true (by omega)
              obtain ⟨p, hp⟩ : ∃ a, a = pL.getD (k + 1) 0 := ⟨_, rfl⟩
              obtain ⟨z, hz⟩ : ∃ a, a = S.getD (k + 1) 0 := ⟨_, rfl⟩
              have cp := (HCM.out.under hMk.2.2.2).1.2 (k + 1) (by omega)
              have cz := hT.cell (i := k + 1) (by rw [hTl]; omega)
              have ck := hT.cell (i := k) (by rw [hTl]; omega)
              rw [← hp] at cp
              rw [hsame (k + 1) (by omega), ← hz] at cz
              have fz := hT.open_ k
              have hp64 : p < 18446744073709551616 := by
                have : D64 pL := by unfold D64 pL; decide
                rw [hp]; exact this.at_ _
              have hz64 : z < 18446744073709551616 := by rw [hz]; exact HSA.out.2.1.at_ (k + 1)
              have hstep := red_step (T := U) (T0 := S) (k := k) (o := c) (m := m) (p := p) (z := z) (by rw [hTl]; omega) hv hp hz
              have hpr := (product_any wr.drew m p z c hm64 hp64 hz64 hc).mono fun e w' h => (⟨h.1, h.2.symm⟩ : _ ∧ w' = wr.drew)
              obtain ⟨d, hd⟩ : ∃ d, d = (m * p + z + c) % 18446744073709551616 := ⟨_, rfl⟩
              obtain ⟨c', hc'⟩ : ∃ d, d = (m * p + z + c) / 18446744073709551616 := ⟨_, rfl⟩
              rw [← hd, ← hc'] at hstep hpr
              have hc64 : c' < 18446744073709551616 := by
                have : m * p ≤ 18446744073709551615 * 18446744073709551615 := Nat.mul_le_mul (by omega) (by omega)
                rw [hc']; omega
              have hT2 := hT.set k d
              have HN : Hid (RelJ w l l' S m (.int .u64 (c' : Int)) (.int .i64 ((k : Int) + 1 + 1)) (wr.drew.setCell ⟨w.heap.size + 1 + 1 + 1, k, none⟩ (.int .u64 (d : Int)))) := Lib.hid
                ⟨k + 1, c', U.set k d, by omega, by push_cast; rfl, rfl, hc64, Lib.hid ⟨hT2, by rw [List.length_set]; exact hTl, hTd.set k d (by rw [hd]; exact Nat.mod_lt _ (by omega)), hstep, fun j hj => by rw [getD_set, if_neg (by omega)]; exact hsame j (by omega), hMk.store k _ 1⟩⟩
              have hk6 : k < 6 := by omega
              have b1 : (k : Int) < 6 := by omega
              have b2 : (k : Int) + 1 < 4 := by omega
              have b3 : (k : Int) + 1 < 6 := by omega
              have b4 : (0 : Int) ≤ k := by omega
              have b5 : (0 : Int) ≤ (k : Int) + 1 := by omega
              have hwk : IntKind.i64.wrap (k : Int) = (k : Int) := IntWalk.i64_in _ (by omega)
              have htn : ((k : Int) + 1).toNat = k + 1 := by omega
              have fzd : wr.drew.frozen? ⟨w.heap.size + 1 + 1 + 1, k, none⟩ = false := fz
              have czd : wr.drew.cell? ⟨w.heap.size + 1 + 1 + 1, k, none⟩ = some (.int .u64 ((U.getD k 0 : Nat) : Int)) := ck
              clear hT hTl hTd hv hsame hMk hp hz hstep hd hc' hT2 HH
              go_wp2_with fail
              go_still_tail 16, (by kernel_rfl)
              still_call hpr
              repeat still_step
              refine wpStill_nil ?_
              change wpList _ _ _ _ _ wr.drew
              clear fz cz cp ck hpr
              generalize wr.drew = wd at *
              go_wp2_with fail
              go_roundw
              · exact HN.out
              · simp [intOf]; omega
            case neg =>
              obtain rfl : k = 3 := by omega
              have t3 : decide (((3 : Nat) : Int) + 1 < 4) = false := by decide
              obtain ⟨b4, hb4⟩ : ∃ a, a = S.getD 4 0 := ⟨_, rfl⟩
              obtain ⟨b5, hb5⟩ : ∃ a, a = S.getD 5 0 := ⟨_, rfl⟩
              have hb464 : b4 < 18446744073709551616 := by rw [hb4]; exact HSA.out.2.1.at_ 4
              have hb564 : b5 < 18446744073709551616 := by rw [hb5]; exact HSA.out.2.1.at_ 5
              have hrun := run_add0 b4 c
              obtain ⟨s', hs'⟩ : ∃ d, d = (b4 + c) % 18446744073709551616 := ⟨_, rfl⟩
              obtain ⟨o', ho'⟩ : ∃ d, d = (b4 + c) / 18446744073709551616 := ⟨_, rfl⟩
              obtain ⟨e, he⟩ : ∃ d, d = b5 + o' := ⟨_, rfl⟩
              have hend := red_end (S := S) (U := U) (m := m) (c := c) (s := s') (e := e) hTl hv (by rw [hs', hb4]) (by rw [he, ho', hb4, hb5])
              have hround := round_end (V := v64 (T0.take 5)) (m := m) (x := x) (X := v64 (l.take i)) (b := v64 l') (i := i) H.out.2.2.2.1 hx64 hm64 HY0.out HSUM.out hend H.out.2.2.2.2.1
              rw [show v64 (l.take i) + q64 i * x = v64 (l.take (i + 1)) by rw [v64_take_succ, HX.out]] at hround
              have hlen2 : (((U.set 3 s').set 4 e)).length = 6 := by simp [hTl]
              have he1 : e ≤ 1 := by
                have h1 := hround.1
                rw [v64_take_set (U.set 3 s') 4 e (by rw [List.length_set, hTl]; omega), q64_4] at h1
                unfold cP cR at h1
                omega
              rw [← hs', ← ho'] at hrun
              have k4 := hT.cell (i := 4) (by rw [hTl]; omega)
              have k3 := hT.cell (i := 3) (by rw [hTl]; omega)
              rw [hsame 4 (by omega), ← hb4] at k4
              have f3 := hT.open_ 3
              have hT3 := hT.set 3 s'
              have hM3 := hMk.store 3 (.int .u64 (s' : Int)) 0
              have k5 := hT3.cell (i := 5) (by simp [hTl])
              rw [getD_set, if_neg (by omega), hsame 5 (by omega), ← hb5] at k5
              have k4' := hT3.cell (i := 4) (by simp [hTl])
              have f4' := hT3.open_ 4
              have hwe : IntKind.u64.wrap ((b5 : Int) + (o' : Int)) = (e : Int) := by rw [← Int.natCast_add, ← he]; exact IntWalk.u64_in _ (by omega)
              have hs64 : s' < 18446744073709551616 := by rw [hs']; exact Nat.mod_lt _ (by omega)
              have HN : Hid (RelM w l l' (.int .i64 ((i : Int) + 1)) ((wr.setCell ⟨w.heap.size + 1 + 1 + 1, 3, none⟩ (.int .u64 (s' : Int))).setCell ⟨w.heap.size + 1 + 1 + 1, 4, none⟩ (.int .u64 (e : Int)))) := Lib.hid
                ⟨i + 1, (U.set 3 s').set 4 e, by omega, by push_cast; rfl, Lib.hid ⟨hT3.set 4 e, hlen2, (hTd.set 3 s' hs64).set 4 e (by omega), hround.1, hround.2, hM3.store 4 _ 0⟩⟩
              clear hT hTl hTd hv hsame hMk HH hb4 hb5 hb464 hb564 hs' ho' he hend hround hlen2 he1 hT3 hM3 hs64
              go_wp2_with fail
              exact ⟨HN.out, by simp [intOf]; omega⟩
    case neg =>
      obtain rfl : i = 4 := by omega
      have t1 : decide (((4 : Nat) : Int) < 4) = false := by decide
      obtain ⟨hT, hTl, hTd, hlim, hmod, hX, hY, hR, hb⟩ := H.out
      obtain ⟨d0, d1, d2, d3, d4, d5, hTx⟩ := six hTl
      have hd4 : D64 [d0, d1, d2, d3] := by
        have h := hTd.take 4
        rwa [hTx] at h
      have h5 : v64 (T0.take 5) = v64 [d0, d1, d2, d3] + cR * d4 := by
        rw [hTx, v64_take_succ, q64_4]
        rfl
      have hd464 : d4 < 18446744073709551616 := by
        have h := hTd.at_ 4
        rwa [hTx] at h
      rw [h5] at hlim hmod
      rw [v64_all l 4 (by rw [HL.out]; omega), q64_4] at hmod
      have hval := mm_of (a := v64 l) (b := v64 l') (Nat.mod_lt (v64 [d0, d1, d2, d3] + cR * d4) cP_pos) ((mod_mul_left (Nat.mod_mod _ _)).trans hmod)
      have hDH : Holds V (w.heap.size + 1 + 1 + 1) 71 #[.int .u64 (d0 : Int), .int .u64 (d1 : Int), .int .u64 (d2 : Int), .int .u64 (d3 : Int), .int .u64 (d4 : Int), .int .u64 (d5 : Int)] := by
        have h := hT
        unfold Row at h
        rw [hTx] at h
        exact h
      have hon := once_any V (HCM.out.under hb) [d0, d1, d2, d3] rfl hd4 d4 hd464 hlim
      rw [hval] at hon
      obtain ⟨n0, n1, n2, n3, hn⟩ := four (nm_len (mm (v64 l) (v64 l')))
      unfold nv at hon
      rw [nv_of rfl, nv_of hn] at hon
      have HNN := Lib.hid hn
      have HON := Lib.hid hon
      have HRR := Lib.hid hR
      have HBB := Lib.hid hb
      have a0 := hDH.cell 0
      have a1 := hDH.cell 1
      have a2 := hDH.cell 2
      have a3 := hDH.cell 3
      have a4 := hDH.cell 4
      clear hT hTl hTd hlim hmod hX hY hR hb hTx hd4 h5 hd464 hval hDH hon hn H
      go_wp2_with fail
      trace_state
      refine HON.out.mono ?_
      rintro e w2 ⟨rfl, hb2⟩
      have hr2 := HRR.out.under hb2 HRR.out.lt
      have HR2 := Lib.hid hr2
      have HB2 := Lib.hid (HBB.out.trans (hb2.mono HBB.out.size))
      clear a0 a1 a2 a3 a4 hb2 HON
      have z0 := hr2.cell 0
      have o0 := hr2.open_ 0
      have z1 := hr2.cell 1
      have o1 := hr2.open_ 1
      have z2 := hr2.cell 2
      have o2 := hr2.open_ 2
      have z3 := hr2.cell 3
      have o3 := hr2.open_ 3
      have hbd : ∀ p q r s, Below w.heap.size w ((((w2.setCell ⟨w.heap.size + 1 + 1, 0, none⟩ p).setCell ⟨w.heap.size + 1 + 1, 1, none⟩ q).setCell ⟨w.heap.size + 1 + 1, 2, none⟩ r).setCell ⟨w.heap.size + 1 + 1, 3, none⟩ s) := fun p q r s => below4 HB2.out (by omega) p q r s
      have HBD := Lib.hid hbd
      clear hr2 hbd
      go_wp2_with fail
      refine ret_num rfl rfl (set4 HR2.out _ _ _ _) rfl ⟨?_, HBD.out _ _ _ _⟩
      rw [HNN.out, nv_of rfl]
end Go.Proofs.YtjpoiecbjpipdaaDoor
