/-
  The document's keys whose N is a prime.
-/
import Derived.Test.YtebhpjbjfbadjaaKrB
import Derived.Test.YtebhpjbjfbadjaaKrA
import Derived.Test.YtebhpjbjfbadjaaRef12
import Derived.Test.YtebhpjbjfbadjaaLuc
import Derived.Laws.ResultCell
namespace Go.Proofs.Ytebhpjbjfbadjaa
open Go.RowKit
set_option linter.unusedVariables false
set_option linter.unusedSimpArgs false

theorem ret_key {R : Ending → World → Prop} {tmps : Array Value} {w : World} {g : Nat} {t : TypeId} {cs : Array Value} {v : Value} {fn : Func} {p u : Tmp}
    (hr : fn.results = #[.cell p 28, .tmp u]) (hp : tmps.getD p undef = .pointer (some ⟨g, 0, none⟩)) (hu : tmps.getD u undef = v) (hg : Holds w g t cs) (hcs : cs.size = 6) (hR : R (.returned (.tuple #[.agg cs, v])) w) :
    bodyPost Try.prog fn R .ret { tmps := tmps, defers := [] } w := by
  have hi : (Try.prog.info? 28).map (·.size) = some cs.size := by rw [hcs]; kernel_rfl
  refine bodyPost_ret (v := .tuple #[.agg cs, v]) ?_ rfl hR
  rw [results_cell_tmp hr]
  have hp' : tmps[p]?.getD undef = .pointer (some ⟨g, 0, none⟩) := by simpa using hp
  have hu' : tmps[u]?.getD undef = v := by simpa using hu
  simp [hp', hu', asAddr, run_loadVar_row w g t _ cs (0, 0) _ hg Try.underlying28 rfl hi, Result.andThen]
def fillL (i m : Nat) : List Nat := List.replicate i 4294967295 ++ List.replicate (m - i) 0
theorem fillL_len {i m : Nat} : (fillL i m).length = i + (m - i) := by simp [fillL]
theorem fillL_at {i m : Nat} : (fillL i m).getD i 0 = 0 := by
  unfold fillL
  rw [List.getD, List.getElem?_append_right (by simp)]
  simp only [List.length_replicate, Nat.sub_self]
  rcases Nat.eq_zero_or_pos (m - i) with h | h
  · rw [h]; rfl
  · simp [h]
theorem fillL_set (i m : Nat) (h : i < m) : (fillL i m).set i 4294967295 = fillL (i + 1) m := by
  unfold fillL
  obtain ⟨k, hk⟩ : ∃ k, m - i = k + 1 := ⟨m - i - 1, by omega⟩
  rw [hk, show m - (i + 1) = k by omega, List.set_append_right _ _ (by simp), List.length_replicate, Nat.sub_self, List.replicate_succ, List.set_cons_zero, List.replicate_succ', List.append_assoc]
  rfl
/-- What a key whose N is a prime is answered as: it, in new memory, and the power that signs. -/
def PrimePost (w : World) (L : List Nat) (P : Nat) (e : Ending) (w' : World) : Prop :=
  ∃ (g n : Nat) (A : Option Addr) (c : Nat) (r : List Nat) (D : Nat), e = .returned (.tuple #[.agg #[.int .i64 1, .slice (some ⟨g, 0, none⟩) L.length L.length, .int .u32 65537, .slice none 0 0, .slice none 0 0, .bool false], .slice A n c]) ∧ r.length = n ∧
    w.heap.size ≤ g ∧ Row .u32 24 w' g L ∧ NumIs r D ∧ Rd .u32 w' w'.heap.size A c r ∧ (65537 * D % (P - 1) = 1 ∧ D < P) ∧ Below w.heap.size w w'
theorem rd_sides {w' : World} {g0 c : Nat} {A : Option Addr} {r : List Nat} (hz : Holds w' g0 28 #[.int .i64 0, .slice none 0 0, .int .u32 0, .slice none 0 0, .slice none 0 0, .bool false]) (hn : nrm r) (hr : Rd .u32 w' w'.heap.size A c r) {w2 : World} (hs : w'.heap.size ≤ w2.heap.size) (hk : ∀ g, g ≠ g0 → w2.heap[g]? = w'.heap[g]?) : Rd .u32 w2 w2.heap.size A c r := by
  refine ⟨hr.1, hr.2.1, fun h0 => ?_⟩
  obtain ⟨b, off, e, hb, hc⟩ := hr.2.2 h0
  have hne : b ≠ g0 := by
    intro he
    subst he
    have h1 := hc (r.length - 1) (by omega)
    have h2 : r.getD (r.length - 1) 0 ≠ 0 := by
      rcases hn with h | h
      · omega
      · exact h
    rw [hz.cell] at h1
    generalize r.getD (r.length - 1) 0 = y at *
    generalize off + (r.length - 1) = j at *
    match j with
    | 0 => simp at h1
    | 1 => simp at h1
    | 2 => simp at h1; omega
    | 3 => simp at h1
    | 4 => simp at h1
    | 5 => simp at h1
    | j + 6 => simp at h1
  exact ⟨b, off, e, by omega, fun j hj => by
    have := hc j hj
    simp only [World.cell?] at this ⊢
    rw [hk b hne]
    exact this⟩
theorem prime_end {w w' : World} {g0 n P c D m : Nat} {A : Option Addr} {L r : List Nat} {a b c2 d e f : Value} (hg : g0 = w.heap.size) (hR : Row .u32 24 w' (g0 + 1) L) (hB : Below g0 w w') (hz : Holds w' g0 28 #[.int .i64 0, .slice none 0 0, .int .u32 0, .slice none 0 0, .slice none 0 0, .bool false]) (hr : Rd .u32 w' w'.heap.size A c r) (hn : NumIs r D) (hD : 65537 * D % (P - 1) = 1 ∧ D < P) (hl : r.length = n) (hL : L.length = m) :
    PrimePost w L P (.returned (.tuple #[.agg #[.int .i64 1, .slice (some ⟨g0 + 1, 0, none⟩) m m, .int .u32 65537, .slice none 0 0, .slice none 0 0, .bool false], .slice A n c])) ((((((w'.setCell ⟨g0, 0, none⟩ a).setCell ⟨g0, 1, none⟩ b).setCell ⟨g0, 2, none⟩ c2).setCell ⟨g0, 3, none⟩ d).setCell ⟨g0, 4, none⟩ e).setCell ⟨g0, 5, none⟩ f) := by
  have hB2 : Below w.heap.size w ((((((w'.setCell ⟨g0, 0, none⟩ a).setCell ⟨g0, 1, none⟩ b).setCell ⟨g0, 2, none⟩ c2).setCell ⟨g0, 3, none⟩ d).setCell ⟨g0, 4, none⟩ e).setCell ⟨g0, 5, none⟩ f) := by
    rw [hg] at hB ⊢
    exact (((((hB.setCell (p := ⟨w.heap.size, 0, none⟩) (Nat.le_refl _) _).setCell (p := ⟨w.heap.size, 1, none⟩) (Nat.le_refl _) _).setCell (p := ⟨w.heap.size, 2, none⟩) (Nat.le_refl _) _).setCell (p := ⟨w.heap.size, 3, none⟩) (Nat.le_refl _) _).setCell (p := ⟨w.heap.size, 4, none⟩) (Nat.le_refl _) _).setCell (p := ⟨w.heap.size, 5, none⟩) (Nat.le_refl _) _
  have hR2 := (((((Holds.aside hR (p := ⟨g0, 0, none⟩) (by simp) a).aside (p := ⟨g0, 1, none⟩) (by simp) b).aside (p := ⟨g0, 2, none⟩) (by simp) c2).aside (p := ⟨g0, 3, none⟩) (by simp) d).aside (p := ⟨g0, 4, none⟩) (by simp) e).aside (p := ⟨g0, 5, none⟩) (by simp) f
  obtain ⟨w2, hw2⟩ : ∃ W, W = ((((((w'.setCell ⟨g0, 0, none⟩ a).setCell ⟨g0, 1, none⟩ b).setCell ⟨g0, 2, none⟩ c2).setCell ⟨g0, 3, none⟩ d).setCell ⟨g0, 4, none⟩ e).setCell ⟨g0, 5, none⟩ f) := ⟨_, rfl⟩
  have hr2 : Rd .u32 w2 w2.heap.size A c r := rd_sides hz hn.2.1 hr (by rw [hw2]; simp [World.setCell]) (fun g hg' => by
    rw [hw2]
    exact (Below.heap_setCell _ ⟨g0, 5, none⟩ f g hg').trans ((Below.heap_setCell _ ⟨g0, 4, none⟩ e g hg').trans ((Below.heap_setCell _ ⟨g0, 3, none⟩ d g hg').trans ((Below.heap_setCell _ ⟨g0, 2, none⟩ c2 g hg').trans ((Below.heap_setCell _ ⟨g0, 1, none⟩ b g hg').trans (Below.heap_setCell _ ⟨g0, 0, none⟩ a g hg'))))))
  rw [← hw2] at hB2 hR2 ⊢
  exact ⟨g0 + 1, n, A, c, r, D, by rw [hL], hl, by omega, hR2, hn, hr2, hD, hB2⟩
def pl521 : List Nat := List.replicate 16 4294967295 ++ [511]
theorem pl521_val : val pl521 = Luc.m521 := by decide +kernel
theorem pl521_dg : Dg pl521 := by unfold Dg pl521; decide
theorem pl521_nrm : nrm pl521 := .inr (by decide)
theorem pl521_len : pl521.length = 17 := by decide
theorem pl521_gcd : Nat.gcd (Luc.m521 - 1) 65537 = 1 := by decide +kernel
set_option maxRecDepth 100000 in
set_option maxHeartbeats 4000000 in
theorem prime_even (w : World) (x : Int) (hx : (bits .and .i64 x 1 == 1) = false) :
    Calls Try.prog 14 #[.int .i64 x] w (PrimePost w pl521 Luc.m521) := by
  have hm := make_nat (17 : Int) 17 rfl (by omega) (w.alloc (.cells #[.int .i64 0, .slice none 0 0, .int .u32 0, .slice none 0 0, .slice none 0 0, .bool false] 28))
  rw [show (w.alloc (.cells #[.int .i64 0, .slice none 0 0, .int .u32 0, .slice none 0 0, .slice none 0 0, .bool false] 28)).heap.size = w.heap.size + 1 by simp] at hm
  rw [show List.replicate 17 0 = fillL 0 17 from rfl] at hm
  obtain ⟨w1, hw1⟩ : ∃ W, W = (w.alloc (.cells #[.int .i64 0, .slice none 0 0, .int .u32 0, .slice none 0 0, .slice none 0 0, .bool false] 28)).alloc (.cells (nums .u32 (fillL 0 17)) 24) := ⟨_, rfl⟩
  have hz0 : Holds w1 w.heap.size 28 #[.int .i64 0, .slice none 0 0, .int .u32 0, .slice none 0 0, .slice none 0 0, .bool false] := by
    rw [hw1]
    exact (Holds.fresh w _ _).alloc _
  have hr0 : Row .u32 24 w1 (w.heap.size + 1) (fillL 0 17) := by
    have h := Holds.fresh (w.alloc (.cells #[.int .i64 0, .slice none 0 0, .int .u32 0, .slice none 0 0, .slice none 0 0, .bool false] 28)) 24 (nums .u32 (fillL 0 17))
    rw [show (w.alloc (.cells #[.int .i64 0, .slice none 0 0, .int .u32 0, .slice none 0 0, .slice none 0 0, .bool false] 28)).heap.size = w.heap.size + 1 by simp] at h
    rw [hw1]
    exact h
  have hb0 : Below w.heap.size w w1 := by rw [hw1]; exact ((Below.refl _ _).alloc (Nat.le_refl _) _).alloc (by simp) _
  have HZ := Lib.hid hz0
  have HR := Lib.hid hr0
  have HB := Lib.hid hb0
  rw [← hw1] at hm
  clear hz0 hr0 hb0 hw1
  go_enter Try.func14, Try.ntmps14
  go_wp2_with fail
  go_loopw [6] (fun iv wr => ∃ i : Nat, i ≤ 16 ∧ iv = .int .i64 (i : Int) ∧ Hid (Row .u32 24 wr (w.heap.size + 1) (fillL i 17)) ∧ Hid (Holds wr w.heap.size 28 #[.int .i64 0, .slice none 0 0, .int .u32 0, .slice none 0 0, .slice none 0 0, .bool false]) ∧ Hid (Below w.heap.size w wr)) (fun iv _ => 16 - (intOf iv).toNat)
  case atStart => exact ⟨0, by omega, rfl, HR, HZ, HB⟩
  case round =>
    obtain ⟨i, hi, rfl, HR1, HZ1, HB1⟩ := hrel
    clear hm HR HZ HB
    have hop := Holds.open_ HR1.out
    by_cases hlt : i < 16
    · have y0 := hop i
      have hce : wr.cell? ⟨w.heap.size + 1, i, none⟩ = some (.int .u32 0) := by
        have := Holds.cell HR1.out i
        rw [this, nums_at _ _ (by rw [fillL_len]; omega), fillL_at]
        rfl
      have HR2 : Hid (Row .u32 24 (wr.setCell ⟨w.heap.size + 1, i, none⟩ (.int .u32 4294967295)) (w.heap.size + 1) (fillL (i + 1) 17)) := Lib.hid (by
        have h := Holds.stored HR1.out i (.int .u32 ((4294967295 : Nat) : Int))
        rw [nums_set, fillL_set _ _ (by omega)] at h
        exact h)
      have HZ2 : Hid (Holds (wr.setCell ⟨w.heap.size + 1, i, none⟩ (.int .u32 4294967295)) w.heap.size 28 #[.int .i64 0, .slice none 0 0, .int .u32 0, .slice none 0 0, .slice none 0 0, .bool false]) := Lib.hid (HZ1.out.aside (by simp) _)
      have HB2 : Hid (Below w.heap.size w (wr.setCell ⟨w.heap.size + 1, i, none⟩ (.int .u32 4294967295))) := Lib.hid (HB1.out.setCell (by simp) _)
      have t1 : decide ((i : Int) < 16) = true := decide_eq_true (by omega)
      have hi2 : i < 17 := by omega
      clear hop HR1 HZ1 HB1
      go_wp2_with fail
      go_roundw
      case rel => exact ⟨i + 1, by omega, by go_num, HR2, HZ2, HB2⟩
      case measure => simp [intOf]; omega
    · obtain rfl : i = 16 := by omega
      have t1 : decide (((16 : Nat) : Int) < 16) = false := by decide
      have y0 := hop 16
      have hce : wr.cell? ⟨w.heap.size + 1, 16, none⟩ = some (.int .u32 0) := by
        have := Holds.cell HR1.out 16
        rw [this]
        rfl
      obtain ⟨w2, hw2⟩ : ∃ W, W = wr.setCell ⟨w.heap.size + 1, 16, none⟩ (.int .u32 511) := ⟨_, rfl⟩
      have HR2 : Hid (Row .u32 24 w2 (w.heap.size + 1) pl521) := Lib.hid (by
        have h := Holds.stored HR1.out 16 (.int .u32 ((511 : Nat) : Int))
        rw [nums_set, show (fillL 16 17).set 16 511 = pl521 by decide] at h
        rw [hw2]
        exact h)
      have HZ2 : Hid (Holds w2 w.heap.size 28 #[.int .i64 0, .slice none 0 0, .int .u32 0, .slice none 0 0, .slice none 0 0, .bool false]) := Lib.hid (by rw [hw2]; exact HZ1.out.aside (by simp) _)
      have HB2 : Hid (Below w.heap.size w w2) := Lib.hid (by rw [hw2]; exact HB1.out.setCell (by simp) _)
      have HW2 := Lib.hid hw2
      have hs2 : w2.heap.size = wr.heap.size := by rw [hw2]; simp [World.setCell]
      clear hop HR1 HZ1 HB1 hw2 hlt
      obtain ⟨w3, hw3⟩ : ∃ W, W = w2.alloc (.cells #[.int .u32 1] 24) := ⟨_, rfl⟩
      have hb3 : Below w2.heap.size w2 w3 := by rw [hw3]; exact (Below.refl _ _).alloc (Nat.le_refl _) _
      have HR3 := Lib.hid (Holds.under HR2.out hb3 (Holds.lt HR2.out))
      have HZ3 := Lib.hid (HZ2.out.under hb3 HZ2.out.lt)
      have HB3 := Lib.hid (HB2.out.trans (hb3.mono (Nat.le_of_lt HZ2.out.lt)))
      have HSU : Hid (Calls Try.prog 33 #[.slice (some ⟨w.heap.size + 1, 0, none⟩) 17 17, .slice (some ⟨w2.heap.size, 0, none⟩) 1 1] w3 fun e w' => ∃ A2 c2 r, e = .returned (.tuple #[.slice A2 r.length c2, .bool true]) ∧ NumIs r (Luc.m521 - 1) ∧ Rd .u32 w' w'.heap.size A2 c2 r ∧ Below w3.heap.size w3 w') := Lib.hid (by
        have hrd := (rd_whole (c := 17) (show Row .u32 24 w3 (w.heap.size + 1) pl521 from HR3.out) (by decide) (by omega)).more (Holds.lt HR3.out)
        have h1 := rd_lone w2 1
        rw [show (.cells #[.int .u32 ((1 : Nat) : Int)] 24 : Obj) = .cells #[.int .u32 1] 24 from rfl, ← hw3] at h1
        have h := sub'_all w3 _ _ _ _ _ _ pl521 [1] hrd h1 (Nat.le_refl _) (Nat.le_refl _) pl521_dg (dg_lone (by omega)) pl521_nrm (nrm_lone (by omega)) (by decide) (by decide) true (by rw [pl521_val, val_lone]; decide +kernel)
        rw [pl521_val, val_lone] at h
        exact h.mono fun e w' ⟨A2, c2, r, e1, e2, e3, e4⟩ => ⟨A2, c2, r, e1, e2, e3.1, e4⟩)
      rw [hs2] at HSU
      have HW3 := Lib.hid hw3
      clear hs2 hw3 hb3 HR2 HZ2 HB2
      go_wp2_with fail
      rw [← HW2.out, ← HW3.out]
      refine HSU.out.mono ?_
      rintro e w4 ⟨A4, c4, r4, rfl, hn4, hr4, hb4⟩
      have HR4 := Lib.hid (Holds.under HR3.out hb4 (Holds.lt HR3.out))
      have HZ4 := Lib.hid (HZ3.out.under hb4 HZ3.out.lt)
      have HB4 := Lib.hid (HB3.out.trans (hb4.mono (Nat.le_of_lt HZ3.out.lt)))
      obtain ⟨w5, hw5⟩ : ∃ W, W = w4.alloc (.cells #[.int .u32 65537] 24) := ⟨_, rfl⟩
      have hb5 : Below w4.heap.size w4 w5 := by rw [hw5]; exact (Below.refl _ _).alloc (Nat.le_refl _) _
      have HR5 := Lib.hid (Holds.under HR4.out hb5 (Holds.lt HR4.out))
      have HZ5 := Lib.hid (HZ4.out.under hb5 HZ4.out.lt)
      have HB5 := Lib.hid (HB4.out.trans (hb5.mono (Nat.le_of_lt HZ4.out.lt)))
      have hl4 : r4.length ≤ 1000 := by
        have := num_len' hn4 (k := 17) (by
          have h1 : val pl521 < pw pl521.length := val_lt pl521_dg
          rw [pl521_val, pl521_len] at h1
          omega)
        omega
      have HIN : Hid (Calls Try.prog 34 #[.slice (some ⟨w4.heap.size, 0, none⟩) 1 1, .slice A4 r4.length c4] w5 fun e w' => ∃ D, (65537 * D % (Luc.m521 - 1) = 1 ∧ D < Luc.m521) ∧ LeftR w5 D e w') := Lib.hid (by
        have hrd := rd_next hr4 (Nat.le_refl _) hb5
        have h1 := rd_lone w4 65537
        rw [show (.cells #[.int .u32 ((65537 : Nat) : Int)] 24 : Obj) = .cells #[.int .u32 65537] 24 from rfl, ← hw5] at h1
        have h := inv8_high w5 _ A4 1 c4 [65537] r4 h1 hrd (dg_lone (by omega)) hn4.1 (by simp) hl4 (nrm_lone (by omega)) hn4.2.1 (by rw [hn4.2.2]; decide +kernel)
        rw [hn4.2.2, val_lone, pl521_gcd] at h
        refine h.mono fun e w' h2 => ?_
        rcases h2 with ⟨h3, _⟩ | ⟨_, D, h6, h4, h5⟩
        · exact absurd rfl h3
        · exact ⟨D, ⟨h4, by omega⟩, h5⟩)
      have HW5 := Lib.hid hw5
      generalize r4.length = n4 at *
      clear hw5 hb5 hb4 hr4 hn4 hl4 HR3 HZ3 HB3 HR4 HZ4 HB4 HSU HW2 HW3
      go_wp2_with fail
      rw [← HW5.out]
      refine HIN.out.mono ?_
      rintro e w6 ⟨D, hD, A6, c6, r6, rfl, hn6, hr6, hb6⟩
      have HR6 := Lib.hid (Holds.under HR5.out hb6 (Holds.lt HR5.out))
      have hz6 := HZ5.out.under hb6 HZ5.out.lt
      have HB6 := Lib.hid (HB5.out.trans (hb6.mono (Nat.le_of_lt HZ5.out.lt)))
      have HZ6 := Lib.hid hz6
      have HRD := Lib.hid hr6
      have HN6 := Lib.hid hn6
      have HD := Lib.hid hD
      have z0 := hz6.cell 0
      have z1 := hz6.cell 1
      have z2 := hz6.cell 2
      have z3 := hz6.cell 3
      have z4 := hz6.cell 4
      have z5 := hz6.cell 5
      have q0 := hz6.open_ 0
      have q1 := hz6.open_ 1
      have q2 := hz6.open_ 2
      have q3 := hz6.open_ 3
      have q4 := hz6.open_ 4
      have q5 := hz6.open_ 5
      obtain ⟨n6, hn6l⟩ : ∃ n, r6.length = n := ⟨_, rfl⟩
      rw [hn6l]
      have HNL := Lib.hid hn6l
      clear hD hn6 hr6 hb6 hz6 hn6l HR5 HZ5 HB5 HIN HW5
      go_wp2_with fail
      refine ret_key rfl rfl rfl ((((((HZ6.out.stored 0 _).stored 1 _).stored 2 _).stored 3 _).stored 4 _).stored 5 _) rfl ?_
      exact prime_end rfl HR6.out HB6.out HZ6.out HRD.out HN6.out HD.out HNL.out pl521_len
def pl607 : List Nat := List.replicate 18 4294967295 ++ [2147483647]
theorem pl607_val : val pl607 = Luc.m607 := by decide +kernel
theorem pl607_dg : Dg pl607 := by unfold Dg pl607; decide
theorem pl607_nrm : nrm pl607 := .inr (by decide)
theorem pl607_len : pl607.length = 19 := by decide
theorem pl607_gcd : Nat.gcd (Luc.m607 - 1) 65537 = 1 := by decide +kernel
set_option maxRecDepth 100000 in
set_option maxHeartbeats 4000000 in
theorem prime_odd (w : World) (x : Int) (hx : (bits .and .i64 x 1 == 1) = true) :
    Calls Try.prog 14 #[.int .i64 x] w (PrimePost w pl607 Luc.m607) := by
  have hm := make_nat (19 : Int) 19 rfl (by omega) (w.alloc (.cells #[.int .i64 0, .slice none 0 0, .int .u32 0, .slice none 0 0, .slice none 0 0, .bool false] 28))
  rw [show (w.alloc (.cells #[.int .i64 0, .slice none 0 0, .int .u32 0, .slice none 0 0, .slice none 0 0, .bool false] 28)).heap.size = w.heap.size + 1 by simp] at hm
  rw [show List.replicate 19 0 = fillL 0 19 from rfl] at hm
  obtain ⟨w1, hw1⟩ : ∃ W, W = (w.alloc (.cells #[.int .i64 0, .slice none 0 0, .int .u32 0, .slice none 0 0, .slice none 0 0, .bool false] 28)).alloc (.cells (nums .u32 (fillL 0 19)) 24) := ⟨_, rfl⟩
  have hz0 : Holds w1 w.heap.size 28 #[.int .i64 0, .slice none 0 0, .int .u32 0, .slice none 0 0, .slice none 0 0, .bool false] := by
    rw [hw1]
    exact (Holds.fresh w _ _).alloc _
  have hr0 : Row .u32 24 w1 (w.heap.size + 1) (fillL 0 19) := by
    have h := Holds.fresh (w.alloc (.cells #[.int .i64 0, .slice none 0 0, .int .u32 0, .slice none 0 0, .slice none 0 0, .bool false] 28)) 24 (nums .u32 (fillL 0 19))
    rw [show (w.alloc (.cells #[.int .i64 0, .slice none 0 0, .int .u32 0, .slice none 0 0, .slice none 0 0, .bool false] 28)).heap.size = w.heap.size + 1 by simp] at h
    rw [hw1]
    exact h
  have hb0 : Below w.heap.size w w1 := by rw [hw1]; exact ((Below.refl _ _).alloc (Nat.le_refl _) _).alloc (by simp) _
  have HZ := Lib.hid hz0
  have HR := Lib.hid hr0
  have HB := Lib.hid hb0
  rw [← hw1] at hm
  clear hz0 hr0 hb0 hw1
  go_enter Try.func14, Try.ntmps14
  go_wp2_with fail
  go_loopw [6] (fun iv wr => ∃ i : Nat, i ≤ 18 ∧ iv = .int .i64 (i : Int) ∧ Hid (Row .u32 24 wr (w.heap.size + 1) (fillL i 19)) ∧ Hid (Holds wr w.heap.size 28 #[.int .i64 0, .slice none 0 0, .int .u32 0, .slice none 0 0, .slice none 0 0, .bool false]) ∧ Hid (Below w.heap.size w wr)) (fun iv _ => 18 - (intOf iv).toNat)
  case atStart => exact ⟨0, by omega, rfl, HR, HZ, HB⟩
  case round =>
    obtain ⟨i, hi, rfl, HR1, HZ1, HB1⟩ := hrel
    clear hm HR HZ HB
    have hop := Holds.open_ HR1.out
    by_cases hlt : i < 18
    · have y0 := hop i
      have hce : wr.cell? ⟨w.heap.size + 1, i, none⟩ = some (.int .u32 0) := by
        have := Holds.cell HR1.out i
        rw [this, nums_at _ _ (by rw [fillL_len]; omega), fillL_at]
        rfl
      have HR2 : Hid (Row .u32 24 (wr.setCell ⟨w.heap.size + 1, i, none⟩ (.int .u32 4294967295)) (w.heap.size + 1) (fillL (i + 1) 19)) := Lib.hid (by
        have h := Holds.stored HR1.out i (.int .u32 ((4294967295 : Nat) : Int))
        rw [nums_set, fillL_set _ _ (by omega)] at h
        exact h)
      have HZ2 : Hid (Holds (wr.setCell ⟨w.heap.size + 1, i, none⟩ (.int .u32 4294967295)) w.heap.size 28 #[.int .i64 0, .slice none 0 0, .int .u32 0, .slice none 0 0, .slice none 0 0, .bool false]) := Lib.hid (HZ1.out.aside (by simp) _)
      have HB2 : Hid (Below w.heap.size w (wr.setCell ⟨w.heap.size + 1, i, none⟩ (.int .u32 4294967295))) := Lib.hid (HB1.out.setCell (by simp) _)
      have t1 : decide ((i : Int) < 18) = true := decide_eq_true (by omega)
      have hi2 : i < 19 := by omega
      clear hop HR1 HZ1 HB1
      go_wp2_with fail
      go_roundw
      case rel => exact ⟨i + 1, by omega, by go_num, HR2, HZ2, HB2⟩
      case measure => simp [intOf]; omega
    · obtain rfl : i = 18 := by omega
      have t1 : decide (((18 : Nat) : Int) < 18) = false := by decide
      have y0 := hop 18
      have hce : wr.cell? ⟨w.heap.size + 1, 18, none⟩ = some (.int .u32 0) := by
        have := Holds.cell HR1.out 18
        rw [this]
        rfl
      obtain ⟨w2, hw2⟩ : ∃ W, W = wr.setCell ⟨w.heap.size + 1, 18, none⟩ (.int .u32 2147483647) := ⟨_, rfl⟩
      have HR2 : Hid (Row .u32 24 w2 (w.heap.size + 1) pl607) := Lib.hid (by
        have h := Holds.stored HR1.out 18 (.int .u32 ((2147483647 : Nat) : Int))
        rw [nums_set, show (fillL 18 19).set 18 2147483647 = pl607 by decide] at h
        rw [hw2]
        exact h)
      have HZ2 : Hid (Holds w2 w.heap.size 28 #[.int .i64 0, .slice none 0 0, .int .u32 0, .slice none 0 0, .slice none 0 0, .bool false]) := Lib.hid (by rw [hw2]; exact HZ1.out.aside (by simp) _)
      have HB2 : Hid (Below w.heap.size w w2) := Lib.hid (by rw [hw2]; exact HB1.out.setCell (by simp) _)
      have HW2 := Lib.hid hw2
      have hs2 : w2.heap.size = wr.heap.size := by rw [hw2]; simp [World.setCell]
      clear hop HR1 HZ1 HB1 hw2 hlt
      obtain ⟨w3, hw3⟩ : ∃ W, W = w2.alloc (.cells #[.int .u32 1] 24) := ⟨_, rfl⟩
      have hb3 : Below w2.heap.size w2 w3 := by rw [hw3]; exact (Below.refl _ _).alloc (Nat.le_refl _) _
      have HR3 := Lib.hid (Holds.under HR2.out hb3 (Holds.lt HR2.out))
      have HZ3 := Lib.hid (HZ2.out.under hb3 HZ2.out.lt)
      have HB3 := Lib.hid (HB2.out.trans (hb3.mono (Nat.le_of_lt HZ2.out.lt)))
      have HSU : Hid (Calls Try.prog 33 #[.slice (some ⟨w.heap.size + 1, 0, none⟩) 19 19, .slice (some ⟨w2.heap.size, 0, none⟩) 1 1] w3 fun e w' => ∃ A2 c2 r, e = .returned (.tuple #[.slice A2 r.length c2, .bool true]) ∧ NumIs r (Luc.m607 - 1) ∧ Rd .u32 w' w'.heap.size A2 c2 r ∧ Below w3.heap.size w3 w') := Lib.hid (by
        have hrd := (rd_whole (c := 19) (show Row .u32 24 w3 (w.heap.size + 1) pl607 from HR3.out) (by decide) (by omega)).more (Holds.lt HR3.out)
        have h1 := rd_lone w2 1
        rw [show (.cells #[.int .u32 ((1 : Nat) : Int)] 24 : Obj) = .cells #[.int .u32 1] 24 from rfl, ← hw3] at h1
        have h := sub'_all w3 _ _ _ _ _ _ pl607 [1] hrd h1 (Nat.le_refl _) (Nat.le_refl _) pl607_dg (dg_lone (by omega)) pl607_nrm (nrm_lone (by omega)) (by decide) (by decide) true (by rw [pl607_val, val_lone]; decide +kernel)
        rw [pl607_val, val_lone] at h
        exact h.mono fun e w' ⟨A2, c2, r, e1, e2, e3, e4⟩ => ⟨A2, c2, r, e1, e2, e3.1, e4⟩)
      rw [hs2] at HSU
      have HW3 := Lib.hid hw3
      clear hs2 hw3 hb3 HR2 HZ2 HB2
      go_wp2_with fail
      rw [← HW2.out, ← HW3.out]
      refine HSU.out.mono ?_
      rintro e w4 ⟨A4, c4, r4, rfl, hn4, hr4, hb4⟩
      have HR4 := Lib.hid (Holds.under HR3.out hb4 (Holds.lt HR3.out))
      have HZ4 := Lib.hid (HZ3.out.under hb4 HZ3.out.lt)
      have HB4 := Lib.hid (HB3.out.trans (hb4.mono (Nat.le_of_lt HZ3.out.lt)))
      obtain ⟨w5, hw5⟩ : ∃ W, W = w4.alloc (.cells #[.int .u32 65537] 24) := ⟨_, rfl⟩
      have hb5 : Below w4.heap.size w4 w5 := by rw [hw5]; exact (Below.refl _ _).alloc (Nat.le_refl _) _
      have HR5 := Lib.hid (Holds.under HR4.out hb5 (Holds.lt HR4.out))
      have HZ5 := Lib.hid (HZ4.out.under hb5 HZ4.out.lt)
      have HB5 := Lib.hid (HB4.out.trans (hb5.mono (Nat.le_of_lt HZ4.out.lt)))
      have hl4 : r4.length ≤ 1000 := by
        have := num_len' hn4 (k := 19) (by
          have h1 : val pl607 < pw pl607.length := val_lt pl607_dg
          rw [pl607_val, pl607_len] at h1
          omega)
        omega
      have HIN : Hid (Calls Try.prog 34 #[.slice (some ⟨w4.heap.size, 0, none⟩) 1 1, .slice A4 r4.length c4] w5 fun e w' => ∃ D, (65537 * D % (Luc.m607 - 1) = 1 ∧ D < Luc.m607) ∧ LeftR w5 D e w') := Lib.hid (by
        have hrd := rd_next hr4 (Nat.le_refl _) hb5
        have h1 := rd_lone w4 65537
        rw [show (.cells #[.int .u32 ((65537 : Nat) : Int)] 24 : Obj) = .cells #[.int .u32 65537] 24 from rfl, ← hw5] at h1
        have h := inv8_high w5 _ A4 1 c4 [65537] r4 h1 hrd (dg_lone (by omega)) hn4.1 (by simp) hl4 (nrm_lone (by omega)) hn4.2.1 (by rw [hn4.2.2]; decide +kernel)
        rw [hn4.2.2, val_lone, pl607_gcd] at h
        refine h.mono fun e w' h2 => ?_
        rcases h2 with ⟨h3, _⟩ | ⟨_, D, h6, h4, h5⟩
        · exact absurd rfl h3
        · exact ⟨D, ⟨h4, by omega⟩, h5⟩)
      have HW5 := Lib.hid hw5
      generalize r4.length = n4 at *
      clear hw5 hb5 hb4 hr4 hn4 hl4 HR3 HZ3 HB3 HR4 HZ4 HB4 HSU HW2 HW3
      go_wp2_with fail
      rw [← HW5.out]
      refine HIN.out.mono ?_
      rintro e w6 ⟨D, hD, A6, c6, r6, rfl, hn6, hr6, hb6⟩
      have HR6 := Lib.hid (Holds.under HR5.out hb6 (Holds.lt HR5.out))
      have hz6 := HZ5.out.under hb6 HZ5.out.lt
      have HB6 := Lib.hid (HB5.out.trans (hb6.mono (Nat.le_of_lt HZ5.out.lt)))
      have HZ6 := Lib.hid hz6
      have HRD := Lib.hid hr6
      have HN6 := Lib.hid hn6
      have HD := Lib.hid hD
      have z0 := hz6.cell 0
      have z1 := hz6.cell 1
      have z2 := hz6.cell 2
      have z3 := hz6.cell 3
      have z4 := hz6.cell 4
      have z5 := hz6.cell 5
      have q0 := hz6.open_ 0
      have q1 := hz6.open_ 1
      have q2 := hz6.open_ 2
      have q3 := hz6.open_ 3
      have q4 := hz6.open_ 4
      have q5 := hz6.open_ 5
      obtain ⟨n6, hn6l⟩ : ∃ n, r6.length = n := ⟨_, rfl⟩
      rw [hn6l]
      have HNL := Lib.hid hn6l
      clear hD hn6 hr6 hb6 hz6 hn6l HR5 HZ5 HB5 HIN HW5
      go_wp2_with fail
      refine ret_key rfl rfl rfl ((((((HZ6.out.stored 0 _).stored 1 _).stored 2 _).stored 3 _).stored 4 _).stored 5 _) rfl ?_
      exact prime_end rfl HR6.out HB6.out HZ6.out HRD.out HN6.out HD.out HNL.out pl607_len
end Go.Proofs.Ytebhpjbjfbadjaa
