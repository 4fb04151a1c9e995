/-
  Inverses: Euclid's way.
-/
import Derived.Test.YtphfgchfphdcaaaMod2
namespace Go.Proofs.Ytphfgchfphdcaaa
open Go.RowKit
set_option linter.unusedVariables false

/-- What stands at the loop's head. -/
structure Eu (a m x y u v : Nat) (b : Bool) : Prop where
  sum : v * x + u * y = m
  um : u ≤ m
  xm : x ≤ m
  xpos : 0 < x
  yx : y < x
  g : Nat.gcd x y = Nat.gcd m a
  no : b = false → ∃ k j, x + u * a = m * k ∧ v * a = y + m * j
  yes : b = true → ∃ k j, u * a = x + m * k ∧ y + v * a = m * j
theorem Eu.start {a m : Nat} (h : 1 < m) : Eu a m m (a % m) 0 1 false :=
  ⟨by omega, by omega, Nat.le_refl _, by omega, Nat.mod_lt _ (by omega), by rw [Nat.gcd_comm m (a % m), ← Nat.gcd_rec],
   fun _ => ⟨1, a / m, by omega, by rw [Nat.one_mul, Nat.mod_add_div]⟩, fun h => by cases h⟩
theorem Eu.vm {a m x y u v : Nat} {b : Bool} (h : Eu a m x y u v b) : v ≤ m := by
  have h1 := h.sum
  have h2 : v * 1 ≤ v * x := Nat.mul_le_mul_left _ h.xpos
  omega
theorem Eu.next {a m x y u v : Nat} {b : Bool} (h : Eu a m x y u v b) (hy : 0 < y) : Eu a m y (x % y) v (u + x / y * v) (!b) := by
  have hx := Nat.mod_add_div x y
  have hvm := h.vm
  obtain ⟨hs, hu, hxm, hxp, hyx, hg, hno, hyes⟩ := h
  generalize hq : x / y = q at *
  generalize hr : x % y = r at *
  have hxe : x = r + y * q := hx.symm
  refine ⟨?_, hvm, by omega, hy, by rw [← hr]; exact Nat.mod_lt _ hy, ?_, ?_, ?_⟩
  · rw [← hs, hxe]
    rw [Nat.add_mul, Nat.mul_add v r]
    have e1 : q * v * y = v * (y * q) := by rw [Nat.mul_comm q v, Nat.mul_assoc, Nat.mul_comm q y]
    rw [e1]
    have e2 : v * r = v * r := rfl
    generalize v * (y * q) = t1
    generalize v * r = t2
    generalize u * y = t3
    omega
  · rw [← hg, ← hr, Nat.gcd_comm y (x % y), ← Nat.gcd_rec, Nat.gcd_comm]
  · intro hb
    have hb' : b = true := by simpa only [Bool.not_eq_false'] using hb
    obtain ⟨k, j, h1, h2⟩ := hyes hb'
    refine ⟨j, k + q * j, h2, ?_⟩
    have e1 : q * (y + v * a) = q * (m * j) := by rw [h2]
    rw [Nat.mul_add] at e1
    have e2 : q * v * a = q * (v * a) := Nat.mul_assoc _ _ _
    have e3 : m * (k + q * j) = m * k + q * (m * j) := by rw [Nat.mul_add, Nat.mul_left_comm]
    have e4 : q * y = y * q := Nat.mul_comm _ _
    rw [Nat.add_mul, e2, e3]
    generalize q * (v * a) = t1 at *
    generalize q * (m * j) = t2 at *
    generalize q * y = t3 at *
    generalize y * q = t5 at *
    generalize u * a = t4 at *
    generalize m * k = t6 at *
    omega
  · intro hb
    have hb' : b = false := by simpa only [Bool.not_eq_true'] using hb
    obtain ⟨k, j, h1, h2⟩ := hno hb'
    refine ⟨j, k + q * j, h2, ?_⟩
    have e1 : q * (v * a) = q * (y + m * j) := by rw [h2]
    rw [Nat.mul_add] at e1
    have e2 : q * v * a = q * (v * a) := Nat.mul_assoc _ _ _
    have e3 : m * (k + q * j) = m * k + q * (m * j) := by rw [Nat.mul_add, Nat.mul_left_comm]
    have e4 : q * y = y * q := Nat.mul_comm _ _
    rw [Nat.add_mul, e2, e3]
    generalize q * (v * a) = t1 at *
    generalize q * (m * j) = t2 at *
    generalize q * y = t3 at *
    generalize y * q = t5 at *
    generalize u * a = t4 at *
    generalize m * k = t6 at *
    omega
theorem Eu.done {a m x u v : Nat} {b : Bool} (h : Eu a m x 0 u v b) : x = Nat.gcd m a := by
  have := h.g
  rwa [Nat.gcd_zero_right] at this
/-- The answer. -/
theorem Eu.inv {a m u v : Nat} {b : Bool} (hm : 1 < m) (h : Eu a m 1 0 u v b) : (b = true → a * (u % m) % m = 1) ∧ (b = false → a * ((0 % m + (m - u % m)) % m) % m = 1) := by
  constructor
  · intro hb
    obtain ⟨k, j, h1, _⟩ := h.yes hb
    rw [Nat.mul_mod, Nat.mod_mod, ← Nat.mul_mod, Nat.mul_comm, h1, Nat.add_mul_mod_self_left, Nat.mod_eq_of_lt hm]
  · intro hb
    obtain ⟨k, j, h1, _⟩ := h.no hb
    have hd := Nat.mod_add_div u m
    have hl := Nat.mod_lt u (show 0 < m by omega)
    generalize u / m = d at *
    generalize u % m = z at *
    subst hd
    rw [Nat.zero_mod, Nat.zero_add, Nat.mul_mod, Nat.mod_mod, ← Nat.mul_mod]
    -- a (m - z) = 1 + m (..)
    have e1 : (z + m * d) * a = z * a + m * (d * a) := by rw [Nat.add_mul, Nat.mul_assoc]
    rw [e1] at h1
    have e2 : a * (m - z) + z * a = m * a := by rw [Nat.mul_comm z a, ← Nat.mul_add, Nat.sub_add_cancel (by omega), Nat.mul_comm]
    have e3 : a * (m - z) + m * k = 1 + m * (a + d * a) := by
      rw [Nat.mul_add]
      generalize a * (m - z) = t1 at *
      generalize z * a = t2 at *
      generalize m * a = t3 at *
      generalize m * (d * a) = t4 at *
      generalize m * k = t5 at *
      omega
    have e4 : (a * (m - z) + m * k) % m = (1 + m * (a + d * a)) % m := by rw [e3]
    rwa [Nat.add_mul_mod_self_left, Nat.add_mul_mod_self_left, Nat.mod_eq_of_lt hm] at e4

theorem val_unit : val [1] = 1 := by simp [val]
theorem cmp_one {t : List Nat} (hd : Dg t) (hn : nrm t) : cmpL t [1] = if val t < 1 then -1 else if 1 < val t then 1 else 0 := by
  have h1 : Dg [1] := fun x hx => by simp at hx; omega
  have h2 : nrm [1] := .inr (by decide)
  rw [cmpL_val hd h1 hn h2, val_unit]
theorem num_unit : NumIs [1] 1 := ⟨fun x hx => by simp at hx; omega, .inr (by decide), val_unit⟩
theorem trl_one : trl [1] = [1] := trl_id (.inr (by decide))

set_option maxRecDepth 100000 in
theorem inv_low (w : World) (A A' : Option Addr) (c c' : Nat) (l l' : List Nat) (hr : Rd .u32 w w.heap.size A c l) (hr' : Rd .u32 w w.heap.size A' c' l') (hd : Dg l) (hd' : Dg l') (h0 : val l' ≤ 1) :
    Calls Try.prog 19 #[.slice A l.length c, .slice A' l'.length c'] w (Nought w) := by
  obtain ⟨z, hz, hz0⟩ : ∃ z : Int, cmpL (trl l') (trl [1]) = z ∧ z ≤ 0 := ⟨_, rfl, by
    rw [trl_one, cmp_one (trl_dg hd') (trl_nrm l'), trl_val]
    split
    · omega
    · rw [if_neg (by omega)]; omega⟩
  go_enter Try.func19, Try.ntmps19
  go_wp2_with fail
  have hT : Row .u32 31 (w.alloc (.cells #[.int .u32 1] 31)) w.heap.size [1] := Holds.fresh _ _ _
  have hbT : Below w.heap.size w (w.alloc (.cells #[.int .u32 1] 31)) := (Below.refl _ _).alloc (Nat.le_refl _) _
  have hrm := rd_next hr' (Nat.le_refl _) hbT
  have hr1 := rd_whole (c := 1) hT (by simp) (by omega)
  have hz1 := Holds.lt hT
  clear hT
  generalize w.alloc (.cells #[.int .u32 1] 31) = w2 at *
  refine (cmp_any w2 _ _ A' _ c' 1 l' [1] hrm hr1 z hz).mono ?_
  rintro e w3 ⟨rfl, q, rfl⟩
  go_wp2_with fail
  go_ret2
  exact ⟨rfl, below_drewN hbT q⟩

/-- The number that a slice reads as. -/
def readNum (s : Value) (w : World) : Nat :=
  match s with
  | .slice (some a) n _ => val ((List.range n).map fun i => match w.cell? ⟨a.block, a.off + i, none⟩ with | some (.int _ z) => z.toNat | _ => 0)
  | _ => 0
theorem readNum_eq {w : World} {B : Nat} {A : Option Addr} {c : Nat} {l : List Nat} (hr : Rd .u32 w B A c l) : readNum (.slice A l.length c) w = val l := by
  rcases Nat.eq_zero_or_pos l.length with h | h
  · obtain rfl := List.eq_nil_of_length_eq_zero h
    cases A <;> simp [readNum, val]
  · obtain ⟨b, off, rfl, hb, hc⟩ := hr.2.2 h
    simp only [readNum]
    congr 1
    apply List.ext_getElem
    · simp
    · intro i h1 h2
      simp only [List.getElem_map, List.getElem_range]
      rw [hc i h2]
      simp [List.getD, h2]

set_option maxRecDepth 100000 in
set_option maxHeartbeats 1000000 in
theorem inv_high (w : World) (A A' : Option Addr) (c c' : Nat) (l l' : List Nat) (hr : Rd .u32 w w.heap.size A c l) (hr' : Rd .u32 w w.heap.size A' c' l') (hd : Dg l) (hd' : Dg l') (hs : l.length ≤ 1000) (hs' : l'.length ≤ 1000) (hn' : nrm l') (h0 : 1 < val l') :
    Calls Try.prog 19 #[.slice A l.length c, .slice A' l'.length c'] w fun e w' =>
      (Nat.gcd (val l') (val l) ≠ 1 ∧ Nought w e w') ∨ (Nat.gcd (val l') (val l) = 1 ∧ ∃ x, x < val l' ∧ val l * x % val l' = 1 ∧ Left w x e w') := by
  obtain ⟨z, hz, hz0⟩ : ∃ z : Int, cmpL (trl l') (trl [1]) = z ∧ 0 < z := ⟨_, rfl, by
    rw [trl_one, cmp_one (trl_dg hd') (trl_nrm l'), trl_val, if_neg (by omega), if_pos h0]; omega⟩
  have hz0' : ¬ z ≤ 0 := by omega
  go_enter Try.func19, Try.ntmps19
  go_wp2_with fail
  have hT : Row .u32 31 (w.alloc (.cells #[.int .u32 1] 31)) w.heap.size [1] := Holds.fresh _ _ _
  have hbT : Below w.heap.size w (w.alloc (.cells #[.int .u32 1] 31)) := (Below.refl _ _).alloc (Nat.le_refl _) _
  have hra := rd_next hr (Nat.le_refl _) hbT
  have hrm := rd_next hr' (Nat.le_refl _) hbT
  have hr1 := (rd_whole (c := 1) hT (by simp) (by omega)).more (Holds.lt hT)
  clear hT hr hr'
  generalize w.alloc (.cells #[.int .u32 1] 31) = w2 at *
  refine (cmp_any w2 _ _ A' _ c' 1 l' [1] hrm hr1 z hz).mono ?_
  rintro e w3 ⟨rfl, q, rfl⟩
  have hbT := below_drewN hbT q
  have hra := rd_drawn hra q
  have hrm := rd_drawn hrm q
  have hr1 := rd_drawn hr1 q
  generalize w2.drewN q = w3 at *
  have H0 := Lib.hid (show val l' ≠ 0 by omega)
  go_wp2_with fail
  refine (left_yes w3 _ _ A A' c c' l l' hra hrm (Nat.le_refl _) (Nat.le_refl _) hd hd' (by omega) (by omega) H0.out).mono ?_
  rintro e w4 ⟨Ay, cy, y, rfl, hny, hfy, hb4⟩
  have hry := hfy.rd
  have hrm := rd_next hrm (Nat.le_refl _) hb4
  have hr1 := rd_next hr1 (Nat.le_refl _) hb4
  have hbel := hbT.trans (hb4.mono hbT.size)
  clear hra hfy hb4 hbT
  have Hml := Lib.hid (show ∀ (p : List Nat) (v : Nat), NumIs p v → v ≤ val l' → p.length ≤ 1000 from fun _ _ h1 h2 => num_len' h1 (Nat.lt_of_lt_of_le (Nat.lt_of_le_of_lt h2 (val_lt hd')) (pw_mono hs')))
  have Hst := Lib.hid (Eu.start (a := val l) h0)
  have Hny := Lib.hid hny
  clear hny
  go_wp2_with fail
  go_loopw [7, 8, 10, 11, 12] (fun sx sy su sv sb wr => ∃ (Ax : Option Addr) (cx : Nat) (x : List Nat) (Ay : Option Addr) (cy : Nat) (y : List Nat) (Au : Option Addr) (cu : Nat) (u : List Nat) (Av : Option Addr) (cv : Nat) (v : List Nat) (b : Bool) (X Y U V : Nat),
      sx = .slice Ax x.length cx ∧ sy = .slice Ay y.length cy ∧ su = .slice Au u.length cu ∧ sv = .slice Av v.length cv ∧ sb = .bool b ∧ Hid (NumIs x X) ∧ Hid (NumIs y Y) ∧ Hid (NumIs u U) ∧ Hid (NumIs v V) ∧
      Rd .u32 wr wr.heap.size Ax cx x ∧ Rd .u32 wr wr.heap.size Ay cy y ∧ Rd .u32 wr wr.heap.size Au cu u ∧ Rd .u32 wr wr.heap.size Av cv v ∧ Hid (Eu (val l) (val l') X Y U V b) ∧ Below w4.heap.size w4 wr)
    (fun _ sy _ _ _ wr => readNum sy wr)
  case atStart => exact ⟨A', c', l', Ay, cy, y, none, 0, [], some ⟨w.heap.size, 0, none⟩, 1, [1], false, _, _, _, _, rfl, rfl, rfl, rfl, rfl, ⟨hd', hn', rfl⟩, Hny.out, num_nil, num_unit, hrm, hry, Rd.nil_ _ _ _, hr1, Hst.out, Below.refl _ _⟩
  case round =>
    obtain ⟨Ax, cx, x, Ay, cy, y, Au, cu, u, Av, cv, v, b, X, Y, U, V, rfl, rfl, rfl, rfl, rfl, Hx, Hy, Hu, Hv, hrx, hry, hru, hrv, Heu, hbw⟩ := hrel
    have hr1w := rd_next hr1 (Nat.le_refl _) hbw
    have hrmw := rd_next hrm (Nat.le_refl _) hbw
    have hbw4 := hbel.trans (hbw.mono hbel.size)
    have hxl : x.length ≤ 1000 := Hml.out _ _ Hx.out Heu.out.xm
    have hul : u.length ≤ 1000 := Hml.out _ _ Hu.out Heu.out.um
    have hvl : v.length ≤ 1000 := Hml.out _ _ Hv.out Heu.out.vm
    rcases Nat.eq_zero_or_pos y.length with hy0 | hy0
    · obtain rfl := List.eq_nil_of_length_eq_zero hy0
      obtain rfl : Y = 0 := Hy.out.2.2.symm
      have Hg := Lib.hid Heu.out.done
      by_cases hX : X = 1
      · subst hX
        have hz : cmpL (trl x) (trl [1]) = 0 := by
          rw [trl_one, trl_id Hx.out.2.1, cmp_one Hx.out.1 Hx.out.2.1, Hx.out.2.2]
          simp
        have Hz := Lib.hid hz
        have Hinv := Lib.hid (Eu.inv h0 Heu.out)
        clear hz
        rcases b with _ | _
        · go_wp2_with fail
          refine (cmp_any wr _ _ Ax _ cx 1 x [1] hrx hr1w 0 Hz.out).mono ?_
          rintro e w5 ⟨rfl, q, rfl⟩
          have hbw4 := below_drewN hbw4 q
          have hru := rd_drawn hru q
          have hrmw := rd_drawn hrmw q
          generalize wr.drewN q = w5 at *
          go_wp2_with fail
          refine (subm_yes w5 none Au A' 0 cu c' [] u l' (Rd.nil_ _ _ _) hru hrmw (fun x hx => by cases hx) Hu.out.1 hd' (by simp) hul hs' H0.out).mono ?_
          rintro e w6 ⟨A6, c6, r6, rfl, hn6, hf6, hb6⟩
          go_wp2_with fail
          go_ret2
          refine .inr ⟨Hg.out.symm, _, Nat.mod_lt _ (by omega), Hinv.out.2 (by first | rfl | trivial), A6, c6, r6, rfl, ?_, hf6.more hbw4.size, hbw4.trans (hb6.mono hbw4.size)⟩
          rw [Hu.out.2.2] at hn6
          exact hn6
        · go_wp2_with fail
          refine (cmp_any wr _ _ Ax _ cx 1 x [1] hrx hr1w 0 Hz.out).mono ?_
          rintro e w5 ⟨rfl, q, rfl⟩
          have hbw4 := below_drewN hbw4 q
          have hru := rd_drawn hru q
          have hrmw := rd_drawn hrmw q
          generalize wr.drewN q = w5 at *
          go_wp2_with fail
          refine (left_yes w5 _ _ Au A' cu c' u l' hru hrmw (Nat.le_refl _) (Nat.le_refl _) Hu.out.1 hd' (by omega) (by omega) H0.out).mono ?_
          rintro e w6 ⟨A6, c6, r6, rfl, hn6, hf6, hb6⟩
          go_wp2_with fail
          go_ret2
          refine .inr ⟨Hg.out.symm, _, Nat.mod_lt _ (by omega), Hinv.out.1 (by first | rfl | trivial), A6, c6, r6, rfl, ?_, hf6.more hbw4.size, hbw4.trans (hb6.mono hbw4.size)⟩
          rw [Hu.out.2.2] at hn6
          exact hn6
      · obtain ⟨z2, hz2, hz3⟩ : ∃ z : Int, cmpL (trl x) (trl [1]) = z ∧ z ≠ 0 := ⟨_, rfl, by
          rw [trl_one, trl_id Hx.out.2.1, cmp_one Hx.out.1 Hx.out.2.1, Hx.out.2.2]
          split
          · omega
          · rw [if_pos (by omega)]; omega⟩
        have hz4 : (z2 != 0) = true := by simpa using hz3
        have Hz2 := Lib.hid hz2
        clear hz2 hz3
        go_wp2_with fail
        refine (cmp_any wr _ _ Ax _ cx 1 x [1] hrx hr1w z2 Hz2.out).mono ?_
        rintro e w5 ⟨rfl, q, rfl⟩
        go_wp2_with fail
        go_ret2
        exact .inl ⟨by rw [← Hg.out]; exact hX, rfl, below_drewN hbw4 q⟩
    · have hY : 0 < Y := by
        have h1 := nrm_low Hy.out.2.1 hy0
        rw [Hy.out.2.2] at h1
        have := pw_pos (y.length - 1)
        omega
      have hyl : y.length ≤ 1000 := Hml.out _ _ Hy.out (Nat.le_trans (Nat.le_of_lt Heu.out.yx) Heu.out.xm)
      have Hnx := Lib.hid (Heu.out.next hY)
      have Hry := Lib.hid (readNum_eq hry)
      have HY0 := Lib.hid (show val y ≠ 0 by rw [Hy.out.2.2]; omega)
      have hyp : ((y.length : Int) == 0) = false := by rw [beq_eq_false_iff_ne]; omega
      go_wp2_with fail
      refine (div_any wr _ _ Ax Ay cx cy x y hrx hry (Nat.le_refl _) (Nat.le_refl _) Hx.out.1 Hy.out.1 (by omega) (by omega) HY0.out).mono ?_
      rintro e w5 ⟨Aq, cq, q, Ar, cr, r, rfl, hnq, hnr, hfq, hfr, hb5⟩
      have Hnq := Lib.hid (show NumIs q (X / Y) by rw [Hx.out.2.2, Hy.out.2.2] at hnq; exact hnq)
      have Hnr := Lib.hid (show NumIs r (X % Y) by rw [Hx.out.2.2, Hy.out.2.2] at hnr; exact hnr)
      have hql : q.length ≤ 1000 := Hml.out _ _ Hnq.out (Nat.le_trans (Nat.div_le_self _ _) Heu.out.xm)
      have hrq := hfq.rd
      have hrr := hfr.rd
      have hry := rd_next hry (Nat.le_refl _) hb5
      have hru := rd_next hru (Nat.le_refl _) hb5
      have hrv := rd_next hrv (Nat.le_refl _) hb5
      have hbw := hbw.trans (hb5.mono hbw.size)
      clear hnq hnr hfq hfr hb5 hrx hr1w hrmw hbw4
      go_wp2_with fail
      refine (mul_any w5 _ _ Aq Av cq cv q v hrq hrv (Nat.le_refl _) (Nat.le_refl _) Hnq.out.1 Hv.out.1 (by omega) (by omega)).mono ?_
      rintro e w6 ⟨A6, c6, p6, rfl, hn6, hf6, hb6⟩
      have Hn6 := Lib.hid (show NumIs p6 (X / Y * V) by rw [Hnq.out.2.2, Hv.out.2.2] at hn6; exact hn6)
      have hl6 : p6.length ≤ 1000 := Hml.out _ _ Hn6.out (Nat.le_trans (Nat.le_add_left _ _) Hnx.out.vm)
      have hr6 := hf6.rd
      have hry := rd_next hry (Nat.le_refl _) hb6
      have hru := rd_next hru (Nat.le_refl _) hb6
      have hrv := rd_next hrv (Nat.le_refl _) hb6
      have hrr := rd_next hrr (Nat.le_refl _) hb6
      have hbw := hbw.trans (hb6.mono hbw.size)
      clear hn6 hf6 hb6 hrq
      go_wp2_with fail
      refine (add_any w6 _ _ Au A6 cu c6 u p6 hru hr6 (Nat.le_refl _) (Nat.le_refl _) Hu.out.1 Hn6.out.1 (by omega) (by omega)).mono ?_
      rintro e w7 ⟨A7, c7, p7, rfl, hn7, hf7, hb7⟩
      have Hn7 := Lib.hid (show NumIs p7 (U + X / Y * V) by rw [Hu.out.2.2, Hn6.out.2.2] at hn7; exact hn7)
      have hr7 := hf7.rd
      have hry := rd_next hry (Nat.le_refl _) hb7
      have hrv := rd_next hrv (Nat.le_refl _) hb7
      have hrr := rd_next hrr (Nat.le_refl _) hb7
      have hbw := hbw.trans (hb7.mono hbw.size)
      clear hn7 hf7 hb7 hru hr6
      have hlt : readNum (.slice Ar r.length cr) w7 < readNum (.slice Ay y.length cy) wr := by
        rw [Hry.out, readNum_eq hrr, Hnr.out.2.2, Hy.out.2.2]
        exact Nat.mod_lt _ hY
      go_wp2_with fail
      exact ⟨⟨Ay, cy, y, Ar, cr, r, Av, cv, v, A7, c7, p7, !b, Y, X % Y, V, U + X / Y * V, rfl, rfl, rfl, rfl, rfl, Hy.out, Hnr.out, Hv.out, Hn7.out, hry, hrr, hrv, hr7, Hnx.out, hbw⟩, hlt⟩
end Go.Proofs.Ytphfgchfphdcaaa
