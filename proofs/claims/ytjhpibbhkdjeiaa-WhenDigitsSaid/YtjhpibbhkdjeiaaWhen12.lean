/-
  A thing's time, by the program.
-/
import Derived.Test.YtjhpibbhkdjeiaaWhen11
namespace Go.Proofs.Ytjhpibbhkdjeiaa
open Go.RowKit
set_option linter.unusedVariables false
attribute [local go_sem ↓] Go.wp_at_zero Go.wp_at_succ

def GetPost (w : World) (tag : Nat) (b : List Nat) (nk : Nat) (e : Ending) (w' : World) : Prop :=
  ((∃ t, IsTime tag b nk t ∧ e = .returned (.tuple #[.int .i64 t, .bool true])) ∨ ((∀ t, ¬ IsTime tag b nk t) ∧ e = .returned (.tuple #[.int .i64 0, .bool false]))) ∧ Below w.heap.size w w'

theorem get_none {w w' : World} {tag : Nat} {b : List Nat} {nk : Nat} (h : ∀ t, ¬ IsTime tag b nk t) (hb : Below w.heap.size w w') : GetPost w tag b nk (.returned (.tuple #[.int .i64 0, .bool false])) w' := ⟨.inr ⟨h, rfl⟩, hb⟩
theorem get_some {w w' : World} {tag : Nat} {b : List Nat} {nk : Nat} {t : Int} (h : IsTime tag b nk t) (hb : Below w.heap.size w w') : GetPost w tag b nk (.returned (.tuple #[.int .i64 t, .bool true])) w' := ⟨.inl ⟨t, h, rfl⟩, hb⟩

theorem ret2_ib {a b : Int} (h : a = b) : Ending.returned (.tuple #[.int .i64 a, .bool true]) = .returned (.tuple #[.int .i64 b, .bool true]) := by rw [h]

theorem quiet_first {P : Program} {f : FuncId} {args : Array Value} {w : World} {n : Nat} {v : Value} (h : ∀ W : World, Calls P f args W fun e w' => e = .returned v ∧ W = w') : Calls P f args (w.drewN n) fun e w' => e = .returned v ∧ ∃ m, w' = w.drewN m :=
  (h _).mono fun _ _ hh => ⟨hh.1, n, hh.2.symm⟩
def dayT (y m d : Int) : Int := if y = 0 ∧ m < 3 then -365 + (153*(m+9)+2)/5 + d - 1 - 719468 else dayI y m d
theorem dayT_pos {y m d : Int} (h : 1 ≤ y) : dayT y m d = dayI y m d := by unfold dayT; rw [if_neg (by omega)]
theorem dayT_range {y m d : Int} (hy0 : 0 ≤ y) (hy : y ≤ 10000) (hm0 : 0 ≤ m) (hm : m ≤ 99) (hd0 : 0 ≤ d) (hd : d ≤ 99) : -800000 ≤ dayT y m d ∧ dayT y m d ≤ 4000000 ∧ (y = 0 → dayT y m d ≤ -600000) := by
  unfold dayT dayI
  by_cases h0 : y = 0 ∧ m < 3
  · rw [if_pos h0]; omega
  · rw [if_neg h0]
    by_cases h3 : m < 3
    · simp only [h3, if_true]
      omega
    · simp only [h3, if_false]
      omega
set_option maxRecDepth 100000 in
theorem days_all (w : World) (y m d : Int) (hy0 : 0 ≤ y) (hy : y ≤ 10000) (hm0 : 0 ≤ m) (hm : m ≤ 99) (hd0 : 0 ≤ d) (hd : d ≤ 99) (v : Int) (hv : dayT y m d = v) :
    Calls Try.prog 22 #[.int .i64 y, .int .i64 m, .int .i64 d] w fun e w' => e = .returned (.int .i64 v) ∧ w = w' := by
  by_cases h1 : 1 ≤ y
  · exact days_any w y m d h1 (by omega) hm0 (by omega) hd0 (by omega) v (by rw [← dayT_pos h1]; exact hv)
  · obtain rfl : y = 0 := by omega
    have HV := Lib.hid hv
    clear hv h1
    by_cases hm3 : m < 3
    · go_enter Try.func22, Try.ntmps22
      go_wp2_with fail
      go_ret
      refine ⟨ret_int ?_, rfl⟩
      rw [← HV.out]; unfold dayT
      rw [if_pos ⟨rfl, hm3⟩]
    · go_enter Try.func22, Try.ntmps22
      go_wp2_with fail
      go_ret
      refine ⟨ret_int ?_, rfl⟩
      rw [← HV.out]; unfold dayT dayI
      have hm4 : ¬ m < 3 := by omega
      rw [if_neg (by omega)]
      simp only [hm4, if_false]
      omega

theorem T23a {b : List Nat} {nk x0 x1 x2 x3 x4 x5 : Nat} {D T : Int} (p0 : x0 = pv b 0) (p1 : x1 = pv b 1) (p2 : x2 = pv b 2) (p3 : x3 = pv b 3) (p4 : x4 = pv b 4) (p5 : x5 = pv b 5) (hD : D = dayT (1900 + (x0 : Int) + 100) x1 x2) (hT : T = D * 86400 + ((x3 : Int) * 3600 + (x4 : Int) * 60 + (x5 : Int))) (h50 : x0 < 50) (t : Int) (h : IsTime 23 b nk t) : T = t := by
  obtain ⟨_, _, ⟨_, _, h2⟩ | ⟨h2, _, _⟩⟩ := time_says h
  · rw [← p0, ← p1, ← p2, ← p3, ← p4, ← p5] at h2
    rw [hT, hD, ← h2, dayT_pos (by omega)]
    unfold sayI year2
    rw [if_pos h50, show ((x0 + 2000 : Nat) : Int) = 1900 + (x0 : Int) + 100 by omega]
  · cases h2
theorem T23b {b : List Nat} {nk x0 x1 x2 x3 x4 x5 : Nat} {D T : Int} (p0 : x0 = pv b 0) (p1 : x1 = pv b 1) (p2 : x2 = pv b 2) (p3 : x3 = pv b 3) (p4 : x4 = pv b 4) (p5 : x5 = pv b 5) (hD : D = dayT (1900 + (x0 : Int)) x1 x2) (hT : T = D * 86400 + ((x3 : Int) * 3600 + (x4 : Int) * 60 + (x5 : Int))) (h50 : ¬ x0 < 50) (t : Int) (h : IsTime 23 b nk t) : T = t := by
  obtain ⟨_, _, ⟨_, _, h2⟩ | ⟨h2, _, _⟩⟩ := time_says h
  · rw [← p0, ← p1, ← p2, ← p3, ← p4, ← p5] at h2
    rw [hT, hD, ← h2, dayT_pos (by omega)]
    unfold sayI year2
    rw [if_neg h50, show ((x0 + 1900 : Nat) : Int) = 1900 + (x0 : Int) by omega]
  · cases h2
theorem T24 {b : List Nat} {nk x0 x1 x2 x3 x4 x5 x6 : Nat} {D T : Int} (p0 : x0 = pv b 0) (p1 : x1 = pv b 1) (p2 : x2 = pv b 2) (p3 : x3 = pv b 3) (p4 : x4 = pv b 4) (p5 : x5 = pv b 5) (p6 : x6 = pv b 6) (hD : D = dayT (100 * (x0 : Int) + (x1 : Int)) x2 x3) (hT : T = D * 86400 + ((x4 : Int) * 3600 + (x5 : Int) * 60 + (x6 : Int))) (t : Int) (h : IsTime 24 b nk t) : T = t := by
  obtain ⟨_, _, ⟨h2, _, _⟩ | ⟨_, _, h3, h2⟩⟩ := time_says h
  · cases h2
  · rw [← p0, ← p1, ← p2, ← p3, ← p4, ← p5, ← p6] at h2
    rw [← p0, ← p1] at h3
    rw [hT, hD, ← h2, dayT_pos (by omega)]
    unfold sayI
    rw [show ((100 * x0 + x1 : Nat) : Int) = 100 * (x0 : Int) + (x1 : Int) by omega]

theorem same_no (w : World) (B B' : Nat) (A A' K : Option Addr) (c c' n n' k kc ta tb : Nat) (l l' : List Nat) (hn : l.length = n) (hn' : l'.length = n') (hr : Rd .u8 w B A c l) (hr' : Rd .u8 w B' A' c' l') (hB : B ≤ w.heap.size) (hB' : B' ≤ w.heap.size) (ho : Oct8 l) (ho' : Oct8 l') (hkc : k ≤ 1000000)
    (hne : ¬ (tb = ta ∧ l' = l ∧ k = 0)) :
    Calls Try.prog 23 #[.agg #[.int .u8 ta, .slice A n c, .slice none 0 0], .agg #[.int .u8 tb, .slice A' n' c', .slice K k kc]] w fun e w' => e = .returned (.bool false) ∧ Below w.heap.size w w' := by
  by_cases h1 : ta = tb
  · subst h1
    by_cases h2 : l = l'
    · subst h2
      obtain rfl : n' = n := by omega
      exact same_kids w B B' A A' K c c' n' k kc ta l hn hr hr' hB hB' ho (by have : k ≠ 0 := fun e => hne ⟨rfl, rfl, e⟩; omega) hkc
    · exact same_body w B B' A A' K c c' n n' k kc ta l l' hn hn' hr hr' hB hB' ho ho' h2
  · exact same_tag w A A' K c c' n n' k kc ta tb h1

set_option maxRecDepth 100000 in
set_option maxHeartbeats 4000000 in
theorem get_any (w : World) (tag : Nat) (B : Nat) (A : Option Addr) (c n : Nat) (b : List Nat) (hn : b.length = n) (hr : Rd .u8 w B A c b) (hB : B ≤ w.heap.size) (ho : Oct8 b) (ht : tag < 256) (K : Option Addr) (nk kc : Nat) (hnk : nk ≤ 1000000) :
    Calls Try.prog 14 #[.agg #[.int .u8 tag, .slice A n c, .slice K nk kc]] w (GetPost w tag b nk) := by
  have hrb : Rd .u8 (w.alloc (.cells #[.int .u8 tag, .slice A n c, .slice K nk kc] 25)) B A c b := hr.alloc hB _
  have hbel : Below w.heap.size w (w.alloc (.cells #[.int .u8 tag, .slice A n c, .slice K nk kc] 25)) := (Below.refl _ _).alloc (Nat.le_refl _) _
  have hbox := Holds.fresh w 25 #[.int .u8 tag, .slice A n c, .slice K nk kc]
  have HB := Lib.hid hn
  clear hn hr
  go_enter Try.func14, Try.ntmps14
  go_wp2_with fail
  refine (pairs_any _ B A c n b HB.out hrb (by simp; omega) ho).mono ?_
  rintro e w1 hp
  unfold PairsPost at hp
  rcases hp with ⟨hg, A1, c1, rfl, hr1, hb1⟩ | ⟨hg, rfl, hb1⟩
  case inr =>
    have HG := Lib.hid (fun t (h : IsTime tag b nk t) => hg (time_says h).1)
    have hbel1 := hbel.trans (hb1.mono (by simp))
    clear hg
    go_wp2_with fail
    go_ret2
    exact get_none HG.out hbel1
  case inl =>
  have hbox1 := hbox.under hb1 (by simp)
  have hbel1 := hbel.trans (hb1.mono (by simp))
  have hsz1 : w.heap.size + 1 ≤ w1.heap.size := by have := hb1.size; simpa using this
  have HRB := Lib.hid (hrb.under (hb1.mono (by simp; omega)))
  clear hb1 hbox hbel
  have hc1 := hbox1.cell
  obtain ⟨m, Hm⟩ : ∃ m, Hid (m = (b.length - 1) / 2) := ⟨_, rfl⟩
  rw [← Hm.out] at hr1 ⊢
  have hm7 : m ≤ 7 := by have := Hm.out; have := hg.len; omega
  have HG := Lib.hid hg
  have HR := Lib.hid hr1
  have HBX := Lib.hid hbox1
  clear hg hr1 hbox1
  by_cases h23 : tag = 23 ∧ m = 6
  · obtain ⟨rfl, rfl⟩ := h23
    obtain ⟨bl, off, x0, rfl, _, hx0, Hx0⟩ := HR.out.at_ (i := 0) (by rw [pvs_length]; omega)
    obtain ⟨_, _, x1, e0, _, hx1, Hx1⟩ := HR.out.at_ (i := 1) (by rw [pvs_length]; omega)
    obtain ⟨rfl, rfl⟩ : bl = _ ∧ off = _ := by injection e0 with e0; injection e0 with e1 e2; exact ⟨e1, e2⟩
    clear e0
    obtain ⟨_, _, x2, e0, _, hx2, Hx2⟩ := HR.out.at_ (i := 2) (by rw [pvs_length]; omega)
    obtain ⟨rfl, rfl⟩ : bl = _ ∧ off = _ := by injection e0 with e0; injection e0 with e1 e2; exact ⟨e1, e2⟩
    clear e0
    obtain ⟨_, _, x3, e0, _, hx3, Hx3⟩ := HR.out.at_ (i := 3) (by rw [pvs_length]; omega)
    obtain ⟨rfl, rfl⟩ : bl = _ ∧ off = _ := by injection e0 with e0; injection e0 with e1 e2; exact ⟨e1, e2⟩
    clear e0
    obtain ⟨_, _, x4, e0, _, hx4, Hx4⟩ := HR.out.at_ (i := 4) (by rw [pvs_length]; omega)
    obtain ⟨rfl, rfl⟩ : bl = _ ∧ off = _ := by injection e0 with e0; injection e0 with e1 e2; exact ⟨e1, e2⟩
    clear e0
    obtain ⟨_, _, x5, e0, _, hx5, Hx5⟩ := HR.out.at_ (i := 5) (by rw [pvs_length]; omega)
    obtain ⟨rfl, rfl⟩ : bl = _ ∧ off = _ := by injection e0 with e0; injection e0 with e1 e2; exact ⟨e1, e2⟩
    clear e0
    have Hp0 : Hid (x0 = pv b 0) := Lib.hid (Hx0.out.trans (pvs_at b (by omega)))
    have hb0 : x0 ≤ 99 := by rw [Hp0.out]; exact pv_le HG.out (by have := Hm.out; omega)
    clear Hx0
    have Hp1 : Hid (x1 = pv b 1) := Lib.hid (Hx1.out.trans (pvs_at b (by omega)))
    have hb1 : x1 ≤ 99 := by rw [Hp1.out]; exact pv_le HG.out (by have := Hm.out; omega)
    clear Hx1
    have Hp2 : Hid (x2 = pv b 2) := Lib.hid (Hx2.out.trans (pvs_at b (by omega)))
    have hb2 : x2 ≤ 99 := by rw [Hp2.out]; exact pv_le HG.out (by have := Hm.out; omega)
    clear Hx2
    have Hp3 : Hid (x3 = pv b 3) := Lib.hid (Hx3.out.trans (pvs_at b (by omega)))
    have hb3 : x3 ≤ 99 := by rw [Hp3.out]; exact pv_le HG.out (by have := Hm.out; omega)
    clear Hx3
    have Hp4 : Hid (x4 = pv b 4) := Lib.hid (Hx4.out.trans (pvs_at b (by omega)))
    have hb4 : x4 ≤ 99 := by rw [Hp4.out]; exact pv_le HG.out (by have := Hm.out; omega)
    clear Hx4
    have Hp5 : Hid (x5 = pv b 5) := Lib.hid (Hx5.out.trans (pvs_at b (by omega)))
    have hb5 : x5 ≤ 99 := by rw [Hp5.out]; exact pv_le HG.out (by have := Hm.out; omega)
    clear Hx5
    have hx0 : w1.cell? ⟨bl, off, none⟩ = some (.int .i64 (x0 : Int)) := hx0
    by_cases h50 : x0 < 50
    · have h50' : decide ((x0 : Int) < 50) = true := decide_eq_true (by omega)
      obtain ⟨D, HD⟩ : ∃ D, Hid (D = dayT (1900 + (x0 : Int) + 100) (x1 : Int) (x2 : Int)) := ⟨_, rfl⟩
      have hDr := dayT_range (y := 1900 + (x0 : Int) + 100) (m := (x1 : Int)) (d := (x2 : Int)) (by omega) (by omega) (by omega) (by omega) (by omega) (by omega)
      rw [← HD.out] at hDr
      have hD1 := hDr.1
      have hD2 := hDr.2.1
      have HD0 := Lib.hid hDr.2.2
      clear hDr
      obtain ⟨T, HT⟩ : ∃ T : Int, Hid (T = D * 86400 + ((x3 : Int) * 3600 + (x4 : Int) * 60 + (x5 : Int))) := ⟨_, rfl⟩
      have HS : Hid (∀ t, IsTime 23 b nk t → T = t) := Lib.hid (by
        exact T23a Hp0.out Hp1.out Hp2.out Hp3.out Hp4.out Hp5.out HD.out HT.out h50)
      go_wp2_with fail
      have hw1 : IntKind.i64.wrap (D * 86400) = D * 86400 := IntWalk.i64_in _ (by omega)
      have hw2 : IntKind.i64.wrap ((x3 : Int) * 3600) = (x3 : Int) * 3600 := IntWalk.i64_in _ (by omega)
      have hw3 : IntKind.i64.wrap ((x4 : Int) * 60) = (x4 : Int) * 60 := IntWalk.i64_in _ (by omega)
      have hw4 : IntKind.i64.wrap ((x3 : Int) * 3600 + (x4 : Int) * 60) = (x3 : Int) * 3600 + (x4 : Int) * 60 := IntWalk.i64_in _ (by omega)
      have hw5 : IntKind.i64.wrap ((x3 : Int) * 3600 + (x4 : Int) * 60 + (x5 : Int)) = (x3 : Int) * 3600 + (x4 : Int) * 60 + (x5 : Int) := IntWalk.i64_in _ (by omega)
      have hw6 : IntKind.i64.wrap (D * 86400 + ((x3 : Int) * 3600 + (x4 : Int) * 60 + (x5 : Int))) = D * 86400 + ((x3 : Int) * 3600 + (x4 : Int) * 60 + (x5 : Int)) := IntWalk.i64_in _ (by omega)
      have HDY : ∀ W, Calls Try.prog 22 #[.int .i64 (1900 + (x0 : Int) + 100), .int .i64 (x1 : Int), .int .i64 (x2 : Int)] W fun e w' => e = .returned (.int .i64 D) ∧ W = w' := fun W => days_all W _ _ _ (by omega) (by omega) (by omega) (by omega) (by omega) (by omega) D HD.out.symm
      go_quiet ((go_at_call 22; exact quiet_first (fun W => HDY W)))
      rename_i nq
      clear hw1 hw2 hw3 hw4 hw5 hw6
      go_wp2_with fail
      rw [← HT.out]
      have hboxW := HBX.out.drewN nq
      have hrbW : Rd .u8 (w1.drewN nq) B A c b := HRB.out.drewN nq
      have hbelW := below_drewN hbel1 nq
      have hszW : w.heap.size + 1 ≤ (w1.drewN nq).heap.size := hsz1
      generalize w1.drewN nq = W at *
      have hcW := hboxW.cell
      have hboxD := Lib.hid hboxW.drew
      have hrbD : Hid (Rd .u8 W.drew B A c b) := Lib.hid hrbW
      have hbelD := Lib.hid hbelW.drew
      by_cases hin : -631152000 ≤ T ∧ T ≤ 253402300799
      · obtain ⟨h0, h1⟩ := hin
        obtain ⟨x, hx⟩ := date_is T h0 h1
        have HXX := Lib.hid hx
        clear hx
        obtain ⟨tg, Htg⟩ : ∃ tg, Hid (tagOf x = tg) := ⟨_, rfl⟩
        obtain ⟨N, HN⟩ : ∃ N, Hid ((bodyOf x).length = N) := ⟨_, rfl⟩
        by_cases hI : 23 = tagOf x ∧ b = bodyOf x ∧ nk = 0
        · have HI : Hid (IsTime 23 b nk T) := Lib.hid ⟨x, h0, h1, HXX.out, hI.1, hI.2.1, hI.2.2⟩
          obtain ⟨hI1, hI2, rfl⟩ := hI
          obtain rfl : tg = 23 := Htg.out.symm.trans hI1.symm
          obtain rfl : n = N := HB.out.symm.trans ((congrArg List.length hI2).trans HN.out)
          have Hb := Lib.hid hI2
          clear hI1 hI2
          go_region_law (first
            | (go_simp; go_at_call 10; refine (is_yes _ T h0 h1).mono ?_; rintro e w' ⟨rfl, rfl⟩; go_simp)
            | (go_simp; go_at_call 8; refine (time_yes _ T h0 h1 x HXX.out _ _ Htg.out HN.out).mono ?_; rintro e w2 ⟨A2, c2, rfl, hr2, hb2⟩; rw [← Hb.out] at hr2; have hbox2 := hboxD.out.under hb2 (by simp; omega); have hrb2 := (hrbD.out.under (hb2.mono (by simp; omega)) : Rd .u8 w2 B A c b); have hcw2 := hbox2.cell; have hbel2 := hbelD.out.trans (hb2.mono (by simp; omega)); have hsz2 := hb2.size; clear hb2 hbox2; go_simp)
            | (go_simp; go_at_call 23; refine (same_all _ _ B A2 A K c2 c n kc 23 b HB.out hr2 hrb2 (by simp) (by simp at hsz2; omega) ho).mono ?_; rintro e w3 ⟨rfl, hb3⟩; go_simp))
          all_goals
            go_wp2_with fail
            go_ret2
            exact get_some HI.out (hbel2.trans (hb3.mono (by simp at hsz2; omega)))
        · have HI : Hid (∀ t, ¬ IsTime 23 b nk t) := Lib.hid (fun t h => by
            obtain rfl := HS.out t h
            obtain ⟨z, _, _, hz, a1, a2, a3⟩ := h
            obtain rfl := IsDate.same HXX.out hz
            exact hI ⟨a1, a2, a3⟩)
          have HNI := Lib.hid (show ¬ (23 = tg ∧ b = bodyOf x ∧ nk = 0) by rw [← Htg.out]; exact hI)
          clear hI
          go_region_law (first
            | (go_simp; go_at_call 10; refine (is_yes _ T h0 h1).mono ?_; rintro e w' ⟨rfl, rfl⟩; go_simp)
            | (go_simp; go_at_call 8; refine (time_yes _ T h0 h1 x HXX.out _ _ Htg.out HN.out).mono ?_; rintro e w2 ⟨A2, c2, rfl, hr2, hb2⟩; have hbox2 := hboxD.out.under hb2 (by simp; omega); have hrb2 := (hrbD.out.under (hb2.mono (by simp; omega)) : Rd .u8 w2 B A c b); have hcw2 := hbox2.cell; have hbel2 := hbelD.out.trans (hb2.mono (by simp; omega)); have hsz2 := hb2.size; clear hb2 hbox2; go_simp)
            | (go_simp; go_at_call 23; refine (same_no _ _ B A2 A K c2 c N n nk kc tg 23 (bodyOf x) b HN.out HB.out hr2 hrb2 (by simp) (by simp at hsz2; omega) (body_oct x) ho hnk HNI.out).mono ?_; rintro e w3 ⟨rfl, hb3⟩; go_simp))
          all_goals
            go_wp2_with fail
            go_ret2
            exact get_none HI.out (hbel2.trans (hb3.mono (by simp at hsz2; omega)))
      · have HI : Hid (∀ t, ¬ IsTime 23 b nk t) := Lib.hid (fun t h => by
          obtain rfl := HS.out t h
          obtain ⟨z, h0, h1, _⟩ := h
          exact hin ⟨h0, h1⟩)
        have hout : T < -631152000 ∨ 253402300799 < T := by omega
        clear hin
        go_big_quiet ((go_at_call 10; exact quiet_first (fun W => is_no W T hout)))
        go_wp2_with fail
        go_ret2
        exact get_none HI.out (below_drewN hbelW _)
    · have h50' : decide ((x0 : Int) < 50) = false := decide_eq_false (by omega)
      obtain ⟨D, HD⟩ : ∃ D, Hid (D = dayT (1900 + (x0 : Int)) (x1 : Int) (x2 : Int)) := ⟨_, rfl⟩
      have hDr := dayT_range (y := 1900 + (x0 : Int)) (m := (x1 : Int)) (d := (x2 : Int)) (by omega) (by omega) (by omega) (by omega) (by omega) (by omega)
      rw [← HD.out] at hDr
      have hD1 := hDr.1
      have hD2 := hDr.2.1
      have HD0 := Lib.hid hDr.2.2
      clear hDr
      obtain ⟨T, HT⟩ : ∃ T : Int, Hid (T = D * 86400 + ((x3 : Int) * 3600 + (x4 : Int) * 60 + (x5 : Int))) := ⟨_, rfl⟩
      have HS : Hid (∀ t, IsTime 23 b nk t → T = t) := Lib.hid (by
        exact T23b Hp0.out Hp1.out Hp2.out Hp3.out Hp4.out Hp5.out HD.out HT.out h50)
      go_wp2_with fail
      have hw1 : IntKind.i64.wrap (D * 86400) = D * 86400 := IntWalk.i64_in _ (by omega)
      have hw2 : IntKind.i64.wrap ((x3 : Int) * 3600) = (x3 : Int) * 3600 := IntWalk.i64_in _ (by omega)
      have hw3 : IntKind.i64.wrap ((x4 : Int) * 60) = (x4 : Int) * 60 := IntWalk.i64_in _ (by omega)
      have hw4 : IntKind.i64.wrap ((x3 : Int) * 3600 + (x4 : Int) * 60) = (x3 : Int) * 3600 + (x4 : Int) * 60 := IntWalk.i64_in _ (by omega)
      have hw5 : IntKind.i64.wrap ((x3 : Int) * 3600 + (x4 : Int) * 60 + (x5 : Int)) = (x3 : Int) * 3600 + (x4 : Int) * 60 + (x5 : Int) := IntWalk.i64_in _ (by omega)
      have hw6 : IntKind.i64.wrap (D * 86400 + ((x3 : Int) * 3600 + (x4 : Int) * 60 + (x5 : Int))) = D * 86400 + ((x3 : Int) * 3600 + (x4 : Int) * 60 + (x5 : Int)) := IntWalk.i64_in _ (by omega)
      have HDY : ∀ W, Calls Try.prog 22 #[.int .i64 (1900 + (x0 : Int)), .int .i64 (x1 : Int), .int .i64 (x2 : Int)] W fun e w' => e = .returned (.int .i64 D) ∧ W = w' := fun W => days_all W _ _ _ (by omega) (by omega) (by omega) (by omega) (by omega) (by omega) D HD.out.symm
      go_quiet ((go_at_call 22; exact quiet_first (fun W => HDY W)))
      rename_i nq
      clear hw1 hw2 hw3 hw4 hw5 hw6
      go_wp2_with fail
      rw [← HT.out]
      have hboxW := HBX.out.drewN nq
      have hrbW : Rd .u8 (w1.drewN nq) B A c b := HRB.out.drewN nq
      have hbelW := below_drewN hbel1 nq
      have hszW : w.heap.size + 1 ≤ (w1.drewN nq).heap.size := hsz1
      generalize w1.drewN nq = W at *
      have hcW := hboxW.cell
      have hboxD := Lib.hid hboxW.drew
      have hrbD : Hid (Rd .u8 W.drew B A c b) := Lib.hid hrbW
      have hbelD := Lib.hid hbelW.drew
      by_cases hin : -631152000 ≤ T ∧ T ≤ 253402300799
      · obtain ⟨h0, h1⟩ := hin
        obtain ⟨x, hx⟩ := date_is T h0 h1
        have HXX := Lib.hid hx
        clear hx
        obtain ⟨tg, Htg⟩ : ∃ tg, Hid (tagOf x = tg) := ⟨_, rfl⟩
        obtain ⟨N, HN⟩ : ∃ N, Hid ((bodyOf x).length = N) := ⟨_, rfl⟩
        by_cases hI : 23 = tagOf x ∧ b = bodyOf x ∧ nk = 0
        · have HI : Hid (IsTime 23 b nk T) := Lib.hid ⟨x, h0, h1, HXX.out, hI.1, hI.2.1, hI.2.2⟩
          obtain ⟨hI1, hI2, rfl⟩ := hI
          obtain rfl : tg = 23 := Htg.out.symm.trans hI1.symm
          obtain rfl : n = N := HB.out.symm.trans ((congrArg List.length hI2).trans HN.out)
          have Hb := Lib.hid hI2
          clear hI1 hI2
          go_region_law (first
            | (go_simp; go_at_call 10; refine (is_yes _ T h0 h1).mono ?_; rintro e w' ⟨rfl, rfl⟩; go_simp)
            | (go_simp; go_at_call 8; refine (time_yes _ T h0 h1 x HXX.out _ _ Htg.out HN.out).mono ?_; rintro e w2 ⟨A2, c2, rfl, hr2, hb2⟩; rw [← Hb.out] at hr2; have hbox2 := hboxD.out.under hb2 (by simp; omega); have hrb2 := (hrbD.out.under (hb2.mono (by simp; omega)) : Rd .u8 w2 B A c b); have hcw2 := hbox2.cell; have hbel2 := hbelD.out.trans (hb2.mono (by simp; omega)); have hsz2 := hb2.size; clear hb2 hbox2; go_simp)
            | (go_simp; go_at_call 23; refine (same_all _ _ B A2 A K c2 c n kc 23 b HB.out hr2 hrb2 (by simp) (by simp at hsz2; omega) ho).mono ?_; rintro e w3 ⟨rfl, hb3⟩; go_simp))
          all_goals
            go_wp2_with fail
            go_ret2
            exact get_some HI.out (hbel2.trans (hb3.mono (by simp at hsz2; omega)))
        · have HI : Hid (∀ t, ¬ IsTime 23 b nk t) := Lib.hid (fun t h => by
            obtain rfl := HS.out t h
            obtain ⟨z, _, _, hz, a1, a2, a3⟩ := h
            obtain rfl := IsDate.same HXX.out hz
            exact hI ⟨a1, a2, a3⟩)
          have HNI := Lib.hid (show ¬ (23 = tg ∧ b = bodyOf x ∧ nk = 0) by rw [← Htg.out]; exact hI)
          clear hI
          go_region_law (first
            | (go_simp; go_at_call 10; refine (is_yes _ T h0 h1).mono ?_; rintro e w' ⟨rfl, rfl⟩; go_simp)
            | (go_simp; go_at_call 8; refine (time_yes _ T h0 h1 x HXX.out _ _ Htg.out HN.out).mono ?_; rintro e w2 ⟨A2, c2, rfl, hr2, hb2⟩; have hbox2 := hboxD.out.under hb2 (by simp; omega); have hrb2 := (hrbD.out.under (hb2.mono (by simp; omega)) : Rd .u8 w2 B A c b); have hcw2 := hbox2.cell; have hbel2 := hbelD.out.trans (hb2.mono (by simp; omega)); have hsz2 := hb2.size; clear hb2 hbox2; go_simp)
            | (go_simp; go_at_call 23; refine (same_no _ _ B A2 A K c2 c N n nk kc tg 23 (bodyOf x) b HN.out HB.out hr2 hrb2 (by simp) (by simp at hsz2; omega) (body_oct x) ho hnk HNI.out).mono ?_; rintro e w3 ⟨rfl, hb3⟩; go_simp))
          all_goals
            go_wp2_with fail
            go_ret2
            exact get_none HI.out (hbel2.trans (hb3.mono (by simp at hsz2; omega)))
      · have HI : Hid (∀ t, ¬ IsTime 23 b nk t) := Lib.hid (fun t h => by
          obtain rfl := HS.out t h
          obtain ⟨z, h0, h1, _⟩ := h
          exact hin ⟨h0, h1⟩)
        have hout : T < -631152000 ∨ 253402300799 < T := by omega
        clear hin
        go_big_quiet ((go_at_call 10; exact quiet_first (fun W => is_no W T hout)))
        go_wp2_with fail
        go_ret2
        exact get_none HI.out (below_drewN hbelW _)
  by_cases h24 : tag = 24 ∧ m = 7
  · obtain ⟨rfl, rfl⟩ := h24
    obtain ⟨bl, off, x0, rfl, _, hx0, Hx0⟩ := HR.out.at_ (i := 0) (by rw [pvs_length]; omega)
    obtain ⟨_, _, x1, e0, _, hx1, Hx1⟩ := HR.out.at_ (i := 1) (by rw [pvs_length]; omega)
    obtain ⟨rfl, rfl⟩ : bl = _ ∧ off = _ := by injection e0 with e0; injection e0 with e1 e2; exact ⟨e1, e2⟩
    clear e0
    obtain ⟨_, _, x2, e0, _, hx2, Hx2⟩ := HR.out.at_ (i := 2) (by rw [pvs_length]; omega)
    obtain ⟨rfl, rfl⟩ : bl = _ ∧ off = _ := by injection e0 with e0; injection e0 with e1 e2; exact ⟨e1, e2⟩
    clear e0
    obtain ⟨_, _, x3, e0, _, hx3, Hx3⟩ := HR.out.at_ (i := 3) (by rw [pvs_length]; omega)
    obtain ⟨rfl, rfl⟩ : bl = _ ∧ off = _ := by injection e0 with e0; injection e0 with e1 e2; exact ⟨e1, e2⟩
    clear e0
    obtain ⟨_, _, x4, e0, _, hx4, Hx4⟩ := HR.out.at_ (i := 4) (by rw [pvs_length]; omega)
    obtain ⟨rfl, rfl⟩ : bl = _ ∧ off = _ := by injection e0 with e0; injection e0 with e1 e2; exact ⟨e1, e2⟩
    clear e0
    obtain ⟨_, _, x5, e0, _, hx5, Hx5⟩ := HR.out.at_ (i := 5) (by rw [pvs_length]; omega)
    obtain ⟨rfl, rfl⟩ : bl = _ ∧ off = _ := by injection e0 with e0; injection e0 with e1 e2; exact ⟨e1, e2⟩
    clear e0
    obtain ⟨_, _, x6, e0, _, hx6, Hx6⟩ := HR.out.at_ (i := 6) (by rw [pvs_length]; omega)
    obtain ⟨rfl, rfl⟩ : bl = _ ∧ off = _ := by injection e0 with e0; injection e0 with e1 e2; exact ⟨e1, e2⟩
    clear e0
    have Hp0 : Hid (x0 = pv b 0) := Lib.hid (Hx0.out.trans (pvs_at b (by omega)))
    have hb0 : x0 ≤ 99 := by rw [Hp0.out]; exact pv_le HG.out (by have := Hm.out; omega)
    clear Hx0
    have Hp1 : Hid (x1 = pv b 1) := Lib.hid (Hx1.out.trans (pvs_at b (by omega)))
    have hb1 : x1 ≤ 99 := by rw [Hp1.out]; exact pv_le HG.out (by have := Hm.out; omega)
    clear Hx1
    have Hp2 : Hid (x2 = pv b 2) := Lib.hid (Hx2.out.trans (pvs_at b (by omega)))
    have hb2 : x2 ≤ 99 := by rw [Hp2.out]; exact pv_le HG.out (by have := Hm.out; omega)
    clear Hx2
    have Hp3 : Hid (x3 = pv b 3) := Lib.hid (Hx3.out.trans (pvs_at b (by omega)))
    have hb3 : x3 ≤ 99 := by rw [Hp3.out]; exact pv_le HG.out (by have := Hm.out; omega)
    clear Hx3
    have Hp4 : Hid (x4 = pv b 4) := Lib.hid (Hx4.out.trans (pvs_at b (by omega)))
    have hb4 : x4 ≤ 99 := by rw [Hp4.out]; exact pv_le HG.out (by have := Hm.out; omega)
    clear Hx4
    have Hp5 : Hid (x5 = pv b 5) := Lib.hid (Hx5.out.trans (pvs_at b (by omega)))
    have hb5 : x5 ≤ 99 := by rw [Hp5.out]; exact pv_le HG.out (by have := Hm.out; omega)
    clear Hx5
    have Hp6 : Hid (x6 = pv b 6) := Lib.hid (Hx6.out.trans (pvs_at b (by omega)))
    have hb6 : x6 ≤ 99 := by rw [Hp6.out]; exact pv_le HG.out (by have := Hm.out; omega)
    clear Hx6
    have hx0 : w1.cell? ⟨bl, off, none⟩ = some (.int .i64 (x0 : Int)) := hx0
    have hx1' : w1.cell? ⟨bl, off + 1, none⟩ = some (.int .i64 (x1 : Int)) := hx1
    have hx2 : w1.cell? ⟨bl, off + 1 + 1, none⟩ = some (.int .i64 (x2 : Int)) := by rw [Nat.add_assoc]; exact hx2
    have hx3 : w1.cell? ⟨bl, off + 1 + 2, none⟩ = some (.int .i64 (x3 : Int)) := by rw [Nat.add_assoc]; exact hx3
    have hx4 : w1.cell? ⟨bl, off + 1 + 3, none⟩ = some (.int .i64 (x4 : Int)) := by rw [Nat.add_assoc]; exact hx4
    have hx5 : w1.cell? ⟨bl, off + 1 + 4, none⟩ = some (.int .i64 (x5 : Int)) := by rw [Nat.add_assoc]; exact hx5
    have hx6 : w1.cell? ⟨bl, off + 1 + 5, none⟩ = some (.int .i64 (x6 : Int)) := by rw [Nat.add_assoc]; exact hx6
    have hc7 : ¬ c1 = 1 := by have := HR.out.1; rw [pvs_length] at this; omega
    have hc71 : (1 : Int) ≤ (c1 : Int) := by have := HR.out.1; rw [pvs_length] at this; omega
    obtain ⟨D, HD⟩ : ∃ D, Hid (D = dayT (100 * (x0 : Int) + (x1 : Int)) (x2 : Int) (x3 : Int)) := ⟨_, rfl⟩
    have hDr := dayT_range (y := 100 * (x0 : Int) + (x1 : Int)) (m := (x2 : Int)) (d := (x3 : Int)) (by omega) (by omega) (by omega) (by omega) (by omega) (by omega)
    rw [← HD.out] at hDr
    have hD1 := hDr.1
    have hD2 := hDr.2.1
    have HD0 := Lib.hid hDr.2.2
    clear hDr
    obtain ⟨T, HT⟩ : ∃ T : Int, Hid (T = D * 86400 + ((x4 : Int) * 3600 + (x5 : Int) * 60 + (x6 : Int))) := ⟨_, rfl⟩
    have HS : Hid (∀ t, IsTime 24 b nk t → T = t) := Lib.hid (by
      exact T24 Hp0.out Hp1.out Hp2.out Hp3.out Hp4.out Hp5.out Hp6.out HD.out HT.out)
    go_wp2_with fail
    have hv1 : IntKind.i64.wrap (100 * (x0 : Int)) = 100 * (x0 : Int) := IntWalk.i64_in _ (by omega)
    have hv2 : IntKind.i64.wrap (100 * (x0 : Int) + (x1 : Int)) = 100 * (x0 : Int) + (x1 : Int) := IntWalk.i64_in _ (by omega)
    go_quiet (fail)
    revert nq
    intro nqa
    clear hv1 hv2
    go_wp2_with fail
    have hw1 : IntKind.i64.wrap (D * 86400) = D * 86400 := IntWalk.i64_in _ (by omega)
    have hw2 : IntKind.i64.wrap ((x4 : Int) * 3600) = (x4 : Int) * 3600 := IntWalk.i64_in _ (by omega)
    have hw3 : IntKind.i64.wrap ((x5 : Int) * 60) = (x5 : Int) * 60 := IntWalk.i64_in _ (by omega)
    have hw4 : IntKind.i64.wrap ((x4 : Int) * 3600 + (x5 : Int) * 60) = (x4 : Int) * 3600 + (x5 : Int) * 60 := IntWalk.i64_in _ (by omega)
    have hw5 : IntKind.i64.wrap ((x4 : Int) * 3600 + (x5 : Int) * 60 + (x6 : Int)) = (x4 : Int) * 3600 + (x5 : Int) * 60 + (x6 : Int) := IntWalk.i64_in _ (by omega)
    have hw6 : IntKind.i64.wrap (D * 86400 + ((x4 : Int) * 3600 + (x5 : Int) * 60 + (x6 : Int))) = D * 86400 + ((x4 : Int) * 3600 + (x5 : Int) * 60 + (x6 : Int)) := IntWalk.i64_in _ (by omega)
    have HDY : ∀ W, Calls Try.prog 22 #[.int .i64 (100 * (x0 : Int) + (x1 : Int)), .int .i64 (x2 : Int), .int .i64 (x3 : Int)] W fun e w' => e = .returned (.int .i64 D) ∧ W = w' := fun W => days_all W _ _ _ (by omega) (by omega) (by omega) (by omega) (by omega) (by omega) D HD.out.symm
    go_quiet ((go_at_call 22; exact quiet_on (fun W => HDY W)))
    clear hw1 hw2 hw3 hw4 hw5 hw6
    go_wp2_with fail
    rw [← HT.out]
    try rw [World.drewN_drewN]
    have hboxW := HBX.out.drewN (nqa + nq)
    have hrbW : Rd .u8 (w1.drewN (nqa + nq)) B A c b := HRB.out.drewN (nqa + nq)
    have hbelW := below_drewN hbel1 (nqa + nq)
    have hszW : w.heap.size + 1 ≤ (w1.drewN (nqa + nq)).heap.size := hsz1
    generalize w1.drewN (nqa + nq) = W at *
    have hcW := hboxW.cell
    have hboxD := Lib.hid hboxW.drew
    have hrbD : Hid (Rd .u8 W.drew B A c b) := Lib.hid hrbW
    have hbelD := Lib.hid hbelW.drew
    by_cases hin : -631152000 ≤ T ∧ T ≤ 253402300799
    · obtain ⟨h0, h1⟩ := hin
      obtain ⟨x, hx⟩ := date_is T h0 h1
      have HXX := Lib.hid hx
      clear hx
      obtain ⟨tg, Htg⟩ : ∃ tg, Hid (tagOf x = tg) := ⟨_, rfl⟩
      obtain ⟨N, HN⟩ : ∃ N, Hid ((bodyOf x).length = N) := ⟨_, rfl⟩
      by_cases hI : 24 = tagOf x ∧ b = bodyOf x ∧ nk = 0
      · have HI : Hid (IsTime 24 b nk T) := Lib.hid ⟨x, h0, h1, HXX.out, hI.1, hI.2.1, hI.2.2⟩
        obtain ⟨hI1, hI2, rfl⟩ := hI
        obtain rfl : tg = 24 := Htg.out.symm.trans hI1.symm
        obtain rfl : n = N := HB.out.symm.trans ((congrArg List.length hI2).trans HN.out)
        have Hb := Lib.hid hI2
        clear hI1 hI2
        go_region_law (first
          | (go_simp; go_at_call 10; refine (is_yes _ T h0 h1).mono ?_; rintro e w' ⟨rfl, rfl⟩; go_simp)
          | (go_simp; go_at_call 8; refine (time_yes _ T h0 h1 x HXX.out _ _ Htg.out HN.out).mono ?_; rintro e w2 ⟨A2, c2, rfl, hr2, hb2⟩; rw [← Hb.out] at hr2; have hbox2 := hboxD.out.under hb2 (by simp; omega); have hrb2 := (hrbD.out.under (hb2.mono (by simp; omega)) : Rd .u8 w2 B A c b); have hcw2 := hbox2.cell; have hbel2 := hbelD.out.trans (hb2.mono (by simp; omega)); have hsz2 := hb2.size; clear hb2 hbox2; go_simp)
          | (go_simp; go_at_call 23; refine (same_all _ _ B A2 A K c2 c n kc 24 b HB.out hr2 hrb2 (by simp) (by simp at hsz2; omega) ho).mono ?_; rintro e w3 ⟨rfl, hb3⟩; go_simp))
        all_goals
          go_wp2_with fail
          go_ret2
          exact get_some HI.out (hbel2.trans (hb3.mono (by simp at hsz2; omega)))
      · have HI : Hid (∀ t, ¬ IsTime 24 b nk t) := Lib.hid (fun t h => by
          obtain rfl := HS.out t h
          obtain ⟨z, _, _, hz, a1, a2, a3⟩ := h
          obtain rfl := IsDate.same HXX.out hz
          exact hI ⟨a1, a2, a3⟩)
        have HNI := Lib.hid (show ¬ (24 = tg ∧ b = bodyOf x ∧ nk = 0) by rw [← Htg.out]; exact hI)
        clear hI
        go_region_law (first
          | (go_simp; go_at_call 10; refine (is_yes _ T h0 h1).mono ?_; rintro e w' ⟨rfl, rfl⟩; go_simp)
          | (go_simp; go_at_call 8; refine (time_yes _ T h0 h1 x HXX.out _ _ Htg.out HN.out).mono ?_; rintro e w2 ⟨A2, c2, rfl, hr2, hb2⟩; have hbox2 := hboxD.out.under hb2 (by simp; omega); have hrb2 := (hrbD.out.under (hb2.mono (by simp; omega)) : Rd .u8 w2 B A c b); have hcw2 := hbox2.cell; have hbel2 := hbelD.out.trans (hb2.mono (by simp; omega)); have hsz2 := hb2.size; clear hb2 hbox2; go_simp)
          | (go_simp; go_at_call 23; refine (same_no _ _ B A2 A K c2 c N n nk kc tg 24 (bodyOf x) b HN.out HB.out hr2 hrb2 (by simp) (by simp at hsz2; omega) (body_oct x) ho hnk HNI.out).mono ?_; rintro e w3 ⟨rfl, hb3⟩; go_simp))
        all_goals
          go_wp2_with fail
          go_ret2
          exact get_none HI.out (hbel2.trans (hb3.mono (by simp at hsz2; omega)))
    · have HI : Hid (∀ t, ¬ IsTime 24 b nk t) := Lib.hid (fun t h => by
        obtain rfl := HS.out t h
        obtain ⟨z, h0, h1, _⟩ := h
        exact hin ⟨h0, h1⟩)
      have hout : T < -631152000 ∨ 253402300799 < T := by omega
      clear hin
      go_big_quiet ((go_at_call 10; exact quiet_first (fun W => is_no W T hout)))
      go_wp2_with fail
      go_ret2
      exact get_none HI.out (below_drewN hbelW _)
  · have HN : Hid (∀ t, ¬ IsTime tag b nk t) := Lib.hid (fun t h => by
      have hs := (time_says h).2.2
      have := Hm.out
      rcases hs with ⟨a1, a2, _⟩ | ⟨a1, a2, _⟩
      · exact h23 ⟨a1, by omega⟩
      · exact h24 ⟨a1, by omega⟩)
    by_cases g23 : tag = 23
    · subst g23
      have q1 : ((m : Int) == 6) = false := by rw [beq_eq_false_iff_ne]; omega
      clear h23 h24
      go_wp2_with fail
      go_ret2
      exact get_none HN.out hbel1
    · have q0 : ((tag : Int) == 23) = false := by rw [beq_eq_false_iff_ne]; omega
      by_cases g24 : tag = 24
      · subst g24
        have q1 : ((m : Int) == 7) = false := by rw [beq_eq_false_iff_ne]; omega
        clear h23 h24 g23
        go_wp2_with fail
        go_ret2
        exact get_none HN.out hbel1
      · have q1 : ((tag : Int) == 24) = false := by rw [beq_eq_false_iff_ne]; omega
        clear h23 h24 g23 g24
        go_wp2_with fail
        go_ret2
        exact get_none HN.out hbel1
end Go.Proofs.Ytjhpibbhkdjeiaa
