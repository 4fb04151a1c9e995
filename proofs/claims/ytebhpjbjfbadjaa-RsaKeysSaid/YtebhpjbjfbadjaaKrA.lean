/-
  Keys: what one is, and how it lies in memory; whether it is one of RSA. Whether a key is one of RSA: by rsa, by the document; how many bytes N has. Whether a key is one of RSA, by the document; how many bytes N has.
-/
import Derived.Test.YtebhpjbjfbadjaaOff0
import Derived.Test.YtebhpjbjfbadjaaNatA
namespace Go.Proofs.Ytebhpjbjfbadjaa
open Go.RowKit
set_option linter.unusedVariables false
set_option linter.unusedSimpArgs false

/-- A key, plain. -/
structure KV where
  alg : Int
  n : List Nat
  e : Nat
  x : List Nat
  y : List Nat
  inf : Bool
/-- A key as it lies. -/
structure Ky where
  alg : Int
  na : Option Addr
  nc : Nat
  n : List Nat
  e : Nat
  xa : Option Addr
  xc : Nat
  x : List Nat
  ya : Option Addr
  yc : Nat
  y : List Nat
  inf : Bool
def Ky.v (k : Ky) : KV := ⟨k.alg, k.n, k.e, k.x, k.y, k.inf⟩
def kycell (k : Ky) : List Value := [.int .i64 k.alg, .slice k.na k.n.length k.nc, .int .u32 (k.e : Int), .slice k.xa k.x.length k.xc, .slice k.ya k.y.length k.yc, .bool k.inf]
def KyP (k : Ky) (w : World) : Prop :=
  Rd .u32 w w.heap.size k.na k.nc k.n ∧ Dg k.n ∧ Rd .u32 w w.heap.size k.xa k.xc k.x ∧ Dg k.x ∧ Rd .u32 w w.heap.size k.ya k.yc k.y ∧ Dg k.y ∧ k.e < 4294967296
theorem Off.of_ky {k : Ky} {w : World} (h : KyP k w) : Off [] (KyP k) w := fun w' h2 h3 =>
  ⟨(Off.of_rd h.1 (Nat.le_refl _)) w' h2 h3, h.2.1, (Off.of_rd h.2.2.1 (Nat.le_refl _)) w' h2 h3, h.2.2.2.1, (Off.of_rd h.2.2.2.2.1 (Nat.le_refl _)) w' h2 h3, h.2.2.2.2.2.1, h.2.2.2.2.2.2⟩

/-- Whether it is a key of RSA. -/
def rsaOk (v : KV) : Bool := decide (v.alg = 1) && !v.inf && decide (v.x.length = 0) && decide (v.y.length = 0) && okN v.n && decide (512 ≤ nb v.n ∧ nb v.n ≤ 4096) && decide (v.n.getD 0 0 % 2 = 1) && decide (v.e % 2 = 1 ∧ 3 ≤ v.e)
/-- How many bytes N has. -/
def rsaSize (v : KV) : Nat := (nb v.n + 7) / 8

theorem nb_pos {l : List Nat} (h : 1 ≤ nb l) : 0 < l.length := by
  rcases Nat.eq_zero_or_pos l.length with h0 | h0
  · rw [nb_nil h0] at h; omega
  · exact h0
theorem isN_at (w : World) (B : Nat) (A : Option Addr) (c n : Nat) (l : List Nat) (hr : Rd .u32 w B A c l) (hn : l.length = n) : Calls Try.prog 21 #[.slice A n c] w fun e w' => e = .returned (.bool (okN l)) ∧ w = w' := by
  subst hn
  exact is_any w B A c l hr _ rfl
theorem isN'_at (w : World) (B : Nat) (A : Option Addr) (c n : Nat) (l : List Nat) (hr : Rd .u32 w B A c l) (hn : l.length = n) : Calls Try.prog 23 #[.slice A n c] w fun e w' => e = .returned (.bool (okN l)) ∧ w = w' := by
  subst hn
  exact is'_any w B A c l hr _ rfl
theorem bitsN'_at (w : World) (B : Nat) (A : Option Addr) (c n : Nat) (l : List Nat) (hr : Rd .u32 w B A c l) (hn : l.length = n) (hd : Dg l) (hs : l.length ≤ 5000) : Calls Try.prog 24 #[.slice A n c] w fun e w' => e = .returned (.int .i64 (nb l : Int)) ∧ w = w' := by
  subst hn
  exact bits'_any w B A c l hr hd hs _ rfl
theorem and1 (x : Nat) (hx : x < 4294967296) : bits .and .u32 (x : Int) 1 = ((x % 2 : Nat) : Int) := by
  have h := u32_and_nat x 1 hx (by omega)
  rw [Nat.and_one_is_mod] at h
  exact h
theorem nb_lt (l : List Nat) (hd : Dg l) : nb l ≤ 32 * l.length := by
  rcases hm : l.length with _ | m
  · rw [nb_nil hm]; omega
  · rw [nb_succ hm]
    have := Lib.bitLen_le (l.getD m 0) 32 (by omega) (hd.at_ m)
    omega
end Go.Proofs.Ytebhpjbjfbadjaa
namespace Go.Proofs.Ytebhpjbjfbadjaa
open Go.RowKit
set_option linter.unusedVariables false
set_option linter.unusedSimpArgs false

set_option maxRecDepth 100000 in
set_option maxHeartbeats 4000000 in
theorem rsaIs_any (w : World) (k : Ky) (h : KyP k w) (hs : k.n.length ≤ 5000) :
    Calls Try.prog 9 #[.agg (kycell k).toArray] w fun e w' => e = .returned (.bool (rsaOk k.v)) ∧ Below w.heap.size w w' := by
  obtain ⟨r, HR⟩ : ∃ r, Hid (r = rsaOk k.v) := ⟨_, rfl⟩
  rw [← HR.out]
  have hoc := Off.of_ky h
  have hq0 : Below w.heap.size w (w.alloc (.cells (kycell k).toArray 28)) := (Below.refl _ _).alloc (Nat.le_refl _) _
  have hH0 := Holds.fresh w 28 (kycell k).toArray
  obtain ⟨alg, na, nc, n, ee, xa, xc, x, ya, yc, y, inf⟩ := k
  simp only [kycell] at hq0 hH0 ⊢
  obtain ⟨nn, hnn⟩ : ∃ k, n.length = k := ⟨_, rfl⟩
  obtain ⟨xn, hxn⟩ : ∃ k, x.length = k := ⟨_, rfl⟩
  obtain ⟨yn, hyn⟩ : ∃ k, y.length = k := ⟨_, rfl⟩
  have HRV : Hid (r = (decide (alg = 1) && !inf && decide (xn = 0) && decide (yn = 0) && okN n && decide (512 ≤ nb n ∧ nb n ≤ 4096) && decide (n.getD 0 0 % 2 = 1) && decide (ee % 2 = 1 ∧ 3 ≤ ee))) := Lib.hid (by
    rw [HR.out]
    unfold rsaOk Ky.v
    rw [hxn, hyn])
  clear HR
  dsimp only at hs
  rw [hnn, hxn, hyn] at hq0 hH0 ⊢
  obtain ⟨w1, hw1⟩ : ∃ W, W = w.alloc (.cells #[.int .i64 alg, .slice na nn nc, .int .u32 (ee : Int), .slice xa xn xc, .slice ya yn yc, .bool inf] 28) := ⟨_, rfl⟩
  have HB : Hid (Below w.heap.size w w1) := Lib.hid (by rw [hw1]; exact hq0)
  have hH1 : Holds w1 w.heap.size 28 #[.int .i64 alg, .slice na nn nc, .int .u32 (ee : Int), .slice xa xn xc, .slice ya yn yc, .bool inf] := by rw [hw1]; exact hH0
  have hk1 := (hoc.under HB.out).at_
  obtain ⟨hrn, hdn, _, _, _, _, hee⟩ := hk1
  dsimp only at hrn hdn hee
  have HN := Lib.hid hnn
  have HIS := Lib.hid (isN_at w1 _ na nc nn n hrn hnn)
  have HW := Lib.hid hw1
  have c0 := hH0.cell 0
  have c1 := hH0.cell 1
  have c2 := hH0.cell 2
  have c3 := hH0.cell 3
  have c4 := hH0.cell 4
  have c5 := hH0.cell 5
  have k1 := hH1.cell 1
  have k2 := hH1.cell 2
  clear h hoc hq0 hH0 hH1 hxn hyn hw1 hnn
  by_cases ha : alg = 1
  case neg =>
    have HE : Hid (r = false) := Lib.hid (by rw [HRV.out, decide_eq_false ha]; rfl)
    have d : (alg != 1) = true := by simp [ha]
    go_enter Try.func9, Try.ntmps9
    go_wp2_with fail
    go_ret
    exact ⟨by rw [HE.out]; rfl, by rw [← HW.out]; exact HB.out⟩
  subst ha
  cases inf with
  | true =>
    have HE : Hid (r = false) := Lib.hid (by rw [HRV.out]; simp)
    go_enter Try.func9, Try.ntmps9
    go_wp2_with fail
    go_ret
    exact ⟨by rw [HE.out]; rfl, by rw [← HW.out]; exact HB.out⟩
  | false =>
  by_cases hx : 0 < xn
  case pos =>
    have HE : Hid (r = false) := Lib.hid (by rw [HRV.out, decide_eq_false (show ¬ xn = 0 by omega)]; simp)
    have d : decide ((0 : Int) < (xn : Int)) = true := decide_eq_true (by omega)
    have d' : decide (0 < xn) = true := decide_eq_true hx
    go_enter Try.func9, Try.ntmps9
    go_wp2_with fail
    go_ret
    exact ⟨by rw [HE.out]; rfl, by rw [← HW.out]; exact HB.out⟩
  have dx : decide ((0 : Int) < (xn : Int)) = false := decide_eq_false (by omega)
  have dx' : decide (0 < xn) = false := decide_eq_false hx
  by_cases hy : 0 < yn
  case pos =>
    have HE : Hid (r = false) := Lib.hid (by rw [HRV.out, decide_eq_false (show ¬ yn = 0 by omega)]; simp)
    have d : decide ((0 : Int) < (yn : Int)) = true := decide_eq_true (by omega)
    have d' : decide (0 < yn) = true := decide_eq_true hy
    clear hx
    go_enter Try.func9, Try.ntmps9
    go_wp2_with fail
    go_ret
    exact ⟨by rw [HE.out]; rfl, by rw [← HW.out]; exact HB.out⟩
  have dy : decide ((0 : Int) < (yn : Int)) = false := decide_eq_false (by omega)
  have dy' : decide (0 < yn) = false := decide_eq_false hy
  have HRW : Hid (r = (okN n && decide (512 ≤ nb n ∧ nb n ≤ 4096) && decide (n.getD 0 0 % 2 = 1) && decide (ee % 2 = 1 ∧ 3 ≤ ee))) := Lib.hid (by
    rw [HRV.out, decide_eq_true (show xn = 0 by omega), decide_eq_true (show yn = 0 by omega)]; simp)
  clear HRV hx hy
  rcases hok : okN n with _ | _
  · have HE : Hid (r = false) := Lib.hid (by rw [HRW.out, hok]; rfl)
    rw [hok] at HIS
    clear hok
    go_enter Try.func9, Try.ntmps9
    go_wp2_with fail
    rw [← HW.out]
    refine HIS.out.mono ?_
    rintro e w2 ⟨rfl, rfl⟩
    clear c0 c1 c2 c3 c4 c5
    go_wp2_with fail
    go_ret
    exact ⟨by rw [HE.out]; rfl, HB.out⟩
  have hnrm := (okN_nrm hok).2
  have hle := (okN_nrm hok).1
  rw [hok] at HIS
  have hbn := nb_lt n hdn
  obtain ⟨q, hq⟩ : ∃ q, nb (trl n) = q := ⟨_, rfl⟩
  have HBI := Lib.hid (bits_any w1 _ na nc nn n hrn HN.out hdn hs q hq)
  have hq2 : nb n = q := by rw [← hq, trl_id hnrm]
  have hq6 : q ≤ 100000 := by omega
  have HQ := Lib.hid hq2
  have HO := Lib.hid hok
  clear hq hnrm hbn hle hok
  by_cases h512 : q < 512
  case pos =>
    have HE : Hid (r = false) := Lib.hid (by rw [HRW.out, HQ.out, decide_eq_false (show ¬ (512 ≤ q ∧ q ≤ 4096) by omega)]; simp)
    have d : decide ((q : Int) < 512) = true := decide_eq_true (by omega)
    clear hq2 HQ
    go_enter Try.func9, Try.ntmps9
    go_wp2_with fail
    rw [← HW.out]
    refine HIS.out.mono ?_
    rintro e w2 ⟨rfl, rfl⟩
    clear c0 c1 c2 c3 c4 c5
    go_wp2_with fail
    refine HBI.out.mono ?_
    rintro e w2 ⟨rfl, rfl⟩
    go_wp2_with fail
    go_ret
    exact ⟨by rw [HE.out]; rfl, HB.out⟩
  have d512 : decide ((q : Int) < 512) = false := decide_eq_false (by omega)
  by_cases h4096 : 4096 < q
  case pos =>
    have HE : Hid (r = false) := Lib.hid (by rw [HRW.out, HQ.out, decide_eq_false (show ¬ (512 ≤ q ∧ q ≤ 4096) by omega)]; simp)
    have d : decide ((4096 : Int) < (q : Int)) = true := decide_eq_true (by omega)
    clear hq2 HQ
    go_enter Try.func9, Try.ntmps9
    go_wp2_with fail
    rw [← HW.out]
    refine HIS.out.mono ?_
    rintro e w2 ⟨rfl, rfl⟩
    clear c0 c1 c2 c3 c4 c5
    go_wp2_with fail
    refine HBI.out.mono ?_
    rintro e w2 ⟨rfl, rfl⟩
    go_wp2_with fail
    refine HBI.out.mono ?_
    rintro e w2 ⟨rfl, rfl⟩
    go_wp2_with fail
    go_ret
    exact ⟨by rw [HE.out]; rfl, HB.out⟩
  have d4096 : decide ((4096 : Int) < (q : Int)) = false := decide_eq_false (by omega)
  have hnp : 0 < n.length := nb_pos (by omega)
  have hnn1 : 1 ≤ nn := by have := HN.out; omega
  obtain ⟨b, off, u, rfl, hb, hu, HU⟩ := hrn.at_ (i := 0) hnp
  have hul : u < 4294967296 := by rw [HU.out]; exact hdn.at_ 0
  rw [Nat.add_zero] at hu
  have hnn0 : 0 < nn := hnn1
  have ha1 := and1 u hul
  have ha2 := and1 ee hee
  have HRX : Hid (r = (decide (u % 2 = 1) && decide (ee % 2 = 1 ∧ 3 ≤ ee))) := Lib.hid (by
    rw [HRW.out, HO.out, HQ.out, decide_eq_true (show 512 ≤ q ∧ q ≤ 4096 by omega), ← HU.out]; simp)
  clear hq2 HQ HRW HO HU h512 h4096 hnp hs hdn hrn
  by_cases hu1 : u % 2 = 1
  case neg =>
    have HE : Hid (r = false) := Lib.hid (by rw [HRX.out, decide_eq_false hu1]; rfl)
    have t1 : (bits .and .u32 (u : Int) 1 == 1) = false := by rw [ha1, show u % 2 = 0 by omega]; rfl
    clear ha1 ha2 hu1
    go_enter Try.func9, Try.ntmps9
    go_wp2_with fail
    rw [← HW.out]
    refine HIS.out.mono ?_
    rintro e w2 ⟨rfl, rfl⟩
    clear c0 c1 c2 c3 c4 c5
    go_wp2_with fail
    refine HBI.out.mono ?_
    rintro e w2 ⟨rfl, rfl⟩
    go_wp2_with fail
    refine HBI.out.mono ?_
    rintro e w2 ⟨rfl, rfl⟩
    go_wp2_with fail
    go_ret
    exact ⟨by rw [HE.out]; rfl, HB.out⟩
  have t1 : (bits .and .u32 (u : Int) 1 == 1) = true := by rw [ha1, hu1]; rfl
  by_cases he1 : ee % 2 = 1
  case neg =>
    have HE : Hid (r = false) := Lib.hid (by rw [HRX.out, decide_eq_false (show ¬ (ee % 2 = 1 ∧ 3 ≤ ee) by omega)]; simp)
    have t2 : (bits .and .u32 (ee : Int) 1 == 1) = false := by rw [ha2, show ee % 2 = 0 by omega]; rfl
    clear ha1 ha2 hu1 he1
    go_enter Try.func9, Try.ntmps9
    go_wp2_with fail
    rw [← HW.out]
    refine HIS.out.mono ?_
    rintro e w2 ⟨rfl, rfl⟩
    clear c0 c1 c2 c3 c4 c5
    go_wp2_with fail
    refine HBI.out.mono ?_
    rintro e w2 ⟨rfl, rfl⟩
    go_wp2_with fail
    refine HBI.out.mono ?_
    rintro e w2 ⟨rfl, rfl⟩
    go_wp2_with fail
    go_ret
    exact ⟨by rw [HE.out]; rfl, HB.out⟩
  have t2 : (bits .and .u32 (ee : Int) 1 == 1) = true := by rw [ha2, he1]; rfl
  have HE : Hid (r = decide (3 ≤ ee)) := Lib.hid (by
    rw [HRX.out, decide_eq_true hu1]
    by_cases h3 : 3 ≤ ee
    · rw [decide_eq_true h3, decide_eq_true (show ee % 2 = 1 ∧ 3 ≤ ee from ⟨he1, h3⟩)]; rfl
    · rw [decide_eq_false h3, decide_eq_false (show ¬ (ee % 2 = 1 ∧ 3 ≤ ee) by omega)]; rfl)
  have HD : Hid (decide ((3 : Int) ≤ (ee : Int)) = decide (3 ≤ ee)) := Lib.hid (by
    by_cases h3 : 3 ≤ ee
    · rw [decide_eq_true h3, decide_eq_true (show (3 : Int) ≤ (ee : Int) by omega)]
    · rw [decide_eq_false h3, decide_eq_false (show ¬ (3 : Int) ≤ (ee : Int) by omega)])
  clear ha1 ha2 hu1 he1
  go_enter Try.func9, Try.ntmps9
  go_wp2_with fail
  rw [← HW.out]
  refine HIS.out.mono ?_
  rintro e w2 ⟨rfl, rfl⟩
  clear c0 c1 c2 c3 c4 c5
  go_wp2_with fail
  refine HBI.out.mono ?_
  rintro e w2 ⟨rfl, rfl⟩
  go_wp2_with fail
  refine HBI.out.mono ?_
  rintro e w2 ⟨rfl, rfl⟩
  go_wp2_with fail
  go_ret
  exact ⟨by rw [HE.out, ← HD.out]; rfl, HB.out⟩
end Go.Proofs.Ytebhpjbjfbadjaa
namespace Go.Proofs.Ytebhpjbjfbadjaa
open Go.RowKit
set_option linter.unusedVariables false
set_option linter.unusedSimpArgs false

set_option maxRecDepth 100000 in
set_option maxHeartbeats 4000000 in
theorem rsaIs'_any (w : World) (k : Ky) (h : KyP k w) (hs : k.n.length ≤ 5000) (hxy : k.x.length ≤ 100000 ∧ k.y.length ≤ 100000) :
    Calls Try.prog 10 #[.agg (kycell k).toArray] w fun e w' => e = .returned (.bool (rsaOk k.v)) ∧ Below w.heap.size w w' := by
  obtain ⟨r, HR⟩ : ∃ r, Hid (r = rsaOk k.v) := ⟨_, rfl⟩
  rw [← HR.out]
  have hoc := Off.of_ky h
  have hq0 : Below w.heap.size w (w.alloc (.cells (kycell k).toArray 28)) := (Below.refl _ _).alloc (Nat.le_refl _) _
  have hH0 := Holds.fresh w 28 (kycell k).toArray
  obtain ⟨alg, na, nc, n, ee, xa, xc, x, ya, yc, y, inf⟩ := k
  simp only [kycell] at hq0 hH0 ⊢
  obtain ⟨nn, hnn⟩ : ∃ k, n.length = k := ⟨_, rfl⟩
  obtain ⟨xn, hxn⟩ : ∃ k, x.length = k := ⟨_, rfl⟩
  obtain ⟨yn, hyn⟩ : ∃ k, y.length = k := ⟨_, rfl⟩
  have HRV : Hid (r = (decide (alg = 1) && !inf && decide (xn = 0) && decide (yn = 0) && okN n && decide (512 ≤ nb n ∧ nb n ≤ 4096) && decide (n.getD 0 0 % 2 = 1) && decide (ee % 2 = 1 ∧ 3 ≤ ee))) := Lib.hid (by
    rw [HR.out]
    unfold rsaOk Ky.v
    rw [hxn, hyn])
  clear HR
  dsimp only at hs hxy
  rw [hxn, hyn] at hxy
  obtain ⟨hx5, hy5⟩ := hxy
  rw [hnn, hxn, hyn] at hq0 hH0 ⊢
  obtain ⟨w1, hw1⟩ : ∃ W, W = w.alloc (.cells #[.int .i64 alg, .slice na nn nc, .int .u32 (ee : Int), .slice xa xn xc, .slice ya yn yc, .bool inf] 28) := ⟨_, rfl⟩
  have HB : Hid (Below w.heap.size w w1) := Lib.hid (by rw [hw1]; exact hq0)
  have hH1 : Holds w1 w.heap.size 28 #[.int .i64 alg, .slice na nn nc, .int .u32 (ee : Int), .slice xa xn xc, .slice ya yn yc, .bool inf] := by rw [hw1]; exact hH0
  have hk1 := (hoc.under HB.out).at_
  obtain ⟨hrn, hdn, _, _, _, _, hee⟩ := hk1
  dsimp only at hrn hdn hee
  have HN := Lib.hid hnn
  have HIS := Lib.hid (isN'_at w1 _ na nc nn n hrn hnn)
  obtain ⟨q, hq⟩ : ∃ q, nb n = q := ⟨_, rfl⟩
  have HBI := Lib.hid (bitsN'_at w1 _ na nc nn n hrn hnn hdn hs)
  rw [hq] at HBI HRV
  have hq6 : q ≤ 200000 := by have := nb_lt n hdn; omega
  have HW := Lib.hid hw1
  have c0 := hH0.cell 0
  have c1 := hH0.cell 1
  have k1 := hH1.cell 1
  have k2 := hH1.cell 2
  have k3 := hH1.cell 3
  have k4 := hH1.cell 4
  have k5 := hH1.cell 5
  have HQ := Lib.hid hq
  clear h hoc hq0 hH0 hH1 hxn hyn hw1 hnn hq
  by_cases ha : alg = 1
  case neg =>
    have HE : Hid (r = false) := Lib.hid (by rw [HRV.out, decide_eq_false ha]; rfl)
    have d : (alg != 1) = true := by simp [ha]
    go_enter Try.func10, Try.ntmps10
    go_wp2_with fail
    go_ret
    exact ⟨by rw [HE.out]; rfl, by rw [← HW.out]; exact HB.out⟩
  subst ha
  rcases hok : okN n with _ | _
  · have HE : Hid (r = false) := Lib.hid (by rw [HRV.out, hok]; simp)
    rw [hok] at HIS
    clear hok
    go_enter Try.func10, Try.ntmps10
    go_wp2_with fail
    rw [← HW.out]
    refine HIS.out.mono ?_
    rintro e w2 ⟨rfl, rfl⟩
    clear c0 c1
    go_wp2_with fail
    go_ret
    exact ⟨by rw [HE.out]; rfl, HB.out⟩
  have HO := Lib.hid hok
  rw [hok] at HIS
  clear hok
  by_cases hxy : 0 < xn + yn
  case pos =>
    have HE : Hid (r = false) := Lib.hid (by
      rw [HRV.out]
      rcases Nat.eq_zero_or_pos xn with h0 | h0
      · rw [decide_eq_false (show ¬ yn = 0 by omega)]; simp
      · rw [decide_eq_false (show ¬ xn = 0 by omega)]; simp)
    have d : decide ((0 : Int) < (xn : Int) + (yn : Int)) = true := decide_eq_true (by omega)
    have d' : decide (0 < xn + yn) = true := decide_eq_true hxy
    clear hxy
    go_enter Try.func10, Try.ntmps10
    go_wp2_with fail
    rw [← HW.out]
    refine HIS.out.mono ?_
    rintro e w2 ⟨rfl, rfl⟩
    clear c0 c1
    go_wp2_with fail
    go_ret
    exact ⟨by rw [HE.out]; rfl, HB.out⟩
  have d : decide ((0 : Int) < (xn : Int) + (yn : Int)) = false := decide_eq_false (by omega)
  have d' : decide (0 < xn + yn) = false := decide_eq_false hxy
  cases inf with
  | true =>
    have HE : Hid (r = false) := Lib.hid (by rw [HRV.out]; simp)
    clear hxy
    go_enter Try.func10, Try.ntmps10
    go_wp2_with fail
    rw [← HW.out]
    refine HIS.out.mono ?_
    rintro e w2 ⟨rfl, rfl⟩
    clear c0 c1
    go_wp2_with fail
    go_ret
    exact ⟨by rw [HE.out]; rfl, HB.out⟩
  | false =>
  have HRW : Hid (r = (decide (512 ≤ q ∧ q ≤ 4096) && decide (n.getD 0 0 % 2 = 1) && decide (ee % 2 = 1 ∧ 3 ≤ ee))) := Lib.hid (by
    rw [HRV.out, HO.out, decide_eq_true (show xn = 0 by omega), decide_eq_true (show yn = 0 by omega)]; simp)
  clear HRV hxy
  by_cases h512 : q < 512
  case pos =>
    have HE : Hid (r = false) := Lib.hid (by rw [HRW.out, decide_eq_false (show ¬ (512 ≤ q ∧ q ≤ 4096) by omega)]; simp)
    have e1 : decide ((512 : Int) ≤ (q : Int)) = false := decide_eq_false (by omega)
    go_enter Try.func10, Try.ntmps10
    go_wp2_with fail
    rw [← HW.out]
    refine HIS.out.mono ?_
    rintro e w2 ⟨rfl, rfl⟩
    clear c0 c1
    go_wp2_with fail
    refine HBI.out.mono ?_
    rintro e w2 ⟨rfl, rfl⟩
    go_wp2_with fail
    go_ret
    exact ⟨by rw [HE.out]; rfl, HB.out⟩
  have d512 : decide ((512 : Int) ≤ (q : Int)) = true := decide_eq_true (by omega)
  by_cases h4096 : 4096 < q
  case pos =>
    have HE : Hid (r = false) := Lib.hid (by rw [HRW.out, decide_eq_false (show ¬ (512 ≤ q ∧ q ≤ 4096) by omega)]; simp)
    have e1 : decide ((q : Int) ≤ (4096 : Int)) = false := decide_eq_false (by omega)
    go_enter Try.func10, Try.ntmps10
    go_wp2_with fail
    rw [← HW.out]
    refine HIS.out.mono ?_
    rintro e w2 ⟨rfl, rfl⟩
    clear c0 c1
    go_wp2_with fail
    refine HBI.out.mono ?_
    rintro e w2 ⟨rfl, rfl⟩
    go_wp2_with fail
    go_ret
    exact ⟨by rw [HE.out]; rfl, HB.out⟩
  have d4096 : decide ((q : Int) ≤ (4096 : Int)) = true := decide_eq_true (by omega)
  have hnp : 0 < n.length := nb_pos (by have := HQ.out; omega)
  have hnn1 : 1 ≤ nn := by have := HN.out; omega
  obtain ⟨b, off, u, rfl, hb, hu, HU⟩ := hrn.at_ (i := 0) hnp
  have hul : u < 4294967296 := by rw [HU.out]; exact hdn.at_ 0
  rw [Nat.add_zero] at hu
  have hnn0 : 0 < nn := hnn1
  have HRX : Hid (r = (decide (u % 2 = 1) && decide (ee % 2 = 1 ∧ 3 ≤ ee))) := Lib.hid (by
    rw [HRW.out, decide_eq_true (show 512 ≤ q ∧ q ≤ 4096 by omega), ← HU.out]; simp)
  clear HQ HRW HO HU h512 h4096 hnp hs hdn hrn
  by_cases hu1 : u % 2 = 1
  case neg =>
    have HE : Hid (r = false) := Lib.hid (by rw [HRX.out, decide_eq_false hu1]; rfl)
    have t1 : ((u : Int) % 2 == 1) = false := by rw [beq_eq_false_iff_ne]; omega
    clear hu1
    go_enter Try.func10, Try.ntmps10
    go_wp2_with fail
    rw [← HW.out]
    refine HIS.out.mono ?_
    rintro e w2 ⟨rfl, rfl⟩
    clear c0 c1
    go_wp2_with fail
    refine HBI.out.mono ?_
    rintro e w2 ⟨rfl, rfl⟩
    go_wp2_with fail
    go_ret
    exact ⟨by rw [HE.out]; rfl, HB.out⟩
  have t1 : ((u : Int) % 2 == 1) = true := by rw [beq_iff_eq]; omega
  by_cases he1 : ee % 2 = 1
  case neg =>
    have HE : Hid (r = false) := Lib.hid (by rw [HRX.out, decide_eq_false (show ¬ (ee % 2 = 1 ∧ 3 ≤ ee) by omega)]; simp)
    have t2 : ((ee : Int) % 2 == 1) = false := by rw [beq_eq_false_iff_ne]; omega
    clear hu1 he1
    go_enter Try.func10, Try.ntmps10
    go_wp2_with fail
    rw [← HW.out]
    refine HIS.out.mono ?_
    rintro e w2 ⟨rfl, rfl⟩
    clear c0 c1
    go_wp2_with fail
    refine HBI.out.mono ?_
    rintro e w2 ⟨rfl, rfl⟩
    go_wp2_with fail
    go_ret
    exact ⟨by rw [HE.out]; rfl, HB.out⟩
  have t2 : ((ee : Int) % 2 == 1) = true := by rw [beq_iff_eq]; omega
  have HE : Hid (r = decide (3 ≤ ee)) := Lib.hid (by
    rw [HRX.out, decide_eq_true hu1]
    by_cases h3 : 3 ≤ ee
    · rw [decide_eq_true h3, decide_eq_true (show ee % 2 = 1 ∧ 3 ≤ ee from ⟨he1, h3⟩)]; rfl
    · rw [decide_eq_false h3, decide_eq_false (show ¬ (ee % 2 = 1 ∧ 3 ≤ ee) by omega)]; rfl)
  have HD : Hid (decide ((3 : Int) ≤ (ee : Int)) = decide (3 ≤ ee)) := Lib.hid (by
    by_cases h3 : 3 ≤ ee
    · rw [decide_eq_true h3, decide_eq_true (show (3 : Int) ≤ (ee : Int) by omega)]
    · rw [decide_eq_false h3, decide_eq_false (show ¬ (3 : Int) ≤ (ee : Int) by omega)])
  clear hu1 he1
  go_enter Try.func10, Try.ntmps10
  go_wp2_with fail
  rw [← HW.out]
  refine HIS.out.mono ?_
  rintro e w2 ⟨rfl, rfl⟩
  clear c0 c1
  go_wp2_with fail
  refine HBI.out.mono ?_
  rintro e w2 ⟨rfl, rfl⟩
  go_wp2_with fail
  go_ret
  exact ⟨by rw [HE.out, ← HD.out]; rfl, HB.out⟩

set_option maxRecDepth 100000 in
theorem rsaSize'_any (w : World) (k : Ky) (h : KyP k w) (hs : k.n.length ≤ 5000) :
    Calls Try.prog 30 #[.agg (kycell k).toArray] w fun e w' => e = .returned (.int .i64 (rsaSize k.v : Nat)) ∧ Below w.heap.size w w' := by
  have hoc := Off.of_ky h
  have hq0 : Below w.heap.size w (w.alloc (.cells (kycell k).toArray 28)) := (Below.refl _ _).alloc (Nat.le_refl _) _
  have hH0 := Holds.fresh w 28 (kycell k).toArray
  obtain ⟨alg, na, nc, n, ee, xa, xc, x, ya, yc, y, inf⟩ := k
  simp only [kycell] at hq0 hH0 ⊢
  obtain ⟨nn, hnn⟩ : ∃ k, n.length = k := ⟨_, rfl⟩
  obtain ⟨q, hq⟩ : ∃ q, nb n = q := ⟨_, rfl⟩
  have HE : Hid (rsaSize (Ky.v ⟨alg, na, nc, n, ee, xa, xc, x, ya, yc, y, inf⟩) = (q + 7) / 8) := Lib.hid (by unfold rsaSize Ky.v; rw [hq])
  rw [HE.out]
  rw [hnn] at hq0 hH0 ⊢
  have hk1 := (hoc.under hq0).at_
  have HBI := Lib.hid (bitsN'_at _ _ na nc nn n hk1.1 hnn hk1.2.1 hs)
  rw [hq] at HBI
  have hq6 : q ≤ 200000 := by have := nb_lt n hk1.2.1; dsimp only at hs; omega
  have HB := Lib.hid hq0
  have c1 := hH0.cell 1
  clear h hoc hq0 hH0 hk1 hnn hq HE hs
  go_enter Try.func30, Try.ntmps30
  go_wp2_with fail
  refine HBI.out.mono ?_
  rintro e w2 ⟨rfl, rfl⟩
  go_wp2_with fail
  go_ret
  exact ⟨by congr 2, HB.out⟩
end Go.Proofs.Ytebhpjbjfbadjaa
