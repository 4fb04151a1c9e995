/-
  Division by one digit; shifting, and back.
-/
import Derived.Test.YtphfgchfphdcaaaNat14
namespace Go.Proofs.Ytphfgchfphdcaaa
open Go.RowKit
set_option linter.unusedVariables false

theorem lead_any (n : Nat) (w : World) (hn : n < 4294967296) : Calls Try.prog 43 #[.int .u32 n] w fun e w' => e = .returned (.int .i64 ((32 - Lib.bitLen n : Nat) : Int)) ∧ w = w' := by
  have hb := Lib.bitLen_le n 32 (by omega) (by omega)
  go_enter Try.func43, Try.ntmps43
  go_wp2_with fail
  refine (len32_any n _ hn).mono ?_
  rintro e w1 ⟨rfl, rfl⟩
  obtain ⟨y, Hy⟩ : ∃ y, Hid (y = Lib.bitLen n) := ⟨_, rfl⟩
  rw [← Hy.out] at hb ⊢
  go_wp2_with fail
  go_ret
  exact ⟨by rw [← Hy.out]; exact congrArg Ending.returned (congrArg (Value.int IntKind.i64) (by omega)), rfl⟩
theorem or_u64 (v x : Nat) (hv : v < 4294967296) (hx : x < 4294967296) : bits .or .u64 ((v : Int) * 4294967296) (x : Int) = ((v * 4294967296 + x : Nat) : Int) := by
  have := u64_or_nat (v * 4294967296) x (by omega) (by omega)
  rw [or_low v x hx] at this
  rw [← this, Int.natCast_mul]
  rfl
theorem u64_in (n : Int) (h0 : 0 ≤ n) (h1 : n < 18446744073709551616) : IntKind.u64.wrap n = n := by
  rw [show IntKind.u64.wrap n = n % 18446744073709551616 by simp [IntKind.wrap, IntKind.bits, IntKind.signed]]
  omega
theorem one_digit (x : Nat) (hx : x < 4294967296) : NumIs (trl [x]) x := num_trl (fun y hy => by simp at hy; omega) (by simp [val])

set_option maxRecDepth 100000 in
theorem short_any (w : World) (B : Nat) (A : Option Addr) (c : Nat) (l : List Nat) (hr : Rd .u32 w B A c l) (hB : B ≤ w.heap.size) (hd : Dg l) (hs : l.length ≤ 5000) (b : Nat) (hb0 : 0 < b) (hb : b < 4294967296) :
    Calls Try.prog 42 #[.slice A l.length c, .int .u32 b] w fun e w' => ∃ A2 c2 q A3 c3 r, e = .returned (.tuple #[.slice A2 q.length c2, .slice A3 r.length c3]) ∧ NumIs q (val l / b) ∧ NumIs r (val l % b) ∧ Fresh .u32 31 w' w.heap.size A2 c2 q ∧ Fresh .u32 31 w' w.heap.size A3 c3 r ∧ Below w.heap.size w w' := by
  have hlc : l.length ≤ c := hr.1
  have hc63 : c ≤ 9223372036854775807 := hr.2.1
  have hmk := make_nat (l.length : Int) l.length rfl (by omega)
  go_enter Try.func42, Try.ntmps42
  go_wp2_with fail
  have hR0 : Row .u32 31 (w.alloc (.cells (nums .u32 (List.replicate l.length 0)) 31)) w.heap.size (List.replicate l.length 0) := Holds.fresh _ _ _
  clear hmk
  go_loopw [6, 7] (fun sv si wr => ∃ (i v : Nat) (L : List Nat), i ≤ l.length ∧ si = .int .i64 ((i : Int) - 1) ∧ sv = .int .u64 v ∧ v < b ∧ Row .u32 31 wr w.heap.size L ∧ L.length = l.length ∧ Dg L ∧ Hid (val (L.drop i) * b + v = val (l.drop i)) ∧ Below w.heap.size w wr)
    (fun _ si _ => (intOf si + 1).toNat)
  case atStart => exact ⟨l.length, 0, _, Nat.le_refl _, rfl, rfl, hb0, hR0, by simp, Dg.noughts _, by show _ = _; simp [val], (Below.refl _ _).alloc (Nat.le_refl _) _⟩
  case round =>
    obtain ⟨i, v, L, hi, rfl, rfl, hv, hR, hL, hdL, Hval, hbel⟩ := hrel
    have hz := Holds.lt hR
    have HL := Lib.hid hL
    clear hL
    have hfr := hR.open_
    rcases i with _ | m
    · have hfin : val L * b + v = val l := Hval.out
      have Hq := Lib.hid (show val L = val l / b by
        rw [← hfin, Nat.mul_comm, Nat.mul_add_div (by omega), Nat.div_eq_of_lt hv, Nat.add_zero])
      have Hm := Lib.hid (show v = val l % b by
        rw [← hfin, Nat.mul_comm, Nat.mul_add_mod, Nat.mod_eq_of_lt hv])
      clear hfin
      go_wp2_with fail
      refine (trim_at wr _ _ l.length l.length L (rd_whole hR (Nat.le_of_eq HL.out) (by omega)) HL.out).mono ?_
      rintro e w1 ⟨rfl, rfl⟩
      go_wp2_with fail
      have hT : Row .u32 31 (wr.alloc (.cells #[.int .u32 v] 31)) wr.heap.size [v] := Holds.fresh _ _ _
      refine (trim_at _ _ _ 1 1 [v] (rd_whole hT (by simp) (by omega)) rfl).mono ?_
      rintro e w1 ⟨rfl, rfl⟩
      go_wp2_with fail
      go_ret2
      refine ⟨_, _, trl L, _, _, trl [v], rfl, num_trl hdL Hq.out, by rw [← Hm.out]; exact one_digit v (by omega), fresh_trl (Holds.alloc hR _) (Nat.le_refl _) (Nat.le_of_eq HL.out) (by omega), fresh_trl hT (by omega) (by simp) (by omega), hbel.alloc hbel.size _⟩
    · rw [show (((m + 1 : Nat) : Int) - 1) = (m : Int) from by omega]
      obtain ⟨bb, off, x, rfl, hbb, hx, Hx⟩ := (hr.under (hbel.mono hB)).at_ (i := m) (by omega)
      have hxl : x < 4294967296 := by rw [Hx.out]; exact hd.at_ m
      have hcell := hR.cell (i := m) (by rw [HL.out]; omega)
      have hor := or_u64 v x (by omega) hxl
      have hfit := short_fit hv hxl
      have hst0 := short_step (by rw [HL.out]; omega) (by omega) Hval.out Hx.out (m := m)
      have Hst := Lib.hid hst0
      clear hst0
      obtain ⟨t, Ht⟩ : ∃ t, Hid (t = v * 4294967296 + x) := ⟨_, rfl⟩
      rw [← Ht.out] at hor hfit Hst
      have htl : t < 18446744073709551616 := by rw [Ht.out]; omega
      have hbi : ((b : Int) == 0) = false := by simp; omega
      obtain ⟨d, Hd⟩ : ∃ d, Hid (d = t / b) := ⟨_, rfl⟩
      obtain ⟨z, Hz⟩ : ∃ z, Hid (z = t % b) := ⟨_, rfl⟩
      have hzb : z < b := by rw [Hz.out]; exact Nat.mod_lt _ hb0
      have hw1 : IntKind.u64.wrap ((t : Int) / (b : Int)) = (d : Int) := by
        have e : ((t : Int) / (b : Int)) = (d : Int) := by rw [Hd.out]; rfl
        rw [e]
        exact u64_in _ (by omega) (by rw [← Hd.out] at hfit; omega)
      have Hw2 := Lib.hid (show (t : Int) % (b : Int) = (z : Int) by rw [Hz.out]; rfl)
      rw [← Hd.out] at hfit Hst
      rw [← Hz.out] at Hst
      go_wp2_with fail
      have hst := hR.set m d
      exact ⟨⟨m, z, _, by omega, rfl, congrArg (Value.int IntKind.u64) Hw2.out, hzb, hst, by rw [List.length_set]; exact HL.out, hdL.set _ _ hfit, Hst.out, hbel.setCell (Nat.le_refl _) _⟩, by simp [intOf]⟩

theorem or_u64' (o x s : Nat) (ho : o < 2 ^ s) (hx : x < 4294967296) (hs : s < 32) : bits .or .u64 (o : Int) (IntKind.u64.wrap ((x : Int) * 2 ^ s)) = ((x * 2 ^ s + o : Nat) : Int) := by
  have h2 : 2 ^ s ≤ 2 ^ 31 := Nat.pow_le_pow_right (by omega) (by omega)
  have h1 : x * 2 ^ s ≤ 4294967295 * 2 ^ s := Nat.mul_le_mul_right _ (by omega)
  have := u64_or_nat o (x * 2 ^ s) (by omega) (by omega)
  rw [or_shift x s o ho] at this
  have e : ((x : Int) * 2 ^ s) = ((x * 2 ^ s : Nat) : Int) := by rw [Int.natCast_mul, Int.natCast_pow]; rfl
  rw [e, u64_in _ (by omega) (by omega)]
  exact this

set_option maxRecDepth 100000 in
theorem shifted_any (w : World) (B : Nat) (A : Option Addr) (c : Nat) (l : List Nat) (hr : Rd .u32 w B A c l) (hB : B ≤ w.heap.size) (hd : Dg l) (hls : l.length ≤ 5000) (s : Nat) (hs : s < 32) :
    Calls Try.prog 44 #[.slice A l.length c, .int .i64 s] w fun e w' => ∃ L, e = .returned (.slice (some ⟨w.heap.size, 0, none⟩) (l.length + 1) (l.length + 1)) ∧ L.length = l.length + 1 ∧ Dg L ∧ val L = val l * 2 ^ s ∧ Row .u32 31 w' w.heap.size L ∧ Below w.heap.size w w' := by
  have hlc : l.length ≤ c := hr.1
  have hc63 : c ≤ 9223372036854775807 := hr.2.1
  have hmk := make_nat ((l.length : Int) + 1) (l.length + 1) (by omega) (by omega)
  go_enter Try.func44, Try.ntmps44
  go_wp2_with fail
  have hR0 : Row .u32 31 (w.alloc (.cells (nums .u32 (List.replicate (l.length + 1) 0)) 31)) w.heap.size (List.replicate (l.length + 1) 0) := Holds.fresh _ _ _
  clear hmk
  go_loopw [6, 15] (fun ov si wr => ∃ (i o : Nat) (L : List Nat), i ≤ l.length ∧ si = .int .i64 i ∧ ov = .int .u64 o ∧ o < 4294967296 ∧ Hid (o < 2 ^ s) ∧ Row .u32 31 wr w.heap.size L ∧ L.length = l.length + 1 ∧ Dg L ∧ Hid (val (L.take i) + pw i * o = val (l.take i) * 2 ^ s) ∧ Below w.heap.size w wr)
    (fun _ si _ => l.length - (intOf si).toNat)
  case atStart => exact ⟨0, 0, _, by omega, rfl, rfl, by omega, Nat.pow_pos (by omega), hR0, by simp, Dg.noughts _, by show _ = _; simp [val], (Below.refl _ _).alloc (Nat.le_refl _) _⟩
  case round =>
    obtain ⟨i, o, L, hi, rfl, rfl, ho, Ho, hR, hL, hdL, Hval, hbel⟩ := hrel
    have hz := Holds.lt hR
    have HL := Lib.hid hL
    clear hL
    have hfr := hR.open_
    by_cases h : i < l.length
    · obtain ⟨b, off, x, rfl, hb, hx, Hx⟩ := (hr.under (hbel.mono hB)).at_ h
      have hxl : x < 4294967296 := by rw [Hx.out]; exact hd.at_ i
      have hcell := hR.cell (i := i) (by rw [HL.out]; omega)
      have hor := or_u64' o x s Ho.out hxl hs
      obtain ⟨t, Ht⟩ : ∃ t, Hid (t = x * 2 ^ s + o) := ⟨_, rfl⟩
      obtain ⟨hf1, hf2⟩ := shl_fit hxl hs Ho.out
      rw [← Ht.out] at hor hf1 hf2
      have Hf2 := Lib.hid hf2
      clear hf2
      have hsi : (s : Int) < 64 := by omega
      go_wp2_with fail
      have hst := hR.set i (t % 4294967296)
      have hv := shl_step (by rw [HL.out]; omega) Hval.out Hx.out Ht.out
      exact ⟨⟨i + 1, t / 4294967296, _, by omega, by go_num, by go_num, by omega, Hf2.out, hst, by rw [List.length_set]; exact HL.out, hdL.set _ _ (by omega), hv, hbel.setCell (Nat.le_refl _) _⟩, by simp [intOf]; omega⟩
    · have Hi := Lib.hid (show i = l.length by omega)
      have hcell := hR.cell (i := l.length) (by rw [HL.out]; omega)
      have Hlen := Lib.hid (show (L.set l.length o).length = l.length + 1 by rw [List.length_set]; exact HL.out)
      have Hdg := Lib.hid (hdL.set l.length o ho)
      have Hv := Lib.hid (show val (L.set l.length o) = val l * 2 ^ s by
        have h1 := take_set_succ L l.length o (by rw [HL.out]; omega)
        rw [val_take_all _ _ (by rw [List.length_set, HL.out]; omega)] at h1
        have h2 := Hval.out
        rw [Hi.out, val_take_all l _ (Nat.le_refl _)] at h2
        rw [h1, h2])
      go_wp2_with fail
      have hst := hR.set l.length o
      go_ret
      exact ⟨_, rfl, Hlen.out, Hdg.out, Hv.out, hst, hbel.setCell (Nat.le_refl _) _⟩

theorem or_u64'' (h x : Nat) (hh : h < 4294967296) (hx : x < 4294967296) : bits .or .u64 ((h : Int) * 4294967296) (x : Int) = ((h * 4294967296 + x : Nat) : Int) := or_u64 h x hh hx

set_option maxRecDepth 100000 in
theorem back_any (w : World) (g n c : Nat) (L : List Nat) (hR : Row .u32 31 w g L) (hn : L.length = n) (hnc : n ≤ c) (hc63 : c ≤ 9223372036854775807) (hd : Dg L) (hls : n ≤ 6000) (s : Nat) (hs : s < 32) :
    Calls Try.prog 46 #[.slice (some ⟨g, 0, none⟩) n c, .int .i64 s] w fun e w' => ∃ L', e = .returned (.slice (some ⟨g, 0, none⟩) (trl L').length c) ∧ L'.length = n ∧ Dg L' ∧ val L' = val L / 2 ^ s ∧ Row .u32 31 w' g L' ∧ w.grownBy w' (some g) := by
  go_enter Try.func46, Try.ntmps46
  go_wp2_with fail
  go_loopw [5, 6] (fun ov si wr => ∃ (i h : Nat) (L2 : List Nat), i ≤ n ∧ si = .int .i64 ((i : Int) - 1) ∧ ov = .int .u64 ((h : Int) * 4294967296) ∧ h < 4294967296 ∧ L2.length = n ∧ Dg L2 ∧ Row .u32 31 wr g L2 ∧ w.grownBy wr (some g) ∧
      Hid (h = val (L.drop i) % 4294967296) ∧ Hid (val (L2.drop i) = val (L.drop i) / 2 ^ s) ∧ Hid (∀ j, j < i → L2.getD j 0 = L.getD j 0))
    (fun _ si _ => (intOf si + 1).toNat)
  case atStart => exact ⟨n, 0, L, Nat.le_refl _, rfl, rfl, by omega, hn, hd, hR, World.grownBy.refl w _, by show _ = _; rw [val_drop_all _ (Nat.le_of_eq hn)], by show _ = _; rw [val_drop_all _ (Nat.le_of_eq hn)]; simp, fun _ _ => rfl⟩
  case round =>
    obtain ⟨i, h, L2, hi, rfl, rfl, hh, hL2, hd2, hR2, hgr, Hh, Hval, Hlow⟩ := hrel
    have HL2 := Lib.hid hL2
    clear hL2
    have hfr := hR2.open_
    rcases i with _ | m
    · go_wp2_with fail
      refine (trim_at wr _ _ c n L2 (rd_whole hR2 (by rw [HL2.out]; exact hnc) hc63) HL2.out).mono ?_
      rintro e w1 ⟨rfl, rfl⟩
      go_wp2_with fail
      go_ret
      exact ⟨L2, rfl, HL2.out, hd2, Hval.out, hR2, hgr⟩
    · rw [show (((m + 1 : Nat) : Int) - 1) = (m : Int) from by omega]
      have hcell := hR2.cell (i := m) (by rw [HL2.out]; omega)
      obtain ⟨x, Hx⟩ : ∃ x, Hid (x = L2.getD m 0) := ⟨_, rfl⟩
      rw [← Hx.out] at hcell
      have hxl : x < 4294967296 := by rw [Hx.out]; exact hd2.at_ m
      have hor := or_u64'' h x hh hxl
      obtain ⟨t, Ht⟩ : ∃ t, Hid (t = h * 4294967296 + x) := ⟨_, rfl⟩
      rw [← Ht.out] at hor
      have htl : t < 18446744073709551616 := by rw [Ht.out]; omega
      have hsi : (s : Int) < 64 := by omega
      have Hw := Lib.hid (show IntKind.u64.wrap ((t : Int) * 4294967296) = (x : Int) * 4294967296 by
        rw [show IntKind.u64.wrap ((t : Int) * 4294967296) = ((t : Int) * 4294967296) % 18446744073709551616 by simp [IntKind.wrap, IntKind.bits, IntKind.signed]]
        have := Ht.out
        omega)
      have hxL : L.getD m 0 = x := by rw [Hx.out, Hlow.out m (by omega)]
      have hbs := back_step x h (val (L.drop (m + 1))) s hs hxl Hh.out
      rw [← Ht.out] at hbs
      have Hbs := Lib.hid (show val ((L2.set m (t / 2 ^ s % 4294967296)).drop m) = val (L.drop m) / 2 ^ s by
        rw [val_drop_set _ (by rw [HL2.out]; omega), Hval.out, val_drop L (i := m) (by omega), hxL]
        exact hbs)
      have Hxm := Lib.hid (show x = val (L.drop m) % 4294967296 by
        rw [val_drop L (i := m) (by omega), hxL]
        omega)
      clear hbs hxL
      go_wp2_with fail
      have hst := hR2.set m (t / 2 ^ s % 4294967296)
      rw [Int.natCast_emod, Int.natCast_ediv, Int.natCast_pow] at hst
      exact ⟨⟨m, x, _, by omega, rfl, congrArg (Value.int IntKind.u64) Hw.out, hxl, by rw [List.length_set]; exact HL2.out, hd2.set _ _ (Nat.mod_lt _ (by omega)), hst, one_setCell hgr _ _, Hxm.out, Hbs.out, fun j hj => by rw [getD_set, if_neg (by omega)]; exact Hlow.out j (by omega)⟩, by simp [intOf]⟩
end Go.Proofs.Ytphfgchfphdcaaa
