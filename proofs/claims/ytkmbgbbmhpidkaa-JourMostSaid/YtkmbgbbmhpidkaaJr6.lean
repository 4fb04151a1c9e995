/-
  Many sectors at once: the sectors that tell places; the log; a commit.
-/
import Derived.Test.YtkmbgbbmhpidkaaJr5
namespace Go.Proofs.Ytkmbgbbmhpidkaa
open Go.RowKit
set_option linter.unusedVariables false
set_option linter.unusedSimpArgs false
attribute [local go_sem ↓] Go.wp_at_zero Go.wp_at_succ

theorem secOf_take (l : List Nat) : secOf (l.take 64) = secOf l := by
  unfold secOf
  rw [List.length_take, Nat.min_comm 64, Nat.min_eq_left (Nat.min_le_right _ _)]
  have key : ∀ k, k ≤ 64 → fillS (l.take 64) k = fillS l k := by
    intro k
    induction k with
    | zero => intro _; rfl
    | succ k ih =>
      intro hk
      rw [fillS, fillS, ih (by omega)]
      congr 1
      simp [List.getD, List.getElem?_take, show k < 64 by omega]
  exact key _ (Nat.min_le_right _ _)
theorem secOf_grow {l : List Nat} {k : Nat} (h : k < l.length) (h2 : k < 64) : secOf (l.take (k + 1)) = (secOf (l.take k)).set k (l.getD k 0) := by
  rw [secOf_short (by rw [List.length_take]; omega), secOf_short (by rw [List.length_take]; omega)]
  have hk : (l.take k).length = k := by rw [List.length_take]; omega
  have hk1 : (l.take (k + 1)).length = k + 1 := by rw [List.length_take]; omega
  have hz : zsec.drop k = 0 :: zsec.drop (k + 1) := by
    rw [List.drop_eq_getElem_cons (by rw [zsec, List.length_replicate]; omega)]
    congr 1
    exact List.getElem_replicate _
  rw [hk, hk1, hz, List.set_append_right _ _ (by omega), hk, Nat.sub_self, List.set_cons_zero, List.take_add_one, List.getElem?_eq_getElem h, List.append_assoc]
  simp [List.getD, h]
theorem places_length (L : List (Int × List Nat)) : (placesB L).length = 2 * L.length := flat_length (f := fun p : Int × List Nat => two8 p.1.toNat) (m := 2) (fun x _ => rfl)
theorem places_at {L : List (Int × List Nat)} {k : Nat} {p : Int × List Nat} (h : L[k]? = some p) : (placesB L).getD (2 * k) 0 = p.1.toNat / 256 % 256 ∧ (placesB L).getD (2 * k + 1) 0 = p.1.toNat % 256 := by
  have f := fun j (hj : j < 2) => flat_at (f := fun p : Int × List Nat => two8 p.1.toNat) (m := 2) (fun x _ => rfl) h hj
  have f0 := f 0 (by omega)
  have f1 := f 1 (by omega)
  refine ⟨?_, ?_⟩
  · rw [List.getD, placesB, show 2 * k = 2 * k + 0 by omega, f0]; rfl
  · rw [List.getD, placesB, f1]; rfl
def RelSh (w : World) (X : List Nat) (n t : Nat) (i : Value) (wr : World) : Prop :=
  ∃ k : Nat, 32 * t ≤ k ∧ k ≤ n ∧ k ≤ 32 * (t + 1) ∧ i = .int .i64 k ∧ Row .u8 5 wr w.heap.size (secOf (X.take (2 * (k - 32 * t)))) ∧ Below w.heap.size w wr
set_option maxRecDepth 100000 in
set_option maxHeartbeats 4000000 in
theorem sheet_any (w : World) (A : Option Addr) (c n : Nat) (l : List Wr) (hl : l.length = n) (hr : RdWr A c l w) (hn : n ≤ 1000) (hat : ∀ x ∈ l, 0 ≤ x.at_ ∧ x.at_ < 65536) (t : Nat) (ht : t < sheetsN n) :
    Calls Try.prog 62 #[.slice A n c, .int .i64 (t : Int)] w fun e w' => e = .returned (.slice (some ⟨w.heap.size, 0, none⟩) 64 64) ∧ Row .u8 5 w' w.heap.size (shB (wv l) t) ∧ Below w.heap.size w w' := by
  obtain ⟨X, hX⟩ : ∃ X, X = (placesB (wv l)).drop (64 * t) := ⟨_, rfl⟩
  unfold sheetsN at ht
  have hsh : shB (wv l) t = secOf X := by rw [hX]; rfl
  rw [hsh]
  have HXL : Hid (X.length = 2 * n - 64 * t) := Lib.hid (by rw [hX, List.length_drop, places_length, wv_length, hl])
  have HXA : Hid (∀ k, 32 * t ≤ k → k < n → X.getD (2 * (k - 32 * t)) 0 = (l.getD k default).at_.toNat / 256 % 256 ∧ X.getD (2 * (k - 32 * t) + 1) 0 = (l.getD k default).at_.toNat % 256 ∧ 0 ≤ (l.getD k default).at_ ∧ (l.getD k default).at_ < 65536) := Lib.hid fun k h1 h2 => by
    obtain ⟨p1, p2⟩ := places_at (wv_at (l := l) (j := k) (by omega))
    refine ⟨?_, ?_, hat _ (getD_memJ (by omega))⟩
    · rw [hX, List.getD, List.getElem?_drop, show 64 * t + 2 * (k - 32 * t) = 2 * k by omega]; exact p1
    · rw [hX, List.getD, List.getElem?_drop, show 64 * t + (2 * (k - 32 * t) + 1) = 2 * k + 1 by omega]; exact p2
  have HR := Lib.hid hr
  have HL := Lib.hid hl
  have hnc : n ≤ c := by have := hr.1; omega
  have hc63 := hr.2.1
  have HH := Lib.hid (headed_nil w)
  have ht2 : t ≤ 40 := by omega
  have ht32 : 32 * t ≤ n := by omega
  clear hX hsh hat hr hl
  have hm1 : IntKind.i64.wrap ((t : Int) * 32) = ((32 * t : Nat) : Int) := by rw [IntWalk.i64_in _ (by omega)]; omega
  have hm2 : IntKind.i64.wrap (((t : Int) + 1) * 32) = ((32 * (t + 1) : Nat) : Int) := by rw [IntWalk.i64_in _ (by omega)]; omega
  go_enter Try.func62, Try.ntmps62
  go_wp2_with fail
  refine HH.out.mono ?_
  rintro e w1 ⟨rfl, hr1, hb1⟩
  have HR1 := Lib.hid hr1
  have HB1 := Lib.hid hb1
  clear hr1 hb1 HH
  go_wp2_with fail
  go_loopw [6] (fun i wr => RelSh w X n t i wr) (fun i _ => n - (intOf i).toNat)
  case atStart => exact ⟨32 * t, Nat.le_refl _, ht32, by omega, by go_num, by rw [Nat.sub_self]; exact HR1.out, HB1.out⟩
  case round =>
    obtain ⟨k, hk1, hk2, hk3, rfl, hrow, hb⟩ := hrel
    obtain ⟨V, hV⟩ : ∃ V, V = wr := ⟨_, rfl⟩
    subst hV
    have HROW := Lib.hid hrow
    have HB := Lib.hid hb
    clear hrow hb
    by_cases hlt : k < n ∧ k < 32 * (t + 1)
    case pos =>
      obtain ⟨hlt, hlt2⟩ := hlt
      have hkI : (k : Int) < (n : Int) := by omega
      have hk0 : (0 : Int) ≤ (k : Int) := by omega
      have hkd : decide ((k : Int) < ((32 * (t + 1) : Nat) : Int)) = true := decide_eq_true (by omega)
      obtain ⟨b, off, rfl, hb, hc0, _, _⟩ := HR.out.at_ (j := k) (by rw [HL.out]; exact hlt)
      obtain ⟨p1, p2, ha0, ha1⟩ := HXA.out k hk1 hlt
      obtain ⟨y, hy⟩ : ∃ y : Nat, (l.getD k default).at_ = (y : Int) := ⟨(l.getD k default).at_.toNat, by omega⟩
      rw [hy] at hc0 ha1 p1 p2
      rw [Int.toNat_natCast] at p1 p2
      have hy6 : y < 65536 := by omega
      have hc := (HB.out.cell (p := ⟨b, off + k * 2, none⟩) hb).trans hc0
      have hne : b ≠ w.heap.size := by omega
      obtain ⟨a, ha⟩ : ∃ a, a = k - 32 * t := ⟨_, rfl⟩
      have hmod : (k : Int) % 32 = (a : Int) := by omega
      rw [← ha] at p1 p2
      have ha32 : a < 32 := by omega
      have hXl : 2 * a + 1 < X.length := by rw [HXL.out]; omega
      have hrow := HROW.out
      rw [← ha] at hrow
      have HR2 : Hid (Row .u8 5 ((V.setCell ⟨w.heap.size, a * 2, none⟩ (.int .u8 ((y : Int) / 256))).setCell ⟨w.heap.size, a * 2 + 1, none⟩ (.int .u8 ((y : Int) % 256))) w.heap.size (secOf (X.take (2 * (k + 1 - 32 * t))))) := Lib.hid (by
        have h := (hrow.set (2 * a) (y / 256)).set (2 * a + 1) (y % 256)
        rw [show 2 * (k + 1 - 32 * t) = 2 * a + 1 + 1 by omega, secOf_grow (by omega) (by omega), secOf_grow (by omega) (by omega), p1, p2, Nat.mod_eq_of_lt (show y / 256 < 256 by omega)]
        rw [Nat.mul_comm a 2]
        exact h)
      have HB2 := Lib.hid ((HB.out.setCell (p := ⟨w.heap.size, a * 2, none⟩) (Nat.le_refl _) (.int .u8 ((y : Int) / 256))).setCell (p := ⟨w.heap.size, a * 2 + 1, none⟩) (Nat.le_refl _) (.int .u8 ((y : Int) % 256)))
      have k0 := hrow.cell (i := a * 2) (by rw [secOf_length]; omega)
      have k1 := hrow.cell (i := a * 2 + 1) (by rw [secOf_length]; omega)
      have f0 := hrow.open_ (a * 2)
      have f1 := hrow.open_ (a * 2 + 1)
      have hkw : IntKind.i64.wrap ((k : Int) + 1) = (k : Int) + 1 := IntWalk.i64_in _ (by omega)
      have hi0 : (0 : Int) ≤ (a : Int) * 2 := by omega
      have hi1 : (a : Int) * 2 < 64 := by omega
      have hi2 : (0 : Int) ≤ (a : Int) * 2 + 1 := by omega
      have hi3 : (a : Int) * 2 + 1 < 64 := by omega
      clear hrow hc0 p1 p2 ha0 ha1 hy ha hXl
      go_wp2_with fail
      go_roundw
      case rel => exact ⟨k + 1, by omega, by omega, by omega, by go_num, HR2.out, HB2.out⟩
      case measure => simp [intOf]; omega
    case neg =>
      have HX : Hid (secOf (X.take (2 * (k - 32 * t))) = secOf X) := Lib.hid (by
        by_cases h : k < n
        · rw [show 2 * (k - 32 * t) = 64 by omega, secOf_take]
        · rw [List.take_of_length_le (by rw [HXL.out]; omega)])
      rw [HX.out] at HROW
      clear HX
      by_cases h : k < n
      · have hkI : (k : Int) < (n : Int) := by omega
        have hkd : decide ((k : Int) < ((32 * (t + 1) : Nat) : Int)) = false := decide_eq_false (by omega)
        go_wp2_with fail
        go_ret
        exact ⟨rfl, HROW.out, HB.out⟩
      · have hkI : ¬ ((k : Int) < (n : Int)) := by omega
        go_wp2_with fail
        go_ret
        exact ⟨rfl, HROW.out, HB.out⟩
/-! The log. -/
theorem logD_at {l : List Wr} {j : Nat} (h : j < l.length) : (logD (wv l))[j]? = some (((2 + sheetsN l.length + j : Nat) : Int), (l.getD j default).d) := by
  unfold logD
  rw [List.getElem?_mapIdx, wv_at h, wv_length]; rfl
theorem logD_length (L : List (Int × List Nat)) : (logD L).length = L.length := by simp [logD]
theorem logS_length (L : List (Int × List Nat)) : (logS L).length = sheetsN L.length := by simp [logS]
theorem logS_at {L : List (Int × List Nat)} {t : Nat} (h : t < sheetsN L.length) : (logS L)[t]? = some (((2 + t : Nat) : Int), shB L t) := by
  unfold logS
  rw [List.getElem?_map, List.getElem?_range h]; rfl
/-- Rounds of writes: a list of writes done up to k. -/
def RelPu (w : World) (F : Nat → Prop) (gd : Nat) (s : Dk) (L : List (Int × List Nat)) (n : Nat) (i : Value) (wr : World) : Prop :=
  ∃ k : Nat, k ≤ n ∧ i = .int .i64 k ∧ (s.puts (L.take k)).2 = 0 ∧ DJ w F gd (s.puts (L.take k)).1 wr
theorem put_go {s : Dk} {L : List (Int × List Nat)} {k : Nat} {p : Int × List Nat} (h : L[k]? = some p) (hp : (s.puts (L.take k)).2 = 0) : s.puts (L.take (k + 1)) = (s.puts (L.take k)).1.write p.1 p.2 := by rw [take_snocJ h, puts_snoc hp]
theorem put_stop {s : Dk} {L : List (Int × List Nat)} {k : Nat} {p : Int × List Nat} (h : L[k]? = some p) (hp : (s.puts (L.take k)).2 = 0) (hw : ((s.puts (L.take k)).1.write p.1 p.2).2 ≠ 0) : s.putf L = (s.puts (L.take k)).1.write p.1 p.2 := by
  have h1 : s.puts L = (s.puts (L.take k)).1.write p.1 p.2 := (congrArg s.puts (split_at h)).trans (puts_stop hp hw)
  rw [putf_stop (by rw [h1]; exact hw), h1]
theorem bound_take {s : Dk} {L : List (Int × List Nat)} {n : Nat} (hn : L.length ≤ n) (k : Nat) : (s.puts (L.take k)).1.waits.length ≤ s.waits.length + n ∧ (s.puts (L.take k)).1.ops ≤ s.ops + n := by
  have h1 := puts_le s (L.take k)
  have h2 : (L.take k).length ≤ L.length := by rw [List.length_take]; omega
  omega
section
variable {w : World} {F : Nat → Prop} {gd : Nat} {s : Dk}
set_option maxRecDepth 100000 in
set_option maxHeartbeats 8000000 in
theorem note_any (h : Disk w F gd s) (A : Option Addr) (c n : Nat) (l : List Wr) (hl : l.length = n) (hr : OffF F (RdWr A c l) w) (hn : n ≤ 1000) (hat : ∀ x ∈ l, 0 ≤ x.at_ ∧ x.at_ < 65536) (hwl : s.waits.length ≤ 80000) (hops : s.ops ≤ 800000000) :
    Calls Try.prog 33 #[.pointer (some ⟨gd, 0, none⟩), .slice A n c] w fun e w' => e = .returned (.int .i64 ((s.putf (logD (wv l) ++ logS (wv l))).2 : Nat)) ∧ DJ w F gd (s.putf (logD (wv l) ++ logS (wv l))).1 w' := by
  obtain ⟨L, hL⟩ : ∃ L, L = logD (wv l) ++ logS (wv l) := ⟨_, rfl⟩
  obtain ⟨m, hm⟩ : ∃ m, m = sheetsN n := ⟨_, rfl⟩
  have hm40 : m ≤ 40 := by rw [hm]; unfold sheetsN; omega
  rw [← hL]
  have HST := Lib.hid (DJ.start h)
  have HLn : Hid (L.length = n + m) := Lib.hid (by rw [hL, List.length_append, logD_length, logS_length, wv_length, hl, hm])
  have HLE : Hid (∀ k, (s.puts (L.take k)).1.waits.length ≤ 90000 ∧ (s.puts (L.take k)).1.ops ≤ 900000000) := Lib.hid fun k => by
    have := bound_take (s := s) (Nat.le_of_eq HLn.out) k
    omega
  have HAD : Hid (∀ k, k < n → L[k]? = some (((2 + m + k : Nat) : Int), (l.getD k default).d)) := Lib.hid fun k hk => by
    rw [hL, List.getElem?_append_left (by rw [logD_length, wv_length]; omega), logD_at (by omega), hl, hm]
  have HAS : Hid (∀ t, t < m → L[n + t]? = some (((2 + t : Nat) : Int), shB (wv l) t)) := Lib.hid fun t ht => by
    rw [hL, List.getElem?_append_right (by rw [logD_length, wv_length]; omega), logD_length, wv_length, hl, Nat.add_sub_cancel_left, logS_at (by rw [wv_length, hl, ← hm]; exact ht)]
  have HSH := Lib.hid fun (w1 : World) (hr : RdWr A c l w1) (t : Nat) (ht : t < m) => sheet_any w1 A c n l hl hr hn hat t (by rw [← hm]; exact ht)
  have HNN := Lib.hid fun (w1 : World) => sheets_any w1 n (by omega)
  rw [← hm] at HNN
  have HR := Lib.hid hr
  have HL := Lib.hid hl
  have hnc : n ≤ c := by have := hr.at_.1; omega
  have hc63 := hr.at_.2.1
  obtain ⟨SB, hSB⟩ : ∃ f, f = shB (wv l) := ⟨_, rfl⟩
  rw [← hSB] at HAS HSH
  have HSB : Hid (∀ t, (SB t).length = 64) := Lib.hid fun t => by rw [hSB]; exact secOf_length _
  clear h hr hwl hops hat hl hL hm hSB
  go_enter Try.func33, Try.ntmps33
  go_wp2_with (first | (refine (HNN.out _).mono ?_; rintro e w1 ⟨rfl, rfl⟩) | fail)
  have hw5 : IntKind.i64.wrap (2 + (m : Int)) = 2 + (m : Int) := IntWalk.i64_in _ (by omega)
  go_loopw [17] (fun i wr => RelPu w F gd s L n i wr) (fun i _ => n - (intOf i).toNat)
  case atStart => exact ⟨0, Nat.zero_le _, rfl, rfl, HST.out⟩
  case round =>
    obtain ⟨k, hk, rfl, hp, hd⟩ := hrel
    obtain ⟨V, hV⟩ : ∃ V, V = wr := ⟨_, rfl⟩
    subst hV
    have HP := Lib.hid hp
    have HD := Lib.hid hd
    clear hp hd
    by_cases hlt : k < n
    case pos =>
      have hkI : (k : Int) < (n : Int) := by omega
      have hk0 : (0 : Int) ≤ (k : Int) := by omega
      obtain ⟨b, off, rfl, hb, hc0, hc1, hrd⟩ := (HD.out.rd HR.out).at_ (j := k) (by rw [HL.out]; exact hlt)
      have hLk := HAD.out k hlt
      have HSN := Lib.hid (put_go hLk HP.out)
      have HSP := Lib.hid (put_stop hLk HP.out)
      obtain ⟨x, hx⟩ : ∃ x, x = l.getD k default := ⟨_, rfl⟩
      rw [← hx] at hc0 hc1 hrd HSN HSP
      obtain ⟨xa, da, dc, xd⟩ := x
      dsimp only at *
      obtain ⟨dn, hdn⟩ : ∃ d, xd.length = d := ⟨_, rfl⟩
      rw [hdn] at hc1
      have hbv : Below V.heap.size V (V.alloc (.cells #[.int .i64 xa, .slice da dn dc] 42)) := (Below.refl _ _).alloc (Nat.le_refl _) _
      have hh := Holds.fresh V 42 #[.int .i64 xa, .slice da dn dc]
      have z0 := hh.cell 0
      have z1 := hh.cell 1
      have hw : IntKind.i64.wrap (2 + (m : Int) + (k : Int)) = 2 + (m : Int) + (k : Int) := IntWalk.i64_in _ (by omega)
      have HW := Lib.hid ((HD.out.below hbv).write (2 + (m : Int) + (k : Int)) da dn dc xd hdn ((hrd.under hbv).more hbv.size) (by have := HLE.out k; omega) (by have := HLE.out k; omega))
      have hkw : IntKind.i64.wrap ((k : Int) + 1) = (k : Int) + 1 := IntWalk.i64_in _ (by omega)
      have hcast : ((2 + m + k : Nat) : Int) = 2 + (m : Int) + (k : Int) := by omega
      rw [hcast] at HSN HSP
      clear hLk hrd hbv hh hx hcast
      go_wp2_with fail
      refine HW.out.mono ?_
      rintro e w2 ⟨rfl, hd2⟩
      have HD2 := Lib.hid hd2
      generalize (s.puts (L.take k)).1.write (2 + (m : Int) + (k : Int)) xd = q at *
      obtain ⟨s1, e1⟩ := q
      dsimp only at *
      clear hd2 HW HD HP z0 z1 hc0 hc1
      by_cases h0 : e1 = 0
      · subst h0
        clear HSP
        go_wp2_with fail
        go_roundw
        case rel => exact ⟨k + 1, by omega, by go_num, by rw [HSN.out], by rw [HSN.out]; exact HD2.out⟩
        case measure => simp [intOf]; omega
      · have HRE := Lib.hid (HSP.out h0)
        have d0 : ((e1 : Int) == 0) = false := by rw [beq_eq_false_iff_ne]; omega
        have d1 : ((e1 : Int) != 0) = true := by rw [bne, d0]; rfl
        clear HSN HSP
        go_wp2_with fail
        go_ret
        rw [HRE.out]
        exact ⟨rfl, HD2.out⟩
    case neg =>
      obtain rfl : k = n := by omega
      have hkI : ¬ ((k : Int) < (k : Int)) := by omega
      go_wp2_with (first | (refine (HNN.out _).mono ?_; rintro e w1 ⟨rfl, rfl⟩) | fail)
      go_loopw [36] (fun i wr => ∃ t : Nat, t ≤ m ∧ i = .int .i64 t ∧ (s.puts (L.take (k + t))).2 = 0 ∧ DJ w F gd (s.puts (L.take (k + t))).1 wr) (fun i _ => m - (intOf i).toNat)
      case atStart => exact ⟨0, Nat.zero_le _, rfl, HP.out, HD.out⟩
      case round =>
        clear HP HD
        obtain ⟨t, ht, rfl, hp, hd⟩ := hrel
        obtain ⟨V2, hV2⟩ : ∃ V, V = wr := ⟨_, rfl⟩
        subst hV2
        have HP := Lib.hid hp
        have HD := Lib.hid hd
        clear hp hd
        by_cases hlt : t < m
        case pos =>
          have htI : (t : Int) < (m : Int) := by omega
          have hLk := HAS.out t hlt
          have HSN := Lib.hid (put_go hLk HP.out)
          have HSP := Lib.hid (put_stop hLk HP.out)
          have HSV := Lib.hid (HSH.out V2 (HD.out.rd HR.out) t hlt)
          have HLT := Lib.hid (HLE.out (k + t))
          have hw : IntKind.i64.wrap (2 + (t : Int)) = 2 + (t : Int) := IntWalk.i64_in _ (by omega)
          have htw : IntKind.i64.wrap ((t : Int) + 1) = (t : Int) + 1 := IntWalk.i64_in _ (by omega)
          have hcast : ((2 + t : Nat) : Int) = 2 + (t : Int) := by omega
          rw [hcast] at HSN HSP
          dsimp only at HSN HSP
          clear hLk hcast
          go_wp2_with fail
          refine HSV.out.mono ?_
          rintro e w2 ⟨rfl, hr2, hb2⟩
          have HW := Lib.hid ((HD.out.below hb2).write (2 + (t : Int)) (some ⟨V2.heap.size, 0, none⟩) 64 64 (SB t) (HSB.out t) (Row.rd64 hr2 (HSB.out t)) (by have := HLT.out; omega) (by have := HLT.out; omega))
          clear hr2 hb2 HSV HD HLT
          go_wp2_with fail
          refine HW.out.mono ?_
          rintro e w3 ⟨rfl, hd2⟩
          have HD2 := Lib.hid hd2
          generalize (s.puts (L.take (k + t))).1.write (2 + (t : Int)) (SB t) = q at *
          obtain ⟨s1, e1⟩ := q
          dsimp only at *
          clear hd2 HW HP
          by_cases h0 : e1 = 0
          · subst h0
            clear HSP
            go_wp2_with fail
            go_roundw
            case rel => exact ⟨t + 1, by omega, by go_num, by rw [← Nat.add_assoc, HSN.out], by rw [← Nat.add_assoc, HSN.out]; exact HD2.out⟩
            case measure => simp [intOf]; omega
          · have HRE := Lib.hid (HSP.out h0)
            have d0 : ((e1 : Int) == 0) = false := by rw [beq_eq_false_iff_ne]; omega
            have d1 : ((e1 : Int) != 0) = true := by rw [bne, d0]; rfl
            clear HSN HSP
            go_wp2_with fail
            go_ret
            rw [HRE.out]
            exact ⟨rfl, HD2.out⟩
        case neg =>
          obtain rfl : t = m := by omega
          have htI : ¬ ((t : Int) < (t : Int)) := by omega
          have hTK : L.take (k + t) = L := List.take_of_length_le (by rw [HLn.out]; exact Nat.le_refl _)
          have h1 := HLE.out (k + t)
          rw [hTK] at HP HD h1
          have HF := Lib.hid (HD.out.flush (by omega) (by omega))
          have HPF := Lib.hid (putf_go HP.out)
          clear HP HD hTK h1
          go_wp2_with fail
          refine HF.out.mono ?_
          rintro e w2 ⟨rfl, hd2⟩
          have HD2 := Lib.hid hd2
          clear hd2 HF
          go_wp2_with fail
          go_ret
          rw [HPF.out]
          exact ⟨rfl, HD2.out⟩
end
end Go.Proofs.Ytkmbgbbmhpidkaa
