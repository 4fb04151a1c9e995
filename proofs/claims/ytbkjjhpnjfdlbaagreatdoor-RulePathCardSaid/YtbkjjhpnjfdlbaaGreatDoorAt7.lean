/-
  A small number's thing by the document; a thing as a small number by atom.
-/
import Derived.Test.YtbkjjhpnjfdlbaaGreatDoorAt6
namespace Go.Proofs.YtbkjjhpnjfdlbaaGreatDoor
open Go.RowKit
set_option linter.unusedVariables false
set_option linter.unusedSimpArgs false

set_option maxRecDepth 100000 in
set_option maxHeartbeats 4000000 in
theorem small'_any (w : World) (v : Nat) (hv : v < 18446744073709551616) :
    Calls Tryz.prog 12 #[.int .u64 (v : Int)] w fun e w' => ∃ r, e = .returned r ∧ PrimAt r w' w.heap.size 2 (intB (dg2 v)) ∧ Below w.heap.size w w' := by
  obtain ⟨V, hV⟩ : ∃ V, V = w.alloc (.cells #[.int .u8 0, .slice none 0 0, .slice none 0 0] 31) := ⟨_, rfl⟩
  have HB0 : Hid (Below w.heap.size w V) := Lib.hid (by rw [hV]; exact (Below.refl _ _).alloc (Nat.le_refl _) _)
  have hz : Holds V w.heap.size 31 #[.int .u8 0, .slice none 0 0, .slice none 0 0] := by rw [hV]; exact Holds.fresh _ _ _
  have hVs : w.heap.size < V.heap.size := hz.lt
  have HZ := Lib.hid hz
  have HV := Lib.hid hV
  obtain ⟨lo, hlo⟩ : ∃ x, x = v % 4294967296 := ⟨_, rfl⟩
  obtain ⟨hi, hhi⟩ : ∃ x, x = v / 4294967296 := ⟨_, rfl⟩
  have hw1 : IntKind.u32.wrap (v : Int) = (lo : Int) := by simp [IntKind.wrap, IntKind.signed, IntKind.bits]; omega
  have hw2 : IntKind.u32.wrap ((v : Int) / 4294967296) = (hi : Int) := by simp [IntKind.wrap, IntKind.signed, IntKind.bits]; omega
  have HLH : Hid (trl [lo, hi] = dg2 v) := Lib.hid (by rw [hlo, hhi]; rfl)
  have hVe : V.heap.size = w.heap.size + 1 := by rw [hV]; simp
  have hdl : Dg [lo, hi] := fun y hy => by
    simp only [List.mem_cons, List.not_mem_nil, or_false] at hy
    rcases hy with rfl | rfl <;> omega
  have hrow : Row .u32 36 (V.alloc (.cells #[.int .u32 (lo : Int), .int .u32 (hi : Int)] 36)) V.heap.size [lo, hi] := Holds.fresh _ _ _
  have hrd : Rd .u32 (V.alloc (.cells #[.int .u32 (lo : Int), .int .u32 (hi : Int)] 36)) (V.heap.size + 1) (some ⟨V.heap.size, 0, none⟩) 2 [lo, hi] := rd_whole hrow (by simp) (by omega)
  have HTR := Lib.hid (trim'_at _ _ _ 2 2 [lo, hi] hrd rfl)
  have HB1 : Hid (Below w.heap.size w (V.alloc (.cells #[.int .u32 (lo : Int), .int .u32 (hi : Int)] 36))) := Lib.hid (HB0.out.alloc HB0.out.size _)
  have HZ1 := Lib.hid (HZ.out.alloc (.cells #[.int .u32 (lo : Int), .int .u32 (hi : Int)] 36))
  have hlt2 : w.heap.size < (V.alloc (.cells #[.int .u32 (lo : Int), .int .u32 (hi : Int)] 36)).heap.size := HZ1.out.lt
  have HIN := Lib.hid (int'_any _ _ _ 2 _ (trl [lo, hi]) (hrd.cut _) rfl (by simp) (fun y hy => hdl y (List.mem_of_mem_take hy)) (okN_iff.2 ⟨by rw [trl_length]; exact Nat.le_trans (tlen_le _ _) (by simp), trl_nrm _⟩))
  rw [hVe] at HTR HIN
  generalize hm : (trl [lo, hi]).length = m at *
  generalize hW2 : V.alloc (.cells #[.int .u32 (lo : Int), .int .u32 (hi : Int)] 36) = W2 at *
  have HW2 := Lib.hid hW2
  have HVE := Lib.hid hVe
  clear hz hV hlo hhi hW2 hVe hdl hrow hrd hm
  go_enter Tryz.func12, Tryz.ntmps12
  go_wp2_with fail
  rw [← HV.out]
  clear HV
  rw [HW2.out]
  refine HTR.out.mono ?_
  rintro e w2 ⟨rfl, rfl⟩
  go_wp2_with fail
  refine HIN.out.mono ?_
  rintro e w4 ⟨v4, rfl, hp4, hb4⟩
  have HQ4 : Hid (Below w.heap.size w w4) := Lib.hid (HB1.out.trans (hb4.mono HB1.out.size))
  have hz4 := HZ1.out.under hb4 hlt2
  rw [HLH.out] at hp4
  have HP4 := Lib.hid hp4
  obtain ⟨A4, c4, rfl, _⟩ := hp4
  have z0 := hz4.cell 0
  have z1 := hz4.cell 1
  have z2 := hz4.cell 2
  have y0 := hz4.open_ 0
  have y1 := hz4.open_ 1
  have y2 := hz4.open_ 2
  clear hb4 HIN HTR HZ1 HW2
  go_wp2_with fail
  refine ret_one rfl rfl (((hz4.stored 0 _).stored 1 _).stored 2 _) rfl ?_
  refine ⟨_, rfl, ?_, ((HQ4.out.setCell (p := ⟨w.heap.size, 0, none⟩) (Nat.le_refl _) _).setCell (p := ⟨w.heap.size, 1, none⟩) (Nat.le_refl _) _).setCell (p := ⟨w.heap.size, 2, none⟩) (Nat.le_refl _) _⟩
  exact (((HP4.out.store (p := ⟨w.heap.size, 0, none⟩) hlt2 _).store (p := ⟨w.heap.size, 1, none⟩) hlt2 _).store (p := ⟨w.heap.size, 2, none⟩) hlt2 _).mono HB1.out.size
theorem gi_num {b : List Nat} {most : Int} {l : List Nat} (h : gi b most = some l) (ho : ∀ y ∈ b, y < 256) : Dg l ∧ nrm l ∧ l.length ≤ 256 := by
  unfold gi at h
  split at h
  · injection h with h
    subst h
    exact ⟨numOf_dg (oct_rev fun y hy => by unfold strip at hy; split at hy; exact ho y (List.mem_of_mem_drop hy); exact ho y hy), numOf_nrm _, numOf_length _⟩
  · cases h
def smallOf : Option (List Nat) → Option Nat
  | none => none
  | some l => if nb l ≤ 64 then some (val l) else none
def SmallPost (w : World) : Option Nat → Ending → World → Prop
  | none, e, w' => e = .returned (.tuple #[.int .u64 0, .bool false]) ∧ Below w.heap.size w w'
  | some v, e, w' => e = .returned (.tuple #[.int .u64 (v : Int), .bool true]) ∧ Below w.heap.size w w'
theorem wrap64u (n : Int) (h0 : 0 ≤ n) (h1 : n < 18446744073709551616) : IntKind.u64.wrap n = n := by
  rw [show IntKind.u64.wrap n = n % 18446744073709551616 by simp [IntKind.wrap, IntKind.bits, IntKind.signed]]
  omega
theorem or_round {l : List Nat} (hd : Dg l) (hn : nrm l) (h64 : nb l ≤ 64) {k x o : Nat} (hk : k < l.length) (hx : x = l.getD k 0) (ho : o = val (l.take k)) : bits .or .u64 (o : Int) (IntKind.u64.wrap (IntKind.u64.wrap (x : Int) * 2 ^ (32 * k))) = ((val (l.take (k + 1)) : Nat) : Int) ∧ k ≤ 1 := by
  obtain ⟨m, top, bl, hm, _, hnb, h1, _, _, _⟩ := nb_top hd hn (by omega)
  have hk1 : k ≤ 1 := by omega
  refine ⟨?_, hk1⟩
  have hx32 : x < 4294967296 := by rw [hx]; exact hd.at_ k
  have ho' : o < 2 ^ (32 * k) := by
    rcases (by omega : k = 0 ∨ k = 1) with rfl | rfl
    · rw [ho]; simp [val]
    · rw [ho]
      rcases l with _ | ⟨y, r⟩
      · simp at hk
      · have := hd y (by simp)
        simp [val]; omega
  have hb : x * 2 ^ (32 * k) < 18446744073709551616 := by
    rcases (by omega : k = 0 ∨ k = 1) with rfl | rfl
    · simp; omega
    · simp; omega
  have hp : 2 ^ (32 * k) ≤ 2 ^ 32 := Nat.pow_le_pow_right (by omega) (by omega)
  have h := u64_or_nat o (x * 2 ^ (32 * k)) (by omega) (by omega)
  rw [or_shift x (32 * k) o ho'] at h
  have e : IntKind.u64.wrap (IntKind.u64.wrap (x : Int) * 2 ^ (32 * k)) = ((x * 2 ^ (32 * k) : Nat) : Int) := by
    have e2 : ((x : Int) * 2 ^ (32 * k)) = ((x * 2 ^ (32 * k) : Nat) : Int) := by push_cast; rfl
    rw [wrap64u (x : Int) (by omega) (by omega), e2, wrap64u _ (by omega) (by omega)]
  rw [e, h]
  congr 1
  rcases (by omega : k = 0 ∨ k = 1) with rfl | rfl
  · rcases l with _ | ⟨y, r⟩
    · simp at hk
    · rw [ho, hx]; simp [val]
  · rcases l with _ | ⟨y, _ | ⟨z, r⟩⟩
    · simp at hk
    · simp at hk
    · rw [ho, hx]; simp [val]; omega
set_option maxRecDepth 100000 in
set_option maxHeartbeats 4000000 in
theorem getSmall_any (w : World) (x n c kn kc B : Nat) (A K : Option Addr) (b : List Nat) (hr : Rd .u8 w B A c b) (hn : b.length = n) (hB : B ≤ w.heap.size) (ho : ∀ y ∈ b, y < 256) :
    Calls Tryz.prog 44 #[.agg #[.int .u8 (x : Int), .slice A n c, .slice K kn kc]] w (SmallPost w (smallOf (if heldOk x kn 2 = true then gi b 9 else none))) := by
  have hH := Holds.fresh w 31 #[.int .u8 (x : Int), .slice A n c, .slice K kn kc]
  have HB0 : Hid (Below w.heap.size w (w.alloc (.cells #[.int .u8 (x : Int), .slice A n c, .slice K kn kc] 31))) := Lib.hid ((Below.refl _ _).alloc (Nat.le_refl _) _)
  have c0 := hH.cell 0
  have c1 := hH.cell 1
  have c2 := hH.cell 2
  have HK := Lib.hid (getInt_any (w.alloc (.cells #[.int .u8 (x : Int), .slice A n c, .slice K kn kc] 31)) x n c kn kc B A K b 9 (hr.under (HB0.out.mono hB)) hn (Nat.le_trans hB HB0.out.size) ho)
  have HG : Hid (∀ l, (if heldOk x kn 2 = true then gi b 9 else none) = some l → Dg l ∧ nrm l ∧ l.length ≤ 256) := Lib.hid fun l hl => by
    split at hl
    · exact gi_num hl ho
    · cases hl
  clear hr hn ho
  generalize (if heldOk x kn 2 = true then gi b 9 else none) = o at *
  rcases o with _ | l
  · go_enter Tryz.func44, Tryz.ntmps44
    go_wp2_with fail
    refine HK.out.mono ?_
    rintro e w2 ⟨rfl, hb2⟩
    have HQ := Lib.hid (HB0.out.trans (hb2.mono HB0.out.size))
    clear hb2 HK
    go_wp2_with fail
    go_ret2
    exact ⟨rfl, HQ.out⟩
  obtain ⟨hd, hnr, h256⟩ := HG.out l rfl
  have HD := Lib.hid hd
  have HN := Lib.hid hnr
  obtain ⟨m, hm⟩ : ∃ m, m = l.length := ⟨_, rfl⟩
  have HM := Lib.hid hm
  obtain ⟨q, hq⟩ : ∃ q, q = nb l := ⟨_, rfl⟩
  have HQN := Lib.hid hq
  have hml : m ≤ 256 := by omega
  have HLQ : Hid (smallOf (some l) = if q ≤ 64 then some (val l) else none) := Lib.hid (by rw [hq]; rfl)
  clear hd hnr h256 hm hq HG
  go_enter Tryz.func44, Tryz.ntmps44
  go_wp2_with fail
  refine HK.out.mono ?_
  rintro e w2 ⟨A2, c2, rfl, hr2, hb2⟩
  have HQ := Lib.hid (HB0.out.trans (hb2.mono HB0.out.size))
  have HR2 := Lib.hid hr2
  have HBT := Lib.hid (bits_any w2 _ A2 c2 m l hr2 HM.out.symm HD.out (by rw [← HM.out]; omega) q (by rw [trl_self HN.out, HQN.out]))
  rw [← HM.out]
  have hmc : m ≤ c2 := by rw [HM.out]; exact hr2.1
  have hc63 := hr2.2.1
  clear hb2 HK hr2
  by_cases h64 : q ≤ 64
  case neg =>
    have d1 : decide ((64 : Int) < (q : Int)) = true := decide_eq_true (by omega)
    go_wp2_with fail
    refine HBT.out.mono ?_
    rintro e w3 ⟨rfl, rfl⟩
    go_wp2_with fail
    go_ret2
    rw [HLQ.out, if_neg h64]
    exact ⟨rfl, HQ.out⟩
  have d1 : decide ((64 : Int) < (q : Int)) = false := decide_eq_false (by omega)
  go_wp2_with fail
  refine HBT.out.mono ?_
  rintro e w3 ⟨rfl, rfl⟩
  clear HBT
  go_wp2_with fail
  go_loop [6, 23] (fun vv iv => ∃ k o : Nat, k ≤ m ∧ iv = .int .i64 (k : Int) ∧ vv = .int .u64 (o : Int) ∧ Hid (o = val (l.take k))) (fun _ iv => m - (intOf iv).toNat)
  case atStart => exact ⟨0, 0, by omega, rfl, rfl, rfl⟩
  case round =>
    obtain ⟨k, o, hk, rfl, rfl, HO⟩ := hrel
    by_cases hlt : k < m
    · obtain ⟨g, off, x2, rfl, hg, hcx, HX⟩ := HR2.out.at_ (i := k) (by rw [← HM.out]; exact hlt)
      obtain ⟨hor, hk1⟩ := or_round HD.out HN.out (by rw [← HQN.out]; exact h64) (by rw [← HM.out]; exact hlt) HX.out HO.out
      have HOR := Lib.hid hor
      have e32 : ((32 : Int) * (k : Int)).toNat = 32 * k := by omega
      clear hor
      go_wp2_with fail
      go_round
      case rel => exact ⟨k + 1, val (l.take (k + 1)), by omega, by go_num, by rw [← HOR.out], rfl⟩
      case measure => simp [intOf]; omega
    · obtain rfl : k = m := by omega
      have HF : Hid (o = val l) := Lib.hid (by rw [HO.out, List.take_of_length_le (by rw [← HM.out]; omega)])
      go_wp2_with fail
      go_ret2
      rw [HLQ.out, if_pos h64, ← HF.out]
      exact ⟨rfl, HQ.out⟩
end Go.Proofs.YtbkjjhpnjfdlbaaGreatDoor
