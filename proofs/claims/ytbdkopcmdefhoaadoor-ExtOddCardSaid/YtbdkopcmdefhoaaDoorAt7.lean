/-
  A small number's thing by the document; a thing as a small number by atom.
-/
import Derived.Test.YtbdkopcmdefhoaaDoorAt6
namespace Go.Proofs.YtbdkopcmdefhoaaDoor
open Go.RowKit
set_option linter.unusedVariables false
set_option linter.unusedSimpArgs false

theorem gi_num {b : List Nat} {most : Int} {l : List Nat} (h : gi b most = some l) (ho : ∀ y ∈ b, y < 256) : Dg l ∧ nrm l ∧ l.length ≤ 256 := by
  unfold gi at h
  split at h
  · injection h with h
    subst h
    exact ⟨numOf_dg (oct_rev fun y hy => by unfold strip at hy; split at hy; exact ho y (List.mem_of_mem_drop hy); exact ho y hy), numOf_nrm _, numOf_length _⟩
  · cases h
def smallOf : Option (List Nat) → Option Nat
  | none => none
  | some l => if nb l ≤ 64 then some (val l) else none
def SmallPost (w : World) : Option Nat → Ending → World → Prop
  | none, e, w' => e = .returned (.tuple #[.int .u64 0, .bool false]) ∧ Below w.heap.size w w'
  | some v, e, w' => e = .returned (.tuple #[.int .u64 (v : Int), .bool true]) ∧ Below w.heap.size w w'
theorem wrap64u (n : Int) (h0 : 0 ≤ n) (h1 : n < 18446744073709551616) : IntKind.u64.wrap n = n := by
  rw [show IntKind.u64.wrap n = n % 18446744073709551616 by simp [IntKind.wrap, IntKind.bits, IntKind.signed]]
  omega
theorem or_round {l : List Nat} (hd : Dg l) (hn : nrm l) (h64 : nb l ≤ 64) {k x o : Nat} (hk : k < l.length) (hx : x = l.getD k 0) (ho : o = val (l.take k)) : bits .or .u64 (o : Int) (IntKind.u64.wrap (IntKind.u64.wrap (x : Int) * 2 ^ (32 * k))) = ((val (l.take (k + 1)) : Nat) : Int) ∧ k ≤ 1 := by
  obtain ⟨m, top, bl, hm, _, hnb, h1, _, _, _⟩ := nb_top hd hn (by omega)
  have hk1 : k ≤ 1 := by omega
  refine ⟨?_, hk1⟩
  have hx32 : x < 4294967296 := by rw [hx]; exact hd.at_ k
  have ho' : o < 2 ^ (32 * k) := by
    rcases (by omega : k = 0 ∨ k = 1) with rfl | rfl
    · rw [ho]; simp [val]
    · rw [ho]
      rcases l with _ | ⟨y, r⟩
      · simp at hk
      · have := hd y (by simp)
        simp [val]; omega
  have hb : x * 2 ^ (32 * k) < 18446744073709551616 := by
    rcases (by omega : k = 0 ∨ k = 1) with rfl | rfl
    · simp; omega
    · simp; omega
  have hp : 2 ^ (32 * k) ≤ 2 ^ 32 := Nat.pow_le_pow_right (by omega) (by omega)
  have h := u64_or_nat o (x * 2 ^ (32 * k)) (by omega) (by omega)
  rw [or_shift x (32 * k) o ho'] at h
  have e : IntKind.u64.wrap (IntKind.u64.wrap (x : Int) * 2 ^ (32 * k)) = ((x * 2 ^ (32 * k) : Nat) : Int) := by
    have e2 : ((x : Int) * 2 ^ (32 * k)) = ((x * 2 ^ (32 * k) : Nat) : Int) := by push_cast; rfl
    rw [wrap64u (x : Int) (by omega) (by omega), e2, wrap64u _ (by omega) (by omega)]
  rw [e, h]
  congr 1
  rcases (by omega : k = 0 ∨ k = 1) with rfl | rfl
  · rcases l with _ | ⟨y, r⟩
    · simp at hk
    · rw [ho, hx]; simp [val]
  · rcases l with _ | ⟨y, _ | ⟨z, r⟩⟩
    · simp at hk
    · simp at hk
    · rw [ho, hx]; simp [val]; omega
set_option maxRecDepth 100000 in
set_option maxHeartbeats 4000000 in
theorem getSmall_any (w : World) (x n c kn kc B : Nat) (A K : Option Addr) (b : List Nat) (hr : Rd .u8 w B A c b) (hn : b.length = n) (hB : B ≤ w.heap.size) (ho : ∀ y ∈ b, y < 256) :
    Calls Tryd.prog 25 #[.agg #[.int .u8 (x : Int), .slice A n c, .slice K kn kc]] w (SmallPost w (smallOf (if heldOk x kn 2 = true then gi b 9 else none))) := by
  have hH := Holds.fresh w 41 #[.int .u8 (x : Int), .slice A n c, .slice K kn kc]
  have HB0 : Hid (Below w.heap.size w (w.alloc (.cells #[.int .u8 (x : Int), .slice A n c, .slice K kn kc] 41))) := Lib.hid ((Below.refl _ _).alloc (Nat.le_refl _) _)
  have c0 := hH.cell 0
  have c1 := hH.cell 1
  have c2 := hH.cell 2
  have HK := Lib.hid (getInt_any (w.alloc (.cells #[.int .u8 (x : Int), .slice A n c, .slice K kn kc] 41)) x n c kn kc B A K b 9 (hr.under (HB0.out.mono hB)) hn (Nat.le_trans hB HB0.out.size) ho)
  have HG : Hid (∀ l, (if heldOk x kn 2 = true then gi b 9 else none) = some l → Dg l ∧ nrm l ∧ l.length ≤ 256) := Lib.hid fun l hl => by
    split at hl
    · exact gi_num hl ho
    · cases hl
  clear hr hn ho
  generalize (if heldOk x kn 2 = true then gi b 9 else none) = o at *
  rcases o with _ | l
  · go_enter Tryd.func25, Tryd.ntmps25
    go_wp2_with fail
    refine HK.out.mono ?_
    rintro e w2 ⟨rfl, hb2⟩
    have HQ := Lib.hid (HB0.out.trans (hb2.mono HB0.out.size))
    clear hb2 HK
    go_wp2_with fail
    go_ret2
    exact ⟨rfl, HQ.out⟩
  obtain ⟨hd, hnr, h256⟩ := HG.out l rfl
  have HD := Lib.hid hd
  have HN := Lib.hid hnr
  obtain ⟨m, hm⟩ : ∃ m, m = l.length := ⟨_, rfl⟩
  have HM := Lib.hid hm
  obtain ⟨q, hq⟩ : ∃ q, q = nb l := ⟨_, rfl⟩
  have HQN := Lib.hid hq
  have hml : m ≤ 256 := by omega
  have HLQ : Hid (smallOf (some l) = if q ≤ 64 then some (val l) else none) := Lib.hid (by rw [hq]; rfl)
  clear hd hnr h256 hm hq HG
  go_enter Tryd.func25, Tryd.ntmps25
  go_wp2_with fail
  refine HK.out.mono ?_
  rintro e w2 ⟨A2, c2, rfl, hr2, hb2⟩
  have HQ := Lib.hid (HB0.out.trans (hb2.mono HB0.out.size))
  have HR2 := Lib.hid hr2
  have HBT := Lib.hid (bits_any w2 _ A2 c2 m l hr2 HM.out.symm HD.out (by rw [← HM.out]; omega) q (by rw [trl_self HN.out, HQN.out]))
  rw [← HM.out]
  have hmc : m ≤ c2 := by rw [HM.out]; exact hr2.1
  have hc63 := hr2.2.1
  clear hb2 HK hr2
  by_cases h64 : q ≤ 64
  case neg =>
    have d1 : decide ((64 : Int) < (q : Int)) = true := decide_eq_true (by omega)
    go_wp2_with fail
    refine HBT.out.mono ?_
    rintro e w3 ⟨rfl, rfl⟩
    go_wp2_with fail
    go_ret2
    rw [HLQ.out, if_neg h64]
    exact ⟨rfl, HQ.out⟩
  have d1 : decide ((64 : Int) < (q : Int)) = false := decide_eq_false (by omega)
  go_wp2_with fail
  refine HBT.out.mono ?_
  rintro e w3 ⟨rfl, rfl⟩
  clear HBT
  go_wp2_with fail
  go_loop [6, 23] (fun vv iv => ∃ k o : Nat, k ≤ m ∧ iv = .int .i64 (k : Int) ∧ vv = .int .u64 (o : Int) ∧ Hid (o = val (l.take k))) (fun _ iv => m - (intOf iv).toNat)
  case atStart => exact ⟨0, 0, by omega, rfl, rfl, rfl⟩
  case round =>
    obtain ⟨k, o, hk, rfl, rfl, HO⟩ := hrel
    by_cases hlt : k < m
    · obtain ⟨g, off, x2, rfl, hg, hcx, HX⟩ := HR2.out.at_ (i := k) (by rw [← HM.out]; exact hlt)
      obtain ⟨hor, hk1⟩ := or_round HD.out HN.out (by rw [← HQN.out]; exact h64) (by rw [← HM.out]; exact hlt) HX.out HO.out
      have HOR := Lib.hid hor
      have e32 : ((32 : Int) * (k : Int)).toNat = 32 * k := by omega
      clear hor
      go_wp2_with fail
      go_round
      case rel => exact ⟨k + 1, val (l.take (k + 1)), by omega, by go_num, by rw [← HOR.out], rfl⟩
      case measure => simp [intOf]; omega
    · obtain rfl : k = m := by omega
      have HF : Hid (o = val l) := Lib.hid (by rw [HO.out, List.take_of_length_le (by rw [← HM.out]; omega)])
      go_wp2_with fail
      go_ret2
      rw [HLQ.out, if_pos h64, ← HF.out]
      exact ⟨rfl, HQ.out⟩
end Go.Proofs.YtbdkopcmdefhoaaDoor
