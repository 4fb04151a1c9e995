/-
  A length's bytes: by the document, by the program.
-/
import Derived.Test.YtdjklhglkmacbaaDoorTlv3
import Derived.Test.YtdjklhglkmacbaaDoorMine
namespace Go.Proofs.YtdjklhglkmacbaaDoor
open Go.RowKit
set_option linter.unusedVariables false
set_option linter.unusedSimpArgs false

/-- A number's digits of 256, the greatest first. -/
def dig : Nat → Nat → List Nat
  | 0, _ => []
  | f + 1, n => if n = 0 then [] else dig f (n / 256) ++ [n % 256]
theorem dig_zero (f : Nat) : dig f 0 = [] := by cases f <;> simp [dig]
theorem dig_len : ∀ f n, (dig f n).length ≤ f
  | 0, _ => Nat.le_refl _
  | f + 1, n => by
    rw [dig]
    split
    · simp
    · rw [List.length_append]
      have := dig_len f (n / 256)
      simp
      omega
theorem dig_oct : ∀ f n, ∀ x ∈ dig f n, x < 256
  | 0, _, x, h => by cases h
  | f + 1, n, x, h => by
    rw [dig] at h
    split at h
    · cases h
    · rcases List.mem_append.1 h with h | h
      · exact dig_oct f _ x h
      · rw [List.mem_singleton.1 h]; omega
/-- A length's bytes. -/
def lenB (n : Nat) : List Nat := if n < 128 then [n] else (128 + (dig 6 n).length) :: dig 6 n
theorem lenB_len (n : Nat) : (lenB n).length ≤ 7 := by
  unfold lenB
  split
  · simp
  · have := dig_len 6 n
    simp
    omega
theorem lenB_oct (n : Nat) : ∀ x ∈ lenB n, x < 256 := by
  intro x hx
  unfold lenB at hx
  split at hx
  · rw [List.mem_singleton.1 hx]; omega
  · rcases List.mem_cons.1 hx with rfl | h
    · have := dig_len 6 n; omega
    · exact dig_oct 6 n x h
theorem info_u8 : (Tryd.prog.info? 5).map (fun i => (i.zero, i.size, i.bytes)) = some (some (.int .u8 0), 1, 1) := by kernel_rfl
theorem nums_cons (k : IntKind) (x : Nat) : nums k [x] = #[.int k (x : Int)] := rfl
theorem Mine.fresh1 (w : World) (B x : Nat) (hB : B ≤ w.heap.size) : Mine 5 (w.alloc (.cells #[.int .u8 (x : Int)] 5)) B (some ⟨w.heap.size, 0, none⟩) 1 [x] :=
  .inr ⟨w.heap.size, 0, #[.int .u8 (x : Int)], rfl, hB, Holds.fresh w _ _, Nat.le_refl _, by omega, by simp, fun j hj => by
    have : j = 0 := by simp at hj; omega
    subst this
    rfl⟩
theorem below_blk {w w' : World} {B : Nat} {A : Option Addr} (h : w.grownBy w' (blk_of A)) (hB : B ≤ w.heap.size) (hA : ∀ g, blk_of A = some g → B ≤ g) : Below B w w' :=
  ⟨h.os, h.tape, h.output, h.size, fun g hg => h.block g (by omega) (fun e => by have := hA g e.symm; omega)⟩

def RelL (w : World) (n : Nat) (v i : Value) (wr : World) : Prop :=
  ∃ (x f : Nat) (b : List Nat) (A' : Option Addr) (c' m : Nat), x ≤ n ∧ x < 256 ^ f ∧ i = .int .i64 (x : Int) ∧ v = .slice A' m c' ∧ Hid (b.length = m) ∧ f ≤ 6 ∧ Hid (b.length + f ≤ 6) ∧ Hid (dig 6 n = dig f x ++ b) ∧ Hid (Mine 5 wr w.heap.size A' c' b) ∧ Hid (Below w.heap.size w wr)
set_option maxRecDepth 100000 in
set_option maxHeartbeats 4000000 in
theorem length'_any (w : World) (n : Nat) (hn : n ≤ 5000000000) :
    Calls Tryd.prog 65 #[.int .i64 (n : Int)] w fun e w' => ∃ A c, e = .returned (.slice A (lenB n).length c) ∧ Mine 5 w' w.heap.size A c (lenB n) ∧ Below w.heap.size w w' := by
  by_cases h1 : n < 128
  case pos =>
    have HE : Hid (lenB n = [n]) := Lib.hid (by unfold lenB; rw [if_pos h1])
    have d1 : decide ((n : Int) < 128) = true := decide_eq_true (by omega)
    have hw : IntKind.u8.wrap (n : Int) = (n : Int) := by simp [IntKind.wrap, IntKind.signed, IntKind.bits]; omega
    have HM := Lib.hid (Mine.fresh1 w w.heap.size n (Nat.le_refl _))
    have HB : Hid (Below w.heap.size w (w.alloc (.cells #[.int .u8 (n : Int)] 5))) := Lib.hid ((Below.refl _ _).alloc (Nat.le_refl _) _)
    go_enter Tryd.func65, Tryd.ntmps65
    go_wp2_with fail
    go_ret
    exact ⟨_, _, by rw [HE.out]; rfl, by rw [HE.out]; exact HM.out, HB.out⟩
  case neg =>
    have d1 : decide ((n : Int) < 128) = false := decide_eq_false (by omega)
    have HE : Hid (lenB n = (128 + (dig 6 n).length) :: dig 6 n) := Lib.hid (by unfold lenB; rw [if_neg h1])
    go_enter Tryd.func65, Tryd.ntmps65
    go_wp2_with fail
    clear d1
    go_loopw [3, 4] (fun v i wr => RelL w n v i wr) (fun v i _ => (intOf i).toNat)
    case atStart => exact ⟨n, 6, [], none, 0, 0, Nat.le_refl _, by omega, rfl, rfl, Lib.hid rfl, by omega, Lib.hid (by simp), Lib.hid (by simp), Lib.hid (Mine.nil _ _ _), Lib.hid (Below.refl _ _)⟩
    case round =>
      obtain ⟨x, f, b, A', c', m, hx, hxf, rfl, rfl, HL, hf, HF, HD, HM, HQ⟩ := hrel
      obtain ⟨V, hV⟩ : ∃ V, V = wr := ⟨_, rfl⟩
      subst hV
      have hm6 : m ≤ 6 := by have := HL.out; have := HF.out; omega
      by_cases hx0 : 0 < x
      case pos =>
        have d2 : decide ((0 : Int) < (x : Int)) = true := decide_eq_true (by omega)
        have d3 : decide (0 < x) = true := decide_eq_true hx0
        obtain ⟨f', rfl⟩ : ∃ f', f = f' + 1 := ⟨f - 1, by
          rcases f with _ | f
          · simp at hxf; omega
          · rfl⟩
        have hr : Int.tmod (x : Int) 256 = ((x % 256 : Nat) : Int) := by rw [Int.tmod_eq_emod_of_nonneg (by omega)]; omega
        have hq : Int.tdiv (x : Int) 256 = ((x / 256 : Nat) : Int) := by rw [Int.tdiv_eq_ediv_of_nonneg (by omega)]; omega
        have hw : IntKind.u8.wrap ((x % 256 : Nat) : Int) = ((x % 256 : Nat) : Int) := by simp [IntKind.wrap, IntKind.signed, IntKind.bits]
        have HD2 : Hid (dig 6 n = dig f' (x / 256) ++ ([x % 256] ++ b)) := Lib.hid (by
          rw [HD.out, dig, if_neg (by omega), List.append_assoc])
        have hxf2 : x / 256 < 256 ^ f' := by rw [Nat.pow_succ] at hxf; omega
        obtain ⟨r, hr0⟩ : ∃ r, r = x % 256 := ⟨_, rfl⟩
        obtain ⟨q, hq0⟩ : ∃ q, q = x / 256 := ⟨_, rfl⟩
        have hql : q ≤ x / 2 := by omega
        rw [← hr0] at hr hw HD2
        rw [← hq0] at hq HD2 hxf2
        have HM1 : Hid (Mine 5 (V.alloc (.cells #[.int .u8 (r : Int)] 5)) w.heap.size (some ⟨V.heap.size, 0, none⟩) 1 [r]) := Lib.hid (Mine.fresh1 V w.heap.size r HQ.out.size)
        have HR1 : Hid (Rd .u8 (V.alloc (.cells #[.int .u8 (r : Int)] 5)) (V.alloc (.cells #[.int .u8 (r : Int)] 5)).heap.size A' c' b) := Lib.hid (HM.out.alloc _).rd
        have HQ1 : Hid (Below w.heap.size w (V.alloc (.cells #[.int .u8 (r : Int)] 5))) := Lib.hid (HQ.out.alloc HQ.out.size _)
        have HV0 : Hid (w.heap.size ≤ V.heap.size) := Lib.hid HQ.out.size
        clear hr0 hq0
        go_wp2_with (first | (refine wpList_mine (B2 := (V.alloc (.cells #[.int .u8 (r : Int)] 5)).heap.size) _ rfl (.tmp 18) (.tmp 19) 28 rfl 5 Tryd.underlying28 info_u8 rfl HM1.out rfl rfl HR1.out HL.out HQ1.out.size (by omega) ?_; intro A5 c5 W5 hm5 hg5 hat5) | fail)
        have HQ5 : Hid (Below w.heap.size w W5) := Lib.hid (HQ1.out.trans (below_blk hg5 HQ1.out.size (fun g hg => by have := HV0.out; simp [blk_of] at hg; omega)))
        have HM5 := Lib.hid hm5
        clear hm5 hg5 hat5
        go_roundw
        case rel => exact ⟨q, f', [r] ++ b, _, _, 1 + m, by omega, hxf2, rfl, rfl, Lib.hid (by rw [List.length_append, HL.out]; rfl), by omega, Lib.hid (by rw [List.length_append]; have := HF.out; simp; omega), HD2, HM5, HQ5⟩
        case measure => simp [intOf]; omega
      case neg =>
        obtain rfl : x = 0 := by omega
        have d2 : decide ((0 : Int) < ((0 : Nat) : Int)) = false := rfl
        have HD2 : Hid (dig 6 n = b) := Lib.hid (by rw [HD.out, dig_zero, List.nil_append])
        have hw : IntKind.u8.wrap (128 + (m : Int)) = ((128 + m : Nat) : Int) := by simp [IntKind.wrap, IntKind.signed, IntKind.bits]; omega
        have hwi : IntKind.i64.wrap (128 + (m : Int)) = 128 + (m : Int) := IntWalk.i64_in _ (by omega)
        obtain ⟨r, hr0⟩ : ∃ r, r = 128 + m := ⟨_, rfl⟩
        rw [← hr0] at hw
        have HE2 : Hid (lenB n = [r] ++ b ∧ (lenB n).length = 1 + m) := Lib.hid (by
          have e : lenB n = [r] ++ b := by rw [HE.out, HD2.out, HL.out, hr0]; rfl
          exact ⟨e, by rw [e, List.length_append, HL.out]; rfl⟩)
        have HM1 : Hid (Mine 5 (V.alloc (.cells #[.int .u8 (r : Int)] 5)) w.heap.size (some ⟨V.heap.size, 0, none⟩) 1 [r]) := Lib.hid (Mine.fresh1 V w.heap.size r HQ.out.size)
        have HR1 : Hid (Rd .u8 (V.alloc (.cells #[.int .u8 (r : Int)] 5)) (V.alloc (.cells #[.int .u8 (r : Int)] 5)).heap.size A' c' b) := Lib.hid (HM.out.alloc _).rd
        have HQ1 : Hid (Below w.heap.size w (V.alloc (.cells #[.int .u8 (r : Int)] 5))) := Lib.hid (HQ.out.alloc HQ.out.size _)
        have HV0 : Hid (w.heap.size ≤ V.heap.size) := Lib.hid HQ.out.size
        clear hr0
        go_wp2_with (first | (refine wpList_mine (B2 := (V.alloc (.cells #[.int .u8 (r : Int)] 5)).heap.size) _ rfl (.tmp 25) (.tmp 26) 28 rfl 5 Tryd.underlying28 info_u8 rfl HM1.out rfl rfl HR1.out HL.out HQ1.out.size (by omega) ?_; intro A5 c5 W5 hm5 hg5 hat5) | fail)
        have HQ5 : Hid (Below w.heap.size w W5) := Lib.hid (HQ1.out.trans (below_blk hg5 HQ1.out.size (fun g hg => by have := HV0.out; simp [blk_of] at hg; omega)))
        have HM5 := Lib.hid hm5
        clear hm5 hg5 hat5
        go_wp2_with fail
        go_ret
        exact ⟨_, _, by rw [HE2.out.2]; rfl, by rw [HE2.out.1]; exact HM5.out, HQ5.out⟩

def RelL2 (w : World) (n : Nat) (i v : Value) (wr : World) : Prop := RelL w n v i wr
end Go.Proofs.YtdjklhglkmacbaaDoor
