/-
  A small number's thing: by atom, and by the document.
-/
import Derived.Test.YtogbeiifnhegiaaAt5
namespace Go.Proofs.Ytogbeiifnhegiaa
open Go.RowKit
set_option linter.unusedVariables false
set_option linter.unusedSimpArgs false

/-- A number below 2^64 as eight bytes, the highest first. -/
def be8 (v : Nat) : List Nat := [v / 72057594037927936 % 256, v / 281474976710656 % 256, v / 1099511627776 % 256, v / 4294967296 % 256, v / 16777216 % 256, v / 65536 % 256, v / 256 % 256, v % 256]
/-- As digits. -/
def dg2 (v : Nat) : List Nat := trl [v % 4294967296, v / 4294967296]
theorem be8_num {v : Nat} (h : v < 18446744073709551616) : numOf (be8 v) = dg2 v := by
  have e : words (be8 v) = [v % 4294967296, v / 4294967296] := by
    refine (words_eq (L := [v % 4294967296, v / 4294967296]) (by simp [be8]) fun j hj => ?_).symm
    have hj2 : j = 0 ∨ j = 1 := by simp at hj; omega
    rcases hj2 with rfl | rfl
    · simp [be8, part]; omega
    · simp [be8, part]; omega
  rw [numOf_near (by simp [be8]), e]; rfl
theorem be8_oct (v : Nat) : ∀ x ∈ be8 v, x < 256 := fun x hx => by
  simp only [be8, List.mem_cons, List.not_mem_nil, or_false] at hx
  rcases hx with rfl | rfl | rfl | rfl | rfl | rfl | rfl | rfl <;> exact Nat.mod_lt _ (by omega)
theorem be8_take {v k x : Nat} (h : k < 8) (hx : x = v / 2 ^ (56 - 8 * k) % 256) : (be8 v).take (k + 1) = (be8 v).take k ++ [x] := by
  subst hx
  have hk : k = 0 ∨ k = 1 ∨ k = 2 ∨ k = 3 ∨ k = 4 ∨ k = 5 ∨ k = 6 ∨ k = 7 := by omega
  rcases hk with rfl | rfl | rfl | rfl | rfl | rfl | rfl | rfl <;> simp [be8]
set_option maxRecDepth 100000 in
set_option maxHeartbeats 4000000 in
theorem small_any (w : World) (v : Nat) (hv : v < 18446744073709551616) :
    Calls Try.prog 10 #[.int .u64 (v : Int)] w fun e w' => ∃ r, e = .returned r ∧ PrimAt r w' w.heap.size 2 (intB (dg2 v)) ∧ Below w.heap.size w w' := by
  obtain ⟨V, hV⟩ : ∃ V, V = w.alloc (.cells #[.int .u8 0, .slice none 0 0, .slice none 0 0] 29) := ⟨_, rfl⟩
  have HB0 : Hid (Below w.heap.size w V) := Lib.hid (by rw [hV]; exact (Below.refl _ _).alloc (Nat.le_refl _) _)
  have hz : Holds V w.heap.size 29 #[.int .u8 0, .slice none 0 0, .slice none 0 0] := by rw [hV]; exact Holds.fresh _ _ _
  have hVs : w.heap.size < V.heap.size := hz.lt
  have HZ := Lib.hid hz
  have HV := Lib.hid hV
  clear hz hV
  go_enter Try.func10, Try.ntmps10
  go_wp2_with fail
  rw [← HV.out]
  clear HV
  go_loopw [3, 4] (fun bv sv wr => ∃ (k : Nat) (A : Option Addr) (c : Nat), k ≤ 8 ∧ sv = .int .i64 (56 - 8 * (k : Int)) ∧ bv = .slice A k c ∧ Mine 5 wr V.heap.size A c ((be8 v).take k) ∧ Holds wr w.heap.size 29 #[.int .u8 0, .slice none 0 0, .slice none 0 0] ∧ V.heap.size ≤ wr.heap.size ∧ Below w.heap.size w wr)
    (fun _ sv _ => (intOf sv + 8).toNat)
  case atStart => exact ⟨0, none, 0, by omega, rfl, rfl, Mine.nil _ _ _, HZ.out, Nat.le_refl _, HB0.out⟩
  case round =>
    obtain ⟨k, A, c, hk, rfl, rfl, hM, hZ, hSV, hB⟩ := hrel
    have HSV := Lib.hid hSV
    clear hSV
    by_cases h8 : k < 8
    · have hd : decide ((0 : Int) ≤ 56 - 8 * (k : Int)) = true := decide_eq_true (by omega)
      have HM := Lib.hid hM
      have HZ2 := Lib.hid hZ
      have HB := Lib.hid hB
      clear hM hZ hB
      obtain ⟨x, hx⟩ : ∃ x, x = v / 2 ^ (56 - 8 * k) % 256 := ⟨_, rfl⟩
      have hxi : (v : Int) / 2 ^ (56 - 8 * k) % 256 = (x : Int) := by rw [hx]; push_cast; rfl
      have HXI := Lib.hid hxi
      have HT : Hid ((be8 v).take (k + 1) = (be8 v).take k ++ [x]) := Lib.hid (be8_take h8 hx)
      have HLN : Hid (((be8 v).take k).length = k) := Lib.hid (by simp [be8]; omega)
      have HM1 : Hid (Mine 5 (wr.alloc (.cells #[.int .u8 ((v : Int) / 2 ^ (56 - 8 * k) % 256)] 5)) V.heap.size A c ((be8 v).take k)) := Lib.hid (HM.out.alloc _)
      have HR1 : Hid (Rd .u8 (wr.alloc (.cells #[.int .u8 ((v : Int) / 2 ^ (56 - 8 * k) % 256)] 5)) (wr.alloc (.cells #[.int .u8 ((v : Int) / 2 ^ (56 - 8 * k) % 256)] 5)).heap.size (some ⟨wr.heap.size, 0, none⟩) 1 [x]) := Lib.hid (by rw [hxi]; exact (Mine.fresh1 wr w.heap.size x HB.out.size).rd)
      have HB1 : Hid (Below w.heap.size w (wr.alloc (.cells #[.int .u8 ((v : Int) / 2 ^ (56 - 8 * k) % 256)] 5))) := Lib.hid (HB.out.alloc HB.out.size _)
      have HZ1 : Hid (Holds (wr.alloc (.cells #[.int .u8 ((v : Int) / 2 ^ (56 - 8 * k) % 256)] 5)) w.heap.size 29 #[.int .u8 0, .slice none 0 0, .slice none 0 0]) := Lib.hid (HZ2.out.alloc _)
      have HS1 : Hid (V.heap.size ≤ (wr.alloc (.cells #[.int .u8 ((v : Int) / 2 ^ (56 - 8 * k) % 256)] 5)).heap.size) := Lib.hid (by have := HSV.out; simp; omega)
      have HG : Hid (∀ g, blk_of A = some g → V.heap.size ≤ g) := Lib.hid fun g hg => (HM.out.block hg).1
      clear hx hxi
      go_wp2_with (first | (at_builtin; refine wpList_mine (B2 := (wr.alloc (.cells #[.int .u8 ((v : Int) / 2 ^ (56 - 8 * k) % 256)] 5)).heap.size) _ rfl (.tmp 9) (.tmp 14) 26 rfl 5 Try.underlying26 info_u8 rfl HM1.out HLN.out rfl HR1.out rfl HS1.out (by omega) ?_; intro A5 c5 W5 hm5 hg5 hat5) | fail)
      have HB5 : Hid (Below w.heap.size w W5) := Lib.hid (HB1.out.trans (below_blk hg5 HB1.out.size (fun g hg => by have := HG.out g hg; omega)))
      have HZ5 : Hid (Holds W5 w.heap.size 29 #[.int .u8 0, .slice none 0 0, .slice none 0 0]) := Lib.hid (HZ1.out.grown hg5 (fun h => by have := HG.out _ h.symm; omega))
      have HS5 : Hid (V.heap.size ≤ W5.heap.size) := Lib.hid (Nat.le_trans HS1.out hg5.size)
      have HM5 := Lib.hid hm5
      clear hm5 hg5 hat5 HM1 HR1 HB1 HZ1 HS1 HM HZ2 HB HG HXI
      go_roundw
      case rel => exact ⟨k + 1, A5, c5, by omega, by go_num, rfl, by rw [HT.out]; exact HM5.out, HZ5.out, HS5.out, HB5.out⟩
      case measure => simp [intOf]; omega
    · obtain rfl : k = 8 := by omega
      have HLN : Hid ((be8 v).length = 8) := Lib.hid (by simp [be8])
      have HM : Hid (Mine 5 wr V.heap.size A c (be8 v)) := Lib.hid (by rw [List.take_of_length_le (by simp [be8])] at hM; exact hM)
      have HZ2 := Lib.hid hZ
      have HB := Lib.hid hB
      have HOF := Lib.hid (of_at wr wr.heap.size A c 8 (be8 v) HLN.out HM.out.rd (Nat.le_refl _) (be8_oct v))
      have hlt : w.heap.size < wr.heap.size := hZ.lt
      clear hM hZ hB
      go_wp2_with fail
      refine HOF.out.mono ?_
      rintro e w2 ⟨A2, c2, rfl, hf2, hb2⟩
      have HB2 := Lib.hid (HB.out.trans (hb2.mono HB.out.size))
      have HZ3 := Lib.hid (HZ2.out.under hb2 hlt)
      have hlt2 : w.heap.size < w2.heap.size := HZ3.out.lt
      obtain ⟨m2, hm2⟩ : ∃ m, m = (numOf (be8 v)).length := ⟨_, rfl⟩
      have HIN : Hid (Calls Try.prog 5 #[.slice A2 m2 c2] w2 fun e w' => ∃ v', e = .returned v' ∧ PrimAt v' w' w2.heap.size 2 (intB (dg2 v)) ∧ Below w2.heap.size w2 w') := Lib.hid (by
        rw [← be8_num hv]
        exact int_any w2 w2.heap.size A2 c2 m2 (numOf (be8 v)) hf2.1 hm2.symm (Nat.le_refl _) (numOf_dg (oct_rev (be8_oct v))) (okN_iff.2 ⟨numOf_length _, numOf_nrm _⟩))
      rw [← hm2]
      clear hf2 hb2 hm2 HOF HM HLN
      go_wp2_with fail
      refine HIN.out.mono ?_
      rintro e w4 ⟨v4, rfl, hp4, hb4⟩
      have HQ4 : Hid (Below w.heap.size w w4) := Lib.hid (HB2.out.trans (hb4.mono HB2.out.size))
      have hz4 := HZ3.out.under hb4 hlt2
      have HP4 := Lib.hid hp4
      obtain ⟨A4, c4, rfl, _⟩ := hp4
      have z0 := hz4.cell 0
      have z1 := hz4.cell 1
      have z2 := hz4.cell 2
      have y0 := hz4.open_ 0
      have y1 := hz4.open_ 1
      have y2 := hz4.open_ 2
      clear hb4 HIN HZ3
      go_wp2_with fail
      refine ret_one rfl rfl (((hz4.stored 0 _).stored 1 _).stored 2 _) rfl ?_
      refine ⟨_, rfl, ?_, ((HQ4.out.setCell (p := ⟨w.heap.size, 0, none⟩) (Nat.le_refl _) _).setCell (p := ⟨w.heap.size, 1, none⟩) (Nat.le_refl _) _).setCell (p := ⟨w.heap.size, 2, none⟩) (Nat.le_refl _) _⟩
      exact (((HP4.out.store (p := ⟨w.heap.size, 0, none⟩) hlt2 _).store (p := ⟨w.heap.size, 1, none⟩) hlt2 _).store (p := ⟨w.heap.size, 2, none⟩) hlt2 _).mono HB2.out.size
end Go.Proofs.Ytogbeiifnhegiaa
