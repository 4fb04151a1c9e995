/-
  Whether a thing may be, its bytes: by the document.
-/
import Derived.Test.YtdjklhglkmacbaaDoorTlv9
namespace Go.Proofs.YtdjklhglkmacbaaDoor
open Go.RowKit
set_option linter.unusedVariables false
set_option linter.unusedSimpArgs false

/-- A thing that may be. -/
def isT (t : Tr) : Bool := t.sound 1 && decide (t.count ≤ 600) && decide (t.enc.length ≤ 12000)
set_option maxRecDepth 100000 in
set_option maxHeartbeats 4000000 in
theorem isTl'_any (t : Lt) (w : World) (B : Nat) (hr : TrAt w B t) (hB : B ≤ w.heap.size) (hmc : t.t.count ≤ 1000000) (hmx : t.t.enc.length ≤ 400000) :
    Calls Tryd.prog 44 #[t.val] w fun e w' => e = .returned (.bool (isT t.t)) ∧ Below w.heap.size w w' := by
  have HS : Hid (∀ W, Below w.heap.size w W → Calls Tryd.prog 63 #[t.val, .int .i64 1] W fun e w' => e = .returned (.bool (t.t.sound 1)) ∧ Below W.heap.size W w') := Lib.hid fun W hW => sound_any t W B (hr.under' (hW.mono hB)) (by have := hW.size; omega)
  have HC : Hid (∀ W, Below w.heap.size w W → Calls Tryd.prog 64 #[t.val] W fun e w' => e = .returned (.int .i64 (t.t.count : Int)) ∧ Below W.heap.size W w') := Lib.hid fun W hW => count'_N (t.sz + 1) t W B (Nat.lt_succ_self _) (hr.under' (hW.mono hB)) (by have := hW.size; omega) hmc
  have HL : Hid (∀ W, Below w.heap.size w W → Calls Tryd.prog 45 #[t.val] W fun e w' => ∃ A c, e = .returned (.slice A t.t.enc.length c) ∧ Below W.heap.size W w') := Lib.hid fun W hW => (laid_any t W B (hr.under' (hW.mono hB)) (by have := hW.size; omega) hmx).mono fun _ _ ⟨A, c, h1, _, h3⟩ => ⟨A, c, h1, h3⟩
  have HI : Hid (isT t.t = (t.t.sound 1 && decide (t.t.count ≤ 600) && decide (t.t.enc.length ≤ 12000))) := Lib.hid rfl
  rw [Lt.val_eq] at HS HC HL ⊢
  generalize isT t.t = v at *
  generalize t.t.sound 1 = s at *
  generalize t.t.count = x at *
  generalize t.t.enc.length = y at *
  clear hr hB
  generalize t.tag = tag at *
  generalize t.ba = ba at *
  generalize t.bc = bc at *
  generalize t.body.length = bl at *
  generalize t.ka = ka at *
  generalize t.kids.length = n at *
  generalize t.kc = kc at *
  have hq0 : Hid (Below w.heap.size w (w.alloc (.cells #[.int .u8 (tag : Int), .slice ba bl bc, .slice ka n kc] 31))) := Lib.hid ((Below.refl _ _).alloc (Nat.le_refl _) _)
  have hb0 : Hid (Holds (w.alloc (.cells #[.int .u8 (tag : Int), .slice ba bl bc, .slice ka n kc] 31)) w.heap.size 31 #[.int .u8 (tag : Int), .slice ba bl bc, .slice ka n kc]) := Lib.hid (Holds.fresh _ _ _)
  have z0 : (w.alloc (.cells #[.int .u8 (tag : Int), .slice ba bl bc, .slice ka n kc] 31)).cell? ⟨w.heap.size, 0, none⟩ = some (.int .u8 (tag : Int)) := hb0.out.cell 0
  have z1 : (w.alloc (.cells #[.int .u8 (tag : Int), .slice ba bl bc, .slice ka n kc] 31)).cell? ⟨w.heap.size, 1, none⟩ = some (.slice ba bl bc) := hb0.out.cell 1
  have z2 : (w.alloc (.cells #[.int .u8 (tag : Int), .slice ba bl bc, .slice ka n kc] 31)).cell? ⟨w.heap.size, 2, none⟩ = some (.slice ka n kc) := hb0.out.cell 2
  cases s
  case false =>
    have HF : Hid (v = false) := Lib.hid (by rw [HI.out]; rfl)
    go_enter Tryd.func44, Tryd.ntmps44
    go_wp2_with fail
    refine (HS.out _ hq0.out).mono ?_
    rintro e w2 ⟨rfl, hb2⟩
    have HQ2 := Lib.hid (hq0.out.trans (hb2.mono hq0.out.size))
    clear hb2
    go_wp2_with fail
    go_ret
    exact ⟨ret_bool HF.out.symm, HQ2.out⟩
  case true =>
  have HQ0 := hq0
  have HB0 := hb0
  go_enter Tryd.func44, Tryd.ntmps44
  go_wp2_with fail
  refine (HS.out _ HQ0.out).mono ?_
  rintro e w2 ⟨rfl, hb2⟩
  have HQ2 := Lib.hid (HQ0.out.trans (hb2.mono HQ0.out.size))
  have HB2 := Lib.hid (HB0.out.under hb2 HB0.out.lt)
  have y20 : w2.cell? ⟨w.heap.size, 0, none⟩ = some (.int .u8 (tag : Int)) := HB2.out.cell 0
  have y21 : w2.cell? ⟨w.heap.size, 1, none⟩ = some (.slice ba bl bc) := HB2.out.cell 1
  have y22 : w2.cell? ⟨w.heap.size, 2, none⟩ = some (.slice ka n kc) := HB2.out.cell 2
  clear hb2
  go_wp2_with fail
  refine (HC.out _ HQ2.out).mono ?_
  rintro e w3 ⟨rfl, hb3⟩
  have HQ3 := Lib.hid (HQ2.out.trans (hb3.mono HQ2.out.size))
  have HB3 := Lib.hid (HB2.out.under hb3 HB2.out.lt)
  have y30 : w3.cell? ⟨w.heap.size, 0, none⟩ = some (.int .u8 (tag : Int)) := HB3.out.cell 0
  have y31 : w3.cell? ⟨w.heap.size, 1, none⟩ = some (.slice ba bl bc) := HB3.out.cell 1
  have y32 : w3.cell? ⟨w.heap.size, 2, none⟩ = some (.slice ka n kc) := HB3.out.cell 2
  clear hb3
  by_cases h1 : x ≤ 600
  case neg =>
    have HF : Hid (v = false) := Lib.hid (by rw [HI.out]; simp [h1])
    have d1 : decide ((x : Int) ≤ 600) = false := decide_eq_false (by omega)
    have d2 : decide (x ≤ 600) = false := decide_eq_false h1
    go_wp2_with fail
    go_ret
    exact ⟨ret_bool HF.out.symm, HQ3.out⟩
  case pos =>
    have HV : Hid (v = decide (y ≤ 12000)) := Lib.hid (by rw [HI.out]; simp [h1])
    have d1 : decide ((x : Int) ≤ 600) = true := decide_eq_true (by omega)
    have d2 : decide (x ≤ 600) = true := decide_eq_true h1
    go_wp2_with fail
    refine (HL.out _ HQ3.out).mono ?_
    rintro e w4 ⟨A4, c4, rfl, hb4⟩
    have HQ4 := Lib.hid (HQ3.out.trans (hb4.mono HQ3.out.size))
    clear hb4
    have hd : decide ((y : Int) ≤ 12000) = decide (y ≤ 12000) := by rw [decide_eq_decide]; omega
    go_wp2_with fail
    go_ret
    exact ⟨ret_bool (by rw [HV.out]), HQ4.out⟩
/-- Its bytes, or none. -/
def bytesT (t : Tr) : List Nat := if isT t = true then t.enc else []
set_option maxRecDepth 100000 in
set_option maxHeartbeats 4000000 in
theorem bytes'_any (t : Lt) (w : World) (B : Nat) (hr : TrAt w B t) (hB : B ≤ w.heap.size) (hmc : t.t.count ≤ 1000000) (hmx : t.t.enc.length ≤ 400000) :
    Calls Tryd.prog 20 #[t.val] w fun e w' => ∃ A c n, e = .returned (.slice A n c) ∧ (bytesT t.t).length = n ∧ Mine 5 w' w.heap.size A c (bytesT t.t) ∧ Below w.heap.size w w' := by
  have HS : Hid (∀ W, Below w.heap.size w W → Calls Tryd.prog 44 #[t.val] W fun e w' => e = .returned (.bool (isT t.t)) ∧ Below W.heap.size W w') := Lib.hid fun W hW => isTl'_any t W B (hr.under' (hW.mono hB)) (by have := hW.size; omega) hmc hmx
  have HL : Hid (∀ W, Below w.heap.size w W → Calls Tryd.prog 45 #[t.val] W fun e w' => ∃ A c, e = .returned (.slice A t.t.enc.length c) ∧ Mine 5 w' w.heap.size A c t.t.enc ∧ Below W.heap.size W w') := Lib.hid fun W hW => (laid_any t W B (hr.under' (hW.mono hB)) (by have := hW.size; omega) hmx).mono fun _ _ ⟨A, c, h1, h2, h3⟩ => ⟨A, c, h1, h2.less hW.size, h3⟩
  have HI : Hid (bytesT t.t = if isT t.t = true then t.t.enc else []) := Lib.hid rfl
  rw [Lt.val_eq] at HS HL ⊢
  generalize bytesT t.t = v at *
  generalize isT t.t = s at *
  generalize t.t.enc = y at *
  clear hr hB
  generalize t.tag = tag at *
  generalize t.ba = ba at *
  generalize t.bc = bc at *
  generalize t.body.length = bl at *
  generalize t.ka = ka at *
  generalize t.kids.length = n at *
  generalize t.kc = kc at *
  have hq0 : Hid (Below w.heap.size w (w.alloc (.cells #[.int .u8 (tag : Int), .slice ba bl bc, .slice ka n kc] 31))) := Lib.hid ((Below.refl _ _).alloc (Nat.le_refl _) _)
  have hb0 : Hid (Holds (w.alloc (.cells #[.int .u8 (tag : Int), .slice ba bl bc, .slice ka n kc] 31)) w.heap.size 31 #[.int .u8 (tag : Int), .slice ba bl bc, .slice ka n kc]) := Lib.hid (Holds.fresh _ _ _)
  have z0 : (w.alloc (.cells #[.int .u8 (tag : Int), .slice ba bl bc, .slice ka n kc] 31)).cell? ⟨w.heap.size, 0, none⟩ = some (.int .u8 (tag : Int)) := hb0.out.cell 0
  have z1 : (w.alloc (.cells #[.int .u8 (tag : Int), .slice ba bl bc, .slice ka n kc] 31)).cell? ⟨w.heap.size, 1, none⟩ = some (.slice ba bl bc) := hb0.out.cell 1
  have z2 : (w.alloc (.cells #[.int .u8 (tag : Int), .slice ba bl bc, .slice ka n kc] 31)).cell? ⟨w.heap.size, 2, none⟩ = some (.slice ka n kc) := hb0.out.cell 2
  have HQ0 := hq0
  have HB0 := hb0
  cases s
  case false =>
    have HF : Hid (v = []) := Lib.hid (by rw [HI.out]; rfl)
    go_enter Tryd.func20, Tryd.ntmps20
    go_wp2_with fail
    refine (HS.out _ hq0.out).mono ?_
    rintro e w2 ⟨rfl, hb2⟩
    have HQ2 := Lib.hid (hq0.out.trans (hb2.mono hq0.out.size))
    clear hb2
    go_wp2_with fail
    go_ret
    exact ⟨none, 0, 0, rfl, by rw [HF.out]; rfl, by rw [HF.out]; exact Mine.nil _ _ _, HQ2.out⟩
  case true =>
    have HF : Hid (v = y) := Lib.hid (by rw [HI.out]; rfl)
    go_enter Tryd.func20, Tryd.ntmps20
    go_wp2_with fail
    refine (HS.out _ hq0.out).mono ?_
    rintro e w2 ⟨rfl, hb2⟩
    have HQ2 := Lib.hid (HQ0.out.trans (hb2.mono HQ0.out.size))
    have HB2 := Lib.hid (HB0.out.under hb2 HB0.out.lt)
    have y20 : w2.cell? ⟨w.heap.size, 0, none⟩ = some (.int .u8 (tag : Int)) := HB2.out.cell 0
    have y21 : w2.cell? ⟨w.heap.size, 1, none⟩ = some (.slice ba bl bc) := HB2.out.cell 1
    have y22 : w2.cell? ⟨w.heap.size, 2, none⟩ = some (.slice ka n kc) := HB2.out.cell 2
    clear hb2
    go_wp2_with fail
    refine (HL.out _ HQ2.out).mono ?_
    rintro e w3 ⟨A3, c3, rfl, hm3, hb3⟩
    have HQ3 := Lib.hid (HQ2.out.trans (hb3.mono HQ2.out.size))
    have HM3 := Lib.hid hm3
    clear hb3 hm3
    go_wp2_with fail
    go_ret
    exact ⟨A3, c3, y.length, rfl, by rw [HF.out], by rw [HF.out]; exact HM3.out, HQ3.out⟩
end Go.Proofs.YtdjklhglkmacbaaDoor
