/-
  A thing's bytes, or none: by the program.
-/
import Derived.Test.YtlggbkacaemdjaaTlv19
import Derived.Test.YtlggbkacaemdjaaTlv14
namespace Go.Proofs.Ytlggbkacaemdjaa
open Go.RowKit
set_option linter.unusedVariables false
set_option linter.unusedSimpArgs false

set_option maxRecDepth 100000 in
set_option maxHeartbeats 4000000 in
theorem bytes_any (t : Lt) (w : World) (B : Nat) (hr : TrAt w B t) (hB : B ≤ w.heap.size) (hmc : t.t.count ≤ 1000000) (hmx : t.t.enc.length ≤ 400000) :
    Calls Try.prog 9 #[t.val] w fun e w' => ∃ A c n, e = .returned (.slice A n c) ∧ (bytesT t.t).length = n ∧ Mine 5 w' w.heap.size A c (bytesT t.t) ∧ Below w.heap.size w w' := by
  have HS : Hid (∀ W, Below w.heap.size w W → Calls Try.prog 11 #[t.val] W fun e w' => e = .returned (.bool (isT t.t)) ∧ Below W.heap.size W w') := Lib.hid fun W hW => is_any t W B (hr.under' (hW.mono hB)) (by have := hW.size; omega) hmc hmx
  have HL : Hid (∀ W, Below w.heap.size w W → Calls Try.prog 21 #[.slice none 0 0, t.val] W fun e w' => ∃ A c, e = .returned (.slice A t.t.enc.length c) ∧ Mine 5 w' w.heap.size A c t.t.enc ∧ Below W.heap.size W w') := Lib.hid fun W hW => (put_any t W B (hr.under' (hW.mono hB)) (by have := hW.size; omega) hmx).mono fun _ _ ⟨A, c, h1, h2, h3⟩ => ⟨A, c, h1, h2.less hW.size, h3⟩
  have HI : Hid (bytesT t.t = if isT t.t = true then t.t.enc else []) := Lib.hid rfl
  rw [Lt.val_eq] at HS HL ⊢
  generalize bytesT t.t = v at *
  generalize isT t.t = s at *
  generalize t.t.enc = y at *
  clear hr hB
  generalize t.tag = tag at *
  generalize t.ba = ba at *
  generalize t.bc = bc at *
  generalize t.body.length = bl at *
  generalize t.ka = ka at *
  generalize t.kids.length = n at *
  generalize t.kc = kc at *
  have hq0 : Hid (Below w.heap.size w (w.alloc (.cells #[.int .u8 (tag : Int), .slice ba bl bc, .slice ka n kc] 25))) := Lib.hid ((Below.refl _ _).alloc (Nat.le_refl _) _)
  have hb0 : Hid (Holds (w.alloc (.cells #[.int .u8 (tag : Int), .slice ba bl bc, .slice ka n kc] 25)) w.heap.size 25 #[.int .u8 (tag : Int), .slice ba bl bc, .slice ka n kc]) := Lib.hid (Holds.fresh _ _ _)
  have z0 : (w.alloc (.cells #[.int .u8 (tag : Int), .slice ba bl bc, .slice ka n kc] 25)).cell? ⟨w.heap.size, 0, none⟩ = some (.int .u8 (tag : Int)) := hb0.out.cell 0
  have z1 : (w.alloc (.cells #[.int .u8 (tag : Int), .slice ba bl bc, .slice ka n kc] 25)).cell? ⟨w.heap.size, 1, none⟩ = some (.slice ba bl bc) := hb0.out.cell 1
  have z2 : (w.alloc (.cells #[.int .u8 (tag : Int), .slice ba bl bc, .slice ka n kc] 25)).cell? ⟨w.heap.size, 2, none⟩ = some (.slice ka n kc) := hb0.out.cell 2
  have HQ0 := hq0
  have HB0 := hb0
  cases s
  case false =>
    have HF : Hid (v = []) := Lib.hid (by rw [HI.out]; rfl)
    go_enter Try.func9, Try.ntmps9
    go_wp2_with fail
    refine (HS.out _ hq0.out).mono ?_
    rintro e w2 ⟨rfl, hb2⟩
    have HQ2 := Lib.hid (hq0.out.trans (hb2.mono hq0.out.size))
    clear hb2
    go_wp2_with fail
    go_ret
    exact ⟨none, 0, 0, rfl, by rw [HF.out]; rfl, by rw [HF.out]; exact Mine.nil _ _ _, HQ2.out⟩
  case true =>
    have HF : Hid (v = y) := Lib.hid (by rw [HI.out]; rfl)
    go_enter Try.func9, Try.ntmps9
    go_wp2_with fail
    refine (HS.out _ hq0.out).mono ?_
    rintro e w2 ⟨rfl, hb2⟩
    have HQ2 := Lib.hid (HQ0.out.trans (hb2.mono HQ0.out.size))
    have HB2 := Lib.hid (HB0.out.under hb2 HB0.out.lt)
    have y20 : w2.cell? ⟨w.heap.size, 0, none⟩ = some (.int .u8 (tag : Int)) := HB2.out.cell 0
    have y21 : w2.cell? ⟨w.heap.size, 1, none⟩ = some (.slice ba bl bc) := HB2.out.cell 1
    have y22 : w2.cell? ⟨w.heap.size, 2, none⟩ = some (.slice ka n kc) := HB2.out.cell 2
    clear hb2
    go_wp2_with fail
    refine (HL.out _ HQ2.out).mono ?_
    rintro e w3 ⟨A3, c3, rfl, hm3, hb3⟩
    have HQ3 := Lib.hid (HQ2.out.trans (hb3.mono HQ2.out.size))
    have HM3 := Lib.hid hm3
    clear hb3 hm3
    go_wp2_with fail
    go_ret
    exact ⟨A3, c3, y.length, rfl, by rw [HF.out], by rw [HF.out]; exact HM3.out, HQ3.out⟩
end Go.Proofs.Ytlggbkacaemdjaa
