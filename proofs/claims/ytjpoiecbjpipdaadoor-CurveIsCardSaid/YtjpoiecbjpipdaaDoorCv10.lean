/-
  The document: is it a point?
-/
import Derived.Test.YtjpoiecbjpipdaaDoorBoxP
import Derived.Deep.RegionLaw
import Derived.Deep.RegionHeld3
import Derived.Deep.DrawnRows
namespace Go.Proofs.YtjpoiecbjpipdaaDoor
open Go.RowKit
set_option linter.unusedVariables false
set_option linter.unusedSimpArgs false

set_option maxRecDepth 100000 in
set_option maxHeartbeats 40000000 in
theorem refIs_any (w : World) (Ax Ay : Option Addr) (cx cy : Nat) (lx ly : List Nat) (inf : Bool) (hx : Rd .u32 w w.heap.size Ax cx lx) (hy : Rd .u32 w w.heap.size Ay cy ly) (hdx : Dg lx) (hdy : Dg ly) (hsx : lx.length ≤ 1000) (hsy : ly.length ≤ 1000) :
    Calls Tryd.prog 10 #[.agg #[.slice Ax lx.length cx, .slice Ay ly.length cy, .bool inf]] w fun e w' => e = .returned (.bool (ptOk lx ly inf)) ∧ Below w.heap.size w w' := by
  obtain ⟨w1, hw1⟩ : ∃ W, W = w.alloc (.cells #[.slice Ax lx.length cx, .slice Ay ly.length cy, .bool inf] 25) := ⟨_, rfl⟩
  have hBX : BoxAt w1 w.heap.size Ax lx.length cx Ay ly.length cy inf := by rw [hw1]; exact ⟨Holds.fresh w _ _⟩
  have hb : Below w.heap.size w w1 := by rw [hw1]; exact (Below.refl _ _).alloc (Nat.le_refl _) _
  have hsz : w.heap.size < w1.heap.size := by rw [hw1]; simp
  have HBX := Lib.hid hBX
  have HB := Lib.hid hb
  have HW := Lib.hid hw1
  have HX := Lib.hid ((hx.under hb).more hb.size)
  have HY := Lib.hid ((hy.under hb).more hb.size)
  have HDX := Lib.hid hdx
  have HDY := Lib.hid hdy
  obtain ⟨b0, b1, b2⟩ := hBX.cells
  clear hBX hb hw1 hx hy hdx hdy
  cases inf
  case true =>
    have hXc : lx.length ≤ cx := HX.out.1
    have hYc : ly.length ≤ cy := HY.out.1
    obtain ⟨n, hn⟩ : ∃ n, n = lx.length + ly.length := ⟨_, rfl⟩
    have q1 : IntKind.i64.wrap ((lx.length : Int) + (ly.length : Int)) = (n : Int) := by rw [← Int.natCast_add, ← hn]; exact IntWalk.i64_in _ (by omega)
    have HF : Hid (ptOk lx ly true = ((n : Int) == 0)) := Lib.hid (by unfold ptOk; rw [if_pos rfl, Bool.eq_iff_iff, Bool.and_eq_true, decide_eq_true_iff, decide_eq_true_iff, beq_iff_eq]; omega)
    clear hn
    go_enter Tryd.func10, Tryd.ntmps10
    go_wp2_with fail
    go_ret
    exact ⟨by rw [HF.out]; rfl, (Below.refl _ _).alloc (Nat.le_refl _) _⟩
  case false =>
    have hnl := fun (l : List Nat) (h : okN l = true) => (okN_nrm h).2
    cases hokx : okN lx
    case false =>
      have HOKX := Lib.hid hokx
      have HF : Hid (ptOk lx ly false = false) := Lib.hid (by unfold ptOk blw; rw [hokx]; simp)
      clear hokx
      go_enter Tryd.func10, Tryd.ntmps10
      go_wp2_with fail
      rw [← HW.out]
      go_wp2_with fail
      clear b0 b1 b2
      refine wp_region_noPanic ?_
      refine wp_region_held_drew (S := fun W => Below w1.heap.size w1 W) (by kernel_rfl) ((Below.refl _ w1).drew) (fun hHeld => ?_)
      obtain ⟨V, hV⟩ : ∃ W, W = w1.drew := ⟨_, rfl⟩
      rw [← hV]
      have HSV : Hid (Below w1.heap.size w1 V) := Lib.hid (by rw [hV]; exact (Below.refl _ w1).drew)
      replace hHeld : (fun W => Below w1.heap.size w1 W) V := HSV.out
      clear hV
      refine wpAnyH_take (i := 0) (oi := { dst := some 13, op := Op.fieldAddr 25 (Operand.tmp 1) 0, type := 0, pos := _, after := _, guard := none }) (v := ?_) rfl (by kernel_rfl) (by kernel_rfl) (by kernel_rfl) (fun _ _ _ h => h) (Or.inl ⟨by rfl, ?_⟩) hHeld ?_
      rotate_left 1
      · (intro W hW; (try dsimp only at hW); go_simp; try with_reducible rfl)
      try simp only [Act.put, List.setIfInBounds_toArray, List.set_cons_zero, List.set_cons_succ]
      refine wpAnyH_take (i := 1) (oi := { dst := some 14, op := Op.load 23 (Operand.tmp 13), type := 23, pos := _, after := _, guard := none }) (v := ?_) rfl (by kernel_rfl) (by kernel_rfl) (by kernel_rfl) (fun _ _ _ h => h) (Or.inl ⟨by rfl, ?_⟩) hHeld ?_
      rotate_left 1
      · (intro W hW; have hBC := (HBX.out.under hW hsz).cells; obtain ⟨b0, b1, b2⟩ := hBC; (try dsimp only at hW); go_simp; try with_reducible rfl)
      try simp only [Act.put, List.setIfInBounds_toArray, List.set_cons_zero, List.set_cons_succ]
      refine wpAnyH_ready (rs := [2]) (by kernel_rfl) (by simp) ?_
      refine AllReadyH.cons (o := { dst := some 15, op := Op.call { callee := Callee.value (Operand.func 33), args := #[Operand.tmp 14], argTypes := #[23] }, type := 4, pos := _, after := _, guard := none }) rfl (fun K hK => ?_) AllReadyH.nil
      go_simp
      refine (is'_any V _ Ax cx lx ((HX.out.under HSV.out).more HSV.out.size) false HOKX.out).mono ?_
      rintro e wq ⟨rfl, rfl⟩
      go_simp
      refine hK.out _ _ hHeld (fun _ => ?_)
      clear hK K
      try simp only [Act.put, List.setIfInBounds_toArray, List.set_cons_zero, List.set_cons_succ]
      refine wpAnyH_take (i := 3) (oi := { dst := some 16, op := Op.unOp UnOp.not 4 (Operand.tmp 15), type := 4, pos := _, after := _, guard := none }) (v := ?_) rfl (by kernel_rfl) (by kernel_rfl) (by kernel_rfl) (fun _ _ _ h => h) (Or.inl ⟨by rfl, ?_⟩) hHeld ?_
      rotate_left 1
      · (intro W hW; (try dsimp only at hW); go_simp; try with_reducible rfl)
      try simp only [Act.put, List.setIfInBounds_toArray, List.set_cons_zero, List.set_cons_succ]
      refine wpAnyH_take (i := 4) (oi := { dst := some 17, op := Op.move (Operand.tmp 16), type := 4, pos := _, after := _, guard := none }) (v := ?_) rfl (by kernel_rfl) (by kernel_rfl) (by kernel_rfl) (fun _ _ _ h => h) (Or.inl ⟨by rfl, ?_⟩) hHeld ?_
      rotate_left 1
      · (intro W hW; (try dsimp only at hW); go_simp; try with_reducible rfl)
      try simp only [Act.put, List.setIfInBounds_toArray, List.set_cons_zero, List.set_cons_succ]
      refine wpAnyH_take (i := 5) (oi := { dst := some 18, op := Op.fieldAddr 25 (Operand.tmp 1) 1, type := 0, pos := _, after := _, guard := some (4, false) }) (v := undef) rfl (by kernel_rfl) (by kernel_rfl) (by kernel_rfl) (fun _ _ _ h => h) (Or.inr ⟨by rfl, rfl⟩) hHeld ?_
      try simp only [Act.put, List.setIfInBounds_toArray, List.set_cons_zero, List.set_cons_succ]
      refine wpAnyH_take (i := 6) (oi := { dst := some 19, op := Op.load 23 (Operand.tmp 18), type := 23, pos := _, after := _, guard := some (4, false) }) (v := undef) rfl (by kernel_rfl) (by kernel_rfl) (by kernel_rfl) (fun _ _ _ h => h) (Or.inr ⟨by rfl, rfl⟩) hHeld ?_
      try simp only [Act.put, List.setIfInBounds_toArray, List.set_cons_zero, List.set_cons_succ]
      refine wpAnyH_take (i := 7) (oi := { dst := some 20, op := Op.call { callee := Callee.value (Operand.func 33), args := #[Operand.tmp 19], argTypes := #[23] }, type := 4, pos := _, after := _, guard := some (4, false) }) (v := undef) rfl (by kernel_rfl) (by kernel_rfl) (by kernel_rfl) (fun _ _ _ h => h) (Or.inr ⟨by rfl, rfl⟩) hHeld ?_
      try simp only [Act.put, List.setIfInBounds_toArray, List.set_cons_zero, List.set_cons_succ]
      refine wpAnyH_take (i := 8) (oi := { dst := some 21, op := Op.unOp UnOp.not 4 (Operand.tmp 20), type := 4, pos := _, after := _, guard := some (4, false) }) (v := undef) rfl (by kernel_rfl) (by kernel_rfl) (by kernel_rfl) (fun _ _ _ h => h) (Or.inr ⟨by rfl, rfl⟩) hHeld ?_
      try simp only [Act.put, List.setIfInBounds_toArray, List.set_cons_zero, List.set_cons_succ]
      refine wpAnyH_take (i := 9) (oi := { dst := some 22, op := Op.pick (Operand.tmp 17) (Operand.const (Value.bool true)) (Operand.tmp 21), type := 4, pos := _, after := _, guard := none }) (v := ?_) rfl (by kernel_rfl) (by kernel_rfl) (by kernel_rfl) (fun _ _ _ h => h) (Or.inl ⟨by rfl, ?_⟩) hHeld ?_
      rotate_left 1
      · (intro W hW; (try dsimp only at hW); go_simp; try with_reducible rfl)
      try simp only [Act.put, List.setIfInBounds_toArray, List.set_cons_zero, List.set_cons_succ]
      refine wpAnyH_take (i := 10) (oi := { dst := some 23, op := Op.move (Operand.tmp 22), type := 4, pos := _, after := _, guard := none }) (v := ?_) rfl (by kernel_rfl) (by kernel_rfl) (by kernel_rfl) (fun _ _ _ h => h) (Or.inl ⟨by rfl, ?_⟩) hHeld ?_
      rotate_left 1
      · (intro W hW; (try dsimp only at hW); go_simp; try with_reducible rfl)
      try simp only [Act.put, List.setIfInBounds_toArray, List.set_cons_zero, List.set_cons_succ]
      refine wpAnyH_take (i := 11) (oi := { dst := some 24, op := Op.fieldAddr 25 (Operand.tmp 1) 0, type := 0, pos := _, after := _, guard := some (10, false) }) (v := undef) rfl (by kernel_rfl) (by kernel_rfl) (by kernel_rfl) (fun _ _ _ h => h) (Or.inr ⟨by rfl, rfl⟩) hHeld ?_
      try simp only [Act.put, List.setIfInBounds_toArray, List.set_cons_zero, List.set_cons_succ]
      refine wpAnyH_take (i := 12) (oi := { dst := some 25, op := Op.load 23 (Operand.tmp 24), type := 23, pos := _, after := _, guard := some (10, false) }) (v := undef) rfl (by kernel_rfl) (by kernel_rfl) (by kernel_rfl) (fun _ _ _ h => h) (Or.inr ⟨by rfl, rfl⟩) hHeld ?_
      try simp only [Act.put, List.setIfInBounds_toArray, List.set_cons_zero, List.set_cons_succ]
      refine wpAnyH_take (i := 13) (oi := { dst := some 26, op := Op.call { callee := Callee.value (Operand.func 24), args := #[], argTypes := #[] }, type := 23, pos := _, after := _, guard := some (10, false) }) (v := undef) rfl (by kernel_rfl) (by kernel_rfl) (by kernel_rfl) (fun _ _ _ h => h) (Or.inr ⟨by rfl, rfl⟩) hHeld ?_
      try simp only [Act.put, List.setIfInBounds_toArray, List.set_cons_zero, List.set_cons_succ]
      refine wpAnyH_take (i := 14) (oi := { dst := some 27, op := Op.call { callee := Callee.value (Operand.func 34), args := #[Operand.tmp 25, Operand.tmp 26], argTypes := #[23, 23] }, type := 3, pos := _, after := _, guard := some (10, false) }) (v := undef) rfl (by kernel_rfl) (by kernel_rfl) (by kernel_rfl) (fun _ _ _ h => h) (Or.inr ⟨by rfl, rfl⟩) hHeld ?_
      try simp only [Act.put, List.setIfInBounds_toArray, List.set_cons_zero, List.set_cons_succ]
      refine wpAnyH_take (i := 15) (oi := { dst := some 28, op := Op.binOp BinOp.geq 3 (Operand.tmp 27) (Operand.const (Value.int IntKind.i64 0)) 3, type := 4, pos := _, after := _, guard := some (10, false) }) (v := undef) rfl (by kernel_rfl) (by kernel_rfl) (by kernel_rfl) (fun _ _ _ h => h) (Or.inr ⟨by rfl, rfl⟩) hHeld ?_
      try simp only [Act.put, List.setIfInBounds_toArray, List.set_cons_zero, List.set_cons_succ]
      refine wpAnyH_take (i := 16) (oi := { dst := some 29, op := Op.pick (Operand.tmp 23) (Operand.const (Value.bool true)) (Operand.tmp 28), type := 4, pos := _, after := _, guard := none }) (v := ?_) rfl (by kernel_rfl) (by kernel_rfl) (by kernel_rfl) (fun _ _ _ h => h) (Or.inl ⟨by rfl, ?_⟩) hHeld ?_
      rotate_left 1
      · (intro W hW; (try dsimp only at hW); go_simp; try with_reducible rfl)
      try simp only [Act.put, List.setIfInBounds_toArray, List.set_cons_zero, List.set_cons_succ]
      refine wpAnyH_take (i := 17) (oi := { dst := some 30, op := Op.move (Operand.tmp 29), type := 4, pos := _, after := _, guard := none }) (v := ?_) rfl (by kernel_rfl) (by kernel_rfl) (by kernel_rfl) (fun _ _ _ h => h) (Or.inl ⟨by rfl, ?_⟩) hHeld ?_
      rotate_left 1
      · (intro W hW; (try dsimp only at hW); go_simp; try with_reducible rfl)
      try simp only [Act.put, List.setIfInBounds_toArray, List.set_cons_zero, List.set_cons_succ]
      refine wpAnyH_take (i := 18) (oi := { dst := some 31, op := Op.fieldAddr 25 (Operand.tmp 1) 1, type := 0, pos := _, after := _, guard := some (17, false) }) (v := undef) rfl (by kernel_rfl) (by kernel_rfl) (by kernel_rfl) (fun _ _ _ h => h) (Or.inr ⟨by rfl, rfl⟩) hHeld ?_
      try simp only [Act.put, List.setIfInBounds_toArray, List.set_cons_zero, List.set_cons_succ]
      refine wpAnyH_take (i := 19) (oi := { dst := some 32, op := Op.load 23 (Operand.tmp 31), type := 23, pos := _, after := _, guard := some (17, false) }) (v := undef) rfl (by kernel_rfl) (by kernel_rfl) (by kernel_rfl) (fun _ _ _ h => h) (Or.inr ⟨by rfl, rfl⟩) hHeld ?_
      try simp only [Act.put, List.setIfInBounds_toArray, List.set_cons_zero, List.set_cons_succ]
      refine wpAnyH_take (i := 20) (oi := { dst := some 33, op := Op.call { callee := Callee.value (Operand.func 24), args := #[], argTypes := #[] }, type := 23, pos := _, after := _, guard := some (17, false) }) (v := undef) rfl (by kernel_rfl) (by kernel_rfl) (by kernel_rfl) (fun _ _ _ h => h) (Or.inr ⟨by rfl, rfl⟩) hHeld ?_
      try simp only [Act.put, List.setIfInBounds_toArray, List.set_cons_zero, List.set_cons_succ]
      refine wpAnyH_take (i := 21) (oi := { dst := some 34, op := Op.call { callee := Callee.value (Operand.func 34), args := #[Operand.tmp 32, Operand.tmp 33], argTypes := #[23, 23] }, type := 3, pos := _, after := _, guard := some (17, false) }) (v := undef) rfl (by kernel_rfl) (by kernel_rfl) (by kernel_rfl) (fun _ _ _ h => h) (Or.inr ⟨by rfl, rfl⟩) hHeld ?_
      try simp only [Act.put, List.setIfInBounds_toArray, List.set_cons_zero, List.set_cons_succ]
      refine wpAnyH_take (i := 22) (oi := { dst := some 35, op := Op.binOp BinOp.geq 3 (Operand.tmp 34) (Operand.const (Value.int IntKind.i64 0)) 3, type := 4, pos := _, after := _, guard := some (17, false) }) (v := undef) rfl (by kernel_rfl) (by kernel_rfl) (by kernel_rfl) (fun _ _ _ h => h) (Or.inr ⟨by rfl, rfl⟩) hHeld ?_
      try simp only [Act.put, List.setIfInBounds_toArray, List.set_cons_zero, List.set_cons_succ]
      refine wpAnyH_take (i := 23) (oi := { dst := some 36, op := Op.pick (Operand.tmp 30) (Operand.const (Value.bool true)) (Operand.tmp 35), type := 4, pos := _, after := _, guard := none }) (v := ?_) rfl (by kernel_rfl) (by kernel_rfl) (by kernel_rfl) (fun _ _ _ h => h) (Or.inl ⟨by rfl, ?_⟩) hHeld ?_
      rotate_left 1
      · (intro W hW; (try dsimp only at hW); go_simp; try with_reducible rfl)
      try simp only [Act.put, List.setIfInBounds_toArray, List.set_cons_zero, List.set_cons_succ]
      refine wpAnyH_done (by kernel_rfl) ?_ _
      refine NoPanic.normal ?_
      go_wp2_with fail
      go_ret
      exact ⟨by rw [HF.out]; rfl, HB.out.trans (HSV.out.mono HB.out.size)⟩
    case true =>
      cases hoky : okN ly
      case false =>
        have HOKX := Lib.hid hokx
        have HOKY := Lib.hid hoky
        have HF : Hid (ptOk lx ly false = false) := Lib.hid (by unfold ptOk blw; rw [hokx, hoky]; simp)
        clear hokx hoky
        go_enter Tryd.func10, Tryd.ntmps10
        go_wp2_with fail
        rw [← HW.out]
        go_wp2_with fail
        clear b0 b1 b2
        refine wp_region_noPanic ?_
        refine wp_region_held_drew (S := fun W => Below w1.heap.size w1 W) (by kernel_rfl) ((Below.refl _ w1).drew) (fun hHeld => ?_)
        obtain ⟨V, hV⟩ : ∃ W, W = w1.drew := ⟨_, rfl⟩
        rw [← hV]
        have HSV : Hid (Below w1.heap.size w1 V) := Lib.hid (by rw [hV]; exact (Below.refl _ w1).drew)
        replace hHeld : (fun W => Below w1.heap.size w1 W) V := HSV.out
        clear hV
        refine wpAnyH_take (i := 0) (oi := { dst := some 13, op := Op.fieldAddr 25 (Operand.tmp 1) 0, type := 0, pos := _, after := _, guard := none }) (v := ?_) rfl (by kernel_rfl) (by kernel_rfl) (by kernel_rfl) (fun _ _ _ h => h) (Or.inl ⟨by rfl, ?_⟩) hHeld ?_
        rotate_left 1
        · (intro W hW; (try dsimp only at hW); go_simp; try with_reducible rfl)
        try simp only [Act.put, List.setIfInBounds_toArray, List.set_cons_zero, List.set_cons_succ]
        refine wpAnyH_take (i := 1) (oi := { dst := some 14, op := Op.load 23 (Operand.tmp 13), type := 23, pos := _, after := _, guard := none }) (v := ?_) rfl (by kernel_rfl) (by kernel_rfl) (by kernel_rfl) (fun _ _ _ h => h) (Or.inl ⟨by rfl, ?_⟩) hHeld ?_
        rotate_left 1
        · (intro W hW; have hBC := (HBX.out.under hW hsz).cells; obtain ⟨b0, b1, b2⟩ := hBC; (try dsimp only at hW); go_simp; try with_reducible rfl)
        try simp only [Act.put, List.setIfInBounds_toArray, List.set_cons_zero, List.set_cons_succ]
        refine wpAnyH_ready (rs := [2]) (by kernel_rfl) (by simp) ?_
        refine AllReadyH.cons (o := { dst := some 15, op := Op.call { callee := Callee.value (Operand.func 33), args := #[Operand.tmp 14], argTypes := #[23] }, type := 4, pos := _, after := _, guard := none }) rfl (fun K hK => ?_) AllReadyH.nil
        go_simp
        refine (is'_any V _ Ax cx lx ((HX.out.under HSV.out).more HSV.out.size) true HOKX.out).mono ?_
        rintro e wq ⟨rfl, rfl⟩
        go_simp
        refine hK.out _ _ hHeld (fun _ => ?_)
        clear hK K
        try simp only [Act.put, List.setIfInBounds_toArray, List.set_cons_zero, List.set_cons_succ]
        refine wpAnyH_take (i := 3) (oi := { dst := some 16, op := Op.unOp UnOp.not 4 (Operand.tmp 15), type := 4, pos := _, after := _, guard := none }) (v := ?_) rfl (by kernel_rfl) (by kernel_rfl) (by kernel_rfl) (fun _ _ _ h => h) (Or.inl ⟨by rfl, ?_⟩) hHeld ?_
        rotate_left 1
        · (intro W hW; (try dsimp only at hW); go_simp; try with_reducible rfl)
        try simp only [Act.put, List.setIfInBounds_toArray, List.set_cons_zero, List.set_cons_succ]
        refine wpAnyH_take (i := 4) (oi := { dst := some 17, op := Op.move (Operand.tmp 16), type := 4, pos := _, after := _, guard := none }) (v := ?_) rfl (by kernel_rfl) (by kernel_rfl) (by kernel_rfl) (fun _ _ _ h => h) (Or.inl ⟨by rfl, ?_⟩) hHeld ?_
        rotate_left 1
        · (intro W hW; (try dsimp only at hW); go_simp; try with_reducible rfl)
        try simp only [Act.put, List.setIfInBounds_toArray, List.set_cons_zero, List.set_cons_succ]
        refine wpAnyH_take (i := 5) (oi := { dst := some 18, op := Op.fieldAddr 25 (Operand.tmp 1) 1, type := 0, pos := _, after := _, guard := some (4, false) }) (v := ?_) rfl (by kernel_rfl) (by kernel_rfl) (by kernel_rfl) (fun _ _ _ h => h) (Or.inl ⟨by rfl, ?_⟩) hHeld ?_
        rotate_left 1
        · (intro W hW; (try dsimp only at hW); go_simp; try with_reducible rfl)
        try simp only [Act.put, List.setIfInBounds_toArray, List.set_cons_zero, List.set_cons_succ]
        refine wpAnyH_take (i := 6) (oi := { dst := some 19, op := Op.load 23 (Operand.tmp 18), type := 23, pos := _, after := _, guard := some (4, false) }) (v := ?_) rfl (by kernel_rfl) (by kernel_rfl) (by kernel_rfl) (fun _ _ _ h => h) (Or.inl ⟨by rfl, ?_⟩) hHeld ?_
        rotate_left 1
        · (intro W hW; have hBC := (HBX.out.under hW hsz).cells; obtain ⟨b0, b1, b2⟩ := hBC; (try dsimp only at hW); go_simp; try with_reducible rfl)
        try simp only [Act.put, List.setIfInBounds_toArray, List.set_cons_zero, List.set_cons_succ]
        refine wpAnyH_ready (rs := [7]) (by kernel_rfl) (by simp) ?_
        refine AllReadyH.cons (o := { dst := some 20, op := Op.call { callee := Callee.value (Operand.func 33), args := #[Operand.tmp 19], argTypes := #[23] }, type := 4, pos := _, after := _, guard := some (4, false) }) rfl (fun K hK => ?_) AllReadyH.nil
        go_simp
        refine (is'_any V _ Ay cy ly ((HY.out.under HSV.out).more HSV.out.size) false HOKY.out).mono ?_
        rintro e wq ⟨rfl, rfl⟩
        go_simp
        refine hK.out _ _ hHeld (fun _ => ?_)
        clear hK K
        try simp only [Act.put, List.setIfInBounds_toArray, List.set_cons_zero, List.set_cons_succ]
        refine wpAnyH_take (i := 8) (oi := { dst := some 21, op := Op.unOp UnOp.not 4 (Operand.tmp 20), type := 4, pos := _, after := _, guard := some (4, false) }) (v := ?_) rfl (by kernel_rfl) (by kernel_rfl) (by kernel_rfl) (fun _ _ _ h => h) (Or.inl ⟨by rfl, ?_⟩) hHeld ?_
        rotate_left 1
        · (intro W hW; (try dsimp only at hW); go_simp; try with_reducible rfl)
        try simp only [Act.put, List.setIfInBounds_toArray, List.set_cons_zero, List.set_cons_succ]
        refine wpAnyH_take (i := 9) (oi := { dst := some 22, op := Op.pick (Operand.tmp 17) (Operand.const (Value.bool true)) (Operand.tmp 21), type := 4, pos := _, after := _, guard := none }) (v := ?_) rfl (by kernel_rfl) (by kernel_rfl) (by kernel_rfl) (fun _ _ _ h => h) (Or.inl ⟨by rfl, ?_⟩) hHeld ?_
        rotate_left 1
        · (intro W hW; (try dsimp only at hW); go_simp; try with_reducible rfl)
        try simp only [Act.put, List.setIfInBounds_toArray, List.set_cons_zero, List.set_cons_succ]
        refine wpAnyH_take (i := 10) (oi := { dst := some 23, op := Op.move (Operand.tmp 22), type := 4, pos := _, after := _, guard := none }) (v := ?_) rfl (by kernel_rfl) (by kernel_rfl) (by kernel_rfl) (fun _ _ _ h => h) (Or.inl ⟨by rfl, ?_⟩) hHeld ?_
        rotate_left 1
        · (intro W hW; (try dsimp only at hW); go_simp; try with_reducible rfl)
        try simp only [Act.put, List.setIfInBounds_toArray, List.set_cons_zero, List.set_cons_succ]
        refine wpAnyH_take (i := 11) (oi := { dst := some 24, op := Op.fieldAddr 25 (Operand.tmp 1) 0, type := 0, pos := _, after := _, guard := some (10, false) }) (v := undef) rfl (by kernel_rfl) (by kernel_rfl) (by kernel_rfl) (fun _ _ _ h => h) (Or.inr ⟨by rfl, rfl⟩) hHeld ?_
        try simp only [Act.put, List.setIfInBounds_toArray, List.set_cons_zero, List.set_cons_succ]
        refine wpAnyH_take (i := 12) (oi := { dst := some 25, op := Op.load 23 (Operand.tmp 24), type := 23, pos := _, after := _, guard := some (10, false) }) (v := undef) rfl (by kernel_rfl) (by kernel_rfl) (by kernel_rfl) (fun _ _ _ h => h) (Or.inr ⟨by rfl, rfl⟩) hHeld ?_
        try simp only [Act.put, List.setIfInBounds_toArray, List.set_cons_zero, List.set_cons_succ]
        refine wpAnyH_take (i := 13) (oi := { dst := some 26, op := Op.call { callee := Callee.value (Operand.func 24), args := #[], argTypes := #[] }, type := 23, pos := _, after := _, guard := some (10, false) }) (v := undef) rfl (by kernel_rfl) (by kernel_rfl) (by kernel_rfl) (fun _ _ _ h => h) (Or.inr ⟨by rfl, rfl⟩) hHeld ?_
        try simp only [Act.put, List.setIfInBounds_toArray, List.set_cons_zero, List.set_cons_succ]
        refine wpAnyH_take (i := 14) (oi := { dst := some 27, op := Op.call { callee := Callee.value (Operand.func 34), args := #[Operand.tmp 25, Operand.tmp 26], argTypes := #[23, 23] }, type := 3, pos := _, after := _, guard := some (10, false) }) (v := undef) rfl (by kernel_rfl) (by kernel_rfl) (by kernel_rfl) (fun _ _ _ h => h) (Or.inr ⟨by rfl, rfl⟩) hHeld ?_
        try simp only [Act.put, List.setIfInBounds_toArray, List.set_cons_zero, List.set_cons_succ]
        refine wpAnyH_take (i := 15) (oi := { dst := some 28, op := Op.binOp BinOp.geq 3 (Operand.tmp 27) (Operand.const (Value.int IntKind.i64 0)) 3, type := 4, pos := _, after := _, guard := some (10, false) }) (v := undef) rfl (by kernel_rfl) (by kernel_rfl) (by kernel_rfl) (fun _ _ _ h => h) (Or.inr ⟨by rfl, rfl⟩) hHeld ?_
        try simp only [Act.put, List.setIfInBounds_toArray, List.set_cons_zero, List.set_cons_succ]
        refine wpAnyH_take (i := 16) (oi := { dst := some 29, op := Op.pick (Operand.tmp 23) (Operand.const (Value.bool true)) (Operand.tmp 28), type := 4, pos := _, after := _, guard := none }) (v := ?_) rfl (by kernel_rfl) (by kernel_rfl) (by kernel_rfl) (fun _ _ _ h => h) (Or.inl ⟨by rfl, ?_⟩) hHeld ?_
        rotate_left 1
        · (intro W hW; (try dsimp only at hW); go_simp; try with_reducible rfl)
        try simp only [Act.put, List.setIfInBounds_toArray, List.set_cons_zero, List.set_cons_succ]
        refine wpAnyH_take (i := 17) (oi := { dst := some 30, op := Op.move (Operand.tmp 29), type := 4, pos := _, after := _, guard := none }) (v := ?_) rfl (by kernel_rfl) (by kernel_rfl) (by kernel_rfl) (fun _ _ _ h => h) (Or.inl ⟨by rfl, ?_⟩) hHeld ?_
        rotate_left 1
        · (intro W hW; (try dsimp only at hW); go_simp; try with_reducible rfl)
        try simp only [Act.put, List.setIfInBounds_toArray, List.set_cons_zero, List.set_cons_succ]
        refine wpAnyH_take (i := 18) (oi := { dst := some 31, op := Op.fieldAddr 25 (Operand.tmp 1) 1, type := 0, pos := _, after := _, guard := some (17, false) }) (v := undef) rfl (by kernel_rfl) (by kernel_rfl) (by kernel_rfl) (fun _ _ _ h => h) (Or.inr ⟨by rfl, rfl⟩) hHeld ?_
        try simp only [Act.put, List.setIfInBounds_toArray, List.set_cons_zero, List.set_cons_succ]
        refine wpAnyH_take (i := 19) (oi := { dst := some 32, op := Op.load 23 (Operand.tmp 31), type := 23, pos := _, after := _, guard := some (17, false) }) (v := undef) rfl (by kernel_rfl) (by kernel_rfl) (by kernel_rfl) (fun _ _ _ h => h) (Or.inr ⟨by rfl, rfl⟩) hHeld ?_
        try simp only [Act.put, List.setIfInBounds_toArray, List.set_cons_zero, List.set_cons_succ]
        refine wpAnyH_take (i := 20) (oi := { dst := some 33, op := Op.call { callee := Callee.value (Operand.func 24), args := #[], argTypes := #[] }, type := 23, pos := _, after := _, guard := some (17, false) }) (v := undef) rfl (by kernel_rfl) (by kernel_rfl) (by kernel_rfl) (fun _ _ _ h => h) (Or.inr ⟨by rfl, rfl⟩) hHeld ?_
        try simp only [Act.put, List.setIfInBounds_toArray, List.set_cons_zero, List.set_cons_succ]
        refine wpAnyH_take (i := 21) (oi := { dst := some 34, op := Op.call { callee := Callee.value (Operand.func 34), args := #[Operand.tmp 32, Operand.tmp 33], argTypes := #[23, 23] }, type := 3, pos := _, after := _, guard := some (17, false) }) (v := undef) rfl (by kernel_rfl) (by kernel_rfl) (by kernel_rfl) (fun _ _ _ h => h) (Or.inr ⟨by rfl, rfl⟩) hHeld ?_
        try simp only [Act.put, List.setIfInBounds_toArray, List.set_cons_zero, List.set_cons_succ]
        refine wpAnyH_take (i := 22) (oi := { dst := some 35, op := Op.binOp BinOp.geq 3 (Operand.tmp 34) (Operand.const (Value.int IntKind.i64 0)) 3, type := 4, pos := _, after := _, guard := some (17, false) }) (v := undef) rfl (by kernel_rfl) (by kernel_rfl) (by kernel_rfl) (fun _ _ _ h => h) (Or.inr ⟨by rfl, rfl⟩) hHeld ?_
        try simp only [Act.put, List.setIfInBounds_toArray, List.set_cons_zero, List.set_cons_succ]
        refine wpAnyH_take (i := 23) (oi := { dst := some 36, op := Op.pick (Operand.tmp 30) (Operand.const (Value.bool true)) (Operand.tmp 35), type := 4, pos := _, after := _, guard := none }) (v := ?_) rfl (by kernel_rfl) (by kernel_rfl) (by kernel_rfl) (fun _ _ _ h => h) (Or.inl ⟨by rfl, ?_⟩) hHeld ?_
        rotate_left 1
        · (intro W hW; (try dsimp only at hW); go_simp; try with_reducible rfl)
        try simp only [Act.put, List.setIfInBounds_toArray, List.set_cons_zero, List.set_cons_succ]
        refine wpAnyH_done (by kernel_rfl) ?_ _
        refine NoPanic.normal ?_
        go_wp2_with fail
        go_ret
        exact ⟨by rw [HF.out]; rfl, HB.out.trans (HSV.out.mono HB.out.size)⟩
      case true =>
        have HOKX := Lib.hid hokx
        have HOKY := Lib.hid hoky
        obtain ⟨vx, hvx⟩ : ∃ v, v = cmpL lx lP := ⟨_, rfl⟩
        obtain ⟨vy, hvy⟩ : ∃ v, v = cmpL ly lP := ⟨_, rfl⟩
        have HVX := Lib.hid hvx.symm
        have HVY := Lib.hid hvy.symm
        rw [cmpL_val HDX.out lP_ok.1 (hnl lx hokx) lP_ok.2.1, lP_ok.2.2.1] at hvx
        rw [cmpL_val HDY.out lP_ok.1 (hnl ly hoky) lP_ok.2.1, lP_ok.2.2.1] at hvy
        by_cases hltx : val lx < cP
        case neg =>
          have HF : Hid (ptOk lx ly false = false) := Lib.hid (by unfold ptOk blw; rw [hokx, decide_eq_false hltx]; simp)
          have HGX : Hid (decide (0 ≤ vx) = true) := Lib.hid (decide_eq_true (by rw [hvx, if_neg hltx]; split <;> omega))
          clear hokx hoky hvx hvy hltx
          go_enter Tryd.func10, Tryd.ntmps10
          go_wp2_with fail
          rw [← HW.out]
          go_wp2_with fail
          clear b0 b1 b2
          refine wp_region_noPanic ?_
          refine wp_region_held_drew (S := fun W => Below w1.heap.size w1 W) (by kernel_rfl) ((Below.refl _ w1).drew) (fun hHeld => ?_)
          obtain ⟨V, hV⟩ : ∃ W, W = w1.drew := ⟨_, rfl⟩
          rw [← hV]
          have HSV : Hid (Below w1.heap.size w1 V) := Lib.hid (by rw [hV]; exact (Below.refl _ w1).drew)
          replace hHeld : (fun W => Below w1.heap.size w1 W) V := HSV.out
          clear hV
          refine wpAnyH_take (i := 0) (oi := { dst := some 13, op := Op.fieldAddr 25 (Operand.tmp 1) 0, type := 0, pos := _, after := _, guard := none }) (v := ?_) rfl (by kernel_rfl) (by kernel_rfl) (by kernel_rfl) (fun _ _ _ h => h) (Or.inl ⟨by rfl, ?_⟩) hHeld ?_
          rotate_left 1
          · (intro W hW; (try dsimp only at hW); go_simp; try with_reducible rfl)
          try simp only [Act.put, List.setIfInBounds_toArray, List.set_cons_zero, List.set_cons_succ]
          refine wpAnyH_take (i := 1) (oi := { dst := some 14, op := Op.load 23 (Operand.tmp 13), type := 23, pos := _, after := _, guard := none }) (v := ?_) rfl (by kernel_rfl) (by kernel_rfl) (by kernel_rfl) (fun _ _ _ h => h) (Or.inl ⟨by rfl, ?_⟩) hHeld ?_
          rotate_left 1
          · (intro W hW; have hBC := (HBX.out.under hW hsz).cells; obtain ⟨b0, b1, b2⟩ := hBC; (try dsimp only at hW); go_simp; try with_reducible rfl)
          try simp only [Act.put, List.setIfInBounds_toArray, List.set_cons_zero, List.set_cons_succ]
          refine wpAnyH_ready (rs := [2]) (by kernel_rfl) (by simp) ?_
          refine AllReadyH.cons (o := { dst := some 15, op := Op.call { callee := Callee.value (Operand.func 33), args := #[Operand.tmp 14], argTypes := #[23] }, type := 4, pos := _, after := _, guard := none }) rfl (fun K hK => ?_) AllReadyH.nil
          go_simp
          refine (is'_any V _ Ax cx lx ((HX.out.under HSV.out).more HSV.out.size) true HOKX.out).mono ?_
          rintro e wq ⟨rfl, rfl⟩
          go_simp
          refine hK.out _ _ hHeld (fun _ => ?_)
          clear hK K
          try simp only [Act.put, List.setIfInBounds_toArray, List.set_cons_zero, List.set_cons_succ]
          refine wpAnyH_take (i := 3) (oi := { dst := some 16, op := Op.unOp UnOp.not 4 (Operand.tmp 15), type := 4, pos := _, after := _, guard := none }) (v := ?_) rfl (by kernel_rfl) (by kernel_rfl) (by kernel_rfl) (fun _ _ _ h => h) (Or.inl ⟨by rfl, ?_⟩) hHeld ?_
          rotate_left 1
          · (intro W hW; (try dsimp only at hW); go_simp; try with_reducible rfl)
          try simp only [Act.put, List.setIfInBounds_toArray, List.set_cons_zero, List.set_cons_succ]
          refine wpAnyH_take (i := 4) (oi := { dst := some 17, op := Op.move (Operand.tmp 16), type := 4, pos := _, after := _, guard := none }) (v := ?_) rfl (by kernel_rfl) (by kernel_rfl) (by kernel_rfl) (fun _ _ _ h => h) (Or.inl ⟨by rfl, ?_⟩) hHeld ?_
          rotate_left 1
          · (intro W hW; (try dsimp only at hW); go_simp; try with_reducible rfl)
          try simp only [Act.put, List.setIfInBounds_toArray, List.set_cons_zero, List.set_cons_succ]
          refine wpAnyH_take (i := 5) (oi := { dst := some 18, op := Op.fieldAddr 25 (Operand.tmp 1) 1, type := 0, pos := _, after := _, guard := some (4, false) }) (v := ?_) rfl (by kernel_rfl) (by kernel_rfl) (by kernel_rfl) (fun _ _ _ h => h) (Or.inl ⟨by rfl, ?_⟩) hHeld ?_
          rotate_left 1
          · (intro W hW; (try dsimp only at hW); go_simp; try with_reducible rfl)
          try simp only [Act.put, List.setIfInBounds_toArray, List.set_cons_zero, List.set_cons_succ]
          refine wpAnyH_take (i := 6) (oi := { dst := some 19, op := Op.load 23 (Operand.tmp 18), type := 23, pos := _, after := _, guard := some (4, false) }) (v := ?_) rfl (by kernel_rfl) (by kernel_rfl) (by kernel_rfl) (fun _ _ _ h => h) (Or.inl ⟨by rfl, ?_⟩) hHeld ?_
          rotate_left 1
          · (intro W hW; have hBC := (HBX.out.under hW hsz).cells; obtain ⟨b0, b1, b2⟩ := hBC; (try dsimp only at hW); go_simp; try with_reducible rfl)
          try simp only [Act.put, List.setIfInBounds_toArray, List.set_cons_zero, List.set_cons_succ]
          refine wpAnyH_ready (rs := [7]) (by kernel_rfl) (by simp) ?_
          refine AllReadyH.cons (o := { dst := some 20, op := Op.call { callee := Callee.value (Operand.func 33), args := #[Operand.tmp 19], argTypes := #[23] }, type := 4, pos := _, after := _, guard := some (4, false) }) rfl (fun K hK => ?_) AllReadyH.nil
          go_simp
          refine (is'_any V _ Ay cy ly ((HY.out.under HSV.out).more HSV.out.size) true HOKY.out).mono ?_
          rintro e wq ⟨rfl, rfl⟩
          go_simp
          refine hK.out _ _ hHeld (fun _ => ?_)
          clear hK K
          try simp only [Act.put, List.setIfInBounds_toArray, List.set_cons_zero, List.set_cons_succ]
          refine wpAnyH_take (i := 8) (oi := { dst := some 21, op := Op.unOp UnOp.not 4 (Operand.tmp 20), type := 4, pos := _, after := _, guard := some (4, false) }) (v := ?_) rfl (by kernel_rfl) (by kernel_rfl) (by kernel_rfl) (fun _ _ _ h => h) (Or.inl ⟨by rfl, ?_⟩) hHeld ?_
          rotate_left 1
          · (intro W hW; (try dsimp only at hW); go_simp; try with_reducible rfl)
          try simp only [Act.put, List.setIfInBounds_toArray, List.set_cons_zero, List.set_cons_succ]
          refine wpAnyH_take (i := 9) (oi := { dst := some 22, op := Op.pick (Operand.tmp 17) (Operand.const (Value.bool true)) (Operand.tmp 21), type := 4, pos := _, after := _, guard := none }) (v := ?_) rfl (by kernel_rfl) (by kernel_rfl) (by kernel_rfl) (fun _ _ _ h => h) (Or.inl ⟨by rfl, ?_⟩) hHeld ?_
          rotate_left 1
          · (intro W hW; (try dsimp only at hW); go_simp; try with_reducible rfl)
          try simp only [Act.put, List.setIfInBounds_toArray, List.set_cons_zero, List.set_cons_succ]
          refine wpAnyH_take (i := 10) (oi := { dst := some 23, op := Op.move (Operand.tmp 22), type := 4, pos := _, after := _, guard := none }) (v := ?_) rfl (by kernel_rfl) (by kernel_rfl) (by kernel_rfl) (fun _ _ _ h => h) (Or.inl ⟨by rfl, ?_⟩) hHeld ?_
          rotate_left 1
          · (intro W hW; (try dsimp only at hW); go_simp; try with_reducible rfl)
          try simp only [Act.put, List.setIfInBounds_toArray, List.set_cons_zero, List.set_cons_succ]
          refine wpAnyH_take (i := 11) (oi := { dst := some 24, op := Op.fieldAddr 25 (Operand.tmp 1) 0, type := 0, pos := _, after := _, guard := some (10, false) }) (v := ?_) rfl (by kernel_rfl) (by kernel_rfl) (by kernel_rfl) (fun _ _ _ h => h) (Or.inl ⟨by rfl, ?_⟩) hHeld ?_
          rotate_left 1
          · (intro W hW; (try dsimp only at hW); go_simp; try with_reducible rfl)
          try simp only [Act.put, List.setIfInBounds_toArray, List.set_cons_zero, List.set_cons_succ]
          refine wpAnyH_take (i := 12) (oi := { dst := some 25, op := Op.load 23 (Operand.tmp 24), type := 23, pos := _, after := _, guard := some (10, false) }) (v := ?_) rfl (by kernel_rfl) (by kernel_rfl) (by kernel_rfl) (fun _ _ _ h => h) (Or.inl ⟨by rfl, ?_⟩) hHeld ?_
          rotate_left 1
          · (intro W hW; have hBC := (HBX.out.under hW hsz).cells; obtain ⟨b0, b1, b2⟩ := hBC; (try dsimp only at hW); go_simp; try with_reducible rfl)
          try simp only [Act.put, List.setIfInBounds_toArray, List.set_cons_zero, List.set_cons_succ]
          refine wpAnyH_ready (rs := [13]) (by kernel_rfl) (by simp) ?_
          refine AllReadyH.cons (o := { dst := some 26, op := Op.call { callee := Callee.value (Operand.func 24), args := #[], argTypes := #[] }, type := 23, pos := _, after := _, guard := some (10, false) }) rfl (fun K hK => ?_) AllReadyH.nil
          go_simp
          refine (refP_any V).mono ?_
          rintro e V1 ⟨gp, hgp, rfl, hPp, hbN⟩
          obtain ⟨Ap, hAp⟩ : ∃ A : Option Addr, A = some ⟨gp, 0, none⟩ := ⟨_, rfl⟩
          obtain ⟨cp, hcp⟩ : ∃ c : Nat, c = 8 := ⟨_, rfl⟩
          obtain ⟨rp, hlp⟩ : ∃ r : List Nat, r = lP := ⟨_, rfl⟩
          have HRpV1 : Hid (Rd .u32 V1 V1.heap.size Ap cp rp) := Lib.hid (by rw [hAp, hcp, hlp]; exact Eight.rd hPp rfl)
          have HNp := Lib.hid hlp
          have HZp : Hid ((some ⟨gp, 0, none⟩ : Option Addr) = Ap ∧ (8 : Nat) = cp ∧ (8 : Nat) = rp.length) := Lib.hid ⟨hAp.symm, hcp.symm, by rw [hlp]; rfl⟩
          clear hgp hPp hAp hcp hlp
          rw [show Value.slice (some ⟨gp, 0, none⟩) 8 8 = Value.slice Ap rp.length cp by rw [← HZp.out.1, ← HZp.out.2.1, ← HZp.out.2.2]]
          have HSV1 : Hid (Below w1.heap.size w1 V1) := Lib.hid (HSV.out.trans (hbN.mono HSV.out.size))
          clear hbN
          go_simp
          refine hK.out _ _ (HSV1.out) (fun _ => ?_)
          clear hK K hHeld
          try simp only [Act.put, List.setIfInBounds_toArray, List.set_cons_zero, List.set_cons_succ]
          have hHeld : (fun W => Below w1.heap.size w1 W) V1 := HSV1.out
          refine wpAnyH_ready (rs := [14]) (by kernel_rfl) (by simp) ?_
          refine AllReadyH.cons (o := { dst := some 27, op := Op.call { callee := Callee.value (Operand.func 34), args := #[Operand.tmp 25, Operand.tmp 26], argTypes := #[23, 23] }, type := 3, pos := _, after := _, guard := some (10, false) }) rfl (fun K hK => ?_) AllReadyH.nil
          go_simp
          refine (cmp'_any V1 _ _ Ax Ap cx cp lx rp ((HX.out.under HSV1.out).more HSV1.out.size) HRpV1.out vx (by rw [HNp.out]; exact HVX.out)).mono ?_
          rintro e wq ⟨rfl, qq, rfl⟩
          obtain ⟨V2, hN⟩ : ∃ W, W = V1.drewN qq := ⟨_, rfl⟩
          rw [← hN]
          have HSV2 : Hid (Below w1.heap.size w1 V2) := Lib.hid (by rw [hN]; exact bdN HSV1.out qq)
          have HRpV2 : Hid (Rd .u32 V2 V2.heap.size Ap cp rp) := Lib.hid (by rw [hN]; exact HRpV1.out)
          clear hN
          go_simp
          refine hK.out _ _ (HSV2.out) (fun _ => ?_)
          clear hK K hHeld
          try simp only [Act.put, List.setIfInBounds_toArray, List.set_cons_zero, List.set_cons_succ]
          have hHeld : (fun W => Below w1.heap.size w1 W) V2 := HSV2.out
          refine wpAnyH_take (i := 15) (oi := { dst := some 28, op := Op.binOp BinOp.geq 3 (Operand.tmp 27) (Operand.const (Value.int IntKind.i64 0)) 3, type := 4, pos := _, after := _, guard := some (10, false) }) (v := ?_) rfl (by kernel_rfl) (by kernel_rfl) (by kernel_rfl) (fun _ _ _ h => h) (Or.inl ⟨by rfl, ?_⟩) hHeld ?_
          rotate_left 1
          · (intro W hW; have hq := HGX.out; (try dsimp only at hW); go_simp; try with_reducible rfl)
          try simp only [Act.put, List.setIfInBounds_toArray, List.set_cons_zero, List.set_cons_succ]
          refine wpAnyH_take (i := 16) (oi := { dst := some 29, op := Op.pick (Operand.tmp 23) (Operand.const (Value.bool true)) (Operand.tmp 28), type := 4, pos := _, after := _, guard := none }) (v := ?_) rfl (by kernel_rfl) (by kernel_rfl) (by kernel_rfl) (fun _ _ _ h => h) (Or.inl ⟨by rfl, ?_⟩) hHeld ?_
          rotate_left 1
          · (intro W hW; (try dsimp only at hW); go_simp; try with_reducible rfl)
          try simp only [Act.put, List.setIfInBounds_toArray, List.set_cons_zero, List.set_cons_succ]
          refine wpAnyH_take (i := 17) (oi := { dst := some 30, op := Op.move (Operand.tmp 29), type := 4, pos := _, after := _, guard := none }) (v := ?_) rfl (by kernel_rfl) (by kernel_rfl) (by kernel_rfl) (fun _ _ _ h => h) (Or.inl ⟨by rfl, ?_⟩) hHeld ?_
          rotate_left 1
          · (intro W hW; (try dsimp only at hW); go_simp; try with_reducible rfl)
          try simp only [Act.put, List.setIfInBounds_toArray, List.set_cons_zero, List.set_cons_succ]
          refine wpAnyH_take (i := 18) (oi := { dst := some 31, op := Op.fieldAddr 25 (Operand.tmp 1) 1, type := 0, pos := _, after := _, guard := some (17, false) }) (v := undef) rfl (by kernel_rfl) (by kernel_rfl) (by kernel_rfl) (fun _ _ _ h => h) (Or.inr ⟨by rfl, rfl⟩) hHeld ?_
          try simp only [Act.put, List.setIfInBounds_toArray, List.set_cons_zero, List.set_cons_succ]
          refine wpAnyH_take (i := 19) (oi := { dst := some 32, op := Op.load 23 (Operand.tmp 31), type := 23, pos := _, after := _, guard := some (17, false) }) (v := undef) rfl (by kernel_rfl) (by kernel_rfl) (by kernel_rfl) (fun _ _ _ h => h) (Or.inr ⟨by rfl, rfl⟩) hHeld ?_
          try simp only [Act.put, List.setIfInBounds_toArray, List.set_cons_zero, List.set_cons_succ]
          refine wpAnyH_take (i := 20) (oi := { dst := some 33, op := Op.call { callee := Callee.value (Operand.func 24), args := #[], argTypes := #[] }, type := 23, pos := _, after := _, guard := some (17, false) }) (v := undef) rfl (by kernel_rfl) (by kernel_rfl) (by kernel_rfl) (fun _ _ _ h => h) (Or.inr ⟨by rfl, rfl⟩) hHeld ?_
          try simp only [Act.put, List.setIfInBounds_toArray, List.set_cons_zero, List.set_cons_succ]
          refine wpAnyH_take (i := 21) (oi := { dst := some 34, op := Op.call { callee := Callee.value (Operand.func 34), args := #[Operand.tmp 32, Operand.tmp 33], argTypes := #[23, 23] }, type := 3, pos := _, after := _, guard := some (17, false) }) (v := undef) rfl (by kernel_rfl) (by kernel_rfl) (by kernel_rfl) (fun _ _ _ h => h) (Or.inr ⟨by rfl, rfl⟩) hHeld ?_
          try simp only [Act.put, List.setIfInBounds_toArray, List.set_cons_zero, List.set_cons_succ]
          refine wpAnyH_take (i := 22) (oi := { dst := some 35, op := Op.binOp BinOp.geq 3 (Operand.tmp 34) (Operand.const (Value.int IntKind.i64 0)) 3, type := 4, pos := _, after := _, guard := some (17, false) }) (v := undef) rfl (by kernel_rfl) (by kernel_rfl) (by kernel_rfl) (fun _ _ _ h => h) (Or.inr ⟨by rfl, rfl⟩) hHeld ?_
          try simp only [Act.put, List.setIfInBounds_toArray, List.set_cons_zero, List.set_cons_succ]
          refine wpAnyH_take (i := 23) (oi := { dst := some 36, op := Op.pick (Operand.tmp 30) (Operand.const (Value.bool true)) (Operand.tmp 35), type := 4, pos := _, after := _, guard := none }) (v := ?_) rfl (by kernel_rfl) (by kernel_rfl) (by kernel_rfl) (fun _ _ _ h => h) (Or.inl ⟨by rfl, ?_⟩) hHeld ?_
          rotate_left 1
          · (intro W hW; (try dsimp only at hW); go_simp; try with_reducible rfl)
          try simp only [Act.put, List.setIfInBounds_toArray, List.set_cons_zero, List.set_cons_succ]
          refine wpAnyH_done (by kernel_rfl) ?_ _
          refine NoPanic.normal ?_
          go_wp2_with fail
          go_ret
          exact ⟨by rw [HF.out]; rfl, HB.out.trans (HSV2.out.mono HB.out.size)⟩
        case pos =>
          have HGX : Hid (decide (0 ≤ vx) = false) := Lib.hid (decide_eq_false (by rw [hvx, if_pos hltx]; omega))
          by_cases hlty : val ly < cP
          case neg =>
            have HF : Hid (ptOk lx ly false = false) := Lib.hid (by unfold ptOk blw; rw [hokx, hoky, decide_eq_false hlty]; simp)
            have HGY : Hid (decide (0 ≤ vy) = true) := Lib.hid (decide_eq_true (by rw [hvy, if_neg hlty]; split <;> omega))
            clear hokx hoky hvx hvy hltx hlty
            go_enter Tryd.func10, Tryd.ntmps10
            go_wp2_with fail
            rw [← HW.out]
            go_wp2_with fail
            clear b0 b1 b2
            refine wp_region_noPanic ?_
            refine wp_region_held_drew (S := fun W => Below w1.heap.size w1 W) (by kernel_rfl) ((Below.refl _ w1).drew) (fun hHeld => ?_)
            obtain ⟨V, hV⟩ : ∃ W, W = w1.drew := ⟨_, rfl⟩
            rw [← hV]
            have HSV : Hid (Below w1.heap.size w1 V) := Lib.hid (by rw [hV]; exact (Below.refl _ w1).drew)
            replace hHeld : (fun W => Below w1.heap.size w1 W) V := HSV.out
            clear hV
            refine wpAnyH_take (i := 0) (oi := { dst := some 13, op := Op.fieldAddr 25 (Operand.tmp 1) 0, type := 0, pos := _, after := _, guard := none }) (v := ?_) rfl (by kernel_rfl) (by kernel_rfl) (by kernel_rfl) (fun _ _ _ h => h) (Or.inl ⟨by rfl, ?_⟩) hHeld ?_
            rotate_left 1
            · (intro W hW; (try dsimp only at hW); go_simp; try with_reducible rfl)
            try simp only [Act.put, List.setIfInBounds_toArray, List.set_cons_zero, List.set_cons_succ]
            refine wpAnyH_take (i := 1) (oi := { dst := some 14, op := Op.load 23 (Operand.tmp 13), type := 23, pos := _, after := _, guard := none }) (v := ?_) rfl (by kernel_rfl) (by kernel_rfl) (by kernel_rfl) (fun _ _ _ h => h) (Or.inl ⟨by rfl, ?_⟩) hHeld ?_
            rotate_left 1
            · (intro W hW; have hBC := (HBX.out.under hW hsz).cells; obtain ⟨b0, b1, b2⟩ := hBC; (try dsimp only at hW); go_simp; try with_reducible rfl)
            try simp only [Act.put, List.setIfInBounds_toArray, List.set_cons_zero, List.set_cons_succ]
            refine wpAnyH_ready (rs := [2]) (by kernel_rfl) (by simp) ?_
            refine AllReadyH.cons (o := { dst := some 15, op := Op.call { callee := Callee.value (Operand.func 33), args := #[Operand.tmp 14], argTypes := #[23] }, type := 4, pos := _, after := _, guard := none }) rfl (fun K hK => ?_) AllReadyH.nil
            go_simp
            refine (is'_any V _ Ax cx lx ((HX.out.under HSV.out).more HSV.out.size) true HOKX.out).mono ?_
            rintro e wq ⟨rfl, rfl⟩
            go_simp
            refine hK.out _ _ hHeld (fun _ => ?_)
            clear hK K
            try simp only [Act.put, List.setIfInBounds_toArray, List.set_cons_zero, List.set_cons_succ]
            refine wpAnyH_take (i := 3) (oi := { dst := some 16, op := Op.unOp UnOp.not 4 (Operand.tmp 15), type := 4, pos := _, after := _, guard := none }) (v := ?_) rfl (by kernel_rfl) (by kernel_rfl) (by kernel_rfl) (fun _ _ _ h => h) (Or.inl ⟨by rfl, ?_⟩) hHeld ?_
            rotate_left 1
            · (intro W hW; (try dsimp only at hW); go_simp; try with_reducible rfl)
            try simp only [Act.put, List.setIfInBounds_toArray, List.set_cons_zero, List.set_cons_succ]
            refine wpAnyH_take (i := 4) (oi := { dst := some 17, op := Op.move (Operand.tmp 16), type := 4, pos := _, after := _, guard := none }) (v := ?_) rfl (by kernel_rfl) (by kernel_rfl) (by kernel_rfl) (fun _ _ _ h => h) (Or.inl ⟨by rfl, ?_⟩) hHeld ?_
            rotate_left 1
            · (intro W hW; (try dsimp only at hW); go_simp; try with_reducible rfl)
            try simp only [Act.put, List.setIfInBounds_toArray, List.set_cons_zero, List.set_cons_succ]
            refine wpAnyH_take (i := 5) (oi := { dst := some 18, op := Op.fieldAddr 25 (Operand.tmp 1) 1, type := 0, pos := _, after := _, guard := some (4, false) }) (v := ?_) rfl (by kernel_rfl) (by kernel_rfl) (by kernel_rfl) (fun _ _ _ h => h) (Or.inl ⟨by rfl, ?_⟩) hHeld ?_
            rotate_left 1
            · (intro W hW; (try dsimp only at hW); go_simp; try with_reducible rfl)
            try simp only [Act.put, List.setIfInBounds_toArray, List.set_cons_zero, List.set_cons_succ]
            refine wpAnyH_take (i := 6) (oi := { dst := some 19, op := Op.load 23 (Operand.tmp 18), type := 23, pos := _, after := _, guard := some (4, false) }) (v := ?_) rfl (by kernel_rfl) (by kernel_rfl) (by kernel_rfl) (fun _ _ _ h => h) (Or.inl ⟨by rfl, ?_⟩) hHeld ?_
            rotate_left 1
            · (intro W hW; have hBC := (HBX.out.under hW hsz).cells; obtain ⟨b0, b1, b2⟩ := hBC; (try dsimp only at hW); go_simp; try with_reducible rfl)
            try simp only [Act.put, List.setIfInBounds_toArray, List.set_cons_zero, List.set_cons_succ]
            refine wpAnyH_ready (rs := [7]) (by kernel_rfl) (by simp) ?_
            refine AllReadyH.cons (o := { dst := some 20, op := Op.call { callee := Callee.value (Operand.func 33), args := #[Operand.tmp 19], argTypes := #[23] }, type := 4, pos := _, after := _, guard := some (4, false) }) rfl (fun K hK => ?_) AllReadyH.nil
            go_simp
            refine (is'_any V _ Ay cy ly ((HY.out.under HSV.out).more HSV.out.size) true HOKY.out).mono ?_
            rintro e wq ⟨rfl, rfl⟩
            go_simp
            refine hK.out _ _ hHeld (fun _ => ?_)
            clear hK K
            try simp only [Act.put, List.setIfInBounds_toArray, List.set_cons_zero, List.set_cons_succ]
            refine wpAnyH_take (i := 8) (oi := { dst := some 21, op := Op.unOp UnOp.not 4 (Operand.tmp 20), type := 4, pos := _, after := _, guard := some (4, false) }) (v := ?_) rfl (by kernel_rfl) (by kernel_rfl) (by kernel_rfl) (fun _ _ _ h => h) (Or.inl ⟨by rfl, ?_⟩) hHeld ?_
            rotate_left 1
            · (intro W hW; (try dsimp only at hW); go_simp; try with_reducible rfl)
            try simp only [Act.put, List.setIfInBounds_toArray, List.set_cons_zero, List.set_cons_succ]
            refine wpAnyH_take (i := 9) (oi := { dst := some 22, op := Op.pick (Operand.tmp 17) (Operand.const (Value.bool true)) (Operand.tmp 21), type := 4, pos := _, after := _, guard := none }) (v := ?_) rfl (by kernel_rfl) (by kernel_rfl) (by kernel_rfl) (fun _ _ _ h => h) (Or.inl ⟨by rfl, ?_⟩) hHeld ?_
            rotate_left 1
            · (intro W hW; (try dsimp only at hW); go_simp; try with_reducible rfl)
            try simp only [Act.put, List.setIfInBounds_toArray, List.set_cons_zero, List.set_cons_succ]
            refine wpAnyH_take (i := 10) (oi := { dst := some 23, op := Op.move (Operand.tmp 22), type := 4, pos := _, after := _, guard := none }) (v := ?_) rfl (by kernel_rfl) (by kernel_rfl) (by kernel_rfl) (fun _ _ _ h => h) (Or.inl ⟨by rfl, ?_⟩) hHeld ?_
            rotate_left 1
            · (intro W hW; (try dsimp only at hW); go_simp; try with_reducible rfl)
            try simp only [Act.put, List.setIfInBounds_toArray, List.set_cons_zero, List.set_cons_succ]
            refine wpAnyH_take (i := 11) (oi := { dst := some 24, op := Op.fieldAddr 25 (Operand.tmp 1) 0, type := 0, pos := _, after := _, guard := some (10, false) }) (v := ?_) rfl (by kernel_rfl) (by kernel_rfl) (by kernel_rfl) (fun _ _ _ h => h) (Or.inl ⟨by rfl, ?_⟩) hHeld ?_
            rotate_left 1
            · (intro W hW; (try dsimp only at hW); go_simp; try with_reducible rfl)
            try simp only [Act.put, List.setIfInBounds_toArray, List.set_cons_zero, List.set_cons_succ]
            refine wpAnyH_take (i := 12) (oi := { dst := some 25, op := Op.load 23 (Operand.tmp 24), type := 23, pos := _, after := _, guard := some (10, false) }) (v := ?_) rfl (by kernel_rfl) (by kernel_rfl) (by kernel_rfl) (fun _ _ _ h => h) (Or.inl ⟨by rfl, ?_⟩) hHeld ?_
            rotate_left 1
            · (intro W hW; have hBC := (HBX.out.under hW hsz).cells; obtain ⟨b0, b1, b2⟩ := hBC; (try dsimp only at hW); go_simp; try with_reducible rfl)
            try simp only [Act.put, List.setIfInBounds_toArray, List.set_cons_zero, List.set_cons_succ]
            refine wpAnyH_ready (rs := [13]) (by kernel_rfl) (by simp) ?_
            refine AllReadyH.cons (o := { dst := some 26, op := Op.call { callee := Callee.value (Operand.func 24), args := #[], argTypes := #[] }, type := 23, pos := _, after := _, guard := some (10, false) }) rfl (fun K hK => ?_) AllReadyH.nil
            go_simp
            refine (refP_any V).mono ?_
            rintro e V1 ⟨gp, hgp, rfl, hPp, hbN⟩
            obtain ⟨Ap, hAp⟩ : ∃ A : Option Addr, A = some ⟨gp, 0, none⟩ := ⟨_, rfl⟩
            obtain ⟨cp, hcp⟩ : ∃ c : Nat, c = 8 := ⟨_, rfl⟩
            obtain ⟨rp, hlp⟩ : ∃ r : List Nat, r = lP := ⟨_, rfl⟩
            have HRpV1 : Hid (Rd .u32 V1 V1.heap.size Ap cp rp) := Lib.hid (by rw [hAp, hcp, hlp]; exact Eight.rd hPp rfl)
            have HNp := Lib.hid hlp
            have HZp : Hid ((some ⟨gp, 0, none⟩ : Option Addr) = Ap ∧ (8 : Nat) = cp ∧ (8 : Nat) = rp.length) := Lib.hid ⟨hAp.symm, hcp.symm, by rw [hlp]; rfl⟩
            clear hgp hPp hAp hcp hlp
            rw [show Value.slice (some ⟨gp, 0, none⟩) 8 8 = Value.slice Ap rp.length cp by rw [← HZp.out.1, ← HZp.out.2.1, ← HZp.out.2.2]]
            have HSV1 : Hid (Below w1.heap.size w1 V1) := Lib.hid (HSV.out.trans (hbN.mono HSV.out.size))
            clear hbN
            go_simp
            refine hK.out _ _ (HSV1.out) (fun _ => ?_)
            clear hK K hHeld
            try simp only [Act.put, List.setIfInBounds_toArray, List.set_cons_zero, List.set_cons_succ]
            have hHeld : (fun W => Below w1.heap.size w1 W) V1 := HSV1.out
            refine wpAnyH_ready (rs := [14]) (by kernel_rfl) (by simp) ?_
            refine AllReadyH.cons (o := { dst := some 27, op := Op.call { callee := Callee.value (Operand.func 34), args := #[Operand.tmp 25, Operand.tmp 26], argTypes := #[23, 23] }, type := 3, pos := _, after := _, guard := some (10, false) }) rfl (fun K hK => ?_) AllReadyH.nil
            go_simp
            refine (cmp'_any V1 _ _ Ax Ap cx cp lx rp ((HX.out.under HSV1.out).more HSV1.out.size) HRpV1.out vx (by rw [HNp.out]; exact HVX.out)).mono ?_
            rintro e wq ⟨rfl, qq, rfl⟩
            obtain ⟨V2, hN⟩ : ∃ W, W = V1.drewN qq := ⟨_, rfl⟩
            rw [← hN]
            have HSV2 : Hid (Below w1.heap.size w1 V2) := Lib.hid (by rw [hN]; exact bdN HSV1.out qq)
            have HRpV2 : Hid (Rd .u32 V2 V2.heap.size Ap cp rp) := Lib.hid (by rw [hN]; exact HRpV1.out)
            clear hN
            go_simp
            refine hK.out _ _ (HSV2.out) (fun _ => ?_)
            clear hK K hHeld
            try simp only [Act.put, List.setIfInBounds_toArray, List.set_cons_zero, List.set_cons_succ]
            have hHeld : (fun W => Below w1.heap.size w1 W) V2 := HSV2.out
            refine wpAnyH_take (i := 15) (oi := { dst := some 28, op := Op.binOp BinOp.geq 3 (Operand.tmp 27) (Operand.const (Value.int IntKind.i64 0)) 3, type := 4, pos := _, after := _, guard := some (10, false) }) (v := ?_) rfl (by kernel_rfl) (by kernel_rfl) (by kernel_rfl) (fun _ _ _ h => h) (Or.inl ⟨by rfl, ?_⟩) hHeld ?_
            rotate_left 1
            · (intro W hW; have hq := HGX.out; (try dsimp only at hW); go_simp; try with_reducible rfl)
            try simp only [Act.put, List.setIfInBounds_toArray, List.set_cons_zero, List.set_cons_succ]
            refine wpAnyH_take (i := 16) (oi := { dst := some 29, op := Op.pick (Operand.tmp 23) (Operand.const (Value.bool true)) (Operand.tmp 28), type := 4, pos := _, after := _, guard := none }) (v := ?_) rfl (by kernel_rfl) (by kernel_rfl) (by kernel_rfl) (fun _ _ _ h => h) (Or.inl ⟨by rfl, ?_⟩) hHeld ?_
            rotate_left 1
            · (intro W hW; (try dsimp only at hW); go_simp; try with_reducible rfl)
            try simp only [Act.put, List.setIfInBounds_toArray, List.set_cons_zero, List.set_cons_succ]
            refine wpAnyH_take (i := 17) (oi := { dst := some 30, op := Op.move (Operand.tmp 29), type := 4, pos := _, after := _, guard := none }) (v := ?_) rfl (by kernel_rfl) (by kernel_rfl) (by kernel_rfl) (fun _ _ _ h => h) (Or.inl ⟨by rfl, ?_⟩) hHeld ?_
            rotate_left 1
            · (intro W hW; (try dsimp only at hW); go_simp; try with_reducible rfl)
            try simp only [Act.put, List.setIfInBounds_toArray, List.set_cons_zero, List.set_cons_succ]
            refine wpAnyH_take (i := 18) (oi := { dst := some 31, op := Op.fieldAddr 25 (Operand.tmp 1) 1, type := 0, pos := _, after := _, guard := some (17, false) }) (v := ?_) rfl (by kernel_rfl) (by kernel_rfl) (by kernel_rfl) (fun _ _ _ h => h) (Or.inl ⟨by rfl, ?_⟩) hHeld ?_
            rotate_left 1
            · (intro W hW; (try dsimp only at hW); go_simp; try with_reducible rfl)
            try simp only [Act.put, List.setIfInBounds_toArray, List.set_cons_zero, List.set_cons_succ]
            refine wpAnyH_take (i := 19) (oi := { dst := some 32, op := Op.load 23 (Operand.tmp 31), type := 23, pos := _, after := _, guard := some (17, false) }) (v := ?_) rfl (by kernel_rfl) (by kernel_rfl) (by kernel_rfl) (fun _ _ _ h => h) (Or.inl ⟨by rfl, ?_⟩) hHeld ?_
            rotate_left 1
            · (intro W hW; have hBC := (HBX.out.under hW hsz).cells; obtain ⟨b0, b1, b2⟩ := hBC; (try dsimp only at hW); go_simp; try with_reducible rfl)
            try simp only [Act.put, List.setIfInBounds_toArray, List.set_cons_zero, List.set_cons_succ]
            refine wpAnyH_ready (rs := [20]) (by kernel_rfl) (by simp) ?_
            refine AllReadyH.cons (o := { dst := some 33, op := Op.call { callee := Callee.value (Operand.func 24), args := #[], argTypes := #[] }, type := 23, pos := _, after := _, guard := some (17, false) }) rfl (fun K hK => ?_) AllReadyH.nil
            go_simp
            refine (refP_any V2).mono ?_
            rintro e V3 ⟨gq, hgq, rfl, hPq, hbN⟩
            obtain ⟨Aq, hAq⟩ : ∃ A : Option Addr, A = some ⟨gq, 0, none⟩ := ⟨_, rfl⟩
            obtain ⟨cq, hcq⟩ : ∃ c : Nat, c = 8 := ⟨_, rfl⟩
            obtain ⟨rq, hlq⟩ : ∃ r : List Nat, r = lP := ⟨_, rfl⟩
            have HRqV3 : Hid (Rd .u32 V3 V3.heap.size Aq cq rq) := Lib.hid (by rw [hAq, hcq, hlq]; exact Eight.rd hPq rfl)
            have HNq := Lib.hid hlq
            have HZq : Hid ((some ⟨gq, 0, none⟩ : Option Addr) = Aq ∧ (8 : Nat) = cq ∧ (8 : Nat) = rq.length) := Lib.hid ⟨hAq.symm, hcq.symm, by rw [hlq]; rfl⟩
            clear hgq hPq hAq hcq hlq
            rw [show Value.slice (some ⟨gq, 0, none⟩) 8 8 = Value.slice Aq rq.length cq by rw [← HZq.out.1, ← HZq.out.2.1, ← HZq.out.2.2]]
            have HSV3 : Hid (Below w1.heap.size w1 V3) := Lib.hid (HSV2.out.trans (hbN.mono HSV2.out.size))
            have HRpV3 := Lib.hid ((HRpV2.out.under hbN).more hbN.size)
            clear hbN
            go_simp
            refine hK.out _ _ (HSV3.out) (fun _ => ?_)
            clear hK K hHeld
            try simp only [Act.put, List.setIfInBounds_toArray, List.set_cons_zero, List.set_cons_succ]
            have hHeld : (fun W => Below w1.heap.size w1 W) V3 := HSV3.out
            refine wpAnyH_ready (rs := [21]) (by kernel_rfl) (by simp) ?_
            refine AllReadyH.cons (o := { dst := some 34, op := Op.call { callee := Callee.value (Operand.func 34), args := #[Operand.tmp 32, Operand.tmp 33], argTypes := #[23, 23] }, type := 3, pos := _, after := _, guard := some (17, false) }) rfl (fun K hK => ?_) AllReadyH.nil
            go_simp
            refine (cmp'_any V3 _ _ Ay Aq cy cq ly rq ((HY.out.under HSV3.out).more HSV3.out.size) HRqV3.out vy (by rw [HNq.out]; exact HVY.out)).mono ?_
            rintro e wq ⟨rfl, qq, rfl⟩
            obtain ⟨V4, hN⟩ : ∃ W, W = V3.drewN qq := ⟨_, rfl⟩
            rw [← hN]
            have HSV4 : Hid (Below w1.heap.size w1 V4) := Lib.hid (by rw [hN]; exact bdN HSV3.out qq)
            have HRpV4 : Hid (Rd .u32 V4 V4.heap.size Ap cp rp) := Lib.hid (by rw [hN]; exact HRpV3.out)
            have HRqV4 : Hid (Rd .u32 V4 V4.heap.size Aq cq rq) := Lib.hid (by rw [hN]; exact HRqV3.out)
            clear hN
            go_simp
            refine hK.out _ _ (HSV4.out) (fun _ => ?_)
            clear hK K hHeld
            try simp only [Act.put, List.setIfInBounds_toArray, List.set_cons_zero, List.set_cons_succ]
            have hHeld : (fun W => Below w1.heap.size w1 W) V4 := HSV4.out
            refine wpAnyH_take (i := 22) (oi := { dst := some 35, op := Op.binOp BinOp.geq 3 (Operand.tmp 34) (Operand.const (Value.int IntKind.i64 0)) 3, type := 4, pos := _, after := _, guard := some (17, false) }) (v := ?_) rfl (by kernel_rfl) (by kernel_rfl) (by kernel_rfl) (fun _ _ _ h => h) (Or.inl ⟨by rfl, ?_⟩) hHeld ?_
            rotate_left 1
            · (intro W hW; have hq := HGY.out; (try dsimp only at hW); go_simp; try with_reducible rfl)
            try simp only [Act.put, List.setIfInBounds_toArray, List.set_cons_zero, List.set_cons_succ]
            refine wpAnyH_take (i := 23) (oi := { dst := some 36, op := Op.pick (Operand.tmp 30) (Operand.const (Value.bool true)) (Operand.tmp 35), type := 4, pos := _, after := _, guard := none }) (v := ?_) rfl (by kernel_rfl) (by kernel_rfl) (by kernel_rfl) (fun _ _ _ h => h) (Or.inl ⟨by rfl, ?_⟩) hHeld ?_
            rotate_left 1
            · (intro W hW; (try dsimp only at hW); go_simp; try with_reducible rfl)
            try simp only [Act.put, List.setIfInBounds_toArray, List.set_cons_zero, List.set_cons_succ]
            refine wpAnyH_done (by kernel_rfl) ?_ _
            refine NoPanic.normal ?_
            go_wp2_with fail
            go_ret
            exact ⟨by rw [HF.out]; rfl, HB.out.trans (HSV4.out.mono HB.out.size)⟩
          case pos =>
            have HGY : Hid (decide (0 ≤ vy) = false) := Lib.hid (decide_eq_false (by rw [hvy, if_pos hlty]; omega))
            have HBLX : Hid (blw lx = true) := Lib.hid (by unfold blw; rw [hokx, decide_eq_true hltx]; rfl)
            have HBLY : Hid (blw ly = true) := Lib.hid (by unfold blw; rw [hoky, decide_eq_true hlty]; rfl)
            have HL1X := Lib.hid hsx
            have HL1Y := Lib.hid hsy
            have HNX := Lib.hid (hnl lx hokx)
            have HNY := Lib.hid (hnl ly hoky)
            clear hokx hoky hvx hvy hltx hlty hnl hsx hsy
            go_enter Tryd.func10, Tryd.ntmps10
            go_wp2_with fail
            rw [← HW.out]
            go_wp2_with fail
            clear b0 b1 b2
            refine wp_region_noPanic ?_
            refine wp_region_held_drew (S := fun W => Below w1.heap.size w1 W) (by kernel_rfl) ((Below.refl _ w1).drew) (fun hHeld => ?_)
            obtain ⟨V, hV⟩ : ∃ W, W = w1.drew := ⟨_, rfl⟩
            rw [← hV]
            have HSV : Hid (Below w1.heap.size w1 V) := Lib.hid (by rw [hV]; exact (Below.refl _ w1).drew)
            replace hHeld : (fun W => Below w1.heap.size w1 W) V := HSV.out
            clear hV
            refine wpAnyH_take (i := 0) (oi := { dst := some 13, op := Op.fieldAddr 25 (Operand.tmp 1) 0, type := 0, pos := _, after := _, guard := none }) (v := ?_) rfl (by kernel_rfl) (by kernel_rfl) (by kernel_rfl) (fun _ _ _ h => h) (Or.inl ⟨by rfl, ?_⟩) hHeld ?_
            rotate_left 1
            · (intro W hW; (try dsimp only at hW); go_simp; try with_reducible rfl)
            try simp only [Act.put, List.setIfInBounds_toArray, List.set_cons_zero, List.set_cons_succ]
            refine wpAnyH_take (i := 1) (oi := { dst := some 14, op := Op.load 23 (Operand.tmp 13), type := 23, pos := _, after := _, guard := none }) (v := ?_) rfl (by kernel_rfl) (by kernel_rfl) (by kernel_rfl) (fun _ _ _ h => h) (Or.inl ⟨by rfl, ?_⟩) hHeld ?_
            rotate_left 1
            · (intro W hW; have hBC := (HBX.out.under hW hsz).cells; obtain ⟨b0, b1, b2⟩ := hBC; (try dsimp only at hW); go_simp; try with_reducible rfl)
            try simp only [Act.put, List.setIfInBounds_toArray, List.set_cons_zero, List.set_cons_succ]
            refine wpAnyH_ready (rs := [2]) (by kernel_rfl) (by simp) ?_
            refine AllReadyH.cons (o := { dst := some 15, op := Op.call { callee := Callee.value (Operand.func 33), args := #[Operand.tmp 14], argTypes := #[23] }, type := 4, pos := _, after := _, guard := none }) rfl (fun K hK => ?_) AllReadyH.nil
            go_simp
            refine (is'_any V _ Ax cx lx ((HX.out.under HSV.out).more HSV.out.size) true HOKX.out).mono ?_
            rintro e wq ⟨rfl, rfl⟩
            go_simp
            refine hK.out _ _ hHeld (fun _ => ?_)
            clear hK K
            try simp only [Act.put, List.setIfInBounds_toArray, List.set_cons_zero, List.set_cons_succ]
            refine wpAnyH_take (i := 3) (oi := { dst := some 16, op := Op.unOp UnOp.not 4 (Operand.tmp 15), type := 4, pos := _, after := _, guard := none }) (v := ?_) rfl (by kernel_rfl) (by kernel_rfl) (by kernel_rfl) (fun _ _ _ h => h) (Or.inl ⟨by rfl, ?_⟩) hHeld ?_
            rotate_left 1
            · (intro W hW; (try dsimp only at hW); go_simp; try with_reducible rfl)
            try simp only [Act.put, List.setIfInBounds_toArray, List.set_cons_zero, List.set_cons_succ]
            refine wpAnyH_take (i := 4) (oi := { dst := some 17, op := Op.move (Operand.tmp 16), type := 4, pos := _, after := _, guard := none }) (v := ?_) rfl (by kernel_rfl) (by kernel_rfl) (by kernel_rfl) (fun _ _ _ h => h) (Or.inl ⟨by rfl, ?_⟩) hHeld ?_
            rotate_left 1
            · (intro W hW; (try dsimp only at hW); go_simp; try with_reducible rfl)
            try simp only [Act.put, List.setIfInBounds_toArray, List.set_cons_zero, List.set_cons_succ]
            refine wpAnyH_take (i := 5) (oi := { dst := some 18, op := Op.fieldAddr 25 (Operand.tmp 1) 1, type := 0, pos := _, after := _, guard := some (4, false) }) (v := ?_) rfl (by kernel_rfl) (by kernel_rfl) (by kernel_rfl) (fun _ _ _ h => h) (Or.inl ⟨by rfl, ?_⟩) hHeld ?_
            rotate_left 1
            · (intro W hW; (try dsimp only at hW); go_simp; try with_reducible rfl)
            try simp only [Act.put, List.setIfInBounds_toArray, List.set_cons_zero, List.set_cons_succ]
            refine wpAnyH_take (i := 6) (oi := { dst := some 19, op := Op.load 23 (Operand.tmp 18), type := 23, pos := _, after := _, guard := some (4, false) }) (v := ?_) rfl (by kernel_rfl) (by kernel_rfl) (by kernel_rfl) (fun _ _ _ h => h) (Or.inl ⟨by rfl, ?_⟩) hHeld ?_
            rotate_left 1
            · (intro W hW; have hBC := (HBX.out.under hW hsz).cells; obtain ⟨b0, b1, b2⟩ := hBC; (try dsimp only at hW); go_simp; try with_reducible rfl)
            try simp only [Act.put, List.setIfInBounds_toArray, List.set_cons_zero, List.set_cons_succ]
            refine wpAnyH_ready (rs := [7]) (by kernel_rfl) (by simp) ?_
            refine AllReadyH.cons (o := { dst := some 20, op := Op.call { callee := Callee.value (Operand.func 33), args := #[Operand.tmp 19], argTypes := #[23] }, type := 4, pos := _, after := _, guard := some (4, false) }) rfl (fun K hK => ?_) AllReadyH.nil
            go_simp
            refine (is'_any V _ Ay cy ly ((HY.out.under HSV.out).more HSV.out.size) true HOKY.out).mono ?_
            rintro e wq ⟨rfl, rfl⟩
            go_simp
            refine hK.out _ _ hHeld (fun _ => ?_)
            clear hK K
            try simp only [Act.put, List.setIfInBounds_toArray, List.set_cons_zero, List.set_cons_succ]
            refine wpAnyH_take (i := 8) (oi := { dst := some 21, op := Op.unOp UnOp.not 4 (Operand.tmp 20), type := 4, pos := _, after := _, guard := some (4, false) }) (v := ?_) rfl (by kernel_rfl) (by kernel_rfl) (by kernel_rfl) (fun _ _ _ h => h) (Or.inl ⟨by rfl, ?_⟩) hHeld ?_
            rotate_left 1
            · (intro W hW; (try dsimp only at hW); go_simp; try with_reducible rfl)
            try simp only [Act.put, List.setIfInBounds_toArray, List.set_cons_zero, List.set_cons_succ]
            refine wpAnyH_take (i := 9) (oi := { dst := some 22, op := Op.pick (Operand.tmp 17) (Operand.const (Value.bool true)) (Operand.tmp 21), type := 4, pos := _, after := _, guard := none }) (v := ?_) rfl (by kernel_rfl) (by kernel_rfl) (by kernel_rfl) (fun _ _ _ h => h) (Or.inl ⟨by rfl, ?_⟩) hHeld ?_
            rotate_left 1
            · (intro W hW; (try dsimp only at hW); go_simp; try with_reducible rfl)
            try simp only [Act.put, List.setIfInBounds_toArray, List.set_cons_zero, List.set_cons_succ]
            refine wpAnyH_take (i := 10) (oi := { dst := some 23, op := Op.move (Operand.tmp 22), type := 4, pos := _, after := _, guard := none }) (v := ?_) rfl (by kernel_rfl) (by kernel_rfl) (by kernel_rfl) (fun _ _ _ h => h) (Or.inl ⟨by rfl, ?_⟩) hHeld ?_
            rotate_left 1
            · (intro W hW; (try dsimp only at hW); go_simp; try with_reducible rfl)
            try simp only [Act.put, List.setIfInBounds_toArray, List.set_cons_zero, List.set_cons_succ]
            refine wpAnyH_take (i := 11) (oi := { dst := some 24, op := Op.fieldAddr 25 (Operand.tmp 1) 0, type := 0, pos := _, after := _, guard := some (10, false) }) (v := ?_) rfl (by kernel_rfl) (by kernel_rfl) (by kernel_rfl) (fun _ _ _ h => h) (Or.inl ⟨by rfl, ?_⟩) hHeld ?_
            rotate_left 1
            · (intro W hW; (try dsimp only at hW); go_simp; try with_reducible rfl)
            try simp only [Act.put, List.setIfInBounds_toArray, List.set_cons_zero, List.set_cons_succ]
            refine wpAnyH_take (i := 12) (oi := { dst := some 25, op := Op.load 23 (Operand.tmp 24), type := 23, pos := _, after := _, guard := some (10, false) }) (v := ?_) rfl (by kernel_rfl) (by kernel_rfl) (by kernel_rfl) (fun _ _ _ h => h) (Or.inl ⟨by rfl, ?_⟩) hHeld ?_
            rotate_left 1
            · (intro W hW; have hBC := (HBX.out.under hW hsz).cells; obtain ⟨b0, b1, b2⟩ := hBC; (try dsimp only at hW); go_simp; try with_reducible rfl)
            try simp only [Act.put, List.setIfInBounds_toArray, List.set_cons_zero, List.set_cons_succ]
            refine wpAnyH_ready (rs := [13]) (by kernel_rfl) (by simp) ?_
            refine AllReadyH.cons (o := { dst := some 26, op := Op.call { callee := Callee.value (Operand.func 24), args := #[], argTypes := #[] }, type := 23, pos := _, after := _, guard := some (10, false) }) rfl (fun K hK => ?_) AllReadyH.nil
            go_simp
            refine (refP_any V).mono ?_
            rintro e V1 ⟨gp, hgp, rfl, hPp, hbN⟩
            obtain ⟨Ap, hAp⟩ : ∃ A : Option Addr, A = some ⟨gp, 0, none⟩ := ⟨_, rfl⟩
            obtain ⟨cp, hcp⟩ : ∃ c : Nat, c = 8 := ⟨_, rfl⟩
            obtain ⟨rp, hlp⟩ : ∃ r : List Nat, r = lP := ⟨_, rfl⟩
            have HRpV1 : Hid (Rd .u32 V1 V1.heap.size Ap cp rp) := Lib.hid (by rw [hAp, hcp, hlp]; exact Eight.rd hPp rfl)
            have HNp := Lib.hid hlp
            have HZp : Hid ((some ⟨gp, 0, none⟩ : Option Addr) = Ap ∧ (8 : Nat) = cp ∧ (8 : Nat) = rp.length) := Lib.hid ⟨hAp.symm, hcp.symm, by rw [hlp]; rfl⟩
            clear hgp hPp hAp hcp hlp
            rw [show Value.slice (some ⟨gp, 0, none⟩) 8 8 = Value.slice Ap rp.length cp by rw [← HZp.out.1, ← HZp.out.2.1, ← HZp.out.2.2]]
            have HSV1 : Hid (Below w1.heap.size w1 V1) := Lib.hid (HSV.out.trans (hbN.mono HSV.out.size))
            clear hbN
            go_simp
            refine hK.out _ _ (HSV1.out) (fun _ => ?_)
            clear hK K hHeld
            try simp only [Act.put, List.setIfInBounds_toArray, List.set_cons_zero, List.set_cons_succ]
            have hHeld : (fun W => Below w1.heap.size w1 W) V1 := HSV1.out
            refine wpAnyH_ready (rs := [14]) (by kernel_rfl) (by simp) ?_
            refine AllReadyH.cons (o := { dst := some 27, op := Op.call { callee := Callee.value (Operand.func 34), args := #[Operand.tmp 25, Operand.tmp 26], argTypes := #[23, 23] }, type := 3, pos := _, after := _, guard := some (10, false) }) rfl (fun K hK => ?_) AllReadyH.nil
            go_simp
            refine (cmp'_any V1 _ _ Ax Ap cx cp lx rp ((HX.out.under HSV1.out).more HSV1.out.size) HRpV1.out vx (by rw [HNp.out]; exact HVX.out)).mono ?_
            rintro e wq ⟨rfl, qq, rfl⟩
            obtain ⟨V2, hN⟩ : ∃ W, W = V1.drewN qq := ⟨_, rfl⟩
            rw [← hN]
            have HSV2 : Hid (Below w1.heap.size w1 V2) := Lib.hid (by rw [hN]; exact bdN HSV1.out qq)
            have HRpV2 : Hid (Rd .u32 V2 V2.heap.size Ap cp rp) := Lib.hid (by rw [hN]; exact HRpV1.out)
            clear hN
            go_simp
            refine hK.out _ _ (HSV2.out) (fun _ => ?_)
            clear hK K hHeld
            try simp only [Act.put, List.setIfInBounds_toArray, List.set_cons_zero, List.set_cons_succ]
            have hHeld : (fun W => Below w1.heap.size w1 W) V2 := HSV2.out
            refine wpAnyH_take (i := 15) (oi := { dst := some 28, op := Op.binOp BinOp.geq 3 (Operand.tmp 27) (Operand.const (Value.int IntKind.i64 0)) 3, type := 4, pos := _, after := _, guard := some (10, false) }) (v := ?_) rfl (by kernel_rfl) (by kernel_rfl) (by kernel_rfl) (fun _ _ _ h => h) (Or.inl ⟨by rfl, ?_⟩) hHeld ?_
            rotate_left 1
            · (intro W hW; have hq := HGX.out; (try dsimp only at hW); go_simp; try with_reducible rfl)
            try simp only [Act.put, List.setIfInBounds_toArray, List.set_cons_zero, List.set_cons_succ]
            refine wpAnyH_take (i := 16) (oi := { dst := some 29, op := Op.pick (Operand.tmp 23) (Operand.const (Value.bool true)) (Operand.tmp 28), type := 4, pos := _, after := _, guard := none }) (v := ?_) rfl (by kernel_rfl) (by kernel_rfl) (by kernel_rfl) (fun _ _ _ h => h) (Or.inl ⟨by rfl, ?_⟩) hHeld ?_
            rotate_left 1
            · (intro W hW; (try dsimp only at hW); go_simp; try with_reducible rfl)
            try simp only [Act.put, List.setIfInBounds_toArray, List.set_cons_zero, List.set_cons_succ]
            refine wpAnyH_take (i := 17) (oi := { dst := some 30, op := Op.move (Operand.tmp 29), type := 4, pos := _, after := _, guard := none }) (v := ?_) rfl (by kernel_rfl) (by kernel_rfl) (by kernel_rfl) (fun _ _ _ h => h) (Or.inl ⟨by rfl, ?_⟩) hHeld ?_
            rotate_left 1
            · (intro W hW; (try dsimp only at hW); go_simp; try with_reducible rfl)
            try simp only [Act.put, List.setIfInBounds_toArray, List.set_cons_zero, List.set_cons_succ]
            refine wpAnyH_take (i := 18) (oi := { dst := some 31, op := Op.fieldAddr 25 (Operand.tmp 1) 1, type := 0, pos := _, after := _, guard := some (17, false) }) (v := ?_) rfl (by kernel_rfl) (by kernel_rfl) (by kernel_rfl) (fun _ _ _ h => h) (Or.inl ⟨by rfl, ?_⟩) hHeld ?_
            rotate_left 1
            · (intro W hW; (try dsimp only at hW); go_simp; try with_reducible rfl)
            try simp only [Act.put, List.setIfInBounds_toArray, List.set_cons_zero, List.set_cons_succ]
            refine wpAnyH_take (i := 19) (oi := { dst := some 32, op := Op.load 23 (Operand.tmp 31), type := 23, pos := _, after := _, guard := some (17, false) }) (v := ?_) rfl (by kernel_rfl) (by kernel_rfl) (by kernel_rfl) (fun _ _ _ h => h) (Or.inl ⟨by rfl, ?_⟩) hHeld ?_
            rotate_left 1
            · (intro W hW; have hBC := (HBX.out.under hW hsz).cells; obtain ⟨b0, b1, b2⟩ := hBC; (try dsimp only at hW); go_simp; try with_reducible rfl)
            try simp only [Act.put, List.setIfInBounds_toArray, List.set_cons_zero, List.set_cons_succ]
            refine wpAnyH_ready (rs := [20]) (by kernel_rfl) (by simp) ?_
            refine AllReadyH.cons (o := { dst := some 33, op := Op.call { callee := Callee.value (Operand.func 24), args := #[], argTypes := #[] }, type := 23, pos := _, after := _, guard := some (17, false) }) rfl (fun K hK => ?_) AllReadyH.nil
            go_simp
            refine (refP_any V2).mono ?_
            rintro e V3 ⟨gq, hgq, rfl, hPq, hbN⟩
            obtain ⟨Aq, hAq⟩ : ∃ A : Option Addr, A = some ⟨gq, 0, none⟩ := ⟨_, rfl⟩
            obtain ⟨cq, hcq⟩ : ∃ c : Nat, c = 8 := ⟨_, rfl⟩
            obtain ⟨rq, hlq⟩ : ∃ r : List Nat, r = lP := ⟨_, rfl⟩
            have HRqV3 : Hid (Rd .u32 V3 V3.heap.size Aq cq rq) := Lib.hid (by rw [hAq, hcq, hlq]; exact Eight.rd hPq rfl)
            have HNq := Lib.hid hlq
            have HZq : Hid ((some ⟨gq, 0, none⟩ : Option Addr) = Aq ∧ (8 : Nat) = cq ∧ (8 : Nat) = rq.length) := Lib.hid ⟨hAq.symm, hcq.symm, by rw [hlq]; rfl⟩
            clear hgq hPq hAq hcq hlq
            rw [show Value.slice (some ⟨gq, 0, none⟩) 8 8 = Value.slice Aq rq.length cq by rw [← HZq.out.1, ← HZq.out.2.1, ← HZq.out.2.2]]
            have HSV3 : Hid (Below w1.heap.size w1 V3) := Lib.hid (HSV2.out.trans (hbN.mono HSV2.out.size))
            have HRpV3 := Lib.hid ((HRpV2.out.under hbN).more hbN.size)
            clear hbN
            go_simp
            refine hK.out _ _ (HSV3.out) (fun _ => ?_)
            clear hK K hHeld
            try simp only [Act.put, List.setIfInBounds_toArray, List.set_cons_zero, List.set_cons_succ]
            have hHeld : (fun W => Below w1.heap.size w1 W) V3 := HSV3.out
            refine wpAnyH_ready (rs := [21]) (by kernel_rfl) (by simp) ?_
            refine AllReadyH.cons (o := { dst := some 34, op := Op.call { callee := Callee.value (Operand.func 34), args := #[Operand.tmp 32, Operand.tmp 33], argTypes := #[23, 23] }, type := 3, pos := _, after := _, guard := some (17, false) }) rfl (fun K hK => ?_) AllReadyH.nil
            go_simp
            refine (cmp'_any V3 _ _ Ay Aq cy cq ly rq ((HY.out.under HSV3.out).more HSV3.out.size) HRqV3.out vy (by rw [HNq.out]; exact HVY.out)).mono ?_
            rintro e wq ⟨rfl, qq, rfl⟩
            obtain ⟨V4, hN⟩ : ∃ W, W = V3.drewN qq := ⟨_, rfl⟩
            rw [← hN]
            have HSV4 : Hid (Below w1.heap.size w1 V4) := Lib.hid (by rw [hN]; exact bdN HSV3.out qq)
            have HRpV4 : Hid (Rd .u32 V4 V4.heap.size Ap cp rp) := Lib.hid (by rw [hN]; exact HRpV3.out)
            have HRqV4 : Hid (Rd .u32 V4 V4.heap.size Aq cq rq) := Lib.hid (by rw [hN]; exact HRqV3.out)
            clear hN
            go_simp
            refine hK.out _ _ (HSV4.out) (fun _ => ?_)
            clear hK K hHeld
            try simp only [Act.put, List.setIfInBounds_toArray, List.set_cons_zero, List.set_cons_succ]
            have hHeld : (fun W => Below w1.heap.size w1 W) V4 := HSV4.out
            refine wpAnyH_take (i := 22) (oi := { dst := some 35, op := Op.binOp BinOp.geq 3 (Operand.tmp 34) (Operand.const (Value.int IntKind.i64 0)) 3, type := 4, pos := _, after := _, guard := some (17, false) }) (v := ?_) rfl (by kernel_rfl) (by kernel_rfl) (by kernel_rfl) (fun _ _ _ h => h) (Or.inl ⟨by rfl, ?_⟩) hHeld ?_
            rotate_left 1
            · (intro W hW; have hq := HGY.out; (try dsimp only at hW); go_simp; try with_reducible rfl)
            try simp only [Act.put, List.setIfInBounds_toArray, List.set_cons_zero, List.set_cons_succ]
            refine wpAnyH_take (i := 23) (oi := { dst := some 36, op := Op.pick (Operand.tmp 30) (Operand.const (Value.bool true)) (Operand.tmp 35), type := 4, pos := _, after := _, guard := none }) (v := ?_) rfl (by kernel_rfl) (by kernel_rfl) (by kernel_rfl) (fun _ _ _ h => h) (Or.inl ⟨by rfl, ?_⟩) hHeld ?_
            rotate_left 1
            · (intro W hW; (try dsimp only at hW); go_simp; try with_reducible rfl)
            try simp only [Act.put, List.setIfInBounds_toArray, List.set_cons_zero, List.set_cons_succ]
            refine wpAnyH_done (by kernel_rfl) ?_ _
            refine NoPanic.normal ?_
            have HB9 := Lib.hid (HB.out.trans (HSV4.out.mono HB.out.size))
            have HX9 := Lib.hid ((HX.out.under HSV4.out).more HSV4.out.size)
            have HY9 := Lib.hid ((HY.out.under HSV4.out).more HSV4.out.size)
            have HBX9 := Lib.hid (HBX.out.under HSV4.out hsz)
            have hsz9 : w.heap.size < V4.heap.size := Nat.lt_of_lt_of_le hsz HSV4.out.size
            clear HX HY HBX hsz HW
            have HX := HX9
            have HY := HY9
            have HBX := HBX9
            have hsz := hsz9
            clear HX9 HY9 HBX9 hsz9
            clear HSV4
            go_wp2_with fail
            refine wp_region_noPanic ?_
            refine wp_region_held_drew (S := fun W => Below V4.heap.size V4 W) (by kernel_rfl) ((Below.refl _ V4).drew) (fun hHeld => ?_)
            obtain ⟨U, hV⟩ : ∃ W, W = V4.drew := ⟨_, rfl⟩
            rw [← hV]
            have HSU : Hid (Below V4.heap.size V4 U) := Lib.hid (by rw [hV]; exact (Below.refl _ V4).drew)
            replace hHeld : (fun W => Below V4.heap.size V4 W) U := HSU.out
            clear hV
            refine wpAnyH_take (i := 0) (oi := { dst := some 37, op := Op.fieldAddr 25 (Operand.tmp 1) 1, type := 0, pos := _, after := _, guard := none }) (v := ?_) rfl (by kernel_rfl) (by kernel_rfl) (by kernel_rfl) (fun _ _ _ h => h) (Or.inl ⟨by rfl, ?_⟩) hHeld ?_
            rotate_left 1
            · (intro W hW; (try dsimp only at hW); go_simp; try with_reducible rfl)
            try simp only [Act.put, List.setIfInBounds_toArray, List.set_cons_zero, List.set_cons_succ]
            refine wpAnyH_take (i := 1) (oi := { dst := some 38, op := Op.load 23 (Operand.tmp 37), type := 23, pos := _, after := _, guard := none }) (v := ?_) rfl (by kernel_rfl) (by kernel_rfl) (by kernel_rfl) (fun _ _ _ h => h) (Or.inl ⟨by rfl, ?_⟩) hHeld ?_
            rotate_left 1
            · (intro W hW; have hBC := (HBX.out.under hW hsz).cells; obtain ⟨b0, b1, b2⟩ := hBC; (try dsimp only at hW); go_simp; try with_reducible rfl)
            try simp only [Act.put, List.setIfInBounds_toArray, List.set_cons_zero, List.set_cons_succ]
            refine wpAnyH_take (i := 2) (oi := { dst := some 39, op := Op.fieldAddr 25 (Operand.tmp 1) 1, type := 0, pos := _, after := _, guard := none }) (v := ?_) rfl (by kernel_rfl) (by kernel_rfl) (by kernel_rfl) (fun _ _ _ h => h) (Or.inl ⟨by rfl, ?_⟩) hHeld ?_
            rotate_left 1
            · (intro W hW; (try dsimp only at hW); go_simp; try with_reducible rfl)
            try simp only [Act.put, List.setIfInBounds_toArray, List.set_cons_zero, List.set_cons_succ]
            refine wpAnyH_take (i := 3) (oi := { dst := some 40, op := Op.load 23 (Operand.tmp 39), type := 23, pos := _, after := _, guard := none }) (v := ?_) rfl (by kernel_rfl) (by kernel_rfl) (by kernel_rfl) (fun _ _ _ h => h) (Or.inl ⟨by rfl, ?_⟩) hHeld ?_
            rotate_left 1
            · (intro W hW; have hBC := (HBX.out.under hW hsz).cells; obtain ⟨b0, b1, b2⟩ := hBC; (try dsimp only at hW); go_simp; try with_reducible rfl)
            try simp only [Act.put, List.setIfInBounds_toArray, List.set_cons_zero, List.set_cons_succ]
            refine wpAnyH_take (i := 5) (oi := { dst := some 42, op := Op.fieldAddr 25 (Operand.tmp 1) 0, type := 0, pos := _, after := _, guard := none }) (v := ?_) rfl (by kernel_rfl) (by kernel_rfl) (by kernel_rfl) (fun _ _ _ h => h) (Or.inl ⟨by rfl, ?_⟩) hHeld ?_
            rotate_left 1
            · (intro W hW; (try dsimp only at hW); go_simp; try with_reducible rfl)
            try simp only [Act.put, List.setIfInBounds_toArray, List.set_cons_zero, List.set_cons_succ]
            refine wpAnyH_take (i := 6) (oi := { dst := some 43, op := Op.load 23 (Operand.tmp 42), type := 23, pos := _, after := _, guard := none }) (v := ?_) rfl (by kernel_rfl) (by kernel_rfl) (by kernel_rfl) (fun _ _ _ h => h) (Or.inl ⟨by rfl, ?_⟩) hHeld ?_
            rotate_left 1
            · (intro W hW; have hBC := (HBX.out.under hW hsz).cells; obtain ⟨b0, b1, b2⟩ := hBC; (try dsimp only at hW); go_simp; try with_reducible rfl)
            try simp only [Act.put, List.setIfInBounds_toArray, List.set_cons_zero, List.set_cons_succ]
            refine wpAnyH_take (i := 7) (oi := { dst := some 44, op := Op.fieldAddr 25 (Operand.tmp 1) 0, type := 0, pos := _, after := _, guard := none }) (v := ?_) rfl (by kernel_rfl) (by kernel_rfl) (by kernel_rfl) (fun _ _ _ h => h) (Or.inl ⟨by rfl, ?_⟩) hHeld ?_
            rotate_left 1
            · (intro W hW; (try dsimp only at hW); go_simp; try with_reducible rfl)
            try simp only [Act.put, List.setIfInBounds_toArray, List.set_cons_zero, List.set_cons_succ]
            refine wpAnyH_take (i := 8) (oi := { dst := some 45, op := Op.load 23 (Operand.tmp 44), type := 23, pos := _, after := _, guard := none }) (v := ?_) rfl (by kernel_rfl) (by kernel_rfl) (by kernel_rfl) (fun _ _ _ h => h) (Or.inl ⟨by rfl, ?_⟩) hHeld ?_
            rotate_left 1
            · (intro W hW; have hBC := (HBX.out.under hW hsz).cells; obtain ⟨b0, b1, b2⟩ := hBC; (try dsimp only at hW); go_simp; try with_reducible rfl)
            try simp only [Act.put, List.setIfInBounds_toArray, List.set_cons_zero, List.set_cons_succ]
            refine wpAnyH_take (i := 9) (oi := { dst := some 46, op := Op.fieldAddr 25 (Operand.tmp 1) 0, type := 0, pos := _, after := _, guard := none }) (v := ?_) rfl (by kernel_rfl) (by kernel_rfl) (by kernel_rfl) (fun _ _ _ h => h) (Or.inl ⟨by rfl, ?_⟩) hHeld ?_
            rotate_left 1
            · (intro W hW; (try dsimp only at hW); go_simp; try with_reducible rfl)
            try simp only [Act.put, List.setIfInBounds_toArray, List.set_cons_zero, List.set_cons_succ]
            refine wpAnyH_take (i := 10) (oi := { dst := some 47, op := Op.load 23 (Operand.tmp 46), type := 23, pos := _, after := _, guard := none }) (v := ?_) rfl (by kernel_rfl) (by kernel_rfl) (by kernel_rfl) (fun _ _ _ h => h) (Or.inl ⟨by rfl, ?_⟩) hHeld ?_
            rotate_left 1
            · (intro W hW; have hBC := (HBX.out.under hW hsz).cells; obtain ⟨b0, b1, b2⟩ := hBC; (try dsimp only at hW); go_simp; try with_reducible rfl)
            try simp only [Act.put, List.setIfInBounds_toArray, List.set_cons_zero, List.set_cons_succ]
            refine wpAnyH_take (i := 13) (oi := { dst := some 50, op := Op.fieldAddr 25 (Operand.tmp 1) 0, type := 0, pos := _, after := _, guard := none }) (v := ?_) rfl (by kernel_rfl) (by kernel_rfl) (by kernel_rfl) (fun _ _ _ h => h) (Or.inl ⟨by rfl, ?_⟩) hHeld ?_
            rotate_left 1
            · (intro W hW; (try dsimp only at hW); go_simp; try with_reducible rfl)
            try simp only [Act.put, List.setIfInBounds_toArray, List.set_cons_zero, List.set_cons_succ]
            refine wpAnyH_take (i := 14) (oi := { dst := some 51, op := Op.load 23 (Operand.tmp 50), type := 23, pos := _, after := _, guard := none }) (v := ?_) rfl (by kernel_rfl) (by kernel_rfl) (by kernel_rfl) (fun _ _ _ h => h) (Or.inl ⟨by rfl, ?_⟩) hHeld ?_
            rotate_left 1
            · (intro W hW; have hBC := (HBX.out.under hW hsz).cells; obtain ⟨b0, b1, b2⟩ := hBC; (try dsimp only at hW); go_simp; try with_reducible rfl)
            try simp only [Act.put, List.setIfInBounds_toArray, List.set_cons_zero, List.set_cons_succ]
            refine wpAnyH_ready (rs := [4]) (by kernel_rfl) (by simp) ?_
            refine AllReadyH.cons (o := { dst := some 41, op := Op.call { callee := Callee.value (Operand.func 35), args := #[Operand.tmp 38, Operand.tmp 40], argTypes := #[23, 23] }, type := 23, pos := _, after := _, guard := none }) rfl (fun K hK => ?_) AllReadyH.nil
            go_simp
            refine (mulR_any U Ay Ay cy cy ly ly ((HY.out.under HSU.out).more HSU.out.size) ((HY.out.under HSU.out).more HSU.out.size) HDY.out HDY.out HL1Y.out HL1Y.out HNY.out HNY.out).mono ?_
            rintro e U1 ⟨Aa, ca, ra, rfl, hna, hra, hbN⟩
            have HNa := Lib.hid hna
            have HRaU1 := Lib.hid hra
            have HSU1 : Hid (Below V4.heap.size V4 U1) := Lib.hid (HSU.out.trans (hbN.mono HSU.out.size))
            clear hbN hna hra
            go_simp
            refine hK.out _ _ (HSU1.out) (fun _ => ?_)
            clear hK K hHeld
            try simp only [Act.put, List.setIfInBounds_toArray, List.set_cons_zero, List.set_cons_succ]
            have hHeld : (fun W => Below V4.heap.size V4 W) U1 := HSU1.out
            refine wpAnyH_ready (rs := [11]) (by kernel_rfl) (by simp) ?_
            refine AllReadyH.cons (o := { dst := some 48, op := Op.call { callee := Callee.value (Operand.func 35), args := #[Operand.tmp 45, Operand.tmp 47], argTypes := #[23, 23] }, type := 23, pos := _, after := _, guard := none }) rfl (fun K hK => ?_) AllReadyH.nil
            go_simp
            refine (mulR_any U1 Ax Ax cx cx lx lx ((HX.out.under HSU1.out).more HSU1.out.size) ((HX.out.under HSU1.out).more HSU1.out.size) HDX.out HDX.out HL1X.out HL1X.out HNX.out HNX.out).mono ?_
            rintro e U2 ⟨Ab, cb, rb, rfl, hnb, hrb, hbN⟩
            have HNb := Lib.hid hnb
            have HRbU2 := Lib.hid hrb
            have HSU2 : Hid (Below V4.heap.size V4 U2) := Lib.hid (HSU1.out.trans (hbN.mono HSU1.out.size))
            have HRaU2 := Lib.hid ((HRaU1.out.under hbN).more hbN.size)
            clear hbN hnb hrb
            go_simp
            refine hK.out _ _ (HSU2.out) (fun _ => ?_)
            clear hK K hHeld
            try simp only [Act.put, List.setIfInBounds_toArray, List.set_cons_zero, List.set_cons_succ]
            have hHeld : (fun W => Below V4.heap.size V4 W) U2 := HSU2.out
            refine wpAnyH_ready (rs := [12]) (by kernel_rfl) (by simp) ?_
            refine AllReadyH.cons (o := { dst := some 49, op := Op.call { callee := Callee.value (Operand.func 35), args := #[Operand.tmp 43, Operand.tmp 48], argTypes := #[23, 23] }, type := 23, pos := _, after := _, guard := none }) rfl (fun K hK => ?_) AllReadyH.nil
            go_simp
            refine (mulR_any U2 Ax Ab cx cb lx rb ((HX.out.under HSU2.out).more HSU2.out.size) HRbU2.out HDX.out HNb.out.1 HL1X.out (by have := num_len8 HNb.out (Nat.mod_lt _ cP_pos); omega) HNX.out HNb.out.2.1).mono ?_
            rintro e U3 ⟨Ac, cc, rc, rfl, hnc, hrc, hbN⟩
            have HNc := Lib.hid hnc
            have HRcU3 := Lib.hid hrc
            have HSU3 : Hid (Below V4.heap.size V4 U3) := Lib.hid (HSU2.out.trans (hbN.mono HSU2.out.size))
            have HRaU3 := Lib.hid ((HRaU2.out.under hbN).more hbN.size)
            have HRbU3 := Lib.hid ((HRbU2.out.under hbN).more hbN.size)
            clear hbN hnc hrc
            go_simp
            refine hK.out _ _ (HSU3.out) (fun _ => ?_)
            clear hK K hHeld
            try simp only [Act.put, List.setIfInBounds_toArray, List.set_cons_zero, List.set_cons_succ]
            have hHeld : (fun W => Below V4.heap.size V4 W) U3 := HSU3.out
            refine wpAnyH_ready (rs := [15]) (by kernel_rfl) (by simp) ?_
            refine AllReadyH.cons (o := { dst := some 52, op := Op.call { callee := Callee.value (Operand.func 38), args := #[Operand.tmp 51], argTypes := #[23] }, type := 23, pos := _, after := _, guard := none }) rfl (fun K hK => ?_) AllReadyH.nil
            go_simp
            refine (threeR_any U3 Ax cx lx ((HX.out.under HSU3.out).more HSU3.out.size) HDX.out HL1X.out HNX.out).mono ?_
            rintro e U4 ⟨Ad, cd, rd, rfl, hnd, hrd, hbN⟩
            have HNd := Lib.hid hnd
            have HRdU4 := Lib.hid hrd
            have HSU4 : Hid (Below V4.heap.size V4 U4) := Lib.hid (HSU3.out.trans (hbN.mono HSU3.out.size))
            have HRaU4 := Lib.hid ((HRaU3.out.under hbN).more hbN.size)
            have HRbU4 := Lib.hid ((HRbU3.out.under hbN).more hbN.size)
            have HRcU4 := Lib.hid ((HRcU3.out.under hbN).more hbN.size)
            clear hbN hnd hrd
            go_simp
            refine hK.out _ _ (HSU4.out) (fun _ => ?_)
            clear hK K hHeld
            try simp only [Act.put, List.setIfInBounds_toArray, List.set_cons_zero, List.set_cons_succ]
            have hHeld : (fun W => Below V4.heap.size V4 W) U4 := HSU4.out
            refine wpAnyH_ready (rs := [16]) (by kernel_rfl) (by simp) ?_
            refine AllReadyH.cons (o := { dst := some 53, op := Op.call { callee := Callee.value (Operand.func 37), args := #[Operand.tmp 49, Operand.tmp 52], argTypes := #[23, 23] }, type := 23, pos := _, after := _, guard := none }) rfl (fun K hK => ?_) AllReadyH.nil
            go_simp
            refine (subR_any U4 Ac Ad cc cd rc rd HRcU4.out HRdU4.out HNc.out.1 HNd.out.1 (by have := num_len8 HNc.out (Nat.mod_lt _ cP_pos); omega) (by have := num_len8 HNd.out (Nat.mod_lt _ cP_pos); omega) HNc.out.2.1 HNd.out.2.1).mono ?_
            rintro e U5 ⟨Ae, ce, re, rfl, hne, hre, hbN⟩
            have HNe := Lib.hid hne
            have HReU5 := Lib.hid hre
            have HSU5 : Hid (Below V4.heap.size V4 U5) := Lib.hid (HSU4.out.trans (hbN.mono HSU4.out.size))
            have HRaU5 := Lib.hid ((HRaU4.out.under hbN).more hbN.size)
            have HRbU5 := Lib.hid ((HRbU4.out.under hbN).more hbN.size)
            have HRcU5 := Lib.hid ((HRcU4.out.under hbN).more hbN.size)
            have HRdU5 := Lib.hid ((HRdU4.out.under hbN).more hbN.size)
            clear hbN hne hre
            go_simp
            refine hK.out _ _ (HSU5.out) (fun _ => ?_)
            clear hK K hHeld
            try simp only [Act.put, List.setIfInBounds_toArray, List.set_cons_zero, List.set_cons_succ]
            have hHeld : (fun W => Below V4.heap.size V4 W) U5 := HSU5.out
            refine wpAnyH_ready (rs := [17]) (by kernel_rfl) (by simp) ?_
            refine AllReadyH.cons (o := { dst := some 54, op := Op.call { callee := Callee.value (Operand.func 39), args := #[], argTypes := #[] }, type := 23, pos := _, after := _, guard := none }) rfl (fun K hK => ?_) AllReadyH.nil
            go_simp
            refine (refB_any U5).mono ?_
            rintro e U6 ⟨gf, hgf, rfl, hPf, hbN⟩
            obtain ⟨Af, hAf⟩ : ∃ A : Option Addr, A = some ⟨gf, 0, none⟩ := ⟨_, rfl⟩
            obtain ⟨cf, hcf⟩ : ∃ c : Nat, c = 8 := ⟨_, rfl⟩
            obtain ⟨rf, hlf⟩ : ∃ r : List Nat, r = lB := ⟨_, rfl⟩
            have HRfU6 : Hid (Rd .u32 U6 U6.heap.size Af cf rf) := Lib.hid (by rw [hAf, hcf, hlf]; exact Eight.rd hPf rfl)
            have HNf := Lib.hid hlf
            have HZf : Hid ((some ⟨gf, 0, none⟩ : Option Addr) = Af ∧ (8 : Nat) = cf ∧ (8 : Nat) = rf.length) := Lib.hid ⟨hAf.symm, hcf.symm, by rw [hlf]; rfl⟩
            clear hgf hPf hAf hcf hlf
            rw [show Value.slice (some ⟨gf, 0, none⟩) 8 8 = Value.slice Af rf.length cf by rw [← HZf.out.1, ← HZf.out.2.1, ← HZf.out.2.2]]
            have HSU6 : Hid (Below V4.heap.size V4 U6) := Lib.hid (HSU5.out.trans (hbN.mono HSU5.out.size))
            have HRaU6 := Lib.hid ((HRaU5.out.under hbN).more hbN.size)
            have HRbU6 := Lib.hid ((HRbU5.out.under hbN).more hbN.size)
            have HRcU6 := Lib.hid ((HRcU5.out.under hbN).more hbN.size)
            have HRdU6 := Lib.hid ((HRdU5.out.under hbN).more hbN.size)
            have HReU6 := Lib.hid ((HReU5.out.under hbN).more hbN.size)
            clear hbN
            go_simp
            refine hK.out _ _ (HSU6.out) (fun _ => ?_)
            clear hK K hHeld
            try simp only [Act.put, List.setIfInBounds_toArray, List.set_cons_zero, List.set_cons_succ]
            have hHeld : (fun W => Below V4.heap.size V4 W) U6 := HSU6.out
            refine wpAnyH_ready (rs := [18]) (by kernel_rfl) (by simp) ?_
            refine AllReadyH.cons (o := { dst := some 55, op := Op.call { callee := Callee.value (Operand.func 36), args := #[Operand.tmp 53, Operand.tmp 54], argTypes := #[23, 23] }, type := 23, pos := _, after := _, guard := none }) rfl (fun K hK => ?_) AllReadyH.nil
            go_simp
            refine (addR_any U6 Ae Af ce cf re rf HReU6.out HRfU6.out HNe.out.1 (by rw [HNf.out]; exact lB_ok.1) (by have := num_len8 HNe.out (Nat.mod_lt _ cP_pos); omega) (by rw [HNf.out, lB_ok.2.2.2]; omega) HNe.out.2.1 (by rw [HNf.out]; exact lB_ok.2.1)).mono ?_
            rintro e U7 ⟨Ag, cg, rg, rfl, hng, hrg, hbN⟩
            have HNg := Lib.hid hng
            have HRgU7 := Lib.hid hrg
            have HSU7 : Hid (Below V4.heap.size V4 U7) := Lib.hid (HSU6.out.trans (hbN.mono HSU6.out.size))
            have HRaU7 := Lib.hid ((HRaU6.out.under hbN).more hbN.size)
            have HRbU7 := Lib.hid ((HRbU6.out.under hbN).more hbN.size)
            have HRcU7 := Lib.hid ((HRcU6.out.under hbN).more hbN.size)
            have HRdU7 := Lib.hid ((HRdU6.out.under hbN).more hbN.size)
            have HReU7 := Lib.hid ((HReU6.out.under hbN).more hbN.size)
            have HRfU7 := Lib.hid ((HRfU6.out.under hbN).more hbN.size)
            clear hbN hng hrg
            go_simp
            refine hK.out _ _ (HSU7.out) (fun _ => ?_)
            clear hK K hHeld
            try simp only [Act.put, List.setIfInBounds_toArray, List.set_cons_zero, List.set_cons_succ]
            have hHeld : (fun W => Below V4.heap.size V4 W) U7 := HSU7.out
            refine wpAnyH_ready (rs := [19]) (by kernel_rfl) (by simp) ?_
            refine AllReadyH.cons (o := { dst := some 56, op := Op.call { callee := Callee.value (Operand.func 34), args := #[Operand.tmp 41, Operand.tmp 55], argTypes := #[23, 23] }, type := 3, pos := _, after := _, guard := none }) rfl (fun K hK => ?_) AllReadyH.nil
            go_simp
            have HVZ : Hid (val ra = val ly * val ly % cP ∧ val rg = rhsR (val lx)) := Lib.hid ⟨HNa.out.2.2, by
              have h1 := HNg.out.2.2
              rw [HNe.out.2.2, HNc.out.2.2, HNb.out.2.2, HNd.out.2.2, HNf.out] at h1
              exact h1⟩
            obtain ⟨vz, hvz⟩ : ∃ v, v = cmpL ra rg := ⟨_, rfl⟩
            have HVV : Hid ((vz == 0) = decide (val ly * val ly % cP = rhsR (val lx))) := Lib.hid (by
              rw [hvz, cmpL_val HNa.out.1 HNg.out.1 HNa.out.2.1 HNg.out.2.1, HVZ.out.1, HVZ.out.2]
              by_cases e : val ly * val ly % cP = rhsR (val lx)
              · rw [e, if_neg (by omega), if_neg (by omega)]; simp
              · rw [decide_eq_false e]
                by_cases e2 : val ly * val ly % cP < rhsR (val lx)
                · rw [if_pos e2]; rfl
                · rw [if_neg e2, if_pos (by omega)]; rfl)
            have Hvz := Lib.hid hvz.symm
            clear hvz
            refine (cmp'_any U7 _ _ Aa Ag ca cg ra rg HRaU7.out HRgU7.out vz Hvz.out).mono ?_
            rintro e wq ⟨rfl, qq, rfl⟩
            obtain ⟨U8, hN⟩ : ∃ W, W = U7.drewN qq := ⟨_, rfl⟩
            rw [← hN]
            have HSU8 : Hid (Below V4.heap.size V4 U8) := Lib.hid (by rw [hN]; exact bdN HSU7.out qq)
            have HRaU8 : Hid (Rd .u32 U8 U8.heap.size Aa ca ra) := Lib.hid (by rw [hN]; exact HRaU7.out)
            have HRbU8 : Hid (Rd .u32 U8 U8.heap.size Ab cb rb) := Lib.hid (by rw [hN]; exact HRbU7.out)
            have HRcU8 : Hid (Rd .u32 U8 U8.heap.size Ac cc rc) := Lib.hid (by rw [hN]; exact HRcU7.out)
            have HRdU8 : Hid (Rd .u32 U8 U8.heap.size Ad cd rd) := Lib.hid (by rw [hN]; exact HRdU7.out)
            have HReU8 : Hid (Rd .u32 U8 U8.heap.size Ae ce re) := Lib.hid (by rw [hN]; exact HReU7.out)
            have HRfU8 : Hid (Rd .u32 U8 U8.heap.size Af cf rf) := Lib.hid (by rw [hN]; exact HRfU7.out)
            have HRgU8 : Hid (Rd .u32 U8 U8.heap.size Ag cg rg) := Lib.hid (by rw [hN]; exact HRgU7.out)
            clear hN
            go_simp
            refine hK.out _ _ (HSU8.out) (fun _ => ?_)
            clear hK K hHeld
            try simp only [Act.put, List.setIfInBounds_toArray, List.set_cons_zero, List.set_cons_succ]
            have hHeld : (fun W => Below V4.heap.size V4 W) U8 := HSU8.out
            refine wpAnyH_take (i := 20) (oi := { dst := some 57, op := Op.binOp BinOp.eql 3 (Operand.tmp 56) (Operand.const (Value.int IntKind.i64 0)) 3, type := 4, pos := _, after := _, guard := none }) (v := ?_) rfl (by kernel_rfl) (by kernel_rfl) (by kernel_rfl) (fun _ _ _ h => h) (Or.inl ⟨by rfl, ?_⟩) hHeld ?_
            rotate_left 1
            · (intro W hW; (try dsimp only at hW); go_simp; try with_reducible rfl)
            try simp only [Act.put, List.setIfInBounds_toArray, List.set_cons_zero, List.set_cons_succ]
            refine wpAnyH_take (i := 21) (oi := { dst := some 2, op := Op.assign (Operand.tmp 57), type := 4, pos := _, after := _, guard := none }) (v := ?_) rfl (by kernel_rfl) (by kernel_rfl) (by kernel_rfl) (fun _ _ _ h => h) (Or.inl ⟨by rfl, ?_⟩) hHeld ?_
            rotate_left 1
            · (intro W hW; (try dsimp only at hW); go_simp; try with_reducible rfl)
            try simp only [Act.put, List.setIfInBounds_toArray, List.set_cons_zero, List.set_cons_succ]
            refine wpAnyH_done (by kernel_rfl) ?_ _
            refine NoPanic.normal ?_
            go_wp2_with fail
            go_ret
            refine ⟨?_, HB9.out.trans (HSU8.out.mono HB9.out.size)⟩
            unfold ptOk
            rw [HBLX.out, HBLY.out, ← HVV.out]
            rfl
end Go.Proofs.YtjpoiecbjpipdaaDoor
