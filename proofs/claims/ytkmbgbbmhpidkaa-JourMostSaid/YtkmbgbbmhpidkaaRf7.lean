/-
  The document's disk: Arm, New.
-/
import Derived.Test.YtkmbgbbmhpidkaaRf6
namespace Go.Proofs.Ytkmbgbbmhpidkaa
open Go.RowKit
set_option linter.unusedVariables false
set_option linter.unusedSimpArgs false
attribute [local go_sem ↓] Go.wp_at_zero Go.wp_at_succ

structure ArmS (bx : Nat) (a : Int) (K2 : Option Addr) (n2 c3 : Nat) (W : World) : Prop where
  q0 : W.cell? ⟨bx, 0, none⟩ = some (.int .i64 a)
  q1 : W.cell? ⟨bx, 1, none⟩ = some (.slice K2 n2 c3)
theorem ArmS.under {bx : Nat} {a : Int} {K2 : Option Addr} {n2 c3 : Nat} {W W' : World} (h : ArmS bx a K2 n2 c3 W) (hb : Below W.heap.size W W') : ArmS bx a K2 n2 c3 W' := by
  have k : ∀ (g i : Nat) (v : Value), W.cell? ⟨g, i, none⟩ = some v → W'.cell? ⟨g, i, none⟩ = some v := fun g i v hv => (hb.cell (p := ⟨g, i, none⟩) (World.block_lt_of_cell? W _ hv)).trans hv
  exact ⟨k _ _ _ h.q0, k _ _ _ h.q1⟩
theorem ArmS.aside {bx : Nat} {a : Int} {K2 : Option Addr} {n2 c3 : Nat} {W : World} (h : ArmS bx a K2 n2 c3 W) {gx : Nat} (hne : bx ≠ gx) (i : Nat) (v : Value) : ArmS bx a K2 n2 c3 (W.setCell ⟨gx, i, none⟩ v) :=
  ⟨(World.cell?_of_block (a := ⟨bx, 0, none⟩) (Below.heap_setCell W ⟨gx, i, none⟩ v bx hne)).trans h.q0, (World.cell?_of_block (a := ⟨bx, 1, none⟩) (Below.heap_setCell W ⟨gx, i, none⟩ v bx hne)).trans h.q1⟩
section
variable {w : World} {gx gS cS : Nat} {A : Option Addr} {cw : Nat} {K : Option Addr} {ck : Nat} {at_ : Int} {kl : List Bool} {rs : List Rw} {ws : List (Nat × Rw)} {s : Dk}
theorem RfAt.rearm (h : RfAt w gx gS cS A cw K ck at_ kl rs ws s) (a : Int) (K' : Option Addr) (ck' n : Nat) (l : List Bool) (hl : l.length = n) (ht : Truths w K' ck' l) (kx : ∀ g, blockOf K' = some g → g < w.heap.size ∧ g ≠ gx ∧ g ≠ gS ∧ blockOf A ≠ some g) :
    RfAt (((w.setCell ⟨gx, 3, none⟩ (.int .i64 a)).setCell ⟨gx, 4, none⟩ (.slice K' n ck')).setCell ⟨gx, 5, none⟩ (.bool true)) gx gS cS A cw K' ck' a l rs ws (s.arm a l) := by
  subst hl
  have hd := ((h.hd.stored 3 (.int .i64 a)).stored 4 (.slice K' l.length ck')).stored 5 (.bool true)
  have hs : w.heap.size ≤ (((w.setCell ⟨gx, 3, none⟩ (.int .i64 a)).setCell ⟨gx, 4, none⟩ (.slice K' l.length ck')).setCell ⟨gx, 5, none⟩ (.bool true)).heap.size := by rw [setCell_size, setCell_size, setCell_size]; exact Nat.le_refl _
  have k : ∀ g, g ≠ gx → (((w.setCell ⟨gx, 3, none⟩ (.int .i64 a)).setCell ⟨gx, 4, none⟩ (.slice K' l.length ck')).setCell ⟨gx, 5, none⟩ (.bool true)).heap[g]? = w.heap[g]? := fun g hne =>
    (Below.heap_setCell _ ⟨gx, 5, none⟩ _ g hne).trans ((Below.heap_setCell _ ⟨gx, 4, none⟩ _ g hne).trans (Below.heap_setCell w ⟨gx, 3, none⟩ _ g hne))
  exact {
    hd := hd
    hS := h.hS.keep fun g hg hlt => k g (by obtain rfl : gS = g := by simpa [blockOf] using hg
                                            exact h.xs.symm)
    hW := h.hW.keep fun g hg hlt => k g (fun e => h.ax.1 (by rw [hg, e]))
    rd := fun r hr => (h.rd r hr).keep hs fun g hg hlt => k g ((h.rd r hr).2.2 g hg).1
    wd := fun p hp => (h.wd p hp).keep hs fun g hg hlt => k g ((h.wd p hp).2.2 g hg).1
    hk := ht.keep hs fun g hg hlt => k g (kx g hg).2.1
    eS := h.eS
    eW := h.eW
    ea := fun _ => ⟨rfl, rfl⟩
    xs := h.xs
    ax := h.ax
    kx := fun g hg => ⟨Nat.lt_of_lt_of_le (kx g hg).1 hs, (kx g hg).2⟩
    n1 := h.n1
    n2 := h.n2
    wat := h.wat }
end
def ArmPostR (w : World) (gx gS cS : Nat) (A : Option Addr) (cw : Nat) (a : Int) (l : List Bool) (rs : List Rw) (ws : List (Nat × Rw)) (s : Dk) (w' : World) : Prop :=
  ∃ K' ck', RfAt w' gx gS cS A cw K' ck' a l rs ws s ∧ ∀ g, blockOf K' = some g → w.heap.size ≤ g
theorem Row.rd64 {w : World} {g : Nat} {l : List Nat} (h : Row .u8 5 w g l) (hl : l.length = 64) : Rd .u8 w w.heap.size (some ⟨g, 0, none⟩) 64 l := by
  have := h.rd (n := 64) (c := 64) (by omega) (Nat.le_refl _) (by omega)
  rw [List.take_of_length_le (by omega)] at this
  exact this.more (Holds.lt h)
set_option maxRecDepth 100000 in
set_option maxHeartbeats 2000000 in
theorem rarm_any (w : World) (gx gS cS : Nat) (A : Option Addr) (cw : Nat) (K : Option Addr) (ck : Nat) (at_ : Int) (kl : List Bool) (rs : List Rw) (ws : List (Nat × Rw)) (s : Dk) (h : RfAt w gx gS cS A cw K ck at_ kl rs ws s) (a : Int) (K2 : Option Addr) (c3 n2 : Nat) (l : List Bool) (hl : l.length = n2) (hr : Truths w K2 c3 l) (hn : n2 ≤ 1000) :
    Calls Try.prog 13 #[.pointer (some ⟨gx, 0, none⟩), .agg #[.int .i64 a, .slice K2 n2 c3]] w fun e w' => e = .returned (.tuple #[]) ∧ ArmPostR w gx gS cS A cw a l rs ws (s.arm a l) w' ∧ Only (fun g => g = gx) w w' := by
  have hA0 : Below w.heap.size w (w.alloc (.cells #[.int .i64 a, .slice K2 n2 c3] 30)) := (Below.refl _ w).alloc (Nat.le_refl _) _
  obtain ⟨V, hV⟩ : ∃ V, w.alloc (.cells #[.int .i64 a, .slice K2 n2 c3] 30) = V := ⟨_, rfl⟩
  have hVs : V.heap.size = w.heap.size + 1 := by rw [← hV]; simp
  have hA1 : Below w.heap.size w V := by rw [← hV]; exact hA0
  have hA2 : Below w.heap.size w (V.alloc (.cells #[] 4)).drew := (hA1.alloc (by omega) _).drew
  have hrV := hr.under hA2
  obtain ⟨V1, hV1⟩ : ∃ V1, (V.alloc (.cells #[] 4)).drew = V1 := ⟨_, rfl⟩
  have hV1s : V1.heap.size = V.heap.size + 1 := by rw [← hV1]; simp
  obtain ⟨g', c2, w2, hrun, hgr, hrd, hat, hlt⟩ := run_truthsE (V.alloc (.cells #[] 4)).drew n2 hrV hl hn V.heap.size (heap_alloc_new V _) 28
  rw [hV1] at hA2 hrun hgr hat
  have hb2 : Below w.heap.size w w2 := hA2.trans (one_below hgr (by omega) hA2.size)
  have hbV1 : Below V.heap.size V V1 := by rw [← hV1]; exact ((Below.refl _ V).alloc (Nat.le_refl _) _).drew
  have hbV2 : Below V.heap.size V w2 := hbV1.trans (one_below hgr (by omega) hbV1.size)
  have hg' : w.heap.size ≤ g' := by omega
  have h2 := h.under hb2
  have hfi := h2.rearm a (some ⟨g', 0, none⟩) c2 n2 l hl hrd fun g hg => by
    obtain rfl : g' = g := by simpa [blockOf] using hg
    refine ⟨hlt, fun e => ?_, fun e => ?_, fun e => ?_⟩
    · have := h.lt (g := g') (.inl e); omega
    · have := h.lt (g := g') (.inr (.inl e)); omega
    · have := h.lt (g := g') (.inr (.inr (.inl e))); omega
  have HFI := Lib.hid hfi
  have HKB : Hid (∀ g, blockOf (some (⟨g', 0, none⟩ : Addr)) = some g → w.heap.size ≤ g) := Lib.hid fun g hg => by
    obtain rfl : g' = g := by simpa [blockOf] using hg
    exact hg'
  have HRUN := Lib.hid hrun
  have hl0 : ArmS w.heap.size a K2 n2 c3 V := ⟨by rw [← hV]; exact cell_of_row _ _ _ _ _ _ (heap_alloc_new w _), by rw [← hV]; exact cell_of_row _ _ _ _ _ _ (heap_alloc_new w _)⟩
  have HL0 : Hid (ArmS w.heap.size a K2 n2 c3 V.drew) := Lib.hid ⟨hl0.q0, hl0.q1⟩
  have HL1 := Lib.hid (hl0.under hbV1)
  have HL2 := Lib.hid (hl0.under hbV2)
  have hbx : w.heap.size ≠ gx := by have := h.lt (g := gx) (.inl rfl); omega
  have HL3 := Lib.hid ((HL2.out.aside hbx 3 (.int .i64 a)).aside hbx 4 (.slice (some ⟨g', 0, none⟩) n2 c2))
  have HL4 := Lib.hid (HL3.out.aside hbx 5 (.bool true))
  have e3 : w2.cell? ⟨gx, 3, none⟩ = some (.int .i64 at_) := h2.cell 3
  have e4 : w2.cell? ⟨gx, 4, none⟩ = some (.slice K kl.length ck) := h2.cell 4
  have f3 : w2.frozen? ⟨gx, 3, none⟩ = false := h2.hd.open_ 3
  have f4 : w2.frozen? ⟨gx, 4, none⟩ = false := h2.hd.open_ 4
  have f4' : (w2.setCell ⟨gx, 3, none⟩ (.int .i64 a)).frozen? ⟨gx, 4, none⟩ = false := (h2.hd.stored 3 _).open_ 4
  have e4' : (w2.setCell ⟨gx, 3, none⟩ (.int .i64 a)).cell? ⟨gx, 4, none⟩ = some (.slice K kl.length ck) := (h2.hd.stored 3 _).cell 4
  have f5 : ((w2.setCell ⟨gx, 3, none⟩ (.int .i64 a)).setCell ⟨gx, 4, none⟩ (.slice (some ⟨g', 0, none⟩) n2 c2)).frozen? ⟨gx, 5, none⟩ = false := ((h2.hd.stored 3 _).stored 4 _).open_ 5
  have e5 : ((w2.setCell ⟨gx, 3, none⟩ (.int .i64 a)).setCell ⟨gx, 4, none⟩ (.slice (some ⟨g', 0, none⟩) n2 c2)).cell? ⟨gx, 5, none⟩ = some (.bool s.armed) := ((h2.hd.stored 3 _).stored 4 _).cell 5
  have HO : Hid (Only (fun g => g = gx) w (((w2.setCell ⟨gx, 3, none⟩ (.int .i64 a)).setCell ⟨gx, 4, none⟩ (.slice (some ⟨g', 0, none⟩) n2 c2)).setCell ⟨gx, 5, none⟩ (.bool true))) := Lib.hid
    ((((Only.of_below (F := fun g => g = gx) hb2).setCell (p := ⟨gx, 3, none⟩) (.inl rfl) _).setCell (p := ⟨gx, 4, none⟩) (.inl rfl) _).setCell (p := ⟨gx, 5, none⟩) (.inl rfl) _)
  have HV1 := Lib.hid hV1
  have HV := Lib.hid hV
  clear h hr hA0 hA1 hA2 hrV hgr hrd hat hlt hb2 h2 hg' hVs hV1s hbV1 hbV2 hl0 hbx hrun hV1 hV hfi
  go_enter Try.func13, Try.ntmps13
  go_wp2_with fail
  rw [HV.out]
  refine wp_region_noPanic ?_
  refine wp_region_held_drew (S := fun W => ArmS w.heap.size a K2 n2 c3 W) (by kernel_rfl) (HL0.out) (fun hHeld => ?_)
  refine wpAnyH_take (i := 0) (oi := { dst := some 4, op := Op.move (Operand.tmp 0), type := 25, pos := _, after := _, guard := none }) (v := ?_) rfl (by kernel_rfl) (by kernel_rfl) (by kernel_rfl) (fun _ _ _ h => h) (Or.inl ⟨by rfl, ?_⟩) hHeld ?_
  rotate_left 1
  · (intro W hW; (try dsimp only at hW); go_simp; try with_reducible rfl)
  try simp only [Act.put, List.setIfInBounds_toArray, List.set_cons_zero, List.set_cons_succ]
  refine wpAnyH_take (i := 1) (oi := { dst := some 5, op := Op.move (Operand.tmp 0), type := 25, pos := _, after := _, guard := none }) (v := ?_) rfl (by kernel_rfl) (by kernel_rfl) (by kernel_rfl) (fun _ _ _ h => h) (Or.inl ⟨by rfl, ?_⟩) hHeld ?_
  rotate_left 1
  · (intro W hW; (try dsimp only at hW); go_simp; try with_reducible rfl)
  try simp only [Act.put, List.setIfInBounds_toArray, List.set_cons_zero, List.set_cons_succ]
  refine wpAnyH_take (i := 2) (oi := { dst := some 6, op := Op.fieldAddr 30 (Operand.tmp 3) 0, type := 0, pos := _, after := _, guard := none }) (v := ?_) rfl (by kernel_rfl) (by kernel_rfl) (by kernel_rfl) (fun _ _ _ h => h) (Or.inl ⟨by rfl, ?_⟩) hHeld ?_
  rotate_left 1
  · (intro W hW; (try dsimp only at hW); go_simp; try with_reducible rfl)
  try simp only [Act.put, List.setIfInBounds_toArray, List.set_cons_zero, List.set_cons_succ]
  refine wpAnyH_take (i := 3) (oi := { dst := some 7, op := Op.load 3 (Operand.tmp 6), type := 3, pos := _, after := _, guard := none }) (v := ?_) rfl (by kernel_rfl) (by kernel_rfl) (by kernel_rfl) (fun _ _ _ h => h) (Or.inl ⟨by rfl, ?_⟩) hHeld ?_
  rotate_left 1
  · (intro W hW; have hk := ArmS.q0 hW; (try dsimp only at hW); go_simp; try with_reducible rfl)
  try simp only [Act.put, List.setIfInBounds_toArray, List.set_cons_zero, List.set_cons_succ]
  refine wpAnyH_take (i := 5) (oi := { dst := some 9, op := Op.fieldAddr 30 (Operand.tmp 3) 1, type := 0, pos := _, after := _, guard := none }) (v := ?_) rfl (by kernel_rfl) (by kernel_rfl) (by kernel_rfl) (fun _ _ _ h => h) (Or.inl ⟨by rfl, ?_⟩) hHeld ?_
  rotate_left 1
  · (intro W hW; (try dsimp only at hW); go_simp; try with_reducible rfl)
  try simp only [Act.put, List.setIfInBounds_toArray, List.set_cons_zero, List.set_cons_succ]
  refine wpAnyH_take (i := 6) (oi := { dst := some 10, op := Op.load 28 (Operand.tmp 9), type := 28, pos := _, after := _, guard := none }) (v := ?_) rfl (by kernel_rfl) (by kernel_rfl) (by kernel_rfl) (fun _ _ _ h => h) (Or.inl ⟨by rfl, ?_⟩) hHeld ?_
  rotate_left 1
  · (intro W hW; have hk := ArmS.q1 hW; (try dsimp only at hW); go_simp; try with_reducible rfl)
  try simp only [Act.put, List.setIfInBounds_toArray, List.set_cons_zero, List.set_cons_succ]
  refine wpAnyH_ready (rs := [4]) (by kernel_rfl) (by simp) ?_
  refine AllReadyH.cons (o := { dst := some 8, op := Op.buildSlice 28 0 #[], type := 28, pos := _, after := _, guard := none }) rfl (fun K hK => ?_) AllReadyH.nil
  go_simp
  rw [HV1.out]
  refine hK.out _ _ (HL1.out) (fun _ => ?_)
  clear hK K hHeld
  try simp only [Act.put, List.setIfInBounds_toArray, List.set_cons_zero, List.set_cons_succ]
  have hHeld : (fun W => ArmS w.heap.size a K2 n2 c3 W) V1 := HL1.out
  refine wpAnyH_ready (rs := [7]) (by kernel_rfl) (by simp) ?_
  refine AllReadyH.cons (o := { dst := some 11, op := Op.call { callee := Callee.builtin Builtin.append, args := #[Operand.tmp 8, Operand.tmp 10], argTypes := #[28, 28] }, type := 28, pos := _, after := _, guard := none }) rfl (fun K hK => ?_) AllReadyH.nil
  refine step_append_run rfl (.tmp 8) (.tmp 10) 28 rfl rfl _ _ rfl rfl _ _ HRUN.out ?_
  refine hK.out _ _ (HL2.out) (fun _ => ?_)
  clear hK K hHeld
  try simp only [Act.put, List.setIfInBounds_toArray, List.set_cons_zero, List.set_cons_succ]
  have hHeld : (fun W => ArmS w.heap.size a K2 n2 c3 W) w2 := HL2.out
  refine wpAnyH_take (i := 8) (oi := { dst := some 12, op := Op.build 30 #[(0, Operand.tmp 7), (1, Operand.tmp 11)], type := 30, pos := _, after := _, guard := none }) (v := ?_) rfl (by kernel_rfl) (by kernel_rfl) (by kernel_rfl) (fun _ _ _ h => h) (Or.inl ⟨by rfl, ?_⟩) hHeld ?_
  rotate_left 1
  · (intro W hW; (try dsimp only at hW); go_simp; try with_reducible rfl)
  try simp only [Act.put, List.setIfInBounds_toArray, List.set_cons_zero, List.set_cons_succ]
  refine wpAnyH_take (i := 9) (oi := { dst := some 13, op := Op.nilCheck (Operand.tmp 4), type := 0, pos := _, after := _, guard := none }) (v := ?_) rfl (by kernel_rfl) (by kernel_rfl) (by kernel_rfl) (fun _ _ _ h => h) (Or.inl ⟨by rfl, ?_⟩) hHeld ?_
  rotate_left 1
  · (intro W hW; (try dsimp only at hW); go_simp; try with_reducible rfl)
  try simp only [Act.put, List.setIfInBounds_toArray, List.set_cons_zero, List.set_cons_succ]
  refine wpAnyH_take (i := 10) (oi := { dst := some 14, op := Op.fieldAddr 64 (Operand.tmp 13) 3, type := 0, pos := _, after := _, guard := none }) (v := ?_) rfl (by kernel_rfl) (by kernel_rfl) (by kernel_rfl) (fun _ _ _ h => h) (Or.inl ⟨by rfl, ?_⟩) hHeld ?_
  rotate_left 1
  · (intro W hW; (try dsimp only at hW); go_simp; try with_reducible rfl)
  try simp only [Act.put, List.setIfInBounds_toArray, List.set_cons_zero, List.set_cons_succ]
  refine wpAnyH_ready (rs := [11]) (by kernel_rfl) (by simp) ?_
  refine AllReadyH.cons (o := { dst := none, op := Op.store 30 (Operand.tmp 14) (Operand.tmp 12), type := 0, pos := _, after := _, guard := none }) rfl (fun K hK => ?_) AllReadyH.nil
  go_simp
  refine hK.out _ _ (HL3.out) (fun _ => ?_)
  clear hK K hHeld
  try simp only [Act.put, List.setIfInBounds_toArray, List.set_cons_zero, List.set_cons_succ]
  have hHeld : (fun W => ArmS w.heap.size a K2 n2 c3 W) ((w2.setCell ⟨gx, 3, none⟩ (.int .i64 a)).setCell ⟨gx, 4, none⟩ (.slice (some ⟨g', 0, none⟩) n2 c2)) := HL3.out
  refine wpAnyH_take (i := 12) (oi := { dst := some 15, op := Op.nilCheck (Operand.tmp 5), type := 0, pos := _, after := _, guard := none }) (v := ?_) rfl (by kernel_rfl) (by kernel_rfl) (by kernel_rfl) (fun _ _ _ h => h) (Or.inl ⟨by rfl, ?_⟩) hHeld ?_
  rotate_left 1
  · (intro W hW; (try dsimp only at hW); go_simp; try with_reducible rfl)
  try simp only [Act.put, List.setIfInBounds_toArray, List.set_cons_zero, List.set_cons_succ]
  refine wpAnyH_take (i := 13) (oi := { dst := some 16, op := Op.fieldAddr 64 (Operand.tmp 15) 4, type := 0, pos := _, after := _, guard := none }) (v := ?_) rfl (by kernel_rfl) (by kernel_rfl) (by kernel_rfl) (fun _ _ _ h => h) (Or.inl ⟨by rfl, ?_⟩) hHeld ?_
  rotate_left 1
  · (intro W hW; (try dsimp only at hW); go_simp; try with_reducible rfl)
  try simp only [Act.put, List.setIfInBounds_toArray, List.set_cons_zero, List.set_cons_succ]
  refine wpAnyH_ready (rs := [14]) (by kernel_rfl) (by simp) ?_
  refine AllReadyH.cons (o := { dst := none, op := Op.store 4 (Operand.tmp 16) (Operand.const (Value.bool true)), type := 0, pos := _, after := _, guard := none }) rfl (fun K hK => ?_) AllReadyH.nil
  go_simp
  refine hK.out _ _ (HL4.out) (fun _ => ?_)
  clear hK K hHeld
  try simp only [Act.put, List.setIfInBounds_toArray, List.set_cons_zero, List.set_cons_succ]
  have hHeld : (fun W => ArmS w.heap.size a K2 n2 c3 W) (((w2.setCell ⟨gx, 3, none⟩ (.int .i64 a)).setCell ⟨gx, 4, none⟩ (.slice (some ⟨g', 0, none⟩) n2 c2)).setCell ⟨gx, 5, none⟩ (.bool true)) := HL4.out
  refine wpAnyH_done (by kernel_rfl) ?_ _
  refine NoPanic.normal ?_
  clear HRUN
  go_wp2_with fail
  go_end0
  exact ⟨rfl, ⟨_, _, HFI.out, HKB.out⟩, HO.out⟩

theorem info_bytes : (Try.prog.info? 40).map (fun i => (i.zero, i.size, i.bytes)) = some (some (.slice none 0 0), 1, 24) := by kernel_rfl
/-- So many sectors are there. -/
structure RnSt (w : World) (B : Nat) (A : Option Addr) (cS k : Nat) (rs : List Rw) (W : World) : Prop where
  hd : Holds W B 64 #[.slice A k cS, .slice none 0 0, .int .i64 0, .int .i64 0, .slice none 0 0, .bool false, .bool false]
  own : OwnV 40 1 W A cS k (rs.map rslot)
  len : rs.length = k
  rd : ∀ r ∈ rs, Rd .u8 W W.heap.size r.a r.c r.l ∧ r.l = zsec ∧ ∀ g, blockOf r.a = some g → B < g ∧ blockOf A ≠ some g
  ab : ∀ g, blockOf A = some g → B < g
  bel : Below B w W
theorem RnSt.push {w V W3 : World} {B : Nat} {A : Option Addr} {cS k : Nat} {rs : List Rw} {r : Rw} (h : RnSt w B A cS k rs V) {V3 : World} (hk : Below V.heap.size V V3) (hr : Rd .u8 V3 V3.heap.size r.a r.c r.l ∧ r.l = zsec ∧ ∀ g, blockOf r.a = some g → V.heap.size ≤ g)
    {g' c' : Nat} (hw : OwnV 40 1 W3 (some ⟨g', 0, none⟩) c' (k + 1) (rs.map rslot ++ [rslot r])) (hgr : V3.grownBy W3 (blockOf A)) (hat : blockOf A = some g' ∨ g' = V3.heap.size) :
    Holds W3 B 64 #[.slice A k cS, .slice none 0 0, .int .i64 0, .int .i64 0, .slice none 0 0, .bool false, .bool false] ∧
    RnSt w B (some ⟨g', 0, none⟩) c' (k + 1) (rs ++ [r]) (W3.setCell ⟨B, 0, none⟩ (.slice (some ⟨g', 0, none⟩) (k + 1) c')) := by
  have hlt : B < V.heap.size := Holds.lt h.hd
  have hd3 : Holds W3 B 64 #[.slice A k cS, .slice none 0 0, .int .i64 0, .int .i64 0, .slice none 0 0, .bool false, .bool false] :=
    (hgr.block B (Nat.lt_of_lt_of_le hlt hk.size) (fun e => by have := h.ab B e.symm; omega)).trans ((hk.block B hlt).trans h.hd)
  refine ⟨hd3, ?_⟩
  have hg' : B < g' := by
    rcases hat with e | e
    · exact h.ab g' e
    · have := hk.size; omega
  have hs : V3.heap.size ≤ (W3.setCell ⟨B, 0, none⟩ (.slice (some ⟨g', 0, none⟩) (k + 1) c')).heap.size := by rw [setCell_size]; exact hgr.size
  have kk : ∀ g, g ≠ B → blockOf A ≠ some g → g < V3.heap.size → (W3.setCell ⟨B, 0, none⟩ (.slice (some ⟨g', 0, none⟩) (k + 1) c')).heap[g]? = V3.heap[g]? := fun g h1 h2 h3 =>
    (Below.heap_setCell W3 ⟨B, 0, none⟩ _ g h1).trans (hgr.block g h3 (fun e => h2 e.symm))
  exact {
    hd := Holds.stored hd3 0 _
    own := by
      rw [List.map_append]
      exact OwnV.keep (w := W3) hw fun g hg _ => Below.heap_setCell W3 ⟨B, 0, none⟩ _ g (by
        obtain rfl : g' = g := by simpa [blockOf] using hg
        show g' ≠ B
        omega)
    len := by simp [h.len]
    rd := fun q hq => by
      rcases List.mem_append.1 hq with h1 | h1
      · obtain ⟨a1, a2, a3⟩ := h.rd q h1
        have a1' := a1.keepB hk.size fun g _ hg => hk.block g hg
        refine ⟨a1'.keepB hs fun g hg hlt' => kk g (by have := (a3 g hg).1; omega) (a3 g hg).2 hlt', a2, fun g hg => ⟨(a3 g hg).1, fun e => ?_⟩⟩
        obtain rfl : g' = g := by simpa [blockOf] using e
        rcases hat with e | e
        · exact (a3 g' hg).2 e
        · have := a1.lt (by rw [a2]; decide) hg
          have := hk.size
          omega
      · obtain rfl := List.mem_singleton.1 h1
        obtain ⟨a1, a2, a3⟩ := hr
        have hA : ∀ g, blockOf q.a = some g → blockOf A ≠ some g := fun g hg e => by
          have := h.own.lt e
          have := a3 g hg
          omega
        refine ⟨a1.keepB hs fun g hg hlt' => kk g (by have := a3 g hg; omega) (hA g hg) hlt', a2, fun g hg => ⟨by have := a3 g hg; omega, fun e => ?_⟩⟩
        obtain rfl : g' = g := by simpa [blockOf] using e
        rcases hat with e | e
        · exact hA g' hg e
        · have := a1.lt (by rw [a2]; decide) hg
          omega
    ab := fun g hg => by
      obtain rfl : g' = g := by simpa [blockOf] using hg
      exact hg'
    bel := by
      have b1 : Below B w V3 := h.bel.trans (hk.mono (Nat.le_of_lt hlt))
      have b2 : Below B V3 W3 := ⟨hgr.os, hgr.tape, hgr.output, hgr.size, fun g hg => hgr.block g (by have := hk.size; omega) (fun e => by have := h.ab g e.symm; omega)⟩
      exact (b1.trans b2).setCell (by exact Nat.le_refl _) _ }
def RelN (w : World) (n : Nat) (i : Value) (wr : World) : Prop :=
  ∃ (k : Nat) (A : Option Addr) (cS : Nat) (rs : List Rw), k ≤ n ∧ i = .int .i64 k ∧ RnSt w w.heap.size A cS k rs wr
def NewPostR (w : World) (n : Nat) (w' : World) : Prop :=
  (∃ gS cS rs, RfAt w' w.heap.size gS cS none 0 none 0 0 [] rs [] (fresh n) ∧ ∀ g, RfBlk w.heap.size gS none none rs [] g → w.heap.size ≤ g) ∧ Below w.heap.size w w'
theorem RnSt.done {w W : World} {A : Option Addr} {cS n : Nat} {rs : List Rw} (h : RnSt w w.heap.size A cS n rs W) (h1 : 1 ≤ n) (h2 : n ≤ 2000) : NewPostR w n W := by
  have hl := h.len
  obtain ⟨r0, hr0⟩ : ∃ r, rs[0]? = some r := ⟨_, List.getElem?_eq_getElem (by omega)⟩
  obtain ⟨gS, rfl, _, _, _⟩ := h.own.at_ (j := 0) (v := rslot r0) (by rw [List.getElem?_map, hr0]; rfl)
  have hn : ∀ g, blockOf (none : Option Addr) ≠ some g := fun g e => by simp [blockOf] at e
  refine ⟨⟨gS, cS, rs, ?_, fun g hg => ?_⟩, h.bel⟩
  · subst hl
    exact {
      hd := h.hd
      hS := h.own
      hW := OwnV.nil _ _ _
      rd := fun r hr => ⟨(h.rd r hr).1, by rw [(h.rd r hr).2.1]; rfl, fun g hg => ⟨by have := ((h.rd r hr).2.2 g hg).1; omega, fun e => ((h.rd r hr).2.2 g hg).2 (by rw [e]; rfl), hn g⟩⟩
      wd := fun p hp => by cases hp
      hk := Truths.nil _
      eS := by
        show _ = List.replicate rs.length zsec
        rw [List.eq_replicate_iff]
        refine ⟨by simp, fun x hx => ?_⟩
        obtain ⟨r, hr, rfl⟩ := List.mem_map.1 hx
        exact (h.rd r hr).2.1
      eW := rfl
      ea := fun e => by cases e
      xs := by have := h.ab gS rfl; omega
      ax := ⟨hn _, hn _⟩
      kx := fun g hg => absurd hg (hn g)
      n1 := h1
      n2 := h2
      wat := fun p hp => by cases hp }
  · rcases hg with rfl | rfl | hg | hg | ⟨r, hr, hg⟩ | ⟨p, hp, hg⟩
    · exact Nat.le_refl _
    · exact Nat.le_of_lt (h.ab _ rfl)
    · exact absurd hg (hn g)
    · exact absurd hg (hn g)
    · exact Nat.le_of_lt ((h.rd r hr).2.2 g hg).1
    · cases hp
set_option maxRecDepth 100000 in
theorem rnew_no (w : World) (n : Int) (h : n < 1 ∨ 2000 < n) : Calls Try.prog 9 #[.int .i64 n] w fun e w' => e = .returned (.pointer none) ∧ w = w' := by
  by_cases h1 : n < 1
  · have d1 : decide (n < 1) = true := decide_eq_true h1
    clear h
    go_enter Try.func9, Try.ntmps9
    go_wp2_with fail
    go_ret
    exact ⟨rfl, rfl⟩
  have d1 : decide (n < 1) = false := decide_eq_false h1
  have d2 : decide (2000 < n) = true := decide_eq_true (by omega)
  clear h
  go_enter Try.func9, Try.ntmps9
  go_wp2_with fail
  go_ret
  exact ⟨rfl, rfl⟩
set_option maxRecDepth 100000 in
set_option maxHeartbeats 4000000 in
theorem rnew_yes (w : World) (n : Nat) (h1 : 1 ≤ n) (h2 : n ≤ 2000) : Calls Try.prog 9 #[.int .i64 n] w fun e w' => e = .returned (.pointer (some ⟨w.heap.size, 0, none⟩)) ∧ NewPostR w n w' := by
  have d1 : decide ((n : Int) < 1) = false := decide_eq_false (by omega)
  have d2 : decide (2000 < (n : Int)) = false := decide_eq_false (by omega)
  have hst : RnSt w w.heap.size none 0 0 [] (w.alloc (.cells #[.slice none 0 0, .slice none 0 0, .int .i64 0, .int .i64 0, .slice none 0 0, .bool false, .bool false] 64)) :=
    ⟨Holds.fresh _ _ _, OwnV.nil _ _ _, rfl, (fun r hr => by cases hr), (fun g hg => by simp [blockOf] at hg), (Below.refl _ w).alloc (Nat.le_refl _) _⟩
  have HS0 := Lib.hid hst
  clear hst
  go_enter Try.func9, Try.ntmps9
  go_wp2_with fail
  go_loopw [4] (fun i wr => RelN w n i wr) (fun i _ => n - (intOf i).toNat)
  case atStart => exact ⟨0, none, 0, [], Nat.zero_le _, rfl, HS0.out⟩
  case round =>
    obtain ⟨k, A, cS, rs, hk, rfl, hst⟩ := hrel
    obtain ⟨V, hV⟩ : ∃ V, V = wr := ⟨_, rfl⟩
    subst hV
    have HST := Lib.hid hst
    by_cases hkn : k < n
    case pos =>
      have hkI : (k : Int) < (n : Int) := by omega
      have hk0 : (0 : Int) ≤ (k : Int) := by omega
      have hmk := make_row
      obtain ⟨V1, hV1⟩ : ∃ V1, (V.alloc (.cells zrow 5)).drew = V1 := ⟨_, rfl⟩
      have hb1 : Below V.heap.size V V1 := by rw [← hV1]; exact ((Below.refl _ V).alloc (Nat.le_refl _) _).drew
      have hs1 : V1.heap.size = V.heap.size + 1 := by rw [← hV1]; simp
      have hz1 : Row .u8 5 V1 V.heap.size zsec := by rw [← hV1]; exact heap_alloc_new V _
      obtain ⟨V3, hV3⟩ : ∃ V3, V1.alloc (.cells #[.slice (some ⟨V.heap.size, 0, none⟩) 64 64] 40) = V3 := ⟨_, rfl⟩
      have hb3 : Below V1.heap.size V1 V3 := by rw [← hV3]; exact (Below.refl _ V1).alloc (Nat.le_refl _) _
      have hke : Below V.heap.size V V3 := hb1.trans (hb3.mono hb1.size)
      have hz3 : Rd .u8 V3 V3.heap.size (some ⟨V.heap.size, 0, none⟩) 64 zsec := Row.rd64 (Holds.under hz1 hb3 (by omega)) rfl
      have hrs : rslot ⟨some ⟨V.heap.size, 0, none⟩, 64, zsec⟩ = .slice (some ⟨V.heap.size, 0, none⟩) 64 64 := rfl
      have HKE := Lib.hid hke
      have HZ3 := Lib.hid hz3
      have HOW : Hid (OwnV 40 1 V3 A cS k (rs.map rslot)) := Lib.hid (hst.own.keep fun g _ hlt => hke.block g hlt)
      have HH3 : Hid (Holds V3 (V.heap.size + 1) 40 [rslot ⟨some ⟨V.heap.size, 0, none⟩, 64, zsec⟩].toArray) := Lib.hid (by rw [hrs, ← hV3, ← hs1]; exact Holds.fresh _ _ _)
      have HWL : Hid ([rslot ⟨some ⟨V.heap.size, 0, none⟩, 64, zsec⟩].length = 1) := Lib.hid rfl
      have HW1 : Hid (∀ u ∈ [rslot ⟨some ⟨V.heap.size, 0, none⟩, 64, zsec⟩], u.oneCell' = true) := Lib.hid (by intro u hu; simp at hu; subst hu; rfl)
      have HWN : Hid (k ≤ 100000) := Lib.hid (by omega)
      have HV1 := Lib.hid hV1
      have HV3 := Lib.hid hV3
      have e0 : V.cell? ⟨w.heap.size, 0, none⟩ = some (.slice A k cS) := hst.hd.cell 0
      have e1 : V1.cell? ⟨w.heap.size, 0, none⟩ = some (.slice A k cS) := (hst.hd.under hb1 hst.hd.lt).cell 0
      have e3 : V3.cell? ⟨w.heap.size, 0, none⟩ = some (.slice A k cS) := (hst.hd.under hke hst.hd.lt).cell 0
      clear hst hb1 hb3 hke hz3 hrs hz1 hV1 hV3 HS0
      go_wp2_with fail
      refine wp_region_noPanic ?_
      refine wp_region_held_drew (S := fun _ => True) (by kernel_rfl) trivial (fun hHeld => ?_)
      refine wpAnyH_take (i := 0) (oi := { dst := some 18, op := Op.move (Operand.tmp 3), type := 25, pos := _, after := _, guard := none }) (v := ?_) rfl (by kernel_rfl) (by kernel_rfl) (by kernel_rfl) (fun _ _ _ h => h) (Or.inl ⟨by rfl, ?_⟩) hHeld ?_
      rotate_left 1
      · (intro W hW; (try dsimp only at hW); go_simp; try with_reducible rfl)
      try simp only [Act.put, List.setIfInBounds_toArray, List.set_cons_zero, List.set_cons_succ]
      refine wpAnyH_take (i := 1) (oi := { dst := some 19, op := Op.move (Operand.tmp 3), type := 25, pos := _, after := _, guard := none }) (v := ?_) rfl (by kernel_rfl) (by kernel_rfl) (by kernel_rfl) (fun _ _ _ h => h) (Or.inl ⟨by rfl, ?_⟩) hHeld ?_
      rotate_left 1
      · (intro W hW; (try dsimp only at hW); go_simp; try with_reducible rfl)
      try simp only [Act.put, List.setIfInBounds_toArray, List.set_cons_zero, List.set_cons_succ]
      refine wpAnyH_take (i := 2) (oi := { dst := some 20, op := Op.nilCheck (Operand.tmp 19), type := 0, pos := _, after := _, guard := none }) (v := ?_) rfl (by kernel_rfl) (by kernel_rfl) (by kernel_rfl) (fun _ _ _ h => h) (Or.inl ⟨by rfl, ?_⟩) hHeld ?_
      rotate_left 1
      · (intro W hW; (try dsimp only at hW); go_simp; try with_reducible rfl)
      try simp only [Act.put, List.setIfInBounds_toArray, List.set_cons_zero, List.set_cons_succ]
      refine wpAnyH_take (i := 3) (oi := { dst := some 21, op := Op.fieldAddr 64 (Operand.tmp 20) 0, type := 0, pos := _, after := _, guard := none }) (v := ?_) rfl (by kernel_rfl) (by kernel_rfl) (by kernel_rfl) (fun _ _ _ h => h) (Or.inl ⟨by rfl, ?_⟩) hHeld ?_
      rotate_left 1
      · (intro W hW; (try dsimp only at hW); go_simp; try with_reducible rfl)
      try simp only [Act.put, List.setIfInBounds_toArray, List.set_cons_zero, List.set_cons_succ]
      refine wpAnyH_ready (rs := [4, 5]) (by kernel_rfl) (by simp) ?_
      refine AllReadyH.cons (o := { dst := some 22, op := Op.load 56 (Operand.tmp 21), type := 56, pos := _, after := _, guard := none }) rfl (fun K hK => ?_) ?_
      · go_simp
        refine hK.out _ _ trivial (fun hHeld => ?_)
        clear hK K
        try simp only [Act.put, List.setIfInBounds_toArray, List.set_cons_zero, List.set_cons_succ]
        refine wpAnyH_ready (rs := [5]) (by kernel_rfl) (by simp) ?_
        refine AllReadyH.cons (o := { dst := some 23, op := Op.makeSlice 40 (Operand.const (Value.int IntKind.i64 64)) (Operand.const (Value.int IntKind.i64 64)), type := 40, pos := _, after := _, guard := none }) rfl (fun K hK => ?_) AllReadyH.nil
        go_simp
        rw [HV1.out]
        refine hK.out _ _ trivial (fun hHeld => ?_)
        clear hK K
        try simp only [Act.put, List.setIfInBounds_toArray, List.set_cons_zero, List.set_cons_succ]
        refine wpAnyH_ready (rs := [6]) (by kernel_rfl) (by simp) ?_
        refine AllReadyH.cons (o := { dst := some 24, op := Op.buildSlice 56 1 #[(0, Operand.tmp 23)], type := 56, pos := _, after := _, guard := none }) rfl (fun K hK => ?_) AllReadyH.nil
        go_simp
        rw [HV3.out]
        refine hK.out _ _ trivial (fun hHeld => ?_)
        clear hK K
        try simp only [Act.put, List.setIfInBounds_toArray, List.set_cons_zero, List.set_cons_succ]
        refine wpAnyH_ready (rs := [7]) (by kernel_rfl) (by simp) ?_
        refine AllReadyH.cons (o := { dst := some 25, op := Op.call { callee := Callee.builtin Builtin.append, args := #[Operand.tmp 22, Operand.tmp 24], argTypes := #[56, 56] }, type := 56, pos := _, after := _, guard := none }) rfl (fun K hK => ?_) AllReadyH.nil
        refine step_pushV _ rfl (.tmp 22) (.tmp 24) 56 rfl 40 (.slice none 0 0) 1 24 Try.underlying56 info_bytes rfl (by omega) (by omega) rfl HOW.out rfl HWL.out HW1.out HH3.out HWN.out ?_
        intro g5 c5 W3 hw3 hgr3 hat3 hlt3
        have hst := RnSt.push (r := ⟨some ⟨V.heap.size, 0, none⟩, 64, zsec⟩) HST.out HKE.out ⟨HZ3.out, rfl, fun g hg => by
          obtain rfl : V.heap.size = g := by simpa [blockOf] using hg
          exact Nat.le_refl _⟩ hw3 hgr3 hat3
        have q4 : W3.cell? ⟨w.heap.size, 0, none⟩ = some (.slice A k cS) := hst.1.cell 0
        have f4 : W3.frozen? ⟨w.heap.size, 0, none⟩ = false := hst.1.open_ 0
        have HST2 := Lib.hid hst.2
        clear hw3 hgr3 hat3 hlt3 hst
        refine hK.out _ _ trivial (fun hHeld => ?_)
        clear hK K
        try simp only [Act.put, List.setIfInBounds_toArray, List.set_cons_zero, List.set_cons_succ]
        refine wpAnyH_take (i := 8) (oi := { dst := some 26, op := Op.nilCheck (Operand.tmp 18), type := 0, pos := _, after := _, guard := none }) (v := ?_) rfl (by kernel_rfl) (by kernel_rfl) (by kernel_rfl) (fun _ _ _ h => h) (Or.inl ⟨by rfl, ?_⟩) hHeld ?_
        rotate_left 1
        · (intro W hW; (try dsimp only at hW); go_simp; try with_reducible rfl)
        try simp only [Act.put, List.setIfInBounds_toArray, List.set_cons_zero, List.set_cons_succ]
        refine wpAnyH_take (i := 9) (oi := { dst := some 27, op := Op.fieldAddr 64 (Operand.tmp 26) 0, type := 0, pos := _, after := _, guard := none }) (v := ?_) rfl (by kernel_rfl) (by kernel_rfl) (by kernel_rfl) (fun _ _ _ h => h) (Or.inl ⟨by rfl, ?_⟩) hHeld ?_
        rotate_left 1
        · (intro W hW; (try dsimp only at hW); go_simp; try with_reducible rfl)
        try simp only [Act.put, List.setIfInBounds_toArray, List.set_cons_zero, List.set_cons_succ]
        refine wpAnyH_ready (rs := [10]) (by kernel_rfl) (by simp) ?_
        refine AllReadyH.cons (o := { dst := none, op := Op.store 56 (Operand.tmp 27) (Operand.tmp 25), type := 0, pos := _, after := _, guard := none }) rfl (fun K hK => ?_) AllReadyH.nil
        go_simp
        refine hK.out _ _ trivial (fun hHeld => ?_)
        clear hK K
        try simp only [Act.put, List.setIfInBounds_toArray, List.set_cons_zero, List.set_cons_succ]
        refine wpAnyH_done (by kernel_rfl) ?_ _
        refine NoPanic.normal ?_
        clear HST HKE HZ3 HOW HH3 HV1 HV3
        go_wp2_with fail
        go_roundw
        case rel => exact ⟨k + 1, _, _, _, by omega, by go_num, HST2.out⟩
        case measure => simp [intOf]; omega
      refine AllReadyH.cons (o := { dst := some 23, op := Op.makeSlice 40 (Operand.const (Value.int IntKind.i64 64)) (Operand.const (Value.int IntKind.i64 64)), type := 40, pos := _, after := _, guard := none }) rfl (fun K hK => ?_) AllReadyH.nil
      go_simp
      rw [HV1.out]
      refine hK.out _ _ trivial (fun hHeld => ?_)
      clear hK K
      try simp only [Act.put, List.setIfInBounds_toArray, List.set_cons_zero, List.set_cons_succ]
      refine wpAnyH_ready (rs := [4, 6]) (by kernel_rfl) (by simp) ?_
      refine AllReadyH.cons (o := { dst := some 22, op := Op.load 56 (Operand.tmp 21), type := 56, pos := _, after := _, guard := none }) rfl (fun K hK => ?_) ?_
      · go_simp
        refine hK.out _ _ trivial (fun hHeld => ?_)
        clear hK K
        try simp only [Act.put, List.setIfInBounds_toArray, List.set_cons_zero, List.set_cons_succ]
        refine wpAnyH_ready (rs := [6]) (by kernel_rfl) (by simp) ?_
        refine AllReadyH.cons (o := { dst := some 24, op := Op.buildSlice 56 1 #[(0, Operand.tmp 23)], type := 56, pos := _, after := _, guard := none }) rfl (fun K hK => ?_) AllReadyH.nil
        go_simp
        rw [HV3.out]
        refine hK.out _ _ trivial (fun hHeld => ?_)
        clear hK K
        try simp only [Act.put, List.setIfInBounds_toArray, List.set_cons_zero, List.set_cons_succ]
        refine wpAnyH_ready (rs := [7]) (by kernel_rfl) (by simp) ?_
        refine AllReadyH.cons (o := { dst := some 25, op := Op.call { callee := Callee.builtin Builtin.append, args := #[Operand.tmp 22, Operand.tmp 24], argTypes := #[56, 56] }, type := 56, pos := _, after := _, guard := none }) rfl (fun K hK => ?_) AllReadyH.nil
        refine step_pushV _ rfl (.tmp 22) (.tmp 24) 56 rfl 40 (.slice none 0 0) 1 24 Try.underlying56 info_bytes rfl (by omega) (by omega) rfl HOW.out rfl HWL.out HW1.out HH3.out HWN.out ?_
        intro g5 c5 W3 hw3 hgr3 hat3 hlt3
        have hst := RnSt.push (r := ⟨some ⟨V.heap.size, 0, none⟩, 64, zsec⟩) HST.out HKE.out ⟨HZ3.out, rfl, fun g hg => by
          obtain rfl : V.heap.size = g := by simpa [blockOf] using hg
          exact Nat.le_refl _⟩ hw3 hgr3 hat3
        have q4 : W3.cell? ⟨w.heap.size, 0, none⟩ = some (.slice A k cS) := hst.1.cell 0
        have f4 : W3.frozen? ⟨w.heap.size, 0, none⟩ = false := hst.1.open_ 0
        have HST2 := Lib.hid hst.2
        clear hw3 hgr3 hat3 hlt3 hst
        refine hK.out _ _ trivial (fun hHeld => ?_)
        clear hK K
        try simp only [Act.put, List.setIfInBounds_toArray, List.set_cons_zero, List.set_cons_succ]
        refine wpAnyH_take (i := 8) (oi := { dst := some 26, op := Op.nilCheck (Operand.tmp 18), type := 0, pos := _, after := _, guard := none }) (v := ?_) rfl (by kernel_rfl) (by kernel_rfl) (by kernel_rfl) (fun _ _ _ h => h) (Or.inl ⟨by rfl, ?_⟩) hHeld ?_
        rotate_left 1
        · (intro W hW; (try dsimp only at hW); go_simp; try with_reducible rfl)
        try simp only [Act.put, List.setIfInBounds_toArray, List.set_cons_zero, List.set_cons_succ]
        refine wpAnyH_take (i := 9) (oi := { dst := some 27, op := Op.fieldAddr 64 (Operand.tmp 26) 0, type := 0, pos := _, after := _, guard := none }) (v := ?_) rfl (by kernel_rfl) (by kernel_rfl) (by kernel_rfl) (fun _ _ _ h => h) (Or.inl ⟨by rfl, ?_⟩) hHeld ?_
        rotate_left 1
        · (intro W hW; (try dsimp only at hW); go_simp; try with_reducible rfl)
        try simp only [Act.put, List.setIfInBounds_toArray, List.set_cons_zero, List.set_cons_succ]
        refine wpAnyH_ready (rs := [10]) (by kernel_rfl) (by simp) ?_
        refine AllReadyH.cons (o := { dst := none, op := Op.store 56 (Operand.tmp 27) (Operand.tmp 25), type := 0, pos := _, after := _, guard := none }) rfl (fun K hK => ?_) AllReadyH.nil
        go_simp
        refine hK.out _ _ trivial (fun hHeld => ?_)
        clear hK K
        try simp only [Act.put, List.setIfInBounds_toArray, List.set_cons_zero, List.set_cons_succ]
        refine wpAnyH_done (by kernel_rfl) ?_ _
        refine NoPanic.normal ?_
        clear HST HKE HZ3 HOW HH3 HV1 HV3
        go_wp2_with fail
        go_roundw
        case rel => exact ⟨k + 1, _, _, _, by omega, by go_num, HST2.out⟩
        case measure => simp [intOf]; omega
      refine AllReadyH.cons (o := { dst := some 24, op := Op.buildSlice 56 1 #[(0, Operand.tmp 23)], type := 56, pos := _, after := _, guard := none }) rfl (fun K hK => ?_) AllReadyH.nil
      go_simp
      rw [HV3.out]
      refine hK.out _ _ trivial (fun hHeld => ?_)
      clear hK K
      try simp only [Act.put, List.setIfInBounds_toArray, List.set_cons_zero, List.set_cons_succ]
      refine wpAnyH_ready (rs := [4]) (by kernel_rfl) (by simp) ?_
      refine AllReadyH.cons (o := { dst := some 22, op := Op.load 56 (Operand.tmp 21), type := 56, pos := _, after := _, guard := none }) rfl (fun K hK => ?_) AllReadyH.nil
      go_simp
      refine hK.out _ _ trivial (fun hHeld => ?_)
      clear hK K
      try simp only [Act.put, List.setIfInBounds_toArray, List.set_cons_zero, List.set_cons_succ]
      refine wpAnyH_ready (rs := [7]) (by kernel_rfl) (by simp) ?_
      refine AllReadyH.cons (o := { dst := some 25, op := Op.call { callee := Callee.builtin Builtin.append, args := #[Operand.tmp 22, Operand.tmp 24], argTypes := #[56, 56] }, type := 56, pos := _, after := _, guard := none }) rfl (fun K hK => ?_) AllReadyH.nil
      refine step_pushV _ rfl (.tmp 22) (.tmp 24) 56 rfl 40 (.slice none 0 0) 1 24 Try.underlying56 info_bytes rfl (by omega) (by omega) rfl HOW.out rfl HWL.out HW1.out HH3.out HWN.out ?_
      intro g5 c5 W3 hw3 hgr3 hat3 hlt3
      have hst := RnSt.push (r := ⟨some ⟨V.heap.size, 0, none⟩, 64, zsec⟩) HST.out HKE.out ⟨HZ3.out, rfl, fun g hg => by
        obtain rfl : V.heap.size = g := by simpa [blockOf] using hg
        exact Nat.le_refl _⟩ hw3 hgr3 hat3
      have q4 : W3.cell? ⟨w.heap.size, 0, none⟩ = some (.slice A k cS) := hst.1.cell 0
      have f4 : W3.frozen? ⟨w.heap.size, 0, none⟩ = false := hst.1.open_ 0
      have HST2 := Lib.hid hst.2
      clear hw3 hgr3 hat3 hlt3 hst
      refine hK.out _ _ trivial (fun hHeld => ?_)
      clear hK K
      try simp only [Act.put, List.setIfInBounds_toArray, List.set_cons_zero, List.set_cons_succ]
      refine wpAnyH_take (i := 8) (oi := { dst := some 26, op := Op.nilCheck (Operand.tmp 18), type := 0, pos := _, after := _, guard := none }) (v := ?_) rfl (by kernel_rfl) (by kernel_rfl) (by kernel_rfl) (fun _ _ _ h => h) (Or.inl ⟨by rfl, ?_⟩) hHeld ?_
      rotate_left 1
      · (intro W hW; (try dsimp only at hW); go_simp; try with_reducible rfl)
      try simp only [Act.put, List.setIfInBounds_toArray, List.set_cons_zero, List.set_cons_succ]
      refine wpAnyH_take (i := 9) (oi := { dst := some 27, op := Op.fieldAddr 64 (Operand.tmp 26) 0, type := 0, pos := _, after := _, guard := none }) (v := ?_) rfl (by kernel_rfl) (by kernel_rfl) (by kernel_rfl) (fun _ _ _ h => h) (Or.inl ⟨by rfl, ?_⟩) hHeld ?_
      rotate_left 1
      · (intro W hW; (try dsimp only at hW); go_simp; try with_reducible rfl)
      try simp only [Act.put, List.setIfInBounds_toArray, List.set_cons_zero, List.set_cons_succ]
      refine wpAnyH_ready (rs := [10]) (by kernel_rfl) (by simp) ?_
      refine AllReadyH.cons (o := { dst := none, op := Op.store 56 (Operand.tmp 27) (Operand.tmp 25), type := 0, pos := _, after := _, guard := none }) rfl (fun K hK => ?_) AllReadyH.nil
      go_simp
      refine hK.out _ _ trivial (fun hHeld => ?_)
      clear hK K
      try simp only [Act.put, List.setIfInBounds_toArray, List.set_cons_zero, List.set_cons_succ]
      refine wpAnyH_done (by kernel_rfl) ?_ _
      refine NoPanic.normal ?_
      clear HST HKE HZ3 HOW HH3 HV1 HV3
      go_wp2_with fail
      go_roundw
      case rel => exact ⟨k + 1, _, _, _, by omega, by go_num, HST2.out⟩
      case measure => simp [intOf]; omega
    case neg =>
      obtain rfl : k = n := by omega
      have hkI : ¬ ((k : Int) < (k : Int)) := by omega
      have HD := Lib.hid (hst.done h1 h2)
      clear hst HS0
      go_wp2_with fail
      go_ret
      exact ⟨rfl, HD.out⟩
end Go.Proofs.Ytkmbgbbmhpidkaa
