/-
  The document's disk: Write.
-/
import Derived.Test.YtkmbgbbmhpidkaaRf4
namespace Go.Proofs.Ytkmbgbbmhpidkaa
open Go.RowKit
set_option linter.unusedVariables false
set_option linter.unusedSimpArgs false
attribute [local go_sem ↓] Go.wp_at_zero Go.wp_at_succ

theorem info_write : (Try.prog.info? 42).map (fun i => (i.zero, i.size, i.bytes)) = some (some (.agg #[.int .i64 0, .slice none 0 0]), 2, 32) := by kernel_rfl
/-- An append of one element at a step of a region that draws its order. -/
theorem step_pushV {P : Program} (w : World) {ops : Array Oper} {o : Oper} {a : Act} {K : Act → World → Prop} {Q : Exit → Act → World → Prop} {E : Prop} (hgd : o.guard = none) (s x : Operand) (t : TypeId)
    (ho : o.op = .call { callee := .builtin .append, args := #[s, x], argTypes := #[t, t] }) (e : TypeId) (z : Value) (sz by_ : Nat) (ht : P.underlying t = some (.slice e)) (hi : (P.info? e).map (fun i => (i.zero, i.size, i.bytes)) = some (some z, sz, by_)) (hz : z.cells.size = sz) (hsz0 : 0 < sz) (hby : by_ ≤ 100)
    {A : Option Addr} {n c : Nat} {vs : List Value} (hs : a.eval s = .slice A n c) (hw : OwnV e sz w A c n vs)
    {g c2 : Nat} {cs : List Value} (hx : a.eval x = .slice (some ⟨g, 0, none⟩) 1 c2) (hl : cs.length = sz) (h1 : ∀ u ∈ cs, u.oneCell' = true) (hg : Holds w g e cs.toArray) (hn : n ≤ 100000)
    (hK : ∀ g' c' w', OwnV e sz w' (some ⟨g', 0, none⟩) c' (n + 1) (vs ++ cs) → w.grownBy w' (blockOf A) → (blockOf A = some g' ∨ g' = w.heap.size) → g' < w'.heap.size → K (a.put o.dst (.slice (some ⟨g', 0, none⟩) (n + 1) c')) w') :
    if Region.wanted o (yielded ops a.tmps) = true then Oper.wp P o a w K Q else E := by
  obtain ⟨i, hi', hz', hsize, hbytes⟩ := info_parts hi
  refine step_append_lies w hgd s x t ho 0 e i z sz by_ ht hi' hz' hsize hbytes hz hsz0 (.slice A n c) n vs hs hw ⟨g, 0, none⟩ 1 c2 cs hx (by omega)
    (fun j u hu => World.news_of_block (cs := cs.toArray) hg j u (by simpa using hu)) h1 (by omega) (by unfold maxLen; omega) (Nat.le_trans (Nat.mul_le_mul (show n + 1 ≤ 100001 by omega) hby) (by omega)) (Nat.zero_le _) w.heap.size rfl ?_
  intro g' cap w' hown' hgr hat hlt
  rw [ownBlock_eq] at hgr hat
  exact hK g' cap w' hown' hgr hat hlt

set_option maxRecDepth 100000 in
set_option maxHeartbeats 2000000 in
/-- The write itself. -/
theorem rwrite_ok (w0 : World) (gx gS cS : Nat) (A : Option Addr) (cw : Nat) (K : Option Addr) (ck : Nat) (at_ : Int) (kl : List Bool) (rs : List Rw) (ws : List (Nat × Rw)) (s : Dk) (h0 : RfAt w0 gx gS cS A cw K ck at_ kl rs ws s) (hdn : s.down = false) (hdue : s.due = false) (i : Nat) (hi : i < rs.length) (A2 : Option Addr) (c2' : Nat) (x : List Nat) (hx : x.length = 64) (hr : Rd .u8 w0 w0.heap.size A2 c2' x)
    (hwl : ws.length ≤ 100000) (hops : s.ops ≤ 1000000000) (hA2 : ∀ g, blockOf A2 = some g → g ≠ gx) :
    Calls Try.prog 22 #[.pointer (some ⟨gx, 0, none⟩), .int .i64 i, .slice A2 64 c2'] w0 fun e w' => e = .returned (.int .i64 0) ∧
      (∃ A' cw' ws', RfAt w' gx gS cS A' cw' K ck at_ kl rs ws' { s with waits := s.waits ++ [(i, x)], ops := s.ops + 1 } ∧ ∀ g, RfBlk gx gS A' K rs ws' g → RfBlk gx gS A K rs ws g ∨ w0.heap.size ≤ g) ∧ Only (fun g => g = gx ∨ blockOf A = some g) w0 w' := by
  have c0 : w0.cell? ⟨gx, 0, none⟩ = some (.slice (some ⟨gS, 0, none⟩) rs.length cS) := h0.cell 0
  have c6 : w0.cell? ⟨gx, 6, none⟩ = some (.bool s.down) := h0.cell 6
  rw [hdn] at c6
  have d0 : decide ((i : Int) < 0) = false := decide_eq_false (by omega)
  have d1 : decide ((rs.length : Int) ≤ (i : Int)) = false := decide_eq_false (by omega)
  have d1n : decide (rs.length ≤ i) = false := decide_eq_false (by omega)
  have HC := Lib.hid (rcrash_no w0 gx gS cS A cw K ck at_ kl rs ws s h0 hdue hops)
  have HRD := Lib.hid hr
  have HX := Lib.hid hx
  have HI := Lib.hid hi
  have HA2 := Lib.hid hA2
  clear h0 hr hdn hdue hx hops hi hA2
  go_enter Try.func22, Try.ntmps22
  go_wp2_with fail
  refine HC.out.mono ?_
  rintro e w ⟨rfl, h1, ho1⟩
  have hrw := HRD.out.keepB ho1.size fun g hg hlt => ho1.block g hlt (HA2.out g hg)
  have hV1b : Below w.heap.size w (w.alloc (.cells #[] 5)).drew := ((Below.refl _ w).alloc (Nat.le_refl _) _).drew
  have hrV := (hrw.under hV1b).more hV1b.size
  obtain ⟨V1, hV1⟩ : ∃ V1, (w.alloc (.cells #[] 5)).drew = V1 := ⟨_, rfl⟩
  have hV1s : V1.heap.size = w.heap.size + 1 := by rw [← hV1]; simp
  obtain ⟨g', c2, w2, hrun, hgr, hrd, hat, hlt⟩ := run_sector (w.alloc (.cells #[] 5)).drew 64 hrV HX.out (by omega) (by omega) w.heap.size (heap_alloc_new w _) 40
  rw [hV1] at hV1b hrun hgr hat
  have hb2 : Below w.heap.size w w2 := hV1b.trans (one_below hgr (Nat.le_refl _) hV1b.size)
  have hg' : w.heap.size ≤ g' := by omega
  have hws : wslot (i, ⟨some ⟨g', 0, none⟩, c2, x⟩) = [.int .i64 (i : Int), .slice (some ⟨g', 0, none⟩) 64 c2] := by simp [wslot, rslot, HX.out]
  obtain ⟨V3, hV3⟩ : ∃ V3, w2.alloc (.cells #[.int .i64 (i : Int), .slice (some ⟨g', 0, none⟩) 64 c2] 42) = V3 := ⟨_, rfl⟩
  have hb23 : Below w2.heap.size w2 V3 := by rw [← hV3]; exact (Below.refl _ w2).alloc (Nat.le_refl _) _
  have hb3 : Below w.heap.size w V3 := hb2.trans (hb23.mono hb2.size)
  have hR3 := h1.under hb3
  have hgood : Good V3 gx gS A ⟨some ⟨g', 0, none⟩, c2, x⟩ := ⟨(hrd.under hb23).more hb23.size, HX.out, fun g hg => by
    obtain rfl : g' = g := by simpa [blockOf] using hg
    refine ⟨fun e => ?_, fun e => ?_, fun e => ?_⟩
    · have := h1.lt (g := g') (.inl e); omega
    · have := h1.lt (g := g') (.inr (.inl e)); omega
    · have := h1.lt (g := g') (.inr (.inr (.inl e))); omega⟩
  have hh3 : Holds V3 w2.heap.size 42 (wslot (i, ⟨some ⟨g', 0, none⟩, c2, x⟩)).toArray := by rw [hws, ← hV3]; exact Holds.fresh _ _ _
  have c1 : w.cell? ⟨gx, 1, none⟩ = some (.slice A ws.length cw) := h1.cell 1
  have c1a : V1.cell? ⟨gx, 1, none⟩ = some (.slice A ws.length cw) := (h1.under hV1b).cell 1
  have c1b : w2.cell? ⟨gx, 1, none⟩ = some (.slice A ws.length cw) := (h1.under hb2).cell 1
  have c1c : V3.cell? ⟨gx, 1, none⟩ = some (.slice A ws.length cw) := hR3.cell 1
  have HOV3 : Hid (Only (fun g => g = gx ∨ blockOf A = some g) w0 V3) := Lib.hid ((ho1.more (F := fun g => g = gx ∨ blockOf A = some g) fun g _ e => .inl e).trans (Only.of_below (F := fun _ => False) hb3) fun k _ e => e.elim)
  have HS3 : Hid (w0.heap.size ≤ V3.heap.size) := Lib.hid (Nat.le_trans ho1.size hb3.size)
  have HG' : Hid (w0.heap.size ≤ g') := Lib.hid (Nat.le_trans ho1.size hg')
  have HR3 := Lib.hid hR3
  have HGD := Lib.hid hgood
  have HH3 := Lib.hid hh3
  have HV1 := Lib.hid hV1
  have HV3 := Lib.hid hV3
  have HRUN := Lib.hid hrun
  have HWL : Hid ((wslot (i, ⟨some ⟨g', 0, none⟩, c2, x⟩)).length = 2) := Lib.hid rfl
  have HW1 : Hid (∀ u ∈ wslot (i, ⟨some ⟨g', 0, none⟩, c2, x⟩), u.oneCell' = true) := Lib.hid (by rw [hws]; intro u hu; simp at hu; rcases hu with rfl | rfl <;> rfl)
  have HP : Hid (i < rs.length) := HI
  have HWN := Lib.hid hwl
  clear h1 ho1 hrw hV1b hrV hV1s hgr hrd hat hlt hb2 hg' hws hb23 hb3 hR3 hgood hh3 hV1 hV3 hrun HC HRD c0 c6
  go_wp2_with fail
  refine wp_region_noPanic ?_
  refine wp_region_held_drew (S := fun _ => True) (by kernel_rfl) trivial (fun hHeld => ?_)
  refine wpAnyH_take (i := 0) (oi := { dst := some 32, op := Op.move (Operand.tmp 0), type := 25, pos := _, after := _, guard := none }) (v := ?_) rfl (by kernel_rfl) (by kernel_rfl) (by kernel_rfl) (fun _ _ _ h => h) (Or.inl ⟨by rfl, ?_⟩) hHeld ?_
  rotate_left 1
  · (intro W hW; (try dsimp only at hW); go_simp; try with_reducible rfl)
  try simp only [Act.put, List.setIfInBounds_toArray, List.set_cons_zero, List.set_cons_succ]
  refine wpAnyH_take (i := 1) (oi := { dst := some 33, op := Op.move (Operand.tmp 0), type := 25, pos := _, after := _, guard := none }) (v := ?_) rfl (by kernel_rfl) (by kernel_rfl) (by kernel_rfl) (fun _ _ _ h => h) (Or.inl ⟨by rfl, ?_⟩) hHeld ?_
  rotate_left 1
  · (intro W hW; (try dsimp only at hW); go_simp; try with_reducible rfl)
  try simp only [Act.put, List.setIfInBounds_toArray, List.set_cons_zero, List.set_cons_succ]
  refine wpAnyH_take (i := 2) (oi := { dst := some 34, op := Op.nilCheck (Operand.tmp 33), type := 0, pos := _, after := _, guard := none }) (v := ?_) rfl (by kernel_rfl) (by kernel_rfl) (by kernel_rfl) (fun _ _ _ h => h) (Or.inl ⟨by rfl, ?_⟩) hHeld ?_
  rotate_left 1
  · (intro W hW; (try dsimp only at hW); go_simp; try with_reducible rfl)
  try simp only [Act.put, List.setIfInBounds_toArray, List.set_cons_zero, List.set_cons_succ]
  refine wpAnyH_take (i := 3) (oi := { dst := some 35, op := Op.fieldAddr 64 (Operand.tmp 34) 1, type := 0, pos := _, after := _, guard := none }) (v := ?_) rfl (by kernel_rfl) (by kernel_rfl) (by kernel_rfl) (fun _ _ _ h => h) (Or.inl ⟨by rfl, ?_⟩) hHeld ?_
  rotate_left 1
  · (intro W hW; (try dsimp only at hW); go_simp; try with_reducible rfl)
  try simp only [Act.put, List.setIfInBounds_toArray, List.set_cons_zero, List.set_cons_succ]
  refine wpAnyH_take (i := 5) (oi := { dst := some 37, op := Op.move (Operand.tmp 1), type := 3, pos := _, after := _, guard := none }) (v := ?_) rfl (by kernel_rfl) (by kernel_rfl) (by kernel_rfl) (fun _ _ _ h => h) (Or.inl ⟨by rfl, ?_⟩) hHeld ?_
  rotate_left 1
  · (intro W hW; (try dsimp only at hW); go_simp; try with_reducible rfl)
  try simp only [Act.put, List.setIfInBounds_toArray, List.set_cons_zero, List.set_cons_succ]
  refine wpAnyH_take (i := 7) (oi := { dst := some 39, op := Op.move (Operand.tmp 2), type := 40, pos := _, after := _, guard := none }) (v := ?_) rfl (by kernel_rfl) (by kernel_rfl) (by kernel_rfl) (fun _ _ _ h => h) (Or.inl ⟨by rfl, ?_⟩) hHeld ?_
  rotate_left 1
  · (intro W hW; (try dsimp only at hW); go_simp; try with_reducible rfl)
  try simp only [Act.put, List.setIfInBounds_toArray, List.set_cons_zero, List.set_cons_succ]
  refine wpAnyH_ready (rs := [4, 6]) (by kernel_rfl) (by simp) ?_
  refine AllReadyH.cons (o := { dst := some 36, op := Op.load 27 (Operand.tmp 35), type := 27, pos := _, after := _, guard := none }) rfl (fun K hK => ?_) ?_
  · go_simp
    refine hK.out _ _ trivial (fun hHeld => ?_)
    clear hK K
    try simp only [Act.put, List.setIfInBounds_toArray, List.set_cons_zero, List.set_cons_succ]
    refine wpAnyH_ready (rs := [6]) (by kernel_rfl) (by simp) ?_
    refine AllReadyH.cons (o := { dst := some 38, op := Op.buildSlice 40 0 #[], type := 40, pos := _, after := _, guard := none }) rfl (fun K hK => ?_) AllReadyH.nil
    go_simp
    rw [HV1.out]
    refine hK.out _ _ trivial (fun hHeld => ?_)
    clear hK K
    try simp only [Act.put, List.setIfInBounds_toArray, List.set_cons_zero, List.set_cons_succ]
    refine wpAnyH_ready (rs := [8]) (by kernel_rfl) (by simp) ?_
    refine AllReadyH.cons (o := { dst := some 40, op := Op.call { callee := Callee.builtin Builtin.append, args := #[Operand.tmp 38, Operand.tmp 39], argTypes := #[40, 40] }, type := 40, pos := _, after := _, guard := none }) rfl (fun K hK => ?_) AllReadyH.nil
    refine step_append_run rfl (.tmp 38) (.tmp 39) 40 rfl rfl _ _ rfl rfl _ _ HRUN.out ?_
    refine hK.out _ _ trivial (fun hHeld => ?_)
    clear hK K
    try simp only [Act.put, List.setIfInBounds_toArray, List.set_cons_zero, List.set_cons_succ]
    refine wpAnyH_take (i := 9) (oi := { dst := some 41, op := Op.build 42 #[(0, Operand.tmp 37), (1, Operand.tmp 40)], type := 42, pos := _, after := _, guard := none }) (v := ?_) rfl (by kernel_rfl) (by kernel_rfl) (by kernel_rfl) (fun _ _ _ h => h) (Or.inl ⟨by rfl, ?_⟩) hHeld ?_
    rotate_left 1
    · (intro W hW; (try dsimp only at hW); go_simp; try with_reducible rfl)
    try simp only [Act.put, List.setIfInBounds_toArray, List.set_cons_zero, List.set_cons_succ]
    refine wpAnyH_ready (rs := [10]) (by kernel_rfl) (by simp) ?_
    refine AllReadyH.cons (o := { dst := some 42, op := Op.buildSlice 27 1 #[(0, Operand.tmp 41)], type := 27, pos := _, after := _, guard := none }) rfl (fun K hK => ?_) AllReadyH.nil
    go_simp
    rw [HV3.out]
    refine hK.out _ _ trivial (fun hHeld => ?_)
    clear hK K
    try simp only [Act.put, List.setIfInBounds_toArray, List.set_cons_zero, List.set_cons_succ]
    refine wpAnyH_ready (rs := [11]) (by kernel_rfl) (by simp) ?_
    refine AllReadyH.cons (o := { dst := some 43, op := Op.call { callee := Callee.builtin Builtin.append, args := #[Operand.tmp 36, Operand.tmp 42], argTypes := #[27, 27] }, type := 27, pos := _, after := _, guard := none }) rfl (fun K hK => ?_) AllReadyH.nil
    refine step_pushV _ rfl (.tmp 36) (.tmp 42) 27 rfl 42 (.agg #[.int .i64 0, .slice none 0 0]) 2 32 Try.underlying27 info_write rfl (by omega) (by omega) rfl HR3.out.hW rfl HWL.out HW1.out HH3.out HWN.out ?_
    intro g5 c5 W3 hw3 hgr3 hat3 hlt3
    obtain ⟨hh4, hr4⟩ := HR3.out.pushed (p := (i, ⟨some ⟨g', 0, none⟩, c2, x⟩)) HP.out HGD.out hw3 hgr3 hat3
    have q4 : W3.cell? ⟨gx, 1, none⟩ = some (.slice A ws.length cw) := hh4.cell 1
    have f4 : W3.frozen? ⟨gx, 1, none⟩ = false := hh4.open_ 1
    have HFI := Lib.hid hr4
    have HHA : Hid (blockOf A = some g5 ∨ w0.heap.size ≤ g5) := Lib.hid (hat3.elim .inl fun e => .inr (by have := HS3.out; omega))
    have HO5 : Hid (Only (fun g => g = gx ∨ blockOf A = some g) w0 (W3.setCell ⟨gx, 1, none⟩ (.slice (some ⟨g5, 0, none⟩) (ws.length + 1) c5))) := Lib.hid ((HOV3.out.grown hgr3 (fun g e => .inl (.inr e))).setCell (p := ⟨gx, 1, none⟩) (.inl (.inl rfl)) _)
    clear hw3 hgr3 hat3 hlt3 hh4 hr4
    refine hK.out _ _ trivial (fun hHeld => ?_)
    clear hK K
    try simp only [Act.put, List.setIfInBounds_toArray, List.set_cons_zero, List.set_cons_succ]
    refine wpAnyH_take (i := 12) (oi := { dst := some 44, op := Op.nilCheck (Operand.tmp 32), type := 0, pos := _, after := _, guard := none }) (v := ?_) rfl (by kernel_rfl) (by kernel_rfl) (by kernel_rfl) (fun _ _ _ h => h) (Or.inl ⟨by rfl, ?_⟩) hHeld ?_
    rotate_left 1
    · (intro W hW; (try dsimp only at hW); go_simp; try with_reducible rfl)
    try simp only [Act.put, List.setIfInBounds_toArray, List.set_cons_zero, List.set_cons_succ]
    refine wpAnyH_take (i := 13) (oi := { dst := some 45, op := Op.fieldAddr 64 (Operand.tmp 44) 1, type := 0, pos := _, after := _, guard := none }) (v := ?_) rfl (by kernel_rfl) (by kernel_rfl) (by kernel_rfl) (fun _ _ _ h => h) (Or.inl ⟨by rfl, ?_⟩) hHeld ?_
    rotate_left 1
    · (intro W hW; (try dsimp only at hW); go_simp; try with_reducible rfl)
    try simp only [Act.put, List.setIfInBounds_toArray, List.set_cons_zero, List.set_cons_succ]
    refine wpAnyH_ready (rs := [14]) (by kernel_rfl) (by simp) ?_
    refine AllReadyH.cons (o := { dst := none, op := Op.store 27 (Operand.tmp 45) (Operand.tmp 43), type := 0, pos := _, after := _, guard := none }) rfl (fun K hK => ?_) AllReadyH.nil
    go_simp
    refine hK.out _ _ trivial (fun hHeld => ?_)
    clear hK K
    try simp only [Act.put, List.setIfInBounds_toArray, List.set_cons_zero, List.set_cons_succ]
    refine wpAnyH_done (by kernel_rfl) ?_ _
    refine NoPanic.normal ?_
    clear HR3 HH3 HV1 HV3 HRUN
    go_wp2_with fail
    go_ret
    exact ⟨rfl, ⟨_, _, _, HFI.out, fun g hg => by
      rcases hg with rfl | rfl | hg | hg | ⟨r, hr, hg⟩ | ⟨p, hp, hg⟩
      · exact .inl (.inl rfl)
      · exact .inl (.inr (.inl rfl))
      · obtain rfl : g5 = g := by simpa [blockOf] using hg
        exact HHA.out.elim (fun e => .inl (.inr (.inr (.inl e)))) .inr
      · exact .inl (.inr (.inr (.inr (.inl hg))))
      · exact .inl (.inr (.inr (.inr (.inr (.inl ⟨r, hr, hg⟩)))))
      · rcases List.mem_append.1 hp with h1 | h1
        · exact .inl (.inr (.inr (.inr (.inr (.inr ⟨p, h1, hg⟩)))))
        · obtain rfl := List.mem_singleton.1 h1
          obtain rfl : g' = g := by simpa [blockOf] using hg
          exact .inr HG'.out⟩, HO5.out⟩
  refine AllReadyH.cons (o := { dst := some 38, op := Op.buildSlice 40 0 #[], type := 40, pos := _, after := _, guard := none }) rfl (fun K hK => ?_) AllReadyH.nil
  go_simp
  rw [HV1.out]
  refine hK.out _ _ trivial (fun hHeld => ?_)
  clear hK K
  try simp only [Act.put, List.setIfInBounds_toArray, List.set_cons_zero, List.set_cons_succ]
  refine wpAnyH_ready (rs := [4, 8]) (by kernel_rfl) (by simp) ?_
  refine AllReadyH.cons (o := { dst := some 36, op := Op.load 27 (Operand.tmp 35), type := 27, pos := _, after := _, guard := none }) rfl (fun K hK => ?_) ?_
  · go_simp
    refine hK.out _ _ trivial (fun hHeld => ?_)
    clear hK K
    try simp only [Act.put, List.setIfInBounds_toArray, List.set_cons_zero, List.set_cons_succ]
    refine wpAnyH_ready (rs := [8]) (by kernel_rfl) (by simp) ?_
    refine AllReadyH.cons (o := { dst := some 40, op := Op.call { callee := Callee.builtin Builtin.append, args := #[Operand.tmp 38, Operand.tmp 39], argTypes := #[40, 40] }, type := 40, pos := _, after := _, guard := none }) rfl (fun K hK => ?_) AllReadyH.nil
    refine step_append_run rfl (.tmp 38) (.tmp 39) 40 rfl rfl _ _ rfl rfl _ _ HRUN.out ?_
    refine hK.out _ _ trivial (fun hHeld => ?_)
    clear hK K
    try simp only [Act.put, List.setIfInBounds_toArray, List.set_cons_zero, List.set_cons_succ]
    refine wpAnyH_take (i := 9) (oi := { dst := some 41, op := Op.build 42 #[(0, Operand.tmp 37), (1, Operand.tmp 40)], type := 42, pos := _, after := _, guard := none }) (v := ?_) rfl (by kernel_rfl) (by kernel_rfl) (by kernel_rfl) (fun _ _ _ h => h) (Or.inl ⟨by rfl, ?_⟩) hHeld ?_
    rotate_left 1
    · (intro W hW; (try dsimp only at hW); go_simp; try with_reducible rfl)
    try simp only [Act.put, List.setIfInBounds_toArray, List.set_cons_zero, List.set_cons_succ]
    refine wpAnyH_ready (rs := [10]) (by kernel_rfl) (by simp) ?_
    refine AllReadyH.cons (o := { dst := some 42, op := Op.buildSlice 27 1 #[(0, Operand.tmp 41)], type := 27, pos := _, after := _, guard := none }) rfl (fun K hK => ?_) AllReadyH.nil
    go_simp
    rw [HV3.out]
    refine hK.out _ _ trivial (fun hHeld => ?_)
    clear hK K
    try simp only [Act.put, List.setIfInBounds_toArray, List.set_cons_zero, List.set_cons_succ]
    refine wpAnyH_ready (rs := [11]) (by kernel_rfl) (by simp) ?_
    refine AllReadyH.cons (o := { dst := some 43, op := Op.call { callee := Callee.builtin Builtin.append, args := #[Operand.tmp 36, Operand.tmp 42], argTypes := #[27, 27] }, type := 27, pos := _, after := _, guard := none }) rfl (fun K hK => ?_) AllReadyH.nil
    refine step_pushV _ rfl (.tmp 36) (.tmp 42) 27 rfl 42 (.agg #[.int .i64 0, .slice none 0 0]) 2 32 Try.underlying27 info_write rfl (by omega) (by omega) rfl HR3.out.hW rfl HWL.out HW1.out HH3.out HWN.out ?_
    intro g5 c5 W3 hw3 hgr3 hat3 hlt3
    obtain ⟨hh4, hr4⟩ := HR3.out.pushed (p := (i, ⟨some ⟨g', 0, none⟩, c2, x⟩)) HP.out HGD.out hw3 hgr3 hat3
    have q4 : W3.cell? ⟨gx, 1, none⟩ = some (.slice A ws.length cw) := hh4.cell 1
    have f4 : W3.frozen? ⟨gx, 1, none⟩ = false := hh4.open_ 1
    have HFI := Lib.hid hr4
    have HHA : Hid (blockOf A = some g5 ∨ w0.heap.size ≤ g5) := Lib.hid (hat3.elim .inl fun e => .inr (by have := HS3.out; omega))
    have HO5 : Hid (Only (fun g => g = gx ∨ blockOf A = some g) w0 (W3.setCell ⟨gx, 1, none⟩ (.slice (some ⟨g5, 0, none⟩) (ws.length + 1) c5))) := Lib.hid ((HOV3.out.grown hgr3 (fun g e => .inl (.inr e))).setCell (p := ⟨gx, 1, none⟩) (.inl (.inl rfl)) _)
    clear hw3 hgr3 hat3 hlt3 hh4 hr4
    refine hK.out _ _ trivial (fun hHeld => ?_)
    clear hK K
    try simp only [Act.put, List.setIfInBounds_toArray, List.set_cons_zero, List.set_cons_succ]
    refine wpAnyH_take (i := 12) (oi := { dst := some 44, op := Op.nilCheck (Operand.tmp 32), type := 0, pos := _, after := _, guard := none }) (v := ?_) rfl (by kernel_rfl) (by kernel_rfl) (by kernel_rfl) (fun _ _ _ h => h) (Or.inl ⟨by rfl, ?_⟩) hHeld ?_
    rotate_left 1
    · (intro W hW; (try dsimp only at hW); go_simp; try with_reducible rfl)
    try simp only [Act.put, List.setIfInBounds_toArray, List.set_cons_zero, List.set_cons_succ]
    refine wpAnyH_take (i := 13) (oi := { dst := some 45, op := Op.fieldAddr 64 (Operand.tmp 44) 1, type := 0, pos := _, after := _, guard := none }) (v := ?_) rfl (by kernel_rfl) (by kernel_rfl) (by kernel_rfl) (fun _ _ _ h => h) (Or.inl ⟨by rfl, ?_⟩) hHeld ?_
    rotate_left 1
    · (intro W hW; (try dsimp only at hW); go_simp; try with_reducible rfl)
    try simp only [Act.put, List.setIfInBounds_toArray, List.set_cons_zero, List.set_cons_succ]
    refine wpAnyH_ready (rs := [14]) (by kernel_rfl) (by simp) ?_
    refine AllReadyH.cons (o := { dst := none, op := Op.store 27 (Operand.tmp 45) (Operand.tmp 43), type := 0, pos := _, after := _, guard := none }) rfl (fun K hK => ?_) AllReadyH.nil
    go_simp
    refine hK.out _ _ trivial (fun hHeld => ?_)
    clear hK K
    try simp only [Act.put, List.setIfInBounds_toArray, List.set_cons_zero, List.set_cons_succ]
    refine wpAnyH_done (by kernel_rfl) ?_ _
    refine NoPanic.normal ?_
    clear HR3 HH3 HV1 HV3 HRUN
    go_wp2_with fail
    go_ret
    exact ⟨rfl, ⟨_, _, _, HFI.out, fun g hg => by
      rcases hg with rfl | rfl | hg | hg | ⟨r, hr, hg⟩ | ⟨p, hp, hg⟩
      · exact .inl (.inl rfl)
      · exact .inl (.inr (.inl rfl))
      · obtain rfl : g5 = g := by simpa [blockOf] using hg
        exact HHA.out.elim (fun e => .inl (.inr (.inr (.inl e)))) .inr
      · exact .inl (.inr (.inr (.inr (.inl hg))))
      · exact .inl (.inr (.inr (.inr (.inr (.inl ⟨r, hr, hg⟩)))))
      · rcases List.mem_append.1 hp with h1 | h1
        · exact .inl (.inr (.inr (.inr (.inr (.inr ⟨p, h1, hg⟩)))))
        · obtain rfl := List.mem_singleton.1 h1
          obtain rfl : g' = g := by simpa [blockOf] using hg
          exact .inr HG'.out⟩, HO5.out⟩
  refine AllReadyH.cons (o := { dst := some 40, op := Op.call { callee := Callee.builtin Builtin.append, args := #[Operand.tmp 38, Operand.tmp 39], argTypes := #[40, 40] }, type := 40, pos := _, after := _, guard := none }) rfl (fun K hK => ?_) AllReadyH.nil
  refine step_append_run rfl (.tmp 38) (.tmp 39) 40 rfl rfl _ _ rfl rfl _ _ HRUN.out ?_
  refine hK.out _ _ trivial (fun hHeld => ?_)
  clear hK K
  try simp only [Act.put, List.setIfInBounds_toArray, List.set_cons_zero, List.set_cons_succ]
  refine wpAnyH_take (i := 9) (oi := { dst := some 41, op := Op.build 42 #[(0, Operand.tmp 37), (1, Operand.tmp 40)], type := 42, pos := _, after := _, guard := none }) (v := ?_) rfl (by kernel_rfl) (by kernel_rfl) (by kernel_rfl) (fun _ _ _ h => h) (Or.inl ⟨by rfl, ?_⟩) hHeld ?_
  rotate_left 1
  · (intro W hW; (try dsimp only at hW); go_simp; try with_reducible rfl)
  try simp only [Act.put, List.setIfInBounds_toArray, List.set_cons_zero, List.set_cons_succ]
  refine wpAnyH_ready (rs := [4, 10]) (by kernel_rfl) (by simp) ?_
  refine AllReadyH.cons (o := { dst := some 36, op := Op.load 27 (Operand.tmp 35), type := 27, pos := _, after := _, guard := none }) rfl (fun K hK => ?_) ?_
  · go_simp
    refine hK.out _ _ trivial (fun hHeld => ?_)
    clear hK K
    try simp only [Act.put, List.setIfInBounds_toArray, List.set_cons_zero, List.set_cons_succ]
    refine wpAnyH_ready (rs := [10]) (by kernel_rfl) (by simp) ?_
    refine AllReadyH.cons (o := { dst := some 42, op := Op.buildSlice 27 1 #[(0, Operand.tmp 41)], type := 27, pos := _, after := _, guard := none }) rfl (fun K hK => ?_) AllReadyH.nil
    go_simp
    rw [HV3.out]
    refine hK.out _ _ trivial (fun hHeld => ?_)
    clear hK K
    try simp only [Act.put, List.setIfInBounds_toArray, List.set_cons_zero, List.set_cons_succ]
    refine wpAnyH_ready (rs := [11]) (by kernel_rfl) (by simp) ?_
    refine AllReadyH.cons (o := { dst := some 43, op := Op.call { callee := Callee.builtin Builtin.append, args := #[Operand.tmp 36, Operand.tmp 42], argTypes := #[27, 27] }, type := 27, pos := _, after := _, guard := none }) rfl (fun K hK => ?_) AllReadyH.nil
    refine step_pushV _ rfl (.tmp 36) (.tmp 42) 27 rfl 42 (.agg #[.int .i64 0, .slice none 0 0]) 2 32 Try.underlying27 info_write rfl (by omega) (by omega) rfl HR3.out.hW rfl HWL.out HW1.out HH3.out HWN.out ?_
    intro g5 c5 W3 hw3 hgr3 hat3 hlt3
    obtain ⟨hh4, hr4⟩ := HR3.out.pushed (p := (i, ⟨some ⟨g', 0, none⟩, c2, x⟩)) HP.out HGD.out hw3 hgr3 hat3
    have q4 : W3.cell? ⟨gx, 1, none⟩ = some (.slice A ws.length cw) := hh4.cell 1
    have f4 : W3.frozen? ⟨gx, 1, none⟩ = false := hh4.open_ 1
    have HFI := Lib.hid hr4
    have HHA : Hid (blockOf A = some g5 ∨ w0.heap.size ≤ g5) := Lib.hid (hat3.elim .inl fun e => .inr (by have := HS3.out; omega))
    have HO5 : Hid (Only (fun g => g = gx ∨ blockOf A = some g) w0 (W3.setCell ⟨gx, 1, none⟩ (.slice (some ⟨g5, 0, none⟩) (ws.length + 1) c5))) := Lib.hid ((HOV3.out.grown hgr3 (fun g e => .inl (.inr e))).setCell (p := ⟨gx, 1, none⟩) (.inl (.inl rfl)) _)
    clear hw3 hgr3 hat3 hlt3 hh4 hr4
    refine hK.out _ _ trivial (fun hHeld => ?_)
    clear hK K
    try simp only [Act.put, List.setIfInBounds_toArray, List.set_cons_zero, List.set_cons_succ]
    refine wpAnyH_take (i := 12) (oi := { dst := some 44, op := Op.nilCheck (Operand.tmp 32), type := 0, pos := _, after := _, guard := none }) (v := ?_) rfl (by kernel_rfl) (by kernel_rfl) (by kernel_rfl) (fun _ _ _ h => h) (Or.inl ⟨by rfl, ?_⟩) hHeld ?_
    rotate_left 1
    · (intro W hW; (try dsimp only at hW); go_simp; try with_reducible rfl)
    try simp only [Act.put, List.setIfInBounds_toArray, List.set_cons_zero, List.set_cons_succ]
    refine wpAnyH_take (i := 13) (oi := { dst := some 45, op := Op.fieldAddr 64 (Operand.tmp 44) 1, type := 0, pos := _, after := _, guard := none }) (v := ?_) rfl (by kernel_rfl) (by kernel_rfl) (by kernel_rfl) (fun _ _ _ h => h) (Or.inl ⟨by rfl, ?_⟩) hHeld ?_
    rotate_left 1
    · (intro W hW; (try dsimp only at hW); go_simp; try with_reducible rfl)
    try simp only [Act.put, List.setIfInBounds_toArray, List.set_cons_zero, List.set_cons_succ]
    refine wpAnyH_ready (rs := [14]) (by kernel_rfl) (by simp) ?_
    refine AllReadyH.cons (o := { dst := none, op := Op.store 27 (Operand.tmp 45) (Operand.tmp 43), type := 0, pos := _, after := _, guard := none }) rfl (fun K hK => ?_) AllReadyH.nil
    go_simp
    refine hK.out _ _ trivial (fun hHeld => ?_)
    clear hK K
    try simp only [Act.put, List.setIfInBounds_toArray, List.set_cons_zero, List.set_cons_succ]
    refine wpAnyH_done (by kernel_rfl) ?_ _
    refine NoPanic.normal ?_
    clear HR3 HH3 HV1 HV3 HRUN
    go_wp2_with fail
    go_ret
    exact ⟨rfl, ⟨_, _, _, HFI.out, fun g hg => by
      rcases hg with rfl | rfl | hg | hg | ⟨r, hr, hg⟩ | ⟨p, hp, hg⟩
      · exact .inl (.inl rfl)
      · exact .inl (.inr (.inl rfl))
      · obtain rfl : g5 = g := by simpa [blockOf] using hg
        exact HHA.out.elim (fun e => .inl (.inr (.inr (.inl e)))) .inr
      · exact .inl (.inr (.inr (.inr (.inl hg))))
      · exact .inl (.inr (.inr (.inr (.inr (.inl ⟨r, hr, hg⟩)))))
      · rcases List.mem_append.1 hp with h1 | h1
        · exact .inl (.inr (.inr (.inr (.inr (.inr ⟨p, h1, hg⟩)))))
        · obtain rfl := List.mem_singleton.1 h1
          obtain rfl : g' = g := by simpa [blockOf] using hg
          exact .inr HG'.out⟩, HO5.out⟩
  refine AllReadyH.cons (o := { dst := some 42, op := Op.buildSlice 27 1 #[(0, Operand.tmp 41)], type := 27, pos := _, after := _, guard := none }) rfl (fun K hK => ?_) AllReadyH.nil
  go_simp
  rw [HV3.out]
  refine hK.out _ _ trivial (fun hHeld => ?_)
  clear hK K
  try simp only [Act.put, List.setIfInBounds_toArray, List.set_cons_zero, List.set_cons_succ]
  refine wpAnyH_ready (rs := [4]) (by kernel_rfl) (by simp) ?_
  refine AllReadyH.cons (o := { dst := some 36, op := Op.load 27 (Operand.tmp 35), type := 27, pos := _, after := _, guard := none }) rfl (fun K hK => ?_) AllReadyH.nil
  go_simp
  refine hK.out _ _ trivial (fun hHeld => ?_)
  clear hK K
  try simp only [Act.put, List.setIfInBounds_toArray, List.set_cons_zero, List.set_cons_succ]
  refine wpAnyH_ready (rs := [11]) (by kernel_rfl) (by simp) ?_
  refine AllReadyH.cons (o := { dst := some 43, op := Op.call { callee := Callee.builtin Builtin.append, args := #[Operand.tmp 36, Operand.tmp 42], argTypes := #[27, 27] }, type := 27, pos := _, after := _, guard := none }) rfl (fun K hK => ?_) AllReadyH.nil
  refine step_pushV _ rfl (.tmp 36) (.tmp 42) 27 rfl 42 (.agg #[.int .i64 0, .slice none 0 0]) 2 32 Try.underlying27 info_write rfl (by omega) (by omega) rfl HR3.out.hW rfl HWL.out HW1.out HH3.out HWN.out ?_
  intro g5 c5 W3 hw3 hgr3 hat3 hlt3
  obtain ⟨hh4, hr4⟩ := HR3.out.pushed (p := (i, ⟨some ⟨g', 0, none⟩, c2, x⟩)) HP.out HGD.out hw3 hgr3 hat3
  have q4 : W3.cell? ⟨gx, 1, none⟩ = some (.slice A ws.length cw) := hh4.cell 1
  have f4 : W3.frozen? ⟨gx, 1, none⟩ = false := hh4.open_ 1
  have HFI := Lib.hid hr4
  have HHA : Hid (blockOf A = some g5 ∨ w0.heap.size ≤ g5) := Lib.hid (hat3.elim .inl fun e => .inr (by have := HS3.out; omega))
  have HO5 : Hid (Only (fun g => g = gx ∨ blockOf A = some g) w0 (W3.setCell ⟨gx, 1, none⟩ (.slice (some ⟨g5, 0, none⟩) (ws.length + 1) c5))) := Lib.hid ((HOV3.out.grown hgr3 (fun g e => .inl (.inr e))).setCell (p := ⟨gx, 1, none⟩) (.inl (.inl rfl)) _)
  clear hw3 hgr3 hat3 hlt3 hh4 hr4
  refine hK.out _ _ trivial (fun hHeld => ?_)
  clear hK K
  try simp only [Act.put, List.setIfInBounds_toArray, List.set_cons_zero, List.set_cons_succ]
  refine wpAnyH_take (i := 12) (oi := { dst := some 44, op := Op.nilCheck (Operand.tmp 32), type := 0, pos := _, after := _, guard := none }) (v := ?_) rfl (by kernel_rfl) (by kernel_rfl) (by kernel_rfl) (fun _ _ _ h => h) (Or.inl ⟨by rfl, ?_⟩) hHeld ?_
  rotate_left 1
  · (intro W hW; (try dsimp only at hW); go_simp; try with_reducible rfl)
  try simp only [Act.put, List.setIfInBounds_toArray, List.set_cons_zero, List.set_cons_succ]
  refine wpAnyH_take (i := 13) (oi := { dst := some 45, op := Op.fieldAddr 64 (Operand.tmp 44) 1, type := 0, pos := _, after := _, guard := none }) (v := ?_) rfl (by kernel_rfl) (by kernel_rfl) (by kernel_rfl) (fun _ _ _ h => h) (Or.inl ⟨by rfl, ?_⟩) hHeld ?_
  rotate_left 1
  · (intro W hW; (try dsimp only at hW); go_simp; try with_reducible rfl)
  try simp only [Act.put, List.setIfInBounds_toArray, List.set_cons_zero, List.set_cons_succ]
  refine wpAnyH_ready (rs := [14]) (by kernel_rfl) (by simp) ?_
  refine AllReadyH.cons (o := { dst := none, op := Op.store 27 (Operand.tmp 45) (Operand.tmp 43), type := 0, pos := _, after := _, guard := none }) rfl (fun K hK => ?_) AllReadyH.nil
  go_simp
  refine hK.out _ _ trivial (fun hHeld => ?_)
  clear hK K
  try simp only [Act.put, List.setIfInBounds_toArray, List.set_cons_zero, List.set_cons_succ]
  refine wpAnyH_done (by kernel_rfl) ?_ _
  refine NoPanic.normal ?_
  clear HR3 HH3 HV1 HV3 HRUN
  go_wp2_with fail
  go_ret
  exact ⟨rfl, ⟨_, _, _, HFI.out, fun g hg => by
    rcases hg with rfl | rfl | hg | hg | ⟨r, hr, hg⟩ | ⟨p, hp, hg⟩
    · exact .inl (.inl rfl)
    · exact .inl (.inr (.inl rfl))
    · obtain rfl : g5 = g := by simpa [blockOf] using hg
      exact HHA.out.elim (fun e => .inl (.inr (.inr (.inl e)))) .inr
    · exact .inl (.inr (.inr (.inr (.inl hg))))
    · exact .inl (.inr (.inr (.inr (.inr (.inl ⟨r, hr, hg⟩)))))
    · rcases List.mem_append.1 hp with h1 | h1
      · exact .inl (.inr (.inr (.inr (.inr (.inr ⟨p, h1, hg⟩)))))
      · obtain rfl := List.mem_singleton.1 h1
        obtain rfl : g' = g := by simpa [blockOf] using hg
        exact .inr HG'.out⟩, HO5.out⟩

end Go.Proofs.Ytkmbgbbmhpidkaa
