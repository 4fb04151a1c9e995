/-
  The document's disk: a write lasts, does it crash here?
-/
import Derived.Test.YtkmbgbbmhpidkaaRf2
import Derived.Deep.RegionHeld3
namespace Go.Proofs.Ytkmbgbbmhpidkaa
open Go.RowKit
set_option linter.unusedVariables false
set_option linter.unusedSimpArgs false

attribute [local go_sem ↓] Go.wp_at_zero Go.wp_at_succ

section
variable {w w' : World} {gx gS cS : Nat} {A : Option Addr} {cw : Nat} {K : Option Addr} {ck : Nat} {at_ : Int} {kl : List Bool} {rs : List Rw} {ws : List (Nat × Rw)} {s s' : Dk}
theorem setCell_size (w : World) (p : Addr) (v : Value) : (w.setCell p v).heap.size = w.heap.size := by simp [World.setCell]
/-- Another row in a place. -/
theorem RfAt.setRow (h : RfAt w gx gS cS A cw K ck at_ kl rs ws s) {p : Nat} (hp : p < rs.length) (r : Rw) (hg : Good w gx gS A r) :
    RfAt (w.setCell ⟨gS, p, none⟩ (rslot r)) gx gS cS A cw K ck at_ kl (rs.set p r) ws { s with lasts := s.lasts.set p r.l } := by
  have hs : w.heap.size ≤ (w.setCell ⟨gS, p, none⟩ (rslot r)).heap.size := Nat.le_of_eq (setCell_size _ _ _).symm
  have k : ∀ g, g ≠ gS → (w.setCell ⟨gS, p, none⟩ (rslot r)).heap[g]? = w.heap[g]? := fun g hne => Below.heap_setCell w ⟨gS, p, none⟩ _ g hne
  have hl : (rs.set p r).length = rs.length := List.length_set
  exact {
    hd := by rw [hl]; exact (k gx h.xs).trans h.hd
    hS := by rw [hl, List.map_set]; exact h.hS.store hp _
    hW := h.hW.keep fun g hg' _ => k g fun e => h.ax.2 (by rw [hg', e])
    rd := fun r' hr' => by
      rcases List.mem_or_eq_of_mem_set hr' with h1 | h1
      · exact (h.rd r' h1).keep hs fun g hg' _ => k g ((h.rd r' h1).2.2 g hg').2.1
      · subst h1
        exact hg.keep hs fun g hg' _ => k g (hg.2.2 g hg').2.1
    wd := fun q hq => (h.wd q hq).keep hs fun g hg' _ => k g ((h.wd q hq).2.2 g hg').2.1
    hk := h.hk.keep hs fun g hg' _ => k g (h.kx g hg').2.2.1
    eS := by rw [List.map_set, h.eS]
    eW := h.eW
    ea := h.ea
    xs := h.xs
    ax := h.ax
    kx := fun g hg' => ⟨Nat.lt_of_lt_of_le (h.kx g hg').1 hs, (h.kx g hg').2⟩
    n1 := by rw [hl]; exact h.n1
    n2 := by rw [hl]; exact h.n2
    wat := fun q hq => by rw [hl]; exact h.wat q hq }
/-- One more write waits. -/
theorem RfAt.pushed (h : RfAt w gx gS cS A cw K ck at_ kl rs ws s) {p : Nat × Rw} (hp : p.1 < rs.length) (hg : Good w gx gS A p.2) {g' c' : Nat} {W3 : World}
    (hw : OwnV 42 2 W3 (some ⟨g', 0, none⟩) c' (ws.length + 1) (ws.flatMap wslot ++ wslot p)) (hgr : w.grownBy W3 (blockOf A)) (hat : blockOf A = some g' ∨ g' = w.heap.size) :
    Holds W3 gx 64 (rcells gS rs.length cS A ws.length cw s.ops at_ K kl.length ck s.armed s.down) ∧
    RfAt (W3.setCell ⟨gx, 1, none⟩ (.slice (some ⟨g', 0, none⟩) (ws.length + 1) c')) gx gS cS (some ⟨g', 0, none⟩) c' K ck at_ kl rs (ws ++ [p]) { s with waits := s.waits ++ [(p.1, p.2.l)] } := by
  have hgx : W3.heap[gx]? = w.heap[gx]? := hgr.block gx (Holds.lt h.hd) (fun e => h.ax.1 e.symm)
  have hd3 : Holds W3 gx 64 (rcells gS rs.length cS A ws.length cw s.ops at_ K kl.length ck s.armed s.down) := hgx.trans h.hd
  refine ⟨hd3, ?_⟩
  have hs : w.heap.size ≤ (W3.setCell ⟨gx, 1, none⟩ (.slice (some ⟨g', 0, none⟩) (ws.length + 1) c')).heap.size := by rw [setCell_size]; exact hgr.size
  have k : ∀ g, g ≠ gx → blockOf A ≠ some g → g < w.heap.size → (W3.setCell ⟨gx, 1, none⟩ (.slice (some ⟨g', 0, none⟩) (ws.length + 1) c')).heap[g]? = w.heap[g]? := fun g h1 h2 hlt =>
    (Below.heap_setCell W3 ⟨gx, 1, none⟩ _ g h1).trans (hgr.block g hlt (fun e => h2 e.symm))
  have gne : ∀ g, blockOf A ≠ some g → g < w.heap.size → blockOf (some (⟨g', 0, none⟩ : Addr)) ≠ some g := fun g h1 hlt e => by
    obtain rfl : g' = g := by simpa [blockOf] using e
    rcases hat with h2 | h2
    · exact h1 h2
    · omega
  have good : ∀ r, Good w gx gS A r → Good (W3.setCell ⟨gx, 1, none⟩ (.slice (some ⟨g', 0, none⟩) (ws.length + 1) c')) gx gS (some ⟨g', 0, none⟩) r := fun r hr =>
    ⟨hr.1.keepB hs fun g hg' hlt => k g (hr.2.2 g hg').1 (hr.2.2 g hg').2.2 hlt, hr.2.1, fun g hg' => ⟨(hr.2.2 g hg').1, (hr.2.2 g hg').2.1, gne g (hr.2.2 g hg').2.2 (hr.1.lt (by rw [hr.2.1]; omega) hg')⟩⟩
  exact {
    hd := by rw [List.length_append]; exact Holds.stored hd3 1 _
    hS := h.hS.keep fun g hg' hlt => by
      obtain rfl : gS = g := by simpa [blockOf] using hg'
      exact k gS h.xs.symm h.ax.2 hlt
    hW := by
      rw [List.flatMap_append, List.length_append]
      refine OwnV.keep (w := W3) (by simpa using hw) fun g hg' _ => Below.heap_setCell W3 ⟨gx, 1, none⟩ _ g ?_
      intro e
      exact gne gx h.ax.1 (Holds.lt h.hd) (by rw [hg']; exact congrArg some e)
    rd := fun r hr => good r (h.rd r hr)
    wd := fun q hq => by
      rcases List.mem_append.1 hq with h1 | h1
      · exact good q.2 (h.wd q h1)
      · obtain rfl := List.mem_singleton.1 h1
        exact good _ hg
    hk := h.hk.keep hs fun g hg' hlt => k g (h.kx g hg').2.1 (h.kx g hg').2.2.2 hlt
    eS := h.eS
    eW := by rw [List.map_append, h.eW]; rfl
    ea := h.ea
    xs := h.xs
    ax := ⟨gne gx h.ax.1 (Holds.lt h.hd), gne gS h.ax.2 (h.hS.lt rfl)⟩
    kx := fun g hg' => ⟨Nat.lt_of_lt_of_le (h.kx g hg').1 hs, (h.kx g hg').2.1, (h.kx g hg').2.2.1, gne g (h.kx g hg').2.2.2 (h.kx g hg').1⟩
    n1 := h.n1
    n2 := h.n2
    wat := fun q hq => by
      rcases List.mem_append.1 hq with h1 | h1
      · exact h.wat q h1
      · obtain rfl := List.mem_singleton.1 h1
        exact hp }
/-- Nothing waits any more. -/
theorem RfAt.cleared (h : RfAt w gx gS cS A cw K ck at_ kl rs ws s) :
    RfAt (w.setCell ⟨gx, 1, none⟩ (.slice none 0 0)) gx gS cS none 0 K ck at_ kl rs [] { s with waits := [] } := by
  have hs : w.heap.size ≤ (w.setCell ⟨gx, 1, none⟩ (.slice none 0 0)).heap.size := Nat.le_of_eq (setCell_size _ _ _).symm
  have k : ∀ g, g ≠ gx → (w.setCell ⟨gx, 1, none⟩ (.slice none 0 0)).heap[g]? = w.heap[g]? := fun g hne => Below.heap_setCell w ⟨gx, 1, none⟩ _ g hne
  have hn : ∀ g, blockOf (none : Option Addr) ≠ some g := fun g e => by simp [blockOf] at e
  exact {
    hd := Holds.stored h.hd 1 _
    hS := h.hS.keep fun g hg' _ => by
      obtain rfl : gS = g := by simpa [blockOf] using hg'
      exact k gS h.xs.symm
    hW := OwnV.nil _ _ _
    rd := fun r hr => ⟨(h.rd r hr).1.keepB hs fun g hg' _ => k g ((h.rd r hr).2.2 g hg').1, (h.rd r hr).2.1, fun g hg' => ⟨((h.rd r hr).2.2 g hg').1, ((h.rd r hr).2.2 g hg').2.1, hn g⟩⟩
    wd := fun p hp => by cases hp
    hk := h.hk.keep hs fun g hg' _ => k g (h.kx g hg').2.1
    eS := h.eS
    eW := rfl
    ea := h.ea
    xs := h.xs
    ax := ⟨hn _, hn _⟩
    kx := fun g hg' => ⟨Nat.lt_of_lt_of_le (h.kx g hg').1 hs, (h.kx g hg').2.1, (h.kx g hg').2.2.1, hn g⟩
    n1 := h.n1
    n2 := h.n2
    wat := fun p hp => by cases hp }
end


structure LasS (gx gS n cS bx p : Nat) (a : Option Addr) (c : Nat) (W : World) : Prop where
  c0 : W.cell? ⟨gx, 0, none⟩ = some (.slice (some ⟨gS, 0, none⟩) n cS)
  q0 : W.cell? ⟨bx, 0, none⟩ = some (.int .i64 (p : Int))
  q1 : W.cell? ⟨bx, 1, none⟩ = some (.slice a 64 c)
theorem LasS.under {gx gS n cS bx p : Nat} {a : Option Addr} {c : Nat} {W W' : World} (h : LasS gx gS n cS bx p a c W) (hb : Below W.heap.size W W') : LasS gx gS n cS bx p a c W' := by
  have k : ∀ (g i : Nat) (v : Value), W.cell? ⟨g, i, none⟩ = some v → W'.cell? ⟨g, i, none⟩ = some v := fun g i v hv => (hb.cell (p := ⟨g, i, none⟩) (World.block_lt_of_cell? W _ hv)).trans hv
  exact ⟨k _ _ _ h.c0, k _ _ _ h.q0, k _ _ _ h.q1⟩
section
variable (w : World) (gx gS cS : Nat) (A : Option Addr) (cw : Nat) (K : Option Addr) (ck : Nat) (at_ : Int) (kl : List Bool) (rs : List Rw) (ws : List (Nat × Rw)) (s : Dk) (F : Nat → Prop)
set_option maxRecDepth 100000 in
set_option maxHeartbeats 2000000 in
theorem lasts_any (h : RfAt w gx gS cS A cw K ck at_ kl rs ws s) (p : Nat) (hp : p < rs.length) (a : Option Addr) (c : Nat) (l : List Nat) (hr : Rd .u8 w w.heap.size a c l) (hl : l.length = 64) :
    Calls Try.prog 59 #[.pointer (some ⟨gx, 0, none⟩), .agg #[.int .i64 p, .slice a 64 c]] w fun e w' => e = .returned (.tuple #[]) ∧ (∃ r, RfAt w' gx gS cS A cw K ck at_ kl (rs.set p r) ws { s with lasts := s.lasts.set p l } ∧ ∀ g, blockOf r.a = some g → w.heap.size ≤ g) ∧ Only (fun g => g = gS) w w' := by
  have hA0 : Below w.heap.size w (w.alloc (.cells #[.int .i64 (p : Int), .slice a 64 c] 42)) := (Below.refl _ w).alloc (Nat.le_refl _) _
  obtain ⟨V, hV⟩ : ∃ V, w.alloc (.cells #[.int .i64 (p : Int), .slice a 64 c] 42) = V := ⟨_, rfl⟩
  have hVs : V.heap.size = w.heap.size + 1 := by rw [← hV]; simp
  have hA1 : Below w.heap.size w V := by rw [← hV]; exact hA0
  have hA2 : Below w.heap.size w ((V.alloc (.cells #[] 5)).drew) := (hA1.alloc (by omega) _).drew
  have hrV := (hr.under hA2).more hA2.size
  obtain ⟨V1, hV1⟩ : ∃ V1, (V.alloc (.cells #[] 5)).drew = V1 := ⟨_, rfl⟩
  have hV1s : V1.heap.size = V.heap.size + 1 := by rw [← hV1]; simp
  obtain ⟨g', c2, w2, hrun, hgr, hrd, hat, hlt⟩ := run_sector ((V.alloc (.cells #[] 5)).drew) 64 hrV hl (by omega) (by omega) V.heap.size (heap_alloc_new V _) 40
  rw [hV1] at hA2 hrun hgr hat
  have hb2 : Below w.heap.size w w2 := hA2.trans (one_below hgr (by omega) hA2.size)
  have hbV1 : Below V.heap.size V V1 := by rw [← hV1]; exact ((Below.refl _ V).alloc (Nat.le_refl _) _).drew
  have hbV2 : Below V.heap.size V w2 := hbV1.trans (one_below hgr (by omega) hbV1.size)
  have hg' : w.heap.size ≤ g' := by omega
  have h2 := h.under hb2
  have hgood : Good w2 gx gS A ⟨some ⟨g', 0, none⟩, c2, l⟩ := ⟨hrd, hl, fun g hg => by
    obtain rfl : g' = g := by simpa [blockOf] using hg
    refine ⟨fun e => ?_, fun e => ?_, fun e => ?_⟩
    · have := h.lt (g := g') (.inl e); omega
    · have := h.lt (g := g') (.inr (.inl e)); omega
    · have := h.lt (g := g') (.inr (.inr (.inl e))); omega⟩
  have hset := h2.setRow hp ⟨some ⟨g', 0, none⟩, c2, l⟩ hgood
  have hsl : rslot ⟨some ⟨g', 0, none⟩, c2, l⟩ = .slice (some ⟨g', 0, none⟩) 64 c2 := by rw [rslot, hl]
  rw [hsl] at hset
  have HSET := Lib.hid hset
  have HG' := Lib.hid hg'
  have HRUN := Lib.hid hrun
  have HL0 : Hid (LasS gx gS rs.length cS w.heap.size p a c V.drew) := Lib.hid ⟨(h.under hA1).cell 0, by rw [← hV]; exact cell_of_row _ _ _ _ _ _ (heap_alloc_new w _), by rw [← hV]; exact cell_of_row _ _ _ _ _ _ (heap_alloc_new w _)⟩
  have HL0' : LasS gx gS rs.length cS w.heap.size p a c V := ⟨HL0.out.c0, HL0.out.q0, HL0.out.q1⟩
  have HL1 := Lib.hid (HL0'.under hbV1)
  have HL2 := Lib.hid (HL0'.under hbV2)
  have hxS : gx ≠ gS := h.xs
  have hbS : w.heap.size ≠ gS := by have := h.lt (g := gS) (.inr (.inl rfl)); omega
  have ks : ∀ (g i : Nat), g ≠ gS → (w2.setCell ⟨gS, p, none⟩ (.slice (some ⟨g', 0, none⟩) 64 c2)).cell? ⟨g, i, none⟩ = w2.cell? ⟨g, i, none⟩ := fun g i hne => World.cell?_of_block (a := ⟨g, i, none⟩) (Below.heap_setCell w2 ⟨gS, p, none⟩ _ g hne)
  have HL3 : Hid (LasS gx gS rs.length cS w.heap.size p a c (w2.setCell ⟨gS, p, none⟩ (.slice (some ⟨g', 0, none⟩) 64 c2))) := Lib.hid ⟨(ks _ _ hxS).trans HL2.out.c0, (ks _ _ hbS).trans HL2.out.q0, (ks _ _ hbS).trans HL2.out.q1⟩
  have hle := h.hS.le
  obtain ⟨r0, fz, _⟩ := h2.row hp
  have p0 : (0 : Int) ≤ (p : Int) := by omega
  have p1 : (p : Int) < (rs.length : Int) := by omega
  have HOW : Hid (Only (fun g => g = gS) w (w2.setCell ⟨gS, p, none⟩ (.slice (some ⟨g', 0, none⟩) 64 c2))) := Lib.hid ((Only.of_below (F := fun g => g = gS) hb2).setCell (p := ⟨gS, p, none⟩) (.inl rfl) _)
  have HV1 := Lib.hid hV1
  have HV := Lib.hid hV
  have HVS := Lib.hid hVs
  clear h hr hA0 hA1 hA2 hrV hgr hrd hat hlt hb2 h2 hgood hset hsl hg' hVs hV1s hbV1 hbV2 HL0' hxS hbS ks hrun hV1 hV
  go_enter Try.func59, Try.ntmps59
  go_wp2_with fail
  rw [HV.out]
  refine wp_region_noPanic ?_
  refine wp_region_held_drew (S := fun W => LasS gx gS rs.length cS w.heap.size p a c W) (by kernel_rfl) (HL0.out) (fun hHeld => ?_)
  refine wpAnyH_take (i := 0) (oi := { dst := some 4, op := Op.move (Operand.tmp 0), type := 25, pos := _, after := _, guard := none }) (v := ?_) rfl (by kernel_rfl) (by kernel_rfl) (by kernel_rfl) (fun _ _ _ h => h) (Or.inl ⟨by rfl, ?_⟩) hHeld ?_
  rotate_left 1
  · (intro W hW; (try dsimp only at hW); go_simp; try with_reducible rfl)
  try simp only [Act.put, List.setIfInBounds_toArray, List.set_cons_zero, List.set_cons_succ]
  refine wpAnyH_take (i := 1) (oi := { dst := some 5, op := Op.nilCheck (Operand.tmp 4), type := 0, pos := _, after := _, guard := none }) (v := ?_) rfl (by kernel_rfl) (by kernel_rfl) (by kernel_rfl) (fun _ _ _ h => h) (Or.inl ⟨by rfl, ?_⟩) hHeld ?_
  rotate_left 1
  · (intro W hW; (try dsimp only at hW); go_simp; try with_reducible rfl)
  try simp only [Act.put, List.setIfInBounds_toArray, List.set_cons_zero, List.set_cons_succ]
  refine wpAnyH_take (i := 2) (oi := { dst := some 6, op := Op.fieldAddr 64 (Operand.tmp 5) 0, type := 0, pos := _, after := _, guard := none }) (v := ?_) rfl (by kernel_rfl) (by kernel_rfl) (by kernel_rfl) (fun _ _ _ h => h) (Or.inl ⟨by rfl, ?_⟩) hHeld ?_
  rotate_left 1
  · (intro W hW; (try dsimp only at hW); go_simp; try with_reducible rfl)
  try simp only [Act.put, List.setIfInBounds_toArray, List.set_cons_zero, List.set_cons_succ]
  refine wpAnyH_take (i := 3) (oi := { dst := some 7, op := Op.load 56 (Operand.tmp 6), type := 56, pos := _, after := _, guard := none }) (v := ?_) rfl (by kernel_rfl) (by kernel_rfl) (by kernel_rfl) (fun _ _ _ h => h) (Or.inl ⟨by rfl, ?_⟩) hHeld ?_
  rotate_left 1
  · (intro W hW; have hk := LasS.c0 hW; (try dsimp only at hW); go_simp; try with_reducible rfl)
  try simp only [Act.put, List.setIfInBounds_toArray, List.set_cons_zero, List.set_cons_succ]
  refine wpAnyH_take (i := 4) (oi := { dst := some 8, op := Op.fieldAddr 42 (Operand.tmp 3) 0, type := 0, pos := _, after := _, guard := none }) (v := ?_) rfl (by kernel_rfl) (by kernel_rfl) (by kernel_rfl) (fun _ _ _ h => h) (Or.inl ⟨by rfl, ?_⟩) hHeld ?_
  rotate_left 1
  · (intro W hW; (try dsimp only at hW); go_simp; try with_reducible rfl)
  try simp only [Act.put, List.setIfInBounds_toArray, List.set_cons_zero, List.set_cons_succ]
  refine wpAnyH_take (i := 5) (oi := { dst := some 9, op := Op.load 3 (Operand.tmp 8), type := 3, pos := _, after := _, guard := none }) (v := ?_) rfl (by kernel_rfl) (by kernel_rfl) (by kernel_rfl) (fun _ _ _ h => h) (Or.inl ⟨by rfl, ?_⟩) hHeld ?_
  rotate_left 1
  · (intro W hW; have hk := LasS.q0 hW; (try dsimp only at hW); go_simp; try with_reducible rfl)
  try simp only [Act.put, List.setIfInBounds_toArray, List.set_cons_zero, List.set_cons_succ]
  refine wpAnyH_take (i := 7) (oi := { dst := some 11, op := Op.fieldAddr 42 (Operand.tmp 3) 1, type := 0, pos := _, after := _, guard := none }) (v := ?_) rfl (by kernel_rfl) (by kernel_rfl) (by kernel_rfl) (fun _ _ _ h => h) (Or.inl ⟨by rfl, ?_⟩) hHeld ?_
  rotate_left 1
  · (intro W hW; (try dsimp only at hW); go_simp; try with_reducible rfl)
  try simp only [Act.put, List.setIfInBounds_toArray, List.set_cons_zero, List.set_cons_succ]
  refine wpAnyH_take (i := 8) (oi := { dst := some 12, op := Op.load 40 (Operand.tmp 11), type := 40, pos := _, after := _, guard := none }) (v := ?_) rfl (by kernel_rfl) (by kernel_rfl) (by kernel_rfl) (fun _ _ _ h => h) (Or.inl ⟨by rfl, ?_⟩) hHeld ?_
  rotate_left 1
  · (intro W hW; have hk := LasS.q1 hW; (try dsimp only at hW); go_simp; try with_reducible rfl)
  try simp only [Act.put, List.setIfInBounds_toArray, List.set_cons_zero, List.set_cons_succ]
  refine wpAnyH_ready (rs := [6]) (by kernel_rfl) (by simp) ?_
  refine AllReadyH.cons (o := { dst := some 10, op := Op.buildSlice 40 0 #[], type := 40, pos := _, after := _, guard := none }) rfl (fun K hK => ?_) AllReadyH.nil
  go_simp
  rw [HV1.out]
  refine hK.out _ _ (HL1.out) (fun _ => ?_)
  clear hK K hHeld
  try simp only [Act.put, List.setIfInBounds_toArray, List.set_cons_zero, List.set_cons_succ]
  have hHeld : (fun W => LasS gx gS rs.length cS w.heap.size p a c W) V1 := HL1.out
  refine wpAnyH_ready (rs := [9]) (by kernel_rfl) (by simp) ?_
  refine AllReadyH.cons (o := { dst := some 13, op := Op.call { callee := Callee.builtin Builtin.append, args := #[Operand.tmp 10, Operand.tmp 12], argTypes := #[40, 40] }, type := 40, pos := _, after := _, guard := none }) rfl (fun K hK => ?_) AllReadyH.nil
  refine step_append_run rfl (.tmp 10) (.tmp 12) 40 rfl rfl _ _ rfl rfl _ _ HRUN.out ?_
  refine hK.out _ _ (HL2.out) (fun _ => ?_)
  clear hK K hHeld
  try simp only [Act.put, List.setIfInBounds_toArray, List.set_cons_zero, List.set_cons_succ]
  have hHeld : (fun W => LasS gx gS rs.length cS w.heap.size p a c W) w2 := HL2.out
  refine wpAnyH_take (i := 10) (oi := { dst := some 14, op := Op.indexAddr 56 (Operand.tmp 7) (Operand.tmp 9), type := 0, pos := _, after := _, guard := none }) (v := ?_) rfl (by kernel_rfl) (by kernel_rfl) (by kernel_rfl) (fun _ _ _ h => h) (Or.inl ⟨by rfl, ?_⟩) hHeld ?_
  rotate_left 1
  · (intro W hW; (try dsimp only at hW); go_simp; try with_reducible rfl)
  try simp only [Act.put, List.setIfInBounds_toArray, List.set_cons_zero, List.set_cons_succ]
  refine wpAnyH_ready (rs := [11]) (by kernel_rfl) (by simp) ?_
  refine AllReadyH.cons (o := { dst := none, op := Op.store 40 (Operand.tmp 14) (Operand.tmp 13), type := 0, pos := _, after := _, guard := none }) rfl (fun K hK => ?_) AllReadyH.nil
  go_simp
  refine hK.out _ _ (HL3.out) (fun _ => ?_)
  clear hK K hHeld
  try simp only [Act.put, List.setIfInBounds_toArray, List.set_cons_zero, List.set_cons_succ]
  have hHeld : (fun W => LasS gx gS rs.length cS w.heap.size p a c W) (w2.setCell ⟨gS, p, none⟩ (.slice (some ⟨g', 0, none⟩) 64 c2)) := HL3.out
  refine wpAnyH_done (by kernel_rfl) ?_ _
  refine NoPanic.normal ?_
  go_wp2_with fail
  go_end0
  exact ⟨rfl, ⟨_, HSET.out, fun g hg => by
    obtain rfl : g' = g := by simpa [blockOf] using hg
    exact HG'.out⟩, HOW.out⟩
end
end Go.Proofs.Ytkmbgbbmhpidkaa
