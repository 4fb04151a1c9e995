/-
  Whether a thing may be: by the program.
-/
import Derived.Test.YtlggbkacaemdjaaTlv13
namespace Go.Proofs.Ytlggbkacaemdjaa
open Go.RowKit Go.Shelf
set_option linter.unusedVariables false
set_option linter.unusedSimpArgs false
attribute [local go_sem] Oper.semAt_some

/-- Of one thing in a thing: it is not too deep, its tag and parts are such. -/
def fine (p : Nat × Lt) : Bool := ok1 p.2.tag p.2.body.length p.2.kids.length && decide (p.1 ≤ 12)
mutual
theorem Lt.fine_items : ∀ (t : Lt) (d : Nat), (∀ y ∈ t.items d, fine y = true) ↔ t.t.sound d = true
  | .mk tag ba bc body ka kc kids, d => by
    rw [Lt.items, Lt.t, Tr.sound, Bool.and_eq_true, ← Lt.fine_itemss kids (d + 1)]
    have hl : (Lt.ts kids).length = kids.length := by rw [Lt.ts_map, List.length_map]
    constructor
    · intro h
      refine ⟨?_, fun y hy => h y (List.mem_cons_of_mem _ hy)⟩
      have := h _ (List.mem_cons_self ..)
      rw [hl]
      simpa [fine, Lt.tag, Lt.body, Lt.kids] using this
    · rintro ⟨h1, h2⟩ y hy
      rcases List.mem_cons.1 hy with rfl | hy
      · rw [hl] at h1
        simpa [fine, Lt.tag, Lt.body, Lt.kids] using h1
      · exact h2 y hy
theorem Lt.fine_itemss : ∀ (l : List Lt) (d : Nat), (∀ y ∈ Lt.itemss l d, fine y = true) ↔ Tr.sounds (Lt.ts l) d = true
  | [], d => by simp [Lt.itemss, Lt.ts, Tr.sounds]
  | x :: r, d => by
    rw [Lt.itemss, Lt.ts, Tr.sounds, Bool.and_eq_true, ← Lt.fine_items x d, ← Lt.fine_itemss r d]
    constructor
    · intro h
      exact ⟨fun y hy => h y (List.mem_append_left _ hy), fun y hy => h y (List.mem_append_right _ hy)⟩
    · rintro ⟨h1, h2⟩ y hy
      rcases List.mem_append.1 hy with hy | hy
      · exact h1 y hy
      · exact h2 y hy
end
/-- What the loop holds to. -/
def IsI (b0 : Nat) (w : World) (cs : Array Value) (pre : List It) (W : World) : Prop :=
  (((W.cell? ⟨b0 + 2, 0, none⟩ = some (.int .i64 (pre.length : Int)) ∧ W.frozen? ⟨b0 + 2, 0, none⟩ = false) ∧ (W.cell? ⟨b0 + 1, 0, none⟩ = some (.bool false) ∧ W.frozen? ⟨b0 + 1, 0, none⟩ = false) ∧
    (W.cell? ⟨b0, 0, none⟩ = some (cs.getD 0 undef) ∧ W.cell? ⟨b0, 1, none⟩ = some (cs.getD 1 undef) ∧ W.cell? ⟨b0, 2, none⟩ = some (cs.getD 2 undef))) ∧ (∀ y ∈ pre, fine y.1 = true) ∧ pre.length ≤ 600) ∧ Below b0 w W
def IsX (b0 : Nat) (w : World) (c : Code) (pre : List It) (W : World) : Prop :=
  (c = .ret ∧ ((∃ y ∈ pre, fine y.1 = false) ∨ 600 < pre.length) ∧ W.cell? ⟨b0 + 1, 0, none⟩ = some (.bool false)) ∧ Below b0 w W
theorem isI_own {b0 : Nat} {w : World} {cs : Array Value} (hb : b0 ≤ w.heap.size) {B : Nat} (hB : b0 ≤ B) : OwnFrom B (IsI b0 w cs) :=
  OwnFrom.and (Own.from (fun s A B row hs hg hr => ⟨⟨⟨cell_kept hs.1.1.1 hg hr, (frozen_kept hs.1.1.1 hg hr).trans hs.1.1.2⟩, ⟨cell_kept hs.1.2.1.1 hg hr, (frozen_kept hs.1.2.1.1 hg hr).trans hs.1.2.1.2⟩, cell_kept hs.1.2.2.1 hg hr, cell_kept hs.1.2.2.2.1 hg hr, cell_kept hs.1.2.2.2.2 hg hr⟩, hs.2⟩) _) (ownFrom_below hb hB)
theorem isX_own {b0 : Nat} {w : World} (c : Code) (hb : b0 ≤ w.heap.size) {B : Nat} (hB : b0 ≤ B) : OwnFrom B (IsX b0 w c) :=
  OwnFrom.and (Own.from (fun s A B row hs hg hr => ⟨hs.1, hs.2.1, cell_kept hs.2.2 hg hr⟩) _) (ownFrom_below hb hB)
/-- The loop's variables. -/
def IsA (b0 : Nat) (cs : Array Value) (x : It) (a' : Act) (W : World) : Prop :=
  ∃ Bx, b0 + 3 ≤ Bx ∧ (W.cell? ⟨Bx, 0, none⟩ = some (.int .u8 (x.1.2.tag : Int)) ∧ W.cell? ⟨Bx, 1, none⟩ = some (.slice x.1.2.ba x.1.2.body.length x.1.2.bc) ∧ W.cell? ⟨Bx, 2, none⟩ = some (.slice x.1.2.ka x.1.2.kids.length x.1.2.kc)) ∧
    a' = { tmps := #[.agg cs, .pointer (some ⟨b0, 0, none⟩), .pointer (some ⟨b0 + 1, 0, none⟩), .pointer (some ⟨b0 + 2, 0, none⟩), .int .i64 (x.1.1 : Int), .pointer (some ⟨Bx, 0, none⟩), .agg cs, .func (.func 36) #[] #[.pointer (some ⟨b0 + 3, 0, none⟩)], .int .i64 (x.1.1 : Int), .agg #[.int .u8 (x.1.2.tag : Int), .slice x.1.2.ba x.1.2.body.length x.1.2.bc, .slice x.1.2.ka x.1.2.kids.length x.1.2.kc], undef, undef, undef, undef, undef, undef, undef, undef, undef, undef, undef, undef, undef, undef, undef, undef, undef, undef, undef, undef, undef, undef, undef, undef, undef, undef, undef, undef, undef, undef, undef, undef, undef, undef, undef, undef, undef, undef], defers := [] }
theorem isA_own {b0 : Nat} {cs : Array Value} (x : It) (a' : Act) {B : Nat} : OwnFrom B (fun (_ : Unit) W => IsA b0 cs x a' W) :=
  Own.from (fun _ A B row hs hg hr => by
    obtain ⟨Bx, h0, ⟨h1, h2, h3⟩, h4⟩ := hs
    exact ⟨Bx, h0, ⟨cell_kept h1 hg hr, cell_kept h2 hg hr, cell_kept h3 hg hr⟩, h4⟩) _
set_option maxRecDepth 100000 in
set_option maxHeartbeats 4000000 in
theorem is_any (t : Lt) (w : World) (B : Nat) (hr : TrAt w B t) (hB : B ≤ w.heap.size) (hmc : t.t.count ≤ 1000000) (hmx : t.t.enc.length ≤ 400000) :
    Calls Try.prog 11 #[t.val] w fun e w' => e = .returned (.bool (isT t.t)) ∧ Below w.heap.size w w' := by
  have hcl : t.cells = #[.int .u8 (t.tag : Int), .slice t.ba t.body.length t.bc, .slice t.ka t.kids.length t.kc] := rfl
  have HALL := Lib.hid (fun W => all_in Fence.wide 2 trivial rfl t W)
  have hinl : t.t.inl ≤ 400000 := by rw [Tr.enc_len] at hmx; omega
  have HSZ : Hid (∀ W, Below w.heap.size w W → Calls Try.prog 27 #[t.val] W fun e w' => e = .returned (.int .i64 (t.t.enc.length : Int)) ∧ Below W.heap.size W w') := Lib.hid fun W hW => size_any t W B (hr.under' (hW.mono hB)) (by have := hW.size; omega) hinl
  obtain ⟨w1, hw1⟩ : ∃ w1, w.alloc (.cells t.cells 25) = w1 := ⟨_, rfl⟩
  obtain ⟨w2, hw2⟩ : ∃ w2, w1.alloc (.cells #[.bool false] 4) = w2 := ⟨_, rfl⟩
  obtain ⟨w3, hw3⟩ : ∃ w3, w2.alloc (.cells #[.int .i64 0] 3) = w3 := ⟨_, rfl⟩
  obtain ⟨w4, hw4⟩ : ∃ w4, w3.alloc (.cells t.cells 25) = w4 := ⟨_, rfl⟩
  have hs1 : w1.heap.size = w.heap.size + 1 := by rw [← hw1]; simp
  have hs2 : w2.heap.size = w.heap.size + 2 := by rw [← hw2]; simp [hs1]
  have hs3 : w3.heap.size = w.heap.size + 3 := by rw [← hw3]; simp [hs2]
  have hs4 : w4.heap.size = w.heap.size + 4 := by rw [← hw4]; simp [hs3]
  have hb1 : Below w.heap.size w w1 := by rw [← hw1]; exact (Below.refl _ _).alloc (Nat.le_refl _) _
  have hb2 : Below w.heap.size w w2 := by rw [← hw2]; exact hb1.alloc hb1.size _
  have hb3 : Below w.heap.size w w3 := by rw [← hw3]; exact hb2.alloc hb2.size _
  have hb4 : Below w.heap.size w w4 := by rw [← hw4]; exact hb3.alloc hb3.size _
  have hbx1 : Holds w1 w.heap.size 25 t.cells := by rw [← hw1]; exact Holds.fresh _ _ _
  have hbx3 : Holds w3 w.heap.size 25 t.cells := by rw [← hw3, ← hw2]; exact (hbx1.alloc _).alloc _
  have hbx4 : Holds w4 w.heap.size 25 t.cells := by rw [← hw4]; exact hbx3.alloc _
  have hrs : Holds w4 (w.heap.size + 1) 4 #[.bool false] := by
    rw [← hw4, ← hw3, ← hw2, ← hs1]
    exact ((Holds.fresh w1 4 #[.bool false]).alloc _).alloc _
  have hct : Holds w4 (w.heap.size + 2) 3 #[.int .i64 0] := by
    rw [← hw4, ← hw3, ← hs2]
    exact (Holds.fresh w2 3 #[.int .i64 0]).alloc _
  have hit : Holds w4 (w.heap.size + 3) 25 t.cells := by
    rw [← hw4, ← hs3]
    exact Holds.fresh _ _ _
  have HST := Lib.hid (all_stops Fence.wide rfl 2 trivial trivial rfl (w.heap.size + 3) (w.heap.size + 1) (w.heap.size + 2) B t w4 hit (hr.under' (hb4.mono hB)) (by omega) (by omega) (by omega) (by omega) (by omega) (by omega))
  have HBX := Lib.hid hbx4
  have HRS := Lib.hid hrs
  have HCT := Lib.hid hct
  have HB4 := Lib.hid hb4
  have HLEN : Hid (∀ ys : List It, ys.map (·.1) = t.items 1 → ys.length = t.t.count) := Lib.hid fun ys h => by rw [← Lt.items_len t 1, ← h, List.length_map]
  have HALLF : Hid (∀ ys : List It, ys.map (·.1) = t.items 1 → (∀ y ∈ ys, fine y.1 = true) → ys.length ≤ 600 → isT t.t = decide (t.t.enc.length ≤ 12000)) := Lib.hid fun ys h h1 h2 => by
    have hs : t.t.sound 1 = true := (Lt.fine_items t 1).1 fun y hy => by
      rw [← h] at hy
      obtain ⟨z, hz, rfl⟩ := List.mem_map.1 hy
      exact h1 z hz
    have hc : t.t.count ≤ 600 := by rw [← HLEN.out ys h]; exact h2
    unfold isT
    rw [hs]
    simp [hc]
  have HNOT : Hid (∀ pre : List It, pre.map (·.1) <+: t.items 1 → ((∃ y ∈ pre, fine y.1 = false) ∨ 600 < pre.length) → isT t.t = false) := Lib.hid fun pre h hb => by
    rcases hb with ⟨y, hy, hf⟩ | hb
    · have : t.t.sound 1 = false := by
        cases e : t.t.sound 1
        · rfl
        · have h2 := (Lt.fine_items t 1).2 e y.1 (h.subset (List.mem_map.2 ⟨y, hy, rfl⟩))
          rw [hf] at h2
          cases h2
      unfold isT
      rw [this]
      rfl
    · have hl := h.length_le
      rw [List.length_map, Lt.items_len] at hl
      have : ¬ t.t.count ≤ 600 := by omega
      unfold isT
      simp [this]
  generalize t.t.count = cnt at *
  generalize t.items 1 = its at *
  generalize isT t.t = res at *
  generalize t.t.enc.length = el at *
  rw [Lt.val_eq] at HALL HSZ ⊢
  rw [hcl] at HALL hbx1 hbx3 hw1 hw4 HBX
  clear hcl hr hit hct hrs hb4 hb1 hb2 hb3 hbx4 hinl
  generalize t.tag = tag at *
  generalize t.ba = ba at *
  generalize t.bc = bc at *
  generalize t.body.length = bl at *
  generalize t.ka = ka at *
  generalize t.kids.length = n at *
  generalize t.kc = kc at *
  have y0 : w1.cell? ⟨w.heap.size, 0, none⟩ = some (.int .u8 (tag : Int)) := hbx1.cell 0
  have y1 : w1.cell? ⟨w.heap.size, 1, none⟩ = some (.slice ba bl bc) := hbx1.cell 1
  have y2 : w1.cell? ⟨w.heap.size, 2, none⟩ = some (.slice ka n kc) := hbx1.cell 2
  have z0 : w3.cell? ⟨w.heap.size, 0, none⟩ = some (.int .u8 (tag : Int)) := hbx3.cell 0
  have z1 : w3.cell? ⟨w.heap.size, 1, none⟩ = some (.slice ba bl bc) := hbx3.cell 1
  have z2 : w3.cell? ⟨w.heap.size, 2, none⟩ = some (.slice ka n kc) := hbx3.cell 2
  rw [← hw1] at y0 y1 y2
  rw [← hw3, ← hw2, ← hw1] at z0 z1 z2
  rw [← hw4, ← hw3, ← hw2, ← hw1] at HST HCT HB4 HRS HBX
  clear hbx1 hbx3 hw1 hw2 hw3 hw4 hs1 hs2 hs3 hs4
  refine (callsIn_wide (n := 3)).1 ?_
  refine callsIn_of_wp_marks Try.func11 rfl trivial ?_ rfl
  simp only [Try.ntmps11, List.size_toArray, List.length_cons, List.length_nil, Nat.reduceAdd, Nat.reduceSub, Array.replicate_succ, Array.replicate_zero, List.push_toArray, List.append_toArray, List.nil_append, List.cons_append]
  gi_wp2_with (refine ⟨trivial, ?_⟩; gi_at_call 24; refine (HALL.out _).mono ?_; rintro e w' ⟨rfl, rfl⟩)
  have hsz : ((((w.alloc (.cells #[.int .u8 (tag : Int), .slice ba bl bc, .slice ka n kc] 25)).alloc (.cells #[.bool false] 4)).alloc (.cells #[.int .i64 0] 3)).alloc (.cells #[.int .u8 (tag : Int), .slice ba bl bc, .slice ka n kc] 25)).heap.size = w.heap.size + 4 := by simp
  generalize ((((w.alloc (.cells #[.int .u8 (tag : Int), .slice ba bl bc, .slice ka n kc] 25)).alloc (.cells #[.bool false] 4)).alloc (.cells #[.int .i64 0] 3)).alloc (.cells #[.int .u8 (tag : Int), .slice ba bl bc, .slice ka n kc] 25)) = W4 at *
  clear z0 z1 z2 y0 y1 y2 HALL
  refine wpIn_rangeFunc_ownH rfl (by omega) (gf := 36) (lb := #[.pointer (some ⟨w.heap.size + 3, 0, none⟩)]) rfl trivial (enters_of Try.func36 (by kernel_rfl) rfl) HST.out PassX.trans (fun W l o o' _ hl ho _ => passX_put W l o o' hl ho) (Below.refl _ _) (fun _ => rfl)
    (IsI w.heap.size w #[.int .u8 (tag : Int), .slice ba bl bc, .slice ka n kc]) (IsX w.heap.size w) (isI_own (Nat.le_refl _) (by omega)) (fun c => isX_own c (Nat.le_refl _) (by omega))
    ⟨⟨⟨⟨HCT.out.cell 0, HCT.out.open_ 0⟩, ⟨HRS.out.cell 0, HRS.out.open_ 0⟩, HBX.out.cell 0, HBX.out.cell 1, HBX.out.cell 2⟩, (fun y hy => by cases hy), Nat.zero_le _⟩, HB4.out⟩
    (IsA w.heap.size #[.int .u8 (tag : Int), .slice ba bl bc, .slice ka n kc]) (fun x a' => isA_own x a') ?assign ?body ?done ?stop
  case assign =>
    intro l pre x W K hI hK
    have hWs : w.heap.size + 2 < W.heap.size := World.block_lt_of_cell? W _ hI.1.1.1.1
    simp [itv, Lt.val_eq]
    gi_wp2
    exact hK _ _ ((KeepsOthers.alloc _ _).from _) (PassX.alloc _ _ _ _) ((isI_own (Nat.le_refl _) (Nat.le_refl _)).alloc _ hI) ⟨W.heap.size, hWs, ⟨(Holds.fresh W _ _).cell 0, (Holds.fresh W _ _).cell 1, (Holds.fresh W _ _).cell 2⟩, rfl⟩
  case body =>
    rintro l pre x a' W hlW hloop ⟨⟨⟨⟨hc, hcf⟩, ⟨hr, hrf⟩, x0, x1, x2⟩, hfine, hlen⟩, hBW⟩ ⟨Bx, hBx, ⟨b0, b1, b2⟩, rfl⟩ hltc
    have htg := x.2
    have HFX : Hid (fine x.1 = (ok1 x.1.2.tag x.1.2.body.length x.1.2.kids.length && decide (x.1.1 ≤ 12))) := Lib.hid rfl
    have HPL : Hid ((pre ++ [x]).length = pre.length + 1) := Lib.hid (by simp)
    have HMEM : Hid (x ∈ pre ++ [x]) := Lib.hid (by simp)
    have HFN : Hid (fine x.1 = true → ∀ y ∈ pre ++ [x], fine y.1 = true) := Lib.hid fun h y hy => by
      rcases List.mem_append.1 hy with h2 | h2
      · exact hfine y h2
      · rw [List.mem_singleton.1 h2]; exact h
    have HBAD : Hid (fine x.1 = false → ∃ y ∈ pre ++ [x], fine y.1 = false) := Lib.hid fun h => ⟨x, HMEM.out, h⟩
    generalize fine x.1 = fx at *
    have hxx : (pre ++ [x]).length = pre.length + 1 := HPL.out
    have hbb2 : Below w.heap.size w (W.setCell ⟨w.heap.size + 2, 0, none⟩ (.int .i64 ((pre.length : Int) + 1))) := hBW.setCell (p := ⟨w.heap.size + 2, 0, none⟩) (by show _ ≤ w.heap.size + 2; omega) _
    have o1 : ∀ b o, b ≠ w.heap.size + 2 → (W.setCell ⟨w.heap.size + 2, 0, none⟩ (.int .i64 ((pre.length : Int) + 1))).cell? ⟨b, o, none⟩ = W.cell? ⟨b, o, none⟩ := fun b o hb => World.cell?_of_block (Below.heap_setCell W ⟨w.heap.size + 2, 0, none⟩ _ b hb)
    have f1 : ∀ b o, b ≠ w.heap.size + 2 → (W.setCell ⟨w.heap.size + 2, 0, none⟩ (.int .i64 ((pre.length : Int) + 1))).frozen? ⟨b, o, none⟩ = W.frozen? ⟨b, o, none⟩ := fun b o hb => by rw [World.frozen?_setCell]
    have e0 : (W.setCell ⟨w.heap.size + 2, 0, none⟩ (.int .i64 ((pre.length : Int) + 1))).cell? ⟨Bx, 0, none⟩ = some (.int .u8 (x.1.2.tag : Int)) := (o1 _ _ (by omega)).trans b0
    have e1 : (W.setCell ⟨w.heap.size + 2, 0, none⟩ (.int .i64 ((pre.length : Int) + 1))).cell? ⟨Bx, 1, none⟩ = some (.slice x.1.2.ba x.1.2.body.length x.1.2.bc) := (o1 _ _ (by omega)).trans b1
    have e2 : (W.setCell ⟨w.heap.size + 2, 0, none⟩ (.int .i64 ((pre.length : Int) + 1))).cell? ⟨Bx, 2, none⟩ = some (.slice x.1.2.ka x.1.2.kids.length x.1.2.kc) := (o1 _ _ (by omega)).trans b2
    have e3 : (W.setCell ⟨w.heap.size + 2, 0, none⟩ (.int .i64 ((pre.length : Int) + 1))).cell? ⟨w.heap.size + 1, 0, none⟩ = some (.bool false) := (o1 _ _ (by omega)).trans hr
    have e4 : (W.setCell ⟨w.heap.size + 2, 0, none⟩ (.int .i64 ((pre.length : Int) + 1))).frozen? ⟨w.heap.size + 1, 0, none⟩ = false := (f1 _ _ (by omega)).trans hrf
    have e5 : (W.setCell ⟨w.heap.size + 2, 0, none⟩ (.int .i64 ((pre.length : Int) + 1))).cell? ⟨w.heap.size + 2, 0, none⟩ = some (.int .i64 ((pre.length : Int) + 1)) := World.cell?_setCell_same' _ _ _ (by rw [hc]; rfl)
    have HRET : Hid ((∃ y ∈ pre ++ [x], fine y.1 = false) ∨ 600 < (pre ++ [x]).length → IsX w.heap.size w .ret (pre ++ [x]) ((W.setCell ⟨w.heap.size + 2, 0, none⟩ (.int .i64 ((pre.length : Int) + 1))).setCell ⟨w.heap.size + 1, 0, none⟩ (.bool false))) := Lib.hid fun h => ⟨⟨rfl, h, World.cell?_setCell_same' _ _ _ (by rw [e3]; rfl)⟩, hbb2.setCell (p := ⟨w.heap.size + 1, 0, none⟩) (by show _ ≤ w.heap.size + 1; omega) _⟩
    have HOKE : Hid (fx = true ∧ (pre ++ [x]).length ≤ 600 → IsI w.heap.size w #[.int .u8 (tag : Int), .slice ba bl bc, .slice ka n kc] (pre ++ [x]) (W.setCell ⟨w.heap.size + 2, 0, none⟩ (.int .i64 ((pre.length : Int) + 1)))) := Lib.hid fun h => ⟨⟨⟨⟨by rw [hxx, e5]; push_cast; rfl, by rw [World.frozen?_setCell]; exact hcf⟩, ⟨e3, e4⟩, (o1 _ _ (by omega)).trans x0, (o1 _ _ (by omega)).trans x1, (o1 _ _ (by omega)).trans x2⟩, HFN.out h.1, h.2⟩, hbb2⟩
    have hws : IntKind.i64.wrap ((pre.length : Int) + 1) = (pre.length : Int) + 1 := IntWalk.i64_in _ (by omega)
    have HXL := Lib.hid hxx
    clear o1 f1 hbb2 x0 x1 x2 b0 b1 b2 hxx hfine HMEM HPL hlW hloop
    generalize x.1.2.tag = tg at *
    generalize x.1.2.ba = xba at *
    generalize x.1.2.bc = xbc at *
    generalize x.1.2.body.length = xbl at *
    generalize x.1.2.ka = xka at *
    generalize x.1.2.kids.length = xn at *
    generalize x.1.2.kc = xkc at *
    generalize x.1.1 = dd at *
    generalize pre.length = pl at *
    by_cases h2 : dd ≤ 12
    case neg =>
      have d1 : decide ((12 : Int) < (dd : Int)) = true := decide_eq_true (by omega)
      have d2 : decide (12 < dd) = true := decide_eq_true (by omega)
      have hbad : (∃ y ∈ pre ++ [x], fine y.1 = false) ∨ 600 < (pre ++ [x]).length := .inl (HBAD.out (by rw [HFX.out]; simp [h2]))
      gi_wp2
      refine ⟨trivial, ?_⟩
      gi_wp2
      exact ⟨((KeepsOthers.setCell _ _ _).trans (KeepsOthers.setCell _ _ _)).from _, HRET.out hbad⟩
    have d1 : decide ((12 : Int) < (dd : Int)) = false := decide_eq_false (by omega)
    have d2 : decide (12 < dd) = false := decide_eq_false (by omega)
    by_cases h6 : 600 ≤ pl
    case pos =>
      have d3 : decide ((600 : Int) < (pl : Int) + 1) = true := decide_eq_true (by omega)
      have d4 : decide ((600 : Int) ≤ (pl : Int)) = true := decide_eq_true (by omega)
      have d5 : decide (600 ≤ pl) = true := decide_eq_true (by omega)
      have hbad : (∃ y ∈ pre ++ [x], fine y.1 = false) ∨ 600 < (pre ++ [x]).length := .inr (by rw [HXL.out]; omega)
      gi_wp2
      refine ⟨trivial, ?_⟩
      gi_wp2
      exact ⟨((KeepsOthers.setCell _ _ _).trans (KeepsOthers.setCell _ _ _)).from _, HRET.out hbad⟩
    have d3 : decide ((600 : Int) < (pl : Int) + 1) = false := decide_eq_false (by omega)
    have d4 : decide ((600 : Int) ≤ (pl : Int)) = false := decide_eq_false (by omega)
    have d5 : decide (600 ≤ pl) = false := decide_eq_false (by omega)
    rcases h1 : tagOk tg with _ | _
    case false =>
      have hbad : (∃ y ∈ pre ++ [x], fine y.1 = false) ∨ 600 < (pre ++ [x]).length := .inl (HBAD.out (by rw [HFX.out]; simp [ok1, h1]))
      gi_wp2_with (refine ⟨trivial, ?_⟩; gi_at_call 25; refine (CallsIn.inRound l (callsIn_wide.2 (tagged_any _ tg htg))).mono ?_; rintro e w' ⟨rfl, rfl⟩; rw [h1])
      exact ⟨((KeepsOthers.setCell _ _ _).trans (KeepsOthers.setCell _ _ _)).from _, HRET.out hbad⟩
    rcases h3 : parted tg with _ | _
    case false =>
      by_cases h4 : 0 < xn
      case pos =>
        have d6 : decide ((0 : Int) < (xn : Int)) = true := decide_eq_true (by omega)
        have d7 : decide (0 < xn) = true := decide_eq_true (by omega)
        have hbad : (∃ y ∈ pre ++ [x], fine y.1 = false) ∨ 600 < (pre ++ [x]).length := .inl (HBAD.out (by rw [HFX.out]; simp [ok1, h1, h3, h4]))
        gi_wp2_with (first
          | (refine ⟨trivial, ?_⟩; gi_at_call 25; refine (CallsIn.inRound l (callsIn_wide.2 (tagged_any _ tg htg))).mono ?_; rintro e w' ⟨rfl, rfl⟩; rw [h1])
          | (refine ⟨trivial, ?_⟩; gi_at_call 26; refine (CallsIn.inRound l (callsIn_wide.2 (constructed_any _ tg htg))).mono ?_; rintro e w' ⟨rfl, rfl⟩; rw [h3]))
        exact ⟨((KeepsOthers.setCell _ _ _).trans (KeepsOthers.setCell _ _ _)).from _, HRET.out hbad⟩
      case neg =>
        have d6 : decide ((0 : Int) < (xn : Int)) = false := decide_eq_false (by omega)
        have d7 : decide (0 < xn) = false := decide_eq_false (by omega)
        have hgood : fx = true ∧ (pre ++ [x]).length ≤ 600 := ⟨by rw [HFX.out]; simp [ok1, h1, h3, h4, h2], by rw [HXL.out]; omega⟩
        gi_wp2_with (first
          | (refine ⟨trivial, ?_⟩; gi_at_call 25; refine (CallsIn.inRound l (callsIn_wide.2 (tagged_any _ tg htg))).mono ?_; rintro e w' ⟨rfl, rfl⟩; rw [h1])
          | (refine ⟨trivial, ?_⟩; gi_at_call 26; refine (CallsIn.inRound l (callsIn_wide.2 (constructed_any _ tg htg))).mono ?_; rintro e w' ⟨rfl, rfl⟩; rw [h3]))
        exact ⟨(KeepsOthers.setCell _ _ _).from _, passX_set _ _ _ (.inr rfl), HOKE.out hgood⟩
    case true =>
      by_cases h4 : 0 < xbl
      case pos =>
        have d6 : decide ((0 : Int) < (xbl : Int)) = true := decide_eq_true (by omega)
        have d7 : decide (0 < xbl) = true := decide_eq_true (by omega)
        have hbad : (∃ y ∈ pre ++ [x], fine y.1 = false) ∨ 600 < (pre ++ [x]).length := .inl (HBAD.out (by rw [HFX.out]; simp [ok1, h1, h3, h4]))
        gi_wp2_with (first
          | (refine ⟨trivial, ?_⟩; gi_at_call 25; refine (CallsIn.inRound l (callsIn_wide.2 (tagged_any _ tg htg))).mono ?_; rintro e w' ⟨rfl, rfl⟩; rw [h1])
          | (refine ⟨trivial, ?_⟩; gi_at_call 26; refine (CallsIn.inRound l (callsIn_wide.2 (constructed_any _ tg htg))).mono ?_; rintro e w' ⟨rfl, rfl⟩; rw [h3]))
        refine ⟨trivial, ?_⟩
        gi_wp2
        all_goals first
          | exact ⟨((KeepsOthers.setCell _ _ _).trans (KeepsOthers.setCell _ _ _)).from _, HRET.out hbad⟩
          | (rename_i bb hu hb; exact absurd hu (by simp [undef]))
      case neg =>
        have d6 : decide ((0 : Int) < (xbl : Int)) = false := decide_eq_false (by omega)
        have d7 : decide (0 < xbl) = false := decide_eq_false (by omega)
        have hgood : fx = true ∧ (pre ++ [x]).length ≤ 600 := ⟨by rw [HFX.out]; simp [ok1, h1, h3, h4, h2], by rw [HXL.out]; omega⟩
        gi_wp2_with (first
          | (refine ⟨trivial, ?_⟩; gi_at_call 25; refine (CallsIn.inRound l (callsIn_wide.2 (tagged_any _ tg htg))).mono ?_; rintro e w' ⟨rfl, rfl⟩; rw [h1])
          | (refine ⟨trivial, ?_⟩; gi_at_call 26; refine (CallsIn.inRound l (callsIn_wide.2 (constructed_any _ tg htg))).mono ?_; rintro e w' ⟨rfl, rfl⟩; rw [h3]))
        exact ⟨(KeepsOthers.setCell _ _ _).from _, passX_set _ _ _ (.inr rfl), HOKE.out hgood⟩
  case done =>
    rintro D ys W hD hS ⟨⟨⟨⟨hc, hcf⟩, ⟨hr, hrf⟩, x0, x1, x2⟩, hfine, hlen⟩, hBW⟩ hK
    have HRES := Lib.hid (HALLF.out ys hS hfine hlen)
    have HC := Lib.hid (HSZ.out W hBW)
    have x0' : W.cell? ⟨w.heap.size, 0, none⟩ = some (.int .u8 (tag : Int)) := x0
    have x1' : W.cell? ⟨w.heap.size, 1, none⟩ = some (.slice ba bl bc) := x1
    have x2' : W.cell? ⟨w.heap.size, 2, none⟩ = some (.slice ka n kc) := x2
    clear x0 x1 x2
    have hlt1 : w.heap.size + 1 < W.heap.size := World.block_lt_of_cell? W _ hr
    have hltD : D < W.heap.size := (Array.getElem?_eq_some_iff.1 hK).1
    gi_wp2_with (refine ⟨trivial, ?_⟩; gi_at_call 27; refine (callsIn_wide.2 HC.out).mono ?_; rintro e w' ⟨rfl, hb'⟩; have hr2 : w'.cell? ⟨w.heap.size + 1, 0, none⟩ = some (.bool false) := (hb'.cell (p := ⟨w.heap.size + 1, 0, none⟩) hlt1).trans hr; have hrf2 : w'.frozen? ⟨w.heap.size + 1, 0, none⟩ = false := (hb'.frozen (p := ⟨w.heap.size + 1, 0, none⟩) hlt1).trans hrf)
    have hd2 : w'.heap[D]? = some (.deferred (some [])) := (hb'.block D hltD).trans hK
    have hd3 := (KeepsOthers.setCell w' ⟨w.heap.size + 1, 0, none⟩ (.bool (decide ((el : Int) ≤ 12000)))).same D _ hd2 rfl
    have hr3 : (w'.setCell ⟨w.heap.size + 1, 0, none⟩ (.bool (decide ((el : Int) ≤ 12000)))).cell? ⟨w.heap.size + 1, 0, none⟩ = some (.bool (decide ((el : Int) ≤ 12000))) := World.cell?_setCell_same' _ _ _ (by rw [hr2]; rfl)
    have hr4 := cell_kept hr3 (grownBy_putObj' _ D (.deferred none)) (fun r e => by cases e; exact ⟨_, hd3, rfl⟩)
    refine ⟨by simp, .inl ⟨_, _, rfl, run_takeDeferred hd3, ?_⟩⟩
    have hBF : Below w.heap.size w ((w'.setCell ⟨w.heap.size + 1, 0, none⟩ (.bool (decide ((el : Int) ≤ 12000)))).putObj D (.deferred none)) :=
      ((hBW.trans (hb'.mono hBW.size)).setCell (p := ⟨w.heap.size + 1, 0, none⟩) (by show _ ≤ w.heap.size + 1; omega) _).trans (belowK_b (w := w) (Nat.le_refl _) _ D _ _ (by omega) hd3 rfl rfl)
    have hdd : decide ((el : Int) ≤ 12000) = res := by rw [HRES.out, decide_eq_decide]; omega
    exact ⟨.bool (decide ((el : Int) ≤ 12000)), by simp [results, Try.results11, go_sem, hr4], by rw [hdd], hBF⟩
  case stop =>
    rintro D c pre W hD hS ⟨⟨rfl, hbad, hr⟩, hBW⟩ hK
    have HRES := Lib.hid (HNOT.out pre hS hbad)
    have hr4 := cell_kept hr (grownBy_putObj' _ D (.deferred none)) (fun r e => by cases e; exact ⟨_, hK, rfl⟩)
    gi_wp2
    refine ⟨by simp, .inl ⟨_, _, rfl, run_takeDeferred hK, ?_⟩⟩
    exact ⟨.bool false, by simp [results, Try.results11, go_sem, hr4], by rw [HRES.out], hBW.trans (belowK_b (w := w) (Nat.le_refl _) W D _ _ (by omega) hK rfl rfl)⟩
end Go.Proofs.Ytlggbkacaemdjaa
