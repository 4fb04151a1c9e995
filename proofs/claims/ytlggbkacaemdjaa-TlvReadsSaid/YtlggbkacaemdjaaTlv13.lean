/-
  How many things a thing is: by the program.
-/
import Derived.Test.YtlggbkacaemdjaaTlv12
namespace Go.Proofs.Ytlggbkacaemdjaa
open Go.RowKit Go.Shelf
set_option linter.unusedVariables false
set_option linter.unusedSimpArgs false
attribute [local go_sem] Oper.semAt_some

theorem passX_put {c1 c2 : Nat} (W : World) (l : Nat) (o o' : Obj) (hl : W.heap[l]? = some o) (ho : o.isCells = false) : PassX c1 c2 W (W.putObj l o') :=
  ⟨by simp [World.putObj], fun b k v _ _ hv => cell_kept hv (grownBy_putObj' W l o') (fun r e => by cases e; exact ⟨o, hl, ho⟩)⟩
theorem passX_set {c1 c2 : Nat} (W : World) (k : Nat) (v : Value) {c : Nat} (hc : c = c1 ∨ c = c2) : PassX c1 c2 W (W.setCell ⟨c, k, none⟩ v) :=
  ⟨by simp [World.setCell], fun b o u h1 h2 hu => by
    rw [World.cell?_of_block (Below.heap_setCell W ⟨c, k, none⟩ v b (by show b ≠ c; rcases hc with rfl | rfl <;> assumption))]
    exact hu⟩
theorem cell_new_b (W : World) (v : Value) (t : TypeId) : (W.alloc (.cells #[v] t)).cell? ⟨W.heap.size, 0, none⟩ = some v ∧ (W.alloc (.cells #[v] t)).frozen? ⟨W.heap.size, 0, none⟩ = false :=
  ⟨Holds.cell (Holds.fresh W t #[v]) 0, Holds.open_ (Holds.fresh W t #[v]) 0⟩
set_option maxRecDepth 100000 in
set_option maxHeartbeats 2000000 in
theorem count_any (t : Lt) (w : World) (B : Nat) (hr : TrAt w B t) (hB : B ≤ w.heap.size) (hmx : t.t.count ≤ 1000000) :
    Calls Try.prog 13 #[t.val] w fun e w' => e = .returned (.int .i64 (t.t.count : Int)) ∧ Below w.heap.size w w' := by
  have hcl : t.cells = #[.int .u8 (t.tag : Int), .slice t.ba t.body.length t.bc, .slice t.ka t.kids.length t.kc] := rfl
  have HALL := Lib.hid (fun W => all_in Fence.wide 2 trivial rfl t W)
  obtain ⟨w1, hw1⟩ : ∃ w1, w.alloc (.cells t.cells 25) = w1 := ⟨_, rfl⟩
  obtain ⟨w2, hw2⟩ : ∃ w2, w1.alloc (.cells #[.int .i64 0] 3) = w2 := ⟨_, rfl⟩
  obtain ⟨w3, hw3⟩ : ∃ w3, w2.alloc (.cells t.cells 25) = w3 := ⟨_, rfl⟩
  have hs1 : w1.heap.size = w.heap.size + 1 := by rw [← hw1]; simp
  have hs2 : w2.heap.size = w.heap.size + 2 := by rw [← hw2]; simp [hs1]
  have hs3 : w3.heap.size = w.heap.size + 3 := by rw [← hw3]; simp [hs2]
  have hb1 : Below w.heap.size w w1 := by rw [← hw1]; exact (Below.refl _ _).alloc (Nat.le_refl _) _
  have hb2 : Below w.heap.size w w2 := by rw [← hw2]; exact hb1.alloc hb1.size _
  have hb3 : Below w.heap.size w w3 := by rw [← hw3]; exact hb2.alloc hb2.size _
  have hbx : Holds w2 w.heap.size 25 t.cells := by rw [← hw2, ← hw1]; exact (Holds.fresh _ _ _).alloc _
  have hct : Holds w3 (w.heap.size + 1) 3 #[.int .i64 0] := by
    rw [← hw3, ← hw2, ← hs1]
    exact (Holds.fresh w1 3 #[.int .i64 0]).alloc _
  have hit : Holds w3 (w.heap.size + 2) 25 t.cells := by
    rw [← hw3, ← hs2]
    exact Holds.fresh _ _ _
  have HST := Lib.hid (all_stops Fence.wide rfl 2 trivial trivial rfl (w.heap.size + 2) (w.heap.size + 1) (w.heap.size + 1) B t w3 hit (hr.under' (hb3.mono hB)) (by omega) (by omega) (by omega) (by omega) (by omega) (by omega))
  have HCT := Lib.hid hct
  have HB3 := Lib.hid hb3
  have HLEN : Hid (∀ ys : List It, ys.map (·.1) = t.items 1 → ys.length = t.t.count) := Lib.hid fun ys h => by rw [← Lt.items_len t 1, ← h, List.length_map]
  generalize t.t.count = cnt at *
  generalize t.items 1 = its at *
  rw [Lt.val_eq] at HALL ⊢
  rw [hcl] at HALL hbx hw1 hw3
  clear hcl hr hit hct hb3 hb1 hb2
  generalize t.tag = tag at *
  generalize t.ba = ba at *
  generalize t.bc = bc at *
  generalize t.body.length = bl at *
  generalize t.ka = ka at *
  generalize t.kids.length = n at *
  generalize t.kc = kc at *
  have z0 : w2.cell? ⟨w.heap.size, 0, none⟩ = some (.int .u8 (tag : Int)) := hbx.cell 0
  have z1 : w2.cell? ⟨w.heap.size, 1, none⟩ = some (.slice ba bl bc) := hbx.cell 1
  have z2 : w2.cell? ⟨w.heap.size, 2, none⟩ = some (.slice ka n kc) := hbx.cell 2
  rw [← hw2, ← hw1] at z0 z1 z2
  rw [← hw3, ← hw2, ← hw1] at HST HCT HB3
  clear hw1 hw2 hw3 hs1 hs2 hs3
  clear hbx
  have y0 : (w.alloc (.cells #[.int .u8 (tag : Int), .slice ba bl bc, .slice ka n kc] 25)).cell? ⟨w.heap.size, 0, none⟩ = some (.int .u8 (tag : Int)) := (Holds.fresh w 25 #[.int .u8 (tag : Int), .slice ba bl bc, .slice ka n kc]).cell 0
  have y1 : (w.alloc (.cells #[.int .u8 (tag : Int), .slice ba bl bc, .slice ka n kc] 25)).cell? ⟨w.heap.size, 1, none⟩ = some (.slice ba bl bc) := (Holds.fresh w 25 #[.int .u8 (tag : Int), .slice ba bl bc, .slice ka n kc]).cell 1
  have y2 : (w.alloc (.cells #[.int .u8 (tag : Int), .slice ba bl bc, .slice ka n kc] 25)).cell? ⟨w.heap.size, 2, none⟩ = some (.slice ka n kc) := (Holds.fresh w 25 #[.int .u8 (tag : Int), .slice ba bl bc, .slice ka n kc]).cell 2
  refine (callsIn_wide (n := 3)).1 ?_
  refine callsIn_of_wp_marks Try.func13 rfl trivial ?_ rfl
  simp only [Try.ntmps13, List.size_toArray, List.length_cons, List.length_nil, Nat.reduceAdd, Nat.reduceSub, Array.replicate_succ, Array.replicate_zero, List.push_toArray, List.append_toArray, List.nil_append, List.cons_append]
  gi_wp2_with (refine ⟨trivial, ?_⟩; gi_at_call 24; refine (HALL.out _).mono ?_; rintro e w' ⟨rfl, rfl⟩)
  have hsz : (((w.alloc (.cells #[.int .u8 (tag : Int), .slice ba bl bc, .slice ka n kc] 25)).alloc (.cells #[.int .i64 0] 3)).alloc (.cells #[.int .u8 (tag : Int), .slice ba bl bc, .slice ka n kc] 25)).heap.size = w.heap.size + 3 := by simp
  generalize (((w.alloc (.cells #[.int .u8 (tag : Int), .slice ba bl bc, .slice ka n kc] 25)).alloc (.cells #[.int .i64 0] 3)).alloc (.cells #[.int .u8 (tag : Int), .slice ba bl bc, .slice ka n kc] 25)) = W3 at *
  clear z0 z1 z2 y0 y1 y2 HALL
  refine wpIn_rangeFunc_ownF rfl (by omega) (gf := 36) (lb := #[.pointer (some ⟨w.heap.size + 2, 0, none⟩)]) rfl trivial (enters_of Try.func36 (by kernel_rfl) rfl) HST.out PassX.trans (fun W l o o' _ hl ho _ => passX_put W l o o' hl ho) (Below.refl _ _) (fun _ => rfl)
    (fun pre W => (W.cell? ⟨w.heap.size + 1, 0, none⟩ = some (.int .i64 (pre.length : Int)) ∧ W.frozen? ⟨w.heap.size + 1, 0, none⟩ = false) ∧ Below w.heap.size w W)
    (fun _ _ _ => False)
    (OwnFrom.and (Own.from (fun s A B row hs hg hr => ⟨cell_kept hs.1 hg hr, (frozen_kept hs.1 hg hr).trans hs.2⟩) _) (ownFrom_below (Nat.le_refl _) (by omega)))
    (fun _ _ _ _ _ hs _ _ => hs)
    ⟨⟨HCT.out.cell 0, HCT.out.open_ 0⟩, HB3.out⟩
    (fun x => { tmps := #[.agg #[.int .u8 (tag : Int), .slice ba bl bc, .slice ka n kc], .pointer (some ⟨w.heap.size, 0, none⟩), .int .i64 0, .pointer (some ⟨w.heap.size + 1, 0, none⟩), .agg #[.int .u8 (tag : Int), .slice ba bl bc, .slice ka n kc], .func (.func 36) #[] #[.pointer (some ⟨w.heap.size + 2, 0, none⟩)], .int .i64 (x.1.1 : Int), x.1.2.val, undef, undef, undef], defers := [] }) ?assign ?body ?done ?stop
  case assign =>
    intro l x W K hK
    simp [itv]
    gi_wp2
    exact hK
  case body =>
    rintro l pre x W ⟨⟨hc, hf⟩, hBW⟩ hlt
    have hws : IntKind.i64.wrap ((pre.length : Int) + 1) = ((pre ++ [x]).length : Int) := by rw [IntWalk.i64_in _ (by omega), List.length_append]; push_cast; rfl
    have hl1 : ((pre ++ [x]).length : Int) = (pre.length : Int) + 1 := by rw [List.length_append]; push_cast; rfl
    gi_wp2
    exact ⟨KeepsOthers.setCell _ _ _, passX_set _ _ _ (.inl rfl), ⟨by rw [hl1]; exact World.cell?_setCell_same' _ _ _ (by rw [hc]; rfl), by rw [World.frozen?_setCell]; exact hf⟩, hBW.setCell (p := ⟨w.heap.size + 1, 0, none⟩) (by show _ ≤ w.heap.size + 1; omega) _⟩
  case done =>
    rintro D ys W hD hS ⟨⟨hc, hf⟩, hBW⟩ hK
    have hyl := HLEN.out ys hS
    rw [hyl] at hc
    gi_wp2
    refine ⟨by simp, .inl ⟨_, _, rfl, run_takeDeferred hK, ?_⟩⟩
    exact ⟨_, results_tmp rfl _ _ _, rfl, hBW.trans (belowK_b (w := w) (Nat.le_refl _) W D _ _ (by omega) hK rfl rfl)⟩
  case stop =>
    rintro D c pre W _ _ h _
    exact h.elim
end Go.Proofs.Ytlggbkacaemdjaa
