/-
  A sector written.
-/
import Derived.Test.YtkmbgbbmhpidkaaDev3
import Derived.Deep.WholeRow
import Derived.Deep.RegionHeld3
import Derived.BigRegion
import Derived.Deep.RegionLaw
import Derived.Deep.AppendLies
namespace Go.Proofs.Ytkmbgbbmhpidkaa
open Go.RowKit
set_option linter.unusedVariables false
set_option linter.unusedSimpArgs false

def zwait : Array Value := #[Value.int .i64 0] ++ zrow
theorem info_wait : (Try.prog.info? 88).map (fun i => (i.zero, i.size, i.bytes)) = some (some (.agg zwait), 65, 72) := by kernel_rfl
theorem zero_wait : (∀ W, (zeroValue 88).run Try.prog W = .ok (.agg zwait) W) ∧ (Try.prog.info? 88).map (·.size) = some 65 :=
  zero_of_info (by have h := info_wait; cases hq : Try.prog.info? 88 with
    | none => simp [hq] at h
    | some i => simp [hq] at h; simp [h.1, h.2.1])
theorem size_sector : (Try.prog.info? 86).map (·.size) = some 64 := by kernel_rfl
theorem zwait_size : zwait.size = 65 := by simp [zwait, zrow, nums_size, zsec]
theorem wcell_length {p : Nat × List Nat} (h : p.2.length = 64) : (wcell p).length = 65 := by simp [wcell, vals_length, h]
theorem wcell_one (p : Nat × List Nat) : ∀ u ∈ wcell p, u.oneCell' = true := by
  intro u hu
  rcases List.mem_cons.1 hu with rfl | hu
  · rfl
  · exact vals_one _ _ u hu
/-- A wait of its own: its place, then noughts; then its sector over them. -/
theorem wait_made {W : World} {g i : Nat} {x : List Nat} (hx : x.length = 64) (h : Holds W g 88 (zwait.toList.set 0 (.int .i64 (i : Int))).toArray) :
    W.there g 1 64 ∧ Holds (W.setCells g 1 (vals .u8 x)) g 88 (wcell (i, x)).toArray := by
  have hz65 : zwait.toList.length = 65 := zwait_size
  have hs : (zwait.toList.set 0 (.int .i64 (i : Int))).toArray.size = 65 := by rw [List.size_toArray, List.length_set, hz65]
  constructor
  · intro j hj
    refine ⟨?_, h.open_ _⟩
    rw [h.cell, Array.getElem?_eq_getElem (by rw [hs]; omega)]; rfl
  · obtain ⟨cur', a1, a2, a3, a4⟩ := setCells_whole (vals .u8 x) 1 W _ h (by rw [vals_length, hx, hs]; omega)
    rw [vals_length, hx] at a3 a4
    have e : cur' = (wcell (i, x)).toArray := by
      apply Array.ext_getElem?
      intro j
      rcases j with _ | j
      · rw [a3 0 (by omega), List.getElem?_toArray, List.getElem?_set_self (by rw [hz65]; omega)]; simp [wcell]
      · rcases Nat.lt_or_ge j 64 with hj | hj
        · rw [Nat.add_comm j 1, a4 j hj]; simp [wcell, Nat.add_comm]
        · rw [Array.getElem?_eq_none (by rw [a2, hs]; omega), Array.getElem?_eq_none (by simp [wcell, vals_length, hx]; omega)]
    show _ = _
    rw [a1, e]
theorem holds_over {W : World} {g : Nat} {T : TypeId} {cs : Array Value} (h : Holds W g T cs) (vs : List Value) (hl : vs.length = cs.size) : Holds (W.setCells g 0 vs) g T vs.toArray := by
  obtain ⟨cur', a1, a2, a3, a4⟩ := setCells_whole vs 0 W cs h (by omega)
  have e : cur' = vs.toArray := by
    apply Array.ext_getElem?
    intro j
    rcases Nat.lt_or_ge j vs.length with hj | hj
    · have := a4 j hj
      rw [Nat.zero_add] at this
      rw [this, List.getElem?_toArray]
    · rw [Array.getElem?_eq_none (by omega), Array.getElem?_eq_none (by simp; omega)]
  show _ = _
  rw [a1, e]
theorem store_over {P : Program} (W : World) (g : Nat) (T : TypeId) (cs : Array Value) (h : Holds W g T cs) (vs : List Value) (hl : vs.length = cs.size) (h1 : ∀ u ∈ vs, u.oneCell' = true) :
    (storeCells ⟨g, 0, none⟩ vs).run P W = .ok () (W.setCells g 0 vs) := by
  have := run_storeCells_cells (P := P) g 0 vs 0 W (fun j hj => by rw [h.cell, Array.getElem?_eq_getElem (by omega)]; rfl) (fun j hj => h.open_ _) h1
  exact this
theorem store_wait (W : World) (g : Nat) (C C' : Array Value) (h : Holds W g 88 C) (hs : C.size = 65) (hs' : C'.size = 65) (h1 : ∀ u ∈ C', u.oneCell' = true) :
    (Instr.storeAt 88 (.pointer (some ⟨g, 0, none⟩)) (.agg C')).run Try.prog W = .ok () (W.setRow g C') := by
  simp only [Instr.storeAt, Instr.sureAddr, Sem.run_bind, Sem.run_pure, Result.andThen]
  exact run_storeVar_row (P := Try.prog) W g 88 88 C C' h (by rw [zero_wait.2, hs']) (by rw [hs, hs']) (Array.all_eq_true_iff_forall_mem.2 h1)
theorem zwait_one (i : Nat) : ∀ u ∈ zwait.toList.set 0 (.int .i64 (i : Int)), u.oneCell' = true := by
  intro u hu
  rcases List.mem_or_eq_of_mem_set hu with h | rfl
  · have h2 : zwait.toList = Value.int .i64 0 :: vals .u8 zsec := by simp [zwait, zrow, nums, vals]
    rw [h2] at h
    rcases List.mem_cons.1 h with rfl | h
    · rfl
    · exact vals_one _ _ u h
  · rfl
theorem load_sector (W : World) (g o : Nat) (x : List Nat) (hx : x.length = 64) (h : W.rangeAt g o (vals .u8 x)) : (Instr.loadAt 86 (.pointer (some ⟨g, o, none⟩))).run Try.prog W = .ok (.agg (vals .u8 x).toArray) W :=
  run_loadAt_mid W g o 86 (vals .u8 x) _ h Try.underlying86 rfl (by rw [size_sector, vals_length, hx])
theorem store_sector (W : World) (g o : Nat) (x : List Nat) (hx : x.length = 64) (h : W.there g o 64) : (Instr.storeAt 86 (.pointer (some ⟨g, o, none⟩)) (.agg (vals .u8 x).toArray)).run Try.prog W = .ok () (W.setCells g o (vals .u8 x)) := by
  have h' := run_storeAt_mid (P := Try.prog) W g o 86 (vals .u8 x).toArray (by rw [List.size_toArray, vals_length, hx]; exact h) (by rw [size_sector, List.size_toArray, vals_length, hx]) (all_oneCell_toArray (vals_one _ _))
  simpa using h'
theorem load_wait (W : World) (g o : Nat) (p : Nat × List Nat) (hp : p.2.length = 64) (h : W.rangeAt g o (wcell p)) : (Instr.loadAt 88 (.pointer (some ⟨g, o, none⟩))).run Try.prog W = .ok (.agg (wcell p).toArray) W :=
  run_loadAt_mid W g o 88 (wcell p) _ h Try.underlying88 rfl (by rw [zero_wait.2, wcell_length hp])
theorem load_cells {P : Program} (W : World) (b o n : Nat) (cs : List Value) (hn : cs.length = n) (h : W.rangeAt b o cs) : (loadCellsFrom ⟨b, o, none⟩ 0 n #[]).run P W = .ok cs.toArray W := by
  subst hn
  have := run_loadCells_list (P := P) W ⟨b, o, none⟩ cs (fun j v hv => by rw [Addr.add_mid]; exact h j v hv)
  simpa [loadCells] using this
theorem store_cells {P : Program} (W : World) (b o : Nat) (vs : List Value) (h : W.there b o vs.length) (h1 : ∀ u ∈ vs, u.oneCell' = true) : (storeCells ⟨b, o, none⟩ vs).run P W = .ok () (W.setCells b o vs) :=
  run_storeCells_cells (P := P) b o vs 0 W (fun j hj => (h j hj).1) (fun j hj => (h j hj).2) h1
theorem range_of_holds {W : World} {g : Nat} {t : TypeId} {cs : List Value} (h : Holds W g t cs.toArray) : W.rangeAt g 0 cs := fun j v hv => by
  rw [Nat.zero_add, h.cell, List.getElem?_toArray]; exact hv
theorem copy_from (W : World) (b o : Nat) (B : Nat) (A2 : Option Addr) (c2 : Nat) (x : List Nat) (hx : x.length = 64) (hr : Rd .u8 W B A2 c2 x) (ht : W.there b o 64) :
    (Builtin.copy_ #[40, 40] 3 #[.slice (some ⟨b, o, none⟩) 64 64, .slice A2 64 c2]).run Try.prog W = .ok (.int .i64 64) (W.setCells b o (vals .u8 x)) := by
  obtain ⟨b2, o2, rfl, _, hc⟩ := hr.2.2 (by omega)
  have h := run_copy_cells (P := Try.prog) W 40 40 3 5 b o 64 64 ⟨b2, o2, none⟩ 64 c2 (vals .u8 x) Try.underlying40 size_u8 (by rw [vals_length, hx]; rfl) (fun j v hv => by
      have hj : j < x.length := by have := (List.getElem?_eq_some_iff.1 hv).1; rwa [vals_length] at this
      rw [Addr.add_mid, hc j hj, ← vals_at .u8 x hj, hv])
    (fun j hj => (ht j (by rw [vals_length] at hj; omega)).1) (fun j hj => (ht j (by rw [vals_length] at hj; omega)).2) (vals_one _ _)
  rw [vals_length, hx] at h
  exact h

theorem fold_fill {α : Type} : ∀ (l : List α) (cs : List α) (k : Nat), k + l.length = cs.length → ((l.zipIdx k).foldl (fun (c : Array α) x => c.setIfInBounds x.2 x.1) cs.toArray) = (cs.take k ++ l).toArray
  | [], cs, k, h => by simp at h ⊢; rw [List.take_of_length_le (by omega)]
  | x :: l, cs, k, h => by
    simp only [List.length_cons] at h
    rw [List.zipIdx_cons, List.foldl_cons, List.setIfInBounds_toArray, fold_fill l (cs.set k x) (k + 1) (by rw [List.length_set]; omega)]
    congr 1
    have hk : (cs.take k).length = k := by rw [List.length_take]; omega
    have e : (cs.set k x).take (k + 1) = cs.take k ++ [x] := by
      rw [List.take_set, List.take_add_one, List.getElem?_eq_getElem (by omega), List.set_append_right _ _ (by omega), hk, Nat.sub_self]
      rfl
    rw [e, List.append_assoc]
    rfl
/-- A row of one element that is many cells. -/
theorem build_one {P : Program} (W : World) (t e : TypeId) (i : TypeInfo) (z : Array Value) (cs : List Value) (ht : P.underlying t = some (.slice e)) (hi : P.info? e = some i) (hz : i.zero = some (.agg z)) (hs : i.size = cs.length) (h0 : cs.length ≠ 0) (hb : cs.length ≤ 1000) :
    (Instr.buildSlice t 1 #[(0, .agg cs.toArray)]).run P W = .ok (.slice (some ⟨W.heap.size, 0, none⟩) 1 1) (W.alloc (.cells cs.toArray e)) := by
  have hfill : ∀ Z : Array Value, Z.size = 1 * cs.length → Instr.fill (fun i => some (i * cs.length, cs.length)) Z [(0, .agg cs.toArray)] = some cs.toArray := by
    intro Z hZ
    have h2 := fold_fill cs Z.toList 0 (by simp [hZ])
    have e1 : (cs.toArray.zipIdx.foldl (fun (c : Array Value) x => c.setIfInBounds (0 * cs.length + x.2) x.1) Z) = cs.toArray := by
      rw [show (fun (c : Array Value) (x : Value × Nat) => c.setIfInBounds (0 * cs.length + x.2) x.1) = (fun c x => c.setIfInBounds x.2 x.1) by funext c x; rw [Nat.zero_mul, Nat.zero_add]]
      simpa using h2
    unfold Instr.fill
    change (if (decide (cs.toArray.size ≠ cs.length) || decide (0 * cs.length + cs.toArray.size > Z.size)) = true then none else Instr.fill (fun i => some (i * cs.length, cs.length)) (cs.toArray.zipIdx.foldl (fun (c : Array Value) x => c.setIfInBounds (0 * cs.length + x.2) x.1) Z) []) = some cs.toArray
    rw [if_neg (by simp [hZ]), e1]
    rfl
  have h1 : (sizeOf e).run P W = .ok cs.length W := by simp [sizeOf, typeInfo, hi, hs]
  have h2 : (zeroValue e).run P W = .ok (.agg z) W := by simp [zeroValue, typeInfo, hi, hz]
  have hn0 : ¬ (1 * cs.length > 2 ^ 24) := by omega
  have hn1 : ¬ (1 * cs.length = 0) := by omega
  unfold Instr.buildSlice
  simp only [Sem.run_bind, run_underlying ht, Result.andThen_ok, h1, h2, if_neg hn0, if_neg hn1, Sem.run_pure]
  rw [hfill _ (by simp)]
  rfl
theorem wp_build_one {P : Program} {op : Oper} {a : Act} {W : World} {K : Act → World → Prop} {Q : Exit → Act → World → Prop} (t : TypeId) (x : Operand) (ho : op.op = .buildSlice t 1 #[(0, x)]) (cs : List Value) (hx : a.eval x = .agg cs.toArray)
    (e : TypeId) (hrun : (Instr.buildSlice t 1 #[(0, .agg cs.toArray)]).run P W = .ok (.slice (some ⟨W.heap.size, 0, none⟩) 1 1) (W.alloc (.cells cs.toArray e)))
    (h : K (a.put op.dst (.slice (some ⟨W.heap.size, 0, none⟩) 1 1)) (W.alloc (.cells cs.toArray e))) : op.wp P a W K Q := by
  have e1 : ((#[(0, x)] : Array (Nat × Operand)).map fun (i, x) => (i, a.eval x)) = #[(0, .agg cs.toArray)] := by simp [hx]
  unfold Oper.wp execOp
  simp only [ho]
  rw [e1]
  simp only [Sem.run_bind, hrun, Result.andThen_ok, Sem.run_pure]
  exact h
/-- An append of one wait at a step of a region that draws its order. -/
theorem step_wait (w : World) {ops : Array Oper} {o : Oper} {a : Act} {K : Act → World → Prop} {Q : Exit → Act → World → Prop} {E : Prop} (hgd : o.guard = none) (s x : Operand)
    (ho : o.op = .call { callee := .builtin .append, args := #[s, x], argTypes := #[60, 60] })
    {A : Option Addr} {n c : Nat} {W : List (Nat × List Nat)} (hs : a.eval s = .slice A n c) (hn : W.length = n) (hw : Waits w A c W)
    {g c2 : Nat} {p : Nat × List Nat} (hx : a.eval x = .slice (some ⟨g, 0, none⟩) 1 c2) (hg : Holds w g 88 (wcell p).toArray) (hp : p.2.length = 64) (hsz : n ≤ 100000)
    (hK : ∀ g' c' w', Waits w' (some ⟨g', 0, none⟩) c' (W ++ [p]) → w.grownBy w' (blockOf A) → (blockOf A = some g' ∨ g' = w.heap.size) → g' < w'.heap.size → K (a.put o.dst (.slice (some ⟨g', 0, none⟩) (n + 1) c')) w') :
    if Region.wanted o (yielded ops a.tmps) = true then Oper.wp Try.prog o a w K Q else E := by
  subst hn
  obtain ⟨i, hi', hz, hsize, hbytes⟩ := info_parts info_wait
  refine step_append_lies w hgd s x 60 ho 0 88 i (.agg zwait) 65 72 Try.underlying60 hi' hz hsize hbytes zwait_size (by omega) (.slice A W.length c) W.length (wcells W) hs hw.own ⟨g, 0, none⟩ 1 c2 (wcell p) hx (by rw [wcell_length hp])
    (fun j u hu => World.news_of_block (cs := (wcell p).toArray) hg j u (by simpa using hu)) (wcell_one p) (by omega) (by unfold maxLen; omega) (by omega) (Nat.zero_le _) w.heap.size rfl ?_
  intro g' cap w' hown' hgr hat hlt
  rw [ownBlock_eq] at hgr hat
  refine hK g' cap w' ⟨?_, fun q hq => ?_⟩ hgr hat hlt
  · rw [List.length_append, wcells_snoc]; exact hown'
  · rcases List.mem_append.1 hq with h | h
    · exact hw.len q h
    · obtain rfl := List.mem_singleton.1 h; exact hp

theorem DiskAt.head {w : World} {gd gn gl : Nat} {A : Option Addr} {cw : Nat} {K : Option Addr} {ck : Nat} {s : Dk} (h : DiskAt w gd gn gl A cw K ck s) (i : Nat) (v : Value) (s' : Dk) (e1 : s'.now = s.now) (e2 : s'.lasts = s.lasts) (e3 : s'.waits = s.waits) (e4 : s'.keep = s.keep)
    (hc : (dcells gn gl s.now.length A s.waits.length cw s.ops s.armed s.at_ K s.keep.length ck s.down).setIfInBounds i v = dcells gn gl s.now.length A s.waits.length cw s'.ops s'.armed s'.at_ K s.keep.length ck s'.down) :
    DiskAt (w.setCell ⟨gd, i, none⟩ v) gd gn gl A cw K ck s' := by
  have k : ∀ g, g ≠ gd → (w.setCell ⟨gd, i, none⟩ v).heap[g]? = w.heap[g]? := fun g hne => Below.heap_setCell w ⟨gd, i, none⟩ v g hne
  have hsz : (w.setCell ⟨gd, i, none⟩ v).heap.size = w.heap.size := by simp [World.setCell]
  exact {
    hd := by have := Holds.stored h.hd i v; rw [hc] at this; rw [e1, e3, e4]; exact this
    hn := by rw [e1]; exact h.hn.keep (k gn fun e => h.dn e.symm)
    hl := by rw [e2]; exact h.hl.keep (k gl fun e => h.dl e.symm)
    len := by rw [e1, e2]; exact h.len
    hw := by rw [e3]; exact h.hw.keep fun g hg => k g fun e => h.ad.1 (by rw [hg, e])
    hk := by rw [e4]; exact h.hk.keep (Nat.le_of_eq hsz.symm) fun g hg _ => k g fun e => h.kd.1 (by rw [hg, e])
    dn := h.dn
    dl := h.dl
    nl := h.nl
    ad := h.ad
    kd := h.kd
    kw := fun g hg => by rw [hsz]; exact h.kw g hg
    n1 := by rw [e1]; exact h.n1
    n2 := by rw [e1]; exact h.n2
    wat := by rw [e1, e3]; exact h.wat }
theorem disk_pushed {W2 V W3 : World} {gd gn gl : Nat} {A : Option Addr} {cw : Nat} {K : Option Addr} {ck : Nat} {s : Dk} (hd : DiskAt W2 gd gn gl A cw K ck s) (hV : ∀ g, g < W2.heap.size → V.heap[g]? = W2.heap[g]?) (hVs : W2.heap.size ≤ V.heap.size)
    {g' c' : Nat} {p : Nat × List Nat} (hp1 : p.1 < s.now.length) (hw3 : Waits W3 (some ⟨g', 0, none⟩) c' (s.waits ++ [p])) (hg3 : V.grownBy W3 (blockOf A)) (hat : blockOf A = some g' ∨ g' = V.heap.size) :
    DiskAt (W3.setCell ⟨gd, 2, none⟩ (.slice (some ⟨g', 0, none⟩) (s.waits.length + 1) c')) gd gn gl (some ⟨g', 0, none⟩) c' K ck { s with waits := s.waits ++ [p] } ∧
      Holds W3 gd 62 (dcells gn gl s.now.length A s.waits.length cw s.ops s.armed s.at_ K s.keep.length ck s.down) := by
  have keep : ∀ g, g < W2.heap.size → blockOf A ≠ some g → W3.heap[g]? = W2.heap[g]? := fun g hg hne => (hg3.block g (by omega) (fun e => hne e.symm)).trans (hV g hg)
  have hh3 : Holds W3 gd 62 (dcells gn gl s.now.length A s.waits.length cw s.ops s.armed s.at_ K s.keep.length ck s.down) := (keep gd (Holds.lt hd.hd) hd.ad.1).trans hd.hd
  have k : ∀ v g, g ≠ gd → (W3.setCell ⟨gd, 2, none⟩ v).heap[g]? = W3.heap[g]? := fun v g hne => Below.heap_setCell W3 ⟨gd, 2, none⟩ v g hne
  have hsz : ∀ v, (W3.setCell ⟨gd, 2, none⟩ v).heap.size = W3.heap.size := fun v => by simp [World.setCell]
  have h1 : g' ≠ gd ∧ g' ≠ gn ∧ g' ≠ gl ∧ ∀ g, blockOf K = some g → g' ≠ g := by
    have l1 := Holds.lt hd.hd
    have l2 := hd.hn.lt
    have l3 := hd.hl.lt
    rcases hat with e | e
    · exact ⟨fun x => hd.ad.1 (by rw [e, x]), fun x => hd.ad.2.1 (by rw [e, x]), fun x => hd.ad.2.2 (by rw [e, x]), fun g hg x => hd.kd.2.2.2 g hg (by rw [e, x])⟩
    · exact ⟨by omega, by omega, by omega, fun g hg => by have := hd.kw g hg; omega⟩
  have hW3 : W2.heap.size ≤ W3.heap.size := Nat.le_trans hVs hg3.size
  refine ⟨?_, hh3⟩
  exact {
    hd := by have := Holds.stored hh3 2 (.slice (some ⟨g', 0, none⟩) (s.waits.length + 1) c'); show Holds _ _ _ (dcells gn gl s.now.length (some ⟨g', 0, none⟩) (s.waits ++ [p]).length c' s.ops s.armed s.at_ K s.keep.length ck s.down); rw [List.length_append]; exact this
    hn := hd.hn.keep ((k _ gn fun e => hd.dn e.symm).trans (keep gn hd.hn.lt hd.ad.2.1))
    hl := hd.hl.keep ((k _ gl fun e => hd.dl e.symm).trans (keep gl hd.hl.lt hd.ad.2.2))
    len := hd.len
    hw := hw3.keep fun g hg => k _ g (by obtain rfl : g' = g := by simpa [blockOf] using hg
                                         exact h1.1)
    hk := hd.hk.keep (by rw [hsz]; exact hW3) fun g hg hlt => (k _ g fun e => hd.kd.1 (by rw [hg, e])).trans (keep g hlt (hd.kd.2.2.2 g hg))
    dn := hd.dn
    dl := hd.dl
    nl := hd.nl
    ad := by simp only [blockOf, Option.map_some, ne_eq, Option.some.injEq]; exact ⟨h1.1, h1.2.1, h1.2.2.1⟩
    kd := ⟨hd.kd.1, hd.kd.2.1, hd.kd.2.2.1, fun g hg => by simp only [blockOf, Option.map_some, ne_eq, Option.some.injEq]; exact h1.2.2.2 g hg⟩
    kw := fun g hg => by rw [hsz]; exact Nat.lt_of_lt_of_le (hd.kw g hg) hW3
    n1 := hd.n1
    n2 := hd.n2
    wat := fun q hq => by
      rcases List.mem_append.1 hq with h | h
      · exact hd.wat q h
      · obtain rfl := List.mem_singleton.1 h; exact hp1 }
/-- Behind a Write that was well. -/
def WrotePost (w : World) (gd gn gl : Nat) (A K : Option Addr) (ck : Nat) (s : Dk) (i : Nat) (x : List Nat) (e : Ending) (w' : World) : Prop :=
  e = .returned (.int .i64 0) ∧ ∃ g' c', DiskAt w' gd gn gl (some ⟨g', 0, none⟩) c' K ck { s with now := s.now.set i x, waits := s.waits ++ [(i, x)], ops := s.ops + 1 } ∧ (blockOf A = some g' ∨ w.heap.size ≤ g') ∧ Only (fun k => k = gd ∨ k = gn ∨ blockOf A = some k) w w'

set_option maxRecDepth 100000 in
set_option maxHeartbeats 4000000 in
theorem write_ok (w : World) (gd gn gl : Nat) (A : Option Addr) (cw : Nat) (K : Option Addr) (ck : Nat) (s : Dk) (h : DiskAt w gd gn gl A cw K ck s) (i : Nat) (hi : i < s.now.length) (x : List Nat) (hx : x.length = 64) (hdn : s.down = false) (hdue : (s.armed && decide (s.at_ ≤ (s.ops : Int))) = false)
    (A2 : Option Addr) (c2 : Nat) (hr : Rd .u8 w w.heap.size A2 c2 x) (hwl : s.waits.length ≤ 100000) (hops : s.ops ≤ 1000000000) :
    Calls Try.prog 20 #[.pointer (some ⟨gd, 0, none⟩), .int .i64 i, .slice A2 64 c2] w fun e w' => WrotePost w gd gn gl A K ck s i x e w' := by
  have c0 : w.cell? ⟨gd, 0, none⟩ = some (.slice (some ⟨gn, 0, none⟩) s.now.length s.now.length) := h.hd.cell 0
  have c3 : w.cell? ⟨gd, 3, none⟩ = some (.int .i64 s.ops) := h.hd.cell 3
  have c4 : w.cell? ⟨gd, 4, none⟩ = some (.bool s.armed) := h.hd.cell 4
  have c5 : w.cell? ⟨gd, 5, none⟩ = some (.int .i64 s.at_) := h.hd.cell 5
  have c7 : w.cell? ⟨gd, 7, none⟩ = some (.bool s.down) := h.hd.cell 7
  have HC1 := Lib.hid (down_any w gd _ c7)
  rw [hdn] at HC1
  have HC2 := Lib.hid (has_any w gd _ _ _ i c0 true (by rw [Bool.eq_iff_iff]; simp; omega))
  have HC3 := Lib.hid (due_any w gd _ _ _ c3 c4 c5 false hdue.symm)
  have HH := Lib.hid h
  have HX := Lib.hid hx
  have HR := Lib.hid hr
  have HWL := Lib.hid hwl
  have HOPS := Lib.hid hops
  have HGD0 := Lib.hid (Holds.lt h.hd)
  have HHL : Hid (∀ g, blockOf A = some g → g < w.heap.size) := Lib.hid fun g hg => h.hw.lt hg
  clear h c0 c3 c4 c5 c7 hx hdn hdue hr hwl hops
  go_enter Try.func20, Try.ntmps20
  have hzv := zero_wait.1
  have HZS := Lib.hid zwait_size
  have hne : (zwait = #[]) = False := by rw [eq_iff_iff]; simp; intro e; have := zwait_size; rw [e] at this; simp at this
  have HZ1 : Hid (∀ i : Nat, ∀ u ∈ zwait.toList.set 0 (.int .i64 (i : Int)), u.oneCell' = true) := Lib.hid zwait_one
  have HWM : Hid (∀ (W : World) (g i : Nat) (x : List Nat), x.length = 64 → Holds W g 88 (zwait.toList.set 0 (.int .i64 (i : Int))).toArray → W.there g 1 64 ∧ Holds (W.setCells g 1 (vals .u8 x)) g 88 (wcell (i, x)).toArray) := Lib.hid fun W g i x => wait_made
  generalize zwait = zw at *
  go_wp2_with (first
    | (refine HC1.out.mono ?_; rintro e w1 ⟨rfl, rfl⟩)
    | (refine HC2.out.mono ?_; rintro e w1 ⟨rfl, rfl⟩)
    | fail)
  refine HC3.out.mono ?_
  rintro e w1 ⟨rfl, q, rfl⟩
  have hh1 : Holds ((w.drewN q).alloc (.cells zw 88)) w.heap.size 88 zw := Holds.fresh (w.drewN q) _ _
  have hlz : (zw.toList.set 0 (.int .i64 (i : Int))).length = zw.size := by rw [List.length_set]; rfl
  have hst := store_over (P := Try.prog) _ _ _ zw hh1 (zw.toList.set 0 (.int .i64 (i : Int))) hlz (HZ1.out i)
  have hh2 := holds_over hh1 (zw.toList.set 0 (.int .i64 (i : Int))) hlz
  obtain ⟨hth, hh3⟩ := HWM.out _ _ _ x HX.out hh2
  have ho : Only (fun _ => False) w ((w.drewN q).alloc (.cells zw 88)) := ((Only.refl _ _).drewN q).alloc _
  have ho2 := Only.setCells (g := w.heap.size) (.inr (Nat.le_refl _)) (zw.toList.set 0 (.int .i64 (i : Int))) 0 ho
  have ho3 := Only.setCells (g := w.heap.size) (.inr (Nat.le_refl _)) (vals .u8 x) 1 ho2
  have hcp := copy_from _ w.heap.size 1 _ A2 c2 x HX.out (HR.out.under (ho2.below (B := w.heap.size) (fun k hk => hk.elim) (Nat.le_refl _))) hth
  have HH3 := Lib.hid hh3
  have HO3 := Lib.hid ho3
  clear hh1 HC1 HC2 HC3 hh2 hth ho ho2 hh3 ho3 hlz
  go_wp2_with fail
  have hh3 := HH3.out
  have ho3 := HO3.out
  clear hst hcp HH3 HO3 HZ1 HWM hzv hne HZS HR
  generalize (((w.drewN q).alloc (.cells zw 88)).setCells w.heap.size 0 (zw.toList.set 0 (Value.int .i64 (i : Int)))).setCells w.heap.size 1 (vals .u8 x) = W1 at *
  have hh := HH.out.keepAll ho3.size (fun g _ hg => ho3.block g hg (fun e => e))
  have c0 : W1.cell? ⟨gd, 0, none⟩ = some (.slice (some ⟨gn, 0, none⟩) s.now.length s.now.length) := hh.hd.cell 0
  have hrg : W1.rangeAt w.heap.size 1 (vals .u8 x) := fun j v hv => by
    have := range_of_holds hh3 (j + 1) v (by simpa [wcell] using hv)
    rw [show 1 + j = 0 + (j + 1) by omega]
    exact this
  have hls : (vals .u8 x).length = 64 := by rw [vals_length]; exact HX.out
  have hth : W1.there gn (i * 64) 64 := hh.hn.there hi
  have hsz : (Try.prog.info? 86).map (·.size) = some (vals .u8 x).length := by rw [hls]; exact size_sector
  have hund := Try.underlying86
  have hone := vals_one .u8 x
  have hi0 : (0 : Int) ≤ (i : Int) := by omega
  have hiI : (i : Int) < (s.now.length : Int) := by omega
  have hht : W1.there gn (i * 64) (vals .u8 x).length := by rw [hls]; exact hth
  have hgn : gn < W1.heap.size := hh.hn.lt
  have hgdlt : gd < W1.heap.size := Holds.lt hh.hd
  have hwl : w.heap.size ≤ gn → False := fun e => by have := HH.out.hn.lt; omega
  have hne1 : w.heap.size ≠ gn := fun e => hwl (Nat.le_of_eq e)
  have k1 : (W1.drew.setCells gn (i * 64) (vals .u8 x)).rangeAt w.heap.size 1 (vals .u8 x) := World.rangeAt_setCells_apart (w := W1.drew) hrg gn (i * 64) _ (.inl hne1)
  have k2 : (W1.drew.setCells gn (i * 64) (vals .u8 x)).there gn (i * 64) (vals .u8 x).length := World.there_setCells (w := W1.drew) hht gn (i * 64) _
  have k3 : (W1.drew.setCells gn (i * 64) (vals .u8 x)).cell? ⟨gd, 0, none⟩ = some (.slice (some ⟨gn, 0, none⟩) s.now.length s.now.length) := (World.cell?_of_block (a := ⟨gd, 0, none⟩) (setCells_aside (fun e => hh.dn e) _ _ _)).trans c0
  have hd2 : DiskAt (W1.drew.setCells gn (i * 64) (vals .u8 x)) gd gn gl A cw K ck { s with now := s.now.set i x } := {
    hd := by
      have e := (setCells_aside (g := gn) (k := gd) hh.dn (vals .u8 x) (i * 64) W1.drew).trans hh.hd
      show Holds _ gd _ (dcells gn gl (s.now.set i x).length A s.waits.length cw s.ops s.armed s.at_ K s.keep.length ck s.down)
      rw [List.length_set]; exact e
    hn := Sect.store (w := W1.drew) hh.hn hi HX.out
    hl := hh.hl.keep (setCells_aside (fun e => hh.nl e.symm) _ _ _)
    len := by show s.lasts.length = (s.now.set i x).length; rw [List.length_set]; exact hh.len
    hw := hh.hw.keep fun g hg => setCells_aside (fun e => hh.ad.2.1 (by rw [hg, e])) _ _ _
    hk := hh.hk.keep (by rw [setCells_size]; exact Nat.le_refl _) fun g hg _ => setCells_aside (fun e => hh.kd.2.1 (by rw [hg, e])) _ _ _
    dn := hh.dn
    dl := hh.dl
    nl := hh.nl
    ad := hh.ad
    kd := hh.kd
    kw := fun g hg => by rw [setCells_size]; exact hh.kw g hg
    n1 := by show 1 ≤ (s.now.set i x).length; rw [List.length_set]; exact hh.n1
    n2 := by show (s.now.set i x).length ≤ 2000; rw [List.length_set]; exact hh.n2
    wat := fun p hp => by show p.1 < (s.now.set i x).length; rw [List.length_set]; exact hh.wat p hp }
  have hh4 : Holds (W1.drew.setCells gn (i * 64) (vals .u8 x)) w.heap.size 88 (wcell (i, x)).toArray := (setCells_aside hne1 _ _ _).trans hh3
  have ho4 : Only (fun k => k = gn) w (W1.drew.setCells gn (i * 64) (vals .u8 x)) := Only.setCells (F := fun k => k = gn) (g := gn) (.inl rfl) _ _ (ho3.more (G := fun _ => False) fun _ _ h => h.elim).drew
  have HK := Lib.hid k1
  have HK2 := Lib.hid k2
  have HK3 := Lib.hid k3
  have HD2 := Lib.hid hd2
  have HH4 := Lib.hid hh4
  have HO4 := Lib.hid ho4
  have HSN := Lib.hid hi
  generalize hn : s.now.length = n at *
  have HN := Lib.hid hn
  clear hh ho3 hh3 hn HH hth k1 k2 k3 hd2 hh4 ho4 hgn hgdlt hwl
  go_region_held3 (fun w' => w'.rangeAt w.heap.size 1 (vals .u8 x) ∧ w'.there gn (i * 64) (vals .u8 x).length ∧ w'.cell? ⟨gd, 0, none⟩ = some (.slice (some ⟨gn, 0, none⟩) n n)) (first | exact ⟨hrg, hht, c0⟩ | exact ⟨HK.out, HK2.out, HK3.out⟩) (fail)
  clear hrg hht c0 hsz hund hone HK HK2 HK3
  generalize W1.drew.setCells gn (i * 64) (vals .u8 x) = W2 at *
  go_wp2_with fail
  have hd2 := HD2.out
  have hh4 := HH4.out
  have c2' : W2.cell? ⟨gd, 2, none⟩ = some (.slice A s.waits.length cw) := hd2.hd.cell 2
  have c2a : ∀ o, (W2.alloc o).cell? ⟨gd, 2, none⟩ = some (.slice A s.waits.length cw) := fun o => (hd2.hd.alloc o).cell 2
  have f2 := hd2.hd.open_ 2
  have hrg2 := range_of_holds hh4
  have HL65 := wcell_length (p := (i, x)) HX.out
  have hbs : (Instr.buildSlice 60 1 #[(0, .agg (wcell (i, x)).toArray)]).run Try.prog W2.drew = .ok (.slice (some ⟨W2.heap.size, 0, none⟩) 1 1) (W2.drew.alloc (.cells (wcell (i, x)).toArray 88)) := by
    obtain ⟨j, hi', hz, hsize, hbytes⟩ := info_parts info_wait
    exact build_one W2.drew 60 88 j zwait (wcell (i, x)) Try.underlying60 hi' hz (by rw [hsize, HL65]) (by rw [HL65]; omega) (by rw [HL65]; omega)
  have HBS := Lib.hid hbs
  have hV : (W2.drew.alloc (.cells (wcell (i, x)).toArray 88)).heap.size = W2.heap.size + 1 := by simp
  have q2 : (W2.drew.alloc (.cells (wcell (i, x)).toArray 88)).rangeAt w.heap.size 0 (wcell (i, x)) := World.rangeAt_alloc (w := W2.drew) hrg2 _
  have hwt : Waits (W2.drew.alloc (.cells (wcell (i, x)).toArray 88)) A cw s.waits := hd2.hw.keep fun g hg => Below.heap_alloc W2.drew _ g (hd2.hw.lt hg)
  have hfr : Holds (W2.drew.alloc (.cells (wcell (i, x)).toArray 88)) W2.heap.size 88 (wcell (i, x)).toArray := Holds.fresh W2.drew _ _
  have hhV : Holds (W2.drew.alloc (.cells (wcell (i, x)).toArray 88)) gd 62 _ := Holds.alloc (w := W2.drew) hd2.hd _
  have ho4V : Only (fun k => k = gn) w (W2.drew.alloc (.cells (wcell (i, x)).toArray 88)) := HO4.out.drew.alloc _
  have keepA : ∀ g, g < W2.heap.size → (W2.drew.alloc (.cells (wcell (i, x)).toArray 88)).heap[g]? = W2.heap[g]? := fun g hg => Below.heap_alloc W2.drew _ g hg
  have HLA := Lib.hid (show ∀ g, blockOf A = some g → g < w.heap.size from HHL.out)
  have HQ2 := Lib.hid q2
  have HHV := Lib.hid hhV
  have HV := Lib.hid hV
  have HWT := Lib.hid hwt
  have HFR := Lib.hid hfr
  have HOV := Lib.hid ho4V
  have HKA := Lib.hid keepA
  have HRG := Lib.hid hrg2
  have HSN4 : Hid (i < (s.now.set i x).length) := Lib.hid (by rw [List.length_set, HN.out]; exact HSN.out)
  have HGD : Hid (gd < w.heap.size) := HGD0
  clear hd2 hh4 hbs q2 hV hwt hfr hhV ho4V keepA
  refine wp_region_noPanic ?_
  refine wp_region_held_drew (S := fun w' => w'.rangeAt w.heap.size 0 (wcell (i, x))) (by kernel_rfl) hrg2 (fun hHeld => ?_)
  refine wpAnyH_take (i := 0) (oi := { dst := some 37, op := Op.move (Operand.tmp 0), type := 23, pos := _, after := _, guard := none }) (v := ?_) rfl (by kernel_rfl) (by kernel_rfl) (by kernel_rfl) (fun _ _ _ h => h) (Or.inl ⟨by rfl, ?_⟩) hHeld ?_
  rotate_left 1
  · (intro w hSw; (try dsimp only at hSw); go_simp; try with_reducible rfl)
  try simp only [Act.put, List.setIfInBounds_toArray, List.set_cons_zero, List.set_cons_succ]
  refine wpAnyH_take (i := 1) (oi := { dst := some 38, op := Op.move (Operand.tmp 0), type := 23, pos := _, after := _, guard := none }) (v := ?_) rfl (by kernel_rfl) (by kernel_rfl) (by kernel_rfl) (fun _ _ _ h => h) (Or.inl ⟨by rfl, ?_⟩) hHeld ?_
  rotate_left 1
  · (intro w hSw; (try dsimp only at hSw); go_simp; try with_reducible rfl)
  try simp only [Act.put, List.setIfInBounds_toArray, List.set_cons_zero, List.set_cons_succ]
  refine wpAnyH_take (i := 2) (oi := { dst := some 39, op := Op.nilCheck (Operand.tmp 38), type := 0, pos := _, after := _, guard := none }) (v := ?_) rfl (by kernel_rfl) (by kernel_rfl) (by kernel_rfl) (fun _ _ _ h => h) (Or.inl ⟨by rfl, ?_⟩) hHeld ?_
  rotate_left 1
  · (intro w hSw; (try dsimp only at hSw); go_simp; try with_reducible rfl)
  try simp only [Act.put, List.setIfInBounds_toArray, List.set_cons_zero, List.set_cons_succ]
  refine wpAnyH_take (i := 3) (oi := { dst := some 40, op := Op.fieldAddr 62 (Operand.tmp 39) 2, type := 0, pos := _, after := _, guard := none }) (v := ?_) rfl (by kernel_rfl) (by kernel_rfl) (by kernel_rfl) (fun _ _ _ h => h) (Or.inl ⟨by rfl, ?_⟩) hHeld ?_
  rotate_left 1
  · (intro w hSw; (try dsimp only at hSw); go_simp; try with_reducible rfl)
  try simp only [Act.put, List.setIfInBounds_toArray, List.set_cons_zero, List.set_cons_succ]
  refine wpAnyH_take (i := 5) (oi := { dst := some 42, op := Op.load 88 (Operand.tmp 7), type := 88, pos := _, after := _, guard := none }) (v := _) rfl (by kernel_rfl) (by kernel_rfl) (by kernel_rfl) (fun _ _ _ h => h)
    (yieldsIf_load_mid (by rfl) 88 (.tmp 7) rfl w.heap.size 0 rfl (wcell (i, x)) _ (fun w' h => h) Try.underlying88 rfl (by rw [zero_wait.2, HL65])) hHeld ?_
  try simp only [Act.put, List.setIfInBounds_toArray, List.set_cons_zero, List.set_cons_succ]
  refine wpAnyH_ready (rs := [4, 6]) (by kernel_rfl) (by simp) ?_
  refine AllReadyH.cons (o := { dst := some 41, op := Op.load 60 (Operand.tmp 40), type := 60, pos := _, after := _, guard := none }) rfl (fun K hK => ?_) ?_
  · go_simp
    refine hK.out _ _ hrg2 (fun hHeld => ?_)
    clear hK K
    try simp only [Act.put, List.setIfInBounds_toArray, List.set_cons_zero, List.set_cons_succ]
    refine wpAnyH_ready (rs := [6]) (by kernel_rfl) (by simp) ?_
    refine AllReadyH.cons (o := { dst := some 43, op := Op.buildSlice 60 1 #[(0, Operand.tmp 42)], type := 60, pos := _, after := _, guard := none }) rfl (fun K hK => ?_) AllReadyH.nil
    rw [if_pos (by rfl)]
    refine wp_build_one 60 (.tmp 42) rfl (wcell (i, x)) rfl 88 HBS.out ?_
    refine hK.out _ _ HQ2.out (fun hHeld => ?_)
    clear hK K
    try simp only [Act.put, List.setIfInBounds_toArray, List.set_cons_zero, List.set_cons_succ]
    refine wpAnyH_ready (rs := [7]) (by kernel_rfl) (by simp) ?_
    refine AllReadyH.cons (o := { dst := some 44, op := Op.call { callee := Callee.builtin Builtin.append, args := #[Operand.tmp 41, Operand.tmp 43], argTypes := #[60, 60] }, type := 60, pos := _, after := _, guard := none }) rfl (fun K hK => ?_) AllReadyH.nil
    refine step_wait _ rfl (.tmp 41) (.tmp 43) rfl rfl rfl HWT.out rfl HFR.out HX.out HWL.out ?_
    intro g' c' W3 hw3 hg3 hat3 hlt3
    obtain ⟨hd4, hh3⟩ := disk_pushed HD2.out HKA.out (by rw [HV.out]; omega) (p := (i, x)) HSN4.out hw3 hg3 hat3
    have rg3 : W3.rangeAt w.heap.size 0 (wcell (i, x)) := range_of_holds (Holds.grown (show Holds (W2.drew.alloc (.cells (wcell (i, x)).toArray 88)) w.heap.size 88 (wcell (i, x)).toArray from (HKA.out _ (Holds.lt HH4.out)).trans HH4.out) hg3 (fun e => by have := HLA.out _ e.symm; omega))
    have q3 : W3.cell? ⟨gd, 2, none⟩ = some (.slice A s.waits.length cw) := hh3.cell 2
    have f3 : W3.frozen? ⟨gd, 2, none⟩ = false := hh3.open_ 2
    have hne : (⟨gd, 2, none⟩ : Addr).block ≠ w.heap.size := fun e => absurd (show gd = w.heap.size from e) (by have := HGD.out; omega)
    have rg4 : (W3.setCell ⟨gd, 2, none⟩ (.slice (some ⟨g', 0, none⟩) (s.waits.length + 1) c')).rangeAt w.heap.size 0 (wcell (i, x)) := fun j v hv => (World.cell?_of_block (a := ⟨w.heap.size, 0 + j, none⟩) (Below.heap_setCell W3 ⟨gd, 2, none⟩ _ w.heap.size (fun e => hne e.symm))).trans (rg3 j v hv)
    have hoo : Only (fun k => k = gd ∨ k = gn ∨ blockOf A = some k) w (W3.setCell ⟨gd, 2, none⟩ (.slice (some ⟨g', 0, none⟩) (s.waits.length + 1) c')) :=
      ((HOV.out.more (F := fun k => k = gd ∨ k = gn ∨ blockOf A = some k) (fun k _ e => .inr (.inl e))).grown hg3 (fun g e => .inl (.inr (.inr e)))).setCell (.inl (.inl rfl)) _
    have HAT : Hid (blockOf A = some g' ∨ w.heap.size ≤ g') := Lib.hid (hat3.elim .inl fun e => .inr (by have e' : g' = W2.heap.size + 1 := e.trans (show _ = _ from HV.out); have := Holds.lt HH4.out; omega))
    have HD4 := Lib.hid hd4
    have HOO := Lib.hid hoo
    have RG3 := Lib.hid rg3
    have RG4 := Lib.hid rg4
    clear hw3 hg3 hat3 hlt3 hd4 hh3 hne rg3 rg4 hoo
    refine hK.out _ _ RG3.out (fun hHeld => ?_)
    clear hK K
    try simp only [Act.put, List.setIfInBounds_toArray, List.set_cons_zero, List.set_cons_succ]
    refine wpAnyH_take (i := 8) (oi := { dst := some 45, op := Op.nilCheck (Operand.tmp 37), type := 0, pos := _, after := _, guard := none }) (v := ?_) rfl (by kernel_rfl) (by kernel_rfl) (by kernel_rfl) (fun _ _ _ h => h) (Or.inl ⟨by rfl, ?_⟩) hHeld ?_
    rotate_left 1
    · (intro w hSw; (try dsimp only at hSw); go_simp; try with_reducible rfl)
    try simp only [Act.put, List.setIfInBounds_toArray, List.set_cons_zero, List.set_cons_succ]
    refine wpAnyH_take (i := 9) (oi := { dst := some 46, op := Op.fieldAddr 62 (Operand.tmp 45) 2, type := 0, pos := _, after := _, guard := none }) (v := ?_) rfl (by kernel_rfl) (by kernel_rfl) (by kernel_rfl) (fun _ _ _ h => h) (Or.inl ⟨by rfl, ?_⟩) hHeld ?_
    rotate_left 1
    · (intro w hSw; (try dsimp only at hSw); go_simp; try with_reducible rfl)
    try simp only [Act.put, List.setIfInBounds_toArray, List.set_cons_zero, List.set_cons_succ]
    refine wpAnyH_ready (rs := [10]) (by kernel_rfl) (by simp) ?_
    refine AllReadyH.cons (o := { dst := none, op := Op.store 60 (Operand.tmp 46) (Operand.tmp 44), type := 0, pos := _, after := _, guard := none }) rfl (fun K hK => ?_) AllReadyH.nil
    go_simp
    refine hK.out _ _ RG4.out (fun hHeld => ?_)
    clear hK K
    try simp only [Act.put, List.setIfInBounds_toArray, List.set_cons_zero, List.set_cons_succ]
    refine wpAnyH_done (by kernel_rfl) ?_ _
    refine NoPanic.normal ?_
    have hd4 := HD4.out
    clear q3 f3 RG3 RG4 hHeld HWT HFR HOV HKA HQ2 HHV HV HBS HRG hrg2 c2a c2' f2 HH4 HO4
    generalize W3.setCell ⟨gd, 2, none⟩ (.slice (some ⟨g', 0, none⟩) (s.waits.length + 1) c') = W4 at *
    have e3 : W4.cell? ⟨gd, 3, none⟩ = some (.int .i64 s.ops) := hd4.hd.cell 3
    have f3 : W4.frozen? ⟨gd, 3, none⟩ = false := hd4.hd.open_ 3
    have ho0 : (0 : Int) ≤ (s.ops : Int) := by omega
    have ho1 : (s.ops : Int) ≤ 1000000000 := by have := HOPS.out; omega
    have HF : Hid (DiskAt (W4.setCell ⟨gd, 3, none⟩ (.int .i64 ((s.ops : Int) + 1))) gd gn gl (some ⟨g', 0, none⟩) c' K ck ({ s with now := s.now.set i x, waits := s.waits ++ [(i, x)], ops := s.ops + 1 })) :=
      Lib.hid (hd4.head 3 _ _ rfl rfl rfl rfl rfl)
    have HO5 := Lib.hid (HOO.out.setCell (p := ⟨gd, 3, none⟩) (.inl (.inl rfl)) (.int .i64 ((s.ops : Int) + 1)))
    clear hd4
    go_wp2_with fail
    go_ret
    exact ⟨rfl, _, _, HF.out, HAT.out, HO5.out⟩
  refine AllReadyH.cons (o := { dst := some 43, op := Op.buildSlice 60 1 #[(0, Operand.tmp 42)], type := 60, pos := _, after := _, guard := none }) rfl (fun K hK => ?_) AllReadyH.nil
  rw [if_pos (by rfl)]
  refine wp_build_one 60 (.tmp 42) rfl (wcell (i, x)) rfl 88 HBS.out ?_
  refine hK.out _ _ HQ2.out (fun hHeld => ?_)
  clear hK K
  try simp only [Act.put, List.setIfInBounds_toArray, List.set_cons_zero, List.set_cons_succ]
  refine wpAnyH_ready (rs := [4]) (by kernel_rfl) (by simp) ?_
  refine AllReadyH.cons (o := { dst := some 41, op := Op.load 60 (Operand.tmp 40), type := 60, pos := _, after := _, guard := none }) rfl (fun K hK => ?_) AllReadyH.nil
  go_simp
  refine hK.out _ _ HQ2.out (fun hHeld => ?_)
  clear hK K
  try simp only [Act.put, List.setIfInBounds_toArray, List.set_cons_zero, List.set_cons_succ]
  refine wpAnyH_ready (rs := [7]) (by kernel_rfl) (by simp) ?_
  refine AllReadyH.cons (o := { dst := some 44, op := Op.call { callee := Callee.builtin Builtin.append, args := #[Operand.tmp 41, Operand.tmp 43], argTypes := #[60, 60] }, type := 60, pos := _, after := _, guard := none }) rfl (fun K hK => ?_) AllReadyH.nil
  refine step_wait _ rfl (.tmp 41) (.tmp 43) rfl rfl rfl HWT.out rfl HFR.out HX.out HWL.out ?_
  intro g' c' W3 hw3 hg3 hat3 hlt3
  obtain ⟨hd4, hh3⟩ := disk_pushed HD2.out HKA.out (by rw [HV.out]; omega) (p := (i, x)) HSN4.out hw3 hg3 hat3
  have rg3 : W3.rangeAt w.heap.size 0 (wcell (i, x)) := range_of_holds (Holds.grown (show Holds (W2.drew.alloc (.cells (wcell (i, x)).toArray 88)) w.heap.size 88 (wcell (i, x)).toArray from (HKA.out _ (Holds.lt HH4.out)).trans HH4.out) hg3 (fun e => by have := HLA.out _ e.symm; omega))
  have q3 : W3.cell? ⟨gd, 2, none⟩ = some (.slice A s.waits.length cw) := hh3.cell 2
  have f3 : W3.frozen? ⟨gd, 2, none⟩ = false := hh3.open_ 2
  have hne : (⟨gd, 2, none⟩ : Addr).block ≠ w.heap.size := fun e => absurd (show gd = w.heap.size from e) (by have := HGD.out; omega)
  have rg4 : (W3.setCell ⟨gd, 2, none⟩ (.slice (some ⟨g', 0, none⟩) (s.waits.length + 1) c')).rangeAt w.heap.size 0 (wcell (i, x)) := fun j v hv => (World.cell?_of_block (a := ⟨w.heap.size, 0 + j, none⟩) (Below.heap_setCell W3 ⟨gd, 2, none⟩ _ w.heap.size (fun e => hne e.symm))).trans (rg3 j v hv)
  have hoo : Only (fun k => k = gd ∨ k = gn ∨ blockOf A = some k) w (W3.setCell ⟨gd, 2, none⟩ (.slice (some ⟨g', 0, none⟩) (s.waits.length + 1) c')) :=
    ((HOV.out.more (F := fun k => k = gd ∨ k = gn ∨ blockOf A = some k) (fun k _ e => .inr (.inl e))).grown hg3 (fun g e => .inl (.inr (.inr e)))).setCell (.inl (.inl rfl)) _
  have HAT : Hid (blockOf A = some g' ∨ w.heap.size ≤ g') := Lib.hid (hat3.elim .inl fun e => .inr (by have e' : g' = W2.heap.size + 1 := e.trans (show _ = _ from HV.out); have := Holds.lt HH4.out; omega))
  have HD4 := Lib.hid hd4
  have HOO := Lib.hid hoo
  have RG3 := Lib.hid rg3
  have RG4 := Lib.hid rg4
  clear hw3 hg3 hat3 hlt3 hd4 hh3 hne rg3 rg4 hoo
  refine hK.out _ _ RG3.out (fun hHeld => ?_)
  clear hK K
  try simp only [Act.put, List.setIfInBounds_toArray, List.set_cons_zero, List.set_cons_succ]
  refine wpAnyH_take (i := 8) (oi := { dst := some 45, op := Op.nilCheck (Operand.tmp 37), type := 0, pos := _, after := _, guard := none }) (v := ?_) rfl (by kernel_rfl) (by kernel_rfl) (by kernel_rfl) (fun _ _ _ h => h) (Or.inl ⟨by rfl, ?_⟩) hHeld ?_
  rotate_left 1
  · (intro w hSw; (try dsimp only at hSw); go_simp; try with_reducible rfl)
  try simp only [Act.put, List.setIfInBounds_toArray, List.set_cons_zero, List.set_cons_succ]
  refine wpAnyH_take (i := 9) (oi := { dst := some 46, op := Op.fieldAddr 62 (Operand.tmp 45) 2, type := 0, pos := _, after := _, guard := none }) (v := ?_) rfl (by kernel_rfl) (by kernel_rfl) (by kernel_rfl) (fun _ _ _ h => h) (Or.inl ⟨by rfl, ?_⟩) hHeld ?_
  rotate_left 1
  · (intro w hSw; (try dsimp only at hSw); go_simp; try with_reducible rfl)
  try simp only [Act.put, List.setIfInBounds_toArray, List.set_cons_zero, List.set_cons_succ]
  refine wpAnyH_ready (rs := [10]) (by kernel_rfl) (by simp) ?_
  refine AllReadyH.cons (o := { dst := none, op := Op.store 60 (Operand.tmp 46) (Operand.tmp 44), type := 0, pos := _, after := _, guard := none }) rfl (fun K hK => ?_) AllReadyH.nil
  go_simp
  refine hK.out _ _ RG4.out (fun hHeld => ?_)
  clear hK K
  try simp only [Act.put, List.setIfInBounds_toArray, List.set_cons_zero, List.set_cons_succ]
  refine wpAnyH_done (by kernel_rfl) ?_ _
  refine NoPanic.normal ?_
  have hd4 := HD4.out
  clear q3 f3 RG3 RG4 hHeld HWT HFR HOV HKA HQ2 HHV HV HBS HRG hrg2 c2a c2' f2 HH4 HO4
  generalize W3.setCell ⟨gd, 2, none⟩ (.slice (some ⟨g', 0, none⟩) (s.waits.length + 1) c') = W4 at *
  have e3 : W4.cell? ⟨gd, 3, none⟩ = some (.int .i64 s.ops) := hd4.hd.cell 3
  have f3 : W4.frozen? ⟨gd, 3, none⟩ = false := hd4.hd.open_ 3
  have ho0 : (0 : Int) ≤ (s.ops : Int) := by omega
  have ho1 : (s.ops : Int) ≤ 1000000000 := by have := HOPS.out; omega
  have HF : Hid (DiskAt (W4.setCell ⟨gd, 3, none⟩ (.int .i64 ((s.ops : Int) + 1))) gd gn gl (some ⟨g', 0, none⟩) c' K ck ({ s with now := s.now.set i x, waits := s.waits ++ [(i, x)], ops := s.ops + 1 })) :=
    Lib.hid (hd4.head 3 _ _ rfl rfl rfl rfl rfl)
  have HO5 := Lib.hid (HOO.out.setCell (p := ⟨gd, 3, none⟩) (.inl (.inl rfl)) (.int .i64 ((s.ops : Int) + 1)))
  clear hd4
  go_wp2_with fail
  go_ret
  exact ⟨rfl, _, _, HF.out, HAT.out, HO5.out⟩
end Go.Proofs.Ytkmbgbbmhpidkaa
