/-
  Many sectors at once: a disk is made one of ours.
-/
import Derived.Test.YtkmbgbbmhpidkaaJr8
namespace Go.Proofs.Ytkmbgbbmhpidkaa
open Go.RowKit Go.Shelf
set_option linter.unusedVariables false
set_option linter.unusedSimpArgs false
attribute [local go_sem] Oper.semAt_some

theorem apst_len : apstB.length = 64 := secOf_length _
theorem zsec_len : zsec.length = 64 := List.length_replicate
theorem puts_pre {s : Dk} {l r : List (Int × List Nat)} (h : (s.puts l).2 ≠ 0) : s.puts (l ++ r) = s.puts l := by rw [puts_append, if_neg h]
theorem putf_pre {s : Dk} {l L : List (Int × List Nat)} (hp : l <+: L) (h : (s.puts l).2 ≠ 0) : s.putf L = s.puts l := by
  obtain ⟨r, rfl⟩ := hp
  rw [putf_stop (by rw [puts_pre h]; exact h), puts_pre h]
def plL (pre : List (Fin 2000)) : List (Int × List Nat) := (0, apstB) :: (1, zsec) :: (pre.map Fin.val).map fun i => (((157 + i : Nat) : Int), zsec)
theorem plL_snoc (pre : List (Fin 2000)) (x : Fin 2000) : plL (pre ++ [x]) = plL pre ++ [(((157 + x.val : Nat) : Int), zsec)] := by simp [plL]
/-! Inside a round a region of no defers is as outside. -/
def noDefer (ops : Array Oper) : Bool := ops.all fun o => match o.op with | .defer _ => false | _ => true
theorem noDefer_at {ops : Array Oper} (h : noDefer ops = true) {i : Nat} {o : Oper} (ho : ops[i]? = some o) : ∀ c, o.op ≠ .defer c := fun c hc => by
  obtain ⟨hlt, he⟩ := Array.getElem?_eq_some_iff.1 ho
  have h1 := Array.all_eq_true.1 h i hlt
  rw [he, hc] at h1
  cases h1
theorem opIn_round {l n : Nat} {P : Program} {o : Oper} {a : Act} {w : World} {K : Act → World → Prop} {Q : Exit → Act → World → Prop} (hd : ∀ c, o.op ≠ .defer c) (h : Oper.wpIn Fence.wide n P o a w K Q) : Oper.wpIn (Fence.wide.inRound l) n P o a w K Q := by
  refine ⟨h.1, ?_⟩
  have h2 := h.2
  rw [Oper.semAt_eq _ _ _ hd] at h2 ⊢
  exact h2
theorem anyIn_round {l n : Nat} {P : Program} {md : Region.Mode} {ops : Array Oper} {Q : Exit → Act → World → Prop} (hd : noDefer ops = true) : ∀ (fuel : Nat) (listed : Array Bool) (a : Act) (w : World), wpAnyIn Fence.wide n P md ops Q fuel listed a w → wpAnyIn (Fence.wide.inRound l) n P md ops Q fuel listed a w
  | 0, _, _, _, h => h
  | fuel + 1, listed, a, w, h => ⟨h.1, fun i hi => by
    have h2 := h.2 i hi
    unfold wpOpIn at h2 ⊢
    cases ho : ops[i]? with
    | none => rw [ho] at h2; exact anyIn_round hd fuel _ _ _ h2
    | some o =>
      rw [ho] at h2
      dsimp only at h2 ⊢
      split
      · rename_i hw
        rw [if_pos hw] at h2
        exact opIn_round (noDefer_at hd ho) (Oper.wpIn_mono (fun a w h => anyIn_round hd fuel _ a w h) h2)
      · rename_i hw
        rw [if_neg hw] at h2
        exact ⟨h2.1, anyIn_round hd fuel _ _ _ h2.2⟩⟩
theorem below_others {w w' : World} (h : Below w.heap.size w w') : KeepsOthers w w' := ⟨h.size, fun k o hk _ => (h.block k (Array.getElem?_eq_some_iff.1 hk).1).trans hk⟩
theorem plL_length (pre : List (Fin 2000)) : (plL pre).length = pre.length + 2 := by simp [plL]
def FoI (V : World) (F : Nat → Prop) (gd : Nat) (s : Dk) (pre : List (Fin 2000)) (W : World) : Prop := (s.puts (plL pre)).2 = 0 ∧ DJ V F gd (s.puts (plL pre)).1 W
def FoX (V : World) (F : Nat → Prop) (res gd : Nat) (s : Dk) (c : Code) (pre : List (Fin 2000)) (W : World) : Prop :=
  c = .ret ∧ (s.puts (plL pre)).2 ≠ 0 ∧ DJr V F res gd (s.puts (plL pre)).1 W ∧ W.cell? ⟨res, 0, none⟩ = some (.int .i64 ((s.puts (plL pre)).2 : Nat))
theorem foI_own {V : World} {F : Nat → Prop} {gd : Nat} {s : Dk} {B : Nat} (hB : V.heap.size ≤ B) : OwnFrom B (FoI V F gd s) := fun pre W W' row h hg hr => ⟨h.1, h.2.turns hg fun q hq => ⟨Nat.le_trans hB (hr q hq).1, (hr q hq).2⟩⟩
theorem foX_own {V : World} {F : Nat → Prop} {res gd : Nat} {s : Dk} {B : Nat} (hB : V.heap.size ≤ B) (c : Code) : OwnFrom B (FoX V F res gd s c) := fun pre W W' row h hg hr => ⟨h.1, h.2.1, h.2.2.1.turns hg fun q hq => ⟨Nat.le_trans hB (hr q hq).1, (hr q hq).2⟩, cell_kept h.2.2.2 hg fun q hq => (hr q hq).2⟩
section
variable {w : World} {F : Nat → Prop} {gd : Nat} {s : Dk}
set_option maxRecDepth 100000 in
set_option maxHeartbeats 8000000 in
theorem format_any (h : Disk w F gd s) (hwl : s.waits.length ≤ 70000) (hops : s.ops ≤ 700000000) :
    Calls Try.prog 18 #[.pointer (some ⟨gd, 0, none⟩)] w fun e w' => e = .returned (.int .i64 ((s.format).2 : Nat)) ∧ DJ w F gd (s.format).1 w' := by
  obtain ⟨F', hF'⟩ : ∃ F', F' = fun k => F k ∧ k < w.heap.size := ⟨_, rfl⟩
  have hl := h.low
  rw [← hF'] at hl
  have hFF : ∀ k, F' k → F k ∧ k < w.heap.size := fun k hk => by rw [hF'] at hk; exact hk
  have hb1 : Below w.heap.size w ((w.alloc (.cells #[.pointer (some ⟨gd, 0, none⟩)] 23)).alloc (.cells #[.int .i64 0] 33)) := ((Below.refl _ _).alloc (Nat.le_refl _) _).alloc (by simp) _
  have hbx := (Holds.fresh w 23 #[.pointer (some ⟨gd, 0, none⟩)]).alloc (.cells #[.int .i64 0] 33)
  have hrs := Holds.fresh (w.alloc (.cells #[.pointer (some ⟨gd, 0, none⟩)] 23)) 33 #[.int .i64 0]
  rw [show (w.alloc (.cells #[.pointer (some ⟨gd, 0, none⟩)] 23)).heap.size = w.heap.size + 1 by simp] at hrs
  have hsz : ((w.alloc (.cells #[.pointer (some ⟨gd, 0, none⟩)] 23)).alloc (.cells #[.int .i64 0] 33)).heap.size = w.heap.size + 2 := by simp
  have hd1 : Disk ((w.alloc (.cells #[.pointer (some ⟨gd, 0, none⟩)] 23)).alloc (.cells #[.int .i64 0] 33)) F' gd s := (hl.keep (Only.of_below (F := fun _ => False) hb1) (fun _ _ e => e))
  have z0 := hbx.cell 0
  obtain ⟨V, hV⟩ : ∃ V, V = ((w.alloc (.cells #[.pointer (some ⟨gd, 0, none⟩)] 23)).alloc (.cells #[.int .i64 0] 33)) := ⟨_, rfl⟩
  rw [← hV] at hb1 hbx hrs hsz hd1
  have HV := Lib.hid hV
  have HST := Lib.hid (DJ.start hd1)
  have HBX : Hid (∀ (s' : Dk) (W : World), DJ V F' gd s' W → W.cell? ⟨w.heap.size, 0, none⟩ = some (.pointer (some ⟨gd, 0, none⟩)) ∧ W.cell? ⟨w.heap.size + 1, 0, none⟩ = some (.int .i64 0) ∧ W.frozen? ⟨w.heap.size + 1, 0, none⟩ = false) := Lib.hid fun s' W hW => by
    have k : ∀ g, g = w.heap.size ∨ g = w.heap.size + 1 → W.heap[g]? = V.heap[g]? := fun g hg => hW.2.block g (by omega) fun hF => by have := (hFF g hF).2; omega
    have b1 : Holds W w.heap.size 23 #[.pointer (some ⟨gd, 0, none⟩)] := (k _ (.inl rfl)).trans hbx
    have b2 : Holds W (w.heap.size + 1) 33 #[.int .i64 0] := (k _ (.inr rfl)).trans hrs
    exact ⟨b1.cell 0, b2.cell 0, b2.open_ 0⟩
  have HSET : Hid (∀ (s' : Dk) (W : World) (v : Value), DJ V F' gd s' W → DJr V F' (w.heap.size + 1) gd s' (W.setCell ⟨w.heap.size + 1, 0, none⟩ v)) := Lib.hid fun s' W v hW => by
    have hn : ∀ k, grow F' V W k → k ≠ w.heap.size + 1 := fun k hk e => by
      subst e
      rcases hk with hk | hk
      · have := (hFF _ hk).2; omega
      · omega
    have ho : Only (fun k => k = w.heap.size + 1) W (W.setCell ⟨w.heap.size + 1, 0, none⟩ v) := (Only.refl (fun k => k = w.heap.size + 1) W).setCell (p := ⟨w.heap.size + 1, 0, none⟩) (.inl rfl) v
    refine ⟨(hW.1.keep ho fun k a b => hn k a b).more fun k hk => ?_, (hW.2.more fun k _ hk => .inl hk).setCell (.inl (.inr rfl)) v⟩
    have h2 := ho.size
    rcases hk with hk | hk
    · exact .inl hk
    · exact .inr ⟨hk.1, by omega⟩
  have HOUT : Hid (∀ (s' : Dk) (W : World), DJr V F' (w.heap.size + 1) gd s' W → DJ w F gd s' W) := Lib.hid fun s' W hW => by
    refine ⟨hW.1.more fun k hk => ?_, (Only.of_below (F := F) hb1).trans hW.2 fun k hk hF => by rcases hF with hF | hF; exact (hFF k hF).1; omega⟩
    rcases hk with hk | hk
    · exact .inl (hFF k hk).1
    · exact .inr ⟨by omega, hk.2⟩
  have HFIN : Hid (∀ (s' : Dk) (W : World) (v : Value), DJ V F' gd s' W → DJ w F gd s' (W.setCell ⟨w.heap.size + 1, 0, none⟩ v)) := Lib.hid fun s' W v hW => HOUT.out _ _ (HSET.out s' W v hW)
  have HM := Lib.hid (jmany hd1)
  have HMN : Hid (s.many ≤ 2000 ∧ s.many = s.now.length - 157) := Lib.hid ⟨by have := h.len.2.2; unfold Dk.many; omega, rfl⟩
  obtain ⟨r, hr0⟩ : ∃ r, r = s.format := ⟨_, rfl⟩
  rw [← hr0]
  unfold Dk.format at hr0
  have HRR := Lib.hid hr0
  have HWL : Hid (s.waits.length ≤ 70000 ∧ s.ops ≤ 700000000) := Lib.hid ⟨hwl, hops⟩
  clear h hl hF' hb1 hbx hrs hd1 hV hr0 hwl hops hFF hsz
  generalize s.many = m at *
  by_cases h0 : m = 0
  · have HRE : Hid (r = (s, 5)) := Lib.hid (by rw [HRR.out, if_pos h0])
    subst h0
    obtain ⟨_, k1, k2⟩ := HBX.out _ _ HST.out
    go_enter Try.func18, Try.ntmps18
    go_wp2_with fail
    rw [← HV.out]
    refine HM.out.mono ?_
    rintro e w1 ⟨rfl, rfl⟩
    have hc := World.cell?_setCell_same' V ⟨w.heap.size + 1, 0, none⟩ (.int .i64 5) (by rw [k1]; rfl)
    go_wp2_with fail
    rw [HRE.out]
    exact bodyPost_ret (v := .int .i64 5) (by simp [results, Try.results18, go_sem, hc]) rfl ⟨rfl, HFIN.out _ _ _ HST.out⟩
  have d0 : ((m : Int) == 0) = false := by rw [beq_eq_false_iff_ne]; omega
  have HR1 : Hid (r = s.putf (formW s.now.length)) := Lib.hid (by rw [HRR.out, if_neg h0])
  clear HRR
  refine (callsIn_wide (n := 3)).1 ?_
  refine callsIn_of_wp_marks Try.func18 rfl trivial ?_ rfl
  simp only [Try.ntmps18, List.size_toArray, List.length_cons, List.length_nil, Nat.reduceAdd, Nat.reduceSub, Array.replicate_succ, Array.replicate_zero, List.push_toArray, List.append_toArray, List.nil_append, List.cons_append]
  refine wpIn_wide.2 ?_
  go_wp2_with fail
  rw [← HV.out]
  refine HM.out.mono ?_
  rintro e w1 ⟨rfl, rfl⟩
  clear z0 HV
  go_wp2_with fail
  have HDs := Lib.hid (HST.out.below (Below.refl _ _).drew)
  refine wp_region_noPanic ?_
  refine wp_region_held_drew (S := (fun W => W.cell? ⟨w.heap.size, 0, none⟩ = some (.pointer (some ⟨gd, 0, none⟩)))) (by kernel_rfl) (HBX.out _ _ HDs.out |>.1) (fun hHeld => ?_)
  refine wpAnyH_take (i := 0) (oi := { dst := some 12, op := Op.load 23 (Operand.tmp 1), type := 23, pos := _, after := _, guard := none }) (v := ?_) rfl (by kernel_rfl) (by kernel_rfl) (by kernel_rfl) (fun _ _ _ h => h) (Or.inl ⟨by rfl, ?_⟩) hHeld ?_
  rotate_left 1
  · (intro W hW; have k0 := hW; (try dsimp only at hW); go_simp; try with_reducible rfl)
  try simp only [Act.put, List.setIfInBounds_toArray, List.set_cons_zero, List.set_cons_succ]
  refine wpAnyH_ready (rs := [1]) (by kernel_rfl) (by simp) ?_
  refine AllReadyH.cons (o := { dst := some 13, op := Op.call { callee := Callee.value (Operand.func 47), args := #[Operand.const (Value.string { data := #[97, 112, 115, 116] })], argTypes := #[9] }, type := 40, pos := _, after := _, guard := none }) rfl (fun K hK => ?_) AllReadyH.nil
  go_simp
  refine (headed_apst _).mono ?_
  rintro e wa ⟨rfl, hra, hba⟩
  have HDa := Lib.hid (HDs.out.below hba)
  have HRa := Lib.hid (Row.rd64 hra apst_len)
  have SB : Hid ((fun W => W.cell? ⟨w.heap.size, 0, none⟩ = some (.pointer (some ⟨gd, 0, none⟩))) wa) := Lib.hid (HBX.out _ _ HDa.out).1
  clear hra hba
  go_simp
  refine hK.out _ _ (SB.out) (fun _ => ?_)
  clear hK K hHeld
  try simp only [Act.put, List.setIfInBounds_toArray, List.set_cons_zero, List.set_cons_succ]
  have hHeld : ((fun W => W.cell? ⟨w.heap.size, 0, none⟩ = some (.pointer (some ⟨gd, 0, none⟩)))) wa := SB.out
  refine wpAnyH_ready (rs := [2]) (by kernel_rfl) (by simp) ?_
  refine AllReadyH.cons (o := { dst := some 14, op := Op.call { callee := Callee.value (Operand.func 20), args := #[Operand.tmp 12, Operand.const (Value.int IntKind.i64 0), Operand.tmp 13], argTypes := #[23, 3, 40] }, type := 33, pos := _, after := _, guard := none }) rfl (fun K hK => ?_) AllReadyH.nil
  go_simp
  have HWb := Lib.hid (HDa.out.write 0 (some ⟨V.drew.heap.size, 0, none⟩) 64 64 apstB apst_len HRa.out (by have := HWL.out; omega) (by have := HWL.out; omega))
  refine HWb.out.mono ?_
  rintro e wb ⟨rfl, hdb⟩
  have HDb := Lib.hid hdb
  have SC : Hid ((fun W => W.cell? ⟨w.heap.size, 0, none⟩ = some (.pointer (some ⟨gd, 0, none⟩))) wb) := Lib.hid (HBX.out _ _ HDb.out).1
  clear hdb HDa HRa HWb
  go_simp
  refine hK.out _ _ (SC.out) (fun _ => ?_)
  clear hK K hHeld
  try simp only [Act.put, List.setIfInBounds_toArray, List.set_cons_zero, List.set_cons_succ]
  have hHeld : ((fun W => W.cell? ⟨w.heap.size, 0, none⟩ = some (.pointer (some ⟨gd, 0, none⟩)))) wb := SC.out
  refine wpAnyH_take (i := 3) (oi := { dst := some 3, op := Op.assign (Operand.tmp 14), type := 33, pos := _, after := _, guard := none }) (v := ?_) rfl (by kernel_rfl) (by kernel_rfl) (by kernel_rfl) (fun _ _ _ h => h) (Or.inl ⟨by rfl, ?_⟩) hHeld ?_
  rotate_left 1
  · (intro W hW; (try dsimp only at hW); go_simp; try with_reducible rfl)
  try simp only [Act.put, List.setIfInBounds_toArray, List.set_cons_zero, List.set_cons_succ]
  refine wpAnyH_done (by kernel_rfl) ?_ _
  refine NoPanic.normal ?_
  clear HDs
  have HR2 : Hid ((s.write 0 apstB).2 ≠ 0 → r = s.write 0 apstB) := Lib.hid fun hn => by
    have h1 := puts_one s (0, apstB)
    have hp : [(0, apstB)] <+: formW s.now.length := ⟨_, rfl⟩
    rw [HR1.out, putf_pre hp (by rw [h1]; exact hn), h1]
  have HP1 : Hid ((s.write 0 apstB).2 = 0 → s.puts (plL []) = (s.write 0 apstB).1.write 1 zsec) := Lib.hid fun hn => by
    have h1 := puts_one s (0, apstB)
    have h2 : (s.puts [(0, apstB)]).2 = 0 := by rw [h1]; exact hn
    have h3 := puts_snoc (p := (1, zsec)) h2
    rw [h1] at h3
    exact h3
  have HW1 : Hid ((s.write 0 apstB).1.waits.length ≤ 70001 ∧ (s.write 0 apstB).1.ops ≤ 700000001) := Lib.hid (by have := jwrite_le s 0 apstB; have := HWL.out; omega)
  generalize s.write 0 apstB = q at *
  obtain ⟨s1, e1⟩ := q
  dsimp only at *
  clear SB SC hHeld
  by_cases h1 : e1 = 0
  case neg =>
    have x0 : ((e1 : Int) == 0) = false := by rw [beq_eq_false_iff_ne]; omega
    have x1 : ((e1 : Int) != 0) = true := by rw [bne, x0]; rfl
    obtain ⟨_, k1, k2⟩ := HBX.out _ _ HDb.out
    have hc := World.cell?_setCell_same' wb ⟨w.heap.size + 1, 0, none⟩ (.int .i64 (e1 : Int)) (by rw [k1]; rfl)
    have HRE := Lib.hid (HR2.out h1)
    clear HR1 HR2 HP1
    go_wp2_with fail
    rw [HRE.out]
    exact ⟨.int .i64 (e1 : Int), by simp [results, Try.results18, go_sem, hc], rfl, HFIN.out _ _ _ HDb.out⟩
  subst h1
  have HP2 := Lib.hid (HP1.out rfl)
  clear HP1 HR2
  go_wp2_with fail
  have HDs := Lib.hid (HDb.out.below (Below.refl _ _).drew)
  refine wp_region_noPanic ?_
  refine wp_region_held_drew (S := (fun W => W.cell? ⟨w.heap.size, 0, none⟩ = some (.pointer (some ⟨gd, 0, none⟩)))) (by kernel_rfl) (HBX.out _ _ HDs.out |>.1) (fun hHeld => ?_)
  refine wpAnyH_take (i := 0) (oi := { dst := some 18, op := Op.load 23 (Operand.tmp 1), type := 23, pos := _, after := _, guard := none }) (v := ?_) rfl (by kernel_rfl) (by kernel_rfl) (by kernel_rfl) (fun _ _ _ h => h) (Or.inl ⟨by rfl, ?_⟩) hHeld ?_
  rotate_left 1
  · (intro W hW; have k0 := hW; (try dsimp only at hW); go_simp; try with_reducible rfl)
  try simp only [Act.put, List.setIfInBounds_toArray, List.set_cons_zero, List.set_cons_succ]
  refine wpAnyH_ready (rs := [1]) (by kernel_rfl) (by simp) ?_
  refine AllReadyH.cons (o := { dst := some 19, op := Op.call { callee := Callee.value (Operand.func 47), args := #[Operand.const (Value.string { data := #[] })], argTypes := #[9] }, type := 40, pos := _, after := _, guard := none }) rfl (fun K hK => ?_) AllReadyH.nil
  go_simp
  refine (headed_nil _).mono ?_
  rintro e wa ⟨rfl, hra, hba⟩
  have HDa := Lib.hid (HDs.out.below hba)
  have HRa := Lib.hid (Row.rd64 hra zsec_len)
  have SB : Hid ((fun W => W.cell? ⟨w.heap.size, 0, none⟩ = some (.pointer (some ⟨gd, 0, none⟩))) wa) := Lib.hid (HBX.out _ _ HDa.out).1
  clear hra hba
  go_simp
  refine hK.out _ _ (SB.out) (fun _ => ?_)
  clear hK K hHeld
  try simp only [Act.put, List.setIfInBounds_toArray, List.set_cons_zero, List.set_cons_succ]
  have hHeld : ((fun W => W.cell? ⟨w.heap.size, 0, none⟩ = some (.pointer (some ⟨gd, 0, none⟩)))) wa := SB.out
  refine wpAnyH_ready (rs := [2]) (by kernel_rfl) (by simp) ?_
  refine AllReadyH.cons (o := { dst := some 20, op := Op.call { callee := Callee.value (Operand.func 20), args := #[Operand.tmp 18, Operand.const (Value.int IntKind.i64 1), Operand.tmp 19], argTypes := #[23, 3, 40] }, type := 33, pos := _, after := _, guard := none }) rfl (fun K hK => ?_) AllReadyH.nil
  go_simp
  have HWb := Lib.hid (HDa.out.write 1 (some ⟨wb.drew.heap.size, 0, none⟩) 64 64 zsec zsec_len HRa.out (by have := HW1.out; omega) (by have := HW1.out; omega))
  refine HWb.out.mono ?_
  rintro e wb2 ⟨rfl, hdb⟩
  have HDb2 := Lib.hid hdb
  have SC : Hid ((fun W => W.cell? ⟨w.heap.size, 0, none⟩ = some (.pointer (some ⟨gd, 0, none⟩))) wb2) := Lib.hid (HBX.out _ _ HDb2.out).1
  clear hdb HDa HRa HWb
  go_simp
  refine hK.out _ _ (SC.out) (fun _ => ?_)
  clear hK K hHeld
  try simp only [Act.put, List.setIfInBounds_toArray, List.set_cons_zero, List.set_cons_succ]
  have hHeld : ((fun W => W.cell? ⟨w.heap.size, 0, none⟩ = some (.pointer (some ⟨gd, 0, none⟩)))) wb2 := SC.out
  refine wpAnyH_take (i := 3) (oi := { dst := some 4, op := Op.assign (Operand.tmp 20), type := 33, pos := _, after := _, guard := none }) (v := ?_) rfl (by kernel_rfl) (by kernel_rfl) (by kernel_rfl) (fun _ _ _ h => h) (Or.inl ⟨by rfl, ?_⟩) hHeld ?_
  rotate_left 1
  · (intro W hW; (try dsimp only at hW); go_simp; try with_reducible rfl)
  try simp only [Act.put, List.setIfInBounds_toArray, List.set_cons_zero, List.set_cons_succ]
  refine wpAnyH_done (by kernel_rfl) ?_ _
  refine NoPanic.normal ?_
  clear HDs
  have HW2 : Hid ((s1.write 1 zsec).1.waits.length ≤ 70002 ∧ (s1.write 1 zsec).1.ops ≤ 700000002) := Lib.hid (by have := jwrite_le s1 1 zsec; have := HW1.out; omega)
  have HR2 : Hid ((s1.write 1 zsec).2 ≠ 0 → r = s1.write 1 zsec) := Lib.hid fun hn => by
    have hp : plL [] <+: formW s.now.length := ⟨_, rfl⟩
    rw [HR1.out, putf_pre hp (by rw [HP2.out]; exact hn), HP2.out]
  generalize s1.write 1 zsec = q at *
  obtain ⟨s2, e2⟩ := q
  dsimp only at *
  clear SC hHeld HDb
  by_cases h1 : e2 = 0
  case neg =>
    have x0 : ((e2 : Int) == 0) = false := by rw [beq_eq_false_iff_ne]; omega
    have x1 : ((e2 : Int) != 0) = true := by rw [bne, x0]; rfl
    obtain ⟨_, k1, k2⟩ := HBX.out _ _ HDb2.out
    have hc := World.cell?_setCell_same' wb2 ⟨w.heap.size + 1, 0, none⟩ (.int .i64 (e2 : Int)) (by rw [k1]; rfl)
    have HRE := Lib.hid (HR2.out h1)
    clear HR1 HR2 HP2
    go_wp2_with fail
    rw [HRE.out]
    exact ⟨.int .i64 (e2 : Int), by simp [results, Try.results18, go_sem, hc], rfl, HFIN.out _ _ _ HDb2.out⟩
  subst h1
  clear HR2
  obtain ⟨k0, _, _⟩ := HBX.out _ _ HDb2.out
  have HPL := Lib.hid (places_any wb2 gd)
  go_wp2_with fail
  refine HPL.out.mono ?_
  rintro e w3 ⟨rfl, hw3⟩
  have hb3 : Below wb2.heap.size wb2 w3 := by rw [hw3]; exact (Below.refl _ _).alloc (Nat.le_refl _) _
  have HD3 := Lib.hid (HDb2.out.below hb3)
  have hh3 : Holds w3 wb2.heap.size 23 #[.pointer (some ⟨gd, 0, none⟩)] := by rw [hw3]; exact Holds.fresh _ _ _
  have hmn : s2.now.length = s.now.length := by
    have h := puts_now s (plL [])
    rw [HP2.out] at h
    exact h
  have HST := Lib.hid (places_stops HD3.out.1 wb2.heap.size hh3)
  have HM2 : Hid (s2.many = m) := Lib.hid (by rw [HMN.out.2, ← hmn]; rfl)
  rw [HM2.out] at HST
  clear hw3 hb3 hh3 HPL k0 HDb2
  go_wp2_with fail
  have hVB : V.heap.size ≤ w3.heap.size := HD3.out.2.size
  refine (wpIn_wide (n := 3)).1 ?_
  refine wpIn_rangeFunc_ownF rfl (by omega) (gf := 64) (lb := #[.pointer (some ⟨wb2.heap.size, 0, none⟩)]) rfl trivial (enters_of Try.func64 (by kernel_rfl) rfl) HST.out (fun _ _ => trivial) (fun _ _ _ _ _ _ _ _ => trivial) (Below.refl _ _) (fun _ => rfl)
    (FoI V F' gd s) (FoX V F' (w.heap.size + 1) gd s) (foI_own hVB) (foX_own hVB) ⟨by rw [HP2.out], by rw [HP2.out]; exact HD3.out⟩
    (fun x => { tmps := #[.pointer (some ⟨gd, 0, none⟩), .pointer (some ⟨w.heap.size, 0, none⟩), .pointer (some ⟨w.heap.size + 1, 0, none⟩), .int .i64 0, .int .i64 0, .int .i64 ((x.val : Nat) : Int), undef, .pointer (some ⟨gd, 0, none⟩), .bool false, .pointer (some ⟨gd, 0, none⟩), .int .i64 (m : Int), .bool false, .pointer (some ⟨gd, 0, none⟩), .slice (some ⟨V.heap.size, 0, none⟩) 64 64, .int .i64 0, .int .i64 0, .bool false, undef, .pointer (some ⟨gd, 0, none⟩), .slice (some ⟨wb.heap.size, 0, none⟩) 64 64, .int .i64 0, .int .i64 0, .bool false, undef, .pointer (some ⟨gd, 0, none⟩), .func (.func 64) #[] #[.pointer (some ⟨wb2.heap.size, 0, none⟩)], .int .i64 ((x.val : Nat) : Int), undef, undef, undef, undef, undef, undef, undef, undef, undef, undef], defers := [] }) ?assign ?body ?done ?stop
  case assign =>
    intro l x W K hK
    simp [plv]
    gi_wp2
    exact hK
  case body =>
    rintro l pre ⟨xv, hxv⟩ W ⟨hp, hd⟩ hlt
    dsimp only
    have hxw : IntKind.i64.wrap (157 + (xv : Int)) = 157 + (xv : Int) := IntWalk.i64_in _ (by omega)
    obtain ⟨k0, k1, k2⟩ := HBX.out _ _ hd
    gi_wp2
    have HDs := Lib.hid (hd.below (Below.refl _ W).drew)
    have HI := Lib.hid hp
    have HPB : Hid ((s.puts (plL pre)).1.waits.length ≤ 73000 ∧ (s.puts (plL pre)).1.ops ≤ 700003000) := Lib.hid (by have h := puts_le s (plL pre); rw [plL_length] at h; have := HWL.out; have := HMN.out.1; omega)
    clear hd hp
    refine wpIn_region_any (by kernel_rfl) (anyIn_round (by kernel_rfl) _ _ _ _ ?_)
    refine wpAnyIn_take (i := 1) (oi := { dst := some 28, op := Op.move (Operand.tmp 5), type := 3, pos := _, after := _, guard := none }) (v := ?_) rfl rfl (by kernel_rfl) (by kernel_rfl) (by kernel_rfl) (fun _ _ _ h => h) ⟨Or.inl ⟨by rfl, ?_⟩, fun _ => rfl⟩ ?_
    rotate_left 1
    · (intro W; go_simp; try with_reducible rfl)
    try simp only [Act.put, List.setIfInBounds_toArray, List.set_cons_zero, List.set_cons_succ]
    refine wpAnyIn_take (i := 2) (oi := { dst := some 29, op := Op.binOp BinOp.add 3 (Operand.const (Value.int IntKind.i64 157)) (Operand.tmp 28) 3, type := 3, pos := _, after := _, guard := none }) (v := ?_) rfl rfl (by kernel_rfl) (by kernel_rfl) (by kernel_rfl) (fun _ _ _ h => h) ⟨Or.inl ⟨by rfl, ?_⟩, fun _ => rfl⟩ ?_
    rotate_left 1
    · (intro W; go_simp; try with_reducible rfl)
    try simp only [Act.put, List.setIfInBounds_toArray, List.set_cons_zero, List.set_cons_succ]
    refine wpAnyIn_ready (rs := [0, 3]) (by kernel_rfl) (by simp) ?_
    refine AllReadyIn.cons (o := { dst := some 27, op := Op.load 23 (Operand.tmp 1), type := 23, pos := _, after := _, guard := none }) rfl (fun K hK => ?_) ?_
    · go_simp
      refine hK _ _ ?_
      clear hK K
      try simp only [Act.put, List.setIfInBounds_toArray, List.set_cons_zero, List.set_cons_succ]
      refine wpAnyIn_ready (rs := [3]) (by kernel_rfl) (by simp) ?_
      refine AllReadyIn.cons (o := { dst := some 30, op := Op.call { callee := Callee.value (Operand.func 47), args := #[Operand.const (Value.string { data := #[] })], argTypes := #[9] }, type := 40, pos := _, after := _, guard := none }) rfl (fun K hK => ?_) AllReadyIn.nil
      go_simp
      refine ⟨trivial, (callsIn_wide.2 (headed_nil _)).mono ?_⟩
      rintro e wa ⟨rfl, hra, hba⟩
      have HDa := Lib.hid (HDs.out.below hba)
      have HRa := Lib.hid (Row.rd64 hra zsec_len)
      have HKa := Lib.hid (below_others hba)
      clear hra hba
      go_simp
      refine hK _ _ ?_
      clear hK K
      try simp only [Act.put, List.setIfInBounds_toArray, List.set_cons_zero, List.set_cons_succ]
      refine wpAnyIn_ready (rs := [4]) (by kernel_rfl) (by simp) ?_
      refine AllReadyIn.cons (o := { dst := some 31, op := Op.call { callee := Callee.value (Operand.func 20), args := #[Operand.tmp 27, Operand.tmp 29, Operand.tmp 30], argTypes := #[23, 3, 40] }, type := 33, pos := _, after := _, guard := none }) rfl (fun K hK => ?_) AllReadyIn.nil
      go_simp
      have HWb := Lib.hid (callsIn_wide (n := 0).2 (HDa.out.writeO (157 + (xv : Int)) (some ⟨W.drew.heap.size, 0, none⟩) 64 64 zsec zsec_len HRa.out (by have := HPB.out; omega) (by have := HPB.out; omega)))
      refine ⟨trivial, HWb.out.mono ?_⟩
      rintro e wc ⟨rfl, hdc, hkc⟩
      have HDc := Lib.hid hdc
      have HKc : Hid (KeepsOthers W wc) := Lib.hid ((KeepsOthers.mk (Nat.le_refl _) (fun _ _ h _ => h) : KeepsOthers W W.drew).trans (HKa.out.trans hkc))
      clear hdc hkc HWb HDa HRa HKa
      go_simp
      refine hK _ _ ?_
      clear hK K
      try simp only [Act.put, List.setIfInBounds_toArray, List.set_cons_zero, List.set_cons_succ]
      refine wpAnyIn_take (i := 5) (oi := { dst := some 6, op := Op.assign (Operand.tmp 31), type := 33, pos := _, after := _, guard := none }) (v := ?_) rfl rfl (by kernel_rfl) (by kernel_rfl) (by kernel_rfl) (fun _ _ _ h => h) ⟨Or.inl ⟨by rfl, ?_⟩, fun _ => rfl⟩ ?_
      rotate_left 1
      · (intro W; go_simp; try with_reducible rfl)
      try simp only [Act.put, List.setIfInBounds_toArray, List.set_cons_zero, List.set_cons_succ]
      refine wpAnyIn_done (by kernel_rfl) ?_ _
      have HSN : Hid (s.puts (plL (pre ++ [⟨xv, hxv⟩])) = (s.puts (plL pre)).1.write (157 + (xv : Int)) zsec) := Lib.hid (by
        rw [plL_snoc, puts_snoc HI.out]
        show _ = _
        rw [show (((157 + xv : Nat)) : Int) = 157 + (xv : Int) by omega])
      generalize (s.puts (plL pre)).1.write (157 + (xv : Int)) zsec = q at *
      obtain ⟨s4, e4⟩ := q
      dsimp only at *
      clear k0 k1 k2
      by_cases h4 : e4 = 0
      · subst h4
        gi_wp2
        exact ⟨HKc.out, trivial, by rw [HSN.out], by rw [HSN.out]; exact HDc.out⟩
      · have x0 : ((e4 : Int) == 0) = false := by rw [beq_eq_false_iff_ne]; omega
        have x1 : ((e4 : Int) != 0) = true := by rw [bne, x0]; rfl
        obtain ⟨_, k1, k2⟩ := HBX.out _ _ HDc.out
        have hc := World.cell?_setCell_same' wc ⟨w.heap.size + 1, 0, none⟩ (.int .i64 (e4 : Int)) (by rw [k1]; rfl)
        gi_wp2
        exact ⟨HKc.out.trans (KeepsOthers.setCell _ _ _), rfl, by rw [HSN.out]; exact h4, by rw [HSN.out]; exact HSET.out _ _ _ HDc.out, by rw [HSN.out]; exact hc⟩
    refine AllReadyIn.cons (o := { dst := some 30, op := Op.call { callee := Callee.value (Operand.func 47), args := #[Operand.const (Value.string { data := #[] })], argTypes := #[9] }, type := 40, pos := _, after := _, guard := none }) rfl (fun K hK => ?_) AllReadyIn.nil
    go_simp
    refine ⟨trivial, (callsIn_wide.2 (headed_nil _)).mono ?_⟩
    rintro e wa ⟨rfl, hra, hba⟩
    have HDa := Lib.hid (HDs.out.below hba)
    have HRa := Lib.hid (Row.rd64 hra zsec_len)
    have HKa := Lib.hid (below_others hba)
    clear hra hba
    go_simp
    refine hK _ _ ?_
    clear hK K
    try simp only [Act.put, List.setIfInBounds_toArray, List.set_cons_zero, List.set_cons_succ]
    refine wpAnyIn_ready (rs := [0]) (by kernel_rfl) (by simp) ?_
    refine AllReadyIn.cons (o := { dst := some 27, op := Op.load 23 (Operand.tmp 1), type := 23, pos := _, after := _, guard := none }) rfl (fun K hK => ?_) AllReadyIn.nil
    have kk := (HBX.out _ _ HDa.out).1
    go_simp
    refine hK _ _ ?_
    clear hK K
    try simp only [Act.put, List.setIfInBounds_toArray, List.set_cons_zero, List.set_cons_succ]
    refine wpAnyIn_ready (rs := [4]) (by kernel_rfl) (by simp) ?_
    refine AllReadyIn.cons (o := { dst := some 31, op := Op.call { callee := Callee.value (Operand.func 20), args := #[Operand.tmp 27, Operand.tmp 29, Operand.tmp 30], argTypes := #[23, 3, 40] }, type := 33, pos := _, after := _, guard := none }) rfl (fun K hK => ?_) AllReadyIn.nil
    go_simp
    have HWb := Lib.hid (callsIn_wide (n := 0).2 (HDa.out.writeO (157 + (xv : Int)) (some ⟨W.drew.heap.size, 0, none⟩) 64 64 zsec zsec_len HRa.out (by have := HPB.out; omega) (by have := HPB.out; omega)))
    refine ⟨trivial, HWb.out.mono ?_⟩
    rintro e wc ⟨rfl, hdc, hkc⟩
    have HDc := Lib.hid hdc
    have HKc : Hid (KeepsOthers W wc) := Lib.hid ((KeepsOthers.mk (Nat.le_refl _) (fun _ _ h _ => h) : KeepsOthers W W.drew).trans (HKa.out.trans hkc))
    clear hdc hkc HWb HDa HRa HKa
    go_simp
    refine hK _ _ ?_
    clear hK K
    try simp only [Act.put, List.setIfInBounds_toArray, List.set_cons_zero, List.set_cons_succ]
    refine wpAnyIn_take (i := 5) (oi := { dst := some 6, op := Op.assign (Operand.tmp 31), type := 33, pos := _, after := _, guard := none }) (v := ?_) rfl rfl (by kernel_rfl) (by kernel_rfl) (by kernel_rfl) (fun _ _ _ h => h) ⟨Or.inl ⟨by rfl, ?_⟩, fun _ => rfl⟩ ?_
    rotate_left 1
    · (intro W; go_simp; try with_reducible rfl)
    try simp only [Act.put, List.setIfInBounds_toArray, List.set_cons_zero, List.set_cons_succ]
    refine wpAnyIn_done (by kernel_rfl) ?_ _
    have HSN : Hid (s.puts (plL (pre ++ [⟨xv, hxv⟩])) = (s.puts (plL pre)).1.write (157 + (xv : Int)) zsec) := Lib.hid (by
      rw [plL_snoc, puts_snoc HI.out]
      show _ = _
      rw [show (((157 + xv : Nat)) : Int) = 157 + (xv : Int) by omega])
    generalize (s.puts (plL pre)).1.write (157 + (xv : Int)) zsec = q at *
    obtain ⟨s4, e4⟩ := q
    dsimp only at *
    clear k0 k1 k2
    by_cases h4 : e4 = 0
    · subst h4
      gi_wp2
      exact ⟨HKc.out, trivial, by rw [HSN.out], by rw [HSN.out]; exact HDc.out⟩
    · have x0 : ((e4 : Int) == 0) = false := by rw [beq_eq_false_iff_ne]; omega
      have x1 : ((e4 : Int) != 0) = true := by rw [bne, x0]; rfl
      obtain ⟨_, k1, k2⟩ := HBX.out _ _ HDc.out
      have hc := World.cell?_setCell_same' wc ⟨w.heap.size + 1, 0, none⟩ (.int .i64 (e4 : Int)) (by rw [k1]; rfl)
      gi_wp2
      exact ⟨HKc.out.trans (KeepsOthers.setCell _ _ _), rfl, by rw [HSN.out]; exact h4, by rw [HSN.out]; exact HSET.out _ _ _ HDc.out, by rw [HSN.out]; exact hc⟩
  case done =>
    rintro D ys W hD hS ⟨hp, hd⟩ hK
    have hform : formW s.now.length = plL ys := by
      unfold formW plL
      rw [hS, HMN.out.2]
    have HRE : Hid (r = (s.puts (plL ys)).1.flush) := Lib.hid (by rw [HR1.out, hform, putf_go hp])
    have hyl : ys.length = m := by have := congrArg List.length hS; simpa using this
    have hpb := puts_le s (plL ys)
    rw [plL_length, hyl] at hpb
    have HFL := Lib.hid (hd.flushO (by have := HWL.out; have := HMN.out.1; omega) (by have := HWL.out; have := HMN.out.1; omega))
    obtain ⟨k0, k1, k2⟩ := HBX.out _ _ hd
    have HK := Lib.hid hK
    clear hp hpb hK hform hS hyl hd
    generalize (s.puts (plL ys)).1.flush = q at *
    obtain ⟨s5, e5⟩ := q
    dsimp only at *
    go_wp2_with fail
    refine HFL.out.mono ?_
    rintro e w5 ⟨rfl, hd5, hk5⟩
    obtain ⟨_, k1, k2⟩ := HBX.out _ _ hd5
    have hc := World.cell?_setCell_same' w5 ⟨w.heap.size + 1, 0, none⟩ (.int .i64 (e5 : Int)) (by rw [k1]; rfl)
    have HDf := Lib.hid (HSET.out _ _ (.int .i64 (e5 : Int)) hd5)
    have HKf := Lib.hid (((hk5.trans (KeepsOthers.setCell w5 ⟨w.heap.size + 1, 0, none⟩ (.int .i64 (e5 : Int)))).same D _ HK.out rfl))
    clear hd5 hk5 HFL k0
    go_wp2_with fail
    have hc2 := cell_kept hc (grownBy_putObj' _ D (.deferred none)) (fun r e => by cases e; exact ⟨_, HKf.out, rfl⟩)
    refine ⟨by simp, .inl ⟨_, _, rfl, run_takeDeferred HKf.out, ?_⟩⟩
    rw [HRE.out]
    exact ⟨.int .i64 (e5 : Int), by simp [results, Try.results18, go_sem, hc2], rfl, HOUT.out _ _ (HDf.out.turns (grownBy_putObj' _ D (.deferred none)) fun q e => by cases e; exact ⟨by omega, _, HKf.out, rfl⟩)⟩
  case stop =>
    rintro D c pre W hD hS ⟨rfl, hn, hd, hc⟩ hK
    have HRE : Hid (r = s.puts (plL pre)) := Lib.hid (by
      have hp : plL pre <+: formW s.now.length := by
        unfold formW plL
        rw [← HMN.out.2]
        exact List.cons_prefix_cons.2 ⟨rfl, List.cons_prefix_cons.2 ⟨rfl, hS.map _⟩⟩
      rw [HR1.out, putf_pre hp hn])
    generalize s.puts (plL pre) = q at *
    obtain ⟨s5, e5⟩ := q
    dsimp only at *
    gi_wp2
    have hc2 := cell_kept hc (grownBy_putObj' _ D (.deferred none)) (fun r e => by cases e; exact ⟨_, hK, rfl⟩)
    refine ⟨by simp, .inl ⟨_, _, rfl, run_takeDeferred hK, ?_⟩⟩
    rw [HRE.out]
    exact ⟨.int .i64 (e5 : Int), by simp [results, Try.results18, go_sem, hc2], rfl, HOUT.out _ _ (hd.turns (grownBy_putObj' _ D (.deferred none)) fun q e => by cases e; exact ⟨by omega, _, hK, rfl⟩)⟩
end
end Go.Proofs.Ytkmbgbbmhpidkaa
