/-
  Many sectors at once: what may not be is refused, and nothing is done.
-/
import Derived.Test.YtkmbgbbmhpidkaaJr15
namespace Go.Proofs.Ytkmbgbbmhpidkaa
open Go.RowKit Go.Shelf
set_option linter.unusedVariables false
set_option linter.unusedSimpArgs false
attribute [local go_sem ↓] Go.wp_at_zero Go.wp_at_succ

theorem fresh_len (n : Nat) : (fresh n).now.length = n := by simp [fresh]
def kM : Dk := (fresh 400).format.1
theorem kM_well : (fresh 400).format.2 = 0 ∧ Well kM ∧ kM.now = setAll (fresh 400).now (formW 400) := by
  have h := (well_fresh 400).format (by rw [fresh_len]; decide)
  rw [fresh_len] at h
  unfold kM
  exact h
theorem kM_len : kM.now.length = 400 := by rw [kM_well.2.2, setAll_length]; exact fresh_len 400
theorem kM_many : kM.many = 243 := by unfold Dk.many; rw [kM_len]
theorem kM_apst : kM.read 0 = apstB := by
  have h := Dk.read_now kM 0
  rw [kM_well.2.2, formW_zero (by rw [fresh_len]; omega)] at h
  exact h
theorem kM_mark : kM.read 1 = zsec := by
  have h := Dk.read_now kM 1
  rw [kM_well.2.2, formW_mark (by rw [fresh_len]; omega)] at h
  exact h
theorem kM_place {i : Nat} (h : i < 243) : kM.read (157 + (i : Int)) = zsec := by
  have e := Dk.read_now kM (157 + i)
  rw [kM_well.2.2, formW_place (fresh_len 400) (by omega)] at e
  rw [← e]
  congr 1
theorem kM_small : kM.waits.length ≤ 70000 ∧ kM.ops ≤ 700000000 := by
  have h := putf_le (fresh 400) (formW (fresh 400).now.length)
  have e : (fresh 400).format = (fresh 400).putf (formW (fresh 400).now.length) := by
    unfold Dk.format
    rw [if_neg (by unfold Dk.many; rw [fresh_len]; omega)]
  have hl : (formW (fresh 400).now.length).length = 245 := by rw [fresh_len]; simp [formW]
  unfold kM
  rw [e]
  rw [hl] at h
  have w0 : (fresh 400).waits.length = 0 := rfl
  have o0 : (fresh 400).ops = 0 := rfl
  omega
theorem commit_may {s : Dk} {l : List (Int × List Nat)} (h : mayJ s.many l = false) : s.commit l = (s, 1) := by unfold Dk.commit; rw [if_neg (by rw [h]; decide)]
theorem may_bad {m : Nat} {l : List (Int × List Nat)} (h : ¬ ((∀ p ∈ l, 0 ≤ p.1 ∧ p.1 < (m : Int) ∧ p.2.length = 64) ∧ (l.map (·.1)).Nodup)) : mayJ m l = false := decide_eq_false h
theorem ref0 {a : Int} (h : 0 ≤ a) : kM.commit [(a, secX), (243 + a, secX)] = (kM, 1) := commit_may (may_bad fun h => by
  have := (h.1 _ (List.mem_cons_of_mem _ (List.mem_cons_self ..))).2.1
  rw [kM_many] at this
  dsimp only at this
  omega)
theorem ref1 {a : Int} (h : 0 ≤ a) : kM.commit [(a, secX), (-1 - a, secX)] = (kM, 1) := commit_may (may_bad fun h => by
  have := (h.1 _ (List.mem_cons_of_mem _ (List.mem_cons_self ..))).1
  dsimp only at this
  omega)
theorem ref2 {a : Int} : kM.commit [(a, secX), (a, secX)] = (kM, 1) := commit_may (may_bad fun h => by
  have := h.2
  simp at this)
theorem ref3 {a : Int} {n : Nat} (h : n < 64) : kM.commit [(a, secX.take n)] = (kM, 1) := commit_may (may_bad fun h2 => by
  have := (h2.1 _ (List.mem_cons_self ..)).2.2
  simp only [List.length_take, secX_len] at this
  omega)
def manyW (n : Nat) : List (Int × List Nat) := (List.range n).map fun i : Nat => ((i : Int), secX)
theorem ref4 : kM.commit (manyW 151) = (kM, 5) := by
  have hm : mayJ kM.many (manyW 151) = true := by
    rw [kM_many]
    refine decide_eq_true ⟨fun p hp => ?_, ?_⟩
    · obtain ⟨i, hi, rfl⟩ := List.mem_map.1 hp
      have := List.mem_range.1 hi
      exact ⟨by dsimp only; omega, by dsimp only; omega, secX_len⟩
    · rw [manyW, List.map_map]
      exact List.pairwise_map.2 (List.nodup_range.imp fun {a b} h h2 => h (Int.ofNat.inj h2))
  unfold Dk.commit
  rw [if_pos hm, if_pos (by simp [manyW])]
theorem ref5 : kM.commit [] = (kM, 0) := by
  have hm : mayJ kM.many [] = true := decide_eq_true ⟨fun p hp => (by cases hp), List.nodup_nil⟩
  unfold Dk.commit
  rw [if_pos hm, if_neg (by simp), if_pos rfl]

theorem commit_made {V : World} {F : Nat → Prop} {gd B : Nat} {s : Dk} (hd : Disk V F gd s) (hF : ∀ k, F k → k < B) (hB : B ≤ V.heap.size) (l : List Wr) (hl : ∀ x ∈ l, Rd .u8 V V.heap.size x.da x.dc x.d ∧ ∀ b o, x.da = some ⟨b, o, none⟩ → B ≤ b) (hn : l.length ≤ 1000) (hw : s.waits.length ≤ 70000) (ho : s.ops ≤ 700000000)
    (g n : Nat) (hg : g = V.heap.size) (hn2 : n = l.length) (cs : Array Value) (hcs : cs = (l.flatMap wrCells).toArray) (T : TypeId) (fr : Nat × Nat) {s' : Dk} {cn : Nat} {c : Int} (hv : s.commit (wv l) = (s', cn)) (hc : (cn : Int) = c) :
    Calls Try.prog 10 #[.pointer (some ⟨gd, 0, none⟩), .slice (some ⟨g, 0, none⟩) n n] (V.alloc (.cells cs T fr)) fun e w' => e = .returned (.int .i64 c) ∧ (∃ F', Disk w' F' gd s') ∧ Only F V w' := by
  subst hg hn2 hc
  have hG := RdWrG.made hB l hl hn cs hcs T fr
  have hd2 : Disk (V.alloc (.cells cs T fr)) F gd s := hd.keep (Only.of_below (F := fun _ => False) ((Below.refl _ V).alloc (Nat.le_refl _) _)) (fun _ _ e => e)
  have h := commit_any hd2 (some ⟨V.heap.size, 0, none⟩) l.length l.length l rfl (hG.off hF) hn hw ho
  rw [hv] at h
  exact h.mono fun e w' q => ⟨q.1, ⟨_, q.2.1⟩, (Only.of_below (F := F) ((Below.refl _ V).alloc (Nat.le_refl _) _)).trans q.2.2 fun k _ hk => hk⟩
set_option maxRecDepth 100000 in
set_option maxHeartbeats 40000000 in
theorem refused_any (w : World) (way ati n : Int) : Calls Try.prog 5 #[.int .i64 way, .int .i64 ati, .int .i64 n] w fun e w' => e = .returned (.bool true) ∧ Below w.heap.size w w' := by
  have HF1 := Lib.hid kM_well.1
  have HXL := Lib.hid secX_len
  have HZL := Lib.hid zsec_len
  have HZO : Hid (∀ x ∈ zsec, x < 256) := Lib.hid zsec_oct
  obtain ⟨z1, hz1⟩ : ∃ z, z = str zsec := ⟨_, rfl⟩
  have HZ1 := Lib.hid hz1
  have hnew := new_yes w 400 (by omega) (by omega)
  rw [show ((400 : Nat) : Int) = 400 from rfl] at hnew
  have HNEW := Lib.hid hnew
  clear hnew hz1
  go_enter Try.func5, Try.ntmps5
  go_wp2_with fail
  refine HNEW.out.mono ?_
  rintro e w1 ⟨gd, rfl, hd1, hb1⟩
  have HB1 := Lib.hid hb1
  have HD1 := Lib.hid hd1
  clear hd1 hb1 HNEW
  go_wp2_with fail
  refine (format_any HD1.out (by simp [fresh]) (by simp [fresh])).mono ?_
  rintro e w2 ⟨rfl, hd2⟩
  rw [HF1.out]
  have HB2 := Lib.hid (HB1.out.trans ((hd2.2.below (B := w.heap.size) (fun k hk => hk.1) HB1.out.size)))
  obtain ⟨F2, hL2, hF2⟩ : ∃ F2 : Nat → Prop, Disk w2 F2 gd kM ∧ ∀ k, F2 k → w.heap.size ≤ k ∧ k < w2.heap.size := ⟨_, hd2.1.low, fun k hk => ⟨by have := HB1.out.size; rcases hk.1 with h | h; exact h.1; omega, hk.2⟩⟩
  have HL2 := Lib.hid hL2
  have HF := Lib.hid hF2
  clear hL2 hF2 hd2 HD1 HB1 HF1
  by_cases ha0 : ati < 0
  · have d1 : decide (ati < 0) = true := decide_eq_true ha0
    go_wp2_with fail
    go_ret
    exact ⟨rfl, HB2.out⟩
  have d1 : decide (ati < 0) = false := decide_eq_false ha0
  by_cases ha2 : 200 < ati
  · have d2 : decide (200 < ati) = true := decide_eq_true ha2
    go_wp2_with fail
    go_ret
    exact ⟨rfl, HB2.out⟩
  have d2 : decide (200 < ati) = false := decide_eq_false ha2
  have HOP := Lib.hid (disk_ops HL2.out)
  obtain ⟨op, hop⟩ : ∃ o : Nat, o = kM.ops := ⟨_, rfl⟩
  rw [← hop] at HOP
  have HPO := Lib.hid hop
  clear hop
  go_wp2_with fail
  refine HOP.out.mono ?_
  rintro e w3 ⟨rfl, rfl⟩
  obtain ⟨wm, hcv, hm, hc, hsm⟩ := run_mark (w2.alloc (.cells #[Value.int .u8 120] 5)) w2.heap.size #[Value.int .u8 120] 1 1 (Holds.fresh _ _ _)
  have HRM : Hid (Rd .u8 wm wm.heap.size (some ⟨w2.heap.size, 0, none⟩) 1 [120]) := Lib.hid (rd_marked (Holds.fresh _ _ _) hc hsm)
  have HBM2 : Hid (Below w2.heap.size w2 wm) := Lib.hid (((Below.refl _ w2).alloc (Nat.le_refl _) _).trans hm)
  have HBM := Lib.hid (HB2.out.trans (HBM2.out.mono HB2.out.size))
  clear HOP
  go_wp2_with fail
  refine (sectorR wm _ 1 1 [120] rfl HRM.out).mono ?_
  rintro e w3 ⟨rfl, _, hr3, hb3⟩
  have HB3 := Lib.hid (HBM.out.trans (hb3.mono HBM.out.size))
  have HB32 := Lib.hid (HBM2.out.trans (hb3.mono HBM2.out.size))
  have HR3 : Hid (Rd .u8 w3 w3.heap.size (some ⟨wm.heap.size, 0, none⟩) 64 secX) := Lib.hid hr3
  have HS3 := Lib.hid hb3.size
  have HSM := Lib.hid HBM2.out.size
  have HWM := Lib.hid (show Below w2.heap.size w2 w3 from HB32.out)
  clear hb3 hr3 hcv hm hc hsm HRM HBM HBM2 d1 d2
  obtain ⟨a, rfl⟩ : ∃ a : Nat, ati = (a : Int) := ⟨ati.toNat, by omega⟩
  have ha : a ≤ 200 := by omega
  clear ha0 ha2
  have HA := Lib.hid ha
  clear ha
  obtain ⟨V, hV⟩ : ∃ V, V = w3.alloc (.cells #[.int .i64 (a : Int), .slice (some ⟨wm.heap.size, 0, none⟩) 64 64] 42 (0, 0)) := ⟨_, rfl⟩
  have HVS : Hid (w3.heap.size + 1 = V.heap.size) := Lib.hid (by rw [hV]; simp)
  have HBV2 : Hid (Below w2.heap.size w2 V) := Lib.hid (by rw [hV]; exact HB32.out.alloc HB32.out.size _)
  have HBV : Hid (Below w.heap.size w V) := Lib.hid (by rw [hV]; exact HB3.out.alloc HB3.out.size _)
  have HDV : Hid (Disk V F2 gd kM) := Lib.hid (HL2.out.keep (Only.of_below (F := fun _ => False) HBV2.out) (fun _ _ e => e))
  have HRV : Hid (Rd .u8 V V.heap.size (some ⟨wm.heap.size, 0, none⟩) 64 secX) := Lib.hid (by rw [hV]; exact (HR3.out.alloc (Nat.le_refl _) _).more (by simp))
  have HXV : Hid (Holds V w3.heap.size 42 #[.int .i64 (a : Int), .slice (some ⟨wm.heap.size, 0, none⟩) 64 64]) := Lib.hid (by rw [hV]; exact Holds.fresh _ _ _)
  have HV := Lib.hid hV
  have HFV : Hid (∀ k, F2 k → k < w2.heap.size) := Lib.hid fun k hk => (HF.out k hk).2
  have HUP : Hid (∀ W, Only F2 V W → Below w.heap.size w W) := Lib.hid fun W hW => HBV.out.trans (hW.below (fun k hk => (HF.out k hk).1) HBV.out.size)
  clear hV HB3 HB32 HR3 HS3 HWM HL2 HF HB2
  by_cases hw0 : way = 0
  · subst hw0
    have hA := HA.out
    have kw0 : IntKind.i64.wrap (243 + (a : Int)) = 243 + (a : Int) := IntWalk.i64_in _ (by omega)
    have kw1 : IntKind.i64.wrap (-1 - (a : Int)) = -1 - (a : Int) := IntWalk.i64_in _ (by omega)
    have xc0 := HXV.out.cell 0
    have xc1 := HXV.out.cell 1
    have HCM := Lib.hid (commit_made HDV.out HFV.out HBV2.out.size ([⟨(a : Int), some ⟨wm.heap.size, 0, none⟩, 64, secX⟩, ⟨243 + (a : Int), some ⟨wm.heap.size, 0, none⟩, 64, secX⟩] : List Wr) (fun x hx => by simp at hx; rcases hx with rfl | rfl <;> exact ⟨HRV.out, fun b o e => by cases e; exact HSM.out⟩) (by simp) kM_small.1 kM_small.2 (w3.heap.size + 1) 2 HVS.out rfl #[.int .i64 (a : Int), .slice (some ⟨wm.heap.size, 0, none⟩) 64 64, .int .i64 (243 + (a : Int)), .slice (some ⟨wm.heap.size, 0, none⟩) 64 64] rfl 42 (0, 0) (show kM.commit (wv [⟨(a : Int), some ⟨wm.heap.size, 0, none⟩, 64, secX⟩, ⟨243 + (a : Int), some ⟨wm.heap.size, 0, none⟩, 64, secX⟩]) = (kM, 1) from ref0 (a := (a : Int)) (by omega)) (c := 1) rfl)
    go_wp2_with fail
    rw [← HV.out]
    refine HCM.out.mono ?_
    rintro e wz ⟨rfl, hdz, hoz⟩
    have HDz := Lib.hid hdz
    have HBz := Lib.hid (HUP.out _ hoz)
    clear hdz hoz HCM xc0 xc1 kw0 kw1 hA
    have HRDZ : Hid (∀ W, Below wz.heap.size wz W → Calls Try.prog 29 #[.pointer (some ⟨gd, 0, none⟩), .int .i64 (a : Int)] W fun e w' => ∃ A c, e = .returned (.slice A 64 c) ∧ Rd .u8 w' w'.heap.size A c zsec ∧ Below W.heap.size W w') := Lib.hid fun W hW => by
      obtain ⟨F', hd'⟩ := HDz.out
      have := dj_read ((DJ.start hd').below hW) (a : Int) kM_many (x := zsec) (by have := HA.out; rw [if_pos (by omega)]; exact kM_place (by omega))
      rw [zsec_len] at this
      exact this
    have HOPZ : Hid (∀ W, Below wz.heap.size wz W → Calls Try.prog 31 #[.pointer (some ⟨gd, 0, none⟩)] W fun e w' => e = .returned (.int .i64 (op : Int)) ∧ W = w') := Lib.hid fun W hW => by
      obtain ⟨F', hd'⟩ := HDz.out
      have := disk_ops ((DJ.start hd').below hW).1
      rw [← HPO.out] at this
      exact this
    clear HDz
    go_wp2_with fail
    refine wp_region_noPanic ?_
    refine wp_region_held_drew (S := fun _ => True) (by kernel_rfl) trivial (fun hHeld => ?_)
    obtain ⟨wa, hwa⟩ : ∃ W, W = wz.drew := ⟨_, rfl⟩
    rw [← hwa]
    have HQa : Hid (Below wz.heap.size wz wa) := Lib.hid (by rw [hwa]; exact (Below.refl _ _).drew)
    clear hwa
    replace hHeld : True := trivial
    refine wpAnyH_take (i := 0) (oi := { dst := some 95, op := Op.move (Operand.tmp 10), type := 33, pos := _, after := _, guard := none }) (v := ?_) rfl (by kernel_rfl) (by kernel_rfl) (by kernel_rfl) (fun _ _ _ h => h) (Or.inl ⟨by rfl, ?_⟩) hHeld ?_
    rotate_left 1
    · (intro W hW; (try dsimp only at hW); go_simp; try with_reducible rfl)
    try simp only [Act.put, List.setIfInBounds_toArray, List.set_cons_zero, List.set_cons_succ]
    refine wpAnyH_take (i := 1) (oi := { dst := some 96, op := Op.move (Operand.tmp 11), type := 33, pos := _, after := _, guard := none }) (v := ?_) rfl (by kernel_rfl) (by kernel_rfl) (by kernel_rfl) (fun _ _ _ h => h) (Or.inl ⟨by rfl, ?_⟩) hHeld ?_
    rotate_left 1
    · (intro W hW; (try dsimp only at hW); go_simp; try with_reducible rfl)
    try simp only [Act.put, List.setIfInBounds_toArray, List.set_cons_zero, List.set_cons_succ]
    refine wpAnyH_take (i := 2) (oi := { dst := some 97, op := Op.binOp BinOp.eql 33 (Operand.tmp 95) (Operand.tmp 96) 33, type := 4, pos := _, after := _, guard := none }) (v := ?_) rfl (by kernel_rfl) (by kernel_rfl) (by kernel_rfl) (fun _ _ _ h => h) (Or.inl ⟨by rfl, ?_⟩) hHeld ?_
    rotate_left 1
    · (intro W hW; (try dsimp only at hW); go_simp; try with_reducible rfl)
    try simp only [Act.put, List.setIfInBounds_toArray, List.set_cons_zero, List.set_cons_succ]
    refine wpAnyH_take (i := 3) (oi := { dst := some 98, op := Op.move (Operand.tmp 97), type := 4, pos := _, after := _, guard := none }) (v := ?_) rfl (by kernel_rfl) (by kernel_rfl) (by kernel_rfl) (fun _ _ _ h => h) (Or.inl ⟨by rfl, ?_⟩) hHeld ?_
    rotate_left 1
    · (intro W hW; (try dsimp only at hW); go_simp; try with_reducible rfl)
    try simp only [Act.put, List.setIfInBounds_toArray, List.set_cons_zero, List.set_cons_succ]
    refine wpAnyH_take (i := 4) (oi := { dst := some 99, op := Op.move (Operand.tmp 7), type := 23, pos := _, after := _, guard := some (3, true) }) (v := ?_) rfl (by kernel_rfl) (by kernel_rfl) (by kernel_rfl) (fun _ _ _ h => h) (Or.inl ⟨by rfl, ?_⟩) hHeld ?_
    rotate_left 1
    · (intro W hW; (try dsimp only at hW); go_simp; try with_reducible rfl)
    try simp only [Act.put, List.setIfInBounds_toArray, List.set_cons_zero, List.set_cons_succ]
    refine wpAnyH_take (i := 6) (oi := { dst := some 101, op := Op.move (Operand.tmp 8), type := 3, pos := _, after := _, guard := some (3, true) }) (v := ?_) rfl (by kernel_rfl) (by kernel_rfl) (by kernel_rfl) (fun _ _ _ h => h) (Or.inl ⟨by rfl, ?_⟩) hHeld ?_
    rotate_left 1
    · (intro W hW; (try dsimp only at hW); go_simp; try with_reducible rfl)
    try simp only [Act.put, List.setIfInBounds_toArray, List.set_cons_zero, List.set_cons_succ]
    refine wpAnyH_ready (rs := [5]) (by kernel_rfl) (by simp) ?_
    refine AllReadyH.cons (o := { dst := some 100, op := Op.call { callee := Callee.value (Operand.func 31), args := #[Operand.tmp 99], argTypes := #[23] }, type := 3, pos := _, after := _, guard := some (3, true) }) rfl (fun K hK => ?_) AllReadyH.nil
    go_simp
    refine (HOPZ.out _ HQa.out).mono ?_
    rintro e wb ⟨rfl, rfl⟩
    go_simp
    refine hK.out _ _ (trivial) (fun _ => ?_)
    clear hK K hHeld
    try simp only [Act.put, List.setIfInBounds_toArray, List.set_cons_zero, List.set_cons_succ]
    have hHeld : True := trivial
    refine wpAnyH_take (i := 7) (oi := { dst := some 102, op := Op.binOp BinOp.eql 3 (Operand.tmp 100) (Operand.tmp 101) 3, type := 4, pos := _, after := _, guard := some (3, true) }) (v := ?_) rfl (by kernel_rfl) (by kernel_rfl) (by kernel_rfl) (fun _ _ _ h => h) (Or.inl ⟨by rfl, ?_⟩) hHeld ?_
    rotate_left 1
    · (intro W hW; (try dsimp only at hW); go_simp; try with_reducible rfl)
    try simp only [Act.put, List.setIfInBounds_toArray, List.set_cons_zero, List.set_cons_succ]
    refine wpAnyH_take (i := 8) (oi := { dst := some 103, op := Op.pick (Operand.tmp 98) (Operand.tmp 102) (Operand.const (Value.bool false)), type := 4, pos := _, after := _, guard := none }) (v := ?_) rfl (by kernel_rfl) (by kernel_rfl) (by kernel_rfl) (fun _ _ _ h => h) (Or.inl ⟨by rfl, ?_⟩) hHeld ?_
    rotate_left 1
    · (intro W hW; (try dsimp only at hW); go_simp; try with_reducible rfl)
    try simp only [Act.put, List.setIfInBounds_toArray, List.set_cons_zero, List.set_cons_succ]
    refine wpAnyH_take (i := 9) (oi := { dst := some 104, op := Op.move (Operand.tmp 103), type := 4, pos := _, after := _, guard := none }) (v := ?_) rfl (by kernel_rfl) (by kernel_rfl) (by kernel_rfl) (fun _ _ _ h => h) (Or.inl ⟨by rfl, ?_⟩) hHeld ?_
    rotate_left 1
    · (intro W hW; (try dsimp only at hW); go_simp; try with_reducible rfl)
    try simp only [Act.put, List.setIfInBounds_toArray, List.set_cons_zero, List.set_cons_succ]
    refine wpAnyH_take (i := 10) (oi := { dst := some 105, op := Op.move (Operand.tmp 7), type := 23, pos := _, after := _, guard := some (9, true) }) (v := ?_) rfl (by kernel_rfl) (by kernel_rfl) (by kernel_rfl) (fun _ _ _ h => h) (Or.inl ⟨by rfl, ?_⟩) hHeld ?_
    rotate_left 1
    · (intro W hW; (try dsimp only at hW); go_simp; try with_reducible rfl)
    try simp only [Act.put, List.setIfInBounds_toArray, List.set_cons_zero, List.set_cons_succ]
    refine wpAnyH_take (i := 11) (oi := { dst := some 106, op := Op.move (Operand.tmp 1), type := 3, pos := _, after := _, guard := some (9, true) }) (v := ?_) rfl (by kernel_rfl) (by kernel_rfl) (by kernel_rfl) (fun _ _ _ h => h) (Or.inl ⟨by rfl, ?_⟩) hHeld ?_
    rotate_left 1
    · (intro W hW; (try dsimp only at hW); go_simp; try with_reducible rfl)
    try simp only [Act.put, List.setIfInBounds_toArray, List.set_cons_zero, List.set_cons_succ]
    refine wpAnyH_ready (rs := [12]) (by kernel_rfl) (by simp) ?_
    refine AllReadyH.cons (o := { dst := some 107, op := Op.call { callee := Callee.value (Operand.func 29), args := #[Operand.tmp 105, Operand.tmp 106], argTypes := #[23, 3] }, type := 40, pos := _, after := _, guard := some (9, true) }) rfl (fun K hK => ?_) AllReadyH.nil
    go_simp
    refine (HRDZ.out _ HQa.out).mono ?_
    rintro e wc ⟨Ac, cc, rfl, hrc, hbc⟩
    have HQc := Lib.hid (HQa.out.trans (hbc.mono HQa.out.size))
    have HRc := Lib.hid hrc
    clear hrc hbc
    go_simp
    refine hK.out _ _ (trivial) (fun _ => ?_)
    clear hK K hHeld
    try simp only [Act.put, List.setIfInBounds_toArray, List.set_cons_zero, List.set_cons_succ]
    refine wpAnyH_strong (S' := fun W => Below wc.heap.size wc W) (fun W hW => trivial) _ _ _ _ ?_
    have hHeld : (fun W => Below wc.heap.size wc W) _ := Below.refl _ _
    refine wpAnyH_take (i := 13) (oi := { dst := some 108, op := Op.convert 40 9 (Operand.tmp 107), type := 9, pos := _, after := _, guard := some (9, true) }) (v := ?_) rfl (by kernel_rfl) (by kernel_rfl) (by kernel_rfl) (fun _ _ _ h => h) (Or.inl ⟨by rfl, ?_⟩) hHeld ?_
    rotate_left 1
    · (intro W hW; have hcv := conv_str (Rd.under HRc.out hW) HZL.out HZO.out; rw [← HZ1.out] at hcv; (try dsimp only at hW); go_simp; try with_reducible rfl)
    try simp only [Act.put, List.setIfInBounds_toArray, List.set_cons_zero, List.set_cons_succ]
    refine wpAnyH_ready (rs := [14]) (by kernel_rfl) (by simp) ?_
    refine AllReadyH.cons (o := { dst := some 109, op := Op.call { callee := Callee.value (Operand.func 21), args := #[Operand.const (Value.slice none 0 0)], argTypes := #[40] }, type := 40, pos := _, after := _, guard := some (9, true) }) rfl (fun K hK => ?_) AllReadyH.nil
    go_simp
    refine (sector_nil _).mono ?_
    rintro e wd ⟨rfl, hrd, hbd⟩
    have HQd := Lib.hid (HQc.out.trans (hbd.mono HQc.out.size))
    have HRd := Lib.hid hrd
    have HBd := Lib.hid hbd
    clear hrd hbd
    go_simp
    refine hK.out _ _ (HBd.out) (fun _ => ?_)
    clear hK K hHeld
    try simp only [Act.put, List.setIfInBounds_toArray, List.set_cons_zero, List.set_cons_succ]
    refine wpAnyH_strong (S' := fun W => Below wd.heap.size wd W) (fun W hW => HBd.out.trans (hW.mono HBd.out.size)) _ _ _ _ ?_
    have hHeld : (fun W => Below wd.heap.size wd W) _ := Below.refl _ _
    refine wpAnyH_take (i := 15) (oi := { dst := some 110, op := Op.convert 40 9 (Operand.tmp 109), type := 9, pos := _, after := _, guard := some (9, true) }) (v := ?_) rfl (by kernel_rfl) (by kernel_rfl) (by kernel_rfl) (fun _ _ _ h => h) (Or.inl ⟨by rfl, ?_⟩) hHeld ?_
    rotate_left 1
    · (intro W hW; have hcv := conv_str (Rd.under HRd.out hW) HZL.out HZO.out; rw [← HZ1.out] at hcv; (try dsimp only at hW); go_simp; try with_reducible rfl)
    try simp only [Act.put, List.setIfInBounds_toArray, List.set_cons_zero, List.set_cons_succ]
    refine wpAnyH_take (i := 16) (oi := { dst := some 111, op := Op.binOp BinOp.eql 9 (Operand.tmp 108) (Operand.tmp 110) 9, type := 4, pos := _, after := _, guard := some (9, true) }) (v := ?_) rfl (by kernel_rfl) (by kernel_rfl) (by kernel_rfl) (fun _ _ _ h => h) (Or.inl ⟨by rfl, ?_⟩) hHeld ?_
    rotate_left 1
    · (intro W hW; (try dsimp only at hW); go_simp; try with_reducible rfl)
    try simp only [Act.put, List.setIfInBounds_toArray, List.set_cons_zero, List.set_cons_succ]
    refine wpAnyH_take (i := 17) (oi := { dst := some 112, op := Op.pick (Operand.tmp 104) (Operand.tmp 111) (Operand.const (Value.bool false)), type := 4, pos := _, after := _, guard := none }) (v := ?_) rfl (by kernel_rfl) (by kernel_rfl) (by kernel_rfl) (fun _ _ _ h => h) (Or.inl ⟨by rfl, ?_⟩) hHeld ?_
    rotate_left 1
    · (intro W hW; (try dsimp only at hW); go_simp; try with_reducible rfl)
    try simp only [Act.put, List.setIfInBounds_toArray, List.set_cons_zero, List.set_cons_succ]
    refine wpAnyH_take (i := 18) (oi := { dst := some 113, op := Op.move (Operand.tmp 112), type := 4, pos := _, after := _, guard := none }) (v := ?_) rfl (by kernel_rfl) (by kernel_rfl) (by kernel_rfl) (fun _ _ _ h => h) (Or.inl ⟨by rfl, ?_⟩) hHeld ?_
    rotate_left 1
    · (intro W hW; (try dsimp only at hW); go_simp; try with_reducible rfl)
    try simp only [Act.put, List.setIfInBounds_toArray, List.set_cons_zero, List.set_cons_succ]
    refine wpAnyH_ready (rs := [19]) (by kernel_rfl) (by simp) ?_
    refine AllReadyH.cons (o := { dst := some 114, op := Op.call { callee := Callee.value (Operand.func 26), args := #[], argTypes := #[] }, type := 4, pos := _, after := _, guard := some (18, true) }) rfl (fun K hK => ?_) AllReadyH.nil
    go_simp
    refine (known2_any _).mono ?_
    rintro e we ⟨rfl, hbe⟩
    have HQe := Lib.hid (HQd.out.trans (hbe.mono HQd.out.size))
    have HBe := Lib.hid hbe
    clear hbe
    go_simp
    refine hK.out _ _ (HBe.out) (fun _ => ?_)
    clear hK K hHeld
    try simp only [Act.put, List.setIfInBounds_toArray, List.set_cons_zero, List.set_cons_succ]
    refine wpAnyH_strong (S' := fun W => Below we.heap.size we W) (fun W hW => HBe.out.trans (hW.mono HBe.out.size)) _ _ _ _ ?_
    have hHeld : (fun W => Below we.heap.size we W) _ := Below.refl _ _
    refine wpAnyH_take (i := 20) (oi := { dst := some 115, op := Op.pick (Operand.tmp 113) (Operand.tmp 114) (Operand.const (Value.bool false)), type := 4, pos := _, after := _, guard := none }) (v := ?_) rfl (by kernel_rfl) (by kernel_rfl) (by kernel_rfl) (fun _ _ _ h => h) (Or.inl ⟨by rfl, ?_⟩) hHeld ?_
    rotate_left 1
    · (intro W hW; (try dsimp only at hW); go_simp; try with_reducible rfl)
    try simp only [Act.put, List.setIfInBounds_toArray, List.set_cons_zero, List.set_cons_succ]
    refine wpAnyH_take (i := 21) (oi := { dst := some 6, op := Op.assign (Operand.tmp 115), type := 4, pos := _, after := _, guard := none }) (v := ?_) rfl (by kernel_rfl) (by kernel_rfl) (by kernel_rfl) (fun _ _ _ h => h) (Or.inl ⟨by rfl, ?_⟩) hHeld ?_
    rotate_left 1
    · (intro W hW; (try dsimp only at hW); go_simp; try with_reducible rfl)
    try simp only [Act.put, List.setIfInBounds_toArray, List.set_cons_zero, List.set_cons_succ]
    refine wpAnyH_done (by kernel_rfl) ?_ _
    refine NoPanic.normal ?_
    go_wp2_with fail
    go_ret
    exact ⟨rfl, HBz.out.trans (HQe.out.mono HBz.out.size)⟩
  by_cases hw1 : way = 1
  · subst hw1
    have hA := HA.out
    have kw0 : IntKind.i64.wrap (243 + (a : Int)) = 243 + (a : Int) := IntWalk.i64_in _ (by omega)
    have kw1 : IntKind.i64.wrap (-1 - (a : Int)) = -1 - (a : Int) := IntWalk.i64_in _ (by omega)
    have xc0 := HXV.out.cell 0
    have xc1 := HXV.out.cell 1
    have HCM := Lib.hid (commit_made HDV.out HFV.out HBV2.out.size ([⟨(a : Int), some ⟨wm.heap.size, 0, none⟩, 64, secX⟩, ⟨-1 - (a : Int), some ⟨wm.heap.size, 0, none⟩, 64, secX⟩] : List Wr) (fun x hx => by simp at hx; rcases hx with rfl | rfl <;> exact ⟨HRV.out, fun b o e => by cases e; exact HSM.out⟩) (by simp) kM_small.1 kM_small.2 (w3.heap.size + 1) 2 HVS.out rfl #[.int .i64 (a : Int), .slice (some ⟨wm.heap.size, 0, none⟩) 64 64, .int .i64 (-1 - (a : Int)), .slice (some ⟨wm.heap.size, 0, none⟩) 64 64] rfl 42 (0, 0) (show kM.commit (wv [⟨(a : Int), some ⟨wm.heap.size, 0, none⟩, 64, secX⟩, ⟨-1 - (a : Int), some ⟨wm.heap.size, 0, none⟩, 64, secX⟩]) = (kM, 1) from ref1 (a := (a : Int)) (by omega)) (c := 1) rfl)
    go_wp2_with fail
    rw [← HV.out]
    refine HCM.out.mono ?_
    rintro e wz ⟨rfl, hdz, hoz⟩
    have HDz := Lib.hid hdz
    have HBz := Lib.hid (HUP.out _ hoz)
    clear hdz hoz HCM xc0 xc1 kw0 kw1 hA
    have HRDZ : Hid (∀ W, Below wz.heap.size wz W → Calls Try.prog 29 #[.pointer (some ⟨gd, 0, none⟩), .int .i64 (a : Int)] W fun e w' => ∃ A c, e = .returned (.slice A 64 c) ∧ Rd .u8 w' w'.heap.size A c zsec ∧ Below W.heap.size W w') := Lib.hid fun W hW => by
      obtain ⟨F', hd'⟩ := HDz.out
      have := dj_read ((DJ.start hd').below hW) (a : Int) kM_many (x := zsec) (by have := HA.out; rw [if_pos (by omega)]; exact kM_place (by omega))
      rw [zsec_len] at this
      exact this
    have HOPZ : Hid (∀ W, Below wz.heap.size wz W → Calls Try.prog 31 #[.pointer (some ⟨gd, 0, none⟩)] W fun e w' => e = .returned (.int .i64 (op : Int)) ∧ W = w') := Lib.hid fun W hW => by
      obtain ⟨F', hd'⟩ := HDz.out
      have := disk_ops ((DJ.start hd').below hW).1
      rw [← HPO.out] at this
      exact this
    clear HDz
    go_wp2_with fail
    refine wp_region_noPanic ?_
    refine wp_region_held_drew (S := fun _ => True) (by kernel_rfl) trivial (fun hHeld => ?_)
    obtain ⟨wa, hwa⟩ : ∃ W, W = wz.drew := ⟨_, rfl⟩
    rw [← hwa]
    have HQa : Hid (Below wz.heap.size wz wa) := Lib.hid (by rw [hwa]; exact (Below.refl _ _).drew)
    clear hwa
    replace hHeld : True := trivial
    refine wpAnyH_take (i := 0) (oi := { dst := some 95, op := Op.move (Operand.tmp 10), type := 33, pos := _, after := _, guard := none }) (v := ?_) rfl (by kernel_rfl) (by kernel_rfl) (by kernel_rfl) (fun _ _ _ h => h) (Or.inl ⟨by rfl, ?_⟩) hHeld ?_
    rotate_left 1
    · (intro W hW; (try dsimp only at hW); go_simp; try with_reducible rfl)
    try simp only [Act.put, List.setIfInBounds_toArray, List.set_cons_zero, List.set_cons_succ]
    refine wpAnyH_take (i := 1) (oi := { dst := some 96, op := Op.move (Operand.tmp 11), type := 33, pos := _, after := _, guard := none }) (v := ?_) rfl (by kernel_rfl) (by kernel_rfl) (by kernel_rfl) (fun _ _ _ h => h) (Or.inl ⟨by rfl, ?_⟩) hHeld ?_
    rotate_left 1
    · (intro W hW; (try dsimp only at hW); go_simp; try with_reducible rfl)
    try simp only [Act.put, List.setIfInBounds_toArray, List.set_cons_zero, List.set_cons_succ]
    refine wpAnyH_take (i := 2) (oi := { dst := some 97, op := Op.binOp BinOp.eql 33 (Operand.tmp 95) (Operand.tmp 96) 33, type := 4, pos := _, after := _, guard := none }) (v := ?_) rfl (by kernel_rfl) (by kernel_rfl) (by kernel_rfl) (fun _ _ _ h => h) (Or.inl ⟨by rfl, ?_⟩) hHeld ?_
    rotate_left 1
    · (intro W hW; (try dsimp only at hW); go_simp; try with_reducible rfl)
    try simp only [Act.put, List.setIfInBounds_toArray, List.set_cons_zero, List.set_cons_succ]
    refine wpAnyH_take (i := 3) (oi := { dst := some 98, op := Op.move (Operand.tmp 97), type := 4, pos := _, after := _, guard := none }) (v := ?_) rfl (by kernel_rfl) (by kernel_rfl) (by kernel_rfl) (fun _ _ _ h => h) (Or.inl ⟨by rfl, ?_⟩) hHeld ?_
    rotate_left 1
    · (intro W hW; (try dsimp only at hW); go_simp; try with_reducible rfl)
    try simp only [Act.put, List.setIfInBounds_toArray, List.set_cons_zero, List.set_cons_succ]
    refine wpAnyH_take (i := 4) (oi := { dst := some 99, op := Op.move (Operand.tmp 7), type := 23, pos := _, after := _, guard := some (3, true) }) (v := ?_) rfl (by kernel_rfl) (by kernel_rfl) (by kernel_rfl) (fun _ _ _ h => h) (Or.inl ⟨by rfl, ?_⟩) hHeld ?_
    rotate_left 1
    · (intro W hW; (try dsimp only at hW); go_simp; try with_reducible rfl)
    try simp only [Act.put, List.setIfInBounds_toArray, List.set_cons_zero, List.set_cons_succ]
    refine wpAnyH_take (i := 6) (oi := { dst := some 101, op := Op.move (Operand.tmp 8), type := 3, pos := _, after := _, guard := some (3, true) }) (v := ?_) rfl (by kernel_rfl) (by kernel_rfl) (by kernel_rfl) (fun _ _ _ h => h) (Or.inl ⟨by rfl, ?_⟩) hHeld ?_
    rotate_left 1
    · (intro W hW; (try dsimp only at hW); go_simp; try with_reducible rfl)
    try simp only [Act.put, List.setIfInBounds_toArray, List.set_cons_zero, List.set_cons_succ]
    refine wpAnyH_ready (rs := [5]) (by kernel_rfl) (by simp) ?_
    refine AllReadyH.cons (o := { dst := some 100, op := Op.call { callee := Callee.value (Operand.func 31), args := #[Operand.tmp 99], argTypes := #[23] }, type := 3, pos := _, after := _, guard := some (3, true) }) rfl (fun K hK => ?_) AllReadyH.nil
    go_simp
    refine (HOPZ.out _ HQa.out).mono ?_
    rintro e wb ⟨rfl, rfl⟩
    go_simp
    refine hK.out _ _ (trivial) (fun _ => ?_)
    clear hK K hHeld
    try simp only [Act.put, List.setIfInBounds_toArray, List.set_cons_zero, List.set_cons_succ]
    have hHeld : True := trivial
    refine wpAnyH_take (i := 7) (oi := { dst := some 102, op := Op.binOp BinOp.eql 3 (Operand.tmp 100) (Operand.tmp 101) 3, type := 4, pos := _, after := _, guard := some (3, true) }) (v := ?_) rfl (by kernel_rfl) (by kernel_rfl) (by kernel_rfl) (fun _ _ _ h => h) (Or.inl ⟨by rfl, ?_⟩) hHeld ?_
    rotate_left 1
    · (intro W hW; (try dsimp only at hW); go_simp; try with_reducible rfl)
    try simp only [Act.put, List.setIfInBounds_toArray, List.set_cons_zero, List.set_cons_succ]
    refine wpAnyH_take (i := 8) (oi := { dst := some 103, op := Op.pick (Operand.tmp 98) (Operand.tmp 102) (Operand.const (Value.bool false)), type := 4, pos := _, after := _, guard := none }) (v := ?_) rfl (by kernel_rfl) (by kernel_rfl) (by kernel_rfl) (fun _ _ _ h => h) (Or.inl ⟨by rfl, ?_⟩) hHeld ?_
    rotate_left 1
    · (intro W hW; (try dsimp only at hW); go_simp; try with_reducible rfl)
    try simp only [Act.put, List.setIfInBounds_toArray, List.set_cons_zero, List.set_cons_succ]
    refine wpAnyH_take (i := 9) (oi := { dst := some 104, op := Op.move (Operand.tmp 103), type := 4, pos := _, after := _, guard := none }) (v := ?_) rfl (by kernel_rfl) (by kernel_rfl) (by kernel_rfl) (fun _ _ _ h => h) (Or.inl ⟨by rfl, ?_⟩) hHeld ?_
    rotate_left 1
    · (intro W hW; (try dsimp only at hW); go_simp; try with_reducible rfl)
    try simp only [Act.put, List.setIfInBounds_toArray, List.set_cons_zero, List.set_cons_succ]
    refine wpAnyH_take (i := 10) (oi := { dst := some 105, op := Op.move (Operand.tmp 7), type := 23, pos := _, after := _, guard := some (9, true) }) (v := ?_) rfl (by kernel_rfl) (by kernel_rfl) (by kernel_rfl) (fun _ _ _ h => h) (Or.inl ⟨by rfl, ?_⟩) hHeld ?_
    rotate_left 1
    · (intro W hW; (try dsimp only at hW); go_simp; try with_reducible rfl)
    try simp only [Act.put, List.setIfInBounds_toArray, List.set_cons_zero, List.set_cons_succ]
    refine wpAnyH_take (i := 11) (oi := { dst := some 106, op := Op.move (Operand.tmp 1), type := 3, pos := _, after := _, guard := some (9, true) }) (v := ?_) rfl (by kernel_rfl) (by kernel_rfl) (by kernel_rfl) (fun _ _ _ h => h) (Or.inl ⟨by rfl, ?_⟩) hHeld ?_
    rotate_left 1
    · (intro W hW; (try dsimp only at hW); go_simp; try with_reducible rfl)
    try simp only [Act.put, List.setIfInBounds_toArray, List.set_cons_zero, List.set_cons_succ]
    refine wpAnyH_ready (rs := [12]) (by kernel_rfl) (by simp) ?_
    refine AllReadyH.cons (o := { dst := some 107, op := Op.call { callee := Callee.value (Operand.func 29), args := #[Operand.tmp 105, Operand.tmp 106], argTypes := #[23, 3] }, type := 40, pos := _, after := _, guard := some (9, true) }) rfl (fun K hK => ?_) AllReadyH.nil
    go_simp
    refine (HRDZ.out _ HQa.out).mono ?_
    rintro e wc ⟨Ac, cc, rfl, hrc, hbc⟩
    have HQc := Lib.hid (HQa.out.trans (hbc.mono HQa.out.size))
    have HRc := Lib.hid hrc
    clear hrc hbc
    go_simp
    refine hK.out _ _ (trivial) (fun _ => ?_)
    clear hK K hHeld
    try simp only [Act.put, List.setIfInBounds_toArray, List.set_cons_zero, List.set_cons_succ]
    refine wpAnyH_strong (S' := fun W => Below wc.heap.size wc W) (fun W hW => trivial) _ _ _ _ ?_
    have hHeld : (fun W => Below wc.heap.size wc W) _ := Below.refl _ _
    refine wpAnyH_take (i := 13) (oi := { dst := some 108, op := Op.convert 40 9 (Operand.tmp 107), type := 9, pos := _, after := _, guard := some (9, true) }) (v := ?_) rfl (by kernel_rfl) (by kernel_rfl) (by kernel_rfl) (fun _ _ _ h => h) (Or.inl ⟨by rfl, ?_⟩) hHeld ?_
    rotate_left 1
    · (intro W hW; have hcv := conv_str (Rd.under HRc.out hW) HZL.out HZO.out; rw [← HZ1.out] at hcv; (try dsimp only at hW); go_simp; try with_reducible rfl)
    try simp only [Act.put, List.setIfInBounds_toArray, List.set_cons_zero, List.set_cons_succ]
    refine wpAnyH_ready (rs := [14]) (by kernel_rfl) (by simp) ?_
    refine AllReadyH.cons (o := { dst := some 109, op := Op.call { callee := Callee.value (Operand.func 21), args := #[Operand.const (Value.slice none 0 0)], argTypes := #[40] }, type := 40, pos := _, after := _, guard := some (9, true) }) rfl (fun K hK => ?_) AllReadyH.nil
    go_simp
    refine (sector_nil _).mono ?_
    rintro e wd ⟨rfl, hrd, hbd⟩
    have HQd := Lib.hid (HQc.out.trans (hbd.mono HQc.out.size))
    have HRd := Lib.hid hrd
    have HBd := Lib.hid hbd
    clear hrd hbd
    go_simp
    refine hK.out _ _ (HBd.out) (fun _ => ?_)
    clear hK K hHeld
    try simp only [Act.put, List.setIfInBounds_toArray, List.set_cons_zero, List.set_cons_succ]
    refine wpAnyH_strong (S' := fun W => Below wd.heap.size wd W) (fun W hW => HBd.out.trans (hW.mono HBd.out.size)) _ _ _ _ ?_
    have hHeld : (fun W => Below wd.heap.size wd W) _ := Below.refl _ _
    refine wpAnyH_take (i := 15) (oi := { dst := some 110, op := Op.convert 40 9 (Operand.tmp 109), type := 9, pos := _, after := _, guard := some (9, true) }) (v := ?_) rfl (by kernel_rfl) (by kernel_rfl) (by kernel_rfl) (fun _ _ _ h => h) (Or.inl ⟨by rfl, ?_⟩) hHeld ?_
    rotate_left 1
    · (intro W hW; have hcv := conv_str (Rd.under HRd.out hW) HZL.out HZO.out; rw [← HZ1.out] at hcv; (try dsimp only at hW); go_simp; try with_reducible rfl)
    try simp only [Act.put, List.setIfInBounds_toArray, List.set_cons_zero, List.set_cons_succ]
    refine wpAnyH_take (i := 16) (oi := { dst := some 111, op := Op.binOp BinOp.eql 9 (Operand.tmp 108) (Operand.tmp 110) 9, type := 4, pos := _, after := _, guard := some (9, true) }) (v := ?_) rfl (by kernel_rfl) (by kernel_rfl) (by kernel_rfl) (fun _ _ _ h => h) (Or.inl ⟨by rfl, ?_⟩) hHeld ?_
    rotate_left 1
    · (intro W hW; (try dsimp only at hW); go_simp; try with_reducible rfl)
    try simp only [Act.put, List.setIfInBounds_toArray, List.set_cons_zero, List.set_cons_succ]
    refine wpAnyH_take (i := 17) (oi := { dst := some 112, op := Op.pick (Operand.tmp 104) (Operand.tmp 111) (Operand.const (Value.bool false)), type := 4, pos := _, after := _, guard := none }) (v := ?_) rfl (by kernel_rfl) (by kernel_rfl) (by kernel_rfl) (fun _ _ _ h => h) (Or.inl ⟨by rfl, ?_⟩) hHeld ?_
    rotate_left 1
    · (intro W hW; (try dsimp only at hW); go_simp; try with_reducible rfl)
    try simp only [Act.put, List.setIfInBounds_toArray, List.set_cons_zero, List.set_cons_succ]
    refine wpAnyH_take (i := 18) (oi := { dst := some 113, op := Op.move (Operand.tmp 112), type := 4, pos := _, after := _, guard := none }) (v := ?_) rfl (by kernel_rfl) (by kernel_rfl) (by kernel_rfl) (fun _ _ _ h => h) (Or.inl ⟨by rfl, ?_⟩) hHeld ?_
    rotate_left 1
    · (intro W hW; (try dsimp only at hW); go_simp; try with_reducible rfl)
    try simp only [Act.put, List.setIfInBounds_toArray, List.set_cons_zero, List.set_cons_succ]
    refine wpAnyH_ready (rs := [19]) (by kernel_rfl) (by simp) ?_
    refine AllReadyH.cons (o := { dst := some 114, op := Op.call { callee := Callee.value (Operand.func 26), args := #[], argTypes := #[] }, type := 4, pos := _, after := _, guard := some (18, true) }) rfl (fun K hK => ?_) AllReadyH.nil
    go_simp
    refine (known2_any _).mono ?_
    rintro e we ⟨rfl, hbe⟩
    have HQe := Lib.hid (HQd.out.trans (hbe.mono HQd.out.size))
    have HBe := Lib.hid hbe
    clear hbe
    go_simp
    refine hK.out _ _ (HBe.out) (fun _ => ?_)
    clear hK K hHeld
    try simp only [Act.put, List.setIfInBounds_toArray, List.set_cons_zero, List.set_cons_succ]
    refine wpAnyH_strong (S' := fun W => Below we.heap.size we W) (fun W hW => HBe.out.trans (hW.mono HBe.out.size)) _ _ _ _ ?_
    have hHeld : (fun W => Below we.heap.size we W) _ := Below.refl _ _
    refine wpAnyH_take (i := 20) (oi := { dst := some 115, op := Op.pick (Operand.tmp 113) (Operand.tmp 114) (Operand.const (Value.bool false)), type := 4, pos := _, after := _, guard := none }) (v := ?_) rfl (by kernel_rfl) (by kernel_rfl) (by kernel_rfl) (fun _ _ _ h => h) (Or.inl ⟨by rfl, ?_⟩) hHeld ?_
    rotate_left 1
    · (intro W hW; (try dsimp only at hW); go_simp; try with_reducible rfl)
    try simp only [Act.put, List.setIfInBounds_toArray, List.set_cons_zero, List.set_cons_succ]
    refine wpAnyH_take (i := 21) (oi := { dst := some 6, op := Op.assign (Operand.tmp 115), type := 4, pos := _, after := _, guard := none }) (v := ?_) rfl (by kernel_rfl) (by kernel_rfl) (by kernel_rfl) (fun _ _ _ h => h) (Or.inl ⟨by rfl, ?_⟩) hHeld ?_
    rotate_left 1
    · (intro W hW; (try dsimp only at hW); go_simp; try with_reducible rfl)
    try simp only [Act.put, List.setIfInBounds_toArray, List.set_cons_zero, List.set_cons_succ]
    refine wpAnyH_done (by kernel_rfl) ?_ _
    refine NoPanic.normal ?_
    go_wp2_with fail
    go_ret
    exact ⟨rfl, HBz.out.trans (HQe.out.mono HBz.out.size)⟩
  by_cases hw2 : way = 2
  · subst hw2
    have hA := HA.out
    have kw0 : IntKind.i64.wrap (243 + (a : Int)) = 243 + (a : Int) := IntWalk.i64_in _ (by omega)
    have kw1 : IntKind.i64.wrap (-1 - (a : Int)) = -1 - (a : Int) := IntWalk.i64_in _ (by omega)
    have xc0 := HXV.out.cell 0
    have xc1 := HXV.out.cell 1
    have HCM := Lib.hid (commit_made HDV.out HFV.out HBV2.out.size ([⟨(a : Int), some ⟨wm.heap.size, 0, none⟩, 64, secX⟩, ⟨(a : Int), some ⟨wm.heap.size, 0, none⟩, 64, secX⟩] : List Wr) (fun x hx => by simp at hx; rcases hx with rfl | rfl <;> exact ⟨HRV.out, fun b o e => by cases e; exact HSM.out⟩) (by simp) kM_small.1 kM_small.2 (w3.heap.size + 1) 2 HVS.out rfl #[.int .i64 (a : Int), .slice (some ⟨wm.heap.size, 0, none⟩) 64 64, .int .i64 (a : Int), .slice (some ⟨wm.heap.size, 0, none⟩) 64 64] rfl 42 (0, 0) (show kM.commit (wv [⟨(a : Int), some ⟨wm.heap.size, 0, none⟩, 64, secX⟩, ⟨(a : Int), some ⟨wm.heap.size, 0, none⟩, 64, secX⟩]) = (kM, 1) from ref2 (a := (a : Int))) (c := 1) rfl)
    go_wp2_with fail
    rw [← HV.out]
    refine HCM.out.mono ?_
    rintro e wz ⟨rfl, hdz, hoz⟩
    have HDz := Lib.hid hdz
    have HBz := Lib.hid (HUP.out _ hoz)
    clear hdz hoz HCM xc0 xc1 kw0 kw1 hA
    have HRDZ : Hid (∀ W, Below wz.heap.size wz W → Calls Try.prog 29 #[.pointer (some ⟨gd, 0, none⟩), .int .i64 (a : Int)] W fun e w' => ∃ A c, e = .returned (.slice A 64 c) ∧ Rd .u8 w' w'.heap.size A c zsec ∧ Below W.heap.size W w') := Lib.hid fun W hW => by
      obtain ⟨F', hd'⟩ := HDz.out
      have := dj_read ((DJ.start hd').below hW) (a : Int) kM_many (x := zsec) (by have := HA.out; rw [if_pos (by omega)]; exact kM_place (by omega))
      rw [zsec_len] at this
      exact this
    have HOPZ : Hid (∀ W, Below wz.heap.size wz W → Calls Try.prog 31 #[.pointer (some ⟨gd, 0, none⟩)] W fun e w' => e = .returned (.int .i64 (op : Int)) ∧ W = w') := Lib.hid fun W hW => by
      obtain ⟨F', hd'⟩ := HDz.out
      have := disk_ops ((DJ.start hd').below hW).1
      rw [← HPO.out] at this
      exact this
    clear HDz
    go_wp2_with fail
    refine wp_region_noPanic ?_
    refine wp_region_held_drew (S := fun _ => True) (by kernel_rfl) trivial (fun hHeld => ?_)
    obtain ⟨wa, hwa⟩ : ∃ W, W = wz.drew := ⟨_, rfl⟩
    rw [← hwa]
    have HQa : Hid (Below wz.heap.size wz wa) := Lib.hid (by rw [hwa]; exact (Below.refl _ _).drew)
    clear hwa
    replace hHeld : True := trivial
    refine wpAnyH_take (i := 0) (oi := { dst := some 95, op := Op.move (Operand.tmp 10), type := 33, pos := _, after := _, guard := none }) (v := ?_) rfl (by kernel_rfl) (by kernel_rfl) (by kernel_rfl) (fun _ _ _ h => h) (Or.inl ⟨by rfl, ?_⟩) hHeld ?_
    rotate_left 1
    · (intro W hW; (try dsimp only at hW); go_simp; try with_reducible rfl)
    try simp only [Act.put, List.setIfInBounds_toArray, List.set_cons_zero, List.set_cons_succ]
    refine wpAnyH_take (i := 1) (oi := { dst := some 96, op := Op.move (Operand.tmp 11), type := 33, pos := _, after := _, guard := none }) (v := ?_) rfl (by kernel_rfl) (by kernel_rfl) (by kernel_rfl) (fun _ _ _ h => h) (Or.inl ⟨by rfl, ?_⟩) hHeld ?_
    rotate_left 1
    · (intro W hW; (try dsimp only at hW); go_simp; try with_reducible rfl)
    try simp only [Act.put, List.setIfInBounds_toArray, List.set_cons_zero, List.set_cons_succ]
    refine wpAnyH_take (i := 2) (oi := { dst := some 97, op := Op.binOp BinOp.eql 33 (Operand.tmp 95) (Operand.tmp 96) 33, type := 4, pos := _, after := _, guard := none }) (v := ?_) rfl (by kernel_rfl) (by kernel_rfl) (by kernel_rfl) (fun _ _ _ h => h) (Or.inl ⟨by rfl, ?_⟩) hHeld ?_
    rotate_left 1
    · (intro W hW; (try dsimp only at hW); go_simp; try with_reducible rfl)
    try simp only [Act.put, List.setIfInBounds_toArray, List.set_cons_zero, List.set_cons_succ]
    refine wpAnyH_take (i := 3) (oi := { dst := some 98, op := Op.move (Operand.tmp 97), type := 4, pos := _, after := _, guard := none }) (v := ?_) rfl (by kernel_rfl) (by kernel_rfl) (by kernel_rfl) (fun _ _ _ h => h) (Or.inl ⟨by rfl, ?_⟩) hHeld ?_
    rotate_left 1
    · (intro W hW; (try dsimp only at hW); go_simp; try with_reducible rfl)
    try simp only [Act.put, List.setIfInBounds_toArray, List.set_cons_zero, List.set_cons_succ]
    refine wpAnyH_take (i := 4) (oi := { dst := some 99, op := Op.move (Operand.tmp 7), type := 23, pos := _, after := _, guard := some (3, true) }) (v := ?_) rfl (by kernel_rfl) (by kernel_rfl) (by kernel_rfl) (fun _ _ _ h => h) (Or.inl ⟨by rfl, ?_⟩) hHeld ?_
    rotate_left 1
    · (intro W hW; (try dsimp only at hW); go_simp; try with_reducible rfl)
    try simp only [Act.put, List.setIfInBounds_toArray, List.set_cons_zero, List.set_cons_succ]
    refine wpAnyH_take (i := 6) (oi := { dst := some 101, op := Op.move (Operand.tmp 8), type := 3, pos := _, after := _, guard := some (3, true) }) (v := ?_) rfl (by kernel_rfl) (by kernel_rfl) (by kernel_rfl) (fun _ _ _ h => h) (Or.inl ⟨by rfl, ?_⟩) hHeld ?_
    rotate_left 1
    · (intro W hW; (try dsimp only at hW); go_simp; try with_reducible rfl)
    try simp only [Act.put, List.setIfInBounds_toArray, List.set_cons_zero, List.set_cons_succ]
    refine wpAnyH_ready (rs := [5]) (by kernel_rfl) (by simp) ?_
    refine AllReadyH.cons (o := { dst := some 100, op := Op.call { callee := Callee.value (Operand.func 31), args := #[Operand.tmp 99], argTypes := #[23] }, type := 3, pos := _, after := _, guard := some (3, true) }) rfl (fun K hK => ?_) AllReadyH.nil
    go_simp
    refine (HOPZ.out _ HQa.out).mono ?_
    rintro e wb ⟨rfl, rfl⟩
    go_simp
    refine hK.out _ _ (trivial) (fun _ => ?_)
    clear hK K hHeld
    try simp only [Act.put, List.setIfInBounds_toArray, List.set_cons_zero, List.set_cons_succ]
    have hHeld : True := trivial
    refine wpAnyH_take (i := 7) (oi := { dst := some 102, op := Op.binOp BinOp.eql 3 (Operand.tmp 100) (Operand.tmp 101) 3, type := 4, pos := _, after := _, guard := some (3, true) }) (v := ?_) rfl (by kernel_rfl) (by kernel_rfl) (by kernel_rfl) (fun _ _ _ h => h) (Or.inl ⟨by rfl, ?_⟩) hHeld ?_
    rotate_left 1
    · (intro W hW; (try dsimp only at hW); go_simp; try with_reducible rfl)
    try simp only [Act.put, List.setIfInBounds_toArray, List.set_cons_zero, List.set_cons_succ]
    refine wpAnyH_take (i := 8) (oi := { dst := some 103, op := Op.pick (Operand.tmp 98) (Operand.tmp 102) (Operand.const (Value.bool false)), type := 4, pos := _, after := _, guard := none }) (v := ?_) rfl (by kernel_rfl) (by kernel_rfl) (by kernel_rfl) (fun _ _ _ h => h) (Or.inl ⟨by rfl, ?_⟩) hHeld ?_
    rotate_left 1
    · (intro W hW; (try dsimp only at hW); go_simp; try with_reducible rfl)
    try simp only [Act.put, List.setIfInBounds_toArray, List.set_cons_zero, List.set_cons_succ]
    refine wpAnyH_take (i := 9) (oi := { dst := some 104, op := Op.move (Operand.tmp 103), type := 4, pos := _, after := _, guard := none }) (v := ?_) rfl (by kernel_rfl) (by kernel_rfl) (by kernel_rfl) (fun _ _ _ h => h) (Or.inl ⟨by rfl, ?_⟩) hHeld ?_
    rotate_left 1
    · (intro W hW; (try dsimp only at hW); go_simp; try with_reducible rfl)
    try simp only [Act.put, List.setIfInBounds_toArray, List.set_cons_zero, List.set_cons_succ]
    refine wpAnyH_take (i := 10) (oi := { dst := some 105, op := Op.move (Operand.tmp 7), type := 23, pos := _, after := _, guard := some (9, true) }) (v := ?_) rfl (by kernel_rfl) (by kernel_rfl) (by kernel_rfl) (fun _ _ _ h => h) (Or.inl ⟨by rfl, ?_⟩) hHeld ?_
    rotate_left 1
    · (intro W hW; (try dsimp only at hW); go_simp; try with_reducible rfl)
    try simp only [Act.put, List.setIfInBounds_toArray, List.set_cons_zero, List.set_cons_succ]
    refine wpAnyH_take (i := 11) (oi := { dst := some 106, op := Op.move (Operand.tmp 1), type := 3, pos := _, after := _, guard := some (9, true) }) (v := ?_) rfl (by kernel_rfl) (by kernel_rfl) (by kernel_rfl) (fun _ _ _ h => h) (Or.inl ⟨by rfl, ?_⟩) hHeld ?_
    rotate_left 1
    · (intro W hW; (try dsimp only at hW); go_simp; try with_reducible rfl)
    try simp only [Act.put, List.setIfInBounds_toArray, List.set_cons_zero, List.set_cons_succ]
    refine wpAnyH_ready (rs := [12]) (by kernel_rfl) (by simp) ?_
    refine AllReadyH.cons (o := { dst := some 107, op := Op.call { callee := Callee.value (Operand.func 29), args := #[Operand.tmp 105, Operand.tmp 106], argTypes := #[23, 3] }, type := 40, pos := _, after := _, guard := some (9, true) }) rfl (fun K hK => ?_) AllReadyH.nil
    go_simp
    refine (HRDZ.out _ HQa.out).mono ?_
    rintro e wc ⟨Ac, cc, rfl, hrc, hbc⟩
    have HQc := Lib.hid (HQa.out.trans (hbc.mono HQa.out.size))
    have HRc := Lib.hid hrc
    clear hrc hbc
    go_simp
    refine hK.out _ _ (trivial) (fun _ => ?_)
    clear hK K hHeld
    try simp only [Act.put, List.setIfInBounds_toArray, List.set_cons_zero, List.set_cons_succ]
    refine wpAnyH_strong (S' := fun W => Below wc.heap.size wc W) (fun W hW => trivial) _ _ _ _ ?_
    have hHeld : (fun W => Below wc.heap.size wc W) _ := Below.refl _ _
    refine wpAnyH_take (i := 13) (oi := { dst := some 108, op := Op.convert 40 9 (Operand.tmp 107), type := 9, pos := _, after := _, guard := some (9, true) }) (v := ?_) rfl (by kernel_rfl) (by kernel_rfl) (by kernel_rfl) (fun _ _ _ h => h) (Or.inl ⟨by rfl, ?_⟩) hHeld ?_
    rotate_left 1
    · (intro W hW; have hcv := conv_str (Rd.under HRc.out hW) HZL.out HZO.out; rw [← HZ1.out] at hcv; (try dsimp only at hW); go_simp; try with_reducible rfl)
    try simp only [Act.put, List.setIfInBounds_toArray, List.set_cons_zero, List.set_cons_succ]
    refine wpAnyH_ready (rs := [14]) (by kernel_rfl) (by simp) ?_
    refine AllReadyH.cons (o := { dst := some 109, op := Op.call { callee := Callee.value (Operand.func 21), args := #[Operand.const (Value.slice none 0 0)], argTypes := #[40] }, type := 40, pos := _, after := _, guard := some (9, true) }) rfl (fun K hK => ?_) AllReadyH.nil
    go_simp
    refine (sector_nil _).mono ?_
    rintro e wd ⟨rfl, hrd, hbd⟩
    have HQd := Lib.hid (HQc.out.trans (hbd.mono HQc.out.size))
    have HRd := Lib.hid hrd
    have HBd := Lib.hid hbd
    clear hrd hbd
    go_simp
    refine hK.out _ _ (HBd.out) (fun _ => ?_)
    clear hK K hHeld
    try simp only [Act.put, List.setIfInBounds_toArray, List.set_cons_zero, List.set_cons_succ]
    refine wpAnyH_strong (S' := fun W => Below wd.heap.size wd W) (fun W hW => HBd.out.trans (hW.mono HBd.out.size)) _ _ _ _ ?_
    have hHeld : (fun W => Below wd.heap.size wd W) _ := Below.refl _ _
    refine wpAnyH_take (i := 15) (oi := { dst := some 110, op := Op.convert 40 9 (Operand.tmp 109), type := 9, pos := _, after := _, guard := some (9, true) }) (v := ?_) rfl (by kernel_rfl) (by kernel_rfl) (by kernel_rfl) (fun _ _ _ h => h) (Or.inl ⟨by rfl, ?_⟩) hHeld ?_
    rotate_left 1
    · (intro W hW; have hcv := conv_str (Rd.under HRd.out hW) HZL.out HZO.out; rw [← HZ1.out] at hcv; (try dsimp only at hW); go_simp; try with_reducible rfl)
    try simp only [Act.put, List.setIfInBounds_toArray, List.set_cons_zero, List.set_cons_succ]
    refine wpAnyH_take (i := 16) (oi := { dst := some 111, op := Op.binOp BinOp.eql 9 (Operand.tmp 108) (Operand.tmp 110) 9, type := 4, pos := _, after := _, guard := some (9, true) }) (v := ?_) rfl (by kernel_rfl) (by kernel_rfl) (by kernel_rfl) (fun _ _ _ h => h) (Or.inl ⟨by rfl, ?_⟩) hHeld ?_
    rotate_left 1
    · (intro W hW; (try dsimp only at hW); go_simp; try with_reducible rfl)
    try simp only [Act.put, List.setIfInBounds_toArray, List.set_cons_zero, List.set_cons_succ]
    refine wpAnyH_take (i := 17) (oi := { dst := some 112, op := Op.pick (Operand.tmp 104) (Operand.tmp 111) (Operand.const (Value.bool false)), type := 4, pos := _, after := _, guard := none }) (v := ?_) rfl (by kernel_rfl) (by kernel_rfl) (by kernel_rfl) (fun _ _ _ h => h) (Or.inl ⟨by rfl, ?_⟩) hHeld ?_
    rotate_left 1
    · (intro W hW; (try dsimp only at hW); go_simp; try with_reducible rfl)
    try simp only [Act.put, List.setIfInBounds_toArray, List.set_cons_zero, List.set_cons_succ]
    refine wpAnyH_take (i := 18) (oi := { dst := some 113, op := Op.move (Operand.tmp 112), type := 4, pos := _, after := _, guard := none }) (v := ?_) rfl (by kernel_rfl) (by kernel_rfl) (by kernel_rfl) (fun _ _ _ h => h) (Or.inl ⟨by rfl, ?_⟩) hHeld ?_
    rotate_left 1
    · (intro W hW; (try dsimp only at hW); go_simp; try with_reducible rfl)
    try simp only [Act.put, List.setIfInBounds_toArray, List.set_cons_zero, List.set_cons_succ]
    refine wpAnyH_ready (rs := [19]) (by kernel_rfl) (by simp) ?_
    refine AllReadyH.cons (o := { dst := some 114, op := Op.call { callee := Callee.value (Operand.func 26), args := #[], argTypes := #[] }, type := 4, pos := _, after := _, guard := some (18, true) }) rfl (fun K hK => ?_) AllReadyH.nil
    go_simp
    refine (known2_any _).mono ?_
    rintro e we ⟨rfl, hbe⟩
    have HQe := Lib.hid (HQd.out.trans (hbe.mono HQd.out.size))
    have HBe := Lib.hid hbe
    clear hbe
    go_simp
    refine hK.out _ _ (HBe.out) (fun _ => ?_)
    clear hK K hHeld
    try simp only [Act.put, List.setIfInBounds_toArray, List.set_cons_zero, List.set_cons_succ]
    refine wpAnyH_strong (S' := fun W => Below we.heap.size we W) (fun W hW => HBe.out.trans (hW.mono HBe.out.size)) _ _ _ _ ?_
    have hHeld : (fun W => Below we.heap.size we W) _ := Below.refl _ _
    refine wpAnyH_take (i := 20) (oi := { dst := some 115, op := Op.pick (Operand.tmp 113) (Operand.tmp 114) (Operand.const (Value.bool false)), type := 4, pos := _, after := _, guard := none }) (v := ?_) rfl (by kernel_rfl) (by kernel_rfl) (by kernel_rfl) (fun _ _ _ h => h) (Or.inl ⟨by rfl, ?_⟩) hHeld ?_
    rotate_left 1
    · (intro W hW; (try dsimp only at hW); go_simp; try with_reducible rfl)
    try simp only [Act.put, List.setIfInBounds_toArray, List.set_cons_zero, List.set_cons_succ]
    refine wpAnyH_take (i := 21) (oi := { dst := some 6, op := Op.assign (Operand.tmp 115), type := 4, pos := _, after := _, guard := none }) (v := ?_) rfl (by kernel_rfl) (by kernel_rfl) (by kernel_rfl) (fun _ _ _ h => h) (Or.inl ⟨by rfl, ?_⟩) hHeld ?_
    rotate_left 1
    · (intro W hW; (try dsimp only at hW); go_simp; try with_reducible rfl)
    try simp only [Act.put, List.setIfInBounds_toArray, List.set_cons_zero, List.set_cons_succ]
    refine wpAnyH_done (by kernel_rfl) ?_ _
    refine NoPanic.normal ?_
    go_wp2_with fail
    go_ret
    exact ⟨rfl, HBz.out.trans (HQe.out.mono HBz.out.size)⟩
  by_cases hw3 : way = 3
  · subst hw3
    have xc0 := HXV.out.cell 0
    have xc1 := HXV.out.cell 1
    obtain ⟨k, hk, hbit⟩ := and63 n
    have hk0 : (0 : Int) ≤ (k : Int) := by omega
    have hk1 : (k : Int) ≤ 64 := by omega
    have HKX : Hid (Rd .u8 V V.heap.size (some ⟨wm.heap.size, 0, none⟩) 64 (secX.take k)) := Lib.hid (HRV.out.cut k)
    have hkl : (secX.take k).length = k := by rw [List.length_take, secX_len]; omega
    have HKL := Lib.hid hkl
    have HCM := Lib.hid (commit_made HDV.out HFV.out HBV2.out.size ([⟨(a : Int), some ⟨wm.heap.size, 0, none⟩, 64, secX.take k⟩] : List Wr) (fun x hx => by
      obtain rfl := List.mem_singleton.1 hx
      exact ⟨HKX.out, fun b o e => by cases e; exact HSM.out⟩) (by simp) kM_small.1 kM_small.2 (w3.heap.size + 1) 1 HVS.out rfl #[.int .i64 (a : Int), .slice (some ⟨wm.heap.size, 0, none⟩) k 64] (by simp [wrCells, HKL.out]) 42 (0, 0) (show kM.commit (wv [⟨(a : Int), some ⟨wm.heap.size, 0, none⟩, 64, secX.take k⟩]) = (kM, 1) from ref3 (a := (a : Int)) hk) (c := 1) rfl)
    clear hkl
    go_wp2_with fail
    rw [← HV.out]
    refine HCM.out.mono ?_
    rintro e wz ⟨rfl, hdz, hoz⟩
    have HDz := Lib.hid hdz
    have HBz := Lib.hid (HUP.out _ hoz)
    clear hdz hoz HCM xc0 xc1 hk0 hk1 hk hbit
    have HRDZ : Hid (∀ W, Below wz.heap.size wz W → Calls Try.prog 29 #[.pointer (some ⟨gd, 0, none⟩), .int .i64 (a : Int)] W fun e w' => ∃ A c, e = .returned (.slice A 64 c) ∧ Rd .u8 w' w'.heap.size A c zsec ∧ Below W.heap.size W w') := Lib.hid fun W hW => by
      obtain ⟨F', hd'⟩ := HDz.out
      have := dj_read ((DJ.start hd').below hW) (a : Int) kM_many (x := zsec) (by have := HA.out; rw [if_pos (by omega)]; exact kM_place (by omega))
      rw [zsec_len] at this
      exact this
    have HOPZ : Hid (∀ W, Below wz.heap.size wz W → Calls Try.prog 31 #[.pointer (some ⟨gd, 0, none⟩)] W fun e w' => e = .returned (.int .i64 (op : Int)) ∧ W = w') := Lib.hid fun W hW => by
      obtain ⟨F', hd'⟩ := HDz.out
      have := disk_ops ((DJ.start hd').below hW).1
      rw [← HPO.out] at this
      exact this
    clear HDz
    go_wp2_with fail
    refine wp_region_noPanic ?_
    refine wp_region_held_drew (S := fun _ => True) (by kernel_rfl) trivial (fun hHeld => ?_)
    obtain ⟨wa, hwa⟩ : ∃ W, W = wz.drew := ⟨_, rfl⟩
    rw [← hwa]
    have HQa : Hid (Below wz.heap.size wz wa) := Lib.hid (by rw [hwa]; exact (Below.refl _ _).drew)
    clear hwa
    replace hHeld : True := trivial
    refine wpAnyH_take (i := 0) (oi := { dst := some 95, op := Op.move (Operand.tmp 10), type := 33, pos := _, after := _, guard := none }) (v := ?_) rfl (by kernel_rfl) (by kernel_rfl) (by kernel_rfl) (fun _ _ _ h => h) (Or.inl ⟨by rfl, ?_⟩) hHeld ?_
    rotate_left 1
    · (intro W hW; (try dsimp only at hW); go_simp; try with_reducible rfl)
    try simp only [Act.put, List.setIfInBounds_toArray, List.set_cons_zero, List.set_cons_succ]
    refine wpAnyH_take (i := 1) (oi := { dst := some 96, op := Op.move (Operand.tmp 11), type := 33, pos := _, after := _, guard := none }) (v := ?_) rfl (by kernel_rfl) (by kernel_rfl) (by kernel_rfl) (fun _ _ _ h => h) (Or.inl ⟨by rfl, ?_⟩) hHeld ?_
    rotate_left 1
    · (intro W hW; (try dsimp only at hW); go_simp; try with_reducible rfl)
    try simp only [Act.put, List.setIfInBounds_toArray, List.set_cons_zero, List.set_cons_succ]
    refine wpAnyH_take (i := 2) (oi := { dst := some 97, op := Op.binOp BinOp.eql 33 (Operand.tmp 95) (Operand.tmp 96) 33, type := 4, pos := _, after := _, guard := none }) (v := ?_) rfl (by kernel_rfl) (by kernel_rfl) (by kernel_rfl) (fun _ _ _ h => h) (Or.inl ⟨by rfl, ?_⟩) hHeld ?_
    rotate_left 1
    · (intro W hW; (try dsimp only at hW); go_simp; try with_reducible rfl)
    try simp only [Act.put, List.setIfInBounds_toArray, List.set_cons_zero, List.set_cons_succ]
    refine wpAnyH_take (i := 3) (oi := { dst := some 98, op := Op.move (Operand.tmp 97), type := 4, pos := _, after := _, guard := none }) (v := ?_) rfl (by kernel_rfl) (by kernel_rfl) (by kernel_rfl) (fun _ _ _ h => h) (Or.inl ⟨by rfl, ?_⟩) hHeld ?_
    rotate_left 1
    · (intro W hW; (try dsimp only at hW); go_simp; try with_reducible rfl)
    try simp only [Act.put, List.setIfInBounds_toArray, List.set_cons_zero, List.set_cons_succ]
    refine wpAnyH_take (i := 4) (oi := { dst := some 99, op := Op.move (Operand.tmp 7), type := 23, pos := _, after := _, guard := some (3, true) }) (v := ?_) rfl (by kernel_rfl) (by kernel_rfl) (by kernel_rfl) (fun _ _ _ h => h) (Or.inl ⟨by rfl, ?_⟩) hHeld ?_
    rotate_left 1
    · (intro W hW; (try dsimp only at hW); go_simp; try with_reducible rfl)
    try simp only [Act.put, List.setIfInBounds_toArray, List.set_cons_zero, List.set_cons_succ]
    refine wpAnyH_take (i := 6) (oi := { dst := some 101, op := Op.move (Operand.tmp 8), type := 3, pos := _, after := _, guard := some (3, true) }) (v := ?_) rfl (by kernel_rfl) (by kernel_rfl) (by kernel_rfl) (fun _ _ _ h => h) (Or.inl ⟨by rfl, ?_⟩) hHeld ?_
    rotate_left 1
    · (intro W hW; (try dsimp only at hW); go_simp; try with_reducible rfl)
    try simp only [Act.put, List.setIfInBounds_toArray, List.set_cons_zero, List.set_cons_succ]
    refine wpAnyH_ready (rs := [5]) (by kernel_rfl) (by simp) ?_
    refine AllReadyH.cons (o := { dst := some 100, op := Op.call { callee := Callee.value (Operand.func 31), args := #[Operand.tmp 99], argTypes := #[23] }, type := 3, pos := _, after := _, guard := some (3, true) }) rfl (fun K hK => ?_) AllReadyH.nil
    go_simp
    refine (HOPZ.out _ HQa.out).mono ?_
    rintro e wb ⟨rfl, rfl⟩
    go_simp
    refine hK.out _ _ (trivial) (fun _ => ?_)
    clear hK K hHeld
    try simp only [Act.put, List.setIfInBounds_toArray, List.set_cons_zero, List.set_cons_succ]
    have hHeld : True := trivial
    refine wpAnyH_take (i := 7) (oi := { dst := some 102, op := Op.binOp BinOp.eql 3 (Operand.tmp 100) (Operand.tmp 101) 3, type := 4, pos := _, after := _, guard := some (3, true) }) (v := ?_) rfl (by kernel_rfl) (by kernel_rfl) (by kernel_rfl) (fun _ _ _ h => h) (Or.inl ⟨by rfl, ?_⟩) hHeld ?_
    rotate_left 1
    · (intro W hW; (try dsimp only at hW); go_simp; try with_reducible rfl)
    try simp only [Act.put, List.setIfInBounds_toArray, List.set_cons_zero, List.set_cons_succ]
    refine wpAnyH_take (i := 8) (oi := { dst := some 103, op := Op.pick (Operand.tmp 98) (Operand.tmp 102) (Operand.const (Value.bool false)), type := 4, pos := _, after := _, guard := none }) (v := ?_) rfl (by kernel_rfl) (by kernel_rfl) (by kernel_rfl) (fun _ _ _ h => h) (Or.inl ⟨by rfl, ?_⟩) hHeld ?_
    rotate_left 1
    · (intro W hW; (try dsimp only at hW); go_simp; try with_reducible rfl)
    try simp only [Act.put, List.setIfInBounds_toArray, List.set_cons_zero, List.set_cons_succ]
    refine wpAnyH_take (i := 9) (oi := { dst := some 104, op := Op.move (Operand.tmp 103), type := 4, pos := _, after := _, guard := none }) (v := ?_) rfl (by kernel_rfl) (by kernel_rfl) (by kernel_rfl) (fun _ _ _ h => h) (Or.inl ⟨by rfl, ?_⟩) hHeld ?_
    rotate_left 1
    · (intro W hW; (try dsimp only at hW); go_simp; try with_reducible rfl)
    try simp only [Act.put, List.setIfInBounds_toArray, List.set_cons_zero, List.set_cons_succ]
    refine wpAnyH_take (i := 10) (oi := { dst := some 105, op := Op.move (Operand.tmp 7), type := 23, pos := _, after := _, guard := some (9, true) }) (v := ?_) rfl (by kernel_rfl) (by kernel_rfl) (by kernel_rfl) (fun _ _ _ h => h) (Or.inl ⟨by rfl, ?_⟩) hHeld ?_
    rotate_left 1
    · (intro W hW; (try dsimp only at hW); go_simp; try with_reducible rfl)
    try simp only [Act.put, List.setIfInBounds_toArray, List.set_cons_zero, List.set_cons_succ]
    refine wpAnyH_take (i := 11) (oi := { dst := some 106, op := Op.move (Operand.tmp 1), type := 3, pos := _, after := _, guard := some (9, true) }) (v := ?_) rfl (by kernel_rfl) (by kernel_rfl) (by kernel_rfl) (fun _ _ _ h => h) (Or.inl ⟨by rfl, ?_⟩) hHeld ?_
    rotate_left 1
    · (intro W hW; (try dsimp only at hW); go_simp; try with_reducible rfl)
    try simp only [Act.put, List.setIfInBounds_toArray, List.set_cons_zero, List.set_cons_succ]
    refine wpAnyH_ready (rs := [12]) (by kernel_rfl) (by simp) ?_
    refine AllReadyH.cons (o := { dst := some 107, op := Op.call { callee := Callee.value (Operand.func 29), args := #[Operand.tmp 105, Operand.tmp 106], argTypes := #[23, 3] }, type := 40, pos := _, after := _, guard := some (9, true) }) rfl (fun K hK => ?_) AllReadyH.nil
    go_simp
    refine (HRDZ.out _ HQa.out).mono ?_
    rintro e wc ⟨Ac, cc, rfl, hrc, hbc⟩
    have HQc := Lib.hid (HQa.out.trans (hbc.mono HQa.out.size))
    have HRc := Lib.hid hrc
    clear hrc hbc
    go_simp
    refine hK.out _ _ (trivial) (fun _ => ?_)
    clear hK K hHeld
    try simp only [Act.put, List.setIfInBounds_toArray, List.set_cons_zero, List.set_cons_succ]
    refine wpAnyH_strong (S' := fun W => Below wc.heap.size wc W) (fun W hW => trivial) _ _ _ _ ?_
    have hHeld : (fun W => Below wc.heap.size wc W) _ := Below.refl _ _
    refine wpAnyH_take (i := 13) (oi := { dst := some 108, op := Op.convert 40 9 (Operand.tmp 107), type := 9, pos := _, after := _, guard := some (9, true) }) (v := ?_) rfl (by kernel_rfl) (by kernel_rfl) (by kernel_rfl) (fun _ _ _ h => h) (Or.inl ⟨by rfl, ?_⟩) hHeld ?_
    rotate_left 1
    · (intro W hW; have hcv := conv_str (Rd.under HRc.out hW) HZL.out HZO.out; rw [← HZ1.out] at hcv; (try dsimp only at hW); go_simp; try with_reducible rfl)
    try simp only [Act.put, List.setIfInBounds_toArray, List.set_cons_zero, List.set_cons_succ]
    refine wpAnyH_ready (rs := [14]) (by kernel_rfl) (by simp) ?_
    refine AllReadyH.cons (o := { dst := some 109, op := Op.call { callee := Callee.value (Operand.func 21), args := #[Operand.const (Value.slice none 0 0)], argTypes := #[40] }, type := 40, pos := _, after := _, guard := some (9, true) }) rfl (fun K hK => ?_) AllReadyH.nil
    go_simp
    refine (sector_nil _).mono ?_
    rintro e wd ⟨rfl, hrd, hbd⟩
    have HQd := Lib.hid (HQc.out.trans (hbd.mono HQc.out.size))
    have HRd := Lib.hid hrd
    have HBd := Lib.hid hbd
    clear hrd hbd
    go_simp
    refine hK.out _ _ (HBd.out) (fun _ => ?_)
    clear hK K hHeld
    try simp only [Act.put, List.setIfInBounds_toArray, List.set_cons_zero, List.set_cons_succ]
    refine wpAnyH_strong (S' := fun W => Below wd.heap.size wd W) (fun W hW => HBd.out.trans (hW.mono HBd.out.size)) _ _ _ _ ?_
    have hHeld : (fun W => Below wd.heap.size wd W) _ := Below.refl _ _
    refine wpAnyH_take (i := 15) (oi := { dst := some 110, op := Op.convert 40 9 (Operand.tmp 109), type := 9, pos := _, after := _, guard := some (9, true) }) (v := ?_) rfl (by kernel_rfl) (by kernel_rfl) (by kernel_rfl) (fun _ _ _ h => h) (Or.inl ⟨by rfl, ?_⟩) hHeld ?_
    rotate_left 1
    · (intro W hW; have hcv := conv_str (Rd.under HRd.out hW) HZL.out HZO.out; rw [← HZ1.out] at hcv; (try dsimp only at hW); go_simp; try with_reducible rfl)
    try simp only [Act.put, List.setIfInBounds_toArray, List.set_cons_zero, List.set_cons_succ]
    refine wpAnyH_take (i := 16) (oi := { dst := some 111, op := Op.binOp BinOp.eql 9 (Operand.tmp 108) (Operand.tmp 110) 9, type := 4, pos := _, after := _, guard := some (9, true) }) (v := ?_) rfl (by kernel_rfl) (by kernel_rfl) (by kernel_rfl) (fun _ _ _ h => h) (Or.inl ⟨by rfl, ?_⟩) hHeld ?_
    rotate_left 1
    · (intro W hW; (try dsimp only at hW); go_simp; try with_reducible rfl)
    try simp only [Act.put, List.setIfInBounds_toArray, List.set_cons_zero, List.set_cons_succ]
    refine wpAnyH_take (i := 17) (oi := { dst := some 112, op := Op.pick (Operand.tmp 104) (Operand.tmp 111) (Operand.const (Value.bool false)), type := 4, pos := _, after := _, guard := none }) (v := ?_) rfl (by kernel_rfl) (by kernel_rfl) (by kernel_rfl) (fun _ _ _ h => h) (Or.inl ⟨by rfl, ?_⟩) hHeld ?_
    rotate_left 1
    · (intro W hW; (try dsimp only at hW); go_simp; try with_reducible rfl)
    try simp only [Act.put, List.setIfInBounds_toArray, List.set_cons_zero, List.set_cons_succ]
    refine wpAnyH_take (i := 18) (oi := { dst := some 113, op := Op.move (Operand.tmp 112), type := 4, pos := _, after := _, guard := none }) (v := ?_) rfl (by kernel_rfl) (by kernel_rfl) (by kernel_rfl) (fun _ _ _ h => h) (Or.inl ⟨by rfl, ?_⟩) hHeld ?_
    rotate_left 1
    · (intro W hW; (try dsimp only at hW); go_simp; try with_reducible rfl)
    try simp only [Act.put, List.setIfInBounds_toArray, List.set_cons_zero, List.set_cons_succ]
    refine wpAnyH_ready (rs := [19]) (by kernel_rfl) (by simp) ?_
    refine AllReadyH.cons (o := { dst := some 114, op := Op.call { callee := Callee.value (Operand.func 26), args := #[], argTypes := #[] }, type := 4, pos := _, after := _, guard := some (18, true) }) rfl (fun K hK => ?_) AllReadyH.nil
    go_simp
    refine (known2_any _).mono ?_
    rintro e we ⟨rfl, hbe⟩
    have HQe := Lib.hid (HQd.out.trans (hbe.mono HQd.out.size))
    have HBe := Lib.hid hbe
    clear hbe
    go_simp
    refine hK.out _ _ (HBe.out) (fun _ => ?_)
    clear hK K hHeld
    try simp only [Act.put, List.setIfInBounds_toArray, List.set_cons_zero, List.set_cons_succ]
    refine wpAnyH_strong (S' := fun W => Below we.heap.size we W) (fun W hW => HBe.out.trans (hW.mono HBe.out.size)) _ _ _ _ ?_
    have hHeld : (fun W => Below we.heap.size we W) _ := Below.refl _ _
    refine wpAnyH_take (i := 20) (oi := { dst := some 115, op := Op.pick (Operand.tmp 113) (Operand.tmp 114) (Operand.const (Value.bool false)), type := 4, pos := _, after := _, guard := none }) (v := ?_) rfl (by kernel_rfl) (by kernel_rfl) (by kernel_rfl) (fun _ _ _ h => h) (Or.inl ⟨by rfl, ?_⟩) hHeld ?_
    rotate_left 1
    · (intro W hW; (try dsimp only at hW); go_simp; try with_reducible rfl)
    try simp only [Act.put, List.setIfInBounds_toArray, List.set_cons_zero, List.set_cons_succ]
    refine wpAnyH_take (i := 21) (oi := { dst := some 6, op := Op.assign (Operand.tmp 115), type := 4, pos := _, after := _, guard := none }) (v := ?_) rfl (by kernel_rfl) (by kernel_rfl) (by kernel_rfl) (fun _ _ _ h => h) (Or.inl ⟨by rfl, ?_⟩) hHeld ?_
    rotate_left 1
    · (intro W hW; (try dsimp only at hW); go_simp; try with_reducible rfl)
    try simp only [Act.put, List.setIfInBounds_toArray, List.set_cons_zero, List.set_cons_succ]
    refine wpAnyH_done (by kernel_rfl) ?_ _
    refine NoPanic.normal ?_
    go_wp2_with fail
    go_ret
    exact ⟨rfl, HBz.out.trans (HQe.out.mono HBz.out.size)⟩
  by_cases hw4 : way = 4
  · subst hw4
    go_wp2_with fail
    rw [← HV.out]
    have HMW : Hid (wm.heap.size < V.heap.size) := Lib.hid (by
      obtain ⟨b, o, e, hlt, _⟩ := HRV.out.2.2 (by rw [secX_len]; omega)
      injection e with e
      injection e with e
      omega)
    go_loopw [12, 13] (fun sl si wr => ∃ (k : Nat) (A : Option Addr) (c : Nat), k ≤ 151 ∧ si = .int .i64 k ∧ sl = .slice A k c ∧ Hid (Wrs V wr w2.heap.size A c ((List.range k).map fun i : Nat => (⟨(i : Int), some ⟨wm.heap.size, 0, none⟩, 64, secX⟩ : Wr)))) (fun _ si _ => 151 - (intOf si).toNat)
    case atStart => exact ⟨0, none, 0, by omega, rfl, rfl, Lib.hid (Wrs.nil _ _)⟩
    case round =>
      obtain ⟨k, A, c, hk, rfl, rfl, HRS⟩ := hrel
      by_cases hlt : k < 151
      · have hkI : (k : Int) < 151 := by omega
        have HL1 : Hid (((List.range k).map fun i : Nat => (⟨(i : Int), some ⟨wm.heap.size, 0, none⟩, 64, secX⟩ : Wr)).length = k) := Lib.hid (by simp)
        have hxw := HXV.out.under HRS.out.bel HXV.out.lt
        have xc0 := hxw.cell 0
        have xc1 := hxw.cell 1
        have hb1 : Below wr.heap.size wr (wr.alloc (.cells #[.int .i64 (k : Int), .slice (some ⟨wm.heap.size, 0, none⟩) 64 64] 42)) := (Below.refl _ _).alloc (Nat.le_refl _) _
        have hst := HRS.out.under hb1
        have HST := Lib.hid hst
        have HFX : Hid (Holds (wr.alloc (.cells #[.int .i64 (k : Int), .slice (some ⟨wm.heap.size, 0, none⟩) 64 64] 42)) wr.heap.size 42 (wrCells ⟨(k : Int), some ⟨wm.heap.size, 0, none⟩, 64, secX⟩).toArray) := Lib.hid (Holds.fresh _ _ _)
        have HOW : Hid (OwnV 42 2 (wr.alloc (.cells #[.int .i64 (k : Int), .slice (some ⟨wm.heap.size, 0, none⟩) 64 64] 42)) A c k (((List.range k).map fun i : Nat => (⟨(i : Int), some ⟨wm.heap.size, 0, none⟩, 64, secX⟩ : Wr)).flatMap wrCells)) := Lib.hid (by have := hst.own; rwa [HL1.out] at this)
        have HWC : Hid (∀ u ∈ wrCells ⟨(k : Int), some ⟨wm.heap.size, 0, none⟩, 64, secX⟩, u.oneCell' = true) := Lib.hid (by intro u hu; simp [wrCells] at hu; rcases hu with rfl | rfl <;> rfl)
        have HRX : Hid (Rd .u8 (wr.alloc (.cells #[.int .i64 (k : Int), .slice (some ⟨wm.heap.size, 0, none⟩) 64 64] 42)) (wr.alloc (.cells #[.int .i64 (k : Int), .slice (some ⟨wm.heap.size, 0, none⟩) 64 64] 42)).heap.size (some ⟨wm.heap.size, 0, none⟩) 64 secX) := Lib.hid ((HRV.out.under (HRS.out.bel.trans (hb1.mono HRS.out.bel.size))).more (HRS.out.bel.trans (hb1.mono HRS.out.bel.size)).size)
        have HWL : Hid (wm.heap.size < (wr.alloc (.cells #[.int .i64 (k : Int), .slice (some ⟨wm.heap.size, 0, none⟩) 64 64] 42)).heap.size) := Lib.hid (by have := HMW.out; have := HRS.out.bel.size; have := hb1.size; omega)
        clear hst hb1 hxw
        go_wp2_with (first | (at_builtin; refine wpList_pushV _ rfl (.tmp 81) (.tmp 86) 27 rfl 42 (.agg #[.int .i64 0, .slice none 0 0]) 2 32 Try.underlying27 info_write rfl (by omega) (by omega) rfl HOW.out (cs := wrCells ⟨(k : Int), some ⟨wm.heap.size, 0, none⟩, 64, secX⟩) rfl rfl HWC.out HFX.out (by omega) ?_; intro g9 c9 W9 ho9 hg9 hat9 hlt9))
        have HS9 := Lib.hid (HST.out.push (x := ⟨(k : Int), some ⟨wm.heap.size, 0, none⟩, 64, secX⟩) ⟨HRX.out, fun b o e => by
          injection e with e
          injection e with e
          subst e
          exact ⟨HSM.out, HWL.out, fun e2 => by have := HRS.out.blk _ e2; have := HMW.out; omega⟩⟩ (by rw [HL1.out]; exact ho9) hg9 hat9)
        have HS10 : Hid (Wrs V W9 w2.heap.size (some ⟨g9, 0, none⟩) c9 ((List.range (k + 1)).map fun i : Nat => (⟨(i : Int), some ⟨wm.heap.size, 0, none⟩, 64, secX⟩ : Wr))) := Lib.hid (by
          rw [List.range_succ, List.map_append]
          exact HS9.out)
        clear ho9 hg9 hat9 hlt9 HS9 HOW HFX HST HWC HRX HWL xc0 xc1
        go_wp2_with fail
        go_roundw
        case rel => exact ⟨k + 1, _, _, by omega, by go_num, rfl, HS10⟩
        case measure => simp [intOf]; omega
      · obtain rfl : k = 151 := by omega
        have hkI : ¬ (((151 : Nat) : Int) < 151) := by omega
        have HG := Lib.hid (HRS.out.rd HBV2.out.size)
        have HDW : Hid (Disk wr F2 gd kM) := Lib.hid (HDV.out.keep (Only.of_below (F := fun _ => False) HRS.out.bel) (fun _ _ e => e))
        have HCM := Lib.hid (commit_any HDW.out A c 151 ((List.range 151).map fun i : Nat => (⟨(i : Int), some ⟨wm.heap.size, 0, none⟩, 64, secX⟩ : Wr)) (by simp) (HG.out.off HFV.out) (by omega) kM_small.1 kM_small.2)
        have hwv : wv ((List.range 151).map fun i : Nat => (⟨(i : Int), some ⟨wm.heap.size, 0, none⟩, 64, secX⟩ : Wr)) = manyW 151 := by
          rw [wv, manyW, List.map_map]
          rfl
        rw [hwv, ref4] at HCM
        clear hwv HG
        go_wp2_with fail
        refine HCM.out.mono ?_
        rintro e wz ⟨rfl, hdz⟩
        have HDz : Hid (∃ F', Disk wz F' gd kM) := Lib.hid ⟨_, hdz.1⟩
        have HBz := Lib.hid (HUP.out _ ((Only.of_below (F := F2) HRS.out.bel).trans hdz.2 fun k _ hk => hk))
        clear hdz HCM HDW
        have HRDZ : Hid (∀ W, Below wz.heap.size wz W → Calls Try.prog 29 #[.pointer (some ⟨gd, 0, none⟩), .int .i64 (a : Int)] W fun e w' => ∃ A c, e = .returned (.slice A 64 c) ∧ Rd .u8 w' w'.heap.size A c zsec ∧ Below W.heap.size W w') := Lib.hid fun W hW => by
          obtain ⟨F', hd'⟩ := HDz.out
          have := dj_read ((DJ.start hd').below hW) (a : Int) kM_many (x := zsec) (by have := HA.out; rw [if_pos (by omega)]; exact kM_place (by omega))
          rw [zsec_len] at this
          exact this
        have HOPZ : Hid (∀ W, Below wz.heap.size wz W → Calls Try.prog 31 #[.pointer (some ⟨gd, 0, none⟩)] W fun e w' => e = .returned (.int .i64 (op : Int)) ∧ W = w') := Lib.hid fun W hW => by
          obtain ⟨F', hd'⟩ := HDz.out
          have := disk_ops ((DJ.start hd').below hW).1
          rw [← HPO.out] at this
          exact this
        clear HDz
        go_wp2_with fail
        refine wp_region_noPanic ?_
        refine wp_region_held_drew (S := fun _ => True) (by kernel_rfl) trivial (fun hHeld => ?_)
        obtain ⟨wa, hwa⟩ : ∃ W, W = wz.drew := ⟨_, rfl⟩
        rw [← hwa]
        have HQa : Hid (Below wz.heap.size wz wa) := Lib.hid (by rw [hwa]; exact (Below.refl _ _).drew)
        clear hwa
        replace hHeld : True := trivial
        refine wpAnyH_take (i := 0) (oi := { dst := some 95, op := Op.move (Operand.tmp 10), type := 33, pos := _, after := _, guard := none }) (v := ?_) rfl (by kernel_rfl) (by kernel_rfl) (by kernel_rfl) (fun _ _ _ h => h) (Or.inl ⟨by rfl, ?_⟩) hHeld ?_
        rotate_left 1
        · (intro W hW; (try dsimp only at hW); go_simp; try with_reducible rfl)
        try simp only [Act.put, List.setIfInBounds_toArray, List.set_cons_zero, List.set_cons_succ]
        refine wpAnyH_take (i := 1) (oi := { dst := some 96, op := Op.move (Operand.tmp 11), type := 33, pos := _, after := _, guard := none }) (v := ?_) rfl (by kernel_rfl) (by kernel_rfl) (by kernel_rfl) (fun _ _ _ h => h) (Or.inl ⟨by rfl, ?_⟩) hHeld ?_
        rotate_left 1
        · (intro W hW; (try dsimp only at hW); go_simp; try with_reducible rfl)
        try simp only [Act.put, List.setIfInBounds_toArray, List.set_cons_zero, List.set_cons_succ]
        refine wpAnyH_take (i := 2) (oi := { dst := some 97, op := Op.binOp BinOp.eql 33 (Operand.tmp 95) (Operand.tmp 96) 33, type := 4, pos := _, after := _, guard := none }) (v := ?_) rfl (by kernel_rfl) (by kernel_rfl) (by kernel_rfl) (fun _ _ _ h => h) (Or.inl ⟨by rfl, ?_⟩) hHeld ?_
        rotate_left 1
        · (intro W hW; (try dsimp only at hW); go_simp; try with_reducible rfl)
        try simp only [Act.put, List.setIfInBounds_toArray, List.set_cons_zero, List.set_cons_succ]
        refine wpAnyH_take (i := 3) (oi := { dst := some 98, op := Op.move (Operand.tmp 97), type := 4, pos := _, after := _, guard := none }) (v := ?_) rfl (by kernel_rfl) (by kernel_rfl) (by kernel_rfl) (fun _ _ _ h => h) (Or.inl ⟨by rfl, ?_⟩) hHeld ?_
        rotate_left 1
        · (intro W hW; (try dsimp only at hW); go_simp; try with_reducible rfl)
        try simp only [Act.put, List.setIfInBounds_toArray, List.set_cons_zero, List.set_cons_succ]
        refine wpAnyH_take (i := 4) (oi := { dst := some 99, op := Op.move (Operand.tmp 7), type := 23, pos := _, after := _, guard := some (3, true) }) (v := ?_) rfl (by kernel_rfl) (by kernel_rfl) (by kernel_rfl) (fun _ _ _ h => h) (Or.inl ⟨by rfl, ?_⟩) hHeld ?_
        rotate_left 1
        · (intro W hW; (try dsimp only at hW); go_simp; try with_reducible rfl)
        try simp only [Act.put, List.setIfInBounds_toArray, List.set_cons_zero, List.set_cons_succ]
        refine wpAnyH_take (i := 6) (oi := { dst := some 101, op := Op.move (Operand.tmp 8), type := 3, pos := _, after := _, guard := some (3, true) }) (v := ?_) rfl (by kernel_rfl) (by kernel_rfl) (by kernel_rfl) (fun _ _ _ h => h) (Or.inl ⟨by rfl, ?_⟩) hHeld ?_
        rotate_left 1
        · (intro W hW; (try dsimp only at hW); go_simp; try with_reducible rfl)
        try simp only [Act.put, List.setIfInBounds_toArray, List.set_cons_zero, List.set_cons_succ]
        refine wpAnyH_ready (rs := [5]) (by kernel_rfl) (by simp) ?_
        refine AllReadyH.cons (o := { dst := some 100, op := Op.call { callee := Callee.value (Operand.func 31), args := #[Operand.tmp 99], argTypes := #[23] }, type := 3, pos := _, after := _, guard := some (3, true) }) rfl (fun K hK => ?_) AllReadyH.nil
        go_simp
        refine (HOPZ.out _ HQa.out).mono ?_
        rintro e wb ⟨rfl, rfl⟩
        go_simp
        refine hK.out _ _ (trivial) (fun _ => ?_)
        clear hK K hHeld
        try simp only [Act.put, List.setIfInBounds_toArray, List.set_cons_zero, List.set_cons_succ]
        have hHeld : True := trivial
        refine wpAnyH_take (i := 7) (oi := { dst := some 102, op := Op.binOp BinOp.eql 3 (Operand.tmp 100) (Operand.tmp 101) 3, type := 4, pos := _, after := _, guard := some (3, true) }) (v := ?_) rfl (by kernel_rfl) (by kernel_rfl) (by kernel_rfl) (fun _ _ _ h => h) (Or.inl ⟨by rfl, ?_⟩) hHeld ?_
        rotate_left 1
        · (intro W hW; (try dsimp only at hW); go_simp; try with_reducible rfl)
        try simp only [Act.put, List.setIfInBounds_toArray, List.set_cons_zero, List.set_cons_succ]
        refine wpAnyH_take (i := 8) (oi := { dst := some 103, op := Op.pick (Operand.tmp 98) (Operand.tmp 102) (Operand.const (Value.bool false)), type := 4, pos := _, after := _, guard := none }) (v := ?_) rfl (by kernel_rfl) (by kernel_rfl) (by kernel_rfl) (fun _ _ _ h => h) (Or.inl ⟨by rfl, ?_⟩) hHeld ?_
        rotate_left 1
        · (intro W hW; (try dsimp only at hW); go_simp; try with_reducible rfl)
        try simp only [Act.put, List.setIfInBounds_toArray, List.set_cons_zero, List.set_cons_succ]
        refine wpAnyH_take (i := 9) (oi := { dst := some 104, op := Op.move (Operand.tmp 103), type := 4, pos := _, after := _, guard := none }) (v := ?_) rfl (by kernel_rfl) (by kernel_rfl) (by kernel_rfl) (fun _ _ _ h => h) (Or.inl ⟨by rfl, ?_⟩) hHeld ?_
        rotate_left 1
        · (intro W hW; (try dsimp only at hW); go_simp; try with_reducible rfl)
        try simp only [Act.put, List.setIfInBounds_toArray, List.set_cons_zero, List.set_cons_succ]
        refine wpAnyH_take (i := 10) (oi := { dst := some 105, op := Op.move (Operand.tmp 7), type := 23, pos := _, after := _, guard := some (9, true) }) (v := ?_) rfl (by kernel_rfl) (by kernel_rfl) (by kernel_rfl) (fun _ _ _ h => h) (Or.inl ⟨by rfl, ?_⟩) hHeld ?_
        rotate_left 1
        · (intro W hW; (try dsimp only at hW); go_simp; try with_reducible rfl)
        try simp only [Act.put, List.setIfInBounds_toArray, List.set_cons_zero, List.set_cons_succ]
        refine wpAnyH_take (i := 11) (oi := { dst := some 106, op := Op.move (Operand.tmp 1), type := 3, pos := _, after := _, guard := some (9, true) }) (v := ?_) rfl (by kernel_rfl) (by kernel_rfl) (by kernel_rfl) (fun _ _ _ h => h) (Or.inl ⟨by rfl, ?_⟩) hHeld ?_
        rotate_left 1
        · (intro W hW; (try dsimp only at hW); go_simp; try with_reducible rfl)
        try simp only [Act.put, List.setIfInBounds_toArray, List.set_cons_zero, List.set_cons_succ]
        refine wpAnyH_ready (rs := [12]) (by kernel_rfl) (by simp) ?_
        refine AllReadyH.cons (o := { dst := some 107, op := Op.call { callee := Callee.value (Operand.func 29), args := #[Operand.tmp 105, Operand.tmp 106], argTypes := #[23, 3] }, type := 40, pos := _, after := _, guard := some (9, true) }) rfl (fun K hK => ?_) AllReadyH.nil
        go_simp
        refine (HRDZ.out _ HQa.out).mono ?_
        rintro e wc ⟨Ac, cc, rfl, hrc, hbc⟩
        have HQc := Lib.hid (HQa.out.trans (hbc.mono HQa.out.size))
        have HRc := Lib.hid hrc
        clear hrc hbc
        go_simp
        refine hK.out _ _ (trivial) (fun _ => ?_)
        clear hK K hHeld
        try simp only [Act.put, List.setIfInBounds_toArray, List.set_cons_zero, List.set_cons_succ]
        refine wpAnyH_strong (S' := fun W => Below wc.heap.size wc W) (fun W hW => trivial) _ _ _ _ ?_
        have hHeld : (fun W => Below wc.heap.size wc W) _ := Below.refl _ _
        refine wpAnyH_take (i := 13) (oi := { dst := some 108, op := Op.convert 40 9 (Operand.tmp 107), type := 9, pos := _, after := _, guard := some (9, true) }) (v := ?_) rfl (by kernel_rfl) (by kernel_rfl) (by kernel_rfl) (fun _ _ _ h => h) (Or.inl ⟨by rfl, ?_⟩) hHeld ?_
        rotate_left 1
        · (intro W hW; have hcv := conv_str (Rd.under HRc.out hW) HZL.out HZO.out; rw [← HZ1.out] at hcv; (try dsimp only at hW); go_simp; try with_reducible rfl)
        try simp only [Act.put, List.setIfInBounds_toArray, List.set_cons_zero, List.set_cons_succ]
        refine wpAnyH_ready (rs := [14]) (by kernel_rfl) (by simp) ?_
        refine AllReadyH.cons (o := { dst := some 109, op := Op.call { callee := Callee.value (Operand.func 21), args := #[Operand.const (Value.slice none 0 0)], argTypes := #[40] }, type := 40, pos := _, after := _, guard := some (9, true) }) rfl (fun K hK => ?_) AllReadyH.nil
        go_simp
        refine (sector_nil _).mono ?_
        rintro e wd ⟨rfl, hrd, hbd⟩
        have HQd := Lib.hid (HQc.out.trans (hbd.mono HQc.out.size))
        have HRd := Lib.hid hrd
        have HBd := Lib.hid hbd
        clear hrd hbd
        go_simp
        refine hK.out _ _ (HBd.out) (fun _ => ?_)
        clear hK K hHeld
        try simp only [Act.put, List.setIfInBounds_toArray, List.set_cons_zero, List.set_cons_succ]
        refine wpAnyH_strong (S' := fun W => Below wd.heap.size wd W) (fun W hW => HBd.out.trans (hW.mono HBd.out.size)) _ _ _ _ ?_
        have hHeld : (fun W => Below wd.heap.size wd W) _ := Below.refl _ _
        refine wpAnyH_take (i := 15) (oi := { dst := some 110, op := Op.convert 40 9 (Operand.tmp 109), type := 9, pos := _, after := _, guard := some (9, true) }) (v := ?_) rfl (by kernel_rfl) (by kernel_rfl) (by kernel_rfl) (fun _ _ _ h => h) (Or.inl ⟨by rfl, ?_⟩) hHeld ?_
        rotate_left 1
        · (intro W hW; have hcv := conv_str (Rd.under HRd.out hW) HZL.out HZO.out; rw [← HZ1.out] at hcv; (try dsimp only at hW); go_simp; try with_reducible rfl)
        try simp only [Act.put, List.setIfInBounds_toArray, List.set_cons_zero, List.set_cons_succ]
        refine wpAnyH_take (i := 16) (oi := { dst := some 111, op := Op.binOp BinOp.eql 9 (Operand.tmp 108) (Operand.tmp 110) 9, type := 4, pos := _, after := _, guard := some (9, true) }) (v := ?_) rfl (by kernel_rfl) (by kernel_rfl) (by kernel_rfl) (fun _ _ _ h => h) (Or.inl ⟨by rfl, ?_⟩) hHeld ?_
        rotate_left 1
        · (intro W hW; (try dsimp only at hW); go_simp; try with_reducible rfl)
        try simp only [Act.put, List.setIfInBounds_toArray, List.set_cons_zero, List.set_cons_succ]
        refine wpAnyH_take (i := 17) (oi := { dst := some 112, op := Op.pick (Operand.tmp 104) (Operand.tmp 111) (Operand.const (Value.bool false)), type := 4, pos := _, after := _, guard := none }) (v := ?_) rfl (by kernel_rfl) (by kernel_rfl) (by kernel_rfl) (fun _ _ _ h => h) (Or.inl ⟨by rfl, ?_⟩) hHeld ?_
        rotate_left 1
        · (intro W hW; (try dsimp only at hW); go_simp; try with_reducible rfl)
        try simp only [Act.put, List.setIfInBounds_toArray, List.set_cons_zero, List.set_cons_succ]
        refine wpAnyH_take (i := 18) (oi := { dst := some 113, op := Op.move (Operand.tmp 112), type := 4, pos := _, after := _, guard := none }) (v := ?_) rfl (by kernel_rfl) (by kernel_rfl) (by kernel_rfl) (fun _ _ _ h => h) (Or.inl ⟨by rfl, ?_⟩) hHeld ?_
        rotate_left 1
        · (intro W hW; (try dsimp only at hW); go_simp; try with_reducible rfl)
        try simp only [Act.put, List.setIfInBounds_toArray, List.set_cons_zero, List.set_cons_succ]
        refine wpAnyH_ready (rs := [19]) (by kernel_rfl) (by simp) ?_
        refine AllReadyH.cons (o := { dst := some 114, op := Op.call { callee := Callee.value (Operand.func 26), args := #[], argTypes := #[] }, type := 4, pos := _, after := _, guard := some (18, true) }) rfl (fun K hK => ?_) AllReadyH.nil
        go_simp
        refine (known2_any _).mono ?_
        rintro e we ⟨rfl, hbe⟩
        have HQe := Lib.hid (HQd.out.trans (hbe.mono HQd.out.size))
        have HBe := Lib.hid hbe
        clear hbe
        go_simp
        refine hK.out _ _ (HBe.out) (fun _ => ?_)
        clear hK K hHeld
        try simp only [Act.put, List.setIfInBounds_toArray, List.set_cons_zero, List.set_cons_succ]
        refine wpAnyH_strong (S' := fun W => Below we.heap.size we W) (fun W hW => HBe.out.trans (hW.mono HBe.out.size)) _ _ _ _ ?_
        have hHeld : (fun W => Below we.heap.size we W) _ := Below.refl _ _
        refine wpAnyH_take (i := 20) (oi := { dst := some 115, op := Op.pick (Operand.tmp 113) (Operand.tmp 114) (Operand.const (Value.bool false)), type := 4, pos := _, after := _, guard := none }) (v := ?_) rfl (by kernel_rfl) (by kernel_rfl) (by kernel_rfl) (fun _ _ _ h => h) (Or.inl ⟨by rfl, ?_⟩) hHeld ?_
        rotate_left 1
        · (intro W hW; (try dsimp only at hW); go_simp; try with_reducible rfl)
        try simp only [Act.put, List.setIfInBounds_toArray, List.set_cons_zero, List.set_cons_succ]
        refine wpAnyH_take (i := 21) (oi := { dst := some 6, op := Op.assign (Operand.tmp 115), type := 4, pos := _, after := _, guard := none }) (v := ?_) rfl (by kernel_rfl) (by kernel_rfl) (by kernel_rfl) (fun _ _ _ h => h) (Or.inl ⟨by rfl, ?_⟩) hHeld ?_
        rotate_left 1
        · (intro W hW; (try dsimp only at hW); go_simp; try with_reducible rfl)
        try simp only [Act.put, List.setIfInBounds_toArray, List.set_cons_zero, List.set_cons_succ]
        refine wpAnyH_done (by kernel_rfl) ?_ _
        refine NoPanic.normal ?_
        go_wp2_with fail
        go_ret
        exact ⟨rfl, HBz.out.trans (HQe.out.mono HBz.out.size)⟩
  by_cases hw5 : way = 5
  · subst hw5
    have hemp : ∀ W, OffF F2 (RdWr none 0 []) W := fun W w' _ _ => ⟨Nat.le_refl _, by omega, fun j hj => by simp at hj, fun hj => by simp at hj⟩
    have HCM := Lib.hid (commit_any HDV.out none 0 0 [] rfl (hemp V) (by omega) kM_small.1 kM_small.2)
    have hwv : wv [] = [] := rfl
    rw [hwv, ref5] at HCM
    clear hwv hemp
    go_wp2_with fail
    rw [← HV.out]
    refine HCM.out.mono ?_
    rintro e wz ⟨rfl, hdz⟩
    have HDz : Hid (∃ F', Disk wz F' gd kM) := Lib.hid ⟨_, hdz.1⟩
    have HBz := Lib.hid (HUP.out _ hdz.2)
    clear hdz HCM
    have HRDZ : Hid (∀ W, Below wz.heap.size wz W → Calls Try.prog 29 #[.pointer (some ⟨gd, 0, none⟩), .int .i64 (a : Int)] W fun e w' => ∃ A c, e = .returned (.slice A 64 c) ∧ Rd .u8 w' w'.heap.size A c zsec ∧ Below W.heap.size W w') := Lib.hid fun W hW => by
      obtain ⟨F', hd'⟩ := HDz.out
      have := dj_read ((DJ.start hd').below hW) (a : Int) kM_many (x := zsec) (by have := HA.out; rw [if_pos (by omega)]; exact kM_place (by omega))
      rw [zsec_len] at this
      exact this
    have HOPZ : Hid (∀ W, Below wz.heap.size wz W → Calls Try.prog 31 #[.pointer (some ⟨gd, 0, none⟩)] W fun e w' => e = .returned (.int .i64 (op : Int)) ∧ W = w') := Lib.hid fun W hW => by
      obtain ⟨F', hd'⟩ := HDz.out
      have := disk_ops ((DJ.start hd').below hW).1
      rw [← HPO.out] at this
      exact this
    clear HDz
    go_wp2_with fail
    refine wp_region_noPanic ?_
    refine wp_region_held_drew (S := fun _ => True) (by kernel_rfl) trivial (fun hHeld => ?_)
    obtain ⟨wa, hwa⟩ : ∃ W, W = wz.drew := ⟨_, rfl⟩
    rw [← hwa]
    have HQa : Hid (Below wz.heap.size wz wa) := Lib.hid (by rw [hwa]; exact (Below.refl _ _).drew)
    clear hwa
    replace hHeld : True := trivial
    refine wpAnyH_take (i := 0) (oi := { dst := some 95, op := Op.move (Operand.tmp 10), type := 33, pos := _, after := _, guard := none }) (v := ?_) rfl (by kernel_rfl) (by kernel_rfl) (by kernel_rfl) (fun _ _ _ h => h) (Or.inl ⟨by rfl, ?_⟩) hHeld ?_
    rotate_left 1
    · (intro W hW; (try dsimp only at hW); go_simp; try with_reducible rfl)
    try simp only [Act.put, List.setIfInBounds_toArray, List.set_cons_zero, List.set_cons_succ]
    refine wpAnyH_take (i := 1) (oi := { dst := some 96, op := Op.move (Operand.tmp 11), type := 33, pos := _, after := _, guard := none }) (v := ?_) rfl (by kernel_rfl) (by kernel_rfl) (by kernel_rfl) (fun _ _ _ h => h) (Or.inl ⟨by rfl, ?_⟩) hHeld ?_
    rotate_left 1
    · (intro W hW; (try dsimp only at hW); go_simp; try with_reducible rfl)
    try simp only [Act.put, List.setIfInBounds_toArray, List.set_cons_zero, List.set_cons_succ]
    refine wpAnyH_take (i := 2) (oi := { dst := some 97, op := Op.binOp BinOp.eql 33 (Operand.tmp 95) (Operand.tmp 96) 33, type := 4, pos := _, after := _, guard := none }) (v := ?_) rfl (by kernel_rfl) (by kernel_rfl) (by kernel_rfl) (fun _ _ _ h => h) (Or.inl ⟨by rfl, ?_⟩) hHeld ?_
    rotate_left 1
    · (intro W hW; (try dsimp only at hW); go_simp; try with_reducible rfl)
    try simp only [Act.put, List.setIfInBounds_toArray, List.set_cons_zero, List.set_cons_succ]
    refine wpAnyH_take (i := 3) (oi := { dst := some 98, op := Op.move (Operand.tmp 97), type := 4, pos := _, after := _, guard := none }) (v := ?_) rfl (by kernel_rfl) (by kernel_rfl) (by kernel_rfl) (fun _ _ _ h => h) (Or.inl ⟨by rfl, ?_⟩) hHeld ?_
    rotate_left 1
    · (intro W hW; (try dsimp only at hW); go_simp; try with_reducible rfl)
    try simp only [Act.put, List.setIfInBounds_toArray, List.set_cons_zero, List.set_cons_succ]
    refine wpAnyH_take (i := 4) (oi := { dst := some 99, op := Op.move (Operand.tmp 7), type := 23, pos := _, after := _, guard := some (3, true) }) (v := ?_) rfl (by kernel_rfl) (by kernel_rfl) (by kernel_rfl) (fun _ _ _ h => h) (Or.inl ⟨by rfl, ?_⟩) hHeld ?_
    rotate_left 1
    · (intro W hW; (try dsimp only at hW); go_simp; try with_reducible rfl)
    try simp only [Act.put, List.setIfInBounds_toArray, List.set_cons_zero, List.set_cons_succ]
    refine wpAnyH_take (i := 6) (oi := { dst := some 101, op := Op.move (Operand.tmp 8), type := 3, pos := _, after := _, guard := some (3, true) }) (v := ?_) rfl (by kernel_rfl) (by kernel_rfl) (by kernel_rfl) (fun _ _ _ h => h) (Or.inl ⟨by rfl, ?_⟩) hHeld ?_
    rotate_left 1
    · (intro W hW; (try dsimp only at hW); go_simp; try with_reducible rfl)
    try simp only [Act.put, List.setIfInBounds_toArray, List.set_cons_zero, List.set_cons_succ]
    refine wpAnyH_ready (rs := [5]) (by kernel_rfl) (by simp) ?_
    refine AllReadyH.cons (o := { dst := some 100, op := Op.call { callee := Callee.value (Operand.func 31), args := #[Operand.tmp 99], argTypes := #[23] }, type := 3, pos := _, after := _, guard := some (3, true) }) rfl (fun K hK => ?_) AllReadyH.nil
    go_simp
    refine (HOPZ.out _ HQa.out).mono ?_
    rintro e wb ⟨rfl, rfl⟩
    go_simp
    refine hK.out _ _ (trivial) (fun _ => ?_)
    clear hK K hHeld
    try simp only [Act.put, List.setIfInBounds_toArray, List.set_cons_zero, List.set_cons_succ]
    have hHeld : True := trivial
    refine wpAnyH_take (i := 7) (oi := { dst := some 102, op := Op.binOp BinOp.eql 3 (Operand.tmp 100) (Operand.tmp 101) 3, type := 4, pos := _, after := _, guard := some (3, true) }) (v := ?_) rfl (by kernel_rfl) (by kernel_rfl) (by kernel_rfl) (fun _ _ _ h => h) (Or.inl ⟨by rfl, ?_⟩) hHeld ?_
    rotate_left 1
    · (intro W hW; (try dsimp only at hW); go_simp; try with_reducible rfl)
    try simp only [Act.put, List.setIfInBounds_toArray, List.set_cons_zero, List.set_cons_succ]
    refine wpAnyH_take (i := 8) (oi := { dst := some 103, op := Op.pick (Operand.tmp 98) (Operand.tmp 102) (Operand.const (Value.bool false)), type := 4, pos := _, after := _, guard := none }) (v := ?_) rfl (by kernel_rfl) (by kernel_rfl) (by kernel_rfl) (fun _ _ _ h => h) (Or.inl ⟨by rfl, ?_⟩) hHeld ?_
    rotate_left 1
    · (intro W hW; (try dsimp only at hW); go_simp; try with_reducible rfl)
    try simp only [Act.put, List.setIfInBounds_toArray, List.set_cons_zero, List.set_cons_succ]
    refine wpAnyH_take (i := 9) (oi := { dst := some 104, op := Op.move (Operand.tmp 103), type := 4, pos := _, after := _, guard := none }) (v := ?_) rfl (by kernel_rfl) (by kernel_rfl) (by kernel_rfl) (fun _ _ _ h => h) (Or.inl ⟨by rfl, ?_⟩) hHeld ?_
    rotate_left 1
    · (intro W hW; (try dsimp only at hW); go_simp; try with_reducible rfl)
    try simp only [Act.put, List.setIfInBounds_toArray, List.set_cons_zero, List.set_cons_succ]
    refine wpAnyH_take (i := 10) (oi := { dst := some 105, op := Op.move (Operand.tmp 7), type := 23, pos := _, after := _, guard := some (9, true) }) (v := ?_) rfl (by kernel_rfl) (by kernel_rfl) (by kernel_rfl) (fun _ _ _ h => h) (Or.inl ⟨by rfl, ?_⟩) hHeld ?_
    rotate_left 1
    · (intro W hW; (try dsimp only at hW); go_simp; try with_reducible rfl)
    try simp only [Act.put, List.setIfInBounds_toArray, List.set_cons_zero, List.set_cons_succ]
    refine wpAnyH_take (i := 11) (oi := { dst := some 106, op := Op.move (Operand.tmp 1), type := 3, pos := _, after := _, guard := some (9, true) }) (v := ?_) rfl (by kernel_rfl) (by kernel_rfl) (by kernel_rfl) (fun _ _ _ h => h) (Or.inl ⟨by rfl, ?_⟩) hHeld ?_
    rotate_left 1
    · (intro W hW; (try dsimp only at hW); go_simp; try with_reducible rfl)
    try simp only [Act.put, List.setIfInBounds_toArray, List.set_cons_zero, List.set_cons_succ]
    refine wpAnyH_ready (rs := [12]) (by kernel_rfl) (by simp) ?_
    refine AllReadyH.cons (o := { dst := some 107, op := Op.call { callee := Callee.value (Operand.func 29), args := #[Operand.tmp 105, Operand.tmp 106], argTypes := #[23, 3] }, type := 40, pos := _, after := _, guard := some (9, true) }) rfl (fun K hK => ?_) AllReadyH.nil
    go_simp
    refine (HRDZ.out _ HQa.out).mono ?_
    rintro e wc ⟨Ac, cc, rfl, hrc, hbc⟩
    have HQc := Lib.hid (HQa.out.trans (hbc.mono HQa.out.size))
    have HRc := Lib.hid hrc
    clear hrc hbc
    go_simp
    refine hK.out _ _ (trivial) (fun _ => ?_)
    clear hK K hHeld
    try simp only [Act.put, List.setIfInBounds_toArray, List.set_cons_zero, List.set_cons_succ]
    refine wpAnyH_strong (S' := fun W => Below wc.heap.size wc W) (fun W hW => trivial) _ _ _ _ ?_
    have hHeld : (fun W => Below wc.heap.size wc W) _ := Below.refl _ _
    refine wpAnyH_take (i := 13) (oi := { dst := some 108, op := Op.convert 40 9 (Operand.tmp 107), type := 9, pos := _, after := _, guard := some (9, true) }) (v := ?_) rfl (by kernel_rfl) (by kernel_rfl) (by kernel_rfl) (fun _ _ _ h => h) (Or.inl ⟨by rfl, ?_⟩) hHeld ?_
    rotate_left 1
    · (intro W hW; have hcv := conv_str (Rd.under HRc.out hW) HZL.out HZO.out; rw [← HZ1.out] at hcv; (try dsimp only at hW); go_simp; try with_reducible rfl)
    try simp only [Act.put, List.setIfInBounds_toArray, List.set_cons_zero, List.set_cons_succ]
    refine wpAnyH_ready (rs := [14]) (by kernel_rfl) (by simp) ?_
    refine AllReadyH.cons (o := { dst := some 109, op := Op.call { callee := Callee.value (Operand.func 21), args := #[Operand.const (Value.slice none 0 0)], argTypes := #[40] }, type := 40, pos := _, after := _, guard := some (9, true) }) rfl (fun K hK => ?_) AllReadyH.nil
    go_simp
    refine (sector_nil _).mono ?_
    rintro e wd ⟨rfl, hrd, hbd⟩
    have HQd := Lib.hid (HQc.out.trans (hbd.mono HQc.out.size))
    have HRd := Lib.hid hrd
    have HBd := Lib.hid hbd
    clear hrd hbd
    go_simp
    refine hK.out _ _ (HBd.out) (fun _ => ?_)
    clear hK K hHeld
    try simp only [Act.put, List.setIfInBounds_toArray, List.set_cons_zero, List.set_cons_succ]
    refine wpAnyH_strong (S' := fun W => Below wd.heap.size wd W) (fun W hW => HBd.out.trans (hW.mono HBd.out.size)) _ _ _ _ ?_
    have hHeld : (fun W => Below wd.heap.size wd W) _ := Below.refl _ _
    refine wpAnyH_take (i := 15) (oi := { dst := some 110, op := Op.convert 40 9 (Operand.tmp 109), type := 9, pos := _, after := _, guard := some (9, true) }) (v := ?_) rfl (by kernel_rfl) (by kernel_rfl) (by kernel_rfl) (fun _ _ _ h => h) (Or.inl ⟨by rfl, ?_⟩) hHeld ?_
    rotate_left 1
    · (intro W hW; have hcv := conv_str (Rd.under HRd.out hW) HZL.out HZO.out; rw [← HZ1.out] at hcv; (try dsimp only at hW); go_simp; try with_reducible rfl)
    try simp only [Act.put, List.setIfInBounds_toArray, List.set_cons_zero, List.set_cons_succ]
    refine wpAnyH_take (i := 16) (oi := { dst := some 111, op := Op.binOp BinOp.eql 9 (Operand.tmp 108) (Operand.tmp 110) 9, type := 4, pos := _, after := _, guard := some (9, true) }) (v := ?_) rfl (by kernel_rfl) (by kernel_rfl) (by kernel_rfl) (fun _ _ _ h => h) (Or.inl ⟨by rfl, ?_⟩) hHeld ?_
    rotate_left 1
    · (intro W hW; (try dsimp only at hW); go_simp; try with_reducible rfl)
    try simp only [Act.put, List.setIfInBounds_toArray, List.set_cons_zero, List.set_cons_succ]
    refine wpAnyH_take (i := 17) (oi := { dst := some 112, op := Op.pick (Operand.tmp 104) (Operand.tmp 111) (Operand.const (Value.bool false)), type := 4, pos := _, after := _, guard := none }) (v := ?_) rfl (by kernel_rfl) (by kernel_rfl) (by kernel_rfl) (fun _ _ _ h => h) (Or.inl ⟨by rfl, ?_⟩) hHeld ?_
    rotate_left 1
    · (intro W hW; (try dsimp only at hW); go_simp; try with_reducible rfl)
    try simp only [Act.put, List.setIfInBounds_toArray, List.set_cons_zero, List.set_cons_succ]
    refine wpAnyH_take (i := 18) (oi := { dst := some 113, op := Op.move (Operand.tmp 112), type := 4, pos := _, after := _, guard := none }) (v := ?_) rfl (by kernel_rfl) (by kernel_rfl) (by kernel_rfl) (fun _ _ _ h => h) (Or.inl ⟨by rfl, ?_⟩) hHeld ?_
    rotate_left 1
    · (intro W hW; (try dsimp only at hW); go_simp; try with_reducible rfl)
    try simp only [Act.put, List.setIfInBounds_toArray, List.set_cons_zero, List.set_cons_succ]
    refine wpAnyH_ready (rs := [19]) (by kernel_rfl) (by simp) ?_
    refine AllReadyH.cons (o := { dst := some 114, op := Op.call { callee := Callee.value (Operand.func 26), args := #[], argTypes := #[] }, type := 4, pos := _, after := _, guard := some (18, true) }) rfl (fun K hK => ?_) AllReadyH.nil
    go_simp
    refine (known2_any _).mono ?_
    rintro e we ⟨rfl, hbe⟩
    have HQe := Lib.hid (HQd.out.trans (hbe.mono HQd.out.size))
    have HBe := Lib.hid hbe
    clear hbe
    go_simp
    refine hK.out _ _ (HBe.out) (fun _ => ?_)
    clear hK K hHeld
    try simp only [Act.put, List.setIfInBounds_toArray, List.set_cons_zero, List.set_cons_succ]
    refine wpAnyH_strong (S' := fun W => Below we.heap.size we W) (fun W hW => HBe.out.trans (hW.mono HBe.out.size)) _ _ _ _ ?_
    have hHeld : (fun W => Below we.heap.size we W) _ := Below.refl _ _
    refine wpAnyH_take (i := 20) (oi := { dst := some 115, op := Op.pick (Operand.tmp 113) (Operand.tmp 114) (Operand.const (Value.bool false)), type := 4, pos := _, after := _, guard := none }) (v := ?_) rfl (by kernel_rfl) (by kernel_rfl) (by kernel_rfl) (fun _ _ _ h => h) (Or.inl ⟨by rfl, ?_⟩) hHeld ?_
    rotate_left 1
    · (intro W hW; (try dsimp only at hW); go_simp; try with_reducible rfl)
    try simp only [Act.put, List.setIfInBounds_toArray, List.set_cons_zero, List.set_cons_succ]
    refine wpAnyH_take (i := 21) (oi := { dst := some 6, op := Op.assign (Operand.tmp 115), type := 4, pos := _, after := _, guard := none }) (v := ?_) rfl (by kernel_rfl) (by kernel_rfl) (by kernel_rfl) (fun _ _ _ h => h) (Or.inl ⟨by rfl, ?_⟩) hHeld ?_
    rotate_left 1
    · (intro W hW; (try dsimp only at hW); go_simp; try with_reducible rfl)
    try simp only [Act.put, List.setIfInBounds_toArray, List.set_cons_zero, List.set_cons_succ]
    refine wpAnyH_done (by kernel_rfl) ?_ _
    refine NoPanic.normal ?_
    go_wp2_with fail
    go_ret
    exact ⟨rfl, HBz.out.trans (HQe.out.mono HBz.out.size)⟩
  have d0 : (way == 0) = false := by rw [beq_eq_false_iff_ne]; exact hw0
  have d1 : (way == 1) = false := by rw [beq_eq_false_iff_ne]; exact hw1
  have d2 : (way == 2) = false := by rw [beq_eq_false_iff_ne]; exact hw2
  have d3 : (way == 3) = false := by rw [beq_eq_false_iff_ne]; exact hw3
  have d4 : (way == 4) = false := by rw [beq_eq_false_iff_ne]; exact hw4
  have d5 : (way == 5) = false := by rw [beq_eq_false_iff_ne]; exact hw5
  go_wp2_with fail
  go_ret
  refine ⟨rfl, ?_⟩
  rw [← HV.out]
  exact HBV.out
end Go.Proofs.Ytkmbgbbmhpidkaa
