/-
  A name's thing, by the document.
-/
import Derived.Test.YtmoefccfdnijpaaDoorDn8
namespace Go.Proofs.YtmoefccfdnijpaaDoor
open Go.RowKit
set_option linter.unusedVariables false
set_option linter.unusedSimpArgs false
attribute [local go_sem ↓] Go.wp_at_zero Go.wp_at_succ

set_option maxRecDepth 100000 in
set_option maxHeartbeats 16000000 in
theorem dnNode'_any (w : World) (xs : List Nat) (B : Nat) (A : Option Addr) (c n : Nat) (l : List Att) (hn : l.length = n) (hr : RdA w B A c l) (hB : B ≤ w.heap.size) (hok : dnOk l = true) (hxs : ∀ x ∈ xs, x < w.heap.size) :
    Calls Tryd.prog 16 #[.slice A n c] w (MadeT w xs (dnTr l)) := by
  have hlc : n ≤ c := by rw [← hn]; exact hr.1
  have hc63 := hr.2.1
  have hn4 : n ≤ 4 := by rw [← hn]; exact (dnOk_iff.1 hok).2.1
  have hn1 : 1 ≤ n := by rw [← hn]; exact (dnOk_iff.1 hok).1
  have HOK := Lib.hid hok
  have HN := Lib.hid hn
  have HRD := Lib.hid hr
  have HSZ : Hid (∀ x ∈ l, (bts x.s).length ≤ 64) := Lib.hid fun x hx => by
    obtain ⟨j, hj, rfl⟩ := List.getElem_of_mem hx
    have h := (atOk_iff.1 ((dnOk_iff.1 hok).2.2 j hj)).2.2
    have e : l.getD j default = l[j] := by simp [List.getD, hj]
    rw [e] at h
    unfold textOk at h
    simp only [Bool.and_eq_true, decide_eq_true_eq] at h
    exact h.1
  obtain ⟨V, hV⟩ : ∃ V, V = w.alloc (.cells #[.int .u8 0, .slice none 0 0, .slice none 0 0] 32) := ⟨_, rfl⟩
  have hz : Holds V w.heap.size 32 #[.int .u8 0, .slice none 0 0, .slice none 0 0] := by rw [hV]; exact Holds.fresh _ _ _
  have HB0 : Hid (Below w.heap.size w V) := Lib.hid (by rw [hV]; exact (Below.refl _ _).alloc (Nat.le_refl _) _)
  have hVs : w.heap.size < V.heap.size := hz.lt
  have HXS : Hid (∀ W : World, V.heap.size ≤ W.heap.size → ∀ x ∈ w.heap.size :: xs, x < W.heap.size) := Lib.hid fun W hW x hx => by
    rcases List.mem_cons.1 hx with rfl | hx
    · omega
    · have := hxs x hx; omega
  have HV := Lib.hid hV
  obtain ⟨g, off, rfl, hg, hcs⟩ := HRD.out.2.2 (by rw [HN.out]; omega)
  have HCS := Lib.hid hcs
  have HZ := Lib.hid hz
  clear hok hn hr hxs hz hV hcs
  go_enter Tryd.func16, Tryd.ntmps16
  go_wp2_with fail
  rw [← HV.out]
  clear HV
  go_loopw [3, 4] (fun kv iv wr => ∃ (i : Nat) (KA : Option Addr) (d : Nat) (ks : List Lt), i ≤ n ∧ iv = .int .i64 (i : Int) ∧ kv = .slice KA i d ∧ Kids (w.heap.size :: xs) KA d i ks wr ∧ Hid (ks.map Lt.t = (l.take i).map atTr) ∧ Hid (∀ g, blockOf KA = some g → w.heap.size < g) ∧ Holds wr w.heap.size 32 #[.int .u8 0, .slice none 0 0, .slice none 0 0] ∧ V.heap.size ≤ wr.heap.size ∧ Below w.heap.size w wr) (fun _ iv _ => n - (intOf iv).toNat)
  case atStart => exact ⟨0, none, 0, [], by omega, rfl, rfl, Kids.nil _ _, rfl, fun g hg => by simp [blockOf] at hg, HZ.out, Nat.le_refl _, HB0.out⟩
  case round =>
    obtain ⟨i, KA, d, ks, hi, rfl, rfl, hK, HT, HG, hZ, hVW, hB'⟩ := hrel
    have HVW := Lib.hid hVW
    have HB := Lib.hid hB'
    have HZr := Lib.hid hZ
    have HK := Lib.hid hK
    have hwr : w.heap.size < wr.heap.size := hZ.lt
    clear hVW hB' hZ hK
    by_cases hlt : i < n
    · obtain ⟨q0, q1⟩ := HCS.out i (by rw [HN.out]; exact hlt)
      have c0 := (HB.out.cell (p := ⟨g, off + i * 2, none⟩) (by show g < _; omega)).trans q0
      have c1 := (HB.out.cell (p := ⟨g, off + i * 2 + 1, none⟩) (by show g < _; omega)).trans q1
      have hgw : g < wr.heap.size := by omega
      have HSZ1 := HSZ.out (l.getD i default) (getD_mem (by rw [HN.out]; exact hlt))
      have hat := (dnOk_iff.1 HOK.out).2.2 i (by rw [HN.out]; exact hlt)
      have HV1 : Hid ((l.take (i + 1)).map atTr = (l.take i).map atTr ++ [atTr (l.getD i default)]) := Lib.hid (Att.v_take (by rw [HN.out]; exact hlt))
      obtain ⟨a, ha⟩ : ∃ a, a = l.getD i default := ⟨_, rfl⟩
      rw [← ha] at c0 c1 HSZ1 hat HV1
      clear ha q0 q1
      obtain ⟨kd, s⟩ := a
      dsimp only at c0 c1 HSZ1
      obtain ⟨L, rfl, hoL⟩ := str_all s
      rw [bts_str hoL] at HSZ1
      have HOL := Lib.hid hoL
      have hkd : 0 ≤ kd ∧ kd < 256 := by
        have h : kd = 3 ∨ kd = 6 ∨ kd = 10 ∨ kd = 11 := kd_cases (atOk_iff.1 hat).1
        omega
      obtain ⟨m, rfl⟩ : ∃ m : Nat, kd = (m : Int) := ⟨kd.toNat, by omega⟩
      have hm256 : m < 256 := by omega
      have HTA : Hid (atTr ⟨(m : Int), str L⟩ = .mk 49 [] [.mk 48 [] [.mk 6 [85, 4, m] [], .mk 12 L []]]) := Lib.hid (by unfold atTr; rw [bts_str hoL]; simp)
      rw [HTA.out] at HV1
      have HBD : Hid (∀ W, Below wr.heap.size wr W → ∀ x ∈ bl KA ++ w.heap.size :: xs, x < W.heap.size) := Lib.hid fun W hW x hx => by
        have h1 := HK.out.bound (HXS.out wr HVW.out) x hx
        have h2 := hW.size
        omega
      have HNX : Hid (∀ W, Below wr.heap.size wr W → W.heap.size ∉ bl KA ++ w.heap.size :: xs) := Lib.hid fun W hW hx => by
        have := HBD.out W hW _ hx
        omega
      clear hoL hat hkd HTA
      have hrd : Rd .u8 (wr.alloc (.cells #[.int .u8 85, .int .u8 4, .int .u8 (m : Int)] 5)) (wr.alloc (.cells #[.int .u8 85, .int .u8 4, .int .u8 (m : Int)] 5)).heap.size (some ⟨wr.heap.size, 0, none⟩) 3 [85, 4, m] := bytes_block (b := [85, 4, m]) (heap_alloc_new wr _) (by simp [bvals]) (by simp)
      have hq1 : Below wr.heap.size wr (wr.alloc (.cells #[.int .u8 85, .int .u8 4, .int .u8 (m : Int)] 5)) := (Below.refl _ _).alloc (Nat.le_refl _) _
      have HI := Lib.hid (id'_any (wr.alloc (.cells #[.int .u8 85, .int .u8 4, .int .u8 (m : Int)] 5)) (bl KA ++ w.heap.size :: xs) _ 3 3 _ [85, 4, m] hrd rfl (Nat.le_refl _) (by omega) (by intro x hx; simp at hx; omega) (HBD.out _ hq1))
      have Q1 := Lib.hid hq1
      clear hrd hq1
      go_wp2_with fail
      refine HI.out.mono ?_
      rintro e w5 hm5
      obtain ⟨lti, pt, pa, pn, pc, pk, pm, pd, rfl, h6i, hTi, hOi, hb5⟩ := MadeT.six hm5
      have hHi := Holds.fresh w5 32 #[.int .u8 (pt : Int), .slice pa pn pc, .slice pk pm pd]
      have hq5 : Below w5.heap.size w5 (w5.alloc (.cells #[.int .u8 (pt : Int), .slice pa pn pc, .slice pk pm pd] 32)) := (Below.refl _ _).alloc (Nat.le_refl _) _
      have Q6 := Lib.hid (Q1.out.trans ((hb5.trans (hq5.mono hb5.size)).mono Q1.out.size))
      have HHI := Lib.hid hHi
      have HGI : Hid (wr.heap.size ≤ w5.heap.size) := Lib.hid (Q1.out.trans (hb5.mono Q1.out.size)).size
      have H6I := Lib.hid h6i
      have HTI := Lib.hid hTi
      have HOI := Lib.hid (hOi.alloc (.cells #[.int .u8 (pt : Int), .slice pa pn pc, .slice pk pm pd] 32))
      have hrow : ∀ W, Below wr.heap.size wr W → W.cell? ⟨g, off + i * 2 + 1, none⟩ = some (.string (str L)) := fun W hW => (hW.cell (p := ⟨g, _, none⟩) hgw).trans c1
      have HROW := Lib.hid hrow
      have HROW0 : Hid (w.cell? ⟨g, off + i * 2 + 1, none⟩ = some (.string (str L))) := Lib.hid ((HB.out.cell (p := ⟨g, off + i * 2 + 1, none⟩) (by show g < _; omega)).symm.trans c1)
      obtain ⟨gi, hgi⟩ : ∃ gi, w5.heap.size = gi := ⟨_, rfl⟩
      have HGE := Lib.hid hgi
      generalize hW6 : w5.alloc (.cells #[.int .u8 (pt : Int), .slice pa pn pc, .slice pk pm pd] 32) = W6 at *
      rw [hgi] at HHI HGI
      clear hm5 hb5 hq5 h6i hTi hOi hHi HI hgi hrow
      have HW6 := Lib.hid hW6
      clear hW6
      go_wp2_with fail
      rw [HW6.out, HGE.out]
      clear HW6 HGE c0 c1
      have HS : Hid (∀ W, Below W6.heap.size W6 W → (fun W => W.cell? ⟨gi, 0, none⟩ = some (.int .u8 (pt : Int)) ∧ W.cell? ⟨gi, 1, none⟩ = some (.slice pa pn pc) ∧ W.cell? ⟨gi, 2, none⟩ = some (.slice pk pm pd) ∧ W.cell? ⟨g, off + i * 2 + 1, none⟩ = some (.string (str L))) W) := Lib.hid fun W hW => by
        have h := HHI.out.under hW HHI.out.lt
        exact ⟨h.cell 0, h.cell 1, h.cell 2, HROW.out W (Q6.out.trans (hW.mono Q6.out.size))⟩
      refine wp_region_noPanic ?_
      refine wp_region_held_drew (S := (fun W => W.cell? ⟨gi, 0, none⟩ = some (.int .u8 (pt : Int)) ∧ W.cell? ⟨gi, 1, none⟩ = some (.slice pa pn pc) ∧ W.cell? ⟨gi, 2, none⟩ = some (.slice pk pm pd) ∧ W.cell? ⟨g, off + i * 2 + 1, none⟩ = some (.string (str L)))) (by kernel_rfl) (HS.out _ (Below.refl _ W6).drew) (fun hHeld => ?_)
      refine wpAnyH_take (i := 0) (oi := { dst := some 20, op := Op.move (Operand.tmp 3), type := 30, pos := _, after := _, guard := none }) (v := ?_) rfl (by kernel_rfl) (by kernel_rfl) (by kernel_rfl) (fun _ _ _ h => h) (Or.inl ⟨by rfl, ?_⟩) hHeld ?_
      rotate_left 1
      · (intro W hW; (try dsimp only at hW); go_simp; try with_reducible rfl)
      try simp only [Act.put, List.setIfInBounds_toArray, List.set_cons_zero, List.set_cons_succ]
      refine wpAnyH_take (i := 1) (oi := { dst := some 21, op := Op.load 32 (Operand.tmp 5), type := 32, pos := _, after := _, guard := none }) (v := ?_) rfl (by kernel_rfl) (by kernel_rfl) (by kernel_rfl) (fun _ _ _ h => h) (Or.inl ⟨by rfl, ?_⟩) hHeld ?_
      rotate_left 1
      · (intro W hW; obtain ⟨k0, k1, k2, _⟩ := hW; (try dsimp only at hW); go_simp; try with_reducible rfl)
      try simp only [Act.put, List.setIfInBounds_toArray, List.set_cons_zero, List.set_cons_succ]
      refine wpAnyH_take (i := 2) (oi := { dst := some 22, op := Op.move (Operand.tmp 0), type := 22, pos := _, after := _, guard := none }) (v := ?_) rfl (by kernel_rfl) (by kernel_rfl) (by kernel_rfl) (fun _ _ _ h => h) (Or.inl ⟨by rfl, ?_⟩) hHeld ?_
      rotate_left 1
      · (intro W hW; (try dsimp only at hW); go_simp; try with_reducible rfl)
      try simp only [Act.put, List.setIfInBounds_toArray, List.set_cons_zero, List.set_cons_succ]
      refine wpAnyH_take (i := 3) (oi := { dst := some 23, op := Op.move (Operand.tmp 4), type := 3, pos := _, after := _, guard := none }) (v := ?_) rfl (by kernel_rfl) (by kernel_rfl) (by kernel_rfl) (fun _ _ _ h => h) (Or.inl ⟨by rfl, ?_⟩) hHeld ?_
      rotate_left 1
      · (intro W hW; (try dsimp only at hW); go_simp; try with_reducible rfl)
      try simp only [Act.put, List.setIfInBounds_toArray, List.set_cons_zero, List.set_cons_succ]
      refine wpAnyH_take (i := 4) (oi := { dst := some 24, op := Op.indexAddr 22 (Operand.tmp 22) (Operand.tmp 23), type := 0, pos := _, after := _, guard := none }) (v := ?_) rfl (by kernel_rfl) (by kernel_rfl) (by kernel_rfl) (fun _ _ _ h => h) (Or.inl ⟨by rfl, ?_⟩) hHeld ?_
      rotate_left 1
      · (intro W hW; (try dsimp only at hW); go_simp; try with_reducible rfl)
      try simp only [Act.put, List.setIfInBounds_toArray, List.set_cons_zero, List.set_cons_succ]
      refine wpAnyH_take (i := 5) (oi := { dst := some 25, op := Op.fieldAddr 39 (Operand.tmp 24) 1, type := 0, pos := _, after := _, guard := none }) (v := ?_) rfl (by kernel_rfl) (by kernel_rfl) (by kernel_rfl) (fun _ _ _ h => h) (Or.inl ⟨by rfl, ?_⟩) hHeld ?_
      rotate_left 1
      · (intro W hW; (try dsimp only at hW); go_simp; try with_reducible rfl)
      try simp only [Act.put, List.setIfInBounds_toArray, List.set_cons_zero, List.set_cons_succ]
      refine wpAnyH_take (i := 6) (oi := { dst := some 26, op := Op.load 9 (Operand.tmp 25), type := 9, pos := _, after := _, guard := none }) (v := ?_) rfl (by kernel_rfl) (by kernel_rfl) (by kernel_rfl) (fun _ _ _ h => h) (Or.inl ⟨by rfl, ?_⟩) hHeld ?_
      rotate_left 1
      · (intro W hW; obtain ⟨_, _, _, k3⟩ := hW; (try dsimp only at hW); go_simp; try with_reducible rfl)
      try simp only [Act.put, List.setIfInBounds_toArray, List.set_cons_zero, List.set_cons_succ]
      refine wpAnyH_ready (rs := [7]) (by kernel_rfl) (by simp) ?_
      refine AllReadyH.cons (o := { dst := some 27, op := Op.call { callee := Callee.value (Operand.func 31), args := #[Operand.tmp 26], argTypes := #[9] }, type := 32, pos := _, after := _, guard := none }) rfl (fun K hK => ?_) AllReadyH.nil
      go_simp
      refine (text'_any _ (bl KA ++ w.heap.size :: xs) L HOL.out (by omega) (HBD.out _ (Q6.out.trans ((Below.refl _ W6).drew.mono Q6.out.size)))).mono ?_
      intro e w7 hm
      obtain ⟨lt7, t7, a7, n7, c7, k7, m7, d7, rfl, h6, hlt', hoff, hb⟩ := MadeT.six hm
      have b7 : Hid (Below W6.heap.size W6 w7) := Lib.hid ((Below.refl _ W6).drew.trans hb)
      have Q7 := Lib.hid (Q6.out.trans (b7.out.mono Q6.out.size))
      have R7 := Lib.hid (b7.out)
      have S7 := Lib.hid (HS.out _ R7.out)
      have HS7 := Lib.hid h6
      have HT7 := Lib.hid hlt'
      have HO7 := Lib.hid hoff
      clear hm hb h6 hlt' hoff
      go_simp
      refine hK.out _ _ (S7.out) (fun _ => ?_)
      clear hK K hHeld
      try simp only [Act.put, List.setIfInBounds_toArray, List.set_cons_zero, List.set_cons_succ]
      have hHeld : ((fun W => W.cell? ⟨gi, 0, none⟩ = some (.int .u8 (pt : Int)) ∧ W.cell? ⟨gi, 1, none⟩ = some (.slice pa pn pc) ∧ W.cell? ⟨gi, 2, none⟩ = some (.slice pk pm pd) ∧ W.cell? ⟨g, off + i * 2 + 1, none⟩ = some (.string (str L)))) w7 := S7.out
      refine wpAnyH_ready (rs := [8]) (by kernel_rfl) (by simp) ?_
      refine AllReadyH.cons (o := { dst := some 28, op := Op.buildSlice 30 2 #[(0, Operand.tmp 21), (1, Operand.tmp 27)], type := 30, pos := _, after := _, guard := none }) rfl (fun K hK => ?_) AllReadyH.nil
      go_simp
      obtain ⟨w8, hw⟩ : ∃ W, W = w7.alloc (.cells #[.int .u8 (pt : Int), .slice pa pn pc, .slice pk pm pd, .int .u8 (t7 : Int), .slice a7 n7 c7, .slice k7 m7 d7] 32) := ⟨_, rfl⟩
      rw [← hw]
      have b8 : Hid (Below w7.heap.size w7 w8) := Lib.hid (by rw [hw]; exact (Below.refl _ _).alloc (Nat.le_refl _) _)
      have Q8 := Lib.hid (Q7.out.trans (b8.out.mono Q7.out.size))
      have R8 := Lib.hid (R7.out.trans (b8.out.mono R7.out.size))
      have S8 := Lib.hid (HS.out _ R8.out)
      have HP8 : Hid (Off (bl KA ++ w.heap.size :: xs) (KiP (some ⟨w7.heap.size, 0, none⟩) 2 [lti, lt7]) w8) := Lib.hid (by rw [hw]; exact row66 (HOI.out.under R7.out) H6I.out HO7.out HS7.out (HNX.out _ Q7.out))
      clear hw
      refine hK.out _ _ (S8.out) (fun _ => ?_)
      clear hK K hHeld
      try simp only [Act.put, List.setIfInBounds_toArray, List.set_cons_zero, List.set_cons_succ]
      have hHeld : ((fun W => W.cell? ⟨gi, 0, none⟩ = some (.int .u8 (pt : Int)) ∧ W.cell? ⟨gi, 1, none⟩ = some (.slice pa pn pc) ∧ W.cell? ⟨gi, 2, none⟩ = some (.slice pk pm pd) ∧ W.cell? ⟨g, off + i * 2 + 1, none⟩ = some (.string (str L)))) w8 := S8.out
      refine wpAnyH_ready (rs := [9]) (by kernel_rfl) (by simp) ?_
      refine AllReadyH.cons (o := { dst := some 29, op := Op.call { callee := Callee.value (Operand.func 30), args := #[Operand.const (Value.int IntKind.u8 48), Operand.tmp 28], argTypes := #[5, 30] }, type := 32, pos := _, after := _, guard := none }) rfl (fun K hK => ?_) AllReadyH.nil
      go_simp
      refine (seq'_any _ (bl KA ++ w.heap.size :: xs) 48 2 2 _ [lti, lt7] HP8.out rfl (by omega)).mono ?_
      intro e w9 hm
      obtain ⟨lt9, t9, a9, n9, c9, k9, m9, d9, rfl, h6, hlt', hoff, hb⟩ := MadeT.six hm
      have b9 : Hid (Below w8.heap.size w8 w9) := Lib.hid (hb)
      have Q9 := Lib.hid (Q8.out.trans (b9.out.mono Q8.out.size))
      have R9 := Lib.hid (R8.out.trans (b9.out.mono R8.out.size))
      have S9 := Lib.hid (HS.out _ R9.out)
      have HS9 := Lib.hid h6
      have HT9 := Lib.hid hlt'
      have HO9 := Lib.hid hoff
      clear hm hb h6 hlt' hoff
      go_simp
      refine hK.out _ _ (S9.out) (fun _ => ?_)
      clear hK K hHeld
      try simp only [Act.put, List.setIfInBounds_toArray, List.set_cons_zero, List.set_cons_succ]
      have hHeld : ((fun W => W.cell? ⟨gi, 0, none⟩ = some (.int .u8 (pt : Int)) ∧ W.cell? ⟨gi, 1, none⟩ = some (.slice pa pn pc) ∧ W.cell? ⟨gi, 2, none⟩ = some (.slice pk pm pd) ∧ W.cell? ⟨g, off + i * 2 + 1, none⟩ = some (.string (str L)))) w9 := S9.out
      refine wpAnyH_ready (rs := [10]) (by kernel_rfl) (by simp) ?_
      refine AllReadyH.cons (o := { dst := some 30, op := Op.buildSlice 30 1 #[(0, Operand.tmp 29)], type := 30, pos := _, after := _, guard := none }) rfl (fun K hK => ?_) AllReadyH.nil
      go_simp
      obtain ⟨w10, hw⟩ : ∃ W, W = w9.alloc (.cells #[.int .u8 (t9 : Int), .slice a9 n9 c9, .slice k9 m9 d9] 32) := ⟨_, rfl⟩
      rw [← hw]
      have b10 : Hid (Below w9.heap.size w9 w10) := Lib.hid (by rw [hw]; exact (Below.refl _ _).alloc (Nat.le_refl _) _)
      have Q10 := Lib.hid (Q9.out.trans (b10.out.mono Q9.out.size))
      have R10 := Lib.hid (R9.out.trans (b10.out.mono R9.out.size))
      have S10 := Lib.hid (HS.out _ R10.out)
      have HP10 : Hid (Off (bl KA ++ w.heap.size :: xs) (KiP (some ⟨w9.heap.size, 0, none⟩) 1 [lt9]) w10) := Lib.hid (by rw [hw]; exact row6 HO9.out HS9.out (HNX.out _ Q9.out))
      clear hw
      refine hK.out _ _ (S10.out) (fun _ => ?_)
      clear hK K hHeld
      try simp only [Act.put, List.setIfInBounds_toArray, List.set_cons_zero, List.set_cons_succ]
      have hHeld : ((fun W => W.cell? ⟨gi, 0, none⟩ = some (.int .u8 (pt : Int)) ∧ W.cell? ⟨gi, 1, none⟩ = some (.slice pa pn pc) ∧ W.cell? ⟨gi, 2, none⟩ = some (.slice pk pm pd) ∧ W.cell? ⟨g, off + i * 2 + 1, none⟩ = some (.string (str L)))) w10 := S10.out
      refine wpAnyH_ready (rs := [11]) (by kernel_rfl) (by simp) ?_
      refine AllReadyH.cons (o := { dst := some 31, op := Op.call { callee := Callee.value (Operand.func 30), args := #[Operand.const (Value.int IntKind.u8 49), Operand.tmp 30], argTypes := #[5, 30] }, type := 32, pos := _, after := _, guard := none }) rfl (fun K hK => ?_) AllReadyH.nil
      go_simp
      refine (seq'_any _ (bl KA ++ w.heap.size :: xs) 49 1 1 _ [lt9] HP10.out rfl (by omega)).mono ?_
      intro e w11 hm
      obtain ⟨lt11, t11, a11, n11, c11, k11, m11, d11, rfl, h6, hlt', hoff, hb⟩ := MadeT.six hm
      have b11 : Hid (Below w10.heap.size w10 w11) := Lib.hid (hb)
      have Q11 := Lib.hid (Q10.out.trans (b11.out.mono Q10.out.size))
      have R11 := Lib.hid (R10.out.trans (b11.out.mono R10.out.size))
      have S11 := Lib.hid (HS.out _ R11.out)
      have HS11 := Lib.hid h6
      have HT11 := Lib.hid hlt'
      have HO11 := Lib.hid hoff
      clear hm hb h6 hlt' hoff
      go_simp
      refine hK.out _ _ (S11.out) (fun _ => ?_)
      clear hK K hHeld
      try simp only [Act.put, List.setIfInBounds_toArray, List.set_cons_zero, List.set_cons_succ]
      have hHeld : ((fun W => W.cell? ⟨gi, 0, none⟩ = some (.int .u8 (pt : Int)) ∧ W.cell? ⟨gi, 1, none⟩ = some (.slice pa pn pc) ∧ W.cell? ⟨gi, 2, none⟩ = some (.slice pk pm pd) ∧ W.cell? ⟨g, off + i * 2 + 1, none⟩ = some (.string (str L)))) w11 := S11.out
      refine wpAnyH_ready (rs := [12]) (by kernel_rfl) (by simp) ?_
      refine AllReadyH.cons (o := { dst := some 32, op := Op.buildSlice 30 1 #[(0, Operand.tmp 31)], type := 30, pos := _, after := _, guard := none }) rfl (fun K hK => ?_) AllReadyH.nil
      go_simp
      obtain ⟨w12, hw⟩ : ∃ W, W = w11.alloc (.cells #[.int .u8 (t11 : Int), .slice a11 n11 c11, .slice k11 m11 d11] 32) := ⟨_, rfl⟩
      rw [← hw]
      have b12 : Hid (Below w11.heap.size w11 w12) := Lib.hid (by rw [hw]; exact (Below.refl _ _).alloc (Nat.le_refl _) _)
      have Q12 := Lib.hid (Q11.out.trans (b12.out.mono Q11.out.size))
      have R12 := Lib.hid (R11.out.trans (b12.out.mono R11.out.size))
      have S12 := Lib.hid (HS.out _ R12.out)
      have HF12 : Hid (Holds w12 w11.heap.size 32 [.int .u8 (t11 : Int), .slice a11 n11 c11, .slice k11 m11 d11].toArray) := Lib.hid (by rw [hw]; exact Holds.fresh _ _ _)
      have K12 := Lib.hid (HK.out.under Q12.out)
      have O12 := Lib.hid (HO11.out.under b12.out)
      have OW12 := Lib.hid K12.out.own
      have BX12 := Lib.hid (HXS.out _ (Nat.le_trans HVW.out Q12.out.size))
      have Z12 := Lib.hid (HZr.out.under Q12.out hwr)
      have B12 := Lib.hid (HB.out.trans (Q12.out.mono HB.out.size))
      have V12 := Lib.hid (Nat.le_trans HVW.out Q12.out.size)
      clear hw
      refine hK.out _ _ (S12.out) (fun _ => ?_)
      clear hK K hHeld
      try simp only [Act.put, List.setIfInBounds_toArray, List.set_cons_zero, List.set_cons_succ]
      have hHeld : ((fun W => W.cell? ⟨gi, 0, none⟩ = some (.int .u8 (pt : Int)) ∧ W.cell? ⟨gi, 1, none⟩ = some (.slice pa pn pc) ∧ W.cell? ⟨gi, 2, none⟩ = some (.slice pk pm pd) ∧ W.cell? ⟨g, off + i * 2 + 1, none⟩ = some (.string (str L)))) w12 := S12.out
      refine wpAnyH_ready (rs := [13]) (by kernel_rfl) (by simp) ?_
      refine AllReadyH.cons (o := { dst := some 33, op := Op.call { callee := Callee.builtin Builtin.append, args := #[Operand.tmp 20, Operand.tmp 32], argTypes := #[30, 30] }, type := 30, pos := _, after := _, guard := none }) rfl (fun K hK => ?_) AllReadyH.nil
      refine step_pushV _ rfl (.tmp 20) (.tmp 32) 30 rfl 32 _ 3 56 Tryd.underlying30 info_node rfl (by omega) (by omega) rfl OW12.out (cs := [.int .u8 (t11 : Int), .slice a11 n11 c11, .slice k11 m11 d11]) rfl rfl one6 HF12.out (by omega) ?_
      intro g13 c13 w13 ho13 hg13 hat13 hlt13
      have K13 := Lib.hid (K12.out.push6 O12.out HS11.out ho13 hg13 hat13 BX12.out)
      have Z13 := Lib.hid (Z12.out.grown hg13 (fun h => by have := HG.out _ h.symm; omega))
      have B13 := Lib.hid (below_own B12.out hg13 (fun g hg => by have := HG.out g hg; omega) (Nat.le_refl _))
      have V13 := Lib.hid (Nat.le_trans V12.out hg13.size)
      have G13 : Hid (∀ g, blockOf (some (⟨g13, 0, none⟩ : Addr)) = some g → w.heap.size < g) := Lib.hid fun g hg => by
        rcases hat13 with h | h
        · exact HG.out g (h.trans (by simpa [blockOf] using hg))
        · have e : g13 = g := by simpa [blockOf] using hg
          have := Z12.out.lt
          omega
      have S13 : Hid ((fun W => W.cell? ⟨gi, 0, none⟩ = some (.int .u8 (pt : Int)) ∧ W.cell? ⟨gi, 1, none⟩ = some (.slice pa pn pc) ∧ W.cell? ⟨gi, 2, none⟩ = some (.slice pk pm pd) ∧ W.cell? ⟨g, off + i * 2 + 1, none⟩ = some (.string (str L))) w13) := Lib.hid (by
        have h12 := HHI.out.under R12.out HHI.out.lt
        have h13 := h12.grown hg13 (fun e => by have := HK.out.lt e.symm; have := HGI.out; omega)
        exact ⟨h13.cell 0, h13.cell 1, h13.cell 2, (B13.out.cell (p := ⟨g, off + i * 2 + 1, none⟩) (by show g < _; omega)).trans (HROW0.out)⟩)
      clear ho13 hg13 hat13 OW12 HF12 O12 K12 BX12
      refine hK.out _ _ (S13.out) (fun _ => ?_)
      clear hK K hHeld
      try simp only [Act.put, List.setIfInBounds_toArray, List.set_cons_zero, List.set_cons_succ]
      have hHeld : ((fun W => W.cell? ⟨gi, 0, none⟩ = some (.int .u8 (pt : Int)) ∧ W.cell? ⟨gi, 1, none⟩ = some (.slice pa pn pc) ∧ W.cell? ⟨gi, 2, none⟩ = some (.slice pk pm pd) ∧ W.cell? ⟨g, off + i * 2 + 1, none⟩ = some (.string (str L)))) w13 := S13.out
      refine wpAnyH_take (i := 14) (oi := { dst := some 3, op := Op.assign (Operand.tmp 33), type := 30, pos := _, after := _, guard := none }) (v := ?_) rfl (by kernel_rfl) (by kernel_rfl) (by kernel_rfl) (fun _ _ _ h => h) (Or.inl ⟨by rfl, ?_⟩) hHeld ?_
      rotate_left 1
      · (intro W hW; (try dsimp only at hW); go_simp; try with_reducible rfl)
      try simp only [Act.put, List.setIfInBounds_toArray, List.set_cons_zero, List.set_cons_succ]
      refine wpAnyH_done (by kernel_rfl) ?_ _
      refine NoPanic.normal ?_
      have HTT : Hid ((ks ++ [lt11]).map Lt.t = (l.take (i + 1)).map atTr) := Lib.hid (by
        rw [HV1.out, List.map_append, HT.out]
        simp [HT11.out, HT9.out, HT7.out, HTI.out])
      go_wp2_with fail
      go_roundw
      case rel => exact ⟨i + 1, _, _, _, by omega, by go_num, rfl, K13.out, HTT.out, G13.out, Z13.out, V13.out, B13.out⟩
      case measure => simp [intOf]; omega
    · obtain rfl : i = n := by omega
      have HTT : Hid (ks.map Lt.t = l.map atTr) := Lib.hid (by rw [HT.out, List.take_of_length_le (by rw [HN.out]; exact Nat.le_refl _)])
      have HSE := Lib.hid (seq'_any wr (w.heap.size :: xs) 48 d i KA ks HK.out.ki HK.out.len (by omega))
      go_wp2_with fail
      refine HSE.out.mono ?_
      rintro e w2 hm2
      obtain ⟨lt2, pt, pa, pn, pc, pk, pm, pd, rfl, h62, hT2, hO2, hb2⟩ := MadeT.six hm2
      have HQ2 := Lib.hid (HB.out.trans (hb2.mono HB.out.size))
      have hz2 := HZr.out.under hb2 hwr
      have HO2 := Lib.hid hO2
      have z0 := hz2.cell 0
      have z1 := hz2.cell 1
      have z2 := hz2.cell 2
      have y0 := hz2.open_ 0
      have y1 := hz2.open_ 1
      have y2 := hz2.open_ 2
      have HLT : Hid (lt2.val = .agg #[.int .u8 (pt : Int), .slice pa pn pc, .slice pk pm pd]) := Lib.hid (by rw [Lt.val, ← lcell_cells, show lcell lt2 = _ from h62])
      have HTE : Hid (lt2.t = dnTr l) := Lib.hid (by rw [hT2, HTT.out]; rfl)
      clear hm2 hb2 hO2 HSE hT2
      go_wp2_with fail
      refine ret_one rfl rfl (((hz2.stored 0 _).stored 1 _).stored 2 _) rfl ?_
      exact ⟨lt2, by rw [HLT.out]; rfl, HTE.out, made_out HO2.out _ _ _, below_out HQ2.out _ _ _⟩
end Go.Proofs.YtmoefccfdnijpaaDoor
