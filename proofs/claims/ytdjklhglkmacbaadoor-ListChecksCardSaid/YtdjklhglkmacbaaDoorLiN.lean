/-
  A manifest's thing, by list. A manifest's thing, by the document.
-/
import Derived.Test.YtdjklhglkmacbaaDoorLiA
namespace Go.Proofs.YtdjklhglkmacbaaDoor
open Go.RowKit
set_option linter.unusedVariables false
set_option linter.unusedSimpArgs false
attribute [local go_sem ↓] Go.wp_at_zero Go.wp_at_succ

set_option maxRecDepth 100000 in
set_option maxHeartbeats 16000000 in
theorem mfNode_any (w : World) (xs : List Nat) (m : Mf) (h : MfP m w) (hok : mfOk m.v = true) (hT : Lib.Utf8Tabs 0 1 w) (hxs : ∀ x ∈ xs, x < w.heap.size) :
    Calls Tryd.prog 11 #[.agg (mcell m).toArray] w (MadeT w xs (mfTr m.v)) := by
  obtain ⟨p1, p2, p3, p4, _⟩ := mfOk_parts hok
  have HEN : Hid (∀ e ∈ m.files, 0 ≤ e.sz ∧ e.sz ≤ 600 ∧ e.dig.length = 32 ∧ e.path.length ≤ 64) := Lib.hid fun e he => by
    have h1 := p4 e.v (List.mem_map_of_mem he)
    have h2 := en_parts h1.1
    exact ⟨h2.1, h1.2, h2.2⟩
  have hnm := text_le p2
  have h12 : m.files.length ≤ 12 := by simpa [Mf.v] using p3
  have HIS0 : Hid (∀ W : World, Below w.heap.size w W → Calls Tryd.prog 9 #[.agg (mcell m).toArray] W fun e w' => e = .returned (.bool true) ∧ Below W.heap.size W w') := Lib.hid fun W hW => by
    rw [← hok]
    exact mfIs_any W m (Off.of_m h W hW.size (fun g _ hg => hW.block g hg)) (Utf8Tabs_below hT hW) ⟨by have : m.name.length ≤ 64 := hnm; omega, fun e he => by have := HEN.out e he; omega⟩
  have HTV : Hid (mfTr m.v = .mk 48 [] [.mk 12 m.name [], .mk 2 (intB (dg2 m.ctr)) [], .mk 48 [] ((m.files.map En.v).map enTr)]) := Lib.hid rfl
  have hn0 := Off.of_n h.1
  have HON := Lib.hid h.2.1
  have hct := h.2.2
  clear h hok p1 p2 p3 p4 hT
  obtain ⟨name, ctr, fa, fc, files⟩ := m
  simp only [mcell, Mf.v] at *
  obtain ⟨fn, hfn⟩ : ∃ k, files.length = k := ⟨_, rfl⟩
  obtain ⟨u, hu⟩ : ∃ k, k = (ctr : Int) := ⟨_, rfl⟩
  have HSMC : Hid (∀ W : World, Calls Tryd.prog 32 #[.int .u64 u] W fun e w' => ∃ r, e = .returned r ∧ PrimAt r w' W.heap.size 2 (intB (dg2 ctr)) ∧ Below W.heap.size W w') := Lib.hid fun W => by rw [hu]; exact small_any W ctr hct
  obtain ⟨s, hs⟩ : ∃ k, k = str name := ⟨_, rfl⟩
  have HTXN : Hid (∀ (W : World) (ys : List Nat), (∀ x ∈ ys, x < W.heap.size) → Calls Tryd.prog 31 #[.string s] W (MadeT W ys (.mk 12 name []))) := Lib.hid fun W ys hy => by rw [hs]; exact text_any W ys name HON.out (by omega) hy
  rw [hfn, ← hu, ← hs] at HIS0 ⊢
  rw [hfn] at h12
  generalize HTT0 : mfTr _ = TT at *
  clear hu hs hnm hct HON HTT0
  have hq0 : Below w.heap.size w ((w.alloc (.cells #[.string s, .int .u64 u, .slice fa fn fc] 25)).alloc (.cells #[.int .u8 0, .slice none 0 0, .slice none 0 0] 31)) := ((Below.refl _ _).alloc (Nat.le_refl _) _).alloc (by simp) _
  have hbox := (Holds.fresh w 25 #[.string s, .int .u64 u, .slice fa fn fc]).alloc (.cells #[.int .u8 0, .slice none 0 0, .slice none 0 0] 31)
  have hz := Holds.fresh (w.alloc (.cells #[.string s, .int .u64 u, .slice fa fn fc] 25)) 31 #[.int .u8 0, .slice none 0 0, .slice none 0 0]
  rw [show (w.alloc (.cells #[.string s, .int .u64 u, .slice fa fn fc] 25)).heap.size = w.heap.size + 1 by simp] at hz
  have hsv : ((w.alloc (.cells #[.string s, .int .u64 u, .slice fa fn fc] 25)).alloc (.cells #[.int .u8 0, .slice none 0 0, .slice none 0 0] 31)).heap.size = w.heap.size + 1 + 1 := by simp
  have c0 := hbox.cell 0
  have c1 := hbox.cell 1
  have c2 := hbox.cell 2
  obtain ⟨V, hV⟩ : ∃ V, V = ((w.alloc (.cells #[.string s, .int .u64 u, .slice fa fn fc] 25)).alloc (.cells #[.int .u8 0, .slice none 0 0, .slice none 0 0] 31)) := ⟨_, rfl⟩
  rw [← hV] at hq0 hbox hz hsv
  have HB0 := Lib.hid hq0
  have HBX := Lib.hid hbox
  have HZ := Lib.hid hz
  have HSV := Lib.hid hsv
  have HX := Lib.hid (hn0.under hq0)
  have HFN := Lib.hid hfn
  have HXS : Hid (∀ W : World, V.heap.size ≤ W.heap.size → ∀ x ∈ (w.heap.size + 1) :: xs, x < W.heap.size) := Lib.hid fun W hW x hx => by
    rcases List.mem_cons.1 hx with rfl | hx
    · omega
    · have := hxs x hx; omega
  have HIS := Lib.hid (HIS0.out V hq0)
  clear HIS0
  have HV := Lib.hid hV
  have hfc := HX.out.at_.1.1
  have hfc63 := HX.out.at_.1.2.1
  rw [hfn] at hfc
  clear hV hq0 hbox hz hsv hn0 hfn hxs
  go_enter Tryd.func11, Tryd.ntmps11
  go_wp2_with fail
  rw [← HV.out]
  clear HV c0 c1 c2
  refine HIS.out.mono ?_
  rintro e V2 ⟨rfl, hb2⟩
  have HB2 := Lib.hid hb2
  have HVV : Hid (V.heap.size ≤ V2.heap.size) := Lib.hid hb2.size
  have k2 := (HBX.out.under hb2 HBX.out.lt).cell 2
  clear hb2 HIS
  go_wp2_with fail
  clear k2
  go_loopw [3, 13] (fun kv iv wr => ∃ (i : Nat) (KA : Option Addr) (d : Nat) (ks : List Lt), i ≤ fn ∧ iv = .int .i64 (i : Int) ∧ kv = .slice KA i d ∧ Kids ((w.heap.size + 1) :: xs) KA d i ks wr ∧ Hid (ks.map Lt.t = ((files.map En.v).take i).map enTr) ∧ Hid (∀ g, blockOf KA = some g → V.heap.size ≤ g) ∧ Below V.heap.size V wr) (fun _ iv _ => fn - (intOf iv).toNat)
  case atStart => exact ⟨0, none, 0, [], by omega, rfl, rfl, Kids.nil _ _, rfl, fun g hg => by simp [blockOf] at hg, HB2.out⟩
  case round =>
    obtain ⟨i, KA, d, ks, hi, rfl, rfl, hK, HT, HG, hB⟩ := hrel
    have HB := Lib.hid hB
    have HK := Lib.hid hK
    have hbx := HBX.out.under hB HBX.out.lt
    have k2 := hbx.cell 2
    have HBXr := Lib.hid hbx
    have HZr := Lib.hid (HZ.out.under hB HZ.out.lt)
    have hVW := hB.size
    have hwr : w.heap.size + 1 < wr.heap.size := HZr.out.lt
    have HVW := Lib.hid hVW
    clear hK hbx hVW
    by_cases hlt : i < fn
    · have hx := (HX.out.under hB).at_
      obtain ⟨g, off, rfl, hg, hcs⟩ := hx.1.2.2 (by rw [HFN.out]; omega)
      obtain ⟨c0, c1, c2⟩ := hcs i (by rw [HFN.out]; exact hlt)
      have hxe := hx.at_ (by rw [HFN.out]; exact hlt)
      have HV1 : Hid (((files.map En.v).take (i + 1)).map enTr = ((files.map En.v).take i).map enTr ++ [enTr (files.getD i default).v]) := Lib.hid (en_take (by rw [HFN.out]; exact hlt))
      have hen := HEN.out _ (getD_mem (l := files) (j := i) (by rw [HFN.out]; exact hlt))
      obtain ⟨e, he⟩ : ∃ e, e = files.getD i default := ⟨_, rfl⟩
      rw [← he] at hen c0 c1 c2 hxe HV1
      clear he hx hcs
      obtain ⟨pa, sz, da, dc, dig⟩ := e
      obtain ⟨hr1, ho1, hop⟩ := hxe
      dsimp only [En.v] at c0 c1 c2 hr1 ho1 hop hen HV1
      obtain ⟨z0, z6, hn32, hp64⟩ := hen
      have HV1 : Hid (((files.map En.v).take (i + 1)).map enTr = ((files.map En.v).take i).map enTr ++ [.mk 48 [] [.mk 12 pa [], .mk 2 (intB (dg2 sz.toNat)) [], .mk 4 dig []]]) := Lib.hid HV1.out
      have HDR : Hid (∀ W, Below wr.heap.size wr W → Rd .u8 W W.heap.size da dc dig) := Lib.hid fun W hW => (hr1.under hW).more hW.size
      have HDO := Lib.hid ho1
      have HDN := Lib.hid hn32
      have HSM : Hid (∀ W : World, Calls Tryd.prog 32 #[.int .u64 (IntKind.u64.wrap sz)] W fun e w' => ∃ r, e = .returned r ∧ PrimAt r w' W.heap.size 2 (intB (dg2 sz.toNat)) ∧ Below W.heap.size W w') := Lib.hid fun W => by
        rw [show IntKind.u64.wrap sz = ((sz.toNat : Nat) : Int) by rw [wrap64u sz z0 (by omega)]; omega]
        exact small_any W _ (by omega)
      obtain ⟨ps, hps⟩ : ∃ k, k = str pa := ⟨_, rfl⟩
      have HTXP : Hid (∀ (W : World) (ys : List Nat), (∀ x ∈ ys, x < W.heap.size) → Calls Tryd.prog 31 #[.string ps] W (MadeT W ys (.mk 12 pa []))) := Lib.hid fun W ys hy => by rw [hps]; exact text_any W ys pa hop (by omega) hy
      rw [← hps] at c0
      rw [hn32] at c2
      have HBD : Hid (∀ W, Below wr.heap.size wr W → ∀ x ∈ bl KA ++ (w.heap.size + 1) :: xs, x < W.heap.size) := Lib.hid fun W hW x hx => by
        have h1 := HK.out.bound (HXS.out wr HVW.out) x hx
        have h2 := hW.size
        omega
      have HNX : Hid (∀ W, Below wr.heap.size wr W → W.heap.size ∉ bl KA ++ (w.heap.size + 1) :: xs) := Lib.hid fun W hW hx => by
        have := HBD.out W hW _ hx
        omega
      obtain ⟨W6, hW6⟩ : ∃ W, W = wr.alloc (.cells #[.string ps, .int .i64 sz, .slice da 32 dc] 42) := ⟨_, rfl⟩
      have HW6 := Lib.hid hW6
      have Q6 : Hid (Below wr.heap.size wr W6) := Lib.hid (by rw [hW6]; exact (Below.refl _ _).alloc (Nat.le_refl _) _)
      have HE6 : Hid (Holds W6 wr.heap.size 42 #[.string ps, .int .i64 sz, .slice da 32 dc]) := Lib.hid (by rw [hW6]; exact Holds.fresh _ _ _)
      clear hr1 ho1 hop hn32 hp64 hps hW6 hB z0 z6
      go_wp2_with fail
      rw [← HW6.out]
      clear HW6 c0 c1 c2 k2
      have HS : Hid (∀ W, Below W6.heap.size W6 W → (fun W => W.cell? ⟨wr.heap.size, 0, none⟩ = some (.string ps) ∧ W.cell? ⟨wr.heap.size, 1, none⟩ = some (.int .i64 sz) ∧ W.cell? ⟨wr.heap.size, 2, none⟩ = some (.slice da 32 dc)) W) := Lib.hid fun W hW => by
        have h := HE6.out.under hW HE6.out.lt
        exact ⟨h.cell 0, h.cell 1, h.cell 2⟩
      refine wp_region_noPanic ?_
      refine wp_region_held_drew (S := (fun W => W.cell? ⟨wr.heap.size, 0, none⟩ = some (.string ps) ∧ W.cell? ⟨wr.heap.size, 1, none⟩ = some (.int .i64 sz) ∧ W.cell? ⟨wr.heap.size, 2, none⟩ = some (.slice da 32 dc))) (by kernel_rfl) (HS.out _ (Below.refl _ W6).drew) (fun hHeld => ?_)
      refine wpAnyH_take (i := 0) (oi := { dst := some 17, op := Op.move (Operand.tmp 3), type := 29, pos := _, after := _, guard := none }) (v := ?_) rfl (by kernel_rfl) (by kernel_rfl) (by kernel_rfl) (fun _ _ _ h => h) (Or.inl ⟨by rfl, ?_⟩) hHeld ?_
      rotate_left 1
      · (intro W hW; (try dsimp only at hW); go_simp; try with_reducible rfl)
      try simp only [Act.put, List.setIfInBounds_toArray, List.set_cons_zero, List.set_cons_succ]
      refine wpAnyH_take (i := 1) (oi := { dst := some 18, op := Op.fieldAddr 42 (Operand.tmp 5) 0, type := 0, pos := _, after := _, guard := none }) (v := ?_) rfl (by kernel_rfl) (by kernel_rfl) (by kernel_rfl) (fun _ _ _ h => h) (Or.inl ⟨by rfl, ?_⟩) hHeld ?_
      rotate_left 1
      · (intro W hW; (try dsimp only at hW); go_simp; try with_reducible rfl)
      try simp only [Act.put, List.setIfInBounds_toArray, List.set_cons_zero, List.set_cons_succ]
      refine wpAnyH_take (i := 2) (oi := { dst := some 19, op := Op.load 9 (Operand.tmp 18), type := 9, pos := _, after := _, guard := none }) (v := ?_) rfl (by kernel_rfl) (by kernel_rfl) (by kernel_rfl) (fun _ _ _ h => h) (Or.inl ⟨by rfl, ?_⟩) hHeld ?_
      rotate_left 1
      · (intro W hW; obtain ⟨k0, _, _⟩ := hW; (try dsimp only at hW); go_simp; try with_reducible rfl)
      try simp only [Act.put, List.setIfInBounds_toArray, List.set_cons_zero, List.set_cons_succ]
      refine wpAnyH_take (i := 4) (oi := { dst := some 21, op := Op.fieldAddr 42 (Operand.tmp 5) 1, type := 0, pos := _, after := _, guard := none }) (v := ?_) rfl (by kernel_rfl) (by kernel_rfl) (by kernel_rfl) (fun _ _ _ h => h) (Or.inl ⟨by rfl, ?_⟩) hHeld ?_
      rotate_left 1
      · (intro W hW; (try dsimp only at hW); go_simp; try with_reducible rfl)
      try simp only [Act.put, List.setIfInBounds_toArray, List.set_cons_zero, List.set_cons_succ]
      refine wpAnyH_take (i := 5) (oi := { dst := some 22, op := Op.load 3 (Operand.tmp 21), type := 3, pos := _, after := _, guard := none }) (v := ?_) rfl (by kernel_rfl) (by kernel_rfl) (by kernel_rfl) (fun _ _ _ h => h) (Or.inl ⟨by rfl, ?_⟩) hHeld ?_
      rotate_left 1
      · (intro W hW; obtain ⟨_, k1, _⟩ := hW; (try dsimp only at hW); go_simp; try with_reducible rfl)
      try simp only [Act.put, List.setIfInBounds_toArray, List.set_cons_zero, List.set_cons_succ]
      refine wpAnyH_take (i := 6) (oi := { dst := some 23, op := Op.convert 3 22 (Operand.tmp 22), type := 22, pos := _, after := _, guard := none }) (v := ?_) rfl (by kernel_rfl) (by kernel_rfl) (by kernel_rfl) (fun _ _ _ h => h) (Or.inl ⟨by rfl, ?_⟩) hHeld ?_
      rotate_left 1
      · (intro W hW; (try dsimp only at hW); go_simp; try with_reducible rfl)
      try simp only [Act.put, List.setIfInBounds_toArray, List.set_cons_zero, List.set_cons_succ]
      refine wpAnyH_take (i := 8) (oi := { dst := some 25, op := Op.fieldAddr 42 (Operand.tmp 5) 2, type := 0, pos := _, after := _, guard := none }) (v := ?_) rfl (by kernel_rfl) (by kernel_rfl) (by kernel_rfl) (fun _ _ _ h => h) (Or.inl ⟨by rfl, ?_⟩) hHeld ?_
      rotate_left 1
      · (intro W hW; (try dsimp only at hW); go_simp; try with_reducible rfl)
      try simp only [Act.put, List.setIfInBounds_toArray, List.set_cons_zero, List.set_cons_succ]
      refine wpAnyH_take (i := 9) (oi := { dst := some 26, op := Op.load 28 (Operand.tmp 25), type := 28, pos := _, after := _, guard := none }) (v := ?_) rfl (by kernel_rfl) (by kernel_rfl) (by kernel_rfl) (fun _ _ _ h => h) (Or.inl ⟨by rfl, ?_⟩) hHeld ?_
      rotate_left 1
      · (intro W hW; obtain ⟨_, _, k2⟩ := hW; (try dsimp only at hW); go_simp; try with_reducible rfl)
      try simp only [Act.put, List.setIfInBounds_toArray, List.set_cons_zero, List.set_cons_succ]
      refine wpAnyH_ready (rs := [3]) (by kernel_rfl) (by simp) ?_
      refine AllReadyH.cons (o := { dst := some 20, op := Op.call { callee := Callee.value (Operand.func 31), args := #[Operand.tmp 19], argTypes := #[9] }, type := 31, pos := _, after := _, guard := none }) rfl (fun K hK => ?_) AllReadyH.nil
      go_simp
      refine (HTXP.out _ (bl KA ++ (w.heap.size + 1) :: xs) (HBD.out _ (Q6.out.trans ((Below.refl _ W6).drew.mono Q6.out.size)))).mono ?_
      intro e w7 hm
      obtain ⟨lt7, t7, a7, n7, c7, k7, m7, d7, rfl, h6, hlt', hoff, hb⟩ := MadeT.six hm
      have b7 : Hid (Below W6.heap.size W6 w7) := Lib.hid ((Below.refl _ W6).drew.trans hb)
      have R7 := Lib.hid (b7.out)
      have S7 := Lib.hid (HS.out _ R7.out)
      have HS7 := Lib.hid h6
      have HT7 := Lib.hid hlt'
      have HO7 := Lib.hid hoff
      clear hm hb h6 hlt' hoff
      go_simp
      refine hK.out _ _ (S7.out) (fun _ => ?_)
      clear hK K hHeld
      try simp only [Act.put, List.setIfInBounds_toArray, List.set_cons_zero, List.set_cons_succ]
      have hHeld : ((fun W => W.cell? ⟨wr.heap.size, 0, none⟩ = some (.string ps) ∧ W.cell? ⟨wr.heap.size, 1, none⟩ = some (.int .i64 sz) ∧ W.cell? ⟨wr.heap.size, 2, none⟩ = some (.slice da 32 dc))) w7 := S7.out
      refine wpAnyH_ready (rs := [7]) (by kernel_rfl) (by simp) ?_
      refine AllReadyH.cons (o := { dst := some 24, op := Op.call { callee := Callee.value (Operand.func 32), args := #[Operand.tmp 23], argTypes := #[22] }, type := 31, pos := _, after := _, guard := none }) rfl (fun K hK => ?_) AllReadyH.nil
      go_simp
      refine (HSM.out _).mono ?_
      rintro e w8 ⟨r8, rfl, hp, hb⟩
      obtain ⟨lt8, t8, a8, n8, c8, k8, m8, d8, rfl, h6, hlt', hoff⟩ := PrimAt.six hp (HBD.out _ (Q6.out.trans (R7.out.mono Q6.out.size)))
      have b8 : Hid (Below w7.heap.size w7 w8) := Lib.hid (hb)
      have R8 := Lib.hid (R7.out.trans (b8.out.mono R7.out.size))
      have S8 := Lib.hid (HS.out _ R8.out)
      have HS8 := Lib.hid h6
      have HT8 := Lib.hid hlt'
      have HO8 := Lib.hid hoff
      clear hp hb h6 hlt' hoff
      go_simp
      refine hK.out _ _ (S8.out) (fun _ => ?_)
      clear hK K hHeld
      try simp only [Act.put, List.setIfInBounds_toArray, List.set_cons_zero, List.set_cons_succ]
      have hHeld : ((fun W => W.cell? ⟨wr.heap.size, 0, none⟩ = some (.string ps) ∧ W.cell? ⟨wr.heap.size, 1, none⟩ = some (.int .i64 sz) ∧ W.cell? ⟨wr.heap.size, 2, none⟩ = some (.slice da 32 dc))) w8 := S8.out
      refine wpAnyH_ready (rs := [10]) (by kernel_rfl) (by simp) ?_
      refine AllReadyH.cons (o := { dst := some 27, op := Op.call { callee := Callee.value (Operand.func 33), args := #[Operand.tmp 26], argTypes := #[28] }, type := 31, pos := _, after := _, guard := none }) rfl (fun K hK => ?_) AllReadyH.nil
      go_simp
      refine (octets_any _ (bl KA ++ (w.heap.size + 1) :: xs) da dc 32 _ dig (HDR.out _ (Q6.out.trans (R8.out.mono Q6.out.size))) HDN.out (Nat.le_refl _) (by omega) HDO.out (HBD.out _ (Q6.out.trans (R8.out.mono Q6.out.size)))).mono ?_
      intro e w9 hm
      obtain ⟨lt9, t9, a9, n9, c9, k9, m9, d9, rfl, h6, hlt', hoff, hb⟩ := MadeT.six hm
      have b9 : Hid (Below w8.heap.size w8 w9) := Lib.hid (hb)
      have R9 := Lib.hid (R8.out.trans (b9.out.mono R8.out.size))
      have S9 := Lib.hid (HS.out _ R9.out)
      have HS9 := Lib.hid h6
      have HT9 := Lib.hid hlt'
      have HO9 := Lib.hid hoff
      clear hm hb h6 hlt' hoff
      go_simp
      refine hK.out _ _ (S9.out) (fun _ => ?_)
      clear hK K hHeld
      try simp only [Act.put, List.setIfInBounds_toArray, List.set_cons_zero, List.set_cons_succ]
      have hHeld : ((fun W => W.cell? ⟨wr.heap.size, 0, none⟩ = some (.string ps) ∧ W.cell? ⟨wr.heap.size, 1, none⟩ = some (.int .i64 sz) ∧ W.cell? ⟨wr.heap.size, 2, none⟩ = some (.slice da 32 dc))) w9 := S9.out
      refine wpAnyH_ready (rs := [11]) (by kernel_rfl) (by simp) ?_
      refine AllReadyH.cons (o := { dst := some 28, op := Op.buildSlice 29 3 #[(0, Operand.tmp 20), (1, Operand.tmp 24), (2, Operand.tmp 27)], type := 29, pos := _, after := _, guard := none }) rfl (fun K hK => ?_) AllReadyH.nil
      go_simp
      obtain ⟨w10, hw⟩ : ∃ W, W = w9.alloc (.cells #[.int .u8 (t7 : Int), .slice a7 n7 c7, .slice k7 m7 d7, .int .u8 (t8 : Int), .slice a8 n8 c8, .slice k8 m8 d8, .int .u8 (t9 : Int), .slice a9 n9 c9, .slice k9 m9 d9] 31) := ⟨_, rfl⟩
      rw [← hw]
      have b10 : Hid (Below w9.heap.size w9 w10) := Lib.hid (by rw [hw]; exact (Below.refl _ _).alloc (Nat.le_refl _) _)
      have R10 := Lib.hid (R9.out.trans (b10.out.mono R9.out.size))
      have S10 := Lib.hid (HS.out _ R10.out)
      have HP10 : Hid (Off (bl KA ++ (w.heap.size + 1) :: xs) (KiP (some ⟨w9.heap.size, 0, none⟩) 3 [lt7, lt8, lt9]) w10) := Lib.hid (by rw [hw]; exact row666 ((HO7.out.under b8.out).under b9.out) HS7.out (HO8.out.under b9.out) HS8.out HO9.out HS9.out (HNX.out _ (Q6.out.trans (R9.out.mono Q6.out.size))))
      clear hw
      refine hK.out _ _ (S10.out) (fun _ => ?_)
      clear hK K hHeld
      try simp only [Act.put, List.setIfInBounds_toArray, List.set_cons_zero, List.set_cons_succ]
      have hHeld : ((fun W => W.cell? ⟨wr.heap.size, 0, none⟩ = some (.string ps) ∧ W.cell? ⟨wr.heap.size, 1, none⟩ = some (.int .i64 sz) ∧ W.cell? ⟨wr.heap.size, 2, none⟩ = some (.slice da 32 dc))) w10 := S10.out
      refine wpAnyH_ready (rs := [12]) (by kernel_rfl) (by simp) ?_
      refine AllReadyH.cons (o := { dst := some 29, op := Op.call { callee := Callee.value (Operand.func 30), args := #[Operand.const (Value.int IntKind.u8 48), Operand.tmp 28], argTypes := #[5, 29] }, type := 31, pos := _, after := _, guard := none }) rfl (fun K hK => ?_) AllReadyH.nil
      go_simp
      refine (seq_any _ (bl KA ++ (w.heap.size + 1) :: xs) 48 3 3 _ [lt7, lt8, lt9] HP10.out rfl (by omega) (by omega) (HBD.out _ (Q6.out.trans (R10.out.mono Q6.out.size)))).mono ?_
      intro e w11 hm
      obtain ⟨lt11, t11, a11, n11, c11, k11, m11, d11, rfl, h6, hlt', hoff, hb⟩ := MadeT.six hm
      have b11 : Hid (Below w10.heap.size w10 w11) := Lib.hid (hb)
      have R11 := Lib.hid (R10.out.trans (b11.out.mono R10.out.size))
      have S11 := Lib.hid (HS.out _ R11.out)
      have HS11 := Lib.hid h6
      have HT11 := Lib.hid hlt'
      have HO11 := Lib.hid hoff
      clear hm hb h6 hlt' hoff
      go_simp
      refine hK.out _ _ (S11.out) (fun _ => ?_)
      clear hK K hHeld
      try simp only [Act.put, List.setIfInBounds_toArray, List.set_cons_zero, List.set_cons_succ]
      have hHeld : ((fun W => W.cell? ⟨wr.heap.size, 0, none⟩ = some (.string ps) ∧ W.cell? ⟨wr.heap.size, 1, none⟩ = some (.int .i64 sz) ∧ W.cell? ⟨wr.heap.size, 2, none⟩ = some (.slice da 32 dc))) w11 := S11.out
      refine wpAnyH_ready (rs := [13]) (by kernel_rfl) (by simp) ?_
      refine AllReadyH.cons (o := { dst := some 30, op := Op.buildSlice 29 1 #[(0, Operand.tmp 29)], type := 29, pos := _, after := _, guard := none }) rfl (fun K hK => ?_) AllReadyH.nil
      go_simp
      obtain ⟨w12, hw⟩ : ∃ W, W = w11.alloc (.cells #[.int .u8 (t11 : Int), .slice a11 n11 c11, .slice k11 m11 d11] 31) := ⟨_, rfl⟩
      rw [← hw]
      have b12 : Hid (Below w11.heap.size w11 w12) := Lib.hid (by rw [hw]; exact (Below.refl _ _).alloc (Nat.le_refl _) _)
      have R12 := Lib.hid (R11.out.trans (b12.out.mono R11.out.size))
      have S12 := Lib.hid (HS.out _ R12.out)
      have HF12 : Hid (Holds w12 w11.heap.size 31 [.int .u8 (t11 : Int), .slice a11 n11 c11, .slice k11 m11 d11].toArray) := Lib.hid (by rw [hw]; exact Holds.fresh _ _ _)
      have K12 := Lib.hid (HK.out.under (Q6.out.trans (R12.out.mono Q6.out.size)))
      have O12 := Lib.hid (HO11.out.under b12.out)
      have OW12 := Lib.hid K12.out.own
      have B12 := Lib.hid (HB.out.trans ((Q6.out.trans (R12.out.mono Q6.out.size)).mono HB.out.size))
      have BX12 := Lib.hid (HXS.out _ B12.out.size)
      clear hw
      refine hK.out _ _ (S12.out) (fun _ => ?_)
      clear hK K hHeld
      try simp only [Act.put, List.setIfInBounds_toArray, List.set_cons_zero, List.set_cons_succ]
      have hHeld : ((fun W => W.cell? ⟨wr.heap.size, 0, none⟩ = some (.string ps) ∧ W.cell? ⟨wr.heap.size, 1, none⟩ = some (.int .i64 sz) ∧ W.cell? ⟨wr.heap.size, 2, none⟩ = some (.slice da 32 dc))) w12 := S12.out
      refine wpAnyH_ready (rs := [14]) (by kernel_rfl) (by simp) ?_
      refine AllReadyH.cons (o := { dst := some 31, op := Op.call { callee := Callee.builtin Builtin.append, args := #[Operand.tmp 17, Operand.tmp 30], argTypes := #[29, 29] }, type := 29, pos := _, after := _, guard := none }) rfl (fun K hK => ?_) AllReadyH.nil
      refine step_pushV _ rfl (.tmp 17) (.tmp 30) 29 rfl 31 _ 3 56 Tryd.underlying29 info_node rfl (by omega) (by omega) rfl OW12.out (cs := [.int .u8 (t11 : Int), .slice a11 n11 c11, .slice k11 m11 d11]) rfl rfl one6 HF12.out (by omega) ?_
      intro g13 c13 w13 ho13 hg13 hat13 hlt13
      have K13 := Lib.hid (K12.out.push6 O12.out HS11.out ho13 hg13 hat13 BX12.out)
      have B13 := Lib.hid (below_own B12.out hg13 (fun g hg => HG.out g hg) (Nat.le_refl _))
      have G13 : Hid (∀ g, blockOf (some (⟨g13, 0, none⟩ : Addr)) = some g → V.heap.size ≤ g) := Lib.hid fun g hg => by
        have e : g13 = g := by simpa [blockOf] using hg
        subst e
        rcases hat13 with h | h
        · exact HG.out _ h
        · have := B12.out.size; omega
      have S13 : Hid ((fun W => W.cell? ⟨wr.heap.size, 0, none⟩ = some (.string ps) ∧ W.cell? ⟨wr.heap.size, 1, none⟩ = some (.int .i64 sz) ∧ W.cell? ⟨wr.heap.size, 2, none⟩ = some (.slice da 32 dc)) w13) := Lib.hid (by
        have h12 := HE6.out.under R12.out HE6.out.lt
        have h13 := h12.grown hg13 (fun e => by have := HK.out.lt e.symm; omega)
        exact ⟨h13.cell 0, h13.cell 1, h13.cell 2⟩)
      clear ho13 hg13 hat13 OW12 HF12 O12 K12 BX12
      refine hK.out _ _ (S13.out) (fun _ => ?_)
      clear hK K hHeld
      try simp only [Act.put, List.setIfInBounds_toArray, List.set_cons_zero, List.set_cons_succ]
      have hHeld : ((fun W => W.cell? ⟨wr.heap.size, 0, none⟩ = some (.string ps) ∧ W.cell? ⟨wr.heap.size, 1, none⟩ = some (.int .i64 sz) ∧ W.cell? ⟨wr.heap.size, 2, none⟩ = some (.slice da 32 dc))) w13 := S13.out
      refine wpAnyH_take (i := 15) (oi := { dst := some 3, op := Op.assign (Operand.tmp 31), type := 29, pos := _, after := _, guard := none }) (v := ?_) rfl (by kernel_rfl) (by kernel_rfl) (by kernel_rfl) (fun _ _ _ h => h) (Or.inl ⟨by rfl, ?_⟩) hHeld ?_
      rotate_left 1
      · (intro W hW; (try dsimp only at hW); go_simp; try with_reducible rfl)
      try simp only [Act.put, List.setIfInBounds_toArray, List.set_cons_zero, List.set_cons_succ]
      refine wpAnyH_done (by kernel_rfl) ?_ _
      refine NoPanic.normal ?_
      have HTT : Hid ((ks ++ [lt11]).map Lt.t = ((files.map En.v).take (i + 1)).map enTr) := Lib.hid (by
        rw [HV1.out, List.map_append, HT.out]
        simp [HT11.out, HT9.out, HT8.out, HT7.out])
      go_wp2_with fail
      go_roundw
      case rel => exact ⟨i + 1, _, _, _, by omega, by go_num, rfl, K13.out, HTT.out, G13.out, B13.out⟩
      case measure => simp [intOf]; omega
    · obtain rfl : i = fn := by omega
      have HTT : Hid (ks.map Lt.t = (files.map En.v).map enTr) := Lib.hid (by rw [HT.out, List.take_of_length_le (by simp [HFN.out])])
      have HBD : Hid (∀ W, Below wr.heap.size wr W → ∀ x ∈ ((w.heap.size + 1) :: xs), x < W.heap.size) := Lib.hid fun W hW => HXS.out W (Nat.le_trans HVW.out hW.size)
      have HKI := Lib.hid HK.out.ki
      have HKL := Lib.hid HK.out.len
      clear hB
      go_wp2_with fail
      have HS : Hid (∀ W, Below wr.heap.size wr W → (fun W => W.cell? ⟨w.heap.size, 0, none⟩ = some (.string s) ∧ W.cell? ⟨w.heap.size, 1, none⟩ = some (.int .u64 u)) W) := Lib.hid fun W hW => by
        have h := HBXr.out.under hW HBXr.out.lt
        exact ⟨h.cell 0, h.cell 1⟩
      refine wp_region_noPanic ?_
      refine wp_region_held_drew (S := (fun W => W.cell? ⟨w.heap.size, 0, none⟩ = some (.string s) ∧ W.cell? ⟨w.heap.size, 1, none⟩ = some (.int .u64 u))) (by kernel_rfl) (HS.out _ (Below.refl _ wr).drew) (fun hHeld => ?_)
      refine wpAnyH_take (i := 0) (oi := { dst := some 33, op := Op.fieldAddr 25 (Operand.tmp 1) 0, type := 0, pos := _, after := _, guard := none }) (v := ?_) rfl (by kernel_rfl) (by kernel_rfl) (by kernel_rfl) (fun _ _ _ h => h) (Or.inl ⟨by rfl, ?_⟩) hHeld ?_
      rotate_left 1
      · (intro W hW; (try dsimp only at hW); go_simp; try with_reducible rfl)
      try simp only [Act.put, List.setIfInBounds_toArray, List.set_cons_zero, List.set_cons_succ]
      refine wpAnyH_take (i := 1) (oi := { dst := some 34, op := Op.load 9 (Operand.tmp 33), type := 9, pos := _, after := _, guard := none }) (v := ?_) rfl (by kernel_rfl) (by kernel_rfl) (by kernel_rfl) (fun _ _ _ h => h) (Or.inl ⟨by rfl, ?_⟩) hHeld ?_
      rotate_left 1
      · (intro W hW; obtain ⟨k0, _⟩ := hW; (try dsimp only at hW); go_simp; try with_reducible rfl)
      try simp only [Act.put, List.setIfInBounds_toArray, List.set_cons_zero, List.set_cons_succ]
      refine wpAnyH_take (i := 3) (oi := { dst := some 36, op := Op.fieldAddr 25 (Operand.tmp 1) 1, type := 0, pos := _, after := _, guard := none }) (v := ?_) rfl (by kernel_rfl) (by kernel_rfl) (by kernel_rfl) (fun _ _ _ h => h) (Or.inl ⟨by rfl, ?_⟩) hHeld ?_
      rotate_left 1
      · (intro W hW; (try dsimp only at hW); go_simp; try with_reducible rfl)
      try simp only [Act.put, List.setIfInBounds_toArray, List.set_cons_zero, List.set_cons_succ]
      refine wpAnyH_take (i := 4) (oi := { dst := some 37, op := Op.load 22 (Operand.tmp 36), type := 22, pos := _, after := _, guard := none }) (v := ?_) rfl (by kernel_rfl) (by kernel_rfl) (by kernel_rfl) (fun _ _ _ h => h) (Or.inl ⟨by rfl, ?_⟩) hHeld ?_
      rotate_left 1
      · (intro W hW; obtain ⟨_, k1⟩ := hW; (try dsimp only at hW); go_simp; try with_reducible rfl)
      try simp only [Act.put, List.setIfInBounds_toArray, List.set_cons_zero, List.set_cons_succ]
      refine wpAnyH_take (i := 6) (oi := { dst := some 39, op := Op.move (Operand.tmp 3), type := 29, pos := _, after := _, guard := none }) (v := ?_) rfl (by kernel_rfl) (by kernel_rfl) (by kernel_rfl) (fun _ _ _ h => h) (Or.inl ⟨by rfl, ?_⟩) hHeld ?_
      rotate_left 1
      · (intro W hW; (try dsimp only at hW); go_simp; try with_reducible rfl)
      try simp only [Act.put, List.setIfInBounds_toArray, List.set_cons_zero, List.set_cons_succ]
      refine wpAnyH_ready (rs := [2]) (by kernel_rfl) (by simp) ?_
      refine AllReadyH.cons (o := { dst := some 35, op := Op.call { callee := Callee.value (Operand.func 31), args := #[Operand.tmp 34], argTypes := #[9] }, type := 31, pos := _, after := _, guard := none }) rfl (fun K hK => ?_) AllReadyH.nil
      go_simp
      refine (HTXN.out _ ((w.heap.size + 1) :: xs) (HBD.out _ (Below.refl _ wr).drew)).mono ?_
      intro e w21 hm
      obtain ⟨lt21, t21, a21, n21, c21, k21, m21, d21, rfl, h6, hlt', hoff, hb⟩ := MadeT.six hm
      have b21 : Hid (Below wr.heap.size wr w21) := Lib.hid ((Below.refl _ wr).drew.trans hb)
      have R21 := Lib.hid (b21.out)
      have S21 := Lib.hid (HS.out _ R21.out)
      have HS21 := Lib.hid h6
      have HT21 := Lib.hid hlt'
      have HO21 := Lib.hid hoff
      clear hm hb h6 hlt' hoff
      go_simp
      refine hK.out _ _ (S21.out) (fun _ => ?_)
      clear hK K hHeld
      try simp only [Act.put, List.setIfInBounds_toArray, List.set_cons_zero, List.set_cons_succ]
      have hHeld : ((fun W => W.cell? ⟨w.heap.size, 0, none⟩ = some (.string s) ∧ W.cell? ⟨w.heap.size, 1, none⟩ = some (.int .u64 u))) w21 := S21.out
      refine wpAnyH_ready (rs := [5]) (by kernel_rfl) (by simp) ?_
      refine AllReadyH.cons (o := { dst := some 38, op := Op.call { callee := Callee.value (Operand.func 32), args := #[Operand.tmp 37], argTypes := #[22] }, type := 31, pos := _, after := _, guard := none }) rfl (fun K hK => ?_) AllReadyH.nil
      go_simp
      refine (HSMC.out _).mono ?_
      rintro e w22 ⟨r22, rfl, hp, hb⟩
      obtain ⟨lt22, t22, a22, n22, c22, k22, m22, d22, rfl, h6, hlt', hoff⟩ := PrimAt.six hp (HBD.out _ R21.out)
      have b22 : Hid (Below w21.heap.size w21 w22) := Lib.hid (hb)
      have R22 := Lib.hid (R21.out.trans (b22.out.mono R21.out.size))
      have S22 := Lib.hid (HS.out _ R22.out)
      have HS22 := Lib.hid h6
      have HT22 := Lib.hid hlt'
      have HO22 := Lib.hid hoff
      clear hp hb h6 hlt' hoff
      go_simp
      refine hK.out _ _ (S22.out) (fun _ => ?_)
      clear hK K hHeld
      try simp only [Act.put, List.setIfInBounds_toArray, List.set_cons_zero, List.set_cons_succ]
      have hHeld : ((fun W => W.cell? ⟨w.heap.size, 0, none⟩ = some (.string s) ∧ W.cell? ⟨w.heap.size, 1, none⟩ = some (.int .u64 u))) w22 := S22.out
      refine wpAnyH_ready (rs := [7]) (by kernel_rfl) (by simp) ?_
      refine AllReadyH.cons (o := { dst := some 40, op := Op.call { callee := Callee.value (Operand.func 30), args := #[Operand.const (Value.int IntKind.u8 48), Operand.tmp 39], argTypes := #[5, 29] }, type := 31, pos := _, after := _, guard := none }) rfl (fun K hK => ?_) AllReadyH.nil
      go_simp
      refine (seq_any _ ((w.heap.size + 1) :: xs) 48 d i KA ks (HKI.out.under R22.out) HKL.out (by omega) (by omega) (HBD.out _ R22.out)).mono ?_
      intro e w23 hm
      obtain ⟨lt23, t23, a23, n23, c23, k23, m23, d23, rfl, h6, hlt', hoff, hb⟩ := MadeT.six hm
      have b23 : Hid (Below w22.heap.size w22 w23) := Lib.hid (hb)
      have R23 := Lib.hid (R22.out.trans (b23.out.mono R22.out.size))
      have S23 := Lib.hid (HS.out _ R23.out)
      have HS23 := Lib.hid h6
      have HT23 := Lib.hid hlt'
      have HO23 := Lib.hid hoff
      clear hm hb h6 hlt' hoff
      go_simp
      refine hK.out _ _ (S23.out) (fun _ => ?_)
      clear hK K hHeld
      try simp only [Act.put, List.setIfInBounds_toArray, List.set_cons_zero, List.set_cons_succ]
      have hHeld : ((fun W => W.cell? ⟨w.heap.size, 0, none⟩ = some (.string s) ∧ W.cell? ⟨w.heap.size, 1, none⟩ = some (.int .u64 u))) w23 := S23.out
      refine wpAnyH_ready (rs := [8]) (by kernel_rfl) (by simp) ?_
      refine AllReadyH.cons (o := { dst := some 41, op := Op.buildSlice 29 3 #[(0, Operand.tmp 35), (1, Operand.tmp 38), (2, Operand.tmp 40)], type := 29, pos := _, after := _, guard := none }) rfl (fun K hK => ?_) AllReadyH.nil
      go_simp
      obtain ⟨w24, hw⟩ : ∃ W, W = w23.alloc (.cells #[.int .u8 (t21 : Int), .slice a21 n21 c21, .slice k21 m21 d21, .int .u8 (t22 : Int), .slice a22 n22 c22, .slice k22 m22 d22, .int .u8 (t23 : Int), .slice a23 n23 c23, .slice k23 m23 d23] 31) := ⟨_, rfl⟩
      rw [← hw]
      have b24 : Hid (Below w23.heap.size w23 w24) := Lib.hid (by rw [hw]; exact (Below.refl _ _).alloc (Nat.le_refl _) _)
      have R24 := Lib.hid (R23.out.trans (b24.out.mono R23.out.size))
      have S24 := Lib.hid (HS.out _ R24.out)
      have HP24 : Hid (Off ((w.heap.size + 1) :: xs) (KiP (some ⟨w23.heap.size, 0, none⟩) 3 [lt21, lt22, lt23]) w24) := Lib.hid (by rw [hw]; exact row666 ((HO21.out.under b22.out).under b23.out) HS21.out (HO22.out.under b23.out) HS22.out HO23.out HS23.out (fun hx => Nat.lt_irrefl _ (HBD.out _ R23.out _ hx)))
      clear hw
      refine hK.out _ _ (S24.out) (fun _ => ?_)
      clear hK K hHeld
      try simp only [Act.put, List.setIfInBounds_toArray, List.set_cons_zero, List.set_cons_succ]
      have hHeld : ((fun W => W.cell? ⟨w.heap.size, 0, none⟩ = some (.string s) ∧ W.cell? ⟨w.heap.size, 1, none⟩ = some (.int .u64 u))) w24 := S24.out
      refine wpAnyH_ready (rs := [9]) (by kernel_rfl) (by simp) ?_
      refine AllReadyH.cons (o := { dst := some 42, op := Op.call { callee := Callee.value (Operand.func 30), args := #[Operand.const (Value.int IntKind.u8 48), Operand.tmp 41], argTypes := #[5, 29] }, type := 31, pos := _, after := _, guard := none }) rfl (fun K hK => ?_) AllReadyH.nil
      go_simp
      refine (seq_any _ ((w.heap.size + 1) :: xs) 48 3 3 _ [lt21, lt22, lt23] HP24.out rfl (by omega) (by omega) (HBD.out _ R24.out)).mono ?_
      intro e w25 hm
      obtain ⟨lt25, t25, a25, n25, c25, k25, m25, d25, rfl, h6, hlt', hoff, hb⟩ := MadeT.six hm
      have b25 : Hid (Below w24.heap.size w24 w25) := Lib.hid (hb)
      have R25 := Lib.hid (R24.out.trans (b25.out.mono R24.out.size))
      have S25 := Lib.hid (HS.out _ R25.out)
      have HS25 := Lib.hid h6
      have HT25 := Lib.hid hlt'
      have HO25 := Lib.hid hoff
      clear hm hb h6 hlt' hoff
      have hz25 := HZr.out.under R25.out HZr.out.lt
      have HZ25 := Lib.hid hz25
      have x0 := hz25.cell 0
      have x1 := hz25.cell 1
      have x2 := hz25.cell 2
      have y0 := hz25.open_ 0
      have y1 := hz25.open_ 1
      have y2 := hz25.open_ 2
      have S26 : Hid ((fun W => W.cell? ⟨w.heap.size, 0, none⟩ = some (.string s) ∧ W.cell? ⟨w.heap.size, 1, none⟩ = some (.int .u64 u)) (((w25.setCell ⟨w.heap.size + 1, 0, none⟩ (.int .u8 (t25 : Int))).setCell ⟨w.heap.size + 1, 1, none⟩ (.slice a25 n25 c25)).setCell ⟨w.heap.size + 1, 2, none⟩ (.slice k25 m25 d25))) := Lib.hid (by
        have hne : w.heap.size ≠ w.heap.size + 1 := by omega
        refine ⟨?_, ?_⟩
        · rw [cell_ne hne, cell_ne hne, cell_ne hne]; exact S25.out.1
        · rw [cell_ne hne, cell_ne hne, cell_ne hne]; exact S25.out.2)
      clear hz25
      go_simp
      refine hK.out _ _ (S25.out) (fun _ => ?_)
      clear hK K hHeld
      try simp only [Act.put, List.setIfInBounds_toArray, List.set_cons_zero, List.set_cons_succ]
      have hHeld : ((fun W => W.cell? ⟨w.heap.size, 0, none⟩ = some (.string s) ∧ W.cell? ⟨w.heap.size, 1, none⟩ = some (.int .u64 u))) w25 := S25.out
      refine wpAnyH_ready (rs := [10]) (by kernel_rfl) (by simp) ?_
      refine AllReadyH.cons (o := { dst := none, op := Op.store 31 (Operand.tmp 2) (Operand.tmp 42), type := 0, pos := _, after := _, guard := none }) rfl (fun K hK => ?_) AllReadyH.nil
      go_simp
      refine hK.out _ _ (S26.out) (fun _ => ?_)
      clear hK K hHeld
      try simp only [Act.put, List.setIfInBounds_toArray, List.set_cons_zero, List.set_cons_succ]
      have hHeld : ((fun W => W.cell? ⟨w.heap.size, 0, none⟩ = some (.string s) ∧ W.cell? ⟨w.heap.size, 1, none⟩ = some (.int .u64 u))) (((w25.setCell ⟨w.heap.size + 1, 0, none⟩ (.int .u8 (t25 : Int))).setCell ⟨w.heap.size + 1, 1, none⟩ (.slice a25 n25 c25)).setCell ⟨w.heap.size + 1, 2, none⟩ (.slice k25 m25 d25)) := S26.out
      refine wpAnyH_done (by kernel_rfl) ?_ _
      refine NoPanic.normal ?_
      have HTE : Hid (lt25.t = TT) := Lib.hid (by rw [HTV.out, ← HTT.out]; rw [HT25.out]; simp [HT21.out, HT22.out, HT23.out])
      have HLT : Hid (lt25.val = .agg #[.int .u8 (t25 : Int), .slice a25 n25 c25, .slice k25 m25 d25]) := Lib.hid (Of6.val HS25.out)
      have HBE := Lib.hid (HB0.out.trans ((HB.out.trans (R25.out.mono HB.out.size)).mono HB0.out.size))
      go_wp2_with fail
      refine ret_one rfl rfl (((HZ25.out.stored 0 _).stored 1 _).stored 2 _) rfl ?_
      exact ⟨lt25, by rw [HLT.out]; rfl, HTE.out, made_outG HO25.out _ _ _, below_outG HBE.out (by omega) _ _ _⟩
end Go.Proofs.YtdjklhglkmacbaaDoor
namespace Go.Proofs.YtdjklhglkmacbaaDoor
open Go.RowKit
set_option linter.unusedVariables false
set_option linter.unusedSimpArgs false
attribute [local go_sem ↓] Go.wp_at_zero Go.wp_at_succ

set_option maxRecDepth 100000 in
set_option maxHeartbeats 16000000 in
theorem mfNode'_any (w : World) (xs : List Nat) (m : Mf) (h : MfP m w) (hok : mfOk m.v = true) (hxs : ∀ x ∈ xs, x < w.heap.size) :
    Calls Tryd.prog 34 #[.agg (mcell m).toArray] w (MadeT w xs (mfTr m.v)) := by
  obtain ⟨p1, p2, p3, p4, _⟩ := mfOk_parts hok
  have HEN : Hid (∀ e ∈ m.files, 0 ≤ e.sz ∧ e.sz ≤ 600 ∧ e.dig.length = 32 ∧ e.path.length ≤ 64) := Lib.hid fun e he => by
    have h1 := p4 e.v (List.mem_map_of_mem he)
    have h2 := en_parts h1.1
    exact ⟨h2.1, h1.2, h2.2⟩
  have hnm := text_le p2
  have h12 : m.files.length ≤ 12 := by simpa [Mf.v] using p3
  have HTV : Hid (mfTr m.v = .mk 48 [] [.mk 12 m.name [], .mk 2 (intB (dg2 m.ctr)) [], .mk 48 [] ((m.files.map En.v).map enTr)]) := Lib.hid rfl
  have hn0 := Off.of_n h.1
  have HON := Lib.hid h.2.1
  have hct := h.2.2
  clear h hok p1 p2 p3 p4
  obtain ⟨name, ctr, fa, fc, files⟩ := m
  simp only [mcell, Mf.v] at *
  obtain ⟨fn, hfn⟩ : ∃ k, files.length = k := ⟨_, rfl⟩
  obtain ⟨u, hu⟩ : ∃ k, k = (ctr : Int) := ⟨_, rfl⟩
  have HSMC : Hid (∀ W : World, Calls Tryd.prog 23 #[.int .u64 u] W fun e w' => ∃ r, e = .returned r ∧ PrimAt r w' W.heap.size 2 (intB (dg2 ctr)) ∧ Below W.heap.size W w') := Lib.hid fun W => by rw [hu]; exact small'_any W ctr hct
  obtain ⟨s, hs⟩ : ∃ k, k = str name := ⟨_, rfl⟩
  have HTXN : Hid (∀ (W : World) (ys : List Nat), (∀ x ∈ ys, x < W.heap.size) → Calls Tryd.prog 22 #[.string s] W (MadeT W ys (.mk 12 name []))) := Lib.hid fun W ys hy => by rw [hs]; exact text'_any W ys name HON.out (by omega) hy
  rw [hfn, ← hu, ← hs]
  rw [hfn] at h12
  generalize HTT0 : mfTr _ = TT at *
  clear hu hs hnm hct HON HTT0
  have hq0 : Below w.heap.size w ((w.alloc (.cells #[.string s, .int .u64 u, .slice fa fn fc] 25)).alloc (.cells #[.int .u8 0, .slice none 0 0, .slice none 0 0] 31)) := ((Below.refl _ _).alloc (Nat.le_refl _) _).alloc (by simp) _
  have hbox := (Holds.fresh w 25 #[.string s, .int .u64 u, .slice fa fn fc]).alloc (.cells #[.int .u8 0, .slice none 0 0, .slice none 0 0] 31)
  have hz := Holds.fresh (w.alloc (.cells #[.string s, .int .u64 u, .slice fa fn fc] 25)) 31 #[.int .u8 0, .slice none 0 0, .slice none 0 0]
  rw [show (w.alloc (.cells #[.string s, .int .u64 u, .slice fa fn fc] 25)).heap.size = w.heap.size + 1 by simp] at hz
  have hsv : ((w.alloc (.cells #[.string s, .int .u64 u, .slice fa fn fc] 25)).alloc (.cells #[.int .u8 0, .slice none 0 0, .slice none 0 0] 31)).heap.size = w.heap.size + 1 + 1 := by simp
  have c0 := hbox.cell 0
  have c1 := hbox.cell 1
  have c2 := hbox.cell 2
  obtain ⟨V, hV⟩ : ∃ V, V = ((w.alloc (.cells #[.string s, .int .u64 u, .slice fa fn fc] 25)).alloc (.cells #[.int .u8 0, .slice none 0 0, .slice none 0 0] 31)) := ⟨_, rfl⟩
  rw [← hV] at hq0 hbox hz hsv
  have HB0 := Lib.hid hq0
  have HBX := Lib.hid hbox
  have HZ := Lib.hid hz
  have HSV := Lib.hid hsv
  have HX := Lib.hid (hn0.under hq0)
  have HFN := Lib.hid hfn
  have HXS : Hid (∀ W : World, V.heap.size ≤ W.heap.size → ∀ x ∈ (w.heap.size + 1) :: xs, x < W.heap.size) := Lib.hid fun W hW x hx => by
    rcases List.mem_cons.1 hx with rfl | hx
    · omega
    · have := hxs x hx; omega
  have HV := Lib.hid hV
  have hfc := HX.out.at_.1.1
  have hfc63 := HX.out.at_.1.2.1
  rw [hfn] at hfc
  clear hV hq0 hbox hz hsv hn0 hfn hxs
  go_enter Tryd.func34, Tryd.ntmps34
  go_wp2_with fail
  rw [← HV.out]
  clear HV c0 c1 c2
  go_loopw [3, 4] (fun kv iv wr => ∃ (i : Nat) (KA : Option Addr) (d : Nat) (ks : List Lt), i ≤ fn ∧ iv = .int .i64 (i : Int) ∧ kv = .slice KA i d ∧ Kids ((w.heap.size + 1) :: xs) KA d i ks wr ∧ Hid (ks.map Lt.t = ((files.map En.v).take i).map enTr) ∧ Hid (∀ g, blockOf KA = some g → V.heap.size ≤ g) ∧ Below V.heap.size V wr) (fun _ iv _ => fn - (intOf iv).toNat)
  case atStart => exact ⟨0, none, 0, [], by omega, rfl, rfl, Kids.nil _ _, rfl, fun g hg => by simp [blockOf] at hg, Below.refl _ _⟩
  case round =>
    obtain ⟨i, KA, d, ks, hi, rfl, rfl, hK, HT, HG, hB⟩ := hrel
    have HB := Lib.hid hB
    have HK := Lib.hid hK
    have hbx := HBX.out.under hB HBX.out.lt
    have k2 := hbx.cell 2
    have HBXr := Lib.hid hbx
    have HZr := Lib.hid (HZ.out.under hB HZ.out.lt)
    have hVW := hB.size
    have hwr : w.heap.size + 1 < wr.heap.size := HZr.out.lt
    have HVW := Lib.hid hVW
    clear hK hbx hVW
    by_cases hlt : i < fn
    · have hx := (HX.out.under hB).at_
      obtain ⟨g, off, rfl, hg, hcs⟩ := hx.1.2.2 (by rw [HFN.out]; omega)
      obtain ⟨c0, c1, c2⟩ := hcs i (by rw [HFN.out]; exact hlt)
      have hxe := hx.at_ (by rw [HFN.out]; exact hlt)
      have HV1 : Hid (((files.map En.v).take (i + 1)).map enTr = ((files.map En.v).take i).map enTr ++ [enTr (files.getD i default).v]) := Lib.hid (en_take (by rw [HFN.out]; exact hlt))
      have hen := HEN.out _ (getD_mem (l := files) (j := i) (by rw [HFN.out]; exact hlt))
      obtain ⟨e, he⟩ : ∃ e, e = files.getD i default := ⟨_, rfl⟩
      rw [← he] at hen c0 c1 c2 hxe HV1
      clear he hx hcs
      obtain ⟨pa, sz, da, dc, dig⟩ := e
      obtain ⟨hr1, ho1, hop⟩ := hxe
      dsimp only [En.v] at c0 c1 c2 hr1 ho1 hop hen HV1
      obtain ⟨z0, z6, hn32, hp64⟩ := hen
      have HV1 : Hid (((files.map En.v).take (i + 1)).map enTr = ((files.map En.v).take i).map enTr ++ [.mk 48 [] [.mk 12 pa [], .mk 2 (intB (dg2 sz.toNat)) [], .mk 4 dig []]]) := Lib.hid HV1.out
      have HDR : Hid (∀ W, Below wr.heap.size wr W → Rd .u8 W W.heap.size da dc dig) := Lib.hid fun W hW => (hr1.under hW).more hW.size
      have HDO := Lib.hid ho1
      have HDN := Lib.hid hn32
      have HSM : Hid (∀ W : World, Calls Tryd.prog 23 #[.int .u64 (IntKind.u64.wrap sz)] W fun e w' => ∃ r, e = .returned r ∧ PrimAt r w' W.heap.size 2 (intB (dg2 sz.toNat)) ∧ Below W.heap.size W w') := Lib.hid fun W => by
        rw [show IntKind.u64.wrap sz = ((sz.toNat : Nat) : Int) by rw [wrap64u sz z0 (by omega)]; omega]
        exact small'_any W _ (by omega)
      obtain ⟨ps, hps⟩ : ∃ k, k = str pa := ⟨_, rfl⟩
      have HTXP : Hid (∀ (W : World) (ys : List Nat), (∀ x ∈ ys, x < W.heap.size) → Calls Tryd.prog 22 #[.string ps] W (MadeT W ys (.mk 12 pa []))) := Lib.hid fun W ys hy => by rw [hps]; exact text'_any W ys pa hop (by omega) hy
      rw [← hps] at c0
      rw [hn32] at c2
      have HBD : Hid (∀ W, Below wr.heap.size wr W → ∀ x ∈ bl KA ++ (w.heap.size + 1) :: xs, x < W.heap.size) := Lib.hid fun W hW x hx => by
        have h1 := HK.out.bound (HXS.out wr HVW.out) x hx
        have h2 := hW.size
        omega
      have HNX : Hid (∀ W, Below wr.heap.size wr W → W.heap.size ∉ bl KA ++ (w.heap.size + 1) :: xs) := Lib.hid fun W hW hx => by
        have := HBD.out W hW _ hx
        omega
      obtain ⟨W6, hW6⟩ : ∃ W, W = wr.alloc (.cells #[.string ps, .int .i64 sz, .slice da 32 dc] 42) := ⟨_, rfl⟩
      have HW6 := Lib.hid hW6
      have Q6 : Hid (Below wr.heap.size wr W6) := Lib.hid (by rw [hW6]; exact (Below.refl _ _).alloc (Nat.le_refl _) _)
      have HE6 : Hid (Holds W6 wr.heap.size 42 #[.string ps, .int .i64 sz, .slice da 32 dc]) := Lib.hid (by rw [hW6]; exact Holds.fresh _ _ _)
      clear hr1 ho1 hop hn32 hp64 hps hW6 hB z0 z6
      go_wp2_with fail
      rw [← HW6.out]
      clear HW6 c0 c1 c2 k2
      have HS : Hid (∀ W, Below W6.heap.size W6 W → (fun W => W.cell? ⟨wr.heap.size, 0, none⟩ = some (.string ps) ∧ W.cell? ⟨wr.heap.size, 1, none⟩ = some (.int .i64 sz) ∧ W.cell? ⟨wr.heap.size, 2, none⟩ = some (.slice da 32 dc)) W) := Lib.hid fun W hW => by
        have h := HE6.out.under hW HE6.out.lt
        exact ⟨h.cell 0, h.cell 1, h.cell 2⟩
      refine wp_region_noPanic ?_
      refine wp_region_held_drew (S := (fun W => W.cell? ⟨wr.heap.size, 0, none⟩ = some (.string ps) ∧ W.cell? ⟨wr.heap.size, 1, none⟩ = some (.int .i64 sz) ∧ W.cell? ⟨wr.heap.size, 2, none⟩ = some (.slice da 32 dc))) (by kernel_rfl) (HS.out _ (Below.refl _ W6).drew) (fun hHeld => ?_)
      refine wpAnyH_take (i := 0) (oi := { dst := some 18, op := Op.move (Operand.tmp 3), type := 29, pos := _, after := _, guard := none }) (v := ?_) rfl (by kernel_rfl) (by kernel_rfl) (by kernel_rfl) (fun _ _ _ h => h) (Or.inl ⟨by rfl, ?_⟩) hHeld ?_
      rotate_left 1
      · (intro W hW; (try dsimp only at hW); go_simp; try with_reducible rfl)
      try simp only [Act.put, List.setIfInBounds_toArray, List.set_cons_zero, List.set_cons_succ]
      refine wpAnyH_take (i := 1) (oi := { dst := some 19, op := Op.fieldAddr 42 (Operand.tmp 5) 0, type := 0, pos := _, after := _, guard := none }) (v := ?_) rfl (by kernel_rfl) (by kernel_rfl) (by kernel_rfl) (fun _ _ _ h => h) (Or.inl ⟨by rfl, ?_⟩) hHeld ?_
      rotate_left 1
      · (intro W hW; (try dsimp only at hW); go_simp; try with_reducible rfl)
      try simp only [Act.put, List.setIfInBounds_toArray, List.set_cons_zero, List.set_cons_succ]
      refine wpAnyH_take (i := 2) (oi := { dst := some 20, op := Op.load 9 (Operand.tmp 19), type := 9, pos := _, after := _, guard := none }) (v := ?_) rfl (by kernel_rfl) (by kernel_rfl) (by kernel_rfl) (fun _ _ _ h => h) (Or.inl ⟨by rfl, ?_⟩) hHeld ?_
      rotate_left 1
      · (intro W hW; obtain ⟨k0, _, _⟩ := hW; (try dsimp only at hW); go_simp; try with_reducible rfl)
      try simp only [Act.put, List.setIfInBounds_toArray, List.set_cons_zero, List.set_cons_succ]
      refine wpAnyH_take (i := 4) (oi := { dst := some 22, op := Op.fieldAddr 42 (Operand.tmp 5) 1, type := 0, pos := _, after := _, guard := none }) (v := ?_) rfl (by kernel_rfl) (by kernel_rfl) (by kernel_rfl) (fun _ _ _ h => h) (Or.inl ⟨by rfl, ?_⟩) hHeld ?_
      rotate_left 1
      · (intro W hW; (try dsimp only at hW); go_simp; try with_reducible rfl)
      try simp only [Act.put, List.setIfInBounds_toArray, List.set_cons_zero, List.set_cons_succ]
      refine wpAnyH_take (i := 5) (oi := { dst := some 23, op := Op.load 3 (Operand.tmp 22), type := 3, pos := _, after := _, guard := none }) (v := ?_) rfl (by kernel_rfl) (by kernel_rfl) (by kernel_rfl) (fun _ _ _ h => h) (Or.inl ⟨by rfl, ?_⟩) hHeld ?_
      rotate_left 1
      · (intro W hW; obtain ⟨_, k1, _⟩ := hW; (try dsimp only at hW); go_simp; try with_reducible rfl)
      try simp only [Act.put, List.setIfInBounds_toArray, List.set_cons_zero, List.set_cons_succ]
      refine wpAnyH_take (i := 6) (oi := { dst := some 24, op := Op.convert 3 22 (Operand.tmp 23), type := 22, pos := _, after := _, guard := none }) (v := ?_) rfl (by kernel_rfl) (by kernel_rfl) (by kernel_rfl) (fun _ _ _ h => h) (Or.inl ⟨by rfl, ?_⟩) hHeld ?_
      rotate_left 1
      · (intro W hW; (try dsimp only at hW); go_simp; try with_reducible rfl)
      try simp only [Act.put, List.setIfInBounds_toArray, List.set_cons_zero, List.set_cons_succ]
      refine wpAnyH_take (i := 8) (oi := { dst := some 26, op := Op.fieldAddr 42 (Operand.tmp 5) 2, type := 0, pos := _, after := _, guard := none }) (v := ?_) rfl (by kernel_rfl) (by kernel_rfl) (by kernel_rfl) (fun _ _ _ h => h) (Or.inl ⟨by rfl, ?_⟩) hHeld ?_
      rotate_left 1
      · (intro W hW; (try dsimp only at hW); go_simp; try with_reducible rfl)
      try simp only [Act.put, List.setIfInBounds_toArray, List.set_cons_zero, List.set_cons_succ]
      refine wpAnyH_take (i := 9) (oi := { dst := some 27, op := Op.load 28 (Operand.tmp 26), type := 28, pos := _, after := _, guard := none }) (v := ?_) rfl (by kernel_rfl) (by kernel_rfl) (by kernel_rfl) (fun _ _ _ h => h) (Or.inl ⟨by rfl, ?_⟩) hHeld ?_
      rotate_left 1
      · (intro W hW; obtain ⟨_, _, k2⟩ := hW; (try dsimp only at hW); go_simp; try with_reducible rfl)
      try simp only [Act.put, List.setIfInBounds_toArray, List.set_cons_zero, List.set_cons_succ]
      refine wpAnyH_ready (rs := [3]) (by kernel_rfl) (by simp) ?_
      refine AllReadyH.cons (o := { dst := some 21, op := Op.call { callee := Callee.value (Operand.func 22), args := #[Operand.tmp 20], argTypes := #[9] }, type := 31, pos := _, after := _, guard := none }) rfl (fun K hK => ?_) AllReadyH.nil
      go_simp
      refine (HTXP.out _ (bl KA ++ (w.heap.size + 1) :: xs) (HBD.out _ (Q6.out.trans ((Below.refl _ W6).drew.mono Q6.out.size)))).mono ?_
      intro e w7 hm
      obtain ⟨lt7, t7, a7, n7, c7, k7, m7, d7, rfl, h6, hlt', hoff, hb⟩ := MadeT.six hm
      have b7 : Hid (Below W6.heap.size W6 w7) := Lib.hid ((Below.refl _ W6).drew.trans hb)
      have R7 := Lib.hid (b7.out)
      have S7 := Lib.hid (HS.out _ R7.out)
      have HS7 := Lib.hid h6
      have HT7 := Lib.hid hlt'
      have HO7 := Lib.hid hoff
      clear hm hb h6 hlt' hoff
      go_simp
      refine hK.out _ _ (S7.out) (fun _ => ?_)
      clear hK K hHeld
      try simp only [Act.put, List.setIfInBounds_toArray, List.set_cons_zero, List.set_cons_succ]
      have hHeld : ((fun W => W.cell? ⟨wr.heap.size, 0, none⟩ = some (.string ps) ∧ W.cell? ⟨wr.heap.size, 1, none⟩ = some (.int .i64 sz) ∧ W.cell? ⟨wr.heap.size, 2, none⟩ = some (.slice da 32 dc))) w7 := S7.out
      refine wpAnyH_ready (rs := [7]) (by kernel_rfl) (by simp) ?_
      refine AllReadyH.cons (o := { dst := some 25, op := Op.call { callee := Callee.value (Operand.func 23), args := #[Operand.tmp 24], argTypes := #[22] }, type := 31, pos := _, after := _, guard := none }) rfl (fun K hK => ?_) AllReadyH.nil
      go_simp
      refine (HSM.out _).mono ?_
      rintro e w8 ⟨r8, rfl, hp, hb⟩
      obtain ⟨lt8, t8, a8, n8, c8, k8, m8, d8, rfl, h6, hlt', hoff⟩ := PrimAt.six hp (HBD.out _ (Q6.out.trans (R7.out.mono Q6.out.size)))
      have b8 : Hid (Below w7.heap.size w7 w8) := Lib.hid (hb)
      have R8 := Lib.hid (R7.out.trans (b8.out.mono R7.out.size))
      have S8 := Lib.hid (HS.out _ R8.out)
      have HS8 := Lib.hid h6
      have HT8 := Lib.hid hlt'
      have HO8 := Lib.hid hoff
      clear hp hb h6 hlt' hoff
      go_simp
      refine hK.out _ _ (S8.out) (fun _ => ?_)
      clear hK K hHeld
      try simp only [Act.put, List.setIfInBounds_toArray, List.set_cons_zero, List.set_cons_succ]
      have hHeld : ((fun W => W.cell? ⟨wr.heap.size, 0, none⟩ = some (.string ps) ∧ W.cell? ⟨wr.heap.size, 1, none⟩ = some (.int .i64 sz) ∧ W.cell? ⟨wr.heap.size, 2, none⟩ = some (.slice da 32 dc))) w8 := S8.out
      refine wpAnyH_ready (rs := [10]) (by kernel_rfl) (by simp) ?_
      refine AllReadyH.cons (o := { dst := some 28, op := Op.call { callee := Callee.value (Operand.func 24), args := #[Operand.tmp 27], argTypes := #[28] }, type := 31, pos := _, after := _, guard := none }) rfl (fun K hK => ?_) AllReadyH.nil
      go_simp
      refine (octets'_any _ (bl KA ++ (w.heap.size + 1) :: xs) da dc 32 _ dig (HDR.out _ (Q6.out.trans (R8.out.mono Q6.out.size))) HDN.out (Nat.le_refl _) (by omega) HDO.out (HBD.out _ (Q6.out.trans (R8.out.mono Q6.out.size)))).mono ?_
      intro e w9 hm
      obtain ⟨lt9, t9, a9, n9, c9, k9, m9, d9, rfl, h6, hlt', hoff, hb⟩ := MadeT.six hm
      have b9 : Hid (Below w8.heap.size w8 w9) := Lib.hid (hb)
      have R9 := Lib.hid (R8.out.trans (b9.out.mono R8.out.size))
      have S9 := Lib.hid (HS.out _ R9.out)
      have HS9 := Lib.hid h6
      have HT9 := Lib.hid hlt'
      have HO9 := Lib.hid hoff
      clear hm hb h6 hlt' hoff
      go_simp
      refine hK.out _ _ (S9.out) (fun _ => ?_)
      clear hK K hHeld
      try simp only [Act.put, List.setIfInBounds_toArray, List.set_cons_zero, List.set_cons_succ]
      have hHeld : ((fun W => W.cell? ⟨wr.heap.size, 0, none⟩ = some (.string ps) ∧ W.cell? ⟨wr.heap.size, 1, none⟩ = some (.int .i64 sz) ∧ W.cell? ⟨wr.heap.size, 2, none⟩ = some (.slice da 32 dc))) w9 := S9.out
      refine wpAnyH_ready (rs := [11]) (by kernel_rfl) (by simp) ?_
      refine AllReadyH.cons (o := { dst := some 29, op := Op.buildSlice 29 3 #[(0, Operand.tmp 21), (1, Operand.tmp 25), (2, Operand.tmp 28)], type := 29, pos := _, after := _, guard := none }) rfl (fun K hK => ?_) AllReadyH.nil
      go_simp
      obtain ⟨w10, hw⟩ : ∃ W, W = w9.alloc (.cells #[.int .u8 (t7 : Int), .slice a7 n7 c7, .slice k7 m7 d7, .int .u8 (t8 : Int), .slice a8 n8 c8, .slice k8 m8 d8, .int .u8 (t9 : Int), .slice a9 n9 c9, .slice k9 m9 d9] 31) := ⟨_, rfl⟩
      rw [← hw]
      have b10 : Hid (Below w9.heap.size w9 w10) := Lib.hid (by rw [hw]; exact (Below.refl _ _).alloc (Nat.le_refl _) _)
      have R10 := Lib.hid (R9.out.trans (b10.out.mono R9.out.size))
      have S10 := Lib.hid (HS.out _ R10.out)
      have HP10 : Hid (Off (bl KA ++ (w.heap.size + 1) :: xs) (KiP (some ⟨w9.heap.size, 0, none⟩) 3 [lt7, lt8, lt9]) w10) := Lib.hid (by rw [hw]; exact row666 ((HO7.out.under b8.out).under b9.out) HS7.out (HO8.out.under b9.out) HS8.out HO9.out HS9.out (HNX.out _ (Q6.out.trans (R9.out.mono Q6.out.size))))
      clear hw
      refine hK.out _ _ (S10.out) (fun _ => ?_)
      clear hK K hHeld
      try simp only [Act.put, List.setIfInBounds_toArray, List.set_cons_zero, List.set_cons_succ]
      have hHeld : ((fun W => W.cell? ⟨wr.heap.size, 0, none⟩ = some (.string ps) ∧ W.cell? ⟨wr.heap.size, 1, none⟩ = some (.int .i64 sz) ∧ W.cell? ⟨wr.heap.size, 2, none⟩ = some (.slice da 32 dc))) w10 := S10.out
      refine wpAnyH_ready (rs := [12]) (by kernel_rfl) (by simp) ?_
      refine AllReadyH.cons (o := { dst := some 30, op := Op.call { callee := Callee.value (Operand.func 21), args := #[Operand.const (Value.int IntKind.u8 48), Operand.tmp 29], argTypes := #[5, 29] }, type := 31, pos := _, after := _, guard := none }) rfl (fun K hK => ?_) AllReadyH.nil
      go_simp
      refine (seq'_any _ (bl KA ++ (w.heap.size + 1) :: xs) 48 3 3 _ [lt7, lt8, lt9] HP10.out rfl (by omega)).mono ?_
      intro e w11 hm
      obtain ⟨lt11, t11, a11, n11, c11, k11, m11, d11, rfl, h6, hlt', hoff, hb⟩ := MadeT.six hm
      have b11 : Hid (Below w10.heap.size w10 w11) := Lib.hid (hb)
      have R11 := Lib.hid (R10.out.trans (b11.out.mono R10.out.size))
      have S11 := Lib.hid (HS.out _ R11.out)
      have HS11 := Lib.hid h6
      have HT11 := Lib.hid hlt'
      have HO11 := Lib.hid hoff
      clear hm hb h6 hlt' hoff
      go_simp
      refine hK.out _ _ (S11.out) (fun _ => ?_)
      clear hK K hHeld
      try simp only [Act.put, List.setIfInBounds_toArray, List.set_cons_zero, List.set_cons_succ]
      have hHeld : ((fun W => W.cell? ⟨wr.heap.size, 0, none⟩ = some (.string ps) ∧ W.cell? ⟨wr.heap.size, 1, none⟩ = some (.int .i64 sz) ∧ W.cell? ⟨wr.heap.size, 2, none⟩ = some (.slice da 32 dc))) w11 := S11.out
      refine wpAnyH_ready (rs := [13]) (by kernel_rfl) (by simp) ?_
      refine AllReadyH.cons (o := { dst := some 31, op := Op.buildSlice 29 1 #[(0, Operand.tmp 30)], type := 29, pos := _, after := _, guard := none }) rfl (fun K hK => ?_) AllReadyH.nil
      go_simp
      obtain ⟨w12, hw⟩ : ∃ W, W = w11.alloc (.cells #[.int .u8 (t11 : Int), .slice a11 n11 c11, .slice k11 m11 d11] 31) := ⟨_, rfl⟩
      rw [← hw]
      have b12 : Hid (Below w11.heap.size w11 w12) := Lib.hid (by rw [hw]; exact (Below.refl _ _).alloc (Nat.le_refl _) _)
      have R12 := Lib.hid (R11.out.trans (b12.out.mono R11.out.size))
      have S12 := Lib.hid (HS.out _ R12.out)
      have HF12 : Hid (Holds w12 w11.heap.size 31 [.int .u8 (t11 : Int), .slice a11 n11 c11, .slice k11 m11 d11].toArray) := Lib.hid (by rw [hw]; exact Holds.fresh _ _ _)
      have K12 := Lib.hid (HK.out.under (Q6.out.trans (R12.out.mono Q6.out.size)))
      have O12 := Lib.hid (HO11.out.under b12.out)
      have OW12 := Lib.hid K12.out.own
      have B12 := Lib.hid (HB.out.trans ((Q6.out.trans (R12.out.mono Q6.out.size)).mono HB.out.size))
      have BX12 := Lib.hid (HXS.out _ B12.out.size)
      clear hw
      refine hK.out _ _ (S12.out) (fun _ => ?_)
      clear hK K hHeld
      try simp only [Act.put, List.setIfInBounds_toArray, List.set_cons_zero, List.set_cons_succ]
      have hHeld : ((fun W => W.cell? ⟨wr.heap.size, 0, none⟩ = some (.string ps) ∧ W.cell? ⟨wr.heap.size, 1, none⟩ = some (.int .i64 sz) ∧ W.cell? ⟨wr.heap.size, 2, none⟩ = some (.slice da 32 dc))) w12 := S12.out
      refine wpAnyH_ready (rs := [14]) (by kernel_rfl) (by simp) ?_
      refine AllReadyH.cons (o := { dst := some 32, op := Op.call { callee := Callee.builtin Builtin.append, args := #[Operand.tmp 18, Operand.tmp 31], argTypes := #[29, 29] }, type := 29, pos := _, after := _, guard := none }) rfl (fun K hK => ?_) AllReadyH.nil
      refine step_pushV _ rfl (.tmp 18) (.tmp 31) 29 rfl 31 _ 3 56 Tryd.underlying29 info_node rfl (by omega) (by omega) rfl OW12.out (cs := [.int .u8 (t11 : Int), .slice a11 n11 c11, .slice k11 m11 d11]) rfl rfl one6 HF12.out (by omega) ?_
      intro g13 c13 w13 ho13 hg13 hat13 hlt13
      have K13 := Lib.hid (K12.out.push6 O12.out HS11.out ho13 hg13 hat13 BX12.out)
      have B13 := Lib.hid (below_own B12.out hg13 (fun g hg => HG.out g hg) (Nat.le_refl _))
      have G13 : Hid (∀ g, blockOf (some (⟨g13, 0, none⟩ : Addr)) = some g → V.heap.size ≤ g) := Lib.hid fun g hg => by
        have e : g13 = g := by simpa [blockOf] using hg
        subst e
        rcases hat13 with h | h
        · exact HG.out _ h
        · have := B12.out.size; omega
      have S13 : Hid ((fun W => W.cell? ⟨wr.heap.size, 0, none⟩ = some (.string ps) ∧ W.cell? ⟨wr.heap.size, 1, none⟩ = some (.int .i64 sz) ∧ W.cell? ⟨wr.heap.size, 2, none⟩ = some (.slice da 32 dc)) w13) := Lib.hid (by
        have h12 := HE6.out.under R12.out HE6.out.lt
        have h13 := h12.grown hg13 (fun e => by have := HK.out.lt e.symm; omega)
        exact ⟨h13.cell 0, h13.cell 1, h13.cell 2⟩)
      clear ho13 hg13 hat13 OW12 HF12 O12 K12 BX12
      refine hK.out _ _ (S13.out) (fun _ => ?_)
      clear hK K hHeld
      try simp only [Act.put, List.setIfInBounds_toArray, List.set_cons_zero, List.set_cons_succ]
      have hHeld : ((fun W => W.cell? ⟨wr.heap.size, 0, none⟩ = some (.string ps) ∧ W.cell? ⟨wr.heap.size, 1, none⟩ = some (.int .i64 sz) ∧ W.cell? ⟨wr.heap.size, 2, none⟩ = some (.slice da 32 dc))) w13 := S13.out
      refine wpAnyH_take (i := 15) (oi := { dst := some 3, op := Op.assign (Operand.tmp 32), type := 29, pos := _, after := _, guard := none }) (v := ?_) rfl (by kernel_rfl) (by kernel_rfl) (by kernel_rfl) (fun _ _ _ h => h) (Or.inl ⟨by rfl, ?_⟩) hHeld ?_
      rotate_left 1
      · (intro W hW; (try dsimp only at hW); go_simp; try with_reducible rfl)
      try simp only [Act.put, List.setIfInBounds_toArray, List.set_cons_zero, List.set_cons_succ]
      refine wpAnyH_done (by kernel_rfl) ?_ _
      refine NoPanic.normal ?_
      have HTT : Hid ((ks ++ [lt11]).map Lt.t = ((files.map En.v).take (i + 1)).map enTr) := Lib.hid (by
        rw [HV1.out, List.map_append, HT.out]
        simp [HT11.out, HT9.out, HT8.out, HT7.out])
      go_wp2_with fail
      go_roundw
      case rel => exact ⟨i + 1, _, _, _, by omega, by go_num, rfl, K13.out, HTT.out, G13.out, B13.out⟩
      case measure => simp [intOf]; omega
    · obtain rfl : i = fn := by omega
      have HTT : Hid (ks.map Lt.t = (files.map En.v).map enTr) := Lib.hid (by rw [HT.out, List.take_of_length_le (by simp [HFN.out])])
      have HBD : Hid (∀ W, Below wr.heap.size wr W → ∀ x ∈ ((w.heap.size + 1) :: xs), x < W.heap.size) := Lib.hid fun W hW => HXS.out W (Nat.le_trans HVW.out hW.size)
      have HKI := Lib.hid HK.out.ki
      have HKL := Lib.hid HK.out.len
      clear hB
      go_wp2_with fail
      have HS : Hid (∀ W, Below wr.heap.size wr W → (fun W => W.cell? ⟨w.heap.size, 0, none⟩ = some (.string s) ∧ W.cell? ⟨w.heap.size, 1, none⟩ = some (.int .u64 u)) W) := Lib.hid fun W hW => by
        have h := HBXr.out.under hW HBXr.out.lt
        exact ⟨h.cell 0, h.cell 1⟩
      refine wp_region_noPanic ?_
      refine wp_region_held_drew (S := (fun W => W.cell? ⟨w.heap.size, 0, none⟩ = some (.string s) ∧ W.cell? ⟨w.heap.size, 1, none⟩ = some (.int .u64 u))) (by kernel_rfl) (HS.out _ (Below.refl _ wr).drew) (fun hHeld => ?_)
      refine wpAnyH_take (i := 0) (oi := { dst := some 33, op := Op.fieldAddr 25 (Operand.tmp 1) 0, type := 0, pos := _, after := _, guard := none }) (v := ?_) rfl (by kernel_rfl) (by kernel_rfl) (by kernel_rfl) (fun _ _ _ h => h) (Or.inl ⟨by rfl, ?_⟩) hHeld ?_
      rotate_left 1
      · (intro W hW; (try dsimp only at hW); go_simp; try with_reducible rfl)
      try simp only [Act.put, List.setIfInBounds_toArray, List.set_cons_zero, List.set_cons_succ]
      refine wpAnyH_take (i := 1) (oi := { dst := some 34, op := Op.load 9 (Operand.tmp 33), type := 9, pos := _, after := _, guard := none }) (v := ?_) rfl (by kernel_rfl) (by kernel_rfl) (by kernel_rfl) (fun _ _ _ h => h) (Or.inl ⟨by rfl, ?_⟩) hHeld ?_
      rotate_left 1
      · (intro W hW; obtain ⟨k0, _⟩ := hW; (try dsimp only at hW); go_simp; try with_reducible rfl)
      try simp only [Act.put, List.setIfInBounds_toArray, List.set_cons_zero, List.set_cons_succ]
      refine wpAnyH_take (i := 3) (oi := { dst := some 36, op := Op.fieldAddr 25 (Operand.tmp 1) 1, type := 0, pos := _, after := _, guard := none }) (v := ?_) rfl (by kernel_rfl) (by kernel_rfl) (by kernel_rfl) (fun _ _ _ h => h) (Or.inl ⟨by rfl, ?_⟩) hHeld ?_
      rotate_left 1
      · (intro W hW; (try dsimp only at hW); go_simp; try with_reducible rfl)
      try simp only [Act.put, List.setIfInBounds_toArray, List.set_cons_zero, List.set_cons_succ]
      refine wpAnyH_take (i := 4) (oi := { dst := some 37, op := Op.load 22 (Operand.tmp 36), type := 22, pos := _, after := _, guard := none }) (v := ?_) rfl (by kernel_rfl) (by kernel_rfl) (by kernel_rfl) (fun _ _ _ h => h) (Or.inl ⟨by rfl, ?_⟩) hHeld ?_
      rotate_left 1
      · (intro W hW; obtain ⟨_, k1⟩ := hW; (try dsimp only at hW); go_simp; try with_reducible rfl)
      try simp only [Act.put, List.setIfInBounds_toArray, List.set_cons_zero, List.set_cons_succ]
      refine wpAnyH_take (i := 6) (oi := { dst := some 39, op := Op.move (Operand.tmp 3), type := 29, pos := _, after := _, guard := none }) (v := ?_) rfl (by kernel_rfl) (by kernel_rfl) (by kernel_rfl) (fun _ _ _ h => h) (Or.inl ⟨by rfl, ?_⟩) hHeld ?_
      rotate_left 1
      · (intro W hW; (try dsimp only at hW); go_simp; try with_reducible rfl)
      try simp only [Act.put, List.setIfInBounds_toArray, List.set_cons_zero, List.set_cons_succ]
      refine wpAnyH_ready (rs := [2]) (by kernel_rfl) (by simp) ?_
      refine AllReadyH.cons (o := { dst := some 35, op := Op.call { callee := Callee.value (Operand.func 22), args := #[Operand.tmp 34], argTypes := #[9] }, type := 31, pos := _, after := _, guard := none }) rfl (fun K hK => ?_) AllReadyH.nil
      go_simp
      refine (HTXN.out _ ((w.heap.size + 1) :: xs) (HBD.out _ (Below.refl _ wr).drew)).mono ?_
      intro e w21 hm
      obtain ⟨lt21, t21, a21, n21, c21, k21, m21, d21, rfl, h6, hlt', hoff, hb⟩ := MadeT.six hm
      have b21 : Hid (Below wr.heap.size wr w21) := Lib.hid ((Below.refl _ wr).drew.trans hb)
      have R21 := Lib.hid (b21.out)
      have S21 := Lib.hid (HS.out _ R21.out)
      have HS21 := Lib.hid h6
      have HT21 := Lib.hid hlt'
      have HO21 := Lib.hid hoff
      clear hm hb h6 hlt' hoff
      go_simp
      refine hK.out _ _ (S21.out) (fun _ => ?_)
      clear hK K hHeld
      try simp only [Act.put, List.setIfInBounds_toArray, List.set_cons_zero, List.set_cons_succ]
      have hHeld : ((fun W => W.cell? ⟨w.heap.size, 0, none⟩ = some (.string s) ∧ W.cell? ⟨w.heap.size, 1, none⟩ = some (.int .u64 u))) w21 := S21.out
      refine wpAnyH_ready (rs := [5]) (by kernel_rfl) (by simp) ?_
      refine AllReadyH.cons (o := { dst := some 38, op := Op.call { callee := Callee.value (Operand.func 23), args := #[Operand.tmp 37], argTypes := #[22] }, type := 31, pos := _, after := _, guard := none }) rfl (fun K hK => ?_) AllReadyH.nil
      go_simp
      refine (HSMC.out _).mono ?_
      rintro e w22 ⟨r22, rfl, hp, hb⟩
      obtain ⟨lt22, t22, a22, n22, c22, k22, m22, d22, rfl, h6, hlt', hoff⟩ := PrimAt.six hp (HBD.out _ R21.out)
      have b22 : Hid (Below w21.heap.size w21 w22) := Lib.hid (hb)
      have R22 := Lib.hid (R21.out.trans (b22.out.mono R21.out.size))
      have S22 := Lib.hid (HS.out _ R22.out)
      have HS22 := Lib.hid h6
      have HT22 := Lib.hid hlt'
      have HO22 := Lib.hid hoff
      clear hp hb h6 hlt' hoff
      go_simp
      refine hK.out _ _ (S22.out) (fun _ => ?_)
      clear hK K hHeld
      try simp only [Act.put, List.setIfInBounds_toArray, List.set_cons_zero, List.set_cons_succ]
      have hHeld : ((fun W => W.cell? ⟨w.heap.size, 0, none⟩ = some (.string s) ∧ W.cell? ⟨w.heap.size, 1, none⟩ = some (.int .u64 u))) w22 := S22.out
      refine wpAnyH_ready (rs := [7]) (by kernel_rfl) (by simp) ?_
      refine AllReadyH.cons (o := { dst := some 40, op := Op.call { callee := Callee.value (Operand.func 21), args := #[Operand.const (Value.int IntKind.u8 48), Operand.tmp 39], argTypes := #[5, 29] }, type := 31, pos := _, after := _, guard := none }) rfl (fun K hK => ?_) AllReadyH.nil
      go_simp
      refine (seq'_any _ ((w.heap.size + 1) :: xs) 48 d i KA ks (HKI.out.under R22.out) HKL.out (by omega)).mono ?_
      intro e w23 hm
      obtain ⟨lt23, t23, a23, n23, c23, k23, m23, d23, rfl, h6, hlt', hoff, hb⟩ := MadeT.six hm
      have b23 : Hid (Below w22.heap.size w22 w23) := Lib.hid (hb)
      have R23 := Lib.hid (R22.out.trans (b23.out.mono R22.out.size))
      have S23 := Lib.hid (HS.out _ R23.out)
      have HS23 := Lib.hid h6
      have HT23 := Lib.hid hlt'
      have HO23 := Lib.hid hoff
      clear hm hb h6 hlt' hoff
      go_simp
      refine hK.out _ _ (S23.out) (fun _ => ?_)
      clear hK K hHeld
      try simp only [Act.put, List.setIfInBounds_toArray, List.set_cons_zero, List.set_cons_succ]
      have hHeld : ((fun W => W.cell? ⟨w.heap.size, 0, none⟩ = some (.string s) ∧ W.cell? ⟨w.heap.size, 1, none⟩ = some (.int .u64 u))) w23 := S23.out
      refine wpAnyH_ready (rs := [8]) (by kernel_rfl) (by simp) ?_
      refine AllReadyH.cons (o := { dst := some 41, op := Op.buildSlice 29 3 #[(0, Operand.tmp 35), (1, Operand.tmp 38), (2, Operand.tmp 40)], type := 29, pos := _, after := _, guard := none }) rfl (fun K hK => ?_) AllReadyH.nil
      go_simp
      obtain ⟨w24, hw⟩ : ∃ W, W = w23.alloc (.cells #[.int .u8 (t21 : Int), .slice a21 n21 c21, .slice k21 m21 d21, .int .u8 (t22 : Int), .slice a22 n22 c22, .slice k22 m22 d22, .int .u8 (t23 : Int), .slice a23 n23 c23, .slice k23 m23 d23] 31) := ⟨_, rfl⟩
      rw [← hw]
      have b24 : Hid (Below w23.heap.size w23 w24) := Lib.hid (by rw [hw]; exact (Below.refl _ _).alloc (Nat.le_refl _) _)
      have R24 := Lib.hid (R23.out.trans (b24.out.mono R23.out.size))
      have S24 := Lib.hid (HS.out _ R24.out)
      have HP24 : Hid (Off ((w.heap.size + 1) :: xs) (KiP (some ⟨w23.heap.size, 0, none⟩) 3 [lt21, lt22, lt23]) w24) := Lib.hid (by rw [hw]; exact row666 ((HO21.out.under b22.out).under b23.out) HS21.out (HO22.out.under b23.out) HS22.out HO23.out HS23.out (fun hx => Nat.lt_irrefl _ (HBD.out _ R23.out _ hx)))
      clear hw
      refine hK.out _ _ (S24.out) (fun _ => ?_)
      clear hK K hHeld
      try simp only [Act.put, List.setIfInBounds_toArray, List.set_cons_zero, List.set_cons_succ]
      have hHeld : ((fun W => W.cell? ⟨w.heap.size, 0, none⟩ = some (.string s) ∧ W.cell? ⟨w.heap.size, 1, none⟩ = some (.int .u64 u))) w24 := S24.out
      refine wpAnyH_ready (rs := [9]) (by kernel_rfl) (by simp) ?_
      refine AllReadyH.cons (o := { dst := some 42, op := Op.call { callee := Callee.value (Operand.func 21), args := #[Operand.const (Value.int IntKind.u8 48), Operand.tmp 41], argTypes := #[5, 29] }, type := 31, pos := _, after := _, guard := none }) rfl (fun K hK => ?_) AllReadyH.nil
      go_simp
      refine (seq'_any _ ((w.heap.size + 1) :: xs) 48 3 3 _ [lt21, lt22, lt23] HP24.out rfl (by omega)).mono ?_
      intro e w25 hm
      obtain ⟨lt25, t25, a25, n25, c25, k25, m25, d25, rfl, h6, hlt', hoff, hb⟩ := MadeT.six hm
      have b25 : Hid (Below w24.heap.size w24 w25) := Lib.hid (hb)
      have R25 := Lib.hid (R24.out.trans (b25.out.mono R24.out.size))
      have S25 := Lib.hid (HS.out _ R25.out)
      have HS25 := Lib.hid h6
      have HT25 := Lib.hid hlt'
      have HO25 := Lib.hid hoff
      clear hm hb h6 hlt' hoff
      have hz25 := HZr.out.under R25.out HZr.out.lt
      have HZ25 := Lib.hid hz25
      have x0 := hz25.cell 0
      have x1 := hz25.cell 1
      have x2 := hz25.cell 2
      have y0 := hz25.open_ 0
      have y1 := hz25.open_ 1
      have y2 := hz25.open_ 2
      have S26 : Hid ((fun W => W.cell? ⟨w.heap.size, 0, none⟩ = some (.string s) ∧ W.cell? ⟨w.heap.size, 1, none⟩ = some (.int .u64 u)) (((w25.setCell ⟨w.heap.size + 1, 0, none⟩ (.int .u8 (t25 : Int))).setCell ⟨w.heap.size + 1, 1, none⟩ (.slice a25 n25 c25)).setCell ⟨w.heap.size + 1, 2, none⟩ (.slice k25 m25 d25))) := Lib.hid (by
        have hne : w.heap.size ≠ w.heap.size + 1 := by omega
        refine ⟨?_, ?_⟩
        · rw [cell_ne hne, cell_ne hne, cell_ne hne]; exact S25.out.1
        · rw [cell_ne hne, cell_ne hne, cell_ne hne]; exact S25.out.2)
      clear hz25
      go_simp
      refine hK.out _ _ (S25.out) (fun _ => ?_)
      clear hK K hHeld
      try simp only [Act.put, List.setIfInBounds_toArray, List.set_cons_zero, List.set_cons_succ]
      have hHeld : ((fun W => W.cell? ⟨w.heap.size, 0, none⟩ = some (.string s) ∧ W.cell? ⟨w.heap.size, 1, none⟩ = some (.int .u64 u))) w25 := S25.out
      refine wpAnyH_ready (rs := [10]) (by kernel_rfl) (by simp) ?_
      refine AllReadyH.cons (o := { dst := none, op := Op.store 31 (Operand.tmp 2) (Operand.tmp 42), type := 0, pos := _, after := _, guard := none }) rfl (fun K hK => ?_) AllReadyH.nil
      go_simp
      refine hK.out _ _ (S26.out) (fun _ => ?_)
      clear hK K hHeld
      try simp only [Act.put, List.setIfInBounds_toArray, List.set_cons_zero, List.set_cons_succ]
      have hHeld : ((fun W => W.cell? ⟨w.heap.size, 0, none⟩ = some (.string s) ∧ W.cell? ⟨w.heap.size, 1, none⟩ = some (.int .u64 u))) (((w25.setCell ⟨w.heap.size + 1, 0, none⟩ (.int .u8 (t25 : Int))).setCell ⟨w.heap.size + 1, 1, none⟩ (.slice a25 n25 c25)).setCell ⟨w.heap.size + 1, 2, none⟩ (.slice k25 m25 d25)) := S26.out
      refine wpAnyH_done (by kernel_rfl) ?_ _
      refine NoPanic.normal ?_
      have HTE : Hid (lt25.t = TT) := Lib.hid (by rw [HTV.out, ← HTT.out]; rw [HT25.out]; simp [HT21.out, HT22.out, HT23.out])
      have HLT : Hid (lt25.val = .agg #[.int .u8 (t25 : Int), .slice a25 n25 c25, .slice k25 m25 d25]) := Lib.hid (Of6.val HS25.out)
      have HBE := Lib.hid (HB0.out.trans ((HB.out.trans (R25.out.mono HB.out.size)).mono HB0.out.size))
      go_wp2_with fail
      refine ret_one rfl rfl (((HZ25.out.stored 0 _).stored 1 _).stored 2 _) rfl ?_
      exact ⟨lt25, by rw [HLT.out]; rfl, HTE.out, made_outG HO25.out _ _ _, below_outG HBE.out (by omega) _ _ _⟩
end Go.Proofs.YtdjklhglkmacbaaDoor
