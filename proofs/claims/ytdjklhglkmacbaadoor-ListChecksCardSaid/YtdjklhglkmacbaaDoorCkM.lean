/-
  Files held against a manifest: words. Files held against a manifest, by list. Files held against a manifest, by the document. The law: files held against a manifest.
-/
import Derived.Test.YtdjklhglkmacbaaDoorLiA
import Derived.Test.YtdjklhglkmacbaaDoorShaM
import Derived.Test.YtdjklhglkmacbaaDoorLiK
namespace Go.Proofs.YtdjklhglkmacbaaDoor
open Go.RowKit
set_option linter.unusedVariables false
set_option linter.unusedSimpArgs false

def ckAt (e : EN) (l : List Nat) : Bool := decide ((l.length : Int) = e.sz) && decide (digest l = e.dig)
def ckAll (es : List EN) (rs : List Rw) : Bool := decide (rs.length = es.length) && decide (∀ i, i < rs.length → ckAt (es.getD i default) (rs.getD i default).l = true)
def ckErr (b : Bool) : Int := if b = true then 0 else 11
theorem ckAll_len {es : List EN} {rs : List Rw} (h : rs.length ≠ es.length) : ckAll es rs = false := by unfold ckAll; rw [decide_eq_false h]; rfl
theorem ckAll_no {es : List EN} {rs : List Rw} {i : Nat} (hi : i < rs.length) (h : ckAt (es.getD i default) (rs.getD i default).l = false) : ckAll es rs = false := by
  unfold ckAll
  rw [decide_eq_false (p := ∀ i, i < rs.length → ckAt (es.getD i default) (rs.getD i default).l = true) (fun hh => by rw [hh i hi] at h; cases h)]
  simp
theorem ckAll_yes {es : List EN} {rs : List Rw} (hl : rs.length = es.length) (h : ∀ i, i < rs.length → ckAt (es.getD i default) (rs.getD i default).l = true) : ckAll es rs = true := by
  unfold ckAll; rw [decide_eq_true hl, decide_eq_true h]; rfl
theorem oct86 {l : List Nat} (h : Oct6 l) : ∀ x ∈ l, x < 256 := fun x hx => by
  obtain ⟨i, hi, rfl⟩ := List.getElem_of_mem hx
  have := h i
  simpa [List.getD, hi] using this
theorem equalB (w : World) (A A' : Option Addr) (c c' n n' : Nat) (l l' : List Nat) (hn : l.length = n) (hn' : l'.length = n') (hr : Rd .u8 w w.heap.size A c l) (hr' : Rd .u8 w w.heap.size A' c' l') (ho : ∀ x ∈ l, x < 256) (ho' : ∀ x ∈ l', x < 256) :
    Calls Tryd.prog 36 #[.slice A n c, .slice A' n' c'] w fun e w' => e = .returned (.bool (decide (l = l'))) ∧ w = w' := by
  by_cases h : l = l'
  · subst h
    obtain rfl : n = n' := by rw [← hn, ← hn']
    rw [decide_eq_true rfl]
    exact equal_yes w _ _ A A' c c' n l hn hr hr' ho
  · rw [decide_eq_false h]
    exact equal_no w _ _ A A' c c' n n' l l' hn hn' hr hr' ho ho' h
end Go.Proofs.YtdjklhglkmacbaaDoor
namespace Go.Proofs.YtdjklhglkmacbaaDoor
open Go.RowKit
set_option linter.unusedVariables false
set_option linter.unusedSimpArgs false
attribute [local go_sem ↓] Go.wp_at_zero Go.wp_at_succ

set_option maxRecDepth 100000 in
set_option maxHeartbeats 16000000 in
theorem check_any (w : World) (m : Mf) (h : MfP m w) (A : Option Addr) (c n : Nat) (rs : List Rw) (hn : rs.length = n) (hr : RdR w w.heap.size A c rs) (ho : ∀ j, Oct6 (rs.getD j default).l) (hsz : ∀ j, (rs.getD j default).l.length ≤ 1000) (hk : KMet w) :
    Calls Tryd.prog 16 #[.agg (mcell m).toArray, .slice A n c] w fun e w' => e = .returned (.int .i64 (ckErr (ckAll m.v.files rs))) ∧ Below w.heap.size w w' := by
  obtain ⟨r, HR⟩ : ∃ r, Hid (r = ckAll m.v.files rs) := ⟨_, rfl⟩
  rw [← HR.out]
  have hn0 := Off.of_n h.1
  obtain ⟨name, ctr, fa, fc, files⟩ := m
  have HRE : Hid (r = ckAll (files.map En.v) rs) := Lib.hid HR.out
  clear HR h
  simp only [mcell] at *
  obtain ⟨fn, hfn⟩ : ∃ k, files.length = k := ⟨_, rfl⟩
  rw [hfn]
  generalize (ctr : Int) = u at *
  generalize str name = s at *
  have hq0 : Below w.heap.size w (w.alloc (.cells #[.string s, .int .u64 u, .slice fa fn fc] 25)) := (Below.refl _ _).alloc (Nat.le_refl _) _
  have hz := Holds.fresh w 25 #[.string s, .int .u64 u, .slice fa fn fc]
  have a2 := hz.cell 2
  by_cases hl : n = fn
  case neg =>
    have HE : Hid (r = false) := Lib.hid (by rw [HRE.out]; exact ckAll_len (by rw [List.length_map, hfn, hn]; exact hl))
    have d : ((n : Int) != (fn : Int)) = true := by rw [bne_iff_ne]; omega
    have HQ := Lib.hid hq0
    clear hn hr ho hsz hn0 hfn hq0 hl hk
    go_enter Tryd.func16, Tryd.ntmps16
    go_wp2_with fail
    go_ret
    exact ⟨by rw [HE.out]; rfl, HQ.out⟩
  subst hl
  have hfc := hn0.at_.1.1
  have hfc63 := hn0.at_.1.2.1
  rw [hfn] at hfc
  have hrc := hr.1
  have hrc63 := hr.2.1
  rw [hn] at hrc
  obtain ⟨V, hV⟩ : ∃ V, V = w.alloc (.cells #[.string s, .int .u64 u, .slice fa n fc] 25) := ⟨_, rfl⟩
  rw [← hV] at hq0 hz
  have HQ := Lib.hid hq0
  have HBX := Lib.hid hz
  have HV := Lib.hid hV
  have HX := Lib.hid (hn0.under hq0)
  have HFN := Lib.hid hfn
  have HN := Lib.hid hn
  have HRR := Lib.hid (hr.under hq0)
  have HO := Lib.hid ho
  have HSZ := Lib.hid hsz
  have HKM0 := Lib.hid (hk.under hq0)
  clear hn hr ho hsz hn0 hfn hq0 hz hV hk
  have hd : ((n : Int) != (n : Int)) = false := by simp
  go_enter Tryd.func16, Tryd.ntmps16
  go_wp2_with fail
  rw [← HV.out]
  clear HV a2
  go_loopw [16] (fun iv wr => ∃ i : Nat, i ≤ n ∧ iv = .int .i64 (i : Int) ∧ Hid (∀ j, j < i → ckAt ((files.map En.v).getD j default) (rs.getD j default).l = true) ∧ Below V.heap.size V wr) (fun iv _ => n - (intOf iv).toNat)
  case atStart => exact ⟨0, by omega, rfl, fun j hj => by omega, Below.refl _ _⟩
  case round =>
    obtain ⟨i, hi, rfl, HA, hB⟩ := hrel
    clear hd
    by_cases hlt : i < n
    · have hx := (HX.out.under hB).at_
      obtain ⟨g, off, rfl, hg, hcs⟩ := hx.1.2.2 (by rw [HFN.out]; omega)
      obtain ⟨c0, c1, c2⟩ := hcs i (by rw [HFN.out]; exact hlt)
      have hxe := hx.at_ (by rw [HFN.out]; exact hlt)
      have hrr := HRR.out.under (hB.mono HQ.out.size)
      obtain ⟨gr, offr, rfl, hgr0, hrcs⟩ := hrr.2.2.2 (by rw [HN.out]; omega)
      have r0 := hrcs i (by rw [HN.out]; exact hlt)
      have hrl0 := hrr.2.2.1 i (by rw [HN.out]; exact hlt)
      have hro := HO.out i
      have hrz := HSZ.out i
      have hgr : gr < wr.heap.size := by have := HQ.out.size; have := hB.size; omega
      have HNO0 : Hid (ckAt ((files.map En.v).getD i default) (rs.getD i default).l = false → r = false) := Lib.hid fun hh => by rw [HRE.out]; exact ckAll_no (by rw [HN.out]; exact hlt) hh
      have HYES0 : Hid (ckAt ((files.map En.v).getD i default) (rs.getD i default).l = true → ∀ j, j < i + 1 → ckAt ((files.map En.v).getD j default) (rs.getD j default).l = true) := Lib.hid fun hh j hj => by
        rcases Nat.lt_or_ge j i with h3 | h3
        · exact HA.out j h3
        · obtain rfl : j = i := by omega
          exact hh
      rw [en_at (by rw [HFN.out]; exact hlt)] at HNO0 HYES0
      obtain ⟨e, he⟩ : ∃ e, e = files.getD i default := ⟨_, rfl⟩
      obtain ⟨rw0, hrw⟩ : ∃ e, e = rs.getD i default := ⟨_, rfl⟩
      rw [← he] at c0 c1 c2 hxe HNO0 HYES0
      rw [← hrw] at r0 hrl0 hro hrz HNO0 HYES0
      clear he hrw hcs hrcs hx hrr
      obtain ⟨pa, sz, da, dc, dig⟩ := e
      obtain ⟨ra, rc, rl⟩ := rw0
      obtain ⟨hr1, ho1, hop⟩ := hxe
      dsimp only at c0 c1 c2 hr1 ho1 hop r0 hrl0 hro hrz
      obtain ⟨n1, hn1⟩ : ∃ n1, dig.length = n1 := ⟨_, rfl⟩
      obtain ⟨rn, hrn⟩ : ∃ k, rl.length = k := ⟨_, rfl⟩
      rw [hn1] at c2
      rw [hrn] at r0 hrz
      obtain ⟨dd, hdd⟩ : ∃ d, d = decide (digest rl = dig) := ⟨_, rfl⟩
      have HCK : Hid (ckAt (En.v ⟨pa, sz, da, dc, dig⟩) rl = (decide ((rn : Int) = sz) && dd)) := Lib.hid (by unfold ckAt; rw [hrn, hdd]; rfl)
      have HNO : Hid ((rn : Int) ≠ sz ∨ dd = false → r = false) := Lib.hid fun hh => HNO0.out (by
        rw [HCK.out]
        rcases hh with hh | hh
        · rw [decide_eq_false hh]; rfl
        · rw [hh]; simp)
      have HDD := Lib.hid hdd
      have HDR : Hid (∀ W, Below wr.heap.size wr W → Rd .u8 W W.heap.size da dc dig) := Lib.hid fun W hW => (hr1.under hW).more hW.size
      have HRL : Hid (∀ W, Below wr.heap.size wr W → Rd .u8 W W.heap.size ra rc rl) := Lib.hid fun W hW => ((hrl0.more (by have := HQ.out.size; have := hB.size; omega : w.heap.size ≤ wr.heap.size)).under hW).more hW.size
      have HRO := Lib.hid hro
      have HRN := Lib.hid hrn
      have HN1 := Lib.hid hn1
      have HDO := Lib.hid ho1
      have HBr := Lib.hid hB
      have HUP : Hid (∀ W, Below wr.heap.size wr W → Below w.heap.size w W) := Lib.hid fun W hW => HQ.out.trans ((HBr.out.trans (hW.mono HBr.out.size)).mono HQ.out.size)
      have HKM : Hid (∀ W, Below wr.heap.size wr W → KMet W) := Lib.hid fun W hW => (HKM0.out.under (HBr.out.trans (hW.mono HBr.out.size)))
      have HYES : Hid (dd = true → (rn : Int) = sz → ∀ j, j < i + 1 → ckAt ((files.map En.v).getD j default) (rs.getD j default).l = true) := Lib.hid fun hh hs => HYES0.out (by rw [HCK.out, hh, decide_eq_true hs]; rfl)
      have hq6 : Below wr.heap.size wr (wr.alloc (.cells #[.string (str pa), .int .i64 sz, .slice da n1 dc] 42)) := (Below.refl _ _).alloc (Nat.le_refl _) _
      have he6 := Holds.fresh wr 42 #[.string (str pa), .int .i64 sz, .slice da n1 dc]
      have z1 := he6.cell 1
      have x0 := (hq6.cell (p := ⟨gr, offr + i, none⟩) hgr).trans r0
      generalize str pa = ps at *
      obtain ⟨W6, hW6⟩ : ∃ W, W = wr.alloc (.cells #[.string ps, .int .i64 sz, .slice da n1 dc] 42) := ⟨_, rfl⟩
      rw [← hW6] at hq6 he6
      have r6 := x0
      rw [← hW6] at r6
      have hgr : gr < W6.heap.size := by have := hq6.size; omega
      have Q6 := Lib.hid hq6
      have HE6 := Lib.hid he6
      have HW6 := Lib.hid hW6
      clear hr1 ho1 hop hrl0 hro hn1 hrn hdd hB hq6 he6 hW6 HNO0 HYES0 HCK hg hgr0
      by_cases hss : (rn : Int) = sz
      case neg =>
        have HE : Hid (r = false) := Lib.hid (HNO.out (.inl hss))
        have d : ((rn : Int) != sz) = true := by rw [bne_iff_ne]; exact hss
        have HB6 := Lib.hid (HUP.out _ Q6.out)
        rw [HW6.out] at HB6
        clear hss r6
        go_wp2_with fail
        go_quiet (fail)
        go_wp2_with fail
        go_ret
        exact ⟨by rw [HE.out]; rfl, below_drewN HB6.out _⟩
      have d : ((rn : Int) != sz) = false := by rw [hss]; simp
      have HYES : Hid (dd = true → ∀ j, j < i + 1 → ckAt ((files.map En.v).getD j default) (rs.getD j default).l = true) := Lib.hid fun hh => HYES.out hh hss
      clear hss
      go_wp2_with fail
      rw [← HW6.out]
      clear HW6 c0 c1 c2 z1 x0 r0
      refine wp_region_noPanic ?_
      refine wp_region_held_drew (S := (fun W => Below W6.heap.size W6 W)) (by kernel_rfl) ((Below.refl _ W6).drew) (fun hHeld => ?_)
      refine wpAnyH_take (i := 0) (oi := { dst := some 21, op := Op.move (Operand.tmp 1), type := 35, pos := _, after := _, guard := none }) (v := ?_) rfl (by kernel_rfl) (by kernel_rfl) (by kernel_rfl) (fun _ _ _ h => h) (Or.inl ⟨by rfl, ?_⟩) hHeld ?_
      rotate_left 1
      · (intro W hW; (try dsimp only at hW); go_simp; try with_reducible rfl)
      try simp only [Act.put, List.setIfInBounds_toArray, List.set_cons_zero, List.set_cons_succ]
      refine wpAnyH_take (i := 1) (oi := { dst := some 22, op := Op.move (Operand.tmp 5), type := 3, pos := _, after := _, guard := none }) (v := ?_) rfl (by kernel_rfl) (by kernel_rfl) (by kernel_rfl) (fun _ _ _ h => h) (Or.inl ⟨by rfl, ?_⟩) hHeld ?_
      rotate_left 1
      · (intro W hW; (try dsimp only at hW); go_simp; try with_reducible rfl)
      try simp only [Act.put, List.setIfInBounds_toArray, List.set_cons_zero, List.set_cons_succ]
      refine wpAnyH_take (i := 2) (oi := { dst := some 23, op := Op.indexAddr 35 (Operand.tmp 21) (Operand.tmp 22), type := 0, pos := _, after := _, guard := none }) (v := ?_) rfl (by kernel_rfl) (by kernel_rfl) (by kernel_rfl) (fun _ _ _ h => h) (Or.inl ⟨by rfl, ?_⟩) hHeld ?_
      rotate_left 1
      · (intro W hW; (try dsimp only at hW); go_simp; try with_reducible rfl)
      try simp only [Act.put, List.setIfInBounds_toArray, List.set_cons_zero, List.set_cons_succ]
      refine wpAnyH_take (i := 3) (oi := { dst := some 24, op := Op.load 28 (Operand.tmp 23), type := 28, pos := _, after := _, guard := none }) (v := ?_) rfl (by kernel_rfl) (by kernel_rfl) (by kernel_rfl) (fun _ _ _ h => h) (Or.inl ⟨by rfl, ?_⟩) hHeld ?_
      rotate_left 1
      · (intro W hW; have k0 := (hW.cell (p := ⟨gr, offr + i, none⟩) hgr).trans r6; (try dsimp only at hW); go_simp; try with_reducible rfl)
      try simp only [Act.put, List.setIfInBounds_toArray, List.set_cons_zero, List.set_cons_succ]
      refine wpAnyH_take (i := 4) (oi := { dst := some 25, op := Op.call { callee := Callee.builtin Builtin.len, args := #[Operand.tmp 24], argTypes := #[28] }, type := 3, pos := _, after := _, guard := none }) (v := ?_) rfl (by kernel_rfl) (by kernel_rfl) (by kernel_rfl) (fun _ _ _ h => h) (Or.inl ⟨by rfl, ?_⟩) hHeld ?_
      rotate_left 1
      · (intro W hW; (try dsimp only at hW); go_simp; try with_reducible rfl)
      try simp only [Act.put, List.setIfInBounds_toArray, List.set_cons_zero, List.set_cons_succ]
      refine wpAnyH_take (i := 5) (oi := { dst := some 26, op := Op.fieldAddr 42 (Operand.tmp 6) 1, type := 0, pos := _, after := _, guard := none }) (v := ?_) rfl (by kernel_rfl) (by kernel_rfl) (by kernel_rfl) (fun _ _ _ h => h) (Or.inl ⟨by rfl, ?_⟩) hHeld ?_
      rotate_left 1
      · (intro W hW; (try dsimp only at hW); go_simp; try with_reducible rfl)
      try simp only [Act.put, List.setIfInBounds_toArray, List.set_cons_zero, List.set_cons_succ]
      refine wpAnyH_take (i := 6) (oi := { dst := some 27, op := Op.load 3 (Operand.tmp 26), type := 3, pos := _, after := _, guard := none }) (v := ?_) rfl (by kernel_rfl) (by kernel_rfl) (by kernel_rfl) (fun _ _ _ h => h) (Or.inl ⟨by rfl, ?_⟩) hHeld ?_
      rotate_left 1
      · (intro W hW; have k := HE6.out.under hW HE6.out.lt; have k1 := k.cell 1; have k2 := k.cell 2; (try dsimp only at hW); go_simp; try with_reducible rfl)
      try simp only [Act.put, List.setIfInBounds_toArray, List.set_cons_zero, List.set_cons_succ]
      refine wpAnyH_take (i := 7) (oi := { dst := some 28, op := Op.binOp BinOp.neq 3 (Operand.tmp 25) (Operand.tmp 27) 3, type := 4, pos := _, after := _, guard := none }) (v := ?_) rfl (by kernel_rfl) (by kernel_rfl) (by kernel_rfl) (fun _ _ _ h => h) (Or.inl ⟨by rfl, ?_⟩) hHeld ?_
      rotate_left 1
      · (intro W hW; (try dsimp only at hW); go_simp; try with_reducible rfl)
      try simp only [Act.put, List.setIfInBounds_toArray, List.set_cons_zero, List.set_cons_succ]
      refine wpAnyH_take (i := 8) (oi := { dst := some 29, op := Op.move (Operand.tmp 28), type := 4, pos := _, after := _, guard := none }) (v := ?_) rfl (by kernel_rfl) (by kernel_rfl) (by kernel_rfl) (fun _ _ _ h => h) (Or.inl ⟨by rfl, ?_⟩) hHeld ?_
      rotate_left 1
      · (intro W hW; (try dsimp only at hW); go_simp; try with_reducible rfl)
      try simp only [Act.put, List.setIfInBounds_toArray, List.set_cons_zero, List.set_cons_succ]
      refine wpAnyH_take (i := 9) (oi := { dst := some 30, op := Op.move (Operand.tmp 1), type := 35, pos := _, after := _, guard := some (8, false) }) (v := ?_) rfl (by kernel_rfl) (by kernel_rfl) (by kernel_rfl) (fun _ _ _ h => h) (Or.inl ⟨by rfl, ?_⟩) hHeld ?_
      rotate_left 1
      · (intro W hW; (try dsimp only at hW); go_simp; try with_reducible rfl)
      try simp only [Act.put, List.setIfInBounds_toArray, List.set_cons_zero, List.set_cons_succ]
      refine wpAnyH_take (i := 10) (oi := { dst := some 31, op := Op.move (Operand.tmp 5), type := 3, pos := _, after := _, guard := some (8, false) }) (v := ?_) rfl (by kernel_rfl) (by kernel_rfl) (by kernel_rfl) (fun _ _ _ h => h) (Or.inl ⟨by rfl, ?_⟩) hHeld ?_
      rotate_left 1
      · (intro W hW; (try dsimp only at hW); go_simp; try with_reducible rfl)
      try simp only [Act.put, List.setIfInBounds_toArray, List.set_cons_zero, List.set_cons_succ]
      refine wpAnyH_take (i := 11) (oi := { dst := some 32, op := Op.indexAddr 35 (Operand.tmp 30) (Operand.tmp 31), type := 0, pos := _, after := _, guard := some (8, false) }) (v := ?_) rfl (by kernel_rfl) (by kernel_rfl) (by kernel_rfl) (fun _ _ _ h => h) (Or.inl ⟨by rfl, ?_⟩) hHeld ?_
      rotate_left 1
      · (intro W hW; (try dsimp only at hW); go_simp; try with_reducible rfl)
      try simp only [Act.put, List.setIfInBounds_toArray, List.set_cons_zero, List.set_cons_succ]
      refine wpAnyH_take (i := 12) (oi := { dst := some 33, op := Op.load 28 (Operand.tmp 32), type := 28, pos := _, after := _, guard := some (8, false) }) (v := ?_) rfl (by kernel_rfl) (by kernel_rfl) (by kernel_rfl) (fun _ _ _ h => h) (Or.inl ⟨by rfl, ?_⟩) hHeld ?_
      rotate_left 1
      · (intro W hW; have k0 := (hW.cell (p := ⟨gr, offr + i, none⟩) hgr).trans r6; (try dsimp only at hW); go_simp; try with_reducible rfl)
      try simp only [Act.put, List.setIfInBounds_toArray, List.set_cons_zero, List.set_cons_succ]
      refine wpAnyH_take (i := 15) (oi := { dst := some 36, op := Op.fieldAddr 42 (Operand.tmp 6) 2, type := 0, pos := _, after := _, guard := some (8, false) }) (v := ?_) rfl (by kernel_rfl) (by kernel_rfl) (by kernel_rfl) (fun _ _ _ h => h) (Or.inl ⟨by rfl, ?_⟩) hHeld ?_
      rotate_left 1
      · (intro W hW; (try dsimp only at hW); go_simp; try with_reducible rfl)
      try simp only [Act.put, List.setIfInBounds_toArray, List.set_cons_zero, List.set_cons_succ]
      refine wpAnyH_take (i := 16) (oi := { dst := some 37, op := Op.load 28 (Operand.tmp 36), type := 28, pos := _, after := _, guard := some (8, false) }) (v := ?_) rfl (by kernel_rfl) (by kernel_rfl) (by kernel_rfl) (fun _ _ _ h => h) (Or.inl ⟨by rfl, ?_⟩) hHeld ?_
      rotate_left 1
      · (intro W hW; have k := HE6.out.under hW HE6.out.lt; have k1 := k.cell 1; have k2 := k.cell 2; (try dsimp only at hW); go_simp; try with_reducible rfl)
      try simp only [Act.put, List.setIfInBounds_toArray, List.set_cons_zero, List.set_cons_succ]
      refine wpAnyH_ready (rs := [13]) (by kernel_rfl) (by simp) ?_
      refine AllReadyH.cons (o := { dst := some 34, op := Op.buildSlice 35 1 #[(0, Operand.tmp 33)], type := 35, pos := _, after := _, guard := some (8, false) }) rfl (fun K hK => ?_) AllReadyH.nil
      go_simp
      obtain ⟨w7, hw⟩ : ∃ W, W = (W6.alloc (.cells #[.slice ra rn rc] 28)).drew := ⟨_, rfl⟩
      rw [← hw]
      have b7 : Below W6.heap.size W6 w7 := by rw [hw]; exact ((Below.refl _ W6).alloc (Nat.le_refl _) _).drew
      have S7 : Hid ((fun W => Below W6.heap.size W6 W) w7) := Lib.hid b7
      have HO7 := of_one W6.drew ra rc rn rl HRN.out (HRL.out W6.drew Q6.out.drew) HRO.out (by omega) (HKM.out W6.drew Q6.out.drew)
      rw [show W6.drew.alloc (.cells #[.slice ra rn rc] 28) = (W6.alloc (.cells #[.slice ra rn rc] 28)).drew from rfl, ← hw] at HO7
      have HO7 : Hid (Calls Tryd.prog 38 #[.slice (some ⟨W6.heap.size, 0, none⟩) 1 1] w7 fun e w' => ∃ A' c', e = .returned (.slice A' 32 c') ∧ Rd .u8 w' w'.heap.size A' c' (digest rl) ∧ Below (W6.heap.size + 1) w7 w') := Lib.hid HO7
      have hs7 : w7.heap.size = W6.heap.size + 1 := by rw [hw]; simp
      clear hw b7
      refine hK.out _ _ (S7.out) (fun _ => ?_)
      clear hK K hHeld
      try simp only [Act.put, List.setIfInBounds_toArray, List.set_cons_zero, List.set_cons_succ]
      have hHeld : ((fun W => Below W6.heap.size W6 W)) w7 := S7.out
      refine wpAnyH_ready (rs := [14]) (by kernel_rfl) (by simp) ?_
      refine AllReadyH.cons (o := { dst := some 35, op := Op.call { callee := Callee.value (Operand.func 38), args := #[Operand.tmp 34], argTypes := #[35] }, type := 28, pos := _, after := _, guard := some (8, false) }) rfl (fun K hK => ?_) AllReadyH.nil
      go_simp
      refine HO7.out.mono ?_
      rintro e w8 ⟨A8, c8, rfl, hr8, hb8⟩
      have S8 : Hid ((fun W => Below W6.heap.size W6 W) w8) := Lib.hid (S7.out.trans (hb8.mono (by omega)))
      have HR8 := Lib.hid hr8
      clear hr8 hb8 HO7
      go_simp
      refine hK.out _ _ (S8.out) (fun _ => ?_)
      clear hK K hHeld
      try simp only [Act.put, List.setIfInBounds_toArray, List.set_cons_zero, List.set_cons_succ]
      have hHeld : ((fun W => Below W6.heap.size W6 W)) w8 := S8.out
      refine wpAnyH_ready (rs := [17]) (by kernel_rfl) (by simp) ?_
      refine AllReadyH.cons (o := { dst := some 38, op := Op.call { callee := Callee.value (Operand.func 36), args := #[Operand.tmp 35, Operand.tmp 37], argTypes := #[28, 28] }, type := 4, pos := _, after := _, guard := some (8, false) }) rfl (fun K hK => ?_) AllReadyH.nil
      go_simp
      have heq := equalB w8 A8 da c8 dc 32 n1 (digest rl) dig (digest_length rl) HN1.out HR8.out (HDR.out w8 (Q6.out.trans (S8.out.mono Q6.out.size))) (digest_oct rl) HDO.out
      rw [← HDD.out] at heq
      refine heq.mono ?_
      rintro e w9 ⟨rfl, rfl⟩
      clear heq
      go_simp
      refine hK.out _ _ hHeld (fun _ => ?_)
      clear hK K
      try simp only [Act.put, List.setIfInBounds_toArray, List.set_cons_zero, List.set_cons_succ]
      refine wpAnyH_take (i := 18) (oi := { dst := some 39, op := Op.unOp UnOp.not 4 (Operand.tmp 38), type := 4, pos := _, after := _, guard := some (8, false) }) (v := ?_) rfl (by kernel_rfl) (by kernel_rfl) (by kernel_rfl) (fun _ _ _ h => h) (Or.inl ⟨by rfl, ?_⟩) hHeld ?_
      rotate_left 1
      · (intro W hW; (try dsimp only at hW); go_simp; try with_reducible rfl)
      try simp only [Act.put, List.setIfInBounds_toArray, List.set_cons_zero, List.set_cons_succ]
      refine wpAnyH_take (i := 19) (oi := { dst := some 40, op := Op.pick (Operand.tmp 29) (Operand.const (Value.bool true)) (Operand.tmp 39), type := 4, pos := _, after := _, guard := none }) (v := ?_) rfl (by kernel_rfl) (by kernel_rfl) (by kernel_rfl) (fun _ _ _ h => h) (Or.inl ⟨by rfl, ?_⟩) hHeld ?_
      rotate_left 1
      · (intro W hW; (try dsimp only at hW); go_simp; try with_reducible rfl)
      try simp only [Act.put, List.setIfInBounds_toArray, List.set_cons_zero, List.set_cons_succ]
      refine wpAnyH_done (by kernel_rfl) ?_ _
      refine NoPanic.normal ?_
      cases dd with
      | false =>
        have HE : Hid (r = false) := Lib.hid (HNO.out (.inr rfl))
        go_wp2_with fail
        go_ret
        exact ⟨by rw [HE.out]; rfl, HUP.out _ (Q6.out.trans (S8.out.mono Q6.out.size))⟩
      | true =>
        have HC := Lib.hid (HYES.out rfl)
        have HB8 := Lib.hid (HBr.out.trans ((Q6.out.trans (S8.out.mono Q6.out.size)).mono HBr.out.size))
        go_wp2_with fail
        go_roundw
        case rel => exact ⟨i + 1, by omega, by go_num, HC, HB8.out⟩
        case measure => simp [intOf]; omega
    · obtain rfl : i = n := by omega
      have HE : Hid (r = true) := Lib.hid (by rw [HRE.out]; exact ckAll_yes (by rw [List.length_map, HFN.out, HN.out]) fun j hj => HA.out j (by rw [HN.out] at hj; exact hj))
      have HBB := Lib.hid (HQ.out.trans (hB.mono HQ.out.size))
      clear hB
      go_wp2_with fail
      go_ret
      exact ⟨by rw [HE.out]; rfl, HBB.out⟩
end Go.Proofs.YtdjklhglkmacbaaDoor
namespace Go.Proofs.YtdjklhglkmacbaaDoor
open Go.RowKit
set_option linter.unusedVariables false
set_option linter.unusedSimpArgs false
attribute [local go_sem ↓] Go.wp_at_zero Go.wp_at_succ

set_option maxRecDepth 100000 in
set_option maxHeartbeats 16000000 in
theorem check'_any (w : World) (m : Mf) (h : MfP m w) (A : Option Addr) (c n : Nat) (rs : List Rw) (hn : rs.length = n) (hr : RdR w w.heap.size A c rs) (ho : ∀ j, Oct6 (rs.getD j default).l) (hsz : ∀ j, (rs.getD j default).l.length ≤ 1000) :
    Calls Tryd.prog 17 #[.agg (mcell m).toArray, .slice A n c] w fun e w' => e = .returned (.int .i64 (ckErr (ckAll m.v.files rs))) ∧ Below w.heap.size w w' := by
  obtain ⟨r, HR⟩ : ∃ r, Hid (r = ckAll m.v.files rs) := ⟨_, rfl⟩
  rw [← HR.out]
  have hn0 := Off.of_n h.1
  obtain ⟨name, ctr, fa, fc, files⟩ := m
  have HRE : Hid (r = ckAll (files.map En.v) rs) := Lib.hid HR.out
  clear HR h
  simp only [mcell] at *
  obtain ⟨fn, hfn⟩ : ∃ k, files.length = k := ⟨_, rfl⟩
  rw [hfn]
  generalize (ctr : Int) = u at *
  generalize str name = s at *
  have hq0 : Below w.heap.size w (w.alloc (.cells #[.string s, .int .u64 u, .slice fa fn fc] 25)) := (Below.refl _ _).alloc (Nat.le_refl _) _
  have hz := Holds.fresh w 25 #[.string s, .int .u64 u, .slice fa fn fc]
  have a2 := hz.cell 2
  by_cases hl : n = fn
  case neg =>
    have HE : Hid (r = false) := Lib.hid (by rw [HRE.out]; exact ckAll_len (by rw [List.length_map, hfn, hn]; exact hl))
    have d : ((n : Int) != (fn : Int)) = true := by rw [bne_iff_ne]; omega
    have HQ := Lib.hid hq0
    clear hn hr ho hsz hn0 hfn hq0 hl
    go_enter Tryd.func17, Tryd.ntmps17
    go_wp2_with fail
    go_ret
    exact ⟨by rw [HE.out]; rfl, HQ.out⟩
  subst hl
  have hfc := hn0.at_.1.1
  have hfc63 := hn0.at_.1.2.1
  rw [hfn] at hfc
  have hrc := hr.1
  have hrc63 := hr.2.1
  rw [hn] at hrc
  obtain ⟨V, hV⟩ : ∃ V, V = w.alloc (.cells #[.string s, .int .u64 u, .slice fa n fc] 25) := ⟨_, rfl⟩
  rw [← hV] at hq0 hz
  have HQ := Lib.hid hq0
  have HBX := Lib.hid hz
  have HV := Lib.hid hV
  have HX := Lib.hid (hn0.under hq0)
  have HFN := Lib.hid hfn
  have HN := Lib.hid hn
  have HRR := Lib.hid (hr.under hq0)
  have HO := Lib.hid ho
  have HSZ := Lib.hid hsz
  clear hn hr ho hsz hn0 hfn hq0 hz hV
  have hd : ((n : Int) != (n : Int)) = false := by simp
  go_enter Tryd.func17, Tryd.ntmps17
  go_wp2_with fail
  rw [← HV.out]
  clear HV a2
  go_loopw [5] (fun iv wr => ∃ i : Nat, i ≤ n ∧ iv = .int .i64 (i : Int) ∧ Hid (∀ j, j < i → ckAt ((files.map En.v).getD j default) (rs.getD j default).l = true) ∧ Below V.heap.size V wr) (fun iv _ => n - (intOf iv).toNat)
  case atStart => exact ⟨0, by omega, rfl, fun j hj => by omega, Below.refl _ _⟩
  case round =>
    obtain ⟨i, hi, rfl, HA, hB⟩ := hrel
    clear hd
    by_cases hlt : i < n
    · have hx := (HX.out.under hB).at_
      obtain ⟨g, off, rfl, hg, hcs⟩ := hx.1.2.2 (by rw [HFN.out]; omega)
      obtain ⟨c0, c1, c2⟩ := hcs i (by rw [HFN.out]; exact hlt)
      have hxe := hx.at_ (by rw [HFN.out]; exact hlt)
      have hrr := HRR.out.under (hB.mono HQ.out.size)
      obtain ⟨gr, offr, rfl, hgr0, hrcs⟩ := hrr.2.2.2 (by rw [HN.out]; omega)
      have r0 := hrcs i (by rw [HN.out]; exact hlt)
      have hrl0 := hrr.2.2.1 i (by rw [HN.out]; exact hlt)
      have hro := HO.out i
      have hrz := HSZ.out i
      have hgr : gr < wr.heap.size := by have := HQ.out.size; have := hB.size; omega
      have HNO0 : Hid (ckAt ((files.map En.v).getD i default) (rs.getD i default).l = false → r = false) := Lib.hid fun hh => by rw [HRE.out]; exact ckAll_no (by rw [HN.out]; exact hlt) hh
      have HYES0 : Hid (ckAt ((files.map En.v).getD i default) (rs.getD i default).l = true → ∀ j, j < i + 1 → ckAt ((files.map En.v).getD j default) (rs.getD j default).l = true) := Lib.hid fun hh j hj => by
        rcases Nat.lt_or_ge j i with h3 | h3
        · exact HA.out j h3
        · obtain rfl : j = i := by omega
          exact hh
      rw [en_at (by rw [HFN.out]; exact hlt)] at HNO0 HYES0
      obtain ⟨e, he⟩ : ∃ e, e = files.getD i default := ⟨_, rfl⟩
      obtain ⟨rw0, hrw⟩ : ∃ e, e = rs.getD i default := ⟨_, rfl⟩
      rw [← he] at c0 c1 c2 hxe HNO0 HYES0
      rw [← hrw] at r0 hrl0 hro hrz HNO0 HYES0
      clear he hrw hcs hrcs hx hrr
      obtain ⟨pa, sz, da, dc, dig⟩ := e
      obtain ⟨ra, rc, rl⟩ := rw0
      obtain ⟨hr1, ho1, hop⟩ := hxe
      dsimp only at c0 c1 c2 hr1 ho1 hop r0 hrl0 hro hrz
      obtain ⟨n1, hn1⟩ : ∃ n1, dig.length = n1 := ⟨_, rfl⟩
      obtain ⟨rn, hrn⟩ : ∃ k, rl.length = k := ⟨_, rfl⟩
      rw [hn1] at c2
      rw [hrn] at r0 hrz
      obtain ⟨dd, hdd⟩ : ∃ d, d = decide (digest rl = dig) := ⟨_, rfl⟩
      have HCK : Hid (ckAt (En.v ⟨pa, sz, da, dc, dig⟩) rl = (decide ((rn : Int) = sz) && dd)) := Lib.hid (by unfold ckAt; rw [hrn, hdd]; rfl)
      have HNO : Hid ((rn : Int) ≠ sz ∨ dd = false → r = false) := Lib.hid fun hh => HNO0.out (by
        rw [HCK.out]
        rcases hh with hh | hh
        · rw [decide_eq_false hh]; rfl
        · rw [hh]; simp)
      have HDD := Lib.hid hdd
      have HDR : Hid (∀ W, Below wr.heap.size wr W → Rd .u8 W W.heap.size da dc dig) := Lib.hid fun W hW => (hr1.under hW).more hW.size
      have HRL : Hid (∀ W, Below wr.heap.size wr W → Rd .u8 W W.heap.size ra rc rl) := Lib.hid fun W hW => ((hrl0.more (by have := HQ.out.size; have := hB.size; omega : w.heap.size ≤ wr.heap.size)).under hW).more hW.size
      have HRO := Lib.hid hro
      have HRN := Lib.hid hrn
      have HN1 := Lib.hid hn1
      have HDO := Lib.hid ho1
      have HBr := Lib.hid hB
      have HUP : Hid (∀ W, Below wr.heap.size wr W → Below w.heap.size w W) := Lib.hid fun W hW => HQ.out.trans ((HBr.out.trans (hW.mono HBr.out.size)).mono HQ.out.size)
      have HYES : Hid (dd = true → (rn : Int) = sz → ∀ j, j < i + 1 → ckAt ((files.map En.v).getD j default) (rs.getD j default).l = true) := Lib.hid fun hh hs => HYES0.out (by rw [HCK.out, hh, decide_eq_true hs]; rfl)
      have HBXr := Lib.hid (HBX.out.under hB HBX.out.lt)
      have hgw : g < wr.heap.size := by have := hB.size; omega
      have k2 := HBXr.out.cell 2
      obtain ⟨q1, hq1⟩ : ∃ k, k = str (digest rl) := ⟨_, rfl⟩
      obtain ⟨q2, hq2⟩ : ∃ k, k = str dig := ⟨_, rfl⟩
      have HZ0 := Lib.hid hq1
      have HZ1 := Lib.hid hq2
      have HEQ : Hid ((q1.toList == q2.toList) = dd) := Lib.hid (by
        rw [hq1, hq2, hdd]
        by_cases hx : digest rl = dig
        · rw [decide_eq_true hx, hx]; exact str_same _
        · rw [decide_eq_false hx]; exact str_ne (digest_oct rl) ho1 hx)
      generalize str pa = ps at *
      clear hr1 ho1 hop hrl0 hro hn1 hrn hdd hB HNO0 HYES0 HCK hg hgr0 hq1 hq2
      by_cases hss : (rn : Int) = sz
      case neg =>
        have HE : Hid (r = false) := Lib.hid (HNO.out (.inl hss))
        have d : ((rn : Int) != sz) = true := by rw [bne_iff_ne]; exact hss
        have HB6 := Lib.hid (HUP.out _ (Below.refl _ wr))
        clear hss
        go_wp2_with fail
        go_quiet (fail)
        go_wp2_with fail
        go_ret
        exact ⟨by rw [HE.out]; rfl, below_drewN HB6.out _⟩
      have d : ((rn : Int) != sz) = false := by rw [hss]; simp
      have HYES : Hid (dd = true → ∀ j, j < i + 1 → ckAt ((files.map En.v).getD j default) (rs.getD j default).l = true) := Lib.hid fun hh => HYES.out hh hss
      clear hss
      rcases dd with _ | _
      · have HE : Hid (r = false) := Lib.hid (HNO.out (.inr rfl))
        have d4 := HEQ.out
        have d4' : (q1.toList != q2.toList) = true := by rw [bne, d4]; rfl
        go_wp2_with fail
        refine wp_region_noPanic ?_
        refine wp_region_held_drew (S := fun W => Below wr.heap.size wr W) (by kernel_rfl) (Below.refl _ wr).drew (fun hHeld => ?_)
        refine wpAnyH_take (i := 0) (oi := { dst := some 18, op := Op.move (Operand.tmp 1), type := 35, pos := _, after := _, guard := none }) (v := ?_) rfl (by kernel_rfl) (by kernel_rfl) (by kernel_rfl) (fun _ _ _ h => h) (Or.inl ⟨by rfl, ?_⟩) hHeld ?_
        rotate_left 1
        · (intro W hW; (try dsimp only at hW); go_simp; try with_reducible rfl)
        try simp only [Act.put, List.setIfInBounds_toArray, List.set_cons_zero, List.set_cons_succ]
        refine wpAnyH_take (i := 1) (oi := { dst := some 19, op := Op.move (Operand.tmp 5), type := 3, pos := _, after := _, guard := none }) (v := ?_) rfl (by kernel_rfl) (by kernel_rfl) (by kernel_rfl) (fun _ _ _ h => h) (Or.inl ⟨by rfl, ?_⟩) hHeld ?_
        rotate_left 1
        · (intro W hW; (try dsimp only at hW); go_simp; try with_reducible rfl)
        try simp only [Act.put, List.setIfInBounds_toArray, List.set_cons_zero, List.set_cons_succ]
        refine wpAnyH_take (i := 2) (oi := { dst := some 20, op := Op.indexAddr 35 (Operand.tmp 18) (Operand.tmp 19), type := 0, pos := _, after := _, guard := none }) (v := ?_) rfl (by kernel_rfl) (by kernel_rfl) (by kernel_rfl) (fun _ _ _ h => h) (Or.inl ⟨by rfl, ?_⟩) hHeld ?_
        rotate_left 1
        · (intro W hW; (try dsimp only at hW); go_simp; try with_reducible rfl)
        try simp only [Act.put, List.setIfInBounds_toArray, List.set_cons_zero, List.set_cons_succ]
        refine wpAnyH_take (i := 3) (oi := { dst := some 21, op := Op.load 28 (Operand.tmp 20), type := 28, pos := _, after := _, guard := none }) (v := ?_) rfl (by kernel_rfl) (by kernel_rfl) (by kernel_rfl) (fun _ _ _ h => h) (Or.inl ⟨by rfl, ?_⟩) hHeld ?_
        rotate_left 1
        · (intro W hW; have k0 := (hW.cell (p := ⟨gr, offr + i, none⟩) hgr).trans r0; (try dsimp only at hW); go_simp; try with_reducible rfl)
        try simp only [Act.put, List.setIfInBounds_toArray, List.set_cons_zero, List.set_cons_succ]
        refine wpAnyH_take (i := 4) (oi := { dst := some 22, op := Op.call { callee := Callee.builtin Builtin.len, args := #[Operand.tmp 21], argTypes := #[28] }, type := 3, pos := _, after := _, guard := none }) (v := ?_) rfl (by kernel_rfl) (by kernel_rfl) (by kernel_rfl) (fun _ _ _ h => h) (Or.inl ⟨by rfl, ?_⟩) hHeld ?_
        rotate_left 1
        · (intro W hW; (try dsimp only at hW); go_simp; try with_reducible rfl)
        try simp only [Act.put, List.setIfInBounds_toArray, List.set_cons_zero, List.set_cons_succ]
        refine wpAnyH_take (i := 5) (oi := { dst := some 23, op := Op.fieldAddr 25 (Operand.tmp 2) 2, type := 0, pos := _, after := _, guard := none }) (v := ?_) rfl (by kernel_rfl) (by kernel_rfl) (by kernel_rfl) (fun _ _ _ h => h) (Or.inl ⟨by rfl, ?_⟩) hHeld ?_
        rotate_left 1
        · (intro W hW; (try dsimp only at hW); go_simp; try with_reducible rfl)
        try simp only [Act.put, List.setIfInBounds_toArray, List.set_cons_zero, List.set_cons_succ]
        refine wpAnyH_take (i := 6) (oi := { dst := some 24, op := Op.load 23 (Operand.tmp 23), type := 23, pos := _, after := _, guard := none }) (v := ?_) rfl (by kernel_rfl) (by kernel_rfl) (by kernel_rfl) (fun _ _ _ h => h) (Or.inl ⟨by rfl, ?_⟩) hHeld ?_
        rotate_left 1
        · (intro W hW; have hbx := HBXr.out.under hW HBXr.out.lt; have k2 := hbx.cell 2; (try dsimp only at hW); go_simp; try with_reducible rfl)
        try simp only [Act.put, List.setIfInBounds_toArray, List.set_cons_zero, List.set_cons_succ]
        refine wpAnyH_take (i := 7) (oi := { dst := some 25, op := Op.move (Operand.tmp 5), type := 3, pos := _, after := _, guard := none }) (v := ?_) rfl (by kernel_rfl) (by kernel_rfl) (by kernel_rfl) (fun _ _ _ h => h) (Or.inl ⟨by rfl, ?_⟩) hHeld ?_
        rotate_left 1
        · (intro W hW; (try dsimp only at hW); go_simp; try with_reducible rfl)
        try simp only [Act.put, List.setIfInBounds_toArray, List.set_cons_zero, List.set_cons_succ]
        refine wpAnyH_take (i := 8) (oi := { dst := some 26, op := Op.indexAddr 23 (Operand.tmp 24) (Operand.tmp 25), type := 0, pos := _, after := _, guard := none }) (v := ?_) rfl (by kernel_rfl) (by kernel_rfl) (by kernel_rfl) (fun _ _ _ h => h) (Or.inl ⟨by rfl, ?_⟩) hHeld ?_
        rotate_left 1
        · (intro W hW; (try dsimp only at hW); go_simp; try with_reducible rfl)
        try simp only [Act.put, List.setIfInBounds_toArray, List.set_cons_zero, List.set_cons_succ]
        refine wpAnyH_take (i := 9) (oi := { dst := some 27, op := Op.fieldAddr 42 (Operand.tmp 26) 1, type := 0, pos := _, after := _, guard := none }) (v := ?_) rfl (by kernel_rfl) (by kernel_rfl) (by kernel_rfl) (fun _ _ _ h => h) (Or.inl ⟨by rfl, ?_⟩) hHeld ?_
        rotate_left 1
        · (intro W hW; (try dsimp only at hW); go_simp; try with_reducible rfl)
        try simp only [Act.put, List.setIfInBounds_toArray, List.set_cons_zero, List.set_cons_succ]
        refine wpAnyH_take (i := 10) (oi := { dst := some 28, op := Op.load 3 (Operand.tmp 27), type := 3, pos := _, after := _, guard := none }) (v := ?_) rfl (by kernel_rfl) (by kernel_rfl) (by kernel_rfl) (fun _ _ _ h => h) (Or.inl ⟨by rfl, ?_⟩) hHeld ?_
        rotate_left 1
        · (intro W hW; have k1 := (hW.cell (p := ⟨g, off + i * 3 + 1, none⟩) hgw).trans c1; (try dsimp only at hW); go_simp; try with_reducible rfl)
        try simp only [Act.put, List.setIfInBounds_toArray, List.set_cons_zero, List.set_cons_succ]
        refine wpAnyH_take (i := 11) (oi := { dst := some 29, op := Op.binOp BinOp.neq 3 (Operand.tmp 22) (Operand.tmp 28) 3, type := 4, pos := _, after := _, guard := none }) (v := ?_) rfl (by kernel_rfl) (by kernel_rfl) (by kernel_rfl) (fun _ _ _ h => h) (Or.inl ⟨by rfl, ?_⟩) hHeld ?_
        rotate_left 1
        · (intro W hW; (try dsimp only at hW); go_simp; try with_reducible rfl)
        try simp only [Act.put, List.setIfInBounds_toArray, List.set_cons_zero, List.set_cons_succ]
        refine wpAnyH_take (i := 12) (oi := { dst := some 30, op := Op.move (Operand.tmp 29), type := 4, pos := _, after := _, guard := none }) (v := ?_) rfl (by kernel_rfl) (by kernel_rfl) (by kernel_rfl) (fun _ _ _ h => h) (Or.inl ⟨by rfl, ?_⟩) hHeld ?_
        rotate_left 1
        · (intro W hW; (try dsimp only at hW); go_simp; try with_reducible rfl)
        try simp only [Act.put, List.setIfInBounds_toArray, List.set_cons_zero, List.set_cons_succ]
        refine wpAnyH_take (i := 13) (oi := { dst := some 31, op := Op.move (Operand.tmp 1), type := 35, pos := _, after := _, guard := some (12, false) }) (v := ?_) rfl (by kernel_rfl) (by kernel_rfl) (by kernel_rfl) (fun _ _ _ h => h) (Or.inl ⟨by rfl, ?_⟩) hHeld ?_
        rotate_left 1
        · (intro W hW; (try dsimp only at hW); go_simp; try with_reducible rfl)
        try simp only [Act.put, List.setIfInBounds_toArray, List.set_cons_zero, List.set_cons_succ]
        refine wpAnyH_take (i := 14) (oi := { dst := some 32, op := Op.move (Operand.tmp 5), type := 3, pos := _, after := _, guard := some (12, false) }) (v := ?_) rfl (by kernel_rfl) (by kernel_rfl) (by kernel_rfl) (fun _ _ _ h => h) (Or.inl ⟨by rfl, ?_⟩) hHeld ?_
        rotate_left 1
        · (intro W hW; (try dsimp only at hW); go_simp; try with_reducible rfl)
        try simp only [Act.put, List.setIfInBounds_toArray, List.set_cons_zero, List.set_cons_succ]
        refine wpAnyH_take (i := 15) (oi := { dst := some 33, op := Op.indexAddr 35 (Operand.tmp 31) (Operand.tmp 32), type := 0, pos := _, after := _, guard := some (12, false) }) (v := ?_) rfl (by kernel_rfl) (by kernel_rfl) (by kernel_rfl) (fun _ _ _ h => h) (Or.inl ⟨by rfl, ?_⟩) hHeld ?_
        rotate_left 1
        · (intro W hW; (try dsimp only at hW); go_simp; try with_reducible rfl)
        try simp only [Act.put, List.setIfInBounds_toArray, List.set_cons_zero, List.set_cons_succ]
        refine wpAnyH_take (i := 16) (oi := { dst := some 34, op := Op.load 28 (Operand.tmp 33), type := 28, pos := _, after := _, guard := some (12, false) }) (v := ?_) rfl (by kernel_rfl) (by kernel_rfl) (by kernel_rfl) (fun _ _ _ h => h) (Or.inl ⟨by rfl, ?_⟩) hHeld ?_
        rotate_left 1
        · (intro W hW; have k0 := (hW.cell (p := ⟨gr, offr + i, none⟩) hgr).trans r0; (try dsimp only at hW); go_simp; try with_reducible rfl)
        try simp only [Act.put, List.setIfInBounds_toArray, List.set_cons_zero, List.set_cons_succ]
        refine wpAnyH_take (i := 19) (oi := { dst := some 37, op := Op.fieldAddr 25 (Operand.tmp 2) 2, type := 0, pos := _, after := _, guard := some (12, false) }) (v := ?_) rfl (by kernel_rfl) (by kernel_rfl) (by kernel_rfl) (fun _ _ _ h => h) (Or.inl ⟨by rfl, ?_⟩) hHeld ?_
        rotate_left 1
        · (intro W hW; (try dsimp only at hW); go_simp; try with_reducible rfl)
        try simp only [Act.put, List.setIfInBounds_toArray, List.set_cons_zero, List.set_cons_succ]
        refine wpAnyH_take (i := 20) (oi := { dst := some 38, op := Op.load 23 (Operand.tmp 37), type := 23, pos := _, after := _, guard := some (12, false) }) (v := ?_) rfl (by kernel_rfl) (by kernel_rfl) (by kernel_rfl) (fun _ _ _ h => h) (Or.inl ⟨by rfl, ?_⟩) hHeld ?_
        rotate_left 1
        · (intro W hW; have hbx := HBXr.out.under hW HBXr.out.lt; have k2 := hbx.cell 2; (try dsimp only at hW); go_simp; try with_reducible rfl)
        try simp only [Act.put, List.setIfInBounds_toArray, List.set_cons_zero, List.set_cons_succ]
        refine wpAnyH_take (i := 21) (oi := { dst := some 39, op := Op.move (Operand.tmp 5), type := 3, pos := _, after := _, guard := some (12, false) }) (v := ?_) rfl (by kernel_rfl) (by kernel_rfl) (by kernel_rfl) (fun _ _ _ h => h) (Or.inl ⟨by rfl, ?_⟩) hHeld ?_
        rotate_left 1
        · (intro W hW; (try dsimp only at hW); go_simp; try with_reducible rfl)
        try simp only [Act.put, List.setIfInBounds_toArray, List.set_cons_zero, List.set_cons_succ]
        refine wpAnyH_take (i := 22) (oi := { dst := some 40, op := Op.indexAddr 23 (Operand.tmp 38) (Operand.tmp 39), type := 0, pos := _, after := _, guard := some (12, false) }) (v := ?_) rfl (by kernel_rfl) (by kernel_rfl) (by kernel_rfl) (fun _ _ _ h => h) (Or.inl ⟨by rfl, ?_⟩) hHeld ?_
        rotate_left 1
        · (intro W hW; (try dsimp only at hW); go_simp; try with_reducible rfl)
        try simp only [Act.put, List.setIfInBounds_toArray, List.set_cons_zero, List.set_cons_succ]
        refine wpAnyH_take (i := 23) (oi := { dst := some 41, op := Op.fieldAddr 42 (Operand.tmp 40) 2, type := 0, pos := _, after := _, guard := some (12, false) }) (v := ?_) rfl (by kernel_rfl) (by kernel_rfl) (by kernel_rfl) (fun _ _ _ h => h) (Or.inl ⟨by rfl, ?_⟩) hHeld ?_
        rotate_left 1
        · (intro W hW; (try dsimp only at hW); go_simp; try with_reducible rfl)
        try simp only [Act.put, List.setIfInBounds_toArray, List.set_cons_zero, List.set_cons_succ]
        refine wpAnyH_take (i := 24) (oi := { dst := some 42, op := Op.load 28 (Operand.tmp 41), type := 28, pos := _, after := _, guard := some (12, false) }) (v := ?_) rfl (by kernel_rfl) (by kernel_rfl) (by kernel_rfl) (fun _ _ _ h => h) (Or.inl ⟨by rfl, ?_⟩) hHeld ?_
        rotate_left 1
        · (intro W hW; have k2 := (hW.cell (p := ⟨g, off + i * 3 + 2, none⟩) hgw).trans c2; (try dsimp only at hW); go_simp; try with_reducible rfl)
        try simp only [Act.put, List.setIfInBounds_toArray, List.set_cons_zero, List.set_cons_succ]
        refine wpAnyH_take (i := 25) (oi := { dst := some 43, op := Op.convert 28 9 (Operand.tmp 42), type := 9, pos := _, after := _, guard := some (12, false) }) (v := ?_) rfl (by kernel_rfl) (by kernel_rfl) (by kernel_rfl) (fun _ _ _ h => h) (Or.inl ⟨by rfl, ?_⟩) hHeld ?_
        rotate_left 1
        · (intro W hW; have hcv := conv_str (HDR.out _ hW) HN1.out HDO.out; rw [← HZ1.out] at hcv; (try dsimp only at hW); go_simp; try with_reducible rfl)
        try simp only [Act.put, List.setIfInBounds_toArray, List.set_cons_zero, List.set_cons_succ]
        refine wpAnyH_ready (rs := [17]) (by kernel_rfl) (by simp) ?_
        refine AllReadyH.cons (o := { dst := some 35, op := Op.call { callee := Callee.value (Operand.func 18), args := #[Operand.tmp 34], argTypes := #[28] }, type := 28, pos := _, after := _, guard := some (12, false) }) rfl (fun K hK => ?_) AllReadyH.nil
        go_simp
        refine (shaOf'_any _ _ ra rc rn rl HRN.out (HRL.out _ (Below.refl _ wr).drew) (Nat.le_refl _) HRO.out (by omega)).mono ?_
        rintro e w8 ⟨A8, c8, rfl, hr8, hb8⟩
        have S8 : Hid (Below wr.heap.size wr w8) := Lib.hid ((Below.refl _ wr).drew.trans hb8)
        have HR8 := Lib.hid hr8
        clear hr8 hb8
        go_simp
        refine hK.out _ _ (S8.out) (fun _ => ?_)
        clear hK K hHeld
        try simp only [Act.put, List.setIfInBounds_toArray, List.set_cons_zero, List.set_cons_succ]
        refine wpAnyH_strong (S' := fun W => Below w8.heap.size w8 W) (fun W hW => S8.out.trans (hW.mono S8.out.size)) _ _ _ _ ?_
        have hHeld : (fun W => Below w8.heap.size w8 W) w8 := Below.refl _ _
        refine wpAnyH_take (i := 18) (oi := { dst := some 36, op := Op.convert 28 9 (Operand.tmp 35), type := 9, pos := _, after := _, guard := some (12, false) }) (v := ?_) rfl (by kernel_rfl) (by kernel_rfl) (by kernel_rfl) (fun _ _ _ h => h) (Or.inl ⟨by rfl, ?_⟩) hHeld ?_
        rotate_left 1
        · (intro W hW; have hcv := conv_str (HR8.out.under hW) (n := 32) (digest_length rl) (digest_oct rl); rw [← HZ0.out] at hcv; (try dsimp only at hW); go_simp; try with_reducible rfl)
        try simp only [Act.put, List.setIfInBounds_toArray, List.set_cons_zero, List.set_cons_succ]
        refine wpAnyH_take (i := 26) (oi := { dst := some 44, op := Op.binOp BinOp.neq 9 (Operand.tmp 36) (Operand.tmp 43) 9, type := 4, pos := _, after := _, guard := some (12, false) }) (v := ?_) rfl (by kernel_rfl) (by kernel_rfl) (by kernel_rfl) (fun _ _ _ h => h) (Or.inl ⟨by rfl, ?_⟩) hHeld ?_
        rotate_left 1
        · (intro W hW; (try dsimp only at hW); go_simp; try with_reducible rfl)
        try simp only [Act.put, List.setIfInBounds_toArray, List.set_cons_zero, List.set_cons_succ]
        refine wpAnyH_take (i := 27) (oi := { dst := some 45, op := Op.pick (Operand.tmp 30) (Operand.const (Value.bool true)) (Operand.tmp 44), type := 4, pos := _, after := _, guard := none }) (v := ?_) rfl (by kernel_rfl) (by kernel_rfl) (by kernel_rfl) (fun _ _ _ h => h) (Or.inl ⟨by rfl, ?_⟩) hHeld ?_
        rotate_left 1
        · (intro W hW; (try dsimp only at hW); go_simp; try with_reducible rfl)
        try simp only [Act.put, List.setIfInBounds_toArray, List.set_cons_zero, List.set_cons_succ]
        refine wpAnyH_done (by kernel_rfl) ?_ _
        refine NoPanic.normal ?_
        go_wp2_with fail
        go_ret
        exact ⟨by rw [HE.out]; rfl, HUP.out _ S8.out⟩
      · have HC := Lib.hid (HYES.out rfl)
        have d4 := HEQ.out
        have d4' : (q1.toList != q2.toList) = false := by rw [bne, d4]; rfl
        go_wp2_with fail
        refine wp_region_noPanic ?_
        refine wp_region_held_drew (S := fun W => Below wr.heap.size wr W) (by kernel_rfl) (Below.refl _ wr).drew (fun hHeld => ?_)
        refine wpAnyH_take (i := 0) (oi := { dst := some 18, op := Op.move (Operand.tmp 1), type := 35, pos := _, after := _, guard := none }) (v := ?_) rfl (by kernel_rfl) (by kernel_rfl) (by kernel_rfl) (fun _ _ _ h => h) (Or.inl ⟨by rfl, ?_⟩) hHeld ?_
        rotate_left 1
        · (intro W hW; (try dsimp only at hW); go_simp; try with_reducible rfl)
        try simp only [Act.put, List.setIfInBounds_toArray, List.set_cons_zero, List.set_cons_succ]
        refine wpAnyH_take (i := 1) (oi := { dst := some 19, op := Op.move (Operand.tmp 5), type := 3, pos := _, after := _, guard := none }) (v := ?_) rfl (by kernel_rfl) (by kernel_rfl) (by kernel_rfl) (fun _ _ _ h => h) (Or.inl ⟨by rfl, ?_⟩) hHeld ?_
        rotate_left 1
        · (intro W hW; (try dsimp only at hW); go_simp; try with_reducible rfl)
        try simp only [Act.put, List.setIfInBounds_toArray, List.set_cons_zero, List.set_cons_succ]
        refine wpAnyH_take (i := 2) (oi := { dst := some 20, op := Op.indexAddr 35 (Operand.tmp 18) (Operand.tmp 19), type := 0, pos := _, after := _, guard := none }) (v := ?_) rfl (by kernel_rfl) (by kernel_rfl) (by kernel_rfl) (fun _ _ _ h => h) (Or.inl ⟨by rfl, ?_⟩) hHeld ?_
        rotate_left 1
        · (intro W hW; (try dsimp only at hW); go_simp; try with_reducible rfl)
        try simp only [Act.put, List.setIfInBounds_toArray, List.set_cons_zero, List.set_cons_succ]
        refine wpAnyH_take (i := 3) (oi := { dst := some 21, op := Op.load 28 (Operand.tmp 20), type := 28, pos := _, after := _, guard := none }) (v := ?_) rfl (by kernel_rfl) (by kernel_rfl) (by kernel_rfl) (fun _ _ _ h => h) (Or.inl ⟨by rfl, ?_⟩) hHeld ?_
        rotate_left 1
        · (intro W hW; have k0 := (hW.cell (p := ⟨gr, offr + i, none⟩) hgr).trans r0; (try dsimp only at hW); go_simp; try with_reducible rfl)
        try simp only [Act.put, List.setIfInBounds_toArray, List.set_cons_zero, List.set_cons_succ]
        refine wpAnyH_take (i := 4) (oi := { dst := some 22, op := Op.call { callee := Callee.builtin Builtin.len, args := #[Operand.tmp 21], argTypes := #[28] }, type := 3, pos := _, after := _, guard := none }) (v := ?_) rfl (by kernel_rfl) (by kernel_rfl) (by kernel_rfl) (fun _ _ _ h => h) (Or.inl ⟨by rfl, ?_⟩) hHeld ?_
        rotate_left 1
        · (intro W hW; (try dsimp only at hW); go_simp; try with_reducible rfl)
        try simp only [Act.put, List.setIfInBounds_toArray, List.set_cons_zero, List.set_cons_succ]
        refine wpAnyH_take (i := 5) (oi := { dst := some 23, op := Op.fieldAddr 25 (Operand.tmp 2) 2, type := 0, pos := _, after := _, guard := none }) (v := ?_) rfl (by kernel_rfl) (by kernel_rfl) (by kernel_rfl) (fun _ _ _ h => h) (Or.inl ⟨by rfl, ?_⟩) hHeld ?_
        rotate_left 1
        · (intro W hW; (try dsimp only at hW); go_simp; try with_reducible rfl)
        try simp only [Act.put, List.setIfInBounds_toArray, List.set_cons_zero, List.set_cons_succ]
        refine wpAnyH_take (i := 6) (oi := { dst := some 24, op := Op.load 23 (Operand.tmp 23), type := 23, pos := _, after := _, guard := none }) (v := ?_) rfl (by kernel_rfl) (by kernel_rfl) (by kernel_rfl) (fun _ _ _ h => h) (Or.inl ⟨by rfl, ?_⟩) hHeld ?_
        rotate_left 1
        · (intro W hW; have hbx := HBXr.out.under hW HBXr.out.lt; have k2 := hbx.cell 2; (try dsimp only at hW); go_simp; try with_reducible rfl)
        try simp only [Act.put, List.setIfInBounds_toArray, List.set_cons_zero, List.set_cons_succ]
        refine wpAnyH_take (i := 7) (oi := { dst := some 25, op := Op.move (Operand.tmp 5), type := 3, pos := _, after := _, guard := none }) (v := ?_) rfl (by kernel_rfl) (by kernel_rfl) (by kernel_rfl) (fun _ _ _ h => h) (Or.inl ⟨by rfl, ?_⟩) hHeld ?_
        rotate_left 1
        · (intro W hW; (try dsimp only at hW); go_simp; try with_reducible rfl)
        try simp only [Act.put, List.setIfInBounds_toArray, List.set_cons_zero, List.set_cons_succ]
        refine wpAnyH_take (i := 8) (oi := { dst := some 26, op := Op.indexAddr 23 (Operand.tmp 24) (Operand.tmp 25), type := 0, pos := _, after := _, guard := none }) (v := ?_) rfl (by kernel_rfl) (by kernel_rfl) (by kernel_rfl) (fun _ _ _ h => h) (Or.inl ⟨by rfl, ?_⟩) hHeld ?_
        rotate_left 1
        · (intro W hW; (try dsimp only at hW); go_simp; try with_reducible rfl)
        try simp only [Act.put, List.setIfInBounds_toArray, List.set_cons_zero, List.set_cons_succ]
        refine wpAnyH_take (i := 9) (oi := { dst := some 27, op := Op.fieldAddr 42 (Operand.tmp 26) 1, type := 0, pos := _, after := _, guard := none }) (v := ?_) rfl (by kernel_rfl) (by kernel_rfl) (by kernel_rfl) (fun _ _ _ h => h) (Or.inl ⟨by rfl, ?_⟩) hHeld ?_
        rotate_left 1
        · (intro W hW; (try dsimp only at hW); go_simp; try with_reducible rfl)
        try simp only [Act.put, List.setIfInBounds_toArray, List.set_cons_zero, List.set_cons_succ]
        refine wpAnyH_take (i := 10) (oi := { dst := some 28, op := Op.load 3 (Operand.tmp 27), type := 3, pos := _, after := _, guard := none }) (v := ?_) rfl (by kernel_rfl) (by kernel_rfl) (by kernel_rfl) (fun _ _ _ h => h) (Or.inl ⟨by rfl, ?_⟩) hHeld ?_
        rotate_left 1
        · (intro W hW; have k1 := (hW.cell (p := ⟨g, off + i * 3 + 1, none⟩) hgw).trans c1; (try dsimp only at hW); go_simp; try with_reducible rfl)
        try simp only [Act.put, List.setIfInBounds_toArray, List.set_cons_zero, List.set_cons_succ]
        refine wpAnyH_take (i := 11) (oi := { dst := some 29, op := Op.binOp BinOp.neq 3 (Operand.tmp 22) (Operand.tmp 28) 3, type := 4, pos := _, after := _, guard := none }) (v := ?_) rfl (by kernel_rfl) (by kernel_rfl) (by kernel_rfl) (fun _ _ _ h => h) (Or.inl ⟨by rfl, ?_⟩) hHeld ?_
        rotate_left 1
        · (intro W hW; (try dsimp only at hW); go_simp; try with_reducible rfl)
        try simp only [Act.put, List.setIfInBounds_toArray, List.set_cons_zero, List.set_cons_succ]
        refine wpAnyH_take (i := 12) (oi := { dst := some 30, op := Op.move (Operand.tmp 29), type := 4, pos := _, after := _, guard := none }) (v := ?_) rfl (by kernel_rfl) (by kernel_rfl) (by kernel_rfl) (fun _ _ _ h => h) (Or.inl ⟨by rfl, ?_⟩) hHeld ?_
        rotate_left 1
        · (intro W hW; (try dsimp only at hW); go_simp; try with_reducible rfl)
        try simp only [Act.put, List.setIfInBounds_toArray, List.set_cons_zero, List.set_cons_succ]
        refine wpAnyH_take (i := 13) (oi := { dst := some 31, op := Op.move (Operand.tmp 1), type := 35, pos := _, after := _, guard := some (12, false) }) (v := ?_) rfl (by kernel_rfl) (by kernel_rfl) (by kernel_rfl) (fun _ _ _ h => h) (Or.inl ⟨by rfl, ?_⟩) hHeld ?_
        rotate_left 1
        · (intro W hW; (try dsimp only at hW); go_simp; try with_reducible rfl)
        try simp only [Act.put, List.setIfInBounds_toArray, List.set_cons_zero, List.set_cons_succ]
        refine wpAnyH_take (i := 14) (oi := { dst := some 32, op := Op.move (Operand.tmp 5), type := 3, pos := _, after := _, guard := some (12, false) }) (v := ?_) rfl (by kernel_rfl) (by kernel_rfl) (by kernel_rfl) (fun _ _ _ h => h) (Or.inl ⟨by rfl, ?_⟩) hHeld ?_
        rotate_left 1
        · (intro W hW; (try dsimp only at hW); go_simp; try with_reducible rfl)
        try simp only [Act.put, List.setIfInBounds_toArray, List.set_cons_zero, List.set_cons_succ]
        refine wpAnyH_take (i := 15) (oi := { dst := some 33, op := Op.indexAddr 35 (Operand.tmp 31) (Operand.tmp 32), type := 0, pos := _, after := _, guard := some (12, false) }) (v := ?_) rfl (by kernel_rfl) (by kernel_rfl) (by kernel_rfl) (fun _ _ _ h => h) (Or.inl ⟨by rfl, ?_⟩) hHeld ?_
        rotate_left 1
        · (intro W hW; (try dsimp only at hW); go_simp; try with_reducible rfl)
        try simp only [Act.put, List.setIfInBounds_toArray, List.set_cons_zero, List.set_cons_succ]
        refine wpAnyH_take (i := 16) (oi := { dst := some 34, op := Op.load 28 (Operand.tmp 33), type := 28, pos := _, after := _, guard := some (12, false) }) (v := ?_) rfl (by kernel_rfl) (by kernel_rfl) (by kernel_rfl) (fun _ _ _ h => h) (Or.inl ⟨by rfl, ?_⟩) hHeld ?_
        rotate_left 1
        · (intro W hW; have k0 := (hW.cell (p := ⟨gr, offr + i, none⟩) hgr).trans r0; (try dsimp only at hW); go_simp; try with_reducible rfl)
        try simp only [Act.put, List.setIfInBounds_toArray, List.set_cons_zero, List.set_cons_succ]
        refine wpAnyH_take (i := 19) (oi := { dst := some 37, op := Op.fieldAddr 25 (Operand.tmp 2) 2, type := 0, pos := _, after := _, guard := some (12, false) }) (v := ?_) rfl (by kernel_rfl) (by kernel_rfl) (by kernel_rfl) (fun _ _ _ h => h) (Or.inl ⟨by rfl, ?_⟩) hHeld ?_
        rotate_left 1
        · (intro W hW; (try dsimp only at hW); go_simp; try with_reducible rfl)
        try simp only [Act.put, List.setIfInBounds_toArray, List.set_cons_zero, List.set_cons_succ]
        refine wpAnyH_take (i := 20) (oi := { dst := some 38, op := Op.load 23 (Operand.tmp 37), type := 23, pos := _, after := _, guard := some (12, false) }) (v := ?_) rfl (by kernel_rfl) (by kernel_rfl) (by kernel_rfl) (fun _ _ _ h => h) (Or.inl ⟨by rfl, ?_⟩) hHeld ?_
        rotate_left 1
        · (intro W hW; have hbx := HBXr.out.under hW HBXr.out.lt; have k2 := hbx.cell 2; (try dsimp only at hW); go_simp; try with_reducible rfl)
        try simp only [Act.put, List.setIfInBounds_toArray, List.set_cons_zero, List.set_cons_succ]
        refine wpAnyH_take (i := 21) (oi := { dst := some 39, op := Op.move (Operand.tmp 5), type := 3, pos := _, after := _, guard := some (12, false) }) (v := ?_) rfl (by kernel_rfl) (by kernel_rfl) (by kernel_rfl) (fun _ _ _ h => h) (Or.inl ⟨by rfl, ?_⟩) hHeld ?_
        rotate_left 1
        · (intro W hW; (try dsimp only at hW); go_simp; try with_reducible rfl)
        try simp only [Act.put, List.setIfInBounds_toArray, List.set_cons_zero, List.set_cons_succ]
        refine wpAnyH_take (i := 22) (oi := { dst := some 40, op := Op.indexAddr 23 (Operand.tmp 38) (Operand.tmp 39), type := 0, pos := _, after := _, guard := some (12, false) }) (v := ?_) rfl (by kernel_rfl) (by kernel_rfl) (by kernel_rfl) (fun _ _ _ h => h) (Or.inl ⟨by rfl, ?_⟩) hHeld ?_
        rotate_left 1
        · (intro W hW; (try dsimp only at hW); go_simp; try with_reducible rfl)
        try simp only [Act.put, List.setIfInBounds_toArray, List.set_cons_zero, List.set_cons_succ]
        refine wpAnyH_take (i := 23) (oi := { dst := some 41, op := Op.fieldAddr 42 (Operand.tmp 40) 2, type := 0, pos := _, after := _, guard := some (12, false) }) (v := ?_) rfl (by kernel_rfl) (by kernel_rfl) (by kernel_rfl) (fun _ _ _ h => h) (Or.inl ⟨by rfl, ?_⟩) hHeld ?_
        rotate_left 1
        · (intro W hW; (try dsimp only at hW); go_simp; try with_reducible rfl)
        try simp only [Act.put, List.setIfInBounds_toArray, List.set_cons_zero, List.set_cons_succ]
        refine wpAnyH_take (i := 24) (oi := { dst := some 42, op := Op.load 28 (Operand.tmp 41), type := 28, pos := _, after := _, guard := some (12, false) }) (v := ?_) rfl (by kernel_rfl) (by kernel_rfl) (by kernel_rfl) (fun _ _ _ h => h) (Or.inl ⟨by rfl, ?_⟩) hHeld ?_
        rotate_left 1
        · (intro W hW; have k2 := (hW.cell (p := ⟨g, off + i * 3 + 2, none⟩) hgw).trans c2; (try dsimp only at hW); go_simp; try with_reducible rfl)
        try simp only [Act.put, List.setIfInBounds_toArray, List.set_cons_zero, List.set_cons_succ]
        refine wpAnyH_take (i := 25) (oi := { dst := some 43, op := Op.convert 28 9 (Operand.tmp 42), type := 9, pos := _, after := _, guard := some (12, false) }) (v := ?_) rfl (by kernel_rfl) (by kernel_rfl) (by kernel_rfl) (fun _ _ _ h => h) (Or.inl ⟨by rfl, ?_⟩) hHeld ?_
        rotate_left 1
        · (intro W hW; have hcv := conv_str (HDR.out _ hW) HN1.out HDO.out; rw [← HZ1.out] at hcv; (try dsimp only at hW); go_simp; try with_reducible rfl)
        try simp only [Act.put, List.setIfInBounds_toArray, List.set_cons_zero, List.set_cons_succ]
        refine wpAnyH_ready (rs := [17]) (by kernel_rfl) (by simp) ?_
        refine AllReadyH.cons (o := { dst := some 35, op := Op.call { callee := Callee.value (Operand.func 18), args := #[Operand.tmp 34], argTypes := #[28] }, type := 28, pos := _, after := _, guard := some (12, false) }) rfl (fun K hK => ?_) AllReadyH.nil
        go_simp
        refine (shaOf'_any _ _ ra rc rn rl HRN.out (HRL.out _ (Below.refl _ wr).drew) (Nat.le_refl _) HRO.out (by omega)).mono ?_
        rintro e w8 ⟨A8, c8, rfl, hr8, hb8⟩
        have S8 : Hid (Below wr.heap.size wr w8) := Lib.hid ((Below.refl _ wr).drew.trans hb8)
        have HR8 := Lib.hid hr8
        clear hr8 hb8
        go_simp
        refine hK.out _ _ (S8.out) (fun _ => ?_)
        clear hK K hHeld
        try simp only [Act.put, List.setIfInBounds_toArray, List.set_cons_zero, List.set_cons_succ]
        refine wpAnyH_strong (S' := fun W => Below w8.heap.size w8 W) (fun W hW => S8.out.trans (hW.mono S8.out.size)) _ _ _ _ ?_
        have hHeld : (fun W => Below w8.heap.size w8 W) w8 := Below.refl _ _
        refine wpAnyH_take (i := 18) (oi := { dst := some 36, op := Op.convert 28 9 (Operand.tmp 35), type := 9, pos := _, after := _, guard := some (12, false) }) (v := ?_) rfl (by kernel_rfl) (by kernel_rfl) (by kernel_rfl) (fun _ _ _ h => h) (Or.inl ⟨by rfl, ?_⟩) hHeld ?_
        rotate_left 1
        · (intro W hW; have hcv := conv_str (HR8.out.under hW) (n := 32) (digest_length rl) (digest_oct rl); rw [← HZ0.out] at hcv; (try dsimp only at hW); go_simp; try with_reducible rfl)
        try simp only [Act.put, List.setIfInBounds_toArray, List.set_cons_zero, List.set_cons_succ]
        refine wpAnyH_take (i := 26) (oi := { dst := some 44, op := Op.binOp BinOp.neq 9 (Operand.tmp 36) (Operand.tmp 43) 9, type := 4, pos := _, after := _, guard := some (12, false) }) (v := ?_) rfl (by kernel_rfl) (by kernel_rfl) (by kernel_rfl) (fun _ _ _ h => h) (Or.inl ⟨by rfl, ?_⟩) hHeld ?_
        rotate_left 1
        · (intro W hW; (try dsimp only at hW); go_simp; try with_reducible rfl)
        try simp only [Act.put, List.setIfInBounds_toArray, List.set_cons_zero, List.set_cons_succ]
        refine wpAnyH_take (i := 27) (oi := { dst := some 45, op := Op.pick (Operand.tmp 30) (Operand.const (Value.bool true)) (Operand.tmp 44), type := 4, pos := _, after := _, guard := none }) (v := ?_) rfl (by kernel_rfl) (by kernel_rfl) (by kernel_rfl) (fun _ _ _ h => h) (Or.inl ⟨by rfl, ?_⟩) hHeld ?_
        rotate_left 1
        · (intro W hW; (try dsimp only at hW); go_simp; try with_reducible rfl)
        try simp only [Act.put, List.setIfInBounds_toArray, List.set_cons_zero, List.set_cons_succ]
        refine wpAnyH_done (by kernel_rfl) ?_ _
        refine NoPanic.normal ?_
        have HB8 := Lib.hid (HBr.out.trans (S8.out.mono HBr.out.size))
        go_wp2_with fail
        go_roundw
        case rel => exact ⟨i + 1, by omega, by go_num, HC, HB8.out⟩
        case measure => simp [intOf]; omega
    · obtain rfl : i = n := by omega
      have HE : Hid (r = true) := Lib.hid (by rw [HRE.out]; exact ckAll_yes (by rw [List.length_map, HFN.out, HN.out]) fun j hj => HA.out j (by rw [HN.out] at hj; exact hj))
      have HBB := Lib.hid (HQ.out.trans (hB.mono HQ.out.size))
      clear hB
      go_wp2_with fail
      go_ret
      exact ⟨by rw [HE.out]; rfl, HBB.out⟩
end Go.Proofs.YtdjklhglkmacbaaDoor
namespace Go.Proofs.YtdjklhglkmacbaaDoor
open Go.RowKit
set_option linter.unusedVariables false
set_option linter.unusedSimpArgs false
attribute [local go_sem ↓] Go.wp_at_zero Go.wp_at_succ

theorem rdR_up {w W : World} {A : Option Addr} {c : Nat} {rs : List Rw} (h : RdR w w.heap.size A c rs) (hW : Below w.heap.size w W) : RdR W W.heap.size A c rs := by
  have h' := h.under hW
  have hs := hW.size
  exact ⟨h'.1, h'.2.1, fun j hj => (h'.2.2.1 j hj).more hs, fun hn => by
    obtain ⟨b, off, e, hlt, hc⟩ := h'.2.2.2 hn
    exact ⟨b, off, e, by omega, hc⟩⟩
set_option maxRecDepth 100000 in
set_option maxHeartbeats 8000000 in
theorem law_checks (w : World) (hT : Lib.Utf8Tabs 0 1 w) (hk : KMet w) (m : Mf) (h : MfP m w) (A : Option Addr) (c n : Nat) (rs : List Rw) (hn : rs.length = n) (hr : RdR w w.heap.size A c rs) (ho : ∀ j, Oct6 (rs.getD j default).l) :
    Calls Tryd.prog 4 #[.agg (mcell m).toArray, .slice A n c] w fun e w' => e = .returned (.bool true) ∧ Below w.heap.size w w' := by
  have hO := Off.of_m h
  obtain ⟨r, hrr⟩ : ∃ r, r = mfOk m.v := ⟨_, rfl⟩
  obtain ⟨k, hkk⟩ : ∃ k, k = ckErr (ckAll m.v.files rs) := ⟨_, rfl⟩
  have HTW : Hid (∀ W, Below w.heap.size w W → Lib.Utf8Tabs 0 1 W) := Lib.hid fun W hW => Utf8Tabs_below hT hW
  have GLA := Lib.hid fun W => long22_any W m
  have GIR := Lib.hid fun W (hW : Below w.heap.size w W) => mfIs'_any W m (hO.under hW).at_
  have GCA := Lib.hid fun (hsz : ∀ j, (rs.getD j default).l.length ≤ 1000) W (hW : Below w.heap.size w W) => check_any W m (hO.under hW).at_ A c n rs hn (rdR_up hr hW) ho hsz (hk.under hW)
  have GCR := Lib.hid fun (hsz : ∀ j, (rs.getD j default).l.length ≤ 1000) W (hW : Below w.heap.size w W) => check'_any W m (hO.under hW).at_ A c n rs hn (rdR_up hr hW) ho hsz
  rw [← hrr] at GIR
  rw [← hkk] at GCA GCR
  generalize longV m = la at *
  clear hrr hkk hO h hT hk ho
  obtain ⟨name, ctr, fa, fc, files⟩ := m
  simp only [mcell] at *
  generalize files.length = fn at *
  generalize (ctr : Int) = u at *
  generalize str name = s at *
  have hq0 : Below w.heap.size w (w.alloc (.cells #[.string s, .int .u64 u, .slice fa fn fc] 25)) := (Below.refl _ _).alloc (Nat.le_refl _) _
  have hA := Holds.fresh w 25 #[.string s, .int .u64 u, .slice fa fn fc]
  have a0 := hA.cell 0
  have a1 := hA.cell 1
  have a2 := hA.cell 2
  have hrc := hr.1
  have hrc63 := hr.2.1
  rw [hn] at hrc
  obtain ⟨V, hV⟩ : ∃ V, V = (w.alloc (.cells #[.string s, .int .u64 u, .slice fa fn fc] 25)) := ⟨_, rfl⟩
  rw [← hV] at hq0 hA
  have HQ := Lib.hid hq0
  have HA := Lib.hid hA
  have HV := Lib.hid hV
  have HN := Lib.hid hn
  have HRR := Lib.hid (hr.under hq0)
  have HUP : Hid (∀ W, Below V.heap.size V W → Below w.heap.size w W) := Lib.hid fun W hW => hq0.trans (hW.mono hq0.size)
  have HLA : Hid (∀ W, Calls Tryd.prog 7 #[.agg #[.string s, .int .u64 u, .slice fa fn fc]] W fun e w' => e = .returned (.bool la) ∧ Below W.heap.size W w') := Lib.hid GLA.out
  have HIR : Hid (∀ W, Below V.heap.size V W → Calls Tryd.prog 8 #[.agg #[.string s, .int .u64 u, .slice fa fn fc]] W fun e w' => e = .returned (.bool r) ∧ Below W.heap.size W w') := Lib.hid fun W hW => GIR.out W (HUP.out W hW)
  have HCA0 : Hid ((∀ j, (rs.getD j default).l.length ≤ 1000) → ∀ W, Below V.heap.size V W → Calls Tryd.prog 16 #[.agg #[.string s, .int .u64 u, .slice fa fn fc], .slice A n c] W fun e w' => e = .returned (.int .i64 k) ∧ Below W.heap.size W w') := Lib.hid fun hs W hW => GCA.out hs W (HUP.out W hW)
  have HCR0 : Hid ((∀ j, (rs.getD j default).l.length ≤ 1000) → ∀ W, Below V.heap.size V W → Calls Tryd.prog 17 #[.agg #[.string s, .int .u64 u, .slice fa fn fc], .slice A n c] W fun e w' => e = .returned (.int .i64 k) ∧ Below W.heap.size W w') := Lib.hid fun hs W hW => GCR.out hs W (HUP.out W hW)
  have HKN : Hid (∀ W, Below V.heap.size V W → Calls Tryd.prog 15 #[] W fun e w' => e = .returned (.bool true) ∧ Below W.heap.size W w') := Lib.hid fun W hW => known22_any W (HTW.out W (HUP.out W hW))
  clear hq0 hA hV hn hr GLA GIR GCA GCR HTW
  go_enter Tryd.func4, Tryd.ntmps4
  go_wp2_with fail
  rw [← HV.out]
  refine (HLA.out V).mono ?_
  rintro e w1 ⟨rfl, hb1⟩
  have B1 : Hid (Below V.heap.size V w1) := Lib.hid hb1
  clear a0 a1 a2 HV hb1 HLA
  rcases la with _ | _
  case true =>
    go_wp2_with fail
    go_ret
    exact ⟨rfl, HUP.out _ B1.out⟩
  by_cases h40 : 40 < n
  · have d : decide ((40 : Int) < (n : Int)) = true := decide_eq_true (by omega)
    clear h40
    go_wp2_with fail
    go_ret
    exact ⟨rfl, HUP.out _ B1.out⟩
  have d : decide ((40 : Int) < (n : Int)) = false := decide_eq_false (by omega)
  have ha := HA.out.under B1.out HA.out.lt
  have a0 := ha.cell 0
  have a1 := ha.cell 1
  have a2 := ha.cell 2
  clear ha h40
  go_wp2_with fail
  refine (HIR.out w1 B1.out).mono ?_
  rintro e w2 ⟨rfl, hb2⟩
  have B2 : Hid (Below V.heap.size V w2) := Lib.hid (B1.out.trans (hb2.mono B1.out.size))
  clear a0 a1 a2 hb2 HIR d
  rcases r with _ | _
  · go_wp2_with fail
    go_ret
    exact ⟨rfl, HUP.out _ B2.out⟩
  go_wp2_with fail
  go_loopw [5] (fun iv wr => ∃ i : Nat, i ≤ n ∧ iv = .int .i64 (i : Int) ∧ Hid (∀ j, j < i → (rs.getD j default).l.length ≤ 1000) ∧ Below V.heap.size V wr) (fun iv _ => n - (intOf iv).toNat)
  case atStart => exact ⟨0, by omega, rfl, fun j hj => by omega, B2.out⟩
  case round =>
    obtain ⟨i, hi, rfl, HS, hB⟩ := hrel
    have B4 : Hid (Below V.heap.size V wr) := Lib.hid hB
    by_cases hlt : i < n
    · obtain ⟨gr, offr, rfl, hgr0, hrcs⟩ := HRR.out.2.2.2 (by rw [HN.out]; omega)
      have r0 := (hB.cell (p := ⟨gr, offr + i, none⟩) (by have := HQ.out.size; show gr < _; omega)).trans (hrcs i (by rw [HN.out]; exact hlt))
      have HS1 : Hid ((rs.getD i default).l.length ≤ 1000 → ∀ j, j < i + 1 → (rs.getD j default).l.length ≤ 1000) := Lib.hid fun hh j hj => by
        rcases Nat.lt_or_ge j i with h3 | h3
        · exact HS.out j h3
        · obtain rfl : j = i := by omega
          exact hh
      generalize (rs.getD i default).l.length = rn at *
      generalize (rs.getD i default).a = ra at *
      generalize (rs.getD i default).c = rc at *
      clear hB hrcs
      by_cases hz : 1000 < rn
      · have d : decide ((1000 : Int) < (rn : Int)) = true := decide_eq_true (by omega)
        clear hz
        go_wp2_with fail
        go_ret
        exact ⟨rfl, HUP.out _ B4.out⟩
      · have d : decide ((1000 : Int) < (rn : Int)) = false := decide_eq_false (by omega)
        have HC := Lib.hid (HS1.out (by omega))
        clear hz
        go_wp2_with fail
        go_roundw
        case rel => exact ⟨i + 1, by omega, by go_num, HC, B4.out⟩
        case measure => simp [intOf]; omega
    · obtain rfl : i = n := by omega
      have hsz : ∀ j, (rs.getD j default).l.length ≤ 1000 := fun j => by
        rcases Nat.lt_or_ge j i with h3 | h3
        · exact HS.out j h3
        · rw [show rs.getD j default = default by rw [List.getD, List.getElem?_eq_none (by rw [HN.out]; omega)]; rfl]
          exact (by decide : (0 : Nat) ≤ 1000)
      have HCA := Lib.hid (HCA0.out hsz)
      have HCR := Lib.hid (HCR0.out hsz)
      clear hsz hB
      go_wp2_with fail
      refine wp_region_noPanic ?_
      refine wp_region_held_drew (S := (fun W => Below V.heap.size V W)) (by kernel_rfl) (B4.out.drew) (fun hHeld => ?_)
      refine wpAnyH_take (i := 0) (oi := { dst := some 30, op := Op.load 25 (Operand.tmp 2), type := 25, pos := _, after := _, guard := none }) (v := ?_) rfl (by kernel_rfl) (by kernel_rfl) (by kernel_rfl) (fun _ _ _ h => h) (Or.inl ⟨by rfl, ?_⟩) hHeld ?_
      rotate_left 1
      · (intro W hW; have k := HA.out.under hW HA.out.lt; have k0 := k.cell 0; have k1 := k.cell 1; have k2 := k.cell 2; (try dsimp only at hW); go_simp; try with_reducible rfl)
      try simp only [Act.put, List.setIfInBounds_toArray, List.set_cons_zero, List.set_cons_succ]
      refine wpAnyH_take (i := 1) (oi := { dst := some 31, op := Op.move (Operand.tmp 1), type := 35, pos := _, after := _, guard := none }) (v := ?_) rfl (by kernel_rfl) (by kernel_rfl) (by kernel_rfl) (fun _ _ _ h => h) (Or.inl ⟨by rfl, ?_⟩) hHeld ?_
      rotate_left 1
      · (intro W hW; (try dsimp only at hW); go_simp; try with_reducible rfl)
      try simp only [Act.put, List.setIfInBounds_toArray, List.set_cons_zero, List.set_cons_succ]
      refine wpAnyH_take (i := 3) (oi := { dst := some 33, op := Op.load 25 (Operand.tmp 2), type := 25, pos := _, after := _, guard := none }) (v := ?_) rfl (by kernel_rfl) (by kernel_rfl) (by kernel_rfl) (fun _ _ _ h => h) (Or.inl ⟨by rfl, ?_⟩) hHeld ?_
      rotate_left 1
      · (intro W hW; have k := HA.out.under hW HA.out.lt; have k0 := k.cell 0; have k1 := k.cell 1; have k2 := k.cell 2; (try dsimp only at hW); go_simp; try with_reducible rfl)
      try simp only [Act.put, List.setIfInBounds_toArray, List.set_cons_zero, List.set_cons_succ]
      refine wpAnyH_take (i := 4) (oi := { dst := some 34, op := Op.move (Operand.tmp 1), type := 35, pos := _, after := _, guard := none }) (v := ?_) rfl (by kernel_rfl) (by kernel_rfl) (by kernel_rfl) (fun _ _ _ h => h) (Or.inl ⟨by rfl, ?_⟩) hHeld ?_
      rotate_left 1
      · (intro W hW; (try dsimp only at hW); go_simp; try with_reducible rfl)
      try simp only [Act.put, List.setIfInBounds_toArray, List.set_cons_zero, List.set_cons_succ]
      refine wpAnyH_ready (rs := [2]) (by kernel_rfl) (by simp) ?_
      refine AllReadyH.cons (o := { dst := some 32, op := Op.call { callee := Callee.value (Operand.func 16), args := #[Operand.tmp 30, Operand.tmp 31], argTypes := #[25, 35] }, type := 36, pos := _, after := _, guard := none }) rfl (fun K hK => ?_) AllReadyH.nil
      go_simp
      refine (HCA.out _ B4.out.drew).mono ?_
      rintro e w5 ⟨rfl, hb⟩
      have S5 : Hid ((fun W => Below V.heap.size V W) w5) := Lib.hid (B4.out.drew.trans (hb.mono B4.out.drew.size))
      clear hb
      go_simp
      refine hK.out _ _ (S5.out) (fun _ => ?_)
      clear hK K hHeld
      try simp only [Act.put, List.setIfInBounds_toArray, List.set_cons_zero, List.set_cons_succ]
      have hHeld : ((fun W => Below V.heap.size V W)) w5 := S5.out
      refine wpAnyH_ready (rs := [5]) (by kernel_rfl) (by simp) ?_
      refine AllReadyH.cons (o := { dst := some 35, op := Op.call { callee := Callee.value (Operand.func 17), args := #[Operand.tmp 33, Operand.tmp 34], argTypes := #[25, 35] }, type := 3, pos := _, after := _, guard := none }) rfl (fun K hK => ?_) AllReadyH.nil
      go_simp
      refine (HCR.out _ S5.out).mono ?_
      rintro e w6 ⟨rfl, hb⟩
      have S6 : Hid ((fun W => Below V.heap.size V W) w6) := Lib.hid (S5.out.trans (hb.mono S5.out.size))
      clear hb
      go_simp
      refine hK.out _ _ (S6.out) (fun _ => ?_)
      clear hK K hHeld
      try simp only [Act.put, List.setIfInBounds_toArray, List.set_cons_zero, List.set_cons_succ]
      have hHeld : ((fun W => Below V.heap.size V W)) w6 := S6.out
      refine wpAnyH_take (i := 6) (oi := { dst := some 36, op := Op.binOp BinOp.eql 3 (Operand.tmp 32) (Operand.tmp 35) 3, type := 4, pos := _, after := _, guard := none }) (v := ?_) rfl (by kernel_rfl) (by kernel_rfl) (by kernel_rfl) (fun _ _ _ h => h) (Or.inl ⟨by rfl, ?_⟩) hHeld ?_
      rotate_left 1
      · (intro W hW; (try dsimp only at hW); go_simp; try with_reducible rfl)
      try simp only [Act.put, List.setIfInBounds_toArray, List.set_cons_zero, List.set_cons_succ]
      refine wpAnyH_take (i := 7) (oi := { dst := some 37, op := Op.move (Operand.tmp 36), type := 4, pos := _, after := _, guard := none }) (v := ?_) rfl (by kernel_rfl) (by kernel_rfl) (by kernel_rfl) (fun _ _ _ h => h) (Or.inl ⟨by rfl, ?_⟩) hHeld ?_
      rotate_left 1
      · (intro W hW; (try dsimp only at hW); go_simp; try with_reducible rfl)
      try simp only [Act.put, List.setIfInBounds_toArray, List.set_cons_zero, List.set_cons_succ]
      refine wpAnyH_ready (rs := [8]) (by kernel_rfl) (by simp) ?_
      refine AllReadyH.cons (o := { dst := some 38, op := Op.call { callee := Callee.value (Operand.func 15), args := #[], argTypes := #[] }, type := 4, pos := _, after := _, guard := some (7, true) }) rfl (fun K hK => ?_) AllReadyH.nil
      go_simp
      refine (HKN.out _ S6.out).mono ?_
      rintro e w7 ⟨rfl, hb⟩
      have S7 : Hid ((fun W => Below V.heap.size V W) w7) := Lib.hid (S6.out.trans (hb.mono S6.out.size))
      clear hb
      go_simp
      refine hK.out _ _ (S7.out) (fun _ => ?_)
      clear hK K hHeld
      try simp only [Act.put, List.setIfInBounds_toArray, List.set_cons_zero, List.set_cons_succ]
      have hHeld : ((fun W => Below V.heap.size V W)) w7 := S7.out
      refine wpAnyH_take (i := 9) (oi := { dst := some 39, op := Op.pick (Operand.tmp 37) (Operand.tmp 38) (Operand.const (Value.bool false)), type := 4, pos := _, after := _, guard := none }) (v := ?_) rfl (by kernel_rfl) (by kernel_rfl) (by kernel_rfl) (fun _ _ _ h => h) (Or.inl ⟨by rfl, ?_⟩) hHeld ?_
      rotate_left 1
      · (intro W hW; (try dsimp only at hW); go_simp; try with_reducible rfl)
      try simp only [Act.put, List.setIfInBounds_toArray, List.set_cons_zero, List.set_cons_succ]
      refine wpAnyH_take (i := 10) (oi := { dst := some 4, op := Op.assign (Operand.tmp 39), type := 4, pos := _, after := _, guard := none }) (v := ?_) rfl (by kernel_rfl) (by kernel_rfl) (by kernel_rfl) (fun _ _ _ h => h) (Or.inl ⟨by rfl, ?_⟩) hHeld ?_
      rotate_left 1
      · (intro W hW; (try dsimp only at hW); go_simp; try with_reducible rfl)
      try simp only [Act.put, List.setIfInBounds_toArray, List.set_cons_zero, List.set_cons_succ]
      refine wpAnyH_done (by kernel_rfl) ?_ _
      refine NoPanic.normal ?_
      go_wp2_with fail
      go_ret
      exact ⟨rfl, HQ.out.trans (S7.out.mono HQ.out.size)⟩
end Go.Proofs.YtdjklhglkmacbaaDoor
