/-
  Keys that may not be, by hand (statement RsaKeys).
-/
import Derived.Test.YtebhpjbjfbadjaaKrB
import Derived.Test.YtebhpjbjfbadjaaKr9
namespace Go.Proofs.Ytebhpjbjfbadjaa
open Go.RowKit
set_option linter.unusedVariables false
set_option linter.unusedSimpArgs false

theorem ver_no {v : KV} {d s : List Nat} (h : rsaOk v = false) : rsaVer v d s = false := by unfold rsaVer; rw [h]; rfl
theorem zeros_oct {n : Nat} : ∀ x ∈ List.replicate n 0, x < 256 := fun x hx => by rw [(List.mem_replicate.1 hx).2]; omega
theorem rd_zeros {W W' : World} {n : Nat} {z : List Nat} (h : W' = W.alloc (.cells (nums .u8 z) 5)) (hz : z.length = n) (hn : n ≤ 1000) : Rd .u8 W' W'.heap.size (some ⟨W.heap.size, 0, none⟩) n z := by
  subst h
  have h : Row .u8 5 (W.alloc (.cells (nums .u8 z) 5)) W.heap.size z := Holds.fresh W _ _
  exact (rd_whole (c := n) h (by omega) (by omega)).more (Holds.lt h)
theorem rd_rowN {W : World} {g n : Nat} {L : List Nat} (h : Row .u32 24 W g L) (hl : L.length = n) (hn : n ≤ 1000) : Rd .u32 W W.heap.size (some ⟨g, 0, none⟩) n L := by
  subst hl
  exact (rd_whole h (Nat.le_refl _) (by omega)).more (Holds.lt h)
theorem dg_nil9 : Dg [] := fun x hx => by cases hx
theorem own_store0 {w : World} {g c : Nat} (h : Own .u32 24 w 0 (some ⟨g, 0, none⟩) c (List.replicate 128 0 ++ [1])) :
    w.cell? ⟨g, 0, none⟩ = some (.int .u32 0) ∧ w.frozen? ⟨g, 0, none⟩ = false ∧ Own .u32 24 (w.setCell ⟨g, 0, none⟩ (.int .u32 1)) 0 (some ⟨g, 0, none⟩) c (1 :: (List.replicate 127 0 ++ [1])) := by
  refine ⟨?_, ?_, ?_⟩
  · obtain ⟨b, off, e, hb, hc⟩ := h.rd.2.2 (by simp)
    have h0 := hc 0 (by simp)
    injection e with e
    injection e with e1 e2
    subst e1 e2
    exact h0
  · rcases h.2 with ⟨h', _⟩ | ⟨g', cap', cur, h', hb, hg, _⟩
    · simp at h'
    · simp only [Value.slice.injEq, Option.some.injEq, Addr.mk.injEq, and_true, true_and] at h'
      obtain ⟨rfl, _⟩ := h'
      simp [World.frozen?, hg]
  · have h2 := (World.ownsRow.stored h 0 (.int .u32 ((1 : Nat) : Int))).1
    exact h2
set_option maxRecDepth 100000 in
set_option maxHeartbeats 4000000 in
theorem keys_0 (w : World) : Calls Try.prog 6 #[.int .i64 0] w fun e w' => e = .returned (.bool true) ∧ Below w.heap.size w w' := by
  have HP := Lib.hid (prime_even w 0 (by decide))
  go_enter Try.func6, Try.ntmps6
  go_wp2_with fail
  refine HP.out.mono ?_
  rintro e w1 ⟨g, n, A, c, r, D, rfl, hl, hg, hR, hn, hr, hD, hB1⟩
  rw [pl521_len]
  clear HP hn hr hD hl
  have hB : Below w.heap.size w (w1.alloc (.cells #[.int .i64 2, .slice (some ⟨g, 0, none⟩) 17 17, .int .u32 65537, .slice none 0 0, .slice none 0 0, .bool false] 28)) := hB1.trans (((Below.refl _ _).alloc (Nat.le_refl _) _).mono hB1.size)
  have hH := Holds.fresh w1 28 #[.int .i64 2, .slice (some ⟨g, 0, none⟩) 17 17, .int .u32 65537, .slice none 0 0, .slice none 0 0, .bool false]
  have hR2 := Holds.alloc hR (.cells #[.int .i64 2, .slice (some ⟨g, 0, none⟩) 17 17, .int .u32 65537, .slice none 0 0, .slice none 0 0, .bool false] 28)
  obtain ⟨V, hV⟩ : ∃ V, V = (w1.alloc (.cells #[.int .i64 2, .slice (some ⟨g, 0, none⟩) 17 17, .int .u32 65537, .slice none 0 0, .slice none 0 0, .bool false] 28)) := ⟨_, rfl⟩
  rw [← hV] at hB hH hR2
  have hky : KyP (⟨2, some ⟨g, 0, none⟩, 17, pl521, 65537, none, 0, [], none, 0, [], false⟩ : Ky) V := ⟨rd_rowN (n := 17) hR2 pl521_len (by omega), pl521_dg, Rd.nil_ _ _ _, dg_nil9, Rd.nil_ _ _ _, dg_nil9, (show 65537 < 4294967296 by omega)⟩
  have hnl : (Ky.n (⟨2, some ⟨g, 0, none⟩, 17, pl521, 65537, none, 0, [], none, 0, [], false⟩ : Ky)).length ≤ 5000 := show (pl521).length ≤ 5000 from by decide +kernel
  have hnl2 : (Ky.n (⟨2, some ⟨g, 0, none⟩, 17, pl521, 65537, none, 0, [], none, 0, [], false⟩ : Ky)).length ≤ 1000 := show (pl521).length ≤ 1000 from by decide +kernel
  have HV := Lib.hid hV
  have hno : rsaOk (Ky.v (⟨2, some ⟨g, 0, none⟩, 17, pl521, 65537, none, 0, [], none, 0, [], false⟩ : Ky)) = false := show rsaOk ⟨2, pl521, 65537, [], [], false⟩ = false from by decide +kernel
  have HA := Lib.hid hH
  have HQ := Lib.hid hB
  have S0 : Hid ((fun W => Below V.heap.size V W) V) := Lib.hid (Below.refl _ _)
  have hof := Off.of_ky hky
  have HIS : Hid (∀ W, Below V.heap.size V W → Calls Try.prog 9 #[.agg #[.int .i64 2, .slice (some ⟨g, 0, none⟩) 17 17, .int .u32 65537, .slice none 0 0, .slice none 0 0, .bool false]] W fun e w' => e = .returned (.bool false) ∧ Below W.heap.size W w') := Lib.hid fun W hW => by
    have h := rsaIs_any W (⟨2, some ⟨g, 0, none⟩, 17, pl521, 65537, none, 0, [], none, 0, [], false⟩ : Ky) (hof.under hW).at_ hnl
    rw [hno] at h
    exact h
  have HVE : Hid (∀ W, Below V.heap.size V W → ∀ (A2 : Option Addr) (c2 dn : Nat) (d : List Nat) (hd : Rd .u8 W W.heap.size A2 c2 d) (hdn : d.length = dn) (ho : ∀ x ∈ d, x < 256) (A3 : Option Addr) (c3 sn : Nat) (s : List Nat) (hsg : Rd .u8 W W.heap.size A3 c3 s) (hsn : s.length = sn) (ho3 : ∀ x ∈ s, x < 256), Calls Try.prog 11 #[.agg #[.int .i64 2, .slice (some ⟨g, 0, none⟩) 17 17, .int .u32 65537, .slice none 0 0, .slice none 0 0, .bool false], .slice A2 dn c2, .slice A3 sn c3] W fun e w' => e = .returned (.bool false) ∧ Below W.heap.size W w') := Lib.hid fun W hW A2 c2 dn d hd hdn ho A3 c3 sn s hsg hsn ho3 => by
    have h := rsaVerify_any W (⟨2, some ⟨g, 0, none⟩, 17, pl521, 65537, none, 0, [], none, 0, [], false⟩ : Ky) (hof.under hW).at_ hnl2 ⟨by simp, by simp⟩ A2 c2 dn d hd hdn ho A3 c3 sn s hsg hsn ho3
    rw [ver_no hno] at h
    exact h
  clear hno hof hky hH hB hnl hnl2
  clear hV hR2 hR hB1
  go_wp2_with fail
  rw [← HV.out]
  go_wp2_with fail
  refine wp_region_noPanic ?_
  refine wp_region_held_drew (S := (fun W => Below V.heap.size V W)) (by kernel_rfl) (S0.out.drew) (fun hHeld => ?_)
  refine wpAnyH_take (i := 0) (oi := { dst := some 61, op := Op.load 28 (Operand.tmp 3), type := 28, pos := _, after := _, guard := none }) (v := ?_) rfl (by kernel_rfl) (by kernel_rfl) (by kernel_rfl) (fun _ _ _ h => h) (Or.inl ⟨by rfl, ?_⟩) hHeld ?_
  rotate_left 1
  · (intro W hW; have k := HA.out.under hW HA.out.lt; have k0 := k.cell 0; have k1 := k.cell 1; have k2 := k.cell 2; have k3 := k.cell 3; have k4 := k.cell 4; have k5 := k.cell 5; (try dsimp only at hW); go_simp; try with_reducible rfl)
  try simp only [Act.put, List.setIfInBounds_toArray, List.set_cons_zero, List.set_cons_succ]
  refine wpAnyH_ready (rs := [1]) (by kernel_rfl) (by simp) ?_
  refine AllReadyH.cons (o := { dst := some 62, op := Op.call { callee := Callee.value (Operand.func 9), args := #[Operand.tmp 61], argTypes := #[28] }, type := 4, pos := _, after := _, guard := none }) rfl (fun K hK => ?_) AllReadyH.nil
  go_simp
  refine (HIS.out _ S0.out.drew).mono ?_
  rintro e w1c ⟨rfl, hb⟩
  have S1 : Hid ((fun W => Below V.heap.size V W) w1c) := Lib.hid (S0.out.drew.trans (hb.mono S0.out.drew.size))
  clear hb
  go_simp
  refine hK.out _ _ (S1.out) (fun hHeld => ?_)
  clear hK K
  try simp only [Act.put, List.setIfInBounds_toArray, List.set_cons_zero, List.set_cons_succ]
  refine wpAnyH_take (i := 2) (oi := { dst := some 63, op := Op.unOp UnOp.not 4 (Operand.tmp 62), type := 4, pos := _, after := _, guard := none }) (v := ?_) rfl (by kernel_rfl) (by kernel_rfl) (by kernel_rfl) (fun _ _ _ h => h) (Or.inl ⟨by rfl, ?_⟩) hHeld ?_
  rotate_left 1
  · (intro W hW; (try dsimp only at hW); go_simp; try with_reducible rfl)
  try simp only [Act.put, List.setIfInBounds_toArray, List.set_cons_zero, List.set_cons_succ]
  refine wpAnyH_take (i := 3) (oi := { dst := some 64, op := Op.move (Operand.tmp 63), type := 4, pos := _, after := _, guard := none }) (v := ?_) rfl (by kernel_rfl) (by kernel_rfl) (by kernel_rfl) (fun _ _ _ h => h) (Or.inl ⟨by rfl, ?_⟩) hHeld ?_
  rotate_left 1
  · (intro W hW; (try dsimp only at hW); go_simp; try with_reducible rfl)
  try simp only [Act.put, List.setIfInBounds_toArray, List.set_cons_zero, List.set_cons_succ]
  refine wpAnyH_take (i := 4) (oi := { dst := some 65, op := Op.load 28 (Operand.tmp 3), type := 28, pos := _, after := _, guard := some (3, true) }) (v := ?_) rfl (by kernel_rfl) (by kernel_rfl) (by kernel_rfl) (fun _ _ _ h => h) (Or.inl ⟨by rfl, ?_⟩) hHeld ?_
  rotate_left 1
  · (intro W hW; have k := HA.out.under hW HA.out.lt; have k0 := k.cell 0; have k1 := k.cell 1; have k2 := k.cell 2; have k3 := k.cell 3; have k4 := k.cell 4; have k5 := k.cell 5; (try dsimp only at hW); go_simp; try with_reducible rfl)
  try simp only [Act.put, List.setIfInBounds_toArray, List.set_cons_zero, List.set_cons_succ]
  refine wpAnyH_ready (rs := [5, 6]) (by kernel_rfl) (by simp) ?_
  refine AllReadyH.cons (o := { dst := some 66, op := Op.makeSlice 29 (Operand.const (Value.int IntKind.i64 32)) (Operand.const (Value.int IntKind.i64 32)), type := 29, pos := _, after := _, guard := some (3, true) }) rfl (fun K hK => ?_) ?_
  · have hm := make_bytes (32 : Int) 32 rfl (by omega) w1c
    obtain ⟨z5, hz5⟩ : ∃ z, z = List.replicate 32 0 := ⟨_, rfl⟩
    rw [← hz5] at hm
    have HZL5 : Hid (z5.length = 32) := Lib.hid (by rw [hz5]; simp)
    have HZO5 : Hid (∀ x ∈ z5, x < 256) := Lib.hid (by rw [hz5]; exact zeros_oct)
    clear hz5
    go_simp
    obtain ⟨w5, hw5⟩ : ∃ W, W = w1c.alloc (.cells (nums .u8 z5) 5) := ⟨_, rfl⟩
    rw [← hw5]
    have hb5 : Below w1c.heap.size w1c w5 := by rw [hw5]; exact (Below.refl _ _).alloc (Nat.le_refl _) _
    have S5 : Hid ((fun W => Below V.heap.size V W) w5) := Lib.hid (S1.out.trans (hb5.mono S1.out.size))
    have HM5 := Lib.hid (rd_zeros hw5 HZL5.out (by omega))
    have HB5 := Lib.hid hb5
    clear hm hw5 hb5
    refine hK.out _ _ (S5.out) (fun hHeld => ?_)
    clear hK K
    try simp only [Act.put, List.setIfInBounds_toArray, List.set_cons_zero, List.set_cons_succ]
    refine wpAnyH_ready (rs := [6]) (by kernel_rfl) (by simp) ?_
    refine AllReadyH.cons (o := { dst := some 67, op := Op.makeSlice 29 (Operand.const (Value.int IntKind.i64 66)) (Operand.const (Value.int IntKind.i64 66)), type := 29, pos := _, after := _, guard := some (3, true) }) rfl (fun K hK => ?_) AllReadyH.nil
    have hm := make_bytes (66 : Int) 66 rfl (by omega) w5
    obtain ⟨z6, hz6⟩ : ∃ z, z = List.replicate 66 0 := ⟨_, rfl⟩
    rw [← hz6] at hm
    have HZL6 : Hid (z6.length = 66) := Lib.hid (by rw [hz6]; simp)
    have HZO6 : Hid (∀ x ∈ z6, x < 256) := Lib.hid (by rw [hz6]; exact zeros_oct)
    clear hz6
    go_simp
    obtain ⟨w6, hw6⟩ : ∃ W, W = w5.alloc (.cells (nums .u8 z6) 5) := ⟨_, rfl⟩
    rw [← hw6]
    have hb6 : Below w5.heap.size w5 w6 := by rw [hw6]; exact (Below.refl _ _).alloc (Nat.le_refl _) _
    have S6 : Hid ((fun W => Below V.heap.size V W) w6) := Lib.hid (S5.out.trans (hb6.mono S5.out.size))
    have HM6 := Lib.hid (rd_zeros hw6 HZL6.out (by omega))
    have HB6 := Lib.hid hb6
    clear hm hw6 hb6
    have HM5b := Lib.hid (rd_next HM5.out (Nat.le_refl _) HB6.out)
    refine hK.out _ _ (S6.out) (fun hHeld => ?_)
    clear hK K
    try simp only [Act.put, List.setIfInBounds_toArray, List.set_cons_zero, List.set_cons_succ]
    refine wpAnyH_ready (rs := [7]) (by kernel_rfl) (by simp) ?_
    refine AllReadyH.cons (o := { dst := some 68, op := Op.call { callee := Callee.value (Operand.func 11), args := #[Operand.tmp 65, Operand.tmp 66, Operand.tmp 67], argTypes := #[28, 29, 29] }, type := 4, pos := _, after := _, guard := some (3, true) }) rfl (fun K hK => ?_) AllReadyH.nil
    go_simp
    have hve := HVE.out w6 S6.out (some ⟨w1c.heap.size, 0, none⟩) 32 32 z5 HM5b.out HZL5.out HZO5.out (some ⟨w5.heap.size, 0, none⟩) 66 66 z6 HM6.out HZL6.out HZO6.out
    refine (hve).mono ?_
    rintro e w7 ⟨rfl, hb⟩
    have S7 : Hid ((fun W => Below V.heap.size V W) w7) := Lib.hid (S6.out.trans (hb.mono S6.out.size))
    clear hb
    clear hve
    go_simp
    refine hK.out _ _ (S7.out) (fun hHeld => ?_)
    clear hK K
    try simp only [Act.put, List.setIfInBounds_toArray, List.set_cons_zero, List.set_cons_succ]
    refine wpAnyH_take (i := 8) (oi := { dst := some 69, op := Op.unOp UnOp.not 4 (Operand.tmp 68), type := 4, pos := _, after := _, guard := some (3, true) }) (v := ?_) rfl (by kernel_rfl) (by kernel_rfl) (by kernel_rfl) (fun _ _ _ h => h) (Or.inl ⟨by rfl, ?_⟩) hHeld ?_
    rotate_left 1
    · (intro W hW; (try dsimp only at hW); go_simp; try with_reducible rfl)
    try simp only [Act.put, List.setIfInBounds_toArray, List.set_cons_zero, List.set_cons_succ]
    refine wpAnyH_take (i := 9) (oi := { dst := some 70, op := Op.pick (Operand.tmp 64) (Operand.tmp 69) (Operand.const (Value.bool false)), type := 4, pos := _, after := _, guard := none }) (v := ?_) rfl (by kernel_rfl) (by kernel_rfl) (by kernel_rfl) (fun _ _ _ h => h) (Or.inl ⟨by rfl, ?_⟩) hHeld ?_
    rotate_left 1
    · (intro W hW; (try dsimp only at hW); go_simp; try with_reducible rfl)
    try simp only [Act.put, List.setIfInBounds_toArray, List.set_cons_zero, List.set_cons_succ]
    refine wpAnyH_take (i := 10) (oi := { dst := some 71, op := Op.move (Operand.tmp 70), type := 4, pos := _, after := _, guard := none }) (v := ?_) rfl (by kernel_rfl) (by kernel_rfl) (by kernel_rfl) (fun _ _ _ h => h) (Or.inl ⟨by rfl, ?_⟩) hHeld ?_
    rotate_left 1
    · (intro W hW; (try dsimp only at hW); go_simp; try with_reducible rfl)
    try simp only [Act.put, List.setIfInBounds_toArray, List.set_cons_zero, List.set_cons_succ]
    refine wpAnyH_ready (rs := [11]) (by kernel_rfl) (by simp) ?_
    refine AllReadyH.cons (o := { dst := some 72, op := Op.call { callee := Callee.value (Operand.func 13), args := #[], argTypes := #[] }, type := 4, pos := _, after := _, guard := some (10, true) }) rfl (fun K hK => ?_) AllReadyH.nil
    go_simp
    refine (known9_any w7).mono ?_
    rintro e w11 ⟨rfl, hb⟩
    have S11 : Hid ((fun W => Below V.heap.size V W) w11) := Lib.hid (S7.out.trans (hb.mono S7.out.size))
    clear hb
    go_simp
    refine hK.out _ _ (S11.out) (fun hHeld => ?_)
    clear hK K
    try simp only [Act.put, List.setIfInBounds_toArray, List.set_cons_zero, List.set_cons_succ]
    refine wpAnyH_take (i := 12) (oi := { dst := some 73, op := Op.pick (Operand.tmp 71) (Operand.tmp 72) (Operand.const (Value.bool false)), type := 4, pos := _, after := _, guard := none }) (v := ?_) rfl (by kernel_rfl) (by kernel_rfl) (by kernel_rfl) (fun _ _ _ h => h) (Or.inl ⟨by rfl, ?_⟩) hHeld ?_
    rotate_left 1
    · (intro W hW; (try dsimp only at hW); go_simp; try with_reducible rfl)
    try simp only [Act.put, List.setIfInBounds_toArray, List.set_cons_zero, List.set_cons_succ]
    refine wpAnyH_take (i := 13) (oi := { dst := some 2, op := Op.assign (Operand.tmp 73), type := 4, pos := _, after := _, guard := none }) (v := ?_) rfl (by kernel_rfl) (by kernel_rfl) (by kernel_rfl) (fun _ _ _ h => h) (Or.inl ⟨by rfl, ?_⟩) hHeld ?_
    rotate_left 1
    · (intro W hW; (try dsimp only at hW); go_simp; try with_reducible rfl)
    try simp only [Act.put, List.setIfInBounds_toArray, List.set_cons_zero, List.set_cons_succ]
    refine wpAnyH_done (by kernel_rfl) ?_ _
    refine NoPanic.normal ?_
    go_wp2_with fail
    go_ret
    exact ⟨rfl, HQ.out.trans (S11.out.mono HQ.out.size)⟩
  refine AllReadyH.cons (o := { dst := some 67, op := Op.makeSlice 29 (Operand.const (Value.int IntKind.i64 66)) (Operand.const (Value.int IntKind.i64 66)), type := 29, pos := _, after := _, guard := some (3, true) }) rfl (fun K hK => ?_) AllReadyH.nil
  have hm := make_bytes (66 : Int) 66 rfl (by omega) w1c
  obtain ⟨z6, hz6⟩ : ∃ z, z = List.replicate 66 0 := ⟨_, rfl⟩
  rw [← hz6] at hm
  have HZL6 : Hid (z6.length = 66) := Lib.hid (by rw [hz6]; simp)
  have HZO6 : Hid (∀ x ∈ z6, x < 256) := Lib.hid (by rw [hz6]; exact zeros_oct)
  clear hz6
  go_simp
  obtain ⟨w6, hw6⟩ : ∃ W, W = w1c.alloc (.cells (nums .u8 z6) 5) := ⟨_, rfl⟩
  rw [← hw6]
  have hb6 : Below w1c.heap.size w1c w6 := by rw [hw6]; exact (Below.refl _ _).alloc (Nat.le_refl _) _
  have S6 : Hid ((fun W => Below V.heap.size V W) w6) := Lib.hid (S1.out.trans (hb6.mono S1.out.size))
  have HM6 := Lib.hid (rd_zeros hw6 HZL6.out (by omega))
  have HB6 := Lib.hid hb6
  clear hm hw6 hb6
  refine hK.out _ _ (S6.out) (fun hHeld => ?_)
  clear hK K
  try simp only [Act.put, List.setIfInBounds_toArray, List.set_cons_zero, List.set_cons_succ]
  refine wpAnyH_ready (rs := [5]) (by kernel_rfl) (by simp) ?_
  refine AllReadyH.cons (o := { dst := some 66, op := Op.makeSlice 29 (Operand.const (Value.int IntKind.i64 32)) (Operand.const (Value.int IntKind.i64 32)), type := 29, pos := _, after := _, guard := some (3, true) }) rfl (fun K hK => ?_) AllReadyH.nil
  have hm := make_bytes (32 : Int) 32 rfl (by omega) w6
  obtain ⟨z5, hz5⟩ : ∃ z, z = List.replicate 32 0 := ⟨_, rfl⟩
  rw [← hz5] at hm
  have HZL5 : Hid (z5.length = 32) := Lib.hid (by rw [hz5]; simp)
  have HZO5 : Hid (∀ x ∈ z5, x < 256) := Lib.hid (by rw [hz5]; exact zeros_oct)
  clear hz5
  go_simp
  obtain ⟨w5, hw5⟩ : ∃ W, W = w6.alloc (.cells (nums .u8 z5) 5) := ⟨_, rfl⟩
  rw [← hw5]
  have hb5 : Below w6.heap.size w6 w5 := by rw [hw5]; exact (Below.refl _ _).alloc (Nat.le_refl _) _
  have S5 : Hid ((fun W => Below V.heap.size V W) w5) := Lib.hid (S6.out.trans (hb5.mono S6.out.size))
  have HM5 := Lib.hid (rd_zeros hw5 HZL5.out (by omega))
  have HB5 := Lib.hid hb5
  clear hm hw5 hb5
  have HM6b := Lib.hid (rd_next HM6.out (Nat.le_refl _) HB5.out)
  refine hK.out _ _ (S5.out) (fun hHeld => ?_)
  clear hK K
  try simp only [Act.put, List.setIfInBounds_toArray, List.set_cons_zero, List.set_cons_succ]
  refine wpAnyH_ready (rs := [7]) (by kernel_rfl) (by simp) ?_
  refine AllReadyH.cons (o := { dst := some 68, op := Op.call { callee := Callee.value (Operand.func 11), args := #[Operand.tmp 65, Operand.tmp 66, Operand.tmp 67], argTypes := #[28, 29, 29] }, type := 4, pos := _, after := _, guard := some (3, true) }) rfl (fun K hK => ?_) AllReadyH.nil
  go_simp
  have hve := HVE.out w5 S5.out (some ⟨w6.heap.size, 0, none⟩) 32 32 z5 HM5.out HZL5.out HZO5.out (some ⟨w1c.heap.size, 0, none⟩) 66 66 z6 HM6b.out HZL6.out HZO6.out
  refine (hve).mono ?_
  rintro e w7 ⟨rfl, hb⟩
  have S7 : Hid ((fun W => Below V.heap.size V W) w7) := Lib.hid (S5.out.trans (hb.mono S5.out.size))
  clear hb
  clear hve
  go_simp
  refine hK.out _ _ (S7.out) (fun hHeld => ?_)
  clear hK K
  try simp only [Act.put, List.setIfInBounds_toArray, List.set_cons_zero, List.set_cons_succ]
  refine wpAnyH_take (i := 8) (oi := { dst := some 69, op := Op.unOp UnOp.not 4 (Operand.tmp 68), type := 4, pos := _, after := _, guard := some (3, true) }) (v := ?_) rfl (by kernel_rfl) (by kernel_rfl) (by kernel_rfl) (fun _ _ _ h => h) (Or.inl ⟨by rfl, ?_⟩) hHeld ?_
  rotate_left 1
  · (intro W hW; (try dsimp only at hW); go_simp; try with_reducible rfl)
  try simp only [Act.put, List.setIfInBounds_toArray, List.set_cons_zero, List.set_cons_succ]
  refine wpAnyH_take (i := 9) (oi := { dst := some 70, op := Op.pick (Operand.tmp 64) (Operand.tmp 69) (Operand.const (Value.bool false)), type := 4, pos := _, after := _, guard := none }) (v := ?_) rfl (by kernel_rfl) (by kernel_rfl) (by kernel_rfl) (fun _ _ _ h => h) (Or.inl ⟨by rfl, ?_⟩) hHeld ?_
  rotate_left 1
  · (intro W hW; (try dsimp only at hW); go_simp; try with_reducible rfl)
  try simp only [Act.put, List.setIfInBounds_toArray, List.set_cons_zero, List.set_cons_succ]
  refine wpAnyH_take (i := 10) (oi := { dst := some 71, op := Op.move (Operand.tmp 70), type := 4, pos := _, after := _, guard := none }) (v := ?_) rfl (by kernel_rfl) (by kernel_rfl) (by kernel_rfl) (fun _ _ _ h => h) (Or.inl ⟨by rfl, ?_⟩) hHeld ?_
  rotate_left 1
  · (intro W hW; (try dsimp only at hW); go_simp; try with_reducible rfl)
  try simp only [Act.put, List.setIfInBounds_toArray, List.set_cons_zero, List.set_cons_succ]
  refine wpAnyH_ready (rs := [11]) (by kernel_rfl) (by simp) ?_
  refine AllReadyH.cons (o := { dst := some 72, op := Op.call { callee := Callee.value (Operand.func 13), args := #[], argTypes := #[] }, type := 4, pos := _, after := _, guard := some (10, true) }) rfl (fun K hK => ?_) AllReadyH.nil
  go_simp
  refine (known9_any w7).mono ?_
  rintro e w11 ⟨rfl, hb⟩
  have S11 : Hid ((fun W => Below V.heap.size V W) w11) := Lib.hid (S7.out.trans (hb.mono S7.out.size))
  clear hb
  go_simp
  refine hK.out _ _ (S11.out) (fun hHeld => ?_)
  clear hK K
  try simp only [Act.put, List.setIfInBounds_toArray, List.set_cons_zero, List.set_cons_succ]
  refine wpAnyH_take (i := 12) (oi := { dst := some 73, op := Op.pick (Operand.tmp 71) (Operand.tmp 72) (Operand.const (Value.bool false)), type := 4, pos := _, after := _, guard := none }) (v := ?_) rfl (by kernel_rfl) (by kernel_rfl) (by kernel_rfl) (fun _ _ _ h => h) (Or.inl ⟨by rfl, ?_⟩) hHeld ?_
  rotate_left 1
  · (intro W hW; (try dsimp only at hW); go_simp; try with_reducible rfl)
  try simp only [Act.put, List.setIfInBounds_toArray, List.set_cons_zero, List.set_cons_succ]
  refine wpAnyH_take (i := 13) (oi := { dst := some 2, op := Op.assign (Operand.tmp 73), type := 4, pos := _, after := _, guard := none }) (v := ?_) rfl (by kernel_rfl) (by kernel_rfl) (by kernel_rfl) (fun _ _ _ h => h) (Or.inl ⟨by rfl, ?_⟩) hHeld ?_
  rotate_left 1
  · (intro W hW; (try dsimp only at hW); go_simp; try with_reducible rfl)
  try simp only [Act.put, List.setIfInBounds_toArray, List.set_cons_zero, List.set_cons_succ]
  refine wpAnyH_done (by kernel_rfl) ?_ _
  refine NoPanic.normal ?_
  go_wp2_with fail
  go_ret
  exact ⟨rfl, HQ.out.trans (S11.out.mono HQ.out.size)⟩
set_option maxRecDepth 100000 in
set_option maxHeartbeats 4000000 in
theorem keys_1 (w : World) : Calls Try.prog 6 #[.int .i64 1] w fun e w' => e = .returned (.bool true) ∧ Below w.heap.size w w' := by
  have HP := Lib.hid (prime_odd w 1 (by decide))
  go_enter Try.func6, Try.ntmps6
  go_wp2_with fail
  refine HP.out.mono ?_
  rintro e w1 ⟨g, n, A, c, r, D, rfl, hl, hg, hR, hn, hr, hD, hB1⟩
  rw [pl607_len]
  clear HP hn hr hD hl
  have hB : Below w.heap.size w (w1.alloc (.cells #[.int .i64 1, .slice (some ⟨g, 0, none⟩) 19 19, .int .u32 1, .slice none 0 0, .slice none 0 0, .bool false] 28)) := hB1.trans (((Below.refl _ _).alloc (Nat.le_refl _) _).mono hB1.size)
  have hH := Holds.fresh w1 28 #[.int .i64 1, .slice (some ⟨g, 0, none⟩) 19 19, .int .u32 1, .slice none 0 0, .slice none 0 0, .bool false]
  have hR2 := Holds.alloc hR (.cells #[.int .i64 1, .slice (some ⟨g, 0, none⟩) 19 19, .int .u32 1, .slice none 0 0, .slice none 0 0, .bool false] 28)
  obtain ⟨V, hV⟩ : ∃ V, V = (w1.alloc (.cells #[.int .i64 1, .slice (some ⟨g, 0, none⟩) 19 19, .int .u32 1, .slice none 0 0, .slice none 0 0, .bool false] 28)) := ⟨_, rfl⟩
  rw [← hV] at hB hH hR2
  have hky : KyP (⟨1, some ⟨g, 0, none⟩, 19, pl607, 1, none, 0, [], none, 0, [], false⟩ : Ky) V := ⟨rd_rowN (n := 19) hR2 pl607_len (by omega), pl607_dg, Rd.nil_ _ _ _, dg_nil9, Rd.nil_ _ _ _, dg_nil9, (show 1 < 4294967296 by omega)⟩
  have hnl : (Ky.n (⟨1, some ⟨g, 0, none⟩, 19, pl607, 1, none, 0, [], none, 0, [], false⟩ : Ky)).length ≤ 5000 := show (pl607).length ≤ 5000 from by decide +kernel
  have hnl2 : (Ky.n (⟨1, some ⟨g, 0, none⟩, 19, pl607, 1, none, 0, [], none, 0, [], false⟩ : Ky)).length ≤ 1000 := show (pl607).length ≤ 1000 from by decide +kernel
  have HV := Lib.hid hV
  have hno : rsaOk (Ky.v (⟨1, some ⟨g, 0, none⟩, 19, pl607, 1, none, 0, [], none, 0, [], false⟩ : Ky)) = false := show rsaOk ⟨1, pl607, 1, [], [], false⟩ = false from by decide +kernel
  have HA := Lib.hid hH
  have HQ := Lib.hid hB
  have S0 : Hid ((fun W => Below V.heap.size V W) V) := Lib.hid (Below.refl _ _)
  have hof := Off.of_ky hky
  have HIS : Hid (∀ W, Below V.heap.size V W → Calls Try.prog 9 #[.agg #[.int .i64 1, .slice (some ⟨g, 0, none⟩) 19 19, .int .u32 1, .slice none 0 0, .slice none 0 0, .bool false]] W fun e w' => e = .returned (.bool false) ∧ Below W.heap.size W w') := Lib.hid fun W hW => by
    have h := rsaIs_any W (⟨1, some ⟨g, 0, none⟩, 19, pl607, 1, none, 0, [], none, 0, [], false⟩ : Ky) (hof.under hW).at_ hnl
    rw [hno] at h
    exact h
  have HVE : Hid (∀ W, Below V.heap.size V W → ∀ (A2 : Option Addr) (c2 dn : Nat) (d : List Nat) (hd : Rd .u8 W W.heap.size A2 c2 d) (hdn : d.length = dn) (ho : ∀ x ∈ d, x < 256) (A3 : Option Addr) (c3 sn : Nat) (s : List Nat) (hsg : Rd .u8 W W.heap.size A3 c3 s) (hsn : s.length = sn) (ho3 : ∀ x ∈ s, x < 256), Calls Try.prog 11 #[.agg #[.int .i64 1, .slice (some ⟨g, 0, none⟩) 19 19, .int .u32 1, .slice none 0 0, .slice none 0 0, .bool false], .slice A2 dn c2, .slice A3 sn c3] W fun e w' => e = .returned (.bool false) ∧ Below W.heap.size W w') := Lib.hid fun W hW A2 c2 dn d hd hdn ho A3 c3 sn s hsg hsn ho3 => by
    have h := rsaVerify_any W (⟨1, some ⟨g, 0, none⟩, 19, pl607, 1, none, 0, [], none, 0, [], false⟩ : Ky) (hof.under hW).at_ hnl2 ⟨by simp, by simp⟩ A2 c2 dn d hd hdn ho A3 c3 sn s hsg hsn ho3
    rw [ver_no hno] at h
    exact h
  clear hno hof hky hH hB hnl hnl2
  clear hV hR2 hR hB1
  go_wp2_with fail
  rw [← HV.out]
  go_wp2_with fail
  refine wp_region_noPanic ?_
  refine wp_region_held_drew (S := (fun W => Below V.heap.size V W)) (by kernel_rfl) (S0.out.drew) (fun hHeld => ?_)
  refine wpAnyH_take (i := 0) (oi := { dst := some 61, op := Op.load 28 (Operand.tmp 3), type := 28, pos := _, after := _, guard := none }) (v := ?_) rfl (by kernel_rfl) (by kernel_rfl) (by kernel_rfl) (fun _ _ _ h => h) (Or.inl ⟨by rfl, ?_⟩) hHeld ?_
  rotate_left 1
  · (intro W hW; have k := HA.out.under hW HA.out.lt; have k0 := k.cell 0; have k1 := k.cell 1; have k2 := k.cell 2; have k3 := k.cell 3; have k4 := k.cell 4; have k5 := k.cell 5; (try dsimp only at hW); go_simp; try with_reducible rfl)
  try simp only [Act.put, List.setIfInBounds_toArray, List.set_cons_zero, List.set_cons_succ]
  refine wpAnyH_ready (rs := [1]) (by kernel_rfl) (by simp) ?_
  refine AllReadyH.cons (o := { dst := some 62, op := Op.call { callee := Callee.value (Operand.func 9), args := #[Operand.tmp 61], argTypes := #[28] }, type := 4, pos := _, after := _, guard := none }) rfl (fun K hK => ?_) AllReadyH.nil
  go_simp
  refine (HIS.out _ S0.out.drew).mono ?_
  rintro e w1c ⟨rfl, hb⟩
  have S1 : Hid ((fun W => Below V.heap.size V W) w1c) := Lib.hid (S0.out.drew.trans (hb.mono S0.out.drew.size))
  clear hb
  go_simp
  refine hK.out _ _ (S1.out) (fun hHeld => ?_)
  clear hK K
  try simp only [Act.put, List.setIfInBounds_toArray, List.set_cons_zero, List.set_cons_succ]
  refine wpAnyH_take (i := 2) (oi := { dst := some 63, op := Op.unOp UnOp.not 4 (Operand.tmp 62), type := 4, pos := _, after := _, guard := none }) (v := ?_) rfl (by kernel_rfl) (by kernel_rfl) (by kernel_rfl) (fun _ _ _ h => h) (Or.inl ⟨by rfl, ?_⟩) hHeld ?_
  rotate_left 1
  · (intro W hW; (try dsimp only at hW); go_simp; try with_reducible rfl)
  try simp only [Act.put, List.setIfInBounds_toArray, List.set_cons_zero, List.set_cons_succ]
  refine wpAnyH_take (i := 3) (oi := { dst := some 64, op := Op.move (Operand.tmp 63), type := 4, pos := _, after := _, guard := none }) (v := ?_) rfl (by kernel_rfl) (by kernel_rfl) (by kernel_rfl) (fun _ _ _ h => h) (Or.inl ⟨by rfl, ?_⟩) hHeld ?_
  rotate_left 1
  · (intro W hW; (try dsimp only at hW); go_simp; try with_reducible rfl)
  try simp only [Act.put, List.setIfInBounds_toArray, List.set_cons_zero, List.set_cons_succ]
  refine wpAnyH_take (i := 4) (oi := { dst := some 65, op := Op.load 28 (Operand.tmp 3), type := 28, pos := _, after := _, guard := some (3, true) }) (v := ?_) rfl (by kernel_rfl) (by kernel_rfl) (by kernel_rfl) (fun _ _ _ h => h) (Or.inl ⟨by rfl, ?_⟩) hHeld ?_
  rotate_left 1
  · (intro W hW; have k := HA.out.under hW HA.out.lt; have k0 := k.cell 0; have k1 := k.cell 1; have k2 := k.cell 2; have k3 := k.cell 3; have k4 := k.cell 4; have k5 := k.cell 5; (try dsimp only at hW); go_simp; try with_reducible rfl)
  try simp only [Act.put, List.setIfInBounds_toArray, List.set_cons_zero, List.set_cons_succ]
  refine wpAnyH_ready (rs := [5, 6]) (by kernel_rfl) (by simp) ?_
  refine AllReadyH.cons (o := { dst := some 66, op := Op.makeSlice 29 (Operand.const (Value.int IntKind.i64 32)) (Operand.const (Value.int IntKind.i64 32)), type := 29, pos := _, after := _, guard := some (3, true) }) rfl (fun K hK => ?_) ?_
  · have hm := make_bytes (32 : Int) 32 rfl (by omega) w1c
    obtain ⟨z5, hz5⟩ : ∃ z, z = List.replicate 32 0 := ⟨_, rfl⟩
    rw [← hz5] at hm
    have HZL5 : Hid (z5.length = 32) := Lib.hid (by rw [hz5]; simp)
    have HZO5 : Hid (∀ x ∈ z5, x < 256) := Lib.hid (by rw [hz5]; exact zeros_oct)
    clear hz5
    go_simp
    obtain ⟨w5, hw5⟩ : ∃ W, W = w1c.alloc (.cells (nums .u8 z5) 5) := ⟨_, rfl⟩
    rw [← hw5]
    have hb5 : Below w1c.heap.size w1c w5 := by rw [hw5]; exact (Below.refl _ _).alloc (Nat.le_refl _) _
    have S5 : Hid ((fun W => Below V.heap.size V W) w5) := Lib.hid (S1.out.trans (hb5.mono S1.out.size))
    have HM5 := Lib.hid (rd_zeros hw5 HZL5.out (by omega))
    have HB5 := Lib.hid hb5
    clear hm hw5 hb5
    refine hK.out _ _ (S5.out) (fun hHeld => ?_)
    clear hK K
    try simp only [Act.put, List.setIfInBounds_toArray, List.set_cons_zero, List.set_cons_succ]
    refine wpAnyH_ready (rs := [6]) (by kernel_rfl) (by simp) ?_
    refine AllReadyH.cons (o := { dst := some 67, op := Op.makeSlice 29 (Operand.const (Value.int IntKind.i64 66)) (Operand.const (Value.int IntKind.i64 66)), type := 29, pos := _, after := _, guard := some (3, true) }) rfl (fun K hK => ?_) AllReadyH.nil
    have hm := make_bytes (66 : Int) 66 rfl (by omega) w5
    obtain ⟨z6, hz6⟩ : ∃ z, z = List.replicate 66 0 := ⟨_, rfl⟩
    rw [← hz6] at hm
    have HZL6 : Hid (z6.length = 66) := Lib.hid (by rw [hz6]; simp)
    have HZO6 : Hid (∀ x ∈ z6, x < 256) := Lib.hid (by rw [hz6]; exact zeros_oct)
    clear hz6
    go_simp
    obtain ⟨w6, hw6⟩ : ∃ W, W = w5.alloc (.cells (nums .u8 z6) 5) := ⟨_, rfl⟩
    rw [← hw6]
    have hb6 : Below w5.heap.size w5 w6 := by rw [hw6]; exact (Below.refl _ _).alloc (Nat.le_refl _) _
    have S6 : Hid ((fun W => Below V.heap.size V W) w6) := Lib.hid (S5.out.trans (hb6.mono S5.out.size))
    have HM6 := Lib.hid (rd_zeros hw6 HZL6.out (by omega))
    have HB6 := Lib.hid hb6
    clear hm hw6 hb6
    have HM5b := Lib.hid (rd_next HM5.out (Nat.le_refl _) HB6.out)
    refine hK.out _ _ (S6.out) (fun hHeld => ?_)
    clear hK K
    try simp only [Act.put, List.setIfInBounds_toArray, List.set_cons_zero, List.set_cons_succ]
    refine wpAnyH_ready (rs := [7]) (by kernel_rfl) (by simp) ?_
    refine AllReadyH.cons (o := { dst := some 68, op := Op.call { callee := Callee.value (Operand.func 11), args := #[Operand.tmp 65, Operand.tmp 66, Operand.tmp 67], argTypes := #[28, 29, 29] }, type := 4, pos := _, after := _, guard := some (3, true) }) rfl (fun K hK => ?_) AllReadyH.nil
    go_simp
    have hve := HVE.out w6 S6.out (some ⟨w1c.heap.size, 0, none⟩) 32 32 z5 HM5b.out HZL5.out HZO5.out (some ⟨w5.heap.size, 0, none⟩) 66 66 z6 HM6.out HZL6.out HZO6.out
    refine (hve).mono ?_
    rintro e w7 ⟨rfl, hb⟩
    have S7 : Hid ((fun W => Below V.heap.size V W) w7) := Lib.hid (S6.out.trans (hb.mono S6.out.size))
    clear hb
    clear hve
    go_simp
    refine hK.out _ _ (S7.out) (fun hHeld => ?_)
    clear hK K
    try simp only [Act.put, List.setIfInBounds_toArray, List.set_cons_zero, List.set_cons_succ]
    refine wpAnyH_take (i := 8) (oi := { dst := some 69, op := Op.unOp UnOp.not 4 (Operand.tmp 68), type := 4, pos := _, after := _, guard := some (3, true) }) (v := ?_) rfl (by kernel_rfl) (by kernel_rfl) (by kernel_rfl) (fun _ _ _ h => h) (Or.inl ⟨by rfl, ?_⟩) hHeld ?_
    rotate_left 1
    · (intro W hW; (try dsimp only at hW); go_simp; try with_reducible rfl)
    try simp only [Act.put, List.setIfInBounds_toArray, List.set_cons_zero, List.set_cons_succ]
    refine wpAnyH_take (i := 9) (oi := { dst := some 70, op := Op.pick (Operand.tmp 64) (Operand.tmp 69) (Operand.const (Value.bool false)), type := 4, pos := _, after := _, guard := none }) (v := ?_) rfl (by kernel_rfl) (by kernel_rfl) (by kernel_rfl) (fun _ _ _ h => h) (Or.inl ⟨by rfl, ?_⟩) hHeld ?_
    rotate_left 1
    · (intro W hW; (try dsimp only at hW); go_simp; try with_reducible rfl)
    try simp only [Act.put, List.setIfInBounds_toArray, List.set_cons_zero, List.set_cons_succ]
    refine wpAnyH_take (i := 10) (oi := { dst := some 71, op := Op.move (Operand.tmp 70), type := 4, pos := _, after := _, guard := none }) (v := ?_) rfl (by kernel_rfl) (by kernel_rfl) (by kernel_rfl) (fun _ _ _ h => h) (Or.inl ⟨by rfl, ?_⟩) hHeld ?_
    rotate_left 1
    · (intro W hW; (try dsimp only at hW); go_simp; try with_reducible rfl)
    try simp only [Act.put, List.setIfInBounds_toArray, List.set_cons_zero, List.set_cons_succ]
    refine wpAnyH_ready (rs := [11]) (by kernel_rfl) (by simp) ?_
    refine AllReadyH.cons (o := { dst := some 72, op := Op.call { callee := Callee.value (Operand.func 13), args := #[], argTypes := #[] }, type := 4, pos := _, after := _, guard := some (10, true) }) rfl (fun K hK => ?_) AllReadyH.nil
    go_simp
    refine (known9_any w7).mono ?_
    rintro e w11 ⟨rfl, hb⟩
    have S11 : Hid ((fun W => Below V.heap.size V W) w11) := Lib.hid (S7.out.trans (hb.mono S7.out.size))
    clear hb
    go_simp
    refine hK.out _ _ (S11.out) (fun hHeld => ?_)
    clear hK K
    try simp only [Act.put, List.setIfInBounds_toArray, List.set_cons_zero, List.set_cons_succ]
    refine wpAnyH_take (i := 12) (oi := { dst := some 73, op := Op.pick (Operand.tmp 71) (Operand.tmp 72) (Operand.const (Value.bool false)), type := 4, pos := _, after := _, guard := none }) (v := ?_) rfl (by kernel_rfl) (by kernel_rfl) (by kernel_rfl) (fun _ _ _ h => h) (Or.inl ⟨by rfl, ?_⟩) hHeld ?_
    rotate_left 1
    · (intro W hW; (try dsimp only at hW); go_simp; try with_reducible rfl)
    try simp only [Act.put, List.setIfInBounds_toArray, List.set_cons_zero, List.set_cons_succ]
    refine wpAnyH_take (i := 13) (oi := { dst := some 2, op := Op.assign (Operand.tmp 73), type := 4, pos := _, after := _, guard := none }) (v := ?_) rfl (by kernel_rfl) (by kernel_rfl) (by kernel_rfl) (fun _ _ _ h => h) (Or.inl ⟨by rfl, ?_⟩) hHeld ?_
    rotate_left 1
    · (intro W hW; (try dsimp only at hW); go_simp; try with_reducible rfl)
    try simp only [Act.put, List.setIfInBounds_toArray, List.set_cons_zero, List.set_cons_succ]
    refine wpAnyH_done (by kernel_rfl) ?_ _
    refine NoPanic.normal ?_
    go_wp2_with fail
    go_ret
    exact ⟨rfl, HQ.out.trans (S11.out.mono HQ.out.size)⟩
  refine AllReadyH.cons (o := { dst := some 67, op := Op.makeSlice 29 (Operand.const (Value.int IntKind.i64 66)) (Operand.const (Value.int IntKind.i64 66)), type := 29, pos := _, after := _, guard := some (3, true) }) rfl (fun K hK => ?_) AllReadyH.nil
  have hm := make_bytes (66 : Int) 66 rfl (by omega) w1c
  obtain ⟨z6, hz6⟩ : ∃ z, z = List.replicate 66 0 := ⟨_, rfl⟩
  rw [← hz6] at hm
  have HZL6 : Hid (z6.length = 66) := Lib.hid (by rw [hz6]; simp)
  have HZO6 : Hid (∀ x ∈ z6, x < 256) := Lib.hid (by rw [hz6]; exact zeros_oct)
  clear hz6
  go_simp
  obtain ⟨w6, hw6⟩ : ∃ W, W = w1c.alloc (.cells (nums .u8 z6) 5) := ⟨_, rfl⟩
  rw [← hw6]
  have hb6 : Below w1c.heap.size w1c w6 := by rw [hw6]; exact (Below.refl _ _).alloc (Nat.le_refl _) _
  have S6 : Hid ((fun W => Below V.heap.size V W) w6) := Lib.hid (S1.out.trans (hb6.mono S1.out.size))
  have HM6 := Lib.hid (rd_zeros hw6 HZL6.out (by omega))
  have HB6 := Lib.hid hb6
  clear hm hw6 hb6
  refine hK.out _ _ (S6.out) (fun hHeld => ?_)
  clear hK K
  try simp only [Act.put, List.setIfInBounds_toArray, List.set_cons_zero, List.set_cons_succ]
  refine wpAnyH_ready (rs := [5]) (by kernel_rfl) (by simp) ?_
  refine AllReadyH.cons (o := { dst := some 66, op := Op.makeSlice 29 (Operand.const (Value.int IntKind.i64 32)) (Operand.const (Value.int IntKind.i64 32)), type := 29, pos := _, after := _, guard := some (3, true) }) rfl (fun K hK => ?_) AllReadyH.nil
  have hm := make_bytes (32 : Int) 32 rfl (by omega) w6
  obtain ⟨z5, hz5⟩ : ∃ z, z = List.replicate 32 0 := ⟨_, rfl⟩
  rw [← hz5] at hm
  have HZL5 : Hid (z5.length = 32) := Lib.hid (by rw [hz5]; simp)
  have HZO5 : Hid (∀ x ∈ z5, x < 256) := Lib.hid (by rw [hz5]; exact zeros_oct)
  clear hz5
  go_simp
  obtain ⟨w5, hw5⟩ : ∃ W, W = w6.alloc (.cells (nums .u8 z5) 5) := ⟨_, rfl⟩
  rw [← hw5]
  have hb5 : Below w6.heap.size w6 w5 := by rw [hw5]; exact (Below.refl _ _).alloc (Nat.le_refl _) _
  have S5 : Hid ((fun W => Below V.heap.size V W) w5) := Lib.hid (S6.out.trans (hb5.mono S6.out.size))
  have HM5 := Lib.hid (rd_zeros hw5 HZL5.out (by omega))
  have HB5 := Lib.hid hb5
  clear hm hw5 hb5
  have HM6b := Lib.hid (rd_next HM6.out (Nat.le_refl _) HB5.out)
  refine hK.out _ _ (S5.out) (fun hHeld => ?_)
  clear hK K
  try simp only [Act.put, List.setIfInBounds_toArray, List.set_cons_zero, List.set_cons_succ]
  refine wpAnyH_ready (rs := [7]) (by kernel_rfl) (by simp) ?_
  refine AllReadyH.cons (o := { dst := some 68, op := Op.call { callee := Callee.value (Operand.func 11), args := #[Operand.tmp 65, Operand.tmp 66, Operand.tmp 67], argTypes := #[28, 29, 29] }, type := 4, pos := _, after := _, guard := some (3, true) }) rfl (fun K hK => ?_) AllReadyH.nil
  go_simp
  have hve := HVE.out w5 S5.out (some ⟨w6.heap.size, 0, none⟩) 32 32 z5 HM5.out HZL5.out HZO5.out (some ⟨w1c.heap.size, 0, none⟩) 66 66 z6 HM6b.out HZL6.out HZO6.out
  refine (hve).mono ?_
  rintro e w7 ⟨rfl, hb⟩
  have S7 : Hid ((fun W => Below V.heap.size V W) w7) := Lib.hid (S5.out.trans (hb.mono S5.out.size))
  clear hb
  clear hve
  go_simp
  refine hK.out _ _ (S7.out) (fun hHeld => ?_)
  clear hK K
  try simp only [Act.put, List.setIfInBounds_toArray, List.set_cons_zero, List.set_cons_succ]
  refine wpAnyH_take (i := 8) (oi := { dst := some 69, op := Op.unOp UnOp.not 4 (Operand.tmp 68), type := 4, pos := _, after := _, guard := some (3, true) }) (v := ?_) rfl (by kernel_rfl) (by kernel_rfl) (by kernel_rfl) (fun _ _ _ h => h) (Or.inl ⟨by rfl, ?_⟩) hHeld ?_
  rotate_left 1
  · (intro W hW; (try dsimp only at hW); go_simp; try with_reducible rfl)
  try simp only [Act.put, List.setIfInBounds_toArray, List.set_cons_zero, List.set_cons_succ]
  refine wpAnyH_take (i := 9) (oi := { dst := some 70, op := Op.pick (Operand.tmp 64) (Operand.tmp 69) (Operand.const (Value.bool false)), type := 4, pos := _, after := _, guard := none }) (v := ?_) rfl (by kernel_rfl) (by kernel_rfl) (by kernel_rfl) (fun _ _ _ h => h) (Or.inl ⟨by rfl, ?_⟩) hHeld ?_
  rotate_left 1
  · (intro W hW; (try dsimp only at hW); go_simp; try with_reducible rfl)
  try simp only [Act.put, List.setIfInBounds_toArray, List.set_cons_zero, List.set_cons_succ]
  refine wpAnyH_take (i := 10) (oi := { dst := some 71, op := Op.move (Operand.tmp 70), type := 4, pos := _, after := _, guard := none }) (v := ?_) rfl (by kernel_rfl) (by kernel_rfl) (by kernel_rfl) (fun _ _ _ h => h) (Or.inl ⟨by rfl, ?_⟩) hHeld ?_
  rotate_left 1
  · (intro W hW; (try dsimp only at hW); go_simp; try with_reducible rfl)
  try simp only [Act.put, List.setIfInBounds_toArray, List.set_cons_zero, List.set_cons_succ]
  refine wpAnyH_ready (rs := [11]) (by kernel_rfl) (by simp) ?_
  refine AllReadyH.cons (o := { dst := some 72, op := Op.call { callee := Callee.value (Operand.func 13), args := #[], argTypes := #[] }, type := 4, pos := _, after := _, guard := some (10, true) }) rfl (fun K hK => ?_) AllReadyH.nil
  go_simp
  refine (known9_any w7).mono ?_
  rintro e w11 ⟨rfl, hb⟩
  have S11 : Hid ((fun W => Below V.heap.size V W) w11) := Lib.hid (S7.out.trans (hb.mono S7.out.size))
  clear hb
  go_simp
  refine hK.out _ _ (S11.out) (fun hHeld => ?_)
  clear hK K
  try simp only [Act.put, List.setIfInBounds_toArray, List.set_cons_zero, List.set_cons_succ]
  refine wpAnyH_take (i := 12) (oi := { dst := some 73, op := Op.pick (Operand.tmp 71) (Operand.tmp 72) (Operand.const (Value.bool false)), type := 4, pos := _, after := _, guard := none }) (v := ?_) rfl (by kernel_rfl) (by kernel_rfl) (by kernel_rfl) (fun _ _ _ h => h) (Or.inl ⟨by rfl, ?_⟩) hHeld ?_
  rotate_left 1
  · (intro W hW; (try dsimp only at hW); go_simp; try with_reducible rfl)
  try simp only [Act.put, List.setIfInBounds_toArray, List.set_cons_zero, List.set_cons_succ]
  refine wpAnyH_take (i := 13) (oi := { dst := some 2, op := Op.assign (Operand.tmp 73), type := 4, pos := _, after := _, guard := none }) (v := ?_) rfl (by kernel_rfl) (by kernel_rfl) (by kernel_rfl) (fun _ _ _ h => h) (Or.inl ⟨by rfl, ?_⟩) hHeld ?_
  rotate_left 1
  · (intro W hW; (try dsimp only at hW); go_simp; try with_reducible rfl)
  try simp only [Act.put, List.setIfInBounds_toArray, List.set_cons_zero, List.set_cons_succ]
  refine wpAnyH_done (by kernel_rfl) ?_ _
  refine NoPanic.normal ?_
  go_wp2_with fail
  go_ret
  exact ⟨rfl, HQ.out.trans (S11.out.mono HQ.out.size)⟩
set_option maxRecDepth 100000 in
set_option maxHeartbeats 4000000 in
theorem keys_2 (w : World) : Calls Try.prog 6 #[.int .i64 2] w fun e w' => e = .returned (.bool true) ∧ Below w.heap.size w w' := by
  have HP := Lib.hid (prime_even w 2 (by decide))
  go_enter Try.func6, Try.ntmps6
  go_wp2_with fail
  refine HP.out.mono ?_
  rintro e w1 ⟨g, n, A, c, r, D, rfl, hl, hg, hR, hn, hr, hD, hB1⟩
  rw [pl521_len]
  clear HP hn hr hD hl
  have hB : Below w.heap.size w (w1.alloc (.cells #[.int .i64 1, .slice (some ⟨g, 0, none⟩) 17 17, .int .u32 4, .slice none 0 0, .slice none 0 0, .bool false] 28)) := hB1.trans (((Below.refl _ _).alloc (Nat.le_refl _) _).mono hB1.size)
  have hH := Holds.fresh w1 28 #[.int .i64 1, .slice (some ⟨g, 0, none⟩) 17 17, .int .u32 4, .slice none 0 0, .slice none 0 0, .bool false]
  have hR2 := Holds.alloc hR (.cells #[.int .i64 1, .slice (some ⟨g, 0, none⟩) 17 17, .int .u32 4, .slice none 0 0, .slice none 0 0, .bool false] 28)
  obtain ⟨V, hV⟩ : ∃ V, V = (w1.alloc (.cells #[.int .i64 1, .slice (some ⟨g, 0, none⟩) 17 17, .int .u32 4, .slice none 0 0, .slice none 0 0, .bool false] 28)) := ⟨_, rfl⟩
  rw [← hV] at hB hH hR2
  have hky : KyP (⟨1, some ⟨g, 0, none⟩, 17, pl521, 4, none, 0, [], none, 0, [], false⟩ : Ky) V := ⟨rd_rowN (n := 17) hR2 pl521_len (by omega), pl521_dg, Rd.nil_ _ _ _, dg_nil9, Rd.nil_ _ _ _, dg_nil9, (show 4 < 4294967296 by omega)⟩
  have hnl : (Ky.n (⟨1, some ⟨g, 0, none⟩, 17, pl521, 4, none, 0, [], none, 0, [], false⟩ : Ky)).length ≤ 5000 := show (pl521).length ≤ 5000 from by decide +kernel
  have hnl2 : (Ky.n (⟨1, some ⟨g, 0, none⟩, 17, pl521, 4, none, 0, [], none, 0, [], false⟩ : Ky)).length ≤ 1000 := show (pl521).length ≤ 1000 from by decide +kernel
  have HV := Lib.hid hV
  have hno : rsaOk (Ky.v (⟨1, some ⟨g, 0, none⟩, 17, pl521, 4, none, 0, [], none, 0, [], false⟩ : Ky)) = false := show rsaOk ⟨1, pl521, 4, [], [], false⟩ = false from by decide +kernel
  have HA := Lib.hid hH
  have HQ := Lib.hid hB
  have S0 : Hid ((fun W => Below V.heap.size V W) V) := Lib.hid (Below.refl _ _)
  have hof := Off.of_ky hky
  have HIS : Hid (∀ W, Below V.heap.size V W → Calls Try.prog 9 #[.agg #[.int .i64 1, .slice (some ⟨g, 0, none⟩) 17 17, .int .u32 4, .slice none 0 0, .slice none 0 0, .bool false]] W fun e w' => e = .returned (.bool false) ∧ Below W.heap.size W w') := Lib.hid fun W hW => by
    have h := rsaIs_any W (⟨1, some ⟨g, 0, none⟩, 17, pl521, 4, none, 0, [], none, 0, [], false⟩ : Ky) (hof.under hW).at_ hnl
    rw [hno] at h
    exact h
  have HVE : Hid (∀ W, Below V.heap.size V W → ∀ (A2 : Option Addr) (c2 dn : Nat) (d : List Nat) (hd : Rd .u8 W W.heap.size A2 c2 d) (hdn : d.length = dn) (ho : ∀ x ∈ d, x < 256) (A3 : Option Addr) (c3 sn : Nat) (s : List Nat) (hsg : Rd .u8 W W.heap.size A3 c3 s) (hsn : s.length = sn) (ho3 : ∀ x ∈ s, x < 256), Calls Try.prog 11 #[.agg #[.int .i64 1, .slice (some ⟨g, 0, none⟩) 17 17, .int .u32 4, .slice none 0 0, .slice none 0 0, .bool false], .slice A2 dn c2, .slice A3 sn c3] W fun e w' => e = .returned (.bool false) ∧ Below W.heap.size W w') := Lib.hid fun W hW A2 c2 dn d hd hdn ho A3 c3 sn s hsg hsn ho3 => by
    have h := rsaVerify_any W (⟨1, some ⟨g, 0, none⟩, 17, pl521, 4, none, 0, [], none, 0, [], false⟩ : Ky) (hof.under hW).at_ hnl2 ⟨by simp, by simp⟩ A2 c2 dn d hd hdn ho A3 c3 sn s hsg hsn ho3
    rw [ver_no hno] at h
    exact h
  clear hno hof hky hH hB hnl hnl2
  clear hV hR2 hR hB1
  go_wp2_with fail
  rw [← HV.out]
  go_wp2_with fail
  refine wp_region_noPanic ?_
  refine wp_region_held_drew (S := (fun W => Below V.heap.size V W)) (by kernel_rfl) (S0.out.drew) (fun hHeld => ?_)
  refine wpAnyH_take (i := 0) (oi := { dst := some 61, op := Op.load 28 (Operand.tmp 3), type := 28, pos := _, after := _, guard := none }) (v := ?_) rfl (by kernel_rfl) (by kernel_rfl) (by kernel_rfl) (fun _ _ _ h => h) (Or.inl ⟨by rfl, ?_⟩) hHeld ?_
  rotate_left 1
  · (intro W hW; have k := HA.out.under hW HA.out.lt; have k0 := k.cell 0; have k1 := k.cell 1; have k2 := k.cell 2; have k3 := k.cell 3; have k4 := k.cell 4; have k5 := k.cell 5; (try dsimp only at hW); go_simp; try with_reducible rfl)
  try simp only [Act.put, List.setIfInBounds_toArray, List.set_cons_zero, List.set_cons_succ]
  refine wpAnyH_ready (rs := [1]) (by kernel_rfl) (by simp) ?_
  refine AllReadyH.cons (o := { dst := some 62, op := Op.call { callee := Callee.value (Operand.func 9), args := #[Operand.tmp 61], argTypes := #[28] }, type := 4, pos := _, after := _, guard := none }) rfl (fun K hK => ?_) AllReadyH.nil
  go_simp
  refine (HIS.out _ S0.out.drew).mono ?_
  rintro e w1c ⟨rfl, hb⟩
  have S1 : Hid ((fun W => Below V.heap.size V W) w1c) := Lib.hid (S0.out.drew.trans (hb.mono S0.out.drew.size))
  clear hb
  go_simp
  refine hK.out _ _ (S1.out) (fun hHeld => ?_)
  clear hK K
  try simp only [Act.put, List.setIfInBounds_toArray, List.set_cons_zero, List.set_cons_succ]
  refine wpAnyH_take (i := 2) (oi := { dst := some 63, op := Op.unOp UnOp.not 4 (Operand.tmp 62), type := 4, pos := _, after := _, guard := none }) (v := ?_) rfl (by kernel_rfl) (by kernel_rfl) (by kernel_rfl) (fun _ _ _ h => h) (Or.inl ⟨by rfl, ?_⟩) hHeld ?_
  rotate_left 1
  · (intro W hW; (try dsimp only at hW); go_simp; try with_reducible rfl)
  try simp only [Act.put, List.setIfInBounds_toArray, List.set_cons_zero, List.set_cons_succ]
  refine wpAnyH_take (i := 3) (oi := { dst := some 64, op := Op.move (Operand.tmp 63), type := 4, pos := _, after := _, guard := none }) (v := ?_) rfl (by kernel_rfl) (by kernel_rfl) (by kernel_rfl) (fun _ _ _ h => h) (Or.inl ⟨by rfl, ?_⟩) hHeld ?_
  rotate_left 1
  · (intro W hW; (try dsimp only at hW); go_simp; try with_reducible rfl)
  try simp only [Act.put, List.setIfInBounds_toArray, List.set_cons_zero, List.set_cons_succ]
  refine wpAnyH_take (i := 4) (oi := { dst := some 65, op := Op.load 28 (Operand.tmp 3), type := 28, pos := _, after := _, guard := some (3, true) }) (v := ?_) rfl (by kernel_rfl) (by kernel_rfl) (by kernel_rfl) (fun _ _ _ h => h) (Or.inl ⟨by rfl, ?_⟩) hHeld ?_
  rotate_left 1
  · (intro W hW; have k := HA.out.under hW HA.out.lt; have k0 := k.cell 0; have k1 := k.cell 1; have k2 := k.cell 2; have k3 := k.cell 3; have k4 := k.cell 4; have k5 := k.cell 5; (try dsimp only at hW); go_simp; try with_reducible rfl)
  try simp only [Act.put, List.setIfInBounds_toArray, List.set_cons_zero, List.set_cons_succ]
  refine wpAnyH_ready (rs := [5, 6]) (by kernel_rfl) (by simp) ?_
  refine AllReadyH.cons (o := { dst := some 66, op := Op.makeSlice 29 (Operand.const (Value.int IntKind.i64 32)) (Operand.const (Value.int IntKind.i64 32)), type := 29, pos := _, after := _, guard := some (3, true) }) rfl (fun K hK => ?_) ?_
  · have hm := make_bytes (32 : Int) 32 rfl (by omega) w1c
    obtain ⟨z5, hz5⟩ : ∃ z, z = List.replicate 32 0 := ⟨_, rfl⟩
    rw [← hz5] at hm
    have HZL5 : Hid (z5.length = 32) := Lib.hid (by rw [hz5]; simp)
    have HZO5 : Hid (∀ x ∈ z5, x < 256) := Lib.hid (by rw [hz5]; exact zeros_oct)
    clear hz5
    go_simp
    obtain ⟨w5, hw5⟩ : ∃ W, W = w1c.alloc (.cells (nums .u8 z5) 5) := ⟨_, rfl⟩
    rw [← hw5]
    have hb5 : Below w1c.heap.size w1c w5 := by rw [hw5]; exact (Below.refl _ _).alloc (Nat.le_refl _) _
    have S5 : Hid ((fun W => Below V.heap.size V W) w5) := Lib.hid (S1.out.trans (hb5.mono S1.out.size))
    have HM5 := Lib.hid (rd_zeros hw5 HZL5.out (by omega))
    have HB5 := Lib.hid hb5
    clear hm hw5 hb5
    refine hK.out _ _ (S5.out) (fun hHeld => ?_)
    clear hK K
    try simp only [Act.put, List.setIfInBounds_toArray, List.set_cons_zero, List.set_cons_succ]
    refine wpAnyH_ready (rs := [6]) (by kernel_rfl) (by simp) ?_
    refine AllReadyH.cons (o := { dst := some 67, op := Op.makeSlice 29 (Operand.const (Value.int IntKind.i64 66)) (Operand.const (Value.int IntKind.i64 66)), type := 29, pos := _, after := _, guard := some (3, true) }) rfl (fun K hK => ?_) AllReadyH.nil
    have hm := make_bytes (66 : Int) 66 rfl (by omega) w5
    obtain ⟨z6, hz6⟩ : ∃ z, z = List.replicate 66 0 := ⟨_, rfl⟩
    rw [← hz6] at hm
    have HZL6 : Hid (z6.length = 66) := Lib.hid (by rw [hz6]; simp)
    have HZO6 : Hid (∀ x ∈ z6, x < 256) := Lib.hid (by rw [hz6]; exact zeros_oct)
    clear hz6
    go_simp
    obtain ⟨w6, hw6⟩ : ∃ W, W = w5.alloc (.cells (nums .u8 z6) 5) := ⟨_, rfl⟩
    rw [← hw6]
    have hb6 : Below w5.heap.size w5 w6 := by rw [hw6]; exact (Below.refl _ _).alloc (Nat.le_refl _) _
    have S6 : Hid ((fun W => Below V.heap.size V W) w6) := Lib.hid (S5.out.trans (hb6.mono S5.out.size))
    have HM6 := Lib.hid (rd_zeros hw6 HZL6.out (by omega))
    have HB6 := Lib.hid hb6
    clear hm hw6 hb6
    have HM5b := Lib.hid (rd_next HM5.out (Nat.le_refl _) HB6.out)
    refine hK.out _ _ (S6.out) (fun hHeld => ?_)
    clear hK K
    try simp only [Act.put, List.setIfInBounds_toArray, List.set_cons_zero, List.set_cons_succ]
    refine wpAnyH_ready (rs := [7]) (by kernel_rfl) (by simp) ?_
    refine AllReadyH.cons (o := { dst := some 68, op := Op.call { callee := Callee.value (Operand.func 11), args := #[Operand.tmp 65, Operand.tmp 66, Operand.tmp 67], argTypes := #[28, 29, 29] }, type := 4, pos := _, after := _, guard := some (3, true) }) rfl (fun K hK => ?_) AllReadyH.nil
    go_simp
    have hve := HVE.out w6 S6.out (some ⟨w1c.heap.size, 0, none⟩) 32 32 z5 HM5b.out HZL5.out HZO5.out (some ⟨w5.heap.size, 0, none⟩) 66 66 z6 HM6.out HZL6.out HZO6.out
    refine (hve).mono ?_
    rintro e w7 ⟨rfl, hb⟩
    have S7 : Hid ((fun W => Below V.heap.size V W) w7) := Lib.hid (S6.out.trans (hb.mono S6.out.size))
    clear hb
    clear hve
    go_simp
    refine hK.out _ _ (S7.out) (fun hHeld => ?_)
    clear hK K
    try simp only [Act.put, List.setIfInBounds_toArray, List.set_cons_zero, List.set_cons_succ]
    refine wpAnyH_take (i := 8) (oi := { dst := some 69, op := Op.unOp UnOp.not 4 (Operand.tmp 68), type := 4, pos := _, after := _, guard := some (3, true) }) (v := ?_) rfl (by kernel_rfl) (by kernel_rfl) (by kernel_rfl) (fun _ _ _ h => h) (Or.inl ⟨by rfl, ?_⟩) hHeld ?_
    rotate_left 1
    · (intro W hW; (try dsimp only at hW); go_simp; try with_reducible rfl)
    try simp only [Act.put, List.setIfInBounds_toArray, List.set_cons_zero, List.set_cons_succ]
    refine wpAnyH_take (i := 9) (oi := { dst := some 70, op := Op.pick (Operand.tmp 64) (Operand.tmp 69) (Operand.const (Value.bool false)), type := 4, pos := _, after := _, guard := none }) (v := ?_) rfl (by kernel_rfl) (by kernel_rfl) (by kernel_rfl) (fun _ _ _ h => h) (Or.inl ⟨by rfl, ?_⟩) hHeld ?_
    rotate_left 1
    · (intro W hW; (try dsimp only at hW); go_simp; try with_reducible rfl)
    try simp only [Act.put, List.setIfInBounds_toArray, List.set_cons_zero, List.set_cons_succ]
    refine wpAnyH_take (i := 10) (oi := { dst := some 71, op := Op.move (Operand.tmp 70), type := 4, pos := _, after := _, guard := none }) (v := ?_) rfl (by kernel_rfl) (by kernel_rfl) (by kernel_rfl) (fun _ _ _ h => h) (Or.inl ⟨by rfl, ?_⟩) hHeld ?_
    rotate_left 1
    · (intro W hW; (try dsimp only at hW); go_simp; try with_reducible rfl)
    try simp only [Act.put, List.setIfInBounds_toArray, List.set_cons_zero, List.set_cons_succ]
    refine wpAnyH_ready (rs := [11]) (by kernel_rfl) (by simp) ?_
    refine AllReadyH.cons (o := { dst := some 72, op := Op.call { callee := Callee.value (Operand.func 13), args := #[], argTypes := #[] }, type := 4, pos := _, after := _, guard := some (10, true) }) rfl (fun K hK => ?_) AllReadyH.nil
    go_simp
    refine (known9_any w7).mono ?_
    rintro e w11 ⟨rfl, hb⟩
    have S11 : Hid ((fun W => Below V.heap.size V W) w11) := Lib.hid (S7.out.trans (hb.mono S7.out.size))
    clear hb
    go_simp
    refine hK.out _ _ (S11.out) (fun hHeld => ?_)
    clear hK K
    try simp only [Act.put, List.setIfInBounds_toArray, List.set_cons_zero, List.set_cons_succ]
    refine wpAnyH_take (i := 12) (oi := { dst := some 73, op := Op.pick (Operand.tmp 71) (Operand.tmp 72) (Operand.const (Value.bool false)), type := 4, pos := _, after := _, guard := none }) (v := ?_) rfl (by kernel_rfl) (by kernel_rfl) (by kernel_rfl) (fun _ _ _ h => h) (Or.inl ⟨by rfl, ?_⟩) hHeld ?_
    rotate_left 1
    · (intro W hW; (try dsimp only at hW); go_simp; try with_reducible rfl)
    try simp only [Act.put, List.setIfInBounds_toArray, List.set_cons_zero, List.set_cons_succ]
    refine wpAnyH_take (i := 13) (oi := { dst := some 2, op := Op.assign (Operand.tmp 73), type := 4, pos := _, after := _, guard := none }) (v := ?_) rfl (by kernel_rfl) (by kernel_rfl) (by kernel_rfl) (fun _ _ _ h => h) (Or.inl ⟨by rfl, ?_⟩) hHeld ?_
    rotate_left 1
    · (intro W hW; (try dsimp only at hW); go_simp; try with_reducible rfl)
    try simp only [Act.put, List.setIfInBounds_toArray, List.set_cons_zero, List.set_cons_succ]
    refine wpAnyH_done (by kernel_rfl) ?_ _
    refine NoPanic.normal ?_
    go_wp2_with fail
    go_ret
    exact ⟨rfl, HQ.out.trans (S11.out.mono HQ.out.size)⟩
  refine AllReadyH.cons (o := { dst := some 67, op := Op.makeSlice 29 (Operand.const (Value.int IntKind.i64 66)) (Operand.const (Value.int IntKind.i64 66)), type := 29, pos := _, after := _, guard := some (3, true) }) rfl (fun K hK => ?_) AllReadyH.nil
  have hm := make_bytes (66 : Int) 66 rfl (by omega) w1c
  obtain ⟨z6, hz6⟩ : ∃ z, z = List.replicate 66 0 := ⟨_, rfl⟩
  rw [← hz6] at hm
  have HZL6 : Hid (z6.length = 66) := Lib.hid (by rw [hz6]; simp)
  have HZO6 : Hid (∀ x ∈ z6, x < 256) := Lib.hid (by rw [hz6]; exact zeros_oct)
  clear hz6
  go_simp
  obtain ⟨w6, hw6⟩ : ∃ W, W = w1c.alloc (.cells (nums .u8 z6) 5) := ⟨_, rfl⟩
  rw [← hw6]
  have hb6 : Below w1c.heap.size w1c w6 := by rw [hw6]; exact (Below.refl _ _).alloc (Nat.le_refl _) _
  have S6 : Hid ((fun W => Below V.heap.size V W) w6) := Lib.hid (S1.out.trans (hb6.mono S1.out.size))
  have HM6 := Lib.hid (rd_zeros hw6 HZL6.out (by omega))
  have HB6 := Lib.hid hb6
  clear hm hw6 hb6
  refine hK.out _ _ (S6.out) (fun hHeld => ?_)
  clear hK K
  try simp only [Act.put, List.setIfInBounds_toArray, List.set_cons_zero, List.set_cons_succ]
  refine wpAnyH_ready (rs := [5]) (by kernel_rfl) (by simp) ?_
  refine AllReadyH.cons (o := { dst := some 66, op := Op.makeSlice 29 (Operand.const (Value.int IntKind.i64 32)) (Operand.const (Value.int IntKind.i64 32)), type := 29, pos := _, after := _, guard := some (3, true) }) rfl (fun K hK => ?_) AllReadyH.nil
  have hm := make_bytes (32 : Int) 32 rfl (by omega) w6
  obtain ⟨z5, hz5⟩ : ∃ z, z = List.replicate 32 0 := ⟨_, rfl⟩
  rw [← hz5] at hm
  have HZL5 : Hid (z5.length = 32) := Lib.hid (by rw [hz5]; simp)
  have HZO5 : Hid (∀ x ∈ z5, x < 256) := Lib.hid (by rw [hz5]; exact zeros_oct)
  clear hz5
  go_simp
  obtain ⟨w5, hw5⟩ : ∃ W, W = w6.alloc (.cells (nums .u8 z5) 5) := ⟨_, rfl⟩
  rw [← hw5]
  have hb5 : Below w6.heap.size w6 w5 := by rw [hw5]; exact (Below.refl _ _).alloc (Nat.le_refl _) _
  have S5 : Hid ((fun W => Below V.heap.size V W) w5) := Lib.hid (S6.out.trans (hb5.mono S6.out.size))
  have HM5 := Lib.hid (rd_zeros hw5 HZL5.out (by omega))
  have HB5 := Lib.hid hb5
  clear hm hw5 hb5
  have HM6b := Lib.hid (rd_next HM6.out (Nat.le_refl _) HB5.out)
  refine hK.out _ _ (S5.out) (fun hHeld => ?_)
  clear hK K
  try simp only [Act.put, List.setIfInBounds_toArray, List.set_cons_zero, List.set_cons_succ]
  refine wpAnyH_ready (rs := [7]) (by kernel_rfl) (by simp) ?_
  refine AllReadyH.cons (o := { dst := some 68, op := Op.call { callee := Callee.value (Operand.func 11), args := #[Operand.tmp 65, Operand.tmp 66, Operand.tmp 67], argTypes := #[28, 29, 29] }, type := 4, pos := _, after := _, guard := some (3, true) }) rfl (fun K hK => ?_) AllReadyH.nil
  go_simp
  have hve := HVE.out w5 S5.out (some ⟨w6.heap.size, 0, none⟩) 32 32 z5 HM5.out HZL5.out HZO5.out (some ⟨w1c.heap.size, 0, none⟩) 66 66 z6 HM6b.out HZL6.out HZO6.out
  refine (hve).mono ?_
  rintro e w7 ⟨rfl, hb⟩
  have S7 : Hid ((fun W => Below V.heap.size V W) w7) := Lib.hid (S5.out.trans (hb.mono S5.out.size))
  clear hb
  clear hve
  go_simp
  refine hK.out _ _ (S7.out) (fun hHeld => ?_)
  clear hK K
  try simp only [Act.put, List.setIfInBounds_toArray, List.set_cons_zero, List.set_cons_succ]
  refine wpAnyH_take (i := 8) (oi := { dst := some 69, op := Op.unOp UnOp.not 4 (Operand.tmp 68), type := 4, pos := _, after := _, guard := some (3, true) }) (v := ?_) rfl (by kernel_rfl) (by kernel_rfl) (by kernel_rfl) (fun _ _ _ h => h) (Or.inl ⟨by rfl, ?_⟩) hHeld ?_
  rotate_left 1
  · (intro W hW; (try dsimp only at hW); go_simp; try with_reducible rfl)
  try simp only [Act.put, List.setIfInBounds_toArray, List.set_cons_zero, List.set_cons_succ]
  refine wpAnyH_take (i := 9) (oi := { dst := some 70, op := Op.pick (Operand.tmp 64) (Operand.tmp 69) (Operand.const (Value.bool false)), type := 4, pos := _, after := _, guard := none }) (v := ?_) rfl (by kernel_rfl) (by kernel_rfl) (by kernel_rfl) (fun _ _ _ h => h) (Or.inl ⟨by rfl, ?_⟩) hHeld ?_
  rotate_left 1
  · (intro W hW; (try dsimp only at hW); go_simp; try with_reducible rfl)
  try simp only [Act.put, List.setIfInBounds_toArray, List.set_cons_zero, List.set_cons_succ]
  refine wpAnyH_take (i := 10) (oi := { dst := some 71, op := Op.move (Operand.tmp 70), type := 4, pos := _, after := _, guard := none }) (v := ?_) rfl (by kernel_rfl) (by kernel_rfl) (by kernel_rfl) (fun _ _ _ h => h) (Or.inl ⟨by rfl, ?_⟩) hHeld ?_
  rotate_left 1
  · (intro W hW; (try dsimp only at hW); go_simp; try with_reducible rfl)
  try simp only [Act.put, List.setIfInBounds_toArray, List.set_cons_zero, List.set_cons_succ]
  refine wpAnyH_ready (rs := [11]) (by kernel_rfl) (by simp) ?_
  refine AllReadyH.cons (o := { dst := some 72, op := Op.call { callee := Callee.value (Operand.func 13), args := #[], argTypes := #[] }, type := 4, pos := _, after := _, guard := some (10, true) }) rfl (fun K hK => ?_) AllReadyH.nil
  go_simp
  refine (known9_any w7).mono ?_
  rintro e w11 ⟨rfl, hb⟩
  have S11 : Hid ((fun W => Below V.heap.size V W) w11) := Lib.hid (S7.out.trans (hb.mono S7.out.size))
  clear hb
  go_simp
  refine hK.out _ _ (S11.out) (fun hHeld => ?_)
  clear hK K
  try simp only [Act.put, List.setIfInBounds_toArray, List.set_cons_zero, List.set_cons_succ]
  refine wpAnyH_take (i := 12) (oi := { dst := some 73, op := Op.pick (Operand.tmp 71) (Operand.tmp 72) (Operand.const (Value.bool false)), type := 4, pos := _, after := _, guard := none }) (v := ?_) rfl (by kernel_rfl) (by kernel_rfl) (by kernel_rfl) (fun _ _ _ h => h) (Or.inl ⟨by rfl, ?_⟩) hHeld ?_
  rotate_left 1
  · (intro W hW; (try dsimp only at hW); go_simp; try with_reducible rfl)
  try simp only [Act.put, List.setIfInBounds_toArray, List.set_cons_zero, List.set_cons_succ]
  refine wpAnyH_take (i := 13) (oi := { dst := some 2, op := Op.assign (Operand.tmp 73), type := 4, pos := _, after := _, guard := none }) (v := ?_) rfl (by kernel_rfl) (by kernel_rfl) (by kernel_rfl) (fun _ _ _ h => h) (Or.inl ⟨by rfl, ?_⟩) hHeld ?_
  rotate_left 1
  · (intro W hW; (try dsimp only at hW); go_simp; try with_reducible rfl)
  try simp only [Act.put, List.setIfInBounds_toArray, List.set_cons_zero, List.set_cons_succ]
  refine wpAnyH_done (by kernel_rfl) ?_ _
  refine NoPanic.normal ?_
  go_wp2_with fail
  go_ret
  exact ⟨rfl, HQ.out.trans (S11.out.mono HQ.out.size)⟩
set_option maxRecDepth 100000 in
set_option maxHeartbeats 4000000 in
theorem keys_4 (w : World) : Calls Try.prog 6 #[.int .i64 4] w fun e w' => e = .returned (.bool true) ∧ Below w.heap.size w w' := by
  have HP := Lib.hid (prime_even w 4 (by decide))
  go_enter Try.func6, Try.ntmps6
  go_wp2_with fail
  refine HP.out.mono ?_
  rintro e w1 ⟨g, n, A, c, r, D, rfl, hl, hg, hR, hn, hr, hD, hB1⟩
  rw [pl521_len]
  clear HP hn hr hD hl
  have hB : Below w.heap.size w (w1.alloc (.cells #[.int .i64 1, .slice (some ⟨g, 0, none⟩) 15 17, .int .u32 65537, .slice none 0 0, .slice none 0 0, .bool false] 28)) := hB1.trans (((Below.refl _ _).alloc (Nat.le_refl _) _).mono hB1.size)
  have hH := Holds.fresh w1 28 #[.int .i64 1, .slice (some ⟨g, 0, none⟩) 15 17, .int .u32 65537, .slice none 0 0, .slice none 0 0, .bool false]
  have hR2 := Holds.alloc hR (.cells #[.int .i64 1, .slice (some ⟨g, 0, none⟩) 15 17, .int .u32 65537, .slice none 0 0, .slice none 0 0, .bool false] 28)
  obtain ⟨V, hV⟩ : ∃ V, V = (w1.alloc (.cells #[.int .i64 1, .slice (some ⟨g, 0, none⟩) 15 17, .int .u32 65537, .slice none 0 0, .slice none 0 0, .bool false] 28)) := ⟨_, rfl⟩
  rw [← hV] at hB hH hR2
  have hky : KyP (⟨1, some ⟨g, 0, none⟩, 17, pl521.take 15, 65537, none, 0, [], none, 0, [], false⟩ : Ky) V := ⟨(rd_rowN (n := 17) hR2 pl521_len (by omega)).cut 15, pl521_dg.take 15, Rd.nil_ _ _ _, dg_nil9, Rd.nil_ _ _ _, dg_nil9, (show 65537 < 4294967296 by omega)⟩
  have hnl : (Ky.n (⟨1, some ⟨g, 0, none⟩, 17, pl521.take 15, 65537, none, 0, [], none, 0, [], false⟩ : Ky)).length ≤ 5000 := show ((pl521.take 15)).length ≤ 5000 from by decide +kernel
  have hnl2 : (Ky.n (⟨1, some ⟨g, 0, none⟩, 17, pl521.take 15, 65537, none, 0, [], none, 0, [], false⟩ : Ky)).length ≤ 1000 := show ((pl521.take 15)).length ≤ 1000 from by decide +kernel
  have HV := Lib.hid hV
  have hno : rsaOk (Ky.v (⟨1, some ⟨g, 0, none⟩, 17, pl521.take 15, 65537, none, 0, [], none, 0, [], false⟩ : Ky)) = false := show rsaOk ⟨1, (pl521.take 15), 65537, [], [], false⟩ = false from by decide +kernel
  have HA := Lib.hid hH
  have HQ := Lib.hid hB
  have S0 : Hid ((fun W => Below V.heap.size V W) V) := Lib.hid (Below.refl _ _)
  have hof := Off.of_ky hky
  have HIS : Hid (∀ W, Below V.heap.size V W → Calls Try.prog 9 #[.agg #[.int .i64 1, .slice (some ⟨g, 0, none⟩) 15 17, .int .u32 65537, .slice none 0 0, .slice none 0 0, .bool false]] W fun e w' => e = .returned (.bool false) ∧ Below W.heap.size W w') := Lib.hid fun W hW => by
    have h := rsaIs_any W (⟨1, some ⟨g, 0, none⟩, 17, pl521.take 15, 65537, none, 0, [], none, 0, [], false⟩ : Ky) (hof.under hW).at_ hnl
    rw [hno] at h
    exact h
  have HVE : Hid (∀ W, Below V.heap.size V W → ∀ (A2 : Option Addr) (c2 dn : Nat) (d : List Nat) (hd : Rd .u8 W W.heap.size A2 c2 d) (hdn : d.length = dn) (ho : ∀ x ∈ d, x < 256) (A3 : Option Addr) (c3 sn : Nat) (s : List Nat) (hsg : Rd .u8 W W.heap.size A3 c3 s) (hsn : s.length = sn) (ho3 : ∀ x ∈ s, x < 256), Calls Try.prog 11 #[.agg #[.int .i64 1, .slice (some ⟨g, 0, none⟩) 15 17, .int .u32 65537, .slice none 0 0, .slice none 0 0, .bool false], .slice A2 dn c2, .slice A3 sn c3] W fun e w' => e = .returned (.bool false) ∧ Below W.heap.size W w') := Lib.hid fun W hW A2 c2 dn d hd hdn ho A3 c3 sn s hsg hsn ho3 => by
    have h := rsaVerify_any W (⟨1, some ⟨g, 0, none⟩, 17, pl521.take 15, 65537, none, 0, [], none, 0, [], false⟩ : Ky) (hof.under hW).at_ hnl2 ⟨by simp, by simp⟩ A2 c2 dn d hd hdn ho A3 c3 sn s hsg hsn ho3
    rw [ver_no hno] at h
    exact h
  clear hno hof hky hH hB hnl hnl2
  clear hV hR2 hR hB1
  go_wp2_with fail
  rw [← HV.out]
  go_wp2_with fail
  refine wp_region_noPanic ?_
  refine wp_region_held_drew (S := (fun W => Below V.heap.size V W)) (by kernel_rfl) (S0.out.drew) (fun hHeld => ?_)
  refine wpAnyH_take (i := 0) (oi := { dst := some 61, op := Op.load 28 (Operand.tmp 3), type := 28, pos := _, after := _, guard := none }) (v := ?_) rfl (by kernel_rfl) (by kernel_rfl) (by kernel_rfl) (fun _ _ _ h => h) (Or.inl ⟨by rfl, ?_⟩) hHeld ?_
  rotate_left 1
  · (intro W hW; have k := HA.out.under hW HA.out.lt; have k0 := k.cell 0; have k1 := k.cell 1; have k2 := k.cell 2; have k3 := k.cell 3; have k4 := k.cell 4; have k5 := k.cell 5; (try dsimp only at hW); go_simp; try with_reducible rfl)
  try simp only [Act.put, List.setIfInBounds_toArray, List.set_cons_zero, List.set_cons_succ]
  refine wpAnyH_ready (rs := [1]) (by kernel_rfl) (by simp) ?_
  refine AllReadyH.cons (o := { dst := some 62, op := Op.call { callee := Callee.value (Operand.func 9), args := #[Operand.tmp 61], argTypes := #[28] }, type := 4, pos := _, after := _, guard := none }) rfl (fun K hK => ?_) AllReadyH.nil
  go_simp
  refine (HIS.out _ S0.out.drew).mono ?_
  rintro e w1c ⟨rfl, hb⟩
  have S1 : Hid ((fun W => Below V.heap.size V W) w1c) := Lib.hid (S0.out.drew.trans (hb.mono S0.out.drew.size))
  clear hb
  go_simp
  refine hK.out _ _ (S1.out) (fun hHeld => ?_)
  clear hK K
  try simp only [Act.put, List.setIfInBounds_toArray, List.set_cons_zero, List.set_cons_succ]
  refine wpAnyH_take (i := 2) (oi := { dst := some 63, op := Op.unOp UnOp.not 4 (Operand.tmp 62), type := 4, pos := _, after := _, guard := none }) (v := ?_) rfl (by kernel_rfl) (by kernel_rfl) (by kernel_rfl) (fun _ _ _ h => h) (Or.inl ⟨by rfl, ?_⟩) hHeld ?_
  rotate_left 1
  · (intro W hW; (try dsimp only at hW); go_simp; try with_reducible rfl)
  try simp only [Act.put, List.setIfInBounds_toArray, List.set_cons_zero, List.set_cons_succ]
  refine wpAnyH_take (i := 3) (oi := { dst := some 64, op := Op.move (Operand.tmp 63), type := 4, pos := _, after := _, guard := none }) (v := ?_) rfl (by kernel_rfl) (by kernel_rfl) (by kernel_rfl) (fun _ _ _ h => h) (Or.inl ⟨by rfl, ?_⟩) hHeld ?_
  rotate_left 1
  · (intro W hW; (try dsimp only at hW); go_simp; try with_reducible rfl)
  try simp only [Act.put, List.setIfInBounds_toArray, List.set_cons_zero, List.set_cons_succ]
  refine wpAnyH_take (i := 4) (oi := { dst := some 65, op := Op.load 28 (Operand.tmp 3), type := 28, pos := _, after := _, guard := some (3, true) }) (v := ?_) rfl (by kernel_rfl) (by kernel_rfl) (by kernel_rfl) (fun _ _ _ h => h) (Or.inl ⟨by rfl, ?_⟩) hHeld ?_
  rotate_left 1
  · (intro W hW; have k := HA.out.under hW HA.out.lt; have k0 := k.cell 0; have k1 := k.cell 1; have k2 := k.cell 2; have k3 := k.cell 3; have k4 := k.cell 4; have k5 := k.cell 5; (try dsimp only at hW); go_simp; try with_reducible rfl)
  try simp only [Act.put, List.setIfInBounds_toArray, List.set_cons_zero, List.set_cons_succ]
  refine wpAnyH_ready (rs := [5, 6]) (by kernel_rfl) (by simp) ?_
  refine AllReadyH.cons (o := { dst := some 66, op := Op.makeSlice 29 (Operand.const (Value.int IntKind.i64 32)) (Operand.const (Value.int IntKind.i64 32)), type := 29, pos := _, after := _, guard := some (3, true) }) rfl (fun K hK => ?_) ?_
  · have hm := make_bytes (32 : Int) 32 rfl (by omega) w1c
    obtain ⟨z5, hz5⟩ : ∃ z, z = List.replicate 32 0 := ⟨_, rfl⟩
    rw [← hz5] at hm
    have HZL5 : Hid (z5.length = 32) := Lib.hid (by rw [hz5]; simp)
    have HZO5 : Hid (∀ x ∈ z5, x < 256) := Lib.hid (by rw [hz5]; exact zeros_oct)
    clear hz5
    go_simp
    obtain ⟨w5, hw5⟩ : ∃ W, W = w1c.alloc (.cells (nums .u8 z5) 5) := ⟨_, rfl⟩
    rw [← hw5]
    have hb5 : Below w1c.heap.size w1c w5 := by rw [hw5]; exact (Below.refl _ _).alloc (Nat.le_refl _) _
    have S5 : Hid ((fun W => Below V.heap.size V W) w5) := Lib.hid (S1.out.trans (hb5.mono S1.out.size))
    have HM5 := Lib.hid (rd_zeros hw5 HZL5.out (by omega))
    have HB5 := Lib.hid hb5
    clear hm hw5 hb5
    refine hK.out _ _ (S5.out) (fun hHeld => ?_)
    clear hK K
    try simp only [Act.put, List.setIfInBounds_toArray, List.set_cons_zero, List.set_cons_succ]
    refine wpAnyH_ready (rs := [6]) (by kernel_rfl) (by simp) ?_
    refine AllReadyH.cons (o := { dst := some 67, op := Op.makeSlice 29 (Operand.const (Value.int IntKind.i64 66)) (Operand.const (Value.int IntKind.i64 66)), type := 29, pos := _, after := _, guard := some (3, true) }) rfl (fun K hK => ?_) AllReadyH.nil
    have hm := make_bytes (66 : Int) 66 rfl (by omega) w5
    obtain ⟨z6, hz6⟩ : ∃ z, z = List.replicate 66 0 := ⟨_, rfl⟩
    rw [← hz6] at hm
    have HZL6 : Hid (z6.length = 66) := Lib.hid (by rw [hz6]; simp)
    have HZO6 : Hid (∀ x ∈ z6, x < 256) := Lib.hid (by rw [hz6]; exact zeros_oct)
    clear hz6
    go_simp
    obtain ⟨w6, hw6⟩ : ∃ W, W = w5.alloc (.cells (nums .u8 z6) 5) := ⟨_, rfl⟩
    rw [← hw6]
    have hb6 : Below w5.heap.size w5 w6 := by rw [hw6]; exact (Below.refl _ _).alloc (Nat.le_refl _) _
    have S6 : Hid ((fun W => Below V.heap.size V W) w6) := Lib.hid (S5.out.trans (hb6.mono S5.out.size))
    have HM6 := Lib.hid (rd_zeros hw6 HZL6.out (by omega))
    have HB6 := Lib.hid hb6
    clear hm hw6 hb6
    have HM5b := Lib.hid (rd_next HM5.out (Nat.le_refl _) HB6.out)
    refine hK.out _ _ (S6.out) (fun hHeld => ?_)
    clear hK K
    try simp only [Act.put, List.setIfInBounds_toArray, List.set_cons_zero, List.set_cons_succ]
    refine wpAnyH_ready (rs := [7]) (by kernel_rfl) (by simp) ?_
    refine AllReadyH.cons (o := { dst := some 68, op := Op.call { callee := Callee.value (Operand.func 11), args := #[Operand.tmp 65, Operand.tmp 66, Operand.tmp 67], argTypes := #[28, 29, 29] }, type := 4, pos := _, after := _, guard := some (3, true) }) rfl (fun K hK => ?_) AllReadyH.nil
    go_simp
    have hve := HVE.out w6 S6.out (some ⟨w1c.heap.size, 0, none⟩) 32 32 z5 HM5b.out HZL5.out HZO5.out (some ⟨w5.heap.size, 0, none⟩) 66 66 z6 HM6.out HZL6.out HZO6.out
    refine (hve).mono ?_
    rintro e w7 ⟨rfl, hb⟩
    have S7 : Hid ((fun W => Below V.heap.size V W) w7) := Lib.hid (S6.out.trans (hb.mono S6.out.size))
    clear hb
    clear hve
    go_simp
    refine hK.out _ _ (S7.out) (fun hHeld => ?_)
    clear hK K
    try simp only [Act.put, List.setIfInBounds_toArray, List.set_cons_zero, List.set_cons_succ]
    refine wpAnyH_take (i := 8) (oi := { dst := some 69, op := Op.unOp UnOp.not 4 (Operand.tmp 68), type := 4, pos := _, after := _, guard := some (3, true) }) (v := ?_) rfl (by kernel_rfl) (by kernel_rfl) (by kernel_rfl) (fun _ _ _ h => h) (Or.inl ⟨by rfl, ?_⟩) hHeld ?_
    rotate_left 1
    · (intro W hW; (try dsimp only at hW); go_simp; try with_reducible rfl)
    try simp only [Act.put, List.setIfInBounds_toArray, List.set_cons_zero, List.set_cons_succ]
    refine wpAnyH_take (i := 9) (oi := { dst := some 70, op := Op.pick (Operand.tmp 64) (Operand.tmp 69) (Operand.const (Value.bool false)), type := 4, pos := _, after := _, guard := none }) (v := ?_) rfl (by kernel_rfl) (by kernel_rfl) (by kernel_rfl) (fun _ _ _ h => h) (Or.inl ⟨by rfl, ?_⟩) hHeld ?_
    rotate_left 1
    · (intro W hW; (try dsimp only at hW); go_simp; try with_reducible rfl)
    try simp only [Act.put, List.setIfInBounds_toArray, List.set_cons_zero, List.set_cons_succ]
    refine wpAnyH_take (i := 10) (oi := { dst := some 71, op := Op.move (Operand.tmp 70), type := 4, pos := _, after := _, guard := none }) (v := ?_) rfl (by kernel_rfl) (by kernel_rfl) (by kernel_rfl) (fun _ _ _ h => h) (Or.inl ⟨by rfl, ?_⟩) hHeld ?_
    rotate_left 1
    · (intro W hW; (try dsimp only at hW); go_simp; try with_reducible rfl)
    try simp only [Act.put, List.setIfInBounds_toArray, List.set_cons_zero, List.set_cons_succ]
    refine wpAnyH_ready (rs := [11]) (by kernel_rfl) (by simp) ?_
    refine AllReadyH.cons (o := { dst := some 72, op := Op.call { callee := Callee.value (Operand.func 13), args := #[], argTypes := #[] }, type := 4, pos := _, after := _, guard := some (10, true) }) rfl (fun K hK => ?_) AllReadyH.nil
    go_simp
    refine (known9_any w7).mono ?_
    rintro e w11 ⟨rfl, hb⟩
    have S11 : Hid ((fun W => Below V.heap.size V W) w11) := Lib.hid (S7.out.trans (hb.mono S7.out.size))
    clear hb
    go_simp
    refine hK.out _ _ (S11.out) (fun hHeld => ?_)
    clear hK K
    try simp only [Act.put, List.setIfInBounds_toArray, List.set_cons_zero, List.set_cons_succ]
    refine wpAnyH_take (i := 12) (oi := { dst := some 73, op := Op.pick (Operand.tmp 71) (Operand.tmp 72) (Operand.const (Value.bool false)), type := 4, pos := _, after := _, guard := none }) (v := ?_) rfl (by kernel_rfl) (by kernel_rfl) (by kernel_rfl) (fun _ _ _ h => h) (Or.inl ⟨by rfl, ?_⟩) hHeld ?_
    rotate_left 1
    · (intro W hW; (try dsimp only at hW); go_simp; try with_reducible rfl)
    try simp only [Act.put, List.setIfInBounds_toArray, List.set_cons_zero, List.set_cons_succ]
    refine wpAnyH_take (i := 13) (oi := { dst := some 2, op := Op.assign (Operand.tmp 73), type := 4, pos := _, after := _, guard := none }) (v := ?_) rfl (by kernel_rfl) (by kernel_rfl) (by kernel_rfl) (fun _ _ _ h => h) (Or.inl ⟨by rfl, ?_⟩) hHeld ?_
    rotate_left 1
    · (intro W hW; (try dsimp only at hW); go_simp; try with_reducible rfl)
    try simp only [Act.put, List.setIfInBounds_toArray, List.set_cons_zero, List.set_cons_succ]
    refine wpAnyH_done (by kernel_rfl) ?_ _
    refine NoPanic.normal ?_
    go_wp2_with fail
    go_ret
    exact ⟨rfl, HQ.out.trans (S11.out.mono HQ.out.size)⟩
  refine AllReadyH.cons (o := { dst := some 67, op := Op.makeSlice 29 (Operand.const (Value.int IntKind.i64 66)) (Operand.const (Value.int IntKind.i64 66)), type := 29, pos := _, after := _, guard := some (3, true) }) rfl (fun K hK => ?_) AllReadyH.nil
  have hm := make_bytes (66 : Int) 66 rfl (by omega) w1c
  obtain ⟨z6, hz6⟩ : ∃ z, z = List.replicate 66 0 := ⟨_, rfl⟩
  rw [← hz6] at hm
  have HZL6 : Hid (z6.length = 66) := Lib.hid (by rw [hz6]; simp)
  have HZO6 : Hid (∀ x ∈ z6, x < 256) := Lib.hid (by rw [hz6]; exact zeros_oct)
  clear hz6
  go_simp
  obtain ⟨w6, hw6⟩ : ∃ W, W = w1c.alloc (.cells (nums .u8 z6) 5) := ⟨_, rfl⟩
  rw [← hw6]
  have hb6 : Below w1c.heap.size w1c w6 := by rw [hw6]; exact (Below.refl _ _).alloc (Nat.le_refl _) _
  have S6 : Hid ((fun W => Below V.heap.size V W) w6) := Lib.hid (S1.out.trans (hb6.mono S1.out.size))
  have HM6 := Lib.hid (rd_zeros hw6 HZL6.out (by omega))
  have HB6 := Lib.hid hb6
  clear hm hw6 hb6
  refine hK.out _ _ (S6.out) (fun hHeld => ?_)
  clear hK K
  try simp only [Act.put, List.setIfInBounds_toArray, List.set_cons_zero, List.set_cons_succ]
  refine wpAnyH_ready (rs := [5]) (by kernel_rfl) (by simp) ?_
  refine AllReadyH.cons (o := { dst := some 66, op := Op.makeSlice 29 (Operand.const (Value.int IntKind.i64 32)) (Operand.const (Value.int IntKind.i64 32)), type := 29, pos := _, after := _, guard := some (3, true) }) rfl (fun K hK => ?_) AllReadyH.nil
  have hm := make_bytes (32 : Int) 32 rfl (by omega) w6
  obtain ⟨z5, hz5⟩ : ∃ z, z = List.replicate 32 0 := ⟨_, rfl⟩
  rw [← hz5] at hm
  have HZL5 : Hid (z5.length = 32) := Lib.hid (by rw [hz5]; simp)
  have HZO5 : Hid (∀ x ∈ z5, x < 256) := Lib.hid (by rw [hz5]; exact zeros_oct)
  clear hz5
  go_simp
  obtain ⟨w5, hw5⟩ : ∃ W, W = w6.alloc (.cells (nums .u8 z5) 5) := ⟨_, rfl⟩
  rw [← hw5]
  have hb5 : Below w6.heap.size w6 w5 := by rw [hw5]; exact (Below.refl _ _).alloc (Nat.le_refl _) _
  have S5 : Hid ((fun W => Below V.heap.size V W) w5) := Lib.hid (S6.out.trans (hb5.mono S6.out.size))
  have HM5 := Lib.hid (rd_zeros hw5 HZL5.out (by omega))
  have HB5 := Lib.hid hb5
  clear hm hw5 hb5
  have HM6b := Lib.hid (rd_next HM6.out (Nat.le_refl _) HB5.out)
  refine hK.out _ _ (S5.out) (fun hHeld => ?_)
  clear hK K
  try simp only [Act.put, List.setIfInBounds_toArray, List.set_cons_zero, List.set_cons_succ]
  refine wpAnyH_ready (rs := [7]) (by kernel_rfl) (by simp) ?_
  refine AllReadyH.cons (o := { dst := some 68, op := Op.call { callee := Callee.value (Operand.func 11), args := #[Operand.tmp 65, Operand.tmp 66, Operand.tmp 67], argTypes := #[28, 29, 29] }, type := 4, pos := _, after := _, guard := some (3, true) }) rfl (fun K hK => ?_) AllReadyH.nil
  go_simp
  have hve := HVE.out w5 S5.out (some ⟨w6.heap.size, 0, none⟩) 32 32 z5 HM5.out HZL5.out HZO5.out (some ⟨w1c.heap.size, 0, none⟩) 66 66 z6 HM6b.out HZL6.out HZO6.out
  refine (hve).mono ?_
  rintro e w7 ⟨rfl, hb⟩
  have S7 : Hid ((fun W => Below V.heap.size V W) w7) := Lib.hid (S5.out.trans (hb.mono S5.out.size))
  clear hb
  clear hve
  go_simp
  refine hK.out _ _ (S7.out) (fun hHeld => ?_)
  clear hK K
  try simp only [Act.put, List.setIfInBounds_toArray, List.set_cons_zero, List.set_cons_succ]
  refine wpAnyH_take (i := 8) (oi := { dst := some 69, op := Op.unOp UnOp.not 4 (Operand.tmp 68), type := 4, pos := _, after := _, guard := some (3, true) }) (v := ?_) rfl (by kernel_rfl) (by kernel_rfl) (by kernel_rfl) (fun _ _ _ h => h) (Or.inl ⟨by rfl, ?_⟩) hHeld ?_
  rotate_left 1
  · (intro W hW; (try dsimp only at hW); go_simp; try with_reducible rfl)
  try simp only [Act.put, List.setIfInBounds_toArray, List.set_cons_zero, List.set_cons_succ]
  refine wpAnyH_take (i := 9) (oi := { dst := some 70, op := Op.pick (Operand.tmp 64) (Operand.tmp 69) (Operand.const (Value.bool false)), type := 4, pos := _, after := _, guard := none }) (v := ?_) rfl (by kernel_rfl) (by kernel_rfl) (by kernel_rfl) (fun _ _ _ h => h) (Or.inl ⟨by rfl, ?_⟩) hHeld ?_
  rotate_left 1
  · (intro W hW; (try dsimp only at hW); go_simp; try with_reducible rfl)
  try simp only [Act.put, List.setIfInBounds_toArray, List.set_cons_zero, List.set_cons_succ]
  refine wpAnyH_take (i := 10) (oi := { dst := some 71, op := Op.move (Operand.tmp 70), type := 4, pos := _, after := _, guard := none }) (v := ?_) rfl (by kernel_rfl) (by kernel_rfl) (by kernel_rfl) (fun _ _ _ h => h) (Or.inl ⟨by rfl, ?_⟩) hHeld ?_
  rotate_left 1
  · (intro W hW; (try dsimp only at hW); go_simp; try with_reducible rfl)
  try simp only [Act.put, List.setIfInBounds_toArray, List.set_cons_zero, List.set_cons_succ]
  refine wpAnyH_ready (rs := [11]) (by kernel_rfl) (by simp) ?_
  refine AllReadyH.cons (o := { dst := some 72, op := Op.call { callee := Callee.value (Operand.func 13), args := #[], argTypes := #[] }, type := 4, pos := _, after := _, guard := some (10, true) }) rfl (fun K hK => ?_) AllReadyH.nil
  go_simp
  refine (known9_any w7).mono ?_
  rintro e w11 ⟨rfl, hb⟩
  have S11 : Hid ((fun W => Below V.heap.size V W) w11) := Lib.hid (S7.out.trans (hb.mono S7.out.size))
  clear hb
  go_simp
  refine hK.out _ _ (S11.out) (fun hHeld => ?_)
  clear hK K
  try simp only [Act.put, List.setIfInBounds_toArray, List.set_cons_zero, List.set_cons_succ]
  refine wpAnyH_take (i := 12) (oi := { dst := some 73, op := Op.pick (Operand.tmp 71) (Operand.tmp 72) (Operand.const (Value.bool false)), type := 4, pos := _, after := _, guard := none }) (v := ?_) rfl (by kernel_rfl) (by kernel_rfl) (by kernel_rfl) (fun _ _ _ h => h) (Or.inl ⟨by rfl, ?_⟩) hHeld ?_
  rotate_left 1
  · (intro W hW; (try dsimp only at hW); go_simp; try with_reducible rfl)
  try simp only [Act.put, List.setIfInBounds_toArray, List.set_cons_zero, List.set_cons_succ]
  refine wpAnyH_take (i := 13) (oi := { dst := some 2, op := Op.assign (Operand.tmp 73), type := 4, pos := _, after := _, guard := none }) (v := ?_) rfl (by kernel_rfl) (by kernel_rfl) (by kernel_rfl) (fun _ _ _ h => h) (Or.inl ⟨by rfl, ?_⟩) hHeld ?_
  rotate_left 1
  · (intro W hW; (try dsimp only at hW); go_simp; try with_reducible rfl)
  try simp only [Act.put, List.setIfInBounds_toArray, List.set_cons_zero, List.set_cons_succ]
  refine wpAnyH_done (by kernel_rfl) ?_ _
  refine NoPanic.normal ?_
  go_wp2_with fail
  go_ret
  exact ⟨rfl, HQ.out.trans (S11.out.mono HQ.out.size)⟩
set_option maxRecDepth 100000 in
set_option maxHeartbeats 4000000 in
theorem keys_6 (w : World) : Calls Try.prog 6 #[.int .i64 6] w fun e w' => e = .returned (.bool true) ∧ Below w.heap.size w w' := by
  have HP := Lib.hid (prime_even w 6 (by decide))
  go_enter Try.func6, Try.ntmps6
  go_wp2_with fail
  refine HP.out.mono ?_
  rintro e w1 ⟨g, n, A, c, r, D, rfl, hl, hg, hR, hn, hr, hD, hB1⟩
  rw [pl521_len]
  clear HP hn hr hD hl
  have hB : Below w.heap.size w (w1.alloc (.cells #[.int .i64 1, .slice (some ⟨g, 0, none⟩) 17 17, .int .u32 65537, .slice none 0 0, .slice none 0 0, .bool true] 28)) := hB1.trans (((Below.refl _ _).alloc (Nat.le_refl _) _).mono hB1.size)
  have hH := Holds.fresh w1 28 #[.int .i64 1, .slice (some ⟨g, 0, none⟩) 17 17, .int .u32 65537, .slice none 0 0, .slice none 0 0, .bool true]
  have hR2 := Holds.alloc hR (.cells #[.int .i64 1, .slice (some ⟨g, 0, none⟩) 17 17, .int .u32 65537, .slice none 0 0, .slice none 0 0, .bool true] 28)
  obtain ⟨V, hV⟩ : ∃ V, V = (w1.alloc (.cells #[.int .i64 1, .slice (some ⟨g, 0, none⟩) 17 17, .int .u32 65537, .slice none 0 0, .slice none 0 0, .bool true] 28)) := ⟨_, rfl⟩
  rw [← hV] at hB hH hR2
  have hky : KyP (⟨1, some ⟨g, 0, none⟩, 17, pl521, 65537, none, 0, [], none, 0, [], true⟩ : Ky) V := ⟨rd_rowN (n := 17) hR2 pl521_len (by omega), pl521_dg, Rd.nil_ _ _ _, dg_nil9, Rd.nil_ _ _ _, dg_nil9, (show 65537 < 4294967296 by omega)⟩
  have hnl : (Ky.n (⟨1, some ⟨g, 0, none⟩, 17, pl521, 65537, none, 0, [], none, 0, [], true⟩ : Ky)).length ≤ 5000 := show (pl521).length ≤ 5000 from by decide +kernel
  have hnl2 : (Ky.n (⟨1, some ⟨g, 0, none⟩, 17, pl521, 65537, none, 0, [], none, 0, [], true⟩ : Ky)).length ≤ 1000 := show (pl521).length ≤ 1000 from by decide +kernel
  have HV := Lib.hid hV
  have hno : rsaOk (Ky.v (⟨1, some ⟨g, 0, none⟩, 17, pl521, 65537, none, 0, [], none, 0, [], true⟩ : Ky)) = false := show rsaOk ⟨1, pl521, 65537, [], [], true⟩ = false from by decide +kernel
  have HA := Lib.hid hH
  have HQ := Lib.hid hB
  have S0 : Hid ((fun W => Below V.heap.size V W) V) := Lib.hid (Below.refl _ _)
  have hof := Off.of_ky hky
  have HIS : Hid (∀ W, Below V.heap.size V W → Calls Try.prog 9 #[.agg #[.int .i64 1, .slice (some ⟨g, 0, none⟩) 17 17, .int .u32 65537, .slice none 0 0, .slice none 0 0, .bool true]] W fun e w' => e = .returned (.bool false) ∧ Below W.heap.size W w') := Lib.hid fun W hW => by
    have h := rsaIs_any W (⟨1, some ⟨g, 0, none⟩, 17, pl521, 65537, none, 0, [], none, 0, [], true⟩ : Ky) (hof.under hW).at_ hnl
    rw [hno] at h
    exact h
  have HVE : Hid (∀ W, Below V.heap.size V W → ∀ (A2 : Option Addr) (c2 dn : Nat) (d : List Nat) (hd : Rd .u8 W W.heap.size A2 c2 d) (hdn : d.length = dn) (ho : ∀ x ∈ d, x < 256) (A3 : Option Addr) (c3 sn : Nat) (s : List Nat) (hsg : Rd .u8 W W.heap.size A3 c3 s) (hsn : s.length = sn) (ho3 : ∀ x ∈ s, x < 256), Calls Try.prog 11 #[.agg #[.int .i64 1, .slice (some ⟨g, 0, none⟩) 17 17, .int .u32 65537, .slice none 0 0, .slice none 0 0, .bool true], .slice A2 dn c2, .slice A3 sn c3] W fun e w' => e = .returned (.bool false) ∧ Below W.heap.size W w') := Lib.hid fun W hW A2 c2 dn d hd hdn ho A3 c3 sn s hsg hsn ho3 => by
    have h := rsaVerify_any W (⟨1, some ⟨g, 0, none⟩, 17, pl521, 65537, none, 0, [], none, 0, [], true⟩ : Ky) (hof.under hW).at_ hnl2 ⟨by simp, by simp⟩ A2 c2 dn d hd hdn ho A3 c3 sn s hsg hsn ho3
    rw [ver_no hno] at h
    exact h
  clear hno hof hky hH hB hnl hnl2
  clear hV hR2 hR hB1
  go_wp2_with fail
  rw [← HV.out]
  go_wp2_with fail
  refine wp_region_noPanic ?_
  refine wp_region_held_drew (S := (fun W => Below V.heap.size V W)) (by kernel_rfl) (S0.out.drew) (fun hHeld => ?_)
  refine wpAnyH_take (i := 0) (oi := { dst := some 61, op := Op.load 28 (Operand.tmp 3), type := 28, pos := _, after := _, guard := none }) (v := ?_) rfl (by kernel_rfl) (by kernel_rfl) (by kernel_rfl) (fun _ _ _ h => h) (Or.inl ⟨by rfl, ?_⟩) hHeld ?_
  rotate_left 1
  · (intro W hW; have k := HA.out.under hW HA.out.lt; have k0 := k.cell 0; have k1 := k.cell 1; have k2 := k.cell 2; have k3 := k.cell 3; have k4 := k.cell 4; have k5 := k.cell 5; (try dsimp only at hW); go_simp; try with_reducible rfl)
  try simp only [Act.put, List.setIfInBounds_toArray, List.set_cons_zero, List.set_cons_succ]
  refine wpAnyH_ready (rs := [1]) (by kernel_rfl) (by simp) ?_
  refine AllReadyH.cons (o := { dst := some 62, op := Op.call { callee := Callee.value (Operand.func 9), args := #[Operand.tmp 61], argTypes := #[28] }, type := 4, pos := _, after := _, guard := none }) rfl (fun K hK => ?_) AllReadyH.nil
  go_simp
  refine (HIS.out _ S0.out.drew).mono ?_
  rintro e w1c ⟨rfl, hb⟩
  have S1 : Hid ((fun W => Below V.heap.size V W) w1c) := Lib.hid (S0.out.drew.trans (hb.mono S0.out.drew.size))
  clear hb
  go_simp
  refine hK.out _ _ (S1.out) (fun hHeld => ?_)
  clear hK K
  try simp only [Act.put, List.setIfInBounds_toArray, List.set_cons_zero, List.set_cons_succ]
  refine wpAnyH_take (i := 2) (oi := { dst := some 63, op := Op.unOp UnOp.not 4 (Operand.tmp 62), type := 4, pos := _, after := _, guard := none }) (v := ?_) rfl (by kernel_rfl) (by kernel_rfl) (by kernel_rfl) (fun _ _ _ h => h) (Or.inl ⟨by rfl, ?_⟩) hHeld ?_
  rotate_left 1
  · (intro W hW; (try dsimp only at hW); go_simp; try with_reducible rfl)
  try simp only [Act.put, List.setIfInBounds_toArray, List.set_cons_zero, List.set_cons_succ]
  refine wpAnyH_take (i := 3) (oi := { dst := some 64, op := Op.move (Operand.tmp 63), type := 4, pos := _, after := _, guard := none }) (v := ?_) rfl (by kernel_rfl) (by kernel_rfl) (by kernel_rfl) (fun _ _ _ h => h) (Or.inl ⟨by rfl, ?_⟩) hHeld ?_
  rotate_left 1
  · (intro W hW; (try dsimp only at hW); go_simp; try with_reducible rfl)
  try simp only [Act.put, List.setIfInBounds_toArray, List.set_cons_zero, List.set_cons_succ]
  refine wpAnyH_take (i := 4) (oi := { dst := some 65, op := Op.load 28 (Operand.tmp 3), type := 28, pos := _, after := _, guard := some (3, true) }) (v := ?_) rfl (by kernel_rfl) (by kernel_rfl) (by kernel_rfl) (fun _ _ _ h => h) (Or.inl ⟨by rfl, ?_⟩) hHeld ?_
  rotate_left 1
  · (intro W hW; have k := HA.out.under hW HA.out.lt; have k0 := k.cell 0; have k1 := k.cell 1; have k2 := k.cell 2; have k3 := k.cell 3; have k4 := k.cell 4; have k5 := k.cell 5; (try dsimp only at hW); go_simp; try with_reducible rfl)
  try simp only [Act.put, List.setIfInBounds_toArray, List.set_cons_zero, List.set_cons_succ]
  refine wpAnyH_ready (rs := [5, 6]) (by kernel_rfl) (by simp) ?_
  refine AllReadyH.cons (o := { dst := some 66, op := Op.makeSlice 29 (Operand.const (Value.int IntKind.i64 32)) (Operand.const (Value.int IntKind.i64 32)), type := 29, pos := _, after := _, guard := some (3, true) }) rfl (fun K hK => ?_) ?_
  · have hm := make_bytes (32 : Int) 32 rfl (by omega) w1c
    obtain ⟨z5, hz5⟩ : ∃ z, z = List.replicate 32 0 := ⟨_, rfl⟩
    rw [← hz5] at hm
    have HZL5 : Hid (z5.length = 32) := Lib.hid (by rw [hz5]; simp)
    have HZO5 : Hid (∀ x ∈ z5, x < 256) := Lib.hid (by rw [hz5]; exact zeros_oct)
    clear hz5
    go_simp
    obtain ⟨w5, hw5⟩ : ∃ W, W = w1c.alloc (.cells (nums .u8 z5) 5) := ⟨_, rfl⟩
    rw [← hw5]
    have hb5 : Below w1c.heap.size w1c w5 := by rw [hw5]; exact (Below.refl _ _).alloc (Nat.le_refl _) _
    have S5 : Hid ((fun W => Below V.heap.size V W) w5) := Lib.hid (S1.out.trans (hb5.mono S1.out.size))
    have HM5 := Lib.hid (rd_zeros hw5 HZL5.out (by omega))
    have HB5 := Lib.hid hb5
    clear hm hw5 hb5
    refine hK.out _ _ (S5.out) (fun hHeld => ?_)
    clear hK K
    try simp only [Act.put, List.setIfInBounds_toArray, List.set_cons_zero, List.set_cons_succ]
    refine wpAnyH_ready (rs := [6]) (by kernel_rfl) (by simp) ?_
    refine AllReadyH.cons (o := { dst := some 67, op := Op.makeSlice 29 (Operand.const (Value.int IntKind.i64 66)) (Operand.const (Value.int IntKind.i64 66)), type := 29, pos := _, after := _, guard := some (3, true) }) rfl (fun K hK => ?_) AllReadyH.nil
    have hm := make_bytes (66 : Int) 66 rfl (by omega) w5
    obtain ⟨z6, hz6⟩ : ∃ z, z = List.replicate 66 0 := ⟨_, rfl⟩
    rw [← hz6] at hm
    have HZL6 : Hid (z6.length = 66) := Lib.hid (by rw [hz6]; simp)
    have HZO6 : Hid (∀ x ∈ z6, x < 256) := Lib.hid (by rw [hz6]; exact zeros_oct)
    clear hz6
    go_simp
    obtain ⟨w6, hw6⟩ : ∃ W, W = w5.alloc (.cells (nums .u8 z6) 5) := ⟨_, rfl⟩
    rw [← hw6]
    have hb6 : Below w5.heap.size w5 w6 := by rw [hw6]; exact (Below.refl _ _).alloc (Nat.le_refl _) _
    have S6 : Hid ((fun W => Below V.heap.size V W) w6) := Lib.hid (S5.out.trans (hb6.mono S5.out.size))
    have HM6 := Lib.hid (rd_zeros hw6 HZL6.out (by omega))
    have HB6 := Lib.hid hb6
    clear hm hw6 hb6
    have HM5b := Lib.hid (rd_next HM5.out (Nat.le_refl _) HB6.out)
    refine hK.out _ _ (S6.out) (fun hHeld => ?_)
    clear hK K
    try simp only [Act.put, List.setIfInBounds_toArray, List.set_cons_zero, List.set_cons_succ]
    refine wpAnyH_ready (rs := [7]) (by kernel_rfl) (by simp) ?_
    refine AllReadyH.cons (o := { dst := some 68, op := Op.call { callee := Callee.value (Operand.func 11), args := #[Operand.tmp 65, Operand.tmp 66, Operand.tmp 67], argTypes := #[28, 29, 29] }, type := 4, pos := _, after := _, guard := some (3, true) }) rfl (fun K hK => ?_) AllReadyH.nil
    go_simp
    have hve := HVE.out w6 S6.out (some ⟨w1c.heap.size, 0, none⟩) 32 32 z5 HM5b.out HZL5.out HZO5.out (some ⟨w5.heap.size, 0, none⟩) 66 66 z6 HM6.out HZL6.out HZO6.out
    refine (hve).mono ?_
    rintro e w7 ⟨rfl, hb⟩
    have S7 : Hid ((fun W => Below V.heap.size V W) w7) := Lib.hid (S6.out.trans (hb.mono S6.out.size))
    clear hb
    clear hve
    go_simp
    refine hK.out _ _ (S7.out) (fun hHeld => ?_)
    clear hK K
    try simp only [Act.put, List.setIfInBounds_toArray, List.set_cons_zero, List.set_cons_succ]
    refine wpAnyH_take (i := 8) (oi := { dst := some 69, op := Op.unOp UnOp.not 4 (Operand.tmp 68), type := 4, pos := _, after := _, guard := some (3, true) }) (v := ?_) rfl (by kernel_rfl) (by kernel_rfl) (by kernel_rfl) (fun _ _ _ h => h) (Or.inl ⟨by rfl, ?_⟩) hHeld ?_
    rotate_left 1
    · (intro W hW; (try dsimp only at hW); go_simp; try with_reducible rfl)
    try simp only [Act.put, List.setIfInBounds_toArray, List.set_cons_zero, List.set_cons_succ]
    refine wpAnyH_take (i := 9) (oi := { dst := some 70, op := Op.pick (Operand.tmp 64) (Operand.tmp 69) (Operand.const (Value.bool false)), type := 4, pos := _, after := _, guard := none }) (v := ?_) rfl (by kernel_rfl) (by kernel_rfl) (by kernel_rfl) (fun _ _ _ h => h) (Or.inl ⟨by rfl, ?_⟩) hHeld ?_
    rotate_left 1
    · (intro W hW; (try dsimp only at hW); go_simp; try with_reducible rfl)
    try simp only [Act.put, List.setIfInBounds_toArray, List.set_cons_zero, List.set_cons_succ]
    refine wpAnyH_take (i := 10) (oi := { dst := some 71, op := Op.move (Operand.tmp 70), type := 4, pos := _, after := _, guard := none }) (v := ?_) rfl (by kernel_rfl) (by kernel_rfl) (by kernel_rfl) (fun _ _ _ h => h) (Or.inl ⟨by rfl, ?_⟩) hHeld ?_
    rotate_left 1
    · (intro W hW; (try dsimp only at hW); go_simp; try with_reducible rfl)
    try simp only [Act.put, List.setIfInBounds_toArray, List.set_cons_zero, List.set_cons_succ]
    refine wpAnyH_ready (rs := [11]) (by kernel_rfl) (by simp) ?_
    refine AllReadyH.cons (o := { dst := some 72, op := Op.call { callee := Callee.value (Operand.func 13), args := #[], argTypes := #[] }, type := 4, pos := _, after := _, guard := some (10, true) }) rfl (fun K hK => ?_) AllReadyH.nil
    go_simp
    refine (known9_any w7).mono ?_
    rintro e w11 ⟨rfl, hb⟩
    have S11 : Hid ((fun W => Below V.heap.size V W) w11) := Lib.hid (S7.out.trans (hb.mono S7.out.size))
    clear hb
    go_simp
    refine hK.out _ _ (S11.out) (fun hHeld => ?_)
    clear hK K
    try simp only [Act.put, List.setIfInBounds_toArray, List.set_cons_zero, List.set_cons_succ]
    refine wpAnyH_take (i := 12) (oi := { dst := some 73, op := Op.pick (Operand.tmp 71) (Operand.tmp 72) (Operand.const (Value.bool false)), type := 4, pos := _, after := _, guard := none }) (v := ?_) rfl (by kernel_rfl) (by kernel_rfl) (by kernel_rfl) (fun _ _ _ h => h) (Or.inl ⟨by rfl, ?_⟩) hHeld ?_
    rotate_left 1
    · (intro W hW; (try dsimp only at hW); go_simp; try with_reducible rfl)
    try simp only [Act.put, List.setIfInBounds_toArray, List.set_cons_zero, List.set_cons_succ]
    refine wpAnyH_take (i := 13) (oi := { dst := some 2, op := Op.assign (Operand.tmp 73), type := 4, pos := _, after := _, guard := none }) (v := ?_) rfl (by kernel_rfl) (by kernel_rfl) (by kernel_rfl) (fun _ _ _ h => h) (Or.inl ⟨by rfl, ?_⟩) hHeld ?_
    rotate_left 1
    · (intro W hW; (try dsimp only at hW); go_simp; try with_reducible rfl)
    try simp only [Act.put, List.setIfInBounds_toArray, List.set_cons_zero, List.set_cons_succ]
    refine wpAnyH_done (by kernel_rfl) ?_ _
    refine NoPanic.normal ?_
    go_wp2_with fail
    go_ret
    exact ⟨rfl, HQ.out.trans (S11.out.mono HQ.out.size)⟩
  refine AllReadyH.cons (o := { dst := some 67, op := Op.makeSlice 29 (Operand.const (Value.int IntKind.i64 66)) (Operand.const (Value.int IntKind.i64 66)), type := 29, pos := _, after := _, guard := some (3, true) }) rfl (fun K hK => ?_) AllReadyH.nil
  have hm := make_bytes (66 : Int) 66 rfl (by omega) w1c
  obtain ⟨z6, hz6⟩ : ∃ z, z = List.replicate 66 0 := ⟨_, rfl⟩
  rw [← hz6] at hm
  have HZL6 : Hid (z6.length = 66) := Lib.hid (by rw [hz6]; simp)
  have HZO6 : Hid (∀ x ∈ z6, x < 256) := Lib.hid (by rw [hz6]; exact zeros_oct)
  clear hz6
  go_simp
  obtain ⟨w6, hw6⟩ : ∃ W, W = w1c.alloc (.cells (nums .u8 z6) 5) := ⟨_, rfl⟩
  rw [← hw6]
  have hb6 : Below w1c.heap.size w1c w6 := by rw [hw6]; exact (Below.refl _ _).alloc (Nat.le_refl _) _
  have S6 : Hid ((fun W => Below V.heap.size V W) w6) := Lib.hid (S1.out.trans (hb6.mono S1.out.size))
  have HM6 := Lib.hid (rd_zeros hw6 HZL6.out (by omega))
  have HB6 := Lib.hid hb6
  clear hm hw6 hb6
  refine hK.out _ _ (S6.out) (fun hHeld => ?_)
  clear hK K
  try simp only [Act.put, List.setIfInBounds_toArray, List.set_cons_zero, List.set_cons_succ]
  refine wpAnyH_ready (rs := [5]) (by kernel_rfl) (by simp) ?_
  refine AllReadyH.cons (o := { dst := some 66, op := Op.makeSlice 29 (Operand.const (Value.int IntKind.i64 32)) (Operand.const (Value.int IntKind.i64 32)), type := 29, pos := _, after := _, guard := some (3, true) }) rfl (fun K hK => ?_) AllReadyH.nil
  have hm := make_bytes (32 : Int) 32 rfl (by omega) w6
  obtain ⟨z5, hz5⟩ : ∃ z, z = List.replicate 32 0 := ⟨_, rfl⟩
  rw [← hz5] at hm
  have HZL5 : Hid (z5.length = 32) := Lib.hid (by rw [hz5]; simp)
  have HZO5 : Hid (∀ x ∈ z5, x < 256) := Lib.hid (by rw [hz5]; exact zeros_oct)
  clear hz5
  go_simp
  obtain ⟨w5, hw5⟩ : ∃ W, W = w6.alloc (.cells (nums .u8 z5) 5) := ⟨_, rfl⟩
  rw [← hw5]
  have hb5 : Below w6.heap.size w6 w5 := by rw [hw5]; exact (Below.refl _ _).alloc (Nat.le_refl _) _
  have S5 : Hid ((fun W => Below V.heap.size V W) w5) := Lib.hid (S6.out.trans (hb5.mono S6.out.size))
  have HM5 := Lib.hid (rd_zeros hw5 HZL5.out (by omega))
  have HB5 := Lib.hid hb5
  clear hm hw5 hb5
  have HM6b := Lib.hid (rd_next HM6.out (Nat.le_refl _) HB5.out)
  refine hK.out _ _ (S5.out) (fun hHeld => ?_)
  clear hK K
  try simp only [Act.put, List.setIfInBounds_toArray, List.set_cons_zero, List.set_cons_succ]
  refine wpAnyH_ready (rs := [7]) (by kernel_rfl) (by simp) ?_
  refine AllReadyH.cons (o := { dst := some 68, op := Op.call { callee := Callee.value (Operand.func 11), args := #[Operand.tmp 65, Operand.tmp 66, Operand.tmp 67], argTypes := #[28, 29, 29] }, type := 4, pos := _, after := _, guard := some (3, true) }) rfl (fun K hK => ?_) AllReadyH.nil
  go_simp
  have hve := HVE.out w5 S5.out (some ⟨w6.heap.size, 0, none⟩) 32 32 z5 HM5.out HZL5.out HZO5.out (some ⟨w1c.heap.size, 0, none⟩) 66 66 z6 HM6b.out HZL6.out HZO6.out
  refine (hve).mono ?_
  rintro e w7 ⟨rfl, hb⟩
  have S7 : Hid ((fun W => Below V.heap.size V W) w7) := Lib.hid (S5.out.trans (hb.mono S5.out.size))
  clear hb
  clear hve
  go_simp
  refine hK.out _ _ (S7.out) (fun hHeld => ?_)
  clear hK K
  try simp only [Act.put, List.setIfInBounds_toArray, List.set_cons_zero, List.set_cons_succ]
  refine wpAnyH_take (i := 8) (oi := { dst := some 69, op := Op.unOp UnOp.not 4 (Operand.tmp 68), type := 4, pos := _, after := _, guard := some (3, true) }) (v := ?_) rfl (by kernel_rfl) (by kernel_rfl) (by kernel_rfl) (fun _ _ _ h => h) (Or.inl ⟨by rfl, ?_⟩) hHeld ?_
  rotate_left 1
  · (intro W hW; (try dsimp only at hW); go_simp; try with_reducible rfl)
  try simp only [Act.put, List.setIfInBounds_toArray, List.set_cons_zero, List.set_cons_succ]
  refine wpAnyH_take (i := 9) (oi := { dst := some 70, op := Op.pick (Operand.tmp 64) (Operand.tmp 69) (Operand.const (Value.bool false)), type := 4, pos := _, after := _, guard := none }) (v := ?_) rfl (by kernel_rfl) (by kernel_rfl) (by kernel_rfl) (fun _ _ _ h => h) (Or.inl ⟨by rfl, ?_⟩) hHeld ?_
  rotate_left 1
  · (intro W hW; (try dsimp only at hW); go_simp; try with_reducible rfl)
  try simp only [Act.put, List.setIfInBounds_toArray, List.set_cons_zero, List.set_cons_succ]
  refine wpAnyH_take (i := 10) (oi := { dst := some 71, op := Op.move (Operand.tmp 70), type := 4, pos := _, after := _, guard := none }) (v := ?_) rfl (by kernel_rfl) (by kernel_rfl) (by kernel_rfl) (fun _ _ _ h => h) (Or.inl ⟨by rfl, ?_⟩) hHeld ?_
  rotate_left 1
  · (intro W hW; (try dsimp only at hW); go_simp; try with_reducible rfl)
  try simp only [Act.put, List.setIfInBounds_toArray, List.set_cons_zero, List.set_cons_succ]
  refine wpAnyH_ready (rs := [11]) (by kernel_rfl) (by simp) ?_
  refine AllReadyH.cons (o := { dst := some 72, op := Op.call { callee := Callee.value (Operand.func 13), args := #[], argTypes := #[] }, type := 4, pos := _, after := _, guard := some (10, true) }) rfl (fun K hK => ?_) AllReadyH.nil
  go_simp
  refine (known9_any w7).mono ?_
  rintro e w11 ⟨rfl, hb⟩
  have S11 : Hid ((fun W => Below V.heap.size V W) w11) := Lib.hid (S7.out.trans (hb.mono S7.out.size))
  clear hb
  go_simp
  refine hK.out _ _ (S11.out) (fun hHeld => ?_)
  clear hK K
  try simp only [Act.put, List.setIfInBounds_toArray, List.set_cons_zero, List.set_cons_succ]
  refine wpAnyH_take (i := 12) (oi := { dst := some 73, op := Op.pick (Operand.tmp 71) (Operand.tmp 72) (Operand.const (Value.bool false)), type := 4, pos := _, after := _, guard := none }) (v := ?_) rfl (by kernel_rfl) (by kernel_rfl) (by kernel_rfl) (fun _ _ _ h => h) (Or.inl ⟨by rfl, ?_⟩) hHeld ?_
  rotate_left 1
  · (intro W hW; (try dsimp only at hW); go_simp; try with_reducible rfl)
  try simp only [Act.put, List.setIfInBounds_toArray, List.set_cons_zero, List.set_cons_succ]
  refine wpAnyH_take (i := 13) (oi := { dst := some 2, op := Op.assign (Operand.tmp 73), type := 4, pos := _, after := _, guard := none }) (v := ?_) rfl (by kernel_rfl) (by kernel_rfl) (by kernel_rfl) (fun _ _ _ h => h) (Or.inl ⟨by rfl, ?_⟩) hHeld ?_
  rotate_left 1
  · (intro W hW; (try dsimp only at hW); go_simp; try with_reducible rfl)
  try simp only [Act.put, List.setIfInBounds_toArray, List.set_cons_zero, List.set_cons_succ]
  refine wpAnyH_done (by kernel_rfl) ?_ _
  refine NoPanic.normal ?_
  go_wp2_with fail
  go_ret
  exact ⟨rfl, HQ.out.trans (S11.out.mono HQ.out.size)⟩
set_option maxRecDepth 100000 in
set_option maxHeartbeats 4000000 in
theorem keys_7 (w : World) : Calls Try.prog 6 #[.int .i64 7] w fun e w' => e = .returned (.bool true) ∧ Below w.heap.size w w' := by
  have HP := Lib.hid (prime_odd w 7 (by decide))
  go_enter Try.func6, Try.ntmps6
  go_wp2_with fail
  refine HP.out.mono ?_
  rintro e w1 ⟨g, n, A, c, r, D, rfl, hl, hg, hR, hn, hr, hD, hB1⟩
  rw [pl607_len]
  clear HP hn hr hD hl
  have hB : Below w.heap.size w ((w1.alloc (.cells #[.int .i64 1, .slice (some ⟨g, 0, none⟩) 19 19, .int .u32 65537, .slice (some ⟨w1.heap.size + 1, 0, none⟩) 1 1, .slice none 0 0, .bool false] 28)).alloc (.cells #[.int .u32 1] 24)) := hB1.trans ((((Below.refl _ _).alloc (Nat.le_refl _) _).alloc (by simp) _).mono hB1.size)
  have hH := (Holds.fresh w1 28 #[.int .i64 1, .slice (some ⟨g, 0, none⟩) 19 19, .int .u32 65537, .slice (some ⟨w1.heap.size + 1, 0, none⟩) 1 1, .slice none 0 0, .bool false]).alloc (.cells #[.int .u32 1] 24)
  have hR2 := (Holds.alloc hR (.cells #[.int .i64 1, .slice (some ⟨g, 0, none⟩) 19 19, .int .u32 65537, .slice (some ⟨w1.heap.size + 1, 0, none⟩) 1 1, .slice none 0 0, .bool false] 28)).alloc (.cells #[.int .u32 1] 24)
  have hX := rd_lone (w1.alloc (.cells #[.int .i64 1, .slice (some ⟨g, 0, none⟩) 19 19, .int .u32 65537, .slice (some ⟨w1.heap.size + 1, 0, none⟩) 1 1, .slice none 0 0, .bool false] 28)) 1
  rw [show (.cells #[.int .u32 ((1 : Nat) : Int)] 24 : Obj) = .cells #[.int .u32 1] 24 from rfl, show (w1.alloc (.cells #[.int .i64 1, .slice (some ⟨g, 0, none⟩) 19 19, .int .u32 65537, .slice (some ⟨w1.heap.size + 1, 0, none⟩) 1 1, .slice none 0 0, .bool false] 28)).heap.size = w1.heap.size + 1 by simp] at hX
  obtain ⟨V, hV⟩ : ∃ V, V = ((w1.alloc (.cells #[.int .i64 1, .slice (some ⟨g, 0, none⟩) 19 19, .int .u32 65537, .slice (some ⟨w1.heap.size + 1, 0, none⟩) 1 1, .slice none 0 0, .bool false] 28)).alloc (.cells #[.int .u32 1] 24)) := ⟨_, rfl⟩
  rw [← hV] at hB hH hR2 hX
  have hky : KyP (⟨1, some ⟨g, 0, none⟩, 19, pl607, 65537, some ⟨w1.heap.size + 1, 0, none⟩, 1, [1], none, 0, [], false⟩ : Ky) V := ⟨rd_rowN (n := 19) hR2 pl607_len (by omega), pl607_dg, hX, dg_lone (by omega), Rd.nil_ _ _ _, dg_nil9, (show 65537 < 4294967296 by omega)⟩
  have hnl : (Ky.n (⟨1, some ⟨g, 0, none⟩, 19, pl607, 65537, some ⟨w1.heap.size + 1, 0, none⟩, 1, [1], none, 0, [], false⟩ : Ky)).length ≤ 5000 := show (pl607).length ≤ 5000 from by decide +kernel
  have hnl2 : (Ky.n (⟨1, some ⟨g, 0, none⟩, 19, pl607, 65537, some ⟨w1.heap.size + 1, 0, none⟩, 1, [1], none, 0, [], false⟩ : Ky)).length ≤ 1000 := show (pl607).length ≤ 1000 from by decide +kernel
  have HV := Lib.hid hV
  have hno : rsaOk (Ky.v (⟨1, some ⟨g, 0, none⟩, 19, pl607, 65537, some ⟨w1.heap.size + 1, 0, none⟩, 1, [1], none, 0, [], false⟩ : Ky)) = false := show rsaOk ⟨1, pl607, 65537, [1], [], false⟩ = false from by decide +kernel
  have HA := Lib.hid hH
  have HQ := Lib.hid hB
  have S0 : Hid ((fun W => Below V.heap.size V W) V) := Lib.hid (Below.refl _ _)
  have hof := Off.of_ky hky
  have HIS : Hid (∀ W, Below V.heap.size V W → Calls Try.prog 9 #[.agg #[.int .i64 1, .slice (some ⟨g, 0, none⟩) 19 19, .int .u32 65537, .slice (some ⟨w1.heap.size + 1, 0, none⟩) 1 1, .slice none 0 0, .bool false]] W fun e w' => e = .returned (.bool false) ∧ Below W.heap.size W w') := Lib.hid fun W hW => by
    have h := rsaIs_any W (⟨1, some ⟨g, 0, none⟩, 19, pl607, 65537, some ⟨w1.heap.size + 1, 0, none⟩, 1, [1], none, 0, [], false⟩ : Ky) (hof.under hW).at_ hnl
    rw [hno] at h
    exact h
  have HVE : Hid (∀ W, Below V.heap.size V W → ∀ (A2 : Option Addr) (c2 dn : Nat) (d : List Nat) (hd : Rd .u8 W W.heap.size A2 c2 d) (hdn : d.length = dn) (ho : ∀ x ∈ d, x < 256) (A3 : Option Addr) (c3 sn : Nat) (s : List Nat) (hsg : Rd .u8 W W.heap.size A3 c3 s) (hsn : s.length = sn) (ho3 : ∀ x ∈ s, x < 256), Calls Try.prog 11 #[.agg #[.int .i64 1, .slice (some ⟨g, 0, none⟩) 19 19, .int .u32 65537, .slice (some ⟨w1.heap.size + 1, 0, none⟩) 1 1, .slice none 0 0, .bool false], .slice A2 dn c2, .slice A3 sn c3] W fun e w' => e = .returned (.bool false) ∧ Below W.heap.size W w') := Lib.hid fun W hW A2 c2 dn d hd hdn ho A3 c3 sn s hsg hsn ho3 => by
    have h := rsaVerify_any W (⟨1, some ⟨g, 0, none⟩, 19, pl607, 65537, some ⟨w1.heap.size + 1, 0, none⟩, 1, [1], none, 0, [], false⟩ : Ky) (hof.under hW).at_ hnl2 ⟨by simp, by simp⟩ A2 c2 dn d hd hdn ho A3 c3 sn s hsg hsn ho3
    rw [ver_no hno] at h
    exact h
  clear hno hof hky hH hB hnl hnl2
  clear hV hR2 hX hR hB1
  go_wp2_with fail
  rw [← HV.out]
  go_wp2_with fail
  refine wp_region_noPanic ?_
  refine wp_region_held_drew (S := (fun W => Below V.heap.size V W)) (by kernel_rfl) (S0.out.drew) (fun hHeld => ?_)
  refine wpAnyH_take (i := 0) (oi := { dst := some 61, op := Op.load 28 (Operand.tmp 3), type := 28, pos := _, after := _, guard := none }) (v := ?_) rfl (by kernel_rfl) (by kernel_rfl) (by kernel_rfl) (fun _ _ _ h => h) (Or.inl ⟨by rfl, ?_⟩) hHeld ?_
  rotate_left 1
  · (intro W hW; have k := HA.out.under hW HA.out.lt; have k0 := k.cell 0; have k1 := k.cell 1; have k2 := k.cell 2; have k3 := k.cell 3; have k4 := k.cell 4; have k5 := k.cell 5; (try dsimp only at hW); go_simp; try with_reducible rfl)
  try simp only [Act.put, List.setIfInBounds_toArray, List.set_cons_zero, List.set_cons_succ]
  refine wpAnyH_ready (rs := [1]) (by kernel_rfl) (by simp) ?_
  refine AllReadyH.cons (o := { dst := some 62, op := Op.call { callee := Callee.value (Operand.func 9), args := #[Operand.tmp 61], argTypes := #[28] }, type := 4, pos := _, after := _, guard := none }) rfl (fun K hK => ?_) AllReadyH.nil
  go_simp
  refine (HIS.out _ S0.out.drew).mono ?_
  rintro e w1c ⟨rfl, hb⟩
  have S1 : Hid ((fun W => Below V.heap.size V W) w1c) := Lib.hid (S0.out.drew.trans (hb.mono S0.out.drew.size))
  clear hb
  go_simp
  refine hK.out _ _ (S1.out) (fun hHeld => ?_)
  clear hK K
  try simp only [Act.put, List.setIfInBounds_toArray, List.set_cons_zero, List.set_cons_succ]
  refine wpAnyH_take (i := 2) (oi := { dst := some 63, op := Op.unOp UnOp.not 4 (Operand.tmp 62), type := 4, pos := _, after := _, guard := none }) (v := ?_) rfl (by kernel_rfl) (by kernel_rfl) (by kernel_rfl) (fun _ _ _ h => h) (Or.inl ⟨by rfl, ?_⟩) hHeld ?_
  rotate_left 1
  · (intro W hW; (try dsimp only at hW); go_simp; try with_reducible rfl)
  try simp only [Act.put, List.setIfInBounds_toArray, List.set_cons_zero, List.set_cons_succ]
  refine wpAnyH_take (i := 3) (oi := { dst := some 64, op := Op.move (Operand.tmp 63), type := 4, pos := _, after := _, guard := none }) (v := ?_) rfl (by kernel_rfl) (by kernel_rfl) (by kernel_rfl) (fun _ _ _ h => h) (Or.inl ⟨by rfl, ?_⟩) hHeld ?_
  rotate_left 1
  · (intro W hW; (try dsimp only at hW); go_simp; try with_reducible rfl)
  try simp only [Act.put, List.setIfInBounds_toArray, List.set_cons_zero, List.set_cons_succ]
  refine wpAnyH_take (i := 4) (oi := { dst := some 65, op := Op.load 28 (Operand.tmp 3), type := 28, pos := _, after := _, guard := some (3, true) }) (v := ?_) rfl (by kernel_rfl) (by kernel_rfl) (by kernel_rfl) (fun _ _ _ h => h) (Or.inl ⟨by rfl, ?_⟩) hHeld ?_
  rotate_left 1
  · (intro W hW; have k := HA.out.under hW HA.out.lt; have k0 := k.cell 0; have k1 := k.cell 1; have k2 := k.cell 2; have k3 := k.cell 3; have k4 := k.cell 4; have k5 := k.cell 5; (try dsimp only at hW); go_simp; try with_reducible rfl)
  try simp only [Act.put, List.setIfInBounds_toArray, List.set_cons_zero, List.set_cons_succ]
  refine wpAnyH_ready (rs := [5, 6]) (by kernel_rfl) (by simp) ?_
  refine AllReadyH.cons (o := { dst := some 66, op := Op.makeSlice 29 (Operand.const (Value.int IntKind.i64 32)) (Operand.const (Value.int IntKind.i64 32)), type := 29, pos := _, after := _, guard := some (3, true) }) rfl (fun K hK => ?_) ?_
  · have hm := make_bytes (32 : Int) 32 rfl (by omega) w1c
    obtain ⟨z5, hz5⟩ : ∃ z, z = List.replicate 32 0 := ⟨_, rfl⟩
    rw [← hz5] at hm
    have HZL5 : Hid (z5.length = 32) := Lib.hid (by rw [hz5]; simp)
    have HZO5 : Hid (∀ x ∈ z5, x < 256) := Lib.hid (by rw [hz5]; exact zeros_oct)
    clear hz5
    go_simp
    obtain ⟨w5, hw5⟩ : ∃ W, W = w1c.alloc (.cells (nums .u8 z5) 5) := ⟨_, rfl⟩
    rw [← hw5]
    have hb5 : Below w1c.heap.size w1c w5 := by rw [hw5]; exact (Below.refl _ _).alloc (Nat.le_refl _) _
    have S5 : Hid ((fun W => Below V.heap.size V W) w5) := Lib.hid (S1.out.trans (hb5.mono S1.out.size))
    have HM5 := Lib.hid (rd_zeros hw5 HZL5.out (by omega))
    have HB5 := Lib.hid hb5
    clear hm hw5 hb5
    refine hK.out _ _ (S5.out) (fun hHeld => ?_)
    clear hK K
    try simp only [Act.put, List.setIfInBounds_toArray, List.set_cons_zero, List.set_cons_succ]
    refine wpAnyH_ready (rs := [6]) (by kernel_rfl) (by simp) ?_
    refine AllReadyH.cons (o := { dst := some 67, op := Op.makeSlice 29 (Operand.const (Value.int IntKind.i64 66)) (Operand.const (Value.int IntKind.i64 66)), type := 29, pos := _, after := _, guard := some (3, true) }) rfl (fun K hK => ?_) AllReadyH.nil
    have hm := make_bytes (66 : Int) 66 rfl (by omega) w5
    obtain ⟨z6, hz6⟩ : ∃ z, z = List.replicate 66 0 := ⟨_, rfl⟩
    rw [← hz6] at hm
    have HZL6 : Hid (z6.length = 66) := Lib.hid (by rw [hz6]; simp)
    have HZO6 : Hid (∀ x ∈ z6, x < 256) := Lib.hid (by rw [hz6]; exact zeros_oct)
    clear hz6
    go_simp
    obtain ⟨w6, hw6⟩ : ∃ W, W = w5.alloc (.cells (nums .u8 z6) 5) := ⟨_, rfl⟩
    rw [← hw6]
    have hb6 : Below w5.heap.size w5 w6 := by rw [hw6]; exact (Below.refl _ _).alloc (Nat.le_refl _) _
    have S6 : Hid ((fun W => Below V.heap.size V W) w6) := Lib.hid (S5.out.trans (hb6.mono S5.out.size))
    have HM6 := Lib.hid (rd_zeros hw6 HZL6.out (by omega))
    have HB6 := Lib.hid hb6
    clear hm hw6 hb6
    have HM5b := Lib.hid (rd_next HM5.out (Nat.le_refl _) HB6.out)
    refine hK.out _ _ (S6.out) (fun hHeld => ?_)
    clear hK K
    try simp only [Act.put, List.setIfInBounds_toArray, List.set_cons_zero, List.set_cons_succ]
    refine wpAnyH_ready (rs := [7]) (by kernel_rfl) (by simp) ?_
    refine AllReadyH.cons (o := { dst := some 68, op := Op.call { callee := Callee.value (Operand.func 11), args := #[Operand.tmp 65, Operand.tmp 66, Operand.tmp 67], argTypes := #[28, 29, 29] }, type := 4, pos := _, after := _, guard := some (3, true) }) rfl (fun K hK => ?_) AllReadyH.nil
    go_simp
    have hve := HVE.out w6 S6.out (some ⟨w1c.heap.size, 0, none⟩) 32 32 z5 HM5b.out HZL5.out HZO5.out (some ⟨w5.heap.size, 0, none⟩) 66 66 z6 HM6.out HZL6.out HZO6.out
    refine (hve).mono ?_
    rintro e w7 ⟨rfl, hb⟩
    have S7 : Hid ((fun W => Below V.heap.size V W) w7) := Lib.hid (S6.out.trans (hb.mono S6.out.size))
    clear hb
    clear hve
    go_simp
    refine hK.out _ _ (S7.out) (fun hHeld => ?_)
    clear hK K
    try simp only [Act.put, List.setIfInBounds_toArray, List.set_cons_zero, List.set_cons_succ]
    refine wpAnyH_take (i := 8) (oi := { dst := some 69, op := Op.unOp UnOp.not 4 (Operand.tmp 68), type := 4, pos := _, after := _, guard := some (3, true) }) (v := ?_) rfl (by kernel_rfl) (by kernel_rfl) (by kernel_rfl) (fun _ _ _ h => h) (Or.inl ⟨by rfl, ?_⟩) hHeld ?_
    rotate_left 1
    · (intro W hW; (try dsimp only at hW); go_simp; try with_reducible rfl)
    try simp only [Act.put, List.setIfInBounds_toArray, List.set_cons_zero, List.set_cons_succ]
    refine wpAnyH_take (i := 9) (oi := { dst := some 70, op := Op.pick (Operand.tmp 64) (Operand.tmp 69) (Operand.const (Value.bool false)), type := 4, pos := _, after := _, guard := none }) (v := ?_) rfl (by kernel_rfl) (by kernel_rfl) (by kernel_rfl) (fun _ _ _ h => h) (Or.inl ⟨by rfl, ?_⟩) hHeld ?_
    rotate_left 1
    · (intro W hW; (try dsimp only at hW); go_simp; try with_reducible rfl)
    try simp only [Act.put, List.setIfInBounds_toArray, List.set_cons_zero, List.set_cons_succ]
    refine wpAnyH_take (i := 10) (oi := { dst := some 71, op := Op.move (Operand.tmp 70), type := 4, pos := _, after := _, guard := none }) (v := ?_) rfl (by kernel_rfl) (by kernel_rfl) (by kernel_rfl) (fun _ _ _ h => h) (Or.inl ⟨by rfl, ?_⟩) hHeld ?_
    rotate_left 1
    · (intro W hW; (try dsimp only at hW); go_simp; try with_reducible rfl)
    try simp only [Act.put, List.setIfInBounds_toArray, List.set_cons_zero, List.set_cons_succ]
    refine wpAnyH_ready (rs := [11]) (by kernel_rfl) (by simp) ?_
    refine AllReadyH.cons (o := { dst := some 72, op := Op.call { callee := Callee.value (Operand.func 13), args := #[], argTypes := #[] }, type := 4, pos := _, after := _, guard := some (10, true) }) rfl (fun K hK => ?_) AllReadyH.nil
    go_simp
    refine (known9_any w7).mono ?_
    rintro e w11 ⟨rfl, hb⟩
    have S11 : Hid ((fun W => Below V.heap.size V W) w11) := Lib.hid (S7.out.trans (hb.mono S7.out.size))
    clear hb
    go_simp
    refine hK.out _ _ (S11.out) (fun hHeld => ?_)
    clear hK K
    try simp only [Act.put, List.setIfInBounds_toArray, List.set_cons_zero, List.set_cons_succ]
    refine wpAnyH_take (i := 12) (oi := { dst := some 73, op := Op.pick (Operand.tmp 71) (Operand.tmp 72) (Operand.const (Value.bool false)), type := 4, pos := _, after := _, guard := none }) (v := ?_) rfl (by kernel_rfl) (by kernel_rfl) (by kernel_rfl) (fun _ _ _ h => h) (Or.inl ⟨by rfl, ?_⟩) hHeld ?_
    rotate_left 1
    · (intro W hW; (try dsimp only at hW); go_simp; try with_reducible rfl)
    try simp only [Act.put, List.setIfInBounds_toArray, List.set_cons_zero, List.set_cons_succ]
    refine wpAnyH_take (i := 13) (oi := { dst := some 2, op := Op.assign (Operand.tmp 73), type := 4, pos := _, after := _, guard := none }) (v := ?_) rfl (by kernel_rfl) (by kernel_rfl) (by kernel_rfl) (fun _ _ _ h => h) (Or.inl ⟨by rfl, ?_⟩) hHeld ?_
    rotate_left 1
    · (intro W hW; (try dsimp only at hW); go_simp; try with_reducible rfl)
    try simp only [Act.put, List.setIfInBounds_toArray, List.set_cons_zero, List.set_cons_succ]
    refine wpAnyH_done (by kernel_rfl) ?_ _
    refine NoPanic.normal ?_
    go_wp2_with fail
    go_ret
    exact ⟨rfl, HQ.out.trans (S11.out.mono HQ.out.size)⟩
  refine AllReadyH.cons (o := { dst := some 67, op := Op.makeSlice 29 (Operand.const (Value.int IntKind.i64 66)) (Operand.const (Value.int IntKind.i64 66)), type := 29, pos := _, after := _, guard := some (3, true) }) rfl (fun K hK => ?_) AllReadyH.nil
  have hm := make_bytes (66 : Int) 66 rfl (by omega) w1c
  obtain ⟨z6, hz6⟩ : ∃ z, z = List.replicate 66 0 := ⟨_, rfl⟩
  rw [← hz6] at hm
  have HZL6 : Hid (z6.length = 66) := Lib.hid (by rw [hz6]; simp)
  have HZO6 : Hid (∀ x ∈ z6, x < 256) := Lib.hid (by rw [hz6]; exact zeros_oct)
  clear hz6
  go_simp
  obtain ⟨w6, hw6⟩ : ∃ W, W = w1c.alloc (.cells (nums .u8 z6) 5) := ⟨_, rfl⟩
  rw [← hw6]
  have hb6 : Below w1c.heap.size w1c w6 := by rw [hw6]; exact (Below.refl _ _).alloc (Nat.le_refl _) _
  have S6 : Hid ((fun W => Below V.heap.size V W) w6) := Lib.hid (S1.out.trans (hb6.mono S1.out.size))
  have HM6 := Lib.hid (rd_zeros hw6 HZL6.out (by omega))
  have HB6 := Lib.hid hb6
  clear hm hw6 hb6
  refine hK.out _ _ (S6.out) (fun hHeld => ?_)
  clear hK K
  try simp only [Act.put, List.setIfInBounds_toArray, List.set_cons_zero, List.set_cons_succ]
  refine wpAnyH_ready (rs := [5]) (by kernel_rfl) (by simp) ?_
  refine AllReadyH.cons (o := { dst := some 66, op := Op.makeSlice 29 (Operand.const (Value.int IntKind.i64 32)) (Operand.const (Value.int IntKind.i64 32)), type := 29, pos := _, after := _, guard := some (3, true) }) rfl (fun K hK => ?_) AllReadyH.nil
  have hm := make_bytes (32 : Int) 32 rfl (by omega) w6
  obtain ⟨z5, hz5⟩ : ∃ z, z = List.replicate 32 0 := ⟨_, rfl⟩
  rw [← hz5] at hm
  have HZL5 : Hid (z5.length = 32) := Lib.hid (by rw [hz5]; simp)
  have HZO5 : Hid (∀ x ∈ z5, x < 256) := Lib.hid (by rw [hz5]; exact zeros_oct)
  clear hz5
  go_simp
  obtain ⟨w5, hw5⟩ : ∃ W, W = w6.alloc (.cells (nums .u8 z5) 5) := ⟨_, rfl⟩
  rw [← hw5]
  have hb5 : Below w6.heap.size w6 w5 := by rw [hw5]; exact (Below.refl _ _).alloc (Nat.le_refl _) _
  have S5 : Hid ((fun W => Below V.heap.size V W) w5) := Lib.hid (S6.out.trans (hb5.mono S6.out.size))
  have HM5 := Lib.hid (rd_zeros hw5 HZL5.out (by omega))
  have HB5 := Lib.hid hb5
  clear hm hw5 hb5
  have HM6b := Lib.hid (rd_next HM6.out (Nat.le_refl _) HB5.out)
  refine hK.out _ _ (S5.out) (fun hHeld => ?_)
  clear hK K
  try simp only [Act.put, List.setIfInBounds_toArray, List.set_cons_zero, List.set_cons_succ]
  refine wpAnyH_ready (rs := [7]) (by kernel_rfl) (by simp) ?_
  refine AllReadyH.cons (o := { dst := some 68, op := Op.call { callee := Callee.value (Operand.func 11), args := #[Operand.tmp 65, Operand.tmp 66, Operand.tmp 67], argTypes := #[28, 29, 29] }, type := 4, pos := _, after := _, guard := some (3, true) }) rfl (fun K hK => ?_) AllReadyH.nil
  go_simp
  have hve := HVE.out w5 S5.out (some ⟨w6.heap.size, 0, none⟩) 32 32 z5 HM5.out HZL5.out HZO5.out (some ⟨w1c.heap.size, 0, none⟩) 66 66 z6 HM6b.out HZL6.out HZO6.out
  refine (hve).mono ?_
  rintro e w7 ⟨rfl, hb⟩
  have S7 : Hid ((fun W => Below V.heap.size V W) w7) := Lib.hid (S5.out.trans (hb.mono S5.out.size))
  clear hb
  clear hve
  go_simp
  refine hK.out _ _ (S7.out) (fun hHeld => ?_)
  clear hK K
  try simp only [Act.put, List.setIfInBounds_toArray, List.set_cons_zero, List.set_cons_succ]
  refine wpAnyH_take (i := 8) (oi := { dst := some 69, op := Op.unOp UnOp.not 4 (Operand.tmp 68), type := 4, pos := _, after := _, guard := some (3, true) }) (v := ?_) rfl (by kernel_rfl) (by kernel_rfl) (by kernel_rfl) (fun _ _ _ h => h) (Or.inl ⟨by rfl, ?_⟩) hHeld ?_
  rotate_left 1
  · (intro W hW; (try dsimp only at hW); go_simp; try with_reducible rfl)
  try simp only [Act.put, List.setIfInBounds_toArray, List.set_cons_zero, List.set_cons_succ]
  refine wpAnyH_take (i := 9) (oi := { dst := some 70, op := Op.pick (Operand.tmp 64) (Operand.tmp 69) (Operand.const (Value.bool false)), type := 4, pos := _, after := _, guard := none }) (v := ?_) rfl (by kernel_rfl) (by kernel_rfl) (by kernel_rfl) (fun _ _ _ h => h) (Or.inl ⟨by rfl, ?_⟩) hHeld ?_
  rotate_left 1
  · (intro W hW; (try dsimp only at hW); go_simp; try with_reducible rfl)
  try simp only [Act.put, List.setIfInBounds_toArray, List.set_cons_zero, List.set_cons_succ]
  refine wpAnyH_take (i := 10) (oi := { dst := some 71, op := Op.move (Operand.tmp 70), type := 4, pos := _, after := _, guard := none }) (v := ?_) rfl (by kernel_rfl) (by kernel_rfl) (by kernel_rfl) (fun _ _ _ h => h) (Or.inl ⟨by rfl, ?_⟩) hHeld ?_
  rotate_left 1
  · (intro W hW; (try dsimp only at hW); go_simp; try with_reducible rfl)
  try simp only [Act.put, List.setIfInBounds_toArray, List.set_cons_zero, List.set_cons_succ]
  refine wpAnyH_ready (rs := [11]) (by kernel_rfl) (by simp) ?_
  refine AllReadyH.cons (o := { dst := some 72, op := Op.call { callee := Callee.value (Operand.func 13), args := #[], argTypes := #[] }, type := 4, pos := _, after := _, guard := some (10, true) }) rfl (fun K hK => ?_) AllReadyH.nil
  go_simp
  refine (known9_any w7).mono ?_
  rintro e w11 ⟨rfl, hb⟩
  have S11 : Hid ((fun W => Below V.heap.size V W) w11) := Lib.hid (S7.out.trans (hb.mono S7.out.size))
  clear hb
  go_simp
  refine hK.out _ _ (S11.out) (fun hHeld => ?_)
  clear hK K
  try simp only [Act.put, List.setIfInBounds_toArray, List.set_cons_zero, List.set_cons_succ]
  refine wpAnyH_take (i := 12) (oi := { dst := some 73, op := Op.pick (Operand.tmp 71) (Operand.tmp 72) (Operand.const (Value.bool false)), type := 4, pos := _, after := _, guard := none }) (v := ?_) rfl (by kernel_rfl) (by kernel_rfl) (by kernel_rfl) (fun _ _ _ h => h) (Or.inl ⟨by rfl, ?_⟩) hHeld ?_
  rotate_left 1
  · (intro W hW; (try dsimp only at hW); go_simp; try with_reducible rfl)
  try simp only [Act.put, List.setIfInBounds_toArray, List.set_cons_zero, List.set_cons_succ]
  refine wpAnyH_take (i := 13) (oi := { dst := some 2, op := Op.assign (Operand.tmp 73), type := 4, pos := _, after := _, guard := none }) (v := ?_) rfl (by kernel_rfl) (by kernel_rfl) (by kernel_rfl) (fun _ _ _ h => h) (Or.inl ⟨by rfl, ?_⟩) hHeld ?_
  rotate_left 1
  · (intro W hW; (try dsimp only at hW); go_simp; try with_reducible rfl)
  try simp only [Act.put, List.setIfInBounds_toArray, List.set_cons_zero, List.set_cons_succ]
  refine wpAnyH_done (by kernel_rfl) ?_ _
  refine NoPanic.normal ?_
  go_wp2_with fail
  go_ret
  exact ⟨rfl, HQ.out.trans (S11.out.mono HQ.out.size)⟩
set_option maxRecDepth 100000 in
set_option maxHeartbeats 4000000 in
theorem keys_3 (w : World) : Calls Try.prog 6 #[.int .i64 3] w fun e w' => e = .returned (.bool true) ∧ Below w.heap.size w w' := by
  have HP := Lib.hid (prime_odd w 3 (by decide))
  go_enter Try.func6, Try.ntmps6
  go_wp2_with fail
  refine HP.out.mono ?_
  rintro e w1 ⟨g, n, A, c, r, D, rfl, hl, hg, hR, hn, hr, hD, hB1⟩
  rw [pl607_len]
  clear HP hn hr hD hl
  obtain ⟨V1, hV1⟩ : ∃ V, V = (w1.alloc (.cells #[.int .i64 1, .slice (some ⟨g, 0, none⟩) 19 19, .int .u32 65537, .slice none 0 0, .slice none 0 0, .bool false] 28)) := ⟨_, rfl⟩
  have hB2 : Below w.heap.size w V1 := by rw [hV1]; exact hB1.trans (((Below.refl _ _).alloc (Nat.le_refl _) _).mono hB1.size)
  have hH2 : Holds V1 w1.heap.size 28 #[.int .i64 1, .slice (some ⟨g, 0, none⟩) 19 19, .int .u32 65537, .slice none 0 0, .slice none 0 0, .bool false] := by rw [hV1]; exact Holds.fresh w1 _ _
  have hR2 : Row .u32 24 V1 g pl607 := by rw [hV1]; exact Holds.alloc hR _
  have hne : w1.heap.size ≠ g := fun e => by have := Holds.lt hR; omega
  have hc0 : V1.cell? ⟨g, 0, none⟩ = some (.int .u32 4294967295) := by
    rw [Holds.cell hR2 0]
    rfl
  have ho0 := Holds.open_ hR2 0
  have k1 := hH2.cell 1
  have HB2 := Lib.hid hB2
  have HH2 := Lib.hid hH2
  have HR2 := Lib.hid hR2
  have HNE := Lib.hid hne
  have HV1 := Lib.hid hV1
  have HG := Lib.hid hg
  clear hB2 hH2 hR2 hne hV1 hR hB1 hg
  go_wp2_with fail
  rw [← HV1.out]
  go_region
  have hB : Below w.heap.size w (V1.setCell ⟨g, 0, none⟩ (.int .u32 4294967294)) := HB2.out.setCell HG.out _
  have hH : Holds (V1.setCell ⟨g, 0, none⟩ (.int .u32 4294967294)) w1.heap.size 28 #[.int .i64 1, .slice (some ⟨g, 0, none⟩) 19 19, .int .u32 65537, .slice none 0 0, .slice none 0 0, .bool false] := HH2.out.aside HNE.out _
  have hR3 : Row .u32 24 (V1.setCell ⟨g, 0, none⟩ (.int .u32 4294967294)) g (pl607.set 0 4294967294) := by
    have h := Holds.stored HR2.out 0 (.int .u32 ((4294967294 : Nat) : Int))
    rw [nums_set] at h
    exact h
  obtain ⟨V, hV⟩ : ∃ V, V = (V1.setCell ⟨g, 0, none⟩ (.int .u32 4294967294)).drew := ⟨_, rfl⟩
  have hB : Below w.heap.size w V := by rw [hV]; exact hB.drew
  have hH : Holds V w1.heap.size 28 #[.int .i64 1, .slice (some ⟨g, 0, none⟩) 19 19, .int .u32 65537, .slice none 0 0, .slice none 0 0, .bool false] := by rw [hV]; exact hH
  have hR3 : Row .u32 24 V g (pl607.set 0 4294967294) := by rw [hV]; exact hR3
  have hky : KyP (⟨1, some ⟨g, 0, none⟩, 19, pl607.set 0 4294967294, 65537, none, 0, [], none, 0, [], false⟩ : Ky) V := ⟨rd_rowN (n := 19) hR3 (by rw [List.length_set]; exact pl607_len) (by omega), pl607_dg.set _ _ (by omega), Rd.nil_ _ _ _, dg_nil9, Rd.nil_ _ _ _, dg_nil9, (show 65537 < 4294967296 by omega)⟩
  have hnl : (Ky.n (⟨1, some ⟨g, 0, none⟩, 19, pl607.set 0 4294967294, 65537, none, 0, [], none, 0, [], false⟩ : Ky)).length ≤ 5000 := show ((pl607.set 0 4294967294)).length ≤ 5000 from by decide +kernel
  have hnl2 : (Ky.n (⟨1, some ⟨g, 0, none⟩, 19, pl607.set 0 4294967294, 65537, none, 0, [], none, 0, [], false⟩ : Ky)).length ≤ 1000 := show ((pl607.set 0 4294967294)).length ≤ 1000 from by decide +kernel
  have HV := Lib.hid hV
  have hno : rsaOk (Ky.v (⟨1, some ⟨g, 0, none⟩, 19, pl607.set 0 4294967294, 65537, none, 0, [], none, 0, [], false⟩ : Ky)) = false := show rsaOk ⟨1, (pl607.set 0 4294967294), 65537, [], [], false⟩ = false from by decide +kernel
  have HA := Lib.hid hH
  have HQ := Lib.hid hB
  have S0 : Hid ((fun W => Below V.heap.size V W) V) := Lib.hid (Below.refl _ _)
  have hof := Off.of_ky hky
  have HIS : Hid (∀ W, Below V.heap.size V W → Calls Try.prog 9 #[.agg #[.int .i64 1, .slice (some ⟨g, 0, none⟩) 19 19, .int .u32 65537, .slice none 0 0, .slice none 0 0, .bool false]] W fun e w' => e = .returned (.bool false) ∧ Below W.heap.size W w') := Lib.hid fun W hW => by
    have h := rsaIs_any W (⟨1, some ⟨g, 0, none⟩, 19, pl607.set 0 4294967294, 65537, none, 0, [], none, 0, [], false⟩ : Ky) (hof.under hW).at_ hnl
    rw [hno] at h
    exact h
  have HVE : Hid (∀ W, Below V.heap.size V W → ∀ (A2 : Option Addr) (c2 dn : Nat) (d : List Nat) (hd : Rd .u8 W W.heap.size A2 c2 d) (hdn : d.length = dn) (ho : ∀ x ∈ d, x < 256) (A3 : Option Addr) (c3 sn : Nat) (s : List Nat) (hsg : Rd .u8 W W.heap.size A3 c3 s) (hsn : s.length = sn) (ho3 : ∀ x ∈ s, x < 256), Calls Try.prog 11 #[.agg #[.int .i64 1, .slice (some ⟨g, 0, none⟩) 19 19, .int .u32 65537, .slice none 0 0, .slice none 0 0, .bool false], .slice A2 dn c2, .slice A3 sn c3] W fun e w' => e = .returned (.bool false) ∧ Below W.heap.size W w') := Lib.hid fun W hW A2 c2 dn d hd hdn ho A3 c3 sn s hsg hsn ho3 => by
    have h := rsaVerify_any W (⟨1, some ⟨g, 0, none⟩, 19, pl607.set 0 4294967294, 65537, none, 0, [], none, 0, [], false⟩ : Ky) (hof.under hW).at_ hnl2 ⟨by simp, by simp⟩ A2 c2 dn d hd hdn ho A3 c3 sn s hsg hsn ho3
    rw [ver_no hno] at h
    exact h
  clear hno hof hky hH hB hnl hnl2
  clear hV hR3 hc0 ho0 k1
  go_wp2_with fail
  rw [← HV.out]
  go_wp2_with fail
  refine wp_region_noPanic ?_
  refine wp_region_held_drew (S := (fun W => Below V.heap.size V W)) (by kernel_rfl) (S0.out.drew) (fun hHeld => ?_)
  refine wpAnyH_take (i := 0) (oi := { dst := some 61, op := Op.load 28 (Operand.tmp 3), type := 28, pos := _, after := _, guard := none }) (v := ?_) rfl (by kernel_rfl) (by kernel_rfl) (by kernel_rfl) (fun _ _ _ h => h) (Or.inl ⟨by rfl, ?_⟩) hHeld ?_
  rotate_left 1
  · (intro W hW; have k := HA.out.under hW HA.out.lt; have k0 := k.cell 0; have k1 := k.cell 1; have k2 := k.cell 2; have k3 := k.cell 3; have k4 := k.cell 4; have k5 := k.cell 5; (try dsimp only at hW); go_simp; try with_reducible rfl)
  try simp only [Act.put, List.setIfInBounds_toArray, List.set_cons_zero, List.set_cons_succ]
  refine wpAnyH_ready (rs := [1]) (by kernel_rfl) (by simp) ?_
  refine AllReadyH.cons (o := { dst := some 62, op := Op.call { callee := Callee.value (Operand.func 9), args := #[Operand.tmp 61], argTypes := #[28] }, type := 4, pos := _, after := _, guard := none }) rfl (fun K hK => ?_) AllReadyH.nil
  go_simp
  refine (HIS.out _ S0.out.drew).mono ?_
  rintro e w1c ⟨rfl, hb⟩
  have S1 : Hid ((fun W => Below V.heap.size V W) w1c) := Lib.hid (S0.out.drew.trans (hb.mono S0.out.drew.size))
  clear hb
  go_simp
  refine hK.out _ _ (S1.out) (fun hHeld => ?_)
  clear hK K
  try simp only [Act.put, List.setIfInBounds_toArray, List.set_cons_zero, List.set_cons_succ]
  refine wpAnyH_take (i := 2) (oi := { dst := some 63, op := Op.unOp UnOp.not 4 (Operand.tmp 62), type := 4, pos := _, after := _, guard := none }) (v := ?_) rfl (by kernel_rfl) (by kernel_rfl) (by kernel_rfl) (fun _ _ _ h => h) (Or.inl ⟨by rfl, ?_⟩) hHeld ?_
  rotate_left 1
  · (intro W hW; (try dsimp only at hW); go_simp; try with_reducible rfl)
  try simp only [Act.put, List.setIfInBounds_toArray, List.set_cons_zero, List.set_cons_succ]
  refine wpAnyH_take (i := 3) (oi := { dst := some 64, op := Op.move (Operand.tmp 63), type := 4, pos := _, after := _, guard := none }) (v := ?_) rfl (by kernel_rfl) (by kernel_rfl) (by kernel_rfl) (fun _ _ _ h => h) (Or.inl ⟨by rfl, ?_⟩) hHeld ?_
  rotate_left 1
  · (intro W hW; (try dsimp only at hW); go_simp; try with_reducible rfl)
  try simp only [Act.put, List.setIfInBounds_toArray, List.set_cons_zero, List.set_cons_succ]
  refine wpAnyH_take (i := 4) (oi := { dst := some 65, op := Op.load 28 (Operand.tmp 3), type := 28, pos := _, after := _, guard := some (3, true) }) (v := ?_) rfl (by kernel_rfl) (by kernel_rfl) (by kernel_rfl) (fun _ _ _ h => h) (Or.inl ⟨by rfl, ?_⟩) hHeld ?_
  rotate_left 1
  · (intro W hW; have k := HA.out.under hW HA.out.lt; have k0 := k.cell 0; have k1 := k.cell 1; have k2 := k.cell 2; have k3 := k.cell 3; have k4 := k.cell 4; have k5 := k.cell 5; (try dsimp only at hW); go_simp; try with_reducible rfl)
  try simp only [Act.put, List.setIfInBounds_toArray, List.set_cons_zero, List.set_cons_succ]
  refine wpAnyH_ready (rs := [5, 6]) (by kernel_rfl) (by simp) ?_
  refine AllReadyH.cons (o := { dst := some 66, op := Op.makeSlice 29 (Operand.const (Value.int IntKind.i64 32)) (Operand.const (Value.int IntKind.i64 32)), type := 29, pos := _, after := _, guard := some (3, true) }) rfl (fun K hK => ?_) ?_
  · have hm := make_bytes (32 : Int) 32 rfl (by omega) w1c
    obtain ⟨z5, hz5⟩ : ∃ z, z = List.replicate 32 0 := ⟨_, rfl⟩
    rw [← hz5] at hm
    have HZL5 : Hid (z5.length = 32) := Lib.hid (by rw [hz5]; simp)
    have HZO5 : Hid (∀ x ∈ z5, x < 256) := Lib.hid (by rw [hz5]; exact zeros_oct)
    clear hz5
    go_simp
    obtain ⟨w5, hw5⟩ : ∃ W, W = w1c.alloc (.cells (nums .u8 z5) 5) := ⟨_, rfl⟩
    rw [← hw5]
    have hb5 : Below w1c.heap.size w1c w5 := by rw [hw5]; exact (Below.refl _ _).alloc (Nat.le_refl _) _
    have S5 : Hid ((fun W => Below V.heap.size V W) w5) := Lib.hid (S1.out.trans (hb5.mono S1.out.size))
    have HM5 := Lib.hid (rd_zeros hw5 HZL5.out (by omega))
    have HB5 := Lib.hid hb5
    clear hm hw5 hb5
    refine hK.out _ _ (S5.out) (fun hHeld => ?_)
    clear hK K
    try simp only [Act.put, List.setIfInBounds_toArray, List.set_cons_zero, List.set_cons_succ]
    refine wpAnyH_ready (rs := [6]) (by kernel_rfl) (by simp) ?_
    refine AllReadyH.cons (o := { dst := some 67, op := Op.makeSlice 29 (Operand.const (Value.int IntKind.i64 66)) (Operand.const (Value.int IntKind.i64 66)), type := 29, pos := _, after := _, guard := some (3, true) }) rfl (fun K hK => ?_) AllReadyH.nil
    have hm := make_bytes (66 : Int) 66 rfl (by omega) w5
    obtain ⟨z6, hz6⟩ : ∃ z, z = List.replicate 66 0 := ⟨_, rfl⟩
    rw [← hz6] at hm
    have HZL6 : Hid (z6.length = 66) := Lib.hid (by rw [hz6]; simp)
    have HZO6 : Hid (∀ x ∈ z6, x < 256) := Lib.hid (by rw [hz6]; exact zeros_oct)
    clear hz6
    go_simp
    obtain ⟨w6, hw6⟩ : ∃ W, W = w5.alloc (.cells (nums .u8 z6) 5) := ⟨_, rfl⟩
    rw [← hw6]
    have hb6 : Below w5.heap.size w5 w6 := by rw [hw6]; exact (Below.refl _ _).alloc (Nat.le_refl _) _
    have S6 : Hid ((fun W => Below V.heap.size V W) w6) := Lib.hid (S5.out.trans (hb6.mono S5.out.size))
    have HM6 := Lib.hid (rd_zeros hw6 HZL6.out (by omega))
    have HB6 := Lib.hid hb6
    clear hm hw6 hb6
    have HM5b := Lib.hid (rd_next HM5.out (Nat.le_refl _) HB6.out)
    refine hK.out _ _ (S6.out) (fun hHeld => ?_)
    clear hK K
    try simp only [Act.put, List.setIfInBounds_toArray, List.set_cons_zero, List.set_cons_succ]
    refine wpAnyH_ready (rs := [7]) (by kernel_rfl) (by simp) ?_
    refine AllReadyH.cons (o := { dst := some 68, op := Op.call { callee := Callee.value (Operand.func 11), args := #[Operand.tmp 65, Operand.tmp 66, Operand.tmp 67], argTypes := #[28, 29, 29] }, type := 4, pos := _, after := _, guard := some (3, true) }) rfl (fun K hK => ?_) AllReadyH.nil
    go_simp
    have hve := HVE.out w6 S6.out (some ⟨w1c.heap.size, 0, none⟩) 32 32 z5 HM5b.out HZL5.out HZO5.out (some ⟨w5.heap.size, 0, none⟩) 66 66 z6 HM6.out HZL6.out HZO6.out
    refine (hve).mono ?_
    rintro e w7 ⟨rfl, hb⟩
    have S7 : Hid ((fun W => Below V.heap.size V W) w7) := Lib.hid (S6.out.trans (hb.mono S6.out.size))
    clear hb
    clear hve
    go_simp
    refine hK.out _ _ (S7.out) (fun hHeld => ?_)
    clear hK K
    try simp only [Act.put, List.setIfInBounds_toArray, List.set_cons_zero, List.set_cons_succ]
    refine wpAnyH_take (i := 8) (oi := { dst := some 69, op := Op.unOp UnOp.not 4 (Operand.tmp 68), type := 4, pos := _, after := _, guard := some (3, true) }) (v := ?_) rfl (by kernel_rfl) (by kernel_rfl) (by kernel_rfl) (fun _ _ _ h => h) (Or.inl ⟨by rfl, ?_⟩) hHeld ?_
    rotate_left 1
    · (intro W hW; (try dsimp only at hW); go_simp; try with_reducible rfl)
    try simp only [Act.put, List.setIfInBounds_toArray, List.set_cons_zero, List.set_cons_succ]
    refine wpAnyH_take (i := 9) (oi := { dst := some 70, op := Op.pick (Operand.tmp 64) (Operand.tmp 69) (Operand.const (Value.bool false)), type := 4, pos := _, after := _, guard := none }) (v := ?_) rfl (by kernel_rfl) (by kernel_rfl) (by kernel_rfl) (fun _ _ _ h => h) (Or.inl ⟨by rfl, ?_⟩) hHeld ?_
    rotate_left 1
    · (intro W hW; (try dsimp only at hW); go_simp; try with_reducible rfl)
    try simp only [Act.put, List.setIfInBounds_toArray, List.set_cons_zero, List.set_cons_succ]
    refine wpAnyH_take (i := 10) (oi := { dst := some 71, op := Op.move (Operand.tmp 70), type := 4, pos := _, after := _, guard := none }) (v := ?_) rfl (by kernel_rfl) (by kernel_rfl) (by kernel_rfl) (fun _ _ _ h => h) (Or.inl ⟨by rfl, ?_⟩) hHeld ?_
    rotate_left 1
    · (intro W hW; (try dsimp only at hW); go_simp; try with_reducible rfl)
    try simp only [Act.put, List.setIfInBounds_toArray, List.set_cons_zero, List.set_cons_succ]
    refine wpAnyH_ready (rs := [11]) (by kernel_rfl) (by simp) ?_
    refine AllReadyH.cons (o := { dst := some 72, op := Op.call { callee := Callee.value (Operand.func 13), args := #[], argTypes := #[] }, type := 4, pos := _, after := _, guard := some (10, true) }) rfl (fun K hK => ?_) AllReadyH.nil
    go_simp
    refine (known9_any w7).mono ?_
    rintro e w11 ⟨rfl, hb⟩
    have S11 : Hid ((fun W => Below V.heap.size V W) w11) := Lib.hid (S7.out.trans (hb.mono S7.out.size))
    clear hb
    go_simp
    refine hK.out _ _ (S11.out) (fun hHeld => ?_)
    clear hK K
    try simp only [Act.put, List.setIfInBounds_toArray, List.set_cons_zero, List.set_cons_succ]
    refine wpAnyH_take (i := 12) (oi := { dst := some 73, op := Op.pick (Operand.tmp 71) (Operand.tmp 72) (Operand.const (Value.bool false)), type := 4, pos := _, after := _, guard := none }) (v := ?_) rfl (by kernel_rfl) (by kernel_rfl) (by kernel_rfl) (fun _ _ _ h => h) (Or.inl ⟨by rfl, ?_⟩) hHeld ?_
    rotate_left 1
    · (intro W hW; (try dsimp only at hW); go_simp; try with_reducible rfl)
    try simp only [Act.put, List.setIfInBounds_toArray, List.set_cons_zero, List.set_cons_succ]
    refine wpAnyH_take (i := 13) (oi := { dst := some 2, op := Op.assign (Operand.tmp 73), type := 4, pos := _, after := _, guard := none }) (v := ?_) rfl (by kernel_rfl) (by kernel_rfl) (by kernel_rfl) (fun _ _ _ h => h) (Or.inl ⟨by rfl, ?_⟩) hHeld ?_
    rotate_left 1
    · (intro W hW; (try dsimp only at hW); go_simp; try with_reducible rfl)
    try simp only [Act.put, List.setIfInBounds_toArray, List.set_cons_zero, List.set_cons_succ]
    refine wpAnyH_done (by kernel_rfl) ?_ _
    refine NoPanic.normal ?_
    go_wp2_with fail
    go_ret
    exact ⟨rfl, HQ.out.trans (S11.out.mono HQ.out.size)⟩
  refine AllReadyH.cons (o := { dst := some 67, op := Op.makeSlice 29 (Operand.const (Value.int IntKind.i64 66)) (Operand.const (Value.int IntKind.i64 66)), type := 29, pos := _, after := _, guard := some (3, true) }) rfl (fun K hK => ?_) AllReadyH.nil
  have hm := make_bytes (66 : Int) 66 rfl (by omega) w1c
  obtain ⟨z6, hz6⟩ : ∃ z, z = List.replicate 66 0 := ⟨_, rfl⟩
  rw [← hz6] at hm
  have HZL6 : Hid (z6.length = 66) := Lib.hid (by rw [hz6]; simp)
  have HZO6 : Hid (∀ x ∈ z6, x < 256) := Lib.hid (by rw [hz6]; exact zeros_oct)
  clear hz6
  go_simp
  obtain ⟨w6, hw6⟩ : ∃ W, W = w1c.alloc (.cells (nums .u8 z6) 5) := ⟨_, rfl⟩
  rw [← hw6]
  have hb6 : Below w1c.heap.size w1c w6 := by rw [hw6]; exact (Below.refl _ _).alloc (Nat.le_refl _) _
  have S6 : Hid ((fun W => Below V.heap.size V W) w6) := Lib.hid (S1.out.trans (hb6.mono S1.out.size))
  have HM6 := Lib.hid (rd_zeros hw6 HZL6.out (by omega))
  have HB6 := Lib.hid hb6
  clear hm hw6 hb6
  refine hK.out _ _ (S6.out) (fun hHeld => ?_)
  clear hK K
  try simp only [Act.put, List.setIfInBounds_toArray, List.set_cons_zero, List.set_cons_succ]
  refine wpAnyH_ready (rs := [5]) (by kernel_rfl) (by simp) ?_
  refine AllReadyH.cons (o := { dst := some 66, op := Op.makeSlice 29 (Operand.const (Value.int IntKind.i64 32)) (Operand.const (Value.int IntKind.i64 32)), type := 29, pos := _, after := _, guard := some (3, true) }) rfl (fun K hK => ?_) AllReadyH.nil
  have hm := make_bytes (32 : Int) 32 rfl (by omega) w6
  obtain ⟨z5, hz5⟩ : ∃ z, z = List.replicate 32 0 := ⟨_, rfl⟩
  rw [← hz5] at hm
  have HZL5 : Hid (z5.length = 32) := Lib.hid (by rw [hz5]; simp)
  have HZO5 : Hid (∀ x ∈ z5, x < 256) := Lib.hid (by rw [hz5]; exact zeros_oct)
  clear hz5
  go_simp
  obtain ⟨w5, hw5⟩ : ∃ W, W = w6.alloc (.cells (nums .u8 z5) 5) := ⟨_, rfl⟩
  rw [← hw5]
  have hb5 : Below w6.heap.size w6 w5 := by rw [hw5]; exact (Below.refl _ _).alloc (Nat.le_refl _) _
  have S5 : Hid ((fun W => Below V.heap.size V W) w5) := Lib.hid (S6.out.trans (hb5.mono S6.out.size))
  have HM5 := Lib.hid (rd_zeros hw5 HZL5.out (by omega))
  have HB5 := Lib.hid hb5
  clear hm hw5 hb5
  have HM6b := Lib.hid (rd_next HM6.out (Nat.le_refl _) HB5.out)
  refine hK.out _ _ (S5.out) (fun hHeld => ?_)
  clear hK K
  try simp only [Act.put, List.setIfInBounds_toArray, List.set_cons_zero, List.set_cons_succ]
  refine wpAnyH_ready (rs := [7]) (by kernel_rfl) (by simp) ?_
  refine AllReadyH.cons (o := { dst := some 68, op := Op.call { callee := Callee.value (Operand.func 11), args := #[Operand.tmp 65, Operand.tmp 66, Operand.tmp 67], argTypes := #[28, 29, 29] }, type := 4, pos := _, after := _, guard := some (3, true) }) rfl (fun K hK => ?_) AllReadyH.nil
  go_simp
  have hve := HVE.out w5 S5.out (some ⟨w6.heap.size, 0, none⟩) 32 32 z5 HM5.out HZL5.out HZO5.out (some ⟨w1c.heap.size, 0, none⟩) 66 66 z6 HM6b.out HZL6.out HZO6.out
  refine (hve).mono ?_
  rintro e w7 ⟨rfl, hb⟩
  have S7 : Hid ((fun W => Below V.heap.size V W) w7) := Lib.hid (S5.out.trans (hb.mono S5.out.size))
  clear hb
  clear hve
  go_simp
  refine hK.out _ _ (S7.out) (fun hHeld => ?_)
  clear hK K
  try simp only [Act.put, List.setIfInBounds_toArray, List.set_cons_zero, List.set_cons_succ]
  refine wpAnyH_take (i := 8) (oi := { dst := some 69, op := Op.unOp UnOp.not 4 (Operand.tmp 68), type := 4, pos := _, after := _, guard := some (3, true) }) (v := ?_) rfl (by kernel_rfl) (by kernel_rfl) (by kernel_rfl) (fun _ _ _ h => h) (Or.inl ⟨by rfl, ?_⟩) hHeld ?_
  rotate_left 1
  · (intro W hW; (try dsimp only at hW); go_simp; try with_reducible rfl)
  try simp only [Act.put, List.setIfInBounds_toArray, List.set_cons_zero, List.set_cons_succ]
  refine wpAnyH_take (i := 9) (oi := { dst := some 70, op := Op.pick (Operand.tmp 64) (Operand.tmp 69) (Operand.const (Value.bool false)), type := 4, pos := _, after := _, guard := none }) (v := ?_) rfl (by kernel_rfl) (by kernel_rfl) (by kernel_rfl) (fun _ _ _ h => h) (Or.inl ⟨by rfl, ?_⟩) hHeld ?_
  rotate_left 1
  · (intro W hW; (try dsimp only at hW); go_simp; try with_reducible rfl)
  try simp only [Act.put, List.setIfInBounds_toArray, List.set_cons_zero, List.set_cons_succ]
  refine wpAnyH_take (i := 10) (oi := { dst := some 71, op := Op.move (Operand.tmp 70), type := 4, pos := _, after := _, guard := none }) (v := ?_) rfl (by kernel_rfl) (by kernel_rfl) (by kernel_rfl) (fun _ _ _ h => h) (Or.inl ⟨by rfl, ?_⟩) hHeld ?_
  rotate_left 1
  · (intro W hW; (try dsimp only at hW); go_simp; try with_reducible rfl)
  try simp only [Act.put, List.setIfInBounds_toArray, List.set_cons_zero, List.set_cons_succ]
  refine wpAnyH_ready (rs := [11]) (by kernel_rfl) (by simp) ?_
  refine AllReadyH.cons (o := { dst := some 72, op := Op.call { callee := Callee.value (Operand.func 13), args := #[], argTypes := #[] }, type := 4, pos := _, after := _, guard := some (10, true) }) rfl (fun K hK => ?_) AllReadyH.nil
  go_simp
  refine (known9_any w7).mono ?_
  rintro e w11 ⟨rfl, hb⟩
  have S11 : Hid ((fun W => Below V.heap.size V W) w11) := Lib.hid (S7.out.trans (hb.mono S7.out.size))
  clear hb
  go_simp
  refine hK.out _ _ (S11.out) (fun hHeld => ?_)
  clear hK K
  try simp only [Act.put, List.setIfInBounds_toArray, List.set_cons_zero, List.set_cons_succ]
  refine wpAnyH_take (i := 12) (oi := { dst := some 73, op := Op.pick (Operand.tmp 71) (Operand.tmp 72) (Operand.const (Value.bool false)), type := 4, pos := _, after := _, guard := none }) (v := ?_) rfl (by kernel_rfl) (by kernel_rfl) (by kernel_rfl) (fun _ _ _ h => h) (Or.inl ⟨by rfl, ?_⟩) hHeld ?_
  rotate_left 1
  · (intro W hW; (try dsimp only at hW); go_simp; try with_reducible rfl)
  try simp only [Act.put, List.setIfInBounds_toArray, List.set_cons_zero, List.set_cons_succ]
  refine wpAnyH_take (i := 13) (oi := { dst := some 2, op := Op.assign (Operand.tmp 73), type := 4, pos := _, after := _, guard := none }) (v := ?_) rfl (by kernel_rfl) (by kernel_rfl) (by kernel_rfl) (fun _ _ _ h => h) (Or.inl ⟨by rfl, ?_⟩) hHeld ?_
  rotate_left 1
  · (intro W hW; (try dsimp only at hW); go_simp; try with_reducible rfl)
  try simp only [Act.put, List.setIfInBounds_toArray, List.set_cons_zero, List.set_cons_succ]
  refine wpAnyH_done (by kernel_rfl) ?_ _
  refine NoPanic.normal ?_
  go_wp2_with fail
  go_ret
  exact ⟨rfl, HQ.out.trans (S11.out.mono HQ.out.size)⟩
set_option maxRecDepth 100000 in
set_option maxHeartbeats 4000000 in
theorem keys_5 (w : World) : Calls Try.prog 6 #[.int .i64 5] w fun e w' => e = .returned (.bool true) ∧ Below w.heap.size w w' := by
  have HP := Lib.hid (prime_odd w 5 (by decide))
  go_enter Try.func6, Try.ntmps6
  go_wp2_with fail
  refine HP.out.mono ?_
  rintro e w1 ⟨g, n, A, c, r, D, rfl, hl, hg, hR, hn, hr, hD, hB1⟩
  rw [pl607_len]
  clear HP hn hr hD hl
  have HW1 := Lib.hid hB1.size
  obtain ⟨V1, hV1⟩ : ∃ V, V = ((w1.alloc (.cells #[.int .i64 1, .slice (some ⟨g, 0, none⟩) 19 19, .int .u32 65537, .slice none 0 0, .slice none 0 0, .bool false] 28)).alloc (.cells #[.int .u32 0] 24)) := ⟨_, rfl⟩
  have hB2 : Below w.heap.size w V1 := by rw [hV1]; exact hB1.trans ((((Below.refl _ _).alloc (Nat.le_refl _) _).alloc (by simp) _).mono hB1.size)
  have hH2 : Holds V1 w1.heap.size 28 #[.int .i64 1, .slice (some ⟨g, 0, none⟩) 19 19, .int .u32 65537, .slice none 0 0, .slice none 0 0, .bool false] := by rw [hV1]; exact (Holds.fresh w1 _ _).alloc _
  have hR2 : Row .u32 24 V1 g pl607 := by rw [hV1]; exact (Holds.alloc hR _).alloc _
  have hZ2 : Holds V1 (w1.heap.size + 1) 24 (nums .u32 [0]) := by
    rw [hV1]
    have h := Holds.fresh (w1.alloc (.cells #[.int .i64 1, .slice (some ⟨g, 0, none⟩) 19 19, .int .u32 65537, .slice none 0 0, .slice none 0 0, .bool false] 28)) 24 #[.int .u32 0]
    rw [show (w1.alloc (.cells #[.int .i64 1, .slice (some ⟨g, 0, none⟩) 19 19, .int .u32 65537, .slice none 0 0, .slice none 0 0, .bool false] 28)).heap.size = w1.heap.size + 1 by simp] at h
    exact h
  have hne : w1.heap.size ≠ g := fun e => by have := Holds.lt hR; omega
  have HO2 : Hid (Own .u32 24 V1 0 (some ⟨g, 0, none⟩) 19 pl607) := Lib.hid (by
    have h := Own.of_row (B := 0) (Nat.zero_le g) (by rw [pl607_len]; omega) hR2
    rw [pl607_len] at h
    exact h)
  have HB2 := Lib.hid hB2
  have HH2 := Lib.hid hH2
  have HZ2 := Lib.hid hZ2
  have HNE := Lib.hid hne
  have HV1 := Lib.hid hV1
  have HG := Lib.hid hg
  have HLL := Lib.hid pl607_len
  clear hB2 hH2 hR2 hZ2 hne hV1 hR hB1 hg
  go_wp2_with (rw [← HV1.out]; with_reducible (refine wpList_push _ rfl (.tmp 39) (.tmp 40) 23 rfl .u32 0 24 4 Try.underlying23 info_u32 (some ⟨g, 0, none⟩) 19 19 pl607 rfl HLL.out HO2.out (w1.heap.size + 1) 1 1 [0] rfl rfl HZ2.out (by omega) (by omega) (by omega) (Nat.zero_le _) ?hp5))
  intro g5 c5 w5 hown hgr hat
  have hH5 : Holds w5 w1.heap.size 28 #[.int .i64 1, .slice (some ⟨g, 0, none⟩) 19 19, .int .u32 65537, .slice none 0 0, .slice none 0 0, .bool false] := HH2.out.grown hgr (by simp [blockOf]; exact HNE.out)
  have hap : g5 ≠ w1.heap.size := fun e => by
    have := hown.apart hH5 (by decide)
    exact this (by simp [blockOf, e])
  have hB5 : Below w.heap.size w w5 := HB2.out.trans (grown_below hgr (fun x e => by
    have : g = x := by simpa [blockOf] using e
    have := HG.out
    omega) HB2.out.size)
  have k1 := hH5.cell 1
  have y1 := hH5.open_ 1
  have hB : Below w.heap.size w (w5.setCell ⟨w1.heap.size, 1, none⟩ (.slice (some ⟨g5, 0, none⟩) 20 c5)) := hB5.setCell (by
    show w.heap.size ≤ w1.heap.size
    exact HW1.out) _
  have hH : Holds (w5.setCell ⟨w1.heap.size, 1, none⟩ (.slice (some ⟨g5, 0, none⟩) 20 c5)) w1.heap.size 28 #[.int .i64 1, .slice (some ⟨g5, 0, none⟩) 20 c5, .int .u32 65537, .slice none 0 0, .slice none 0 0, .bool false] := hH5.stored 1 _
  have hO5 := hown.aside (p := ⟨w1.heap.size, 1, none⟩) (by simp [blockOf]; exact hap) (.slice (some ⟨g5, 0, none⟩) 20 c5)
  obtain ⟨V, hV⟩ : ∃ V, V = w5.setCell ⟨w1.heap.size, 1, none⟩ (.slice (some ⟨g5, 0, none⟩) 20 c5) := ⟨_, rfl⟩
  rw [← hV] at hB hH hO5
  have hky : KyP (⟨1, some ⟨g5, 0, none⟩, c5, pl607 ++ [0], 65537, none, 0, [], none, 0, [], false⟩ : Ky) V := ⟨hO5.rd, fun x hx => by
      rcases List.mem_append.1 hx with h | h
      · exact pl607_dg x h
      · rw [List.mem_singleton.1 h]; omega, Rd.nil_ _ _ _, dg_nil9, Rd.nil_ _ _ _, dg_nil9, (show 65537 < 4294967296 by omega)⟩
  have hnl : (Ky.n (⟨1, some ⟨g5, 0, none⟩, c5, pl607 ++ [0], 65537, none, 0, [], none, 0, [], false⟩ : Ky)).length ≤ 5000 := show ((pl607 ++ [0])).length ≤ 5000 from by decide +kernel
  have hnl2 : (Ky.n (⟨1, some ⟨g5, 0, none⟩, c5, pl607 ++ [0], 65537, none, 0, [], none, 0, [], false⟩ : Ky)).length ≤ 1000 := show ((pl607 ++ [0])).length ≤ 1000 from by decide +kernel
  have HV := Lib.hid hV
  have hno : rsaOk (Ky.v (⟨1, some ⟨g5, 0, none⟩, c5, pl607 ++ [0], 65537, none, 0, [], none, 0, [], false⟩ : Ky)) = false := show rsaOk ⟨1, (pl607 ++ [0]), 65537, [], [], false⟩ = false from by decide +kernel
  have HA := Lib.hid hH
  have HQ := Lib.hid hB
  have S0 : Hid ((fun W => Below V.heap.size V W) V) := Lib.hid (Below.refl _ _)
  have hof := Off.of_ky hky
  have HIS : Hid (∀ W, Below V.heap.size V W → Calls Try.prog 9 #[.agg #[.int .i64 1, .slice (some ⟨g5, 0, none⟩) 20 c5, .int .u32 65537, .slice none 0 0, .slice none 0 0, .bool false]] W fun e w' => e = .returned (.bool false) ∧ Below W.heap.size W w') := Lib.hid fun W hW => by
    have h := rsaIs_any W (⟨1, some ⟨g5, 0, none⟩, c5, pl607 ++ [0], 65537, none, 0, [], none, 0, [], false⟩ : Ky) (hof.under hW).at_ hnl
    rw [hno] at h
    exact h
  have HVE : Hid (∀ W, Below V.heap.size V W → ∀ (A2 : Option Addr) (c2 dn : Nat) (d : List Nat) (hd : Rd .u8 W W.heap.size A2 c2 d) (hdn : d.length = dn) (ho : ∀ x ∈ d, x < 256) (A3 : Option Addr) (c3 sn : Nat) (s : List Nat) (hsg : Rd .u8 W W.heap.size A3 c3 s) (hsn : s.length = sn) (ho3 : ∀ x ∈ s, x < 256), Calls Try.prog 11 #[.agg #[.int .i64 1, .slice (some ⟨g5, 0, none⟩) 20 c5, .int .u32 65537, .slice none 0 0, .slice none 0 0, .bool false], .slice A2 dn c2, .slice A3 sn c3] W fun e w' => e = .returned (.bool false) ∧ Below W.heap.size W w') := Lib.hid fun W hW A2 c2 dn d hd hdn ho A3 c3 sn s hsg hsn ho3 => by
    have h := rsaVerify_any W (⟨1, some ⟨g5, 0, none⟩, c5, pl607 ++ [0], 65537, none, 0, [], none, 0, [], false⟩ : Ky) (hof.under hW).at_ hnl2 ⟨by simp, by simp⟩ A2 c2 dn d hd hdn ho A3 c3 sn s hsg hsn ho3
    rw [ver_no hno] at h
    exact h
  clear hno hof hky hH hB hnl hnl2
  clear hV hO5 hown hgr hat hH5 hap hB5
  go_wp2_with fail
  rw [← HV.out]
  go_wp2_with fail
  refine wp_region_noPanic ?_
  refine wp_region_held_drew (S := (fun W => Below V.heap.size V W)) (by kernel_rfl) (S0.out.drew) (fun hHeld => ?_)
  refine wpAnyH_take (i := 0) (oi := { dst := some 61, op := Op.load 28 (Operand.tmp 3), type := 28, pos := _, after := _, guard := none }) (v := ?_) rfl (by kernel_rfl) (by kernel_rfl) (by kernel_rfl) (fun _ _ _ h => h) (Or.inl ⟨by rfl, ?_⟩) hHeld ?_
  rotate_left 1
  · (intro W hW; have k := HA.out.under hW HA.out.lt; have k0 := k.cell 0; have k1 := k.cell 1; have k2 := k.cell 2; have k3 := k.cell 3; have k4 := k.cell 4; have k5 := k.cell 5; (try dsimp only at hW); go_simp; try with_reducible rfl)
  try simp only [Act.put, List.setIfInBounds_toArray, List.set_cons_zero, List.set_cons_succ]
  refine wpAnyH_ready (rs := [1]) (by kernel_rfl) (by simp) ?_
  refine AllReadyH.cons (o := { dst := some 62, op := Op.call { callee := Callee.value (Operand.func 9), args := #[Operand.tmp 61], argTypes := #[28] }, type := 4, pos := _, after := _, guard := none }) rfl (fun K hK => ?_) AllReadyH.nil
  go_simp
  refine (HIS.out _ S0.out.drew).mono ?_
  rintro e w1c ⟨rfl, hb⟩
  have S1 : Hid ((fun W => Below V.heap.size V W) w1c) := Lib.hid (S0.out.drew.trans (hb.mono S0.out.drew.size))
  clear hb
  go_simp
  refine hK.out _ _ (S1.out) (fun hHeld => ?_)
  clear hK K
  try simp only [Act.put, List.setIfInBounds_toArray, List.set_cons_zero, List.set_cons_succ]
  refine wpAnyH_take (i := 2) (oi := { dst := some 63, op := Op.unOp UnOp.not 4 (Operand.tmp 62), type := 4, pos := _, after := _, guard := none }) (v := ?_) rfl (by kernel_rfl) (by kernel_rfl) (by kernel_rfl) (fun _ _ _ h => h) (Or.inl ⟨by rfl, ?_⟩) hHeld ?_
  rotate_left 1
  · (intro W hW; (try dsimp only at hW); go_simp; try with_reducible rfl)
  try simp only [Act.put, List.setIfInBounds_toArray, List.set_cons_zero, List.set_cons_succ]
  refine wpAnyH_take (i := 3) (oi := { dst := some 64, op := Op.move (Operand.tmp 63), type := 4, pos := _, after := _, guard := none }) (v := ?_) rfl (by kernel_rfl) (by kernel_rfl) (by kernel_rfl) (fun _ _ _ h => h) (Or.inl ⟨by rfl, ?_⟩) hHeld ?_
  rotate_left 1
  · (intro W hW; (try dsimp only at hW); go_simp; try with_reducible rfl)
  try simp only [Act.put, List.setIfInBounds_toArray, List.set_cons_zero, List.set_cons_succ]
  refine wpAnyH_take (i := 4) (oi := { dst := some 65, op := Op.load 28 (Operand.tmp 3), type := 28, pos := _, after := _, guard := some (3, true) }) (v := ?_) rfl (by kernel_rfl) (by kernel_rfl) (by kernel_rfl) (fun _ _ _ h => h) (Or.inl ⟨by rfl, ?_⟩) hHeld ?_
  rotate_left 1
  · (intro W hW; have k := HA.out.under hW HA.out.lt; have k0 := k.cell 0; have k1 := k.cell 1; have k2 := k.cell 2; have k3 := k.cell 3; have k4 := k.cell 4; have k5 := k.cell 5; (try dsimp only at hW); go_simp; try with_reducible rfl)
  try simp only [Act.put, List.setIfInBounds_toArray, List.set_cons_zero, List.set_cons_succ]
  refine wpAnyH_ready (rs := [5, 6]) (by kernel_rfl) (by simp) ?_
  refine AllReadyH.cons (o := { dst := some 66, op := Op.makeSlice 29 (Operand.const (Value.int IntKind.i64 32)) (Operand.const (Value.int IntKind.i64 32)), type := 29, pos := _, after := _, guard := some (3, true) }) rfl (fun K hK => ?_) ?_
  · have hm := make_bytes (32 : Int) 32 rfl (by omega) w1c
    obtain ⟨z5, hz5⟩ : ∃ z, z = List.replicate 32 0 := ⟨_, rfl⟩
    rw [← hz5] at hm
    have HZL5 : Hid (z5.length = 32) := Lib.hid (by rw [hz5]; simp)
    have HZO5 : Hid (∀ x ∈ z5, x < 256) := Lib.hid (by rw [hz5]; exact zeros_oct)
    clear hz5
    go_simp
    obtain ⟨w5, hw5⟩ : ∃ W, W = w1c.alloc (.cells (nums .u8 z5) 5) := ⟨_, rfl⟩
    rw [← hw5]
    have hb5 : Below w1c.heap.size w1c w5 := by rw [hw5]; exact (Below.refl _ _).alloc (Nat.le_refl _) _
    have S5 : Hid ((fun W => Below V.heap.size V W) w5) := Lib.hid (S1.out.trans (hb5.mono S1.out.size))
    have HM5 := Lib.hid (rd_zeros hw5 HZL5.out (by omega))
    have HB5 := Lib.hid hb5
    clear hm hw5 hb5
    refine hK.out _ _ (S5.out) (fun hHeld => ?_)
    clear hK K
    try simp only [Act.put, List.setIfInBounds_toArray, List.set_cons_zero, List.set_cons_succ]
    refine wpAnyH_ready (rs := [6]) (by kernel_rfl) (by simp) ?_
    refine AllReadyH.cons (o := { dst := some 67, op := Op.makeSlice 29 (Operand.const (Value.int IntKind.i64 66)) (Operand.const (Value.int IntKind.i64 66)), type := 29, pos := _, after := _, guard := some (3, true) }) rfl (fun K hK => ?_) AllReadyH.nil
    have hm := make_bytes (66 : Int) 66 rfl (by omega) w5
    obtain ⟨z6, hz6⟩ : ∃ z, z = List.replicate 66 0 := ⟨_, rfl⟩
    rw [← hz6] at hm
    have HZL6 : Hid (z6.length = 66) := Lib.hid (by rw [hz6]; simp)
    have HZO6 : Hid (∀ x ∈ z6, x < 256) := Lib.hid (by rw [hz6]; exact zeros_oct)
    clear hz6
    go_simp
    obtain ⟨w6, hw6⟩ : ∃ W, W = w5.alloc (.cells (nums .u8 z6) 5) := ⟨_, rfl⟩
    rw [← hw6]
    have hb6 : Below w5.heap.size w5 w6 := by rw [hw6]; exact (Below.refl _ _).alloc (Nat.le_refl _) _
    have S6 : Hid ((fun W => Below V.heap.size V W) w6) := Lib.hid (S5.out.trans (hb6.mono S5.out.size))
    have HM6 := Lib.hid (rd_zeros hw6 HZL6.out (by omega))
    have HB6 := Lib.hid hb6
    clear hm hw6 hb6
    have HM5b := Lib.hid (rd_next HM5.out (Nat.le_refl _) HB6.out)
    refine hK.out _ _ (S6.out) (fun hHeld => ?_)
    clear hK K
    try simp only [Act.put, List.setIfInBounds_toArray, List.set_cons_zero, List.set_cons_succ]
    refine wpAnyH_ready (rs := [7]) (by kernel_rfl) (by simp) ?_
    refine AllReadyH.cons (o := { dst := some 68, op := Op.call { callee := Callee.value (Operand.func 11), args := #[Operand.tmp 65, Operand.tmp 66, Operand.tmp 67], argTypes := #[28, 29, 29] }, type := 4, pos := _, after := _, guard := some (3, true) }) rfl (fun K hK => ?_) AllReadyH.nil
    go_simp
    have hve := HVE.out w6 S6.out (some ⟨w1c.heap.size, 0, none⟩) 32 32 z5 HM5b.out HZL5.out HZO5.out (some ⟨w5.heap.size, 0, none⟩) 66 66 z6 HM6.out HZL6.out HZO6.out
    refine (hve).mono ?_
    rintro e w7 ⟨rfl, hb⟩
    have S7 : Hid ((fun W => Below V.heap.size V W) w7) := Lib.hid (S6.out.trans (hb.mono S6.out.size))
    clear hb
    clear hve
    go_simp
    refine hK.out _ _ (S7.out) (fun hHeld => ?_)
    clear hK K
    try simp only [Act.put, List.setIfInBounds_toArray, List.set_cons_zero, List.set_cons_succ]
    refine wpAnyH_take (i := 8) (oi := { dst := some 69, op := Op.unOp UnOp.not 4 (Operand.tmp 68), type := 4, pos := _, after := _, guard := some (3, true) }) (v := ?_) rfl (by kernel_rfl) (by kernel_rfl) (by kernel_rfl) (fun _ _ _ h => h) (Or.inl ⟨by rfl, ?_⟩) hHeld ?_
    rotate_left 1
    · (intro W hW; (try dsimp only at hW); go_simp; try with_reducible rfl)
    try simp only [Act.put, List.setIfInBounds_toArray, List.set_cons_zero, List.set_cons_succ]
    refine wpAnyH_take (i := 9) (oi := { dst := some 70, op := Op.pick (Operand.tmp 64) (Operand.tmp 69) (Operand.const (Value.bool false)), type := 4, pos := _, after := _, guard := none }) (v := ?_) rfl (by kernel_rfl) (by kernel_rfl) (by kernel_rfl) (fun _ _ _ h => h) (Or.inl ⟨by rfl, ?_⟩) hHeld ?_
    rotate_left 1
    · (intro W hW; (try dsimp only at hW); go_simp; try with_reducible rfl)
    try simp only [Act.put, List.setIfInBounds_toArray, List.set_cons_zero, List.set_cons_succ]
    refine wpAnyH_take (i := 10) (oi := { dst := some 71, op := Op.move (Operand.tmp 70), type := 4, pos := _, after := _, guard := none }) (v := ?_) rfl (by kernel_rfl) (by kernel_rfl) (by kernel_rfl) (fun _ _ _ h => h) (Or.inl ⟨by rfl, ?_⟩) hHeld ?_
    rotate_left 1
    · (intro W hW; (try dsimp only at hW); go_simp; try with_reducible rfl)
    try simp only [Act.put, List.setIfInBounds_toArray, List.set_cons_zero, List.set_cons_succ]
    refine wpAnyH_ready (rs := [11]) (by kernel_rfl) (by simp) ?_
    refine AllReadyH.cons (o := { dst := some 72, op := Op.call { callee := Callee.value (Operand.func 13), args := #[], argTypes := #[] }, type := 4, pos := _, after := _, guard := some (10, true) }) rfl (fun K hK => ?_) AllReadyH.nil
    go_simp
    refine (known9_any w7).mono ?_
    rintro e w11 ⟨rfl, hb⟩
    have S11 : Hid ((fun W => Below V.heap.size V W) w11) := Lib.hid (S7.out.trans (hb.mono S7.out.size))
    clear hb
    go_simp
    refine hK.out _ _ (S11.out) (fun hHeld => ?_)
    clear hK K
    try simp only [Act.put, List.setIfInBounds_toArray, List.set_cons_zero, List.set_cons_succ]
    refine wpAnyH_take (i := 12) (oi := { dst := some 73, op := Op.pick (Operand.tmp 71) (Operand.tmp 72) (Operand.const (Value.bool false)), type := 4, pos := _, after := _, guard := none }) (v := ?_) rfl (by kernel_rfl) (by kernel_rfl) (by kernel_rfl) (fun _ _ _ h => h) (Or.inl ⟨by rfl, ?_⟩) hHeld ?_
    rotate_left 1
    · (intro W hW; (try dsimp only at hW); go_simp; try with_reducible rfl)
    try simp only [Act.put, List.setIfInBounds_toArray, List.set_cons_zero, List.set_cons_succ]
    refine wpAnyH_take (i := 13) (oi := { dst := some 2, op := Op.assign (Operand.tmp 73), type := 4, pos := _, after := _, guard := none }) (v := ?_) rfl (by kernel_rfl) (by kernel_rfl) (by kernel_rfl) (fun _ _ _ h => h) (Or.inl ⟨by rfl, ?_⟩) hHeld ?_
    rotate_left 1
    · (intro W hW; (try dsimp only at hW); go_simp; try with_reducible rfl)
    try simp only [Act.put, List.setIfInBounds_toArray, List.set_cons_zero, List.set_cons_succ]
    refine wpAnyH_done (by kernel_rfl) ?_ _
    refine NoPanic.normal ?_
    go_wp2_with fail
    go_ret
    exact ⟨rfl, HQ.out.trans (S11.out.mono HQ.out.size)⟩
  refine AllReadyH.cons (o := { dst := some 67, op := Op.makeSlice 29 (Operand.const (Value.int IntKind.i64 66)) (Operand.const (Value.int IntKind.i64 66)), type := 29, pos := _, after := _, guard := some (3, true) }) rfl (fun K hK => ?_) AllReadyH.nil
  have hm := make_bytes (66 : Int) 66 rfl (by omega) w1c
  obtain ⟨z6, hz6⟩ : ∃ z, z = List.replicate 66 0 := ⟨_, rfl⟩
  rw [← hz6] at hm
  have HZL6 : Hid (z6.length = 66) := Lib.hid (by rw [hz6]; simp)
  have HZO6 : Hid (∀ x ∈ z6, x < 256) := Lib.hid (by rw [hz6]; exact zeros_oct)
  clear hz6
  go_simp
  obtain ⟨w6, hw6⟩ : ∃ W, W = w1c.alloc (.cells (nums .u8 z6) 5) := ⟨_, rfl⟩
  rw [← hw6]
  have hb6 : Below w1c.heap.size w1c w6 := by rw [hw6]; exact (Below.refl _ _).alloc (Nat.le_refl _) _
  have S6 : Hid ((fun W => Below V.heap.size V W) w6) := Lib.hid (S1.out.trans (hb6.mono S1.out.size))
  have HM6 := Lib.hid (rd_zeros hw6 HZL6.out (by omega))
  have HB6 := Lib.hid hb6
  clear hm hw6 hb6
  refine hK.out _ _ (S6.out) (fun hHeld => ?_)
  clear hK K
  try simp only [Act.put, List.setIfInBounds_toArray, List.set_cons_zero, List.set_cons_succ]
  refine wpAnyH_ready (rs := [5]) (by kernel_rfl) (by simp) ?_
  refine AllReadyH.cons (o := { dst := some 66, op := Op.makeSlice 29 (Operand.const (Value.int IntKind.i64 32)) (Operand.const (Value.int IntKind.i64 32)), type := 29, pos := _, after := _, guard := some (3, true) }) rfl (fun K hK => ?_) AllReadyH.nil
  have hm := make_bytes (32 : Int) 32 rfl (by omega) w6
  obtain ⟨z5, hz5⟩ : ∃ z, z = List.replicate 32 0 := ⟨_, rfl⟩
  rw [← hz5] at hm
  have HZL5 : Hid (z5.length = 32) := Lib.hid (by rw [hz5]; simp)
  have HZO5 : Hid (∀ x ∈ z5, x < 256) := Lib.hid (by rw [hz5]; exact zeros_oct)
  clear hz5
  go_simp
  obtain ⟨w5, hw5⟩ : ∃ W, W = w6.alloc (.cells (nums .u8 z5) 5) := ⟨_, rfl⟩
  rw [← hw5]
  have hb5 : Below w6.heap.size w6 w5 := by rw [hw5]; exact (Below.refl _ _).alloc (Nat.le_refl _) _
  have S5 : Hid ((fun W => Below V.heap.size V W) w5) := Lib.hid (S6.out.trans (hb5.mono S6.out.size))
  have HM5 := Lib.hid (rd_zeros hw5 HZL5.out (by omega))
  have HB5 := Lib.hid hb5
  clear hm hw5 hb5
  have HM6b := Lib.hid (rd_next HM6.out (Nat.le_refl _) HB5.out)
  refine hK.out _ _ (S5.out) (fun hHeld => ?_)
  clear hK K
  try simp only [Act.put, List.setIfInBounds_toArray, List.set_cons_zero, List.set_cons_succ]
  refine wpAnyH_ready (rs := [7]) (by kernel_rfl) (by simp) ?_
  refine AllReadyH.cons (o := { dst := some 68, op := Op.call { callee := Callee.value (Operand.func 11), args := #[Operand.tmp 65, Operand.tmp 66, Operand.tmp 67], argTypes := #[28, 29, 29] }, type := 4, pos := _, after := _, guard := some (3, true) }) rfl (fun K hK => ?_) AllReadyH.nil
  go_simp
  have hve := HVE.out w5 S5.out (some ⟨w6.heap.size, 0, none⟩) 32 32 z5 HM5.out HZL5.out HZO5.out (some ⟨w1c.heap.size, 0, none⟩) 66 66 z6 HM6b.out HZL6.out HZO6.out
  refine (hve).mono ?_
  rintro e w7 ⟨rfl, hb⟩
  have S7 : Hid ((fun W => Below V.heap.size V W) w7) := Lib.hid (S5.out.trans (hb.mono S5.out.size))
  clear hb
  clear hve
  go_simp
  refine hK.out _ _ (S7.out) (fun hHeld => ?_)
  clear hK K
  try simp only [Act.put, List.setIfInBounds_toArray, List.set_cons_zero, List.set_cons_succ]
  refine wpAnyH_take (i := 8) (oi := { dst := some 69, op := Op.unOp UnOp.not 4 (Operand.tmp 68), type := 4, pos := _, after := _, guard := some (3, true) }) (v := ?_) rfl (by kernel_rfl) (by kernel_rfl) (by kernel_rfl) (fun _ _ _ h => h) (Or.inl ⟨by rfl, ?_⟩) hHeld ?_
  rotate_left 1
  · (intro W hW; (try dsimp only at hW); go_simp; try with_reducible rfl)
  try simp only [Act.put, List.setIfInBounds_toArray, List.set_cons_zero, List.set_cons_succ]
  refine wpAnyH_take (i := 9) (oi := { dst := some 70, op := Op.pick (Operand.tmp 64) (Operand.tmp 69) (Operand.const (Value.bool false)), type := 4, pos := _, after := _, guard := none }) (v := ?_) rfl (by kernel_rfl) (by kernel_rfl) (by kernel_rfl) (fun _ _ _ h => h) (Or.inl ⟨by rfl, ?_⟩) hHeld ?_
  rotate_left 1
  · (intro W hW; (try dsimp only at hW); go_simp; try with_reducible rfl)
  try simp only [Act.put, List.setIfInBounds_toArray, List.set_cons_zero, List.set_cons_succ]
  refine wpAnyH_take (i := 10) (oi := { dst := some 71, op := Op.move (Operand.tmp 70), type := 4, pos := _, after := _, guard := none }) (v := ?_) rfl (by kernel_rfl) (by kernel_rfl) (by kernel_rfl) (fun _ _ _ h => h) (Or.inl ⟨by rfl, ?_⟩) hHeld ?_
  rotate_left 1
  · (intro W hW; (try dsimp only at hW); go_simp; try with_reducible rfl)
  try simp only [Act.put, List.setIfInBounds_toArray, List.set_cons_zero, List.set_cons_succ]
  refine wpAnyH_ready (rs := [11]) (by kernel_rfl) (by simp) ?_
  refine AllReadyH.cons (o := { dst := some 72, op := Op.call { callee := Callee.value (Operand.func 13), args := #[], argTypes := #[] }, type := 4, pos := _, after := _, guard := some (10, true) }) rfl (fun K hK => ?_) AllReadyH.nil
  go_simp
  refine (known9_any w7).mono ?_
  rintro e w11 ⟨rfl, hb⟩
  have S11 : Hid ((fun W => Below V.heap.size V W) w11) := Lib.hid (S7.out.trans (hb.mono S7.out.size))
  clear hb
  go_simp
  refine hK.out _ _ (S11.out) (fun hHeld => ?_)
  clear hK K
  try simp only [Act.put, List.setIfInBounds_toArray, List.set_cons_zero, List.set_cons_succ]
  refine wpAnyH_take (i := 12) (oi := { dst := some 73, op := Op.pick (Operand.tmp 71) (Operand.tmp 72) (Operand.const (Value.bool false)), type := 4, pos := _, after := _, guard := none }) (v := ?_) rfl (by kernel_rfl) (by kernel_rfl) (by kernel_rfl) (fun _ _ _ h => h) (Or.inl ⟨by rfl, ?_⟩) hHeld ?_
  rotate_left 1
  · (intro W hW; (try dsimp only at hW); go_simp; try with_reducible rfl)
  try simp only [Act.put, List.setIfInBounds_toArray, List.set_cons_zero, List.set_cons_succ]
  refine wpAnyH_take (i := 13) (oi := { dst := some 2, op := Op.assign (Operand.tmp 73), type := 4, pos := _, after := _, guard := none }) (v := ?_) rfl (by kernel_rfl) (by kernel_rfl) (by kernel_rfl) (fun _ _ _ h => h) (Or.inl ⟨by rfl, ?_⟩) hHeld ?_
  rotate_left 1
  · (intro W hW; (try dsimp only at hW); go_simp; try with_reducible rfl)
  try simp only [Act.put, List.setIfInBounds_toArray, List.set_cons_zero, List.set_cons_succ]
  refine wpAnyH_done (by kernel_rfl) ?_ _
  refine NoPanic.normal ?_
  go_wp2_with fail
  go_ret
  exact ⟨rfl, HQ.out.trans (S11.out.mono HQ.out.size)⟩
set_option maxRecDepth 100000 in
set_option maxHeartbeats 4000000 in
theorem keys_8 (w : World) : Calls Try.prog 6 #[.int .i64 8] w fun e w' => e = .returned (.bool true) ∧ Below w.heap.size w w' := by
  have HP := Lib.hid (prime_even w 8 (by decide))
  go_enter Try.func6, Try.ntmps6
  go_wp2_with fail
  refine HP.out.mono ?_
  rintro e w1 ⟨g, n, A, c, r, D, rfl, hl, hg, hR, hn, hr, hD, hB1⟩
  rw [pl521_len]
  clear HP hn hr hD hl
  have HW1 := Lib.hid hB1.size
  obtain ⟨z, hz⟩ : ∃ z, z = List.replicate 128 0 := ⟨_, rfl⟩
  have hm := make_nat (128 : Int) 128 rfl (by omega) (w1.alloc (.cells #[.int .i64 1, .slice (some ⟨g, 0, none⟩) 17 17, .int .u32 65537, .slice none 0 0, .slice none 0 0, .bool false] 28))
  rw [← hz, show (w1.alloc (.cells #[.int .i64 1, .slice (some ⟨g, 0, none⟩) 17 17, .int .u32 65537, .slice none 0 0, .slice none 0 0, .bool false] 28)).heap.size = w1.heap.size + 1 by simp] at hm
  obtain ⟨V1, hV1⟩ : ∃ V, V = (((w1.alloc (.cells #[.int .i64 1, .slice (some ⟨g, 0, none⟩) 17 17, .int .u32 65537, .slice none 0 0, .slice none 0 0, .bool false] 28)).alloc (.cells (nums .u32 z) 24)).alloc (.cells #[.int .u32 1] 24)) := ⟨_, rfl⟩
  have hB2 : Below w.heap.size w V1 := by rw [hV1]; exact hB1.trans (((((Below.refl _ _).alloc (Nat.le_refl _) _).alloc (by simp) _).alloc (by simp; omega) _).mono hB1.size)
  have hH2 : Holds V1 w1.heap.size 28 #[.int .i64 1, .slice (some ⟨g, 0, none⟩) 17 17, .int .u32 65537, .slice none 0 0, .slice none 0 0, .bool false] := by rw [hV1]; exact ((Holds.fresh w1 _ _).alloc _).alloc _
  have hR2 : Row .u32 24 V1 (w1.heap.size + 1) z := by
    rw [hV1]
    have h := Holds.fresh (w1.alloc (.cells #[.int .i64 1, .slice (some ⟨g, 0, none⟩) 17 17, .int .u32 65537, .slice none 0 0, .slice none 0 0, .bool false] 28)) 24 (nums .u32 z)
    rw [show (w1.alloc (.cells #[.int .i64 1, .slice (some ⟨g, 0, none⟩) 17 17, .int .u32 65537, .slice none 0 0, .slice none 0 0, .bool false] 28)).heap.size = w1.heap.size + 1 by simp] at h
    exact h.alloc _
  have hZ2 : Holds V1 (w1.heap.size + 1 + 1) 24 (nums .u32 [1]) := by
    rw [hV1]
    have h := Holds.fresh ((w1.alloc (.cells #[.int .i64 1, .slice (some ⟨g, 0, none⟩) 17 17, .int .u32 65537, .slice none 0 0, .slice none 0 0, .bool false] 28)).alloc (.cells (nums .u32 z) 24)) 24 #[.int .u32 1]
    rw [show ((w1.alloc (.cells #[.int .i64 1, .slice (some ⟨g, 0, none⟩) 17 17, .int .u32 65537, .slice none 0 0, .slice none 0 0, .bool false] 28)).alloc (.cells (nums .u32 z) 24)).heap.size = w1.heap.size + 1 + 1 by simp] at h
    exact h
  have HLL : Hid (z.length = 128) := Lib.hid (by rw [hz]; simp)
  have HZZ := Lib.hid hz
  have HO2 : Hid (Own .u32 24 V1 0 (some ⟨w1.heap.size + 1, 0, none⟩) 128 z) := Lib.hid (by
    have h := Own.of_row (B := 0) (Nat.zero_le _) (by rw [HLL.out]; omega) hR2
    rw [HLL.out] at h
    exact h)
  have HB2 := Lib.hid hB2
  have HH2 := Lib.hid hH2
  have HZ2 := Lib.hid hZ2
  have HV1 := Lib.hid hV1
  clear hB2 hH2 hR2 hZ2 hV1 hR hB1 hg hz
  go_wp2_with (rw [← HV1.out]; with_reducible (refine wpList_push _ rfl (.tmp 54) (.tmp 55) 23 rfl .u32 0 24 4 Try.underlying23 info_u32 (some ⟨w1.heap.size + 1, 0, none⟩) 128 128 z rfl HLL.out HO2.out (w1.heap.size + 1 + 1) 1 1 [1] rfl rfl HZ2.out (by omega) (by omega) (by omega) (Nat.zero_le _) ?hp8))
  intro g5 c5 w5 hown hgr hat
  have hH5 : Holds w5 w1.heap.size 28 #[.int .i64 1, .slice (some ⟨g, 0, none⟩) 17 17, .int .u32 65537, .slice none 0 0, .slice none 0 0, .bool false] := HH2.out.grown hgr (by simp [blockOf])
  have hap : g5 ≠ w1.heap.size := fun e => by
    have := hown.apart hH5 (by decide)
    exact this (by simp [blockOf, e])
  have hB5 : Below w.heap.size w w5 := HB2.out.trans (grown_below hgr (fun x e => by
    have : w1.heap.size + 1 = x := by simpa [blockOf] using e
    have := HW1.out
    omega) HB2.out.size)
  have k1 := hH5.cell 1
  have y1 := hH5.open_ 1
  have hB : Below w.heap.size w (w5.setCell ⟨w1.heap.size, 1, none⟩ (.slice (some ⟨g5, 0, none⟩) 129 c5)) := hB5.setCell (by
    show w.heap.size ≤ w1.heap.size
    exact HW1.out) _
  have hH : Holds (w5.setCell ⟨w1.heap.size, 1, none⟩ (.slice (some ⟨g5, 0, none⟩) 129 c5)) w1.heap.size 28 #[.int .i64 1, .slice (some ⟨g5, 0, none⟩) 129 c5, .int .u32 65537, .slice none 0 0, .slice none 0 0, .bool false] := hH5.stored 1 _
  have hO5 := hown.aside (p := ⟨w1.heap.size, 1, none⟩) (by simp [blockOf]; exact hap) (.slice (some ⟨g5, 0, none⟩) 129 c5)
  obtain ⟨w6, hw6⟩ : ∃ V, V = w5.setCell ⟨w1.heap.size, 1, none⟩ (.slice (some ⟨g5, 0, none⟩) 129 c5) := ⟨_, rfl⟩
  rw [← hw6] at hB hH hO5
  have hg5 : w.heap.size ≤ g5 := by
    rcases hat with h | h
    · have : w1.heap.size + 1 = g5 := by simpa [blockOf] using h
      have := HW1.out
      omega
    · have := HB2.out.size
      omega
  rw [HZZ.out] at hO5
  obtain ⟨hc6, ho6, hO7⟩ := own_store0 hO5
  have hH7 : Holds (w6.setCell ⟨g5, 0, none⟩ (.int .u32 1)) w1.heap.size 28 #[.int .i64 1, .slice (some ⟨g5, 0, none⟩) 129 c5, .int .u32 65537, .slice none 0 0, .slice none 0 0, .bool false] := hH.aside (by simp; exact fun e => hap e.symm) _
  have hB7 : Below w.heap.size w (w6.setCell ⟨g5, 0, none⟩ (.int .u32 1)) := hB.setCell hg5 _
  have j1 := hH.cell 1
  have HW6 := Lib.hid hw6
  have HH7 := Lib.hid hH7
  have HB7 := Lib.hid hB7
  have HO7 := Lib.hid hO7
  rw [hw6] at j1 hc6 ho6
  clear hw6 hB hH hO5 hown hgr hat hH5 hap hB5 hg5 hH7 hB7 hO7 HZZ
  go_wp2_with fail
  obtain ⟨V, hV⟩ : ∃ V, V = w6.setCell ⟨g5, 0, none⟩ (.int .u32 1) := ⟨_, rfl⟩
  have hB := HB7.out
  have hH := HH7.out
  have hO7 := HO7.out
  rw [← hV] at hB hH hO7
  have hky : KyP (⟨1, some ⟨g5, 0, none⟩, c5, 1 :: (List.replicate 127 0 ++ [1]), 65537, none, 0, [], none, 0, [], false⟩ : Ky) V := ⟨hO7.rd, fun x hx => by
      rcases List.mem_cons.1 hx with h | h
      · omega
      · rcases List.mem_append.1 h with h | h
        · rw [(List.mem_replicate.1 h).2]; omega
        · rw [List.mem_singleton.1 h]; omega, Rd.nil_ _ _ _, dg_nil9, Rd.nil_ _ _ _, dg_nil9, (show 65537 < 4294967296 by omega)⟩
  have hnl : (Ky.n (⟨1, some ⟨g5, 0, none⟩, c5, 1 :: (List.replicate 127 0 ++ [1]), 65537, none, 0, [], none, 0, [], false⟩ : Ky)).length ≤ 5000 := show ((1 :: (List.replicate 127 0 ++ [1]))).length ≤ 5000 from by decide +kernel
  have hnl2 : (Ky.n (⟨1, some ⟨g5, 0, none⟩, c5, 1 :: (List.replicate 127 0 ++ [1]), 65537, none, 0, [], none, 0, [], false⟩ : Ky)).length ≤ 1000 := show ((1 :: (List.replicate 127 0 ++ [1]))).length ≤ 1000 from by decide +kernel
  have HV := Lib.hid hV
  have hno : rsaOk (Ky.v (⟨1, some ⟨g5, 0, none⟩, c5, 1 :: (List.replicate 127 0 ++ [1]), 65537, none, 0, [], none, 0, [], false⟩ : Ky)) = false := show rsaOk ⟨1, (1 :: (List.replicate 127 0 ++ [1])), 65537, [], [], false⟩ = false from by decide +kernel
  have HA := Lib.hid hH
  have HQ := Lib.hid hB
  have S0 : Hid ((fun W => Below V.heap.size V W) V) := Lib.hid (Below.refl _ _)
  have hof := Off.of_ky hky
  have HIS : Hid (∀ W, Below V.heap.size V W → Calls Try.prog 9 #[.agg #[.int .i64 1, .slice (some ⟨g5, 0, none⟩) 129 c5, .int .u32 65537, .slice none 0 0, .slice none 0 0, .bool false]] W fun e w' => e = .returned (.bool false) ∧ Below W.heap.size W w') := Lib.hid fun W hW => by
    have h := rsaIs_any W (⟨1, some ⟨g5, 0, none⟩, c5, 1 :: (List.replicate 127 0 ++ [1]), 65537, none, 0, [], none, 0, [], false⟩ : Ky) (hof.under hW).at_ hnl
    rw [hno] at h
    exact h
  have HVE : Hid (∀ W, Below V.heap.size V W → ∀ (A2 : Option Addr) (c2 dn : Nat) (d : List Nat) (hd : Rd .u8 W W.heap.size A2 c2 d) (hdn : d.length = dn) (ho : ∀ x ∈ d, x < 256) (A3 : Option Addr) (c3 sn : Nat) (s : List Nat) (hsg : Rd .u8 W W.heap.size A3 c3 s) (hsn : s.length = sn) (ho3 : ∀ x ∈ s, x < 256), Calls Try.prog 11 #[.agg #[.int .i64 1, .slice (some ⟨g5, 0, none⟩) 129 c5, .int .u32 65537, .slice none 0 0, .slice none 0 0, .bool false], .slice A2 dn c2, .slice A3 sn c3] W fun e w' => e = .returned (.bool false) ∧ Below W.heap.size W w') := Lib.hid fun W hW A2 c2 dn d hd hdn ho A3 c3 sn s hsg hsn ho3 => by
    have h := rsaVerify_any W (⟨1, some ⟨g5, 0, none⟩, c5, 1 :: (List.replicate 127 0 ++ [1]), 65537, none, 0, [], none, 0, [], false⟩ : Ky) (hof.under hW).at_ hnl2 ⟨by simp, by simp⟩ A2 c2 dn d hd hdn ho A3 c3 sn s hsg hsn ho3
    rw [ver_no hno] at h
    exact h
  clear hno hof hky hH hB hnl hnl2
  rw [← HW6.out, ← HV.out]
  clear hV hO7 hc6 ho6 j1 k1 y1 hm
  go_wp2_with fail
  refine wp_region_noPanic ?_
  refine wp_region_held_drew (S := (fun W => Below V.heap.size V W)) (by kernel_rfl) (S0.out.drew) (fun hHeld => ?_)
  refine wpAnyH_take (i := 0) (oi := { dst := some 61, op := Op.load 28 (Operand.tmp 3), type := 28, pos := _, after := _, guard := none }) (v := ?_) rfl (by kernel_rfl) (by kernel_rfl) (by kernel_rfl) (fun _ _ _ h => h) (Or.inl ⟨by rfl, ?_⟩) hHeld ?_
  rotate_left 1
  · (intro W hW; have k := HA.out.under hW HA.out.lt; have k0 := k.cell 0; have k1 := k.cell 1; have k2 := k.cell 2; have k3 := k.cell 3; have k4 := k.cell 4; have k5 := k.cell 5; (try dsimp only at hW); go_simp; try with_reducible rfl)
  try simp only [Act.put, List.setIfInBounds_toArray, List.set_cons_zero, List.set_cons_succ]
  refine wpAnyH_ready (rs := [1]) (by kernel_rfl) (by simp) ?_
  refine AllReadyH.cons (o := { dst := some 62, op := Op.call { callee := Callee.value (Operand.func 9), args := #[Operand.tmp 61], argTypes := #[28] }, type := 4, pos := _, after := _, guard := none }) rfl (fun K hK => ?_) AllReadyH.nil
  go_simp
  refine (HIS.out _ S0.out.drew).mono ?_
  rintro e w1c ⟨rfl, hb⟩
  have S1 : Hid ((fun W => Below V.heap.size V W) w1c) := Lib.hid (S0.out.drew.trans (hb.mono S0.out.drew.size))
  clear hb
  go_simp
  refine hK.out _ _ (S1.out) (fun hHeld => ?_)
  clear hK K
  try simp only [Act.put, List.setIfInBounds_toArray, List.set_cons_zero, List.set_cons_succ]
  refine wpAnyH_take (i := 2) (oi := { dst := some 63, op := Op.unOp UnOp.not 4 (Operand.tmp 62), type := 4, pos := _, after := _, guard := none }) (v := ?_) rfl (by kernel_rfl) (by kernel_rfl) (by kernel_rfl) (fun _ _ _ h => h) (Or.inl ⟨by rfl, ?_⟩) hHeld ?_
  rotate_left 1
  · (intro W hW; (try dsimp only at hW); go_simp; try with_reducible rfl)
  try simp only [Act.put, List.setIfInBounds_toArray, List.set_cons_zero, List.set_cons_succ]
  refine wpAnyH_take (i := 3) (oi := { dst := some 64, op := Op.move (Operand.tmp 63), type := 4, pos := _, after := _, guard := none }) (v := ?_) rfl (by kernel_rfl) (by kernel_rfl) (by kernel_rfl) (fun _ _ _ h => h) (Or.inl ⟨by rfl, ?_⟩) hHeld ?_
  rotate_left 1
  · (intro W hW; (try dsimp only at hW); go_simp; try with_reducible rfl)
  try simp only [Act.put, List.setIfInBounds_toArray, List.set_cons_zero, List.set_cons_succ]
  refine wpAnyH_take (i := 4) (oi := { dst := some 65, op := Op.load 28 (Operand.tmp 3), type := 28, pos := _, after := _, guard := some (3, true) }) (v := ?_) rfl (by kernel_rfl) (by kernel_rfl) (by kernel_rfl) (fun _ _ _ h => h) (Or.inl ⟨by rfl, ?_⟩) hHeld ?_
  rotate_left 1
  · (intro W hW; have k := HA.out.under hW HA.out.lt; have k0 := k.cell 0; have k1 := k.cell 1; have k2 := k.cell 2; have k3 := k.cell 3; have k4 := k.cell 4; have k5 := k.cell 5; (try dsimp only at hW); go_simp; try with_reducible rfl)
  try simp only [Act.put, List.setIfInBounds_toArray, List.set_cons_zero, List.set_cons_succ]
  refine wpAnyH_ready (rs := [5, 6]) (by kernel_rfl) (by simp) ?_
  refine AllReadyH.cons (o := { dst := some 66, op := Op.makeSlice 29 (Operand.const (Value.int IntKind.i64 32)) (Operand.const (Value.int IntKind.i64 32)), type := 29, pos := _, after := _, guard := some (3, true) }) rfl (fun K hK => ?_) ?_
  · have hm := make_bytes (32 : Int) 32 rfl (by omega) w1c
    obtain ⟨z5, hz5⟩ : ∃ z, z = List.replicate 32 0 := ⟨_, rfl⟩
    rw [← hz5] at hm
    have HZL5 : Hid (z5.length = 32) := Lib.hid (by rw [hz5]; simp)
    have HZO5 : Hid (∀ x ∈ z5, x < 256) := Lib.hid (by rw [hz5]; exact zeros_oct)
    clear hz5
    go_simp
    obtain ⟨w5, hw5⟩ : ∃ W, W = w1c.alloc (.cells (nums .u8 z5) 5) := ⟨_, rfl⟩
    rw [← hw5]
    have hb5 : Below w1c.heap.size w1c w5 := by rw [hw5]; exact (Below.refl _ _).alloc (Nat.le_refl _) _
    have S5 : Hid ((fun W => Below V.heap.size V W) w5) := Lib.hid (S1.out.trans (hb5.mono S1.out.size))
    have HM5 := Lib.hid (rd_zeros hw5 HZL5.out (by omega))
    have HB5 := Lib.hid hb5
    clear hm hw5 hb5
    refine hK.out _ _ (S5.out) (fun hHeld => ?_)
    clear hK K
    try simp only [Act.put, List.setIfInBounds_toArray, List.set_cons_zero, List.set_cons_succ]
    refine wpAnyH_ready (rs := [6]) (by kernel_rfl) (by simp) ?_
    refine AllReadyH.cons (o := { dst := some 67, op := Op.makeSlice 29 (Operand.const (Value.int IntKind.i64 66)) (Operand.const (Value.int IntKind.i64 66)), type := 29, pos := _, after := _, guard := some (3, true) }) rfl (fun K hK => ?_) AllReadyH.nil
    have hm := make_bytes (66 : Int) 66 rfl (by omega) w5
    obtain ⟨z6, hz6⟩ : ∃ z, z = List.replicate 66 0 := ⟨_, rfl⟩
    rw [← hz6] at hm
    have HZL6 : Hid (z6.length = 66) := Lib.hid (by rw [hz6]; simp)
    have HZO6 : Hid (∀ x ∈ z6, x < 256) := Lib.hid (by rw [hz6]; exact zeros_oct)
    clear hz6
    go_simp
    obtain ⟨w6, hw6⟩ : ∃ W, W = w5.alloc (.cells (nums .u8 z6) 5) := ⟨_, rfl⟩
    rw [← hw6]
    have hb6 : Below w5.heap.size w5 w6 := by rw [hw6]; exact (Below.refl _ _).alloc (Nat.le_refl _) _
    have S6 : Hid ((fun W => Below V.heap.size V W) w6) := Lib.hid (S5.out.trans (hb6.mono S5.out.size))
    have HM6 := Lib.hid (rd_zeros hw6 HZL6.out (by omega))
    have HB6 := Lib.hid hb6
    clear hm hw6 hb6
    have HM5b := Lib.hid (rd_next HM5.out (Nat.le_refl _) HB6.out)
    refine hK.out _ _ (S6.out) (fun hHeld => ?_)
    clear hK K
    try simp only [Act.put, List.setIfInBounds_toArray, List.set_cons_zero, List.set_cons_succ]
    refine wpAnyH_ready (rs := [7]) (by kernel_rfl) (by simp) ?_
    refine AllReadyH.cons (o := { dst := some 68, op := Op.call { callee := Callee.value (Operand.func 11), args := #[Operand.tmp 65, Operand.tmp 66, Operand.tmp 67], argTypes := #[28, 29, 29] }, type := 4, pos := _, after := _, guard := some (3, true) }) rfl (fun K hK => ?_) AllReadyH.nil
    go_simp
    have hve := HVE.out w6 S6.out (some ⟨w1c.heap.size, 0, none⟩) 32 32 z5 HM5b.out HZL5.out HZO5.out (some ⟨w5.heap.size, 0, none⟩) 66 66 z6 HM6.out HZL6.out HZO6.out
    refine (hve).mono ?_
    rintro e w7 ⟨rfl, hb⟩
    have S7 : Hid ((fun W => Below V.heap.size V W) w7) := Lib.hid (S6.out.trans (hb.mono S6.out.size))
    clear hb
    clear hve
    go_simp
    refine hK.out _ _ (S7.out) (fun hHeld => ?_)
    clear hK K
    try simp only [Act.put, List.setIfInBounds_toArray, List.set_cons_zero, List.set_cons_succ]
    refine wpAnyH_take (i := 8) (oi := { dst := some 69, op := Op.unOp UnOp.not 4 (Operand.tmp 68), type := 4, pos := _, after := _, guard := some (3, true) }) (v := ?_) rfl (by kernel_rfl) (by kernel_rfl) (by kernel_rfl) (fun _ _ _ h => h) (Or.inl ⟨by rfl, ?_⟩) hHeld ?_
    rotate_left 1
    · (intro W hW; (try dsimp only at hW); go_simp; try with_reducible rfl)
    try simp only [Act.put, List.setIfInBounds_toArray, List.set_cons_zero, List.set_cons_succ]
    refine wpAnyH_take (i := 9) (oi := { dst := some 70, op := Op.pick (Operand.tmp 64) (Operand.tmp 69) (Operand.const (Value.bool false)), type := 4, pos := _, after := _, guard := none }) (v := ?_) rfl (by kernel_rfl) (by kernel_rfl) (by kernel_rfl) (fun _ _ _ h => h) (Or.inl ⟨by rfl, ?_⟩) hHeld ?_
    rotate_left 1
    · (intro W hW; (try dsimp only at hW); go_simp; try with_reducible rfl)
    try simp only [Act.put, List.setIfInBounds_toArray, List.set_cons_zero, List.set_cons_succ]
    refine wpAnyH_take (i := 10) (oi := { dst := some 71, op := Op.move (Operand.tmp 70), type := 4, pos := _, after := _, guard := none }) (v := ?_) rfl (by kernel_rfl) (by kernel_rfl) (by kernel_rfl) (fun _ _ _ h => h) (Or.inl ⟨by rfl, ?_⟩) hHeld ?_
    rotate_left 1
    · (intro W hW; (try dsimp only at hW); go_simp; try with_reducible rfl)
    try simp only [Act.put, List.setIfInBounds_toArray, List.set_cons_zero, List.set_cons_succ]
    refine wpAnyH_ready (rs := [11]) (by kernel_rfl) (by simp) ?_
    refine AllReadyH.cons (o := { dst := some 72, op := Op.call { callee := Callee.value (Operand.func 13), args := #[], argTypes := #[] }, type := 4, pos := _, after := _, guard := some (10, true) }) rfl (fun K hK => ?_) AllReadyH.nil
    go_simp
    refine (known9_any w7).mono ?_
    rintro e w11 ⟨rfl, hb⟩
    have S11 : Hid ((fun W => Below V.heap.size V W) w11) := Lib.hid (S7.out.trans (hb.mono S7.out.size))
    clear hb
    go_simp
    refine hK.out _ _ (S11.out) (fun hHeld => ?_)
    clear hK K
    try simp only [Act.put, List.setIfInBounds_toArray, List.set_cons_zero, List.set_cons_succ]
    refine wpAnyH_take (i := 12) (oi := { dst := some 73, op := Op.pick (Operand.tmp 71) (Operand.tmp 72) (Operand.const (Value.bool false)), type := 4, pos := _, after := _, guard := none }) (v := ?_) rfl (by kernel_rfl) (by kernel_rfl) (by kernel_rfl) (fun _ _ _ h => h) (Or.inl ⟨by rfl, ?_⟩) hHeld ?_
    rotate_left 1
    · (intro W hW; (try dsimp only at hW); go_simp; try with_reducible rfl)
    try simp only [Act.put, List.setIfInBounds_toArray, List.set_cons_zero, List.set_cons_succ]
    refine wpAnyH_take (i := 13) (oi := { dst := some 2, op := Op.assign (Operand.tmp 73), type := 4, pos := _, after := _, guard := none }) (v := ?_) rfl (by kernel_rfl) (by kernel_rfl) (by kernel_rfl) (fun _ _ _ h => h) (Or.inl ⟨by rfl, ?_⟩) hHeld ?_
    rotate_left 1
    · (intro W hW; (try dsimp only at hW); go_simp; try with_reducible rfl)
    try simp only [Act.put, List.setIfInBounds_toArray, List.set_cons_zero, List.set_cons_succ]
    refine wpAnyH_done (by kernel_rfl) ?_ _
    refine NoPanic.normal ?_
    go_wp2_with fail
    go_ret
    exact ⟨rfl, HQ.out.trans (S11.out.mono HQ.out.size)⟩
  refine AllReadyH.cons (o := { dst := some 67, op := Op.makeSlice 29 (Operand.const (Value.int IntKind.i64 66)) (Operand.const (Value.int IntKind.i64 66)), type := 29, pos := _, after := _, guard := some (3, true) }) rfl (fun K hK => ?_) AllReadyH.nil
  have hm := make_bytes (66 : Int) 66 rfl (by omega) w1c
  obtain ⟨z6, hz6⟩ : ∃ z, z = List.replicate 66 0 := ⟨_, rfl⟩
  rw [← hz6] at hm
  have HZL6 : Hid (z6.length = 66) := Lib.hid (by rw [hz6]; simp)
  have HZO6 : Hid (∀ x ∈ z6, x < 256) := Lib.hid (by rw [hz6]; exact zeros_oct)
  clear hz6
  go_simp
  obtain ⟨w6, hw6⟩ : ∃ W, W = w1c.alloc (.cells (nums .u8 z6) 5) := ⟨_, rfl⟩
  rw [← hw6]
  have hb6 : Below w1c.heap.size w1c w6 := by rw [hw6]; exact (Below.refl _ _).alloc (Nat.le_refl _) _
  have S6 : Hid ((fun W => Below V.heap.size V W) w6) := Lib.hid (S1.out.trans (hb6.mono S1.out.size))
  have HM6 := Lib.hid (rd_zeros hw6 HZL6.out (by omega))
  have HB6 := Lib.hid hb6
  clear hm hw6 hb6
  refine hK.out _ _ (S6.out) (fun hHeld => ?_)
  clear hK K
  try simp only [Act.put, List.setIfInBounds_toArray, List.set_cons_zero, List.set_cons_succ]
  refine wpAnyH_ready (rs := [5]) (by kernel_rfl) (by simp) ?_
  refine AllReadyH.cons (o := { dst := some 66, op := Op.makeSlice 29 (Operand.const (Value.int IntKind.i64 32)) (Operand.const (Value.int IntKind.i64 32)), type := 29, pos := _, after := _, guard := some (3, true) }) rfl (fun K hK => ?_) AllReadyH.nil
  have hm := make_bytes (32 : Int) 32 rfl (by omega) w6
  obtain ⟨z5, hz5⟩ : ∃ z, z = List.replicate 32 0 := ⟨_, rfl⟩
  rw [← hz5] at hm
  have HZL5 : Hid (z5.length = 32) := Lib.hid (by rw [hz5]; simp)
  have HZO5 : Hid (∀ x ∈ z5, x < 256) := Lib.hid (by rw [hz5]; exact zeros_oct)
  clear hz5
  go_simp
  obtain ⟨w5, hw5⟩ : ∃ W, W = w6.alloc (.cells (nums .u8 z5) 5) := ⟨_, rfl⟩
  rw [← hw5]
  have hb5 : Below w6.heap.size w6 w5 := by rw [hw5]; exact (Below.refl _ _).alloc (Nat.le_refl _) _
  have S5 : Hid ((fun W => Below V.heap.size V W) w5) := Lib.hid (S6.out.trans (hb5.mono S6.out.size))
  have HM5 := Lib.hid (rd_zeros hw5 HZL5.out (by omega))
  have HB5 := Lib.hid hb5
  clear hm hw5 hb5
  have HM6b := Lib.hid (rd_next HM6.out (Nat.le_refl _) HB5.out)
  refine hK.out _ _ (S5.out) (fun hHeld => ?_)
  clear hK K
  try simp only [Act.put, List.setIfInBounds_toArray, List.set_cons_zero, List.set_cons_succ]
  refine wpAnyH_ready (rs := [7]) (by kernel_rfl) (by simp) ?_
  refine AllReadyH.cons (o := { dst := some 68, op := Op.call { callee := Callee.value (Operand.func 11), args := #[Operand.tmp 65, Operand.tmp 66, Operand.tmp 67], argTypes := #[28, 29, 29] }, type := 4, pos := _, after := _, guard := some (3, true) }) rfl (fun K hK => ?_) AllReadyH.nil
  go_simp
  have hve := HVE.out w5 S5.out (some ⟨w6.heap.size, 0, none⟩) 32 32 z5 HM5.out HZL5.out HZO5.out (some ⟨w1c.heap.size, 0, none⟩) 66 66 z6 HM6b.out HZL6.out HZO6.out
  refine (hve).mono ?_
  rintro e w7 ⟨rfl, hb⟩
  have S7 : Hid ((fun W => Below V.heap.size V W) w7) := Lib.hid (S5.out.trans (hb.mono S5.out.size))
  clear hb
  clear hve
  go_simp
  refine hK.out _ _ (S7.out) (fun hHeld => ?_)
  clear hK K
  try simp only [Act.put, List.setIfInBounds_toArray, List.set_cons_zero, List.set_cons_succ]
  refine wpAnyH_take (i := 8) (oi := { dst := some 69, op := Op.unOp UnOp.not 4 (Operand.tmp 68), type := 4, pos := _, after := _, guard := some (3, true) }) (v := ?_) rfl (by kernel_rfl) (by kernel_rfl) (by kernel_rfl) (fun _ _ _ h => h) (Or.inl ⟨by rfl, ?_⟩) hHeld ?_
  rotate_left 1
  · (intro W hW; (try dsimp only at hW); go_simp; try with_reducible rfl)
  try simp only [Act.put, List.setIfInBounds_toArray, List.set_cons_zero, List.set_cons_succ]
  refine wpAnyH_take (i := 9) (oi := { dst := some 70, op := Op.pick (Operand.tmp 64) (Operand.tmp 69) (Operand.const (Value.bool false)), type := 4, pos := _, after := _, guard := none }) (v := ?_) rfl (by kernel_rfl) (by kernel_rfl) (by kernel_rfl) (fun _ _ _ h => h) (Or.inl ⟨by rfl, ?_⟩) hHeld ?_
  rotate_left 1
  · (intro W hW; (try dsimp only at hW); go_simp; try with_reducible rfl)
  try simp only [Act.put, List.setIfInBounds_toArray, List.set_cons_zero, List.set_cons_succ]
  refine wpAnyH_take (i := 10) (oi := { dst := some 71, op := Op.move (Operand.tmp 70), type := 4, pos := _, after := _, guard := none }) (v := ?_) rfl (by kernel_rfl) (by kernel_rfl) (by kernel_rfl) (fun _ _ _ h => h) (Or.inl ⟨by rfl, ?_⟩) hHeld ?_
  rotate_left 1
  · (intro W hW; (try dsimp only at hW); go_simp; try with_reducible rfl)
  try simp only [Act.put, List.setIfInBounds_toArray, List.set_cons_zero, List.set_cons_succ]
  refine wpAnyH_ready (rs := [11]) (by kernel_rfl) (by simp) ?_
  refine AllReadyH.cons (o := { dst := some 72, op := Op.call { callee := Callee.value (Operand.func 13), args := #[], argTypes := #[] }, type := 4, pos := _, after := _, guard := some (10, true) }) rfl (fun K hK => ?_) AllReadyH.nil
  go_simp
  refine (known9_any w7).mono ?_
  rintro e w11 ⟨rfl, hb⟩
  have S11 : Hid ((fun W => Below V.heap.size V W) w11) := Lib.hid (S7.out.trans (hb.mono S7.out.size))
  clear hb
  go_simp
  refine hK.out _ _ (S11.out) (fun hHeld => ?_)
  clear hK K
  try simp only [Act.put, List.setIfInBounds_toArray, List.set_cons_zero, List.set_cons_succ]
  refine wpAnyH_take (i := 12) (oi := { dst := some 73, op := Op.pick (Operand.tmp 71) (Operand.tmp 72) (Operand.const (Value.bool false)), type := 4, pos := _, after := _, guard := none }) (v := ?_) rfl (by kernel_rfl) (by kernel_rfl) (by kernel_rfl) (fun _ _ _ h => h) (Or.inl ⟨by rfl, ?_⟩) hHeld ?_
  rotate_left 1
  · (intro W hW; (try dsimp only at hW); go_simp; try with_reducible rfl)
  try simp only [Act.put, List.setIfInBounds_toArray, List.set_cons_zero, List.set_cons_succ]
  refine wpAnyH_take (i := 13) (oi := { dst := some 2, op := Op.assign (Operand.tmp 73), type := 4, pos := _, after := _, guard := none }) (v := ?_) rfl (by kernel_rfl) (by kernel_rfl) (by kernel_rfl) (fun _ _ _ h => h) (Or.inl ⟨by rfl, ?_⟩) hHeld ?_
  rotate_left 1
  · (intro W hW; (try dsimp only at hW); go_simp; try with_reducible rfl)
  try simp only [Act.put, List.setIfInBounds_toArray, List.set_cons_zero, List.set_cons_succ]
  refine wpAnyH_done (by kernel_rfl) ?_ _
  refine NoPanic.normal ?_
  go_wp2_with fail
  go_ret
  exact ⟨rfl, HQ.out.trans (S11.out.mono HQ.out.size)⟩
set_option maxRecDepth 100000 in
set_option maxHeartbeats 4000000 in
theorem keys_rest_prime_even (w : World) (x : Int) (hx : (bits .and .i64 x 1 == 1) = false) (hne : x < 0 ∨ 8 < x) : Calls Try.prog 6 #[.int .i64 x] w fun e w' => e = .returned (.bool true) ∧ Below w.heap.size w w' := by
  have HP := Lib.hid (prime_even w x hx)
  have t0 : (x == 0) = false := by rw [beq_eq_false_iff_ne]; omega
  have t1 : (x == 1) = false := by rw [beq_eq_false_iff_ne]; omega
  have t2 : (x == 2) = false := by rw [beq_eq_false_iff_ne]; omega
  have t3 : (x == 3) = false := by rw [beq_eq_false_iff_ne]; omega
  have t4 : (x == 4) = false := by rw [beq_eq_false_iff_ne]; omega
  have t5 : (x == 5) = false := by rw [beq_eq_false_iff_ne]; omega
  have t6 : (x == 6) = false := by rw [beq_eq_false_iff_ne]; omega
  have t7 : (x == 7) = false := by rw [beq_eq_false_iff_ne]; omega
  have t8 : (x == 8) = false := by rw [beq_eq_false_iff_ne]; omega
  clear hx hne
  go_enter Try.func6, Try.ntmps6
  go_wp2_with fail
  refine HP.out.mono ?_
  rintro e w1 ⟨g, n, A, c, r, D, rfl, hl, hg, hR, hn, hr, hD, hB1⟩
  have HB := Lib.hid (hB1.trans (((Below.refl _ _).alloc (Nat.le_refl _) (.cells #[.int .i64 1, .slice (some ⟨g, 0, none⟩) pl521.length pl521.length, .int .u32 65537, .slice none 0 0, .slice none 0 0, .bool false] 28)).mono hB1.size))
  clear HP hn hr hD hl hg hR hB1
  go_wp2_with fail
  go_ret
  exact ⟨rfl, HB.out⟩
set_option maxRecDepth 100000 in
set_option maxHeartbeats 4000000 in
theorem keys_rest_prime_odd (w : World) (x : Int) (hx : (bits .and .i64 x 1 == 1) = true) (hne : x < 0 ∨ 8 < x) : Calls Try.prog 6 #[.int .i64 x] w fun e w' => e = .returned (.bool true) ∧ Below w.heap.size w w' := by
  have HP := Lib.hid (prime_odd w x hx)
  have t0 : (x == 0) = false := by rw [beq_eq_false_iff_ne]; omega
  have t1 : (x == 1) = false := by rw [beq_eq_false_iff_ne]; omega
  have t2 : (x == 2) = false := by rw [beq_eq_false_iff_ne]; omega
  have t3 : (x == 3) = false := by rw [beq_eq_false_iff_ne]; omega
  have t4 : (x == 4) = false := by rw [beq_eq_false_iff_ne]; omega
  have t5 : (x == 5) = false := by rw [beq_eq_false_iff_ne]; omega
  have t6 : (x == 6) = false := by rw [beq_eq_false_iff_ne]; omega
  have t7 : (x == 7) = false := by rw [beq_eq_false_iff_ne]; omega
  have t8 : (x == 8) = false := by rw [beq_eq_false_iff_ne]; omega
  clear hx hne
  go_enter Try.func6, Try.ntmps6
  go_wp2_with fail
  refine HP.out.mono ?_
  rintro e w1 ⟨g, n, A, c, r, D, rfl, hl, hg, hR, hn, hr, hD, hB1⟩
  have HB := Lib.hid (hB1.trans (((Below.refl _ _).alloc (Nat.le_refl _) (.cells #[.int .i64 1, .slice (some ⟨g, 0, none⟩) pl607.length pl607.length, .int .u32 65537, .slice none 0 0, .slice none 0 0, .bool false] 28)).mono hB1.size))
  clear HP hn hr hD hl hg hR hB1
  go_wp2_with fail
  go_ret
  exact ⟨rfl, HB.out⟩
theorem law_rsaKeys (w : World) (x : Int) : Calls Try.prog 6 #[.int .i64 x] w fun e w' => e = .returned (.bool true) ∧ Below w.heap.size w w' := by
  by_cases h : x < 0 ∨ 8 < x
  · rcases hx : (bits .and .i64 x 1 == 1) with _ | _
    · exact keys_rest_prime_even w x hx h
    · exact keys_rest_prime_odd w x hx h
  · obtain rfl | rfl | rfl | rfl | rfl | rfl | rfl | rfl | rfl : x = 0 ∨ x = 1 ∨ x = 2 ∨ x = 3 ∨ x = 4 ∨ x = 5 ∨ x = 6 ∨ x = 7 ∨ x = 8 := by omega
    · exact keys_0 w
    · exact keys_1 w
    · exact keys_2 w
    · exact keys_3 w
    · exact keys_4 w
    · exact keys_5 w
    · exact keys_6 w
    · exact keys_7 w
    · exact keys_8 w
end Go.Proofs.Ytebhpjbjfbadjaa
