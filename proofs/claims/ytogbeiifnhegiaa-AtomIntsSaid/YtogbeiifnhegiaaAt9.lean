/-
  The law of numbers: AtomInts.
-/
import Derived.Test.YtogbeiifnhegiaaAt8
import Derived.Test.YtogbeiifnhegiaaRows
namespace Go.Proofs.Ytogbeiifnhegiaa
open Go.RowKit
set_option linter.unusedVariables false
set_option linter.unusedSimpArgs false
attribute [local go_sem ↓] Go.wp_at_zero Go.wp_at_succ

theorem prim_rd {w : World} {B tag n c : Nat} {A : Option Addr} {b : List Nat} (h : PrimAt (.agg #[.int .u8 (tag : Int), .slice A n c, .slice none 0 0]) w B tag b) : Rd .u8 w w.heap.size A c b := by
  obtain ⟨A', c', e, hr, _⟩ := h
  injection e with e
  simp only [Array.mk.injEq, List.cons.injEq, Value.slice.injEq, and_true, true_and] at e
  obtain ⟨rfl, _, rfl⟩ := e
  exact hr
theorem wpAnyH_strong {P : Program} {md : Region.Mode} {ops : Array Oper} {Q : Exit → Act → World → Prop} {S S' : World → Prop} (hS : ∀ w, S' w → S w) : ∀ (fuel : Nat) (listed : Array Bool) (a : Act) (w : World), wpAnyH P md ops Q S' fuel listed a w → wpAnyH P md ops Q S fuel listed a w
  | 0, _, _, _, h => h
  | fuel + 1, _, _, _, h => ⟨h.1, fun i hi => wpOp_mono (fun a' w' h' => ⟨hS w' h'.1, wpAnyH_strong hS fuel _ a' w' h'.2⟩) (h.2 i hi)⟩
set_option maxRecDepth 100000 in
set_option maxHeartbeats 8000000 in
theorem law_ints (w : World) (A : Option Addr) (n c : Nat) (l : List Nat) (hn : l.length = n) (hr : Rd .u32 w w.heap.size A c l) (hd : Dg l) (v : Nat) (hv : v < 18446744073709551616) (most : Int) :
    Calls Try.prog 3 #[.slice A n c, .int .u64 (v : Int), .int .i64 most] w fun e w' => e = .returned (.bool true) ∧ Below w.heap.size w w' := by
  have HIS := Lib.hid (fun b hb => is'_at w _ A c n l hr hn b hb)
  rcases hok : okN l with _ | _
  · go_enter Try.func3, Try.ntmps3
    go_wp2_with fail
    refine (HIS.out false hok).mono ?_
    rintro e w2 ⟨rfl, rfl⟩
    go_wp2_with fail
    go_ret
    exact ⟨rfl, Below.refl _ _⟩
  have HK := Lib.hid (HIS.out true hok)
  obtain ⟨hg1, hg2⟩ := read_int hd hok most
  have h256 := (okN_iff.1 hok).1
  have hfit := int_fits hd (okN_iff.1 hok).2 h256
  have HI := Lib.hid (int_any w _ A c n l hr hn (Nat.le_refl _) hd hok)
  have HI' : Hid (∀ W, Below w.heap.size w W → Calls Try.prog 8 #[.slice A n c] W fun e w' => ∃ v, e = .returned v ∧ PrimAt v w' W.heap.size 2 (intB l) ∧ Below W.heap.size W w') := Lib.hid fun W hW => int'_any W _ A c n l (hr.under hW) hn hW.size hd hok
  obtain ⟨o, ho⟩ : ∃ o, o = (if ((nb l / 8 + 1 : Nat) : Int) ≤ most then some l else none) := ⟨_, rfl⟩
  rw [← ho] at hg1 hg2
  obtain ⟨m, hm⟩ : ∃ m, m = (intB l).length := ⟨_, rfl⟩
  have hmf : m ≤ 1025 := by rw [hm, intB_length]; exact hfit
  have HL : Hid ((intB l).length = m) := Lib.hid hm.symm
  have hg1' : (if heldOk 2 0 2 = true then gi (intB l) most else none) = o := by rw [if_pos (by rfl), hg1]
  have hg2' : (if heldOk 2 0 2 = true then gi' (intB l) most else none) = o := by rw [if_pos (by rfl), hg2]
  have HGI : Hid (∀ (W : World) (A2 : Option Addr) (c2 B : Nat), Rd .u8 W B A2 c2 (intB l) → B ≤ W.heap.size → Calls Try.prog 6 #[.agg #[.int .u8 2, .slice A2 m c2, .slice none 0 0], .int .i64 most] W fun e w' => ∃ A c, e = .returned (.tuple #[.slice A (o.getD []).length c, .bool o.isSome]) ∧ Rd .u32 w' w'.heap.size A c (o.getD []) ∧ Below W.heap.size W w') := Lib.hid fun W A2 c2 B h1 h2 => by
    have h := getInt_any W 2 m c2 0 0 B A2 none (intB l) most h1 HL.out h2 (intB_oct l)
    rw [hg1'] at h
    exact h.mono fun _ _ hh => getIntPost_one hh
  have HGI' : Hid (∀ (W : World) (A2 : Option Addr) (c2 B : Nat), Rd .u8 W B A2 c2 (intB l) → B ≤ W.heap.size → Calls Try.prog 7 #[.agg #[.int .u8 2, .slice A2 m c2, .slice none 0 0], .int .i64 most] W fun e w' => ∃ A c, e = .returned (.tuple #[.slice A (o.getD []).length c, .bool o.isSome]) ∧ Rd .u32 w' w'.heap.size A c (o.getD []) ∧ Below W.heap.size W w') := Lib.hid fun W A2 c2 B h1 h2 => by
    have h := getInt'_any W 2 m c2 0 0 B A2 none (intB l) most h1 HL.out h2 (intB_oct l) (by omega)
    rw [hg2'] at h
    exact h.mono fun _ _ hh => getIntPost_one hh
  obtain ⟨L, hL⟩ : ∃ L, L = o.getD [] := ⟨_, rfl⟩
  obtain ⟨ok, hokb⟩ : ∃ b, b = o.isSome := ⟨_, rfl⟩
  rw [← hL, ← hokb] at HGI HGI'
  obtain ⟨kL, hkL⟩ : ∃ k, k = L.length := ⟨_, rfl⟩
  have HKL : Hid (L.length = kL) := Lib.hid hkL.symm
  rw [← hkL] at HGI HGI'
  have HS := Lib.hid (small_back hv)
  clear hg1 hg2 hg1' hg2' hL hokb hkL hm ho hok hfit h256 hn hr hd HIS
  go_enter Try.func3, Try.ntmps3
  go_wp2_with fail
  refine HK.out.mono ?_
  rintro e w0 ⟨rfl, rfl⟩
  go_wp2_with fail
  refine HI.out.mono ?_
  rintro e w1 ⟨v1, rfl, hp1, hb1⟩
  have HP1 := Lib.hid hp1
  obtain ⟨A1, c1, rfl, _⟩ := hp1
  rw [HL.out] at HP1 ⊢
  have HQ1 := Lib.hid hb1
  have hq := (Below.refl w1.heap.size w1).alloc (Nat.le_refl _) (.cells #[.int .u8 2, .slice A1 m c1, .slice none 0 0] 29)
  have HQ2 : Hid (Below w.heap.size w (w1.alloc (.cells #[.int .u8 2, .slice A1 m c1, .slice none 0 0] 29))) := Lib.hid (hb1.trans (hq.mono hb1.size))
  have hh := Holds.fresh w1 29 #[.int .u8 2, .slice A1 m c1, .slice none 0 0]
  have HP2 : Hid (PrimAt (.agg #[.int .u8 ((2 : Nat) : Int), .slice A1 m c1, .slice none 0 0]) (w1.alloc (.cells #[.int .u8 2, .slice A1 m c1, .slice none 0 0] 29)) w.heap.size 2 (intB l)) := Lib.hid (HP1.out.under hq)
  have HG1 := Lib.hid (HGI.out (w1.alloc (.cells #[.int .u8 2, .slice A1 m c1, .slice none 0 0] 29)) A1 c1 _ (prim_rd HP2.out) (Nat.le_refl _))
  have a0 := hh.cell 0
  have a1 := hh.cell 1
  have a2 := hh.cell 2
  have HZ : Hid (∀ W, Below (w1.alloc (.cells #[.int .u8 2, .slice A1 m c1, .slice none 0 0] 29)).heap.size (w1.alloc (.cells #[.int .u8 2, .slice A1 m c1, .slice none 0 0] 29)) W → W.cell? ⟨w1.heap.size, 0, none⟩ = some (.int .u8 2) ∧ W.cell? ⟨w1.heap.size, 1, none⟩ = some (.slice A1 m c1) ∧ W.cell? ⟨w1.heap.size, 2, none⟩ = some (.slice none 0 0)) := Lib.hid fun W hW => by
    have h := hh.under hW hh.lt
    exact ⟨h.cell 0, h.cell 1, h.cell 2⟩
  have HP : Hid (∀ W, Below (w1.alloc (.cells #[.int .u8 2, .slice A1 m c1, .slice none 0 0] 29)).heap.size (w1.alloc (.cells #[.int .u8 2, .slice A1 m c1, .slice none 0 0] 29)) W → PrimAt (.agg #[.int .u8 ((2 : Nat) : Int), .slice A1 m c1, .slice none 0 0]) W w.heap.size 2 (intB l)) := Lib.hid fun W hW => HP2.out.under hW
  clear hb1 hq hh HK HI HP1
  go_wp2_with fail
  refine HG1.out.mono ?_
  rintro e w3 ⟨A3, c3, rfl, hr3, hb3⟩
  have H3 : Hid (Below (w1.alloc (.cells #[.int .u8 2, .slice A1 m c1, .slice none 0 0] 29)).heap.size (w1.alloc (.cells #[.int .u8 2, .slice A1 m c1, .slice none 0 0] 29)) w3) := Lib.hid hb3
  have HR3 : Hid (∀ W, Below w3.heap.size w3 W → Rd .u32 W w3.heap.size A3 c3 L) := Lib.hid fun W hW => hr3.under hW
  clear hb3 hr3 HG1 a0 a1 a2
  go_wp2_with fail
  refine (HI'.out w3 (HQ2.out.trans (H3.out.mono HQ2.out.size))).mono ?_
  rintro e w4 ⟨v4, rfl, hp4, hb4⟩
  have HP4 := Lib.hid hp4
  obtain ⟨A4, c4, rfl, _⟩ := hp4
  rw [HL.out] at HP4 ⊢
  have H4 := Lib.hid (H3.out.trans (hb4.mono H3.out.size))
  have HG2 := Lib.hid (HGI'.out w4 A4 c4 _ (prim_rd HP4.out) (Nat.le_refl _))
  have b4 := Lib.hid hb4
  clear hb4
  go_wp2_with fail
  refine HG2.out.mono ?_
  rintro e w5 ⟨A5, c5, rfl, hr5, hb5⟩
  have H5 := Lib.hid (H4.out.trans (hb5.mono H4.out.size))
  have HR5 : Hid (∀ W, Below w5.heap.size w5 W → Rd .u32 W w5.heap.size A5 c5 L) := Lib.hid fun W hW => hr5.under hW
  have b5 := Lib.hid (b4.out.trans (hb5.mono b4.out.size))
  have hsm := small_any w5 v hv
  clear hb5 hr5 HG2
  go_wp2_with fail
  refine hsm.mono ?_
  rintro e w6 ⟨v6, rfl, hp6, hb6⟩
  have HP6 := Lib.hid hp6
  obtain ⟨A6, c6, rfl, _⟩ := hp6
  have H6 := Lib.hid (H5.out.trans (hb6.mono H5.out.size))
  have b6 := Lib.hid hb6
  have hgs := getSmall_any w6 2 _ c6 0 0 _ A6 none (intB (dg2 v)) (prim_rd HP6.out) rfl (Nat.le_refl _) (intB_oct _)
  rw [HS.out] at hgs
  have HGS := Lib.hid hgs
  clear hb6 hgs
  go_wp2_with fail
  refine HGS.out.mono ?_
  rintro e w7 ⟨rfl, hb7⟩
  have H7 := Lib.hid (H6.out.trans (hb7.mono H6.out.size))
  have b7 := Lib.hid (b6.out.trans (hb7.mono b6.out.size))
  have HR5' : Hid (∀ W, Below w7.heap.size w7 W → Rd .u32 W w5.heap.size A5 c5 L) := Lib.hid fun W hW => HR5.out W (b7.out.trans (hW.mono b7.out.size))
  have HR3' : Hid (∀ W, Below w7.heap.size w7 W → Rd .u32 W w3.heap.size A3 c3 L) := Lib.hid fun W hW => HR3.out W ((b5.out.trans (b7.out.mono b5.out.size)).trans (hW.mono (b5.out.trans (b7.out.mono b5.out.size)).size))
  clear hb7 HGS hsm HP4 HP6 HR3 HR5
  go_wp2_with fail
  cases ok
  all_goals
    refine wp_region_noPanic ?_
    refine wp_region_held_drew (S := fun W => Below w7.heap.size w7 W) (by kernel_rfl) (Below.refl _ w7).drew (fun hHeld => ?_)
    refine wpAnyH_take (i := 0) (oi := { dst := some 38, op := Op.load 29 (Operand.tmp 7), type := 29, pos := _, after := _, guard := none }) (v := ?_) rfl (by kernel_rfl) (by kernel_rfl) (by kernel_rfl) (fun _ _ _ h => h) (Or.inl ⟨by rfl, ?_⟩) hHeld ?_
    rotate_left 1
    · (intro W hW; obtain ⟨k0, k1, k2⟩ := HZ.out W (H7.out.trans (hW.mono H7.out.size)); (try dsimp only at hW); go_simp; try with_reducible rfl)
    try simp only [Act.put, List.setIfInBounds_toArray, List.set_cons_zero, List.set_cons_succ]
    refine wpAnyH_take (i := 1) (oi := { dst := some 39, op := Op.move (Operand.tmp 0), type := 23, pos := _, after := _, guard := none }) (v := ?_) rfl (by kernel_rfl) (by kernel_rfl) (by kernel_rfl) (fun _ _ _ h => h) (Or.inl ⟨by rfl, ?_⟩) hHeld ?_
    rotate_left 1
    · (intro W hW; (try dsimp only at hW); go_simp; try with_reducible rfl)
    try simp only [Act.put, List.setIfInBounds_toArray, List.set_cons_zero, List.set_cons_succ]
    refine wpAnyH_ready (rs := [2]) (by kernel_rfl) (by simp) ?_
    refine AllReadyH.cons (o := { dst := some 40, op := Op.call { callee := Callee.value (Operand.func 8), args := #[Operand.tmp 39], argTypes := #[23] }, type := 29, pos := _, after := _, guard := none }) rfl (fun K hK => ?_) AllReadyH.nil
    go_simp
    refine (HI'.out _ (HQ2.out.trans ((H7.out.trans ((Below.refl _ w7).drew.mono H7.out.size)).mono HQ2.out.size))).mono ?_
    rintro e w8 ⟨v8, rfl, hp8, hb8⟩
    have b8 : Hid (Below w7.heap.size w7 w8) := Lib.hid ((Below.refl _ w7).drew.trans hb8)
    have H8 := Lib.hid (H7.out.trans (b8.out.mono H7.out.size))
    have P8 := Lib.hid hp8
    obtain ⟨A8, c8, rfl, _⟩ := hp8
    rw [HL.out] at P8 ⊢
    clear hb8
    go_simp
    refine hK.out _ _ (b8.out) (fun _ => ?_)
    clear hK K hHeld
    try simp only [Act.put, List.setIfInBounds_toArray, List.set_cons_zero, List.set_cons_succ]
    refine wpAnyH_strong (S' := fun W => Below w8.heap.size w8 W) (fun W hW => b8.out.trans (hW.mono b8.out.size)) _ _ _ _ ?_
    have hHeld : (fun W => Below w8.heap.size w8 W) w8 := Below.refl _ _
    refine wpAnyH_ready (rs := [3]) (by kernel_rfl) (by simp) ?_
    refine AllReadyH.cons (o := { dst := some 41, op := Op.call { callee := Callee.value (Operand.func 11), args := #[Operand.tmp 38, Operand.tmp 40], argTypes := #[29, 29] }, type := 4, pos := _, after := _, guard := none }) rfl (fun K hK => ?_) AllReadyH.nil
    go_simp
    refine (same_prim w8 A1 A8 m c1 c8 2 _ _ _ (HP.out _ H8.out) P8.out).mono ?_
    rintro e w9 ⟨rfl, hb9⟩
    have b9 : Hid (Below w8.heap.size w8 w9) := Lib.hid (hb9)
    have H9 := Lib.hid (H8.out.trans (b9.out.mono H8.out.size))

    clear hb9
    go_simp
    refine hK.out _ _ (b9.out) (fun _ => ?_)
    clear hK K hHeld
    try simp only [Act.put, List.setIfInBounds_toArray, List.set_cons_zero, List.set_cons_succ]
    refine wpAnyH_strong (S' := fun W => Below w9.heap.size w9 W) (fun W hW => b9.out.trans (hW.mono b9.out.size)) _ _ _ _ ?_
    have hHeld : (fun W => Below w9.heap.size w9 W) w9 := Below.refl _ _
    refine wpAnyH_take (i := 4) (oi := { dst := some 42, op := Op.move (Operand.tmp 41), type := 4, pos := _, after := _, guard := none }) (v := ?_) rfl (by kernel_rfl) (by kernel_rfl) (by kernel_rfl) (fun _ _ _ h => h) (Or.inl ⟨by rfl, ?_⟩) hHeld ?_
    rotate_left 1
    · (intro W hW; (try dsimp only at hW); go_simp; try with_reducible rfl)
    try simp only [Act.put, List.setIfInBounds_toArray, List.set_cons_zero, List.set_cons_succ]
    refine wpAnyH_take (i := 5) (oi := { dst := some 43, op := Op.move (Operand.tmp 8), type := 23, pos := _, after := _, guard := some (4, true) }) (v := ?_) rfl (by kernel_rfl) (by kernel_rfl) (by kernel_rfl) (fun _ _ _ h => h) (Or.inl ⟨by rfl, ?_⟩) hHeld ?_
    rotate_left 1
    · (intro W hW; (try dsimp only at hW); go_simp; try with_reducible rfl)
    try simp only [Act.put, List.setIfInBounds_toArray, List.set_cons_zero, List.set_cons_succ]
    refine wpAnyH_take (i := 6) (oi := { dst := some 44, op := Op.move (Operand.tmp 10), type := 23, pos := _, after := _, guard := some (4, true) }) (v := ?_) rfl (by kernel_rfl) (by kernel_rfl) (by kernel_rfl) (fun _ _ _ h => h) (Or.inl ⟨by rfl, ?_⟩) hHeld ?_
    rotate_left 1
    · (intro W hW; (try dsimp only at hW); go_simp; try with_reducible rfl)
    try simp only [Act.put, List.setIfInBounds_toArray, List.set_cons_zero, List.set_cons_succ]
    refine wpAnyH_ready (rs := [7]) (by kernel_rfl) (by simp) ?_
    refine AllReadyH.cons (o := { dst := some 45, op := Op.call { callee := Callee.value (Operand.func 12), args := #[Operand.tmp 43, Operand.tmp 44], argTypes := #[23, 23] }, type := 4, pos := _, after := _, guard := some (4, true) }) rfl (fun K hK => ?_) AllReadyH.nil
    go_simp
    refine (same_at w9 _ _ A3 A5 c3 c5 kL L HKL.out (HR3'.out _ (b8.out.trans (b9.out.mono b8.out.size))) (HR5'.out _ (b8.out.trans (b9.out.mono b8.out.size)))).mono ?_
    rintro e w10 ⟨rfl, hb10⟩
    have b10 : Hid (Below w9.heap.size w9 w10) := Lib.hid (hb10)
    have H10 := Lib.hid (H9.out.trans (b10.out.mono H9.out.size))

    clear hb10
    go_simp
    refine hK.out _ _ (b10.out) (fun _ => ?_)
    clear hK K hHeld
    try simp only [Act.put, List.setIfInBounds_toArray, List.set_cons_zero, List.set_cons_succ]
    refine wpAnyH_strong (S' := fun W => Below w10.heap.size w10 W) (fun W hW => b10.out.trans (hW.mono b10.out.size)) _ _ _ _ ?_
    have hHeld : (fun W => Below w10.heap.size w10 W) w10 := Below.refl _ _
    refine wpAnyH_take (i := 8) (oi := { dst := some 46, op := Op.pick (Operand.tmp 42) (Operand.tmp 45) (Operand.const (Value.bool false)), type := 4, pos := _, after := _, guard := none }) (v := ?_) rfl (by kernel_rfl) (by kernel_rfl) (by kernel_rfl) (fun _ _ _ h => h) (Or.inl ⟨by rfl, ?_⟩) hHeld ?_
    rotate_left 1
    · (intro W hW; (try dsimp only at hW); go_simp; try with_reducible rfl)
    try simp only [Act.put, List.setIfInBounds_toArray, List.set_cons_zero, List.set_cons_succ]
    refine wpAnyH_take (i := 9) (oi := { dst := some 47, op := Op.move (Operand.tmp 46), type := 4, pos := _, after := _, guard := none }) (v := ?_) rfl (by kernel_rfl) (by kernel_rfl) (by kernel_rfl) (fun _ _ _ h => h) (Or.inl ⟨by rfl, ?_⟩) hHeld ?_
    rotate_left 1
    · (intro W hW; (try dsimp only at hW); go_simp; try with_reducible rfl)
    try simp only [Act.put, List.setIfInBounds_toArray, List.set_cons_zero, List.set_cons_succ]
    refine wpAnyH_take (i := 10) (oi := { dst := some 48, op := Op.move (Operand.tmp 9), type := 4, pos := _, after := _, guard := some (9, true) }) (v := ?_) rfl (by kernel_rfl) (by kernel_rfl) (by kernel_rfl) (fun _ _ _ h => h) (Or.inl ⟨by rfl, ?_⟩) hHeld ?_
    rotate_left 1
    · (intro W hW; (try dsimp only at hW); go_simp; try with_reducible rfl)
    try simp only [Act.put, List.setIfInBounds_toArray, List.set_cons_zero, List.set_cons_succ]
    refine wpAnyH_take (i := 11) (oi := { dst := some 49, op := Op.move (Operand.tmp 11), type := 4, pos := _, after := _, guard := some (9, true) }) (v := ?_) rfl (by kernel_rfl) (by kernel_rfl) (by kernel_rfl) (fun _ _ _ h => h) (Or.inl ⟨by rfl, ?_⟩) hHeld ?_
    rotate_left 1
    · (intro W hW; (try dsimp only at hW); go_simp; try with_reducible rfl)
    try simp only [Act.put, List.setIfInBounds_toArray, List.set_cons_zero, List.set_cons_succ]
    refine wpAnyH_take (i := 12) (oi := { dst := some 50, op := Op.binOp BinOp.eql 4 (Operand.tmp 48) (Operand.tmp 49) 4, type := 4, pos := _, after := _, guard := some (9, true) }) (v := ?_) rfl (by kernel_rfl) (by kernel_rfl) (by kernel_rfl) (fun _ _ _ h => h) (Or.inl ⟨by rfl, ?_⟩) hHeld ?_
    rotate_left 1
    · (intro W hW; (try dsimp only at hW); go_simp; try with_reducible rfl)
    try simp only [Act.put, List.setIfInBounds_toArray, List.set_cons_zero, List.set_cons_succ]
    refine wpAnyH_take (i := 13) (oi := { dst := some 51, op := Op.pick (Operand.tmp 47) (Operand.tmp 50) (Operand.const (Value.bool false)), type := 4, pos := _, after := _, guard := none }) (v := ?_) rfl (by kernel_rfl) (by kernel_rfl) (by kernel_rfl) (fun _ _ _ h => h) (Or.inl ⟨by rfl, ?_⟩) hHeld ?_
    rotate_left 1
    · (intro W hW; (try dsimp only at hW); go_simp; try with_reducible rfl)
    try simp only [Act.put, List.setIfInBounds_toArray, List.set_cons_zero, List.set_cons_succ]
    refine wpAnyH_take (i := 14) (oi := { dst := some 52, op := Op.move (Operand.tmp 51), type := 4, pos := _, after := _, guard := none }) (v := ?_) rfl (by kernel_rfl) (by kernel_rfl) (by kernel_rfl) (fun _ _ _ h => h) (Or.inl ⟨by rfl, ?_⟩) hHeld ?_
    rotate_left 1
    · (intro W hW; (try dsimp only at hW); go_simp; try with_reducible rfl)
    try simp only [Act.put, List.setIfInBounds_toArray, List.set_cons_zero, List.set_cons_succ]
    refine wpAnyH_take (i := 15) (oi := { dst := some 53, op := Op.move (Operand.tmp 1), type := 24, pos := _, after := _, guard := some (14, true) }) (v := ?_) rfl (by kernel_rfl) (by kernel_rfl) (by kernel_rfl) (fun _ _ _ h => h) (Or.inl ⟨by rfl, ?_⟩) hHeld ?_
    rotate_left 1
    · (intro W hW; (try dsimp only at hW); go_simp; try with_reducible rfl)
    try simp only [Act.put, List.setIfInBounds_toArray, List.set_cons_zero, List.set_cons_succ]
    refine wpAnyH_take (i := 17) (oi := { dst := some 55, op := Op.move (Operand.tmp 1), type := 24, pos := _, after := _, guard := some (14, true) }) (v := ?_) rfl (by kernel_rfl) (by kernel_rfl) (by kernel_rfl) (fun _ _ _ h => h) (Or.inl ⟨by rfl, ?_⟩) hHeld ?_
    rotate_left 1
    · (intro W hW; (try dsimp only at hW); go_simp; try with_reducible rfl)
    try simp only [Act.put, List.setIfInBounds_toArray, List.set_cons_zero, List.set_cons_succ]
    refine wpAnyH_ready (rs := [16]) (by kernel_rfl) (by simp) ?_
    refine AllReadyH.cons (o := { dst := some 54, op := Op.call { callee := Callee.value (Operand.func 10), args := #[Operand.tmp 53], argTypes := #[24] }, type := 29, pos := _, after := _, guard := some (14, true) }) rfl (fun K hK => ?_) AllReadyH.nil
    go_simp
    refine (small_any w10 v hv).mono ?_
    rintro e w11 ⟨v11, rfl, hp11, hb11⟩
    have b11 : Hid (Below w10.heap.size w10 w11) := Lib.hid (hb11)
    have H11 := Lib.hid (H10.out.trans (b11.out.mono H10.out.size))
    have P11 := Lib.hid hp11
    obtain ⟨A11, c11, rfl, _⟩ := hp11
    clear hb11
    go_simp
    refine hK.out _ _ (b11.out) (fun _ => ?_)
    clear hK K hHeld
    try simp only [Act.put, List.setIfInBounds_toArray, List.set_cons_zero, List.set_cons_succ]
    refine wpAnyH_strong (S' := fun W => Below w11.heap.size w11 W) (fun W hW => b11.out.trans (hW.mono b11.out.size)) _ _ _ _ ?_
    have hHeld : (fun W => Below w11.heap.size w11 W) w11 := Below.refl _ _
    refine wpAnyH_ready (rs := [18]) (by kernel_rfl) (by simp) ?_
    refine AllReadyH.cons (o := { dst := some 56, op := Op.call { callee := Callee.value (Operand.func 13), args := #[Operand.tmp 55], argTypes := #[24] }, type := 29, pos := _, after := _, guard := some (14, true) }) rfl (fun K hK => ?_) AllReadyH.nil
    go_simp
    refine (small'_any w11 v hv).mono ?_
    rintro e w12 ⟨v12, rfl, hp12, hb12⟩
    have b12 : Hid (Below w11.heap.size w11 w12) := Lib.hid (hb12)
    have H12 := Lib.hid (H11.out.trans (b12.out.mono H11.out.size))
    have P12 := Lib.hid hp12
    obtain ⟨A12, c12, rfl, _⟩ := hp12
    clear hb12
    go_simp
    refine hK.out _ _ (b12.out) (fun _ => ?_)
    clear hK K hHeld
    try simp only [Act.put, List.setIfInBounds_toArray, List.set_cons_zero, List.set_cons_succ]
    refine wpAnyH_strong (S' := fun W => Below w12.heap.size w12 W) (fun W hW => b12.out.trans (hW.mono b12.out.size)) _ _ _ _ ?_
    have hHeld : (fun W => Below w12.heap.size w12 W) w12 := Below.refl _ _
    refine wpAnyH_ready (rs := [19]) (by kernel_rfl) (by simp) ?_
    refine AllReadyH.cons (o := { dst := some 57, op := Op.call { callee := Callee.value (Operand.func 11), args := #[Operand.tmp 54, Operand.tmp 56], argTypes := #[29, 29] }, type := 4, pos := _, after := _, guard := some (14, true) }) rfl (fun K hK => ?_) AllReadyH.nil
    go_simp
    refine (same_prim w12 A11 A12 _ c11 c12 2 _ _ _ (P11.out.under b12.out) P12.out).mono ?_
    rintro e w13 ⟨rfl, hb13⟩
    have b13 : Hid (Below w12.heap.size w12 w13) := Lib.hid (hb13)
    have H13 := Lib.hid (H12.out.trans (b13.out.mono H12.out.size))

    clear hb13
    go_simp
    refine hK.out _ _ (b13.out) (fun _ => ?_)
    clear hK K hHeld
    try simp only [Act.put, List.setIfInBounds_toArray, List.set_cons_zero, List.set_cons_succ]
    refine wpAnyH_strong (S' := fun W => Below w13.heap.size w13 W) (fun W hW => b13.out.trans (hW.mono b13.out.size)) _ _ _ _ ?_
    have hHeld : (fun W => Below w13.heap.size w13 W) w13 := Below.refl _ _
    refine wpAnyH_take (i := 20) (oi := { dst := some 58, op := Op.pick (Operand.tmp 52) (Operand.tmp 57) (Operand.const (Value.bool false)), type := 4, pos := _, after := _, guard := none }) (v := ?_) rfl (by kernel_rfl) (by kernel_rfl) (by kernel_rfl) (fun _ _ _ h => h) (Or.inl ⟨by rfl, ?_⟩) hHeld ?_
    rotate_left 1
    · (intro W hW; (try dsimp only at hW); go_simp; try with_reducible rfl)
    try simp only [Act.put, List.setIfInBounds_toArray, List.set_cons_zero, List.set_cons_succ]
    refine wpAnyH_take (i := 21) (oi := { dst := some 59, op := Op.move (Operand.tmp 58), type := 4, pos := _, after := _, guard := none }) (v := ?_) rfl (by kernel_rfl) (by kernel_rfl) (by kernel_rfl) (fun _ _ _ h => h) (Or.inl ⟨by rfl, ?_⟩) hHeld ?_
    rotate_left 1
    · (intro W hW; (try dsimp only at hW); go_simp; try with_reducible rfl)
    try simp only [Act.put, List.setIfInBounds_toArray, List.set_cons_zero, List.set_cons_succ]
    refine wpAnyH_take (i := 22) (oi := { dst := some 60, op := Op.move (Operand.tmp 13), type := 4, pos := _, after := _, guard := some (21, true) }) (v := ?_) rfl (by kernel_rfl) (by kernel_rfl) (by kernel_rfl) (fun _ _ _ h => h) (Or.inl ⟨by rfl, ?_⟩) hHeld ?_
    rotate_left 1
    · (intro W hW; (try dsimp only at hW); go_simp; try with_reducible rfl)
    try simp only [Act.put, List.setIfInBounds_toArray, List.set_cons_zero, List.set_cons_succ]
    refine wpAnyH_take (i := 23) (oi := { dst := some 61, op := Op.pick (Operand.tmp 59) (Operand.tmp 60) (Operand.const (Value.bool false)), type := 4, pos := _, after := _, guard := none }) (v := ?_) rfl (by kernel_rfl) (by kernel_rfl) (by kernel_rfl) (fun _ _ _ h => h) (Or.inl ⟨by rfl, ?_⟩) hHeld ?_
    rotate_left 1
    · (intro W hW; (try dsimp only at hW); go_simp; try with_reducible rfl)
    try simp only [Act.put, List.setIfInBounds_toArray, List.set_cons_zero, List.set_cons_succ]
    refine wpAnyH_take (i := 24) (oi := { dst := some 62, op := Op.move (Operand.tmp 61), type := 4, pos := _, after := _, guard := none }) (v := ?_) rfl (by kernel_rfl) (by kernel_rfl) (by kernel_rfl) (fun _ _ _ h => h) (Or.inl ⟨by rfl, ?_⟩) hHeld ?_
    rotate_left 1
    · (intro W hW; (try dsimp only at hW); go_simp; try with_reducible rfl)
    try simp only [Act.put, List.setIfInBounds_toArray, List.set_cons_zero, List.set_cons_succ]
    refine wpAnyH_take (i := 25) (oi := { dst := some 63, op := Op.move (Operand.tmp 12), type := 24, pos := _, after := _, guard := some (24, true) }) (v := ?_) rfl (by kernel_rfl) (by kernel_rfl) (by kernel_rfl) (fun _ _ _ h => h) (Or.inl ⟨by rfl, ?_⟩) hHeld ?_
    rotate_left 1
    · (intro W hW; (try dsimp only at hW); go_simp; try with_reducible rfl)
    try simp only [Act.put, List.setIfInBounds_toArray, List.set_cons_zero, List.set_cons_succ]
    refine wpAnyH_take (i := 26) (oi := { dst := some 64, op := Op.move (Operand.tmp 1), type := 24, pos := _, after := _, guard := some (24, true) }) (v := ?_) rfl (by kernel_rfl) (by kernel_rfl) (by kernel_rfl) (fun _ _ _ h => h) (Or.inl ⟨by rfl, ?_⟩) hHeld ?_
    rotate_left 1
    · (intro W hW; (try dsimp only at hW); go_simp; try with_reducible rfl)
    try simp only [Act.put, List.setIfInBounds_toArray, List.set_cons_zero, List.set_cons_succ]
    refine wpAnyH_take (i := 27) (oi := { dst := some 65, op := Op.binOp BinOp.eql 24 (Operand.tmp 63) (Operand.tmp 64) 24, type := 4, pos := _, after := _, guard := some (24, true) }) (v := ?_) rfl (by kernel_rfl) (by kernel_rfl) (by kernel_rfl) (fun _ _ _ h => h) (Or.inl ⟨by rfl, ?_⟩) hHeld ?_
    rotate_left 1
    · (intro W hW; (try dsimp only at hW); go_simp; try with_reducible rfl)
    try simp only [Act.put, List.setIfInBounds_toArray, List.set_cons_zero, List.set_cons_succ]
    refine wpAnyH_take (i := 28) (oi := { dst := some 66, op := Op.pick (Operand.tmp 62) (Operand.tmp 65) (Operand.const (Value.bool false)), type := 4, pos := _, after := _, guard := none }) (v := ?_) rfl (by kernel_rfl) (by kernel_rfl) (by kernel_rfl) (fun _ _ _ h => h) (Or.inl ⟨by rfl, ?_⟩) hHeld ?_
    rotate_left 1
    · (intro W hW; (try dsimp only at hW); go_simp; try with_reducible rfl)
    try simp only [Act.put, List.setIfInBounds_toArray, List.set_cons_zero, List.set_cons_succ]
    refine wpAnyH_take (i := 29) (oi := { dst := some 67, op := Op.move (Operand.tmp 66), type := 4, pos := _, after := _, guard := none }) (v := ?_) rfl (by kernel_rfl) (by kernel_rfl) (by kernel_rfl) (fun _ _ _ h => h) (Or.inl ⟨by rfl, ?_⟩) hHeld ?_
    rotate_left 1
    · (intro W hW; (try dsimp only at hW); go_simp; try with_reducible rfl)
    try simp only [Act.put, List.setIfInBounds_toArray, List.set_cons_zero, List.set_cons_succ]
    refine wpAnyH_ready (rs := [30]) (by kernel_rfl) (by simp) ?_
    refine AllReadyH.cons (o := { dst := some 68, op := Op.call { callee := Callee.value (Operand.func 14), args := #[], argTypes := #[] }, type := 4, pos := _, after := _, guard := some (29, true) }) rfl (fun K hK => ?_) AllReadyH.nil
    go_simp
    refine (known_any w13).mono ?_
    rintro e w14 ⟨rfl, hb14⟩
    have b14 : Hid (Below w13.heap.size w13 w14) := Lib.hid (hb14)
    have H14 := Lib.hid (H13.out.trans (b14.out.mono H13.out.size))

    clear hb14
    go_simp
    refine hK.out _ _ (b14.out) (fun _ => ?_)
    clear hK K hHeld
    try simp only [Act.put, List.setIfInBounds_toArray, List.set_cons_zero, List.set_cons_succ]
    refine wpAnyH_strong (S' := fun W => Below w14.heap.size w14 W) (fun W hW => b14.out.trans (hW.mono b14.out.size)) _ _ _ _ ?_
    have hHeld : (fun W => Below w14.heap.size w14 W) w14 := Below.refl _ _
    refine wpAnyH_take (i := 31) (oi := { dst := some 69, op := Op.pick (Operand.tmp 67) (Operand.tmp 68) (Operand.const (Value.bool false)), type := 4, pos := _, after := _, guard := none }) (v := ?_) rfl (by kernel_rfl) (by kernel_rfl) (by kernel_rfl) (fun _ _ _ h => h) (Or.inl ⟨by rfl, ?_⟩) hHeld ?_
    rotate_left 1
    · (intro W hW; (try dsimp only at hW); go_simp; try with_reducible rfl)
    try simp only [Act.put, List.setIfInBounds_toArray, List.set_cons_zero, List.set_cons_succ]
    refine wpAnyH_take (i := 32) (oi := { dst := some 6, op := Op.assign (Operand.tmp 69), type := 4, pos := _, after := _, guard := none }) (v := ?_) rfl (by kernel_rfl) (by kernel_rfl) (by kernel_rfl) (fun _ _ _ h => h) (Or.inl ⟨by rfl, ?_⟩) hHeld ?_
    rotate_left 1
    · (intro W hW; (try dsimp only at hW); go_simp; try with_reducible rfl)
    try simp only [Act.put, List.setIfInBounds_toArray, List.set_cons_zero, List.set_cons_succ]
    refine wpAnyH_done (by kernel_rfl) ?_ _
    refine NoPanic.normal ?_
    go_wp2_with fail
    go_ret
    exact ⟨rfl, HQ2.out.trans (H14.out.mono HQ2.out.size)⟩
end Go.Proofs.Ytogbeiifnhegiaa
