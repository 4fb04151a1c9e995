/-
  Things made: of bytes, of truths, of things: by atom, by the document.
-/
import Derived.Test.YtbkjjhpnjfdlbaaGreatDoorTh1
namespace Go.Proofs.YtbkjjhpnjfdlbaaGreatDoor
open Go.RowKit
set_option linter.unusedVariables false
set_option linter.unusedSimpArgs false

/-- What is made in a call whose answer lies in a cell of its own. -/
theorem made_out {xs : List Nat} {w w' : World} {lt : Lt} (h : Off (w.heap.size :: xs) (ThP lt) w') (a b c : Value) :
    Off xs (ThP lt) (((w'.setCell ⟨w.heap.size, 0, none⟩ a).setCell ⟨w.heap.size, 1, none⟩ b).setCell ⟨w.heap.size, 2, none⟩ c) :=
  (((h.store (p := ⟨w.heap.size, 0, none⟩) (by simp) a).store (p := ⟨w.heap.size, 1, none⟩) (by simp) b).store (p := ⟨w.heap.size, 2, none⟩) (by simp) c).less (fun g hg => by simp [hg])
theorem below_out {w w' : World} (h : Below w.heap.size w w') (a b c : Value) : Below w.heap.size w (((w'.setCell ⟨w.heap.size, 0, none⟩ a).setCell ⟨w.heap.size, 1, none⟩ b).setCell ⟨w.heap.size, 2, none⟩ c) :=
  ((h.setCell (p := ⟨w.heap.size, 0, none⟩) (Nat.le_refl _) _).setCell (p := ⟨w.heap.size, 1, none⟩) (Nat.le_refl _) _).setCell (p := ⟨w.heap.size, 2, none⟩) (Nat.le_refl _) _
theorem off_prim {xs : List Nat} {v : Value} {w : World} {B tag : Nat} {b : List Nat} (h : PrimAt v w B tag b) (hx : ∀ x ∈ xs, x < B) : ∃ lt : Lt, v = lt.val ∧ lt.t = .mk tag b [] ∧ Off xs (ThP lt) w := by
  obtain ⟨A, c, rfl, hr, hg, ho, ht⟩ := h
  refine ⟨.mk tag A c b none 0 [], rfl, rfl, off_body (fun w' h2 h3 => ?_) ht ho⟩
  refine ⟨hr.1, hr.2.1, fun hn => ?_⟩
  obtain ⟨g, off, rfl, hlt, hc⟩ := hr.2.2 hn
  refine ⟨g, off, rfl, by omega, fun j hj => ?_⟩
  have hgx : g ∉ xs := fun hgx => by have := hx g hgx; have := hg g rfl; omega
  simp only [World.cell?]
  rw [h3 g hgx hlt]
  exact hc j hj
set_option maxRecDepth 100000 in
set_option maxHeartbeats 2000000 in
theorem id_any (w : World) (xs : List Nat) (A : Option Addr) (c n B : Nat) (l : List Nat) (hr : Rd .u8 w B A c l) (hn : l.length = n) (hB : B ≤ w.heap.size) (h12 : n ≤ 12000) (ho : ∀ x ∈ l, x < 256) (hxs : ∀ x ∈ xs, x < w.heap.size) :
    Calls Tryz.prog 83 #[.slice A n c] w (MadeT w xs (.mk 6 l [])) := by
  obtain ⟨V, hV⟩ : ∃ V, V = w.alloc (.cells #[.int .u8 0, .slice none 0 0, .slice none 0 0] 31) := ⟨_, rfl⟩
  have hz : Holds V w.heap.size 31 #[.int .u8 0, .slice none 0 0, .slice none 0 0] := by rw [hV]; exact Holds.fresh _ _ _
  have HB0 : Hid (Below w.heap.size w V) := Lib.hid (by rw [hV]; exact (Below.refl _ _).alloc (Nat.le_refl _) _)
  have hVs : w.heap.size < V.heap.size := hz.lt
  have HC := Lib.hid (clone_any V B A c n l (hr.under (HB0.out.mono hB)) hn (by omega) h12)
  have HZ := Lib.hid hz
  have HV := Lib.hid hV
  have HN := Lib.hid hn
  have HO := Lib.hid ho
  clear hr hn ho hz hV
  go_enter Tryz.func83, Tryz.ntmps83
  go_wp2_with fail
  rw [← HV.out]
  refine HC.out.mono ?_
  rintro e w2 ⟨A2, c2, rfl, hm2, hb2⟩
  have HQ2 : Hid (Below w.heap.size w w2) := Lib.hid (HB0.out.trans (hb2.mono HB0.out.size))
  have hz2 := HZ.out.under hb2 hVs
  have HM2 := Lib.hid hm2
  have z0 := hz2.cell 0
  have z1 := hz2.cell 1
  have z2 := hz2.cell 2
  have y0 := hz2.open_ 0
  have y1 := hz2.open_ 1
  have y2 := hz2.open_ 2
  clear hb2 hm2 HC HV
  go_wp2_with fail
  refine ret_one rfl rfl (((hz2.stored 0 _).stored 1 _).stored 2 _) rfl ?_
  refine ⟨.mk 6 A2 c2 l none 0 [], by rw [← HN.out]; rfl, rfl, made_out (off_body (Off.of_mine HM2.out fun g hg hx => ?_) (by omega) HO.out) _ _ _, below_out HQ2.out _ _ _⟩
  have h1 := (HM2.out.block hg).1
  rcases List.mem_cons.1 hx with h2 | h2
  · omega
  · have := hxs g h2; omega
set_option maxRecDepth 100000 in
set_option maxHeartbeats 2000000 in
theorem seq_any (w : World) (xs : List Nat) (x c n : Nat) (A : Option Addr) (ks : List Lt) (h : Off xs (KiP A c ks) w) (hn : ks.length = n) (hx : x < 256) (hsz : n ≤ 100000) (hxs : ∀ x ∈ xs, x < w.heap.size) :
    Calls Tryz.prog 84 #[.int .u8 (x : Int), .slice A n c] w (MadeT w xs (.mk x [] (ks.map Lt.t))) := by
  obtain ⟨V, hV⟩ : ∃ V, V = w.alloc (.cells #[.int .u8 0, .slice none 0 0, .slice none 0 0] 31) := ⟨_, rfl⟩
  have hz : Holds V w.heap.size 31 #[.int .u8 0, .slice none 0 0, .slice none 0 0] := by rw [hV]; exact Holds.fresh _ _ _
  have HB0 : Hid (Below w.heap.size w V) := Lib.hid (by rw [hV]; exact (Below.refl _ _).alloc (Nat.le_refl _) _)
  have hVs : w.heap.size < V.heap.size := hz.lt
  have hkV : Off (w.heap.size :: xs) (KiP A c ks) V := by rw [hV]; exact (h.new (Nat.le_refl _)).alloc _
  have HC := Lib.hid (cloneT_any V (w.heap.size :: xs) A c n ks hkV hn hsz (fun y hy => by rcases List.mem_cons.1 hy with rfl | hy; exact hVs; have := hxs y hy; omega))
  have HK := Lib.hid hkV
  have HZ := Lib.hid hz
  have HV := Lib.hid hV
  have HN := Lib.hid hn
  clear h hn hz hV hkV
  go_enter Tryz.func84, Tryz.ntmps84
  go_wp2_with fail
  rw [← HV.out]
  refine HC.out.mono ?_
  rintro e w2 ⟨A2, c2, rfl, hk2, hb2⟩
  have HQ2 : Hid (Below w.heap.size w w2) := Lib.hid (HB0.out.trans (hb2.mono HB0.out.size))
  have hz2 := HZ.out.under hb2 hVs
  have HK2 := Lib.hid hk2
  have z0 := hz2.cell 0
  have z1 := hz2.cell 1
  have z2 := hz2.cell 2
  have y0 := hz2.open_ 0
  have y1 := hz2.open_ 1
  have y2 := hz2.open_ 2
  clear hb2 hk2 HC HV
  go_wp2_with fail
  refine ret_one rfl rfl (((hz2.stored 0 _).stored 1 _).stored 2 _) rfl ?_
  refine ⟨.mk x none 0 [] A2 c2 ks, by rw [← HN.out]; rfl, Lt.t_mk, made_out (off_kids HK2.out hx) _ _ _, below_out HQ2.out _ _ _⟩
set_option maxRecDepth 100000 in
set_option maxHeartbeats 2000000 in
theorem bool'_any (w : World) (xs : List Nat) (v : Bool) (hxs : ∀ x ∈ xs, x < w.heap.size) :
    Calls Tryz.prog 11 #[.bool v] w (MadeT w xs (.mk 1 [if v then 255 else 0] [])) := by
  obtain ⟨V, hV⟩ : ∃ V, V = w.alloc (.cells #[.int .u8 0, .slice none 0 0, .slice none 0 0] 31) := ⟨_, rfl⟩
  have hz : Holds V w.heap.size 31 #[.int .u8 0, .slice none 0 0, .slice none 0 0] := by rw [hV]; exact Holds.fresh _ _ _
  have HB0 : Hid (Below w.heap.size w V) := Lib.hid (by rw [hV]; exact (Below.refl _ _).alloc (Nat.le_refl _) _)
  have HVE : Hid (V.heap.size = w.heap.size + 1) := Lib.hid (by rw [hV]; simp)
  have HZ := Lib.hid hz
  have HV := Lib.hid hV
  clear hz hV
  cases v
  · have HM : Hid (Mine 5 (V.alloc (.cells #[.int .u8 0] 5)) V.heap.size (some ⟨V.heap.size, 0, none⟩) 1 [0]) := Lib.hid (Mine.fresh1 V V.heap.size 0 (Nat.le_refl _))
    have HC := Lib.hid (prim'_own (V.alloc (.cells #[.int .u8 0] 5)) 1 1 1 _ _ [0] HM.out.rd rfl (Nat.le_refl _) (by omega) (by omega) (by simp))
    rw [HVE.out] at HC
    have HB1 : Hid (Below w.heap.size w (V.alloc (.cells #[.int .u8 0] 5))) := Lib.hid (HB0.out.alloc HB0.out.size _)
    have HZ1 := Lib.hid (HZ.out.alloc (.cells #[.int .u8 0] 5))
    have hs1 : w.heap.size < (V.alloc (.cells #[.int .u8 0] 5)).heap.size := HZ1.out.lt
    generalize hW1 : (V.alloc (.cells #[.int .u8 0] 5)) = W1 at *
    have HW1 := Lib.hid hW1
    clear hW1
    go_enter Tryz.func11, Tryz.ntmps11
    go_wp2_with fail
    rw [← HV.out, HW1.out]
    refine HC.out.mono ?_
    rintro e w2 ⟨v2, rfl, hp2, hb2⟩
    have HQ2 : Hid (Below w.heap.size w w2) := Lib.hid (HB1.out.trans (hb2.mono HB1.out.size))
    have hz2 := HZ1.out.under hb2 hs1
    obtain ⟨lt, hlt, hltt, hof⟩ := off_prim (xs := w.heap.size :: xs) hp2 (fun y hy => by rcases List.mem_cons.1 hy with rfl | hy; exact hs1; have := hxs y hy; omega)
    have HLT := Lib.hid hlt
    have HLTT := Lib.hid hltt
    have HOF := Lib.hid hof
    obtain ⟨A2, c2, rfl, _⟩ := hp2
    have z0 := hz2.cell 0
    have z1 := hz2.cell 1
    have z2 := hz2.cell 2
    have y0 := hz2.open_ 0
    have y1 := hz2.open_ 1
    have y2 := hz2.open_ 2
    clear hb2 HC HV hlt hltt hof HW1
    go_wp2_with fail
    refine ret_one rfl rfl (((hz2.stored 0 _).stored 1 _).stored 2 _) rfl ?_
    exact ⟨lt, congrArg Ending.returned HLT.out, HLTT.out, made_out HOF.out _ _ _, below_out HQ2.out _ _ _⟩
  · have HM : Hid (Mine 5 (V.alloc (.cells #[.int .u8 255] 5)) V.heap.size (some ⟨V.heap.size, 0, none⟩) 1 [255]) := Lib.hid (Mine.fresh1 V V.heap.size 255 (Nat.le_refl _))
    have HC := Lib.hid (prim'_own (V.alloc (.cells #[.int .u8 255] 5)) 1 1 1 _ _ [255] HM.out.rd rfl (Nat.le_refl _) (by omega) (by omega) (by simp))
    rw [HVE.out] at HC
    have HB1 : Hid (Below w.heap.size w (V.alloc (.cells #[.int .u8 255] 5))) := Lib.hid (HB0.out.alloc HB0.out.size _)
    have HZ1 := Lib.hid (HZ.out.alloc (.cells #[.int .u8 255] 5))
    have hs1 : w.heap.size < (V.alloc (.cells #[.int .u8 255] 5)).heap.size := HZ1.out.lt
    generalize hW1 : (V.alloc (.cells #[.int .u8 255] 5)) = W1 at *
    have HW1 := Lib.hid hW1
    clear hW1
    go_enter Tryz.func11, Tryz.ntmps11
    go_wp2_with fail
    rw [← HV.out, HW1.out]
    refine HC.out.mono ?_
    rintro e w2 ⟨v2, rfl, hp2, hb2⟩
    have HQ2 : Hid (Below w.heap.size w w2) := Lib.hid (HB1.out.trans (hb2.mono HB1.out.size))
    have hz2 := HZ1.out.under hb2 hs1
    obtain ⟨lt, hlt, hltt, hof⟩ := off_prim (xs := w.heap.size :: xs) hp2 (fun y hy => by rcases List.mem_cons.1 hy with rfl | hy; exact hs1; have := hxs y hy; omega)
    have HLT := Lib.hid hlt
    have HLTT := Lib.hid hltt
    have HOF := Lib.hid hof
    obtain ⟨A2, c2, rfl, _⟩ := hp2
    have z0 := hz2.cell 0
    have z1 := hz2.cell 1
    have z2 := hz2.cell 2
    have y0 := hz2.open_ 0
    have y1 := hz2.open_ 1
    have y2 := hz2.open_ 2
    clear hb2 HC HV hlt hltt hof HW1
    go_wp2_with fail
    refine ret_one rfl rfl (((hz2.stored 0 _).stored 1 _).stored 2 _) rfl ?_
    exact ⟨lt, congrArg Ending.returned HLT.out, HLTT.out, made_out HOF.out _ _ _, below_out HQ2.out _ _ _⟩
set_option maxRecDepth 100000 in
set_option maxHeartbeats 2000000 in
theorem seq'_any (w : World) (xs : List Nat) (x c n : Nat) (A : Option Addr) (ks : List Lt) (h : Off xs (KiP A c ks) w) (hn : ks.length = n) (hx : x < 256) :
    Calls Tryz.prog 10 #[.int .u8 (x : Int), .slice A n c] w (MadeT w xs (.mk x [] (ks.map Lt.t))) := by
  have HK := Lib.hid (h.alloc (.cells #[.int .u8 (x : Int), .slice none 0 0, .slice A n c] 31))
  have HN := Lib.hid hn
  clear h hn
  go_enter Tryz.func10, Tryz.ntmps10
  go_wp2_with fail
  refine ret_one rfl rfl (Holds.fresh _ _ _) rfl ?_
  exact ⟨.mk x none 0 [] A c ks, by rw [← HN.out]; rfl, Lt.t_mk, off_kids HK.out hx, (Below.refl _ _).alloc (Nat.le_refl _) _⟩
end Go.Proofs.YtbkjjhpnjfdlbaaGreatDoor
