/-
  A number's thing: by atom, and by the document.
-/
import Derived.Test.YtbkjjhpnjfdlbaaGreatDoorAt4
namespace Go.Proofs.YtbkjjhpnjfdlbaaGreatDoor
open Go.RowKit
set_option linter.unusedVariables false
set_option linter.unusedSimpArgs false

theorem is_at (w : World) (B : Nat) (A : Option Addr) (c n : Nat) (l : List Nat) (hr : Rd .u32 w B A c l) (hn : l.length = n) (v : Bool) (hv : okN l = v) : Calls Tryz.prog 106 #[.slice A n c] w fun e w' => e = .returned (.bool v) ∧ w = w' := by
  subst hn
  exact is_any w B A c l hr v hv
theorem bits'_at (w : World) (B : Nat) (A : Option Addr) (c n : Nat) (l : List Nat) (hr : Rd .u32 w B A c l) (hn : l.length = n) (hd : Dg l) (hs : l.length ≤ 5000) (v : Nat) (hv : nb l = v) : Calls Tryz.prog 36 #[.slice A n c] w fun e w' => e = .returned (.int .i64 (v : Int)) ∧ w = w' := by
  subst hn
  exact bits'_any w B A c l hr hd hs v hv
theorem okN_iff {l : List Nat} : okN l = true ↔ l.length ≤ 256 ∧ nrm l := by
  unfold okN nrm
  simp only [Bool.and_eq_true, Bool.or_eq_true, decide_eq_true_eq, Bool.not_eq_true', beq_eq_false_iff_ne]
theorem trl_self {l : List Nat} (h : nrm l) : trl l = l := by
  rw [trl, tlen_id l l.length h, List.take_length]
set_option maxRecDepth 100000 in
set_option maxHeartbeats 2000000 in
theorem int_any (w : World) (B : Nat) (A : Option Addr) (c n : Nat) (l : List Nat) (hr : Rd .u32 w B A c l) (hn : l.length = n) (hB : B ≤ w.heap.size) (hd : Dg l) (hok : okN l = true) :
    Calls Tryz.prog 100 #[.slice A n c] w fun e w' => ∃ v, e = .returned v ∧ PrimAt v w' w.heap.size 2 (intB l) ∧ Below w.heap.size w w' := by
  obtain ⟨h256, hnr⟩ := okN_iff.1 hok
  have hf := int_fits hd hnr h256
  obtain ⟨V, hV⟩ : ∃ V, V = w.alloc (.cells #[.int .u8 0, .slice none 0 0, .slice none 0 0] 31) := ⟨_, rfl⟩
  have HB0 : Hid (Below w.heap.size w V) := Lib.hid (by rw [hV]; exact (Below.refl _ _).alloc (Nat.le_refl _) _)
  have hz : Holds V w.heap.size 31 #[.int .u8 0, .slice none 0 0, .slice none 0 0] := by rw [hV]; exact Holds.fresh _ _ _
  have hVs : w.heap.size < V.heap.size := hz.lt
  have hrV : Rd .u32 V B A c l := hr.under (HB0.out.mono hB)
  have HIS := Lib.hid (is_at V B A c n l hrV hn true hok)
  have HBI := Lib.hid (bits_any V B A c n l hrV hn hd (by omega) (nb l) (by rw [trl_self hnr]))
  obtain ⟨v, hv⟩ : ∃ v, v = nb l := ⟨_, rfl⟩
  have hv1 : v / 8 + 1 ≤ 1025 := by rw [hv]; exact hf
  have HBY : Hid (Calls Tryz.prog 89 #[.slice A n c, .int .i64 ((v : Int) / 8 + 1)] V fun e w' => ∃ A2, e = .returned (.tuple #[.slice A2 (v / 8 + 1) (v / 8 + 1), .bool true]) ∧ Fresh .u8 5 w' V.heap.size A2 (v / 8 + 1) (bytesOf l (v / 8 + 1)) ∧ Below V.heap.size V w') := Lib.hid (by
    have h := bytes_yes V B A c n l hrV hn (by omega) hd (by omega) (v / 8 + 1) (by omega) (by rw [trl_self hnr, ← hv]; omega)
    have e : ((v / 8 + 1 : Nat) : Int) = (v : Int) / 8 + 1 := by omega
    rw [e] at h
    exact h)
  have HI : Hid (bytesOf l (v / 8 + 1) = intB l) := Lib.hid (by rw [hv]; rfl)
  have HL : Hid ((intB l).length = v / 8 + 1) := Lib.hid (by rw [hv, intB_length])
  rw [← hv] at HBI
  have hm1 : 1 ≤ v / 8 + 1 := by omega
  generalize hm : v / 8 + 1 = m at *
  have HZ := Lib.hid hz
  have HV := Lib.hid hV
  have hv2 : v ≤ 9000 := by omega
  clear hr hn hd hok hnr hf hrV hv hm hz hV
  go_enter Tryz.func100, Tryz.ntmps100
  go_wp2_with fail
  rw [← HV.out]
  refine HIS.out.mono ?_
  rintro e w2 ⟨rfl, rfl⟩
  go_wp2_with fail
  refine HBI.out.mono ?_
  rintro e w2 ⟨rfl, rfl⟩
  go_wp2_with fail
  refine HBY.out.mono ?_
  rintro e w3 ⟨A2, rfl, hf3, hb3⟩
  have HQ3 : Hid (Below w.heap.size w w3) := Lib.hid (HB0.out.trans (hb3.mono HB0.out.size))
  have hz3 := HZ.out.under hb3 hVs
  have HF3 := Lib.hid hf3
  have z0 := hz3.cell 0
  have z1 := hz3.cell 1
  have z2 := hz3.cell 2
  have y0 := hz3.open_ 0
  have y1 := hz3.open_ 1
  have y2 := hz3.open_ 2
  rw [HI.out] at HF3
  clear HV HIS HBI HBY HB0 hb3 hf3 HI
  go_wp2_with fail
  refine ret_one rfl rfl (((hz3.stored 0 _).stored 1 _).stored 2 _) rfl ?_
  have hmz : (intB l).length = m := HL.out
  have hA2 : ∀ g, blk_of A2 = some g → w.heap.size + 1 ≤ g := fun g hg => by
    obtain ⟨g', L, rfl, hle, _⟩ := HF3.out.2 (by omega)
    obtain rfl : g' = g := by simpa [blk_of] using hg
    omega
  have hP : PrimAt (.agg #[.int .u8 ((2 : Nat) : Int), .slice A2 (intB l).length m, .slice none 0 0]) w3 (w.heap.size + 1) 2 (intB l) := ⟨A2, m, rfl, HF3.out.1, hA2, intB_oct l, by omega⟩
  refine ⟨_, rfl, ?_, ((HQ3.out.setCell (p := ⟨w.heap.size, 0, none⟩) (Nat.le_refl _) _).setCell (p := ⟨w.heap.size, 1, none⟩) (Nat.le_refl _) _).setCell (p := ⟨w.heap.size, 2, none⟩) (Nat.le_refl _) _⟩
  rw [hmz] at hP
  exact (((hP.store (p := ⟨w.heap.size, 0, none⟩) (Nat.lt_succ_self _) _).store (p := ⟨w.heap.size, 1, none⟩) (Nat.lt_succ_self _) _).store (p := ⟨w.heap.size, 2, none⟩) (Nat.lt_succ_self _) _).mono (Nat.le_succ _)
set_option maxRecDepth 100000 in
set_option maxHeartbeats 2000000 in
theorem int'_any (w : World) (B : Nat) (A : Option Addr) (c n : Nat) (l : List Nat) (hr : Rd .u32 w B A c l) (hn : l.length = n) (hB : B ≤ w.heap.size) (hd : Dg l) (hok : okN l = true) :
    Calls Tryz.prog 21 #[.slice A n c] w fun e w' => ∃ v, e = .returned v ∧ PrimAt v w' w.heap.size 2 (intB l) ∧ Below w.heap.size w w' := by
  obtain ⟨h256, hnr⟩ := okN_iff.1 hok
  have hf := int_fits hd hnr h256
  obtain ⟨V, hV⟩ : ∃ V, V = w.alloc (.cells #[.int .u8 0, .slice none 0 0, .slice none 0 0] 31) := ⟨_, rfl⟩
  have HB0 : Hid (Below w.heap.size w V) := Lib.hid (by rw [hV]; exact (Below.refl _ _).alloc (Nat.le_refl _) _)
  have hz : Holds V w.heap.size 31 #[.int .u8 0, .slice none 0 0, .slice none 0 0] := by rw [hV]; exact Holds.fresh _ _ _
  have hVs : w.heap.size < V.heap.size := hz.lt
  have hrV : Rd .u32 V B A c l := hr.under (HB0.out.mono hB)
  have HBI := Lib.hid (bits'_at V B A c n l hrV hn hd (by omega) (nb l) rfl)
  obtain ⟨v, hv⟩ : ∃ v, v = nb l := ⟨_, rfl⟩
  have hv1 : v / 8 + 1 ≤ 1025 := by rw [hv]; exact hf
  have HBY : Hid (Calls Tryz.prog 35 #[.slice A n c, .int .i64 ((v : Int) / 8 + 1)] V fun e w' => ∃ A2, e = .returned (.tuple #[.slice A2 (v / 8 + 1) (v / 8 + 1), .bool true]) ∧ Fresh .u8 5 w' V.heap.size A2 (v / 8 + 1) (bytesOf l (v / 8 + 1)) ∧ Below V.heap.size V w') := Lib.hid (by
    have h := bytes'_yes V B A c n l hrV hn (by omega) hd (by omega) (v / 8 + 1) (by omega) (by rw [← hv]; omega)
    have e : ((v / 8 + 1 : Nat) : Int) = (v : Int) / 8 + 1 := by omega
    rw [e] at h
    exact h)
  have HI : Hid (bytesOf l (v / 8 + 1) = intB l) := Lib.hid (by rw [hv]; rfl)
  have HL : Hid ((intB l).length = v / 8 + 1) := Lib.hid (by rw [hv, intB_length])
  rw [← hv] at HBI
  have hm1 : 1 ≤ v / 8 + 1 := by omega
  generalize hm : v / 8 + 1 = m at *
  have HZ := Lib.hid hz
  have HV := Lib.hid hV
  have hv2 : v ≤ 9000 := by omega
  clear hr hn hd hok hnr hf hrV hv hm hz hV
  go_enter Tryz.func21, Tryz.ntmps21
  go_wp2_with fail
  rw [← HV.out]
  refine HBI.out.mono ?_
  rintro e w2 ⟨rfl, rfl⟩
  go_wp2_with fail
  refine HBY.out.mono ?_
  rintro e w3 ⟨A2, rfl, hf3, hb3⟩
  have HQ3 : Hid (Below w.heap.size w w3) := Lib.hid (HB0.out.trans (hb3.mono HB0.out.size))
  have HZ3 := Lib.hid (HZ.out.under hb3 hVs)
  have HPR := Lib.hid (prim'_own w3 m m 2 w3.heap.size A2 (intB l) (by have := hf3.1; rwa [HI.out] at this) HL.out (Nat.le_refl _) (by omega) (by omega) (intB_oct l))
  have hlt3 : w.heap.size < w3.heap.size := HZ3.out.lt
  clear HV HBI HBY HB0 hb3 hf3 HI
  go_wp2_with fail
  refine HPR.out.mono ?_
  rintro e w4 ⟨v4, rfl, hp4, hb4⟩
  have HQ4 : Hid (Below w.heap.size w w4) := Lib.hid (HQ3.out.trans (hb4.mono HQ3.out.size))
  have hz4 := HZ3.out.under hb4 hlt3
  have HP4 := Lib.hid hp4
  obtain ⟨A4, c4, rfl, _⟩ := hp4
  have z0 := hz4.cell 0
  have z1 := hz4.cell 1
  have z2 := hz4.cell 2
  have y0 := hz4.open_ 0
  have y1 := hz4.open_ 1
  have y2 := hz4.open_ 2
  clear hb4 HPR HZ3
  go_wp2_with fail
  refine ret_one rfl rfl (((hz4.stored 0 _).stored 1 _).stored 2 _) rfl ?_
  refine ⟨_, rfl, ?_, ((HQ4.out.setCell (p := ⟨w.heap.size, 0, none⟩) (Nat.le_refl _) _).setCell (p := ⟨w.heap.size, 1, none⟩) (Nat.le_refl _) _).setCell (p := ⟨w.heap.size, 2, none⟩) (Nat.le_refl _) _⟩
  exact (((HP4.out.store (p := ⟨w.heap.size, 0, none⟩) hlt3 _).store (p := ⟨w.heap.size, 1, none⟩) hlt3 _).store (p := ⟨w.heap.size, 2, none⟩) hlt3 _).mono HQ3.out.size
end Go.Proofs.YtbkjjhpnjfdlbaaGreatDoor
