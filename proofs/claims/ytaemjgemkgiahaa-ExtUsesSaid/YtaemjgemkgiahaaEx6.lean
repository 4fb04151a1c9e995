/-
  Nothing said: the known answers.
-/
import Derived.Test.YtaemjgemkgiahaaEx5
import Derived.Laws.IdiomStrings
import Derived.Laws.BytesArg
namespace Go.Proofs.Ytaemjgemkgiahaa
open Go.RowKit
set_option linter.unusedVariables false
set_option linter.unusedSimpArgs false
attribute [local go_sem ↓] Go.wp_at_zero Go.wp_at_succ

theorem ret_ext {R : Ending → World → Prop} {tmps : Array Value} {w : World} {g : Nat} {t : TypeId} {cs : Array Value} {v : Value} {fn : Func} {p u : Tmp}
    (hr : fn.results = #[.cell p 26, .tmp u]) (hp : tmps.getD p undef = .pointer (some ⟨g, 0, none⟩)) (hu : tmps.getD u undef = v) (hg : Holds w g t cs) (hcs : cs.size = 3) (hR : R (.returned (.tuple #[.agg cs, v])) w) :
    bodyPost Try.prog fn R .ret { tmps := tmps, defers := [] } w := by
  have hi : (Try.prog.info? 26).map (·.size) = some cs.size := by rw [hcs]; kernel_rfl
  refine bodyPost_ret (v := .tuple #[.agg cs, v]) ?_ rfl hR
  rw [results_cell_tmp hr]
  have hp' : tmps[p]?.getD undef = .pointer (some ⟨g, 0, none⟩) := by simpa using hp
  have hu' : tmps[u]?.getD undef = v := by simpa using hu
  simp [hp', hu', asAddr, run_loadVar_row w g t _ cs (0, 0) _ hg Try.underlying26 rfl hi, Result.andThen]
theorem ret_basic {R : Ending → World → Prop} {tmps : Array Value} {w : World} {g : Nat} {t : TypeId} {cs : Array Value} {v : Value} {fn : Func} {p u : Tmp}
    (hr : fn.results = #[.cell p 55, .tmp u]) (hp : tmps.getD p undef = .pointer (some ⟨g, 0, none⟩)) (hu : tmps.getD u undef = v) (hg : Holds w g t cs) (hcs : cs.size = 2) (hR : R (.returned (.tuple #[.agg cs, v])) w) :
    bodyPost Try.prog fn R .ret { tmps := tmps, defers := [] } w := by
  have hi : (Try.prog.info? 55).map (·.size) = some cs.size := by rw [hcs]; kernel_rfl
  refine bodyPost_ret (v := .tuple #[.agg cs, v]) ?_ rfl hR
  rw [results_cell_tmp hr]
  have hp' : tmps[p]?.getD undef = .pointer (some ⟨g, 0, none⟩) := by simpa using hp
  have hu' : tmps[u]?.getD undef = v := by simpa using hu
  simp [hp', hu', asAddr, run_loadVar_row w g t _ cs (0, 0) _ hg Try.underlying55 rfl hi, Result.andThen]
theorem ret_node3 {R : Ending → World → Prop} {tmps : Array Value} {w : World} {g : Nat} {t : TypeId} {cs : Array Value} {v v' : Value} {fn : Func} {p u u' : Tmp}
    (hr : fn.results = #[.cell p 35, .tmp u, .tmp u']) (hp : tmps.getD p undef = .pointer (some ⟨g, 0, none⟩)) (hu : tmps.getD u undef = v) (hu2 : tmps.getD u' undef = v') (hg : Holds w g t cs) (hcs : cs.size = 3) (hR : R (.returned (.tuple #[.agg cs, v, v'])) w) :
    bodyPost Try.prog fn R .ret { tmps := tmps, defers := [] } w := by
  have hi : (Try.prog.info? 35).map (·.size) = some cs.size := by rw [hcs]; kernel_rfl
  refine bodyPost_ret (v := .tuple #[.agg cs, v, v']) ?_ rfl hR
  have hp' : tmps[p]?.getD undef = .pointer (some ⟨g, 0, none⟩) := by simpa using hp
  have hu' : tmps[u]?.getD undef = v := by simpa using hu
  have hu2' : tmps[u']?.getD undef = v' := by simpa using hu2
  simp [results, hr, hp', hu', hu2', asAddr, run_loadVar_row w g t _ cs (0, 0) _ hg Try.underlying35 rfl hi, Result.andThen]
set_option maxRecDepth 100000 in
set_option maxHeartbeats 1000000 in
theorem find_nil (w : World) (A : Option Addr) (n c : Nat) :
    Calls Try.prog 8 #[.slice none 0 0, .slice A n c] w fun e w' => e = .returned (.tuple #[.agg #[.slice none 0 0, .bool false, .slice none 0 0], .bool false]) ∧ Below w.heap.size w w' := by
  have hz := Holds.fresh w 26 #[.slice none 0 0, .bool false, .slice none 0 0]
  have HZ := Lib.hid hz
  have HB : Hid (Below w.heap.size w (w.alloc (.cells #[.slice none 0 0, .bool false, .slice none 0 0] 26))) := Lib.hid ((Below.refl _ _).alloc (Nat.le_refl _) _)
  clear hz
  go_enter Try.func8, Try.ntmps8
  go_wp2_with fail
  go_loopw [10] (fun iv wr => iv = .int .i64 0 ∧ Holds wr w.heap.size 26 #[.slice none 0 0, .bool false, .slice none 0 0] ∧ Below w.heap.size w wr) (fun _ _ => 0)
  case atStart => exact ⟨rfl, HZ.out, HB.out⟩
  case round =>
    obtain ⟨rfl, hz, hB⟩ := hrel
    have z0 := hz.cell 0
    have z1 := hz.cell 1
    have z2 := hz.cell 2
    have y0 := hz.open_ 0
    have y1 := hz.open_ 1
    have y2 := hz.open_ 2
    have HZ2 := Lib.hid hz
    have HB2 := Lib.hid hB
    clear hz hB
    go_wp2_with fail
    exact ret_ext rfl rfl rfl (((HZ2.out.stored 0 _).stored 1 _).stored 2 _) rfl ⟨rfl, below_out HB2.out _ _ _⟩
set_option maxRecDepth 100000 in
set_option maxHeartbeats 1000000 in
theorem value_nil (w : World) (s : ByteArray) (hs : s.size ≤ 1000) :
    Calls Try.prog 50 #[.slice none 0 0, .string s] w fun e w' => e = .returned (.tuple #[.agg #[.int .u8 0, .slice none 0 0, .slice none 0 0], .bool false, .bool true]) ∧ Below w.heap.size w w' := by
  obtain ⟨V, hV⟩ : ∃ V, V = w.alloc (.cells #[.int .u8 0, .slice none 0 0, .slice none 0 0] 35) := ⟨_, rfl⟩
  have hz : Holds V w.heap.size 35 #[.int .u8 0, .slice none 0 0, .slice none 0 0] := by rw [hV]; exact Holds.fresh _ _ _
  have HB0 : Hid (Below w.heap.size w V) := Lib.hid (by rw [hV]; exact (Below.refl _ _).alloc (Nat.le_refl _) _)
  have hc := run_bytes_of_string (P := Try.prog) V 9 23 5 s Try.underlying9 Try.underlying23 Try.underlying5
  obtain ⟨W, sv, hc2, hbW⟩ : ∃ (W : World) (sv : Option Addr × Nat × Nat), (convert 9 23 (.string s)).run Try.prog V = .ok (.slice sv.1 sv.2.1 sv.2.2) W ∧ Below V.heap.size V W := ⟨_, (_, _, _), hc, (Below.refl _ _).drew.alloc (Nat.le_refl _) _⟩
  clear hc
  have HBW := Lib.hid (HB0.out.trans (hbW.mono HB0.out.size))
  have HZW := Lib.hid (hz.under hbW hz.lt)
  have HF := Lib.hid (find_nil W sv.1 sv.2.1 sv.2.2)
  have hlt : w.heap.size < W.heap.size := HZW.out.lt
  rw [hV] at hc2
  clear hz hbW hV
  obtain ⟨sa, sn, sc⟩ := sv
  dsimp only at hc2 HF
  go_enter Try.func50, Try.ntmps50
  go_wp2_with fail
  refine HF.out.mono ?_
  rintro e w2 ⟨rfl, hb2⟩
  have HB2 := Lib.hid (HBW.out.trans (hb2.mono HBW.out.size))
  have HZ2 := Lib.hid (HZW.out.under hb2 hlt)
  have hq : Below w2.heap.size w2 (w2.alloc (.cells #[.slice none 0 0, .bool false, .slice none 0 0] 26)) := (Below.refl _ _).alloc (Nat.le_refl _) _
  have hz3 := HZ2.out.alloc (.cells #[.slice none 0 0, .bool false, .slice none 0 0] 26)
  have HB3 := Lib.hid (HB2.out.trans (hq.mono HB2.out.size))
  have z0 := hz3.cell 0
  have z1 := hz3.cell 1
  have z2 := hz3.cell 2
  have y0 := hz3.open_ 0
  have y1 := hz3.open_ 1
  have y2 := hz3.open_ 2
  have HZ3 := Lib.hid hz3
  clear hb2 hq hz3 HF hc2
  go_wp2_with fail
  exact ret_node3 rfl rfl rfl rfl (((HZ3.out.stored 0 _).stored 1 _).stored 2 _) rfl ⟨rfl, below_out HB3.out _ _ _⟩
set_option maxRecDepth 100000 in
set_option maxHeartbeats 1000000 in
theorem basic_nil (w : World) :
    Calls Try.prog 29 #[.slice none 0 0] w fun e w' => e = .returned (.tuple #[.agg #[.bool false, .int .i64 (-1)], .bool true]) ∧ Below w.heap.size w w' := by
  obtain ⟨V, hV⟩ : ∃ V, V = w.alloc (.cells #[.bool false, .int .i64 0] 55) := ⟨_, rfl⟩
  have hz : Holds V w.heap.size 55 #[.bool false, .int .i64 0] := by rw [hV]; exact Holds.fresh _ _ _
  have HB0 : Hid (Below w.heap.size w V) := Lib.hid (by rw [hV]; exact (Below.refl _ _).alloc (Nat.le_refl _) _)
  have hlt : w.heap.size < V.heap.size := hz.lt
  have HZ := Lib.hid hz
  have HV := Lib.hid hV
  clear hz hV
  go_enter Try.func29, Try.ntmps29
  go_wp2_with fail
  rw [← HV.out]
  refine (value_nil V _ (by decide)).mono ?_
  rintro e w2 ⟨rfl, hb2⟩
  have hq : Below w2.heap.size w2 (w2.alloc (.cells #[.int .u8 0, .slice none 0 0, .slice none 0 0] 35)) := (Below.refl _ _).alloc (Nat.le_refl _) _
  have HB2 := Lib.hid (HB0.out.trans (hb2.mono HB0.out.size))
  have HB3 := Lib.hid (HB2.out.trans (hq.mono HB2.out.size))
  have hz3 := (HZ.out.under hb2 hlt).alloc (.cells #[.int .u8 0, .slice none 0 0, .slice none 0 0] 35)
  have z0 := hz3.cell 0
  have z1 := hz3.cell 1
  have y0 := hz3.open_ 0
  have y1 := hz3.open_ 1
  have HZ3 := Lib.hid hz3
  clear hb2 hq hz3 HV
  go_wp2_with fail
  exact ret_basic rfl rfl rfl ((HZ3.out.stored 0 _).stored 1 _) rfl ⟨rfl, (HB3.out.setCell (p := ⟨w.heap.size, 0, none⟩) (Nat.le_refl _) _).setCell (p := ⟨w.heap.size, 1, none⟩) (Nat.le_refl _) _⟩
set_option maxRecDepth 100000 in
set_option maxHeartbeats 1000000 in
theorem usage_nil (w : World) :
    Calls Try.prog 30 #[.slice none 0 0] w fun e w' => e = .returned (.tuple #[.int .u8 0, .bool false, .bool true]) ∧ Below w.heap.size w w' := by
  go_enter Try.func30, Try.ntmps30
  go_wp2_with fail
  refine (value_nil w _ (by decide)).mono ?_
  rintro e w2 ⟨rfl, hb2⟩
  have HB3 : Hid (Below w.heap.size w (w2.alloc (.cells #[.int .u8 0, .slice none 0 0, .slice none 0 0] 35))) := Lib.hid (hb2.alloc hb2.size _)
  clear hb2
  go_wp2_with fail
  go_ret3
  exact ⟨rfl, HB3.out⟩
set_option maxRecDepth 100000 in
theorem odd_nil (w : World) :
    Calls Try.prog 31 #[.slice none 0 0] w fun e w' => e = .returned (.bool false) ∧ Below w.heap.size w w' := by
  go_enter Try.func31, Try.ntmps31
  go_wp2_with fail
  go_loopw [7] (fun iv wr => iv = .int .i64 0 ∧ Below w.heap.size w wr) (fun _ _ => 0)
  case atStart => exact ⟨rfl, Below.refl _ _⟩
  case round =>
    obtain ⟨rfl, hB⟩ := hrel
    go_wp2_with fail
    go_ret
    exact ⟨rfl, hB⟩
theorem isNil (w : World) : Calls Try.prog 10 #[.slice none 0 0] w fun e w' => e = .returned (.bool true) ∧ Below w.heap.size w w' := by
  have h := exIs_any w none 0 0 [] (XP.none w) rfl (by simp)
  rwa [show exIs (([] : List Ex).map Ex.v) = true from exIs_iff.2 ⟨by simp, fun i hi => by simp at hi⟩] at h
set_option maxRecDepth 100000 in
set_option maxHeartbeats 1000000 in
theorem known17_any (w : World) : Calls Try.prog 12 #[] w fun e w' => e = .returned (.bool true) ∧ Below w.heap.size w w' := by
  go_enter Try.func12, Try.ntmps12
  go_wp2_with fail
  refine (basic_nil w).mono ?_
  rintro e w1 ⟨rfl, hb1⟩
  have hH := Holds.fresh w1 55 #[.bool false, .int .i64 (-1)]
  have HB2 : Hid (Below w.heap.size w (w1.alloc (.cells #[.bool false, .int .i64 (-1)] 55))) := Lib.hid (hb1.alloc hb1.size _)
  have HH := Lib.hid hH
  clear hb1 hH
  go_wp2_with fail
  refine (usage_nil _).mono ?_
  rintro e w3 ⟨rfl, hb3⟩
  have HB3 := Lib.hid (HB2.out.trans (hb3.mono HB2.out.size))
  have hH3 := HH.out.under hb3 HH.out.lt
  have z0 := hH3.cell 0
  have z1 := hH3.cell 1
  clear hb3 hH3
  go_wp2_with fail
  refine (isNil w3).mono ?_
  rintro e w4 ⟨rfl, hb4⟩
  have HB4 := Lib.hid (HB3.out.trans (hb4.mono HB3.out.size))
  clear hb4 z0 z1
  go_wp2_with fail
  refine (odd_nil w4).mono ?_
  rintro e w5 ⟨rfl, hb5⟩
  have HB5 := Lib.hid (HB4.out.trans (hb5.mono HB4.out.size))
  clear hb5
  go_wp2_with fail
  go_ret
  exact ⟨rfl, HB5.out⟩
end Go.Proofs.Ytaemjgemkgiahaa
