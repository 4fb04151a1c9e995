/-
  The law of one block.
-/
import Derived.Test.YtoggfooeeafadaaDoorSha11
import Derived.ChangeKeysEq
import Derived.Deep.RegionLaw
import Derived.Deep.DrawnRows
import Derived.StillTailTactics
import Derived.BigQuiet
import Derived.Deep.QuietTactic
namespace Go.Proofs.YtoggfooeeafadaaDoor
open Go.RowKit
set_option linter.unusedVariables false
attribute [local go_sem ↓] Go.wp_at_zero Go.wp_at_succ

theorem guard8 : Tryd.prog.eqGuardType Tryd.prog.depth 28 = false := by kernel_rfl
theorem u32_info : ∃ i, Tryd.prog.info? 27 = some i := Option.isSome_iff_exists.1 (show (Tryd.prog.info? 27).isSome = true by kernel_rfl)
theorem cells_u32 : Tryd.prog.cellsOf 27 = 1 := by kernel_rfl
theorem eq_u32 (d : Nat) (W : World) (a b : Int) : (Op.equalIn (d + 1) 27 (.int .u32 a) (.int .u32 b)).run Tryd.prog W = .ok (a == b) W := by
  simp [Op.equalIn, run_underlying Tryd.underlying27]
theorem plain_u32 : Tryd.prog.plainKey 27 = true := by kernel_rfl
theorem eq8 (s : St) (W : World) : (Op.equalIn 10000 28 (.agg (nums .u32 s.list)) (.agg (nums .u32 s.list))).run Tryd.prog W = .ok true W := by
  obtain ⟨i, hi⟩ := u32_info
  have hp : ∀ (xs : Array Value) (j : Nat) (v : Value) (W : World), xs[j]? = some v → (Go.part 27 xs j).run Tryd.prog W = .ok v W := fun xs j v W h => run_part_plain W plain_u32 h
  have hq : ∀ (W : World) (a : Int), (Op.equalIn 9999 27 (.int .u32 a) (.int .u32 a)).run Tryd.prog W = .ok true W := fun W a => by
    have := eq_u32 9998 W a a
    rw [beq_self_eq_true] at this
    exact this
  refine (run_equalIn_array W 9999 _ _ Tryd.underlying28 hi).trans ?_
  rw [cells_u32]
  have key : ∀ (xs : Array Value) (is : List Nat), (∀ j ∈ is, ∃ v : Int, xs[j]? = some (.int .u32 v)) → ∀ W, (Op.eqItems 9999 27 1 xs xs is).run Tryd.prog W = .ok true W := by
    intro xs is
    induction is with
    | nil => intro _ W; rfl
    | cons j is ih =>
      intro h W
      obtain ⟨v, hv⟩ := h j (by simp)
      have h1 := hp xs (j * 1) (.int .u32 v) W (by rw [Nat.mul_one]; exact hv)
      have h2 := hq W v
      have h3 := ih (fun k hk => h k (by simp [hk])) W
      simp only [Op.eqItems, Sem.run_bind, h1, Result.andThen_ok, h2, Bool.not_true, Bool.false_eq_true, if_false, h3]
  apply key
  intro j hj
  have hj8 : j < 8 := by simpa using hj
  exact ⟨_, nums_at .u32 s.list (by show j < 8; exact hj8)⟩

set_option maxRecDepth 100000 in
set_option maxHeartbeats 1000000 in
theorem law_block (w : World) (s : St) (hs : s.Ok) (B : Nat) (A : Option Addr) (c n : Nat) (l : List Nat) (hl : l.length = n) (hr : Rd .u8 w B A c l) (hB : B ≤ w.heap.size) (ho : Oct6 l) (hk : KMet w) :
    Calls Tryd.prog 4 #[.agg (nums .u32 s.list), .slice A n c] w fun e w' => e = .returned (.bool true) ∧ Below w.heap.size w w' := by
  have hb0 : Below w.heap.size w (w.alloc (.cells (nums .u32 s.list) 28)) := (Below.refl _ _).alloc (Nat.le_refl _) _
  have hrow0 : Row .u32 28 (w.alloc (.cells (nums .u32 s.list) 28)) w.heap.size s.list := Holds.fresh _ _ _
  have HB0 := Lib.hid hb0
  have HK := Lib.hid (hk.under hb0)
  have HR := Lib.hid (hr.under (hb0.mono hB))
  have g8 := guard8
  have h8 := eq8
  have HL := Lib.hid hl
  have HO := Lib.hid ho
  have HS := Lib.hid hs
  have hi := st_info s
  clear hl hr ho hk hs hb0
  by_cases hn : 200 < n
  · have hnB : decide ((200 : Int) < (n : Int)) = true := decide_eq_true (by omega)
    go_enter Tryd.func4, Tryd.ntmps4
    go_wp2_with fail
    generalize w.alloc _ = W at *
    go_quiet (fail)
    go_wp2_with fail
    go_ret
    exact ⟨rfl, HB0.out.trans ⟨rfl, rfl, rfl, Nat.le_refl _, fun _ _ => rfl⟩⟩
  · have hnB : decide ((200 : Int) < (n : Int)) = false := decide_eq_false (by omega)
    go_enter Tryd.func4, Tryd.ntmps4
    go_wp2_with fail
    generalize w.alloc _ = W at *
    have c0 : W.cell? ⟨w.heap.size, 0, none⟩ = some (.int .u32 (s.a : Int)) := hrow0.cell (i := 0) (by show 0 < 8; omega)
    have c1 : W.cell? ⟨w.heap.size, 1, none⟩ = some (.int .u32 (s.b : Int)) := hrow0.cell (i := 1) (by show 1 < 8; omega)
    have c2 : W.cell? ⟨w.heap.size, 2, none⟩ = some (.int .u32 (s.c : Int)) := hrow0.cell (i := 2) (by show 2 < 8; omega)
    have c3 : W.cell? ⟨w.heap.size, 3, none⟩ = some (.int .u32 (s.d : Int)) := hrow0.cell (i := 3) (by show 3 < 8; omega)
    have c4 : W.cell? ⟨w.heap.size, 4, none⟩ = some (.int .u32 (s.e : Int)) := hrow0.cell (i := 4) (by show 4 < 8; omega)
    have c5 : W.cell? ⟨w.heap.size, 5, none⟩ = some (.int .u32 (s.f : Int)) := hrow0.cell (i := 5) (by show 5 < 8; omega)
    have c6 : W.cell? ⟨w.heap.size, 6, none⟩ = some (.int .u32 (s.g : Int)) := hrow0.cell (i := 6) (by show 6 < 8; omega)
    have c7 : W.cell? ⟨w.heap.size, 7, none⟩ = some (.int .u32 (s.h : Int)) := hrow0.cell (i := 7) (by show 7 < 8; omega)
    have hlt := Holds.lt hrow0
    have HR0 := Lib.hid (show Row .u32 28 W.drew w.heap.size s.list from hrow0)
    have HBD := Lib.hid ((Below.refl W.heap.size W).drew)
    have HLT := Lib.hid hlt
    have HC1 := Lib.hid (block_any W.drew s HS.out B A c n l HL.out HR.out (Nat.le_trans hB (HB0.out.size)) HO.out HK.out)
    rw [nums_list] at HC1
    have HB1 := Lib.hid (Nat.le_trans hB HB0.out.size)
    clear hlt
    go_region_law (first
      | (go_simp; go_at_call 10; refine HC1.out.mono ?_; intro e w1 hp; obtain ⟨rfl, hb1⟩ := hp; have hrow1 := Holds.under HR0.out hb1 HLT.out; have d0 : w1.cell? ⟨w.heap.size, 0, none⟩ = some (.int .u32 (s.a : Int)) := (show Row .u32 28 w1 w.heap.size s.list from hrow1).cell (i := 0) (by show 0 < 8; omega); have d1 : w1.cell? ⟨w.heap.size, 1, none⟩ = some (.int .u32 (s.b : Int)) := (show Row .u32 28 w1 w.heap.size s.list from hrow1).cell (i := 1) (by show 1 < 8; omega); have d2 : w1.cell? ⟨w.heap.size, 2, none⟩ = some (.int .u32 (s.c : Int)) := (show Row .u32 28 w1 w.heap.size s.list from hrow1).cell (i := 2) (by show 2 < 8; omega); have d3 : w1.cell? ⟨w.heap.size, 3, none⟩ = some (.int .u32 (s.d : Int)) := (show Row .u32 28 w1 w.heap.size s.list from hrow1).cell (i := 3) (by show 3 < 8; omega); have d4 : w1.cell? ⟨w.heap.size, 4, none⟩ = some (.int .u32 (s.e : Int)) := (show Row .u32 28 w1 w.heap.size s.list from hrow1).cell (i := 4) (by show 4 < 8; omega); have d5 : w1.cell? ⟨w.heap.size, 5, none⟩ = some (.int .u32 (s.f : Int)) := (show Row .u32 28 w1 w.heap.size s.list from hrow1).cell (i := 5) (by show 5 < 8; omega); have d6 : w1.cell? ⟨w.heap.size, 6, none⟩ = some (.int .u32 (s.g : Int)) := (show Row .u32 28 w1 w.heap.size s.list from hrow1).cell (i := 6) (by show 6 < 8; omega); have d7 : w1.cell? ⟨w.heap.size, 7, none⟩ = some (.int .u32 (s.h : Int)) := (show Row .u32 28 w1 w.heap.size s.list from hrow1).cell (i := 7) (by show 7 < 8; omega); have HQ := Lib.hid (HBD.out.trans hb1); clear hrow1 hb1; go_simp)
      | (go_simp; go_at_call 11; refine (Calls.mono (by rw [← nums_list]; exact block'_any _ s HS.out B A c n l HL.out (HR.out.under (HQ.out.mono HB1.out)) (Nat.le_trans HB1.out HQ.out.size) HO.out)) ?_; intro e w2 hp; obtain ⟨rfl, hb2⟩ := hp; have HQ2 := Lib.hid (HQ.out.trans (hb2.mono HQ.out.size)); clear hb2; go_simp)
      | (go_simp; go_at_call 9; refine (known6_any _ (HK.out.under HQ2.out)).mono ?_; intro e w3 hp; obtain ⟨rfl, hb3⟩ := hp; have HQ3 := Lib.hid (HQ2.out.trans (hb3.mono HQ2.out.size)); clear hb3; go_simp))
    all_goals
      go_wp2_with fail
      go_ret
      exact ⟨rfl, HB0.out.trans (HQ3.out.mono HB0.out.size)⟩
end Go.Proofs.YtoggfooeeafadaaDoor
