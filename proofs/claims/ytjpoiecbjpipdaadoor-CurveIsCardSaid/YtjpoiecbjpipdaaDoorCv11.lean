/-
  The first point; whether two are one.
-/
import Derived.Test.YtjpoiecbjpipdaaDoorBoxP
import Derived.Deep.RegionLaw
import Derived.Deep.DrawnRows
import Derived.StillTailTactics
namespace Go.Proofs.YtjpoiecbjpipdaaDoor
open Go.RowKit
set_option linter.unusedVariables false
set_option linter.unusedSimpArgs false

def RelQ (w : World) (n : Nat) (i : Value) (wr : World) : Prop := ∃ k q : Nat, k ≤ n ∧ i = .int .i64 (k : Int) ∧ Hid (wr = w.drewN q)
set_option maxRecDepth 100000 in
set_option maxHeartbeats 2000000 in
/-- The same digits. -/
theorem eqn_yes (w : World) (A A' : Option Addr) (c c' B B' : Nat) (l : List Nat) (hr : Rd .u32 w B A c l) (hr' : Rd .u32 w B' A' c' l) :
    Calls Tryd.prog 50 #[.slice A l.length c, .slice A' l.length c'] w fun e w' => e = .returned (.bool true) ∧ ∃ q, w' = w.drewN q := by
  have hc : l.length ≤ c := hr.1
  have hc63 : c ≤ 9223372036854775807 := hr.2.1
  have hc' : l.length ≤ c' := hr'.1
  have HR := Lib.hid hr
  have HR' := Lib.hid hr'
  have HS : RelQ w l.length (.int .i64 0) w := ⟨0, 0, Nat.zero_le _, rfl, Lib.hid rfl⟩
  clear hr hr'
  go_enter Tryd.func50, Tryd.ntmps50
  go_wp2_with fail
  go_loopw [13] (fun i wr => RelQ w l.length i wr) (fun i _ => l.length - (intOf i).toNat)
  case atStart => exact HS
  case round =>
    obtain ⟨k, q, hk, rfl, HQ⟩ := hrel
    obtain ⟨V, hV⟩ : ∃ V, V = wr := ⟨_, rfl⟩
    subst hV
    by_cases hlt : k < l.length
    · have t1 : decide ((k : Int) < (l.length : Int)) = true := decide_eq_true (by omega)
      obtain ⟨b, off, x, hA, _, cx, Hx⟩ := (HR.out.drewN q).at_ hlt
      obtain ⟨b', off', x', hA', _, cx', Hx'⟩ := (HR'.out.drewN q).at_ hlt
      have hxx : x' = x := by rw [Hx.out, Hx'.out]
      subst hxx
      subst hA
      subst hA'
      rw [← HQ.out] at cx cx'
      have b1 : (k : Int) < (l.length : Int) := by omega
      have b4 : (0 : Int) ≤ k := by omega
      have HN : Hid (RelQ w l.length (.int .i64 ((k : Int) + 1)) V.drew) := Lib.hid ⟨k + 1, q + 1, by omega, by push_cast; rfl, Lib.hid (by rw [HQ.out]; rfl)⟩
      have hk1 : IntKind.i64.wrap ((k : Int) + 1) = (k : Int) + 1 := IntWalk.i64_in _ (by omega)
      clear Hx Hx' HQ
      go_wp2_with fail
      go_region
      all_goals go_wp2_with fail
      all_goals exact ⟨HN.out, by simp [intOf]; omega⟩
    · obtain rfl : k = l.length := by omega
      have t1 : decide ((l.length : Int) < (l.length : Int)) = false := decide_eq_false (by omega)
      go_wp2_with fail
      go_ret
      exact ⟨rfl, q, HQ.out⟩
/-- The first point, made anew. -/
def GAt (w : World) (e : Ending) (w' : World) : Prop :=
  ∃ gx gy, e = .returned (.agg #[.slice (some ⟨gx, 0, none⟩) 8 8, .slice (some ⟨gy, 0, none⟩) 8 8, .bool false]) ∧ Row .u32 28 w' gx lX ∧ Row .u32 28 w' gy lY ∧ Below w.heap.size w w'
theorem ret_pt {R : Ending → World → Prop} {tmps : Array Value} {w : World} {g : Nat} {t : TypeId} {cs : Array Value} {fn : Func} {p : Tmp}
    (hr : fn.results = #[.cell p 25]) (hp : tmps.getD p undef = .pointer (some ⟨g, 0, none⟩)) (hg : Holds w g t cs) (hcs : cs.size = 3) (hR : R (.returned (.agg cs)) w) :
    bodyPost Tryd.prog fn R .ret { tmps := tmps, defers := [] } w := by
  have hi : (Tryd.prog.info? 25).map (·.size) = some cs.size := by rw [hcs]; kernel_rfl
  refine bodyPost_ret (v := .agg cs) ?_ rfl hR
  have hp' : tmps[p]?.getD undef = .pointer (some ⟨g, 0, none⟩) := by simpa using hp
  simp [results, hr, hp', asAddr, run_loadVar_row w g t _ cs (0, 0) _ hg Tryd.underlying25 rfl hi, Result.andThen]
set_option maxRecDepth 100000 in
theorem curveG_any (w : World) : Calls Tryd.prog 26 #[] w (GAt w) := by
  go_enter Tryd.func26, Tryd.ntmps26
  go_wp2_with fail
  generalize hw1 : w.alloc (.cells #[.slice (some ⟨w.heap.size + 1, 0, none⟩) 8 8, .slice (some ⟨w.heap.size + 1 + 1, 0, none⟩) 8 8, .bool false] 25) = w1
  have hz1 : w1.heap.size = w.heap.size + 1 := by rw [← hw1]; simp
  generalize hw2 : w1.alloc (.cells #[.int .u32 3633889942, .int .u32 4104206661, .int .u32 770388896, .int .u32 1996717441, .int .u32 1671708914, .int .u32 4173129445, .int .u32 3777774151, .int .u32 1796723186] 28) = w2
  have hz2 : w2.heap.size = w.heap.size + 1 + 1 := by rw [← hw2]; simp [hz1]
  generalize hw3 : w2.alloc (.cells #[.int .u32 935285237, .int .u32 3417718888, .int .u32 1798397646, .int .u32 734933847, .int .u32 2081398294, .int .u32 2397563722, .int .u32 4263149467, .int .u32 1340293858] 28) = w3
  have hP : Holds w3 w.heap.size 25 #[.slice (some ⟨w.heap.size + 1, 0, none⟩) 8 8, .slice (some ⟨w.heap.size + 1 + 1, 0, none⟩) 8 8, .bool false] := by
    rw [← hw3, ← hw2, ← hw1]
    exact ((Holds.fresh w _ _).alloc _).alloc _
  have hGX : Row .u32 28 w3 (w.heap.size + 1) lX := by
    rw [← hw3, ← hw2, ← hz1]
    exact (Holds.fresh w1 _ _).alloc _
  have hGY : Row .u32 28 w3 (w.heap.size + 1 + 1) lY := by
    rw [← hw3, ← hz2]
    exact Holds.fresh w2 _ _
  have hb : Below w.heap.size w w3 := by
    rw [← hw3, ← hw2, ← hw1]
    exact (((Below.refl _ _).alloc (Nat.le_refl _) _).alloc (by simp) _).alloc (by simp; omega) _
  exact ret_pt rfl rfl hP rfl ⟨_, _, rfl, hGX, hGY, hb⟩
set_option maxRecDepth 100000 in
theorem refG_any (w : World) : Calls Tryd.prog 14 #[] w (GAt w) := by
  go_enter Tryd.func14, Tryd.ntmps14
  go_wp2_with fail
  generalize hw1 : w.alloc (.cells #[.slice (some ⟨w.heap.size + 1, 0, none⟩) 8 8, .slice (some ⟨w.heap.size + 1 + 1, 0, none⟩) 8 8, .bool false] 25) = w1
  have hz1 : w1.heap.size = w.heap.size + 1 := by rw [← hw1]; simp
  generalize hw2 : w1.alloc (.cells #[.int .u32 3633889942, .int .u32 4104206661, .int .u32 770388896, .int .u32 1996717441, .int .u32 1671708914, .int .u32 4173129445, .int .u32 3777774151, .int .u32 1796723186] 28) = w2
  have hz2 : w2.heap.size = w.heap.size + 1 + 1 := by rw [← hw2]; simp [hz1]
  generalize hw3 : w2.alloc (.cells #[.int .u32 935285237, .int .u32 3417718888, .int .u32 1798397646, .int .u32 734933847, .int .u32 2081398294, .int .u32 2397563722, .int .u32 4263149467, .int .u32 1340293858] 28) = w3
  have hP : Holds w3 w.heap.size 25 #[.slice (some ⟨w.heap.size + 1, 0, none⟩) 8 8, .slice (some ⟨w.heap.size + 1 + 1, 0, none⟩) 8 8, .bool false] := by
    rw [← hw3, ← hw2, ← hw1]
    exact ((Holds.fresh w _ _).alloc _).alloc _
  have hGX : Row .u32 28 w3 (w.heap.size + 1) lX := by
    rw [← hw3, ← hw2, ← hz1]
    exact (Holds.fresh w1 _ _).alloc _
  have hGY : Row .u32 28 w3 (w.heap.size + 1 + 1) lY := by
    rw [← hw3, ← hz2]
    exact Holds.fresh w2 _ _
  have hb : Below w.heap.size w w3 := by
    rw [← hw3, ← hw2, ← hw1]
    exact (((Below.refl _ _).alloc (Nat.le_refl _) _).alloc (by simp) _).alloc (by simp; omega) _
  exact ret_pt rfl rfl hP rfl ⟨_, _, rfl, hGX, hGY, hb⟩
end Go.Proofs.YtjpoiecbjpipdaaDoor
