/-
  Proved: any extensions' thing, and back, if they are such; the one of any ID (statement ExtNodes). No condition.
-/
import Derived.Test.YtaemjgemkgiahaaRows
import Derived.WalkKit
import Derived.ProofKit
import Derived.OpenShut
import Derived.ShutString
import Derived.ChangeOld
import Derived.Below
import Derived.Lib.SmallJoins
import Derived.ChangeArms
import Derived.SizedLaws
import Derived.Test.YtaemjgemkgiahaaOpenB
import Derived.Test.YtaemjgemkgiahaaOpenX
import Derived.Test.YtaemjgemkgiahaaExN
namespace Go.Proofs.Ytaemjgemkgiahaa.extNodes
open Go.ChangeShapes Go.WideShapes Go.ChangeAt Go.RowKit
set_option linter.unusedVariables false

theorem own : ownKnob Try.prog.godebug = none := by kernel_rfl
theorem laidOut : laidOutB Try.prog = true := by kernel_rfl

set_option maxRecDepth 100000 in
theorem lifted (os : Os) (started : os.Started) (H : Type) (enc : TypeId × Value → H) :
    ReturnsInHanded {} Try.checked os 3 .any (Rows.extNodesSpec.pre6 enc Try.prog Try.f3 Rows.extNodesRow.domain false) (Rows.extNodesSpec.post enc Try.prog Try.f3 false true false false) := by
  refine returnsInHanded_of_change_sized (C := Try.checked) own started (by kernel_rfl) Try.func3
    (ChangeSpec.witness6 (enc := enc) (C := Try.checked) false ⟨#[], #[.slice none 0 0, .slice none 0 0], []⟩ 8 (by kernel_rfl) (by kernel_rfl) (by kernel_rfl) (by kernel_rfl)) ?_
  intro W base args ds gs before hval0 hW hcnd hsz0 _
  have hval : ∀ (j : Nat) t v, Try.f3.params[j]? = some t → args[j]? = some v → Value.okWide Try.prog W .any base t v := hval0
  have hsz : (DataW.weightsEach Try.prog (Try.f3.params.toList ++ Rows.extNodesSpec.plain.varTypes Try.prog) (ds ++ gs)).all (· ≤ reachBytes) = true := hsz0
  have hW' := hW
  obtain ⟨p, q, hA0, hV, rfl, hfz, hnd⟩ := hW
  have hA : DataW.TrodAll enc Try.prog W 0 (fun _ => true) true Try.f3.params.toList args.toList ds p := hA0
  rw [Try.params3] at hA hval hsz
  obtain ⟨v0, vs0, d0, ds0, p0, q0, hargs, rfl, rfl, h0, r0⟩ := trodAll_cons hA
  obtain ⟨v1, vs1, d1, ds1, p1, q1, rfl, rfl, rfl, h1, r1⟩ := trodAll_cons r0
  obtain ⟨rfl, rfl, rfl⟩ := trodAll_nil r1
  obtain rfl : args = #[v0, v1] := by cases args; simp_all
  obtain ⟨rfl, rfl⟩ := trodVars_none hV
  have sl0 := okWide_slice Try.underlying22 (hval 0 22 v0 rfl rfl)
  have k0 := h0
  have lt0 : ∀ x ∈ p0, x.block < W.heap.size := by obtain ⟨m, hm⟩ := k0; exact DataW.trod_lt m _ _ _ hm
  obtain ⟨A0, n0, c0, l0, rfl, hn0, hr0, hw0⟩ : ∃ (A : Option Addr) (n c : Nat) (l : List Ex), v0 = .slice A n c ∧ l.length = n ∧ XP A c l W ∧ ∀ y ∈ l, (y.id.length = 0 ∨ ∃ k ∈ d0.weights Try.prog 22, y.id.length ≤ k) ∧ (y.val.length = 0 ∨ ∃ k ∈ d0.weights Try.prog 22, y.val.length ≤ k) := by
    obtain ⟨fuel, hf⟩ := h0
    exact exts_open hf sl0
  have hwk : ∀ k ∈ d0.weights Try.prog 22, k ≤ 140737488351232 := fun k hk => by
    have := List.all_eq_true.1 hsz k (DataW.weights_mem_each (j := 0) rfl rfl k hk)
    exact of_decide_eq_true this
  have hs0 : ∀ x ∈ l0, x.id.length ≤ 140737488351232 ∧ x.val.length ≤ 140737488351232 := fun x hx => by
    obtain ⟨g1, g2⟩ := hw0 x hx
    constructor
    · rcases g1 with g | ⟨k, hk, hle⟩
      · omega
      · exact Nat.le_trans hle (hwk k hk)
    · rcases g2 with g | ⟨k, hk, hle⟩
      · omega
      · exact Nat.le_trans hle (hwk k hk)
  have sl1 := okWide_slice Try.underlying23 (hval 1 23 v1 rfl rfl)
  have k1 := h1
  have lt1 : ∀ x ∈ p1, x.block < W.heap.size := by obtain ⟨m, hm⟩ := k1; exact DataW.trod_lt m _ _ _ hm
  obtain ⟨A1, n1, c1, l1, rfl, hn1, hr1, ho1⟩ : ∃ (A : Option Addr) (n c : Nat) (l : List Nat), v1 = .slice A n c ∧ l.length = n ∧ Rd .u8 W W.heap.size A c l ∧ ∀ x ∈ l, x < 256 := by
    obtain ⟨fuel, hf⟩ := h1
    exact rd1_open hf sl1
  clear hA0 hval0
  refine (law_nodes W A0 c0 n0 l0 hr0 hn0 hs0 A1 c1 n1 l1 hr1 hn1 ho1).mono fun e W' ⟨he, bel⟩ => ?_
  subst he
  exact ⟨_, rfl, _, _, _, [], _, [], hW', trodAll_mk1 (shut_bool Try.underlying4 _), (trodAll_cons_mk (Below.trod laidOut (by kernel_rfl) (of_decide_eq_true (by kernel_rfl)) k0 bel lt0) (trodAll_cons_mk (Below.trod laidOut (by kernel_rfl) (of_decide_eq_true (by kernel_rfl)) k1 bel lt1) trodAll_mk0)), rfl, bel.frame _, fun h => by cases h⟩

theorem over : Rows.extNodesRow.holds Try.pinned (OpenSpec.ofChange Rows.extNodesSpec) :=
  OpenClaim.holds_of_wide 3 Try.f3 rfl rfl rfl rfl rfl rfl rfl ⟨rfl, rfl, rfl, rfl, rfl⟩ rfl rfl rfl rfl rfl (by kernel_rfl) Try.func3 (by kernel_rfl)
    (of_decide_eq_true (by kernel_rfl)) (by unfold Func.isWrapper; first | (rw [if_pos (by decide +kernel)]; kernel_rfl) | (rw [if_neg (by decide +kernel)]; exact ⟨rfl, rfl⟩))
    (fun os started H enc _ => lifted os started H enc)

theorem proved : Rows.ExtNodesSaid := over
#print axioms proved
end Go.Proofs.Ytaemjgemkgiahaa.extNodes
