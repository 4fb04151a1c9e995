/-
  Proved: of every thing (with at most a hundred bytes and five kids; with more the law says nothing) the program's time, or none, is the document's (statement WhenGets, promise P14.1). No condition.
-/
import Derived.Test.YtjhpibbhkdjeiaaRows
import Derived.WalkKit
import Derived.ProofKit
import Derived.OpenShut
import Derived.ShutString
import Derived.ChangeOld
import Derived.Below
import Derived.Test.YtjhpibbhkdjeiaaWhen21
import Derived.Test.YtjhpibbhkdjeiaaOpen
import Derived.Lib.SmallJoins
import Derived.Deep.Slices
import Derived.ChangeArms
namespace Go.Proofs.Ytjhpibbhkdjeiaa.whenGets
open Go.ChangeShapes Go.WideShapes Go.ChangeAt Go.RowKit
open Go.ChangeMaps (open_string shut_string)
set_option linter.unusedVariables false      -- a walk need not use every 'w<i>' (that an integer argument fits its kind)

theorem own : ownKnob Try.prog.godebug = none := by kernel_rfl

theorem cells25 : Try.prog.cellsOf 25 = 3 := by kernel_rfl
theorem laidOut : laidOutB Try.prog = true := by kernel_rfl

set_option maxRecDepth 100000 in
theorem lifted (os : Os) (started : os.Started) (H : Type) (enc : TypeId × Value → H) :
    ReturnsInHanded {} Try.checked os 4 .any (Rows.whenGetsSpec.pre6 enc Try.prog Try.f4 Rows.whenGetsRow.domain false) (Rows.whenGetsSpec.post enc Try.prog Try.f4 false true false false) := by
  refine returnsInHanded_of_change (C := Try.checked) own started (by kernel_rfl) Try.func4
    (ChangeSpec.witness6 (enc := enc) (C := Try.checked) false ⟨#[], #[.agg #[.int .u8 0, .slice none 0 0, .slice none 0 0]], []⟩ 8 (by kernel_rfl) (by kernel_rfl) (by kernel_rfl) (by kernel_rfl)) ?_
  intro W base args ds gs before hval0 hW hcnd _
  have hval : ∀ (j : Nat) t v, Try.f4.params[j]? = some t → args[j]? = some v → Value.okWide Try.prog W .any base t v := hval0
  have hW' := hW
  obtain ⟨p, q, hA0, hV, rfl, hfz, hnd⟩ := hW
  have hA : DataW.TrodAll enc Try.prog W 0 (fun _ => true) true Try.f4.params.toList args.toList ds p := hA0
  rw [Try.params4] at hA hval
  obtain ⟨v0, vs0, d0, ds0, p0, q0, hargs, rfl, rfl, h0, r0⟩ := trodAll_cons hA
  obtain ⟨rfl, rfl, rfl⟩ := trodAll_nil r0
  obtain rfl : args = #[v0] := by cases args; simp_all
  obtain ⟨rfl, rfl⟩ := trodVars_none hV
  have k0 := h0
  have lt0 : ∀ x ∈ p0, x.block < W.heap.size := by obtain ⟨m, hm⟩ := k0; exact DataW.trod_lt m _ _ _ hm
  obtain ⟨v1, v2, v3, y1, y2, y3, n0, rfl, _, _, g1, g2, g3⟩ := Joins.open_agg3 Try.underlying25 (by kernel_rfl) cells25 (hval 0 25 v0 rfl rfl) h0
  obtain ⟨tg, e1, _, wf1⟩ := DataW.trod_int Try.underlying5 g1
  obtain rfl : v1 = .int .u8 tg := by simpa using e1
  obtain ⟨tag, rfl⟩ : ∃ k : Nat, tg = (k : Int) := ⟨tg.toNat, by have := bounds_u8 wf1; omega⟩
  have htag : tag < 256 := by have := bounds_u8 wf1; omega
  obtain ⟨A, n, c, b, rfl, hbn, hrd, hob⟩ : ∃ (A : Option Addr) (n c : Nat) (b : List Nat), v2 = .slice A n c ∧ b.length = n ∧ Rd .u8 W W.heap.size A c b ∧ ∀ x ∈ b, x < 256 := by
    rcases open_ints Try.underlying22 Try.underlying5 (by kernel_rfl) g2 with ⟨hcs, _⟩ | ⟨x, l, c, zs, hcs, _, hl, hm, hz, _, hcell, hwz⟩
    · obtain rfl : v2 = .slice none 0 0 := by simpa using hcs
      exact ⟨none, 0, 0, [], rfl, rfl, Rd.nil_ _ _ _, fun x hx => by cases hx⟩
    · obtain rfl : v2 = .slice (some x) l c := by simpa using hcs
      obtain ⟨b, h1, h2, h3⟩ := rd_of_row wf_u8 (w := W) (a := some x) (len := l) (cap := c) (zs := zs) (.inr ⟨x, rfl, hl, hm, by simpa using hz, hcell, hwz⟩)
      exact ⟨_, _, _, b, rfl, h1, h2, h3⟩
  obtain ⟨K, nk, kc, rfl⟩ : ∃ (K : Option Addr) (nk kc : Nat), v3 = .slice K nk kc := by
    rcases Deep.open_slice Try.underlying23 g3 with ⟨hcs, _⟩ | ⟨a, len, cap, m, n, D, Pl, hcs, _⟩
    · exact ⟨none, 0, 0, by simpa using hcs⟩
    · exact ⟨some a, len, cap, by simpa using hcs⟩
  clear hA0 hval0
  simp only [List.append_nil] at hW'
  refine (law_gets W tag A c n b hbn hrd hob htag K nk kc).mono fun e W' ⟨he, bel⟩ => ?_
  subst he
  exact ⟨_, rfl, _, _, _, [], _, [], hW', trodAll_mk1 (shut_bool Try.underlying4 _), (trodAll_cons_mk (Below.trod laidOut (by kernel_rfl) (of_decide_eq_true (by kernel_rfl)) k0 bel lt0) trodAll_mk0), rfl, bel.frame _, fun h => by cases h⟩

theorem over : Rows.whenGetsRow.holds Try.pinned (OpenSpec.ofChange Rows.whenGetsSpec) :=
  OpenClaim.holds_of_wide 4 Try.f4 rfl rfl rfl rfl rfl rfl rfl ⟨rfl, rfl, rfl, rfl, rfl⟩ rfl rfl rfl rfl rfl (by kernel_rfl) Try.func4 (by kernel_rfl)
    (of_decide_eq_true (by kernel_rfl)) (by unfold Func.isWrapper; first | (rw [if_pos (by decide +kernel)]; kernel_rfl) | (rw [if_neg (by decide +kernel)]; exact ⟨rfl, rfl⟩))
    (fun os started H enc _ => lifted os started H enc)

theorem proved : Rows.WhenGetsSaid :=
  over
#print axioms proved
end Go.Proofs.Ytjhpibbhkdjeiaa.whenGets
