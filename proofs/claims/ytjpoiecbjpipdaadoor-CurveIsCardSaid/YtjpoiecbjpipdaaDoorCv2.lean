/-
  Numbers of the field as they lie; the curve's constants; sums with what goes over.
-/
import Derived.Test.YtjpoiecbjpipdaaDoorCv1
import Derived.Test.YtjpoiecbjpipdaaDoorNatA
import Derived.Test.YtjpoiecbjpipdaaDoorMul64
import Derived.Laws.Externs
import Derived.Shelf.Spec.BitsCarry
import Derived.RegionTactic
import Derived.ChangeAlike
namespace Go.Proofs.YtjpoiecbjpipdaaDoor
open Go.RowKit
set_option linter.unusedVariables false
set_option linter.unusedSimpArgs false

def pL : List Nat := [18446744073709551615, 4294967295, 0, 18446744069414584321]
def sL : List Nat := [3, 18446744056529682431, 18446744073709551614, 21474836477]
def uL : List Nat := [1, 18446744069414584320, 18446744073709551615, 4294967294]
theorem pL_val : v64 pL = cP := by decide +kernel
theorem sL_val : v64 sL = cR * cR % cP := by decide +kernel
theorem uL_val : v64 uL = cR % cP := by decide +kernel
/-- The constants lie where they are laid. -/
def CMet (w : World) : Prop :=
  (2 < w.heap.size ∧ ∀ t, t < 4 → w.cell? ⟨2, t, none⟩ = some (.int .u64 ((pL.getD t 0 : Nat) : Int))) ∧
  (1 < w.heap.size ∧ ∀ t, t < 4 → w.cell? ⟨1, t, none⟩ = some (.int .u64 ((sL.getD t 0 : Nat) : Int))) ∧
  (0 < w.heap.size ∧ ∀ t, t < 4 → w.cell? ⟨0, t, none⟩ = some (.int .u64 ((uL.getD t 0 : Nat) : Int)))
theorem CMet.under {w w' : World} (h : CMet w) (hb : Below w.heap.size w w') : CMet w' :=
  ⟨⟨Nat.lt_of_lt_of_le h.1.1 hb.size, fun t ht => (hb.cell (p := ⟨2, t, none⟩) h.1.1).trans (h.1.2 t ht)⟩,
   ⟨Nat.lt_of_lt_of_le h.2.1.1 hb.size, fun t ht => (hb.cell (p := ⟨1, t, none⟩) h.2.1.1).trans (h.2.1.2 t ht)⟩,
   ⟨Nat.lt_of_lt_of_le h.2.2.1 hb.size, fun t ht => (hb.cell (p := ⟨0, t, none⟩) h.2.2.1).trans (h.2.2.2 t ht)⟩⟩
/-- The four digits of a number. -/
def nm (X : Nat) : List Nat := [X % 18446744073709551616, X / 18446744073709551616 % 18446744073709551616, X / 18446744073709551616 / 18446744073709551616 % 18446744073709551616, X / 18446744073709551616 / 18446744073709551616 / 18446744073709551616 % 18446744073709551616]
theorem nm_len (X : Nat) : (nm X).length = 4 := rfl
theorem nm_d (X : Nat) : D64 (nm X) := fun x hx => by
  simp only [nm, List.mem_cons, List.not_mem_nil, or_false] at hx
  omega
theorem nm_val {X : Nat} (h : X < cR) : v64 (nm X) = X := by
  unfold cR at h
  simp only [nm, v64]
  omega
theorem nm_of {l : List Nat} {X : Nat} (hd : D64 l) (hl : l.length = 4) (h : v64 l = X) : l = nm X := by
  refine v64_inj hd (nm_d X) (by rw [hl]; rfl) ?_
  rw [nm_val, h]
  rw [← h, ← q64_4, ← hl]
  exact v64_lt hd
theorem four {l : List Nat} (h : l.length = 4) : ∃ a b c d, l = [a, b, c, d] := by
  rcases l with _ | ⟨a, _ | ⟨b, _ | ⟨c, _ | ⟨d, _ | ⟨e, r⟩⟩⟩⟩⟩ <;> first | (simp at h; done) | exact ⟨a, b, c, d, rfl⟩
theorem cP_cR : cP < cR := by decide +kernel
/-- A number of the field, as a value. -/
def nv (l : List Nat) : Value := .agg (nums .u64 l)

theorem run_add (x y c : Nat) (hc : c ≤ 1) (w : World) :
    (callFunc 59 #[.int .u64 x, .int .u64 y, .int .u64 c]).run Tryd.prog w =
      .ok (.value (.tuple #[.int .u64 (((x + y + c) % 18446744073709551616 : Nat) : Int), .int .u64 (((x + y + c) / 18446744073709551616 : Nat) : Int)])) w := by
  rw [run_callFunc_extern Tryd.func59 (by kernel_rfl) (by kernel_rfl) (by kernel_rfl) (e := add64Entry) (by kernel_rfl), run_add64 x y c (by omega) (by omega) (by omega) (by omega)]
  simp only [Result.andThen]
  congr 5 <;> omega
theorem run_add0 (x y : Nat) (w : World) :
    (callFunc 59 #[.int .u64 x, .int .u64 y, .int .u64 0]).run Tryd.prog w =
      .ok (.value (.tuple #[.int .u64 (((x + y) % 18446744073709551616 : Nat) : Int), .int .u64 (((x + y) / 18446744073709551616 : Nat) : Int)])) w := run_add x y 0 (by omega) w
theorem run_sub (x y b : Nat) (hb : b ≤ 1) (w : World) :
    (callFunc 58 #[.int .u64 x, .int .u64 y, .int .u64 b]).run Tryd.prog w =
      .ok (.value (.tuple #[.int .u64 (((x + 18446744073709551616 - y - b) % 18446744073709551616 : Nat) : Int), .int .u64 ((if x < y + b then 1 else 0 : Nat) : Int)])) w := by
  rw [run_callFunc_extern Tryd.func58 (by kernel_rfl) (by kernel_rfl) (by kernel_rfl) (e := sub64Entry) (by kernel_rfl), run_sub64 x y b hb]
  rfl
theorem ret_num {R : Ending → World → Prop} {tmps : Array Value} {w : World} {g : Nat} {t : TypeId} {cs : Array Value} {fn : Func} {p : Tmp}
    (hr : fn.results = #[.cell p 47]) (hp : tmps.getD p undef = .pointer (some ⟨g, 0, none⟩)) (hg : Holds w g t cs) (hcs : cs.size = 4) (hR : R (.returned (.agg cs)) w) :
    bodyPost Tryd.prog fn R .ret { tmps := tmps, defers := [] } w := by
  have hi : (Tryd.prog.info? 47).map (·.size) = some cs.size := by rw [hcs]; kernel_rfl
  refine bodyPost_ret (v := .agg cs) ?_ rfl hR
  have hp' : tmps[p]?.getD undef = .pointer (some ⟨g, 0, none⟩) := by simpa using hp
  simp [results, hr, hp', asAddr, run_loadVar_row w g t _ cs (0, 0) _ hg Tryd.underlying47 rfl hi, Result.andThen]
set_option maxRecDepth 100000 in
/-- A product and two digits more, in two digits. -/
theorem product_any (w : World) (a b c d : Nat) (ha : a < 18446744073709551616) (hb : b < 18446744073709551616) (hc : c < 18446744073709551616) (hd : d < 18446744073709551616) :
    Calls Tryd.prog 60 #[.int .u64 a, .int .u64 b, .int .u64 c, .int .u64 d] w fun e w' => e = .returned (.tuple #[.int .u64 (((a * b + c + d) / 18446744073709551616 : Nat) : Int), .int .u64 (((a * b + c + d) % 18446744073709551616 : Nat) : Int)]) ∧ w = w' := by
  have hm : a * b ≤ 18446744073709551615 * 18446744073709551615 := Nat.mul_le_mul (by omega) (by omega)
  obtain ⟨p, hp⟩ : ∃ p, p = a * b := ⟨_, rfl⟩
  have HM := Lib.hid (mul64_any a b ha hb w)
  rw [← hp] at hm HM ⊢
  obtain ⟨hi, hhi⟩ : ∃ x, x = p / 18446744073709551616 := ⟨_, rfl⟩
  obtain ⟨lo, hlo⟩ : ∃ x, x = p % 18446744073709551616 := ⟨_, rfl⟩
  rw [← hhi, ← hlo] at HM
  have r1 := run_add0 lo c w
  obtain ⟨s1, hs1⟩ : ∃ x, x = (lo + c) % 18446744073709551616 := ⟨_, rfl⟩
  obtain ⟨o1, ho1⟩ : ∃ x, x = (lo + c) / 18446744073709551616 := ⟨_, rfl⟩
  rw [← hs1, ← ho1] at r1
  have r2 := run_add0 s1 d w
  obtain ⟨s2, hs2⟩ : ∃ x, x = (s1 + d) % 18446744073709551616 := ⟨_, rfl⟩
  obtain ⟨o2, ho2⟩ : ∃ x, x = (s1 + d) / 18446744073709551616 := ⟨_, rfl⟩
  rw [← hs2, ← ho2] at r2
  have E1 : Hid ((p + c + d) / 18446744073709551616 = hi + o1 + o2) := Lib.hid (by omega)
  have E2 : Hid ((p + c + d) % 18446744073709551616 = s2) := Lib.hid (by omega)
  have w1 : IntKind.u64.wrap ((hi : Int) + (o1 : Int)) = (hi : Int) + (o1 : Int) := by rw [IntKind.wrap_u64]; omega
  have w2 : IntKind.u64.wrap ((hi : Int) + (o1 : Int) + (o2 : Int)) = (hi : Int) + (o1 : Int) + (o2 : Int) := by rw [IntKind.wrap_u64]; omega
  clear hm hp hhi hlo hs1 ho1 hs2 ho2
  go_enter Tryd.func60, Tryd.ntmps60
  go_wp2_with fail
  refine HM.out.mono ?_
  rintro e w1 ⟨rfl, rfl⟩
  go_wp2_with fail
  go_ret2
  refine ⟨?_, rfl⟩
  rw [E1.out, E2.out]
  push_cast
  rfl
end Go.Proofs.YtjpoiecbjpipdaaDoor
