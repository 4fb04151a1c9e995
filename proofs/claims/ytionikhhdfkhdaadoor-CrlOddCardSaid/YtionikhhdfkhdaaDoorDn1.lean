/-
  Names compared: by the program.
-/
import Derived.Test.YtionikhhdfkhdaaDoorStr
namespace Go.Proofs.YtionikhhdfkhdaaDoor
open Go.RowKit
set_option linter.unusedVariables false

/-- A part of a name: its kind, its text. -/
structure Att where
  k : Int
  s : ByteArray
instance : Inhabited Att := ⟨⟨0, ⟨#[]⟩⟩⟩
theorem Att.ext_ {a b : Att} (h1 : a.k = b.k) (h2 : a.s = b.s) : a = b := by cases a; cases b; simp at h1 h2; simp [h1, h2]

/-- The slice '.slice A l.length c' reads as the parts l. -/
def RdA (w : World) (B : Nat) (A : Option Addr) (c : Nat) (l : List Att) : Prop :=
  l.length ≤ c ∧ c ≤ 9223372036854775807 ∧ (0 < l.length → ∃ b off, A = some ⟨b, off, none⟩ ∧ b < B ∧ ∀ j, j < l.length →
    w.cell? ⟨b, off + j * 2, none⟩ = some (.int .i64 (l.getD j default).k) ∧ w.cell? ⟨b, off + j * 2 + 1, none⟩ = some (.string (l.getD j default).s))
section
variable {w w' : World} {B B' : Nat} {A : Option Addr} {c : Nat} {l : List Att}
theorem RdA.keep (h : RdA w B A c l) (hk : ∀ b o, b < B → w'.cell? ⟨b, o, none⟩ = w.cell? ⟨b, o, none⟩) : RdA w' B A c l :=
  ⟨h.1, h.2.1, fun hn => by
    obtain ⟨b, off, e, hb, hc⟩ := h.2.2 hn
    exact ⟨b, off, e, hb, fun j hj => ⟨(hk _ _ hb).trans (hc j hj).1, (hk _ _ hb).trans (hc j hj).2⟩⟩⟩
theorem RdA.more (h : RdA w B A c l) (hB : B ≤ B') : RdA w B' A c l :=
  ⟨h.1, h.2.1, fun hn => by
    obtain ⟨b, off, e, hb, hc⟩ := h.2.2 hn
    exact ⟨b, off, e, by omega, hc⟩⟩
theorem RdA.under (h : RdA w B A c l) (hb : Below B w w') : RdA w' B A c l := h.keep fun b o hlt => hb.cell (p := ⟨b, o, none⟩) hlt
theorem RdA.next (h : RdA w B A c l) (hB : B ≤ w.heap.size) (hb : Below w.heap.size w w') : RdA w' w'.heap.size A c l := ((h.more hB).under hb).more hb.size
theorem RdA.drewN (h : RdA w B A c l) (n : Nat) : RdA (w.drewN n) B A c l := h
theorem RdA.nil_ (w : World) (B : Nat) (A : Option Addr) (c : Nat) (h : c ≤ 9223372036854775807) : RdA w B A c [] := ⟨Nat.zero_le _, h, fun h => by simp at h⟩
theorem RdA.cut (h : RdA w B A c l) (n : Nat) : RdA w B A c (l.take n) := by
  refine ⟨by have := h.1; simp; omega, h.2.1, fun hn => ?_⟩
  have hn' : 0 < l.length := by simp at hn; omega
  obtain ⟨b, off, e, hb, hc⟩ := h.2.2 hn'
  refine ⟨b, off, e, hb, fun j hj => ?_⟩
  have hj' : j < n ∧ j < l.length := by simp at hj; omega
  have e2 : (l.take n).getD j default = l.getD j default := by simp [List.getD, hj'.1]
  rw [e2]
  exact hc j hj'.2
end

theorem guardA : Tryd.prog.eqGuardType Tryd.prog.depth 35 = false := by kernel_rfl
theorem plain_intA : Tryd.prog.plainKey 3 = true := by kernel_rfl
theorem plain_strA : Tryd.prog.plainKey 9 = true := by kernel_rfl
theorem eqA (a b : Int) (s t : ByteArray) (W : World) : (Op.equalIn 10000 35 (.agg #[.int .i64 a, .string s]) (.agg #[.int .i64 b, .string t])).run Tryd.prog W = .ok (a == b && (s.toList == t.toList)) W := by
  refine (run_equalIn_struct W 9999 35 _ _ (by kernel_rfl) (by kernel_rfl)).trans ?_
  have h1 : ∀ (xs : Array Value) (j : Nat) (v : Value) (W : World), xs[j]? = some v → (Go.part 3 xs j).run Tryd.prog W = .ok v W := fun xs j v W h => run_part_plain W plain_intA h
  have h2 : ∀ (xs : Array Value) (j : Nat) (v : Value) (W : World), xs[j]? = some v → (Go.part 9 xs j).run Tryd.prog W = .ok v W := fun xs j v W h => run_part_plain W plain_strA h
  have e1 := h1 #[.int .i64 a, .string s] 0 _ W rfl
  have e2 := h1 #[.int .i64 b, .string t] 0 _ W rfl
  have e3 := h2 #[.int .i64 a, .string s] 1 _ W rfl
  have e4 := h2 #[.int .i64 b, .string t] 1 _ W rfl
  have e5 := run_equalIn_int (P := Tryd.prog) W 9998 3 .i64 .i64 a b Tryd.underlying3
  have e6 := run_equalIn_string (P := Tryd.prog) W 9998 9 s t Tryd.underlying9
  simp only [Program.fieldsOf, Tryd.underlying35, Op.eqFields]
  cases h : (a == b)
  · simp [Sem.run_bind, e1, e2, e5, h, Result.andThen_ok]
  · cases h' : (s.toList == t.toList)
    · rw [h'] at e6
      simp [Sem.run_bind, e1, e2, e3, e4, e5, e6, h, Result.andThen_ok]
    · rw [h'] at e6
      simp [Sem.run_bind, e1, e2, e3, e4, e5, e6, h, Result.andThen_ok]

def RelEA (n : Nat) (l l' : List Att) (W : World) (i : Value) (wr : World) : Prop :=
  ∃ k q : Nat, k ≤ n ∧ i = .int .i64 k ∧ Hid (∀ j, j < k → l.getD j default = l'.getD j default) ∧ wr = W.drewN q

end Go.Proofs.YtionikhhdfkhdaaDoor
