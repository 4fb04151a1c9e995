/-
  A number of two bytes: written, read.
-/
import Derived.Test.YtkfokgkehlcikaaNode2
import Derived.Laws.BitsLemmas
namespace Go.Proofs.Ytkfokgkehlcikaa
open Go.RowKit
set_option linter.unusedVariables false

/-- The two bytes from i on. -/
def two (l : List Nat) (i : Nat) : Nat := l.getD i 0 * 256 + l.getD (i + 1) 0
/-- Two bytes written from i on. -/
def put2 (l : List Nat) (i v : Nat) : List Nat := (l.set i (v / 256)).set (i + 1) (v % 256)

set_option maxRecDepth 100000 in
theorem or_i64 (v x : Nat) (hv : v < 256) (hx : x < 256) : bits .or .i64 ((v : Int) * 256) (x : Int) = ((v * 256 + x : Nat) : Int) := by
  have h := bits_join .i64 63 (by decide) (fun n h0 h1 => by rw [IntKind.wrap_i64]; omega) 8 ((v : Int) * 256) (x : Int) (by omega) (by omega) (by omega) (by omega) (by omega) (by omega)
  rw [h]
  omega

set_option maxRecDepth 100000 in
theorem get_any (w : World) (B : Nat) (A : Option Addr) (c n : Nat) (l : List Nat) (hn : l.length = n) (hr : Rd .u8 w B A c l) (ho : Oct l) (i : Nat) (hi : i + 1 < n) (v : Nat) (hv : two l i = v) :
    Calls Try.prog 29 #[.slice A n c, .int .i64 i] w fun e w' => e = .returned (.int .i64 v) ∧ ∃ q, w' = w.drewN q := by
  have hc63 := hr.2.1
  have hlc : n ≤ c := by have := hr.1; omega
  obtain ⟨b, off, x, rfl, hb, hx, Hx⟩ := hr.at_ (i := i) (by omega)
  obtain ⟨_, _, y, e0, _, hy, Hy⟩ := hr.at_ (i := i + 1) (by omega)
  obtain ⟨rfl, rfl⟩ : b = _ ∧ off = _ := by injection e0 with e0; injection e0 with e1 e2; exact ⟨e1, e2⟩
  have hx8 : x < 256 := by rw [Hx.out]; exact ho i
  have hy8 : y < 256 := by rw [Hy.out]; exact ho (i + 1)
  have HV : Hid ((x : Int) * 256 + (y : Int) = (v : Int)) := Lib.hid (by rw [← hv]; unfold two; rw [← Hx.out, ← Hy.out]; push_cast; rfl)
  have hor : ∀ z : Int, z = (x : Int) * 256 → True := fun _ _ => trivial
  clear e0 hr hn ho hv hor
  have h0 : (0 : Int) ≤ (i : Int) := by omega
  have h1 : (i : Int) < (n : Int) := by omega
  have h2 : (i : Int) + 1 < (n : Int) := by omega
  go_enter Try.func29, Try.ntmps29
  go_wp2_with fail
  go_quiet (fail)
  go_wp2_with fail
  go_ret
  exact ⟨ret_int ((or_i64 x y hx8 hy8).trans (by rw [← HV.out]; push_cast; rfl)), _, rfl⟩

set_option maxRecDepth 100000 in
theorem put_any (w : World) (g c n : Nat) (L : List Nat) (hn : L.length = n) (hR : Row .u8 5 w g L) (hnc : n ≤ c) (hc : c ≤ 9223372036854775807) (i : Nat) (hi : i + 1 < n) (v : Nat) (hv : v ≤ 65535) :
    Calls Try.prog 34 #[.slice (some ⟨g, 0, none⟩) n c, .int .i64 i, .int .i64 v] w fun e w' => e = .returned (.tuple #[]) ∧ Row .u8 5 w' g (put2 L i v) ∧ w.grownBy w' (some g) := by
  have hcell := hR.cell (i := i) (by omega)
  have hcell2 := hR.cell (i := i + 1) (by omega)
  have hfr := hR.open_
  have hm1 : ((v / 256 : Nat) : Int) % 256 = ((v / 256 : Nat) : Int) := by omega
  have h0 : (0 : Int) ≤ (i : Int) := by omega
  have h1 : (i : Int) < (n : Int) := by omega
  have h2 : (i : Int) + 1 < (n : Int) := by omega
  go_enter Try.func34, Try.ntmps34
  go_wp2_with fail
  have hst := hR.set i (v / 256)
  have hst2 := hst.set (i + 1) (v % 256)
  have hgr := one_setCell (one_setCell (World.grownBy.refl w (some g)) i (.int .u8 ((v / 256 : Nat) : Int))) (i + 1) (.int .u8 ((v % 256 : Nat) : Int))
  push_cast at hst2 hgr
  go_end0
  exact ⟨rfl, hst2, hgr⟩
end Go.Proofs.Ytkfokgkehlcikaa
