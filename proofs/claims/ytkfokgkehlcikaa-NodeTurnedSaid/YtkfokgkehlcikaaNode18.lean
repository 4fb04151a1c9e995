/-
  The law of reads, walked.
-/
import Derived.Test.YtkfokgkehlcikaaNode11
import Derived.Test.YtkfokgkehlcikaaNode16
import Derived.Test.YtkfokgkehlcikaaNode17
import Derived.Deep.RegionHeld3
namespace Go.Proofs.Ytkfokgkehlcikaa
open Go.RowKit
set_option linter.unusedVariables false
attribute [local go_sem ↓] Go.wp_at_zero Go.wp_at_succ

theorem Reads.z64 {b : List Nat} {s : ByteArray} {z : Nat} {p : List Nat} {f o : Bool} (h : Reads b s z p f o) : z ≤ 600 := by
  cases h with
  | none a1 a2 a3 a4 a5 => omega
  | free a1 a2 a3 a4 => omega
  | node ha => have := ha.ok.z600; omega

/-- The two nodes that a law compares, and their boxes. -/
def Pair (w : World) (g2 g4 : Nat) (s : ByteArray) (z : Int) (A2 A4 : Option Addr) (n2 n4 c2 c4 : Nat) (p : List Nat) (W : World) : Prop :=
  Holds W g2 25 #[.string s, .int .i64 z, .slice A2 n2 c2] ∧ Holds W g4 28 #[.string s, .int .i64 z, .slice A4 n4 c4] ∧ Rd .i64 W W.heap.size A2 c2 p ∧ Rd .i64 W W.heap.size A4 c4 p ∧ Below w.heap.size w W
section
variable {w : World} {g2 g4 : Nat} {s : ByteArray} {z : Int} {A2 A4 : Option Addr} {n2 n4 c2 c4 : Nat} {p : List Nat} {W W' : World}
theorem Pair.next (h : Pair w g2 g4 s z A2 A4 n2 n4 c2 c4 p W) (hb : Below W.heap.size W W') : Pair w g2 g4 s z A2 A4 n2 n4 c2 c4 p W' :=
  ⟨h.1.under hb h.1.lt, h.2.1.under hb h.2.1.lt, (h.2.2.1.under hb).more hb.size, (h.2.2.2.1.under hb).more hb.size, h.2.2.2.2.trans (hb.mono h.2.2.2.2.size)⟩
theorem Pair.drew (h : Pair w g2 g4 s z A2 A4 n2 n4 c2 c4 p W) : Pair w g2 g4 s z A2 A4 n2 n4 c2 c4 p W.drew := h.next (below_drewN (Below.refl _ _) 1)
theorem Pair.cells (h : Pair w g2 g4 s z A2 A4 n2 n4 c2 c4 p W) :
    W.cell? ⟨g2, 0, none⟩ = some (.string s) ∧ W.cell? ⟨g2, 1, none⟩ = some (.int .i64 z) ∧ W.cell? ⟨g2, 2, none⟩ = some (.slice A2 n2 c2) ∧
    W.cell? ⟨g4, 0, none⟩ = some (.string s) ∧ W.cell? ⟨g4, 1, none⟩ = some (.int .i64 z) ∧ W.cell? ⟨g4, 2, none⟩ = some (.slice A4 n4 c4) ∧ Pair w g2 g4 s z A2 A4 n2 n4 c2 c4 p W :=
  ⟨h.1.cell 0, h.1.cell 1, h.1.cell 2, h.2.1.cell 0, h.2.1.cell 1, h.2.1.cell 2, h⟩
end

set_option maxRecDepth 100000 in
set_option maxHeartbeats 1000000 in
theorem law_reads (w : World) (B : Nat) (A : Option Addr) (c n : Nat) (b : List Nat) (hn : b.length = n) (hr : Rd .u8 w B A c b) (hB : B ≤ w.heap.size) (ho : Oct8 b) :
    Calls Try.prog 3 #[.slice A n c] w fun e w' => e = .returned (.bool true) ∧ Below w.heap.size w w' := by
  have hlc := hr.1
  have hc63 := hr.2.1
  by_cases h130 : 130 < n
  case pos =>
    have b1 : decide (130 < (n : Int)) = true := decide_eq_true (by omega)
    go_enter Try.func3, Try.ntmps3
    go_wp2_with fail
    go_ret
    exact ⟨rfl, Below.refl _ _⟩
  case neg =>
  have b1 : decide (130 < (n : Int)) = false := decide_eq_false (by omega)
  go_enter Try.func3, Try.ntmps3
  go_wp2_with fail
  refine (read_any w B A c n b hn hr hB ho).mono ?_
  rintro e w2 ⟨s, z, A2, n2, c2, p, f, o, rfl, HR, hp, hr2, hb2⟩
  have hz := HR.out.z64
  have hrb := hr.under (hb2.mono hB)
  clear hr
  go_wp2_with fail
  have hbox := Holds.fresh w2 25 #[.string s, .int .i64 z, .slice A2 n2 c2]
  have hrb3 := hrb.alloc (Nat.le_trans hB hb2.size) (.cells #[.string s, .int .i64 z, .slice A2 n2 c2] 25)
  have hr3 := (hr2.alloc (Nat.le_refl _) (.cells #[.string s, .int .i64 z, .slice A2 n2 c2] 25)).more (B' := w2.heap.size + 1) (by omega)
  have hb3 := hb2.alloc hb2.size (.cells #[.string s, .int .i64 z, .slice A2 n2 c2] 25)
  have hsz3 : (w2.alloc (.cells #[.string s, .int .i64 z, .slice A2 n2 c2] 25)).heap.size = w2.heap.size + 1 := by simp
  have HW := Lib.hid hb2.size
  clear hr2 hb2 hrb
  generalize w2.alloc (.cells #[.string s, .int .i64 z, .slice A2 n2 c2] 25) = W3 at *
  refine (read'_any W3 B A c n b hn hrb3 (by have := HW.out; omega) ho).mono ?_
  rintro e w4 ⟨s', z', A4, n4, c4, p', f', o', rfl, HR', hp', hr4, hb4⟩
  obtain ⟨rfl, rfl, rfl, rfl, rfl⟩ := HR.out.one HR'.out
  have hbox4 := hbox.under hb4 hbox.lt
  have hr34 := hr3.under (hb4.mono (by omega))
  have hb34 := hb3.trans (hb4.mono hb3.size)
  have HW4 := Lib.hid hb4.size
  clear hbox hr3 hb3 hb4 hrb3 HR HR'
  have hbox5 := Holds.fresh w4 28 #[.string s, .int .i64 z, .slice A4 n4 c4]
  have hbox45 := hbox4.alloc (.cells #[.string s, .int .i64 z, .slice A4 n4 c4] 28)
  have hr45 := (hr4.alloc (Nat.le_refl _) (.cells #[.string s, .int .i64 z, .slice A4 n4 c4] 28))
  have hr345 := (hr34.alloc (by have := HW4.out; omega) (.cells #[.string s, .int .i64 z, .slice A4 n4 c4] 28))
  have hb5 := hb34.alloc hb34.size (.cells #[.string s, .int .i64 z, .slice A4 n4 c4] 28)
  have hsz5 : (w4.alloc (.cells #[.string s, .int .i64 z, .slice A4 n4 c4] 28)).heap.size = w4.heap.size + 1 := by simp
  go_wp2_with fail
  have hlt5 : w4.heap.size < (w4.alloc (.cells #[.string s, .int .i64 z, .slice A4 n4 c4] 28)).heap.size := by omega
  generalize w4.alloc (.cells #[.string s, .int .i64 z, .slice A4 n4 c4] 28) = W5 at *
  clear hbox4 hr4 hr34 hb34
  have hpair : Pair w w2.heap.size w4.heap.size s z A2 A4 n2 n4 c2 c4 p W5 := ⟨hbox45, hbox5, hr345.more (by have := hbox45.lt; omega), hr45.more (by omega), hb5⟩
  have HP := Lib.hid hp
  have HP' := Lib.hid hp'
  have hpd := hpair.drew
  obtain ⟨g2, Hg2⟩ : ∃ g, Hid (g = w2.heap.size) := ⟨_, rfl⟩
  obtain ⟨g4, Hg4⟩ : ∃ g, Hid (g = w4.heap.size) := ⟨_, rfl⟩
  rw [← Hg2.out, ← Hg4.out] at hpair hpd ⊢
  clear hbox5 hr45 hr345 hb5 hbox45 hp hp' hlt5 hsz5 HW4 HW hsz3
  have hS := hpair.cells
  go_region_held3 (fun V => V.cell? ⟨g2, 0, none⟩ = some (.string s) ∧ V.cell? ⟨g2, 1, none⟩ = some (.int .i64 z) ∧ V.cell? ⟨g2, 2, none⟩ = some (.slice A2 n2 c2) ∧
    V.cell? ⟨g4, 0, none⟩ = some (.string s) ∧ V.cell? ⟨g4, 1, none⟩ = some (.int .i64 z) ∧ V.cell? ⟨g4, 2, none⟩ = some (.slice A4 n4 c4) ∧ Pair w g2 g4 s z A2 A4 n2 n4 c2 c4 p V)
    (first | exact Pair.cells (by assumption) | assumption | exact Pair.cells (Pair.drew (by assumption)))
    (first
    | (go_at_call 11; refine (of_any _ s z A2 n2 c2).mono ?_; rintro e w6 ⟨rfl, hb6⟩; have hk6 := Pair.next (w := w) (g2 := g2) (g4 := g4) (s := s) (z := z) (A2 := A2) (A4 := A4) (n2 := n2) (n4 := n4) (c2 := c2) (c4 := c4) (p := p) (by assumption) hb6; clear hb6)
    | (go_at_call 10; refine (same_any _ s s z z (by omega) (by omega) A2 A4 _ _ c2 c4 n2 n4 p p HP.out HP'.out hk6.2.2.1 hk6.2.2.2.1 (Nat.le_refl _) (Nat.le_refl _) true ⟨fun _ => ⟨rfl, rfl, rfl⟩, fun _ => rfl⟩).mono ?_; rintro e w7 ⟨rfl, hb7⟩; have hk7 := hk6.next hb7; clear hb7)
    | (go_at_call 12; refine (known_any _).mono ?_; rintro e w8 ⟨rfl, hb8⟩; have hk8 := hk7.next hb8; clear hb8))
  go_wp2_with fail
  go_ret
  exact ⟨rfl, hk8.2.2.2.2⟩
end Go.Proofs.Ytkfokgkehlcikaa
