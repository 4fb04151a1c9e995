/-
  A block read: by the program, where bytes stand in it.
-/
import Derived.Test.YtkfokgkehlcikaaNode8
namespace Go.Proofs.Ytkfokgkehlcikaa
open Go.RowKit
set_option linter.unusedVariables false

theorem quiet_at {P : Program} {f : FuncId} {args : Array Value} {w : World} {n : Nat} {v : Value}
    (h : Calls P f args (w.drewN n) fun e w' => e = .returned v ∧ ∃ q, w' = (w.drewN n).drewN q) : Calls P f args (w.drewN n) fun e w' => e = .returned v ∧ ∃ m, w' = w.drewN m :=
  h.mono fun _ _ ⟨he, q, hq⟩ => ⟨he, n + q, by rw [hq, World.drewN_drewN]⟩

/-- The result's own cell, and what is known, behind the test for noughts. -/
def Mid (w : World) (B : Nat) (A : Option Addr) (c : Nat) (b : List Nat) (W : World) : Prop :=
  Holds W w.heap.size 25 #[.string ⟨#[]⟩, .int .i64 0, .slice none 0 0] ∧ Rd .u8 W B A c b ∧ Below w.heap.size w W

set_option maxRecDepth 100000 in
set_option maxHeartbeats 4000000 in
theorem read_bad (w : World) (B : Nat) (A : Option Addr) (c : Nat) (b : List Nat) (hn : b.length = 64) (hr : Rd .u8 w B A c b) (hB : B ≤ w.heap.size) (ho : Oct8 b) (h0 : b ≠ List.replicate 64 0) (hbad : 40 < b.getD 0 0 ∨ 600 < two b 41) :
    Calls Try.prog 8 #[.slice A 64 c] w (ReadPost w b) := by
  have hbel : Below w.heap.size w (w.alloc (.cells #[.string ⟨#[]⟩, .int .i64 0, .slice none 0 0] 25)) := (Below.refl _ _).alloc (Nat.le_refl _) _
  have hbox := Holds.fresh w 25 #[.string ⟨#[]⟩, .int .i64 0, .slice none 0 0]
  have hr1 := hr.alloc hB (.cells #[.string ⟨#[]⟩, .int .i64 0, .slice none 0 0] 25)
  have hmk := make_bytes 64 64 rfl (by omega)
  have HNN := Lib.hid (show ∀ s z p, ¬ IsNode b s z p from fun s z p h => by
    have h1 := h.long
    have h2 := h.size_
    have h3 := h.ok.name.high
    have h4 := h.ok.z600
    omega)
  obtain ⟨R, hR0⟩ : ∃ R, R = List.replicate 64 0 := ⟨_, rfl⟩
  have HO0 := Lib.hid (show Oct8 R from fun x hx => by rw [hR0] at hx; have := (List.mem_replicate.1 hx).2; omega)
  have HL0 := Lib.hid (show R.length = 64 by rw [hR0, List.length_replicate])
  have H0 := Lib.hid h0
  have H1 : Hid (b ≠ R) := Lib.hid (by rw [hR0]; exact h0)
  rw [← hR0] at hmk
  clear h0 hR0
  have ho' := oct_of ho
  have hlc := hr.1
  have hc63 := hr.2.1
  go_enter Try.func8, Try.ntmps8
  go_wp2_with fail
  have hlt := hbox.lt
  have hsz : (w.alloc (.cells #[.string ⟨#[]⟩, .int .i64 0, .slice none 0 0] 25)).heap.size = w.heap.size + 1 := by simp
  generalize w.alloc (.cells #[.string ⟨#[]⟩, .int .i64 0, .slice none 0 0] 25) = W at *
  have hbox2 := hbox.alloc (.cells (nums .u8 R) 5)
  have hbel2 := hbel.alloc (Nat.le_of_lt hlt) (.cells (nums .u8 R) 5)
  have hz : Row .u8 5 (W.alloc (.cells (nums .u8 R) 5)) W.heap.size R := Holds.fresh W 5 (nums .u8 R)
  rw [hsz] at hz
  have hr2 := hr1.alloc (by omega) (.cells (nums .u8 R) 5)
  generalize W.alloc (.cells (nums .u8 R) 5) = W2 at *
  refine (equal_no _ B _ A (some ⟨w.heap.size + 1, 0, none⟩) c 64 64 64 b R hn HL0.out hr2 (hz.rd_all HL0.out (by omega)) ho HO0.out H1.out).mono ?_
  rintro e w1 ⟨rfl, rfl⟩
  clear hbox hbel hz hr1 hr hmk
  obtain ⟨bb, off, x, rfl, hb, hx, Hx⟩ := hr2.at_ (i := 0) (by omega)
  rw [Nat.add_zero] at hx
  obtain ⟨v, Hv⟩ : ∃ v, Hid (two b 41 = v) := ⟨_, rfl⟩
  rw [Hv.out, ← Hx.out] at hbad
  have hx8 : x < 256 := by rw [Hx.out]; exact ho' 0
  clear hlt hsz hb
  by_cases h40 : 40 < x
  case pos =>
    have b1 : decide (40 < (x : Int)) = true := decide_eq_true (by omega)
    clear h40 hbad
    go_wp2_with fail
    go_quiet ((go_at_call 29; exact quiet_at (get_any _ B (some ⟨bb, off, none⟩) c 64 b hn (hr2.drewN _) ho' 41 (by omega) v Hv.out)))
    have hbox3 := hbox2.drewN nq
    have hbel3 := below_drewN hbel2 nq
    generalize W2.drewN nq = W3 at *
    have hc := hbox3.cell
    have hfz := hbox3.open_
    go_wp2_with fail
    refine bodyPost_ret (v := .tuple #[.agg #[.string ⟨#[]⟩, .int .i64 0, .slice none 0 0], .bool false, .bool false]) (by simp [results, Try.results8, go_sem, hc]) rfl ?_
    exact read_none H0.out HNN.out (by repeat (first | exact hbel3 | refine Below.setCell ?_ (by simp) _))
  case neg =>
    have b1 : decide (40 < (x : Int)) = false := decide_eq_false (by omega)
    have b2 : decide (600 < (v : Int)) = true := decide_eq_true (by omega)
    clear h40 hbad
    go_wp2_with fail
    go_quiet ((go_at_call 29; exact quiet_at (get_any _ B (some ⟨bb, off, none⟩) c 64 b hn (hr2.drewN _) ho' 41 (by omega) v Hv.out)))
    have hbox3 := hbox2.drewN nq
    have hbel3 := below_drewN hbel2 nq
    generalize W2.drewN nq = W3 at *
    have hc := hbox3.cell
    have hfz := hbox3.open_
    go_wp2_with fail
    refine bodyPost_ret (v := .tuple #[.agg #[.string ⟨#[]⟩, .int .i64 0, .slice none 0 0], .bool false, .bool false]) (by simp [results, Try.results8, go_sem, hc]) rfl ?_
    exact read_none H0.out HNN.out (by repeat (first | exact hbel3 | refine Below.setCell ?_ (by simp) _))
end Go.Proofs.Ytkfokgkehlcikaa
