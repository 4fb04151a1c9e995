/-
  A block read: by the program, where no node stands in it.
-/
import Derived.Test.YtkfokgkehlcikaaNode7
namespace Go.Proofs.Ytkfokgkehlcikaa
open Go.RowKit
set_option linter.unusedVariables false

theorem Row.rd_all {k : IntKind} {T : TypeId} {w : World} {g : Nat} {l : List Nat} (h : Row k T w g l) {n : Nat} (hn : l.length = n) (h63 : n ≤ 9223372036854775807) : Rd k w w.heap.size (some ⟨g, 0, none⟩) n l := by
  subst hn
  have := (h.rd (Nat.le_refl _) (Nat.le_refl _) h63).more (Holds.lt h)
  rwa [List.take_of_length_le (Nat.le_refl _)] at this

set_option maxRecDepth 100000 in
set_option maxHeartbeats 4000000 in
theorem read_other (w : World) (B : Nat) (A : Option Addr) (c n : Nat) (b : List Nat) (hn : b.length = n) (hr : Rd .u8 w B A c b) (hB : B ≤ w.heap.size) (ho : Oct8 b) (h64 : n ≠ 64) :
    Calls Try.prog 8 #[.slice A n c] w (ReadPost w b) := by
  have hbel : Below w.heap.size w (w.alloc (.cells #[.string ⟨#[]⟩, .int .i64 0, .slice none 0 0] 25)) := (Below.refl _ _).alloc (Nat.le_refl _) _
  have hbox := Holds.fresh w 25 #[.string ⟨#[]⟩, .int .i64 0, .slice none 0 0]
  have hc := hbox.cell
  have hfz := hbox.open_
  have q : ((n : Int) != 64) = true := by rw [bne_iff_ne]; omega
  have HNO := Lib.hid (show b ≠ List.replicate 64 0 from fun e => h64 (by rw [← hn, e, List.length_replicate]))
  have HNN := Lib.hid (show ∀ s z p, ¬ IsNode b s z p from fun s z p h => h64 (by rw [← hn, h.length]))
  go_enter Try.func8, Try.ntmps8
  go_wp2_with fail
  refine bodyPost_ret (v := .tuple #[.agg #[.string ⟨#[]⟩, .int .i64 0, .slice none 0 0], .bool false, .bool false]) (by simp [results, Try.results8, go_sem, hc]) rfl ?_
  exact read_none HNO.out HNN.out hbel

set_option maxRecDepth 100000 in
set_option maxHeartbeats 4000000 in
theorem read_zero (w : World) (B : Nat) (A : Option Addr) (c : Nat) (b : List Nat) (hn : b.length = 64) (hr : Rd .u8 w B A c b) (hB : B ≤ w.heap.size) (ho : Oct8 b) (h0 : b = List.replicate 64 0) :
    Calls Try.prog 8 #[.slice A 64 c] w (ReadPost w b) := by
  have hbel : Below w.heap.size w (w.alloc (.cells #[.string ⟨#[]⟩, .int .i64 0, .slice none 0 0] 25)) := (Below.refl _ _).alloc (Nat.le_refl _) _
  have hbox := Holds.fresh w 25 #[.string ⟨#[]⟩, .int .i64 0, .slice none 0 0]
  have hr1 := hr.alloc hB (.cells #[.string ⟨#[]⟩, .int .i64 0, .slice none 0 0] 25)
  have hmk := make_bytes 64 64 rfl (by omega)
  rw [← h0] at hmk
  have H0 := Lib.hid h0
  clear h0
  go_enter Try.func8, Try.ntmps8
  go_wp2_with fail
  have hlt := hbox.lt
  have hsz : (w.alloc (.cells #[.string ⟨#[]⟩, .int .i64 0, .slice none 0 0] 25)).heap.size = w.heap.size + 1 := by simp
  generalize w.alloc (.cells #[.string ⟨#[]⟩, .int .i64 0, .slice none 0 0] 25) = W at *
  have hbox2 := hbox.alloc (.cells (nums .u8 b) 5)
  have hbel2 := hbel.alloc (Nat.le_of_lt hlt) (.cells (nums .u8 b) 5)
  have hz : Row .u8 5 (W.alloc (.cells (nums .u8 b) 5)) W.heap.size b := Holds.fresh W 5 (nums .u8 b)
  rw [hsz] at hz
  have hr2 := hr1.alloc (by omega) (.cells (nums .u8 b) 5)
  generalize W.alloc (.cells (nums .u8 b) 5) = W2 at *
  have hc := hbox2.cell
  have hfz := hbox2.open_
  refine (equal_yes _ B _ A (some ⟨w.heap.size + 1, 0, none⟩) c 64 64 b hn hr2 (hz.rd_all hn (by omega)) ho).mono ?_
  rintro e w1 ⟨rfl, rfl⟩
  go_wp2_with fail
  refine bodyPost_ret (v := .tuple #[.agg #[.string ⟨#[]⟩, .int .i64 0, .slice none 0 0], .bool true, .bool true]) (by simp [results, Try.results8, go_sem, hc]) rfl ?_
  exact read_free H0.out (by repeat (first | exact hbel2 | refine Below.setCell ?_ (by simp) _))
end Go.Proofs.Ytkfokgkehlcikaa
