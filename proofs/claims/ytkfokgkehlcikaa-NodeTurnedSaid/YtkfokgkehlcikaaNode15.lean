/-
  A block read: by the document, where no node stands in it.
-/
import Derived.Test.YtkfokgkehlcikaaNode14
namespace Go.Proofs.Ytkfokgkehlcikaa
open Go.RowKit
set_option linter.unusedVariables false
attribute [local go_sem ↓] Go.wp_at_zero Go.wp_at_succ

set_option maxRecDepth 100000 in
set_option maxHeartbeats 4000000 in
theorem read'_other (w : World) (B : Nat) (A : Option Addr) (c n : Nat) (b : List Nat) (hn : b.length = n) (hr : Rd .u8 w B A c b) (hB : B ≤ w.heap.size) (ho : Oct8 b) (h64 : n ≠ 64) :
    Calls Try.prog 9 #[.slice A n c] w (ReadPost w b) := by
  have hbel : Below w.heap.size w (w.alloc (.cells #[.string ⟨#[]⟩, .int .i64 0, .slice none 0 0] 28)) := (Below.refl _ _).alloc (Nat.le_refl _) _
  have hbox := Holds.fresh w 28 #[.string ⟨#[]⟩, .int .i64 0, .slice none 0 0]
  have hc := hbox.cell
  have hfz := hbox.open_
  have q : ((n : Int) != 64) = true := by rw [bne_iff_ne]; omega
  have HNO := Lib.hid (show b ≠ List.replicate 64 0 from fun e => h64 (by rw [← hn, e, List.length_replicate]))
  have HNN := Lib.hid (show ∀ s z p, ¬ IsNode b s z p from fun s z p h => h64 (by rw [← hn, h.length]))
  go_enter Try.func9, Try.ntmps9
  go_wp2_with fail
  refine bodyPost_ret (v := .tuple #[.agg #[.string ⟨#[]⟩, .int .i64 0, .slice none 0 0], .bool false, .bool false]) (by simp [results, Try.results9, go_sem, hc]) rfl ?_
  exact read_none HNO.out HNN.out hbel

set_option maxRecDepth 100000 in
set_option maxHeartbeats 4000000 in
theorem read'_zero (w : World) (B : Nat) (A : Option Addr) (c : Nat) (b : List Nat) (hn : b.length = 64) (hr : Rd .u8 w B A c b) (hB : B ≤ w.heap.size) (ho : Oct8 b) (h0 : b = List.replicate 64 0) :
    Calls Try.prog 9 #[.slice A 64 c] w (ReadPost w b) := by
  have hbel : Below w.heap.size w (w.alloc (.cells #[.string ⟨#[]⟩, .int .i64 0, .slice none 0 0] 28)) := (Below.refl _ _).alloc (Nat.le_refl _) _
  have hbox := Holds.fresh w 28 #[.string ⟨#[]⟩, .int .i64 0, .slice none 0 0]
  have hr1 := hr.alloc hB (.cells #[.string ⟨#[]⟩, .int .i64 0, .slice none 0 0] 28)
  have hmk := make_bytes 64 64 rfl (by omega)
  rw [← h0] at hmk
  have H0 := Lib.hid h0
  clear h0
  go_enter Try.func9, Try.ntmps9
  go_wp2_with fail
  have hlt := hbox.lt
  have hsz : (w.alloc (.cells #[.string ⟨#[]⟩, .int .i64 0, .slice none 0 0] 28)).heap.size = w.heap.size + 1 := by simp
  generalize w.alloc (.cells #[.string ⟨#[]⟩, .int .i64 0, .slice none 0 0] 28) = W at *
  have hbox2 := hbox.alloc (.cells (nums .u8 b) 5)
  have hbel2 := hbel.alloc (Nat.le_of_lt hlt) (.cells (nums .u8 b) 5)
  have hz : Row .u8 5 (W.alloc (.cells (nums .u8 b) 5)) W.heap.size b := Holds.fresh W 5 (nums .u8 b)
  have hr2 := hr1.alloc (by omega) (.cells (nums .u8 b) 5)
  rw [hsz] at hz
  have hA1 := conv_str (n := 64) (w := W.drew) hr1 hn ho
  have hA2 := conv_str (n := 64) (w := (W.alloc (.cells (nums .u8 b) 5)).drew) hr2 hn ho
  have hA3 := conv_str (n := 64) (w := (W.alloc (.cells (nums .u8 b) 5)).drew) (A := some ⟨w.heap.size + 1, 0, none⟩) (c := 64) (hz.rd_all hn (by omega)) hn ho
  generalize str b = s at *
  go_region
  have hbox3 : Holds (W.alloc (.cells (nums .u8 b) 5)).drew w.heap.size 28 #[.string ⟨#[]⟩, .int .i64 0, .slice none 0 0] := hbox2.drewN 1
  have hbel3 : Below w.heap.size w (W.alloc (.cells (nums .u8 b) 5)).drew := below_drewN hbel2 1
  clear hbox2 hbel2 hz hr2 hA1 hA2 hA3 hmk hbox hbel
  generalize (W.alloc (.cells (nums .u8 b) 5)).drew = W2 at *
  have hc := hbox3.cell
  have hfz := hbox3.open_
  go_wp2_with fail
  refine bodyPost_ret (v := .tuple #[.agg #[.string ⟨#[]⟩, .int .i64 0, .slice none 0 0], .bool true, .bool true]) (by simp [results, Try.results9, go_sem, hc]) rfl ?_
  exact read_free H0.out (by repeat (first | exact hbel3 | refine Below.setCell ?_ (by simp) _))

end Go.Proofs.Ytkfokgkehlcikaa
