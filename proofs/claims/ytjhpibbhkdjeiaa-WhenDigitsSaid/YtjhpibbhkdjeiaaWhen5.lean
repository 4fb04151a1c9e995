/-
  Two digits written, by both; a time's thing.
-/
import Derived.Test.YtjhpibbhkdjeiaaWhen4
import Derived.Test.YtjhpibbhkdjeiaaOwn
namespace Go.Proofs.Ytjhpibbhkdjeiaa
open Go.RowKit

theorem info_u8 : (Try.prog.info? 5).map (fun i => (i.zero, i.size, i.bytes)) = some (some (.int .u8 0), 1, 1) := by kernel_rfl

def dig2 (v : Nat) : List Nat := [48 + v / 10 % 10, 48 + v % 10]

theorem cast2 (a b : Nat) : (#[Value.int .u8 (a : Int), .int .u8 (b : Int)] : Array Value) = nums .u8 [a, b] := rfl

set_option maxRecDepth 100000 in
theorem two_any (w : World) (B : Nat) (A : Option Addr) (c n : Nat) (l : List Nat) (hn : l.length = n) (hown : Own .u8 5 w B A c l) (hB : B ≤ w.heap.size) (hl : n ≤ 1000) (v : Nat) (hv : v ≤ 99) :
    Calls Try.prog 19 #[.slice A n c, .int .i64 v] w fun e w' => ∃ g' c', e = .returned (.slice (some ⟨g', 0, none⟩) (n + 2) c') ∧ Own .u8 5 w' B (some ⟨g', 0, none⟩) c' (l ++ dig2 v) ∧ w.grownBy w' (blockOf A) ∧ (blockOf A = some g' ∨ w.heap.size ≤ g') := by
  have HH : ∀ w : World, Hid (Holds (w.alloc (.cells #[.int .u8 (48 + (v : Int) / 10), .int .u8 (48 + (v : Int) % 10)] 5)) w.heap.size 5 (nums .u8 (dig2 v))) := fun w => Lib.hid (by
    have e : (#[.int .u8 (48 + (v : Int) / 10), .int .u8 (48 + (v : Int) % 10)] : Array Value) = nums .u8 (dig2 v) := by
      unfold dig2
      rw [← cast2]
      congr 2
      congr 1
      omega
    rw [e]
    exact Holds.fresh _ _ _)
  have HO := Lib.hid hown
  have HN := Lib.hid hn
  clear hown hn
  go_enter Try.func19, Try.ntmps19
  go_wp2_with (with_reducible refine wpList_push _ rfl (.tmp 5) (.tmp 14) 22 rfl .u8 B 5 1 Try.underlying22 info_u8 A n c l rfl HN.out (HO.out.alloc _) w.heap.size 2 2 (dig2 v) rfl rfl (HH w).out (by omega) (by omega) (by omega) (by simp; omega) ?hk)
  intro g' c' w1 hown1 hgr hat
  have HO1 := Lib.hid hown1
  have HG := Lib.hid hgr
  have HA := Lib.hid hat
  clear hown1 hgr hat
  go_wp2_with fail
  go_ret
  refine ⟨g', c', rfl, HO1.out, ?_, ?_⟩
  · exact (World.grownBy_alloc w _ _).trans HG.out
  · rcases HA.out with h | h
    · exact .inl h
    · exact .inr (by rw [h]; simp)
end Go.Proofs.Ytjhpibbhkdjeiaa
