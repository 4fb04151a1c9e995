/-
  Which tags may be, which are of things with kids; whether a thing may be: by the document.
-/
import Derived.Test.YtdjklhglkmacbaaDoorTlv7
namespace Go.Proofs.YtdjklhglkmacbaaDoor
open Go.RowKit
set_option linter.unusedVariables false
set_option linter.unusedSimpArgs false

def tagOk (x : Nat) : Bool := x != 0 && x % 32 != 31
def parted (x : Nat) : Bool := x / 32 % 2 == 1
theorem tag_all : ∀ x : Fin 256, (((x.val : Nat) : Int) != 0 && ((x.val : Nat) : Int) % 32 != 31) = tagOk x.val := by decide +kernel
theorem part_all : ∀ x : Fin 256, (Go.bits BinOp.and IntKind.u8 ((x.val : Nat) : Int) 32 != 0) = parted x.val := by decide +kernel
theorem tagged_is (x : Nat) (hx : x < 256) : (((x : Nat) : Int) != 0 && ((x : Nat) : Int) % 32 != 31) = tagOk x := tag_all ⟨x, hx⟩
theorem parted_is (x : Nat) (hx : x < 256) : (Go.bits BinOp.and IntKind.u8 ((x : Nat) : Int) 32 != 0) = parted x := part_all ⟨x, hx⟩
set_option maxRecDepth 100000 in
theorem tagged_any (w : World) (x : Nat) (hx : x < 256) :
    Calls Tryd.prog 76 #[.int .u8 (x : Int)] w fun e w' => e = .returned (.bool (tagOk x)) ∧ w = w' := by
  have ht := Lib.hid (tagged_is x hx)
  by_cases h0 : x = 0
  · subst h0
    have hT : Hid (tagOk 0 = false) := Lib.hid rfl
    clear ht
    go_enter Tryd.func76, Tryd.ntmps76
    go_wp2_with fail
    go_ret
    exact ⟨ret_bool (by rw [hT.out]), rfl⟩
  · have hne : ((x : Int) != 0) = true := by rw [bne_iff_ne]; omega
    have hT : Hid (((x : Int) % 32 != 31) = tagOk x) := Lib.hid (by have := ht.out; rw [hne, Bool.true_and] at this; exact this)
    clear ht
    go_enter Tryd.func76, Tryd.ntmps76
    go_wp2_with fail
    go_ret
    exact ⟨ret_bool hT.out, rfl⟩
set_option maxRecDepth 100000 in
theorem constructed_any (w : World) (x : Nat) (hx : x < 256) :
    Calls Tryd.prog 78 #[.int .u8 (x : Int)] w fun e w' => e = .returned (.bool (parted x)) ∧ w = w' := by
  have ht := Lib.hid (parted_is x hx)
  go_enter Tryd.func78, Tryd.ntmps78
  go_wp2_with fail
  go_ret
  exact ⟨ret_bool ht.out, rfl⟩
set_option maxRecDepth 100000 in
theorem tag'_any (w : World) (x : Nat) (hx : x < 256) :
    Calls Tryd.prog 83 #[.int .u8 (x : Int)] w fun e w' => e = .returned (.bool (tagOk x)) ∧ w = w' := by
  have ht := Lib.hid (tagged_is x hx)
  by_cases h0 : x = 0
  · subst h0
    have hT : Hid (tagOk 0 = false) := Lib.hid rfl
    clear ht
    go_enter Tryd.func83, Tryd.ntmps83
    go_wp2_with fail
    go_ret
    exact ⟨ret_bool (by rw [hT.out]), rfl⟩
  · have hne : ((x : Int) != 0) = true := by rw [bne_iff_ne]; omega
    have hT : Hid (((x : Int) % 32 != 31) = tagOk x) := Lib.hid (by have := ht.out; rw [hne, Bool.true_and] at this; exact this)
    clear ht
    go_enter Tryd.func83, Tryd.ntmps83
    go_wp2_with fail
    go_ret
    exact ⟨ret_bool hT.out, rfl⟩
set_option maxRecDepth 100000 in
theorem parted'_any (w : World) (x : Nat) (hx : x < 256) :
    Calls Tryd.prog 84 #[.int .u8 (x : Int)] w fun e w' => e = .returned (.bool (parted x)) ∧ w = w' := by
  have ht := Lib.hid (parted_is x hx)
  go_enter Tryd.func84, Tryd.ntmps84
  go_wp2_with fail
  go_ret
  exact ⟨ret_bool ht.out, rfl⟩
end Go.Proofs.YtdjklhglkmacbaaDoor
