/-
  The law of sums, differences, products, and which is more.
-/
import Derived.Test.YtphfgchfphdcaaaNat12
namespace Go.Proofs.Ytphfgchfphdcaaa
open Go.RowKit
set_option linter.unusedVariables false

theorem nrm_len {l : List Nat} (h : okN l = true) : l.length ≤ 5000 := by have := (okN_nrm h).1; omega

theorem num_nil : NumIs [] 0 := ⟨fun x hx => (by cases hx), .inl rfl, rfl⟩
theorem sub_all (w : World) (B B' : Nat) (A A' : Option Addr) (c c' : Nat) (l l' : List Nat) (hr : Rd .u32 w B A c l) (hr' : Rd .u32 w B' A' c' l') (hB : B ≤ w.heap.size) (hB' : B' ≤ w.heap.size) (hd : Dg l) (hd' : Dg l') (hs : l.length ≤ 5000) (hs' : l'.length ≤ 5000) (v : Bool) (hv : decide (val l' ≤ val l) = v) :
    Calls Try.prog 27 #[.slice A l.length c, .slice A' l'.length c'] w fun e w' => ∃ A2 c2 r, e = .returned (.tuple #[.slice A2 r.length c2, .bool v]) ∧ NumIs r (val l - val l') ∧ Fresh .u32 31 w' w.heap.size A2 c2 r ∧ Below w.heap.size w w' := by
  by_cases h : val l < val l'
  · obtain rfl : v = false := by rw [← hv]; simp; omega
    refine (sub_no w B B' A A' c c' l l' hr hr' hd hd' h).mono ?_
    rintro e w' ⟨rfl, q, rfl⟩
    exact ⟨none, 0, [], rfl, by rw [Nat.sub_eq_zero_of_le (Nat.le_of_lt h)]; exact num_nil, fresh_nil _ _ _ _, below_drewN (Below.refl _ _) q⟩
  · obtain rfl : v = true := by rw [← hv]; simp; omega
    exact sub_yes w B B' A A' c c' l l' hr hr' hB hB' hd hd' hs hs' h
theorem sub'_all (w : World) (B B' : Nat) (A A' : Option Addr) (c c' : Nat) (l l' : List Nat) (hr : Rd .u32 w B A c l) (hr' : Rd .u32 w B' A' c' l') (hB : B ≤ w.heap.size) (hB' : B' ≤ w.heap.size) (hd : Dg l) (hd' : Dg l') (hn : nrm l) (hn' : nrm l') (hs : l.length ≤ 5000) (hs' : l'.length ≤ 5000) (v : Bool) (hv : decide (val l' ≤ val l) = v) :
    Calls Try.prog 29 #[.slice A l.length c, .slice A' l'.length c'] w fun e w' => ∃ A2 c2 r, e = .returned (.tuple #[.slice A2 r.length c2, .bool v]) ∧ NumIs r (val l - val l') ∧ Fresh .u32 31 w' w.heap.size A2 c2 r ∧ Below w.heap.size w w' := by
  by_cases h : val l < val l'
  · obtain rfl : v = false := by rw [← hv]; simp; omega
    refine (sub'_no w B B' A A' c c' l l' hr hr' hd hd' hn hn' h).mono ?_
    rintro e w' ⟨rfl, q, rfl⟩
    exact ⟨none, 0, [], rfl, by rw [Nat.sub_eq_zero_of_le (Nat.le_of_lt h)]; exact num_nil, fresh_nil _ _ _ _, below_drewN (Below.refl _ _) q⟩
  · obtain rfl : v = true := by rw [← hv]; simp; omega
    exact sub'_yes w B B' A A' c c' l l' hr hr' hB hB' hd hd' hn hn' hs hs' h
theorem rd_drawn {k : IntKind} {w : World} {A : Option Addr} {c : Nat} {l : List Nat} (h : Rd k w w.heap.size A c l) (n : Nat) : Rd k (w.drewN n) (w.drewN n).heap.size A c l := h
theorem rd_next {k : IntKind} {w w' : World} {B : Nat} {A : Option Addr} {c : Nat} {l : List Nat} (h : Rd k w B A c l) (hB : B ≤ w.heap.size) (hb : Below w.heap.size w w') : Rd k w' w'.heap.size A c l := ((h.more hB).under hb).more hb.size

end Go.Proofs.Ytphfgchfphdcaaa
