/-
  A disk's operations, each as a function of what the disk is.
-/
import Derived.Test.YtkmbgbbmhpidkaaDev6
namespace Go.Proofs.Ytkmbgbbmhpidkaa
open Go.RowKit
set_option linter.unusedVariables false

def Dk.due (s : Dk) : Bool := s.armed && decide (s.at_ ≤ (s.ops : Int))
def Dk.kept (s : Dk) : List (List Nat) := fallN (fun j => s.keep.getD j false) s.waits s.lasts s.waits.length
def Dk.fall (s : Dk) : Dk := { s with lasts := s.kept, now := backN s.kept s.waits s.now s.waits.length, waits := [], down := true }
def Dk.wrote (s : Dk) (i : Nat) (x : List Nat) : Dk := { s with now := s.now.set i x, waits := s.waits ++ [(i, x)], ops := s.ops + 1 }
def Dk.flushed (s : Dk) : Dk := { s with lasts := fallN (fun _ => true) s.waits s.lasts s.waits.length, waits := [], ops := s.ops + 1 }
def Dk.arm (s : Dk) (a : Int) (k : List Bool) : Dk := { s with armed := true, at_ := a, keep := k }
def Dk.restart (s : Dk) : Dk := { s with now := backN s.lasts s.waits s.now s.waits.length, waits := [], armed := false, at_ := 0, keep := [], down := false, ops := 0 }
def Dk.fits (s : Dk) (i : Int) (x : List Nat) : Prop := 0 ≤ i ∧ i < (s.now.length : Int) ∧ x.length = 64
instance (s : Dk) (i : Int) (x : List Nat) : Decidable (s.fits i x) := inferInstanceAs (Decidable (_ ∧ _ ∧ _))
def Dk.write (s : Dk) (i : Int) (x : List Nat) : Dk × Nat := if s.down then (s, 6) else if s.fits i x then (if s.due then (s.fall, 6) else (s.wrote i.toNat x, 0)) else (s, 1)
def Dk.flush (s : Dk) : Dk × Nat := if s.down then (s, 6) else if s.due then (s.fall, 6) else (s.flushed, 0)
def Dk.read (s : Dk) (i : Int) : List Nat := if 0 ≤ i then s.now.getD i.toNat [] else []

theorem DiskAt.disk {w w' : World} {F : Nat → Prop} {gd gn gl : Nat} {A A' : Option Addr} {cw cw' : Nat} {K K' : Option Addr} {ck ck' : Nat} {s s' : Dk} (h : DiskAt w gd gn gl A cw K ck s) (hF : F gd ∧ F gn ∧ F gl ∧ (∀ g, blockOf A = some g → F g) ∧ (∀ g, blockOf K = some g → F g))
    (h' : DiskAt w' gd gn gl A' cw' K' ck' s') (hA : ∀ g, blockOf A' = some g → blockOf A = some g ∨ w.heap.size ≤ g) (hK : ∀ g, blockOf K' = some g → blockOf K = some g ∨ w.heap.size ≤ g) : Disk w' (grow F w w') gd s' :=
  ⟨gn, gl, A', cw', K', ck', h', .inl hF.1, .inl hF.2.1, .inl hF.2.2.1, fun g hg => (hA g hg).elim (fun e => .inl (hF.2.2.2.1 g e)) fun e => .inr ⟨e, h'.hw.lt hg⟩, fun g hg => (hK g hg).elim (fun e => .inl (hF.2.2.2.2 g e)) fun e => .inr ⟨e, h'.kw g hg⟩⟩

/-- What is kept, anew. -/
theorem DiskAt.rekeep {w : World} {gd gn gl : Nat} {A : Option Addr} {cw : Nat} {K : Option Addr} {ck : Nat} {s : Dk} (h : DiskAt w gd gn gl A cw K ck s) (K' : Option Addr) (ck' : Nat) (l : List Bool) (hk : Truths w K' ck' l)
    (kd : ∀ g, blockOf K' = some g → g ≠ gd ∧ g ≠ gn ∧ g ≠ gl ∧ blockOf A ≠ some g) (kw : ∀ g, blockOf K' = some g → g < w.heap.size) :
    DiskAt (w.setCell ⟨gd, 6, none⟩ (.slice K' l.length ck')) gd gn gl A cw K' ck' { s with keep := l } := by
  have k : ∀ v g, g ≠ gd → (w.setCell ⟨gd, 6, none⟩ v).heap[g]? = w.heap[g]? := fun v g hne => Below.heap_setCell w ⟨gd, 6, none⟩ v g hne
  have hsz : ∀ v, (w.setCell ⟨gd, 6, none⟩ v).heap.size = w.heap.size := fun v => by simp [World.setCell]
  exact {
    hd := Holds.stored h.hd 6 (.slice K' l.length ck')
    hn := h.hn.keep (k _ gn fun e => h.dn e.symm)
    hl := h.hl.keep (k _ gl fun e => h.dl e.symm)
    len := h.len
    hw := h.hw.keep fun g hg => k _ g fun e => h.ad.1 (by rw [hg, e])
    hk := hk.keep (Nat.le_of_eq (hsz _).symm) fun g hg _ => k _ g (kd g hg).1
    dn := h.dn
    dl := h.dl
    nl := h.nl
    ad := h.ad
    kd := ⟨fun e => (kd _ e).1 rfl, fun e => (kd _ e).2.1 rfl, fun e => (kd _ e).2.2.1 rfl, fun g hg => (kd g hg).2.2.2⟩
    kw := fun g hg => by rw [hsz]; exact kw g hg
    n1 := h.n1
    n2 := h.n2
    wat := h.wat }

section
variable (w : World) (F : Nat → Prop) (gd : Nat) (s : Dk)
theorem write_down (gn gl : Nat) (A : Option Addr) (cw : Nat) (K : Option Addr) (ck : Nat) (h : DiskAt w gd gn gl A cw K ck s) (hdn : s.down = true) (i : Int) (v : Value) :
    Calls Try.prog 20 #[.pointer (some ⟨gd, 0, none⟩), .int .i64 i, v] w fun e w' => e = .returned (.int .i64 6) ∧ w = w' := by
  have c7 : w.cell? ⟨gd, 7, none⟩ = some (.bool s.down) := h.hd.cell 7
  have HC1 := Lib.hid (down_any w gd _ c7)
  rw [hdn] at HC1
  clear h c7 hdn
  go_enter Try.func20, Try.ntmps20
  go_wp2_with (refine HC1.out.mono ?_; rintro e w1 ⟨rfl, rfl⟩)
  go_ret
  exact ⟨rfl, rfl⟩
set_option maxRecDepth 100000 in
theorem write_arg (gn gl : Nat) (A : Option Addr) (cw : Nat) (K : Option Addr) (ck : Nat) (h : DiskAt w gd gn gl A cw K ck s) (hdn : s.down = false) (i : Int) (A2 : Option Addr) (n2 c2 : Nat) (hb : ¬ (0 ≤ i ∧ i < (s.now.length : Int) ∧ n2 = 64)) :
    Calls Try.prog 20 #[.pointer (some ⟨gd, 0, none⟩), .int .i64 i, .slice A2 n2 c2] w fun e w' => e = .returned (.int .i64 1) ∧ w = w' := by
  have c0 : w.cell? ⟨gd, 0, none⟩ = some (.slice (some ⟨gn, 0, none⟩) s.now.length s.now.length) := h.hd.cell 0
  have c7 : w.cell? ⟨gd, 7, none⟩ = some (.bool s.down) := h.hd.cell 7
  have HC1 := Lib.hid (down_any w gd _ c7)
  rw [hdn] at HC1
  by_cases hin : 0 ≤ i ∧ i < (s.now.length : Int)
  · have HC2 := Lib.hid (has_any w gd _ _ _ i c0 true (by rw [Bool.eq_iff_iff]; simpa using hin))
    have h64 : ((n2 : Int) != 64) = true := by rw [bne_iff_ne]; intro e; exact hb ⟨hin.1, hin.2, by omega⟩
    clear h c0 c7 hdn hb hin
    go_enter Try.func20, Try.ntmps20
    go_wp2_with (first | (refine HC1.out.mono ?_; rintro e w1 ⟨rfl, rfl⟩) | (refine HC2.out.mono ?_; rintro e w1 ⟨rfl, rfl⟩))
    go_ret
    exact ⟨rfl, rfl⟩
  · have HC2 := Lib.hid (has_any w gd _ _ _ i c0 false (by rw [Bool.eq_iff_iff]; simpa using fun a => by omega))
    clear h c0 c7 hdn hb hin
    go_enter Try.func20, Try.ntmps20
    go_wp2_with (first | (refine HC1.out.mono ?_; rintro e w1 ⟨rfl, rfl⟩) | (refine HC2.out.mono ?_; rintro e w1 ⟨rfl, rfl⟩))
    go_ret
    exact ⟨rfl, rfl⟩
set_option maxRecDepth 100000 in
theorem write_due (gn gl : Nat) (A : Option Addr) (cw : Nat) (K : Option Addr) (ck : Nat) (h : DiskAt w gd gn gl A cw K ck s) (hdn : s.down = false) (i : Nat) (hi : i < s.now.length) (A2 : Option Addr) (c2 : Nat) (hdue : s.due = true) (hwl : s.waits.length ≤ 100000) :
    Calls Try.prog 20 #[.pointer (some ⟨gd, 0, none⟩), .int .i64 i, .slice A2 64 c2] w fun e w' => e = .returned (.int .i64 6) ∧ DiskAt w' gd gn gl none 0 K ck s.fall ∧ Only (fun g => g = gd ∨ g = gn ∨ g = gl) w w' := by
  have c0 : w.cell? ⟨gd, 0, none⟩ = some (.slice (some ⟨gn, 0, none⟩) s.now.length s.now.length) := h.hd.cell 0
  have c3 : w.cell? ⟨gd, 3, none⟩ = some (.int .i64 s.ops) := h.hd.cell 3
  have c4 : w.cell? ⟨gd, 4, none⟩ = some (.bool s.armed) := h.hd.cell 4
  have c5 : w.cell? ⟨gd, 5, none⟩ = some (.int .i64 s.at_) := h.hd.cell 5
  have c7 : w.cell? ⟨gd, 7, none⟩ = some (.bool s.down) := h.hd.cell 7
  have HC1 := Lib.hid (down_any w gd _ c7)
  rw [hdn] at HC1
  have HC2 := Lib.hid (has_any w gd _ _ _ i c0 true (by rw [Bool.eq_iff_iff]; simp; omega))
  have HC3 := Lib.hid (due_any w gd _ _ _ c3 c4 c5 true hdue.symm)
  have HFA := Lib.hid (fun q => fall_any (w.drewN q) gd gn gl A cw K ck s (h.drewN q) hwl (fun j => s.keep.getD j false) fun _ => rfl)
  clear h c0 c3 c4 c5 c7 hdn hdue hwl hi
  go_enter Try.func20, Try.ntmps20
  go_wp2_with (first | (refine HC1.out.mono ?_; rintro e w1 ⟨rfl, rfl⟩) | (refine HC2.out.mono ?_; rintro e w1 ⟨rfl, rfl⟩) | fail)
  refine HC3.out.mono ?_
  rintro e w1 ⟨rfl, q, rfl⟩
  go_wp2_with fail
  refine (HFA.out q).mono ?_
  rintro e w2 ⟨rfl, hd, ho⟩
  have HD := Lib.hid hd
  have HO := Lib.hid ho
  clear hd ho
  go_wp2_with fail
  go_ret
  exact ⟨rfl, HD.out, HO.out.os, HO.out.tape, HO.out.output, HO.out.size, HO.out.block⟩
set_option maxRecDepth 100000 in
theorem flush_down (gn gl : Nat) (A : Option Addr) (cw : Nat) (K : Option Addr) (ck : Nat) (h : DiskAt w gd gn gl A cw K ck s) (hdn : s.down = true) :
    Calls Try.prog 23 #[.pointer (some ⟨gd, 0, none⟩)] w fun e w' => e = .returned (.int .i64 6) ∧ w = w' := by
  have c7 : w.cell? ⟨gd, 7, none⟩ = some (.bool s.down) := h.hd.cell 7
  have HC1 := Lib.hid (down_any w gd _ c7)
  rw [hdn] at HC1
  clear h c7 hdn
  go_enter Try.func23, Try.ntmps23
  go_wp2_with (refine HC1.out.mono ?_; rintro e w1 ⟨rfl, rfl⟩)
  go_ret
  exact ⟨rfl, rfl⟩
set_option maxRecDepth 100000 in
theorem flush_due (gn gl : Nat) (A : Option Addr) (cw : Nat) (K : Option Addr) (ck : Nat) (h : DiskAt w gd gn gl A cw K ck s) (hdn : s.down = false) (hdue : s.due = true) (hwl : s.waits.length ≤ 100000) :
    Calls Try.prog 23 #[.pointer (some ⟨gd, 0, none⟩)] w fun e w' => e = .returned (.int .i64 6) ∧ DiskAt w' gd gn gl none 0 K ck s.fall ∧ Only (fun g => g = gd ∨ g = gn ∨ g = gl) w w' := by
  have c3 : w.cell? ⟨gd, 3, none⟩ = some (.int .i64 s.ops) := h.hd.cell 3
  have c4 : w.cell? ⟨gd, 4, none⟩ = some (.bool s.armed) := h.hd.cell 4
  have c5 : w.cell? ⟨gd, 5, none⟩ = some (.int .i64 s.at_) := h.hd.cell 5
  have c7 : w.cell? ⟨gd, 7, none⟩ = some (.bool s.down) := h.hd.cell 7
  have HC1 := Lib.hid (down_any w gd _ c7)
  rw [hdn] at HC1
  have HC3 := Lib.hid (due_any w gd _ _ _ c3 c4 c5 true hdue.symm)
  have HFA := Lib.hid (fun q => fall_any (w.drewN q) gd gn gl A cw K ck s (h.drewN q) hwl (fun j => s.keep.getD j false) fun _ => rfl)
  clear h c3 c4 c5 c7 hdn hdue hwl
  go_enter Try.func23, Try.ntmps23
  go_wp2_with (refine HC1.out.mono ?_; rintro e w1 ⟨rfl, rfl⟩)
  refine HC3.out.mono ?_
  rintro e w1 ⟨rfl, q, rfl⟩
  go_wp2_with fail
  refine (HFA.out q).mono ?_
  rintro e w2 ⟨rfl, hd, ho⟩
  have HD := Lib.hid hd
  have HO := Lib.hid ho
  clear hd ho
  go_wp2_with fail
  go_ret
  exact ⟨rfl, HD.out, HO.out.os, HO.out.tape, HO.out.output, HO.out.size, HO.out.block⟩
set_option maxRecDepth 100000 in
theorem restart_low (gn gl : Nat) (A : Option Addr) (cw : Nat) (K : Option Addr) (ck : Nat) (h : DiskAt w gd gn gl A cw K ck s) (hwl : s.waits.length ≤ 100000) :
    Calls Try.prog 14 #[.pointer (some ⟨gd, 0, none⟩)] w fun e w' => e = .returned (.tuple #[]) ∧ DiskAt w' gd gn gl none 0 none 0 s.restart ∧ Only (fun g => g = gd ∨ g = gn) w w' := by
  have HFO := Lib.hid (forget_any w gd gn gl A cw K ck s h hwl)
  clear h hwl
  go_enter Try.func14, Try.ntmps14
  go_wp2_with fail
  refine HFO.out.mono ?_
  rintro e w2 ⟨rfl, hd, ho⟩
  have k1 := hd.head 4 (.bool false) { s with now := backN s.lasts s.waits s.now s.waits.length, waits := [], armed := false } rfl rfl rfl rfl rfl
  have k2 := k1.head 5 (.int .i64 0) { s with now := backN s.lasts s.waits s.now s.waits.length, waits := [], armed := false, at_ := 0 } rfl rfl rfl rfl rfl
  have k3 := k2.rekeep none 0 [] (Truths.nil _) (by simp [blockOf]) (by simp [blockOf])
  have k4 := k3.head 7 (.bool false) { s with now := backN s.lasts s.waits s.now s.waits.length, waits := [], armed := false, at_ := 0, keep := [], down := false } rfl rfl rfl rfl rfl
  have k5 := k4.head 3 (.int .i64 0) s.restart rfl rfl rfl rfl rfl
  have o5 := ((((ho.setCell (p := ⟨gd, 4, none⟩) (.inl (.inl rfl)) (.bool false)).setCell (p := ⟨gd, 5, none⟩) (.inl (.inl rfl)) (.int .i64 0)).setCell (p := ⟨gd, 6, none⟩) (.inl (.inl rfl)) (.slice none 0 0)).setCell (p := ⟨gd, 7, none⟩) (.inl (.inl rfl)) (.bool false)).setCell (p := ⟨gd, 3, none⟩) (.inl (.inl rfl)) (.int .i64 0)
  have HK5 := Lib.hid k5
  have HO5 := Lib.hid o5
  have e4 : w2.cell? ⟨gd, 4, none⟩ = some (.bool s.armed) := hd.hd.cell 4
  have f4 := hd.hd.open_ 4
  have e5' : w2.cell? ⟨gd, 5, none⟩ = some (.int .i64 s.at_) := hd.hd.cell 5
  have e6' : w2.cell? ⟨gd, 6, none⟩ = some (.slice K s.keep.length ck) := hd.hd.cell 6
  have e7' : w2.cell? ⟨gd, 7, none⟩ = some (.bool s.down) := hd.hd.cell 7
  have e3' : w2.cell? ⟨gd, 3, none⟩ = some (.int .i64 s.ops) := hd.hd.cell 3
  have f5' := hd.hd.open_ 5
  have f6' := hd.hd.open_ 6
  have f7' := hd.hd.open_ 7
  have f3' := hd.hd.open_ 3
  clear hd ho k1 k2 k3 k4 k5 o5 HFO
  go_wp2_with fail
  go_end0
  exact ⟨rfl, HK5.out, HO5.out⟩
end
end Go.Proofs.Ytkmbgbbmhpidkaa
