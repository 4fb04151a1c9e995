/-
  A disk in memory; a new one.
-/
import Derived.Test.YtkmbgbbmhpidkaaDev1
import Derived.Laws.MakeOwn
namespace Go.Proofs.Ytkmbgbbmhpidkaa
open Go.RowKit
set_option linter.unusedVariables false

/-- What a disk is: what Read tells, what is there behind a crash, what waits, the operations, whether it is armed, where, what is kept, whether it is down. -/
structure Dk where
  now : List (List Nat)
  lasts : List (List Nat)
  waits : List (Nat × List Nat)
  ops : Nat
  armed : Bool
  at_ : Int
  keep : List Bool
  down : Bool

def dcells (gn gl n : Nat) (A : Option Addr) (m cw : Nat) (ops : Nat) (armed : Bool) (at_ : Int) (K : Option Addr) (k ck : Nat) (down : Bool) : Array Value :=
  #[.slice (some ⟨gn, 0, none⟩) n n, .slice (some ⟨gl, 0, none⟩) n n, .slice A m cw, .int .i64 (ops : Int), .bool armed, .int .i64 at_, .slice K k ck, .bool down]

/-- It lies so in memory. -/
structure DiskAt (w : World) (gd gn gl : Nat) (A : Option Addr) (cw : Nat) (K : Option Addr) (ck : Nat) (s : Dk) : Prop where
  hd : Holds w gd 62 (dcells gn gl s.now.length A s.waits.length cw s.ops s.armed s.at_ K s.keep.length ck s.down)
  hn : Sect w gn s.now
  hl : Sect w gl s.lasts
  len : s.lasts.length = s.now.length
  hw : Waits w A cw s.waits
  hk : Truths w K ck s.keep
  dn : gd ≠ gn
  dl : gd ≠ gl
  nl : gn ≠ gl
  ad : blockOf A ≠ some gd ∧ blockOf A ≠ some gn ∧ blockOf A ≠ some gl
  kd : blockOf K ≠ some gd ∧ blockOf K ≠ some gn ∧ blockOf K ≠ some gl ∧ ∀ g, blockOf K = some g → blockOf A ≠ some g
  kw : ∀ g, blockOf K = some g → g < w.heap.size
  n1 : 1 ≤ s.now.length
  n2 : s.now.length ≤ 2000
  wat : ∀ p ∈ s.waits, p.1 < s.now.length
/-- All its blocks are F's. -/
def Disk (w : World) (F : Nat → Prop) (gd : Nat) (s : Dk) : Prop :=
  ∃ gn gl A cw K ck, DiskAt w gd gn gl A cw K ck s ∧ F gd ∧ F gn ∧ F gl ∧ (∀ g, blockOf A = some g → F g) ∧ (∀ g, blockOf K = some g → F g)

theorem DiskAt.keepAll {w w' : World} {gd gn gl : Nat} {A : Option Addr} {cw : Nat} {K : Option Addr} {ck : Nat} {s : Dk} (h : DiskAt w gd gn gl A cw K ck s) (hs : w.heap.size ≤ w'.heap.size)
    (hk : ∀ g, (g = gd ∨ g = gn ∨ g = gl ∨ blockOf A = some g ∨ blockOf K = some g) → g < w.heap.size → w'.heap[g]? = w.heap[g]?) : DiskAt w' gd gn gl A cw K ck s where
  hd := (hk gd (.inl rfl) (Holds.lt h.hd)).trans h.hd
  hn := h.hn.keep (hk gn (.inr (.inl rfl)) h.hn.lt)
  hl := h.hl.keep (hk gl (.inr (.inr (.inl rfl))) h.hl.lt)
  len := h.len
  hw := h.hw.keep fun g hg => hk g (.inr (.inr (.inr (.inl hg)))) (h.hw.lt hg)
  hk := h.hk.keep hs fun g hg hlt => hk g (.inr (.inr (.inr (.inr hg)))) hlt
  dn := h.dn
  dl := h.dl
  nl := h.nl
  ad := h.ad
  kd := h.kd
  kw := fun g hg => Nat.lt_of_lt_of_le (h.kw g hg) hs
  n1 := h.n1
  n2 := h.n2
  wat := h.wat
theorem Disk.keep {w w' : World} {F G : Nat → Prop} {gd : Nat} {s : Dk} (h : Disk w F gd s) (ho : Only G w w') (hFG : ∀ k, F k → ¬ G k) : Disk w' F gd s := by
  obtain ⟨gn, gl, A, cw, K, ck, h, f1, f2, f3, f4, f5⟩ := h
  refine ⟨gn, gl, A, cw, K, ck, h.keepAll ho.size fun g hg hlt => ho.block g hlt (hFG g ?_), f1, f2, f3, f4, f5⟩
  rcases hg with rfl | rfl | rfl | hg | hg
  · exact f1
  · exact f2
  · exact f3
  · exact f4 g hg
  · exact f5 g hg
theorem Disk.more {w : World} {F G : Nat → Prop} {gd : Nat} {s : Dk} (h : Disk w F gd s) (hFG : ∀ k, F k → G k) : Disk w G gd s := by
  obtain ⟨gn, gl, A, cw, K, ck, h, f1, f2, f3, f4, f5⟩ := h
  exact ⟨gn, gl, A, cw, K, ck, h, hFG _ f1, hFG _ f2, hFG _ f3, fun g hg => hFG g (f4 g hg), fun g hg => hFG g (f5 g hg)⟩

/-- A sector of noughts. -/
def zsec : List Nat := List.replicate 64 0
/-- A new disk. -/
def fresh (n : Nat) : Dk := ⟨List.replicate n zsec, List.replicate n zsec, [], 0, false, 0, [], false⟩

def zagg : Value := .agg (madeCells #[.int .u8 0] 64)
theorem info_sector : (Try.prog.info? 86).map (fun i => (i.zero, i.size, i.bytes)) = some (some zagg, 64, 64) := by kernel_rfl
theorem made_at (z : Array Value) (n j : Nat) (h : j < n) : (madeCells z n)[j]? = some (z[j % z.size]!) := by
  simp [madeCells, h]
theorem zcells_at {n j : Nat} (h : j < n * 64) : (madeCells zagg.cells (n * 64))[j]? = some (.int .u8 0) := by
  have hz : zagg.cells = madeCells #[.int .u8 0] 64 := rfl
  have hs : (madeCells #[Value.int .u8 0] 64).size = 64 := size_madeCells _ _
  rw [hz, made_at _ _ _ h, hs]
  have h64 := made_at #[Value.int .u8 0] 64 (j % 64) (by omega)
  have h1 : (#[Value.int .u8 0])[j % 64 % (#[Value.int .u8 0]).size]! = Value.int .u8 0 := by simp [Nat.mod_one]
  rw [h1] at h64
  obtain ⟨hlt, he⟩ := Array.getElem?_eq_some_iff.1 h64
  rw [getElem!_pos (madeCells #[Value.int .u8 0] 64) (j % 64) hlt, he]
theorem zsec_at (j : Nat) : zsec.getD j 0 = 0 := by
  unfold zsec
  rw [List.getD, List.getElem?_replicate]
  split <;> rfl
theorem sect_new (w : World) (e : TypeId) (n : Nat) : Sect (w.alloc (.cells (madeCells zagg.cells (n * 64)) e)) w.heap.size (List.replicate n zsec) := by
  refine ⟨_, e, heap_alloc_new w _, by rw [size_madeCells, List.length_replicate, Nat.mul_comm], fun i x hx => ?_⟩
  rw [List.getElem?_replicate] at hx
  split at hx
  · rename_i hi
    obtain rfl : zsec = x := by simpa using hx
    refine ⟨by simp [zsec], fun j hj => ?_⟩
    rw [zcells_at (by omega), vals_at .u8 zsec (by simp [zsec]; exact hj), zsec_at]
    rfl
  · cases hx
theorem make_sectors (n : Nat) (h2 : n ≤ 2000) (W : World) : (Instr.makeSlice 59 (.int .i64 (n : Int)) (.int .i64 (n : Int))).run Try.prog W = .ok (.slice (some ⟨W.heap.size, 0, none⟩) n n) (W.alloc (.cells (madeCells zagg.cells (n * 64)) 86)) := by
  obtain ⟨i, hi, hz, hsize, hbytes⟩ := info_parts info_sector
  have h := run_make (P := Try.prog) W 59 86 i zagg Try.underlying59 hi hz .i64 .i64 n n (by omega) (Int.le_refl _) (by rw [hbytes]; omega) (by omega)
  rw [Int.toNat_natCast, hsize] at h
  exact h

set_option maxRecDepth 100000 in
theorem new_yes (w : World) (n : Nat) (h1 : 1 ≤ n) (h2 : n ≤ 2000) : Calls Try.prog 8 #[.int .i64 n] w fun e w' => ∃ gd, e = .returned (.pointer (some ⟨gd, 0, none⟩)) ∧ Disk w' (fun k => w.heap.size ≤ k ∧ k < w'.heap.size) gd (fresh n) ∧ Below w.heap.size w w' := by
  have h3 : decide ((n : Int) < 1) = false := decide_eq_false (by omega)
  have h4 : decide (2000 < (n : Int)) = false := decide_eq_false (by omega)
  have h5 : (0 : Int) ≤ (n : Int) := by omega
  have hmk := make_sectors n h2
  have HZ : ∀ (w : World), Hid (Sect (w.alloc (.cells (madeCells zagg.cells (n * 64)) 86)) w.heap.size (List.replicate n zsec)) := fun w => Lib.hid (sect_new w _ n)
  generalize madeCells zagg.cells (n * 64) = Z at *
  have HN : Hid ((List.replicate n zsec).length = n) := Lib.hid (by simp)
  have hfin : ∀ gn gl, Hid ((gn = w.heap.size ∧ gl = w.heap.size + 1) ∨ (gn = w.heap.size + 1 ∧ gl = w.heap.size)) → ∀ W : World, Hid (W = ((w.drew.alloc (.cells Z 86)).alloc (.cells Z 86)).alloc (.cells #[.slice (some ⟨gn, 0, none⟩) n n, .slice (some ⟨gl, 0, none⟩) n n, .slice none 0 0, .int .i64 0, .bool false, .int .i64 0, .slice none 0 0, .bool false] 62)) →
      Disk W (fun k => w.heap.size ≤ k ∧ k < W.heap.size) (w.heap.size + 2) (fresh n) ∧ Below w.heap.size w W := by
    intro gn gl hg W hW
    have hW := hW.out
    subst hW
    have s1 := (HZ w.drew).out
    have s2 := (HZ (w.drew.alloc (.cells Z 86))).out
    have e0 : w.drew.heap.size = w.heap.size := rfl
    have e1 : (w.drew.alloc (.cells Z 86)).heap.size = w.heap.size + 1 := by simp
    have e2 : ((w.drew.alloc (.cells Z 86)).alloc (.cells Z 86)).heap.size = w.heap.size + 2 := by simp
    rw [e0] at s1
    rw [e1] at s2
    generalize hC : #[Value.slice (some ⟨gn, 0, none⟩) n n, .slice (some ⟨gl, 0, none⟩) n n, .slice none 0 0, .int .i64 0, .bool false, .int .i64 0, .slice none 0 0, .bool false] = C
    have t1 : Sect (((w.drew.alloc (.cells Z 86)).alloc (.cells Z 86)).alloc (.cells C 62)) w.heap.size (List.replicate n zsec) :=
      s1.keep ((heap_alloc_old _ _ (by rw [e2]; omega)).trans (heap_alloc_old _ _ (by rw [e1]; omega)))
    have t2 : Sect (((w.drew.alloc (.cells Z 86)).alloc (.cells Z 86)).alloc (.cells C 62)) (w.heap.size + 1) (List.replicate n zsec) :=
      s2.keep (heap_alloc_old _ _ (by rw [e2]; omega))
    have t3 : Holds (((w.drew.alloc (.cells Z 86)).alloc (.cells Z 86)).alloc (.cells C 62)) (w.heap.size + 2) 62 C := by
      have := Holds.fresh ((w.drew.alloc (.cells Z 86)).alloc (.cells Z 86)) 62 C
      rwa [e2] at this
    have hsz : (((w.drew.alloc (.cells Z 86)).alloc (.cells Z 86)).alloc (.cells C 62)).heap.size = w.heap.size + 3 := by simp
    have hb : Below w.heap.size w (((w.drew.alloc (.cells Z 86)).alloc (.cells Z 86)).alloc (.cells C 62)) :=
      ((((Below.refl _ _).drew).alloc (Nat.le_refl _) _).alloc (by rw [e1]; omega) _).alloc (by rw [e2]; omega) _
    subst hC
    refine ⟨⟨gn, gl, none, 0, none, 0, ?_, ?_⟩, hb⟩
    · rcases hg.out with ⟨rfl, rfl⟩ | ⟨rfl, rfl⟩
      · exact { hd := by simpa [dcells, fresh] using t3, hn := t1, hl := t2, len := rfl, hw := Waits.nil _, hk := Truths.nil _, dn := by omega, dl := by omega, nl := by omega, ad := by simp [blockOf], kd := by simp [blockOf], kw := by simp [blockOf], n1 := by simpa [fresh] using h1, n2 := by simpa [fresh] using h2, wat := by simp [fresh] }
      · exact { hd := by simpa [dcells, fresh] using t3, hn := t2, hl := t1, len := rfl, hw := Waits.nil _, hk := Truths.nil _, dn := by omega, dl := by omega, nl := by omega, ad := by simp [blockOf], kd := by simp [blockOf], kw := by simp [blockOf], n1 := by simpa [fresh] using h1, n2 := by simpa [fresh] using h2, wat := by simp [fresh] }
    · rw [hsz]
      refine ⟨by omega, ?_, ?_, by simp [blockOf], by simp [blockOf]⟩ <;> (rcases hg.out with ⟨rfl, rfl⟩ | ⟨rfl, rfl⟩ <;> omega)
  go_enter Try.func8, Try.ntmps8
  go_wp2_with fail
  go_region
  all_goals
    go_wp2_with fail
    go_ret
    first
      | exact ⟨w.heap.size + 2, by simp, hfin w.heap.size (w.heap.size + 1) (Lib.hid (.inl ⟨rfl, rfl⟩)) _ (Lib.hid (by first | rfl | simp))⟩
      | exact ⟨w.heap.size + 2, by simp, hfin (w.heap.size + 1) w.heap.size (Lib.hid (.inr ⟨rfl, rfl⟩)) _ (Lib.hid (by first | rfl | simp))⟩
end Go.Proofs.Ytkmbgbbmhpidkaa
