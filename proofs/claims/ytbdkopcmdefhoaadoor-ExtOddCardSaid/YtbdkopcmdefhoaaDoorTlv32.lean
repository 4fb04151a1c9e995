/-
  A thing, read: by the document.
-/
import Derived.Test.YtbdkopcmdefhoaaDoorTlv31
import Derived.BigRegion
import Derived.BigQuiet
namespace Go.Proofs.YtbdkopcmdefhoaaDoor
open Go.RowKit
set_option linter.unusedVariables false
set_option linter.unusedSimpArgs false

theorem SizePost.any {w w' : World} {o : Option (Nat × Nat)} {e : Ending} (h : SizePost w o e w') : ∃ (k u : Int) (t : Bool), e = .returned (.tuple #[.int .i64 k, .int .i64 u, .bool t]) ∧ Below w.heap.size w w' := by
  rcases o with _ | ⟨k, u⟩
  · obtain ⟨k, u, h1, h2⟩ := h
    exact ⟨k, u, false, h1, h2⟩
  · exact ⟨_, _, true, h.1, h.2⟩
/-- Where the document's reading stands. -/
def Sr (w V : World) (B Br x : Nat) (k y : Int) (bv kv : Value) : Prop :=
  Holds V Br 59 #[.int .i64 k, .int .i64 y] ∧ Holds V w.heap.size 41 #[.int .u8 0, .slice none 0 0, .slice none 0 0] ∧ Holds V (w.heap.size + 1) 41 #[.int .u8 (x : Int), bv, kv] ∧ w.grownBy V (some Br) ∧ w.heap.size + 2 ≤ V.heap.size ∧ B ≤ Br ∧ Br < w.heap.size
def OneTells (w w' : World) (A : Option Addr) (n c : Nat) (t0 : Int) (a1 : Option Addr) (n1 c1 : Nat) (a2 : Option Addr) (n2 c2 : Nat) (S : Option Addr) (s t : Nat) (k y : Int) : Except Nat (Tr × Nat × Nat) → Prop
  | .error x => y = (x : Int) ∧ s < n
  | .ok (t', m, cc) => y = 0 ∧ k = (cc : Int) ∧ S = dropA A m c ∧ s = n - m ∧ t = c - m ∧ ∃ lt : Lt, lcell lt = [.int .u8 t0, .slice a1 n1 c1, .slice a2 n2 c2] ∧ lt.t = t' ∧ TrIn w' w.heap.size w'.heap.size lt
def OnePost (w : World) (Br : Nat) (A : Option Addr) (n c : Nat) (r : Except Nat (Tr × Nat × Nat)) (e : Ending) (w' : World) : Prop :=
  ∃ (t0 : Int) (a1 : Option Addr) (n1 c1 : Nat) (a2 : Option Addr) (n2 c2 : Nat) (S : Option Addr) (s t : Nat) (k y : Int), e = .returned (.tuple #[.agg #[.int .u8 t0, .slice a1 n1 c1, .slice a2 n2 c2], .slice S s t]) ∧ w.grownBy w' (some Br) ∧ Holds w' Br 59 #[.int .i64 k, .int .i64 y] ∧ OneTells w w' A n c t0 a1 n1 c1 a2 n2 c2 S s t k y r
section
variable {w w0 V V' : World} {B Br x : Nat} {k y : Int} {bv kv : Value}
theorem sr_start (hg : w.grownBy w0 (some Br)) (hs : w0.heap.size = w.heap.size) (h0 : Holds w0 Br 59 #[.int .i64 k, .int .i64 y]) (hB : B ≤ Br) (hBs : Br < w.heap.size) :
    Sr w ((w0.alloc (.cells #[.int .u8 0, .slice none 0 0, .slice none 0 0] 41)).alloc (.cells #[.int .u8 (x : Int), .slice none 0 0, .slice none 0 0] 41)) B Br x k y (.slice none 0 0) (.slice none 0 0) := by
  have h1 : Holds (w0.alloc (.cells #[.int .u8 0, .slice none 0 0, .slice none 0 0] 41)) w.heap.size 41 #[.int .u8 0, .slice none 0 0, .slice none 0 0] := by
    have h := Holds.fresh w0 41 #[.int .u8 0, .slice none 0 0, .slice none 0 0]
    rw [hs] at h
    exact h
  have hs1 : (w0.alloc (.cells #[.int .u8 0, .slice none 0 0, .slice none 0 0] 41)).heap.size = w.heap.size + 1 := by rw [← hs]; simp
  have h2 : Holds ((w0.alloc (.cells #[.int .u8 0, .slice none 0 0, .slice none 0 0] 41)).alloc (.cells #[.int .u8 (x : Int), .slice none 0 0, .slice none 0 0] 41)) (w.heap.size + 1) 41 #[.int .u8 (x : Int), .slice none 0 0, .slice none 0 0] := by
    have h := Holds.fresh (w0.alloc (.cells #[.int .u8 0, .slice none 0 0, .slice none 0 0] 41)) 41 #[.int .u8 (x : Int), .slice none 0 0, .slice none 0 0]
    rw [hs1] at h
    exact h
  refine ⟨(h0.alloc _).alloc _, h1.alloc _, h2, (hg.trans (World.grownBy_alloc _ _ _)).trans (World.grownBy_alloc _ _ _), ?_, hB, hBs⟩
  show _ ≤ (World.heap _).size
  have : ((w0.alloc (.cells #[.int .u8 0, .slice none 0 0, .slice none 0 0] 41)).alloc (.cells #[.int .u8 (x : Int), .slice none 0 0, .slice none 0 0] 41)).heap.size = w.heap.size + 2 := by
    show (Array.push _ _).size = _
    rw [Array.size_push, hs1]
  omega
theorem Sr.err (h : Sr w V B Br x k y bv kv) (y' : Int) : Sr w (V.setCell ⟨Br, 1, none⟩ (.int .i64 y')) B Br x k y' bv kv := by
  obtain ⟨h1, h2, h3, h4, h7, h8, h9⟩ := h
  exact ⟨h1.stored 1 _, h2.aside (by show w.heap.size ≠ Br; omega) _, h3.aside (by show w.heap.size + 1 ≠ Br; omega) _, one_setCell h4 1 _, by show w.heap.size + 2 ≤ (V.heap.modify _ _).size; rw [Array.size_modify]; exact h7, h8, h9⟩
theorem Sr.bodyv (h : Sr w V B Br x k y bv kv) (v : Value) : Sr w (V.setCell ⟨w.heap.size + 1, 1, none⟩ v) B Br x k y v kv := by
  obtain ⟨h1, h2, h3, h4, h7, h8, h9⟩ := h
  exact ⟨h1.aside (by show Br ≠ w.heap.size + 1; omega) _, h2.aside (by show w.heap.size ≠ w.heap.size + 1; omega) _, h3.stored 1 _, grown_new h4 (by show w.heap.size ≤ w.heap.size + 1; omega) _, by show w.heap.size + 2 ≤ (V.heap.modify _ _).size; rw [Array.size_modify]; exact h7, h8, h9⟩
theorem Sr.kidsv (h : Sr w V B Br x k y bv kv) (v : Value) : Sr w (V.setCell ⟨w.heap.size + 1, 2, none⟩ v) B Br x k y bv v := by
  obtain ⟨h1, h2, h3, h4, h7, h8, h9⟩ := h
  exact ⟨h1.aside (by show Br ≠ w.heap.size + 1; omega) _, h2.aside (by show w.heap.size ≠ w.heap.size + 1; omega) _, h3.stored 2 _, grown_new h4 (by show w.heap.size ≤ w.heap.size + 1; omega) _, by show w.heap.size + 2 ≤ (V.heap.modify _ _).size; rw [Array.size_modify]; exact h7, h8, h9⟩
theorem Sr.aside (h : Sr w V B Br x k y bv kv) {p : Addr} (hp : w.heap.size + 2 ≤ p.block) (v : Value) : Sr w (V.setCell p v) B Br x k y bv kv := by
  obtain ⟨h1, h2, h3, h4, h7, h8, h9⟩ := h
  exact ⟨h1.aside (by omega) _, h2.aside (by omega) _, h3.aside (by omega) _, grown_new h4 (by omega) _, by show w.heap.size + 2 ≤ (V.heap.modify _ _).size; rw [Array.size_modify]; exact h7, h8, h9⟩
theorem Sr.grown {row : Option Nat} (h : Sr w V B Br x k y bv kv) (hb : V.grownBy V' row) (hr : ∀ g, row = some g → w.heap.size + 2 ≤ g) : Sr w V' B Br x k y bv kv := by
  obtain ⟨h1, h2, h3, h4, h7, h8, h9⟩ := h
  have hne : ∀ g, g < w.heap.size + 2 → some g ≠ row := fun g hg e => by have := hr g e.symm; omega
  exact ⟨h1.grown hb (hne _ (by omega)), h2.grown hb (hne _ (by omega)), h3.grown hb (hne _ (by omega)), h4.andThen hb fun j hj => .inl (by have := hr j hj; omega), Nat.le_trans h7 hb.size, h8, h9⟩
/-- A call has turned the reader. -/
theorem Sr.turned {k2 y2 : Int} (h : Sr w V B Br x k y bv kv) (hb : V.grownBy V' (some Br)) (h1' : Holds V' Br 59 #[.int .i64 k2, .int .i64 y2]) : Sr w V' B Br x k2 y2 bv kv := by
  obtain ⟨h1, h2, h3, h4, h7, h8, h9⟩ := h
  exact ⟨h1', h2.grown hb (fun e => by injection e with e; omega), h3.grown hb (fun e => by injection e with e; omega), h4.trans hb, Nat.le_trans h7 hb.size, h8, h9⟩
theorem Sr.out (h : Sr w V B Br x k y bv kv) (v0 v1 v2 : Value) :
    Holds (((V.setCell ⟨w.heap.size, 0, none⟩ v0).setCell ⟨w.heap.size, 1, none⟩ v1).setCell ⟨w.heap.size, 2, none⟩ v2) w.heap.size 41 #[v0, v1, v2] ∧
    Holds (((V.setCell ⟨w.heap.size, 0, none⟩ v0).setCell ⟨w.heap.size, 1, none⟩ v1).setCell ⟨w.heap.size, 2, none⟩ v2) Br 59 #[.int .i64 k, .int .i64 y] ∧
    w.grownBy (((V.setCell ⟨w.heap.size, 0, none⟩ v0).setCell ⟨w.heap.size, 1, none⟩ v1).setCell ⟨w.heap.size, 2, none⟩ v2) (some Br) ∧
    (((V.setCell ⟨w.heap.size, 0, none⟩ v0).setCell ⟨w.heap.size, 1, none⟩ v1).setCell ⟨w.heap.size, 2, none⟩ v2).heap.size = V.heap.size ∧
    ∀ g, g ≠ w.heap.size → (((V.setCell ⟨w.heap.size, 0, none⟩ v0).setCell ⟨w.heap.size, 1, none⟩ v1).setCell ⟨w.heap.size, 2, none⟩ v2).heap[g]? = V.heap[g]? := by
  obtain ⟨h1, h2, h3, h4, h7, h8, h9⟩ := h
  have ne : Br ≠ w.heap.size := by omega
  refine ⟨((h2.stored 0 v0).stored 1 v1).stored 2 v2, ((h1.aside (p := ⟨w.heap.size, 0, none⟩) ne _).aside (p := ⟨w.heap.size, 1, none⟩) ne _).aside (p := ⟨w.heap.size, 2, none⟩) ne _, grown_new (grown_new (grown_new h4 (Nat.le_refl _) _) (Nat.le_refl _) _) (Nat.le_refl _) _, ?_, fun g hg => ?_⟩
  · simp [World.setCell]
  · rw [Below.heap_setCell _ ⟨w.heap.size, 2, none⟩ _ g hg, Below.heap_setCell _ ⟨w.heap.size, 1, none⟩ _ g hg, Below.heap_setCell _ ⟨w.heap.size, 0, none⟩ _ g hg]
theorem one_err {A : Option Addr} {n c : Nat} {r : Except Nat (Tr × Nat × Nat)} {x' : Nat} (h : Sr w V B Br x k y bv kv) (a1 : Option Addr) (n1 c1 : Nat) (a2 : Option Addr) (n2 c2 : Nat) (S : Option Addr) (s t : Nat) (hr : r = .error x') (hy : y = (x' : Int)) (hs : s < n) :
    OnePost w Br A n c r (.returned (.tuple #[.agg #[.int .u8 (x : Int), .slice a1 n1 c1, .slice a2 n2 c2], .slice S s t])) (((V.setCell ⟨w.heap.size, 0, none⟩ (.int .u8 (x : Int))).setCell ⟨w.heap.size, 1, none⟩ (.slice a1 n1 c1)).setCell ⟨w.heap.size, 2, none⟩ (.slice a2 n2 c2)) := by
  obtain ⟨_, r2, r3, _, _⟩ := h.out (.int .u8 (x : Int)) (.slice a1 n1 c1) (.slice a2 n2 c2)
  subst hr
  exact ⟨_, _, _, _, _, _, _, _, _, _, _, _, rfl, r3, r2, hy, hs⟩
theorem OnePost.drew {A : Option Addr} {n c : Nat} {r : Except Nat (Tr × Nat × Nat)} {e : Ending} (h : OnePost w Br A n c r e V) : OnePost w Br A n c r e V.drew := by
  obtain ⟨t0, a1, n1, c1, a2, n2, c2, S, s, t, k, y, he, hg, hh, ht⟩ := h
  refine ⟨t0, a1, n1, c1, a2, n2, c2, S, s, t, k, y, he, one_drewN hg 1, hh, ?_⟩
  rcases r with x | ⟨t', m, cc⟩
  · exact ht
  · obtain ⟨q1, q2, q3, q4, q5, lt, q6, q7, q8⟩ := ht
    exact ⟨q1, q2, q3, q4, q5, lt, q6, q7, fun w2 h2 => q8 w2 h2⟩
end
def sliceLen : Value → Nat
  | .slice _ n _ => n
  | _ => 0
def ModeA (w V : World) (B d k0 : Nat) (Lb : List Nat) (spec : Except Nat (List Tr × Nat)) (A' : Option Addr) (n' c' : Nat) (k y : Int) (K : Option Addr) (ln : Nat) (vs : List Value) : Prop :=
  y = 0 ∧ ∃ (cnt' : Nat) (l : List Lt), k = (cnt' : Int) ∧ vs = l.flatMap lcell ∧ l.length = ln ∧ Rd .u8 w B A' c' (Lb.drop (k0 - n')) ∧ cnt' ≤ 600 ∧ ln + n' ≤ k0 ∧ Apart V (w.heap.size + 2) K l ∧ spec = preT (l.map Lt.t) (rds (Lb.drop (k0 - n')) (d + 1) cnt')
def RelO (w : World) (B Br x d k0 : Nat) (Lb : List Nat) (spec : Except Nat (List Tr × Nat)) (v : Value) (V : World) : Prop :=
  ∃ (A' : Option Addr) (n' c' : Nat) (k y : Int) (K : Option Addr) (kc ln : Nat) (vs : List Value), v = .slice A' n' c' ∧ Sr w V B Br x k y (.slice none 0 0) (.slice K ln kc) ∧ OwnV 41 3 V K kc ln vs ∧ (∀ g, blockOf K = some g → w.heap.size + 2 ≤ g) ∧ ln ≤ k0 ∧ n' ≤ k0 ∧ (ModeA w V B d k0 Lb spec A' n' c' k y K ln vs ∨ ∃ y' : Nat, y = (y' : Int) ∧ y' ≠ 0 ∧ spec = .error y')
set_option maxRecDepth 100000 in
set_option maxHeartbeats 8000000 in
theorem one_N : ∀ (N : Nat) (w : World) (B Br : Nat) (A : Option Addr) (c n d cnt : Nat) (L : List Nat), n < N → Rd .u8 w B A c L → L.length = n → 0 < n → n ≤ 12000 → (∀ x ∈ L, x < 256) → B ≤ Br → Holds w Br 59 #[.int .i64 (cnt : Int), .int .i64 0] → d ≤ 13 → cnt ≤ 600 →
    Calls Tryd.prog 19 #[.pointer (some ⟨Br, 0, none⟩), .slice A n c, .int .i64 (d : Int)] w (OnePost w Br A n c (rd L d cnt)) := by
  intro N
  induction N with
  | zero => intro w B Br A c n d cnt L h; omega
  | succ N ih =>
    intro w B Br A c n d cnt L hN hR hn hn0 h12 ho hB hH hd hc
    have hlc : n ≤ c := by rw [← hn]; exact hR.1
    have hc63 := hR.2.1
    obtain ⟨b, off, rfl, hb, hcs⟩ := hR.2.2 (by omega)
    rcases L with _ | ⟨x, L⟩
    · rw [List.length_nil] at hn; omega
    have hx : x < 256 := ho x (by simp)
    have e0 : w.cell? ⟨b, off, none⟩ = some (.int .u8 (x : Int)) := hcs 0 (by rw [List.length_cons]; omega)
    have hBs : Br < w.heap.size := hH.lt
    have HLL : Hid (L.length = n - 1) := Lib.hid (by rw [List.length_cons] at hn; omega)
    have HO : Hid (∀ y ∈ L, y < 256) := Lib.hid fun y hy => ho y (List.mem_cons_of_mem _ hy)
    obtain ⟨D, hD⟩ : ∃ D, D = dropA (some ⟨b, off, none⟩) 1 c := ⟨_, rfl⟩
    have HD := Lib.hid hD
    have HDR : Hid (∀ V : World, (Instr.sliceAt 22 (.slice (some ⟨b, off, none⟩) n c) (some (.int .i64 1)) none none).run Tryd.prog V = .ok (.slice D (n - 1) (c - 1)) V) := Lib.hid fun V => by rw [hD]; exact run_drop _ _ n c 1 (by omega) hlc
    have HRW : Hid (Rd .u8 w B D (c - 1) L) := Lib.hid (by
      have := hR.drop 1 (by simp)
      rw [← hD] at this
      exact this)
    have HSZ : Hid (∀ (V : World) (k y : Int), Sr w V B Br x k y (.slice none 0 0) (.slice none 0 0) → Calls Tryd.prog 33 #[.slice D (n - 1) (c - 1)] V (SizePost V (szOf L))) := Lib.hid fun V k y hs =>
      size'_any V B D (c - 1) (n - 1) L (HRW.out.under (below_br hs.2.2.2.1 hB (by omega))) HLL.out (by omega) HO.out (by have := hs.2.2.2.2.1; omega)
    have f2 : (w.alloc (.cells #[.int .u8 0, .slice none 0 0, .slice none 0 0] 41)).cell? ⟨b, off, none⟩ = some (.int .u8 (x : Int)) := by rw [World.cell?_alloc_past _ b off (by omega)]; exact e0
    have hh2 : Holds ((w.alloc (.cells #[.int .u8 0, .slice none 0 0, .slice none 0 0] 41)).alloc (.cells #[.int .u8 (x : Int), .slice none 0 0, .slice none 0 0] 41)) Br 59 #[.int .i64 (cnt : Int), .int .i64 0] := (hH.alloc _).alloc _
    have hs3 : Sr w (((w.setCell ⟨Br, 0, none⟩ (.int .i64 ((cnt : Int) + 1))).alloc (.cells #[.int .u8 0, .slice none 0 0, .slice none 0 0] 41)).alloc (.cells #[.int .u8 (x : Int), .slice none 0 0, .slice none 0 0] 41)) B Br x ((cnt : Int) + 1) 0 (.slice none 0 0) (.slice none 0 0) := sr_start (one_setCell (World.grownBy.refl w _) 0 _) (by simp [World.setCell]) (hH.stored 0 _) hB hBs
    have g0 : (((w.alloc (.cells #[.int .u8 0, .slice none 0 0, .slice none 0 0] 41)).alloc (.cells #[.int .u8 (x : Int), .slice none 0 0, .slice none 0 0] 41))).cell? ⟨Br, 0, none⟩ = some (.int .i64 (cnt : Int)) := hh2.cell 0
    have g1 : (((w.alloc (.cells #[.int .u8 0, .slice none 0 0, .slice none 0 0] 41)).alloc (.cells #[.int .u8 (x : Int), .slice none 0 0, .slice none 0 0] 41))).frozen? ⟨Br, 0, none⟩ = false := hh2.open_ 0
    have g2 : ((((w.setCell ⟨Br, 0, none⟩ (.int .i64 ((cnt : Int) + 1))).alloc (.cells #[.int .u8 0, .slice none 0 0, .slice none 0 0] 41)).alloc (.cells #[.int .u8 (x : Int), .slice none 0 0, .slice none 0 0] 41))).cell? ⟨Br, 0, none⟩ = some (.int .i64 ((cnt : Int) + 1)) := hs3.1.cell 0
    have g3 : ((((w.setCell ⟨Br, 0, none⟩ (.int .i64 ((cnt : Int) + 1))).alloc (.cells #[.int .u8 0, .slice none 0 0, .slice none 0 0] 41)).alloc (.cells #[.int .u8 (x : Int), .slice none 0 0, .slice none 0 0] 41))).cell? ⟨Br, 1, none⟩ = some (.int .i64 0) := hs3.1.cell 1
    have g4 : ((((w.setCell ⟨Br, 0, none⟩ (.int .i64 ((cnt : Int) + 1))).alloc (.cells #[.int .u8 0, .slice none 0 0, .slice none 0 0] 41)).alloc (.cells #[.int .u8 (x : Int), .slice none 0 0, .slice none 0 0] 41))).frozen? ⟨Br, 1, none⟩ = false := hs3.1.open_ 1
    have g5 : ((((w.setCell ⟨Br, 0, none⟩ (.int .i64 ((cnt : Int) + 1))).alloc (.cells #[.int .u8 0, .slice none 0 0, .slice none 0 0] 41)).alloc (.cells #[.int .u8 (x : Int), .slice none 0 0, .slice none 0 0] 41))).cell? ⟨b, off, none⟩ = some (.int .u8 (x : Int)) := by rw [(below_br hs3.2.2.2.1 hB (by omega)).cell (p := ⟨b, off, none⟩) hb]; exact e0
    have g6 : ((((w.setCell ⟨Br, 0, none⟩ (.int .i64 ((cnt : Int) + 1))).alloc (.cells #[.int .u8 0, .slice none 0 0, .slice none 0 0] 41)).alloc (.cells #[.int .u8 (x : Int), .slice none 0 0, .slice none 0 0] 41))).frozen? ⟨Br, 0, none⟩ = false := hs3.1.open_ 0
    have hcw : IntKind.i64.wrap ((cnt : Int) + 1) = (cnt : Int) + 1 := IntWalk.i64_in _ (by omega)
    have HT := Lib.hid (fun W => tag'_any W x hx)
    have HP := Lib.hid (fun W => parted'_any W x hx)
    have HH := Lib.hid hH
    have HR := Lib.hid hR
    have HIH := Lib.hid ih
    have HNN := Lib.hid hN
    have HS3 := Lib.hid hs3
    clear hR ho hn hH ih hcs hN hD hh2 hs3 e0
    rcases h1 : tagOk x with _ | _
    case false =>
      have HE : Hid (rd (x :: L) d cnt = .error 2) := Lib.hid (by rw [rd, if_pos h1])
      have hsE : Sr w ((((w.setCell ⟨Br, 0, none⟩ (.int .i64 ((cnt : Int) + 1))).setCell ⟨Br, 1, none⟩ (.int .i64 2)).alloc (.cells #[.int .u8 0, .slice none 0 0, .slice none 0 0] 41)).alloc (.cells #[.int .u8 (x : Int), .slice none 0 0, .slice none 0 0] 41)) B Br x ((cnt : Int) + 1) 2 (.slice none 0 0) (.slice none 0 0) := sr_start (one_setCell (one_setCell (World.grownBy.refl w _) 0 _) 1 _) (by simp [World.setCell]) ((HH.out.stored 0 _).stored 1 _) hB hBs
      have HKE := Lib.hid (HSZ.out _ _ _ hsE)
      have HSE := Lib.hid hsE
      have hs := HDR.out ((((w.setCell ⟨Br, 0, none⟩ (.int .i64 ((cnt : Int) + 1))).setCell ⟨Br, 1, none⟩ (.int .i64 2)).alloc (.cells #[.int .u8 0, .slice none 0 0, .slice none 0 0] 41)).alloc (.cells #[.int .u8 (x : Int), .slice none 0 0, .slice none 0 0] 41))
      clear hsE
      go_enter Tryd.func19, Tryd.ntmps19
      go_wp2_with fail
      refine (HT.out _).mono ?_
      rintro e w2 ⟨rfl, rfl⟩
      rw [h1]
      go_wp2_with fail
      refine HKE.out.mono ?_
      intro e V5 hp
      obtain ⟨k5, u5, t5, rfl, hb5⟩ := hp.any
      have HS := Lib.hid (HSE.out.grown (below_grown hb5 (Nat.le_refl _)) (fun g hg => by cases hg))
      clear hp hb5 HSE HKE hs g0 g1 g2 g3 g4 g5 g6 f2 hcw
      have t1 := HS.out.1.cell 1
      have n0 := HS.out.2.2.1.cell 0
      have n1 := HS.out.2.2.1.cell 1
      have n2 := HS.out.2.2.1.cell 2
      have z0 := HS.out.2.1.cell 0
      have z1 := HS.out.2.1.cell 1
      have z2 := HS.out.2.1.cell 2
      have y0 := HS.out.2.1.open_ 0
      have y1 := HS.out.2.1.open_ 1
      have y2 := HS.out.2.1.open_ 2
      go_wp2_with fail
      rw [HE.out]
      exact ret_cell rfl rfl rfl (HS.out.out _ _ _).1 rfl (one_err HS.out _ _ _ _ _ _ _ _ _ rfl rfl (by omega))
    by_cases h2 : 12 < d
    case pos =>
      have d2 : decide ((12 : Int) < (d : Int)) = true := decide_eq_true (by omega)
      have HE : Hid (rd (x :: L) d cnt = .error 3) := Lib.hid (by rw [rd, if_neg (by rw [h1]; simp), if_pos h2])
      have hsE : Sr w ((((w.setCell ⟨Br, 0, none⟩ (.int .i64 ((cnt : Int) + 1))).setCell ⟨Br, 1, none⟩ (.int .i64 3)).alloc (.cells #[.int .u8 0, .slice none 0 0, .slice none 0 0] 41)).alloc (.cells #[.int .u8 (x : Int), .slice none 0 0, .slice none 0 0] 41)) B Br x ((cnt : Int) + 1) 3 (.slice none 0 0) (.slice none 0 0) := sr_start (one_setCell (one_setCell (World.grownBy.refl w _) 0 _) 1 _) (by simp [World.setCell]) ((HH.out.stored 0 _).stored 1 _) hB hBs
      have HKE := Lib.hid (HSZ.out _ _ _ hsE)
      have HSE := Lib.hid hsE
      have hs := HDR.out ((((w.setCell ⟨Br, 0, none⟩ (.int .i64 ((cnt : Int) + 1))).setCell ⟨Br, 1, none⟩ (.int .i64 3)).alloc (.cells #[.int .u8 0, .slice none 0 0, .slice none 0 0] 41)).alloc (.cells #[.int .u8 (x : Int), .slice none 0 0, .slice none 0 0] 41))
      clear hsE
      go_enter Tryd.func19, Tryd.ntmps19
      go_wp2_with fail
      refine (HT.out _).mono ?_
      rintro e w2 ⟨rfl, rfl⟩
      rw [h1]
      go_wp2_with fail
      refine HKE.out.mono ?_
      intro e V5 hp
      obtain ⟨k5, u5, t5, rfl, hb5⟩ := hp.any
      have HS := Lib.hid (HSE.out.grown (below_grown hb5 (Nat.le_refl _)) (fun g hg => by cases hg))
      clear hp hb5 HSE HKE hs g0 g1 g2 g3 g4 g5 g6 f2 hcw
      have t1 := HS.out.1.cell 1
      have n0 := HS.out.2.2.1.cell 0
      have n1 := HS.out.2.2.1.cell 1
      have n2 := HS.out.2.2.1.cell 2
      have z0 := HS.out.2.1.cell 0
      have z1 := HS.out.2.1.cell 1
      have z2 := HS.out.2.1.cell 2
      have y0 := HS.out.2.1.open_ 0
      have y1 := HS.out.2.1.open_ 1
      have y2 := HS.out.2.1.open_ 2
      go_wp2_with fail
      rw [HE.out]
      exact ret_cell rfl rfl rfl (HS.out.out _ _ _).1 rfl (one_err HS.out _ _ _ _ _ _ _ _ _ rfl rfl (by omega))
    have d2 : decide ((12 : Int) < (d : Int)) = false := decide_eq_false (by omega)
    by_cases h3 : 600 ≤ cnt
    case pos =>
      have d4 : decide ((600 : Int) < (cnt : Int) + 1) = true := decide_eq_true (by omega)
      have HE : Hid (rd (x :: L) d cnt = .error 4) := Lib.hid (by rw [rd, if_neg (by rw [h1]; simp), if_neg h2, if_pos h3])
      have hsE : Sr w ((((w.setCell ⟨Br, 0, none⟩ (.int .i64 ((cnt : Int) + 1))).setCell ⟨Br, 1, none⟩ (.int .i64 4)).alloc (.cells #[.int .u8 0, .slice none 0 0, .slice none 0 0] 41)).alloc (.cells #[.int .u8 (x : Int), .slice none 0 0, .slice none 0 0] 41)) B Br x ((cnt : Int) + 1) 4 (.slice none 0 0) (.slice none 0 0) := sr_start (one_setCell (one_setCell (World.grownBy.refl w _) 0 _) 1 _) (by simp [World.setCell]) ((HH.out.stored 0 _).stored 1 _) hB hBs
      have HKE := Lib.hid (HSZ.out _ _ _ hsE)
      have HSE := Lib.hid hsE
      have hs := HDR.out ((((w.setCell ⟨Br, 0, none⟩ (.int .i64 ((cnt : Int) + 1))).setCell ⟨Br, 1, none⟩ (.int .i64 4)).alloc (.cells #[.int .u8 0, .slice none 0 0, .slice none 0 0] 41)).alloc (.cells #[.int .u8 (x : Int), .slice none 0 0, .slice none 0 0] 41))
      clear hsE
      go_enter Tryd.func19, Tryd.ntmps19
      go_wp2_with fail
      refine (HT.out _).mono ?_
      rintro e w2 ⟨rfl, rfl⟩
      rw [h1]
      go_wp2_with fail
      refine HKE.out.mono ?_
      intro e V5 hp
      obtain ⟨k5, u5, t5, rfl, hb5⟩ := hp.any
      have HS := Lib.hid (HSE.out.grown (below_grown hb5 (Nat.le_refl _)) (fun g hg => by cases hg))
      clear hp hb5 HSE HKE hs g0 g1 g2 g3 g4 g5 g6 f2 hcw
      have t1 := HS.out.1.cell 1
      have n0 := HS.out.2.2.1.cell 0
      have n1 := HS.out.2.2.1.cell 1
      have n2 := HS.out.2.2.1.cell 2
      have z0 := HS.out.2.1.cell 0
      have z1 := HS.out.2.1.cell 1
      have z2 := HS.out.2.1.cell 2
      have y0 := HS.out.2.1.open_ 0
      have y1 := HS.out.2.1.open_ 1
      have y2 := HS.out.2.1.open_ 2
      go_wp2_with fail
      rw [HE.out]
      exact ret_cell rfl rfl rfl (HS.out.out _ _ _).1 rfl (one_err HS.out _ _ _ _ _ _ _ _ _ rfl rfl (by omega))
    have d4 : decide ((600 : Int) < (cnt : Int) + 1) = false := decide_eq_false (by omega)
    have hs := HDR.out (((w.setCell ⟨Br, 0, none⟩ (.int .i64 ((cnt : Int) + 1))).alloc (.cells #[.int .u8 0, .slice none 0 0, .slice none 0 0] 41)).alloc (.cells #[.int .u8 (x : Int), .slice none 0 0, .slice none 0 0] 41))
    have HK3 := Lib.hid (HSZ.out _ _ _ HS3.out)
    go_enter Tryd.func19, Tryd.ntmps19
    go_wp2_with fail
    refine (HT.out _).mono ?_
    rintro e w2 ⟨rfl, rfl⟩
    rw [h1]
    go_wp2_with fail

    refine HK3.out.mono ?_
    clear HK3 HSZ hs f2 g0 g1 g2 g3 g4 g5 g6 hcw d2 d4
    generalize (((w.setCell ⟨Br, 0, none⟩ (.int .i64 ((cnt : Int) + 1))).alloc (.cells #[.int .u8 0, .slice none 0 0, .slice none 0 0] 41)).alloc (.cells #[.int .u8 (x : Int), .slice none 0 0, .slice none 0 0] 41)) = V3 at *
    intro e V5 hp
    have hlo := lenOf_sz HO.out (by have := HLL.out; omega)
    rcases h4 : szOf L with _ | ⟨k, u⟩
    · rw [h4] at hp hlo
      obtain ⟨k5, u5, rfl, hb5⟩ := hp
      have HE : Hid (rd (x :: L) d cnt = .error 2) := Lib.hid (by rw [rd, if_neg (by rw [h1]; simp), if_neg h2, if_neg h3, hlo])
      have HS5 := Lib.hid (HS3.out.grown (below_grown hb5 (Nat.le_refl _)) (fun g hg => by cases hg))
      have t0 := HS5.out.1.cell 1
      have t2 := HS5.out.1.open_ 1
      have HS := Lib.hid (HS5.out.err 2)
      clear hb5 HS3 hlo h1 h2 h3 h4
      have t1 := HS.out.1.cell 1
      have n0 := HS.out.2.2.1.cell 0
      have n1 := HS.out.2.2.1.cell 1
      have n2 := HS.out.2.2.1.cell 2
      have z0 := HS.out.2.1.cell 0
      have z1 := HS.out.2.1.cell 1
      have z2 := HS.out.2.1.cell 2
      have y0 := HS.out.2.1.open_ 0
      have y1 := HS.out.2.1.open_ 1
      have y2 := HS.out.2.1.open_ 2
      go_wp2_with fail
      rw [HE.out]
      exact ret_cell rfl rfl rfl (HS.out.out _ _ _).1 rfl (one_err HS.out _ _ _ _ _ _ _ _ _ rfl rfl (by omega))
    rw [h4] at hp hlo
    obtain ⟨rfl, hb5⟩ := hp
    have HS5 := Lib.hid (HS3.out.grown (below_grown hb5 (Nat.le_refl _)) (fun g hg => by cases hg))
    have hu : u ≤ n - 1 := sz_fits h4 HLL.out
    have hk : k < 4294967296 := sz_small HO.out h4
    have t0 := HS5.out.1.cell 1
    have t2 := HS5.out.1.open_ 1
    clear hb5 HS3 h4
    dsimp only at hlo
    by_cases hku : k ≤ L.length - u
    case neg =>
      rw [if_neg hku] at hlo
      have hku2 : ¬ k ≤ n - 1 - u := by have := HLL.out; omega
      have dk : decide ((n : Int) - 1 - (u : Int) < (k : Int)) = true := decide_eq_true (by omega)
      have HE : Hid (rd (x :: L) d cnt = .error 2) := Lib.hid (by rw [rd, if_neg (by rw [h1]; simp), if_neg h2, if_neg h3, hlo])
      have HS := Lib.hid (HS5.out.err 2)
      clear hlo h1 h2 h3 hku
      have t1 := HS.out.1.cell 1
      have n0 := HS.out.2.2.1.cell 0
      have n1 := HS.out.2.2.1.cell 1
      have n2 := HS.out.2.2.1.cell 2
      have z0 := HS.out.2.1.cell 0
      have z1 := HS.out.2.1.cell 1
      have z2 := HS.out.2.1.cell 2
      have y0 := HS.out.2.1.open_ 0
      have y1 := HS.out.2.1.open_ 1
      have y2 := HS.out.2.1.open_ 2
      go_wp2_with fail
      rw [HE.out]
      exact ret_cell rfl rfl rfl (HS.out.out _ _ _).1 rfl (one_err HS.out _ _ _ _ _ _ _ _ _ rfl rfl (by omega))
    rw [if_pos hku] at hlo
    have hku2 : k + u ≤ n - 1 := by have := HLL.out; omega
    have dk : decide ((n : Int) - 1 - (u : Int) < (k : Int)) = false := decide_eq_false (by omega)
    have hlL := HLL.out
    obtain ⟨E, hE⟩ : ∃ E, E = dropA (some ⟨b, off, none⟩) (1 + u) c := ⟨_, rfl⟩
    obtain ⟨F, hF⟩ : ∃ F, F = dropA (some ⟨b, off, none⟩) (1 + u + k) c := ⟨_, rfl⟩
    have hsm : ∀ V : World, (Instr.sliceAt 22 (.slice (some ⟨b, off, none⟩) n c) (some (.int .i64 (1 + (u : Int)))) (some (.int .i64 (1 + (u : Int) + (k : Int)))) none).run Tryd.prog V = .ok (.slice E k (c - (1 + u))) V := fun V => by
      have h := run_mid V (some ⟨b, off, none⟩) n c (1 + u) (1 + u + k) (by omega) (by omega) hlc
      rw [show 1 + u + k - (1 + u) = k by omega, ← hE] at h
      push_cast at h
      exact h
    have hse : ∀ V : World, (Instr.sliceAt 22 (.slice (some ⟨b, off, none⟩) n c) (some (.int .i64 (1 + (u : Int) + (k : Int)))) none none).run Tryd.prog V = .ok (.slice F (n - (1 + u + k)) (c - (1 + u + k))) V := fun V => by
      have h := run_drop V (some ⟨b, off, none⟩) n c (1 + u + k) (by omega) hlc
      rw [← hF] at h
      push_cast at h
      exact h
    have hFe : (if c = 1 + u + k then some (⟨b, off, none⟩ : Addr) else some ⟨b, off + (1 + u + k), none⟩) = F := by rw [hF]; unfold dropA; split <;> simp [Addr.add]
    obtain ⟨Lb, hLb⟩ : ∃ Lb, Lb = (L.drop u).take k := ⟨_, rfl⟩
    have HRE : Hid (Rd .u8 w B E (c - (1 + u)) Lb) := Lib.hid (by
      have h := HR.out.mid (1 + u) k (by rw [List.length_cons, hlL]; omega)
      rw [← hE, Nat.add_comm 1 u, List.drop_succ_cons, ← hLb] at h
      rw [Nat.add_comm 1 u]
      exact h)
    have hlb : Lb.length = k := by rw [hLb, List.length_take, List.length_drop, hlL]; omega
    have HLB := Lib.hid hlb
    have HOB : Hid (∀ y ∈ Lb, y < 256) := Lib.hid fun y hy => HO.out y (by rw [hLb] at hy; exact List.mem_of_mem_drop (List.mem_of_mem_take hy))
    have HF := Lib.hid hF
    have HSM := Lib.hid hsm
    have HSE := Lib.hid hse
    have hsm5 := hsm V5
    have n0 := HS5.out.2.2.1.cell 0
    have hk12 : k ≤ 12000 := by omega
    have hd12 : d ≤ 12 := by omega
    obtain ⟨cE, hcE⟩ : ∃ cE, cE = c - (1 + u) := ⟨_, rfl⟩
    obtain ⟨nF, hnF⟩ : ∃ nF, nF = n - (1 + u + k) := ⟨_, rfl⟩
    obtain ⟨cF, hcF⟩ : ∃ cF, cF = c - (1 + u + k) := ⟨_, rfl⟩
    rw [← hcE] at HRE HSM hsm5
    have HFE := Lib.hid (And.intro hFe (And.intro hnF.symm hcF.symm))
    have HNF := Lib.hid (And.intro hnF hcF)
    have hnFn : nF < n := by omega
    have hkn : k < n := by omega
    clear hsm hse hE hF hcE hnF hcF hlb hFe
    rcases h5 : parted x with _ | _
    case false =>
      have HE : Hid (rd (x :: L) d cnt = .ok (.mk x Lb [], 1 + u + k, cnt + 1)) := Lib.hid (by rw [rd, if_neg (by rw [h1]; simp), if_neg h2, if_neg h3, hlo]; dsimp only; rw [if_pos h5, hLb])
      have HM1 : Hid (Mine 5 (V5.alloc (.cells #[] 5)) V5.heap.size (some ⟨V5.heap.size, 0, none⟩) 0 []) := Lib.hid (Mine.fresh0 V5 _ (Nat.le_refl _))
      have hSA : Sr w (V5.alloc (.cells #[] 5)) B Br x ((cnt : Int) + 1) 0 (.slice none 0 0) (.slice none 0 0) := HS5.out.grown (World.grownBy_alloc V5 (.cells #[] 5) none) (fun g hg => by cases hg)
      have HSA := Lib.hid hSA
      have HR1 : Hid (Rd .u8 (V5.alloc (.cells #[] 5)) B E cE Lb) := Lib.hid (HRE.out.under (below_br hSA.2.2.2.1 hB (by omega)))
      have HV5 : Hid (w.heap.size + 2 ≤ V5.heap.size) := Lib.hid HS5.out.2.2.2.2.1
      have HSZ1 : Hid (V5.heap.size ≤ (V5.alloc (.cells #[] 5)).heap.size) := Lib.hid (by simp)
      have HF5 : Hid (∀ W, (V5.alloc (.cells #[] 5)).grownBy W (blk_of (some ⟨V5.heap.size, 0, none⟩)) → W.frozen? ⟨w.heap.size + 1, 1, none⟩ = false ∧ W.cell? ⟨w.heap.size + 1, 1, none⟩ = some (.slice none 0 0)) := Lib.hid fun W hW => by
        have h := HSA.out.grown hW (fun g hg => by have := HV5.out; simp [blk_of] at hg; omega)
        exact ⟨h.2.2.1.open_ 1, h.2.2.1.cell 1⟩
      clear hSA hlo h1 h2 h3 hku hLb
      go_wp2_with fail
      refine (HP.out _).mono ?_
      rintro e w2 ⟨rfl, rfl⟩
      rw [h5]
      go_wp2_with (first | (refine wpList_mine (B2 := B) _ rfl (.tmp 95) (.tmp 96) 22 rfl 5 Tryd.underlying22 info_u8 rfl HM1.out rfl rfl HR1.out HLB.out HSZ1.out (by omega) ?_; intro A5 c5 W5 hm5 hg5 hat5; obtain ⟨f5, m5⟩ := HF5.out _ hg5) | fail)
      have HM5 := Lib.hid hm5
      have HG5 := Lib.hid hg5
      clear hm5 hg5 hat5 f5 m5 n0 t0 t2 hsm5 dk
      have hS6 := (HSA.out.grown HG5.out (fun g hg => by have := HV5.out; simp [blk_of] at hg; omega)).bodyv (.slice A5 k c5)
      have hM6 : Mine 5 (W5.setCell ⟨w.heap.size + 1, 1, none⟩ (.slice A5 k c5)) V5.heap.size A5 c5 Lb := HM5.out.keep fun g hg => Below.heap_setCell W5 ⟨w.heap.size + 1, 1, none⟩ _ g (by show g ≠ w.heap.size + 1; have := (HM5.out.block hg).1; have := HV5.out; omega)
      have HS6 := Lib.hid hS6
      have HM6 := Lib.hid hM6
      clear HM5 HG5 hS6 hM6 HM1 HSA HR1 HSZ1 HF5
      generalize (W5.setCell ⟨w.heap.size + 1, 1, none⟩ (.slice A5 k c5)) = V6 at *
      go_loopw [12] (fun v V => v = .slice E k cE ∧ V = V6) (fun v _ => 0)
      case atStart => exact ⟨rfl, rfl⟩
      case round =>
        obtain ⟨rfl, rfl⟩ := hrel
        have n0 := HS6.out.2.2.1.cell 0
        have n1 := HS6.out.2.2.1.cell 1
        have n2 := HS6.out.2.2.1.cell 2
        have z0 := HS6.out.2.1.cell 0
        have z1 := HS6.out.2.1.cell 1
        have z2 := HS6.out.2.1.cell 2
        have y0 := HS6.out.2.1.open_ 0
        have y1 := HS6.out.2.1.open_ 1
        have y2 := HS6.out.2.1.open_ 2
        have b1 := HS6.out.1.cell 1
        go_wp2_with fail
        refine (HP.out _).mono ?_
        rintro e w2 ⟨rfl, rfl⟩
        rw [h5]
        go_wp2_with fail
        go_region
        rw [HFE.out.1, HFE.out.2.1, HFE.out.2.2]
        go_wp2_with fail
        rw [HE.out]
        obtain ⟨r1, r2, r3, r4, r5⟩ := HS6.out.out (.int .u8 (x : Int)) (.slice A5 k c5) (.slice none 0 0)
        refine ret_cell rfl rfl rfl r1.drew rfl (OnePost.drew ⟨_, _, _, _, _, _, _, _, _, _, _, _, rfl, r3, r2, rfl, by push_cast; rfl, HF.out, HNF.out.1, HNF.out.2, .mk x A5 c5 Lb none 0 [], ?_, ?_, ?_⟩)
        · simp only [lcell, Lt.tag, Lt.ba, Lt.body, Lt.bc, Lt.ka, Lt.kids, Lt.kc, HLB.out]
          rfl
        · rw [Lt.t_mk]; rfl
        · have hM : Mine 5 wr w.heap.size A5 c5 Lb := HM6.out.less (by have := HV5.out; omega)
          refine TrIn.of_body hx (by rw [r4]; have := HS6.out.2.2.2.2.1; omega) (hM.keep fun g hg => r5 g (by have := (HM6.out.block hg).1; have := HV5.out; omega)) HOB.out
    have HE0 : Hid (rd (x :: L) d cnt = thingOf x (1 + u + k) (rds Lb (d + 1) (cnt + 1))) := Lib.hid (by
      rw [rd, if_neg (by rw [h1]; simp), if_neg h2, if_neg h3, hlo]
      dsimp only
      rw [if_neg (by rw [h5]; simp), hLb]
      rcases rds ((L.drop u).take k) (d + 1) (cnt + 1) with e | ⟨l, c'⟩ <;> rfl)
    obtain ⟨spec, hspec⟩ : ∃ spec, spec = rds Lb (d + 1) (cnt + 1) := ⟨_, rfl⟩
    rw [← hspec] at HE0
    have hR0 : RelO w B Br x d k Lb spec (.slice E k cE) V5 := ⟨E, k, cE, (cnt : Int) + 1, 0, none, 0, 0, [], rfl, HS5.out, OwnV.nil _ _ _, fun g hg => by simp [blockOf] at hg, Nat.zero_le _, Nat.le_refl _, .inl ⟨rfl, cnt + 1, [], by push_cast; rfl, rfl, rfl, by rw [Nat.sub_self]; exact HRE.out, by omega, by omega, Apart.nil _ _ _, by
      rw [hspec, List.map_nil, preT_nil, Nat.sub_self]; rfl⟩⟩
    have HR0 := Lib.hid hR0
    clear hR0 hspec hlo h1 h2 h3 hku hLb HS5 HRE
    go_wp2_with fail
    refine (HP.out _).mono ?_
    rintro e w2 ⟨rfl, rfl⟩
    rw [h5]
    go_wp2_with fail
    clear n0 t0 t2 hsm5 dk
    go_loopw [12] (fun v V => RelO w B Br x d k Lb spec v V) (fun v _ => sliceLen v)
    case atStart => exact HR0.out
    case round =>
      obtain ⟨A', n', c', k1, y1, K, kc, ln, vs, rfl, hst, hown, hKlo, hlk, hnk, hmode⟩ := hrel
      have HST := Lib.hid hst
      have n0 := hst.2.2.1.cell 0
      have b1 := hst.1.cell 1
      rcases hmode with ⟨hy0, cnt', l, hk1, hvs, hll, hRd, hc6, hlb, hap, hsp⟩ | ⟨y', hy1, hy0, hsp⟩
      case inl =>
        subst hy0 hk1 hvs
        by_cases hlt : 0 < n'
        case pos =>
          have dlt : decide ((0 : Int) < (n' : Int)) = true := decide_eq_true (by omega)
          have hs1 := hst.grown (World.grownBy_alloc wr (.cells #[.int .u8 0, .slice none 0 0, .slice none 0 0] 41) none) (fun g hg => by cases hg)
          have hx1 : Holds (wr.alloc (.cells #[.int .u8 0, .slice none 0 0, .slice none 0 0] 41)) wr.heap.size 41 #[.int .u8 0, .slice none 0 0, .slice none 0 0] := Holds.fresh _ _ _
          have hLl : (Lb.drop (k - n')).length = n' := by rw [List.length_drop, HLB.out]; omega
          have HK : Hid (Calls Tryd.prog 19 #[.pointer (some ⟨Br, 0, none⟩), .slice A' n' c', .int .i64 ((d : Int) + 1)] (wr.alloc (.cells #[.int .u8 0, .slice none 0 0, .slice none 0 0] 41)) (OnePost (wr.alloc (.cells #[.int .u8 0, .slice none 0 0, .slice none 0 0] 41)) Br A' n' c' (rd (Lb.drop (k - n')) (d + 1) cnt'))) := Lib.hid (by
            have h := HIH.out (wr.alloc (.cells #[.int .u8 0, .slice none 0 0, .slice none 0 0] 41)) B Br A' c' n' (d + 1) cnt' (Lb.drop (k - n')) (by have := HNN.out; omega) (hRd.under (below_br hs1.2.2.2.1 hB (by omega))) hLl hlt (by omega) (fun y hy => HOB.out y (List.mem_of_mem_drop hy)) hB hs1.1 (by omega) hc6
            rw [Int.natCast_succ] at h
            exact h)
          have hwd : IntKind.i64.wrap ((d : Int) + 1) = (d : Int) + 1 := IntWalk.i64_in _ (by omega)
          have hszr : w.heap.size + 2 ≤ wr.heap.size := hst.2.2.2.2.1
          have HS1 := Lib.hid hs1
          have HX1 := Lib.hid hx1
          have HALC : Hid (wr.grownBy (wr.alloc (.cells #[.int .u8 0, .slice none 0 0, .slice none 0 0] 41)) none) := Lib.hid (World.grownBy_alloc _ _ _)
          have HRES := Lib.hid (And.intro hown (And.intro hKlo (And.intro hlk (And.intro hll (And.intro hRd (And.intro hlb (And.intro hap (And.intro hsp hLl))))))))
          have hlnk : ln + 1 ≤ k := by omega
          clear hs1 hx1 hst hown hKlo hlk hRd hll hlb hap hsp hLl
          go_wp2_with fail
          refine (HP.out _).mono ?_
          rintro e2 w2 ⟨rfl, rfl⟩
          rw [h5]
          go_wp2_with fail
          refine HK.out.mono ?_
          intro e2 w2 hp
          obtain ⟨t0, a1, m1, c1, a2, m2, c2, S, s, t, k2, y2, rfl, hgr, hbr, htell⟩ := hp
          have hx2 := HX1.out.grown hgr (fun e => by injection e with e; omega)
          have zx0 := hx2.cell 0
          have zx1 := hx2.cell 1
          have zx2 := hx2.cell 2
          have yx0 := hx2.open_ 0
          have yx1 := hx2.open_ 1
          have yx2 := hx2.open_ 2
          have hst2 := HS1.out.turned hgr hbr
          have hst3 := ((hst2.aside (p := ⟨wr.heap.size, 0, none⟩) hszr (.int .u8 t0)).aside (p := ⟨wr.heap.size, 1, none⟩) hszr (.slice a1 m1 c1)).aside (p := ⟨wr.heap.size, 2, none⟩) hszr (.slice a2 m2 c2)
          have hx3 := ((hx2.stored 0 (.int .u8 t0)).stored 1 (.slice a1 m1 c1)).stored 2 (.slice a2 m2 c2)
          have HS3 := Lib.hid hst3
          have HX3 : Hid (Holds (((w2.setCell ⟨wr.heap.size, 0, none⟩ (.int .u8 t0)).setCell ⟨wr.heap.size, 1, none⟩ (.slice a1 m1 c1)).setCell ⟨wr.heap.size, 2, none⟩ (.slice a2 m2 c2)) wr.heap.size 41 #[.int .u8 t0, .slice a1 m1 c1, .slice a2 m2 c2]) := Lib.hid hx3
          have HTELL := Lib.hid htell
          have HGR := Lib.hid hgr
          have HSZ3 : Hid (((((w2.setCell ⟨wr.heap.size, 0, none⟩ (.int .u8 t0)).setCell ⟨wr.heap.size, 1, none⟩ (.slice a1 m1 c1)).setCell ⟨wr.heap.size, 2, none⟩ (.slice a2 m2 c2))).heap.size = w2.heap.size) := Lib.hid (by simp [World.setCell])
          have H3 : Hid (∀ g, g ≠ wr.heap.size → ((((w2.setCell ⟨wr.heap.size, 0, none⟩ (.int .u8 t0)).setCell ⟨wr.heap.size, 1, none⟩ (.slice a1 m1 c1)).setCell ⟨wr.heap.size, 2, none⟩ (.slice a2 m2 c2))).heap[g]? = w2.heap[g]?) := Lib.hid fun g hg => by
            rw [Below.heap_setCell _ ⟨wr.heap.size, 2, none⟩ _ g hg, Below.heap_setCell _ ⟨wr.heap.size, 1, none⟩ _ g hg, Below.heap_setCell _ ⟨wr.heap.size, 0, none⟩ _ g hg]
          have H3w : Hid (∀ g, w.heap.size + 2 ≤ g → g < wr.heap.size → ((((w2.setCell ⟨wr.heap.size, 0, none⟩ (.int .u8 t0)).setCell ⟨wr.heap.size, 1, none⟩ (.slice a1 m1 c1)).setCell ⟨wr.heap.size, 2, none⟩ (.slice a2 m2 c2))).heap[g]? = wr.heap[g]?) := Lib.hid fun g h1 h2 => by
            rw [H3.out g (by omega), HGR.out.block g (Nat.lt_of_lt_of_le h2 HALC.out.size) (fun e => by injection e with e; omega), HALC.out.block g h2 (by simp)]
          have HW2 : Hid (wr.heap.size + 1 ≤ w2.heap.size) := Lib.hid (by have := hgr.size; simpa using this)
          have HHB : Hid (Holds ((((w2.setCell ⟨wr.heap.size, 0, none⟩ (.int .u8 t0)).setCell ⟨wr.heap.size, 1, none⟩ (.slice a1 m1 c1)).setCell ⟨wr.heap.size, 2, none⟩ (.slice a2 m2 c2)).alloc (.cells #[.int .u8 t0, .slice a1 m1 c1, .slice a2 m2 c2] 41)) w2.heap.size 41 [Value.int .u8 t0, .slice a1 m1 c1, .slice a2 m2 c2].toArray) := Lib.hid (by
            have h := Holds.fresh (((w2.setCell ⟨wr.heap.size, 0, none⟩ (.int .u8 t0)).setCell ⟨wr.heap.size, 1, none⟩ (.slice a1 m1 c1)).setCell ⟨wr.heap.size, 2, none⟩ (.slice a2 m2 c2)) 41 #[.int .u8 t0, .slice a1 m1 c1, .slice a2 m2 c2]
            rw [HSZ3.out] at h
            exact h)
          have HS4 : Hid (Sr w ((((w2.setCell ⟨wr.heap.size, 0, none⟩ (.int .u8 t0)).setCell ⟨wr.heap.size, 1, none⟩ (.slice a1 m1 c1)).setCell ⟨wr.heap.size, 2, none⟩ (.slice a2 m2 c2)).alloc (.cells #[.int .u8 t0, .slice a1 m1 c1, .slice a2 m2 c2] 41)) B Br x k2 y2 (.slice none 0 0) (.slice K ln kc)) := Lib.hid (hst3.grown (World.grownBy_alloc (((w2.setCell ⟨wr.heap.size, 0, none⟩ (.int .u8 t0)).setCell ⟨wr.heap.size, 1, none⟩ (.slice a1 m1 c1)).setCell ⟨wr.heap.size, 2, none⟩ (.slice a2 m2 c2)) (.cells #[.int .u8 t0, .slice a1 m1 c1, .slice a2 m2 c2] 41) none) (fun g hg => by cases hg))
          have H4 : Hid (∀ g, g < w2.heap.size → (((((w2.setCell ⟨wr.heap.size, 0, none⟩ (.int .u8 t0)).setCell ⟨wr.heap.size, 1, none⟩ (.slice a1 m1 c1)).setCell ⟨wr.heap.size, 2, none⟩ (.slice a2 m2 c2)).alloc (.cells #[.int .u8 t0, .slice a1 m1 c1, .slice a2 m2 c2] 41))).heap[g]? = ((((w2.setCell ⟨wr.heap.size, 0, none⟩ (.int .u8 t0)).setCell ⟨wr.heap.size, 1, none⟩ (.slice a1 m1 c1)).setCell ⟨wr.heap.size, 2, none⟩ (.slice a2 m2 c2))).heap[g]?) := Lib.hid fun g hg => Below.heap_alloc _ _ g (by rw [HSZ3.out]; exact hg)
          have HOW : Hid (OwnV 41 3 ((((w2.setCell ⟨wr.heap.size, 0, none⟩ (.int .u8 t0)).setCell ⟨wr.heap.size, 1, none⟩ (.slice a1 m1 c1)).setCell ⟨wr.heap.size, 2, none⟩ (.slice a2 m2 c2)).alloc (.cells #[.int .u8 t0, .slice a1 m1 c1, .slice a2 m2 c2] 41)) K kc ln (l.flatMap lcell)) := Lib.hid (HRES.out.1.keep fun g hg hlt => by
            have := HW2.out
            rw [H4.out g (by omega), H3w.out g (HRES.out.2.1 g hg) hlt])
          have HF5 : Hid (∀ W, (((((w2.setCell ⟨wr.heap.size, 0, none⟩ (.int .u8 t0)).setCell ⟨wr.heap.size, 1, none⟩ (.slice a1 m1 c1)).setCell ⟨wr.heap.size, 2, none⟩ (.slice a2 m2 c2)).alloc (.cells #[.int .u8 t0, .slice a1 m1 c1, .slice a2 m2 c2] 41))).grownBy W (blockOf K) → W.frozen? ⟨w.heap.size + 1, 2, none⟩ = false ∧ W.cell? ⟨w.heap.size + 1, 2, none⟩ = some (.slice K ln kc)) := Lib.hid fun W hW => by
            have h := HS4.out.grown hW HRES.out.2.1
            exact ⟨h.2.2.1.open_ 2, h.2.2.1.cell 2⟩
          have HW1 : Hid (∀ v ∈ [Value.int .u8 t0, .slice a1 m1 c1, .slice a2 m2 c2], v.oneCell' = true) := Lib.hid (by intro v hv; simp at hv; rcases hv with rfl | rfl | rfl <;> rfl)
          have HLN : Hid (ln ≤ 9000000000000000000 ∧ (ln + 1) * 56 ≤ 140737488355328) := Lib.hid (by omega)
          have HKLT : Hid (∀ g, blockOf K = some g → g < wr.heap.size) := Lib.hid fun g hg => HRES.out.1.lt hg
          have k0 := hst3.2.2.1.cell 2
          have q0 := hx3.cell 0
          have q1 := hx3.cell 1
          have q2 := hx3.cell 2
          clear hx2 hst2 hst3 hx3 hgr hbr htell n0 b1 HK HS1 HX1
          go_wp2_with (first | (at_builtin; refine wpList_pushV _ rfl (.tmp 123) (.tmp 125) 39 rfl 41 _ 3 56 Tryd.underlying39 info_node rfl (by omega) (by omega) rfl HOW.out (cs := [Value.int .u8 t0, .slice a1 m1 c1, .slice a2 m2 c2]) rfl rfl HW1.out HHB.out HLN.out ?_; intro g5 c5 W5 ho5 hg5 hat5 hlt5; obtain ⟨f5, m5⟩ := HF5.out _ hg5))
          have hS6 := (HS4.out.grown hg5 HRES.out.2.1).kidsv (.slice (some ⟨g5, 0, none⟩) (ln + 1) c5)
          have hsz4 : (((((w2.setCell ⟨wr.heap.size, 0, none⟩ (.int .u8 t0)).setCell ⟨wr.heap.size, 1, none⟩ (.slice a1 m1 c1)).setCell ⟨wr.heap.size, 2, none⟩ (.slice a2 m2 c2)).alloc (.cells #[.int .u8 t0, .slice a1 m1 c1, .slice a2 m2 c2] 41))).heap.size = w2.heap.size + 1 := by
            show (Array.push _ _).size = _
            rw [Array.size_push, HSZ3.out]
          have hg5lo : w.heap.size + 2 ≤ g5 := by
            rcases hat5 with h | h
            · exact HRES.out.2.1 g5 h
            · have := HW2.out
              omega
          have ho6 : OwnV 41 3 (W5.setCell ⟨w.heap.size + 1, 2, none⟩ (.slice (some ⟨g5, 0, none⟩) (ln + 1) c5)) (some ⟨g5, 0, none⟩) c5 (ln + 1) (l.flatMap lcell ++ [Value.int .u8 t0, .slice a1 m1 c1, .slice a2 m2 c2]) :=
            ho5.keep fun g hg hlt => Below.heap_setCell W5 ⟨w.heap.size + 1, 2, none⟩ _ g (by show g ≠ w.heap.size + 1; change some g5 = some g at hg; injection hg with hg; omega)
          have hmode : s < n' ∧ (ModeA w (W5.setCell ⟨w.heap.size + 1, 2, none⟩ (.slice (some ⟨g5, 0, none⟩) (ln + 1) c5)) B d k Lb spec S s t k2 y2 (some ⟨g5, 0, none⟩) (ln + 1) (l.flatMap lcell ++ [Value.int .u8 t0, .slice a1 m1 c1, .slice a2 m2 c2]) ∨ ∃ y' : Nat, y2 = (y' : Int) ∧ y' ≠ 0 ∧ spec = .error y') := by
            have htl := HTELL.out
            obtain ⟨r1, r2, r3, r4, r5, r6, r7, r8, r9⟩ := HRES.out
            rcases h6 : rd (Lb.drop (k - n')) (d + 1) cnt' with y | ⟨t', m, cc⟩
            · rw [h6] at htl
              refine ⟨htl.2, .inr ⟨y, htl.1, (rd_err (n' + 1)).1 _ _ _ _ (by rw [r9]; omega) h6, ?_⟩⟩
              rw [r8, rds_err (by rw [r9]; exact hlt) h6]
              rfl
            · rw [h6] at htl
              obtain ⟨u1, u2, u3, u4, u5, lt, u6, u7, u8⟩ := htl
              have hfit := (rd_fits (n' + 1)).1 _ _ _ _ _ _ (by rw [r9]; omega) h6
              rw [r9] at hfit
              subst u3 u4 u5
              refine ⟨by omega, .inl ⟨u1, cc, l ++ [lt], u2, by rw [List.flatMap_append, List.flatMap_cons, List.flatMap_nil, List.append_nil, u6], by rw [List.length_append, r4]; rfl, ?_, hfit.2.2, by omega, ?_, ?_⟩⟩
              · have h := r5.drop m (by rw [r9]; omega)
                rw [List.drop_drop, show k - n' + m = k - (n' - m) by omega] at h
                exact h
              · have h3 : Apart (((w2.setCell ⟨wr.heap.size, 0, none⟩ (.int .u8 t0)).setCell ⟨wr.heap.size, 1, none⟩ (.slice a1 m1 c1)).setCell ⟨wr.heap.size, 2, none⟩ (.slice a2 m2 c2)) (w.heap.size + 2) K (l ++ [lt]) := by
                  have h := r7.keep (w' := (((w2.setCell ⟨wr.heap.size, 0, none⟩ (.int .u8 t0)).setCell ⟨wr.heap.size, 1, none⟩ (.slice a1 m1 c1)).setCell ⟨wr.heap.size, 2, none⟩ (.slice a2 m2 c2))) (A' := K) (by rw [HSZ3.out]; have := HW2.out; omega) (fun g h1 h2 _ => H3w.out g h1 h2) (fun g hg => .inl hg)
                  have hV1s : (wr.alloc (.cells #[.int .u8 0, .slice none 0 0, .slice none 0 0] 41)).heap.size = wr.heap.size + 1 := by simp
                  exact h.more (a := (wr.alloc (.cells #[.int .u8 0, .slice none 0 0, .slice none 0 0] 41)).heap.size) (b := w2.heap.size) (by omega) (by rw [HSZ3.out]; exact Nat.le_refl _) (u8.keep fun g h1 h2 => H3.out g (by omega)) (fun g hg => .inl (Nat.lt_of_lt_of_le (HKLT.out g hg) HALC.out.size))
                refine h3.keep ?_ (fun g h1 h2 hne => ?_) (fun g hg => ?_)
                · show _ ≤ (W5.heap.modify _ _).size
                  rw [Array.size_modify, HSZ3.out]
                  have := hg5.size
                  omega
                · rw [HSZ3.out] at h2
                  rw [Below.heap_setCell W5 ⟨w.heap.size + 1, 2, none⟩ _ g (by show g ≠ w.heap.size + 1; omega), hg5.block g (by omega) (fun e => hne e.symm), H4.out g h2]
                · change some g5 = some g at hg
                  injection hg with hg
                  subst hg
                  rcases hat5 with h | h
                  · exact .inl h
                  · exact .inr (by rw [HSZ3.out]; omega)
              · rw [r8, rds_ok (by rw [r9]; exact hlt) h6, preT_preT, List.map_append, List.map_cons, List.map_nil, u7, List.drop_drop, show k - n' + m = k - (n' - m) by omega]
          have HS6 := Lib.hid hS6
          have HO6 := Lib.hid ho6
          have HG6 := Lib.hid hg5lo
          have HMO := Lib.hid hmode
          clear hS6 ho5 hg5 hat5 hlt5 ho6 hg5lo hmode hsz4 HS3 HX3 H3 H3w HHB HS4 H4 HOW HF5
          go_roundw
          case rel => exact ⟨S, s, t, k2, y2, some ⟨g5, 0, none⟩, c5, ln + 1, _, rfl, HS6.out, HO6.out, fun g hg => by change some g5 = some g at hg; injection hg with hg; subst hg; exact HG6.out, hlnk, by have := HMO.out.1; omega, HMO.out.2⟩
          case measure =>
            have := HMO.out.1
            simp [sliceLen]
            omega
        case neg =>
          obtain rfl : n' = 0 := by omega
          rw [Nat.sub_zero, show Lb.drop k = [] by rw [List.drop_eq_nil_iff, HLB.out]; exact Nat.le_refl _, rds] at hsp
          have HE : Hid (rd (x :: L) d cnt = .ok (.mk x [] (l.map Lt.t), 1 + u + k, cnt')) := Lib.hid (by rw [HE0.out, hsp]; simp [preT, thingOf])
          have n1 := hst.2.2.1.cell 1
          have n2 := hst.2.2.1.cell 2
          have z0 := hst.2.1.cell 0
          have z1 := hst.2.1.cell 1
          have z2 := hst.2.1.cell 2
          have y0 := hst.2.1.open_ 0
          have y1 := hst.2.1.open_ 1
          have y2 := hst.2.1.open_ 2
          have HREST := Lib.hid (And.intro hll (And.intro hown (And.intro hKlo hap)))
          clear hst hown hKlo hap hsp hRd hlb hll
          go_wp2_with fail
          refine (HP.out _).mono ?_
          rintro e w2 ⟨rfl, rfl⟩
          rw [h5]
          go_wp2_with fail
          go_region
          rw [HFE.out.1, HFE.out.2.1, HFE.out.2.2]
          go_wp2_with fail
          rw [HE.out]
          obtain ⟨r1, r2, r3, r4, r5⟩ := HST.out.out (.int .u8 (x : Int)) (.slice none 0 0) (.slice K ln kc)
          have hsz := HST.out.2.2.2.2.1
          refine ret_cell rfl rfl rfl r1.drew rfl (OnePost.drew ⟨_, _, _, _, _, _, _, _, _, _, _, _, rfl, r3, r2, rfl, rfl, HF.out, HNF.out.1, HNF.out.2, .mk x none 0 [] K kc l, ?_, ?_, ?_⟩)
          · simp only [lcell, Lt.tag, Lt.ba, Lt.body, Lt.bc, Lt.ka, Lt.kids, Lt.kc, HREST.out.1]
            rfl
          · rw [Lt.t_mk]
          · refine TrIn.of_kids hx HREST.out.1 (by rw [r4]; omega) (HREST.out.2.1.keep fun g hg _ => r5 g (by have := HREST.out.2.2.1 g hg; omega)) (fun g hg => by have := HREST.out.2.2.1 g hg; omega) ?_
            exact (HREST.out.2.2.2.keep (by rw [r4]; exact Nat.le_refl _) (fun g hg _ _ => r5 g (by omega)) (fun g hg => .inl hg)).less (by omega)
      case inr =>
        subst hy1
        have hyI : decide ((y' : Int) = 0) = false := decide_eq_false (by omega)
        have hyB : ((y' : Int) == 0) = false := by simp; omega
        have HE : Hid (rd (x :: L) d cnt = .error y') := Lib.hid (by rw [HE0.out, hsp]; rfl)
        have n1 := hst.2.2.1.cell 1
        have n2 := hst.2.2.1.cell 2
        have z0 := hst.2.1.cell 0
        have z1 := hst.2.1.cell 1
        have z2 := hst.2.1.cell 2
        have y0 := hst.2.1.open_ 0
        have y1 := hst.2.1.open_ 1
        have y2 := hst.2.1.open_ 2
        clear hst hown hKlo hsp
        by_cases hlt : 0 < n'
        case pos =>
          have dlt : decide ((0 : Int) < (n' : Int)) = true := decide_eq_true (by omega)
          go_wp2_with fail
          refine (HP.out _).mono ?_
          rintro e w2 ⟨rfl, rfl⟩
          rw [h5]
          go_wp2_with fail
          go_region
          rw [HFE.out.1, HFE.out.2.1, HFE.out.2.2]
          go_wp2_with fail
          rw [HE.out]
          exact ret_cell rfl rfl rfl (HST.out.out _ _ _).1.drew rfl (OnePost.drew (one_err HST.out _ _ _ _ _ _ _ _ _ rfl rfl hnFn))
        case neg =>
          have dlt : decide ((0 : Int) < (n' : Int)) = false := decide_eq_false (by omega)
          go_wp2_with fail
          refine (HP.out _).mono ?_
          rintro e w2 ⟨rfl, rfl⟩
          rw [h5]
          go_wp2_with fail
          go_region
          rw [HFE.out.1, HFE.out.2.1, HFE.out.2.2]
          go_wp2_with fail
          rw [HE.out]
          exact ret_cell rfl rfl rfl (HST.out.out _ _ _).1.drew rfl (OnePost.drew (one_err HST.out _ _ _ _ _ _ _ _ _ rfl rfl hnFn))
end Go.Proofs.YtbdkopcmdefhoaaDoor
