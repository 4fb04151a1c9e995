/-
  What a primitive thing holds; one that is made: by atom, and by the document.
-/
import Derived.Test.YtbkjjhpnjfdlbaaGreatDoorTlvM
import Derived.Test.YtbkjjhpnjfdlbaaGreatDoorNatM
import Derived.OwnWalk
import Derived.BigRegion
import Derived.BigQuiet
namespace Go.Proofs.YtbkjjhpnjfdlbaaGreatDoor
open Go.RowKit
set_option linter.unusedVariables false
set_option linter.unusedSimpArgs false

theorem ret_one {R : Ending → World → Prop} {tmps : Array Value} {w : World} {g : Nat} {t : TypeId} {cs : Array Value} {fn : Func} {p : Tmp}
    (hr : fn.results = #[.cell p 31]) (hp : tmps.getD p undef = .pointer (some ⟨g, 0, none⟩)) (hg : Holds w g t cs) (hcs : cs.size = 3) (hR : R (.returned (.agg cs)) w) :
    bodyPost Tryz.prog fn R .ret { tmps := tmps, defers := [] } w := by
  have hi : (Tryz.prog.info? 31).map (·.size) = some cs.size := by rw [hcs]; kernel_rfl
  refine bodyPost_ret (v := .agg cs) ?_ rfl hR
  have hp' : tmps[p]?.getD undef = .pointer (some ⟨g, 0, none⟩) := by simpa using hp
  simp [results, hr, hp', asAddr, run_loadVar_row w g t _ cs (0, 0) _ hg Tryz.underlying31 rfl hi, Result.andThen]
/-- Is it a primitive thing of a tag? -/
def heldOk (x kn tag : Nat) : Bool := decide (x = tag) && decide (kn = 0)
/-- A primitive thing of these bytes. -/
def IsPrim (v : Value) (w : World) (tag : Nat) (b : List Nat) : Prop := ∃ lt : Lt, v = lt.val ∧ lt.t = .mk tag b [] ∧ TrAt w w.heap.size lt
theorem prim_at {w : World} {A : Option Addr} {c n tag : Nat} {b : List Nat} (ht : tag < 256) (hn : b.length = n) (hr : Rd .u8 w w.heap.size A c b) (ho : ∀ x ∈ b, x < 256) : IsPrim (.agg #[.int .u8 (tag : Int), .slice A n c, .slice none 0 0]) w tag b := by
  subst hn
  exact ⟨.mk tag A c b none 0 [], rfl, rfl, by rw [trAt_mk]; exact ⟨ht, hr, ho, ⟨by simp, by omega, fun h => by simp at h⟩, fun j hj => by simp at hj⟩⟩
/-- A primitive thing whose bytes lie in memory from block B on. -/
def PrimAt (v : Value) (w : World) (B : Nat) (tag : Nat) (b : List Nat) : Prop := ∃ A c, v = .agg #[.int .u8 (tag : Int), .slice A b.length c, .slice none 0 0] ∧ Rd .u8 w w.heap.size A c b ∧ (∀ g, blk_of A = some g → B ≤ g) ∧ (∀ x ∈ b, x < 256) ∧ tag < 256
theorem PrimAt.is {v : Value} {w : World} {B tag : Nat} {b : List Nat} (h : PrimAt v w B tag b) : IsPrim v w tag b := by
  obtain ⟨A, c, rfl, hr, _, ho, ht⟩ := h
  exact prim_at ht rfl hr ho
theorem PrimAt.under {v : Value} {w w' : World} {B tag : Nat} {b : List Nat} (h : PrimAt v w B tag b) (hb : Below w.heap.size w w') : PrimAt v w' B tag b := by
  obtain ⟨A, c, rfl, hr, hg, ho, ht⟩ := h
  exact ⟨A, c, rfl, (hr.under hb).more hb.size, hg, ho, ht⟩
theorem PrimAt.mono {v : Value} {w : World} {B B' tag : Nat} {b : List Nat} (h : PrimAt v w B tag b) (hB : B' ≤ B) : PrimAt v w B' tag b := by
  obtain ⟨A, c, rfl, hr, hg, ho, ht⟩ := h
  exact ⟨A, c, rfl, hr, fun g hh => Nat.le_trans hB (hg g hh), ho, ht⟩
theorem rd_aside {w : World} {B B' : Nat} {A : Option Addr} {c : Nat} {b : List Nat} (hr : Rd .u8 w B A c b) (hg : ∀ g, blk_of A = some g → B' ≤ g) {p : Addr} (hp : p.block < B') (u : Value) : Rd .u8 (w.setCell p u) B A c b := by
  refine ⟨hr.1, hr.2.1, fun hn => ?_⟩
  obtain ⟨g, off, rfl, hlt, hc⟩ := hr.2.2 hn
  refine ⟨g, off, rfl, hlt, fun j hj => ?_⟩
  have hne : g ≠ p.block := by have := hg g rfl; omega
  rw [show (w.setCell p u).cell? ⟨g, off + j, none⟩ = w.cell? ⟨g, off + j, none⟩ by simp only [World.cell?]; rw [Below.heap_setCell w p u g hne]]
  exact hc j hj
theorem PrimAt.store {v : Value} {w : World} {B tag : Nat} {b : List Nat} (h : PrimAt v w B tag b) {p : Addr} (hp : p.block < B) (u : Value) : PrimAt v (w.setCell p u) B tag b := by
  obtain ⟨A, c, rfl, hr, hg, ho, ht⟩ := h
  exact ⟨A, c, rfl, by have := rd_aside hr hg hp u; rwa [show (w.setCell p u).heap.size = w.heap.size by simp [World.setCell]], hg, ho, ht⟩
theorem kids_none {lt : Lt} {t : Tr} (h : lt.t = t) (hk : t.kids = []) : lt.kids.length = 0 := by
  rcases lt with ⟨tag, ba, bc, body, ka, kc, kids⟩
  rw [Lt.t_mk] at h
  subst h
  simpa [Tr.kids, Lt.kids] using hk
theorem lt_parts {lt : Lt} {tag : Nat} {b : List Nat} {k : List Tr} (h : lt.t = .mk tag b k) : lt.tag = tag ∧ lt.body = b ∧ lt.kids.length = k.length := by
  rcases lt with ⟨tag, ba, bc, body, ka, kc, kids⟩
  rw [Lt.t_mk] at h
  injection h with h1 h2 h3
  subst h1 h2 h3
  simp [Lt.tag, Lt.body, Lt.kids]
theorem rd_body {w : World} {B : Nat} {t : Lt} (h : TrAt w B t) : Rd .u8 w B t.ba t.bc t.body ∧ (∀ x ∈ t.body, x < 256) ∧ t.tag < 256 := by
  rcases t with ⟨tag, ba, bc, body, ka, kc, kids⟩
  rw [trAt_mk] at h
  exact ⟨h.2.1, h.2.2.1, h.1⟩
def HeldPost (w : World) (A : Option Addr) (n c : Nat) : Bool → Ending → World → Prop
  | true, e, w' => e = .returned (.tuple #[.slice A n c, .bool true]) ∧ Below w.heap.size w w'
  | false, e, w' => e = .returned (.tuple #[.slice none 0 0, .bool false]) ∧ Below w.heap.size w w'
def HeldPost' (w : World) (n : Nat) (b : List Nat) : Bool → Ending → World → Prop
  | true, e, w' => ∃ A c, e = .returned (.tuple #[.slice A n c, .bool true]) ∧ Mine 5 w' w.heap.size A c b ∧ Below w.heap.size w w'
  | false, e, w' => e = .returned (.tuple #[.slice none 0 0, .bool false]) ∧ Below w.heap.size w w'
set_option maxRecDepth 100000 in
set_option maxHeartbeats 2000000 in
theorem held_any (w : World) (x n c kn kc tag : Nat) (A K : Option Addr) :
    Calls Tryz.prog 46 #[.agg #[.int .u8 (x : Int), .slice A n c, .slice K kn kc], .int .u8 (tag : Int)] w (HeldPost w A n c (heldOk x kn tag)) := by
  have hH := Holds.fresh w 31 #[.int .u8 (x : Int), .slice A n c, .slice K kn kc]
  have HB : Hid (Below w.heap.size w (w.alloc (.cells #[.int .u8 (x : Int), .slice A n c, .slice K kn kc] 31))) := Lib.hid ((Below.refl _ _).alloc (Nat.le_refl _) _)
  have c0 := hH.cell 0
  have c1 := hH.cell 1
  have c2 := hH.cell 2
  by_cases h1 : x = tag
  case neg =>
    have HE : Hid (heldOk x kn tag = false) := Lib.hid (by simp [heldOk, h1])
    have b1 : ((x : Int) != (tag : Int)) = true := by simp; omega
    have d1 : decide ((x : Int) = (tag : Int)) = false := decide_eq_false (by omega)
    go_enter Tryz.func46, Tryz.ntmps46
    go_wp2_with fail
    go_ret2
    rw [HE.out]
    exact ⟨rfl, HB.out⟩
  subst h1
  by_cases h2 : kn = 0
  case neg =>
    have HE : Hid (heldOk x kn x = false) := Lib.hid (by simp [heldOk, h2])
    have d2 : decide ((0 : Int) < (kn : Int)) = true := decide_eq_true (by omega)
    go_enter Tryz.func46, Tryz.ntmps46
    go_wp2_with fail
    go_ret2
    rw [HE.out]
    exact ⟨rfl, HB.out⟩
  subst h2
  have HE : Hid (heldOk x 0 x = true) := Lib.hid (by simp [heldOk])
  go_enter Tryz.func46, Tryz.ntmps46
  go_wp2_with fail
  go_ret2
  rw [HE.out]
  exact ⟨rfl, HB.out⟩
set_option maxRecDepth 100000 in
set_option maxHeartbeats 2000000 in
theorem prim'_own (w : World) (n c tag B : Nat) (A : Option Addr) (b : List Nat) (hr : Rd .u8 w B A c b) (hn : b.length = n) (hB : B ≤ w.heap.size) (hmx : n ≤ 900000) (ht : tag < 256) (ho : ∀ x ∈ b, x < 256) :
    Calls Tryz.prog 14 #[.int .u8 (tag : Int), .slice A n c] w fun e w' => ∃ v, e = .returned v ∧ PrimAt v w' w.heap.size tag b ∧ Below w.heap.size w w' := by
  have HO := Lib.hid ho
  have hZ := (Holds.fresh w 31 #[.int .u8 0, .slice none 0 0, .slice none 0 0]).alloc (.cells #[] 5)
  have hs1 : (w.alloc (.cells #[.int .u8 0, .slice none 0 0, .slice none 0 0] 31)).heap.size = w.heap.size + 1 := by simp
  have HM1 : Hid (Mine 5 ((w.alloc (.cells #[.int .u8 0, .slice none 0 0, .slice none 0 0] 31)).alloc (.cells #[] 5)) (w.heap.size + 1) (some ⟨w.heap.size + 1, 0, none⟩) 0 []) := Lib.hid (by
    have h := Mine.fresh0 (w.alloc (.cells #[.int .u8 0, .slice none 0 0, .slice none 0 0] 31)) (w.heap.size + 1) (by omega)
    rw [hs1] at h
    exact h)
  have HQ1 : Hid (Below w.heap.size w ((w.alloc (.cells #[.int .u8 0, .slice none 0 0, .slice none 0 0] 31)).alloc (.cells #[] 5))) := Lib.hid (((Below.refl _ _).alloc (Nat.le_refl _) _).alloc (by omega) _)
  have HR1 : Hid (Rd .u8 ((w.alloc (.cells #[.int .u8 0, .slice none 0 0, .slice none 0 0] 31)).alloc (.cells #[] 5)) B A c b) := Lib.hid (hr.under (HQ1.out.mono hB))
  have HN := Lib.hid hn
  have HZ := Lib.hid hZ
  have HS1 : Hid (w.heap.size + 1 ≤ ((w.alloc (.cells #[.int .u8 0, .slice none 0 0, .slice none 0 0] 31)).alloc (.cells #[] 5)).heap.size) := Lib.hid (by simp)
  have HF5 : Hid (∀ W, ((w.alloc (.cells #[.int .u8 0, .slice none 0 0, .slice none 0 0] 31)).alloc (.cells #[] 5)).grownBy W (blk_of (some ⟨w.heap.size + 1, 0, none⟩)) → Holds W w.heap.size 31 #[.int .u8 0, .slice none 0 0, .slice none 0 0]) := Lib.hid fun W hW => HZ.out.grown hW (by simp [blk_of])
  clear hr hn hZ hs1 ho
  go_enter Tryz.func14, Tryz.ntmps14
  go_wp2_with (first | (refine wpList_mine (B2 := B) _ rfl (.tmp 6) (.tmp 7) 22 rfl 5 Tryz.underlying22 info_u8 rfl HM1.out rfl rfl HR1.out HN.out HS1.out (by omega) ?_; intro A5 c5 W5 hm5 hg5 hat5; have hz5 := HF5.out _ hg5; have z0 := hz5.cell 0; have z1 := hz5.cell 1; have z2 := hz5.cell 2; have y0 := hz5.open_ 0; have y1 := hz5.open_ 1; have y2 := hz5.open_ 2) | fail)
  have HQ5 : Hid (Below w.heap.size w W5) := Lib.hid (HQ1.out.trans (below_blk hg5 HQ1.out.size (fun g hg => by simp [blk_of] at hg; omega)))
  refine ret_one rfl rfl (((hz5.stored 0 _).stored 1 _).stored 2 _) rfl ?_
  have hne : ∀ g, g ≠ w.heap.size → ((((W5.setCell ⟨w.heap.size, 0, none⟩ (.int .u8 (tag : Int))).setCell ⟨w.heap.size, 1, none⟩ (.slice A5 n c5)).setCell ⟨w.heap.size, 2, none⟩ (.slice none 0 0))).heap[g]? = W5.heap[g]? := fun g hg => by
    rw [Below.heap_setCell _ ⟨w.heap.size, 2, none⟩ _ g hg, Below.heap_setCell _ ⟨w.heap.size, 1, none⟩ _ g hg, Below.heap_setCell _ ⟨w.heap.size, 0, none⟩ _ g hg]
  have HM6 := hm5.keep fun g hg => hne g (by have := (hm5.block hg).1; omega)
  refine ⟨_, rfl, ⟨A5, c5, by rw [HN.out]; rfl, Mine.rd HM6, fun g hg => by have := (HM6.block hg).1; omega, HO.out, ht⟩, ((HQ5.out.setCell (p := ⟨w.heap.size, 0, none⟩) (Nat.le_refl _) _).setCell (p := ⟨w.heap.size, 1, none⟩) (Nat.le_refl _) _).setCell (p := ⟨w.heap.size, 2, none⟩) (Nat.le_refl _) _⟩
theorem prim'_any (w : World) (n c tag B : Nat) (A : Option Addr) (b : List Nat) (hr : Rd .u8 w B A c b) (hn : b.length = n) (hB : B ≤ w.heap.size) (hmx : n ≤ 900000) (ht : tag < 256) (ho : ∀ x ∈ b, x < 256) :
    Calls Tryz.prog 14 #[.int .u8 (tag : Int), .slice A n c] w fun e w' => ∃ v, e = .returned v ∧ IsPrim v w' tag b ∧ Below w.heap.size w w' :=
  (prim'_own w n c tag B A b hr hn hB hmx ht ho).mono fun _ _ ⟨v, h1, h2, h3⟩ => ⟨v, h1, h2.is, h3⟩
end Go.Proofs.YtbkjjhpnjfdlbaaGreatDoor
