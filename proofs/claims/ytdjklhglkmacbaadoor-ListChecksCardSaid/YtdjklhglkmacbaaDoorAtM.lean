/-
  What a primitive thing holds; one that is made: by atom, and by the document. A number's thing: its bytes, there and back; as words. A thing as a number: by atom, and by the document. A thing as a number: by the document. A number's thing: by atom, and by the document. A small number's thing: by atom, and by the document. A small number's thing by the document; a thing as a small number by atom.
-/
import Derived.Test.YtdjklhglkmacbaaDoorTlv18
import Derived.Test.YtdjklhglkmacbaaDoorTlv15
import Derived.Test.YtdjklhglkmacbaaDoorNatM
import Derived.OwnWalk
import Derived.BigRegion
import Derived.BigQuiet
import Derived.Lib.ItoaNum
namespace Go.Proofs.YtdjklhglkmacbaaDoor
open Go.RowKit
set_option linter.unusedVariables false
set_option linter.unusedSimpArgs false

theorem ret_one {R : Ending → World → Prop} {tmps : Array Value} {w : World} {g : Nat} {t : TypeId} {cs : Array Value} {fn : Func} {p : Tmp}
    (hr : fn.results = #[.cell p 31]) (hp : tmps.getD p undef = .pointer (some ⟨g, 0, none⟩)) (hg : Holds w g t cs) (hcs : cs.size = 3) (hR : R (.returned (.agg cs)) w) :
    bodyPost Tryd.prog fn R .ret { tmps := tmps, defers := [] } w := by
  have hi : (Tryd.prog.info? 31).map (·.size) = some cs.size := by rw [hcs]; kernel_rfl
  refine bodyPost_ret (v := .agg cs) ?_ rfl hR
  have hp' : tmps[p]?.getD undef = .pointer (some ⟨g, 0, none⟩) := by simpa using hp
  simp [results, hr, hp', asAddr, run_loadVar_row w g t _ cs (0, 0) _ hg Tryd.underlying31 rfl hi, Result.andThen]
/-- Is it a primitive thing of a tag? -/
def heldOk (x kn tag : Nat) : Bool := decide (x = tag) && decide (kn = 0)
/-- A primitive thing of these bytes. -/
def IsPrim (v : Value) (w : World) (tag : Nat) (b : List Nat) : Prop := ∃ lt : Lt, v = lt.val ∧ lt.t = .mk tag b [] ∧ TrAt w w.heap.size lt
theorem prim_at {w : World} {A : Option Addr} {c n tag : Nat} {b : List Nat} (ht : tag < 256) (hn : b.length = n) (hr : Rd .u8 w w.heap.size A c b) (ho : ∀ x ∈ b, x < 256) : IsPrim (.agg #[.int .u8 (tag : Int), .slice A n c, .slice none 0 0]) w tag b := by
  subst hn
  exact ⟨.mk tag A c b none 0 [], rfl, rfl, by rw [trAt_mk]; exact ⟨ht, hr, ho, ⟨by simp, by omega, fun h => by simp at h⟩, fun j hj => by simp at hj⟩⟩
/-- A primitive thing whose bytes lie in memory from block B on. -/
def PrimAt (v : Value) (w : World) (B : Nat) (tag : Nat) (b : List Nat) : Prop := ∃ A c, v = .agg #[.int .u8 (tag : Int), .slice A b.length c, .slice none 0 0] ∧ Rd .u8 w w.heap.size A c b ∧ (∀ g, blk_of A = some g → B ≤ g) ∧ (∀ x ∈ b, x < 256) ∧ tag < 256
theorem PrimAt.is {v : Value} {w : World} {B tag : Nat} {b : List Nat} (h : PrimAt v w B tag b) : IsPrim v w tag b := by
  obtain ⟨A, c, rfl, hr, _, ho, ht⟩ := h
  exact prim_at ht rfl hr ho
theorem PrimAt.under {v : Value} {w w' : World} {B tag : Nat} {b : List Nat} (h : PrimAt v w B tag b) (hb : Below w.heap.size w w') : PrimAt v w' B tag b := by
  obtain ⟨A, c, rfl, hr, hg, ho, ht⟩ := h
  exact ⟨A, c, rfl, (hr.under hb).more hb.size, hg, ho, ht⟩
theorem PrimAt.mono {v : Value} {w : World} {B B' tag : Nat} {b : List Nat} (h : PrimAt v w B tag b) (hB : B' ≤ B) : PrimAt v w B' tag b := by
  obtain ⟨A, c, rfl, hr, hg, ho, ht⟩ := h
  exact ⟨A, c, rfl, hr, fun g hh => Nat.le_trans hB (hg g hh), ho, ht⟩
theorem rd_aside {w : World} {B B' : Nat} {A : Option Addr} {c : Nat} {b : List Nat} (hr : Rd .u8 w B A c b) (hg : ∀ g, blk_of A = some g → B' ≤ g) {p : Addr} (hp : p.block < B') (u : Value) : Rd .u8 (w.setCell p u) B A c b := by
  refine ⟨hr.1, hr.2.1, fun hn => ?_⟩
  obtain ⟨g, off, rfl, hlt, hc⟩ := hr.2.2 hn
  refine ⟨g, off, rfl, hlt, fun j hj => ?_⟩
  have hne : g ≠ p.block := by have := hg g rfl; omega
  rw [show (w.setCell p u).cell? ⟨g, off + j, none⟩ = w.cell? ⟨g, off + j, none⟩ by simp only [World.cell?]; rw [Below.heap_setCell w p u g hne]]
  exact hc j hj
theorem PrimAt.store {v : Value} {w : World} {B tag : Nat} {b : List Nat} (h : PrimAt v w B tag b) {p : Addr} (hp : p.block < B) (u : Value) : PrimAt v (w.setCell p u) B tag b := by
  obtain ⟨A, c, rfl, hr, hg, ho, ht⟩ := h
  exact ⟨A, c, rfl, by have := rd_aside hr hg hp u; rwa [show (w.setCell p u).heap.size = w.heap.size by simp [World.setCell]], hg, ho, ht⟩
theorem kids_none {lt : Lt} {t : Tr} (h : lt.t = t) (hk : t.kids = []) : lt.kids.length = 0 := by
  rcases lt with ⟨tag, ba, bc, body, ka, kc, kids⟩
  rw [Lt.t_mk] at h
  subst h
  simpa [Tr.kids, Lt.kids] using hk
theorem lt_parts {lt : Lt} {tag : Nat} {b : List Nat} {k : List Tr} (h : lt.t = .mk tag b k) : lt.tag = tag ∧ lt.body = b ∧ lt.kids.length = k.length := by
  rcases lt with ⟨tag, ba, bc, body, ka, kc, kids⟩
  rw [Lt.t_mk] at h
  injection h with h1 h2 h3
  subst h1 h2 h3
  simp [Lt.tag, Lt.body, Lt.kids]
theorem rd_body {w : World} {B : Nat} {t : Lt} (h : TrAt w B t) : Rd .u8 w B t.ba t.bc t.body ∧ (∀ x ∈ t.body, x < 256) ∧ t.tag < 256 := by
  rcases t with ⟨tag, ba, bc, body, ka, kc, kids⟩
  rw [trAt_mk] at h
  exact ⟨h.2.1, h.2.2.1, h.1⟩
def HeldPost (w : World) (A : Option Addr) (n c : Nat) : Bool → Ending → World → Prop
  | true, e, w' => e = .returned (.tuple #[.slice A n c, .bool true]) ∧ Below w.heap.size w w'
  | false, e, w' => e = .returned (.tuple #[.slice none 0 0, .bool false]) ∧ Below w.heap.size w w'
def HeldPost' (w : World) (n : Nat) (b : List Nat) : Bool → Ending → World → Prop
  | true, e, w' => ∃ A c, e = .returned (.tuple #[.slice A n c, .bool true]) ∧ Mine 5 w' w.heap.size A c b ∧ Below w.heap.size w w'
  | false, e, w' => e = .returned (.tuple #[.slice none 0 0, .bool false]) ∧ Below w.heap.size w w'
set_option maxRecDepth 100000 in
set_option maxHeartbeats 2000000 in
theorem held_any (w : World) (x n c kn kc tag : Nat) (A K : Option Addr) :
    Calls Tryd.prog 69 #[.agg #[.int .u8 (x : Int), .slice A n c, .slice K kn kc], .int .u8 (tag : Int)] w (HeldPost w A n c (heldOk x kn tag)) := by
  have hH := Holds.fresh w 31 #[.int .u8 (x : Int), .slice A n c, .slice K kn kc]
  have HB : Hid (Below w.heap.size w (w.alloc (.cells #[.int .u8 (x : Int), .slice A n c, .slice K kn kc] 31))) := Lib.hid ((Below.refl _ _).alloc (Nat.le_refl _) _)
  have c0 := hH.cell 0
  have c1 := hH.cell 1
  have c2 := hH.cell 2
  by_cases h1 : x = tag
  case neg =>
    have HE : Hid (heldOk x kn tag = false) := Lib.hid (by simp [heldOk, h1])
    have b1 : ((x : Int) != (tag : Int)) = true := by simp; omega
    have d1 : decide ((x : Int) = (tag : Int)) = false := decide_eq_false (by omega)
    go_enter Tryd.func69, Tryd.ntmps69
    go_wp2_with fail
    go_ret2
    rw [HE.out]
    exact ⟨rfl, HB.out⟩
  subst h1
  by_cases h2 : kn = 0
  case neg =>
    have HE : Hid (heldOk x kn x = false) := Lib.hid (by simp [heldOk, h2])
    have d2 : decide ((0 : Int) < (kn : Int)) = true := decide_eq_true (by omega)
    go_enter Tryd.func69, Tryd.ntmps69
    go_wp2_with fail
    go_ret2
    rw [HE.out]
    exact ⟨rfl, HB.out⟩
  subst h2
  have HE : Hid (heldOk x 0 x = true) := Lib.hid (by simp [heldOk])
  go_enter Tryd.func69, Tryd.ntmps69
  go_wp2_with fail
  go_ret2
  rw [HE.out]
  exact ⟨rfl, HB.out⟩
set_option maxRecDepth 100000 in
set_option maxHeartbeats 2000000 in
theorem prim'_own (w : World) (n c tag B : Nat) (A : Option Addr) (b : List Nat) (hr : Rd .u8 w B A c b) (hn : b.length = n) (hB : B ≤ w.heap.size) (hmx : n ≤ 900000) (ht : tag < 256) (ho : ∀ x ∈ b, x < 256) :
    Calls Tryd.prog 46 #[.int .u8 (tag : Int), .slice A n c] w fun e w' => ∃ v, e = .returned v ∧ PrimAt v w' w.heap.size tag b ∧ Below w.heap.size w w' := by
  have HO := Lib.hid ho
  have hZ := (Holds.fresh w 31 #[.int .u8 0, .slice none 0 0, .slice none 0 0]).alloc (.cells #[] 5)
  have hs1 : (w.alloc (.cells #[.int .u8 0, .slice none 0 0, .slice none 0 0] 31)).heap.size = w.heap.size + 1 := by simp
  have HM1 : Hid (Mine 5 ((w.alloc (.cells #[.int .u8 0, .slice none 0 0, .slice none 0 0] 31)).alloc (.cells #[] 5)) (w.heap.size + 1) (some ⟨w.heap.size + 1, 0, none⟩) 0 []) := Lib.hid (by
    have h := Mine.fresh0 (w.alloc (.cells #[.int .u8 0, .slice none 0 0, .slice none 0 0] 31)) (w.heap.size + 1) (by omega)
    rw [hs1] at h
    exact h)
  have HQ1 : Hid (Below w.heap.size w ((w.alloc (.cells #[.int .u8 0, .slice none 0 0, .slice none 0 0] 31)).alloc (.cells #[] 5))) := Lib.hid (((Below.refl _ _).alloc (Nat.le_refl _) _).alloc (by omega) _)
  have HR1 : Hid (Rd .u8 ((w.alloc (.cells #[.int .u8 0, .slice none 0 0, .slice none 0 0] 31)).alloc (.cells #[] 5)) B A c b) := Lib.hid (hr.under (HQ1.out.mono hB))
  have HN := Lib.hid hn
  have HZ := Lib.hid hZ
  have HS1 : Hid (w.heap.size + 1 ≤ ((w.alloc (.cells #[.int .u8 0, .slice none 0 0, .slice none 0 0] 31)).alloc (.cells #[] 5)).heap.size) := Lib.hid (by simp)
  have HF5 : Hid (∀ W, ((w.alloc (.cells #[.int .u8 0, .slice none 0 0, .slice none 0 0] 31)).alloc (.cells #[] 5)).grownBy W (blk_of (some ⟨w.heap.size + 1, 0, none⟩)) → Holds W w.heap.size 31 #[.int .u8 0, .slice none 0 0, .slice none 0 0]) := Lib.hid fun W hW => HZ.out.grown hW (by simp [blk_of])
  clear hr hn hZ hs1 ho
  go_enter Tryd.func46, Tryd.ntmps46
  go_wp2_with (first | (refine wpList_mine (B2 := B) _ rfl (.tmp 6) (.tmp 7) 28 rfl 5 Tryd.underlying28 info_u8 rfl HM1.out rfl rfl HR1.out HN.out HS1.out (by omega) ?_; intro A5 c5 W5 hm5 hg5 hat5; have hz5 := HF5.out _ hg5; have z0 := hz5.cell 0; have z1 := hz5.cell 1; have z2 := hz5.cell 2; have y0 := hz5.open_ 0; have y1 := hz5.open_ 1; have y2 := hz5.open_ 2) | fail)
  have HQ5 : Hid (Below w.heap.size w W5) := Lib.hid (HQ1.out.trans (below_blk hg5 HQ1.out.size (fun g hg => by simp [blk_of] at hg; omega)))
  refine ret_one rfl rfl (((hz5.stored 0 _).stored 1 _).stored 2 _) rfl ?_
  have hne : ∀ g, g ≠ w.heap.size → ((((W5.setCell ⟨w.heap.size, 0, none⟩ (.int .u8 (tag : Int))).setCell ⟨w.heap.size, 1, none⟩ (.slice A5 n c5)).setCell ⟨w.heap.size, 2, none⟩ (.slice none 0 0))).heap[g]? = W5.heap[g]? := fun g hg => by
    rw [Below.heap_setCell _ ⟨w.heap.size, 2, none⟩ _ g hg, Below.heap_setCell _ ⟨w.heap.size, 1, none⟩ _ g hg, Below.heap_setCell _ ⟨w.heap.size, 0, none⟩ _ g hg]
  have HM6 := hm5.keep fun g hg => hne g (by have := (hm5.block hg).1; omega)
  refine ⟨_, rfl, ⟨A5, c5, by rw [HN.out]; rfl, Mine.rd HM6, fun g hg => by have := (HM6.block hg).1; omega, HO.out, ht⟩, ((HQ5.out.setCell (p := ⟨w.heap.size, 0, none⟩) (Nat.le_refl _) _).setCell (p := ⟨w.heap.size, 1, none⟩) (Nat.le_refl _) _).setCell (p := ⟨w.heap.size, 2, none⟩) (Nat.le_refl _) _⟩
theorem prim'_any (w : World) (n c tag B : Nat) (A : Option Addr) (b : List Nat) (hr : Rd .u8 w B A c b) (hn : b.length = n) (hB : B ≤ w.heap.size) (hmx : n ≤ 900000) (ht : tag < 256) (ho : ∀ x ∈ b, x < 256) :
    Calls Tryd.prog 46 #[.int .u8 (tag : Int), .slice A n c] w fun e w' => ∃ v, e = .returned v ∧ IsPrim v w' tag b ∧ Below w.heap.size w w' :=
  (prim'_own w n c tag B A b hr hn hB hmx ht ho).mono fun _ _ ⟨v, h1, h2, h3⟩ => ⟨v, h1, h2.is, h3⟩
end Go.Proofs.YtdjklhglkmacbaaDoor
namespace Go.Proofs.YtdjklhglkmacbaaDoor
open Go.RowKit
set_option linter.unusedVariables false
set_option linter.unusedSimpArgs false

/-- A number's bytes. -/
def intB (a : List Nat) : List Nat := bytesOf a (nb a / 8 + 1)
theorem intB_length (a : List Nat) : (intB a).length = nb a / 8 + 1 := bytesOf_length _ _
theorem intB_oct (a : List Nat) : ∀ x ∈ intB a, x < 256 := fun x hx => by
  obtain ⟨i, _, rfl⟩ := List.mem_map.1 hx
  exact byteAt_lt _ _
def strip (b : List Nat) : List Nat := if b.getD 0 0 = 0 ∧ 1 < b.length then b.drop 1 else b
/-- Is it a whole number, told in as few bytes as may be? -/
def giOk (b : List Nat) : Bool := decide (0 < b.length) && decide (b.getD 0 0 < 128) && !(decide (b.getD 0 0 = 0) && decide (1 < b.length) && decide (b.getD 1 0 < 128))
def gi (b : List Nat) (most : Int) : Option (List Nat) := if giOk b = true ∧ (b.length : Int) ≤ most ∧ (strip b).length ≤ 1024 then some (numOf (strip b)) else none
def gi' (b : List Nat) (most : Int) : Option (List Nat) := if giOk b = true ∧ (b.length : Int) ≤ most ∧ b.length ≤ 1025 then some (numOf (if b.getD 0 0 = 0 then b.drop 1 else b)) else none
theorem gi_same (b : List Nat) (most : Int) (h : ¬ (b.length = 1025 ∧ b.getD 0 0 ≠ 0)) : gi' b most = gi b most := by
  by_cases h1 : giOk b = true ∧ (b.length : Int) ≤ most
  · by_cases h2 : b.length ≤ 1025
    · have h3 : (strip b).length ≤ 1024 := by
        unfold strip
        split
        · rw [List.length_drop]; omega
        · omega
      have e1 : gi' b most = some (numOf (if b.getD 0 0 = 0 then b.drop 1 else b)) := if_pos ⟨h1.1, h1.2, h2⟩
      have e2 : gi b most = some (numOf (strip b)) := if_pos ⟨h1.1, h1.2, h3⟩
      rw [e1, e2]
      congr 1
      unfold strip
      by_cases h4 : b.getD 0 0 = 0
      · rw [if_pos h4]
        by_cases h5 : 1 < b.length
        · rw [if_pos ⟨h4, h5⟩]
        · rw [if_neg (fun h => h5 h.2)]
          have h6 := h1.1
          simp only [giOk, Bool.and_eq_true, decide_eq_true_eq] at h6
          rcases b with _ | ⟨x, _ | ⟨y, b⟩⟩
          · simp at h6
          · simp at h4
            subst h4
            decide +kernel
          · simp at h5
      · rw [if_neg h4, if_neg (fun h => h4 h.1)]
    · have h3 : ¬ (strip b).length ≤ 1024 := by
        unfold strip
        split
        · rw [List.length_drop]; omega
        · omega
      have e1 : gi' b most = none := if_neg (fun h => h2 h.2.2)
      have e2 : gi b most = none := if_neg (fun h => h3 h.2.2)
      rw [e1, e2]
  · have e1 : gi' b most = none := if_neg (fun h => h1 ⟨h.1, h.2.1⟩)
    have e2 : gi b most = none := if_neg (fun h => h1 ⟨h.1, h.2.1⟩)
    rw [e1, e2]
theorem top_bits (top bl : Nat) (h1 : 1 ≤ bl) (h32 : bl ≤ 31) (hlo : 2 ^ (bl - 1) ≤ top) (hhi : top < 2 ^ bl) :
    top / 2 ^ (8 * (bl / 8)) % 256 < 128 ∧ (top / 2 ^ (8 * (bl / 8)) % 256 = 0 → 8 ≤ bl ∧ 128 ≤ top / 2 ^ (8 * (bl / 8 - 1)) % 256) := by
  have h : bl = 1 ∨ bl = 2 ∨ bl = 3 ∨ bl = 4 ∨ bl = 5 ∨ bl = 6 ∨ bl = 7 ∨ bl = 8 ∨ bl = 9 ∨ bl = 10 ∨ bl = 11 ∨ bl = 12 ∨ bl = 13 ∨ bl = 14 ∨ bl = 15 ∨ bl = 16 ∨ bl = 17 ∨ bl = 18 ∨ bl = 19 ∨ bl = 20 ∨ bl = 21 ∨ bl = 22 ∨ bl = 23 ∨ bl = 24 ∨ bl = 25 ∨ bl = 26 ∨ bl = 27 ∨ bl = 28 ∨ bl = 29 ∨ bl = 30 ∨ bl = 31 := by omega
  rcases h with rfl | rfl | rfl | rfl | rfl | rfl | rfl | rfl | rfl | rfl | rfl | rfl | rfl | rfl | rfl | rfl | rfl | rfl | rfl | rfl | rfl | rfl | rfl | rfl | rfl | rfl | rfl | rfl | rfl | rfl | rfl <;> simp only [Nat.reduceSub, Nat.reducePow, Nat.reduceDiv, Nat.reduceMul] at hlo hhi ⊢ <;> omega
/-- What is known of a number's topmost digit. -/
theorem nb_top {a : List Nat} (hd : Dg a) (hn : nrm a) (h0 : a.length ≠ 0) : ∃ m top bl, a.length = m + 1 ∧ a.getD m 0 = top ∧ nb a = 32 * m + bl ∧ 1 ≤ bl ∧ bl ≤ 32 ∧ 2 ^ (bl - 1) ≤ top ∧ top < 2 ^ bl := by
  obtain ⟨m, hm⟩ : ∃ m, a.length = m + 1 := ⟨a.length - 1, by omega⟩
  have ht : a.getD m 0 ≠ 0 := by
    rcases hn with h | h
    · exact absurd h h0
    · rw [hm] at h; simpa using h
  have htd : a.getD m 0 < 4294967296 := by
    rw [List.getD_eq_getElem?_getD]
    rcases h : a[m]? with _ | y
    · simp
    · exact hd y (List.mem_of_getElem? h)
  have hb := Lib.bitLenAux_bounds 64 (a.getD m 0) (by omega) ht
  have hle := Lib.bitLen_le (a.getD m 0) 32 (by omega) (by omega)
  exact ⟨m, _, Lib.bitLen (a.getD m 0), hm, rfl, nb_succ hm, hb.1, hle, hb.2.1, hb.2.2⟩
theorem byteAt_high {a : List Nat} (hd : Dg a) (hn : nrm a) {k : Nat} (h : nb a ≤ 8 * k) : byteAt a k = 0 := by
  by_cases h0 : a.length = 0
  · exact byteAt_far (by omega)
  obtain ⟨m, top, bl, h1, h2, h3, h4, h5, h6, h7⟩ := nb_top hd hn h0
  by_cases hk : k / 4 ≤ m
  · have hk2 : k / 4 = m := by omega
    unfold byteAt
    rw [hk2, h2]
    have : top < 2 ^ (8 * (k % 4)) := Nat.lt_of_lt_of_le h7 (Nat.pow_le_pow_right (by omega) (by omega))
    rw [Nat.div_eq_of_lt this]
  · exact byteAt_far (by omega)
theorem giOk_int {a : List Nat} (hd : Dg a) (hn : nrm a) : giOk (intB a) = true := by
  by_cases h0 : a.length = 0
  · obtain rfl := List.eq_nil_of_length_eq_zero h0
    decide +kernel
  obtain ⟨m, top, bl, h1, h2, h3, h4, h5, h6, h7⟩ := nb_top hd hn h0
  have e0 : (intB a).getD 0 0 = byteAt a (nb a / 8) := by
    unfold intB
    rw [bytesOf_at a (by omega), Nat.add_sub_cancel, Nat.sub_zero]
  have e1 : 1 < (intB a).length → (intB a).getD 1 0 = byteAt a (nb a / 8 - 1) := fun h => by
    unfold intB at h ⊢
    rw [bytesOf_length] at h
    rw [bytesOf_at a h, Nat.add_sub_cancel]
  have key : byteAt a (nb a / 8) < 128 ∧ (byteAt a (nb a / 8) = 0 → 1 < (intB a).length → 128 ≤ byteAt a (nb a / 8 - 1)) := by
    rcases Nat.lt_or_ge bl 32 with hb | hb
    · have ht := top_bits top bl h4 (by omega) h6 h7
      have k1 : nb a / 8 / 4 = m := by omega
      have k2 : nb a / 8 % 4 = bl / 8 := by omega
      have e : byteAt a (nb a / 8) = top / 2 ^ (8 * (bl / 8)) % 256 := by unfold byteAt; rw [k1, k2, h2]
      rw [e]
      refine ⟨ht.1, fun hz _ => ?_⟩
      obtain ⟨t1, t2⟩ := ht.2 hz
      have k3 : (nb a / 8 - 1) / 4 = m := by omega
      have k4 : (nb a / 8 - 1) % 4 = bl / 8 - 1 := by omega
      unfold byteAt
      rw [k3, k4, h2]
      exact t2
    · obtain rfl : bl = 32 := by omega
      rw [byteAt_far (by omega)]
      refine ⟨by omega, fun _ _ => ?_⟩
      have k3 : (nb a / 8 - 1) / 4 = m := by omega
      have k4 : (nb a / 8 - 1) % 4 = 3 := by omega
      unfold byteAt
      rw [k3, k4, h2]
      simp only [Nat.reduceSub, Nat.reducePow, Nat.reduceMul] at h6 h7 ⊢
      omega
  unfold giOk
  rw [e0]
  have hl : 0 < (intB a).length := by rw [intB_length]; omega
  by_cases hz : byteAt a (nb a / 8) = 0
  · by_cases h1l : 1 < (intB a).length
    · have := key.2 hz h1l
      rw [e1 h1l]
      simp [hl, hz]
      omega
    · simp [hl, hz, h1l]
  · simp [hl, hz, key.1]
theorem numOf_bytesOf {a : List Nat} (hd : Dg a) (hn : nrm a) {n : Nat} (h : nb a ≤ 8 * n) (h1 : n ≤ 1024) : numOf (bytesOf a n) = a := by
  have hl : a.length ≤ (n + 3) / 4 := by
    by_cases h0 : a.length = 0
    · omega
    · obtain ⟨m, top, bl, g1, g2, g3, g4, _⟩ := nb_top hd hn h0
      omega
  have hb : (bytesOf a n).length = n := bytesOf_length _ _
  have ho : Oct (bytesOf a n).reverse := oct_rev fun x hx => by
    obtain ⟨i, _, rfl⟩ := List.mem_map.1 hx
    exact byteAt_lt _ _
  have hrev : ∀ k, (bytesOf a n).reverse.getD k 0 = byteAt a k := fun k => by
    by_cases hk : k < n
    · rw [rev_at (i := n - 1 - k) (by rw [hb]; omega), bytesOf_at a (by omega)]
      congr 1
      omega
    · rw [byteAt_high hd hn (by omega), List.getD_eq_getElem?_getD, List.getElem?_eq_none (by rw [List.length_reverse, hb]; omega)]
      rfl
  have hat : ∀ j, (trl (words (bytesOf a n))).getD j 0 = a.getD j 0 := fun j => by
    rw [trl_at]
    by_cases hj : j < (n + 3) / 4
    · rw [words_at _ (by rw [hb]; exact hj)]
      unfold part
      rw [if_pos (by omega), if_pos (by omega), if_pos (by omega), if_pos (by omega), hrev, hrev, hrev, hrev]
      unfold byteAt
      rw [show 4 * j / 4 = j by omega, show (4 * j + 1) / 4 = j by omega, show (4 * j + 2) / 4 = j by omega, show (4 * j + 3) / 4 = j by omega, show 4 * j % 4 = 0 by omega, show (4 * j + 1) % 4 = 1 by omega, show (4 * j + 2) % 4 = 2 by omega, show (4 * j + 3) % 4 = 3 by omega]
      have hlt : a.getD j 0 < 4294967296 := by
        rw [List.getD_eq_getElem?_getD]
        rcases hq : a[j]? with _ | y
        · simp
        · exact hd y (List.mem_of_getElem? hq)
      simp only [Nat.reduceMul, Nat.reducePow]
      omega
    · rw [List.getD_eq_getElem?_getD, List.getElem?_eq_none (by rw [words_length, hb]; omega), List.getD_eq_getElem?_getD, List.getElem?_eq_none (by omega)]
  rw [numOf_near (by rw [hb]; omega)]
  have hlen : (trl (words (bytesOf a n))).length = a.length := by
    have n1 := trl_nrm (words (bytesOf a n))
    rcases Nat.lt_trichotomy (trl (words (bytesOf a n))).length a.length with hc | hc | hc
    · exfalso
      rcases hn with h0 | h0
      · omega
      · rw [← hat, List.getD_eq_getElem?_getD, List.getElem?_eq_none (by omega)] at h0
        exact h0 rfl
    · exact hc
    · exfalso
      rcases n1 with h0 | h0
      · omega
      · rw [hat, List.getD_eq_getElem?_getD, List.getElem?_eq_none (by omega)] at h0
        exact h0 rfl
  apply List.ext_getElem hlen
  intro j j1 j2
  have := hat j
  simpa [List.getD, j1, j2] using this
theorem int_fits {a : List Nat} (hd : Dg a) (hn : nrm a) (hl : a.length ≤ 256) : nb a / 8 + 1 ≤ 1025 := by
  by_cases h0 : a.length = 0
  · rw [nb_nil h0]; omega
  · obtain ⟨m, top, bl, g1, g2, g3, g4, g5, _⟩ := nb_top hd hn h0
    omega
/-- A number's thing is that number again. -/
theorem gi_int {a : List Nat} (hd : Dg a) (hn : nrm a) (hl : a.length ≤ 256) {most : Int} (hm : ((nb a / 8 + 1 : Nat) : Int) ≤ most) : gi (intB a) most = some a := by
  have hf := int_fits hd hn hl
  have e0 : (intB a).getD 0 0 = byteAt a (nb a / 8) := by
    unfold intB
    rw [bytesOf_at a (by omega), Nat.add_sub_cancel, Nat.sub_zero]
  have hs : numOf (strip (intB a)) = a ∧ (strip (intB a)).length ≤ 1024 := by
    unfold strip
    by_cases hz : (intB a).getD 0 0 = 0 ∧ 1 < (intB a).length
    · rw [if_pos hz]
      have hz2 := hz.2
      rw [intB_length] at hz2
      have e1 : (intB a).drop 1 = bytesOf a (nb a / 8) := by
        refine bytesOf_eq (by rw [List.length_drop, intB_length, Nat.add_sub_cancel]) fun j hj => ?_
        have : ((intB a).drop 1).getD j 0 = (intB a).getD (j + 1) 0 := by simp [List.getD, Nat.add_comm]
        rw [this]
        unfold intB
        rw [bytesOf_at a (by omega)]
        congr 1
        omega
      have hfit : nb a ≤ 8 * (nb a / 8) := by
        by_cases h0 : a.length = 0
        · rw [nb_nil h0]; omega
        obtain ⟨m, top, bl, g1, g2, g3, g4, g5, g6, g7⟩ := nb_top hd hn h0
        by_cases hb : bl % 8 = 0
        · omega
        · exfalso
          have hzz := hz.1
          rw [e0] at hzz
          have k1 : nb a / 8 / 4 = m := by omega
          have k2 : nb a / 8 % 4 = bl / 8 := by omega
          unfold byteAt at hzz
          rw [k1, k2, g2] at hzz
          have ht := (top_bits top bl g4 (by omega) g6 g7).1
          have h8 : 8 * (bl / 8) ≤ bl - 1 := by omega
          have h9 : 2 ^ (8 * (bl / 8)) ≤ top := Nat.le_trans (Nat.pow_le_pow_right (by omega) h8) g6
          have h10 : 1 ≤ top / 2 ^ (8 * (bl / 8)) := (Nat.le_div_iff_mul_le (Nat.pow_pos (by omega))).2 (by omega)
          have h11 : top / 2 ^ (8 * (bl / 8)) < 256 := (Nat.div_lt_iff_lt_mul (Nat.pow_pos (by omega))).2 (by
            rw [show 256 = 2 ^ 8 from rfl, ← Nat.pow_add]
            exact Nat.lt_of_lt_of_le g7 (Nat.pow_le_pow_right (by omega) (by omega)))
          omega
      rw [e1]
      exact ⟨numOf_bytesOf hd hn hfit (by omega), by rw [bytesOf_length]; omega⟩
    · rw [if_neg hz]
      rcases Nat.lt_or_ge (nb a / 8 + 1) 1025 with h | h
      · unfold intB
        exact ⟨numOf_bytesOf hd hn (by omega) (by omega), by rw [bytesOf_length]; omega⟩
      · exfalso
        apply hz
        refine ⟨?_, by rw [intB_length]; omega⟩
        rw [e0, byteAt_far]
        omega
  have : gi (intB a) most = some (numOf (strip (intB a))) := if_pos ⟨giOk_int hd hn, by rw [intB_length]; exact hm, hs.2⟩
  rw [this, hs.1]
theorem gi_int_far {a : List Nat} {most : Int} (hm : most < ((nb a / 8 + 1 : Nat) : Int)) : gi (intB a) most = none := if_neg fun h => by
  have := h.2.1
  rw [intB_length] at this
  omega
theorem int_far {a : List Nat} (hd : Dg a) (hn : nrm a) (hl : a.length ≤ 256) : ¬ ((intB a).length = 1025 ∧ (intB a).getD 0 0 ≠ 0) := fun h => by
  have hl2 := h.1
  rw [intB_length] at hl2
  apply h.2
  unfold intB
  rw [bytesOf_at a (by omega), Nat.add_sub_cancel, Nat.sub_zero, byteAt_far (by omega)]
end Go.Proofs.YtdjklhglkmacbaaDoor
namespace Go.Proofs.YtdjklhglkmacbaaDoor
open Go.RowKit
set_option linter.unusedVariables false
set_option linter.unusedSimpArgs false

def GetIntPost (w : World) : Option (List Nat) → Ending → World → Prop
  | none, e, w' => e = .returned (.tuple #[.slice none 0 0, .bool false]) ∧ Below w.heap.size w w'
  | some l, e, w' => ∃ A c, e = .returned (.tuple #[.slice A l.length c, .bool true]) ∧ Rd .u32 w' w'.heap.size A c l ∧ Below w.heap.size w w'
theorem of_at (w : World) (B : Nat) (A : Option Addr) (c n : Nat) (l : List Nat) (hn : l.length = n) (hr : Rd .u8 w B A c l) (hB : B ≤ w.heap.size) (ho : ∀ x ∈ l, x < 256) :
    Calls Tryd.prog 53 #[.slice A n c] w fun e w' => ∃ A2 c2, e = .returned (.slice A2 (numOf l).length c2) ∧ Fresh .u32 62 w' w.heap.size A2 c2 (numOf l) ∧ Below w.heap.size w w' := by
  subst hn
  exact of_all w B A c l hr hB (oct_rev ho)
theorem gi_no {b : List Nat} {most : Int} (h : ¬ (giOk b = true ∧ (b.length : Int) ≤ most ∧ (strip b).length ≤ 1024)) : gi b most = none := if_neg h
theorem gi_yes {b : List Nat} {most : Int} (h1 : giOk b = true) (h2 : (b.length : Int) ≤ most) (h3 : (strip b).length ≤ 1024) : gi b most = some (numOf (strip b)) := if_pos ⟨h1, h2, h3⟩
theorem giOk_iff {b : List Nat} : giOk b = true ↔ 0 < b.length ∧ b.getD 0 0 < 128 ∧ ¬ (b.getD 0 0 = 0 ∧ 1 < b.length ∧ b.getD 1 0 < 128) := by
  unfold giOk
  simp only [Bool.and_eq_true, decide_eq_true_eq, Bool.not_eq_true', Bool.and_eq_false_iff, decide_eq_false_iff_not]
  omega
set_option maxRecDepth 100000 in
set_option maxHeartbeats 4000000 in
theorem getInt_any (w : World) (x n c kn kc B : Nat) (A K : Option Addr) (b : List Nat) (most : Int) (hr : Rd .u8 w B A c b) (hn : b.length = n) (hB : B ≤ w.heap.size) (ho : ∀ y ∈ b, y < 256) :
    Calls Tryd.prog 79 #[.agg #[.int .u8 (x : Int), .slice A n c, .slice K kn kc], .int .i64 most] w (GetIntPost w (if heldOk x kn 2 = true then gi b most else none)) := by
  have hH := Holds.fresh w 31 #[.int .u8 (x : Int), .slice A n c, .slice K kn kc]
  have HB0 : Hid (Below w.heap.size w (w.alloc (.cells #[.int .u8 (x : Int), .slice A n c, .slice K kn kc] 31))) := Lib.hid ((Below.refl _ _).alloc (Nat.le_refl _) _)
  have c0 := hH.cell 0
  have c1 := hH.cell 1
  have c2 := hH.cell 2
  have hlc : n ≤ c := by rw [← hn]; exact hr.1
  have hc63 := hr.2.1
  have HK := Lib.hid (held_any (w.alloc (.cells #[.int .u8 (x : Int), .slice A n c, .slice K kn kc] 31)) x n c kn kc 2 A K)
  have HR := Lib.hid hr
  have HN := Lib.hid hn
  have HO := Lib.hid ho
  clear hr hn ho
  rcases hok : heldOk x kn 2 with _ | _
  case false =>
    rw [hok] at HK
    go_enter Tryd.func79, Tryd.ntmps79
    go_wp2_with fail
    refine HK.out.mono ?_
    rintro e w2 ⟨rfl, hb2⟩
    have HQ := Lib.hid (HB0.out.trans (hb2.mono HB0.out.size))
    clear hb2 HK
    go_wp2_with fail
    go_ret2
    exact ⟨rfl, HQ.out⟩
  rw [hok] at HK
  rw [if_pos rfl]
  by_cases h0 : n = 0
  case pos =>
    have HE : Hid (gi b most = none) := Lib.hid (gi_no fun h => by have := (giOk_iff.1 h.1).1; have := HN.out; omega)
    subst h0
    go_enter Tryd.func79, Tryd.ntmps79
    go_wp2_with fail
    refine HK.out.mono ?_
    rintro e w2 ⟨rfl, hb2⟩
    have HQ := Lib.hid (HB0.out.trans (hb2.mono HB0.out.size))
    clear hb2 HK
    go_wp2_with fail
    go_ret2
    rw [HE.out]
    exact ⟨rfl, HQ.out⟩
  have d0 : decide ((n : Int) = 0) = false := decide_eq_false (by omega)
  have q0 : ((n : Int) == 0) = false := by simp; omega
  by_cases h1 : most < (n : Int)
  case pos =>
    have HE : Hid (gi b most = none) := Lib.hid (gi_no fun h => by have := h.2.1; have := HN.out; omega)
    have d1 : decide (most < (n : Int)) = true := decide_eq_true h1
    go_enter Tryd.func79, Tryd.ntmps79
    go_wp2_with fail
    refine HK.out.mono ?_
    rintro e w2 ⟨rfl, hb2⟩
    have HQ := Lib.hid (HB0.out.trans (hb2.mono HB0.out.size))
    clear hb2 HK
    go_wp2_with fail
    go_ret2
    rw [HE.out]
    exact ⟨rfl, HQ.out⟩
  have d1 : decide (most < (n : Int)) = false := decide_eq_false h1
  have hn1 : 1 ≤ n := by omega
  obtain ⟨k, off, rfl, hk, hcs⟩ := HR.out.2.2 (by rw [HN.out]; omega)
  have HC : Hid (∀ W, Below w.heap.size w W → ∀ j, j < n → W.cell? ⟨k, off + j, none⟩ = some (.int .u8 ((b.getD j 0 : Nat) : Int))) := Lib.hid fun W hW j hj => by
    rw [hW.cell (p := ⟨k, off + j, none⟩) (by show k < _; omega)]
    exact hcs j (by rw [HN.out]; exact hj)
  have h2561 : b.getD 0 0 < 256 := by
    rw [List.getD_eq_getElem?_getD]
    rcases h : b[0]? with _ | y
    · simp
    · exact HO.out y (List.mem_of_getElem? h)
  have h2562 : b.getD 1 0 < 256 := by
    rw [List.getD_eq_getElem?_getD]
    rcases h : b[1]? with _ | y
    · simp
    · exact HO.out y (List.mem_of_getElem? h)
  clear hcs
  by_cases h2 : 128 ≤ b.getD 0 0
  case pos =>
    have HE : Hid (gi b most = none) := Lib.hid (gi_no fun h => by have := (giOk_iff.1 h.1).2.1; omega)
    have d2 : decide (128 ≤ ((b.getD 0 0 : Nat) : Int)) = true := decide_eq_true (by omega)
    go_enter Tryd.func79, Tryd.ntmps79
    go_wp2_with fail
    refine HK.out.mono ?_
    rintro e w2 ⟨rfl, hb2⟩
    have hq := HB0.out.trans (hb2.mono HB0.out.size)
    have HQ := Lib.hid hq
    have e0 : w2.cell? ⟨k, off, none⟩ = some (.int .u8 ((b.getD 0 0 : Nat) : Int)) := HC.out _ hq 0 (by omega)
    generalize b.getD 0 0 = y0 at *
    clear hb2 HK hq
    go_wp2_with fail
    go_ret2
    rw [HE.out]
    exact ⟨rfl, HQ.out⟩
  have d2 : decide (128 ≤ ((b.getD 0 0 : Nat) : Int)) = false := decide_eq_false (by omega)
  by_cases h3 : b.getD 0 0 = 0 ∧ 1 < n
  case pos =>
    have hs3 : strip b = b.drop 1 := if_pos ⟨h3.1, by rw [HN.out]; exact h3.2⟩
    have h31 := h3.2
    have h30 := h3.1
    have d3 : decide ((1 : Int) < (n : Int)) = true := decide_eq_true (by omega)
    have HL : Hid ((b.drop 1).length = n - 1) := Lib.hid (by rw [List.length_drop, HN.out])
    have HRD : Hid (∀ W, Below w.heap.size w W → Rd .u8 W B (some ⟨k, off + 1, none⟩) (c - 1) (b.drop 1)) := Lib.hid fun W hW => by
      have h := (HR.out.under (hW.mono hB)).drop 1 (by rw [HN.out]; omega)
      unfold dropA at h
      rw [if_neg (by omega)] at h
      exact h
    have HSL : Hid (∀ W : World, (Instr.sliceAt 28 (.slice (some ⟨k, off, none⟩) n c) (some (.int .i64 1)) none none).run Tryd.prog W = .ok (.slice (some ⟨k, off + 1, none⟩) (n - 1) (c - 1)) W) := Lib.hid fun W => by
      have h := run_drop W (some ⟨k, off, none⟩) n c 1 (by omega) hlc
      unfold dropA at h
      rw [if_neg (by omega)] at h
      exact h
    have hnI : ((n - 1 : Nat) : Int) = (n : Int) - 1 := by omega
    have hm1 : 1 ≤ n - 1 := by omega
    have hmc : n - 1 ≤ c - 1 := by omega
    by_cases h4 : b.getD 1 0 < 128
    case pos =>
      have HE : Hid (gi b most = none) := Lib.hid (gi_no fun h => (giOk_iff.1 h.1).2.2 ⟨h30, by rw [HN.out]; exact h31, h4⟩)
      have d4 : decide (((b.getD 1 0 : Nat) : Int) < 128) = true := decide_eq_true (by omega)
      go_enter Tryd.func79, Tryd.ntmps79
      go_wp2_with fail
      refine HK.out.mono ?_
      rintro e w2 ⟨rfl, hb2⟩
      have hq := HB0.out.trans (hb2.mono HB0.out.size)
      have HQ := Lib.hid hq
      have e0 : w2.cell? ⟨k, off, none⟩ = some (.int .u8 ((b.getD 0 0 : Nat) : Int)) := HC.out _ hq 0 (by omega)
      have e1 : w2.cell? ⟨k, off + 1, none⟩ = some (.int .u8 ((b.getD 1 0 : Nat) : Int)) := HC.out _ hq 1 (by omega)
      have hsl := HSL.out w2
      rw [h30] at e0 d2
      generalize b.getD 1 0 = y1 at *
      clear hb2 HK hq h3 h30 hs3
      go_wp2_with fail
      go_ret2
      rw [HE.out]
      exact ⟨rfl, HQ.out⟩
    have d4 : decide (((b.getD 1 0 : Nat) : Int) < 128) = false := decide_eq_false (by omega)
    by_cases h5 : 1024 < n - 1
    case pos =>
      have HE : Hid (gi b most = none) := Lib.hid (gi_no fun h => by have := h.2.2; rw [hs3, HL.out] at this; omega)
      have d5 : decide ((1024 : Int) < ((n - 1 : Nat) : Int)) = true := decide_eq_true (by omega)
      go_enter Tryd.func79, Tryd.ntmps79
      go_wp2_with fail
      refine HK.out.mono ?_
      rintro e w2 ⟨rfl, hb2⟩
      have hq := HB0.out.trans (hb2.mono HB0.out.size)
      have HQ := Lib.hid hq
      have e0 : w2.cell? ⟨k, off, none⟩ = some (.int .u8 ((b.getD 0 0 : Nat) : Int)) := HC.out _ hq 0 (by omega)
      have e1 : w2.cell? ⟨k, off + 1, none⟩ = some (.int .u8 ((b.getD 1 0 : Nat) : Int)) := HC.out _ hq 1 (by omega)
      have hsl := HSL.out w2
      rw [h30] at e0 d2
      generalize b.getD 1 0 = y1 at *
      generalize n - 1 = m at *
      clear hb2 HK hq h3 h30 hs3 hnI
      go_wp2_with fail
      go_ret2
      rw [HE.out]
      exact ⟨rfl, HQ.out⟩
    have HE : Hid (gi b most = some (numOf (b.drop 1))) := Lib.hid (by
      have h := gi_yes (b := b) (most := most) (giOk_iff.2 ⟨by have := HN.out; omega, by omega, fun h => h4 h.2.2⟩) (by have := HN.out; omega) (by rw [hs3, HL.out]; omega)
      rw [hs3] at h
      exact h)
    have d5 : decide ((1024 : Int) < ((n - 1 : Nat) : Int)) = false := decide_eq_false (by omega)
    go_enter Tryd.func79, Tryd.ntmps79
    go_wp2_with fail
    refine HK.out.mono ?_
    rintro e w2 ⟨rfl, hb2⟩
    have hq := HB0.out.trans (hb2.mono HB0.out.size)
    have HQ := Lib.hid hq
    have e0 : w2.cell? ⟨k, off, none⟩ = some (.int .u8 ((b.getD 0 0 : Nat) : Int)) := HC.out _ hq 0 (by omega)
    have e1 : w2.cell? ⟨k, off + 1, none⟩ = some (.int .u8 ((b.getD 1 0 : Nat) : Int)) := HC.out _ hq 1 (by omega)
    have hsl := HSL.out w2
    have HOF := Lib.hid (of_at w2 B _ (c - 1) (n - 1) (b.drop 1) HL.out (HRD.out _ hq) (Nat.le_trans hB hq.size) (fun y hy => HO.out y (List.mem_of_mem_drop hy)))
    rw [h30] at e0 d2
    generalize b.getD 1 0 = y1 at *
    generalize n - 1 = m at *
    clear hb2 HK hq h3 h30 hs3 hnI
    go_wp2_with fail
    refine HOF.out.mono ?_
    rintro e w3 ⟨A3, c3, rfl, hf3, hb3⟩
    have HQ3 := Lib.hid (HQ.out.trans (hb3.mono HQ.out.size))
    have HF3 := Lib.hid hf3.1
    clear hb3 hf3 HOF
    generalize hll : (numOf (b.drop 1)).length = ll at *
    go_wp2_with fail
    go_ret2
    rw [HE.out]
    exact ⟨A3, c3, by subst hll; rfl, HF3.out, HQ3.out⟩
  case neg =>
    have hs3 : strip b = b := if_neg (by rw [HN.out]; exact h3)
    have ht : (decide (((b.getD 0 0 : Nat) : Int) = 0) && decide ((1 : Int) < (n : Int))) = false := by
      rw [Bool.and_eq_false_iff, decide_eq_false_iff_not, decide_eq_false_iff_not]
      omega
    by_cases h5 : 1024 < n
    case pos =>
      have HE : Hid (gi b most = none) := Lib.hid (gi_no fun h => by have := h.2.2; rw [hs3, HN.out] at this; omega)
      have d5 : decide ((1024 : Int) < (n : Int)) = true := decide_eq_true (by omega)
      have h6 : b.getD 0 0 ≠ 0 := fun h => h3 ⟨h, by omega⟩
      have d6 : decide (((b.getD 0 0 : Nat) : Int) = 0) = false := decide_eq_false (by omega)
      have q6 : (((b.getD 0 0 : Nat) : Int) == 0) = false := by rw [beq_eq_false_iff_ne]; omega
      go_enter Tryd.func79, Tryd.ntmps79
      go_wp2_with fail
      refine HK.out.mono ?_
      rintro e w2 ⟨rfl, hb2⟩
      have hq := HB0.out.trans (hb2.mono HB0.out.size)
      have HQ := Lib.hid hq
      have e0 : w2.cell? ⟨k, off, none⟩ = some (.int .u8 ((b.getD 0 0 : Nat) : Int)) := HC.out _ hq 0 (by omega)
      generalize b.getD 0 0 = y0 at *
      clear hb2 HK hq h3 hs3 ht
      go_wp2_with fail
      go_ret2
      rw [HE.out]
      exact ⟨rfl, HQ.out⟩
    have d5 : decide ((1024 : Int) < (n : Int)) = false := decide_eq_false (by omega)
    have HE : Hid (gi b most = some (numOf b)) := Lib.hid (by
      have h := gi_yes (b := b) (most := most) (giOk_iff.2 ⟨by have := HN.out; omega, by omega, fun h => h3 ⟨h.1, by have := h.2.1; have := HN.out; omega⟩⟩) (by have := HN.out; omega) (by rw [hs3, HN.out]; omega)
      rw [hs3] at h
      exact h)
    have HOF : Hid (∀ W, Below w.heap.size w W → Calls Tryd.prog 53 #[.slice (some ⟨k, off, none⟩) n c] W fun e w' => ∃ A2 c2, e = .returned (.slice A2 (numOf b).length c2) ∧ Fresh .u32 62 w' W.heap.size A2 c2 (numOf b) ∧ Below W.heap.size W w') := Lib.hid fun W hW => of_at W B _ c n b HN.out (HR.out.under (hW.mono hB)) (Nat.le_trans hB hW.size) HO.out
    by_cases h6 : b.getD 0 0 = 0
    case pos =>
      have h7 : n = 1 := by omega
      subst h7
      go_enter Tryd.func79, Tryd.ntmps79
      go_wp2_with fail
      refine HK.out.mono ?_
      rintro e w2 ⟨rfl, hb2⟩
      have hq := HB0.out.trans (hb2.mono HB0.out.size)
      have HQ := Lib.hid hq
      have e0 : w2.cell? ⟨k, off, none⟩ = some (.int .u8 ((b.getD 0 0 : Nat) : Int)) := HC.out _ hq 0 (by omega)
      rw [h6] at e0 d2
      have HOF2 := Lib.hid (HOF.out _ hq)
      clear hb2 HK hq h3 h6 hs3 ht
      go_wp2_with fail
      refine HOF2.out.mono ?_
      rintro e w3 ⟨A3, c3, rfl, hf3, hb3⟩
      have HQ3 := Lib.hid (HQ.out.trans (hb3.mono HQ.out.size))
      have HF3 := Lib.hid hf3.1
      clear hb3 hf3 HOF HOF2
      generalize hll : (numOf b).length = ll at *
      go_wp2_with fail
      go_ret2
      rw [HE.out]
      exact ⟨A3, c3, by subst hll; rfl, HF3.out, HQ3.out⟩
    case neg =>
      have d6 : decide (((b.getD 0 0 : Nat) : Int) = 0) = false := decide_eq_false (by omega)
      have q6 : (((b.getD 0 0 : Nat) : Int) == 0) = false := by rw [beq_eq_false_iff_ne]; omega
      go_enter Tryd.func79, Tryd.ntmps79
      go_wp2_with fail
      refine HK.out.mono ?_
      rintro e w2 ⟨rfl, hb2⟩
      have hq := HB0.out.trans (hb2.mono HB0.out.size)
      have HQ := Lib.hid hq
      have e0 : w2.cell? ⟨k, off, none⟩ = some (.int .u8 ((b.getD 0 0 : Nat) : Int)) := HC.out _ hq 0 (by omega)
      have HOF2 := Lib.hid (HOF.out _ hq)
      generalize b.getD 0 0 = y0 at *
      clear hb2 HK hq h3 hs3 ht
      go_wp2_with fail
      refine HOF2.out.mono ?_
      rintro e w3 ⟨A3, c3, rfl, hf3, hb3⟩
      have HQ3 := Lib.hid (HQ.out.trans (hb3.mono HQ.out.size))
      have HF3 := Lib.hid hf3.1
      clear hb3 hf3 HOF HOF2
      generalize hll : (numOf b).length = ll at *
      go_wp2_with fail
      go_ret2
      rw [HE.out]
      exact ⟨A3, c3, by subst hll; rfl, HF3.out, HQ3.out⟩
end Go.Proofs.YtdjklhglkmacbaaDoor
namespace Go.Proofs.YtdjklhglkmacbaaDoor
open Go.RowKit
set_option linter.unusedVariables false
set_option linter.unusedSimpArgs false

theorem getD_oct {b : List Nat} (ho : ∀ y ∈ b, y < 256) (j : Nat) : b.getD j 0 < 256 := by
  rw [List.getD_eq_getElem?_getD]
  rcases h : b[j]? with _ | y
  · simp
  · exact ho y (List.mem_of_getElem? h)
/-- Bytes of one's own, read: where they lie, and each of them. -/
theorem Mine.cells_ {w : World} {B : Nat} {A : Option Addr} {c : Nat} {l : List Nat} (h : Mine 5 w B A c l) (h0 : 0 < l.length) : ∃ g off, A = some ⟨g, off, none⟩ ∧ g < w.heap.size ∧ ∀ j, j < l.length → w.cell? ⟨g, off + j, none⟩ = some (.int .u8 ((l.getD j 0 : Nat) : Int)) := h.rd.2.2 h0
def WholeOk (x kn : Nat) (b : List Nat) : Bool := heldOk x kn 2 && giOk b
end Go.Proofs.YtdjklhglkmacbaaDoor
namespace Go.Proofs.YtdjklhglkmacbaaDoor
open Go.RowKit
set_option linter.unusedVariables false
set_option linter.unusedSimpArgs false

theorem is_at (w : World) (B : Nat) (A : Option Addr) (c n : Nat) (l : List Nat) (hr : Rd .u32 w B A c l) (hn : l.length = n) (v : Bool) (hv : okN l = v) : Calls Tryd.prog 71 #[.slice A n c] w fun e w' => e = .returned (.bool v) ∧ w = w' := by
  subst hn
  exact is_any w B A c l hr v hv
theorem bits'_at (w : World) (B : Nat) (A : Option Addr) (c n : Nat) (l : List Nat) (hr : Rd .u32 w B A c l) (hn : l.length = n) (hd : Dg l) (hs : l.length ≤ 5000) (v : Nat) (hv : nb l = v) : Calls Tryd.prog 67 #[.slice A n c] w fun e w' => e = .returned (.int .i64 (v : Int)) ∧ w = w' := by
  subst hn
  exact bits'_any w B A c l hr hd hs v hv
theorem okN_iff {l : List Nat} : okN l = true ↔ l.length ≤ 256 ∧ nrm l := by
  unfold okN nrm
  simp only [Bool.and_eq_true, Bool.or_eq_true, decide_eq_true_eq, Bool.not_eq_true', beq_eq_false_iff_ne]
theorem trl_self {l : List Nat} (h : nrm l) : trl l = l := by
  rw [trl, tlen_id l l.length h, List.take_length]
set_option maxRecDepth 100000 in
set_option maxHeartbeats 2000000 in
theorem int_any (w : World) (B : Nat) (A : Option Addr) (c n : Nat) (l : List Nat) (hr : Rd .u32 w B A c l) (hn : l.length = n) (hB : B ≤ w.heap.size) (hd : Dg l) (hok : okN l = true) :
    Calls Tryd.prog 52 #[.slice A n c] w fun e w' => ∃ v, e = .returned v ∧ PrimAt v w' w.heap.size 2 (intB l) ∧ Below w.heap.size w w' := by
  obtain ⟨h256, hnr⟩ := okN_iff.1 hok
  have hf := int_fits hd hnr h256
  obtain ⟨V, hV⟩ : ∃ V, V = w.alloc (.cells #[.int .u8 0, .slice none 0 0, .slice none 0 0] 31) := ⟨_, rfl⟩
  have HB0 : Hid (Below w.heap.size w V) := Lib.hid (by rw [hV]; exact (Below.refl _ _).alloc (Nat.le_refl _) _)
  have hz : Holds V w.heap.size 31 #[.int .u8 0, .slice none 0 0, .slice none 0 0] := by rw [hV]; exact Holds.fresh _ _ _
  have hVs : w.heap.size < V.heap.size := hz.lt
  have hrV : Rd .u32 V B A c l := hr.under (HB0.out.mono hB)
  have HIS := Lib.hid (is_at V B A c n l hrV hn true hok)
  have HBI := Lib.hid (bits_any V B A c n l hrV hn hd (by omega) (nb l) (by rw [trl_self hnr]))
  obtain ⟨v, hv⟩ : ∃ v, v = nb l := ⟨_, rfl⟩
  have hv1 : v / 8 + 1 ≤ 1025 := by rw [hv]; exact hf
  have HBY : Hid (Calls Tryd.prog 72 #[.slice A n c, .int .i64 ((v : Int) / 8 + 1)] V fun e w' => ∃ A2, e = .returned (.tuple #[.slice A2 (v / 8 + 1) (v / 8 + 1), .bool true]) ∧ Fresh .u8 5 w' V.heap.size A2 (v / 8 + 1) (bytesOf l (v / 8 + 1)) ∧ Below V.heap.size V w') := Lib.hid (by
    have h := bytes_yes V B A c n l hrV hn (by omega) hd (by omega) (v / 8 + 1) (by omega) (by rw [trl_self hnr, ← hv]; omega)
    have e : ((v / 8 + 1 : Nat) : Int) = (v : Int) / 8 + 1 := by omega
    rw [e] at h
    exact h)
  have HI : Hid (bytesOf l (v / 8 + 1) = intB l) := Lib.hid (by rw [hv]; rfl)
  have HL : Hid ((intB l).length = v / 8 + 1) := Lib.hid (by rw [hv, intB_length])
  rw [← hv] at HBI
  have hm1 : 1 ≤ v / 8 + 1 := by omega
  generalize hm : v / 8 + 1 = m at *
  have HZ := Lib.hid hz
  have HV := Lib.hid hV
  have hv2 : v ≤ 9000 := by omega
  clear hr hn hd hok hnr hf hrV hv hm hz hV
  go_enter Tryd.func52, Tryd.ntmps52
  go_wp2_with fail
  rw [← HV.out]
  refine HIS.out.mono ?_
  rintro e w2 ⟨rfl, rfl⟩
  go_wp2_with fail
  refine HBI.out.mono ?_
  rintro e w2 ⟨rfl, rfl⟩
  go_wp2_with fail
  refine HBY.out.mono ?_
  rintro e w3 ⟨A2, rfl, hf3, hb3⟩
  have HQ3 : Hid (Below w.heap.size w w3) := Lib.hid (HB0.out.trans (hb3.mono HB0.out.size))
  have hz3 := HZ.out.under hb3 hVs
  have HF3 := Lib.hid hf3
  have z0 := hz3.cell 0
  have z1 := hz3.cell 1
  have z2 := hz3.cell 2
  have y0 := hz3.open_ 0
  have y1 := hz3.open_ 1
  have y2 := hz3.open_ 2
  rw [HI.out] at HF3
  clear HV HIS HBI HBY HB0 hb3 hf3 HI
  go_wp2_with fail
  refine ret_one rfl rfl (((hz3.stored 0 _).stored 1 _).stored 2 _) rfl ?_
  have hmz : (intB l).length = m := HL.out
  have hA2 : ∀ g, blk_of A2 = some g → w.heap.size + 1 ≤ g := fun g hg => by
    obtain ⟨g', L, rfl, hle, _⟩ := HF3.out.2 (by omega)
    obtain rfl : g' = g := by simpa [blk_of] using hg
    omega
  have hP : PrimAt (.agg #[.int .u8 ((2 : Nat) : Int), .slice A2 (intB l).length m, .slice none 0 0]) w3 (w.heap.size + 1) 2 (intB l) := ⟨A2, m, rfl, HF3.out.1, hA2, intB_oct l, by omega⟩
  refine ⟨_, rfl, ?_, ((HQ3.out.setCell (p := ⟨w.heap.size, 0, none⟩) (Nat.le_refl _) _).setCell (p := ⟨w.heap.size, 1, none⟩) (Nat.le_refl _) _).setCell (p := ⟨w.heap.size, 2, none⟩) (Nat.le_refl _) _⟩
  rw [hmz] at hP
  exact (((hP.store (p := ⟨w.heap.size, 0, none⟩) (Nat.lt_succ_self _) _).store (p := ⟨w.heap.size, 1, none⟩) (Nat.lt_succ_self _) _).store (p := ⟨w.heap.size, 2, none⟩) (Nat.lt_succ_self _) _).mono (Nat.le_succ _)
set_option maxRecDepth 100000 in
set_option maxHeartbeats 2000000 in
theorem int'_any (w : World) (B : Nat) (A : Option Addr) (c n : Nat) (l : List Nat) (hr : Rd .u32 w B A c l) (hn : l.length = n) (hB : B ≤ w.heap.size) (hd : Dg l) (hok : okN l = true) :
    Calls Tryd.prog 47 #[.slice A n c] w fun e w' => ∃ v, e = .returned v ∧ PrimAt v w' w.heap.size 2 (intB l) ∧ Below w.heap.size w w' := by
  obtain ⟨h256, hnr⟩ := okN_iff.1 hok
  have hf := int_fits hd hnr h256
  obtain ⟨V, hV⟩ : ∃ V, V = w.alloc (.cells #[.int .u8 0, .slice none 0 0, .slice none 0 0] 31) := ⟨_, rfl⟩
  have HB0 : Hid (Below w.heap.size w V) := Lib.hid (by rw [hV]; exact (Below.refl _ _).alloc (Nat.le_refl _) _)
  have hz : Holds V w.heap.size 31 #[.int .u8 0, .slice none 0 0, .slice none 0 0] := by rw [hV]; exact Holds.fresh _ _ _
  have hVs : w.heap.size < V.heap.size := hz.lt
  have hrV : Rd .u32 V B A c l := hr.under (HB0.out.mono hB)
  have HBI := Lib.hid (bits'_at V B A c n l hrV hn hd (by omega) (nb l) rfl)
  obtain ⟨v, hv⟩ : ∃ v, v = nb l := ⟨_, rfl⟩
  have hv1 : v / 8 + 1 ≤ 1025 := by rw [hv]; exact hf
  have HBY : Hid (Calls Tryd.prog 66 #[.slice A n c, .int .i64 ((v : Int) / 8 + 1)] V fun e w' => ∃ A2, e = .returned (.tuple #[.slice A2 (v / 8 + 1) (v / 8 + 1), .bool true]) ∧ Fresh .u8 5 w' V.heap.size A2 (v / 8 + 1) (bytesOf l (v / 8 + 1)) ∧ Below V.heap.size V w') := Lib.hid (by
    have h := bytes'_yes V B A c n l hrV hn (by omega) hd (by omega) (v / 8 + 1) (by omega) (by rw [← hv]; omega)
    have e : ((v / 8 + 1 : Nat) : Int) = (v : Int) / 8 + 1 := by omega
    rw [e] at h
    exact h)
  have HI : Hid (bytesOf l (v / 8 + 1) = intB l) := Lib.hid (by rw [hv]; rfl)
  have HL : Hid ((intB l).length = v / 8 + 1) := Lib.hid (by rw [hv, intB_length])
  rw [← hv] at HBI
  have hm1 : 1 ≤ v / 8 + 1 := by omega
  generalize hm : v / 8 + 1 = m at *
  have HZ := Lib.hid hz
  have HV := Lib.hid hV
  have hv2 : v ≤ 9000 := by omega
  clear hr hn hd hok hnr hf hrV hv hm hz hV
  go_enter Tryd.func47, Tryd.ntmps47
  go_wp2_with fail
  rw [← HV.out]
  refine HBI.out.mono ?_
  rintro e w2 ⟨rfl, rfl⟩
  go_wp2_with fail
  refine HBY.out.mono ?_
  rintro e w3 ⟨A2, rfl, hf3, hb3⟩
  have HQ3 : Hid (Below w.heap.size w w3) := Lib.hid (HB0.out.trans (hb3.mono HB0.out.size))
  have HZ3 := Lib.hid (HZ.out.under hb3 hVs)
  have HPR := Lib.hid (prim'_own w3 m m 2 w3.heap.size A2 (intB l) (by have := hf3.1; rwa [HI.out] at this) HL.out (Nat.le_refl _) (by omega) (by omega) (intB_oct l))
  have hlt3 : w.heap.size < w3.heap.size := HZ3.out.lt
  clear HV HBI HBY HB0 hb3 hf3 HI
  go_wp2_with fail
  refine HPR.out.mono ?_
  rintro e w4 ⟨v4, rfl, hp4, hb4⟩
  have HQ4 : Hid (Below w.heap.size w w4) := Lib.hid (HQ3.out.trans (hb4.mono HQ3.out.size))
  have hz4 := HZ3.out.under hb4 hlt3
  have HP4 := Lib.hid hp4
  obtain ⟨A4, c4, rfl, _⟩ := hp4
  have z0 := hz4.cell 0
  have z1 := hz4.cell 1
  have z2 := hz4.cell 2
  have y0 := hz4.open_ 0
  have y1 := hz4.open_ 1
  have y2 := hz4.open_ 2
  clear hb4 HPR HZ3
  go_wp2_with fail
  refine ret_one rfl rfl (((hz4.stored 0 _).stored 1 _).stored 2 _) rfl ?_
  refine ⟨_, rfl, ?_, ((HQ4.out.setCell (p := ⟨w.heap.size, 0, none⟩) (Nat.le_refl _) _).setCell (p := ⟨w.heap.size, 1, none⟩) (Nat.le_refl _) _).setCell (p := ⟨w.heap.size, 2, none⟩) (Nat.le_refl _) _⟩
  exact (((HP4.out.store (p := ⟨w.heap.size, 0, none⟩) hlt3 _).store (p := ⟨w.heap.size, 1, none⟩) hlt3 _).store (p := ⟨w.heap.size, 2, none⟩) hlt3 _).mono HQ3.out.size
end Go.Proofs.YtdjklhglkmacbaaDoor
namespace Go.Proofs.YtdjklhglkmacbaaDoor
open Go.RowKit
set_option linter.unusedVariables false
set_option linter.unusedSimpArgs false

/-- A number below 2^64 as eight bytes, the highest first. -/
def be8 (v : Nat) : List Nat := [v / 72057594037927936 % 256, v / 281474976710656 % 256, v / 1099511627776 % 256, v / 4294967296 % 256, v / 16777216 % 256, v / 65536 % 256, v / 256 % 256, v % 256]
/-- As digits. -/
def dg2 (v : Nat) : List Nat := trl [v % 4294967296, v / 4294967296]
theorem be8_num {v : Nat} (h : v < 18446744073709551616) : numOf (be8 v) = dg2 v := by
  have e : words (be8 v) = [v % 4294967296, v / 4294967296] := by
    refine (words_eq (L := [v % 4294967296, v / 4294967296]) (by simp [be8]) fun j hj => ?_).symm
    have hj2 : j = 0 ∨ j = 1 := by simp at hj; omega
    rcases hj2 with rfl | rfl
    · simp [be8, part]; omega
    · simp [be8, part]; omega
  rw [numOf_near (by simp [be8]), e]; rfl
theorem be8_oct (v : Nat) : ∀ x ∈ be8 v, x < 256 := fun x hx => by
  simp only [be8, List.mem_cons, List.not_mem_nil, or_false] at hx
  rcases hx with rfl | rfl | rfl | rfl | rfl | rfl | rfl | rfl <;> exact Nat.mod_lt _ (by omega)
theorem be8_take {v k x : Nat} (h : k < 8) (hx : x = v / 2 ^ (56 - 8 * k) % 256) : (be8 v).take (k + 1) = (be8 v).take k ++ [x] := by
  subst hx
  have hk : k = 0 ∨ k = 1 ∨ k = 2 ∨ k = 3 ∨ k = 4 ∨ k = 5 ∨ k = 6 ∨ k = 7 := by omega
  rcases hk with rfl | rfl | rfl | rfl | rfl | rfl | rfl | rfl <;> simp [be8]
set_option maxRecDepth 100000 in
set_option maxHeartbeats 4000000 in
theorem small_any (w : World) (v : Nat) (hv : v < 18446744073709551616) :
    Calls Tryd.prog 32 #[.int .u64 (v : Int)] w fun e w' => ∃ r, e = .returned r ∧ PrimAt r w' w.heap.size 2 (intB (dg2 v)) ∧ Below w.heap.size w w' := by
  obtain ⟨V, hV⟩ : ∃ V, V = w.alloc (.cells #[.int .u8 0, .slice none 0 0, .slice none 0 0] 31) := ⟨_, rfl⟩
  have HB0 : Hid (Below w.heap.size w V) := Lib.hid (by rw [hV]; exact (Below.refl _ _).alloc (Nat.le_refl _) _)
  have hz : Holds V w.heap.size 31 #[.int .u8 0, .slice none 0 0, .slice none 0 0] := by rw [hV]; exact Holds.fresh _ _ _
  have hVs : w.heap.size < V.heap.size := hz.lt
  have HZ := Lib.hid hz
  have HV := Lib.hid hV
  clear hz hV
  go_enter Tryd.func32, Tryd.ntmps32
  go_wp2_with fail
  rw [← HV.out]
  clear HV
  go_loopw [3, 4] (fun bv sv wr => ∃ (k : Nat) (A : Option Addr) (c : Nat), k ≤ 8 ∧ sv = .int .i64 (56 - 8 * (k : Int)) ∧ bv = .slice A k c ∧ Mine 5 wr V.heap.size A c ((be8 v).take k) ∧ Holds wr w.heap.size 31 #[.int .u8 0, .slice none 0 0, .slice none 0 0] ∧ V.heap.size ≤ wr.heap.size ∧ Below w.heap.size w wr)
    (fun _ sv _ => (intOf sv + 8).toNat)
  case atStart => exact ⟨0, none, 0, by omega, rfl, rfl, Mine.nil _ _ _, HZ.out, Nat.le_refl _, HB0.out⟩
  case round =>
    obtain ⟨k, A, c, hk, rfl, rfl, hM, hZ, hSV, hB⟩ := hrel
    have HSV := Lib.hid hSV
    clear hSV
    by_cases h8 : k < 8
    · have hd : decide ((0 : Int) ≤ 56 - 8 * (k : Int)) = true := decide_eq_true (by omega)
      have HM := Lib.hid hM
      have HZ2 := Lib.hid hZ
      have HB := Lib.hid hB
      clear hM hZ hB
      obtain ⟨x, hx⟩ : ∃ x, x = v / 2 ^ (56 - 8 * k) % 256 := ⟨_, rfl⟩
      have hxi : (v : Int) / 2 ^ (56 - 8 * k) % 256 = (x : Int) := by rw [hx]; push_cast; rfl
      have HXI := Lib.hid hxi
      have HT : Hid ((be8 v).take (k + 1) = (be8 v).take k ++ [x]) := Lib.hid (be8_take h8 hx)
      have HLN : Hid (((be8 v).take k).length = k) := Lib.hid (by simp [be8]; omega)
      have HM1 : Hid (Mine 5 (wr.alloc (.cells #[.int .u8 ((v : Int) / 2 ^ (56 - 8 * k) % 256)] 5)) V.heap.size A c ((be8 v).take k)) := Lib.hid (HM.out.alloc _)
      have HR1 : Hid (Rd .u8 (wr.alloc (.cells #[.int .u8 ((v : Int) / 2 ^ (56 - 8 * k) % 256)] 5)) (wr.alloc (.cells #[.int .u8 ((v : Int) / 2 ^ (56 - 8 * k) % 256)] 5)).heap.size (some ⟨wr.heap.size, 0, none⟩) 1 [x]) := Lib.hid (by rw [hxi]; exact (Mine.fresh1 wr w.heap.size x HB.out.size).rd)
      have HB1 : Hid (Below w.heap.size w (wr.alloc (.cells #[.int .u8 ((v : Int) / 2 ^ (56 - 8 * k) % 256)] 5))) := Lib.hid (HB.out.alloc HB.out.size _)
      have HZ1 : Hid (Holds (wr.alloc (.cells #[.int .u8 ((v : Int) / 2 ^ (56 - 8 * k) % 256)] 5)) w.heap.size 31 #[.int .u8 0, .slice none 0 0, .slice none 0 0]) := Lib.hid (HZ2.out.alloc _)
      have HS1 : Hid (V.heap.size ≤ (wr.alloc (.cells #[.int .u8 ((v : Int) / 2 ^ (56 - 8 * k) % 256)] 5)).heap.size) := Lib.hid (by have := HSV.out; simp; omega)
      have HG : Hid (∀ g, blk_of A = some g → V.heap.size ≤ g) := Lib.hid fun g hg => (HM.out.block hg).1
      clear hx hxi
      go_wp2_with (first | (at_builtin; refine wpList_mine (B2 := (wr.alloc (.cells #[.int .u8 ((v : Int) / 2 ^ (56 - 8 * k) % 256)] 5)).heap.size) _ rfl (.tmp 9) (.tmp 14) 28 rfl 5 Tryd.underlying28 info_u8 rfl HM1.out HLN.out rfl HR1.out rfl HS1.out (by omega) ?_; intro A5 c5 W5 hm5 hg5 hat5) | fail)
      have HB5 : Hid (Below w.heap.size w W5) := Lib.hid (HB1.out.trans (below_blk hg5 HB1.out.size (fun g hg => by have := HG.out g hg; omega)))
      have HZ5 : Hid (Holds W5 w.heap.size 31 #[.int .u8 0, .slice none 0 0, .slice none 0 0]) := Lib.hid (HZ1.out.grown hg5 (fun h => by have := HG.out _ h.symm; omega))
      have HS5 : Hid (V.heap.size ≤ W5.heap.size) := Lib.hid (Nat.le_trans HS1.out hg5.size)
      have HM5 := Lib.hid hm5
      clear hm5 hg5 hat5 HM1 HR1 HB1 HZ1 HS1 HM HZ2 HB HG HXI
      go_roundw
      case rel => exact ⟨k + 1, A5, c5, by omega, by go_num, rfl, by rw [HT.out]; exact HM5.out, HZ5.out, HS5.out, HB5.out⟩
      case measure => simp [intOf]; omega
    · obtain rfl : k = 8 := by omega
      have HLN : Hid ((be8 v).length = 8) := Lib.hid (by simp [be8])
      have HM : Hid (Mine 5 wr V.heap.size A c (be8 v)) := Lib.hid (by rw [List.take_of_length_le (by simp [be8])] at hM; exact hM)
      have HZ2 := Lib.hid hZ
      have HB := Lib.hid hB
      have HOF := Lib.hid (of_at wr wr.heap.size A c 8 (be8 v) HLN.out HM.out.rd (Nat.le_refl _) (be8_oct v))
      have hlt : w.heap.size < wr.heap.size := hZ.lt
      clear hM hZ hB
      go_wp2_with fail
      refine HOF.out.mono ?_
      rintro e w2 ⟨A2, c2, rfl, hf2, hb2⟩
      have HB2 := Lib.hid (HB.out.trans (hb2.mono HB.out.size))
      have HZ3 := Lib.hid (HZ2.out.under hb2 hlt)
      have hlt2 : w.heap.size < w2.heap.size := HZ3.out.lt
      obtain ⟨m2, hm2⟩ : ∃ m, m = (numOf (be8 v)).length := ⟨_, rfl⟩
      have HIN : Hid (Calls Tryd.prog 52 #[.slice A2 m2 c2] w2 fun e w' => ∃ v', e = .returned v' ∧ PrimAt v' w' w2.heap.size 2 (intB (dg2 v)) ∧ Below w2.heap.size w2 w') := Lib.hid (by
        rw [← be8_num hv]
        exact int_any w2 w2.heap.size A2 c2 m2 (numOf (be8 v)) hf2.1 hm2.symm (Nat.le_refl _) (numOf_dg (oct_rev (be8_oct v))) (okN_iff.2 ⟨numOf_length _, numOf_nrm _⟩))
      rw [← hm2]
      clear hf2 hb2 hm2 HOF HM HLN
      go_wp2_with fail
      refine HIN.out.mono ?_
      rintro e w4 ⟨v4, rfl, hp4, hb4⟩
      have HQ4 : Hid (Below w.heap.size w w4) := Lib.hid (HB2.out.trans (hb4.mono HB2.out.size))
      have hz4 := HZ3.out.under hb4 hlt2
      have HP4 := Lib.hid hp4
      obtain ⟨A4, c4, rfl, _⟩ := hp4
      have z0 := hz4.cell 0
      have z1 := hz4.cell 1
      have z2 := hz4.cell 2
      have y0 := hz4.open_ 0
      have y1 := hz4.open_ 1
      have y2 := hz4.open_ 2
      clear hb4 HIN HZ3
      go_wp2_with fail
      refine ret_one rfl rfl (((hz4.stored 0 _).stored 1 _).stored 2 _) rfl ?_
      refine ⟨_, rfl, ?_, ((HQ4.out.setCell (p := ⟨w.heap.size, 0, none⟩) (Nat.le_refl _) _).setCell (p := ⟨w.heap.size, 1, none⟩) (Nat.le_refl _) _).setCell (p := ⟨w.heap.size, 2, none⟩) (Nat.le_refl _) _⟩
      exact (((HP4.out.store (p := ⟨w.heap.size, 0, none⟩) hlt2 _).store (p := ⟨w.heap.size, 1, none⟩) hlt2 _).store (p := ⟨w.heap.size, 2, none⟩) hlt2 _).mono HB2.out.size
end Go.Proofs.YtdjklhglkmacbaaDoor
namespace Go.Proofs.YtdjklhglkmacbaaDoor
open Go.RowKit
set_option linter.unusedVariables false
set_option linter.unusedSimpArgs false

set_option maxRecDepth 100000 in
set_option maxHeartbeats 4000000 in
theorem small'_any (w : World) (v : Nat) (hv : v < 18446744073709551616) :
    Calls Tryd.prog 23 #[.int .u64 (v : Int)] w fun e w' => ∃ r, e = .returned r ∧ PrimAt r w' w.heap.size 2 (intB (dg2 v)) ∧ Below w.heap.size w w' := by
  obtain ⟨V, hV⟩ : ∃ V, V = w.alloc (.cells #[.int .u8 0, .slice none 0 0, .slice none 0 0] 31) := ⟨_, rfl⟩
  have HB0 : Hid (Below w.heap.size w V) := Lib.hid (by rw [hV]; exact (Below.refl _ _).alloc (Nat.le_refl _) _)
  have hz : Holds V w.heap.size 31 #[.int .u8 0, .slice none 0 0, .slice none 0 0] := by rw [hV]; exact Holds.fresh _ _ _
  have hVs : w.heap.size < V.heap.size := hz.lt
  have HZ := Lib.hid hz
  have HV := Lib.hid hV
  obtain ⟨lo, hlo⟩ : ∃ x, x = v % 4294967296 := ⟨_, rfl⟩
  obtain ⟨hi, hhi⟩ : ∃ x, x = v / 4294967296 := ⟨_, rfl⟩
  have hw1 : IntKind.u32.wrap (v : Int) = (lo : Int) := by simp [IntKind.wrap, IntKind.signed, IntKind.bits]; omega
  have hw2 : IntKind.u32.wrap ((v : Int) / 4294967296) = (hi : Int) := by simp [IntKind.wrap, IntKind.signed, IntKind.bits]; omega
  have HLH : Hid (trl [lo, hi] = dg2 v) := Lib.hid (by rw [hlo, hhi]; rfl)
  have hVe : V.heap.size = w.heap.size + 1 := by rw [hV]; simp
  have hdl : Dg [lo, hi] := fun y hy => by
    simp only [List.mem_cons, List.not_mem_nil, or_false] at hy
    rcases hy with rfl | rfl <;> omega
  have hrow : Row .u32 62 (V.alloc (.cells #[.int .u32 (lo : Int), .int .u32 (hi : Int)] 62)) V.heap.size [lo, hi] := Holds.fresh _ _ _
  have hrd : Rd .u32 (V.alloc (.cells #[.int .u32 (lo : Int), .int .u32 (hi : Int)] 62)) (V.heap.size + 1) (some ⟨V.heap.size, 0, none⟩) 2 [lo, hi] := rd_whole hrow (by simp) (by omega)
  have HTR := Lib.hid (trim'_at _ _ _ 2 2 [lo, hi] hrd rfl)
  have HB1 : Hid (Below w.heap.size w (V.alloc (.cells #[.int .u32 (lo : Int), .int .u32 (hi : Int)] 62))) := Lib.hid (HB0.out.alloc HB0.out.size _)
  have HZ1 := Lib.hid (HZ.out.alloc (.cells #[.int .u32 (lo : Int), .int .u32 (hi : Int)] 62))
  have hlt2 : w.heap.size < (V.alloc (.cells #[.int .u32 (lo : Int), .int .u32 (hi : Int)] 62)).heap.size := HZ1.out.lt
  have HIN := Lib.hid (int'_any _ _ _ 2 _ (trl [lo, hi]) (hrd.cut _) rfl (by simp) (fun y hy => hdl y (List.mem_of_mem_take hy)) (okN_iff.2 ⟨by rw [trl_length]; exact Nat.le_trans (tlen_le _ _) (by simp), trl_nrm _⟩))
  rw [hVe] at HTR HIN
  generalize hm : (trl [lo, hi]).length = m at *
  generalize hW2 : V.alloc (.cells #[.int .u32 (lo : Int), .int .u32 (hi : Int)] 62) = W2 at *
  have HW2 := Lib.hid hW2
  have HVE := Lib.hid hVe
  clear hz hV hlo hhi hW2 hVe hdl hrow hrd hm
  go_enter Tryd.func23, Tryd.ntmps23
  go_wp2_with fail
  rw [← HV.out]
  clear HV
  rw [HW2.out]
  refine HTR.out.mono ?_
  rintro e w2 ⟨rfl, rfl⟩
  go_wp2_with fail
  refine HIN.out.mono ?_
  rintro e w4 ⟨v4, rfl, hp4, hb4⟩
  have HQ4 : Hid (Below w.heap.size w w4) := Lib.hid (HB1.out.trans (hb4.mono HB1.out.size))
  have hz4 := HZ1.out.under hb4 hlt2
  rw [HLH.out] at hp4
  have HP4 := Lib.hid hp4
  obtain ⟨A4, c4, rfl, _⟩ := hp4
  have z0 := hz4.cell 0
  have z1 := hz4.cell 1
  have z2 := hz4.cell 2
  have y0 := hz4.open_ 0
  have y1 := hz4.open_ 1
  have y2 := hz4.open_ 2
  clear hb4 HIN HTR HZ1 HW2
  go_wp2_with fail
  refine ret_one rfl rfl (((hz4.stored 0 _).stored 1 _).stored 2 _) rfl ?_
  refine ⟨_, rfl, ?_, ((HQ4.out.setCell (p := ⟨w.heap.size, 0, none⟩) (Nat.le_refl _) _).setCell (p := ⟨w.heap.size, 1, none⟩) (Nat.le_refl _) _).setCell (p := ⟨w.heap.size, 2, none⟩) (Nat.le_refl _) _⟩
  exact (((HP4.out.store (p := ⟨w.heap.size, 0, none⟩) hlt2 _).store (p := ⟨w.heap.size, 1, none⟩) hlt2 _).store (p := ⟨w.heap.size, 2, none⟩) hlt2 _).mono HB1.out.size
theorem gi_num {b : List Nat} {most : Int} {l : List Nat} (h : gi b most = some l) (ho : ∀ y ∈ b, y < 256) : Dg l ∧ nrm l ∧ l.length ≤ 256 := by
  unfold gi at h
  split at h
  · injection h with h
    subst h
    exact ⟨numOf_dg (oct_rev fun y hy => by unfold strip at hy; split at hy; exact ho y (List.mem_of_mem_drop hy); exact ho y hy), numOf_nrm _, numOf_length _⟩
  · cases h
def smallOf : Option (List Nat) → Option Nat
  | none => none
  | some l => if nb l ≤ 64 then some (val l) else none
def SmallPost (w : World) : Option Nat → Ending → World → Prop
  | none, e, w' => e = .returned (.tuple #[.int .u64 0, .bool false]) ∧ Below w.heap.size w w'
  | some v, e, w' => e = .returned (.tuple #[.int .u64 (v : Int), .bool true]) ∧ Below w.heap.size w w'
theorem wrap64u (n : Int) (h0 : 0 ≤ n) (h1 : n < 18446744073709551616) : IntKind.u64.wrap n = n := by
  rw [show IntKind.u64.wrap n = n % 18446744073709551616 by simp [IntKind.wrap, IntKind.bits, IntKind.signed]]
  omega
theorem or_round {l : List Nat} (hd : Dg l) (hn : nrm l) (h64 : nb l ≤ 64) {k x o : Nat} (hk : k < l.length) (hx : x = l.getD k 0) (ho : o = val (l.take k)) : bits .or .u64 (o : Int) (IntKind.u64.wrap (IntKind.u64.wrap (x : Int) * 2 ^ (32 * k))) = ((val (l.take (k + 1)) : Nat) : Int) ∧ k ≤ 1 := by
  obtain ⟨m, top, bl, hm, _, hnb, h1, _, _, _⟩ := nb_top hd hn (by omega)
  have hk1 : k ≤ 1 := by omega
  refine ⟨?_, hk1⟩
  have hx32 : x < 4294967296 := by rw [hx]; exact hd.at_ k
  have ho' : o < 2 ^ (32 * k) := by
    rcases (by omega : k = 0 ∨ k = 1) with rfl | rfl
    · rw [ho]; simp [val]
    · rw [ho]
      rcases l with _ | ⟨y, r⟩
      · simp at hk
      · have := hd y (by simp)
        simp [val]; omega
  have hb : x * 2 ^ (32 * k) < 18446744073709551616 := by
    rcases (by omega : k = 0 ∨ k = 1) with rfl | rfl
    · simp; omega
    · simp; omega
  have hp : 2 ^ (32 * k) ≤ 2 ^ 32 := Nat.pow_le_pow_right (by omega) (by omega)
  have h := u64_or_nat o (x * 2 ^ (32 * k)) (by omega) (by omega)
  rw [or_shift x (32 * k) o ho'] at h
  have e : IntKind.u64.wrap (IntKind.u64.wrap (x : Int) * 2 ^ (32 * k)) = ((x * 2 ^ (32 * k) : Nat) : Int) := by
    have e2 : ((x : Int) * 2 ^ (32 * k)) = ((x * 2 ^ (32 * k) : Nat) : Int) := by push_cast; rfl
    rw [wrap64u (x : Int) (by omega) (by omega), e2, wrap64u _ (by omega) (by omega)]
  rw [e, h]
  congr 1
  rcases (by omega : k = 0 ∨ k = 1) with rfl | rfl
  · rcases l with _ | ⟨y, r⟩
    · simp at hk
    · rw [ho, hx]; simp [val]
  · rcases l with _ | ⟨y, _ | ⟨z, r⟩⟩
    · simp at hk
    · simp at hk
    · rw [ho, hx]; simp [val]; omega
set_option maxRecDepth 100000 in
set_option maxHeartbeats 4000000 in
theorem getSmall_any (w : World) (x n c kn kc B : Nat) (A K : Option Addr) (b : List Nat) (hr : Rd .u8 w B A c b) (hn : b.length = n) (hB : B ≤ w.heap.size) (ho : ∀ y ∈ b, y < 256) :
    Calls Tryd.prog 60 #[.agg #[.int .u8 (x : Int), .slice A n c, .slice K kn kc]] w (SmallPost w (smallOf (if heldOk x kn 2 = true then gi b 9 else none))) := by
  have hH := Holds.fresh w 31 #[.int .u8 (x : Int), .slice A n c, .slice K kn kc]
  have HB0 : Hid (Below w.heap.size w (w.alloc (.cells #[.int .u8 (x : Int), .slice A n c, .slice K kn kc] 31))) := Lib.hid ((Below.refl _ _).alloc (Nat.le_refl _) _)
  have c0 := hH.cell 0
  have c1 := hH.cell 1
  have c2 := hH.cell 2
  have HK := Lib.hid (getInt_any (w.alloc (.cells #[.int .u8 (x : Int), .slice A n c, .slice K kn kc] 31)) x n c kn kc B A K b 9 (hr.under (HB0.out.mono hB)) hn (Nat.le_trans hB HB0.out.size) ho)
  have HG : Hid (∀ l, (if heldOk x kn 2 = true then gi b 9 else none) = some l → Dg l ∧ nrm l ∧ l.length ≤ 256) := Lib.hid fun l hl => by
    split at hl
    · exact gi_num hl ho
    · cases hl
  clear hr hn ho
  generalize (if heldOk x kn 2 = true then gi b 9 else none) = o at *
  rcases o with _ | l
  · go_enter Tryd.func60, Tryd.ntmps60
    go_wp2_with fail
    refine HK.out.mono ?_
    rintro e w2 ⟨rfl, hb2⟩
    have HQ := Lib.hid (HB0.out.trans (hb2.mono HB0.out.size))
    clear hb2 HK
    go_wp2_with fail
    go_ret2
    exact ⟨rfl, HQ.out⟩
  obtain ⟨hd, hnr, h256⟩ := HG.out l rfl
  have HD := Lib.hid hd
  have HN := Lib.hid hnr
  obtain ⟨m, hm⟩ : ∃ m, m = l.length := ⟨_, rfl⟩
  have HM := Lib.hid hm
  obtain ⟨q, hq⟩ : ∃ q, q = nb l := ⟨_, rfl⟩
  have HQN := Lib.hid hq
  have hml : m ≤ 256 := by omega
  have HLQ : Hid (smallOf (some l) = if q ≤ 64 then some (val l) else none) := Lib.hid (by rw [hq]; rfl)
  clear hd hnr h256 hm hq HG
  go_enter Tryd.func60, Tryd.ntmps60
  go_wp2_with fail
  refine HK.out.mono ?_
  rintro e w2 ⟨A2, c2, rfl, hr2, hb2⟩
  have HQ := Lib.hid (HB0.out.trans (hb2.mono HB0.out.size))
  have HR2 := Lib.hid hr2
  have HBT := Lib.hid (bits_any w2 _ A2 c2 m l hr2 HM.out.symm HD.out (by rw [← HM.out]; omega) q (by rw [trl_self HN.out, HQN.out]))
  rw [← HM.out]
  have hmc : m ≤ c2 := by rw [HM.out]; exact hr2.1
  have hc63 := hr2.2.1
  clear hb2 HK hr2
  by_cases h64 : q ≤ 64
  case neg =>
    have d1 : decide ((64 : Int) < (q : Int)) = true := decide_eq_true (by omega)
    go_wp2_with fail
    refine HBT.out.mono ?_
    rintro e w3 ⟨rfl, rfl⟩
    go_wp2_with fail
    go_ret2
    rw [HLQ.out, if_neg h64]
    exact ⟨rfl, HQ.out⟩
  have d1 : decide ((64 : Int) < (q : Int)) = false := decide_eq_false (by omega)
  go_wp2_with fail
  refine HBT.out.mono ?_
  rintro e w3 ⟨rfl, rfl⟩
  clear HBT
  go_wp2_with fail
  go_loop [6, 23] (fun vv iv => ∃ k o : Nat, k ≤ m ∧ iv = .int .i64 (k : Int) ∧ vv = .int .u64 (o : Int) ∧ Hid (o = val (l.take k))) (fun _ iv => m - (intOf iv).toNat)
  case atStart => exact ⟨0, 0, by omega, rfl, rfl, rfl⟩
  case round =>
    obtain ⟨k, o, hk, rfl, rfl, HO⟩ := hrel
    by_cases hlt : k < m
    · obtain ⟨g, off, x2, rfl, hg, hcx, HX⟩ := HR2.out.at_ (i := k) (by rw [← HM.out]; exact hlt)
      obtain ⟨hor, hk1⟩ := or_round HD.out HN.out (by rw [← HQN.out]; exact h64) (by rw [← HM.out]; exact hlt) HX.out HO.out
      have HOR := Lib.hid hor
      have e32 : ((32 : Int) * (k : Int)).toNat = 32 * k := by omega
      clear hor
      go_wp2_with fail
      go_round
      case rel => exact ⟨k + 1, val (l.take (k + 1)), by omega, by go_num, by rw [← HOR.out], rfl⟩
      case measure => simp [intOf]; omega
    · obtain rfl : k = m := by omega
      have HF : Hid (o = val l) := Lib.hid (by rw [HO.out, List.take_of_length_le (by rw [← HM.out]; omega)])
      go_wp2_with fail
      go_ret2
      rw [HLQ.out, if_pos h64, ← HF.out]
      exact ⟨rfl, HQ.out⟩
end Go.Proofs.YtdjklhglkmacbaaDoor
