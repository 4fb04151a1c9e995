/-
  A length's bytes: by the document, by the program. A thing's bytes: as words; by the document. How many bytes a thing has: by the program. A thing's bytes behind what is there: by the program. Which tags may be, which are of things with kids; whether a thing may be: by the document. Whether a thing may be: by the document. Whether a thing may be, its bytes: by the document. All things in a thing, one after the other: the program's iterator. The iterator as a value; how many things a thing is, by the program. How many things a thing is: by the program. Whether a thing may be: by the program. Slices cut; a length, read: as words. A length, read: by the program.
-/
import Derived.Test.YtmoefccfdnijpaaDoorTlv3
import Derived.Test.YtmoefccfdnijpaaDoorMine
import Derived.Deep.RegionHeld3
import Derived.RangeFuncNested
import Derived.RangeFuncBound
import Derived.RangeFuncCalls
import Derived.RangeFuncLeaves
import Derived.RangeFuncKeeps
import Derived.RangeFuncFrom
import Derived.Shelf.Abstract
import Derived.Shelf.RegionOpen
import Derived.OwnWalkIn
import Derived.TacticsInMore
import Derived.LoopNIn
import Derived.LoopIn
namespace Go.Proofs.YtmoefccfdnijpaaDoor
open Go.RowKit
set_option linter.unusedVariables false
set_option linter.unusedSimpArgs false

/-- A number's digits of 256, the greatest first. -/
def dig : Nat → Nat → List Nat
  | 0, _ => []
  | f + 1, n => if n = 0 then [] else dig f (n / 256) ++ [n % 256]
theorem dig_zero (f : Nat) : dig f 0 = [] := by cases f <;> simp [dig]
theorem dig_len : ∀ f n, (dig f n).length ≤ f
  | 0, _ => Nat.le_refl _
  | f + 1, n => by
    rw [dig]
    split
    · simp
    · rw [List.length_append]
      have := dig_len f (n / 256)
      simp
      omega
theorem dig_oct : ∀ f n, ∀ x ∈ dig f n, x < 256
  | 0, _, x, h => by cases h
  | f + 1, n, x, h => by
    rw [dig] at h
    split at h
    · cases h
    · rcases List.mem_append.1 h with h | h
      · exact dig_oct f _ x h
      · rw [List.mem_singleton.1 h]; omega
/-- A length's bytes. -/
def lenB (n : Nat) : List Nat := if n < 128 then [n] else (128 + (dig 6 n).length) :: dig 6 n
theorem lenB_len (n : Nat) : (lenB n).length ≤ 7 := by
  unfold lenB
  split
  · simp
  · have := dig_len 6 n
    simp
    omega
theorem lenB_oct (n : Nat) : ∀ x ∈ lenB n, x < 256 := by
  intro x hx
  unfold lenB at hx
  split at hx
  · rw [List.mem_singleton.1 hx]; omega
  · rcases List.mem_cons.1 hx with rfl | h
    · have := dig_len 6 n; omega
    · exact dig_oct 6 n x h
theorem info_u8 : (Tryd.prog.info? 5).map (fun i => (i.zero, i.size, i.bytes)) = some (some (.int .u8 0), 1, 1) := by kernel_rfl
theorem nums_cons (k : IntKind) (x : Nat) : nums k [x] = #[.int k (x : Int)] := rfl
theorem Mine.fresh1 (w : World) (B x : Nat) (hB : B ≤ w.heap.size) : Mine 5 (w.alloc (.cells #[.int .u8 (x : Int)] 5)) B (some ⟨w.heap.size, 0, none⟩) 1 [x] :=
  .inr ⟨w.heap.size, 0, #[.int .u8 (x : Int)], rfl, hB, Holds.fresh w _ _, Nat.le_refl _, by omega, by simp, fun j hj => by
    have : j = 0 := by simp at hj; omega
    subst this
    rfl⟩
theorem below_blk {w w' : World} {B : Nat} {A : Option Addr} (h : w.grownBy w' (blk_of A)) (hB : B ≤ w.heap.size) (hA : ∀ g, blk_of A = some g → B ≤ g) : Below B w w' :=
  ⟨h.os, h.tape, h.output, h.size, fun g hg => h.block g (by omega) (fun e => by have := hA g e.symm; omega)⟩

def RelL (w : World) (n : Nat) (v i : Value) (wr : World) : Prop :=
  ∃ (x f : Nat) (b : List Nat) (A' : Option Addr) (c' m : Nat), x ≤ n ∧ x < 256 ^ f ∧ i = .int .i64 (x : Int) ∧ v = .slice A' m c' ∧ Hid (b.length = m) ∧ f ≤ 6 ∧ Hid (b.length + f ≤ 6) ∧ Hid (dig 6 n = dig f x ++ b) ∧ Hid (Mine 5 wr w.heap.size A' c' b) ∧ Hid (Below w.heap.size w wr)
set_option maxRecDepth 100000 in
set_option maxHeartbeats 4000000 in
theorem length'_any (w : World) (n : Nat) (hn : n ≤ 5000000000) :
    Calls Tryd.prog 49 #[.int .i64 (n : Int)] w fun e w' => ∃ A c, e = .returned (.slice A (lenB n).length c) ∧ Mine 5 w' w.heap.size A c (lenB n) ∧ Below w.heap.size w w' := by
  by_cases h1 : n < 128
  case pos =>
    have HE : Hid (lenB n = [n]) := Lib.hid (by unfold lenB; rw [if_pos h1])
    have d1 : decide ((n : Int) < 128) = true := decide_eq_true (by omega)
    have hw : IntKind.u8.wrap (n : Int) = (n : Int) := by simp [IntKind.wrap, IntKind.signed, IntKind.bits]; omega
    have HM := Lib.hid (Mine.fresh1 w w.heap.size n (Nat.le_refl _))
    have HB : Hid (Below w.heap.size w (w.alloc (.cells #[.int .u8 (n : Int)] 5))) := Lib.hid ((Below.refl _ _).alloc (Nat.le_refl _) _)
    go_enter Tryd.func49, Tryd.ntmps49
    go_wp2_with fail
    go_ret
    exact ⟨_, _, by rw [HE.out]; rfl, by rw [HE.out]; exact HM.out, HB.out⟩
  case neg =>
    have d1 : decide ((n : Int) < 128) = false := decide_eq_false (by omega)
    have HE : Hid (lenB n = (128 + (dig 6 n).length) :: dig 6 n) := Lib.hid (by unfold lenB; rw [if_neg h1])
    go_enter Tryd.func49, Tryd.ntmps49
    go_wp2_with fail
    clear d1
    go_loopw [3, 4] (fun v i wr => RelL w n v i wr) (fun v i _ => (intOf i).toNat)
    case atStart => exact ⟨n, 6, [], none, 0, 0, Nat.le_refl _, by omega, rfl, rfl, Lib.hid rfl, by omega, Lib.hid (by simp), Lib.hid (by simp), Lib.hid (Mine.nil _ _ _), Lib.hid (Below.refl _ _)⟩
    case round =>
      obtain ⟨x, f, b, A', c', m, hx, hxf, rfl, rfl, HL, hf, HF, HD, HM, HQ⟩ := hrel
      obtain ⟨V, hV⟩ : ∃ V, V = wr := ⟨_, rfl⟩
      subst hV
      have hm6 : m ≤ 6 := by have := HL.out; have := HF.out; omega
      by_cases hx0 : 0 < x
      case pos =>
        have d2 : decide ((0 : Int) < (x : Int)) = true := decide_eq_true (by omega)
        have d3 : decide (0 < x) = true := decide_eq_true hx0
        obtain ⟨f', rfl⟩ : ∃ f', f = f' + 1 := ⟨f - 1, by
          rcases f with _ | f
          · simp at hxf; omega
          · rfl⟩
        have hr : Int.tmod (x : Int) 256 = ((x % 256 : Nat) : Int) := by rw [Int.tmod_eq_emod_of_nonneg (by omega)]; omega
        have hq : Int.tdiv (x : Int) 256 = ((x / 256 : Nat) : Int) := by rw [Int.tdiv_eq_ediv_of_nonneg (by omega)]; omega
        have hw : IntKind.u8.wrap ((x % 256 : Nat) : Int) = ((x % 256 : Nat) : Int) := by simp [IntKind.wrap, IntKind.signed, IntKind.bits]
        have HD2 : Hid (dig 6 n = dig f' (x / 256) ++ ([x % 256] ++ b)) := Lib.hid (by
          rw [HD.out, dig, if_neg (by omega), List.append_assoc])
        have hxf2 : x / 256 < 256 ^ f' := by rw [Nat.pow_succ] at hxf; omega
        obtain ⟨r, hr0⟩ : ∃ r, r = x % 256 := ⟨_, rfl⟩
        obtain ⟨q, hq0⟩ : ∃ q, q = x / 256 := ⟨_, rfl⟩
        have hql : q ≤ x / 2 := by omega
        rw [← hr0] at hr hw HD2
        rw [← hq0] at hq HD2 hxf2
        have HM1 : Hid (Mine 5 (V.alloc (.cells #[.int .u8 (r : Int)] 5)) w.heap.size (some ⟨V.heap.size, 0, none⟩) 1 [r]) := Lib.hid (Mine.fresh1 V w.heap.size r HQ.out.size)
        have HR1 : Hid (Rd .u8 (V.alloc (.cells #[.int .u8 (r : Int)] 5)) (V.alloc (.cells #[.int .u8 (r : Int)] 5)).heap.size A' c' b) := Lib.hid (HM.out.alloc _).rd
        have HQ1 : Hid (Below w.heap.size w (V.alloc (.cells #[.int .u8 (r : Int)] 5))) := Lib.hid (HQ.out.alloc HQ.out.size _)
        have HV0 : Hid (w.heap.size ≤ V.heap.size) := Lib.hid HQ.out.size
        clear hr0 hq0
        go_wp2_with (first | (refine wpList_mine (B2 := (V.alloc (.cells #[.int .u8 (r : Int)] 5)).heap.size) _ rfl (.tmp 18) (.tmp 19) 29 rfl 5 Tryd.underlying29 info_u8 rfl HM1.out rfl rfl HR1.out HL.out HQ1.out.size (by omega) ?_; intro A5 c5 W5 hm5 hg5 hat5) | fail)
        have HQ5 : Hid (Below w.heap.size w W5) := Lib.hid (HQ1.out.trans (below_blk hg5 HQ1.out.size (fun g hg => by have := HV0.out; simp [blk_of] at hg; omega)))
        have HM5 := Lib.hid hm5
        clear hm5 hg5 hat5
        go_roundw
        case rel => exact ⟨q, f', [r] ++ b, _, _, 1 + m, by omega, hxf2, rfl, rfl, Lib.hid (by rw [List.length_append, HL.out]; rfl), by omega, Lib.hid (by rw [List.length_append]; have := HF.out; simp; omega), HD2, HM5, HQ5⟩
        case measure => simp [intOf]; omega
      case neg =>
        obtain rfl : x = 0 := by omega
        have d2 : decide ((0 : Int) < ((0 : Nat) : Int)) = false := rfl
        have HD2 : Hid (dig 6 n = b) := Lib.hid (by rw [HD.out, dig_zero, List.nil_append])
        have hw : IntKind.u8.wrap (128 + (m : Int)) = ((128 + m : Nat) : Int) := by simp [IntKind.wrap, IntKind.signed, IntKind.bits]; omega
        have hwi : IntKind.i64.wrap (128 + (m : Int)) = 128 + (m : Int) := IntWalk.i64_in _ (by omega)
        obtain ⟨r, hr0⟩ : ∃ r, r = 128 + m := ⟨_, rfl⟩
        rw [← hr0] at hw
        have HE2 : Hid (lenB n = [r] ++ b ∧ (lenB n).length = 1 + m) := Lib.hid (by
          have e : lenB n = [r] ++ b := by rw [HE.out, HD2.out, HL.out, hr0]; rfl
          exact ⟨e, by rw [e, List.length_append, HL.out]; rfl⟩)
        have HM1 : Hid (Mine 5 (V.alloc (.cells #[.int .u8 (r : Int)] 5)) w.heap.size (some ⟨V.heap.size, 0, none⟩) 1 [r]) := Lib.hid (Mine.fresh1 V w.heap.size r HQ.out.size)
        have HR1 : Hid (Rd .u8 (V.alloc (.cells #[.int .u8 (r : Int)] 5)) (V.alloc (.cells #[.int .u8 (r : Int)] 5)).heap.size A' c' b) := Lib.hid (HM.out.alloc _).rd
        have HQ1 : Hid (Below w.heap.size w (V.alloc (.cells #[.int .u8 (r : Int)] 5))) := Lib.hid (HQ.out.alloc HQ.out.size _)
        have HV0 : Hid (w.heap.size ≤ V.heap.size) := Lib.hid HQ.out.size
        clear hr0
        go_wp2_with (first | (refine wpList_mine (B2 := (V.alloc (.cells #[.int .u8 (r : Int)] 5)).heap.size) _ rfl (.tmp 25) (.tmp 26) 29 rfl 5 Tryd.underlying29 info_u8 rfl HM1.out rfl rfl HR1.out HL.out HQ1.out.size (by omega) ?_; intro A5 c5 W5 hm5 hg5 hat5) | fail)
        have HQ5 : Hid (Below w.heap.size w W5) := Lib.hid (HQ1.out.trans (below_blk hg5 HQ1.out.size (fun g hg => by have := HV0.out; simp [blk_of] at hg; omega)))
        have HM5 := Lib.hid hm5
        clear hm5 hg5 hat5
        go_wp2_with fail
        go_ret
        exact ⟨_, _, by rw [HE2.out.2]; rfl, by rw [HE2.out.1]; exact HM5.out, HQ5.out⟩

def RelL2 (w : World) (n : Nat) (i v : Value) (wr : World) : Prop := RelL w n v i wr
end Go.Proofs.YtmoefccfdnijpaaDoor
namespace Go.Proofs.YtmoefccfdnijpaaDoor
open Go.RowKit
set_option linter.unusedVariables false
set_option linter.unusedSimpArgs false

mutual
/-- A thing's bytes. -/
def Tr.enc : Tr → List Nat
  | .mk tag body kids => tag :: (lenB (body.length + (Tr.encs kids).length) ++ (body ++ Tr.encs kids))
def Tr.encs : List Tr → List Nat
  | [] => []
  | x :: r => x.enc ++ Tr.encs r
end
theorem Tr.encs_append : ∀ (a b : List Tr), Tr.encs (a ++ b) = Tr.encs a ++ Tr.encs b
  | [], b => by simp [Tr.encs]
  | x :: r, b => by rw [List.cons_append, Tr.encs, Tr.encs, Tr.encs_append r b, List.append_assoc]
theorem Tr.encs_more {l : List Tr} {k : Nat} (h : k < l.length) : Tr.encs (l.take (k + 1)) = Tr.encs (l.take k) ++ (l.getD k default).enc := by
  rw [take_more l h, Tr.encs_append]
  simp [Tr.encs]
theorem Tr.encs_le (l : List Tr) (k : Nat) : (Tr.encs (l.take k)).length ≤ (Tr.encs l).length := by
  have := congrArg List.length (Tr.encs_append (l.take k) (l.drop k))
  rw [List.take_append_drop, List.length_append] at this
  omega
theorem Tr.enc_kid {l : List Tr} {k : Nat} (h : k < l.length) : (l.getD k default).enc.length ≤ (Tr.encs l).length := by
  have h1 := congrArg List.length (Tr.encs_more h)
  have h2 := Tr.encs_le l (k + 1)
  rw [List.length_append] at h1
  omega
theorem enc_oct : ∀ (N : Nat) (t : Lt) (w : World) (B : Nat), t.sz < N → TrAt w B t → ∀ x ∈ t.t.enc, x < 256 := by
  intro N
  induction N with
  | zero => intro t w B h; omega
  | succ N ih =>
    intro t w B hN hr x hx
    obtain ⟨tag, ba, bc, body, ka, kc, kids⟩ := t
    rw [trAt_mk] at hr
    obtain ⟨ht, _, hb, _, hk⟩ := hr
    rw [Lt.t_mk, Tr.enc] at hx
    rcases List.mem_cons.1 hx with rfl | hx
    · exact ht
    · rcases List.mem_append.1 hx with hx | hx
      · exact lenB_oct _ x hx
      · rcases List.mem_append.1 hx with hx | hx
        · exact hb x hx
        · have key : ∀ k, k ≤ kids.length → ∀ y ∈ Tr.encs ((kids.map Lt.t).take k), y < 256 := by
            intro k
            induction k with
            | zero => intro _ y hy; simp [Tr.encs] at hy
            | succ k ihk =>
              intro hk2 y hy
              rw [Tr.encs_more (by rw [List.length_map]; omega)] at hy
              rcases List.mem_append.1 hy with hy | hy
              · exact ihk (by omega) y hy
              · rw [Lt.ts_at (by omega)] at hy
                have := lt_kid (tag := tag) (ba := ba) (bc := bc) (body := body) (ka := ka) (kc := kc) (kids := kids) (j := k) (by omega)
                exact ih _ w B (by omega) (hk k (by omega)) y hy
          have := key kids.length (Nat.le_refl _)
          rw [List.take_of_length_le (by rw [List.length_map]; exact Nat.le_refl _)] at this
          exact this x hx

theorem Mine.less {e : TypeId} {w : World} {B B' : Nat} {A : Option Addr} {c : Nat} {l : List Nat} (h : Mine e w B A c l) (hB : B' ≤ B) : Mine e w B' A c l := by
  rcases h with h | ⟨g, off, cur, e1, hBg, rest⟩
  · exact .inl h
  · exact .inr ⟨g, off, cur, e1, by omega, rest⟩
theorem Mine.fresh0 (w : World) (B : Nat) (hB : B ≤ w.heap.size) : Mine 5 (w.alloc (.cells #[] 5)) B (some ⟨w.heap.size, 0, none⟩) 0 [] :=
  .inr ⟨w.heap.size, 0, #[], rfl, hB, Holds.fresh w _ _, Nat.le_refl _, by omega, by simp, fun j hj => by simp at hj⟩

def RelE (w : World) (cs : Array Value) (body : List Nat) (l : List Tr) (n : Nat) (v i : Value) (wr : World) : Prop :=
  ∃ (k : Nat) (A' : Option Addr) (c' m : Nat), k ≤ n ∧ i = .int .i64 k ∧ v = .slice A' m c' ∧ Hid ((body ++ Tr.encs (l.take k)).length = m) ∧ Hid (Mine 5 wr (w.heap.size + 1) A' c' (body ++ Tr.encs (l.take k))) ∧ Hid (Below w.heap.size w wr) ∧ Hid (Holds wr w.heap.size 32 cs)
theorem below_mine {V W : World} {A : Option Addr} {c : Nat} {l : List Nat} {e : TypeId} {B : Nat} (hM : Mine e V (B + 1) A c l) (hg : V.grownBy W (blk_of A)) (hB : B ≤ V.heap.size) : Below B V W := below_blk hg hB (fun g hg => by have := (hM.block hg).1; omega)
theorem holds_mine {V W : World} {A : Option Addr} {c : Nat} {l : List Nat} {e t : TypeId} {B : Nat} {cs : Array Value} (h : Holds V B t cs) (hM : Mine e V (B + 1) A c l) (hg : V.grownBy W (blk_of A)) : Holds W B t cs :=
  h.grown hg (fun e => by have := (hM.block e.symm).1; omega)
end Go.Proofs.YtmoefccfdnijpaaDoor
namespace Go.Proofs.YtmoefccfdnijpaaDoor
open Go.RowKit
set_option linter.unusedVariables false
set_option linter.unusedSimpArgs false

/-- How many bytes stand behind its length. -/
def Tr.inl : Tr → Nat
  | .mk _ body kids => body.length + (Tr.encs kids).length
theorem Tr.enc_len : ∀ t : Tr, t.enc.length = 1 + (lenB t.inl).length + t.inl
  | .mk _ body kids => by rw [Tr.enc, Tr.inl]; simp; omega
theorem Lt.val_eq (t : Lt) : t.val = .agg #[.int .u8 (t.tag : Int), .slice t.ba t.body.length t.bc, .slice t.ka t.kids.length t.kc] := rfl
def RelI (w : World) (cs : Array Value) (bl : Nat) (l : List Tr) (n : Nat) (v i : Value) (wr : World) : Prop :=
  ∃ k : Nat, k ≤ n ∧ i = .int .i64 k ∧ v = .int .i64 ((bl : Int) + ((Tr.encs (l.take k)).length : Int)) ∧ Hid (Below w.heap.size w wr)
end Go.Proofs.YtmoefccfdnijpaaDoor
namespace Go.Proofs.YtmoefccfdnijpaaDoor
open Go.RowKit
set_option linter.unusedVariables false
set_option linter.unusedSimpArgs false

/-- Only the slice's own block has turned, and it lies where it lay or in a new one. -/
def Grew (w w' : World) (A A' : Option Addr) : Prop := w.grownBy w' (blk_of A) ∧ ∀ g, blk_of A' = some g → blk_of A = some g ∨ w.heap.size ≤ g
theorem Grew.refl (w : World) (A : Option Addr) : Grew w w A A := ⟨World.grownBy.refl w _, fun g hg => .inl hg⟩
theorem Grew.trans {w w1 w2 : World} {A A1 A2 : Option Addr} (h : Grew w w1 A A1) (h' : Grew w1 w2 A1 A2) : Grew w w2 A A2 :=
  ⟨⟨h'.1.os.trans h.1.os, h'.1.tape.trans h.1.tape, h'.1.output.trans h.1.output, Nat.le_trans h.1.size h'.1.size, fun k hk hne => (h'.1.block k (Nat.lt_of_lt_of_le hk h.1.size) (fun e => by
    rcases h.2 k e.symm with h1 | h1
    · exact hne h1.symm
    · omega)).trans (h.1.block k hk hne)⟩, fun g hg => by
    rcases h'.2 g hg with h1 | h1
    · exact h.2 g h1
    · exact .inr (Nat.le_trans h.1.size h1)⟩
theorem Grew.of_below {w w' : World} {A : Option Addr} (h : Below w.heap.size w w') : Grew w w' A A := ⟨⟨h.os, h.tape, h.output, h.size, fun k hk _ => h.block k hk⟩, fun g hg => .inl hg⟩
theorem Grew.of_mine {w w' : World} {A A' : Option Addr} (h : w.grownBy w' (blk_of A)) (hat : blk_of A' = blk_of A ∨ blk_of A' = some w.heap.size) : Grew w w' A A' :=
  ⟨h, fun g hg => hat.elim (fun e => .inl (e ▸ hg)) fun e => .inr (by rw [e] at hg; injection hg with hg; omega)⟩
theorem Grew.below {w w' : World} {A A' : Option Addr} {B0 : Nat} (h : Grew w w' A A') (hB : B0 ≤ w.heap.size) (hA : ∀ g, blk_of A = some g → B0 ≤ g) : Below B0 w w' := below_blk h.1 hB hA
theorem Grew.holds {w w' : World} {A A' : Option Addr} {g : Nat} {t : TypeId} {cs : Array Value} (h : Grew w w' A A') (hh : Holds w g t cs) (hne : blk_of A ≠ some g) : Holds w' g t cs := hh.grown h.1 (fun e => hne e.symm)
theorem Grew.apart {w w' : World} {A A' : Option Addr} {g : Nat} (h : Grew w w' A A') (hg : g < w.heap.size) (hne : blk_of A ≠ some g) : blk_of A' ≠ some g := fun e => by
  rcases h.2 g e with h1 | h1
  · exact hne h1
  · omega

def RelU (w : World) (B0 : Nat) (cs : Array Value) (A : Option Addr) (p : List Nat) (l : List Tr) (n : Nat) (v i : Value) (wr : World) : Prop :=
  ∃ (k : Nat) (A' : Option Addr) (c' m : Nat), k ≤ n ∧ i = .int .i64 k ∧ v = .slice A' m c' ∧ Hid ((p ++ Tr.encs (l.take k)).length = m) ∧ Hid (Mine 5 wr B0 A' c' (p ++ Tr.encs (l.take k))) ∧ Hid (Grew w wr A A') ∧ Hid (Holds wr w.heap.size 32 cs) ∧ Hid (blk_of A' ≠ some w.heap.size)
end Go.Proofs.YtmoefccfdnijpaaDoor
namespace Go.Proofs.YtmoefccfdnijpaaDoor
open Go.RowKit
set_option linter.unusedVariables false
set_option linter.unusedSimpArgs false

def tagOk (x : Nat) : Bool := x != 0 && x % 32 != 31
def parted (x : Nat) : Bool := x / 32 % 2 == 1
theorem tag_all : ∀ x : Fin 256, (((x.val : Nat) : Int) != 0 && ((x.val : Nat) : Int) % 32 != 31) = tagOk x.val := by decide +kernel
theorem part_all : ∀ x : Fin 256, (Go.bits BinOp.and IntKind.u8 ((x.val : Nat) : Int) 32 != 0) = parted x.val := by decide +kernel
theorem tagged_is (x : Nat) (hx : x < 256) : (((x : Nat) : Int) != 0 && ((x : Nat) : Int) % 32 != 31) = tagOk x := tag_all ⟨x, hx⟩
theorem parted_is (x : Nat) (hx : x < 256) : (Go.bits BinOp.and IntKind.u8 ((x : Nat) : Int) 32 != 0) = parted x := part_all ⟨x, hx⟩
set_option maxRecDepth 100000 in
theorem tag'_any (w : World) (x : Nat) (hx : x < 256) :
    Calls Tryd.prog 43 #[.int .u8 (x : Int)] w fun e w' => e = .returned (.bool (tagOk x)) ∧ w = w' := by
  have ht := Lib.hid (tagged_is x hx)
  by_cases h0 : x = 0
  · subst h0
    have hT : Hid (tagOk 0 = false) := Lib.hid rfl
    clear ht
    go_enter Tryd.func43, Tryd.ntmps43
    go_wp2_with fail
    go_ret
    exact ⟨ret_bool (by rw [hT.out]), rfl⟩
  · have hne : ((x : Int) != 0) = true := by rw [bne_iff_ne]; omega
    have hT : Hid (((x : Int) % 32 != 31) = tagOk x) := Lib.hid (by have := ht.out; rw [hne, Bool.true_and] at this; exact this)
    clear ht
    go_enter Tryd.func43, Tryd.ntmps43
    go_wp2_with fail
    go_ret
    exact ⟨ret_bool hT.out, rfl⟩
set_option maxRecDepth 100000 in
theorem parted'_any (w : World) (x : Nat) (hx : x < 256) :
    Calls Tryd.prog 45 #[.int .u8 (x : Int)] w fun e w' => e = .returned (.bool (parted x)) ∧ w = w' := by
  have ht := Lib.hid (parted_is x hx)
  go_enter Tryd.func45, Tryd.ntmps45
  go_wp2_with fail
  go_ret
  exact ⟨ret_bool ht.out, rfl⟩
end Go.Proofs.YtmoefccfdnijpaaDoor
namespace Go.Proofs.YtmoefccfdnijpaaDoor
open Go.RowKit
set_option linter.unusedVariables false
set_option linter.unusedSimpArgs false

/-- Its own tag and parts are such. -/
def ok1 (tag bl n : Nat) : Bool := tagOk tag && !(parted tag && decide (0 < bl)) && !(!parted tag && decide (0 < n))
mutual
def Tr.sound : Tr → Nat → Bool
  | .mk tag body kids, d => ok1 tag body.length kids.length && decide (d ≤ 12) && Tr.sounds kids (d + 1)
def Tr.sounds : List Tr → Nat → Bool
  | [], _ => true
  | x :: r, d => x.sound d && Tr.sounds r d
end
theorem Tr.sounds_iff : ∀ {l : List Tr} {d : Nat}, Tr.sounds l d = true ↔ ∀ j, j < l.length → (l.getD j default).sound d = true
  | [], d => by simp [Tr.sounds]
  | x :: r, d => by
    rw [Tr.sounds, Bool.and_eq_true, Tr.sounds_iff (l := r)]
    constructor
    · rintro ⟨h1, h2⟩ j hj
      rcases j with _ | j
      · simpa [List.getD] using h1
      · have := h2 j (by simpa using hj)
        simpa [List.getD] using this
    · intro h
      refine ⟨by simpa [List.getD] using h 0 (by simp), fun j hj => ?_⟩
      have := h (j + 1) (by simpa using hj)
      simpa [List.getD] using this
theorem Tr.sounds_not {l : List Tr} {d j : Nat} (hj : j < l.length) (h : (l.getD j default).sound d = false) : Tr.sounds l d = false := by
  cases e : Tr.sounds l d
  · rfl
  · have := Tr.sounds_iff.1 e j hj
    rw [h] at this
    cases this
def RelB (w : World) (cs : Array Value) (l : List Tr) (d n : Nat) (i : Value) (wr : World) : Prop :=
  ∃ k : Nat, k ≤ n ∧ i = .int .i64 k ∧ Hid (∀ j, j < k → (l.getD j default).sound d = true) ∧ Hid (Below w.heap.size w wr) ∧ Hid (Holds wr w.heap.size 32 cs)
end Go.Proofs.YtmoefccfdnijpaaDoor
namespace Go.Proofs.YtmoefccfdnijpaaDoor
open Go.RowKit
set_option linter.unusedVariables false
set_option linter.unusedSimpArgs false

/-- A thing that may be. -/
def isT (t : Tr) : Bool := t.sound 1 && decide (t.count ≤ 600) && decide (t.enc.length ≤ 12000)
/-- Its bytes, or none. -/
def bytesT (t : Tr) : List Nat := if isT t = true then t.enc else []
end Go.Proofs.YtmoefccfdnijpaaDoor
namespace Go.Proofs.YtmoefccfdnijpaaDoor
open Go.RowKit Go.Shelf
set_option linter.unusedVariables false
set_option linter.unusedSimpArgs false
attribute [local go_sem] Oper.semAt_some

mutual
/-- All things in a thing, itself first, with how deep each is. -/
def Lt.items : Lt → Nat → List (Nat × Lt)
  | .mk tag ba bc body ka kc kids, d => (d, .mk tag ba bc body ka kc kids) :: Lt.itemss kids (d + 1)
def Lt.itemss : List Lt → Nat → List (Nat × Lt)
  | [], _ => []
  | x :: r, d => x.items d ++ Lt.itemss r d
end
theorem Lt.itemss_append : ∀ (a b : List Lt) (d : Nat), Lt.itemss (a ++ b) d = Lt.itemss a d ++ Lt.itemss b d
  | [], b, d => by simp [Lt.itemss]
  | x :: r, b, d => by rw [List.cons_append, Lt.itemss, Lt.itemss, Lt.itemss_append r b, List.append_assoc]
theorem Lt.itemss_more {l : List Lt} {k : Nat} (h : k < l.length) (d : Nat) : Lt.itemss (l.take (k + 1)) d = Lt.itemss (l.take k) d ++ (l.getD k default).items d := by
  rw [take_more l h, Lt.itemss_append]
  simp [Lt.itemss]
theorem Lt.itemss_take (l : List Lt) (k d : Nat) : Lt.itemss (l.take k) d <+: Lt.itemss l d := by
  have := Lt.itemss_append (l.take k) (l.drop k) d
  rw [List.take_append_drop] at this
  rw [this]
  exact List.prefix_append _ _
mutual
theorem Lt.items_len : ∀ (t : Lt) (d : Nat), (t.items d).length = t.t.count
  | .mk _ _ _ _ _ _ kids, d => by rw [Lt.items, Lt.t, Tr.count, List.length_cons, Lt.itemss_len' kids (d + 1)]; omega
theorem Lt.itemss_len' : ∀ (l : List Lt) (d : Nat), (Lt.itemss l d).length = Tr.counts (Lt.ts l)
  | [], d => by simp [Lt.itemss, Lt.ts, Tr.counts]
  | x :: r, d => by rw [Lt.itemss, Lt.ts, Tr.counts, List.length_append, Lt.items_len x d, Lt.itemss_len' r d]
end
theorem Lt.itemss_len (l : List Lt) (d : Nat) : (Lt.itemss l d).length = Tr.counts (l.map Lt.t) := by rw [Lt.itemss_len', Lt.ts_map]
/-- One of them, as it is handed on. -/
abbrev It := { p : Nat × Lt // p.2.tag < 256 }
def itv (x : It) : Array Value := #[.int .i64 (x.1.1 : Int), x.1.2.val]
/-- No cell turns but those of two blocks. -/
def PassX (c1 c2 : Nat) (A B : World) : Prop := A.heap.size ≤ B.heap.size ∧ ∀ b o v, b ≠ c1 → b ≠ c2 → A.cell? ⟨b, o, none⟩ = some v → B.cell? ⟨b, o, none⟩ = some v
theorem PassX.refl (c1 c2 : Nat) (A : World) : PassX c1 c2 A A := ⟨Nat.le_refl _, fun _ _ _ _ _ h => h⟩
theorem PassX.trans {c1 c2 : Nat} {A B C : World} (h : PassX c1 c2 A B) (k : PassX c1 c2 B C) : PassX c1 c2 A C := ⟨Nat.le_trans h.1 k.1, fun b o v h1 h2 hv => k.2 b o v h1 h2 (h.2 b o v h1 h2 hv)⟩
theorem PassX.alloc (c1 c2 : Nat) (A : World) (o : Obj) : PassX c1 c2 A (A.alloc o) := ⟨by simp, fun b o' v _ _ hv => by
  have hlt := World.block_lt_of_cell? A _ hv
  rw [World.cell?_alloc_past _ _ _ hlt]; exact hv⟩
theorem TrAt.pass {w w' : World} {B : Nat} (hp : ∀ b o v, b < B → w.cell? ⟨b, o, none⟩ = some v → w'.cell? ⟨b, o, none⟩ = some v) : ∀ (N : Nat) {t : Lt}, t.sz < N → TrAt w B t → TrAt w' B t
  | 0, _, h, _ => by omega
  | N + 1, .mk tag ba bc body ka kc kids, h, hr => by
    rw [trAt_mk] at hr ⊢
    obtain ⟨h1, h2, h3, h4, h5⟩ := hr
    refine ⟨h1, ⟨h2.1, h2.2.1, fun hn => ?_⟩, h3, ⟨h4.1, h4.2.1, fun hn => ?_⟩, fun j hj => TrAt.pass hp N (by have := lt_kid (tag := tag) (ba := ba) (bc := bc) (body := body) (ka := ka) (kc := kc) hj; omega) (h5 j hj)⟩
    · obtain ⟨b, off, e, hlt, hc⟩ := h2.2.2 hn
      exact ⟨b, off, e, hlt, fun j hj => hp _ _ _ hlt (hc j hj)⟩
    · obtain ⟨b, off, e, hlt, hc⟩ := h4.2.2 hn
      exact ⟨b, off, e, hlt, fun j hj => ⟨hp _ _ _ hlt (hc j hj).1, hp _ _ _ hlt (hc j hj).2.1, hp _ _ _ hlt (hc j hj).2.2⟩⟩
theorem TrAt.passX {c1 c2 : Nat} {w w' : World} {B : Nat} {t : Lt} (h : TrAt w B t) (hp : PassX c1 c2 w w') (h1 : B ≤ c1) (h2 : B ≤ c2) : TrAt w' B t :=
  TrAt.pass (fun b o v hb hv => hp.2 b o v (by omega) (by omega) hv) (t.sz + 1) (Nat.lt_succ_self _) h
theorem room_of_none {F : Fence} (hd : F.depth = none) (k : Nat) : F.room k := fun d h => by rw [hd] at h; cases h

def RelW (l c1 c2 n : Nat) (J : List It → World → Prop) (pre : List It) (d : Nat) (me : Nat × Lt) (kids : List Lt) (W : World) (i : Value) (wr : World) : Prop :=
  ∃ (k : Nat) (ys : List It), k ≤ n ∧ i = .int .i64 k ∧ Hid (ys.map (·.1) = me :: Lt.itemss (kids.take k) (d + 1)) ∧ J (pre ++ ys) wr ∧ Hid (PassX c1 c2 W wr)
end Go.Proofs.YtmoefccfdnijpaaDoor
namespace Go.Proofs.YtmoefccfdnijpaaDoor
open Go.RowKit Go.Shelf
set_option linter.unusedVariables false
set_option linter.unusedSimpArgs false
attribute [local go_sem] Oper.semAt_some

end Go.Proofs.YtmoefccfdnijpaaDoor
namespace Go.Proofs.YtmoefccfdnijpaaDoor
open Go.RowKit Go.Shelf
set_option linter.unusedVariables false
set_option linter.unusedSimpArgs false
attribute [local go_sem] Oper.semAt_some

theorem passX_put {c1 c2 : Nat} (W : World) (l : Nat) (o o' : Obj) (hl : W.heap[l]? = some o) (ho : o.isCells = false) : PassX c1 c2 W (W.putObj l o') :=
  ⟨by simp [World.putObj], fun b k v _ _ hv => cell_kept hv (grownBy_putObj' W l o') (fun r e => by cases e; exact ⟨o, hl, ho⟩)⟩
theorem passX_set {c1 c2 : Nat} (W : World) (k : Nat) (v : Value) {c : Nat} (hc : c = c1 ∨ c = c2) : PassX c1 c2 W (W.setCell ⟨c, k, none⟩ v) :=
  ⟨by simp [World.setCell], fun b o u h1 h2 hu => by
    rw [World.cell?_of_block (Below.heap_setCell W ⟨c, k, none⟩ v b (by show b ≠ c; rcases hc with rfl | rfl <;> assumption))]
    exact hu⟩
theorem cell_new_b (W : World) (v : Value) (t : TypeId) : (W.alloc (.cells #[v] t)).cell? ⟨W.heap.size, 0, none⟩ = some v ∧ (W.alloc (.cells #[v] t)).frozen? ⟨W.heap.size, 0, none⟩ = false :=
  ⟨Holds.cell (Holds.fresh W t #[v]) 0, Holds.open_ (Holds.fresh W t #[v]) 0⟩
end Go.Proofs.YtmoefccfdnijpaaDoor
namespace Go.Proofs.YtmoefccfdnijpaaDoor
open Go.RowKit Go.Shelf
set_option linter.unusedVariables false
set_option linter.unusedSimpArgs false
attribute [local go_sem] Oper.semAt_some

/-- Of one thing in a thing: it is not too deep, its tag and parts are such. -/
def fine (p : Nat × Lt) : Bool := ok1 p.2.tag p.2.body.length p.2.kids.length && decide (p.1 ≤ 12)
mutual
theorem Lt.fine_items : ∀ (t : Lt) (d : Nat), (∀ y ∈ t.items d, fine y = true) ↔ t.t.sound d = true
  | .mk tag ba bc body ka kc kids, d => by
    rw [Lt.items, Lt.t, Tr.sound, Bool.and_eq_true, ← Lt.fine_itemss kids (d + 1)]
    have hl : (Lt.ts kids).length = kids.length := by rw [Lt.ts_map, List.length_map]
    constructor
    · intro h
      refine ⟨?_, fun y hy => h y (List.mem_cons_of_mem _ hy)⟩
      have := h _ (List.mem_cons_self ..)
      rw [hl]
      simpa [fine, Lt.tag, Lt.body, Lt.kids] using this
    · rintro ⟨h1, h2⟩ y hy
      rcases List.mem_cons.1 hy with rfl | hy
      · rw [hl] at h1
        simpa [fine, Lt.tag, Lt.body, Lt.kids] using h1
      · exact h2 y hy
theorem Lt.fine_itemss : ∀ (l : List Lt) (d : Nat), (∀ y ∈ Lt.itemss l d, fine y = true) ↔ Tr.sounds (Lt.ts l) d = true
  | [], d => by simp [Lt.itemss, Lt.ts, Tr.sounds]
  | x :: r, d => by
    rw [Lt.itemss, Lt.ts, Tr.sounds, Bool.and_eq_true, ← Lt.fine_items x d, ← Lt.fine_itemss r d]
    constructor
    · intro h
      exact ⟨fun y hy => h y (List.mem_append_left _ hy), fun y hy => h y (List.mem_append_right _ hy)⟩
    · rintro ⟨h1, h2⟩ y hy
      rcases List.mem_append.1 hy with hy | hy
      · exact h1 y hy
      · exact h2 y hy
end
/-- What the loop holds to. -/
def IsI (b0 : Nat) (w : World) (cs : Array Value) (pre : List It) (W : World) : Prop :=
  (((W.cell? ⟨b0 + 2, 0, none⟩ = some (.int .i64 (pre.length : Int)) ∧ W.frozen? ⟨b0 + 2, 0, none⟩ = false) ∧ (W.cell? ⟨b0 + 1, 0, none⟩ = some (.bool false) ∧ W.frozen? ⟨b0 + 1, 0, none⟩ = false) ∧
    (W.cell? ⟨b0, 0, none⟩ = some (cs.getD 0 undef) ∧ W.cell? ⟨b0, 1, none⟩ = some (cs.getD 1 undef) ∧ W.cell? ⟨b0, 2, none⟩ = some (cs.getD 2 undef))) ∧ (∀ y ∈ pre, fine y.1 = true) ∧ pre.length ≤ 600) ∧ Below b0 w W
def IsX (b0 : Nat) (w : World) (c : Code) (pre : List It) (W : World) : Prop :=
  (c = .ret ∧ ((∃ y ∈ pre, fine y.1 = false) ∨ 600 < pre.length) ∧ W.cell? ⟨b0 + 1, 0, none⟩ = some (.bool false)) ∧ Below b0 w W
theorem isI_own {b0 : Nat} {w : World} {cs : Array Value} (hb : b0 ≤ w.heap.size) {B : Nat} (hB : b0 ≤ B) : OwnFrom B (IsI b0 w cs) :=
  OwnFrom.and (Own.from (fun s A B row hs hg hr => ⟨⟨⟨cell_kept hs.1.1.1 hg hr, (frozen_kept hs.1.1.1 hg hr).trans hs.1.1.2⟩, ⟨cell_kept hs.1.2.1.1 hg hr, (frozen_kept hs.1.2.1.1 hg hr).trans hs.1.2.1.2⟩, cell_kept hs.1.2.2.1 hg hr, cell_kept hs.1.2.2.2.1 hg hr, cell_kept hs.1.2.2.2.2 hg hr⟩, hs.2⟩) _) (ownFrom_below hb hB)
theorem isX_own {b0 : Nat} {w : World} (c : Code) (hb : b0 ≤ w.heap.size) {B : Nat} (hB : b0 ≤ B) : OwnFrom B (IsX b0 w c) :=
  OwnFrom.and (Own.from (fun s A B row hs hg hr => ⟨hs.1, hs.2.1, cell_kept hs.2.2 hg hr⟩) _) (ownFrom_below hb hB)
end Go.Proofs.YtmoefccfdnijpaaDoor
namespace Go.Proofs.YtmoefccfdnijpaaDoor
open Go.RowKit
set_option linter.unusedVariables false
set_option linter.unusedSimpArgs false

/-- Where a slice goes on behind its first k elements. -/
def dropA (A : Option Addr) (k c : Nat) : Option Addr := if c = k then A else A.map fun a => a.add k
theorem under22 : Tryd.prog.underlying 29 = some (.slice (Tryd.prog.elem 29)) := by kernel_rfl
theorem size22 (W : World) : (sizeOf (Tryd.prog.elem 29)).run Tryd.prog W = .ok 1 W := by kernel_rfl
theorem run_drop (W : World) (A : Option Addr) (n c k : Nat) (hk : k ≤ n) (hn : n ≤ c) :
    (Instr.sliceAt 29 (.slice A n c) (some (.int .i64 (k : Int))) none none).run Tryd.prog W = .ok (.slice (dropA A k c) (n - k) (c - k)) W := by
  rw [run_sliceAt_slice _ _ _ _ _ _ under22, run_slice_l _ _ _ _ _ under22 .i64 (k : Int) (by omega) (by omega), size22]
  simp [Result.andThen, sliced, dropA]
theorem run_take (W : World) (A : Option Addr) (n c k : Nat) (hk : k ≤ n) (hn : n ≤ c) :
    (Instr.sliceAt 29 (.slice A n c) none (some (.int .i64 (k : Int))) none).run Tryd.prog W = .ok (.slice (dropA A 0 c) k c) W := by
  rw [run_sliceAt_slice _ _ _ _ _ _ under22, run_slice_h _ _ _ _ _ under22 .i64 (k : Int) (by omega) (by omega), size22]
  simp [Result.andThen, sliced, dropA]
theorem run_mid (W : World) (A : Option Addr) (n c l k : Nat) (hl : l ≤ k) (hk : k ≤ n) (hn : n ≤ c) :
    (Instr.sliceAt 29 (.slice A n c) (some (.int .i64 (l : Int))) (some (.int .i64 (k : Int))) none).run Tryd.prog W = .ok (.slice (dropA A l c) (k - l) (c - l)) W := by
  rw [run_sliceAt_slice _ _ _ _ _ _ under22, run_slice_lh _ _ _ _ _ under22 .i64 .i64 (l : Int) (k : Int) (by omega) (by omega) (by omega), size22]
  simp [Result.andThen, sliced, dropA]
theorem Rd.drop {k : IntKind} {w : World} {B : Nat} {A : Option Addr} {c : Nat} {l : List Nat} (h : Rd k w B A c l) (m : Nat) (hm : m ≤ l.length) : Rd k w B (dropA A m c) (c - m) (l.drop m) := by
  refine ⟨by rw [List.length_drop]; have := h.1; omega, by have := h.2.1; omega, fun hn => ?_⟩
  rw [List.length_drop] at hn
  obtain ⟨b, off, rfl, hb, hc⟩ := h.2.2 (by omega)
  have h1 := h.1
  refine ⟨b, off + m, ?_, hb, fun j hj => ?_⟩
  · unfold dropA
    rw [if_neg (by omega)]
    simp [Addr.add]
  · rw [List.length_drop] at hj
    rw [Nat.add_assoc, hc (m + j) (by omega)]
    simp [List.getD]
theorem dropA_zero {A : Option Addr} {c : Nat} {k : IntKind} {w : World} {B : Nat} {l : List Nat} (h : Rd k w B A c l) : Rd k w B (dropA A 0 c) c l := by
  have := h.drop 0 (Nat.zero_le _)
  rw [List.drop_zero, Nat.sub_zero] at this
  exact this
theorem Rd.mid {k : IntKind} {w : World} {B : Nat} {A : Option Addr} {c : Nat} {l : List Nat} (h : Rd k w B A c l) (m n : Nat) (hm : m ≤ l.length) : Rd k w B (dropA A m c) (c - m) ((l.drop m).take n) := (h.drop m hm).cut n

/-- Bytes as a number, the greatest first. -/
def big (l : List Nat) : Nat := l.foldl (fun a x => a * 256 + x) 0
theorem big_snoc (l : List Nat) (x : Nat) : big (l ++ [x]) = big l * 256 + x := by simp [big]
theorem foldl_ge : ∀ (r : List Nat) (a : Nat), a ≤ r.foldl (fun a x => a * 256 + x) a
  | [], a => Nat.le_refl _
  | x :: r, a => by
    rw [List.foldl_cons]
    have := foldl_ge r (a * 256 + x)
    omega
theorem big_le_append (l r : List Nat) : big l ≤ big (l ++ r) := by
  unfold big
  rw [List.foldl_append]
  exact foldl_ge r _
theorem big_take_le (l : List Nat) (k m : Nat) (h : k ≤ m) : big (l.take k) ≤ big (l.take m) := by
  have e : l.take m = l.take k ++ (l.take m).drop k := by
    have := List.take_append_drop k (l.take m)
    rw [List.take_take, Nat.min_eq_left h] at this
    exact this.symm
  rw [e]
  exact big_le_append _ _
/-- A length that bytes begin with, of what is behind it, and how many bytes it has; none: there is none. -/
def lenOf : List Nat → Option (Nat × Nat)
  | [] => none
  | x :: r => if x < 128 then (if x ≤ r.length then some (x, 1) else none)
    else if x ≠ 128 ∧ x - 128 ≤ r.length ∧ r.getD 0 0 ≠ 0 ∧ 128 ≤ big (r.take (x - 128)) ∧ big (r.take (x - 128)) ≤ r.length - (x - 128) then some (big (r.take (x - 128)), x - 127) else none
theorem lenOf_fits {b : List Nat} {k u : Nat} (h : lenOf b = some (k, u)) : 1 ≤ u ∧ u + k ≤ b.length := by
  cases b with
  | nil => simp [lenOf] at h
  | cons x r =>
    simp only [lenOf] at h
    by_cases h1 : x < 128
    · rw [if_pos h1] at h
      by_cases h2 : x ≤ r.length
      · rw [if_pos h2] at h
        injection h with h
        injection h with h3 h4
        rw [List.length_cons]
        omega
      · rw [if_neg h2] at h
        cases h
    · rw [if_neg h1] at h
      by_cases h2 : x ≠ 128 ∧ x - 128 ≤ r.length ∧ r.getD 0 0 ≠ 0 ∧ 128 ≤ big (r.take (x - 128)) ∧ big (r.take (x - 128)) ≤ r.length - (x - 128)
      · rw [if_pos h2] at h
        injection h with h
        injection h with h3 h4
        rw [List.length_cons]
        omega
      · rw [if_neg h2] at h
        cases h
end Go.Proofs.YtmoefccfdnijpaaDoor
namespace Go.Proofs.YtmoefccfdnijpaaDoor
open Go.RowKit
set_option linter.unusedVariables false
set_option linter.unusedSimpArgs false

set_option maxRecDepth 100000 in
theorem i64_or8 (x c : Nat) (hx : x < 1000000) (hc : c < 256) : bits .or .i64 ((x : Int) * 256) (c : Int) = ((x * 256 + c : Nat) : Int) := by
  rw [bits_join .i64 62 (by decide) (fun n h0 h1 => IntWalk.i64_in n (by omega)) 8 ((x : Int) * 256) (c : Int) (by omega) (by omega) (by omega) (by omega) (by omega) (by omega)]
  push_cast
  rfl
def LenPost (w : World) (Br : Nat) (A : Option Addr) (n c : Nat) : Option (Nat × Nat) → Ending → World → Prop
  | none, e, w' => e = .returned (.tuple #[.int .i64 0, .bool false]) ∧ w' = w
  | some (k, u), e, w' => e = .returned (.tuple #[.int .i64 (k : Int), .bool true]) ∧ w' = w.setCell ⟨Br, 0, none⟩ (.slice (dropA A u c) (n - u) (c - u))
def RelRL (m : Nat) (rr : List Nat) (w : World) (v i : Value) (wr : World) : Prop :=
  ∃ j x : Nat, j ≤ m ∧ i = .int .i64 (j : Int) ∧ v = .int .i64 (x : Int) ∧ x ≤ 12000 ∧ Hid (x = big (rr.take j)) ∧ wr = w
end Go.Proofs.YtmoefccfdnijpaaDoor
