/-
  Things within things: as they lie in memory, as they are. How many things it is: by the document; whether it is more than is looked at. Are two things one: by the document, by the program. A length's bytes: by the document, by the program. A thing's bytes: as words; by the document. How many bytes a thing has: by the program. A thing's bytes behind what is there: by the program. Which tags may be, which are of things with kids; whether a thing may be: by the document. Whether a thing may be: by the document. Whether a thing may be, its bytes: by the document. All things in a thing, one after the other: the program's iterator. The iterator as a value; how many things a thing is, by the program. How many things a thing is: by the program. Whether a thing may be: by the program. Slices cut; a length, read: as words. A length, read: by the program. Bytes of one's own; what bytes read as; things that keep to their blocks. A thing, read: by the program.
-/
import Derived.Test.YtbkjjhpnjfdlbaaGreatDoorChecked
import Derived.WalkKit
import Derived.WalkSpells
import Derived.WalkLawsBesides
import Derived.Outline
import Derived.BigQuiet
import Derived.Deep.QuietTactic
import Derived.IntWalk
import Derived.Test.YtbkjjhpnjfdlbaaGreatDoorMem
import Derived.Test.YtbkjjhpnjfdlbaaGreatDoorRead
import Derived.Test.YtbkjjhpnjfdlbaaGreatDoorOwn
import Derived.Test.YtbkjjhpnjfdlbaaGreatDoorStr
import Derived.StillTailTactics
import Derived.Test.YtbkjjhpnjfdlbaaGreatDoorMine
import Derived.Deep.RegionHeld3
import Derived.RangeFuncNested
import Derived.RangeFuncBound
import Derived.RangeFuncCalls
import Derived.RangeFuncLeaves
import Derived.RangeFuncKeeps
import Derived.RangeFuncFrom
import Derived.Shelf.Abstract
import Derived.Shelf.RegionOpen
import Derived.OwnWalkIn
import Derived.TacticsInMore
import Derived.LoopNIn
import Derived.LoopIn
import Derived.Laws.ResultCell
import Derived.Laws.Cover3
import Derived.Test.YtbkjjhpnjfdlbaaGreatDoorOwnV
import Derived.Handy
namespace Go.Proofs.YtbkjjhpnjfdlbaaGreatDoor
open Go.RowKit
set_option linter.unusedVariables false
set_option linter.unusedSimpArgs false

/-- A thing. -/
inductive Tr where
  | mk (tag : Nat) (body : List Nat) (kids : List Tr)
/-- A thing, and where it lies. -/
inductive Lt where
  | mk (tag : Nat) (ba : Option Addr) (bc : Nat) (body : List Nat) (ka : Option Addr) (kc : Nat) (kids : List Lt)
instance : Inhabited Tr := ⟨.mk 0 [] []⟩
instance : Inhabited Lt := ⟨.mk 0 none 0 [] none 0 []⟩
def Tr.tag : Tr → Nat | .mk t _ _ => t
def Tr.body : Tr → List Nat | .mk _ b _ => b
def Tr.kids : Tr → List Tr | .mk _ _ k => k
def Lt.tag : Lt → Nat | .mk t _ _ _ _ _ _ => t
def Lt.ba : Lt → Option Addr | .mk _ a _ _ _ _ _ => a
def Lt.bc : Lt → Nat | .mk _ _ c _ _ _ _ => c
def Lt.body : Lt → List Nat | .mk _ _ _ b _ _ _ => b
def Lt.ka : Lt → Option Addr | .mk _ _ _ _ a _ _ => a
def Lt.kc : Lt → Nat | .mk _ _ _ _ _ c _ => c
def Lt.kids : Lt → List Lt | .mk _ _ _ _ _ _ k => k
mutual
/-- What it is, wherever it lies. -/
def Lt.t : Lt → Tr
  | .mk tag _ _ body _ _ kids => .mk tag body (Lt.ts kids)
def Lt.ts : List Lt → List Tr
  | [] => []
  | x :: r => x.t :: Lt.ts r
end
theorem Lt.ts_map : ∀ l : List Lt, Lt.ts l = l.map Lt.t
  | [] => by simp [Lt.ts]
  | x :: r => by rw [Lt.ts, Lt.ts_map r, List.map_cons]
theorem Lt.t_mk {tag : Nat} {ba : Option Addr} {bc : Nat} {body : List Nat} {ka : Option Addr} {kc : Nat} {kids : List Lt} : (Lt.mk tag ba bc body ka kc kids).t = .mk tag body (kids.map Lt.t) := by rw [Lt.t, Lt.ts_map]
theorem Lt.ts_at {l : List Lt} {j : Nat} (h : j < l.length) : (l.map Lt.t).getD j default = (l.getD j default).t := by simp [List.getD, h]
/-- Its cells. -/
def Lt.cells (t : Lt) : Array Value := #[.int .u8 (t.tag : Int), .slice t.ba t.body.length t.bc, .slice t.ka t.kids.length t.kc]
def Lt.val (t : Lt) : Value := .agg t.cells
/-- The kids' cells, in a row. -/
def RowT (w : World) (B : Nat) (A : Option Addr) (c : Nat) (l : List Lt) : Prop :=
  l.length ≤ c ∧ c ≤ 9223372036854775807 ∧ (0 < l.length → ∃ b off, A = some ⟨b, off, none⟩ ∧ b < B ∧ ∀ j, j < l.length → w.cell? ⟨b, off + j * 3, none⟩ = some (.int .u8 ((l.getD j default).tag : Int)) ∧
    w.cell? ⟨b, off + j * 3 + 1, none⟩ = some (.slice (l.getD j default).ba (l.getD j default).body.length (l.getD j default).bc) ∧ w.cell? ⟨b, off + j * 3 + 2, none⟩ = some (.slice (l.getD j default).ka (l.getD j default).kids.length (l.getD j default).kc))
mutual
/-- It lies so in memory, below block B. -/
def TrAt (w : World) (B : Nat) : Lt → Prop
  | .mk tag ba bc body ka kc kids => tag < 256 ∧ Rd .u8 w B ba bc body ∧ (∀ x ∈ body, x < 256) ∧ RowT w B ka kc kids ∧ TrsAt w B kids
def TrsAt (w : World) (B : Nat) : List Lt → Prop
  | [] => True
  | x :: r => TrAt w B x ∧ TrsAt w B r
end
theorem trsAt_iff {w : World} {B : Nat} : ∀ {l : List Lt}, TrsAt w B l ↔ ∀ x ∈ l, TrAt w B x
  | [] => by simp [TrsAt]
  | x :: r => by rw [TrsAt, trsAt_iff (l := r)]; simp
theorem trAt_mk {w : World} {B : Nat} {tag : Nat} {ba : Option Addr} {bc : Nat} {body : List Nat} {ka : Option Addr} {kc : Nat} {kids : List Lt} :
    TrAt w B (.mk tag ba bc body ka kc kids) ↔ tag < 256 ∧ Rd .u8 w B ba bc body ∧ (∀ x ∈ body, x < 256) ∧ RowT w B ka kc kids ∧ ∀ j, j < kids.length → TrAt w B (kids.getD j default) := by
  rw [TrAt, trsAt_iff]
  refine and_congr Iff.rfl (and_congr Iff.rfl (and_congr Iff.rfl (and_congr Iff.rfl ⟨fun h j hj => h _ (by simp [List.getD, hj]), fun h x hx => ?_⟩)))
  obtain ⟨j, hj, rfl⟩ := List.getElem_of_mem hx
  have := h j hj
  simpa [List.getD, hj] using this
theorem RowT.under {w w' : World} {B : Nat} {A : Option Addr} {c : Nat} {l : List Lt} (h : RowT w B A c l) (hb : Below B w w') : RowT w' B A c l :=
  ⟨h.1, h.2.1, fun hn => by
    obtain ⟨b, off, e, hlt, hc⟩ := h.2.2 hn
    exact ⟨b, off, e, hlt, fun j hj => ⟨(hb.cell (p := ⟨b, _, none⟩) hlt).trans (hc j hj).1, (hb.cell (p := ⟨b, _, none⟩) hlt).trans (hc j hj).2.1, (hb.cell (p := ⟨b, _, none⟩) hlt).trans (hc j hj).2.2⟩⟩⟩
theorem RowT.more {w : World} {B B' : Nat} {A : Option Addr} {c : Nat} {l : List Lt} (h : RowT w B A c l) (hB : B ≤ B') : RowT w B' A c l :=
  ⟨h.1, h.2.1, fun hn => by
    obtain ⟨b, off, e, hlt, hc⟩ := h.2.2 hn
    exact ⟨b, off, e, by omega, hc⟩⟩
mutual
/-- How great it is, for inductions. -/
def Lt.sz : Lt → Nat
  | .mk _ _ _ _ _ _ kids => 1 + Lt.szs kids
def Lt.szs : List Lt → Nat
  | [] => 0
  | x :: r => x.sz + Lt.szs r
end
theorem Lt.sz_le : ∀ {l : List Lt} {x : Lt}, x ∈ l → x.sz ≤ Lt.szs l
  | [], _, h => by cases h
  | y :: r, x, h => by
    rw [Lt.szs]
    rcases List.mem_cons.1 h with rfl | h
    · omega
    · have := Lt.sz_le h
      omega
theorem lt_kid {tag : Nat} {ba : Option Addr} {bc : Nat} {body : List Nat} {ka : Option Addr} {kc : Nat} {kids : List Lt} {j : Nat} (h : j < kids.length) : (kids.getD j default).sz < (Lt.mk tag ba bc body ka kc kids).sz := by
  have h1 : kids.getD j default ∈ kids := by simp [List.getD, h]
  have h2 := Lt.sz_le h1
  rw [Lt.sz]
  omega
theorem TrAt.under {w w' : World} {B : Nat} (hb : Below B w w') : ∀ (N : Nat) {t : Lt}, t.sz < N → TrAt w B t → TrAt w' B t
  | 0, _, h, _ => by omega
  | N + 1, .mk tag ba bc body ka kc kids, h, hr => by
    rw [trAt_mk] at hr ⊢
    obtain ⟨h1, h2, h3, h4, h5⟩ := hr
    exact ⟨h1, h2.under hb, h3, h4.under hb, fun j hj => TrAt.under hb N (by have := lt_kid (tag := tag) (ba := ba) (bc := bc) (body := body) (ka := ka) (kc := kc) hj; omega) (h5 j hj)⟩
theorem TrAt.under' {w w' : World} {B : Nat} {t : Lt} (h : TrAt w B t) (hb : Below B w w') : TrAt w' B t := TrAt.under hb (t.sz + 1) (Nat.lt_succ_self _) h
theorem TrAt.more {w : World} {B B' : Nat} (hB : B ≤ B') : ∀ (N : Nat) {t : Lt}, t.sz < N → TrAt w B t → TrAt w B' t
  | 0, _, h, _ => by omega
  | N + 1, .mk tag ba bc body ka kc kids, h, hr => by
    rw [trAt_mk] at hr ⊢
    obtain ⟨h1, h2, h3, h4, h5⟩ := hr
    exact ⟨h1, h2.more hB, h3, h4.more hB, fun j hj => TrAt.more hB N (by have := lt_kid (tag := tag) (ba := ba) (bc := bc) (body := body) (ka := ka) (kc := kc) hj; omega) (h5 j hj)⟩
theorem TrAt.more' {w : World} {B B' : Nat} {t : Lt} (h : TrAt w B t) (hB : B ≤ B') : TrAt w B' t := TrAt.more hB (t.sz + 1) (Nat.lt_succ_self _) h

/-! How many things it is. -/
mutual
def Tr.count : Tr → Nat
  | .mk _ _ kids => 1 + Tr.counts kids
def Tr.counts : List Tr → Nat
  | [] => 0
  | x :: r => x.count + Tr.counts r
end
theorem Tr.counts_append : ∀ (a b : List Tr), Tr.counts (a ++ b) = Tr.counts a + Tr.counts b
  | [], b => by simp [Tr.counts]
  | x :: r, b => by rw [List.cons_append, Tr.counts, Tr.counts, Tr.counts_append r b]; omega
theorem take_more {α : Type} [Inhabited α] (l : List α) {k : Nat} (h : k < l.length) : l.take (k + 1) = l.take k ++ [l.getD k default] := by
  rw [List.take_add_one]
  simp [List.getD, h]
theorem Tr.counts_more {l : List Tr} {k : Nat} (h : k < l.length) : Tr.counts (l.take (k + 1)) = Tr.counts (l.take k) + (l.getD k default).count := by
  rw [take_more l h, Tr.counts_append]
  simp [Tr.counts]
theorem Tr.counts_le (l : List Tr) (k : Nat) : Tr.counts (l.take k) ≤ Tr.counts l := by
  have := Tr.counts_append (l.take k) (l.drop k)
  rw [List.take_append_drop] at this
  omega
theorem Tr.count_pos : ∀ t : Tr, 1 ≤ t.count
  | .mk _ _ _ => by rw [Tr.count]; omega
theorem Tr.counts_len : ∀ l : List Tr, l.length ≤ Tr.counts l
  | [] => by simp [Tr.counts]
  | x :: r => by
    rw [Tr.counts, List.length_cons]
    have := Tr.counts_len r
    have := Tr.count_pos x
    omega
end Go.Proofs.YtbkjjhpnjfdlbaaGreatDoor
namespace Go.Proofs.YtbkjjhpnjfdlbaaGreatDoor
open Go.RowKit
set_option linter.unusedVariables false
set_option linter.unusedSimpArgs false

theorem ret_int {k : IntKind} {a b : Int} (h : a = b) : Ending.returned (.int k a) = .returned (.int k b) := by rw [h]
theorem ret_bool {a b : Bool} (h : a = b) : Ending.returned (.bool a) = .returned (.bool b) := by rw [h]
theorem below_drewN {B : Nat} {a w : World} (h : Below B a w) (n : Nat) : Below B a (w.drewN n) := ⟨h.os, h.tape, h.output, h.size, h.block⟩
theorem not_true {v : Bool} (h : v = true → False) : v = false := by cases v; rfl; exact (h rfl).elim
def RelC (w : World) (cs : Array Value) (l : List Tr) (n : Nat) (v i : Value) (wr : World) : Prop :=
  ∃ k : Nat, k ≤ n ∧ i = .int .i64 k ∧ v = .int .i64 (1 + (Tr.counts (l.take k) : Int)) ∧ Hid (Below w.heap.size w wr) ∧ Hid (Holds wr w.heap.size 31 cs)
set_option maxRecDepth 100000 in
set_option maxHeartbeats 4000000 in
theorem count'_N : ∀ (N : Nat) (t : Lt) (w : World) (B : Nat), t.sz < N → TrAt w B t → B ≤ w.heap.size → t.t.count ≤ 1000000 →
    Calls Tryz.prog 38 #[t.val] w fun e w' => e = .returned (.int .i64 (t.t.count : Int)) ∧ Below w.heap.size w w' := by
  intro N
  induction N with
  | zero => intro t w B h; omega
  | succ N ih =>
    intro t w B hN hr hB hmx
    obtain ⟨tag, ba, bc, body, ka, kc, kids⟩ := t
    rw [trAt_mk] at hr
    obtain ⟨_, _, _, hrow, hkids⟩ := hr
    rw [Lt.t_mk, Tr.count] at hmx ⊢
    obtain ⟨n, hn⟩ : ∃ n, kids.length = n := ⟨_, rfl⟩
    obtain ⟨L, hL⟩ : ∃ L, kids.map Lt.t = L := ⟨_, rfl⟩
    have hLn : L.length = n := by rw [← hL, List.length_map, hn]
    rw [hL] at hmx ⊢
    have HMX := Lib.hid hmx
    have HLN := Lib.hid hLn
    have hlc : n ≤ kc := by have := hrow.1; omega
    have hc63 := hrow.2.1
    have HROW : Hid (∀ W, Below w.heap.size w W → RowT W B ka kc kids) := Lib.hid fun W hW => hrow.under (hW.mono hB)
    have HIH : Hid (∀ k, k < n → ∀ W, Below w.heap.size w W → Calls Tryz.prog 38 #[(kids.getD k default).val] W fun e w' => e = .returned (.int .i64 ((L.getD k default).count : Int)) ∧ Below W.heap.size W w') := Lib.hid fun k hk W hW => by
      have e : (L.getD k default) = (kids.getD k default).t := by rw [← hL, Lt.ts_at (by omega)]
      rw [e]
      refine ih _ W B ?_ ((hkids k (by omega)).under' (hW.mono hB)) (by have := hW.size; omega) ?_
      · have := lt_kid (tag := tag) (ba := ba) (bc := bc) (body := body) (ka := ka) (kc := kc) (kids := kids) (j := k) (by omega)
        omega
      · have h1 := Tr.counts_more (l := L) (k := k) (by omega)
        have h2 := Tr.counts_le L (k + 1)
        rw [e] at h1
        omega
    have HN2 := Lib.hid hn
    clear hN ih hrow hkids hmx hLn hL
    have hcell : (Lt.mk tag ba bc body ka kc kids).cells = #[.int .u8 (tag : Int), .slice ba body.length bc, .slice ka n kc] := by rw [← hn]; rfl
    have hval : (Lt.mk tag ba bc body ka kc kids).val = .agg #[.int .u8 (tag : Int), .slice ba body.length bc, .slice ka n kc] := by unfold Lt.val; rw [hcell]
    rw [hval]
    have hb0 : Hid (Holds (w.alloc (.cells #[.int .u8 (tag : Int), .slice ba body.length bc, .slice ka n kc] 31)) w.heap.size 31 #[.int .u8 (tag : Int), .slice ba body.length bc, .slice ka n kc]) := Lib.hid (Holds.fresh _ _ _)
    have hq0 : Hid (Below w.heap.size w (w.alloc (.cells #[.int .u8 (tag : Int), .slice ba body.length bc, .slice ka n kc] 31))) := Lib.hid ((Below.refl _ _).alloc (Nat.le_refl _) _)
    clear hcell hval hn
    generalize body.length = bl at *
    go_enter Tryz.func38, Tryz.ntmps38
    go_wp2_with fail
    generalize w.alloc (.cells #[.int .u8 (tag : Int), .slice ba bl bc, .slice ka n kc] 31) = W at *
    go_loopw [3, 4] (fun v i wr => RelC w #[.int .u8 (tag : Int), .slice ba bl bc, .slice ka n kc] L n v i wr) (fun v i _ => n - (intOf i).toNat)
    case atStart => exact ⟨0, Nat.zero_le _, rfl, rfl, hq0, hb0⟩
    case round =>
      clear hq0 hb0
      obtain ⟨k, hk, rfl, rfl, HQ, HB⟩ := hrel
      obtain ⟨V, hV⟩ : ∃ V, V = wr := ⟨_, rfl⟩
      subst hV
      have z2 : V.cell? ⟨w.heap.size, 2, none⟩ = some (.slice ka n kc) := HB.out.cell 2
      by_cases hkn : k < n
      case pos =>
        have hkI : (k : Int) < (n : Int) := by omega
        have hk0 : (0 : Int) ≤ (k : Int) := by omega
        obtain ⟨b, off, rfl, hb, hcs⟩ := (HROW.out V HQ.out).2.2 (by have := HN2.out; omega)
        obtain ⟨q0, q1, q2⟩ := hcs k (by have := HN2.out; omega)
        have HC := Lib.hid (HIH.out k hkn V HQ.out)
        have HCM : Hid (Tr.counts (L.take (k + 1)) = Tr.counts (L.take k) + (L.getD k default).count ∧ Tr.counts (L.take (k + 1)) ≤ 1000000) := Lib.hid (by
          have h1 := Tr.counts_more (l := L) (k := k) (by have := HLN.out; omega)
          have h2 := Tr.counts_le L (k + 1)
          have := HMX.out
          omega)
        have hval : (kids.getD k default).val = .agg #[.int .u8 ((kids.getD k default).tag : Int), .slice (kids.getD k default).ba (kids.getD k default).body.length (kids.getD k default).bc, .slice (kids.getD k default).ka (kids.getD k default).kids.length (kids.getD k default).kc] := rfl
        rw [hval] at HC
        clear hcs hval
        generalize (kids.getD k default).tag = dt at *
        generalize (kids.getD k default).ba = dba at *
        generalize (kids.getD k default).bc = dbc at *
        generalize (kids.getD k default).body.length = dbl at *
        generalize (kids.getD k default).ka = dka at *
        generalize (kids.getD k default).kids.length = dkl at *
        generalize (kids.getD k default).kc = dkc at *
        generalize (L.getD k default).count = y at *
        generalize hx0 : Tr.counts (L.take k) = x at *
        have HX0 := Lib.hid hx0
        clear hx0
        have hws : IntKind.i64.wrap (1 + (x : Int) + (y : Int)) = 1 + ((x + y : Nat) : Int) := by rw [IntWalk.i64_in _ (by have := HCM.out; omega)]; push_cast; omega
        go_wp2_with fail
        refine HC.out.mono ?_
        rintro e w2 ⟨rfl, hb2⟩
        have HQ2 : Hid (Below w.heap.size w w2) := Lib.hid (HQ.out.trans (hb2.mono HQ.out.size))
        have HB2 := Lib.hid (HB.out.under hb2 HB.out.lt)
        clear hb2 HC q0 q1 q2 z2
        go_wp2_with fail
        go_roundw
        case rel => exact ⟨k + 1, by omega, by go_num, by rw [HCM.out.1]; push_cast; simp only [Int.add_assoc], HQ2, HB2⟩
        case measure => simp [intOf]; omega
      case neg =>
        obtain rfl : k = n := by omega
        have hkI : ¬ ((k : Int) < (k : Int)) := by omega
        have HE : Hid (Tr.counts (L.take k) = Tr.counts L) := Lib.hid (by rw [List.take_of_length_le (by have := HLN.out; omega)])
        go_wp2_with fail
        go_ret
        exact ⟨ret_int (by rw [HE.out]), HQ.out⟩
end Go.Proofs.YtbkjjhpnjfdlbaaGreatDoor
namespace Go.Proofs.YtbkjjhpnjfdlbaaGreatDoor
open Go.RowKit
set_option linter.unusedVariables false
set_option linter.unusedSimpArgs false

def RelS (w : World) (ca cb : Array Value) (la lb : List Tr) (n : Nat) (i : Value) (wr : World) : Prop :=
  ∃ k : Nat, k ≤ n ∧ i = .int .i64 k ∧ Hid (∀ j, j < k → la.getD j default = lb.getD j default) ∧ Hid (Below w.heap.size w wr) ∧ Hid (Holds wr w.heap.size 31 ca) ∧ Hid (Holds wr (w.heap.size + 1) 31 cb)

set_option maxRecDepth 100000 in
set_option maxHeartbeats 4000000 in
theorem same_N : ∀ (N : Nat) (a b : Lt) (w : World) (B : Nat), a.sz < N → TrAt w B a → TrAt w B b → B ≤ w.heap.size → ∀ (v : Bool), (v = true ↔ a.t = b.t) →
    Calls Tryz.prog 64 #[a.val, b.val] w fun e w' => e = .returned (.bool v) ∧ Below w.heap.size w w' := by
  intro N
  induction N with
  | zero => intro a b w B h; omega
  | succ N ih =>
    intro a b w B hN hr hs hB v hv
    obtain ⟨at0, aba, abc, abody, aka, akc, akids⟩ := a
    obtain ⟨bt0, bba, bbc, bbody, bka, bkc, bkids⟩ := b
    rw [trAt_mk] at hr hs
    obtain ⟨ht1, hab, hao, harow, hakids⟩ := hr
    obtain ⟨ht2, hbb, hbo, hbrow, hbkids⟩ := hs
    rw [Lt.t_mk, Lt.t_mk] at hv
    have HV : Hid (v = true ↔ at0 = bt0 ∧ abody = bbody ∧ akids.map Lt.t = bkids.map Lt.t) := Lib.hid (by rw [hv]; exact ⟨fun e => by injection e with e1 e2 e3; exact ⟨e1, e2, e3⟩, fun ⟨e1, e2, e3⟩ => by rw [e1, e2, e3]⟩)
    clear hv
    obtain ⟨an, han⟩ : ∃ n, akids.length = n := ⟨_, rfl⟩
    obtain ⟨bn, hbn⟩ : ∃ n, bkids.length = n := ⟨_, rfl⟩
    obtain ⟨abl, habl⟩ : ∃ n, abody.length = n := ⟨_, rfl⟩
    obtain ⟨bbl, hbbl⟩ : ∃ n, bbody.length = n := ⟨_, rfl⟩
    have hlca : an ≤ akc := by have := harow.1; omega
    have hc63a := harow.2.1
    have hlcb : bn ≤ bkc := by have := hbrow.1; omega
    have hc63b := hbrow.2.1
    have hbla : abl ≤ abc := by have := hab.1; omega
    have hb63a := hab.2.1
    have hblb : bbl ≤ bbc := by have := hbb.1; omega
    have hb63b := hbb.2.1
    have HAROW : Hid (∀ W, Below w.heap.size w W → RowT W B aka akc akids) := Lib.hid fun W hW => harow.under (hW.mono hB)
    have HBROW : Hid (∀ W, Below w.heap.size w W → RowT W B bka bkc bkids) := Lib.hid fun W hW => hbrow.under (hW.mono hB)
    have HAB : Hid (∀ W, Below w.heap.size w W → Rd .u8 W B aba abc abody) := Lib.hid fun W hW => hab.under (hW.mono hB)
    have HBB : Hid (∀ W, Below w.heap.size w W → Rd .u8 W B bba bbc bbody) := Lib.hid fun W hW => hbb.under (hW.mono hB)
    have HIH : Hid (∀ k, k < an → k < bn → ∀ W, Below w.heap.size w W → ∀ u : Bool, (u = true ↔ (akids.map Lt.t).getD k default = (bkids.map Lt.t).getD k default) → Calls Tryz.prog 64 #[(akids.getD k default).val, (bkids.getD k default).val] W fun e w' => e = .returned (.bool u) ∧ Below W.heap.size W w') := Lib.hid fun k hk hk2 W hW u hu => by
      rw [Lt.ts_at (by omega), Lt.ts_at (by omega)] at hu
      refine ih _ _ W B ?_ ((hakids k (by omega)).under' (hW.mono hB)) ((hbkids k (by omega)).under' (hW.mono hB)) (by have := hW.size; omega) u hu
      have := lt_kid (tag := at0) (ba := aba) (bc := abc) (body := abody) (ka := aka) (kc := akc) (kids := akids) (j := k) (by omega)
      omega
    have HAN := Lib.hid han
    have HBN := Lib.hid hbn
    have HABL := Lib.hid habl
    have HBBL := Lib.hid hbbl
    have HAO := Lib.hid hao
    have HBO := Lib.hid hbo
    have hva : (Lt.mk at0 aba abc abody aka akc akids).val = .agg #[.int .u8 (at0 : Int), .slice aba abl abc, .slice aka an akc] := by rw [← han, ← habl]; rfl
    have hvb : (Lt.mk bt0 bba bbc bbody bka bkc bkids).val = .agg #[.int .u8 (bt0 : Int), .slice bba bbl bbc, .slice bka bn bkc] := by rw [← hbn, ← hbbl]; rfl
    rw [hva, hvb]
    clear hN ih harow hbrow hakids hbkids hva hvb han hbn habl hbbl hab hbb hao hbo
    have hq1 : Below w.heap.size w (w.alloc (.cells #[.int .u8 (at0 : Int), .slice aba abl abc, .slice aka an akc] 31)) := (Below.refl _ _).alloc (Nat.le_refl _) _
    have hq0 : Hid (Below w.heap.size w ((w.alloc (.cells #[.int .u8 (at0 : Int), .slice aba abl abc, .slice aka an akc] 31)).alloc (.cells #[.int .u8 (bt0 : Int), .slice bba bbl bbc, .slice bka bn bkc] 31))) := Lib.hid (hq1.alloc (by simp) _)
    have ha0 : Hid (Holds ((w.alloc (.cells #[.int .u8 (at0 : Int), .slice aba abl abc, .slice aka an akc] 31)).alloc (.cells #[.int .u8 (bt0 : Int), .slice bba bbl bbc, .slice bka bn bkc] 31)) w.heap.size 31 #[.int .u8 (at0 : Int), .slice aba abl abc, .slice aka an akc]) := Lib.hid ((Holds.fresh w 31 #[.int .u8 (at0 : Int), .slice aba abl abc, .slice aka an akc]).alloc _)
    have hb0 : Hid (Holds ((w.alloc (.cells #[.int .u8 (at0 : Int), .slice aba abl abc, .slice aka an akc] 31)).alloc (.cells #[.int .u8 (bt0 : Int), .slice bba bbl bbc, .slice bka bn bkc] 31)) (w.heap.size + 1) 31 #[.int .u8 (bt0 : Int), .slice bba bbl bbc, .slice bka bn bkc]) := Lib.hid (by
      have := Holds.fresh (w.alloc (.cells #[.int .u8 (at0 : Int), .slice aba abl abc, .slice aka an akc] 31)) 31 #[.int .u8 (bt0 : Int), .slice bba bbl bbc, .slice bka bn bkc]
      rwa [World.size_alloc] at this)
    clear hq1
    have za0 : ((w.alloc (.cells #[.int .u8 (at0 : Int), .slice aba abl abc, .slice aka an akc] 31)).alloc (.cells #[.int .u8 (bt0 : Int), .slice bba bbl bbc, .slice bka bn bkc] 31)).cell? ⟨w.heap.size, 0, none⟩ = some (.int .u8 (at0 : Int)) := ha0.out.cell 0
    have za1 : ((w.alloc (.cells #[.int .u8 (at0 : Int), .slice aba abl abc, .slice aka an akc] 31)).alloc (.cells #[.int .u8 (bt0 : Int), .slice bba bbl bbc, .slice bka bn bkc] 31)).cell? ⟨w.heap.size, 1, none⟩ = some (.slice aba abl abc) := ha0.out.cell 1
    have za2 : ((w.alloc (.cells #[.int .u8 (at0 : Int), .slice aba abl abc, .slice aka an akc] 31)).alloc (.cells #[.int .u8 (bt0 : Int), .slice bba bbl bbc, .slice bka bn bkc] 31)).cell? ⟨w.heap.size, 2, none⟩ = some (.slice aka an akc) := ha0.out.cell 2
    have zb0 : ((w.alloc (.cells #[.int .u8 (at0 : Int), .slice aba abl abc, .slice aka an akc] 31)).alloc (.cells #[.int .u8 (bt0 : Int), .slice bba bbl bbc, .slice bka bn bkc] 31)).cell? ⟨w.heap.size + 1, 0, none⟩ = some (.int .u8 (bt0 : Int)) := hb0.out.cell 0
    have zb1 : ((w.alloc (.cells #[.int .u8 (at0 : Int), .slice aba abl abc, .slice aka an akc] 31)).alloc (.cells #[.int .u8 (bt0 : Int), .slice bba bbl bbc, .slice bka bn bkc] 31)).cell? ⟨w.heap.size + 1, 1, none⟩ = some (.slice bba bbl bbc) := hb0.out.cell 1
    have zb2 : ((w.alloc (.cells #[.int .u8 (at0 : Int), .slice aba abl abc, .slice aka an akc] 31)).alloc (.cells #[.int .u8 (bt0 : Int), .slice bba bbl bbc, .slice bka bn bkc] 31)).cell? ⟨w.heap.size + 1, 2, none⟩ = some (.slice bka bn bkc) := hb0.out.cell 2
    by_cases hte : at0 = bt0
    case neg =>
      have hB1 : ((at0 : Int) != (bt0 : Int)) = true := by rw [bne_iff_ne]; omega
      have hB2 : (at0 != bt0) = true := by rw [bne_iff_ne]; omega
      have HF : Hid (v = false) := Lib.hid (not_true fun e => hte (HV.out.1 e).1)
      clear hte
      go_enter Tryz.func64, Tryz.ntmps64
      go_wp2_with fail
      go_ret
      exact ⟨ret_bool HF.out.symm, hq0.out⟩
    subst hte
    have hB1 : ((at0 : Int) != (at0 : Int)) = false := by rw [bne_eq_false_iff_eq]
    have hB2 : (at0 != at0) = false := by rw [bne_eq_false_iff_eq]
    by_cases hbe : abody = bbody
    case neg =>
      have HF : Hid (v = false) := Lib.hid (not_true fun e => hbe (HV.out.1 e).2.1)
      go_enter Tryz.func64, Tryz.ntmps64
      go_wp2_with fail
      refine (equal_no _ _ _ _ _ abc bbc abl bbl _ _ HABL.out HBBL.out (HAB.out _ hq0.out) (HBB.out _ hq0.out) HAO.out HBO.out hbe).mono ?_
      rintro e w2 ⟨rfl, rfl⟩
      go_wp2_with fail
      go_ret
      exact ⟨ret_bool HF.out.symm, hq0.out⟩
    subst hbe
    obtain rfl : abl = bbl := by rw [← HABL.out, HBBL.out]
    by_cases hle : an = bn
    case neg =>
      have HF : Hid (v = false) := Lib.hid (not_true fun e => hle (by have := congrArg List.length (HV.out.1 e).2.2; simp only [List.length_map] at this; rw [← HAN.out, ← HBN.out, this]))
      have hB5 : ((an : Int) != (bn : Int)) = true := by rw [bne_iff_ne]; omega
      have hB6 : (an != bn) = true := by rw [bne_iff_ne]; omega
      clear hle
      go_enter Tryz.func64, Tryz.ntmps64
      go_wp2_with fail
      refine (equal_yes _ _ _ _ _ abc bbc abl _ HABL.out (HAB.out _ hq0.out) (HBB.out _ hq0.out) HAO.out).mono ?_
      rintro e w2 ⟨rfl, rfl⟩
      go_wp2_with fail
      go_ret
      exact ⟨ret_bool HF.out.symm, hq0.out⟩
    subst hle
    have hB5 : ((an : Int) != (an : Int)) = false := by rw [bne_eq_false_iff_eq]
    have hB6 : (an != an) = false := by rw [bne_eq_false_iff_eq]
    have HALL : Hid ((∀ j, j < an → (akids.map Lt.t).getD j default = (bkids.map Lt.t).getD j default) → v = true) := Lib.hid fun h => HV.out.2 ⟨rfl, rfl, List.ext_getElem (by rw [List.length_map, List.length_map, HAN.out, HBN.out]) fun j h1 h2 => by
      have h3 := h j (by rw [← HAN.out]; simpa using h1)
      simpa [List.getD, show j < akids.length by simpa using h1, show j < bkids.length by simpa using h2] using h3⟩
    have HONE : Hid (∀ j, ¬ (akids.map Lt.t).getD j default = (bkids.map Lt.t).getD j default → v = false) := Lib.hid fun j h => not_true fun e => h (by rw [(HV.out.1 e).2.2])
    clear HV
    go_enter Tryz.func64, Tryz.ntmps64
    go_wp2_with fail
    refine (equal_yes _ _ _ _ _ abc bbc abl _ HABL.out (HAB.out _ hq0.out) (HBB.out _ hq0.out) HAO.out).mono ?_
    rintro e w2 ⟨rfl, rfl⟩
    go_wp2_with fail
    try rw [show (w.alloc (.cells #[.int .u8 (at0 : Int), .slice aba abl abc, .slice aka an akc] 31)).heap.size = w.heap.size + 1 from World.size_alloc _ _]
    generalize ((w.alloc (.cells #[.int .u8 (at0 : Int), .slice aba abl abc, .slice aka an akc] 31)).alloc (.cells #[.int .u8 (at0 : Int), .slice bba abl bbc, .slice bka an bkc] 31)) = W at *
    clear za0 za1 za2 zb0 zb1 zb2
    go_loopw [31] (fun i wr => RelS w #[.int .u8 (at0 : Int), .slice aba abl abc, .slice aka an akc] #[.int .u8 (at0 : Int), .slice bba abl bbc, .slice bka an bkc] (akids.map Lt.t) (bkids.map Lt.t) an i wr) (fun i _ => an - (intOf i).toNat)
    case atStart => exact ⟨0, Nat.zero_le _, rfl, Lib.hid (fun j hj => by omega), hq0, ha0, hb0⟩
    case round =>
      skip
      clear hq0 ha0 hb0
      obtain ⟨k, hk, rfl, HS, HQ, HA, HB⟩ := hrel
      obtain ⟨V, hV⟩ : ∃ V, V = wr := ⟨_, rfl⟩
      subst hV
      have za2 : V.cell? ⟨w.heap.size, 2, none⟩ = some (.slice aka an akc) := HA.out.cell 2
      have zb2 : V.cell? ⟨w.heap.size + 1, 2, none⟩ = some (.slice bka an bkc) := HB.out.cell 2
      by_cases hkn : k < an
      case pos =>
        have hkI : (k : Int) < (an : Int) := by omega
        have hk0 : (0 : Int) ≤ (k : Int) := by omega
        obtain ⟨b1, off1, rfl, hb1, hcs1⟩ := (HAROW.out V HQ.out).2.2 (by have := HAN.out; omega)
        obtain ⟨b2, off2, rfl, hb2, hcs2⟩ := (HBROW.out V HQ.out).2.2 (by have := HBN.out; omega)
        obtain ⟨p0, p1, p2⟩ := hcs1 k (by have := HAN.out; omega)
        obtain ⟨q0, q1, q2⟩ := hcs2 k (by have := HBN.out; omega)
        clear hcs1 hcs2
        by_cases hsk : (akids.map Lt.t).getD k default = (bkids.map Lt.t).getD k default
        case pos =>
          have HC := Lib.hid (HIH.out k hkn hkn V.drew HQ.out.drew true ⟨fun _ => hsk, fun _ => rfl⟩)
          have HS2 : Hid (∀ j, j < k + 1 → (akids.map Lt.t).getD j default = (bkids.map Lt.t).getD j default) := Lib.hid fun j hj => by
            rcases Nat.lt_or_ge j k with h | h
            · exact HS.out j h
            · obtain rfl : j = k := by omega
              exact hsk
          rw [show (akids.getD k default).val = .agg #[.int .u8 ((akids.getD k default).tag : Int), .slice (akids.getD k default).ba (akids.getD k default).body.length (akids.getD k default).bc, .slice (akids.getD k default).ka (akids.getD k default).kids.length (akids.getD k default).kc] from rfl, show (bkids.getD k default).val = .agg #[.int .u8 ((bkids.getD k default).tag : Int), .slice (bkids.getD k default).ba (bkids.getD k default).body.length (bkids.getD k default).bc, .slice (bkids.getD k default).ka (bkids.getD k default).kids.length (bkids.getD k default).kc] from rfl] at HC
          clear hsk
          generalize (akids.getD k default).tag = adt at *
          generalize (akids.getD k default).ba = adba at *
          generalize (akids.getD k default).bc = adbc at *
          generalize (akids.getD k default).body.length = adbl at *
          generalize (akids.getD k default).ka = adka at *
          generalize (akids.getD k default).kids.length = adkl at *
          generalize (akids.getD k default).kc = adkc at *
          generalize (bkids.getD k default).tag = bdt at *
          generalize (bkids.getD k default).ba = bdba at *
          generalize (bkids.getD k default).bc = bdbc at *
          generalize (bkids.getD k default).body.length = bdbl at *
          generalize (bkids.getD k default).ka = bdka at *
          generalize (bkids.getD k default).kids.length = bdkl at *
          generalize (bkids.getD k default).kc = bdkc at *
          go_wp2_with fail
          go_still_tail 10, (by kernel_rfl)
          change wpList _ _ _ _ _ V.drew
          go_wp2_with fail
          refine HC.out.mono ?_
          rintro e w2 ⟨rfl, hb2⟩
          have HQ2 : Hid (Below w.heap.size w w2) := Lib.hid (HQ.out.drew.trans (hb2.mono HQ.out.size))
          have HA2 := Lib.hid (HA.out.drew.under hb2 HA.out.lt)
          have HB2 := Lib.hid (HB.out.drew.under hb2 HB.out.lt)
          clear hb2 HC p0 p1 p2 q0 q1 q2 za2 zb2
          go_wp2_with fail
          go_roundw
          case rel => exact ⟨k + 1, by omega, by go_num, HS2, HQ2, HA2, HB2⟩
          case measure => simp [intOf]; omega
        case neg =>
          have HC := Lib.hid (HIH.out k hkn hkn V.drew HQ.out.drew false ⟨(fun e => by cases e), fun e => absurd e hsk⟩)
          have HF : Hid (v = false) := Lib.hid (HONE.out k hsk)
          rw [show (akids.getD k default).val = .agg #[.int .u8 ((akids.getD k default).tag : Int), .slice (akids.getD k default).ba (akids.getD k default).body.length (akids.getD k default).bc, .slice (akids.getD k default).ka (akids.getD k default).kids.length (akids.getD k default).kc] from rfl, show (bkids.getD k default).val = .agg #[.int .u8 ((bkids.getD k default).tag : Int), .slice (bkids.getD k default).ba (bkids.getD k default).body.length (bkids.getD k default).bc, .slice (bkids.getD k default).ka (bkids.getD k default).kids.length (bkids.getD k default).kc] from rfl] at HC
          clear hsk
          generalize (akids.getD k default).tag = adt at *
          generalize (akids.getD k default).ba = adba at *
          generalize (akids.getD k default).bc = adbc at *
          generalize (akids.getD k default).body.length = adbl at *
          generalize (akids.getD k default).ka = adka at *
          generalize (akids.getD k default).kids.length = adkl at *
          generalize (akids.getD k default).kc = adkc at *
          generalize (bkids.getD k default).tag = bdt at *
          generalize (bkids.getD k default).ba = bdba at *
          generalize (bkids.getD k default).bc = bdbc at *
          generalize (bkids.getD k default).body.length = bdbl at *
          generalize (bkids.getD k default).ka = bdka at *
          generalize (bkids.getD k default).kids.length = bdkl at *
          generalize (bkids.getD k default).kc = bdkc at *
          go_wp2_with fail
          go_still_tail 10, (by kernel_rfl)
          change wpList _ _ _ _ _ V.drew
          go_wp2_with fail
          refine HC.out.mono ?_
          rintro e w2 ⟨rfl, hb2⟩
          have HQ2 : Hid (Below w.heap.size w w2) := Lib.hid (HQ.out.drew.trans (hb2.mono HQ.out.size))
          clear hb2 HC p0 p1 p2 q0 q1 q2 za2 zb2
          go_wp2_with fail
          go_ret
          exact ⟨ret_bool HF.out.symm, HQ2.out⟩
      case neg =>
        obtain rfl : k = an := by omega
        have hkI : ¬ ((k : Int) < (k : Int)) := by omega
        have HT : Hid (v = true) := Lib.hid (HALL.out HS.out)
        go_wp2_with fail
        go_ret
        exact ⟨ret_bool HT.out.symm, HQ.out⟩
theorem same_any (a b : Lt) (w : World) (B : Nat) (hr : TrAt w B a) (hs : TrAt w B b) (hB : B ≤ w.heap.size) (v : Bool) (hv : v = true ↔ a.t = b.t) :
    Calls Tryz.prog 64 #[a.val, b.val] w fun e w' => e = .returned (.bool v) ∧ Below w.heap.size w w' := same_N (a.sz + 1) a b w B (Nat.lt_succ_self _) hr hs hB v hv
end Go.Proofs.YtbkjjhpnjfdlbaaGreatDoor
namespace Go.Proofs.YtbkjjhpnjfdlbaaGreatDoor
open Go.RowKit
set_option linter.unusedVariables false
set_option linter.unusedSimpArgs false

/-- A number's digits of 256, the greatest first. -/
def dig : Nat → Nat → List Nat
  | 0, _ => []
  | f + 1, n => if n = 0 then [] else dig f (n / 256) ++ [n % 256]
theorem dig_zero (f : Nat) : dig f 0 = [] := by cases f <;> simp [dig]
theorem dig_len : ∀ f n, (dig f n).length ≤ f
  | 0, _ => Nat.le_refl _
  | f + 1, n => by
    rw [dig]
    split
    · simp
    · rw [List.length_append]
      have := dig_len f (n / 256)
      simp
      omega
theorem dig_oct : ∀ f n, ∀ x ∈ dig f n, x < 256
  | 0, _, x, h => by cases h
  | f + 1, n, x, h => by
    rw [dig] at h
    split at h
    · cases h
    · rcases List.mem_append.1 h with h | h
      · exact dig_oct f _ x h
      · rw [List.mem_singleton.1 h]; omega
/-- A length's bytes. -/
def lenB (n : Nat) : List Nat := if n < 128 then [n] else (128 + (dig 6 n).length) :: dig 6 n
theorem lenB_len (n : Nat) : (lenB n).length ≤ 7 := by
  unfold lenB
  split
  · simp
  · have := dig_len 6 n
    simp
    omega
theorem lenB_oct (n : Nat) : ∀ x ∈ lenB n, x < 256 := by
  intro x hx
  unfold lenB at hx
  split at hx
  · rw [List.mem_singleton.1 hx]; omega
  · rcases List.mem_cons.1 hx with rfl | h
    · have := dig_len 6 n; omega
    · exact dig_oct 6 n x h
theorem info_u8 : (Tryz.prog.info? 5).map (fun i => (i.zero, i.size, i.bytes)) = some (some (.int .u8 0), 1, 1) := by kernel_rfl
theorem nums_cons (k : IntKind) (x : Nat) : nums k [x] = #[.int k (x : Int)] := rfl
theorem Mine.fresh1 (w : World) (B x : Nat) (hB : B ≤ w.heap.size) : Mine 5 (w.alloc (.cells #[.int .u8 (x : Int)] 5)) B (some ⟨w.heap.size, 0, none⟩) 1 [x] :=
  .inr ⟨w.heap.size, 0, #[.int .u8 (x : Int)], rfl, hB, Holds.fresh w _ _, Nat.le_refl _, by omega, by simp, fun j hj => by
    have : j = 0 := by simp at hj; omega
    subst this
    rfl⟩
theorem below_blk {w w' : World} {B : Nat} {A : Option Addr} (h : w.grownBy w' (blk_of A)) (hB : B ≤ w.heap.size) (hA : ∀ g, blk_of A = some g → B ≤ g) : Below B w w' :=
  ⟨h.os, h.tape, h.output, h.size, fun g hg => h.block g (by omega) (fun e => by have := hA g e.symm; omega)⟩

def RelL (w : World) (n : Nat) (v i : Value) (wr : World) : Prop :=
  ∃ (x f : Nat) (b : List Nat) (A' : Option Addr) (c' m : Nat), x ≤ n ∧ x < 256 ^ f ∧ i = .int .i64 (x : Int) ∧ v = .slice A' m c' ∧ Hid (b.length = m) ∧ f ≤ 6 ∧ Hid (b.length + f ≤ 6) ∧ Hid (dig 6 n = dig f x ++ b) ∧ Hid (Mine 5 wr w.heap.size A' c' b) ∧ Hid (Below w.heap.size w wr)
set_option maxRecDepth 100000 in
set_option maxHeartbeats 4000000 in
theorem length'_any (w : World) (n : Nat) (hn : n ≤ 5000000000) :
    Calls Tryz.prog 39 #[.int .i64 (n : Int)] w fun e w' => ∃ A c, e = .returned (.slice A (lenB n).length c) ∧ Mine 5 w' w.heap.size A c (lenB n) ∧ Below w.heap.size w w' := by
  by_cases h1 : n < 128
  case pos =>
    have HE : Hid (lenB n = [n]) := Lib.hid (by unfold lenB; rw [if_pos h1])
    have d1 : decide ((n : Int) < 128) = true := decide_eq_true (by omega)
    have hw : IntKind.u8.wrap (n : Int) = (n : Int) := by simp [IntKind.wrap, IntKind.signed, IntKind.bits]; omega
    have HM := Lib.hid (Mine.fresh1 w w.heap.size n (Nat.le_refl _))
    have HB : Hid (Below w.heap.size w (w.alloc (.cells #[.int .u8 (n : Int)] 5))) := Lib.hid ((Below.refl _ _).alloc (Nat.le_refl _) _)
    go_enter Tryz.func39, Tryz.ntmps39
    go_wp2_with fail
    go_ret
    exact ⟨_, _, by rw [HE.out]; rfl, by rw [HE.out]; exact HM.out, HB.out⟩
  case neg =>
    have d1 : decide ((n : Int) < 128) = false := decide_eq_false (by omega)
    have HE : Hid (lenB n = (128 + (dig 6 n).length) :: dig 6 n) := Lib.hid (by unfold lenB; rw [if_neg h1])
    go_enter Tryz.func39, Tryz.ntmps39
    go_wp2_with fail
    clear d1
    go_loopw [3, 4] (fun v i wr => RelL w n v i wr) (fun v i _ => (intOf i).toNat)
    case atStart => exact ⟨n, 6, [], none, 0, 0, Nat.le_refl _, by omega, rfl, rfl, Lib.hid rfl, by omega, Lib.hid (by simp), Lib.hid (by simp), Lib.hid (Mine.nil _ _ _), Lib.hid (Below.refl _ _)⟩
    case round =>
      obtain ⟨x, f, b, A', c', m, hx, hxf, rfl, rfl, HL, hf, HF, HD, HM, HQ⟩ := hrel
      obtain ⟨V, hV⟩ : ∃ V, V = wr := ⟨_, rfl⟩
      subst hV
      have hm6 : m ≤ 6 := by have := HL.out; have := HF.out; omega
      by_cases hx0 : 0 < x
      case pos =>
        have d2 : decide ((0 : Int) < (x : Int)) = true := decide_eq_true (by omega)
        have d3 : decide (0 < x) = true := decide_eq_true hx0
        obtain ⟨f', rfl⟩ : ∃ f', f = f' + 1 := ⟨f - 1, by
          rcases f with _ | f
          · simp at hxf; omega
          · rfl⟩
        have hr : Int.tmod (x : Int) 256 = ((x % 256 : Nat) : Int) := by rw [Int.tmod_eq_emod_of_nonneg (by omega)]; omega
        have hq : Int.tdiv (x : Int) 256 = ((x / 256 : Nat) : Int) := by rw [Int.tdiv_eq_ediv_of_nonneg (by omega)]; omega
        have hw : IntKind.u8.wrap ((x % 256 : Nat) : Int) = ((x % 256 : Nat) : Int) := by simp [IntKind.wrap, IntKind.signed, IntKind.bits]
        have HD2 : Hid (dig 6 n = dig f' (x / 256) ++ ([x % 256] ++ b)) := Lib.hid (by
          rw [HD.out, dig, if_neg (by omega), List.append_assoc])
        have hxf2 : x / 256 < 256 ^ f' := by rw [Nat.pow_succ] at hxf; omega
        obtain ⟨r, hr0⟩ : ∃ r, r = x % 256 := ⟨_, rfl⟩
        obtain ⟨q, hq0⟩ : ∃ q, q = x / 256 := ⟨_, rfl⟩
        have hql : q ≤ x / 2 := by omega
        rw [← hr0] at hr hw HD2
        rw [← hq0] at hq HD2 hxf2
        have HM1 : Hid (Mine 5 (V.alloc (.cells #[.int .u8 (r : Int)] 5)) w.heap.size (some ⟨V.heap.size, 0, none⟩) 1 [r]) := Lib.hid (Mine.fresh1 V w.heap.size r HQ.out.size)
        have HR1 : Hid (Rd .u8 (V.alloc (.cells #[.int .u8 (r : Int)] 5)) (V.alloc (.cells #[.int .u8 (r : Int)] 5)).heap.size A' c' b) := Lib.hid (HM.out.alloc _).rd
        have HQ1 : Hid (Below w.heap.size w (V.alloc (.cells #[.int .u8 (r : Int)] 5))) := Lib.hid (HQ.out.alloc HQ.out.size _)
        have HV0 : Hid (w.heap.size ≤ V.heap.size) := Lib.hid HQ.out.size
        clear hr0 hq0
        go_wp2_with (first | (refine wpList_mine (B2 := (V.alloc (.cells #[.int .u8 (r : Int)] 5)).heap.size) _ rfl (.tmp 18) (.tmp 19) 22 rfl 5 Tryz.underlying22 info_u8 rfl HM1.out rfl rfl HR1.out HL.out HQ1.out.size (by omega) ?_; intro A5 c5 W5 hm5 hg5 hat5) | fail)
        have HQ5 : Hid (Below w.heap.size w W5) := Lib.hid (HQ1.out.trans (below_blk hg5 HQ1.out.size (fun g hg => by have := HV0.out; simp [blk_of] at hg; omega)))
        have HM5 := Lib.hid hm5
        clear hm5 hg5 hat5
        go_roundw
        case rel => exact ⟨q, f', [r] ++ b, _, _, 1 + m, by omega, hxf2, rfl, rfl, Lib.hid (by rw [List.length_append, HL.out]; rfl), by omega, Lib.hid (by rw [List.length_append]; have := HF.out; simp; omega), HD2, HM5, HQ5⟩
        case measure => simp [intOf]; omega
      case neg =>
        obtain rfl : x = 0 := by omega
        have d2 : decide ((0 : Int) < ((0 : Nat) : Int)) = false := rfl
        have HD2 : Hid (dig 6 n = b) := Lib.hid (by rw [HD.out, dig_zero, List.nil_append])
        have hw : IntKind.u8.wrap (128 + (m : Int)) = ((128 + m : Nat) : Int) := by simp [IntKind.wrap, IntKind.signed, IntKind.bits]; omega
        have hwi : IntKind.i64.wrap (128 + (m : Int)) = 128 + (m : Int) := IntWalk.i64_in _ (by omega)
        obtain ⟨r, hr0⟩ : ∃ r, r = 128 + m := ⟨_, rfl⟩
        rw [← hr0] at hw
        have HE2 : Hid (lenB n = [r] ++ b ∧ (lenB n).length = 1 + m) := Lib.hid (by
          have e : lenB n = [r] ++ b := by rw [HE.out, HD2.out, HL.out, hr0]; rfl
          exact ⟨e, by rw [e, List.length_append, HL.out]; rfl⟩)
        have HM1 : Hid (Mine 5 (V.alloc (.cells #[.int .u8 (r : Int)] 5)) w.heap.size (some ⟨V.heap.size, 0, none⟩) 1 [r]) := Lib.hid (Mine.fresh1 V w.heap.size r HQ.out.size)
        have HR1 : Hid (Rd .u8 (V.alloc (.cells #[.int .u8 (r : Int)] 5)) (V.alloc (.cells #[.int .u8 (r : Int)] 5)).heap.size A' c' b) := Lib.hid (HM.out.alloc _).rd
        have HQ1 : Hid (Below w.heap.size w (V.alloc (.cells #[.int .u8 (r : Int)] 5))) := Lib.hid (HQ.out.alloc HQ.out.size _)
        have HV0 : Hid (w.heap.size ≤ V.heap.size) := Lib.hid HQ.out.size
        clear hr0
        go_wp2_with (first | (refine wpList_mine (B2 := (V.alloc (.cells #[.int .u8 (r : Int)] 5)).heap.size) _ rfl (.tmp 25) (.tmp 26) 22 rfl 5 Tryz.underlying22 info_u8 rfl HM1.out rfl rfl HR1.out HL.out HQ1.out.size (by omega) ?_; intro A5 c5 W5 hm5 hg5 hat5) | fail)
        have HQ5 : Hid (Below w.heap.size w W5) := Lib.hid (HQ1.out.trans (below_blk hg5 HQ1.out.size (fun g hg => by have := HV0.out; simp [blk_of] at hg; omega)))
        have HM5 := Lib.hid hm5
        clear hm5 hg5 hat5
        go_wp2_with fail
        go_ret
        exact ⟨_, _, by rw [HE2.out.2]; rfl, by rw [HE2.out.1]; exact HM5.out, HQ5.out⟩

def RelL2 (w : World) (n : Nat) (i v : Value) (wr : World) : Prop := RelL w n v i wr
set_option maxRecDepth 100000 in
set_option maxHeartbeats 4000000 in
theorem length_any (w : World) (n : Nat) (hn : n ≤ 10000000) :
    Calls Tryz.prog 126 #[.int .i64 (n : Int)] w fun e w' => ∃ A c, e = .returned (.slice A (lenB n).length c) ∧ Mine 5 w' w.heap.size A c (lenB n) ∧ Below w.heap.size w w' := by
  by_cases h1 : n < 128
  case pos =>
    have HE : Hid (lenB n = [n]) := Lib.hid (by unfold lenB; rw [if_pos h1])
    have d1 : decide ((n : Int) < 128) = true := decide_eq_true (by omega)
    have hw : IntKind.u8.wrap (n : Int) = (n : Int) := by simp [IntKind.wrap, IntKind.signed, IntKind.bits]; omega
    have HM := Lib.hid (Mine.fresh1 w w.heap.size n (Nat.le_refl _))
    have HB : Hid (Below w.heap.size w (w.alloc (.cells #[.int .u8 (n : Int)] 5))) := Lib.hid ((Below.refl _ _).alloc (Nat.le_refl _) _)
    go_enter Tryz.func126, Tryz.ntmps126
    go_wp2_with fail
    go_ret
    exact ⟨_, _, by rw [HE.out]; rfl, by rw [HE.out]; exact HM.out, HB.out⟩
  case neg =>
    have d1 : decide ((n : Int) < 128) = false := decide_eq_false (by omega)
    have HE : Hid (lenB n = (128 + (dig 6 n).length) :: dig 6 n) := Lib.hid (by unfold lenB; rw [if_neg h1])
    go_enter Tryz.func126, Tryz.ntmps126
    go_wp2_with fail
    clear d1
    go_loopw [0, 3] (fun i v wr => RelL2 w n i v wr) (fun i v _ => (intOf i).toNat)
    case atStart => exact ⟨n, 6, [], none, 0, 0, Nat.le_refl _, by omega, rfl, rfl, Lib.hid rfl, by omega, Lib.hid (by simp), Lib.hid (by simp), Lib.hid (Mine.nil _ _ _), Lib.hid (Below.refl _ _)⟩
    case round =>
      obtain ⟨x, f, b, A', c', m, hx, hxf, rfl, rfl, HL, hf, HF, HD, HM, HQ⟩ := hrel
      obtain ⟨V, hV⟩ : ∃ V, V = wr := ⟨_, rfl⟩
      subst hV
      have hm6 : m ≤ 6 := by have := HL.out; have := HF.out; omega
      by_cases hx0 : 0 < x
      case pos =>
        have d2 : decide ((0 : Int) < (x : Int)) = true := decide_eq_true (by omega)
        have d3 : decide (0 < x) = true := decide_eq_true hx0
        obtain ⟨f', rfl⟩ : ∃ f', f = f' + 1 := ⟨f - 1, by
          rcases f with _ | f
          · simp at hxf; omega
          · rfl⟩
        have hw : IntKind.u8.wrap (x : Int) = ((x % 256 : Nat) : Int) := by simp [IntKind.wrap, IntKind.signed, IntKind.bits]
        have HD2 : Hid (dig 6 n = dig f' (x / 256) ++ ([x % 256] ++ b)) := Lib.hid (by
          rw [HD.out, dig, if_neg (by omega), List.append_assoc])
        have hxf2 : x / 256 < 256 ^ f' := by rw [Nat.pow_succ] at hxf; omega
        obtain ⟨r, hr0⟩ : ∃ r, r = x % 256 := ⟨_, rfl⟩
        obtain ⟨q, hq0⟩ : ∃ q, q = x / 256 := ⟨_, rfl⟩
        have hql : q ≤ x / 2 := by omega
        rw [← hr0] at hw HD2
        rw [← hq0] at HD2 hxf2
        have HM1 : Hid (Mine 5 (V.alloc (.cells #[.int .u8 (r : Int)] 5)) w.heap.size (some ⟨V.heap.size, 0, none⟩) 1 [r]) := Lib.hid (Mine.fresh1 V w.heap.size r HQ.out.size)
        have HR1 : Hid (Rd .u8 (V.alloc (.cells #[.int .u8 (r : Int)] 5)) (V.alloc (.cells #[.int .u8 (r : Int)] 5)).heap.size A' c' b) := Lib.hid (HM.out.alloc _).rd
        have HQ1 : Hid (Below w.heap.size w (V.alloc (.cells #[.int .u8 (r : Int)] 5))) := Lib.hid (HQ.out.alloc HQ.out.size _)
        have HV0 : Hid (w.heap.size ≤ V.heap.size) := Lib.hid HQ.out.size
        clear hr0
        go_wp2_with (first | (refine wpList_mine (B2 := (V.alloc (.cells #[.int .u8 (r : Int)] 5)).heap.size) _ rfl (.tmp 15) (.tmp 16) 22 rfl 5 Tryz.underlying22 info_u8 rfl HM1.out rfl rfl HR1.out HL.out HQ1.out.size (by omega) ?_; intro A5 c5 W5 hm5 hg5 hat5) | fail)
        have HQ5 : Hid (Below w.heap.size w W5) := Lib.hid (HQ1.out.trans (below_blk hg5 HQ1.out.size (fun g hg => by have := HV0.out; simp [blk_of] at hg; omega)))
        have HM5 := Lib.hid hm5
        clear hm5 hg5 hat5
        go_roundw
        case rel => exact ⟨q, f', [r] ++ b, _, _, 1 + m, by omega, hxf2, by rw [hq0]; rfl, rfl, Lib.hid (by rw [List.length_append, HL.out]; rfl), by omega, Lib.hid (by rw [List.length_append]; have := HF.out; simp; omega), HD2, HM5, HQ5⟩
        case measure => simp [intOf]; omega
      case neg =>
        obtain rfl : x = 0 := by omega
        have d2 : decide ((0 : Int) < ((0 : Nat) : Int)) = false := rfl
        have HD2 : Hid (dig 6 n = b) := Lib.hid (by rw [HD.out, dig_zero, List.nil_append])
        have hw : IntKind.u8.wrap (m : Int) = (m : Int) := by simp [IntKind.wrap, IntKind.signed, IntKind.bits]; omega
        obtain ⟨r, hr0⟩ : ∃ r, r = 128 + m := ⟨_, rfl⟩
        have hrI : ((r : Nat) : Int) = 128 + (m : Int) := by omega
        have HE2 : Hid (lenB n = [r] ++ b ∧ (lenB n).length = 1 + m) := Lib.hid (by
          have e : lenB n = [r] ++ b := by rw [HE.out, HD2.out, HL.out, hr0]; rfl
          exact ⟨e, by rw [e, List.length_append, HL.out]; rfl⟩)
        have HM1 : Hid (Mine 5 (V.alloc (.cells #[.int .u8 (r : Int)] 5)) w.heap.size (some ⟨V.heap.size, 0, none⟩) 1 [r]) := Lib.hid (Mine.fresh1 V w.heap.size r HQ.out.size)
        have HR1 : Hid (Rd .u8 (V.alloc (.cells #[.int .u8 (r : Int)] 5)) (V.alloc (.cells #[.int .u8 (r : Int)] 5)).heap.size A' c' b) := Lib.hid (HM.out.alloc _).rd
        have HQ1 : Hid (Below w.heap.size w (V.alloc (.cells #[.int .u8 (r : Int)] 5))) := Lib.hid (HQ.out.alloc HQ.out.size _)
        have HV0 : Hid (w.heap.size ≤ V.heap.size) := Lib.hid HQ.out.size
        rw [hrI] at HM1 HR1 HQ1
        clear hr0 hrI
        go_wp2_with (first | (refine wpList_mine (B2 := (V.alloc (.cells #[.int .u8 (128 + (m : Int))] 5)).heap.size) _ rfl (.tmp 22) (.tmp 23) 22 rfl 5 Tryz.underlying22 info_u8 rfl HM1.out rfl rfl HR1.out HL.out HQ1.out.size (by omega) ?_; intro A5 c5 W5 hm5 hg5 hat5) | fail)
        have HQ5 : Hid (Below w.heap.size w W5) := Lib.hid (HQ1.out.trans (below_blk hg5 HQ1.out.size (fun g hg => by have := HV0.out; simp [blk_of] at hg; omega)))
        have HM5 := Lib.hid hm5
        clear hm5 hg5 hat5
        go_wp2_with fail
        go_ret
        exact ⟨_, _, by rw [HE2.out.2]; rfl, by rw [HE2.out.1]; exact HM5.out, HQ5.out⟩
end Go.Proofs.YtbkjjhpnjfdlbaaGreatDoor
namespace Go.Proofs.YtbkjjhpnjfdlbaaGreatDoor
open Go.RowKit
set_option linter.unusedVariables false
set_option linter.unusedSimpArgs false

mutual
/-- A thing's bytes. -/
def Tr.enc : Tr → List Nat
  | .mk tag body kids => tag :: (lenB (body.length + (Tr.encs kids).length) ++ (body ++ Tr.encs kids))
def Tr.encs : List Tr → List Nat
  | [] => []
  | x :: r => x.enc ++ Tr.encs r
end
theorem Tr.encs_append : ∀ (a b : List Tr), Tr.encs (a ++ b) = Tr.encs a ++ Tr.encs b
  | [], b => by simp [Tr.encs]
  | x :: r, b => by rw [List.cons_append, Tr.encs, Tr.encs, Tr.encs_append r b, List.append_assoc]
theorem Tr.encs_more {l : List Tr} {k : Nat} (h : k < l.length) : Tr.encs (l.take (k + 1)) = Tr.encs (l.take k) ++ (l.getD k default).enc := by
  rw [take_more l h, Tr.encs_append]
  simp [Tr.encs]
theorem Tr.encs_le (l : List Tr) (k : Nat) : (Tr.encs (l.take k)).length ≤ (Tr.encs l).length := by
  have := congrArg List.length (Tr.encs_append (l.take k) (l.drop k))
  rw [List.take_append_drop, List.length_append] at this
  omega
theorem Tr.enc_kid {l : List Tr} {k : Nat} (h : k < l.length) : (l.getD k default).enc.length ≤ (Tr.encs l).length := by
  have h1 := congrArg List.length (Tr.encs_more h)
  have h2 := Tr.encs_le l (k + 1)
  rw [List.length_append] at h1
  omega
theorem enc_oct : ∀ (N : Nat) (t : Lt) (w : World) (B : Nat), t.sz < N → TrAt w B t → ∀ x ∈ t.t.enc, x < 256 := by
  intro N
  induction N with
  | zero => intro t w B h; omega
  | succ N ih =>
    intro t w B hN hr x hx
    obtain ⟨tag, ba, bc, body, ka, kc, kids⟩ := t
    rw [trAt_mk] at hr
    obtain ⟨ht, _, hb, _, hk⟩ := hr
    rw [Lt.t_mk, Tr.enc] at hx
    rcases List.mem_cons.1 hx with rfl | hx
    · exact ht
    · rcases List.mem_append.1 hx with hx | hx
      · exact lenB_oct _ x hx
      · rcases List.mem_append.1 hx with hx | hx
        · exact hb x hx
        · have key : ∀ k, k ≤ kids.length → ∀ y ∈ Tr.encs ((kids.map Lt.t).take k), y < 256 := by
            intro k
            induction k with
            | zero => intro _ y hy; simp [Tr.encs] at hy
            | succ k ihk =>
              intro hk2 y hy
              rw [Tr.encs_more (by rw [List.length_map]; omega)] at hy
              rcases List.mem_append.1 hy with hy | hy
              · exact ihk (by omega) y hy
              · rw [Lt.ts_at (by omega)] at hy
                have := lt_kid (tag := tag) (ba := ba) (bc := bc) (body := body) (ka := ka) (kc := kc) (kids := kids) (j := k) (by omega)
                exact ih _ w B (by omega) (hk k (by omega)) y hy
          have := key kids.length (Nat.le_refl _)
          rw [List.take_of_length_le (by rw [List.length_map]; exact Nat.le_refl _)] at this
          exact this x hx

theorem Mine.less {e : TypeId} {w : World} {B B' : Nat} {A : Option Addr} {c : Nat} {l : List Nat} (h : Mine e w B A c l) (hB : B' ≤ B) : Mine e w B' A c l := by
  rcases h with h | ⟨g, off, cur, e1, hBg, rest⟩
  · exact .inl h
  · exact .inr ⟨g, off, cur, e1, by omega, rest⟩
theorem Mine.fresh0 (w : World) (B : Nat) (hB : B ≤ w.heap.size) : Mine 5 (w.alloc (.cells #[] 5)) B (some ⟨w.heap.size, 0, none⟩) 0 [] :=
  .inr ⟨w.heap.size, 0, #[], rfl, hB, Holds.fresh w _ _, Nat.le_refl _, by omega, by simp, fun j hj => by simp at hj⟩

def RelE (w : World) (cs : Array Value) (body : List Nat) (l : List Tr) (n : Nat) (v i : Value) (wr : World) : Prop :=
  ∃ (k : Nat) (A' : Option Addr) (c' m : Nat), k ≤ n ∧ i = .int .i64 k ∧ v = .slice A' m c' ∧ Hid ((body ++ Tr.encs (l.take k)).length = m) ∧ Hid (Mine 5 wr (w.heap.size + 1) A' c' (body ++ Tr.encs (l.take k))) ∧ Hid (Below w.heap.size w wr) ∧ Hid (Holds wr w.heap.size 31 cs)
theorem below_mine {V W : World} {A : Option Addr} {c : Nat} {l : List Nat} {e : TypeId} {B : Nat} (hM : Mine e V (B + 1) A c l) (hg : V.grownBy W (blk_of A)) (hB : B ≤ V.heap.size) : Below B V W := below_blk hg hB (fun g hg => by have := (hM.block hg).1; omega)
theorem holds_mine {V W : World} {A : Option Addr} {c : Nat} {l : List Nat} {e t : TypeId} {B : Nat} {cs : Array Value} (h : Holds V B t cs) (hM : Mine e V (B + 1) A c l) (hg : V.grownBy W (blk_of A)) : Holds W B t cs :=
  h.grown hg (fun e => by have := (hM.block e.symm).1; omega)
set_option maxRecDepth 100000 in
set_option maxHeartbeats 4000000 in
theorem laid_N : ∀ (N : Nat) (t : Lt) (w : World) (B : Nat), t.sz < N → TrAt w B t → B ≤ w.heap.size → t.t.enc.length ≤ 400000 →
    Calls Tryz.prog 24 #[t.val] w fun e w' => ∃ A c, e = .returned (.slice A t.t.enc.length c) ∧ Mine 5 w' w.heap.size A c t.t.enc ∧ Below w.heap.size w w' := by
  intro N
  induction N with
  | zero => intro t w B h; omega
  | succ N ih =>
    intro t w B hN hr hB hmx
    obtain ⟨tag, ba, bc, body, ka, kc, kids⟩ := t
    rw [trAt_mk] at hr
    obtain ⟨_, hbody, _, hrow, hkids⟩ := hr
    rw [Lt.t_mk] at hmx ⊢
    obtain ⟨n, hn⟩ : ∃ n, kids.length = n := ⟨_, rfl⟩
    obtain ⟨bl, hbl⟩ : ∃ n, body.length = n := ⟨_, rfl⟩
    obtain ⟨L, hL⟩ : ∃ L, kids.map Lt.t = L := ⟨_, rfl⟩
    have hLn : L.length = n := by rw [← hL, List.length_map, hn]
    rw [hL] at hmx ⊢
    have hmx2 : bl + (Tr.encs L).length ≤ 400000 := by
      rw [Tr.enc] at hmx
      simp only [List.length_cons, List.length_append] at hmx
      omega
    have HENC : Hid ((Tr.mk tag body L).enc = [tag] ++ lenB (bl + (Tr.encs L).length) ++ (body ++ Tr.encs L)) := Lib.hid (by rw [Tr.enc, hbl]; simp)
    have HMX := Lib.hid hmx2
    have HLN := Lib.hid hLn
    have hlc : n ≤ kc := by have := hrow.1; omega
    have hc63 := hrow.2.1
    have hblc : bl ≤ bc := by have := hbody.1; omega
    have hbc63 := hbody.2.1
    have HROW : Hid (∀ W, Below w.heap.size w W → RowT W B ka kc kids) := Lib.hid fun W hW => hrow.under (hW.mono hB)
    have HIH : Hid (∀ k, k < n → ∀ W, Below w.heap.size w W → Calls Tryz.prog 24 #[(kids.getD k default).val] W fun e w' => ∃ A c, e = .returned (.slice A (L.getD k default).enc.length c) ∧ Rd .u8 w' w'.heap.size A c (L.getD k default).enc ∧ Below W.heap.size W w') := Lib.hid fun k hk W hW => by
      have e : (L.getD k default) = (kids.getD k default).t := by rw [← hL, Lt.ts_at (by omega)]
      rw [e]
      refine (ih _ W B ?_ ((hkids k (by omega)).under' (hW.mono hB)) (by have := hW.size; omega) ?_).mono fun _ _ ⟨A, c, h1, h2, h3⟩ => ⟨A, c, h1, h2.rd, h3⟩
      · have := lt_kid (tag := tag) (ba := ba) (bc := bc) (body := body) (ka := ka) (kc := kc) (kids := kids) (j := k) (by omega)
        omega
      · have h1 := Tr.enc_kid (l := L) (k := k) (by omega)
        rw [e] at h1
        omega
    have HN2 := Lib.hid hn
    have HBL := Lib.hid hbl
    have hval : (Lt.mk tag ba bc body ka kc kids).val = .agg #[.int .u8 (tag : Int), .slice ba bl bc, .slice ka n kc] := by rw [← hn, ← hbl]; rfl
    rw [hval]
    obtain ⟨W1, hW1⟩ : ∃ W1, (w.alloc (.cells #[.int .u8 (tag : Int), .slice ba bl bc, .slice ka n kc] 31)) = W1 := ⟨_, rfl⟩
    have hs1 : W1.heap.size = w.heap.size + 1 := by rw [← hW1]; exact World.size_alloc _ _
    have hq1 : Below w.heap.size w W1 := by rw [← hW1]; exact (Below.refl _ _).alloc (Nat.le_refl _) _
    have hb1 : Holds W1 w.heap.size 31 #[.int .u8 (tag : Int), .slice ba bl bc, .slice ka n kc] := by rw [← hW1]; exact Holds.fresh _ _ _
    have hM0 : Hid (Mine 5 (W1.alloc (.cells #[] 5)) (w.heap.size + 1) (some ⟨w.heap.size + 1, 0, none⟩) 0 []) := Lib.hid (by rw [← hs1]; exact Mine.fresh0 W1 _ (Nat.le_refl _))
    have hQ0 : Hid (Below w.heap.size w (W1.alloc (.cells #[] 5))) := Lib.hid (hq1.alloc hq1.size _)
    have hB0 : Hid (Holds (W1.alloc (.cells #[] 5)) w.heap.size 31 #[.int .u8 (tag : Int), .slice ba bl bc, .slice ka n kc]) := Lib.hid (hb1.alloc _)
    have hR0 : Hid (Rd .u8 (W1.alloc (.cells #[] 5)) B ba bc body) := Lib.hid (hbody.under (hQ0.out.mono hB))
    rw [← hW1] at hM0 hQ0 hB0 hR0
    have z1 : ((w.alloc (.cells #[.int .u8 (tag : Int), .slice ba bl bc, .slice ka n kc] 31)).alloc (.cells #[] 5)).cell? ⟨w.heap.size, 1, none⟩ = some (.slice ba bl bc) := hB0.out.cell 1
    have e1 : (w.alloc (.cells #[.int .u8 (tag : Int), .slice ba bl bc, .slice ka n kc] 31)).heap.size = w.heap.size + 1 := World.size_alloc _ _
    have hblm : bl ≤ 400000 := by omega
    clear hN ih hrow hkids hmx hmx2 hLn hL hval hn hbl hbody hq1 hb1 hs1 hW1
    go_enter Tryz.func24, Tryz.ntmps24
    go_wp2_with (first | (at_builtin; refine wpList_mine (B := w.heap.size + 1) (l := []) _ rfl (.tmp 5) (.tmp 7) 22 rfl 5 Tryz.underlying22 info_u8 rfl hM0.out rfl rfl hR0.out HBL.out (by simp) (by omega) ?_; intro A5 c5 W5 hm5 hg5 hat5))
    rw [List.nil_append] at hm5
    have hQ5 : Hid (Below w.heap.size w W5) := Lib.hid (hQ0.out.trans (below_mine hM0.out hg5 hQ0.out.size))
    have hB5 : Hid (Holds W5 w.heap.size 31 #[.int .u8 (tag : Int), .slice ba bl bc, .slice ka n kc]) := Lib.hid (holds_mine hB0.out hM0.out hg5)
    have hM5 := Lib.hid hm5
    clear hm5 hg5 hat5 hM0 hQ0 hB0 hR0 z1 e1
    try rw [Nat.zero_add]
    go_loopw [3, 4] (fun v i wr => RelE w #[.int .u8 (tag : Int), .slice ba bl bc, .slice ka n kc] body L n v i wr) (fun v i _ => n - (intOf i).toNat)
    case atStart => exact ⟨0, _, _, bl, Nat.zero_le _, rfl, rfl, Lib.hid (by simp [Tr.encs, HBL.out]), by simpa [Tr.encs] using hM5, hQ5, hB5⟩
    case round =>
      clear hM5 hQ5 hB5
      obtain ⟨k, A', c', m, hk, rfl, rfl, HL, HM, HQ, HB⟩ := hrel
      obtain ⟨V, hV⟩ : ∃ V, V = wr := ⟨_, rfl⟩
      subst hV
      have z2 : V.cell? ⟨w.heap.size, 2, none⟩ = some (.slice ka n kc) := HB.out.cell 2
      have hmle : m ≤ 400000 := by
        have h1 := HL.out
        have h2 := Tr.encs_le L k
        have := HMX.out
        rw [List.length_append, HBL.out] at h1
        omega
      by_cases hkn : k < n
      case pos =>
        have hkI : (k : Int) < (n : Int) := by omega
        have hk0 : (0 : Int) ≤ (k : Int) := by omega
        obtain ⟨b, off, rfl, hb, hcs⟩ := (HROW.out V HQ.out).2.2 (by have := HN2.out; omega)
        obtain ⟨q0, q1, q2⟩ := hcs k (by have := HN2.out; omega)
        have HC := Lib.hid (HIH.out k hkn V HQ.out)
        have HEM : Hid (body ++ Tr.encs (L.take (k + 1)) = body ++ Tr.encs (L.take k) ++ (L.getD k default).enc ∧ (L.getD k default).enc.length ≤ 400000) := Lib.hid (by
          rw [Tr.encs_more (by have := HLN.out; omega), List.append_assoc]
          have := Tr.enc_kid (l := L) (k := k) (by have := HLN.out; omega)
          have := HMX.out
          exact ⟨rfl, by omega⟩)
        rw [show (kids.getD k default).val = .agg #[.int .u8 ((kids.getD k default).tag : Int), .slice (kids.getD k default).ba (kids.getD k default).body.length (kids.getD k default).bc, .slice (kids.getD k default).ka (kids.getD k default).kids.length (kids.getD k default).kc] from rfl] at HC
        clear hcs
        generalize (kids.getD k default).tag = dt at *
        generalize (kids.getD k default).ba = dba at *
        generalize (kids.getD k default).bc = dbc at *
        generalize (kids.getD k default).body.length = dbl at *
        generalize (kids.getD k default).ka = dka at *
        generalize (kids.getD k default).kids.length = dkl at *
        generalize (kids.getD k default).kc = dkc at *
        generalize (L.getD k default).enc = y at *
        go_wp2_with fail
        refine HC.out.mono ?_
        rintro e w2 ⟨A2, c2, rfl, hr2, hb2⟩
        have HQ2 : Hid (Below w.heap.size w w2) := Lib.hid (HQ.out.trans (hb2.mono HQ.out.size))
        have HB2 := Lib.hid (HB.out.under hb2 HB.out.lt)
        have HM2 := Lib.hid (HM.out.under hb2)
        have HR2 := Lib.hid hr2
        have hyl : y.length ≤ 400000 := HEM.out.2
        have hs2 : w.heap.size + 1 ≤ w2.heap.size := HB2.out.lt
        obtain ⟨yl, hyl0⟩ : ∃ n, y.length = n := ⟨_, rfl⟩
        have HYL := Lib.hid hyl0
        rw [hyl0] at hyl ⊢
        clear hb2 HC q0 q1 q2 z2 hr2 hyl0
        go_wp2_with (first | (at_builtin; refine wpList_mine (B := w.heap.size + 1) _ rfl (.tmp 16) (.tmp 22) 22 rfl 5 Tryz.underlying22 info_u8 rfl HM2.out HL.out rfl HR2.out HYL.out hs2 (by omega) ?_; intro A5 c5 W5 hm5 hg5 hat5))
        have HQ5 : Hid (Below w.heap.size w W5) := Lib.hid (HQ2.out.trans (below_mine HM2.out hg5 HQ2.out.size))
        have HB5 : Hid (Holds W5 w.heap.size 31 _) := Lib.hid (holds_mine HB2.out HM2.out hg5)
        have HM5 : Hid (Mine 5 W5 (w.heap.size + 1) A5 c5 (body ++ Tr.encs (L.take (k + 1)))) := Lib.hid (by rw [HEM.out.1]; exact hm5)
        clear hm5 hg5 hat5
        go_wp2_with fail
        go_roundw
        case rel => exact ⟨k + 1, _, _, m + yl, by omega, by go_num, rfl, Lib.hid (by rw [HEM.out.1, List.length_append, HL.out, HYL.out]), HM5, HQ5, HB5⟩
        case measure => simp [intOf]; omega
      case neg =>
        obtain rfl : k = n := by omega
        have hkI : ¬ ((k : Int) < (k : Int)) := by omega
        have z0 : V.cell? ⟨w.heap.size, 0, none⟩ = some (.int .u8 (tag : Int)) := HB.out.cell 0
        have HE : Hid (Tr.encs (L.take k) = Tr.encs L) := Lib.hid (by rw [List.take_of_length_le (by have := HLN.out; omega)])
        have HL2 : Hid ((body ++ Tr.encs L).length = m) := Lib.hid (by have := HL.out; rw [HE.out] at this; exact this)
        have HM2 : Hid (Mine 5 V (w.heap.size + 1) A' c' (body ++ Tr.encs L)) := Lib.hid (by have := HM.out; rw [HE.out] at this; exact this)
        have HENC2 : Hid ((Tr.mk tag body L).enc = [tag] ++ lenB m ++ (body ++ Tr.encs L)) := Lib.hid (by
          have h := HL2.out
          rw [List.length_append, HBL.out] at h
          rw [HENC.out, h])
        clear HL HM HENC HE
        have HBV : Hid (w.heap.size + 1 ≤ V.heap.size) := Lib.hid HB.out.lt
        have HVA : Hid (V.heap.size ≤ (V.drew.alloc (.cells #[.int .u8 (tag : Int)] 5)).heap.size) := Lib.hid (by simp)
        have HZV : Hid (V.cell? ⟨w.heap.size, 0, none⟩ = some (.int .u8 (tag : Int))) := Lib.hid z0
        have HSA : Hid ((V.drew.alloc (.cells #[.int .u8 (tag : Int)] 5)).cell? ⟨w.heap.size, 0, none⟩ = some (.int .u8 (tag : Int))) := Lib.hid ((World.cell?_alloc_past _ _ _ HBV.out).trans z0)
        have HMA : Hid (Mine 5 (V.drew.alloc (.cells #[.int .u8 (tag : Int)] 5)) (w.heap.size + 1) (some ⟨V.heap.size, 0, none⟩) 1 [tag]) := Lib.hid (Mine.fresh1 V.drew _ tag HBV.out)
        have HMB : Hid (Mine 5 (V.drew.alloc (.cells #[.int .u8 (tag : Int)] 5)) (w.heap.size + 1) A' c' (body ++ Tr.encs L)) := Lib.hid ((HM2.out.drewN 1).alloc _)
        have HQA : Hid (Below w.heap.size w (V.drew.alloc (.cells #[.int .u8 (tag : Int)] 5))) := Lib.hid (HQ.out.drew.alloc HQ.out.size _)
        have HLBA := Lib.hid (length'_any (V.drew.alloc (.cells #[.int .u8 (tag : Int)] 5)) m (by omega))
        have HLBB := Lib.hid (length'_any V.drew m (by omega))
        have HLL : Hid ((lenB m).length ≤ 7) := Lib.hid (lenB_len m)
        go_wp2_with fail
        refine wp_region_noPanic ?_
        refine wp_region_held_drew (S := fun W => W.cell? ⟨w.heap.size, 0, none⟩ = some (.int .u8 (tag : Int))) (by kernel_rfl) (HZV.out) (fun hHeld => ?_)
        refine wpAnyH_take (i := 0) (oi := { dst := some 24, op := Op.fieldAddr 31 (Operand.tmp 1) 0, type := 0, pos := _, after := _, guard := none }) (v := ?_) rfl (by kernel_rfl) (by kernel_rfl) (by kernel_rfl) (fun _ _ _ h => h) (Or.inl ⟨by rfl, ?_⟩) hHeld ?_
        rotate_left 1
        · (intro W hW; (try dsimp only at hW); go_simp; try with_reducible rfl)
        try simp only [Act.put, List.setIfInBounds_toArray, List.set_cons_zero, List.set_cons_succ]
        refine wpAnyH_take (i := 1) (oi := { dst := some 25, op := Op.load 5 (Operand.tmp 24), type := 5, pos := _, after := _, guard := none }) (v := ?_) rfl (by kernel_rfl) (by kernel_rfl) (by kernel_rfl) (fun _ _ _ h => h) (Or.inl ⟨by rfl, ?_⟩) hHeld ?_
        rotate_left 1
        · (intro W hW; (try dsimp only at hW); go_simp; try with_reducible rfl)
        try simp only [Act.put, List.setIfInBounds_toArray, List.set_cons_zero, List.set_cons_succ]
        refine wpAnyH_take (i := 3) (oi := { dst := some 27, op := Op.move (Operand.tmp 3), type := 22, pos := _, after := _, guard := none }) (v := ?_) rfl (by kernel_rfl) (by kernel_rfl) (by kernel_rfl) (fun _ _ _ h => h) (Or.inl ⟨by rfl, ?_⟩) hHeld ?_
        rotate_left 1
        · (intro W hW; (try dsimp only at hW); go_simp; try with_reducible rfl)
        try simp only [Act.put, List.setIfInBounds_toArray, List.set_cons_zero, List.set_cons_succ]
        refine wpAnyH_take (i := 4) (oi := { dst := some 28, op := Op.call { callee := Callee.builtin Builtin.len, args := #[Operand.tmp 27], argTypes := #[22] }, type := 3, pos := _, after := _, guard := none }) (v := ?_) rfl (by kernel_rfl) (by kernel_rfl) (by kernel_rfl) (fun _ _ _ h => h) (Or.inl ⟨by rfl, ?_⟩) hHeld ?_
        rotate_left 1
        · (intro W hW; (try dsimp only at hW); go_simp; try with_reducible rfl)
        try simp only [Act.put, List.setIfInBounds_toArray, List.set_cons_zero, List.set_cons_succ]
        refine wpAnyH_take (i := 7) (oi := { dst := some 31, op := Op.move (Operand.tmp 3), type := 22, pos := _, after := _, guard := none }) (v := ?_) rfl (by kernel_rfl) (by kernel_rfl) (by kernel_rfl) (fun _ _ _ h => h) (Or.inl ⟨by rfl, ?_⟩) hHeld ?_
        rotate_left 1
        · (intro W hW; (try dsimp only at hW); go_simp; try with_reducible rfl)
        try simp only [Act.put, List.setIfInBounds_toArray, List.set_cons_zero, List.set_cons_succ]
        refine wpAnyH_ready (rs := [2, 5]) (by kernel_rfl) (by simp) ?_
        refine AllReadyH.cons (o := { dst := some 26, op := Op.buildSlice 22 1 #[(0, Operand.tmp 25)], type := 22, pos := _, after := _, guard := none }) rfl (fun K hK => ?_) ?_
        · go_simp
          refine hK.out _ _ (HSA.out) (fun hHeld => ?_)
          clear hK K
          try simp only [Act.put, List.setIfInBounds_toArray, List.set_cons_zero, List.set_cons_succ]
          refine wpAnyH_ready (rs := [5]) (by kernel_rfl) (by simp) ?_
          refine AllReadyH.cons (o := { dst := some 29, op := Op.call { callee := Callee.value (Operand.func 39), args := #[Operand.tmp 28], argTypes := #[3] }, type := 22, pos := _, after := _, guard := none }) rfl (fun K hK => ?_) AllReadyH.nil
          go_simp
          refine HLBA.out.mono ?_
          rintro e w7 ⟨A7, c7, rfl, hm7, hb7⟩
          have HM7 : Hid (Mine 5 w7 (w.heap.size + 1) (some ⟨V.heap.size, 0, none⟩) 1 [tag]) := Lib.hid (HMA.out.under hb7)
          have HR7 : Hid (Rd .u8 w7 w7.heap.size A7 c7 (lenB m)) := Lib.hid hm7.rd
          have HM8 : Hid (Mine 5 w7 (w.heap.size + 1) A' c' (body ++ Tr.encs L)) := Lib.hid (HMB.out.under hb7)
          have HQ7 : Hid (Below w.heap.size w w7) := Lib.hid (HQA.out.trans (hb7.mono HQA.out.size))
          have HS7 : Hid (w.heap.size + 1 ≤ w7.heap.size) := Lib.hid (Nat.le_trans (Nat.le_trans HBV.out HVA.out) hb7.size)
          have HAN7 : Hid (∀ g, blk_of A' = some g → g ≠ V.heap.size) := Lib.hid fun g hg => by have := (HM2.out.block hg).2; omega
          have HZ7 : Hid (w7.cell? ⟨w.heap.size, 0, none⟩ = some (.int .u8 (tag : Int))) := Lib.hid ((hb7.cell (p := ⟨w.heap.size, 0, none⟩) (Nat.lt_of_lt_of_le HBV.out HVA.out)).trans HSA.out)
          clear hb7 hm7
          go_simp
          refine hK.out _ _ (HZ7.out) (fun hHeld => ?_)
          clear hK K
          try simp only [Act.put, List.setIfInBounds_toArray, List.set_cons_zero, List.set_cons_succ]
          refine wpAnyH_ready (rs := [6]) (by kernel_rfl) (by simp) ?_
          refine AllReadyH.cons (o := { dst := some 30, op := Op.call { callee := Callee.builtin Builtin.append, args := #[Operand.tmp 26, Operand.tmp 29], argTypes := #[22, 22] }, type := 22, pos := _, after := _, guard := none }) rfl (fun K hK => ?_) AllReadyH.nil
          refine step_mine (B := w.heap.size + 1) _ rfl (.tmp 26) (.tmp 29) 22 rfl 5 rfl Tryz.underlying22 info_u8 rfl HM7.out rfl rfl HR7.out rfl HS7.out (by have := HLL.out; omega) ?_
          intro A8 c8 w8 hm8 hg8
          have HM9 : Hid (Mine 5 w8 (w.heap.size + 1) A8 c8 ([tag] ++ lenB m)) := Lib.hid hm8
          have HR9 : Hid (Rd .u8 w8 w8.heap.size A' c' (body ++ Tr.encs L)) := Lib.hid (HM8.out.keep fun g hg => hg8.block g (HM8.out.block hg).2 (fun e => by simp [blk_of] at e; exact HAN7.out g hg e)).rd
          have HQ9 : Hid (Below w.heap.size w w8) := Lib.hid (HQ7.out.trans (below_mine HM7.out hg8 HQ7.out.size))
          have HS9 : Hid (w.heap.size + 1 ≤ w8.heap.size) := Lib.hid (Nat.le_trans HS7.out hg8.size)
          have HZ9 : Hid (w8.cell? ⟨w.heap.size, 0, none⟩ = some (.int .u8 (tag : Int))) := Lib.hid ((below_blk (B := w.heap.size + 1) hg8 HS7.out (fun g hg => (HM7.out.block hg).1) |>.cell (p := ⟨w.heap.size, 0, none⟩) (Nat.lt_succ_self _)).trans HZ7.out)
          have HL9 : Hid (([tag] ++ lenB m).length = 1 + (lenB m).length) := Lib.hid (by rw [List.length_append]; rfl)
          clear hm8 hg8
          refine hK.out _ _ (HZ9.out) (fun hHeld => ?_)
          clear hK K
          try simp only [Act.put, List.setIfInBounds_toArray, List.set_cons_zero, List.set_cons_succ]
          refine wpAnyH_ready (rs := [8]) (by kernel_rfl) (by simp) ?_
          refine AllReadyH.cons (o := { dst := some 32, op := Op.call { callee := Callee.builtin Builtin.append, args := #[Operand.tmp 30, Operand.tmp 31], argTypes := #[22, 22] }, type := 22, pos := _, after := _, guard := none }) rfl (fun K hK => ?_) AllReadyH.nil
          refine step_mine (B := w.heap.size + 1) _ rfl (.tmp 30) (.tmp 31) 22 rfl 5 rfl Tryz.underlying22 info_u8 rfl HM9.out HL9.out rfl HR9.out HL2.out HS9.out (by have := HLL.out; omega) ?_
          intro A10 c10 w10 hm10 hg10
          have HM11 : Hid (Mine 5 w10 (w.heap.size + 1) A10 c10 ([tag] ++ lenB m ++ (body ++ Tr.encs L))) := Lib.hid hm10
          have HQ11 : Hid (Below w.heap.size w w10) := Lib.hid (HQ9.out.trans (below_mine HM9.out hg10 HQ9.out.size))
          have HZ11 : Hid (w10.cell? ⟨w.heap.size, 0, none⟩ = some (.int .u8 (tag : Int))) := Lib.hid ((below_blk (B := w.heap.size + 1) hg10 HS9.out (fun g hg => (HM9.out.block hg).1) |>.cell (p := ⟨w.heap.size, 0, none⟩) (Nat.lt_succ_self _)).trans HZ9.out)
          clear hm10 hg10
          refine hK.out _ _ (HZ11.out) (fun hHeld => ?_)
          clear hK K
          try simp only [Act.put, List.setIfInBounds_toArray, List.set_cons_zero, List.set_cons_succ]
          refine wpAnyH_take (i := 9) (oi := { dst := some 2, op := Op.assign (Operand.tmp 32), type := 22, pos := _, after := _, guard := none }) (v := ?_) rfl (by kernel_rfl) (by kernel_rfl) (by kernel_rfl) (fun _ _ _ h => h) (Or.inl ⟨by rfl, ?_⟩) hHeld ?_
          rotate_left 1
          · (intro W hW; (try dsimp only at hW); go_simp; try with_reducible rfl)
          try simp only [Act.put, List.setIfInBounds_toArray, List.set_cons_zero, List.set_cons_succ]
          refine wpAnyH_done (by kernel_rfl) ?_ _
          refine NoPanic.normal ?_
          go_wp2_with fail
          go_ret
          exact ⟨_, _, by rw [HENC2.out, List.length_append, List.length_append, HL2.out]; rfl, by rw [HENC2.out]; exact HM11.out.less (Nat.le_succ _), HQ11.out⟩
        refine AllReadyH.cons (o := { dst := some 29, op := Op.call { callee := Callee.value (Operand.func 39), args := #[Operand.tmp 28], argTypes := #[3] }, type := 22, pos := _, after := _, guard := none }) rfl (fun K hK => ?_) AllReadyH.nil
        go_simp
        refine HLBB.out.mono ?_
        rintro e w7 ⟨A7, c7, rfl, hm7, hb7⟩
        have HM6 : Hid (Mine 5 w7 (w.heap.size + 1) A' c' (body ++ Tr.encs L)) := Lib.hid (Mine.under (w := V.drew) (HM2.out.drewN 1) hb7)
        have HR6 : Hid (Mine 5 w7 V.heap.size A7 c7 (lenB m)) := Lib.hid hm7
        have HQ6 : Hid (Below w.heap.size w w7) := Lib.hid (HQ.out.drew.trans (hb7.mono HQ.out.size))
        have HS6 : Hid (w.heap.size + 1 ≤ w7.heap.size) := Lib.hid (Nat.le_trans HBV.out hb7.size)
        have HZ6 : Hid (w7.cell? ⟨w.heap.size, 0, none⟩ = some (.int .u8 (tag : Int))) := Lib.hid ((hb7.cell (p := ⟨w.heap.size, 0, none⟩) HBV.out).trans HZV.out)
        clear hb7 hm7
        go_simp
        refine hK.out _ _ (HZ6.out) (fun hHeld => ?_)
        clear hK K
        try simp only [Act.put, List.setIfInBounds_toArray, List.set_cons_zero, List.set_cons_succ]
        refine wpAnyH_ready (rs := [2]) (by kernel_rfl) (by simp) ?_
        refine AllReadyH.cons (o := { dst := some 26, op := Op.buildSlice 22 1 #[(0, Operand.tmp 25)], type := 22, pos := _, after := _, guard := none }) rfl (fun K hK => ?_) AllReadyH.nil
        have HM7 : Hid (Mine 5 (w7.alloc (.cells #[.int .u8 (tag : Int)] 5)) (w.heap.size + 1) (some ⟨w7.heap.size, 0, none⟩) 1 [tag]) := Lib.hid (Mine.fresh1 w7 _ tag HS6.out)
        have HR7 : Hid (Rd .u8 (w7.alloc (.cells #[.int .u8 (tag : Int)] 5)) (w7.alloc (.cells #[.int .u8 (tag : Int)] 5)).heap.size A7 c7 (lenB m)) := Lib.hid (HR6.out.alloc _).rd
        have HM8 : Hid (Mine 5 (w7.alloc (.cells #[.int .u8 (tag : Int)] 5)) (w.heap.size + 1) A' c' (body ++ Tr.encs L)) := Lib.hid (HM6.out.alloc _)
        have HQ7 : Hid (Below w.heap.size w (w7.alloc (.cells #[.int .u8 (tag : Int)] 5))) := Lib.hid (HQ6.out.alloc HQ6.out.size _)
        have HS7 : Hid (w.heap.size + 1 ≤ (w7.alloc (.cells #[.int .u8 (tag : Int)] 5)).heap.size) := Lib.hid (by have := HS6.out; simp; omega)
        have HAN7 : Hid (∀ g, blk_of A' = some g → g ≠ w7.heap.size) := Lib.hid fun g hg => by have := (HM6.out.block hg).2; omega
        have HZ7 : Hid ((w7.alloc (.cells #[.int .u8 (tag : Int)] 5)).cell? ⟨w.heap.size, 0, none⟩ = some (.int .u8 (tag : Int))) := Lib.hid ((World.cell?_alloc_past _ _ _ HS6.out).trans HZ6.out)
        go_simp
        refine hK.out _ _ (HZ7.out) (fun hHeld => ?_)
        clear hK K
        try simp only [Act.put, List.setIfInBounds_toArray, List.set_cons_zero, List.set_cons_succ]
        refine wpAnyH_ready (rs := [6]) (by kernel_rfl) (by simp) ?_
        refine AllReadyH.cons (o := { dst := some 30, op := Op.call { callee := Callee.builtin Builtin.append, args := #[Operand.tmp 26, Operand.tmp 29], argTypes := #[22, 22] }, type := 22, pos := _, after := _, guard := none }) rfl (fun K hK => ?_) AllReadyH.nil
        refine step_mine (B := w.heap.size + 1) _ rfl (.tmp 26) (.tmp 29) 22 rfl 5 rfl Tryz.underlying22 info_u8 rfl HM7.out rfl rfl HR7.out rfl HS7.out (by have := HLL.out; omega) ?_
        intro A8 c8 w8 hm8 hg8
        have HM9 : Hid (Mine 5 w8 (w.heap.size + 1) A8 c8 ([tag] ++ lenB m)) := Lib.hid hm8
        have HR9 : Hid (Rd .u8 w8 w8.heap.size A' c' (body ++ Tr.encs L)) := Lib.hid (HM8.out.keep fun g hg => hg8.block g (HM8.out.block hg).2 (fun e => by simp [blk_of] at e; exact HAN7.out g hg e)).rd
        have HQ9 : Hid (Below w.heap.size w w8) := Lib.hid (HQ7.out.trans (below_mine HM7.out hg8 HQ7.out.size))
        have HS9 : Hid (w.heap.size + 1 ≤ w8.heap.size) := Lib.hid (Nat.le_trans HS7.out hg8.size)
        have HZ9 : Hid (w8.cell? ⟨w.heap.size, 0, none⟩ = some (.int .u8 (tag : Int))) := Lib.hid ((below_blk (B := w.heap.size + 1) hg8 HS7.out (fun g hg => (HM7.out.block hg).1) |>.cell (p := ⟨w.heap.size, 0, none⟩) (Nat.lt_succ_self _)).trans HZ7.out)
        have HL9 : Hid (([tag] ++ lenB m).length = 1 + (lenB m).length) := Lib.hid (by rw [List.length_append]; rfl)
        clear hm8 hg8
        refine hK.out _ _ (HZ9.out) (fun hHeld => ?_)
        clear hK K
        try simp only [Act.put, List.setIfInBounds_toArray, List.set_cons_zero, List.set_cons_succ]
        refine wpAnyH_ready (rs := [8]) (by kernel_rfl) (by simp) ?_
        refine AllReadyH.cons (o := { dst := some 32, op := Op.call { callee := Callee.builtin Builtin.append, args := #[Operand.tmp 30, Operand.tmp 31], argTypes := #[22, 22] }, type := 22, pos := _, after := _, guard := none }) rfl (fun K hK => ?_) AllReadyH.nil
        refine step_mine (B := w.heap.size + 1) _ rfl (.tmp 30) (.tmp 31) 22 rfl 5 rfl Tryz.underlying22 info_u8 rfl HM9.out HL9.out rfl HR9.out HL2.out HS9.out (by have := HLL.out; omega) ?_
        intro A10 c10 w10 hm10 hg10
        have HM11 : Hid (Mine 5 w10 (w.heap.size + 1) A10 c10 ([tag] ++ lenB m ++ (body ++ Tr.encs L))) := Lib.hid hm10
        have HQ11 : Hid (Below w.heap.size w w10) := Lib.hid (HQ9.out.trans (below_mine HM9.out hg10 HQ9.out.size))
        have HZ11 : Hid (w10.cell? ⟨w.heap.size, 0, none⟩ = some (.int .u8 (tag : Int))) := Lib.hid ((below_blk (B := w.heap.size + 1) hg10 HS9.out (fun g hg => (HM9.out.block hg).1) |>.cell (p := ⟨w.heap.size, 0, none⟩) (Nat.lt_succ_self _)).trans HZ9.out)
        clear hm10 hg10
        refine hK.out _ _ (HZ11.out) (fun hHeld => ?_)
        clear hK K
        try simp only [Act.put, List.setIfInBounds_toArray, List.set_cons_zero, List.set_cons_succ]
        refine wpAnyH_take (i := 9) (oi := { dst := some 2, op := Op.assign (Operand.tmp 32), type := 22, pos := _, after := _, guard := none }) (v := ?_) rfl (by kernel_rfl) (by kernel_rfl) (by kernel_rfl) (fun _ _ _ h => h) (Or.inl ⟨by rfl, ?_⟩) hHeld ?_
        rotate_left 1
        · (intro W hW; (try dsimp only at hW); go_simp; try with_reducible rfl)
        try simp only [Act.put, List.setIfInBounds_toArray, List.set_cons_zero, List.set_cons_succ]
        refine wpAnyH_done (by kernel_rfl) ?_ _
        refine NoPanic.normal ?_
        go_wp2_with fail
        go_ret
        exact ⟨_, _, by rw [HENC2.out, List.length_append, List.length_append, HL2.out]; rfl, by rw [HENC2.out]; exact HM11.out.less (Nat.le_succ _), HQ11.out⟩
theorem laid_any (t : Lt) (w : World) (B : Nat) (hr : TrAt w B t) (hB : B ≤ w.heap.size) (hmx : t.t.enc.length ≤ 400000) :
    Calls Tryz.prog 24 #[t.val] w fun e w' => ∃ A c, e = .returned (.slice A t.t.enc.length c) ∧ Mine 5 w' w.heap.size A c t.t.enc ∧ Below w.heap.size w w' := laid_N (t.sz + 1) t w B (Nat.lt_succ_self _) hr hB hmx
end Go.Proofs.YtbkjjhpnjfdlbaaGreatDoor
namespace Go.Proofs.YtbkjjhpnjfdlbaaGreatDoor
open Go.RowKit
set_option linter.unusedVariables false
set_option linter.unusedSimpArgs false

/-- How many bytes stand behind its length. -/
def Tr.inl : Tr → Nat
  | .mk _ body kids => body.length + (Tr.encs kids).length
theorem Tr.enc_len : ∀ t : Tr, t.enc.length = 1 + (lenB t.inl).length + t.inl
  | .mk _ body kids => by rw [Tr.enc, Tr.inl]; simp; omega
theorem Lt.val_eq (t : Lt) : t.val = .agg #[.int .u8 (t.tag : Int), .slice t.ba t.body.length t.bc, .slice t.ka t.kids.length t.kc] := rfl
set_option maxRecDepth 100000 in
set_option maxHeartbeats 4000000 in
theorem size_of (t : Lt) (w : World) (z : Nat) (hz : t.t.inl = z) (hmx : z ≤ 400000) (h : ∀ W, Below w.heap.size w W → Calls Tryz.prog 127 #[t.val] W fun e w' => e = .returned (.int .i64 (z : Int)) ∧ Below W.heap.size W w') :
    Calls Tryz.prog 125 #[t.val] w fun e w' => e = .returned (.int .i64 (t.t.enc.length : Int)) ∧ Below w.heap.size w w' := by
  have HE : Hid (t.t.enc.length = 1 + (lenB z).length + z) := Lib.hid (by rw [Tr.enc_len, hz])
  have HC := Lib.hid h
  rw [Lt.val_eq] at HC ⊢
  clear h hz
  generalize t.tag = tag at *
  generalize t.ba = ba at *
  generalize t.bc = bc at *
  generalize t.body.length = bl at *
  generalize t.ka = ka at *
  generalize t.kids.length = n at *
  generalize t.kc = kc at *
  have hq0 : Hid (Below w.heap.size w (w.alloc (.cells #[.int .u8 (tag : Int), .slice ba bl bc, .slice ka n kc] 31))) := Lib.hid ((Below.refl _ _).alloc (Nat.le_refl _) _)
  have hb0 : Holds (w.alloc (.cells #[.int .u8 (tag : Int), .slice ba bl bc, .slice ka n kc] 31)) w.heap.size 31 #[.int .u8 (tag : Int), .slice ba bl bc, .slice ka n kc] := Holds.fresh _ _ _
  have z0 : (w.alloc (.cells #[.int .u8 (tag : Int), .slice ba bl bc, .slice ka n kc] 31)).cell? ⟨w.heap.size, 0, none⟩ = some (.int .u8 (tag : Int)) := hb0.cell 0
  have z1 : (w.alloc (.cells #[.int .u8 (tag : Int), .slice ba bl bc, .slice ka n kc] 31)).cell? ⟨w.heap.size, 1, none⟩ = some (.slice ba bl bc) := hb0.cell 1
  have z2 : (w.alloc (.cells #[.int .u8 (tag : Int), .slice ba bl bc, .slice ka n kc] 31)).cell? ⟨w.heap.size, 2, none⟩ = some (.slice ka n kc) := hb0.cell 2
  have hlb := lenB_len z
  obtain ⟨y, hy⟩ : ∃ y, (lenB z).length = y := ⟨_, rfl⟩
  rw [hy] at HE hlb
  have HY := Lib.hid hy
  have hw1 : IntKind.i64.wrap (1 + (y : Int)) = 1 + (y : Int) := IntWalk.i64_in _ (by omega)
  have hw2 : IntKind.i64.wrap (1 + (y : Int) + (z : Int)) = 1 + (y : Int) + (z : Int) := IntWalk.i64_in _ (by omega)
  clear hb0 hy
  go_enter Tryz.func125, Tryz.ntmps125
  go_wp2_with fail
  refine (HC.out _ hq0.out).mono ?_
  rintro e w2 ⟨rfl, hb2⟩
  have HQ2 := Lib.hid (hq0.out.trans (hb2.mono hq0.out.size))
  clear hb2 HC hq0 z0 z1 z2
  go_wp2_with fail
  refine (length_any w2 z (by omega)).mono ?_
  rintro e w3 ⟨A3, c3, rfl, hm3, hb3⟩
  have HQ3 := Lib.hid (HQ2.out.trans (hb3.mono HQ2.out.size))
  rw [HY.out]
  clear hb3 hm3 HQ2
  go_wp2_with fail
  go_ret
  exact ⟨ret_int (by rw [HE.out]; push_cast; rfl), HQ3.out⟩

def RelI (w : World) (cs : Array Value) (bl : Nat) (l : List Tr) (n : Nat) (v i : Value) (wr : World) : Prop :=
  ∃ k : Nat, k ≤ n ∧ i = .int .i64 k ∧ v = .int .i64 ((bl : Int) + ((Tr.encs (l.take k)).length : Int)) ∧ Hid (Below w.heap.size w wr)
set_option maxRecDepth 100000 in
set_option maxHeartbeats 4000000 in
theorem inner_N : ∀ (N : Nat) (t : Lt) (w : World) (B : Nat), t.sz < N → TrAt w B t → B ≤ w.heap.size → t.t.inl ≤ 400000 →
    Calls Tryz.prog 127 #[t.val] w fun e w' => e = .returned (.int .i64 (t.t.inl : Int)) ∧ Below w.heap.size w w' := by
  intro N
  induction N with
  | zero => intro t w B h; omega
  | succ N ih =>
    intro t w B hN hr hB hmx
    obtain ⟨tag, ba, bc, body, ka, kc, kids⟩ := t
    rw [trAt_mk] at hr
    obtain ⟨_, _, _, hrow, hkids⟩ := hr
    rw [Lt.t_mk, Tr.inl] at hmx ⊢
    obtain ⟨n, hn⟩ : ∃ n, kids.length = n := ⟨_, rfl⟩
    obtain ⟨bl, hbl⟩ : ∃ n, body.length = n := ⟨_, rfl⟩
    obtain ⟨L, hL⟩ : ∃ L, kids.map Lt.t = L := ⟨_, rfl⟩
    have hLn : L.length = n := by rw [← hL, List.length_map, hn]
    rw [hL, hbl] at hmx ⊢
    have HMX := Lib.hid hmx
    have HLN := Lib.hid hLn
    have hlc : n ≤ kc := by have := hrow.1; omega
    have hc63 := hrow.2.1
    have HROW : Hid (∀ W, Below w.heap.size w W → RowT W B ka kc kids) := Lib.hid fun W hW => hrow.under (hW.mono hB)
    have HIH : Hid (∀ k, k < n → ∀ W, Below w.heap.size w W → Calls Tryz.prog 125 #[(kids.getD k default).val] W fun e w' => e = .returned (.int .i64 ((L.getD k default).enc.length : Int)) ∧ Below W.heap.size W w') := Lib.hid fun k hk W hW => by
      have e : (L.getD k default) = (kids.getD k default).t := by rw [← hL, Lt.ts_at (by omega)]
      have h1 := Tr.enc_kid (l := L) (k := k) (by omega)
      rw [e] at h1 ⊢
      have hin : (kids.getD k default).t.inl ≤ 400000 := by rw [Tr.enc_len] at h1; omega
      refine size_of _ W _ rfl hin fun W' hW' => ?_
      have hWW := hW.trans (hW'.mono hW.size)
      refine ih _ W' B ?_ ((hkids k (by omega)).under' (hWW.mono hB)) (by have := hWW.size; omega) hin
      have := lt_kid (tag := tag) (ba := ba) (bc := bc) (body := body) (ka := ka) (kc := kc) (kids := kids) (j := k) (by omega)
      omega
    have HN2 := Lib.hid hn
    have hval : (Lt.mk tag ba bc body ka kc kids).val = .agg #[.int .u8 (tag : Int), .slice ba bl bc, .slice ka n kc] := by rw [← hn, ← hbl]; rfl
    rw [hval]
    have hb0 : Holds (w.alloc (.cells #[.int .u8 (tag : Int), .slice ba bl bc, .slice ka n kc] 31)) w.heap.size 31 #[.int .u8 (tag : Int), .slice ba bl bc, .slice ka n kc] := Holds.fresh _ _ _
    have hq0 : Hid (Below w.heap.size w (w.alloc (.cells #[.int .u8 (tag : Int), .slice ba bl bc, .slice ka n kc] 31))) := Lib.hid ((Below.refl _ _).alloc (Nat.le_refl _) _)
    have z1 : (w.alloc (.cells #[.int .u8 (tag : Int), .slice ba bl bc, .slice ka n kc] 31)).cell? ⟨w.heap.size, 1, none⟩ = some (.slice ba bl bc) := hb0.cell 1
    have z2 : (w.alloc (.cells #[.int .u8 (tag : Int), .slice ba bl bc, .slice ka n kc] 31)).cell? ⟨w.heap.size, 2, none⟩ = some (.slice ka n kc) := hb0.cell 2
    clear hN ih hrow hkids hmx hLn hL hval hn hbl hb0
    go_enter Tryz.func127, Tryz.ntmps127
    go_wp2_with fail
    generalize w.alloc (.cells #[.int .u8 (tag : Int), .slice ba bl bc, .slice ka n kc] 31) = W at *
    clear z1 z2
    go_loopw [3, 12] (fun v i wr => RelI w #[] bl L n v i wr) (fun v i _ => n - (intOf i).toNat)
    case atStart => exact ⟨0, Nat.zero_le _, rfl, by simp [Tr.encs], hq0⟩
    case round =>
      clear hq0
      obtain ⟨k, hk, rfl, rfl, HQ⟩ := hrel
      obtain ⟨V, hV⟩ : ∃ V, V = wr := ⟨_, rfl⟩
      subst hV
      by_cases hkn : k < n
      case pos =>
        have hkI : (k : Int) < (n : Int) := by omega
        have hk0 : (0 : Int) ≤ (k : Int) := by omega
        obtain ⟨b, off, rfl, hb, hcs⟩ := (HROW.out V HQ.out).2.2 (by have := HN2.out; omega)
        obtain ⟨q0, q1, q2⟩ := hcs k (by have := HN2.out; omega)
        have HC : Hid (∀ W, Below w.heap.size w W → Calls Tryz.prog 125 #[.agg #[.int .u8 ((kids.getD k default).tag : Int), .slice (kids.getD k default).ba (kids.getD k default).body.length (kids.getD k default).bc, .slice (kids.getD k default).ka (kids.getD k default).kids.length (kids.getD k default).kc]] W fun e w' => e = .returned (.int .i64 ((L.getD k default).enc.length : Int)) ∧ Below W.heap.size W w') := Lib.hid fun W hW => HIH.out k hkn W hW
        have HCM : Hid ((Tr.encs (L.take (k + 1))).length = (Tr.encs (L.take k)).length + (L.getD k default).enc.length ∧ bl + (Tr.encs (L.take (k + 1))).length ≤ 400000) := Lib.hid (by
          have h1 := congrArg List.length (Tr.encs_more (l := L) (k := k) (by have := HLN.out; omega))
          have h2 := Tr.encs_le L (k + 1)
          rw [List.length_append] at h1
          have := HMX.out
          omega)
        clear hcs
        generalize (kids.getD k default).tag = dt at *
        generalize (kids.getD k default).ba = dba at *
        generalize (kids.getD k default).bc = dbc at *
        generalize (kids.getD k default).body.length = dbl at *
        generalize (kids.getD k default).ka = dka at *
        generalize (kids.getD k default).kids.length = dkl at *
        generalize (kids.getD k default).kc = dkc at *
        generalize (L.getD k default).enc.length = y at *
        generalize hx0 : (Tr.encs (L.take k)).length = x at *
        have HX0 := Lib.hid hx0
        clear hx0
        have hws : IntKind.i64.wrap ((bl : Int) + (x : Int) + (y : Int)) = (bl : Int) + ((x + y : Nat) : Int) := by rw [IntWalk.i64_in _ (by have := HCM.out; omega)]; push_cast; omega
        have hb9 : Holds (V.alloc (.cells #[.int .u8 (dt : Int), .slice dba dbl dbc, .slice dka dkl dkc] 31)) V.heap.size 31 #[.int .u8 (dt : Int), .slice dba dbl dbc, .slice dka dkl dkc] := Holds.fresh _ _ _
        have hq9 : Hid (Below w.heap.size w (V.alloc (.cells #[.int .u8 (dt : Int), .slice dba dbl dbc, .slice dka dkl dkc] 31))) := Lib.hid (HQ.out.alloc HQ.out.size _)
        have y0 : (V.alloc (.cells #[.int .u8 (dt : Int), .slice dba dbl dbc, .slice dka dkl dkc] 31)).cell? ⟨V.heap.size, 0, none⟩ = some (.int .u8 (dt : Int)) := hb9.cell 0
        have y1 : (V.alloc (.cells #[.int .u8 (dt : Int), .slice dba dbl dbc, .slice dka dkl dkc] 31)).cell? ⟨V.heap.size, 1, none⟩ = some (.slice dba dbl dbc) := hb9.cell 1
        have y2 : (V.alloc (.cells #[.int .u8 (dt : Int), .slice dba dbl dbc, .slice dka dkl dkc] 31)).cell? ⟨V.heap.size, 2, none⟩ = some (.slice dka dkl dkc) := hb9.cell 2
        clear hb9
        go_wp2_with fail
        refine (HC.out _ hq9.out).mono ?_
        rintro e w2 ⟨rfl, hb2⟩
        have HQ2 : Hid (Below w.heap.size w w2) := Lib.hid (hq9.out.trans (hb2.mono hq9.out.size))
        clear hb2 HC q0 q1 q2 y0 y1 y2 hq9
        go_wp2_with fail
        go_roundw
        case rel => exact ⟨k + 1, by omega, by go_num, by rw [HCM.out.1]; push_cast; simp only [Int.add_assoc], HQ2⟩
        case measure => simp [intOf]; omega
      case neg =>
        obtain rfl : k = n := by omega
        have hkI : ¬ ((k : Int) < (k : Int)) := by omega
        have HE : Hid (Tr.encs (L.take k) = Tr.encs L) := Lib.hid (by rw [List.take_of_length_le (by have := HLN.out; omega)])
        go_wp2_with fail
        go_ret
        exact ⟨ret_int (by rw [HE.out]), HQ.out⟩
theorem inner_any (t : Lt) (w : World) (B : Nat) (hr : TrAt w B t) (hB : B ≤ w.heap.size) (hmx : t.t.inl ≤ 400000) :
    Calls Tryz.prog 127 #[t.val] w fun e w' => e = .returned (.int .i64 (t.t.inl : Int)) ∧ Below w.heap.size w w' := inner_N (t.sz + 1) t w B (Nat.lt_succ_self _) hr hB hmx
theorem size_any (t : Lt) (w : World) (B : Nat) (hr : TrAt w B t) (hB : B ≤ w.heap.size) (hmx : t.t.inl ≤ 400000) :
    Calls Tryz.prog 125 #[t.val] w fun e w' => e = .returned (.int .i64 (t.t.enc.length : Int)) ∧ Below w.heap.size w w' :=
  size_of t w _ rfl hmx fun W hW => inner_any t W B (hr.under' (hW.mono hB)) (by have := hW.size; omega) hmx
end Go.Proofs.YtbkjjhpnjfdlbaaGreatDoor
namespace Go.Proofs.YtbkjjhpnjfdlbaaGreatDoor
open Go.RowKit
set_option linter.unusedVariables false
set_option linter.unusedSimpArgs false

/-- Only the slice's own block has turned, and it lies where it lay or in a new one. -/
def Grew (w w' : World) (A A' : Option Addr) : Prop := w.grownBy w' (blk_of A) ∧ ∀ g, blk_of A' = some g → blk_of A = some g ∨ w.heap.size ≤ g
theorem Grew.refl (w : World) (A : Option Addr) : Grew w w A A := ⟨World.grownBy.refl w _, fun g hg => .inl hg⟩
theorem Grew.trans {w w1 w2 : World} {A A1 A2 : Option Addr} (h : Grew w w1 A A1) (h' : Grew w1 w2 A1 A2) : Grew w w2 A A2 :=
  ⟨⟨h'.1.os.trans h.1.os, h'.1.tape.trans h.1.tape, h'.1.output.trans h.1.output, Nat.le_trans h.1.size h'.1.size, fun k hk hne => (h'.1.block k (Nat.lt_of_lt_of_le hk h.1.size) (fun e => by
    rcases h.2 k e.symm with h1 | h1
    · exact hne h1.symm
    · omega)).trans (h.1.block k hk hne)⟩, fun g hg => by
    rcases h'.2 g hg with h1 | h1
    · exact h.2 g h1
    · exact .inr (Nat.le_trans h.1.size h1)⟩
theorem Grew.of_below {w w' : World} {A : Option Addr} (h : Below w.heap.size w w') : Grew w w' A A := ⟨⟨h.os, h.tape, h.output, h.size, fun k hk _ => h.block k hk⟩, fun g hg => .inl hg⟩
theorem Grew.of_mine {w w' : World} {A A' : Option Addr} (h : w.grownBy w' (blk_of A)) (hat : blk_of A' = blk_of A ∨ blk_of A' = some w.heap.size) : Grew w w' A A' :=
  ⟨h, fun g hg => hat.elim (fun e => .inl (e ▸ hg)) fun e => .inr (by rw [e] at hg; injection hg with hg; omega)⟩
theorem Grew.below {w w' : World} {A A' : Option Addr} {B0 : Nat} (h : Grew w w' A A') (hB : B0 ≤ w.heap.size) (hA : ∀ g, blk_of A = some g → B0 ≤ g) : Below B0 w w' := below_blk h.1 hB hA
theorem Grew.holds {w w' : World} {A A' : Option Addr} {g : Nat} {t : TypeId} {cs : Array Value} (h : Grew w w' A A') (hh : Holds w g t cs) (hne : blk_of A ≠ some g) : Holds w' g t cs := hh.grown h.1 (fun e => hne e.symm)
theorem Grew.apart {w w' : World} {A A' : Option Addr} {g : Nat} (h : Grew w w' A A') (hg : g < w.heap.size) (hne : blk_of A ≠ some g) : blk_of A' ≠ some g := fun e => by
  rcases h.2 g e with h1 | h1
  · exact hne h1
  · omega

def RelU (w : World) (B0 : Nat) (cs : Array Value) (A : Option Addr) (p : List Nat) (l : List Tr) (n : Nat) (v i : Value) (wr : World) : Prop :=
  ∃ (k : Nat) (A' : Option Addr) (c' m : Nat), k ≤ n ∧ i = .int .i64 k ∧ v = .slice A' m c' ∧ Hid ((p ++ Tr.encs (l.take k)).length = m) ∧ Hid (Mine 5 wr B0 A' c' (p ++ Tr.encs (l.take k))) ∧ Hid (Grew w wr A A') ∧ Hid (Holds wr w.heap.size 31 cs) ∧ Hid (blk_of A' ≠ some w.heap.size)
set_option maxRecDepth 100000 in
set_option maxHeartbeats 4000000 in
theorem put_N : ∀ (N : Nat) (t : Lt) (w : World) (B B0 : Nat) (A : Option Addr) (c n0 : Nat) (p : List Nat), t.sz < N → TrAt w B t → B ≤ B0 → B0 ≤ w.heap.size → Mine 5 w B0 A c p → p.length = n0 → n0 + t.t.enc.length ≤ 400000 →
    Calls Tryz.prog 103 #[.slice A n0 c, t.val] w fun e w' => ∃ A' c', e = .returned (.slice A' (n0 + t.t.enc.length) c') ∧ Mine 5 w' B0 A' c' (p ++ t.t.enc) ∧ Grew w w' A A' := by
  intro N
  induction N with
  | zero => intro t w B B0 A c n0 p h; omega
  | succ N ih =>
    intro t w B B0 A c n0 p hN hr hBB hB hm hp hmx
    have hr0 := hr
    obtain ⟨tag, ba, bc, body, ka, kc, kids⟩ := t
    rw [trAt_mk] at hr
    obtain ⟨_, hbody, _, hrow, hkids⟩ := hr
    have hINN : ∀ W, Below B0 w W → Calls Tryz.prog 127 #[(Lt.mk tag ba bc body ka kc kids).val] W fun e w' => e = .returned (.int .i64 ((Lt.mk tag ba bc body ka kc kids).t.inl : Int)) ∧ Below W.heap.size W w' := fun W hW => inner_any _ W B (hr0.under' (hW.mono hBB)) (by have := hW.size; omega) (by rw [Tr.enc_len] at hmx; omega)
    rw [Lt.t_mk] at hmx hINN ⊢
    obtain ⟨n, hn⟩ : ∃ n, kids.length = n := ⟨_, rfl⟩
    obtain ⟨bl, hbl⟩ : ∃ n, body.length = n := ⟨_, rfl⟩
    obtain ⟨L, hL⟩ : ∃ L, kids.map Lt.t = L := ⟨_, rfl⟩
    have hLn : L.length = n := by rw [← hL, List.length_map, hn]
    rw [hL] at hmx hINN ⊢
    obtain ⟨z, hz⟩ : ∃ z, (Tr.mk tag body L).inl = z := ⟨_, rfl⟩
    have hzz : z = bl + (Tr.encs L).length := by rw [← hz, Tr.inl, hbl]
    have henl := Tr.enc_len (Tr.mk tag body L)
    rw [hz] at henl hINN
    have HENC : Hid (p ++ (Tr.mk tag body L).enc = p ++ [tag] ++ lenB z ++ body ++ Tr.encs L) := Lib.hid (by rw [Tr.enc, hbl, ← hzz]; simp)
    have HLN := Lib.hid hLn
    have hlc : n ≤ kc := by have := hrow.1; omega
    have hc63 := hrow.2.1
    have hblc : bl ≤ bc := by have := hbody.1; omega
    have hbc63 := hbody.2.1
    have HROW : Hid (∀ W, Below B0 w W → RowT W B ka kc kids) := Lib.hid fun W hW => hrow.under (hW.mono hBB)
    have HBODY : Hid (∀ W, Below B0 w W → Rd .u8 W B ba bc body) := Lib.hid fun W hW => hbody.under (hW.mono hBB)
    have HIH : Hid (∀ k, k < n → ∀ W, Below B0 w W → ∀ (A : Option Addr) (c m : Nat) (q : List Nat), Mine 5 W B0 A c q → q.length = m → m + (L.getD k default).enc.length ≤ 400000 → Calls Tryz.prog 103 #[.slice A m c, (kids.getD k default).val] W fun e w' => ∃ A' c', e = .returned (.slice A' (m + (L.getD k default).enc.length) c') ∧ Mine 5 w' B0 A' c' (q ++ (L.getD k default).enc) ∧ Grew W w' A A') := Lib.hid fun k hk W hW A c m q hq hql hqm => by
      have e : (L.getD k default) = (kids.getD k default).t := by rw [← hL, Lt.ts_at (by omega)]
      rw [e] at hqm ⊢
      refine ih _ W B B0 A c m q ?_ ((hkids k (by omega)).under' (hW.mono hBB)) hBB (by have := hW.size; omega) hq hql hqm
      have := lt_kid (tag := tag) (ba := ba) (bc := bc) (body := body) (ka := ka) (kc := kc) (kids := kids) (j := k) (by omega)
      omega
    have HN2 := Lib.hid hn
    have HBL := Lib.hid hbl
    have HZZ := Lib.hid hzz
    have HP := Lib.hid hp
    have HINN := Lib.hid hINN
    have hll := lenB_len z
    obtain ⟨y, hy⟩ : ∃ y, lenB z = y := ⟨_, rfl⟩
    obtain ⟨yl, hyl⟩ : ∃ n, y.length = n := ⟨_, rfl⟩
    rw [hy] at hll henl HENC
    rw [hyl] at hll henl
    have HY := Lib.hid hy
    have HYL := Lib.hid hyl
    rw [henl] at hmx ⊢
    have hval : (Lt.mk tag ba bc body ka kc kids).val = .agg #[.int .u8 (tag : Int), .slice ba bl bc, .slice ka n kc] := by rw [← hn, ← hbl]; rfl
    rw [hval] at HINN ⊢
    have hblz : bl ≤ z := by omega
    have hAne : blk_of A ≠ some w.heap.size := fun e => by have := (hm.block e).2; omega
    -- the box
    obtain ⟨W1, hW1⟩ : ∃ W1, w.alloc (.cells #[.int .u8 (tag : Int), .slice ba bl bc, .slice ka n kc] 31) = W1 := ⟨_, rfl⟩
    have hq1 : Below w.heap.size w W1 := by rw [← hW1]; exact (Below.refl _ _).alloc (Nat.le_refl _) _
    have hb1 : Holds W1 w.heap.size 31 #[.int .u8 (tag : Int), .slice ba bl bc, .slice ka n kc] := by rw [← hW1]; exact Holds.fresh _ _ _
    have hm1 : Mine 5 W1 B0 A c p := hm.under hq1
    have hs1 : W1.heap.size = w.heap.size + 1 := by rw [← hW1]; exact World.size_alloc _ _
    have HX1 : Hid (Mine 5 (W1.alloc (.cells #[.int .u8 (tag : Int)] 5)) B0 A c p) := Lib.hid (hm1.alloc _)
    have HX2 : Hid (Rd .u8 (W1.alloc (.cells #[.int .u8 (tag : Int)] 5)) (W1.alloc (.cells #[.int .u8 (tag : Int)] 5)).heap.size (some ⟨w.heap.size + 1, 0, none⟩) 1 [tag]) := Lib.hid (by rw [← hs1]; exact (Mine.fresh1 W1 B0 tag (Nat.le_trans hB hq1.size)).rd)
    have HX3 : Hid (Below w.heap.size w (W1.alloc (.cells #[.int .u8 (tag : Int)] 5))) := Lib.hid (hq1.alloc hq1.size _)
    have HX4 : Hid (Holds (W1.alloc (.cells #[.int .u8 (tag : Int)] 5)) w.heap.size 31 #[.int .u8 (tag : Int), .slice ba bl bc, .slice ka n kc]) := Lib.hid (hb1.alloc _)
    have HBW : Hid (B0 ≤ (W1.alloc (.cells #[.int .u8 (tag : Int)] 5)).heap.size) := Lib.hid (Nat.le_trans hB HX3.out.size)
    have z0 : W1.cell? ⟨w.heap.size, 0, none⟩ = some (.int .u8 (tag : Int)) := hb1.cell 0
    have HAB : Hid (∀ g, blk_of A = some g → B0 ≤ g) := Lib.hid fun g hg => (hm.block hg).1
    rw [← hW1] at HX1 HX2 HX3 HX4 HBW z0 hs1
    have HANE := Lib.hid hAne
    have HF : Hid (∀ w2, (W1.alloc (.cells #[.int .u8 (tag : Int)] 5)).grownBy w2 (blk_of A) → w2.cell? ⟨w.heap.size, 0, none⟩ = some (.int .u8 (tag : Int)) ∧ w2.cell? ⟨w.heap.size, 1, none⟩ = some (.slice ba bl bc) ∧ w2.cell? ⟨w.heap.size, 2, none⟩ = some (.slice ka n kc)) := Lib.hid fun w2 hg => by
      have h := (hb1.alloc (.cells #[.int .u8 (tag : Int)] 5)).grown hg (fun e => hAne e.symm)
      exact ⟨h.cell 0, h.cell 1, h.cell 2⟩
    rw [← hW1] at HF
    clear hN ih hrow hkids hLn hL hn hbl hbody hq1 hb1 hm1 hW1 hval hINN hr0 hm hp hzz henl hy hyl hz hAne
    go_enter Tryz.func103, Tryz.ntmps103
    go_wp2_with (first | (at_builtin; refine wpList_mine (B := B0) _ rfl (.tmp 7) (.tmp 10) 22 rfl 5 Tryz.underlying22 info_u8 rfl HX1.out HP.out rfl HX2.out rfl HBW.out (by omega) ?_; intro A2 c2 w2 hm2 hg2 hat2; obtain ⟨y0, y1, y2⟩ := HF.out _ hg2))
    have HG2 : Hid (Grew w w2 A A2) := Lib.hid ((Grew.of_below HX3.out).trans (Grew.of_mine hg2 hat2))
    have HM2 := Lib.hid hm2
    have HH2 : Hid (Holds w2 w.heap.size 31 #[.int .u8 (tag : Int), .slice ba bl bc, .slice ka n kc]) := Lib.hid (HX4.out.grown hg2 (fun e => HANE.out e.symm))
    have hQ2 := HG2.out.below hB HAB.out
    have hp2 : (p ++ [tag]).length = n0 + 1 := by rw [List.length_append, HP.out]; rfl
    have HP2 := Lib.hid hp2
    have HN2' : Hid (blk_of A2 ≠ some w.heap.size) := Lib.hid fun e => by
      rcases hat2 with h | h
      · exact HANE.out (h ▸ e)
      · rw [e] at h; injection h with h; simp at h; omega
    clear hm2 hg2 hat2 HX1 HX2 HX3 HX4 HBW z0 HF hp2
    refine (HINN.out _ hQ2).mono ?_
    rintro e w3 ⟨rfl, hb3⟩
    have HG3 : Hid (Grew w w3 A A2) := Lib.hid (HG2.out.trans (Grew.of_below hb3))
    have HM3 : Hid (Mine 5 w3 B0 A2 c2 (p ++ [tag])) := Lib.hid (HM2.out.under hb3)
    have HH3 : Hid (Holds w3 w.heap.size 31 #[.int .u8 (tag : Int), .slice ba bl bc, .slice ka n kc]) := Lib.hid (HH2.out.under hb3 HH2.out.lt)
    clear hb3 HG2 HM2 HH2 y0 y1 y2 HINN hQ2
    go_wp2_with fail
    refine (length_any w3 z (by omega)).mono ?_
    rintro e w4 ⟨A4, c4, rfl, hm4, hb4⟩
    have HG4 : Hid (Grew w w4 A A2) := Lib.hid (HG3.out.trans (Grew.of_below hb4))
    have HM4 : Hid (Mine 5 w4 B0 A2 c2 (p ++ [tag])) := Lib.hid (HM3.out.under hb4)
    have HH4 : Hid (Holds w4 w.heap.size 31 #[.int .u8 (tag : Int), .slice ba bl bc, .slice ka n kc]) := Lib.hid (HH3.out.under hb4 HH3.out.lt)
    have HR4 : Hid (Rd .u8 w4 w4.heap.size A4 c4 y) := Lib.hid (by have := hm4.rd; rw [HY.out] at this; exact this)
    have HBW4 : Hid (B0 ≤ w4.heap.size) := Lib.hid (Nat.le_trans hB HG4.out.1.size)
    rw [HY.out, HYL.out]
    have HF4 : Hid (∀ w2, w4.grownBy w2 (blk_of A2) → w2.cell? ⟨w.heap.size, 0, none⟩ = some (.int .u8 (tag : Int)) ∧ w2.cell? ⟨w.heap.size, 1, none⟩ = some (.slice ba bl bc) ∧ w2.cell? ⟨w.heap.size, 2, none⟩ = some (.slice ka n kc)) := Lib.hid fun w2 hg => by
      have h := HH4.out.grown hg (fun e => HN2'.out e.symm)
      exact ⟨h.cell 0, h.cell 1, h.cell 2⟩
    clear hm4 hb4 HG3 HM3 HH3
    have HP4 : Hid ((p ++ [tag] ++ y).length = n0 + 1 + yl) := Lib.hid (by rw [List.length_append, HP2.out, HYL.out])
    have HB5 : Hid (∀ A5 w5, w4.grownBy w5 (blk_of A2) → (blk_of A5 = blk_of A2 ∨ blk_of A5 = some w4.heap.size) → Grew w w5 A A5 ∧ Rd .u8 w5 B ba bc body ∧ B0 ≤ w5.heap.size) := Lib.hid fun A5 w5 hg hat => by
      have h1 := HG4.out.trans (Grew.of_mine hg hat)
      exact ⟨h1, HBODY.out _ (h1.below hB HAB.out), Nat.le_trans hB h1.1.size⟩
    have HF5 : Hid (∀ A5 w5, w4.grownBy w5 (blk_of A2) → (blk_of A5 = blk_of A2 ∨ blk_of A5 = some w4.heap.size) → Holds w5 w.heap.size 31 #[.int .u8 (tag : Int), .slice ba bl bc, .slice ka n kc] ∧ blk_of A5 ≠ some w.heap.size) := Lib.hid fun A5 w5 hg hat => by
      refine ⟨HH4.out.grown hg (fun e => HN2'.out e.symm), fun e => ?_⟩
      rcases hat with h | h
      · exact HN2'.out (h ▸ e)
      · rw [e] at h; injection h with h; have := HH4.out.lt; omega
    have HF6 : Hid (∀ A5 w5, w4.grownBy w5 (blk_of A2) → (blk_of A5 = blk_of A2 ∨ blk_of A5 = some w4.heap.size) → ∀ w6, w5.grownBy w6 (blk_of A5) → w6.cell? ⟨w.heap.size, 2, none⟩ = some (.slice ka n kc)) := Lib.hid fun A5 w5 hg hat w6 hg6 => ((HF5.out A5 w5 hg hat).1.grown hg6 (fun e => (HF5.out A5 w5 hg hat).2 e.symm)).cell 2
    go_wp2_with (first
      | (at_builtin; refine wpList_mine (B := B0) _ rfl (.tmp 12) (.tmp 15) 22 rfl 5 Tryz.underlying22 info_u8 rfl HM4.out HP2.out rfl HR4.out HYL.out HBW4.out (by omega) ?_; intro A5 c5 w5 hm5 hg5 hat5; obtain ⟨y0, y1, y2⟩ := HF4.out _ hg5)
      | (at_builtin; refine wpList_mine (B := B0) _ rfl (.tmp 17) (.tmp 19) 22 rfl 5 Tryz.underlying22 info_u8 rfl hm5 HP4.out rfl (HB5.out _ _ hg5 hat5).2.1 HBL.out (HB5.out _ _ hg5 hat5).2.2 (by omega) ?_; intro A6 c6 w6 hm6 hg6 hat6; have x2 := HF6.out _ _ hg5 hat5 _ hg6)
      | fail)
    obtain ⟨hh5, hn5⟩ := HF5.out _ _ hg5 hat5
    have hG5 := (HB5.out _ _ hg5 hat5).1
    have HG6 : Hid (Grew w w6 A A6) := Lib.hid (hG5.trans (Grew.of_mine hg6 hat6))
    have HH6 : Hid (Holds w6 w.heap.size 31 #[.int .u8 (tag : Int), .slice ba bl bc, .slice ka n kc]) := Lib.hid (hh5.grown hg6 (fun e => hn5 e.symm))
    have HN6 : Hid (blk_of A6 ≠ some w.heap.size) := Lib.hid ((Grew.of_mine hg6 hat6).apart hh5.lt hn5)
    have HM6 := Lib.hid hm6
    have HQL : Hid ((p ++ [tag] ++ y ++ body).length = n0 + 1 + yl + bl) := Lib.hid (by rw [List.length_append, HP4.out, HBL.out])
    clear hm6 hg6 hat6 hh5 hn5 hG5 hm5 hg5 hat5 y0 y1 y2 x2 HF4 HF5 HF6 HB5 HG4 HM4 HH4 HR4 HBW4 HP4 HP2
    go_loopw [0, 24] (fun v i wr => RelU w B0 #[.int .u8 (tag : Int), .slice ba bl bc, .slice ka n kc] A (p ++ [tag] ++ y ++ body) L n v i wr) (fun v i _ => n - (intOf i).toNat)
    case atStart => exact ⟨0, _, _, _, Nat.zero_le _, rfl, rfl, Lib.hid (by simpa [Tr.encs] using HQL.out), Lib.hid (by simpa [Tr.encs] using HM6.out), HG6, HH6, HN6⟩
    case round =>
      clear HM6 HG6 HH6 HN6
      obtain ⟨k, A', c', m, hk, rfl, rfl, HL, HM, HG, HB, HN⟩ := hrel
      obtain ⟨V, hV⟩ : ∃ V, V = wr := ⟨_, rfl⟩
      subst hV
      have hBV : Below B0 w V := HG.out.below hB HAB.out
      by_cases hkn : k < n
      case pos =>
        have hkI : (k : Int) < (n : Int) := by omega
        have hk0 : (0 : Int) ≤ (k : Int) := by omega
        obtain ⟨b, off, rfl, hb, hcs⟩ := (HROW.out V hBV).2.2 (by have := HN2.out; omega)
        obtain ⟨q0, q1, q2⟩ := hcs k (by have := HN2.out; omega)
        have HEM : Hid (p ++ [tag] ++ y ++ body ++ Tr.encs (L.take (k + 1)) = p ++ [tag] ++ y ++ body ++ Tr.encs (L.take k) ++ (L.getD k default).enc ∧ m + (L.getD k default).enc.length ≤ 400000) := Lib.hid (by
          have h1 := Tr.encs_more (l := L) (k := k) (by have := HLN.out; omega)
          have h2 := Tr.encs_le L (k + 1)
          have h3 := HL.out
          have h4 := HQL.out
          have h5 := HZZ.out
          refine ⟨by rw [h1, List.append_assoc (p ++ [tag] ++ y ++ body)], ?_⟩
          rw [h1, List.length_append] at h2
          rw [List.length_append, h4] at h3
          omega)
        have hVA : Below w.heap.size V (V.alloc (.cells #[.int .u8 ((kids.getD k default).tag : Int), .slice (kids.getD k default).ba (kids.getD k default).body.length (kids.getD k default).bc, .slice (kids.getD k default).ka (kids.getD k default).kids.length (kids.getD k default).kc] 31)) := (Below.refl _ _).alloc HG.out.1.size _
        have HC : Hid (Calls Tryz.prog 103 #[.slice A' m c', .agg #[.int .u8 ((kids.getD k default).tag : Int), .slice (kids.getD k default).ba (kids.getD k default).body.length (kids.getD k default).bc, .slice (kids.getD k default).ka (kids.getD k default).kids.length (kids.getD k default).kc]] (V.alloc (.cells #[.int .u8 ((kids.getD k default).tag : Int), .slice (kids.getD k default).ba (kids.getD k default).body.length (kids.getD k default).bc, .slice (kids.getD k default).ka (kids.getD k default).kids.length (kids.getD k default).kc] 31)) fun e w' => ∃ A'' c'', e = .returned (.slice A'' (m + (L.getD k default).enc.length) c'') ∧ Mine 5 w' B0 A'' c'' (p ++ [tag] ++ y ++ body ++ Tr.encs (L.take (k + 1))) ∧ Grew V w' A' A'') := Lib.hid (by
          have h := HIH.out k hkn _ (hBV.trans (hVA.mono hB)) A' c' m _ (HM.out.alloc _) HL.out HEM.out.2
          rw [Lt.val_eq, ← HEM.out.1] at h
          exact h.mono fun _ _ ⟨A'', c'', h1, h2, h3⟩ => ⟨A'', c'', h1, h2, (Grew.of_below ((Below.refl _ _).alloc (Nat.le_refl _) _)).trans h3⟩)
        clear hcs hVA
        generalize (kids.getD k default).tag = dt at *
        generalize (kids.getD k default).ba = dba at *
        generalize (kids.getD k default).bc = dbc at *
        generalize (kids.getD k default).body.length = dbl at *
        generalize (kids.getD k default).ka = dka at *
        generalize (kids.getD k default).kids.length = dkl at *
        generalize (kids.getD k default).kc = dkc at *
        obtain ⟨x, hx⟩ : ∃ x, (L.getD k default).enc.length = x := ⟨_, rfl⟩
        have HXE : Hid ((p ++ [tag] ++ y ++ body ++ Tr.encs (L.take (k + 1))).length = m + x) := Lib.hid (by rw [HEM.out.1, List.length_append, HL.out, hx])
        rw [hx] at HC
        have hb9 : Holds (V.alloc (.cells #[.int .u8 (dt : Int), .slice dba dbl dbc, .slice dka dkl dkc] 31)) V.heap.size 31 #[.int .u8 (dt : Int), .slice dba dbl dbc, .slice dka dkl dkc] := Holds.fresh _ _ _
        have y0 : (V.alloc (.cells #[.int .u8 (dt : Int), .slice dba dbl dbc, .slice dka dkl dkc] 31)).cell? ⟨V.heap.size, 0, none⟩ = some (.int .u8 (dt : Int)) := hb9.cell 0
        have y1 : (V.alloc (.cells #[.int .u8 (dt : Int), .slice dba dbl dbc, .slice dka dkl dkc] 31)).cell? ⟨V.heap.size, 1, none⟩ = some (.slice dba dbl dbc) := hb9.cell 1
        have y2 : (V.alloc (.cells #[.int .u8 (dt : Int), .slice dba dbl dbc, .slice dka dkl dkc] 31)).cell? ⟨V.heap.size, 2, none⟩ = some (.slice dka dkl dkc) := hb9.cell 2
        clear hb9 hx HEM
        go_wp2_with fail
        refine HC.out.mono ?_
        rintro e w7 ⟨A7, c7, rfl, hm7, hg7⟩
        have HG7 : Hid (Grew w w7 A A7) := Lib.hid (HG.out.trans hg7)
        have HH7 : Hid (Holds w7 w.heap.size 31 #[.int .u8 (tag : Int), .slice ba bl bc, .slice (some ⟨b, off, none⟩) n kc]) := Lib.hid (hg7.holds HB.out HN.out)
        have HN7 : Hid (blk_of A7 ≠ some w.heap.size) := Lib.hid (hg7.apart HB.out.lt HN.out)
        have HM7 := Lib.hid hm7
        clear hm7 hg7 HC q0 q1 q2 y0 y1 y2
        go_wp2_with fail
        go_roundw
        case rel => exact ⟨k + 1, _, _, m + x, by omega, by go_num, rfl, HXE, HM7, HG7, HH7, HN7⟩
        case measure => simp [intOf]; omega
      case neg =>
        obtain rfl : k = n := by omega
        have hkI : ¬ ((k : Int) < (k : Int)) := by omega
        have HE : Hid (Tr.encs (L.take k) = Tr.encs L) := Lib.hid (by rw [List.take_of_length_le (by have := HLN.out; omega)])
        have HM2 : Hid (Mine 5 V B0 A' c' (p ++ (Tr.mk tag body L).enc)) := Lib.hid (by have := HM.out; rw [HE.out, ← HENC.out] at this; exact this)
        have HML : Hid (m = n0 + (1 + yl + z)) := Lib.hid (by
          have h1 := HL.out
          rw [HE.out, List.length_append, HQL.out] at h1
          have := HZZ.out
          omega)
        go_wp2_with fail
        go_ret
        exact ⟨_, _, by rw [← HML.out]; rfl, HM2.out, HG.out⟩
theorem put_any (t : Lt) (w : World) (B : Nat) (hr : TrAt w B t) (hB : B ≤ w.heap.size) (hmx : t.t.enc.length ≤ 400000) :
    Calls Tryz.prog 103 #[.slice none 0 0, t.val] w fun e w' => ∃ A c, e = .returned (.slice A t.t.enc.length c) ∧ Mine 5 w' w.heap.size A c t.t.enc ∧ Below w.heap.size w w' :=
  (put_N (t.sz + 1) t w B w.heap.size none 0 0 [] (Nat.lt_succ_self _) hr hB (Nat.le_refl _) (Mine.nil _ _ _) rfl (by omega)).mono fun _ _ ⟨A, c, h1, h2, h3⟩ => ⟨A, c, by rw [h1, Nat.zero_add], by simpa using h2, h3.below (Nat.le_refl _) (fun g hg => by simp [blk_of] at hg)⟩
end Go.Proofs.YtbkjjhpnjfdlbaaGreatDoor
namespace Go.Proofs.YtbkjjhpnjfdlbaaGreatDoor
open Go.RowKit
set_option linter.unusedVariables false
set_option linter.unusedSimpArgs false

def tagOk (x : Nat) : Bool := x != 0 && x % 32 != 31
def parted (x : Nat) : Bool := x / 32 % 2 == 1
theorem tag_all : ∀ x : Fin 256, (((x.val : Nat) : Int) != 0 && ((x.val : Nat) : Int) % 32 != 31) = tagOk x.val := by decide +kernel
theorem part_all : ∀ x : Fin 256, (Go.bits BinOp.and IntKind.u8 ((x.val : Nat) : Int) 32 != 0) = parted x.val := by decide +kernel
theorem tagged_is (x : Nat) (hx : x < 256) : (((x : Nat) : Int) != 0 && ((x : Nat) : Int) % 32 != 31) = tagOk x := tag_all ⟨x, hx⟩
theorem parted_is (x : Nat) (hx : x < 256) : (Go.bits BinOp.and IntKind.u8 ((x : Nat) : Int) 32 != 0) = parted x := part_all ⟨x, hx⟩
set_option maxRecDepth 100000 in
theorem tagged_any (w : World) (x : Nat) (hx : x < 256) :
    Calls Tryz.prog 74 #[.int .u8 (x : Int)] w fun e w' => e = .returned (.bool (tagOk x)) ∧ w = w' := by
  have ht := Lib.hid (tagged_is x hx)
  by_cases h0 : x = 0
  · subst h0
    have hT : Hid (tagOk 0 = false) := Lib.hid rfl
    clear ht
    go_enter Tryz.func74, Tryz.ntmps74
    go_wp2_with fail
    go_ret
    exact ⟨ret_bool (by rw [hT.out]), rfl⟩
  · have hne : ((x : Int) != 0) = true := by rw [bne_iff_ne]; omega
    have hT : Hid (((x : Int) % 32 != 31) = tagOk x) := Lib.hid (by have := ht.out; rw [hne, Bool.true_and] at this; exact this)
    clear ht
    go_enter Tryz.func74, Tryz.ntmps74
    go_wp2_with fail
    go_ret
    exact ⟨ret_bool hT.out, rfl⟩
set_option maxRecDepth 100000 in
theorem constructed_any (w : World) (x : Nat) (hx : x < 256) :
    Calls Tryz.prog 76 #[.int .u8 (x : Int)] w fun e w' => e = .returned (.bool (parted x)) ∧ w = w' := by
  have ht := Lib.hid (parted_is x hx)
  go_enter Tryz.func76, Tryz.ntmps76
  go_wp2_with fail
  go_ret
  exact ⟨ret_bool ht.out, rfl⟩
set_option maxRecDepth 100000 in
theorem tag'_any (w : World) (x : Nat) (hx : x < 256) :
    Calls Tryz.prog 55 #[.int .u8 (x : Int)] w fun e w' => e = .returned (.bool (tagOk x)) ∧ w = w' := by
  have ht := Lib.hid (tagged_is x hx)
  by_cases h0 : x = 0
  · subst h0
    have hT : Hid (tagOk 0 = false) := Lib.hid rfl
    clear ht
    go_enter Tryz.func55, Tryz.ntmps55
    go_wp2_with fail
    go_ret
    exact ⟨ret_bool (by rw [hT.out]), rfl⟩
  · have hne : ((x : Int) != 0) = true := by rw [bne_iff_ne]; omega
    have hT : Hid (((x : Int) % 32 != 31) = tagOk x) := Lib.hid (by have := ht.out; rw [hne, Bool.true_and] at this; exact this)
    clear ht
    go_enter Tryz.func55, Tryz.ntmps55
    go_wp2_with fail
    go_ret
    exact ⟨ret_bool hT.out, rfl⟩
set_option maxRecDepth 100000 in
theorem parted'_any (w : World) (x : Nat) (hx : x < 256) :
    Calls Tryz.prog 56 #[.int .u8 (x : Int)] w fun e w' => e = .returned (.bool (parted x)) ∧ w = w' := by
  have ht := Lib.hid (parted_is x hx)
  go_enter Tryz.func56, Tryz.ntmps56
  go_wp2_with fail
  go_ret
  exact ⟨ret_bool ht.out, rfl⟩
end Go.Proofs.YtbkjjhpnjfdlbaaGreatDoor
namespace Go.Proofs.YtbkjjhpnjfdlbaaGreatDoor
open Go.RowKit
set_option linter.unusedVariables false
set_option linter.unusedSimpArgs false

/-- Its own tag and parts are such. -/
def ok1 (tag bl n : Nat) : Bool := tagOk tag && !(parted tag && decide (0 < bl)) && !(!parted tag && decide (0 < n))
mutual
def Tr.sound : Tr → Nat → Bool
  | .mk tag body kids, d => ok1 tag body.length kids.length && decide (d ≤ 12) && Tr.sounds kids (d + 1)
def Tr.sounds : List Tr → Nat → Bool
  | [], _ => true
  | x :: r, d => x.sound d && Tr.sounds r d
end
theorem Tr.sounds_iff : ∀ {l : List Tr} {d : Nat}, Tr.sounds l d = true ↔ ∀ j, j < l.length → (l.getD j default).sound d = true
  | [], d => by simp [Tr.sounds]
  | x :: r, d => by
    rw [Tr.sounds, Bool.and_eq_true, Tr.sounds_iff (l := r)]
    constructor
    · rintro ⟨h1, h2⟩ j hj
      rcases j with _ | j
      · simpa [List.getD] using h1
      · have := h2 j (by simpa using hj)
        simpa [List.getD] using this
    · intro h
      refine ⟨by simpa [List.getD] using h 0 (by simp), fun j hj => ?_⟩
      have := h (j + 1) (by simpa using hj)
      simpa [List.getD] using this
theorem Tr.sounds_not {l : List Tr} {d j : Nat} (hj : j < l.length) (h : (l.getD j default).sound d = false) : Tr.sounds l d = false := by
  cases e : Tr.sounds l d
  · rfl
  · have := Tr.sounds_iff.1 e j hj
    rw [h] at this
    cases this
def RelB (w : World) (cs : Array Value) (l : List Tr) (d n : Nat) (i : Value) (wr : World) : Prop :=
  ∃ k : Nat, k ≤ n ∧ i = .int .i64 k ∧ Hid (∀ j, j < k → (l.getD j default).sound d = true) ∧ Hid (Below w.heap.size w wr) ∧ Hid (Holds wr w.heap.size 31 cs)
set_option maxRecDepth 100000 in
set_option maxHeartbeats 4000000 in
theorem sound_N : ∀ (N : Nat) (t : Lt) (w : World) (B d : Nat), t.sz < N → TrAt w B t → B ≤ w.heap.size → d ≤ 13 →
    Calls Tryz.prog 37 #[t.val, .int .i64 (d : Int)] w fun e w' => e = .returned (.bool (t.t.sound d)) ∧ Below w.heap.size w w' := by
  intro N
  induction N with
  | zero => intro t w B d h; omega
  | succ N ih =>
    intro t w B d hN hr hB hd
    obtain ⟨tag, ba, bc, body, ka, kc, kids⟩ := t
    rw [trAt_mk] at hr
    obtain ⟨htag, hbody, _, hrow, hkids⟩ := hr
    rw [Lt.t_mk]
    obtain ⟨n, hn⟩ : ∃ n, kids.length = n := ⟨_, rfl⟩
    obtain ⟨bl, hbl⟩ : ∃ n, body.length = n := ⟨_, rfl⟩
    obtain ⟨L, hL⟩ : ∃ L, kids.map Lt.t = L := ⟨_, rfl⟩
    have hLn : L.length = n := by rw [← hL, List.length_map, hn]
    rw [hL]
    have HS : Hid ((Tr.mk tag body L).sound d = (ok1 tag bl n && decide (d ≤ 12) && Tr.sounds L (d + 1))) := Lib.hid (by rw [Tr.sound, hbl, hLn])
    have HLN := Lib.hid hLn
    have hlc : n ≤ kc := by have := hrow.1; omega
    have hc63 := hrow.2.1
    have hblc : bl ≤ bc := by have := hbody.1; omega
    have hbc63 := hbody.2.1
    have HROW : Hid (∀ W, Below w.heap.size w W → RowT W B ka kc kids) := Lib.hid fun W hW => hrow.under (hW.mono hB)
    have HIH : Hid (d ≤ 12 → ∀ k, k < n → ∀ W, Below w.heap.size w W → Calls Tryz.prog 37 #[(kids.getD k default).val, .int .i64 ((d + 1 : Nat) : Int)] W fun e w' => e = .returned (.bool ((L.getD k default).sound (d + 1))) ∧ Below W.heap.size W w') := Lib.hid fun hd12 k hk W hW => by
      have e : (L.getD k default) = (kids.getD k default).t := by rw [← hL, Lt.ts_at (by omega)]
      rw [e]
      refine ih _ W B (d + 1) ?_ ((hkids k (by omega)).under' (hW.mono hB)) (by have := hW.size; omega) (by omega)
      have := lt_kid (tag := tag) (ba := ba) (bc := bc) (body := body) (ka := ka) (kc := kc) (kids := kids) (j := k) (by omega)
      omega
    have HN2 := Lib.hid hn
    have hval : (Lt.mk tag ba bc body ka kc kids).val = .agg #[.int .u8 (tag : Int), .slice ba bl bc, .slice ka n kc] := by rw [← hn, ← hbl]; rfl
    rw [hval]
    have hb0 : Holds (w.alloc (.cells #[.int .u8 (tag : Int), .slice ba bl bc, .slice ka n kc] 31)) w.heap.size 31 #[.int .u8 (tag : Int), .slice ba bl bc, .slice ka n kc] := Holds.fresh _ _ _
    have hq0 : Hid (Below w.heap.size w (w.alloc (.cells #[.int .u8 (tag : Int), .slice ba bl bc, .slice ka n kc] 31))) := Lib.hid ((Below.refl _ _).alloc (Nat.le_refl _) _)
    have z0 : (w.alloc (.cells #[.int .u8 (tag : Int), .slice ba bl bc, .slice ka n kc] 31)).cell? ⟨w.heap.size, 0, none⟩ = some (.int .u8 (tag : Int)) := hb0.cell 0
    have z1 : (w.alloc (.cells #[.int .u8 (tag : Int), .slice ba bl bc, .slice ka n kc] 31)).cell? ⟨w.heap.size, 1, none⟩ = some (.slice ba bl bc) := hb0.cell 1
    have z2 : (w.alloc (.cells #[.int .u8 (tag : Int), .slice ba bl bc, .slice ka n kc] 31)).cell? ⟨w.heap.size, 2, none⟩ = some (.slice ka n kc) := hb0.cell 2
    have HB0 := Lib.hid hb0
    have HT := Lib.hid (fun W => tag'_any W tag htag)
    have HP := Lib.hid (fun W => parted'_any W tag htag)
    clear hN ih hrow hkids hLn hL hval hn hbl hb0 hbody
    rcases h1 : tagOk tag with _ | _
    case false =>
      have HF : Hid ((Tr.mk tag body L).sound d = false) := Lib.hid (by rw [HS.out]; simp [ok1, h1])
      go_enter Tryz.func37, Tryz.ntmps37
      go_wp2_with fail
      refine (HT.out _).mono ?_
      rintro e w2 ⟨rfl, rfl⟩
      rw [h1]
      go_wp2_with fail
      go_ret
      exact ⟨ret_bool HF.out.symm, hq0.out⟩
    case true =>
    by_cases h2 : d ≤ 12
    case neg =>
      have HF : Hid ((Tr.mk tag body L).sound d = false) := Lib.hid (by rw [HS.out]; simp [h2])
      have d2 : decide ((12 : Int) < (d : Int)) = true := decide_eq_true (by omega)
      have d3 : decide (12 < d) = true := decide_eq_true (by omega)
      clear h2
      go_enter Tryz.func37, Tryz.ntmps37
      go_wp2_with fail
      refine (HT.out _).mono ?_
      rintro e w2 ⟨rfl, rfl⟩
      rw [h1]
      go_wp2_with fail
      go_ret
      exact ⟨ret_bool HF.out.symm, hq0.out⟩
    have d2 : decide ((12 : Int) < (d : Int)) = false := decide_eq_false (by omega)
    have d3 : decide (12 < d) = false := decide_eq_false (by omega)
    have HIK : Hid (∀ k, k < n → ∀ W, Below w.heap.size w W → Calls Tryz.prog 37 #[(kids.getD k default).val, .int .i64 ((d : Int) + 1)] W fun e w' => e = .returned (.bool ((L.getD k default).sound (d + 1))) ∧ Below W.heap.size W w') := Lib.hid fun k hk W hW => HIH.out h2 k hk W hW
    have HS1 : Hid (ok1 tag bl n = true → (Tr.mk tag body L).sound d = Tr.sounds L (d + 1)) := Lib.hid fun h => by rw [HS.out, h]; simp [h2]
    have HS2 : Hid (ok1 tag bl n = false → (Tr.mk tag body L).sound d = false) := Lib.hid fun h => by rw [HS.out, h]; simp
    clear HIH HS h2
    -- the walk through the guards
    rcases h3 : parted tag with _ | _
    case false =>
      by_cases h4 : 0 < n
      case pos =>
        have HF : Hid ((Tr.mk tag body L).sound d = false) := Lib.hid (HS2.out (by simp [ok1, h1, h3, h4]))
        have e4 : decide ((0 : Int) < (n : Int)) = true := decide_eq_true (by omega)
        have e5 : decide (0 < n) = true := decide_eq_true (by omega)
        go_enter Tryz.func37, Tryz.ntmps37
        go_wp2_with fail
        refine (HT.out _).mono ?_
        rintro e w2 ⟨rfl, rfl⟩
        rw [h1]
        go_wp2_with fail
        refine (HP.out _).mono ?_
        rintro e w2 ⟨rfl, rfl⟩
        rw [h3]
        go_wp2_with fail
        refine (HP.out _).mono ?_
        rintro e w2 ⟨rfl, rfl⟩
        rw [h3]
        go_wp2_with fail
        go_ret
        exact ⟨ret_bool HF.out.symm, hq0.out⟩
      have e4 : decide ((0 : Int) < (n : Int)) = false := decide_eq_false (by omega)
      have e5 : decide (0 < n) = false := decide_eq_false (by omega)
      have HOK : Hid ((Tr.mk tag body L).sound d = Tr.sounds L (d + 1)) := Lib.hid (HS1.out (by simp [ok1, h1, h3, h4]))
      clear HS1 HS2
      go_enter Tryz.func37, Tryz.ntmps37
      go_wp2_with fail
      refine (HT.out _).mono ?_
      rintro e w2 ⟨rfl, rfl⟩
      rw [h1]
      go_wp2_with fail
      refine (HP.out _).mono ?_
      rintro e w2 ⟨rfl, rfl⟩
      rw [h3]
      go_wp2_with fail
      refine (HP.out _).mono ?_
      rintro e w2 ⟨rfl, rfl⟩
      rw [h3]
      go_wp2_with fail
      clear e4 e5
      generalize w.alloc (.cells #[.int .u8 (tag : Int), .slice ba bl bc, .slice ka n kc] 31) = W at *
      clear z0 z1 z2 d2 d3
      go_loopw [5] (fun i wr => RelB w #[.int .u8 (tag : Int), .slice ba bl bc, .slice ka n kc] L (d + 1) n i wr) (fun i _ => n - (intOf i).toNat)
      case atStart => exact ⟨0, Nat.zero_le _, rfl, Lib.hid (fun j hj => by omega), hq0, HB0⟩
      case round =>
        clear hq0 HB0
        obtain ⟨k, hk, rfl, HK, HQ, HB⟩ := hrel
        obtain ⟨V, hV⟩ : ∃ V, V = wr := ⟨_, rfl⟩
        subst hV
        have z2 : V.cell? ⟨w.heap.size, 2, none⟩ = some (.slice ka n kc) := HB.out.cell 2
        by_cases hkn : k < n
        case pos =>
          exact absurd (Nat.lt_of_le_of_lt (Nat.zero_le k) hkn) h4
        case neg =>
          obtain rfl : k = n := by omega
          have hkI : ¬ ((k : Int) < (k : Int)) := by omega
          have HT2 : Hid ((Tr.mk tag body L).sound d = true) := Lib.hid (by rw [HOK.out, Tr.sounds_iff]; intro j hj; exact HK.out j (by have := HLN.out; omega))
          go_wp2_with fail
          go_ret
          exact ⟨ret_bool HT2.out.symm, HQ.out⟩
    case true =>
      by_cases h4 : 0 < bl
      case pos =>
        have HF : Hid ((Tr.mk tag body L).sound d = false) := Lib.hid (HS2.out (by simp [ok1, h1, h3, h4]))
        have e4 : decide ((0 : Int) < (bl : Int)) = true := decide_eq_true (by omega)
        have e5 : decide (0 < bl) = true := decide_eq_true (by omega)
        go_enter Tryz.func37, Tryz.ntmps37
        go_wp2_with fail
        refine (HT.out _).mono ?_
        rintro e w2 ⟨rfl, rfl⟩
        rw [h1]
        go_wp2_with fail
        refine (HP.out _).mono ?_
        rintro e w2 ⟨rfl, rfl⟩
        rw [h3]
        go_wp2_with fail
        go_ret
        exact ⟨ret_bool HF.out.symm, hq0.out⟩
      have e4 : decide ((0 : Int) < (bl : Int)) = false := decide_eq_false (by omega)
      have e5 : decide (0 < bl) = false := decide_eq_false (by omega)
      have HOK : Hid ((Tr.mk tag body L).sound d = Tr.sounds L (d + 1)) := Lib.hid (HS1.out (by simp [ok1, h1, h3, h4]))
      clear HS1 HS2
      go_enter Tryz.func37, Tryz.ntmps37
      go_wp2_with fail
      refine (HT.out _).mono ?_
      rintro e w2 ⟨rfl, rfl⟩
      rw [h1]
      go_wp2_with fail
      refine (HP.out _).mono ?_
      rintro e w2 ⟨rfl, rfl⟩
      rw [h3]
      go_wp2_with fail
      refine (HP.out _).mono ?_
      rintro e w2 ⟨rfl, rfl⟩
      rw [h3]
      go_wp2_with fail
      clear e4 e5
      generalize w.alloc (.cells #[.int .u8 (tag : Int), .slice ba bl bc, .slice ka n kc] 31) = W at *
      clear z0 z1 z2 d2 d3
      go_loopw [5] (fun i wr => RelB w #[.int .u8 (tag : Int), .slice ba bl bc, .slice ka n kc] L (d + 1) n i wr) (fun i _ => n - (intOf i).toNat)
      case atStart => exact ⟨0, Nat.zero_le _, rfl, Lib.hid (fun j hj => by omega), hq0, HB0⟩
      case round =>
        clear hq0 HB0
        obtain ⟨k, hk, rfl, HK, HQ, HB⟩ := hrel
        obtain ⟨V, hV⟩ : ∃ V, V = wr := ⟨_, rfl⟩
        subst hV
        have z2 : V.cell? ⟨w.heap.size, 2, none⟩ = some (.slice ka n kc) := HB.out.cell 2
        by_cases hkn : k < n
        case pos =>
          have hkI : (k : Int) < (n : Int) := by omega
          have hk0 : (0 : Int) ≤ (k : Int) := by omega
          obtain ⟨b, off, rfl, hb, hcs⟩ := (HROW.out V HQ.out).2.2 (by have := HN2.out; omega)
          obtain ⟨q0, q1, q2⟩ := hcs k (by have := HN2.out; omega)
          have HC := Lib.hid (HIK.out k hkn V HQ.out)
          have hwd : IntKind.i64.wrap ((d : Int) + 1) = (d : Int) + 1 := IntWalk.i64_in _ (by omega)
          rw [show (kids.getD k default).val = .agg #[.int .u8 ((kids.getD k default).tag : Int), .slice (kids.getD k default).ba (kids.getD k default).body.length (kids.getD k default).bc, .slice (kids.getD k default).ka (kids.getD k default).kids.length (kids.getD k default).kc] from rfl] at HC
          clear hcs
          generalize (kids.getD k default).tag = dt at *
          generalize (kids.getD k default).ba = dba at *
          generalize (kids.getD k default).bc = dbc at *
          generalize (kids.getD k default).body.length = dbl at *
          generalize (kids.getD k default).ka = dka at *
          generalize (kids.getD k default).kids.length = dkl at *
          generalize (kids.getD k default).kc = dkc at *
          rcases hsk : (L.getD k default).sound (d + 1) with _ | _
          case false =>
            have HF : Hid ((Tr.mk tag body L).sound d = false) := Lib.hid (by rw [HOK.out]; exact Tr.sounds_not (by have := HLN.out; omega) hsk)
            rw [hsk] at HC
            clear hsk
            go_wp2_with fail
            refine HC.out.mono ?_
            rintro e w2 ⟨rfl, hb2⟩
            have HQ2 : Hid (Below w.heap.size w w2) := Lib.hid (HQ.out.trans (hb2.mono HQ.out.size))
            clear hb2 HC q0 q1 q2 z2
            go_wp2_with fail
            go_ret
            exact ⟨ret_bool HF.out.symm, HQ2.out⟩
          case true =>
            have HK2 : Hid (∀ j, j < k + 1 → (L.getD j default).sound (d + 1) = true) := Lib.hid fun j hj => by
              rcases Nat.lt_or_ge j k with h | h
              · exact HK.out j h
              · obtain rfl : j = k := by omega
                exact hsk
            rw [hsk] at HC
            clear hsk
            go_wp2_with fail
            refine HC.out.mono ?_
            rintro e w2 ⟨rfl, hb2⟩
            have HQ2 : Hid (Below w.heap.size w w2) := Lib.hid (HQ.out.trans (hb2.mono HQ.out.size))
            have HB2 := Lib.hid (HB.out.under hb2 HB.out.lt)
            clear hb2 HC q0 q1 q2 z2
            go_wp2_with fail
            go_roundw
            case rel => exact ⟨k + 1, by omega, by go_num, HK2, HQ2, HB2⟩
            case measure => simp [intOf]; omega
        case neg =>
          obtain rfl : k = n := by omega
          have hkI : ¬ ((k : Int) < (k : Int)) := by omega
          have HT2 : Hid ((Tr.mk tag body L).sound d = true) := Lib.hid (by rw [HOK.out, Tr.sounds_iff]; intro j hj; exact HK.out j (by have := HLN.out; omega))
          go_wp2_with fail
          go_ret
          exact ⟨ret_bool HT2.out.symm, HQ.out⟩
theorem sound_any (t : Lt) (w : World) (B : Nat) (hr : TrAt w B t) (hB : B ≤ w.heap.size) :
    Calls Tryz.prog 37 #[t.val, .int .i64 1] w fun e w' => e = .returned (.bool (t.t.sound 1)) ∧ Below w.heap.size w w' := sound_N (t.sz + 1) t w B 1 (Nat.lt_succ_self _) hr hB (by omega)
end Go.Proofs.YtbkjjhpnjfdlbaaGreatDoor
namespace Go.Proofs.YtbkjjhpnjfdlbaaGreatDoor
open Go.RowKit
set_option linter.unusedVariables false
set_option linter.unusedSimpArgs false

/-- A thing that may be. -/
def isT (t : Tr) : Bool := t.sound 1 && decide (t.count ≤ 600) && decide (t.enc.length ≤ 12000)
set_option maxRecDepth 100000 in
set_option maxHeartbeats 4000000 in
theorem isTl'_any (t : Lt) (w : World) (B : Nat) (hr : TrAt w B t) (hB : B ≤ w.heap.size) (hmc : t.t.count ≤ 1000000) (hmx : t.t.enc.length ≤ 400000) :
    Calls Tryz.prog 23 #[t.val] w fun e w' => e = .returned (.bool (isT t.t)) ∧ Below w.heap.size w w' := by
  have HS : Hid (∀ W, Below w.heap.size w W → Calls Tryz.prog 37 #[t.val, .int .i64 1] W fun e w' => e = .returned (.bool (t.t.sound 1)) ∧ Below W.heap.size W w') := Lib.hid fun W hW => sound_any t W B (hr.under' (hW.mono hB)) (by have := hW.size; omega)
  have HC : Hid (∀ W, Below w.heap.size w W → Calls Tryz.prog 38 #[t.val] W fun e w' => e = .returned (.int .i64 (t.t.count : Int)) ∧ Below W.heap.size W w') := Lib.hid fun W hW => count'_N (t.sz + 1) t W B (Nat.lt_succ_self _) (hr.under' (hW.mono hB)) (by have := hW.size; omega) hmc
  have HL : Hid (∀ W, Below w.heap.size w W → Calls Tryz.prog 24 #[t.val] W fun e w' => ∃ A c, e = .returned (.slice A t.t.enc.length c) ∧ Below W.heap.size W w') := Lib.hid fun W hW => (laid_any t W B (hr.under' (hW.mono hB)) (by have := hW.size; omega) hmx).mono fun _ _ ⟨A, c, h1, _, h3⟩ => ⟨A, c, h1, h3⟩
  have HI : Hid (isT t.t = (t.t.sound 1 && decide (t.t.count ≤ 600) && decide (t.t.enc.length ≤ 12000))) := Lib.hid rfl
  rw [Lt.val_eq] at HS HC HL ⊢
  generalize isT t.t = v at *
  generalize t.t.sound 1 = s at *
  generalize t.t.count = x at *
  generalize t.t.enc.length = y at *
  clear hr hB
  generalize t.tag = tag at *
  generalize t.ba = ba at *
  generalize t.bc = bc at *
  generalize t.body.length = bl at *
  generalize t.ka = ka at *
  generalize t.kids.length = n at *
  generalize t.kc = kc at *
  have hq0 : Hid (Below w.heap.size w (w.alloc (.cells #[.int .u8 (tag : Int), .slice ba bl bc, .slice ka n kc] 31))) := Lib.hid ((Below.refl _ _).alloc (Nat.le_refl _) _)
  have hb0 : Hid (Holds (w.alloc (.cells #[.int .u8 (tag : Int), .slice ba bl bc, .slice ka n kc] 31)) w.heap.size 31 #[.int .u8 (tag : Int), .slice ba bl bc, .slice ka n kc]) := Lib.hid (Holds.fresh _ _ _)
  have z0 : (w.alloc (.cells #[.int .u8 (tag : Int), .slice ba bl bc, .slice ka n kc] 31)).cell? ⟨w.heap.size, 0, none⟩ = some (.int .u8 (tag : Int)) := hb0.out.cell 0
  have z1 : (w.alloc (.cells #[.int .u8 (tag : Int), .slice ba bl bc, .slice ka n kc] 31)).cell? ⟨w.heap.size, 1, none⟩ = some (.slice ba bl bc) := hb0.out.cell 1
  have z2 : (w.alloc (.cells #[.int .u8 (tag : Int), .slice ba bl bc, .slice ka n kc] 31)).cell? ⟨w.heap.size, 2, none⟩ = some (.slice ka n kc) := hb0.out.cell 2
  cases s
  case false =>
    have HF : Hid (v = false) := Lib.hid (by rw [HI.out]; rfl)
    go_enter Tryz.func23, Tryz.ntmps23
    go_wp2_with fail
    refine (HS.out _ hq0.out).mono ?_
    rintro e w2 ⟨rfl, hb2⟩
    have HQ2 := Lib.hid (hq0.out.trans (hb2.mono hq0.out.size))
    clear hb2
    go_wp2_with fail
    go_ret
    exact ⟨ret_bool HF.out.symm, HQ2.out⟩
  case true =>
  have HQ0 := hq0
  have HB0 := hb0
  go_enter Tryz.func23, Tryz.ntmps23
  go_wp2_with fail
  refine (HS.out _ HQ0.out).mono ?_
  rintro e w2 ⟨rfl, hb2⟩
  have HQ2 := Lib.hid (HQ0.out.trans (hb2.mono HQ0.out.size))
  have HB2 := Lib.hid (HB0.out.under hb2 HB0.out.lt)
  have y20 : w2.cell? ⟨w.heap.size, 0, none⟩ = some (.int .u8 (tag : Int)) := HB2.out.cell 0
  have y21 : w2.cell? ⟨w.heap.size, 1, none⟩ = some (.slice ba bl bc) := HB2.out.cell 1
  have y22 : w2.cell? ⟨w.heap.size, 2, none⟩ = some (.slice ka n kc) := HB2.out.cell 2
  clear hb2
  go_wp2_with fail
  refine (HC.out _ HQ2.out).mono ?_
  rintro e w3 ⟨rfl, hb3⟩
  have HQ3 := Lib.hid (HQ2.out.trans (hb3.mono HQ2.out.size))
  have HB3 := Lib.hid (HB2.out.under hb3 HB2.out.lt)
  have y30 : w3.cell? ⟨w.heap.size, 0, none⟩ = some (.int .u8 (tag : Int)) := HB3.out.cell 0
  have y31 : w3.cell? ⟨w.heap.size, 1, none⟩ = some (.slice ba bl bc) := HB3.out.cell 1
  have y32 : w3.cell? ⟨w.heap.size, 2, none⟩ = some (.slice ka n kc) := HB3.out.cell 2
  clear hb3
  by_cases h1 : x ≤ 600
  case neg =>
    have HF : Hid (v = false) := Lib.hid (by rw [HI.out]; simp [h1])
    have d1 : decide ((x : Int) ≤ 600) = false := decide_eq_false (by omega)
    have d2 : decide (x ≤ 600) = false := decide_eq_false h1
    go_wp2_with fail
    go_ret
    exact ⟨ret_bool HF.out.symm, HQ3.out⟩
  case pos =>
    have HV : Hid (v = decide (y ≤ 12000)) := Lib.hid (by rw [HI.out]; simp [h1])
    have d1 : decide ((x : Int) ≤ 600) = true := decide_eq_true (by omega)
    have d2 : decide (x ≤ 600) = true := decide_eq_true h1
    go_wp2_with fail
    refine (HL.out _ HQ3.out).mono ?_
    rintro e w4 ⟨A4, c4, rfl, hb4⟩
    have HQ4 := Lib.hid (HQ3.out.trans (hb4.mono HQ3.out.size))
    clear hb4
    have hd : decide ((y : Int) ≤ 12000) = decide (y ≤ 12000) := by rw [decide_eq_decide]; omega
    go_wp2_with fail
    go_ret
    exact ⟨ret_bool (by rw [HV.out]), HQ4.out⟩
/-- Its bytes, or none. -/
def bytesT (t : Tr) : List Nat := if isT t = true then t.enc else []
set_option maxRecDepth 100000 in
set_option maxHeartbeats 4000000 in
theorem bytes'_any (t : Lt) (w : World) (B : Nat) (hr : TrAt w B t) (hB : B ≤ w.heap.size) (hmc : t.t.count ≤ 1000000) (hmx : t.t.enc.length ≤ 400000) :
    Calls Tryz.prog 13 #[t.val] w fun e w' => ∃ A c n, e = .returned (.slice A n c) ∧ (bytesT t.t).length = n ∧ Mine 5 w' w.heap.size A c (bytesT t.t) ∧ Below w.heap.size w w' := by
  have HS : Hid (∀ W, Below w.heap.size w W → Calls Tryz.prog 23 #[t.val] W fun e w' => e = .returned (.bool (isT t.t)) ∧ Below W.heap.size W w') := Lib.hid fun W hW => isTl'_any t W B (hr.under' (hW.mono hB)) (by have := hW.size; omega) hmc hmx
  have HL : Hid (∀ W, Below w.heap.size w W → Calls Tryz.prog 24 #[t.val] W fun e w' => ∃ A c, e = .returned (.slice A t.t.enc.length c) ∧ Mine 5 w' w.heap.size A c t.t.enc ∧ Below W.heap.size W w') := Lib.hid fun W hW => (laid_any t W B (hr.under' (hW.mono hB)) (by have := hW.size; omega) hmx).mono fun _ _ ⟨A, c, h1, h2, h3⟩ => ⟨A, c, h1, h2.less hW.size, h3⟩
  have HI : Hid (bytesT t.t = if isT t.t = true then t.t.enc else []) := Lib.hid rfl
  rw [Lt.val_eq] at HS HL ⊢
  generalize bytesT t.t = v at *
  generalize isT t.t = s at *
  generalize t.t.enc = y at *
  clear hr hB
  generalize t.tag = tag at *
  generalize t.ba = ba at *
  generalize t.bc = bc at *
  generalize t.body.length = bl at *
  generalize t.ka = ka at *
  generalize t.kids.length = n at *
  generalize t.kc = kc at *
  have hq0 : Hid (Below w.heap.size w (w.alloc (.cells #[.int .u8 (tag : Int), .slice ba bl bc, .slice ka n kc] 31))) := Lib.hid ((Below.refl _ _).alloc (Nat.le_refl _) _)
  have hb0 : Hid (Holds (w.alloc (.cells #[.int .u8 (tag : Int), .slice ba bl bc, .slice ka n kc] 31)) w.heap.size 31 #[.int .u8 (tag : Int), .slice ba bl bc, .slice ka n kc]) := Lib.hid (Holds.fresh _ _ _)
  have z0 : (w.alloc (.cells #[.int .u8 (tag : Int), .slice ba bl bc, .slice ka n kc] 31)).cell? ⟨w.heap.size, 0, none⟩ = some (.int .u8 (tag : Int)) := hb0.out.cell 0
  have z1 : (w.alloc (.cells #[.int .u8 (tag : Int), .slice ba bl bc, .slice ka n kc] 31)).cell? ⟨w.heap.size, 1, none⟩ = some (.slice ba bl bc) := hb0.out.cell 1
  have z2 : (w.alloc (.cells #[.int .u8 (tag : Int), .slice ba bl bc, .slice ka n kc] 31)).cell? ⟨w.heap.size, 2, none⟩ = some (.slice ka n kc) := hb0.out.cell 2
  have HQ0 := hq0
  have HB0 := hb0
  cases s
  case false =>
    have HF : Hid (v = []) := Lib.hid (by rw [HI.out]; rfl)
    go_enter Tryz.func13, Tryz.ntmps13
    go_wp2_with fail
    refine (HS.out _ hq0.out).mono ?_
    rintro e w2 ⟨rfl, hb2⟩
    have HQ2 := Lib.hid (hq0.out.trans (hb2.mono hq0.out.size))
    clear hb2
    go_wp2_with fail
    go_ret
    exact ⟨none, 0, 0, rfl, by rw [HF.out]; rfl, by rw [HF.out]; exact Mine.nil _ _ _, HQ2.out⟩
  case true =>
    have HF : Hid (v = y) := Lib.hid (by rw [HI.out]; rfl)
    go_enter Tryz.func13, Tryz.ntmps13
    go_wp2_with fail
    refine (HS.out _ hq0.out).mono ?_
    rintro e w2 ⟨rfl, hb2⟩
    have HQ2 := Lib.hid (HQ0.out.trans (hb2.mono HQ0.out.size))
    have HB2 := Lib.hid (HB0.out.under hb2 HB0.out.lt)
    have y20 : w2.cell? ⟨w.heap.size, 0, none⟩ = some (.int .u8 (tag : Int)) := HB2.out.cell 0
    have y21 : w2.cell? ⟨w.heap.size, 1, none⟩ = some (.slice ba bl bc) := HB2.out.cell 1
    have y22 : w2.cell? ⟨w.heap.size, 2, none⟩ = some (.slice ka n kc) := HB2.out.cell 2
    clear hb2
    go_wp2_with fail
    refine (HL.out _ HQ2.out).mono ?_
    rintro e w3 ⟨A3, c3, rfl, hm3, hb3⟩
    have HQ3 := Lib.hid (HQ2.out.trans (hb3.mono HQ2.out.size))
    have HM3 := Lib.hid hm3
    clear hb3 hm3
    go_wp2_with fail
    go_ret
    exact ⟨A3, c3, y.length, rfl, by rw [HF.out], by rw [HF.out]; exact HM3.out, HQ3.out⟩
end Go.Proofs.YtbkjjhpnjfdlbaaGreatDoor
namespace Go.Proofs.YtbkjjhpnjfdlbaaGreatDoor
open Go.RowKit Go.Shelf
set_option linter.unusedVariables false
set_option linter.unusedSimpArgs false
attribute [local go_sem] Oper.semAt_some

mutual
/-- All things in a thing, itself first, with how deep each is. -/
def Lt.items : Lt → Nat → List (Nat × Lt)
  | .mk tag ba bc body ka kc kids, d => (d, .mk tag ba bc body ka kc kids) :: Lt.itemss kids (d + 1)
def Lt.itemss : List Lt → Nat → List (Nat × Lt)
  | [], _ => []
  | x :: r, d => x.items d ++ Lt.itemss r d
end
theorem Lt.itemss_append : ∀ (a b : List Lt) (d : Nat), Lt.itemss (a ++ b) d = Lt.itemss a d ++ Lt.itemss b d
  | [], b, d => by simp [Lt.itemss]
  | x :: r, b, d => by rw [List.cons_append, Lt.itemss, Lt.itemss, Lt.itemss_append r b, List.append_assoc]
theorem Lt.itemss_more {l : List Lt} {k : Nat} (h : k < l.length) (d : Nat) : Lt.itemss (l.take (k + 1)) d = Lt.itemss (l.take k) d ++ (l.getD k default).items d := by
  rw [take_more l h, Lt.itemss_append]
  simp [Lt.itemss]
theorem Lt.itemss_take (l : List Lt) (k d : Nat) : Lt.itemss (l.take k) d <+: Lt.itemss l d := by
  have := Lt.itemss_append (l.take k) (l.drop k) d
  rw [List.take_append_drop] at this
  rw [this]
  exact List.prefix_append _ _
mutual
theorem Lt.items_len : ∀ (t : Lt) (d : Nat), (t.items d).length = t.t.count
  | .mk _ _ _ _ _ _ kids, d => by rw [Lt.items, Lt.t, Tr.count, List.length_cons, Lt.itemss_len' kids (d + 1)]; omega
theorem Lt.itemss_len' : ∀ (l : List Lt) (d : Nat), (Lt.itemss l d).length = Tr.counts (Lt.ts l)
  | [], d => by simp [Lt.itemss, Lt.ts, Tr.counts]
  | x :: r, d => by rw [Lt.itemss, Lt.ts, Tr.counts, List.length_append, Lt.items_len x d, Lt.itemss_len' r d]
end
theorem Lt.itemss_len (l : List Lt) (d : Nat) : (Lt.itemss l d).length = Tr.counts (l.map Lt.t) := by rw [Lt.itemss_len', Lt.ts_map]
/-- One of them, as it is handed on. -/
abbrev It := { p : Nat × Lt // p.2.tag < 256 }
def itv (x : It) : Array Value := #[.int .i64 (x.1.1 : Int), x.1.2.val]
/-- No cell turns but those of two blocks. -/
def PassX (c1 c2 : Nat) (A B : World) : Prop := A.heap.size ≤ B.heap.size ∧ ∀ b o v, b ≠ c1 → b ≠ c2 → A.cell? ⟨b, o, none⟩ = some v → B.cell? ⟨b, o, none⟩ = some v
theorem PassX.refl (c1 c2 : Nat) (A : World) : PassX c1 c2 A A := ⟨Nat.le_refl _, fun _ _ _ _ _ h => h⟩
theorem PassX.trans {c1 c2 : Nat} {A B C : World} (h : PassX c1 c2 A B) (k : PassX c1 c2 B C) : PassX c1 c2 A C := ⟨Nat.le_trans h.1 k.1, fun b o v h1 h2 hv => k.2 b o v h1 h2 (h.2 b o v h1 h2 hv)⟩
theorem PassX.alloc (c1 c2 : Nat) (A : World) (o : Obj) : PassX c1 c2 A (A.alloc o) := ⟨by simp, fun b o' v _ _ hv => by
  have hlt := World.block_lt_of_cell? A _ hv
  rw [World.cell?_alloc_past _ _ _ hlt]; exact hv⟩
theorem TrAt.pass {w w' : World} {B : Nat} (hp : ∀ b o v, b < B → w.cell? ⟨b, o, none⟩ = some v → w'.cell? ⟨b, o, none⟩ = some v) : ∀ (N : Nat) {t : Lt}, t.sz < N → TrAt w B t → TrAt w' B t
  | 0, _, h, _ => by omega
  | N + 1, .mk tag ba bc body ka kc kids, h, hr => by
    rw [trAt_mk] at hr ⊢
    obtain ⟨h1, h2, h3, h4, h5⟩ := hr
    refine ⟨h1, ⟨h2.1, h2.2.1, fun hn => ?_⟩, h3, ⟨h4.1, h4.2.1, fun hn => ?_⟩, fun j hj => TrAt.pass hp N (by have := lt_kid (tag := tag) (ba := ba) (bc := bc) (body := body) (ka := ka) (kc := kc) hj; omega) (h5 j hj)⟩
    · obtain ⟨b, off, e, hlt, hc⟩ := h2.2.2 hn
      exact ⟨b, off, e, hlt, fun j hj => hp _ _ _ hlt (hc j hj)⟩
    · obtain ⟨b, off, e, hlt, hc⟩ := h4.2.2 hn
      exact ⟨b, off, e, hlt, fun j hj => ⟨hp _ _ _ hlt (hc j hj).1, hp _ _ _ hlt (hc j hj).2.1, hp _ _ _ hlt (hc j hj).2.2⟩⟩
theorem TrAt.passX {c1 c2 : Nat} {w w' : World} {B : Nat} {t : Lt} (h : TrAt w B t) (hp : PassX c1 c2 w w') (h1 : B ≤ c1) (h2 : B ≤ c2) : TrAt w' B t :=
  TrAt.pass (fun b o v hb hv => hp.2 b o v (by omega) (by omega) hv) (t.sz + 1) (Nat.lt_succ_self _) h
theorem room_of_none {F : Fence} (hd : F.depth = none) (k : Nat) : F.room k := fun d h => by rw [hd] at h; cases h

def RelW (l c1 c2 n : Nat) (J : List It → World → Prop) (pre : List It) (d : Nat) (me : Nat × Lt) (kids : List Lt) (W : World) (i : Value) (wr : World) : Prop :=
  ∃ (k : Nat) (ys : List It), k ≤ n ∧ i = .int .i64 k ∧ Hid (ys.map (·.1) = me :: Lt.itemss (kids.take k) (d + 1)) ∧ J (pre ++ ys) wr ∧ Hid (PassX c1 c2 W wr)
set_option maxRecDepth 100000 in
set_option maxHeartbeats 4000000 in
theorem walk_in (F : Fence) (hd : F.depth = none) (h37 : F.fn 147) (hro : F.round = none) (l c1 c2 N : Nat) (J Jx : List It → World → Prop) (hJ : ∀ s W o, J s W → J s (W.alloc o))
    (hY : ∀ m pre x W, J pre W → pre.length < N → YieldAt F m Tryz.prog l (itv x) W fun e W' =>
      (e = .returned (.bool true) ∧ J (pre ++ [x]) W' ∧ PassX c1 c2 W W') ∨ (e = .returned (.bool false) ∧ Jx (pre ++ [x]) W')) :
    ∀ (K : Nat) (t : Lt), t.sz < K → ∀ (m d B : Nat) (pre : List It) (W : World), TrAt W B t → B ≤ c1 → B ≤ c2 → c1 < W.heap.size → c2 < W.heap.size → J pre W → pre.length + t.t.count ≤ N → d + t.t.count ≤ 4000000 →
      CallsIn F m Tryz.prog 147 #[t.val, .int .i64 (d : Int), .func (.yield l) #[] #[]] W fun e W' =>
        (e = .returned (.bool true) ∧ ∃ ys : List It, ys.map (·.1) = t.items d ∧ J (pre ++ ys) W' ∧ PassX c1 c2 W W') ∨ (e = .returned (.bool false) ∧ ∃ ys : List It, ys.map (·.1) <+: t.items d ∧ Jx (pre ++ ys) W') := by
  intro K
  induction K with
  | zero => intro t h; omega
  | succ K ih =>
    intro t hK m d B pre W hr hB1 hB2 hc1 hc2 hj hN hdc
    obtain ⟨tag, ba, bc, body, ka, kc, kids⟩ := t
    have hr0 := hr
    rw [trAt_mk] at hr
    obtain ⟨htag, hbody, _, hrow, hkids⟩ := hr
    rw [Lt.t_mk, Tr.count] at hN hdc
    rw [Lt.items]
    have hdd : ∀ k : Nat, (F.depth.isSome = true → 1 ≤ k) := fun k h => by rw [hd] at h; cases h
    obtain ⟨n, hn⟩ : ∃ n, kids.length = n := ⟨_, rfl⟩
    obtain ⟨bl, hbl⟩ : ∃ n, body.length = n := ⟨_, rfl⟩
    have hlc : n ≤ kc := by have := hrow.1; omega
    have hc63 := hrow.2.1
    have hval : (Lt.mk tag ba bc body ka kc kids).val = .agg #[.int .u8 (tag : Int), .slice ba bl bc, .slice ka n kc] := by rw [← hn, ← hbl]; rfl
    -- the box
    have hb0 : Holds (W.alloc (.cells #[.int .u8 (tag : Int), .slice ba bl bc, .slice ka n kc] 31)) W.heap.size 31 #[.int .u8 (tag : Int), .slice ba bl bc, .slice ka n kc] := Holds.fresh _ _ _
    have hp0 : PassX c1 c2 W (W.alloc (.cells #[.int .u8 (tag : Int), .slice ba bl bc, .slice ka n kc] 31)) := PassX.alloc _ _ _ _
    have hj0 := hJ _ _ (.cells #[.int .u8 (tag : Int), .slice ba bl bc, .slice ka n kc] 31) hj
    have z0 : (W.alloc (.cells #[.int .u8 (tag : Int), .slice ba bl bc, .slice ka n kc] 31)).cell? ⟨W.heap.size, 0, none⟩ = some (.int .u8 (tag : Int)) := hb0.cell 0
    have z1 : (W.alloc (.cells #[.int .u8 (tag : Int), .slice ba bl bc, .slice ka n kc] 31)).cell? ⟨W.heap.size, 1, none⟩ = some (.slice ba bl bc) := hb0.cell 1
    have z2 : (W.alloc (.cells #[.int .u8 (tag : Int), .slice ba bl bc, .slice ka n kc] 31)).cell? ⟨W.heap.size, 2, none⟩ = some (.slice ka n kc) := hb0.cell 2
    have HIH : Hid (∀ k, k < n → ∀ (W' : World) (ys : List It), PassX c1 c2 W W' → J (pre ++ ys) W' → ys.length = 1 + Tr.counts ((kids.map Lt.t).take k) → CallsIn F (m - 1) Tryz.prog 147 #[(kids.getD k default).val, .int .i64 ((d + 1 : Nat) : Int), .func (.yield l) #[] #[]] W' fun e W'' =>
        (e = .returned (.bool true) ∧ ∃ zs : List It, zs.map (·.1) = (kids.getD k default).items (d + 1) ∧ J (pre ++ ys ++ zs) W'' ∧ PassX c1 c2 W' W'') ∨ (e = .returned (.bool false) ∧ ∃ zs : List It, zs.map (·.1) <+: (kids.getD k default).items (d + 1) ∧ Jx (pre ++ ys ++ zs) W'')) := Lib.hid fun k hk W' ys hp hjy hyl => by
      have h1 := Tr.counts_more (l := kids.map Lt.t) (k := k) (by rw [List.length_map]; omega)
      have h2 := Tr.counts_le (kids.map Lt.t) (k + 1)
      rw [Lt.ts_at (by omega)] at h1
      have hkz := lt_kid (tag := tag) (ba := ba) (bc := bc) (body := body) (ka := ka) (kc := kc) (kids := kids) (j := k) (by omega)
      refine ih _ (by omega) (m - 1) (d + 1) B (pre ++ ys) W' ((hkids k (by omega)).passX hp hB1 hB2) hB1 hB2 (by have := hp.1; omega) (by have := hp.1; omega) hjy ?_ (by omega)
      rw [List.length_append, hyl]
      omega
    have HROW : Hid (∀ W', PassX c1 c2 W W' → RowT W' B ka kc kids) := Lib.hid fun W' hp => by
      have h := hr0.passX hp hB1 hB2
      rw [trAt_mk] at h
      exact h.2.2.2.1
    have hdle : d ≤ 4000000 := by omega
    have hy := hY (m - 1) pre ⟨(d, .mk tag ba bc body ka kc kids), htag⟩ (W.alloc (.cells #[.int .u8 (tag : Int), .slice ba bl bc, .slice ka n kc] 31)) hj0 (by omega)
    rw [show itv ⟨(d, .mk tag ba bc body ka kc kids), htag⟩ = #[.int .i64 (d : Int), .agg #[.int .u8 (tag : Int), .slice ba bl bc, .slice ka n kc]] by unfold itv; rw [hval]] at hy
    have HN2 := Lib.hid hn
    rw [hval]
    obtain ⟨x0, hx0⟩ : ∃ x0 : It, x0.1 = (d, Lt.mk tag ba bc body ka kc kids) ∧ (⟨(d, .mk tag ba bc body ka kc kids), htag⟩ : It) = x0 := ⟨⟨(d, .mk tag ba bc body ka kc kids), htag⟩, rfl, rfl⟩
    rw [hx0.2] at hy
    have HX0 := Lib.hid hx0.1
    have hwd : IntKind.i64.wrap ((d : Int) + 1) = (d : Int) + 1 := IntWalk.i64_in _ (by omega)
    have HBOX : Hid (∀ W', PassX c1 c2 (W.alloc (.cells #[.int .u8 (tag : Int), .slice ba bl bc, .slice ka n kc] 31)) W' → W'.cell? ⟨W.heap.size, 2, none⟩ = some (.slice ka n kc)) := Lib.hid fun W' hp => hp.2 _ _ _ (by omega) (by omega) z2
    have hy2 := YieldAt.mono (R' := fun e W' => (e = .returned (.bool true) ∧ J (pre ++ [x0]) W' ∧ PassX c1 c2 W W' ∧ W'.cell? ⟨W.heap.size, 2, none⟩ = some (.slice ka n kc)) ∨ (e = .returned (.bool false) ∧ Jx (pre ++ [x0]) W')) hy (fun e W' h => h.elim (fun ⟨a1, a2, a3⟩ => .inl ⟨a1, a2, hp0.trans a3, HBOX.out _ a3⟩) .inr)
    obtain ⟨fn, tmps, assign, bdy, hyr, hR⟩ := hy2
    have HIT : Hid (∀ k, k < n → Lt.itemss (kids.take (k + 1)) (d + 1) = Lt.itemss (kids.take k) (d + 1) ++ (kids.getD k default).items (d + 1)) := Lib.hid fun k hk => Lt.itemss_more (by omega) _
    have HIP : Hid (∀ k, k < n → Lt.itemss (kids.take k) (d + 1) ++ (kids.getD k default).items (d + 1) <+: Lt.itemss kids (d + 1)) := Lib.hid fun k hk => by rw [← HIT.out k hk]; exact Lt.itemss_take kids (k + 1) (d + 1)
    have HLEN : Hid (∀ k (ys : List It), k ≤ n → ys.map (·.1) = (d, Lt.mk tag ba bc body ka kc kids) :: Lt.itemss (kids.take k) (d + 1) → ys.length = 1 + Tr.counts ((kids.map Lt.t).take k)) := Lib.hid fun k ys hk e => by
      have h := congrArg List.length e
      rw [List.length_map, List.length_cons, Lt.itemss_len, List.map_take] at h
      omega
    clear hx0 hval hrow hkids hr0 hb0 hn hbl hbody ih hK hY hN hdc
    refine callsIn_of_wp Tryz.func147 rfl h37 ?_ hro
    simp only [Tryz.ntmps147, List.size_toArray, List.length_cons, List.length_nil, Nat.reduceAdd, Nat.reduceSub, Array.replicate_succ, Array.replicate_zero, List.push_toArray, List.append_toArray, List.nil_append, List.cons_append]
    gi_wp2_with ((try refine ⟨hdd _, ?_⟩); refine hR.mono ?_; clear hR; rintro e W2 (⟨rfl, hJ2, hp2, z3⟩ | ⟨rfl, hx2⟩))
    · have HP2 := Lib.hid hp2
      clear hp2 z0 z1 z2 hyr hy hj0 hp0
      gi_loopw [17] (fun i wr => RelW l c1 c2 n J pre d (d, Lt.mk tag ba bc body ka kc kids) kids W i wr) (fun i _ => n - (intOf i).toNat)
      case atStart => exact ⟨0, [x0], Nat.zero_le _, rfl, Lib.hid (by simp [Lt.itemss, HX0.out]), hJ2, HP2⟩
      case round =>
        clear hJ2 HP2 z3
        obtain ⟨k, ys, hk, rfl, HYS, hJk, HPK⟩ := hrel
        obtain ⟨V, hV⟩ : ∃ V, V = wr := ⟨_, rfl⟩
        subst hV
        by_cases hkn : k < n
        case pos =>
          have hkI : (k : Int) < (n : Int) := by omega
          have hk0 : (0 : Int) ≤ (k : Int) := by omega
          obtain ⟨b, off, rfl, hb, hcs⟩ := (HROW.out V HPK.out).2.2 (by have := HN2.out; omega)
          obtain ⟨q0, q1, q2⟩ := hcs k (by have := HN2.out; omega)
          have hjA := hJ _ _ (.cells #[.int .u8 ((kids.getD k default).tag : Int), .slice (kids.getD k default).ba (kids.getD k default).body.length (kids.getD k default).bc, .slice (kids.getD k default).ka (kids.getD k default).kids.length (kids.getD k default).kc] 31) hJk
          have HC0 := HIH.out k hkn (V.alloc (.cells #[.int .u8 ((kids.getD k default).tag : Int), .slice (kids.getD k default).ba (kids.getD k default).body.length (kids.getD k default).bc, .slice (kids.getD k default).ka (kids.getD k default).kids.length (kids.getD k default).kc] 31)) ys (HPK.out.trans (PassX.alloc _ _ _ _)) hjA (HLEN.out k ys hk HYS.out)
          have HPA : Hid (∀ W', PassX c1 c2 (V.alloc (.cells #[.int .u8 ((kids.getD k default).tag : Int), .slice (kids.getD k default).ba (kids.getD k default).body.length (kids.getD k default).bc, .slice (kids.getD k default).ka (kids.getD k default).kids.length (kids.getD k default).kc] 31)) W' → PassX c1 c2 W W') := Lib.hid fun W' hp => (HPK.out.trans (PassX.alloc _ _ _ _)).trans hp
          have HC : Hid (CallsIn F (m - 1) Tryz.prog 147 #[.agg #[.int .u8 ((kids.getD k default).tag : Int), .slice (kids.getD k default).ba (kids.getD k default).body.length (kids.getD k default).bc, .slice (kids.getD k default).ka (kids.getD k default).kids.length (kids.getD k default).kc], .int .i64 ((d : Int) + 1), .func (.yield l) #[] #[]] (V.alloc (.cells #[.int .u8 ((kids.getD k default).tag : Int), .slice (kids.getD k default).ba (kids.getD k default).body.length (kids.getD k default).bc, .slice (kids.getD k default).ka (kids.getD k default).kids.length (kids.getD k default).kc] 31)) fun e W'' =>
            (e = .returned (.bool true) ∧ ∃ ys' : List It, ys'.map (·.1) = (d, Lt.mk tag ba bc body (some ⟨b, off, none⟩) kc kids) :: Lt.itemss (kids.take (k + 1)) (d + 1) ∧ J (pre ++ ys') W'' ∧ PassX c1 c2 W W'') ∨ (e = .returned (.bool false) ∧ ∃ ys' : List It, ys'.map (·.1) <+: (d, Lt.mk tag ba bc body (some ⟨b, off, none⟩) kc kids) :: Lt.itemss kids (d + 1) ∧ Jx (pre ++ ys') W'')) := Lib.hid (CallsIn.mono HC0 fun e W'' h => by
              rcases h with ⟨h1, zs, h2, h3, h4⟩ | ⟨h1, zs, h2, h3⟩
              · exact .inl ⟨h1, ys ++ zs, by rw [List.map_append, HYS.out, h2, HIT.out k hkn]; rfl, by rw [← List.append_assoc]; exact h3, HPA.out _ h4⟩
              · refine .inr ⟨h1, ys ++ zs, ?_, by rw [← List.append_assoc]; exact h3⟩
                rw [List.map_append, HYS.out, List.cons_append]
                exact (List.cons_prefix_cons.2 ⟨rfl, ((List.prefix_append_right_inj _).2 h2).trans (HIP.out k hkn)⟩))
          clear hcs HC0 hjA HPA HIH HIT HIP HLEN HYS
          generalize (kids.getD k default).tag = dt at *
          generalize (kids.getD k default).ba = dba at *
          generalize (kids.getD k default).bc = dbc at *
          generalize (kids.getD k default).body.length = dbl at *
          generalize (kids.getD k default).ka = dka at *
          generalize (kids.getD k default).kids.length = dkl at *
          generalize (kids.getD k default).kc = dkc at *
          have hb9 : Holds (V.alloc (.cells #[.int .u8 (dt : Int), .slice dba dbl dbc, .slice dka dkl dkc] 31)) V.heap.size 31 #[.int .u8 (dt : Int), .slice dba dbl dbc, .slice dka dkl dkc] := Holds.fresh _ _ _
          have y0 : (V.alloc (.cells #[.int .u8 (dt : Int), .slice dba dbl dbc, .slice dka dkl dkc] 31)).cell? ⟨V.heap.size, 0, none⟩ = some (.int .u8 (dt : Int)) := hb9.cell 0
          have y1 : (V.alloc (.cells #[.int .u8 (dt : Int), .slice dba dbl dbc, .slice dka dkl dkc] 31)).cell? ⟨V.heap.size, 1, none⟩ = some (.slice dba dbl dbc) := hb9.cell 1
          have y2 : (V.alloc (.cells #[.int .u8 (dt : Int), .slice dba dbl dbc, .slice dka dkl dkc] 31)).cell? ⟨V.heap.size, 2, none⟩ = some (.slice dka dkl dkc) := hb9.cell 2
          clear hb9
          gi_wp2_with ((try refine ⟨hdd _, ?_⟩); gi_at_call 147; refine HC.out.mono ?_; clear HC; rintro e W3 (⟨rfl, ys', hys', hJ3, hp3⟩ | ⟨rfl, ys', hys', hx3⟩))
          · go_roundw
            case rel => exact ⟨k + 1, ys', by omega, by go_num, Lib.hid hys', hJ3, Lib.hid hp3⟩
            case measure => simp [intOf]; omega
          · go_ret
            exact .inr ⟨rfl, ys', hys', hx3⟩
        case neg =>
          obtain rfl : k = n := by omega
          have hkI : ¬ ((k : Int) < (k : Int)) := by omega
          have HYE : Hid (ys.map (·.1) = (d, Lt.mk tag ba bc body ka kc kids) :: Lt.itemss kids (d + 1)) := Lib.hid (by
            have h := HYS.out
            rw [List.take_of_length_le (by have := HN2.out; omega)] at h
            exact h)
          gi_wp2
          go_ret
          exact .inl ⟨rfl, ys, HYE.out, hJk, HPK.out⟩
    · go_ret
      exact .inr ⟨rfl, [x0], by rw [List.map_cons, HX0.out]; exact List.cons_prefix_cons.2 ⟨rfl, List.nil_prefix⟩, hx2⟩
end Go.Proofs.YtbkjjhpnjfdlbaaGreatDoor
namespace Go.Proofs.YtbkjjhpnjfdlbaaGreatDoor
open Go.RowKit Go.Shelf
set_option linter.unusedVariables false
set_option linter.unusedSimpArgs false
attribute [local go_sem] Oper.semAt_some

set_option maxRecDepth 100000 in
set_option maxHeartbeats 1000000 in
theorem all1_in (F : Fence) (hd : F.depth = none) (m : Nat) (h36 : F.fn 146) (h37 : F.fn 147) (hro : F.round = none) (l Bt c1 c2 B : Nat) (t : Lt) (J Jx : List It → World → Prop) (hJ : ∀ s W o, J s W → J s (W.alloc o))
    (hY : ∀ pre x W, J pre W → pre.length < t.t.count → YieldAt F (m - 1) Tryz.prog l (itv x) W fun e W' =>
      (e = .returned (.bool true) ∧ J (pre ++ [x]) W' ∧ PassX c1 c2 W W') ∨ (e = .returned (.bool false) ∧ Jx (pre ++ [x]) W'))
    (W : World) (hBt : Holds W Bt 31 t.cells) (hr : TrAt W B t) (hB1 : B ≤ c1) (hB2 : B ≤ c2) (hc1 : c1 < W.heap.size) (hc2 : c2 < W.heap.size) (hmx : t.t.count ≤ 3000000) (h0 : J [] W) :
    CallsIn F m Tryz.prog 146 #[.func (.yield l) #[] #[], .pointer (some ⟨Bt, 0, none⟩)] W fun e W' => (∃ v, e = .returned v) ∧
      ((∃ ys : List It, ys.map (·.1) = t.items 1 ∧ J ys W') ∨ (∃ pre : List It, pre.map (·.1) <+: t.items 1 ∧ Jx pre W')) := by
  have hdd : ∀ k : Nat, (F.depth.isSome = true → 1 ≤ k) := fun k h => by rw [hd] at h; cases h
  have anyD : ∀ (m' : Nat) (args : Array Value) (W : World) (R : Ending → World → Prop), YieldAt F (m - 1) Tryz.prog l args W R → YieldAt F m' Tryz.prog l args W R := fun m' args W R h => by
    obtain ⟨fn, tmps, assign, body, hy, hR⟩ := h
    exact ⟨fn, tmps, assign, body, hy, hR.1, fun c cs _ => hR.2 c cs (room_of_none hd _)⟩
  have hp := Lib.hid (walk_in F hd h37 hro l c1 c2 t.t.count J Jx hJ (fun m' pre x W hj hl => anyD m' _ _ _ (hY pre x W hj hl)) (t.sz + 1) t (Nat.lt_succ_self _) (m - 1) 1 B [] W hr hB1 hB2 hc1 hc2 h0 (by simp) (by omega))
  rw [Lt.val_eq] at hp
  have hcl : t.cells = #[.int .u8 (t.tag : Int), .slice t.ba t.body.length t.bc, .slice t.ka t.kids.length t.kc] := rfl
  rw [hcl] at hBt
  generalize t.tag = tag at *
  generalize t.ba = ba at *
  generalize t.bc = bc at *
  generalize t.body.length = bl at *
  generalize t.ka = ka at *
  generalize t.kids.length = n at *
  generalize t.kc = kc at *
  have z0 : W.cell? ⟨Bt, 0, none⟩ = some (.int .u8 (tag : Int)) := hBt.cell 0
  have z1 : W.cell? ⟨Bt, 1, none⟩ = some (.slice ba bl bc) := hBt.cell 1
  have z2 : W.cell? ⟨Bt, 2, none⟩ = some (.slice ka n kc) := hBt.cell 2
  clear hcl hBt hY anyD hr hJ
  refine callsIn_of_wp Tryz.func146 rfl h36 ?_ hro
  simp only [Tryz.ntmps146, List.size_toArray, List.length_cons, List.length_nil, Nat.reduceAdd, Nat.reduceSub, Array.replicate_succ, Array.replicate_zero, List.push_toArray, List.append_toArray, List.nil_append, List.cons_append]
  gi_wp2_with ((try refine ⟨hdd _, ?_⟩); gi_at_call 147; refine hp.out.mono ?_; clear hp; rintro e W1 (⟨rfl, ys, hys, hJ1, _⟩ | ⟨rfl, ys, hys, hx⟩))
  · go_end0
    exact ⟨⟨_, rfl⟩, .inl ⟨ys, hys, by simpa using hJ1⟩⟩
  · go_end0
    exact ⟨⟨_, rfl⟩, .inr ⟨ys, hys, by simpa using hx⟩⟩
set_option maxRecDepth 100000 in
set_option maxHeartbeats 1000000 in
theorem all_in (F : Fence) (m : Nat) (h24 : F.fn 124) (hro : F.round = none) (t : Lt) (w : World) :
    CallsIn F m Tryz.prog 124 #[t.val] w fun e w' => e = .returned (.func (.func 146) #[] #[.pointer (some ⟨w.heap.size, 0, none⟩)]) ∧ w' = w.alloc (.cells t.cells 31) := by
  have hcl : t.cells = #[.int .u8 (t.tag : Int), .slice t.ba t.body.length t.bc, .slice t.ka t.kids.length t.kc] := rfl
  rw [Lt.val_eq, hcl]
  generalize t.tag = tag at *
  generalize t.ba = ba at *
  generalize t.bc = bc at *
  generalize t.body.length = bl at *
  generalize t.ka = ka at *
  generalize t.kids.length = n at *
  generalize t.kc = kc at *
  clear hcl
  refine callsIn_of_wp Tryz.func124 rfl h24 ?_ hro
  simp only [Tryz.ntmps124, List.size_toArray, List.length_cons, List.length_nil, Nat.reduceAdd, Nat.reduceSub, Array.replicate_succ, Array.replicate_zero, List.push_toArray, List.append_toArray, List.nil_append, List.cons_append]
  gi_wp2
  go_ret
  exact ⟨rfl, rfl⟩
theorem all_stops (F : Fence) (hd : F.depth = none) (m : Nat) (h36 : F.fn 146) (h37 : F.fn 147) (hro : F.round = none) (Bt c1 c2 B : Nat) (t : Lt) (w : World) (hBt : Holds w Bt 31 t.cells) (hr : TrAt w B t) (hB : B ≤ w.heap.size) (hB1 : B ≤ c1) (hB2 : B ≤ c2) (hc1 : c1 < w.heap.size) (hc2 : c2 < w.heap.size) (hmx : t.t.count ≤ 3000000) :
    SeqStopsK F m Tryz.prog 146 #[.pointer (some ⟨Bt, 0, none⟩)] itv (PassX c1 c2) (fun ys => ys.map (·.1) = t.items 1) (fun pre => pre.map (·.1) <+: t.items 1) t.t.count w := fun l J Jx W hW hJ _ hY h0 =>
  all1_in F hd m h36 h37 hro l Bt c1 c2 B t J Jx (fun s W' o h => hJ s W' _ none h (World.grownBy_alloc W' o none) (fun r e => by cases e)) hY W (hBt.under hW hBt.lt) (hr.under' (hW.mono hB)) hB1 hB2 (Nat.lt_of_lt_of_le hc1 hW.size) (Nat.lt_of_lt_of_le hc2 hW.size) hmx h0
end Go.Proofs.YtbkjjhpnjfdlbaaGreatDoor
namespace Go.Proofs.YtbkjjhpnjfdlbaaGreatDoor
open Go.RowKit Go.Shelf
set_option linter.unusedVariables false
set_option linter.unusedSimpArgs false
attribute [local go_sem] Oper.semAt_some

theorem passX_put {c1 c2 : Nat} (W : World) (l : Nat) (o o' : Obj) (hl : W.heap[l]? = some o) (ho : o.isCells = false) : PassX c1 c2 W (W.putObj l o') :=
  ⟨by simp [World.putObj], fun b k v _ _ hv => cell_kept hv (grownBy_putObj' W l o') (fun r e => by cases e; exact ⟨o, hl, ho⟩)⟩
theorem passX_set {c1 c2 : Nat} (W : World) (k : Nat) (v : Value) {c : Nat} (hc : c = c1 ∨ c = c2) : PassX c1 c2 W (W.setCell ⟨c, k, none⟩ v) :=
  ⟨by simp [World.setCell], fun b o u h1 h2 hu => by
    rw [World.cell?_of_block (Below.heap_setCell W ⟨c, k, none⟩ v b (by show b ≠ c; rcases hc with rfl | rfl <;> assumption))]
    exact hu⟩
theorem cell_new_b (W : World) (v : Value) (t : TypeId) : (W.alloc (.cells #[v] t)).cell? ⟨W.heap.size, 0, none⟩ = some v ∧ (W.alloc (.cells #[v] t)).frozen? ⟨W.heap.size, 0, none⟩ = false :=
  ⟨Holds.cell (Holds.fresh W t #[v]) 0, Holds.open_ (Holds.fresh W t #[v]) 0⟩
end Go.Proofs.YtbkjjhpnjfdlbaaGreatDoor
namespace Go.Proofs.YtbkjjhpnjfdlbaaGreatDoor
open Go.RowKit Go.Shelf
set_option linter.unusedVariables false
set_option linter.unusedSimpArgs false
attribute [local go_sem] Oper.semAt_some

/-- Of one thing in a thing: it is not too deep, its tag and parts are such. -/
def fine (p : Nat × Lt) : Bool := ok1 p.2.tag p.2.body.length p.2.kids.length && decide (p.1 ≤ 12)
mutual
theorem Lt.fine_items : ∀ (t : Lt) (d : Nat), (∀ y ∈ t.items d, fine y = true) ↔ t.t.sound d = true
  | .mk tag ba bc body ka kc kids, d => by
    rw [Lt.items, Lt.t, Tr.sound, Bool.and_eq_true, ← Lt.fine_itemss kids (d + 1)]
    have hl : (Lt.ts kids).length = kids.length := by rw [Lt.ts_map, List.length_map]
    constructor
    · intro h
      refine ⟨?_, fun y hy => h y (List.mem_cons_of_mem _ hy)⟩
      have := h _ (List.mem_cons_self ..)
      rw [hl]
      simpa [fine, Lt.tag, Lt.body, Lt.kids] using this
    · rintro ⟨h1, h2⟩ y hy
      rcases List.mem_cons.1 hy with rfl | hy
      · rw [hl] at h1
        simpa [fine, Lt.tag, Lt.body, Lt.kids] using h1
      · exact h2 y hy
theorem Lt.fine_itemss : ∀ (l : List Lt) (d : Nat), (∀ y ∈ Lt.itemss l d, fine y = true) ↔ Tr.sounds (Lt.ts l) d = true
  | [], d => by simp [Lt.itemss, Lt.ts, Tr.sounds]
  | x :: r, d => by
    rw [Lt.itemss, Lt.ts, Tr.sounds, Bool.and_eq_true, ← Lt.fine_items x d, ← Lt.fine_itemss r d]
    constructor
    · intro h
      exact ⟨fun y hy => h y (List.mem_append_left _ hy), fun y hy => h y (List.mem_append_right _ hy)⟩
    · rintro ⟨h1, h2⟩ y hy
      rcases List.mem_append.1 hy with hy | hy
      · exact h1 y hy
      · exact h2 y hy
end
/-- What the loop holds to. -/
def IsI (b0 : Nat) (w : World) (cs : Array Value) (pre : List It) (W : World) : Prop :=
  (((W.cell? ⟨b0 + 2, 0, none⟩ = some (.int .i64 (pre.length : Int)) ∧ W.frozen? ⟨b0 + 2, 0, none⟩ = false) ∧ (W.cell? ⟨b0 + 1, 0, none⟩ = some (.bool false) ∧ W.frozen? ⟨b0 + 1, 0, none⟩ = false) ∧
    (W.cell? ⟨b0, 0, none⟩ = some (cs.getD 0 undef) ∧ W.cell? ⟨b0, 1, none⟩ = some (cs.getD 1 undef) ∧ W.cell? ⟨b0, 2, none⟩ = some (cs.getD 2 undef))) ∧ (∀ y ∈ pre, fine y.1 = true) ∧ pre.length ≤ 600) ∧ Below b0 w W
def IsX (b0 : Nat) (w : World) (c : Code) (pre : List It) (W : World) : Prop :=
  (c = .ret ∧ ((∃ y ∈ pre, fine y.1 = false) ∨ 600 < pre.length) ∧ W.cell? ⟨b0 + 1, 0, none⟩ = some (.bool false)) ∧ Below b0 w W
theorem isI_own {b0 : Nat} {w : World} {cs : Array Value} (hb : b0 ≤ w.heap.size) {B : Nat} (hB : b0 ≤ B) : OwnFrom B (IsI b0 w cs) :=
  OwnFrom.and (Own.from (fun s A B row hs hg hr => ⟨⟨⟨cell_kept hs.1.1.1 hg hr, (frozen_kept hs.1.1.1 hg hr).trans hs.1.1.2⟩, ⟨cell_kept hs.1.2.1.1 hg hr, (frozen_kept hs.1.2.1.1 hg hr).trans hs.1.2.1.2⟩, cell_kept hs.1.2.2.1 hg hr, cell_kept hs.1.2.2.2.1 hg hr, cell_kept hs.1.2.2.2.2 hg hr⟩, hs.2⟩) _) (ownFrom_below hb hB)
theorem isX_own {b0 : Nat} {w : World} (c : Code) (hb : b0 ≤ w.heap.size) {B : Nat} (hB : b0 ≤ B) : OwnFrom B (IsX b0 w c) :=
  OwnFrom.and (Own.from (fun s A B row hs hg hr => ⟨hs.1, hs.2.1, cell_kept hs.2.2 hg hr⟩) _) (ownFrom_below hb hB)
/-- The loop's variables. -/
def IsA (b0 : Nat) (cs : Array Value) (x : It) (a' : Act) (W : World) : Prop :=
  ∃ Bx, b0 + 3 ≤ Bx ∧ (W.cell? ⟨Bx, 0, none⟩ = some (.int .u8 (x.1.2.tag : Int)) ∧ W.cell? ⟨Bx, 1, none⟩ = some (.slice x.1.2.ba x.1.2.body.length x.1.2.bc) ∧ W.cell? ⟨Bx, 2, none⟩ = some (.slice x.1.2.ka x.1.2.kids.length x.1.2.kc)) ∧
    a' = { tmps := #[.agg cs, .pointer (some ⟨b0, 0, none⟩), .pointer (some ⟨b0 + 1, 0, none⟩), .pointer (some ⟨b0 + 2, 0, none⟩), .int .i64 (x.1.1 : Int), .pointer (some ⟨Bx, 0, none⟩), .agg cs, .func (.func 146) #[] #[.pointer (some ⟨b0 + 3, 0, none⟩)], .int .i64 (x.1.1 : Int), .agg #[.int .u8 (x.1.2.tag : Int), .slice x.1.2.ba x.1.2.body.length x.1.2.bc, .slice x.1.2.ka x.1.2.kids.length x.1.2.kc], undef, undef, undef, undef, undef, undef, undef, undef, undef, undef, undef, undef, undef, undef, undef, undef, undef, undef, undef, undef, undef, undef, undef, undef, undef, undef, undef, undef, undef, undef, undef, undef, undef, undef, undef, undef, undef, undef], defers := [] }
theorem isA_own {b0 : Nat} {cs : Array Value} (x : It) (a' : Act) {B : Nat} : OwnFrom B (fun (_ : Unit) W => IsA b0 cs x a' W) :=
  Own.from (fun _ A B row hs hg hr => by
    obtain ⟨Bx, h0, ⟨h1, h2, h3⟩, h4⟩ := hs
    exact ⟨Bx, h0, ⟨cell_kept h1 hg hr, cell_kept h2 hg hr, cell_kept h3 hg hr⟩, h4⟩) _
set_option maxRecDepth 100000 in
set_option maxHeartbeats 4000000 in
theorem isTl_any (t : Lt) (w : World) (B : Nat) (hr : TrAt w B t) (hB : B ≤ w.heap.size) (hmc : t.t.count ≤ 1000000) (hmx : t.t.enc.length ≤ 400000) :
    Calls Tryz.prog 102 #[t.val] w fun e w' => e = .returned (.bool (isT t.t)) ∧ Below w.heap.size w w' := by
  have hcl : t.cells = #[.int .u8 (t.tag : Int), .slice t.ba t.body.length t.bc, .slice t.ka t.kids.length t.kc] := rfl
  have HALL := Lib.hid (fun W => all_in Fence.wide 2 trivial rfl t W)
  have hinl : t.t.inl ≤ 400000 := by rw [Tr.enc_len] at hmx; omega
  have HSZ : Hid (∀ W, Below w.heap.size w W → Calls Tryz.prog 125 #[t.val] W fun e w' => e = .returned (.int .i64 (t.t.enc.length : Int)) ∧ Below W.heap.size W w') := Lib.hid fun W hW => size_any t W B (hr.under' (hW.mono hB)) (by have := hW.size; omega) hinl
  obtain ⟨w1, hw1⟩ : ∃ w1, w.alloc (.cells t.cells 31) = w1 := ⟨_, rfl⟩
  obtain ⟨w2, hw2⟩ : ∃ w2, w1.alloc (.cells #[.bool false] 4) = w2 := ⟨_, rfl⟩
  obtain ⟨w3, hw3⟩ : ∃ w3, w2.alloc (.cells #[.int .i64 0] 3) = w3 := ⟨_, rfl⟩
  obtain ⟨w4, hw4⟩ : ∃ w4, w3.alloc (.cells t.cells 31) = w4 := ⟨_, rfl⟩
  have hs1 : w1.heap.size = w.heap.size + 1 := by rw [← hw1]; simp
  have hs2 : w2.heap.size = w.heap.size + 2 := by rw [← hw2]; simp [hs1]
  have hs3 : w3.heap.size = w.heap.size + 3 := by rw [← hw3]; simp [hs2]
  have hs4 : w4.heap.size = w.heap.size + 4 := by rw [← hw4]; simp [hs3]
  have hb1 : Below w.heap.size w w1 := by rw [← hw1]; exact (Below.refl _ _).alloc (Nat.le_refl _) _
  have hb2 : Below w.heap.size w w2 := by rw [← hw2]; exact hb1.alloc hb1.size _
  have hb3 : Below w.heap.size w w3 := by rw [← hw3]; exact hb2.alloc hb2.size _
  have hb4 : Below w.heap.size w w4 := by rw [← hw4]; exact hb3.alloc hb3.size _
  have hbx1 : Holds w1 w.heap.size 31 t.cells := by rw [← hw1]; exact Holds.fresh _ _ _
  have hbx3 : Holds w3 w.heap.size 31 t.cells := by rw [← hw3, ← hw2]; exact (hbx1.alloc _).alloc _
  have hbx4 : Holds w4 w.heap.size 31 t.cells := by rw [← hw4]; exact hbx3.alloc _
  have hrs : Holds w4 (w.heap.size + 1) 4 #[.bool false] := by
    rw [← hw4, ← hw3, ← hw2, ← hs1]
    exact ((Holds.fresh w1 4 #[.bool false]).alloc _).alloc _
  have hct : Holds w4 (w.heap.size + 2) 3 #[.int .i64 0] := by
    rw [← hw4, ← hw3, ← hs2]
    exact (Holds.fresh w2 3 #[.int .i64 0]).alloc _
  have hit : Holds w4 (w.heap.size + 3) 31 t.cells := by
    rw [← hw4, ← hs3]
    exact Holds.fresh _ _ _
  have HST := Lib.hid (all_stops Fence.wide rfl 2 trivial trivial rfl (w.heap.size + 3) (w.heap.size + 1) (w.heap.size + 2) B t w4 hit (hr.under' (hb4.mono hB)) (by omega) (by omega) (by omega) (by omega) (by omega) (by omega))
  have HBX := Lib.hid hbx4
  have HRS := Lib.hid hrs
  have HCT := Lib.hid hct
  have HB4 := Lib.hid hb4
  have HLEN : Hid (∀ ys : List It, ys.map (·.1) = t.items 1 → ys.length = t.t.count) := Lib.hid fun ys h => by rw [← Lt.items_len t 1, ← h, List.length_map]
  have HALLF : Hid (∀ ys : List It, ys.map (·.1) = t.items 1 → (∀ y ∈ ys, fine y.1 = true) → ys.length ≤ 600 → isT t.t = decide (t.t.enc.length ≤ 12000)) := Lib.hid fun ys h h1 h2 => by
    have hs : t.t.sound 1 = true := (Lt.fine_items t 1).1 fun y hy => by
      rw [← h] at hy
      obtain ⟨z, hz, rfl⟩ := List.mem_map.1 hy
      exact h1 z hz
    have hc : t.t.count ≤ 600 := by rw [← HLEN.out ys h]; exact h2
    unfold isT
    rw [hs]
    simp [hc]
  have HNOT : Hid (∀ pre : List It, pre.map (·.1) <+: t.items 1 → ((∃ y ∈ pre, fine y.1 = false) ∨ 600 < pre.length) → isT t.t = false) := Lib.hid fun pre h hb => by
    rcases hb with ⟨y, hy, hf⟩ | hb
    · have : t.t.sound 1 = false := by
        cases e : t.t.sound 1
        · rfl
        · have h2 := (Lt.fine_items t 1).2 e y.1 (h.subset (List.mem_map.2 ⟨y, hy, rfl⟩))
          rw [hf] at h2
          cases h2
      unfold isT
      rw [this]
      rfl
    · have hl := h.length_le
      rw [List.length_map, Lt.items_len] at hl
      have : ¬ t.t.count ≤ 600 := by omega
      unfold isT
      simp [this]
  generalize t.t.count = cnt at *
  generalize t.items 1 = its at *
  generalize isT t.t = res at *
  generalize t.t.enc.length = el at *
  rw [Lt.val_eq] at HALL HSZ ⊢
  rw [hcl] at HALL hbx1 hbx3 hw1 hw4 HBX
  clear hcl hr hit hct hrs hb4 hb1 hb2 hb3 hbx4 hinl
  generalize t.tag = tag at *
  generalize t.ba = ba at *
  generalize t.bc = bc at *
  generalize t.body.length = bl at *
  generalize t.ka = ka at *
  generalize t.kids.length = n at *
  generalize t.kc = kc at *
  have y0 : w1.cell? ⟨w.heap.size, 0, none⟩ = some (.int .u8 (tag : Int)) := hbx1.cell 0
  have y1 : w1.cell? ⟨w.heap.size, 1, none⟩ = some (.slice ba bl bc) := hbx1.cell 1
  have y2 : w1.cell? ⟨w.heap.size, 2, none⟩ = some (.slice ka n kc) := hbx1.cell 2
  have z0 : w3.cell? ⟨w.heap.size, 0, none⟩ = some (.int .u8 (tag : Int)) := hbx3.cell 0
  have z1 : w3.cell? ⟨w.heap.size, 1, none⟩ = some (.slice ba bl bc) := hbx3.cell 1
  have z2 : w3.cell? ⟨w.heap.size, 2, none⟩ = some (.slice ka n kc) := hbx3.cell 2
  rw [← hw1] at y0 y1 y2
  rw [← hw3, ← hw2, ← hw1] at z0 z1 z2
  rw [← hw4, ← hw3, ← hw2, ← hw1] at HST HCT HB4 HRS HBX
  clear hbx1 hbx3 hw1 hw2 hw3 hw4 hs1 hs2 hs3 hs4
  refine (callsIn_wide (n := 3)).1 ?_
  refine callsIn_of_wp_marks Tryz.func102 rfl trivial ?_ rfl
  simp only [Tryz.ntmps102, List.size_toArray, List.length_cons, List.length_nil, Nat.reduceAdd, Nat.reduceSub, Array.replicate_succ, Array.replicate_zero, List.push_toArray, List.append_toArray, List.nil_append, List.cons_append]
  gi_wp2_with (refine ⟨trivial, ?_⟩; gi_at_call 124; refine (HALL.out _).mono ?_; rintro e w' ⟨rfl, rfl⟩)
  have hsz : ((((w.alloc (.cells #[.int .u8 (tag : Int), .slice ba bl bc, .slice ka n kc] 31)).alloc (.cells #[.bool false] 4)).alloc (.cells #[.int .i64 0] 3)).alloc (.cells #[.int .u8 (tag : Int), .slice ba bl bc, .slice ka n kc] 31)).heap.size = w.heap.size + 4 := by simp
  generalize ((((w.alloc (.cells #[.int .u8 (tag : Int), .slice ba bl bc, .slice ka n kc] 31)).alloc (.cells #[.bool false] 4)).alloc (.cells #[.int .i64 0] 3)).alloc (.cells #[.int .u8 (tag : Int), .slice ba bl bc, .slice ka n kc] 31)) = W4 at *
  clear z0 z1 z2 y0 y1 y2 HALL
  refine wpIn_rangeFunc_ownH rfl (by omega) (gf := 146) (lb := #[.pointer (some ⟨w.heap.size + 3, 0, none⟩)]) rfl trivial (enters_of Tryz.func146 (by kernel_rfl) rfl) HST.out PassX.trans (fun W l o o' _ hl ho _ => passX_put W l o o' hl ho) (Below.refl _ _) (fun _ => rfl)
    (IsI w.heap.size w #[.int .u8 (tag : Int), .slice ba bl bc, .slice ka n kc]) (IsX w.heap.size w) (isI_own (Nat.le_refl _) (by omega)) (fun c => isX_own c (Nat.le_refl _) (by omega))
    ⟨⟨⟨⟨HCT.out.cell 0, HCT.out.open_ 0⟩, ⟨HRS.out.cell 0, HRS.out.open_ 0⟩, HBX.out.cell 0, HBX.out.cell 1, HBX.out.cell 2⟩, (fun y hy => by cases hy), Nat.zero_le _⟩, HB4.out⟩
    (IsA w.heap.size #[.int .u8 (tag : Int), .slice ba bl bc, .slice ka n kc]) (fun x a' => isA_own x a') ?assign ?body ?done ?stop
  case assign =>
    intro l pre x W K hI hK
    have hWs : w.heap.size + 2 < W.heap.size := World.block_lt_of_cell? W _ hI.1.1.1.1
    simp [itv, Lt.val_eq]
    gi_wp2
    exact hK _ _ ((KeepsOthers.alloc _ _).from _) (PassX.alloc _ _ _ _) ((isI_own (Nat.le_refl _) (Nat.le_refl _)).alloc _ hI) ⟨W.heap.size, hWs, ⟨(Holds.fresh W _ _).cell 0, (Holds.fresh W _ _).cell 1, (Holds.fresh W _ _).cell 2⟩, rfl⟩
  case body =>
    rintro l pre x a' W hlW hloop ⟨⟨⟨⟨hc, hcf⟩, ⟨hr, hrf⟩, x0, x1, x2⟩, hfine, hlen⟩, hBW⟩ ⟨Bx, hBx, ⟨b0, b1, b2⟩, rfl⟩ hltc
    have htg := x.2
    have HFX : Hid (fine x.1 = (ok1 x.1.2.tag x.1.2.body.length x.1.2.kids.length && decide (x.1.1 ≤ 12))) := Lib.hid rfl
    have HPL : Hid ((pre ++ [x]).length = pre.length + 1) := Lib.hid (by simp)
    have HMEM : Hid (x ∈ pre ++ [x]) := Lib.hid (by simp)
    have HFN : Hid (fine x.1 = true → ∀ y ∈ pre ++ [x], fine y.1 = true) := Lib.hid fun h y hy => by
      rcases List.mem_append.1 hy with h2 | h2
      · exact hfine y h2
      · rw [List.mem_singleton.1 h2]; exact h
    have HBAD : Hid (fine x.1 = false → ∃ y ∈ pre ++ [x], fine y.1 = false) := Lib.hid fun h => ⟨x, HMEM.out, h⟩
    generalize fine x.1 = fx at *
    have hxx : (pre ++ [x]).length = pre.length + 1 := HPL.out
    have hbb2 : Below w.heap.size w (W.setCell ⟨w.heap.size + 2, 0, none⟩ (.int .i64 ((pre.length : Int) + 1))) := hBW.setCell (p := ⟨w.heap.size + 2, 0, none⟩) (by show _ ≤ w.heap.size + 2; omega) _
    have o1 : ∀ b o, b ≠ w.heap.size + 2 → (W.setCell ⟨w.heap.size + 2, 0, none⟩ (.int .i64 ((pre.length : Int) + 1))).cell? ⟨b, o, none⟩ = W.cell? ⟨b, o, none⟩ := fun b o hb => World.cell?_of_block (Below.heap_setCell W ⟨w.heap.size + 2, 0, none⟩ _ b hb)
    have f1 : ∀ b o, b ≠ w.heap.size + 2 → (W.setCell ⟨w.heap.size + 2, 0, none⟩ (.int .i64 ((pre.length : Int) + 1))).frozen? ⟨b, o, none⟩ = W.frozen? ⟨b, o, none⟩ := fun b o hb => by rw [World.frozen?_setCell]
    have e0 : (W.setCell ⟨w.heap.size + 2, 0, none⟩ (.int .i64 ((pre.length : Int) + 1))).cell? ⟨Bx, 0, none⟩ = some (.int .u8 (x.1.2.tag : Int)) := (o1 _ _ (by omega)).trans b0
    have e1 : (W.setCell ⟨w.heap.size + 2, 0, none⟩ (.int .i64 ((pre.length : Int) + 1))).cell? ⟨Bx, 1, none⟩ = some (.slice x.1.2.ba x.1.2.body.length x.1.2.bc) := (o1 _ _ (by omega)).trans b1
    have e2 : (W.setCell ⟨w.heap.size + 2, 0, none⟩ (.int .i64 ((pre.length : Int) + 1))).cell? ⟨Bx, 2, none⟩ = some (.slice x.1.2.ka x.1.2.kids.length x.1.2.kc) := (o1 _ _ (by omega)).trans b2
    have e3 : (W.setCell ⟨w.heap.size + 2, 0, none⟩ (.int .i64 ((pre.length : Int) + 1))).cell? ⟨w.heap.size + 1, 0, none⟩ = some (.bool false) := (o1 _ _ (by omega)).trans hr
    have e4 : (W.setCell ⟨w.heap.size + 2, 0, none⟩ (.int .i64 ((pre.length : Int) + 1))).frozen? ⟨w.heap.size + 1, 0, none⟩ = false := (f1 _ _ (by omega)).trans hrf
    have e5 : (W.setCell ⟨w.heap.size + 2, 0, none⟩ (.int .i64 ((pre.length : Int) + 1))).cell? ⟨w.heap.size + 2, 0, none⟩ = some (.int .i64 ((pre.length : Int) + 1)) := World.cell?_setCell_same' _ _ _ (by rw [hc]; rfl)
    have HRET : Hid ((∃ y ∈ pre ++ [x], fine y.1 = false) ∨ 600 < (pre ++ [x]).length → IsX w.heap.size w .ret (pre ++ [x]) ((W.setCell ⟨w.heap.size + 2, 0, none⟩ (.int .i64 ((pre.length : Int) + 1))).setCell ⟨w.heap.size + 1, 0, none⟩ (.bool false))) := Lib.hid fun h => ⟨⟨rfl, h, World.cell?_setCell_same' _ _ _ (by rw [e3]; rfl)⟩, hbb2.setCell (p := ⟨w.heap.size + 1, 0, none⟩) (by show _ ≤ w.heap.size + 1; omega) _⟩
    have HOKE : Hid (fx = true ∧ (pre ++ [x]).length ≤ 600 → IsI w.heap.size w #[.int .u8 (tag : Int), .slice ba bl bc, .slice ka n kc] (pre ++ [x]) (W.setCell ⟨w.heap.size + 2, 0, none⟩ (.int .i64 ((pre.length : Int) + 1)))) := Lib.hid fun h => ⟨⟨⟨⟨by rw [hxx, e5]; push_cast; rfl, by rw [World.frozen?_setCell]; exact hcf⟩, ⟨e3, e4⟩, (o1 _ _ (by omega)).trans x0, (o1 _ _ (by omega)).trans x1, (o1 _ _ (by omega)).trans x2⟩, HFN.out h.1, h.2⟩, hbb2⟩
    have hws : IntKind.i64.wrap ((pre.length : Int) + 1) = (pre.length : Int) + 1 := IntWalk.i64_in _ (by omega)
    have HXL := Lib.hid hxx
    clear o1 f1 hbb2 x0 x1 x2 b0 b1 b2 hxx hfine HMEM HPL hlW hloop
    generalize x.1.2.tag = tg at *
    generalize x.1.2.ba = xba at *
    generalize x.1.2.bc = xbc at *
    generalize x.1.2.body.length = xbl at *
    generalize x.1.2.ka = xka at *
    generalize x.1.2.kids.length = xn at *
    generalize x.1.2.kc = xkc at *
    generalize x.1.1 = dd at *
    generalize pre.length = pl at *
    by_cases h2 : dd ≤ 12
    case neg =>
      have d1 : decide ((12 : Int) < (dd : Int)) = true := decide_eq_true (by omega)
      have d2 : decide (12 < dd) = true := decide_eq_true (by omega)
      have hbad : (∃ y ∈ pre ++ [x], fine y.1 = false) ∨ 600 < (pre ++ [x]).length := .inl (HBAD.out (by rw [HFX.out]; simp [h2]))
      gi_wp2
      refine ⟨trivial, ?_⟩
      gi_wp2
      exact ⟨((KeepsOthers.setCell _ _ _).trans (KeepsOthers.setCell _ _ _)).from _, HRET.out hbad⟩
    have d1 : decide ((12 : Int) < (dd : Int)) = false := decide_eq_false (by omega)
    have d2 : decide (12 < dd) = false := decide_eq_false (by omega)
    by_cases h6 : 600 ≤ pl
    case pos =>
      have d3 : decide ((600 : Int) < (pl : Int) + 1) = true := decide_eq_true (by omega)
      have d4 : decide ((600 : Int) ≤ (pl : Int)) = true := decide_eq_true (by omega)
      have d5 : decide (600 ≤ pl) = true := decide_eq_true (by omega)
      have hbad : (∃ y ∈ pre ++ [x], fine y.1 = false) ∨ 600 < (pre ++ [x]).length := .inr (by rw [HXL.out]; omega)
      gi_wp2
      refine ⟨trivial, ?_⟩
      gi_wp2
      exact ⟨((KeepsOthers.setCell _ _ _).trans (KeepsOthers.setCell _ _ _)).from _, HRET.out hbad⟩
    have d3 : decide ((600 : Int) < (pl : Int) + 1) = false := decide_eq_false (by omega)
    have d4 : decide ((600 : Int) ≤ (pl : Int)) = false := decide_eq_false (by omega)
    have d5 : decide (600 ≤ pl) = false := decide_eq_false (by omega)
    rcases h1 : tagOk tg with _ | _
    case false =>
      have hbad : (∃ y ∈ pre ++ [x], fine y.1 = false) ∨ 600 < (pre ++ [x]).length := .inl (HBAD.out (by rw [HFX.out]; simp [ok1, h1]))
      gi_wp2_with (refine ⟨trivial, ?_⟩; gi_at_call 74; refine (CallsIn.inRound l (callsIn_wide.2 (tagged_any _ tg htg))).mono ?_; rintro e w' ⟨rfl, rfl⟩; rw [h1])
      exact ⟨((KeepsOthers.setCell _ _ _).trans (KeepsOthers.setCell _ _ _)).from _, HRET.out hbad⟩
    rcases h3 : parted tg with _ | _
    case false =>
      by_cases h4 : 0 < xn
      case pos =>
        have d6 : decide ((0 : Int) < (xn : Int)) = true := decide_eq_true (by omega)
        have d7 : decide (0 < xn) = true := decide_eq_true (by omega)
        have hbad : (∃ y ∈ pre ++ [x], fine y.1 = false) ∨ 600 < (pre ++ [x]).length := .inl (HBAD.out (by rw [HFX.out]; simp [ok1, h1, h3, h4]))
        gi_wp2_with (first
          | (refine ⟨trivial, ?_⟩; gi_at_call 74; refine (CallsIn.inRound l (callsIn_wide.2 (tagged_any _ tg htg))).mono ?_; rintro e w' ⟨rfl, rfl⟩; rw [h1])
          | (refine ⟨trivial, ?_⟩; gi_at_call 76; refine (CallsIn.inRound l (callsIn_wide.2 (constructed_any _ tg htg))).mono ?_; rintro e w' ⟨rfl, rfl⟩; rw [h3]))
        exact ⟨((KeepsOthers.setCell _ _ _).trans (KeepsOthers.setCell _ _ _)).from _, HRET.out hbad⟩
      case neg =>
        have d6 : decide ((0 : Int) < (xn : Int)) = false := decide_eq_false (by omega)
        have d7 : decide (0 < xn) = false := decide_eq_false (by omega)
        have hgood : fx = true ∧ (pre ++ [x]).length ≤ 600 := ⟨by rw [HFX.out]; simp [ok1, h1, h3, h4, h2], by rw [HXL.out]; omega⟩
        gi_wp2_with (first
          | (refine ⟨trivial, ?_⟩; gi_at_call 74; refine (CallsIn.inRound l (callsIn_wide.2 (tagged_any _ tg htg))).mono ?_; rintro e w' ⟨rfl, rfl⟩; rw [h1])
          | (refine ⟨trivial, ?_⟩; gi_at_call 76; refine (CallsIn.inRound l (callsIn_wide.2 (constructed_any _ tg htg))).mono ?_; rintro e w' ⟨rfl, rfl⟩; rw [h3]))
        exact ⟨(KeepsOthers.setCell _ _ _).from _, passX_set _ _ _ (.inr rfl), HOKE.out hgood⟩
    case true =>
      by_cases h4 : 0 < xbl
      case pos =>
        have d6 : decide ((0 : Int) < (xbl : Int)) = true := decide_eq_true (by omega)
        have d7 : decide (0 < xbl) = true := decide_eq_true (by omega)
        have hbad : (∃ y ∈ pre ++ [x], fine y.1 = false) ∨ 600 < (pre ++ [x]).length := .inl (HBAD.out (by rw [HFX.out]; simp [ok1, h1, h3, h4]))
        gi_wp2_with (first
          | (refine ⟨trivial, ?_⟩; gi_at_call 74; refine (CallsIn.inRound l (callsIn_wide.2 (tagged_any _ tg htg))).mono ?_; rintro e w' ⟨rfl, rfl⟩; rw [h1])
          | (refine ⟨trivial, ?_⟩; gi_at_call 76; refine (CallsIn.inRound l (callsIn_wide.2 (constructed_any _ tg htg))).mono ?_; rintro e w' ⟨rfl, rfl⟩; rw [h3]))
        refine ⟨trivial, ?_⟩
        gi_wp2
        all_goals first
          | exact ⟨((KeepsOthers.setCell _ _ _).trans (KeepsOthers.setCell _ _ _)).from _, HRET.out hbad⟩
          | (rename_i bb hu hb; exact absurd hu (by simp [undef]))
      case neg =>
        have d6 : decide ((0 : Int) < (xbl : Int)) = false := decide_eq_false (by omega)
        have d7 : decide (0 < xbl) = false := decide_eq_false (by omega)
        have hgood : fx = true ∧ (pre ++ [x]).length ≤ 600 := ⟨by rw [HFX.out]; simp [ok1, h1, h3, h4, h2], by rw [HXL.out]; omega⟩
        gi_wp2_with (first
          | (refine ⟨trivial, ?_⟩; gi_at_call 74; refine (CallsIn.inRound l (callsIn_wide.2 (tagged_any _ tg htg))).mono ?_; rintro e w' ⟨rfl, rfl⟩; rw [h1])
          | (refine ⟨trivial, ?_⟩; gi_at_call 76; refine (CallsIn.inRound l (callsIn_wide.2 (constructed_any _ tg htg))).mono ?_; rintro e w' ⟨rfl, rfl⟩; rw [h3]))
        exact ⟨(KeepsOthers.setCell _ _ _).from _, passX_set _ _ _ (.inr rfl), HOKE.out hgood⟩
  case done =>
    rintro D ys W hD hS ⟨⟨⟨⟨hc, hcf⟩, ⟨hr, hrf⟩, x0, x1, x2⟩, hfine, hlen⟩, hBW⟩ hK
    have HRES := Lib.hid (HALLF.out ys hS hfine hlen)
    have HC := Lib.hid (HSZ.out W hBW)
    have x0' : W.cell? ⟨w.heap.size, 0, none⟩ = some (.int .u8 (tag : Int)) := x0
    have x1' : W.cell? ⟨w.heap.size, 1, none⟩ = some (.slice ba bl bc) := x1
    have x2' : W.cell? ⟨w.heap.size, 2, none⟩ = some (.slice ka n kc) := x2
    clear x0 x1 x2
    have hlt1 : w.heap.size + 1 < W.heap.size := World.block_lt_of_cell? W _ hr
    have hltD : D < W.heap.size := (Array.getElem?_eq_some_iff.1 hK).1
    gi_wp2_with (refine ⟨trivial, ?_⟩; gi_at_call 125; refine (callsIn_wide.2 HC.out).mono ?_; rintro e w' ⟨rfl, hb'⟩; have hr2 : w'.cell? ⟨w.heap.size + 1, 0, none⟩ = some (.bool false) := (hb'.cell (p := ⟨w.heap.size + 1, 0, none⟩) hlt1).trans hr; have hrf2 : w'.frozen? ⟨w.heap.size + 1, 0, none⟩ = false := (hb'.frozen (p := ⟨w.heap.size + 1, 0, none⟩) hlt1).trans hrf)
    have hd2 : w'.heap[D]? = some (.deferred (some [])) := (hb'.block D hltD).trans hK
    have hd3 := (KeepsOthers.setCell w' ⟨w.heap.size + 1, 0, none⟩ (.bool (decide ((el : Int) ≤ 12000)))).same D _ hd2 rfl
    have hr3 : (w'.setCell ⟨w.heap.size + 1, 0, none⟩ (.bool (decide ((el : Int) ≤ 12000)))).cell? ⟨w.heap.size + 1, 0, none⟩ = some (.bool (decide ((el : Int) ≤ 12000))) := World.cell?_setCell_same' _ _ _ (by rw [hr2]; rfl)
    have hr4 := cell_kept hr3 (grownBy_putObj' _ D (.deferred none)) (fun r e => by cases e; exact ⟨_, hd3, rfl⟩)
    refine ⟨by simp, .inl ⟨_, _, rfl, run_takeDeferred hd3, ?_⟩⟩
    have hBF : Below w.heap.size w ((w'.setCell ⟨w.heap.size + 1, 0, none⟩ (.bool (decide ((el : Int) ≤ 12000)))).putObj D (.deferred none)) :=
      ((hBW.trans (hb'.mono hBW.size)).setCell (p := ⟨w.heap.size + 1, 0, none⟩) (by show _ ≤ w.heap.size + 1; omega) _).trans (belowK_b (w := w) (Nat.le_refl _) _ D _ _ (by omega) hd3 rfl rfl)
    have hdd : decide ((el : Int) ≤ 12000) = res := by rw [HRES.out, decide_eq_decide]; omega
    exact ⟨.bool (decide ((el : Int) ≤ 12000)), by simp [results, Tryz.results102, go_sem, hr4], by rw [hdd], hBF⟩
  case stop =>
    rintro D c pre W hD hS ⟨⟨rfl, hbad, hr⟩, hBW⟩ hK
    have HRES := Lib.hid (HNOT.out pre hS hbad)
    have hr4 := cell_kept hr (grownBy_putObj' _ D (.deferred none)) (fun r e => by cases e; exact ⟨_, hK, rfl⟩)
    gi_wp2
    refine ⟨by simp, .inl ⟨_, _, rfl, run_takeDeferred hK, ?_⟩⟩
    exact ⟨.bool false, by simp [results, Tryz.results102, go_sem, hr4], by rw [HRES.out], hBW.trans (belowK_b (w := w) (Nat.le_refl _) W D _ _ (by omega) hK rfl rfl)⟩
end Go.Proofs.YtbkjjhpnjfdlbaaGreatDoor
namespace Go.Proofs.YtbkjjhpnjfdlbaaGreatDoor
open Go.RowKit
set_option linter.unusedVariables false
set_option linter.unusedSimpArgs false

/-- Where a slice goes on behind its first k elements. -/
def dropA (A : Option Addr) (k c : Nat) : Option Addr := if c = k then A else A.map fun a => a.add k
theorem under22 : Tryz.prog.underlying 22 = some (.slice (Tryz.prog.elem 22)) := by kernel_rfl
theorem size22 (W : World) : (sizeOf (Tryz.prog.elem 22)).run Tryz.prog W = .ok 1 W := by kernel_rfl
theorem run_drop (W : World) (A : Option Addr) (n c k : Nat) (hk : k ≤ n) (hn : n ≤ c) :
    (Instr.sliceAt 22 (.slice A n c) (some (.int .i64 (k : Int))) none none).run Tryz.prog W = .ok (.slice (dropA A k c) (n - k) (c - k)) W := by
  rw [run_sliceAt_slice _ _ _ _ _ _ under22, run_slice_l _ _ _ _ _ under22 .i64 (k : Int) (by omega) (by omega), size22]
  simp [Result.andThen, sliced, dropA]
theorem run_take (W : World) (A : Option Addr) (n c k : Nat) (hk : k ≤ n) (hn : n ≤ c) :
    (Instr.sliceAt 22 (.slice A n c) none (some (.int .i64 (k : Int))) none).run Tryz.prog W = .ok (.slice (dropA A 0 c) k c) W := by
  rw [run_sliceAt_slice _ _ _ _ _ _ under22, run_slice_h _ _ _ _ _ under22 .i64 (k : Int) (by omega) (by omega), size22]
  simp [Result.andThen, sliced, dropA]
theorem run_mid (W : World) (A : Option Addr) (n c l k : Nat) (hl : l ≤ k) (hk : k ≤ n) (hn : n ≤ c) :
    (Instr.sliceAt 22 (.slice A n c) (some (.int .i64 (l : Int))) (some (.int .i64 (k : Int))) none).run Tryz.prog W = .ok (.slice (dropA A l c) (k - l) (c - l)) W := by
  rw [run_sliceAt_slice _ _ _ _ _ _ under22, run_slice_lh _ _ _ _ _ under22 .i64 .i64 (l : Int) (k : Int) (by omega) (by omega) (by omega), size22]
  simp [Result.andThen, sliced, dropA]
theorem Rd.drop {k : IntKind} {w : World} {B : Nat} {A : Option Addr} {c : Nat} {l : List Nat} (h : Rd k w B A c l) (m : Nat) (hm : m ≤ l.length) : Rd k w B (dropA A m c) (c - m) (l.drop m) := by
  refine ⟨by rw [List.length_drop]; have := h.1; omega, by have := h.2.1; omega, fun hn => ?_⟩
  rw [List.length_drop] at hn
  obtain ⟨b, off, rfl, hb, hc⟩ := h.2.2 (by omega)
  have h1 := h.1
  refine ⟨b, off + m, ?_, hb, fun j hj => ?_⟩
  · unfold dropA
    rw [if_neg (by omega)]
    simp [Addr.add]
  · rw [List.length_drop] at hj
    rw [Nat.add_assoc, hc (m + j) (by omega)]
    simp [List.getD]
theorem dropA_zero {A : Option Addr} {c : Nat} {k : IntKind} {w : World} {B : Nat} {l : List Nat} (h : Rd k w B A c l) : Rd k w B (dropA A 0 c) c l := by
  have := h.drop 0 (Nat.zero_le _)
  rw [List.drop_zero, Nat.sub_zero] at this
  exact this
theorem Rd.mid {k : IntKind} {w : World} {B : Nat} {A : Option Addr} {c : Nat} {l : List Nat} (h : Rd k w B A c l) (m n : Nat) (hm : m ≤ l.length) : Rd k w B (dropA A m c) (c - m) ((l.drop m).take n) := (h.drop m hm).cut n

/-- Bytes as a number, the greatest first. -/
def big (l : List Nat) : Nat := l.foldl (fun a x => a * 256 + x) 0
theorem big_snoc (l : List Nat) (x : Nat) : big (l ++ [x]) = big l * 256 + x := by simp [big]
theorem foldl_ge : ∀ (r : List Nat) (a : Nat), a ≤ r.foldl (fun a x => a * 256 + x) a
  | [], a => Nat.le_refl _
  | x :: r, a => by
    rw [List.foldl_cons]
    have := foldl_ge r (a * 256 + x)
    omega
theorem big_le_append (l r : List Nat) : big l ≤ big (l ++ r) := by
  unfold big
  rw [List.foldl_append]
  exact foldl_ge r _
theorem big_take_le (l : List Nat) (k m : Nat) (h : k ≤ m) : big (l.take k) ≤ big (l.take m) := by
  have e : l.take m = l.take k ++ (l.take m).drop k := by
    have := List.take_append_drop k (l.take m)
    rw [List.take_take, Nat.min_eq_left h] at this
    exact this.symm
  rw [e]
  exact big_le_append _ _
/-- A length that bytes begin with, of what is behind it, and how many bytes it has; none: there is none. -/
def lenOf : List Nat → Option (Nat × Nat)
  | [] => none
  | x :: r => if x < 128 then (if x ≤ r.length then some (x, 1) else none)
    else if x ≠ 128 ∧ x - 128 ≤ r.length ∧ r.getD 0 0 ≠ 0 ∧ 128 ≤ big (r.take (x - 128)) ∧ big (r.take (x - 128)) ≤ r.length - (x - 128) then some (big (r.take (x - 128)), x - 127) else none
theorem lenOf_fits {b : List Nat} {k u : Nat} (h : lenOf b = some (k, u)) : 1 ≤ u ∧ u + k ≤ b.length := by
  cases b with
  | nil => simp [lenOf] at h
  | cons x r =>
    simp only [lenOf] at h
    by_cases h1 : x < 128
    · rw [if_pos h1] at h
      by_cases h2 : x ≤ r.length
      · rw [if_pos h2] at h
        injection h with h
        injection h with h3 h4
        rw [List.length_cons]
        omega
      · rw [if_neg h2] at h
        cases h
    · rw [if_neg h1] at h
      by_cases h2 : x ≠ 128 ∧ x - 128 ≤ r.length ∧ r.getD 0 0 ≠ 0 ∧ 128 ≤ big (r.take (x - 128)) ∧ big (r.take (x - 128)) ≤ r.length - (x - 128)
      · rw [if_pos h2] at h
        injection h with h
        injection h with h3 h4
        rw [List.length_cons]
        omega
      · rw [if_neg h2] at h
        cases h
end Go.Proofs.YtbkjjhpnjfdlbaaGreatDoor
namespace Go.Proofs.YtbkjjhpnjfdlbaaGreatDoor
open Go.RowKit
set_option linter.unusedVariables false
set_option linter.unusedSimpArgs false

set_option maxRecDepth 100000 in
theorem i64_or8 (x c : Nat) (hx : x < 1000000) (hc : c < 256) : bits .or .i64 ((x : Int) * 256) (c : Int) = ((x * 256 + c : Nat) : Int) := by
  rw [bits_join .i64 62 (by decide) (fun n h0 h1 => IntWalk.i64_in n (by omega)) 8 ((x : Int) * 256) (c : Int) (by omega) (by omega) (by omega) (by omega) (by omega) (by omega)]
  push_cast
  rfl
def LenPost (w : World) (Br : Nat) (A : Option Addr) (n c : Nat) : Option (Nat × Nat) → Ending → World → Prop
  | none, e, w' => e = .returned (.tuple #[.int .i64 0, .bool false]) ∧ w' = w
  | some (k, u), e, w' => e = .returned (.tuple #[.int .i64 (k : Int), .bool true]) ∧ w' = w.setCell ⟨Br, 0, none⟩ (.slice (dropA A u c) (n - u) (c - u))
def RelRL (m : Nat) (rr : List Nat) (w : World) (v i : Value) (wr : World) : Prop :=
  ∃ j x : Nat, j ≤ m ∧ i = .int .i64 (j : Int) ∧ v = .int .i64 (x : Int) ∧ x ≤ 12000 ∧ Hid (x = big (rr.take j)) ∧ wr = w
set_option maxRecDepth 100000 in
set_option maxHeartbeats 4000000 in
theorem rlen_any (w : World) (Br B : Nat) (A : Option Addr) (c n left : Nat) (L : List Nat) (hR : Rd .u8 w B A c L) (hn : L.length = n) (h12 : n ≤ 12000) (hl : left ≤ n) (ho : ∀ x ∈ L, x < 256)
    (hB : w.cell? ⟨Br, 0, none⟩ = some (.slice A n c)) (hF : w.frozen? ⟨Br, 0, none⟩ = false) :
    Calls Tryz.prog 75 #[.pointer (some ⟨Br, 0, none⟩), .int .i64 (left : Int)] w (LenPost w Br A n c (lenOf (L.take left))) := by
  have hlc : n ≤ c := by rw [← hn]; exact hR.1
  have hc63 := hR.2.1
  by_cases hl0 : left = 0
  case pos =>
    subst hl0
    rw [List.take_zero]
    clear hR ho hn
    go_enter Tryz.func75, Tryz.ntmps75
    go_wp2_with fail
    go_ret2
    exact ⟨rfl, rfl⟩
  obtain ⟨b, off, rfl, hb, hcs⟩ := hR.2.2 (by omega)
  rcases L with _ | ⟨x, L⟩
  · rw [List.length_nil] at hn; omega
  obtain ⟨q, rfl⟩ : ∃ q, left = q + 1 := ⟨left - 1, by omega⟩
  have hx : x < 256 := ho x (by simp)
  have e0 : w.cell? ⟨b, off, none⟩ = some (.int .u8 (x : Int)) := hcs 0 (by rw [List.length_cons]; omega)
  have HC1 : Hid (∀ j, j < q → w.cell? ⟨b, off + 1 + j, none⟩ = some (.int .u8 (((L.take q).getD j 0 : Nat) : Int))) := Lib.hid fun j hj => by
    have := hcs (1 + j) (by rw [List.length_cons] at hn ⊢; omega)
    rw [← Nat.add_assoc] at this
    rw [this]
    simp [List.getD, Nat.add_comm 1 j, hj]
  have HRL : Hid ((L.take q).length = q) := Lib.hid (by rw [List.length_take]; rw [List.length_cons] at hn; omega)
  have HO : Hid (∀ j, (L.take q).getD j 0 < 256) := Lib.hid fun j => by
    rw [List.getD_eq_getElem?_getD]
    rcases h : (L.take q)[j]? with _ | y
    · simp
    · exact ho y (List.mem_cons_of_mem _ (List.mem_of_mem_take (List.mem_of_getElem? h)))
  rw [List.take_succ_cons]
  generalize L.take q = r at *
  have HLO : Hid (lenOf (x :: r) = if x < 128 then (if x ≤ q then some (x, 1) else none)
    else if x ≠ 128 ∧ x - 128 ≤ q ∧ r.getD 0 0 ≠ 0 ∧ 128 ≤ big (r.take (x - 128)) ∧ big (r.take (x - 128)) ≤ q - (x - 128) then some (big (r.take (x - 128)), x - 127) else none) := Lib.hid (by rw [← HRL.out]; rfl)
  generalize lenOf (x :: r) = o at *
  have hn0 : 1 ≤ n := by omega
  clear hR hcs ho hn
  have hq1 : ((q + 1 : Nat) : Int) - 1 = (q : Int) := by omega
  have dq0 : decide (((q + 1 : Nat) : Int) = 0) = false := decide_eq_false (by omega)
  by_cases h128 : x < 128
  case pos =>
    have d1 : decide (128 ≤ (x : Int)) = false := decide_eq_false (by omega)
    have hs : (Instr.sliceAt 22 (.slice (some ⟨b, off, none⟩) n c) (some (.int .i64 1)) none none).run Tryz.prog w = .ok (.slice (dropA (some ⟨b, off, none⟩) 1 c) (n - 1) (c - 1)) w := run_drop w (some ⟨b, off, none⟩) n c 1 hn0 hlc
    by_cases hxq : x ≤ q
    case pos =>
      have d2 : decide ((q : Int) < (x : Int)) = false := decide_eq_false (by omega)
      have HLE : Hid (o = some (x, 1)) := Lib.hid (by rw [HLO.out, if_pos h128, if_pos hxq])
      obtain ⟨D, hD⟩ : ∃ D, D = dropA (some ⟨b, off, none⟩) 1 c := ⟨_, rfl⟩
      have HDD := Lib.hid hD
      rw [← hD] at hs
      clear hD
      go_enter Tryz.func75, Tryz.ntmps75
      go_wp2_with fail
      go_ret2
      rw [HLE.out]
      exact ⟨rfl, by rw [HDD.out]⟩
    case neg =>
      have d2 : decide ((q : Int) < (x : Int)) = true := decide_eq_true (by omega)
      have HLE : Hid (o = none) := Lib.hid (by rw [HLO.out, if_pos h128, if_neg hxq])
      go_enter Tryz.func75, Tryz.ntmps75
      go_wp2_with fail
      go_ret2
      rw [HLE.out]
      exact ⟨rfl, rfl⟩
  obtain ⟨m, rfl⟩ : ∃ m, x = 128 + m := ⟨x - 128, by omega⟩
  have hm : m < 128 := by omega
  have HLO2 : Hid (o = if m ≠ 0 ∧ m ≤ q ∧ r.getD 0 0 ≠ 0 ∧ 128 ≤ big (r.take m) ∧ big (r.take m) ≤ q - m then some (big (r.take m), 1 + m) else none) := Lib.hid (by
    have e1 : 128 + m - 128 = m := by omega
    have e2 : 128 + m - 127 = 1 + m := by omega
    rw [HLO.out, if_neg h128, e1, e2]
    by_cases h : m ≠ 0 ∧ m ≤ q ∧ r.getD 0 0 ≠ 0 ∧ 128 ≤ big (r.take m) ∧ big (r.take m) ≤ q - m
    · rw [if_pos h, if_pos ⟨by have := h.1; omega, h.2⟩]
    · rw [if_neg h, if_neg (fun k => h ⟨by have := k.1; omega, k.2⟩)])
  have d1 : decide (128 ≤ ((128 + m : Nat) : Int)) = true := decide_eq_true (by omega)
  have hs0 : ((128 + m : Nat) : Int) - 128 = (m : Int) := by omega
  obtain ⟨X, hX⟩ : ∃ X : Int, X = ((128 + m : Nat) : Int) := ⟨_, rfl⟩
  rw [← hX] at e0 d1 hs0
  have hX1 : 128 ≤ X := by omega
  have hX2 : X < 256 := by omega
  clear HLO hX
  by_cases hm0 : m = 0
  case pos =>
    have d2 : decide ((m : Int) = 0) = true := decide_eq_true (by omega)
    have HLE : Hid (o = none) := Lib.hid (by rw [HLO2.out, if_neg (fun h => h.1 hm0)])
    go_enter Tryz.func75, Tryz.ntmps75
    go_wp2_with fail
    go_ret2
    rw [HLE.out]
    exact ⟨rfl, rfl⟩
  have d2 : decide ((m : Int) = 0) = false := decide_eq_false (by omega)
  have b2 : ((m : Int) == 0) = false := by simp; omega
  by_cases hmq : m ≤ q
  case neg =>
    have d3 : decide ((q : Int) < (m : Int)) = true := decide_eq_true (by omega)
    have HLE : Hid (o = none) := Lib.hid (by rw [HLO2.out, if_neg (fun h => hmq h.2.1)])
    go_enter Tryz.func75, Tryz.ntmps75
    go_wp2_with fail
    go_ret2
    rw [HLE.out]
    exact ⟨rfl, rfl⟩
  have d3 : decide ((q : Int) < (m : Int)) = false := decide_eq_false (by omega)
  have e1 : w.cell? ⟨b, off + 1, none⟩ = some (.int .u8 ((r.getD 0 0 : Nat) : Int)) := HC1.out 0 (by omega)
  by_cases hy0 : r.getD 0 0 = 0
  case pos =>
    have HLE : Hid (o = none) := Lib.hid (by rw [HLO2.out, if_neg (fun h => h.2.2.1 hy0)])
    rw [hy0] at e1
    go_enter Tryz.func75, Tryz.ntmps75
    go_wp2_with fail
    go_ret2
    rw [HLE.out]
    exact ⟨rfl, rfl⟩
  have HO2 : Hid (o = if 128 ≤ big (r.take m) ∧ big (r.take m) ≤ q - m then some (big (r.take m), 1 + m) else none) := Lib.hid (by
    rw [HLO2.out]
    by_cases h : 128 ≤ big (r.take m) ∧ big (r.take m) ≤ q - m
    · rw [if_pos h, if_pos ⟨hm0, hmq, hy0, h⟩]
    · rw [if_neg h, if_neg (fun k => h k.2.2.2)])
  have HY : Hid (r.getD 0 0 = r.getD 0 0) := Lib.hid rfl
  obtain ⟨y, hy⟩ : ∃ y, y = r.getD 0 0 := ⟨_, rfl⟩
  rw [← hy] at e1 hy0
  have d4 : decide ((y : Int) = 0) = false := decide_eq_false (by omega)
  have b4 : ((y : Int) == 0) = false := by simp; omega
  have hsm : (Instr.sliceAt 22 (.slice (some ⟨b, off, none⟩) n c) (some (.int .i64 1)) (some (.int .i64 (1 + (m : Int)))) none).run Tryz.prog w = .ok (.slice (some ⟨b, off + 1, none⟩) m (c - 1)) w := by
    have h := run_mid w (some ⟨b, off, none⟩) n c 1 (1 + m) (by omega) (by omega) hlc
    rw [show 1 + m - 1 = m by omega] at h
    unfold dropA at h
    rw [if_neg (by omega)] at h
    push_cast at h
    exact h
  have hsu : (Instr.sliceAt 22 (.slice (some ⟨b, off, none⟩) n c) (some (.int .i64 (1 + (m : Int)))) none none).run Tryz.prog w = .ok (.slice (dropA (some ⟨b, off, none⟩) (1 + m) c) (n - (1 + m)) (c - (1 + m))) w := by
    have h := run_drop w (some ⟨b, off, none⟩) n c (1 + m) (by omega) hlc
    push_cast at h
    exact h
  obtain ⟨D, hD⟩ : ∃ D, D = dropA (some ⟨b, off, none⟩) (1 + m) c := ⟨_, rfl⟩
  have HDD := Lib.hid hD
  rw [← hD] at hsu
  clear hD HY hy HLO2
  go_enter Tryz.func75, Tryz.ntmps75
  go_wp2_with fail
  go_loopw [6, 50] (fun v i wr => RelRL m r w v i wr) (fun v i _ => m - (intOf i).toNat)
  case atStart => exact ⟨0, 0, Nat.zero_le _, rfl, rfl, by omega, Lib.hid (by simp [big]), rfl⟩
  case round =>
    obtain ⟨j, z, hj, rfl, rfl, hz, HZ, rfl⟩ := hrel
    by_cases hjm : j < m
    case pos =>
      have d5 : decide ((j : Int) < (m : Int)) = true := decide_eq_true (by omega)
      have e2 : wr.cell? ⟨b, off + 1 + j, none⟩ = some (.int .u8 ((r.getD j 0 : Nat) : Int)) := HC1.out j (by omega)
      have HZ2 : Hid (big (r.take (j + 1)) = z * 256 + r.getD j 0) := Lib.hid (by
        rw [List.take_add_one, show r[j]? = some (r.getD j 0) by simp [List.getD, show j < r.length by have := HRL.out; omega], HZ.out]
        exact big_snoc _ _)
      have hu : r.getD j 0 < 256 := HO.out j
      generalize r.getD j 0 = u at *
      have hbits := i64_or8 z u (by omega) hu
      obtain ⟨z2, hz2⟩ : ∃ z2, z2 = z * 256 + u := ⟨_, rfl⟩
      rw [← hz2] at hbits HZ2
      by_cases hbig : 12000 < z2
      case pos =>
        have d6 : decide (12000 < (z2 : Int)) = true := decide_eq_true (by omega)
        have HLE : Hid (o = none) := Lib.hid (by
          rw [HO2.out, if_neg]
          intro h
          have h1 := big_take_le r (j + 1) m (by omega)
          rw [HZ2.out] at h1
          omega)
        go_wp2_with fail
        go_ret2
        rw [HLE.out]
        exact ⟨rfl, rfl⟩
      case neg =>
        have d6 : decide (12000 < (z2 : Int)) = false := decide_eq_false (by omega)
        go_wp2_with fail
        go_roundw
        case rel => exact ⟨j + 1, z2, by omega, rfl, by rw [hz2]; push_cast; rfl, by omega, Lib.hid HZ2.out.symm, rfl⟩
        case measure => simp [intOf]; omega
    case neg =>
      have d5 : decide ((j : Int) < (m : Int)) = false := decide_eq_false (by omega)
      obtain rfl : j = m := by omega
      have HO3 : Hid (o = if 128 ≤ z ∧ z ≤ q - j then some (z, 1 + j) else none) := Lib.hid (by rw [HO2.out, ← HZ.out])
      by_cases hz1 : z < 128
      case pos =>
        have d6 : decide ((z : Int) < 128) = true := decide_eq_true (by omega)
        have HLE : Hid (o = none) := Lib.hid (by rw [HO3.out, if_neg (by omega)])
        go_wp2_with fail
        go_ret2
        rw [HLE.out]
        exact ⟨rfl, rfl⟩
      have d6 : decide ((z : Int) < 128) = false := decide_eq_false (by omega)
      have hq2 : ((q + 1 : Nat) : Int) - (1 + (j : Int)) = ((q - j : Nat) : Int) := by omega
      obtain ⟨p, hp⟩ : ∃ p, p = q - j := ⟨_, rfl⟩
      have HP := Lib.hid hp
      rw [← hp] at hq2 HO3
      clear hp
      by_cases hzp : z ≤ p
      case pos =>
        have d7 : decide ((p : Int) < (z : Int)) = false := decide_eq_false (by omega)
        have HLE : Hid (o = some (z, 1 + j)) := Lib.hid (by rw [HO3.out, if_pos ⟨by omega, hzp⟩])
        go_wp2_with fail
        go_ret2
        rw [HLE.out]
        exact ⟨rfl, by rw [HDD.out]⟩
      case neg =>
        have d7 : decide ((p : Int) < (z : Int)) = true := decide_eq_true (by omega)
        have HLE : Hid (o = none) := Lib.hid (by rw [HO3.out, if_neg (by omega)])
        go_wp2_with fail
        go_ret2
        rw [HLE.out]
        exact ⟨rfl, rfl⟩
end Go.Proofs.YtbkjjhpnjfdlbaaGreatDoor
namespace Go.Proofs.YtbkjjhpnjfdlbaaGreatDoor
open Go.RowKit
set_option linter.unusedVariables false
set_option linter.unusedSimpArgs false

theorem run_eql_slice_nil {P : Program} (w : World) (t e : TypeId) (a : Option Addr) (l c : Nat) (h : P.underlying t = some (.slice e)) : (binOp .eql t (.slice a l c) (.slice none 0 0)).run P w = .ok (.bool a.isNone) w := by
  simp only [binOp]
  simp [run_equal_slice_nil w t e a l c h]
set_option maxRecDepth 100000 in
set_option maxHeartbeats 4000000 in
theorem clone_any (w : World) (B : Nat) (A : Option Addr) (c n : Nat) (l : List Nat) (hR : Rd .u8 w B A c l) (hn : l.length = n) (hB : B ≤ w.heap.size) (h12 : n ≤ 12000) :
    Calls Tryz.prog 47 #[.slice A n c] w fun e w' => ∃ A' c', e = .returned (.slice A' n c') ∧ Mine 5 w' w.heap.size A' c' l ∧ Below w.heap.size w w' := by
  rcases A with _ | a
  · have hn0 : n = 0 := by
      rcases Nat.eq_zero_or_pos n with h | h
      · exact h
      · obtain ⟨_, _, e, _⟩ := hR.2.2 (by omega)
        cases e
    subst hn0
    obtain rfl := List.eq_nil_of_length_eq_zero hn
    clear hR
    have hnl : (binOp .eql 22 (.slice none 0 c) (.slice none 0 0)).run Tryz.prog w = .ok (.bool true) w := run_eql_slice_nil w _ _ none 0 c under22
    go_enter Tryz.func47, Tryz.ntmps47
    go_wp2_with fail
    go_ret
    exact ⟨_, _, rfl, Mine.nil _ _ _, Below.refl _ _⟩
  · have HM1 : Hid (Mine 5 (w.alloc (.cells #[] 5)) w.heap.size (some ⟨w.heap.size, 0, none⟩) 0 []) := Lib.hid (Mine.fresh0 w _ (Nat.le_refl _))
    have HQ1 : Hid (Below w.heap.size w (w.alloc (.cells #[] 5))) := Lib.hid ((Below.refl _ _).alloc (Nat.le_refl _) _)
    have HR1 : Hid (Rd .u8 (w.alloc (.cells #[] 5)) B (some a) c l) := Lib.hid (hR.alloc hB _)
    have HN := Lib.hid hn
    clear hR hn
    have hnl : (binOp .eql 22 (.slice (some a) n c) (.slice none 0 0)).run Tryz.prog w = .ok (.bool false) w := run_eql_slice_nil w _ _ (some a) n c under22
    go_enter Tryz.func47, Tryz.ntmps47
    go_wp2_with (first | (refine wpList_mine (B2 := B) _ rfl (.tmp 5) (.tmp 6) 22 rfl 5 Tryz.underlying22 info_u8 rfl HM1.out rfl rfl HR1.out HN.out HQ1.out.size (by omega) ?_; intro A5 c5 W5 hm5 hg5 hat5) | fail)
    have HQ5 : Hid (Below w.heap.size w W5) := Lib.hid (HQ1.out.trans (below_blk hg5 HQ1.out.size (fun g hg => by simp [blk_of] at hg; omega)))
    have HM5 := Lib.hid hm5
    clear hm5 hg5 hat5
    go_wp2_with fail
    go_ret
    exact ⟨_, _, rfl, HM5.out, HQ5.out⟩

mutual
/-- What a window of bytes begins with, so deep, so many things begun before: an error, or a thing, how many bytes it is, how many things are begun. -/
def rd : List Nat → Nat → Nat → Except Nat (Tr × Nat × Nat)
  | [], _, _ => .error 2
  | x :: r, d, c =>
    if tagOk x = false then .error 2 else if 12 < d then .error 3 else if 600 ≤ c then .error 4 else
    match lenOf r with
    | none => .error 2
    | some (k, u) =>
      if parted x = false then .ok (.mk x ((r.drop u).take k) [], 1 + u + k, c + 1)
      else match rds ((r.drop u).take k) (d + 1) (c + 1) with
        | .error e => .error e
        | .ok (l, c') => .ok (.mk x [] l, 1 + u + k, c')
termination_by b _ _ => (b.length, 0)
decreasing_by
  · apply Prod.Lex.left
    simp
    omega
def rds : List Nat → Nat → Nat → Except Nat (List Tr × Nat)
  | [], _, c => .ok ([], c)
  | x :: r, d, c =>
    match rd (x :: r) d c with
    | .error e => .error e
    | .ok (t, n, c') => match rds (r.drop (n - 1)) d c' with
      | .error e => .error e
      | .ok (l, c'') => .ok (t :: l, c'')
termination_by b _ _ => (b.length, 1)
decreasing_by
  · apply Prod.Lex.right
    omega
  · apply Prod.Lex.left
    simp
    omega
end

theorem rd_fits : ∀ (N : Nat), (∀ M d c t n c', M.length < N → rd M d c = .ok (t, n, c') → 1 ≤ n ∧ n ≤ M.length ∧ c' ≤ 600) ∧ (∀ M d c l c', M.length < N → c ≤ 600 → rds M d c = .ok (l, c') → c' ≤ 600)
  | 0 => ⟨fun M _ _ _ _ _ h => by omega, fun M _ _ _ _ h => by omega⟩
  | N + 1 => by
    obtain ⟨ih1, ih2⟩ := rd_fits N
    have h1 : ∀ M d c t n c', M.length < N + 1 → rd M d c = .ok (t, n, c') → 1 ≤ n ∧ n ≤ M.length ∧ c' ≤ 600 := by
      intro M d c t n c' hM h
      rcases M with _ | ⟨x, r⟩
      · rw [rd] at h; cases h
      rw [rd] at h
      by_cases g1 : tagOk x = false
      · rw [if_pos g1] at h; cases h
      rw [if_neg g1] at h
      by_cases g2 : 12 < d
      · rw [if_pos g2] at h; cases h
      rw [if_neg g2] at h
      by_cases g3 : 600 ≤ c
      · rw [if_pos g3] at h; cases h
      rw [if_neg g3] at h
      rcases g4 : lenOf r with _ | ⟨k, u⟩
      · rw [g4] at h; cases h
      rw [g4] at h
      have hf := lenOf_fits g4
      rw [List.length_cons] at hM ⊢
      dsimp only at h
      by_cases g5 : parted x = false
      · rw [if_pos g5] at h
        injection h with h
        injection h with _ h
        injection h with h2 h3
        omega
      rw [if_neg g5] at h
      rcases g6 : rds ((r.drop u).take k) (d + 1) (c + 1) with e | ⟨l, c''⟩
      · rw [g6] at h; cases h
      rw [g6] at h
      injection h with h
      injection h with _ h
      injection h with h2 h3
      have := ih2 _ _ _ _ _ (by simp; omega) (by omega) g6
      omega
    refine ⟨h1, ?_⟩
    intro M d c l c' hM hc h
    rcases M with _ | ⟨x, r⟩
    · rw [rds] at h
      injection h with h
      injection h with _ h
      omega
    rw [rds] at h
    rcases g1 : rd (x :: r) d c with e | ⟨t, n, c2⟩
    · rw [g1] at h; cases h
    rw [g1] at h
    dsimp only at h
    have h2 := h1 _ _ _ _ _ _ hM g1
    rcases g2 : rds (r.drop (n - 1)) d c2 with e | ⟨l2, c3⟩
    · rw [g2] at h; cases h
    rw [g2] at h
    injection h with h
    injection h with _ h
    have := ih2 _ _ _ _ _ (by rw [List.length_cons] at hM; simp; omega) h2.2.2 g2
    omega

/-- A thing that lies from block a on, below block b. -/
def TrIn (w : World) (a b : Nat) (t : Lt) : Prop := ∀ w' : World, (∀ g, a ≤ g → g < b → w'.heap[g]? = w.heap[g]?) → TrAt w' b t
theorem TrIn.at_ {w : World} {a b : Nat} {t : Lt} (h : TrIn w a b t) : TrAt w b t := h w fun _ _ _ => rfl
theorem TrIn.keep {w w' : World} {a b : Nat} {t : Lt} (h : TrIn w a b t) (hk : ∀ g, a ≤ g → g < b → w'.heap[g]? = w.heap[g]?) : TrIn w' a b t :=
  fun w2 h2 => h w2 fun g h3 h4 => (h2 g h3 h4).trans (hk g h3 h4)
/-- Things that lie from block lo on, none in the block of the slice A. -/
def Apart (w : World) (lo : Nat) (A : Option Addr) (l : List Lt) : Prop := ∀ t ∈ l, ∃ a b, lo ≤ a ∧ b ≤ w.heap.size ∧ TrIn w a b t ∧ ∀ g, blockOf A = some g → g < a ∨ b ≤ g
theorem Apart.nil (w : World) (lo : Nat) (A : Option Addr) : Apart w lo A [] := fun t h => by cases h
theorem Apart.keep {w w' : World} {lo : Nat} {A A' : Option Addr} {l : List Lt} (h : Apart w lo A l) (hsz : w.heap.size ≤ w'.heap.size) (hk : ∀ g, lo ≤ g → g < w.heap.size → blockOf A ≠ some g → w'.heap[g]? = w.heap[g]?) (hA : ∀ g, blockOf A' = some g → blockOf A = some g ∨ w.heap.size ≤ g) : Apart w' lo A' l := fun t ht => by
  obtain ⟨a, b, h1, h2, h3, h4⟩ := h t ht
  refine ⟨a, b, h1, by omega, h3.keep fun g h5 h6 => hk g (by omega) (by omega) (fun e => by have := h4 g e; omega), fun g hg => ?_⟩
  rcases hA g hg with h7 | h7
  · exact h4 g h7
  · exact .inr (by omega)
theorem Apart.more {w : World} {lo : Nat} {A : Option Addr} {l : List Lt} (h : Apart w lo A l) {t : Lt} {a b : Nat} (ha : lo ≤ a) (hb : b ≤ w.heap.size) (ht : TrIn w a b t) (hA : ∀ g, blockOf A = some g → g < a ∨ b ≤ g) : Apart w lo A (l ++ [t]) := fun u hu => by
  rcases List.mem_append.1 hu with hu | hu
  · exact h u hu
  · rw [List.mem_singleton.1 hu]
    exact ⟨a, b, ha, hb, ht, hA⟩

def lcell (t : Lt) : List Value := [.int .u8 (t.tag : Int), .slice t.ba t.body.length t.bc, .slice t.ka t.kids.length t.kc]
theorem lcell_cells (t : Lt) : (lcell t).toArray = t.cells := rfl
theorem info_node : (Tryz.prog.info? 31).map (fun i => (i.zero, i.size, i.bytes)) = some (some (.agg #[.int .u8 0, .slice none 0 0, .slice none 0 0]), 3, 56) := by kernel_rfl
theorem RowT.of_own {w : World} {A : Option Addr} {c n : Nat} {l : List Lt} (hl : l.length = n) (h : OwnV 31 3 w A c n (l.flatMap lcell)) : RowT w w.heap.size A c l := by
  subst hl
  refine ⟨h.le.1, h.le.2, fun hn => ?_⟩
  have at3 : ∀ j, j < l.length → ∀ t, t < 3 → ∀ v, (lcell (l.getD j default))[t]? = some v → ∃ g, A = some ⟨g, 0, none⟩ ∧ g < w.heap.size ∧ w.cell? ⟨g, 3 * j + t, none⟩ = some v := fun j hj t ht v hv => by
    have e : l[j]? = some (l.getD j default) := by simp [List.getD, hj]
    have f := flat_at (f := lcell) (m := 3) (L := l) (fun _ _ => rfl) e (j := t) ht
    obtain ⟨g, hA, hlt, hc, _⟩ := h.at_ (j := 3 * j + t) (v := v) (by rw [f]; exact hv)
    exact ⟨g, hA, hlt, hc⟩
  obtain ⟨g, rfl, hlt, _⟩ := at3 0 hn 0 (by omega) _ rfl
  refine ⟨g, 0, rfl, hlt, fun j hj => ?_⟩
  have k : ∀ t, t < 3 → ∀ v, (lcell (l.getD j default))[t]? = some v → w.cell? ⟨g, 3 * j + t, none⟩ = some v := fun t ht v hv => by
    obtain ⟨g', e, _, hc⟩ := at3 j hj t ht v hv
    injection e with e
    obtain rfl : g = g' := by injection e
    exact hc
  exact ⟨by rw [show 0 + j * 3 = 3 * j + 0 by omega]; exact k 0 (by omega) _ rfl, by rw [show 0 + j * 3 + 1 = 3 * j + 1 by omega]; exact k 1 (by omega) _ rfl, by rw [show 0 + j * 3 + 2 = 3 * j + 2 by omega]; exact k 2 (by omega) _ rfl⟩
/-- A thing of kids that were read. -/
theorem TrIn.of_kids {w : World} {lo c n x : Nat} {A : Option Addr} {l : List Lt} (hx : x < 256) (hl : l.length = n) (hlo : lo ≤ w.heap.size) (h : OwnV 31 3 w A c n (l.flatMap lcell)) (hA : ∀ g, blockOf A = some g → lo ≤ g) (ha : Apart w lo A l) : TrIn w lo w.heap.size (.mk x none 0 [] A c l) := fun w' hw' => by
  rw [trAt_mk]
  have h' : OwnV 31 3 w' A c n (l.flatMap lcell) := h.keep fun g hg hlt => hw' g (hA g hg) hlt
  refine ⟨hx, Rd.nil_ _ _ _, fun y hy => by simp at hy, ?_, fun j hj => ?_⟩
  · have h2 := RowT.of_own hl h'
    refine ⟨h2.1, h2.2.1, fun hn => ?_⟩
    obtain ⟨b, off, e, hlt, hc⟩ := h2.2.2 hn
    exact ⟨b, off, e, h.lt (by rw [e]; rfl), hc⟩
  · obtain ⟨a, b, h1, h2, h3, _⟩ := ha _ (show l.getD j default ∈ l by simp [List.getD, hj])
    exact (h3 w' fun g h4 h5 => hw' g (by omega) (by omega)).more' h2
/-- A thing of bytes that were read. -/
theorem TrIn.of_body {w : World} {lo c x : Nat} {A : Option Addr} {l : List Nat} (hx : x < 256) (hlo : lo ≤ w.heap.size) (h : Mine 5 w lo A c l) (ho : ∀ y ∈ l, y < 256) : TrIn w lo w.heap.size (.mk x A c l none 0 []) := fun w' hw' => by
  rw [trAt_mk]
  have h' : Mine 5 w' lo A c l := h.keep fun g hg => hw' g (h.block hg).1 (h.block hg).2
  have h2 := h'.rd
  refine ⟨hx, ⟨h2.1, h2.2.1, fun hn => ?_⟩, ho, ⟨by simp, by omega, fun hn => by simp at hn⟩, fun j hj => by simp at hj⟩
  obtain ⟨b, off, e, hlt, hc⟩ := h2.2.2 hn
  exact ⟨b, off, e, (h.block (by rw [e]; rfl)).2, hc⟩
end Go.Proofs.YtbkjjhpnjfdlbaaGreatDoor
namespace Go.Proofs.YtbkjjhpnjfdlbaaGreatDoor
open Go.RowKit
set_option linter.unusedVariables false
set_option linter.unusedSimpArgs false

def noNode : Value := .agg #[.int .u8 0, .slice none 0 0, .slice none 0 0]
def ThingPost (w : World) (B Br : Nat) (L : List Nat) (n : Nat) : Except Nat (Tr × Nat × Nat) → Ending → World → Prop
  | .error x, e, w' => e = .returned (.tuple #[noNode, .int .i64 (x : Int)]) ∧ w.grownBy w' (some Br)
  | .ok (t, m, c2), e, w' => ∃ lt A' c', e = .returned (.tuple #[lt.val, .int .i64 0]) ∧ lt.t = t ∧ TrIn w' w.heap.size w'.heap.size lt ∧ w.grownBy w' (some Br) ∧ Holds w' Br 116 #[.slice A' (n - m) c', .int .i64 (c2 : Int)] ∧ Rd .u8 w' B A' c' (L.drop m)
theorem rd_err : ∀ (N : Nat), (∀ M d c x, M.length < N → rd M d c = .error x → x ≠ 0) ∧ (∀ M d c x, M.length < N → rds M d c = .error x → x ≠ 0)
  | 0 => ⟨fun M _ _ _ h => by omega, fun M _ _ _ h => by omega⟩
  | N + 1 => by
    obtain ⟨ih1, ih2⟩ := rd_err N
    have h1 : ∀ M d c x, M.length < N + 1 → rd M d c = .error x → x ≠ 0 := by
      intro M d c y hM h
      rcases M with _ | ⟨x, r⟩
      · rw [rd] at h; injection h with h; omega
      rw [rd] at h
      by_cases g1 : tagOk x = false
      · rw [if_pos g1] at h; injection h with h; omega
      rw [if_neg g1] at h
      by_cases g2 : 12 < d
      · rw [if_pos g2] at h; injection h with h; omega
      rw [if_neg g2] at h
      by_cases g3 : 600 ≤ c
      · rw [if_pos g3] at h; injection h with h; omega
      rw [if_neg g3] at h
      rcases g4 : lenOf r with _ | ⟨k, u⟩
      · rw [g4] at h; injection h with h; omega
      rw [g4] at h
      rw [List.length_cons] at hM
      dsimp only at h
      by_cases g5 : parted x = false
      · rw [if_pos g5] at h; cases h
      rw [if_neg g5] at h
      rcases g6 : rds ((r.drop u).take k) (d + 1) (c + 1) with e | ⟨l, c''⟩
      · rw [g6] at h
        injection h with h
        subst h
        exact ih2 _ _ _ _ (by simp; omega) g6
      rw [g6] at h; cases h
    refine ⟨h1, ?_⟩
    intro M d c y hM h
    rcases M with _ | ⟨x, r⟩
    · rw [rds] at h; cases h
    rw [rds] at h
    rcases g1 : rd (x :: r) d c with e | ⟨t, n, c2⟩
    · rw [g1] at h
      injection h with h
      subst h
      exact h1 _ _ _ _ hM g1
    rw [g1] at h
    dsimp only at h
    rcases g2 : rds (r.drop (n - 1)) d c2 with e | ⟨l2, c3⟩
    · rw [g2] at h
      injection h with h
      subst h
      exact ih2 _ _ _ _ (by rw [List.length_cons] at hM; simp; omega) g2
    rw [g2] at h; cases h
theorem ret_cell {R : Ending → World → Prop} {tmps : Array Value} {w : World} {g : Nat} {t : TypeId} {cs : Array Value} {v : Value} {fn : Func} {p u : Tmp}
    (hr : fn.results = #[.cell p 31, .tmp u]) (hp : tmps.getD p undef = .pointer (some ⟨g, 0, none⟩)) (hu : tmps.getD u undef = v) (hg : Holds w g t cs) (hcs : cs.size = 3) (hR : R (.returned (.tuple #[.agg cs, v])) w) :
    bodyPost Tryz.prog fn R .ret { tmps := tmps, defers := [] } w := by
  have hi : (Tryz.prog.info? 31).map (·.size) = some cs.size := by rw [hcs]; kernel_rfl
  refine bodyPost_ret (v := .tuple #[.agg cs, v]) ?_ rfl hR
  rw [results_cell_tmp hr]
  have hp' : tmps[p]?.getD undef = .pointer (some ⟨g, 0, none⟩) := by simpa using hp
  have hu' : tmps[u]?.getD undef = v := by simpa using hu
  simp [hp', hu', asAddr, run_loadVar_row w g t _ cs (0, 0) _ hg Tryz.underlying31 rfl hi, Result.andThen]
theorem below_br {w w' : World} {B Br : Nat} (h : w.grownBy w' (some Br)) (hB : B ≤ Br) (hs : B ≤ w.heap.size) : Below B w w' :=
  ⟨h.os, h.tape, h.output, h.size, fun g hg => h.block g (by omega) (fun e => by injection e with e; omega)⟩
theorem grown_new {w V : World} {r : Option Nat} {p : Addr} (h : w.grownBy V r) (hp : w.heap.size ≤ p.block) (u : Value) : w.grownBy (V.setCell p u) r :=
  ⟨h.os, h.tape, h.output, by show w.heap.size ≤ (V.heap.modify _ _).size; rw [Array.size_modify]; exact h.size, fun g hg hne => by
    rw [Below.heap_setCell V p u g (by omega)]; exact h.block g hg hne⟩
def thingOf (x m : Nat) : Except Nat (List Tr × Nat) → Except Nat (Tr × Nat × Nat)
  | .error e => .error e
  | .ok (l, c) => .ok (.mk x [] l, m, c)
def preT (ts : List Tr) : Except Nat (List Tr × Nat) → Except Nat (List Tr × Nat)
  | .error e => .error e
  | .ok (l, c) => .ok (ts ++ l, c)
theorem preT_nil (r : Except Nat (List Tr × Nat)) : preT [] r = r := by rcases r with e | ⟨l, c⟩ <;> rfl
theorem preT_preT (a b : List Tr) (r : Except Nat (List Tr × Nat)) : preT a (preT b r) = preT (a ++ b) r := by
  rcases r with e | ⟨l, c⟩
  · rfl
  · simp [preT]
theorem rds_err {M : List Nat} {d c y : Nat} (hM : 0 < M.length) (h : rd M d c = .error y) : rds M d c = .error y := by
  rcases M with _ | ⟨x, r⟩
  · simp at hM
  · rw [rds, h]
theorem rds_ok {M : List Nat} {d c n c' : Nat} {t : Tr} (hM : 0 < M.length) (h : rd M d c = .ok (t, n, c')) : rds M d c = preT [t] (rds (M.drop n) d c') := by
  rcases M with _ | ⟨x, r⟩
  · simp at hM
  · have hn := ((rd_fits ((x :: r).length + 1)).1 _ _ _ _ _ _ (Nat.lt_succ_self _) h).1
    obtain ⟨m, rfl⟩ : ∃ m, n = m + 1 := ⟨n - 1, by omega⟩
    rw [rds, h]
    dsimp only
    rw [List.drop_succ_cons, Nat.add_sub_cancel]
    rcases rds (r.drop m) d c' with e | ⟨l, c2⟩ <;> rfl
theorem Apart.less {w : World} {lo lo' : Nat} {A : Option Addr} {l : List Lt} (h : Apart w lo A l) (hlo : lo' ≤ lo) : Apart w lo' A l := fun t ht => by
  obtain ⟨a, b, h1, h2⟩ := h t ht
  exact ⟨a, b, by omega, h2⟩
def lenAt (Br : Nat) (w : World) : Nat := match w.cell? ⟨Br, 0, none⟩ with
  | some (.slice _ n _) => n
  | _ => 0
/-- Where a reading stands. -/
def St (w V : World) (B Br x : Nat) (A : Option Addr) (n c cnt : Nat) (L : List Nat) (bv kv : Value) : Prop :=
  Holds V Br 116 #[.slice A n c, .int .i64 (cnt : Int)] ∧ Holds V w.heap.size 31 #[.int .u8 0, .slice none 0 0, .slice none 0 0] ∧ Holds V (w.heap.size + 1) 31 #[.int .u8 (x : Int), bv, kv] ∧ w.grownBy V (some Br) ∧ Rd .u8 V B A c L ∧ L.length = n ∧ w.heap.size + 2 ≤ V.heap.size ∧ B ≤ Br ∧ Br < w.heap.size
section
variable {w V V' : World} {B Br x : Nat} {A : Option Addr} {n c cnt : Nat} {L : List Nat} {bv kv : Value}
theorem St.rest (h : St w V B Br x A n c cnt L bv kv) {k : Nat} (hk : k ≤ n) : St w (V.setCell ⟨Br, 0, none⟩ (.slice (dropA A k c) (n - k) (c - k))) B Br x (dropA A k c) (n - k) (c - k) cnt (L.drop k) bv kv := by
  obtain ⟨h1, h2, h3, h4, h5, h6, h7, h8, h9⟩ := h
  refine ⟨h1.stored 0 _, h2.aside (by show w.heap.size ≠ Br; omega) _, h3.aside (by show w.heap.size + 1 ≠ Br; omega) _, one_setCell h4 0 _, ?_, by rw [List.length_drop, h6], by show w.heap.size + 2 ≤ (V.heap.modify _ _).size; rw [Array.size_modify]; exact h7, h8, h9⟩
  exact (h5.under ((Below.refl _ _).setCell (p := ⟨Br, 0, none⟩) (by show B ≤ Br; omega) _)).drop k (by omega)
theorem St.bodyv (h : St w V B Br x A n c cnt L bv kv) (v : Value) : St w (V.setCell ⟨w.heap.size + 1, 1, none⟩ v) B Br x A n c cnt L v kv := by
  obtain ⟨h1, h2, h3, h4, h5, h6, h7, h8, h9⟩ := h
  exact ⟨h1.aside (by show Br ≠ w.heap.size + 1; omega) _, h2.aside (by show w.heap.size ≠ w.heap.size + 1; omega) _, h3.stored 1 _, grown_new h4 (by show w.heap.size ≤ w.heap.size + 1; omega) _, h5.under ((Below.refl _ _).setCell (p := ⟨w.heap.size + 1, 1, none⟩) (by show B ≤ w.heap.size + 1; omega) _), h6, by show w.heap.size + 2 ≤ (V.heap.modify _ _).size; rw [Array.size_modify]; exact h7, h8, h9⟩
theorem St.kidsv (h : St w V B Br x A n c cnt L bv kv) (v : Value) : St w (V.setCell ⟨w.heap.size + 1, 2, none⟩ v) B Br x A n c cnt L bv v := by
  obtain ⟨h1, h2, h3, h4, h5, h6, h7, h8, h9⟩ := h
  exact ⟨h1.aside (by show Br ≠ w.heap.size + 1; omega) _, h2.aside (by show w.heap.size ≠ w.heap.size + 1; omega) _, h3.stored 2 _, grown_new h4 (by show w.heap.size ≤ w.heap.size + 1; omega) _, h5.under ((Below.refl _ _).setCell (p := ⟨w.heap.size + 1, 2, none⟩) (by show B ≤ w.heap.size + 1; omega) _), h6, by show w.heap.size + 2 ≤ (V.heap.modify _ _).size; rw [Array.size_modify]; exact h7, h8, h9⟩
theorem St.grown {row : Option Nat} (h : St w V B Br x A n c cnt L bv kv) (hb : V.grownBy V' row) (hr : ∀ g, row = some g → w.heap.size + 2 ≤ g) : St w V' B Br x A n c cnt L bv kv := by
  obtain ⟨h1, h2, h3, h4, h5, h6, h7, h8, h9⟩ := h
  have hne : ∀ g, g < w.heap.size + 2 → some g ≠ row := fun g hg e => by have := hr g e.symm; omega
  refine ⟨h1.grown hb (hne _ (by omega)), h2.grown hb (hne _ (by omega)), h3.grown hb (hne _ (by omega)), ?_, ?_, h6, Nat.le_trans h7 hb.size, h8, h9⟩
  · exact h4.andThen hb fun j hj => .inl (by have := hr j hj; omega)
  · exact h5.under ⟨hb.os, hb.tape, hb.output, hb.size, fun g hg => hb.block g (by omega) (hne _ (by omega))⟩
theorem St.out (h : St w V B Br x A n c cnt L bv kv) (v0 v1 v2 : Value) :
    Holds (((V.setCell ⟨w.heap.size, 0, none⟩ v0).setCell ⟨w.heap.size, 1, none⟩ v1).setCell ⟨w.heap.size, 2, none⟩ v2) w.heap.size 31 #[v0, v1, v2] ∧
    Holds (((V.setCell ⟨w.heap.size, 0, none⟩ v0).setCell ⟨w.heap.size, 1, none⟩ v1).setCell ⟨w.heap.size, 2, none⟩ v2) Br 116 #[.slice A n c, .int .i64 (cnt : Int)] ∧
    w.grownBy (((V.setCell ⟨w.heap.size, 0, none⟩ v0).setCell ⟨w.heap.size, 1, none⟩ v1).setCell ⟨w.heap.size, 2, none⟩ v2) (some Br) ∧
    Rd .u8 (((V.setCell ⟨w.heap.size, 0, none⟩ v0).setCell ⟨w.heap.size, 1, none⟩ v1).setCell ⟨w.heap.size, 2, none⟩ v2) B A c L ∧
    (((V.setCell ⟨w.heap.size, 0, none⟩ v0).setCell ⟨w.heap.size, 1, none⟩ v1).setCell ⟨w.heap.size, 2, none⟩ v2).heap.size = V.heap.size ∧
    ∀ g, g ≠ w.heap.size → (((V.setCell ⟨w.heap.size, 0, none⟩ v0).setCell ⟨w.heap.size, 1, none⟩ v1).setCell ⟨w.heap.size, 2, none⟩ v2).heap[g]? = V.heap[g]? := by
  obtain ⟨h1, h2, h3, h4, h5, h6, h7, h8, h9⟩ := h
  have ne : Br ≠ w.heap.size := by omega
  refine ⟨((h2.stored 0 v0).stored 1 v1).stored 2 v2, ((h1.aside (p := ⟨w.heap.size, 0, none⟩) ne _).aside (p := ⟨w.heap.size, 1, none⟩) ne _).aside (p := ⟨w.heap.size, 2, none⟩) ne _, grown_new (grown_new (grown_new h4 (Nat.le_refl _) _) (Nat.le_refl _) _) (Nat.le_refl _) _, ?_, ?_, fun g hg => ?_⟩
  · have hb : B ≤ w.heap.size := by omega
    exact h5.under ((((Below.refl _ _).setCell (p := ⟨w.heap.size, 0, none⟩) hb _).setCell (p := ⟨w.heap.size, 1, none⟩) hb _).setCell (p := ⟨w.heap.size, 2, none⟩) hb _)
  · simp [World.setCell]
  · rw [Below.heap_setCell _ ⟨w.heap.size, 2, none⟩ _ g hg, Below.heap_setCell _ ⟨w.heap.size, 1, none⟩ _ g hg, Below.heap_setCell _ ⟨w.heap.size, 0, none⟩ _ g hg]
/-- A call has turned the reader. -/
theorem St.turned {A2 : Option Addr} {n2 c2 k2 : Nat} {L2 : List Nat} (h : St w V B Br x A n c cnt L bv kv) (hb : V.grownBy V' (some Br)) (h1' : Holds V' Br 116 #[.slice A2 n2 c2, .int .i64 (k2 : Int)]) (h5' : Rd .u8 V' B A2 c2 L2) (h6' : L2.length = n2) : St w V' B Br x A2 n2 c2 k2 L2 bv kv := by
  obtain ⟨h1, h2, h3, h4, h5, h6, h7, h8, h9⟩ := h
  exact ⟨h1', h2.grown hb (fun e => by injection e with e; omega), h3.grown hb (fun e => by injection e with e; omega), h4.trans hb, h5', h6', Nat.le_trans h7 hb.size, h8, h9⟩
theorem below_grown {B : Nat} (h : Below B V V') (hB : V.heap.size ≤ B) : V.grownBy V' none := ⟨h.os, h.tape, h.output, h.size, fun g hg _ => h.block g (by omega)⟩
end
def RelT (w : World) (B Br x k e n5 d : Nat) (L5 : List Nat) (spec : Except Nat (List Tr × Nat)) (wr : World) : Prop :=
  ∃ (A : Option Addr) (n c cnt : Nat) (L : List Nat) (l : List Lt) (K : Option Addr) (kc ln : Nat), St w wr B Br x A n c cnt L (.slice none 0 0) (.slice K ln kc) ∧ l.length = ln ∧ e ≤ n ∧ n ≤ n5 ∧ n - e ≤ k ∧ cnt ≤ 600 ∧ ln ≤ n5 - n ∧ L = L5.drop (n5 - n) ∧
    OwnV 31 3 wr K kc ln (l.flatMap lcell) ∧ (∀ g, blockOf K = some g → w.heap.size + 2 ≤ g) ∧ Apart wr (w.heap.size + 2) K l ∧ spec = preT (l.map Lt.t) (rds (L.take (n - e)) (d + 1) cnt)
set_option maxRecDepth 100000 in
set_option maxHeartbeats 8000000 in
theorem thing_N : ∀ (N : Nat) (w : World) (B Br : Nat) (A : Option Addr) (c n left d cnt : Nat) (L : List Nat), left < N → Rd .u8 w B A c L → L.length = n → n ≤ 12000 → left ≤ n → (∀ x ∈ L, x < 256) → B ≤ Br → Holds w Br 116 #[.slice A n c, .int .i64 (cnt : Int)] → d ≤ 13 → cnt ≤ 600 →
    Calls Tryz.prog 58 #[.pointer (some ⟨Br, 0, none⟩), .int .i64 (left : Int), .int .i64 (d : Int)] w (ThingPost w B Br L n (rd (L.take left) d cnt)) := by
  intro N
  induction N with
  | zero => intro w B Br A c n left d cnt L h; omega
  | succ N ih =>
    intro w B Br A c n left d cnt L hN hR hn h12 hl ho hB hH hd hc
    have hlc : n ≤ c := by rw [← hn]; exact hR.1
    have hc63 := hR.2.1
    by_cases hl0 : left = 0
    case pos =>
      subst hl0
      rw [List.take_zero, rd]
      have HH := Lib.hid hH
      clear hR ho hn hH ih
      go_enter Tryz.func58, Tryz.ntmps58
      go_wp2_with fail
      exact ret_cell rfl rfl rfl (Holds.fresh _ _ _) rfl ⟨rfl, World.grownBy_alloc _ _ _⟩
    obtain ⟨b, off, rfl, hb, hcs⟩ := hR.2.2 (by omega)
    rcases L with _ | ⟨x, L⟩
    · rw [List.length_nil] at hn; omega
    obtain ⟨q, hq⟩ : ∃ q, left = q + 1 := ⟨left - 1, by omega⟩
    have hx : x < 256 := ho x (by simp)
    have e0 : w.cell? ⟨b, off, none⟩ = some (.int .u8 (x : Int)) := hcs 0 (by rw [List.length_cons]; omega)
    rw [show (x :: L).take left = x :: L.take q by rw [hq, List.take_succ_cons]]
    have hBs : Br < w.heap.size := hH.lt
    have f0 : (w.alloc (.cells #[.int .u8 0, .slice none 0 0, .slice none 0 0] 31)).cell? ⟨Br, 0, none⟩ = some (.slice (some ⟨b, off, none⟩) n c) := (hH.alloc _).cell 0
    have f1 : (w.alloc (.cells #[.int .u8 0, .slice none 0 0, .slice none 0 0] 31)).cell? ⟨Br, 1, none⟩ = some (.int .i64 (cnt : Int)) := (hH.alloc _).cell 1
    have f2 : (w.alloc (.cells #[.int .u8 0, .slice none 0 0, .slice none 0 0] 31)).cell? ⟨b, off, none⟩ = some (.int .u8 (x : Int)) := by rw [World.cell?_alloc_past _ b off (by omega)]; exact e0
    have f3 : (w.alloc (.cells #[.int .u8 0, .slice none 0 0, .slice none 0 0] 31)).frozen? ⟨Br, 1, none⟩ = false := (hH.alloc _).open_ 1
    have HT := Lib.hid (fun W => tagged_any W x hx)
    have HP := Lib.hid (fun W => constructed_any W x hx)
    have HH := Lib.hid hH
    have HR := Lib.hid hR
    have HO := Lib.hid ho
    have HN := Lib.hid hn
    have HIH := Lib.hid ih
    have HNN := Lib.hid hN
    have dq0 : decide ((left : Int) = 0) = false := decide_eq_false (by omega)
    have bq0 : ((left : Int) == 0) = false := by simp; omega
    have hq1 : (left : Int) - 1 = (q : Int) := by omega
    have HQ := Lib.hid hq
    have hs0 : ((w.setCell ⟨Br, 1, none⟩ (.int .i64 ((cnt : Int) + 1)))).heap.size = w.heap.size := by simp [World.setCell]
    have hb0 : Holds (w.setCell ⟨Br, 1, none⟩ (.int .i64 ((cnt : Int) + 1))) Br 116 #[.slice (some ⟨b, off, none⟩) n c, .int .i64 ((cnt : Int) + 1)] := hH.stored 1 _
    have hb2 : Holds ((w.setCell ⟨Br, 1, none⟩ (.int .i64 ((cnt : Int) + 1))).alloc (.cells #[.int .u8 0, .slice none 0 0, .slice none 0 0] 31)) Br 116 #[.slice (some ⟨b, off, none⟩) n c, .int .i64 ((cnt : Int) + 1)] := hb0.alloc _
    have hb3 : Holds (((w.setCell ⟨Br, 1, none⟩ (.int .i64 ((cnt : Int) + 1))).alloc (.cells #[.int .u8 0, .slice none 0 0, .slice none 0 0] 31)).alloc (.cells #[.int .u8 (x : Int), .slice none 0 0, .slice none 0 0] 31)) Br 116 #[.slice (some ⟨b, off, none⟩) n c, .int .i64 ((cnt : Int) + 1)] := hb2.alloc _
    have hz2 : Holds ((w.setCell ⟨Br, 1, none⟩ (.int .i64 ((cnt : Int) + 1))).alloc (.cells #[.int .u8 0, .slice none 0 0, .slice none 0 0] 31)) w.heap.size 31 #[.int .u8 0, .slice none 0 0, .slice none 0 0] := by have h := Holds.fresh (w.setCell ⟨Br, 1, none⟩ (.int .i64 ((cnt : Int) + 1))) 31 #[.int .u8 0, .slice none 0 0, .slice none 0 0]; rw [hs0] at h; exact h
    have hg0 : w.grownBy (w.setCell ⟨Br, 1, none⟩ (.int .i64 ((cnt : Int) + 1))) (some Br) := one_setCell (World.grownBy.refl w _) 1 _
    have hg2 : w.grownBy ((w.setCell ⟨Br, 1, none⟩ (.int .i64 ((cnt : Int) + 1))).alloc (.cells #[.int .u8 0, .slice none 0 0, .slice none 0 0] 31)) (some Br) := hg0.trans (World.grownBy_alloc _ _ _)
    have hg3 : w.grownBy (((w.setCell ⟨Br, 1, none⟩ (.int .i64 ((cnt : Int) + 1))).alloc (.cells #[.int .u8 0, .slice none 0 0, .slice none 0 0] 31)).alloc (.cells #[.int .u8 (x : Int), .slice none 0 0, .slice none 0 0] 31)) (some Br) := hg2.trans (World.grownBy_alloc _ _ _)
    have hbl3 : Below B w (((w.setCell ⟨Br, 1, none⟩ (.int .i64 ((cnt : Int) + 1))).alloc (.cells #[.int .u8 0, .slice none 0 0, .slice none 0 0] 31)).alloc (.cells #[.int .u8 (x : Int), .slice none 0 0, .slice none 0 0] 31)) := below_br hg3 hB (by omega)
    have g0 : (((w.setCell ⟨Br, 1, none⟩ (.int .i64 ((cnt : Int) + 1))).alloc (.cells #[.int .u8 0, .slice none 0 0, .slice none 0 0] 31))).cell? ⟨Br, 0, none⟩ = some (.slice (some ⟨b, off, none⟩) n c) := hb2.cell 0
    have g1 : (((w.setCell ⟨Br, 1, none⟩ (.int .i64 ((cnt : Int) + 1))).alloc (.cells #[.int .u8 0, .slice none 0 0, .slice none 0 0] 31))).cell? ⟨Br, 1, none⟩ = some (.int .i64 ((cnt : Int) + 1)) := hb2.cell 1
    have g2 : (((w.setCell ⟨Br, 1, none⟩ (.int .i64 ((cnt : Int) + 1))).alloc (.cells #[.int .u8 0, .slice none 0 0, .slice none 0 0] 31))).cell? ⟨b, off, none⟩ = some (.int .u8 (x : Int)) := by
      rw [(below_br hg2 hB (by omega)).cell (p := ⟨b, off, none⟩) hb]; exact e0
    have k0 : ((((w.setCell ⟨Br, 1, none⟩ (.int .i64 ((cnt : Int) + 1))).alloc (.cells #[.int .u8 0, .slice none 0 0, .slice none 0 0] 31)).alloc (.cells #[.int .u8 (x : Int), .slice none 0 0, .slice none 0 0] 31))).cell? ⟨Br, 0, none⟩ = some (.slice (some ⟨b, off, none⟩) n c) := hb3.cell 0
    have k1 : ((((w.setCell ⟨Br, 1, none⟩ (.int .i64 ((cnt : Int) + 1))).alloc (.cells #[.int .u8 0, .slice none 0 0, .slice none 0 0] 31)).alloc (.cells #[.int .u8 (x : Int), .slice none 0 0, .slice none 0 0] 31))).frozen? ⟨Br, 0, none⟩ = false := hb3.open_ 0
    obtain ⟨D, hD⟩ : ∃ D, D = dropA (some ⟨b, off, none⟩) 1 c := ⟨_, rfl⟩
    have hs : (Instr.sliceAt 22 (.slice (some ⟨b, off, none⟩) n c) (some (.int .i64 1)) none none).run Tryz.prog (((w.setCell ⟨Br, 1, none⟩ (.int .i64 ((cnt : Int) + 1))).alloc (.cells #[.int .u8 0, .slice none 0 0, .slice none 0 0] 31)).alloc (.cells #[.int .u8 (x : Int), .slice none 0 0, .slice none 0 0] 31)) = .ok (.slice D (n - 1) (c - 1)) (((w.setCell ⟨Br, 1, none⟩ (.int .i64 ((cnt : Int) + 1))).alloc (.cells #[.int .u8 0, .slice none 0 0, .slice none 0 0] 31)).alloc (.cells #[.int .u8 (x : Int), .slice none 0 0, .slice none 0 0] 31)) := by rw [hD]; exact run_drop _ _ n c 1 (by omega) hlc
    have hs9 : (((w.setCell ⟨Br, 1, none⟩ (.int .i64 ((cnt : Int) + 1))).setCell ⟨Br, 0, none⟩ (.slice D (n - 1) (c - 1)))).heap.size = w.heap.size := by simp [World.setCell]
    have hs8 : ((((w.setCell ⟨Br, 1, none⟩ (.int .i64 ((cnt : Int) + 1))).setCell ⟨Br, 0, none⟩ (.slice D (n - 1) (c - 1))).alloc (.cells #[.int .u8 0, .slice none 0 0, .slice none 0 0] 31))).heap.size = w.heap.size + 1 := by rw [← hs9]; simp
    have hb9 : Holds ((w.setCell ⟨Br, 1, none⟩ (.int .i64 ((cnt : Int) + 1))).setCell ⟨Br, 0, none⟩ (.slice D (n - 1) (c - 1))) Br 116 #[.slice D (n - 1) (c - 1), .int .i64 ((cnt : Int) + 1)] := hb0.stored 0 _
    have hb4 : Holds ((((w.setCell ⟨Br, 1, none⟩ (.int .i64 ((cnt : Int) + 1))).setCell ⟨Br, 0, none⟩ (.slice D (n - 1) (c - 1))).alloc (.cells #[.int .u8 0, .slice none 0 0, .slice none 0 0] 31)).alloc (.cells #[.int .u8 (x : Int), .slice none 0 0, .slice none 0 0] 31)) Br 116 #[.slice D (n - 1) (c - 1), .int .i64 ((cnt : Int) + 1)] := (hb9.alloc _).alloc _
    have hz8 : Holds (((w.setCell ⟨Br, 1, none⟩ (.int .i64 ((cnt : Int) + 1))).setCell ⟨Br, 0, none⟩ (.slice D (n - 1) (c - 1))).alloc (.cells #[.int .u8 0, .slice none 0 0, .slice none 0 0] 31)) w.heap.size 31 #[.int .u8 0, .slice none 0 0, .slice none 0 0] := by have h := Holds.fresh ((w.setCell ⟨Br, 1, none⟩ (.int .i64 ((cnt : Int) + 1))).setCell ⟨Br, 0, none⟩ (.slice D (n - 1) (c - 1))) 31 #[.int .u8 0, .slice none 0 0, .slice none 0 0]; rw [hs9] at h; exact h
    have hz4 : Holds ((((w.setCell ⟨Br, 1, none⟩ (.int .i64 ((cnt : Int) + 1))).setCell ⟨Br, 0, none⟩ (.slice D (n - 1) (c - 1))).alloc (.cells #[.int .u8 0, .slice none 0 0, .slice none 0 0] 31)).alloc (.cells #[.int .u8 (x : Int), .slice none 0 0, .slice none 0 0] 31)) w.heap.size 31 #[.int .u8 0, .slice none 0 0, .slice none 0 0] := hz8.alloc _
    have hn4 : Holds ((((w.setCell ⟨Br, 1, none⟩ (.int .i64 ((cnt : Int) + 1))).setCell ⟨Br, 0, none⟩ (.slice D (n - 1) (c - 1))).alloc (.cells #[.int .u8 0, .slice none 0 0, .slice none 0 0] 31)).alloc (.cells #[.int .u8 (x : Int), .slice none 0 0, .slice none 0 0] 31)) (w.heap.size + 1) 31 #[.int .u8 (x : Int), .slice none 0 0, .slice none 0 0] := by have h := Holds.fresh (((w.setCell ⟨Br, 1, none⟩ (.int .i64 ((cnt : Int) + 1))).setCell ⟨Br, 0, none⟩ (.slice D (n - 1) (c - 1))).alloc (.cells #[.int .u8 0, .slice none 0 0, .slice none 0 0] 31)) 31 #[.int .u8 (x : Int), .slice none 0 0, .slice none 0 0]; rw [hs8] at h; exact h
    have hg4 : w.grownBy ((((w.setCell ⟨Br, 1, none⟩ (.int .i64 ((cnt : Int) + 1))).setCell ⟨Br, 0, none⟩ (.slice D (n - 1) (c - 1))).alloc (.cells #[.int .u8 0, .slice none 0 0, .slice none 0 0] 31)).alloc (.cells #[.int .u8 (x : Int), .slice none 0 0, .slice none 0 0] 31)) (some Br) := ((one_setCell hg0 0 _).trans (World.grownBy_alloc _ _ _)).trans (World.grownBy_alloc _ _ _)
    have hR4 : Rd .u8 ((((w.setCell ⟨Br, 1, none⟩ (.int .i64 ((cnt : Int) + 1))).setCell ⟨Br, 0, none⟩ (.slice D (n - 1) (c - 1))).alloc (.cells #[.int .u8 0, .slice none 0 0, .slice none 0 0] 31)).alloc (.cells #[.int .u8 (x : Int), .slice none 0 0, .slice none 0 0] 31)) B D (c - 1) L := by
      have := (hR.under (below_br hg4 hB (by omega))).drop 1 (by simp)
      rw [← hD] at this
      exact this
    have hs4 : (((((w.setCell ⟨Br, 1, none⟩ (.int .i64 ((cnt : Int) + 1))).setCell ⟨Br, 0, none⟩ (.slice D (n - 1) (c - 1))).alloc (.cells #[.int .u8 0, .slice none 0 0, .slice none 0 0] 31)).alloc (.cells #[.int .u8 (x : Int), .slice none 0 0, .slice none 0 0] 31))).heap.size = w.heap.size + 2 := by
      show (((((w.setCell ⟨Br, 1, none⟩ (.int .i64 ((cnt : Int) + 1))).setCell ⟨Br, 0, none⟩ (.slice D (n - 1) (c - 1))).alloc (.cells #[.int .u8 0, .slice none 0 0, .slice none 0 0] 31))).heap.push _).size = _
      rw [Array.size_push, hs8]
    have HALL := Lib.hid (And.intro hb4 (And.intro hz4 (And.intro hn4 (And.intro hg4 (And.intro hR4 hs4)))))
    have HG2 := Lib.hid (And.intro hz2 hg2)
    have hD0 := hD
    clear hD0 hD hR4 hs4 hg4 hz4 hn4 hb4 hb9 hz8 hs8 hs9 hs0 hb0 hg0 hbl3 hg2 hg3 hz2 hb2 hb3 hq
    clear hR ho hn hH ih hcs hN
    rcases h1 : tagOk x with _ | _
    case false =>
      have HE : Hid (rd (x :: L.take q) d cnt = .error 2) := Lib.hid (by rw [rd, if_pos h1])
      go_enter Tryz.func58, Tryz.ntmps58
      go_wp2_with fail
      refine (HT.out _).mono ?_
      rintro e w2 ⟨rfl, rfl⟩
      rw [h1]
      go_wp2_with fail
      rw [HE.out]
      exact ret_cell rfl rfl rfl (Holds.fresh _ _ _) rfl ⟨rfl, World.grownBy_alloc _ _ _⟩
    by_cases h2 : 12 < d
    case pos =>
      have HE : Hid (rd (x :: L.take q) d cnt = .error 3) := Lib.hid (by rw [rd, if_neg (by rw [h1]; simp), if_pos h2])
      have d2 : decide ((12 : Int) < (d : Int)) = true := decide_eq_true (by omega)
      have d3 : decide (12 < d) = true := decide_eq_true (by omega)
      go_enter Tryz.func58, Tryz.ntmps58
      go_wp2_with fail
      refine (HT.out _).mono ?_
      rintro e w2 ⟨rfl, rfl⟩
      rw [h1]
      go_wp2_with fail
      rw [HE.out]
      exact ret_cell rfl rfl rfl (Holds.fresh _ _ _) rfl ⟨rfl, World.grownBy_alloc _ _ _⟩
    have d2 : decide ((12 : Int) < (d : Int)) = false := decide_eq_false (by omega)
    have d3 : decide (12 < d) = false := decide_eq_false (by omega)
    have hcw : IntKind.i64.wrap ((cnt : Int) + 1) = (cnt : Int) + 1 := IntWalk.i64_in _ (by omega)
    by_cases h3 : 600 ≤ cnt
    case pos =>
      have HE : Hid (rd (x :: L.take q) d cnt = .error 4) := Lib.hid (by rw [rd, if_neg (by rw [h1]; simp), if_neg h2, if_pos h3])
      have d4 : decide ((600 : Int) < (cnt : Int) + 1) = true := decide_eq_true (by omega)
      go_enter Tryz.func58, Tryz.ntmps58
      go_wp2_with fail
      refine (HT.out _).mono ?_
      rintro e w2 ⟨rfl, rfl⟩
      rw [h1]
      go_wp2_with fail
      rw [HE.out]
      exact ret_cell rfl rfl rfl HG2.out.1 rfl ⟨rfl, HG2.out.2⟩
    have d4 : decide ((600 : Int) < (cnt : Int) + 1) = false := decide_eq_false (by omega)
    have HL := Lib.hid (show (L.length = n - 1) by have := HN.out; rw [List.length_cons] at this; omega)
    go_enter Tryz.func58, Tryz.ntmps58
    go_wp2_with fail
    refine (HT.out _).mono ?_
    rintro e w2 ⟨rfl, rfl⟩
    rw [h1]
    go_wp2_with fail
    clear hcw g0 g1 g2 k0 k1 hs f0 f1 f2 f3 e0 dq0 bq0 hq1 d2 d3 d4
    refine (rlen_any _ Br B D (c - 1) (n - 1) q L HALL.out.2.2.2.2.1 HL.out (by omega) (by have := HQ.out; omega) (fun y hy => HO.out y (List.mem_cons_of_mem _ hy)) (HALL.out.1.cell 0) (HALL.out.1.open_ 0)).mono ?_
    have HS4 : Hid (St w ((((w.setCell ⟨Br, 1, none⟩ (.int .i64 ((cnt : Int) + 1))).setCell ⟨Br, 0, none⟩ (.slice D (n - 1) (c - 1))).alloc (.cells #[.int .u8 0, .slice none 0 0, .slice none 0 0] 31)).alloc (.cells #[.int .u8 (x : Int), .slice none 0 0, .slice none 0 0] 31)) B Br x D (n - 1) (c - 1) (cnt + 1) L (.slice none 0 0) (.slice none 0 0)) := Lib.hid ⟨HALL.out.1, HALL.out.2.1, HALL.out.2.2.1, HALL.out.2.2.2.1, HALL.out.2.2.2.2.1, HL.out, Nat.le_of_eq HALL.out.2.2.2.2.2.symm, hB, hBs⟩
    clear HALL HG2
    generalize ((((w.setCell ⟨Br, 1, none⟩ (.int .i64 ((cnt : Int) + 1))).setCell ⟨Br, 0, none⟩ (.slice D (n - 1) (c - 1))).alloc (.cells #[.int .u8 0, .slice none 0 0, .slice none 0 0] 31)).alloc (.cells #[.int .u8 (x : Int), .slice none 0 0, .slice none 0 0] 31)) = V4 at *
    intro e V5 hp
    rcases h4 : lenOf (L.take q) with _ | ⟨k, u⟩
    · rw [h4] at hp
      obtain ⟨rfl, rfl⟩ := hp
      have HE : Hid (rd (x :: L.take q) d cnt = .error 2) := Lib.hid (by rw [rd, if_neg (by rw [h1]; simp), if_neg h2, if_neg h3, h4])
      have z0 := HS4.out.2.1.cell 0
      have z1 := HS4.out.2.1.cell 1
      have z2 := HS4.out.2.1.cell 2
      have y0 := HS4.out.2.1.open_ 0
      have y1 := HS4.out.2.1.open_ 1
      have y2 := HS4.out.2.1.open_ 2
      clear h1 h2 h3 h4
      go_wp2_with fail
      rw [HE.out]
      exact ret_cell rfl rfl rfl (((HS4.out.2.1.stored 0 _).stored 1 _).stored 2 _) rfl ⟨rfl, grown_new (grown_new (grown_new HS4.out.2.2.2.1 (Nat.le_refl _) _) (Nat.le_refl _) _) (Nat.le_refl _) _⟩
    rw [h4] at hp
    have hf := lenOf_fits h4
    have hqn : q ≤ n - 1 := by have := HQ.out; omega
    rw [List.length_take, HL.out, Nat.min_eq_left hqn] at hf
    obtain ⟨rfl, hV5⟩ := hp
    have hS5 := HS4.out.rest (k := u) (by omega)
    rw [← hV5] at hS5
    have HS5 := Lib.hid hS5
    clear hS5 hV5 HS4
    generalize hD5 : dropA D u (c - 1) = D5 at *
    generalize hn5 : n - 1 - u = n5 at *
    generalize hc5 : c - 1 - u = c5 at *
    generalize hL5 : L.drop u = L5 at *
    have hkn5 : k ≤ n5 := by omega
    have hn5' : n5 ≤ 12000 := by omega
    have hln5 : n5 ≤ c5 := by omega
    have hO5 : ∀ y ∈ L5, y < 256 := fun y hy => HO.out y (List.mem_cons_of_mem _ (List.mem_of_mem_drop (by rw [hL5]; exact hy)))
    have HO5 := Lib.hid hO5
    have HW : Hid ((((L.take q).drop u).take k) = L5.take k) := Lib.hid (by rw [List.drop_take, List.take_take, Nat.min_eq_left (by omega), hL5])
    have b0 := HS5.out.1.cell 0
    have n0 := HS5.out.2.2.1.cell 0
    clear hO5 hD5
    rcases h5 : parted x with _ | _
    case false =>
      have HE : Hid (rd (x :: L.take q) d cnt = .ok (.mk x (L5.take k) [], 1 + u + k, cnt + 1)) := Lib.hid (by rw [rd, if_neg (by rw [h1]; simp), if_neg h2, if_neg h3, h4]; dsimp only; rw [if_pos h5, HW.out])
      obtain ⟨E, hE⟩ : ∃ E, E = dropA D5 0 c5 := ⟨_, rfl⟩
      have hs : (Instr.sliceAt 22 (.slice D5 n5 c5) none (some (.int .i64 (k : Int))) none).run Tryz.prog V5 = .ok (.slice E k c5) V5 := by rw [hE]; exact run_take _ _ n5 c5 k hkn5 hln5
      have HRE : Hid (Rd .u8 V5 B E c5 (L5.take k)) := Lib.hid (by rw [hE]; exact (dropA_zero HS5.out.2.2.2.2.1).cut k)
      have HLK : Hid ((L5.take k).length = k) := Lib.hid (by rw [List.length_take, HS5.out.2.2.2.2.2.1, Nat.min_eq_left hkn5])
      clear hE h1 h2 h3 h4
      go_wp2_with fail
      refine (HP.out _).mono ?_
      rintro e w2 ⟨rfl, rfl⟩
      rw [h5]
      go_wp2_with fail
      refine (clone_any _ B E c5 k (L5.take k) HRE.out HLK.out (by have := HS5.out.2.2.2.2.2.2; omega) (by omega)).mono ?_
      rintro e V6 ⟨A6, c6, rfl, hm6, hb6⟩
      have hS6 : St w V6 B Br x D5 n5 c5 (cnt + 1) L5 (.slice none 0 0) (.slice none 0 0) := HS5.out.grown (below_grown hb6 (Nat.le_refl _)) (fun g hg => by cases hg)
      have hS7 := hS6.bodyv (.slice A6 k c6)
      have f1 := hS6.2.2.1.open_ 1
      have m1 := hS6.2.2.1.cell 1
      have b7 : (V6.setCell ⟨w.heap.size + 1, 1, none⟩ (.slice A6 k c6)).cell? ⟨Br, 0, none⟩ = some (.slice D5 n5 c5) := hS7.1.cell 0
      have f7 : (V6.setCell ⟨w.heap.size + 1, 1, none⟩ (.slice A6 k c6)).frozen? ⟨Br, 0, none⟩ = false := hS7.1.open_ 0
      have hS8 := hS7.rest hkn5
      obtain ⟨F, hF⟩ : ∃ F, F = dropA D5 k c5 := ⟨_, rfl⟩
      rw [← hF] at hS8
      have hs7 : (Instr.sliceAt 22 (.slice D5 n5 c5) (some (.int .i64 (k : Int))) none none).run Tryz.prog (V6.setCell ⟨w.heap.size + 1, 1, none⟩ (.slice A6 k c6)) = .ok (.slice F (n5 - k) (c5 - k)) (V6.setCell ⟨w.heap.size + 1, 1, none⟩ (.slice A6 k c6)) := by rw [hF]; exact run_drop _ _ n5 c5 k hkn5 hln5
      have n80 : ((V6.setCell ⟨w.heap.size + 1, 1, none⟩ (.slice A6 k c6)).setCell ⟨Br, 0, none⟩ (.slice F (n5 - k) (c5 - k))).cell? ⟨w.heap.size + 1, 0, none⟩ = some (.int .u8 (x : Int)) := hS8.2.2.1.cell 0
      have n81 : ((V6.setCell ⟨w.heap.size + 1, 1, none⟩ (.slice A6 k c6)).setCell ⟨Br, 0, none⟩ (.slice F (n5 - k) (c5 - k))).cell? ⟨w.heap.size + 1, 1, none⟩ = some (.slice A6 k c6) := hS8.2.2.1.cell 1
      have n82 : ((V6.setCell ⟨w.heap.size + 1, 1, none⟩ (.slice A6 k c6)).setCell ⟨Br, 0, none⟩ (.slice F (n5 - k) (c5 - k))).cell? ⟨w.heap.size + 1, 2, none⟩ = some (.slice none 0 0) := hS8.2.2.1.cell 2
      have z80 : ((V6.setCell ⟨w.heap.size + 1, 1, none⟩ (.slice A6 k c6)).setCell ⟨Br, 0, none⟩ (.slice F (n5 - k) (c5 - k))).frozen? ⟨w.heap.size, 0, none⟩ = false := hS8.2.1.open_ 0
      have z81 : ((V6.setCell ⟨w.heap.size + 1, 1, none⟩ (.slice A6 k c6)).setCell ⟨Br, 0, none⟩ (.slice F (n5 - k) (c5 - k))).frozen? ⟨w.heap.size, 1, none⟩ = false := hS8.2.1.open_ 1
      have z82 : ((V6.setCell ⟨w.heap.size + 1, 1, none⟩ (.slice A6 k c6)).setCell ⟨Br, 0, none⟩ (.slice F (n5 - k) (c5 - k))).frozen? ⟨w.heap.size, 2, none⟩ = false := hS8.2.1.open_ 2
      have y80 : ((V6.setCell ⟨w.heap.size + 1, 1, none⟩ (.slice A6 k c6)).setCell ⟨Br, 0, none⟩ (.slice F (n5 - k) (c5 - k))).cell? ⟨w.heap.size, 0, none⟩ = some (.int .u8 0) := hS8.2.1.cell 0
      have y81 : ((V6.setCell ⟨w.heap.size + 1, 1, none⟩ (.slice A6 k c6)).setCell ⟨Br, 0, none⟩ (.slice F (n5 - k) (c5 - k))).cell? ⟨w.heap.size, 1, none⟩ = some (.slice none 0 0) := hS8.2.1.cell 1
      have y82 : ((V6.setCell ⟨w.heap.size + 1, 1, none⟩ (.slice A6 k c6)).setCell ⟨Br, 0, none⟩ (.slice F (n5 - k) (c5 - k))).cell? ⟨w.heap.size, 2, none⟩ = some (.slice none 0 0) := hS8.2.1.cell 2
      have HS8 := Lib.hid hS8
      have HM6 := Lib.hid hm6
      have HDF := Lib.hid hF
      have HVS : Hid (w.heap.size + 2 ≤ V5.heap.size) := Lib.hid HS5.out.2.2.2.2.2.2.1
      clear hS6 hS7 hS8 hm6 hb6 b0 n0 hs hF
      go_wp2_with fail
      rw [HE.out]
      obtain ⟨r1, r2, r3, r4, r5, r6⟩ := HS8.out.out (.int .u8 (x : Int)) (.slice A6 k c6) (.slice none 0 0)
      have hk8 : ∀ g, w.heap.size + 2 ≤ g → ((V6.setCell ⟨w.heap.size + 1, 1, none⟩ (.slice A6 k c6)).setCell ⟨Br, 0, none⟩ (.slice F (n5 - k) (c5 - k))).heap[g]? = V6.heap[g]? := fun g hg => by
        rw [Below.heap_setCell _ ⟨Br, 0, none⟩ _ g (by show g ≠ Br; omega), Below.heap_setCell _ ⟨w.heap.size + 1, 1, none⟩ _ g (by show g ≠ w.heap.size + 1; omega)]
      have hlo : w.heap.size ≤ ((V6.setCell ⟨w.heap.size + 1, 1, none⟩ (.slice A6 k c6)).setCell ⟨Br, 0, none⟩ (.slice F (n5 - k) (c5 - k))).heap.size := by have := HS8.out.2.2.2.2.2.2.1; omega
      have HS9 := HS8.out
      generalize ((V6.setCell ⟨w.heap.size + 1, 1, none⟩ (.slice A6 k c6)).setCell ⟨Br, 0, none⟩ (.slice F (n5 - k) (c5 - k))) = V8 at *
      refine ret_cell rfl rfl rfl r1 rfl ⟨.mk x A6 c6 (L5.take k) none 0 [], F, c5 - k, ?_, ?_, ?_, r3, ?_, ?_⟩
      · rw [Lt.val, Lt.cells]
        simp only [Lt.tag, Lt.ba, Lt.body, Lt.bc, Lt.ka, Lt.kids, Lt.kc, HLK.out]
        rfl
      · rw [Lt.t_mk]; rfl
      · have hM : Mine 5 V6 w.heap.size A6 c6 (L5.take k) := HM6.out.less (by have := HVS.out; omega)
        refine TrIn.of_body hx (by rw [r5]; exact hlo) (hM.keep fun g hg => ?_) (fun y hy => HO5.out y (List.mem_of_mem_take hy))
        have hg2 := (HM6.out.block hg).1
        have := HVS.out
        rw [r6 g (by omega), hk8 g (by omega)]
      · rw [show n - (1 + u + k) = n5 - k by omega]
        exact r2
      · rw [show (x :: L).drop (1 + u + k) = L5.drop k by rw [← hL5, List.drop_drop, show 1 + u + k = (u + k) + 1 by omega, List.drop_succ_cons]]
        exact r4
    have HE0 : Hid (rd (x :: L.take q) d cnt = thingOf x (1 + u + k) (rds (L5.take k) (d + 1) (cnt + 1))) := Lib.hid (by
      rw [rd, if_neg (by rw [h1]; simp), if_neg h2, if_neg h3, h4]
      dsimp only
      rw [if_neg (by rw [h5]; simp), HW.out]
      rcases rds (L5.take k) (d + 1) (cnt + 1) with e | ⟨l, c'⟩ <;> rfl)
    obtain ⟨e, he⟩ : ∃ e, e = n5 - k := ⟨_, rfl⟩
    have heI : (n5 : Int) - (k : Int) = (e : Int) := by omega
    obtain ⟨spec, hspec⟩ : ∃ spec, spec = rds (L5.take k) (d + 1) (cnt + 1) := ⟨_, rfl⟩
    rw [← hspec] at HE0
    have hR0 : RelT w B Br x k e n5 d L5 spec V5 := ⟨D5, n5, c5, cnt + 1, L5, [], none, 0, 0, HS5.out, rfl, by omega, Nat.le_refl _, by omega, by omega, Nat.zero_le _, by simp, OwnV.nil _ _ _, fun g hg => by simp [blockOf] at hg, Apart.nil _ _ _, by
      rw [hspec, List.map_nil, preT_nil, show n5 - e = k by omega]⟩
    have HR0 := Lib.hid hR0
    have HUK := Lib.hid (show u + k ≤ q ∧ n5 = n - 1 - u ∧ L5 = L.drop u ∧ e = n5 - k by exact ⟨hf.2, hn5.symm, hL5.symm, he⟩)
    have hd12 : d ≤ 12 := by omega
    have he12 : e ≤ 12000 := by omega
    have hkn5' : k ≤ n5 := hkn5
    have hn512 : n5 ≤ 12000 := hn5'
    clear hR0 hspec h1 h2 h3 h4 he hf hn5 hL5 HS5 HW hqn hkn5 hn5' hln5 hc5
    go_wp2_with fail
    refine (HP.out _).mono ?_
    rintro e2 w2 ⟨rfl, rfl⟩
    rw [h5]
    go_wp2_with fail
    go_loopw [] (fun wr => RelT w B Br x k e n5 d L5 spec wr) (fun wr => lenAt Br wr)
    case atStart => exact HR0.out
    case round =>
      obtain ⟨A', n', c', cnt', L', l, K, kc, ln, hst, hll, hen, hn5, hnk, hc6, hlb, hL', hown, hKlo, hap, hsp⟩ := hrel
      have hlc' : n' ≤ c' := by rw [← hst.2.2.2.2.2.1]; exact hst.2.2.2.2.1.1
      have b1 : wr.cell? ⟨Br, 0, none⟩ = some (.slice A' n' c') := hst.1.cell 0
      have hn12 : n' ≤ 12000 := by have := HUK.out.2.1; omega
      have hO' : ∀ y ∈ L', y < 256 := fun y hy => HO5.out y (List.mem_of_mem_drop (by rw [hL'] at hy; exact hy))
      have HST := Lib.hid hst
      by_cases hlt : e < n'
      case pos =>
        have dlt : decide ((e : Int) < (n' : Int)) = true := decide_eq_true (by omega)
        obtain ⟨m, hm⟩ : ∃ m, m = n' - e := ⟨_, rfl⟩
        have hmI : (n' : Int) - (e : Int) = (m : Int) := by omega
        rw [← hm] at hsp hnk
        have HK : Hid (Calls Tryz.prog 58 #[.pointer (some ⟨Br, 0, none⟩), .int .i64 (m : Int), .int .i64 ((d : Int) + 1)] wr (ThingPost wr B Br L' n' (rd (L'.take m) (d + 1) cnt'))) := Lib.hid (by
          have := HIH.out wr B Br A' c' n' m (d + 1) cnt' L' (by have := HUK.out.1; have := HQ.out; have := HNN.out; omega) hst.2.2.2.2.1 hst.2.2.2.2.2.1 hn12 (by omega) hO' hB hst.1 (by omega) hc6
          rw [Int.natCast_succ] at this
          exact this)
        have hwd : IntKind.i64.wrap ((d : Int) + 1) = (d : Int) + 1 := IntWalk.i64_in _ (by omega)
        have hLm : (L'.take m).length = m := by rw [List.length_take, hst.2.2.2.2.2.1]; omega
        have HREST := Lib.hid (And.intro hll (And.intro hn5 (And.intro hlb (And.intro hL' (And.intro hown (And.intro hKlo (And.intro hap (And.intro hsp (And.intro hLm hm)))))))))
        have hm0 : 0 < m := by omega
        clear hst hll hn5 hlb hL' hown hKlo hap hsp hO' hLm hm b0 n0
        go_wp2_with fail
        refine HK.out.mono ?_
        intro e2 w2 hp
        rcases h6 : rd (L'.take m) (d + 1) cnt' with y | ⟨t, mm, c2⟩
        · rw [h6] at hp
          obtain ⟨rfl, hgr⟩ := hp
          have hy0 := (rd_err (m + 1)).1 _ _ _ _ (by rw [HREST.out.2.2.2.2.2.2.2.2.1]; omega) h6
          have bne : ((y : Int) != 0) = true := by simp; omega
          have HE : Hid (rd (x :: L.take q) d cnt = .error y) := Lib.hid (by rw [HE0.out, HREST.out.2.2.2.2.2.2.2.1, rds_err (by rw [HREST.out.2.2.2.2.2.2.2.2.1]; omega) h6]; rfl)
          have hz2 : Holds w2 w.heap.size 31 #[.int .u8 0, .slice none 0 0, .slice none 0 0] := HST.out.2.1.grown hgr (fun e => by injection e with e; omega)
          have hg2 : w.grownBy w2 (some Br) := HST.out.2.2.2.1.trans hgr
          have hz3 : Holds (w2.alloc (.cells #[.int .u8 0, .slice none 0 0, .slice none 0 0] 31)) w.heap.size 31 #[.int .u8 0, .slice none 0 0, .slice none 0 0] := hz2.alloc _
          have hg3 : w.grownBy (w2.alloc (.cells #[.int .u8 0, .slice none 0 0, .slice none 0 0] 31)) (some Br) := hg2.trans (World.grownBy_alloc _ _ _)
          have z0 := hz3.cell 0
          have z1 := hz3.cell 1
          have z2 := hz3.cell 2
          have y0 := hz3.open_ 0
          have y1 := hz3.open_ 1
          have y2 := hz3.open_ 2
          have HZ3 := Lib.hid hz3
          have HG3 := Lib.hid hg3
          clear hz2 hg2 hz3 hg3 hgr
          simp only [noNode]
          go_wp2_with fail
          rw [HE.out]
          exact ret_cell rfl rfl rfl (((HZ3.out.stored 0 _).stored 1 _).stored 2 _) rfl ⟨rfl, grown_new (grown_new (grown_new HG3.out (Nat.le_refl _) _) (Nat.le_refl _) _) (Nat.le_refl _) _⟩
        · rw [h6] at hp
          obtain ⟨lt, A2, c9, rfl, hlt2, hin, hgr, hbr, hrd⟩ := hp
          have hfit := (rd_fits (m + 1)).1 _ _ _ _ _ _ (by rw [HREST.out.2.2.2.2.2.2.2.2.1]; omega) h6
          rw [HREST.out.2.2.2.2.2.2.2.2.1] at hfit
          have hst2 := HST.out.turned hgr hbr hrd (by rw [List.length_drop, HST.out.2.2.2.2.2.1])
          have hKlt : ∀ g, blockOf K = some g → g < wr.heap.size := fun g hg => HREST.out.2.2.2.2.1.lt hg
          have hap2 : Apart w2 (w.heap.size + 2) K (l ++ [lt]) := by
            have h := HREST.out.2.2.2.2.2.2.1.keep (w' := w2) (A' := K) hgr.size (fun g hg hlt _ => hgr.block g hlt (fun e => by injection e with e; omega)) (fun g hg => .inl hg)
            exact h.more HST.out.2.2.2.2.2.2.1 (Nat.le_refl _) hin (fun g hg => .inl (hKlt g hg))
          have hsp2 : spec = preT ((l ++ [lt]).map Lt.t) (rds ((L'.drop mm).take (n' - mm - e)) (d + 1) c2) := by
            rw [HREST.out.2.2.2.2.2.2.2.1, rds_ok (by rw [HREST.out.2.2.2.2.2.2.2.2.1]; omega) h6, preT_preT, List.map_append, List.map_cons, List.map_nil, hlt2, List.drop_take]
            have := HREST.out.2.2.2.2.2.2.2.2.2
            rw [show m - mm = n' - mm - e by omega]
          have hown2 : OwnV 31 3 w2 K kc ln (l.flatMap lcell) := HREST.out.2.2.2.2.1.keep fun g hg hlt => hgr.block g hlt (fun e => by injection e with e; have := HREST.out.2.2.2.2.2.1 g hg; omega)
          have hfm : (l ++ [lt]).flatMap lcell = l.flatMap lcell ++ lcell lt := by simp
          have HAP := Lib.hid hap2
          have HSP := Lib.hid hsp2
          have HFM := Lib.hid hfm
          have HLT : Hid (lt.val = .agg (lcell lt).toArray) := Lib.hid rfl
          rw [HLT.out]
          have HCL : Hid (lcell lt = [.int .u8 (lt.tag : Int), .slice lt.ba lt.body.length lt.bc, .slice lt.ka lt.kids.length lt.kc]) := Lib.hid rfl
          rw [HCL.out]
          generalize lt.tag = t0 at *
          generalize lt.ba = t1 at *
          generalize lt.body.length = t2 at *
          generalize lt.bc = t3 at *
          generalize lt.ka = t4 at *
          generalize lt.kids.length = t5 at *
          generalize lt.kc = t6 at *
          have hsA := hst2.grown (World.grownBy_alloc w2 (.cells #[.int .u8 (t0 : Int), .slice t1 t2 t3, .slice t4 t5 t6] 31) none) (fun g hg => by cases hg)
          have hoA : OwnV 31 3 (w2.alloc (.cells #[.int .u8 (t0 : Int), .slice t1 t2 t3, .slice t4 t5 t6] 31)) K kc ln (l.flatMap lcell) := hown2.keep fun g hg hlt => Below.heap_alloc w2 _ g hlt
          have hA : Holds (w2.alloc (.cells #[.int .u8 (t0 : Int), .slice t1 t2 t3, .slice t4 t5 t6] 31)) w2.heap.size 31 #[.int .u8 (t0 : Int), .slice t1 t2 t3, .slice t4 t5 t6] := Holds.fresh _ _ _
          have k0 := hsA.2.2.1.cell 2
          have a0 := hA.cell 0
          have a1 := hA.cell 1
          have a2 := hA.cell 2
          have hw2s : w.heap.size + 2 ≤ w2.heap.size := hst2.2.2.2.2.2.2.1
          have HALLOC : Hid (w2.grownBy (w2.alloc (.cells #[.int .u8 (t0 : Int), .slice t1 t2 t3, .slice t4 t5 t6] 31)) none) := Lib.hid (World.grownBy_alloc _ _ _)
          have HSA := Lib.hid hsA
          have HOA := Lib.hid hoA
          have hszA : (w2.alloc (.cells #[.int .u8 (t0 : Int), .slice t1 t2 t3, .slice t4 t5 t6] 31)).heap.size = w2.heap.size + 1 := by simp
          have hsB := hsA.grown (World.grownBy_alloc (w2.alloc (.cells #[.int .u8 (t0 : Int), .slice t1 t2 t3, .slice t4 t5 t6] 31)) (.cells #[.int .u8 (t0 : Int), .slice t1 t2 t3, .slice t4 t5 t6] 31) none) (fun g hg => by cases hg)
          have HSB := Lib.hid hsB
          have HOB : Hid (OwnV 31 3 ((w2.alloc (.cells #[.int .u8 (t0 : Int), .slice t1 t2 t3, .slice t4 t5 t6] 31)).alloc (.cells #[.int .u8 (t0 : Int), .slice t1 t2 t3, .slice t4 t5 t6] 31)) K kc ln (l.flatMap lcell)) := Lib.hid (hoA.keep fun g hg hlt => Below.heap_alloc _ _ g hlt)
          have HHB : Hid (Holds ((w2.alloc (.cells #[.int .u8 (t0 : Int), .slice t1 t2 t3, .slice t4 t5 t6] 31)).alloc (.cells #[.int .u8 (t0 : Int), .slice t1 t2 t3, .slice t4 t5 t6] 31)) (w2.heap.size + 1) 31 [Value.int .u8 (t0 : Int), .slice t1 t2 t3, .slice t4 t5 t6].toArray) := Lib.hid (by
            have h := Holds.fresh (w2.alloc (.cells #[.int .u8 (t0 : Int), .slice t1 t2 t3, .slice t4 t5 t6] 31)) 31 #[.int .u8 (t0 : Int), .slice t1 t2 t3, .slice t4 t5 t6]
            rw [hszA] at h
            exact h)
          have HF5 : Hid (∀ W, ((w2.alloc (.cells #[.int .u8 (t0 : Int), .slice t1 t2 t3, .slice t4 t5 t6] 31)).alloc (.cells #[.int .u8 (t0 : Int), .slice t1 t2 t3, .slice t4 t5 t6] 31)).grownBy W (blockOf K) → W.frozen? ⟨w.heap.size + 1, 2, none⟩ = false ∧ W.cell? ⟨w.heap.size + 1, 2, none⟩ = some (.slice K ln kc)) := Lib.hid fun W hW => by
            have h := HSB.out.grown hW HREST.out.2.2.2.2.2.1
            exact ⟨h.2.2.1.open_ 2, h.2.2.1.cell 2⟩
          have HW1 : Hid (∀ v ∈ [Value.int .u8 (t0 : Int), .slice t1 t2 t3, .slice t4 t5 t6], v.oneCell' = true) := Lib.hid (by intro v hv; simp at hv; rcases hv with rfl | rfl | rfl <;> rfl)
          have HLN : Hid (ln ≤ 9000000000000000000 ∧ (ln + 1) * 56 ≤ 140737488355328) := Lib.hid (by have := HREST.out.2.2.1; omega)
          have HGB : Hid (w2.grownBy ((w2.alloc (.cells #[.int .u8 (t0 : Int), .slice t1 t2 t3, .slice t4 t5 t6] 31)).alloc (.cells #[.int .u8 (t0 : Int), .slice t1 t2 t3, .slice t4 t5 t6] 31)) none) := Lib.hid (HALLOC.out.trans (World.grownBy_alloc _ _ _))
          clear hsA hsB hszA hoA hA hown2 hfm hsp2 hap2 hKlt hst2 hlt2 hin hgr hbr hrd HK b1
          go_wp2_with (first | (at_builtin; refine wpList_pushV _ rfl (.tmp 123) (.tmp 125) 29 rfl 31 _ 3 56 Tryz.underlying29 info_node rfl (by omega) (by omega) rfl HOB.out (cs := [Value.int .u8 (t0 : Int), .slice t1 t2 t3, .slice t4 t5 t6]) rfl rfl HW1.out HHB.out HLN.out ?_; intro g5 c5 W5 ho5 hg5 hat5 hlt5; obtain ⟨f5, m5⟩ := HF5.out _ hg5))
          have hS5 := HSB.out.grown hg5 HREST.out.2.2.2.2.2.1
          have hS6 := hS5.kidsv (.slice (some ⟨g5, 0, none⟩) (ln + 1) c5)
          have hg5lo : w.heap.size + 2 ≤ g5 := by
            rcases hat5 with h | h
            · exact HREST.out.2.2.2.2.2.1 g5 h
            · have : ((w2.alloc (.cells #[.int .u8 (t0 : Int), .slice t1 t2 t3, .slice t4 t5 t6] 31)).alloc (.cells #[.int .u8 (t0 : Int), .slice t1 t2 t3, .slice t4 t5 t6] 31)).heap.size = w2.heap.size + 2 := by simp
              omega
          have ho6 : OwnV 31 3 (W5.setCell ⟨w.heap.size + 1, 2, none⟩ (.slice (some ⟨g5, 0, none⟩) (ln + 1) c5)) (some ⟨g5, 0, none⟩) c5 (ln + 1) ((l ++ [lt]).flatMap lcell) := by
            rw [HFM.out, HCL.out]
            exact ho5.keep fun g hg hlt => Below.heap_setCell W5 ⟨w.heap.size + 1, 2, none⟩ _ g (by show g ≠ w.heap.size + 1; change some g5 = some g at hg; injection hg with hg; omega)
          have hap6 : Apart (W5.setCell ⟨w.heap.size + 1, 2, none⟩ (.slice (some ⟨g5, 0, none⟩) (ln + 1) c5)) (w.heap.size + 2) (some ⟨g5, 0, none⟩) (l ++ [lt]) := by
            refine HAP.out.keep ?_ (fun g hg hlt hne => ?_) (fun g hg => ?_)
            · show w2.heap.size ≤ (W5.heap.modify _ _).size
              rw [Array.size_modify]
              exact Nat.le_trans HGB.out.size hg5.size
            · rw [Below.heap_setCell W5 ⟨w.heap.size + 1, 2, none⟩ _ g (by show g ≠ w.heap.size + 1; omega), hg5.block g (Nat.lt_of_lt_of_le hlt HGB.out.size) (fun e => hne e.symm), HGB.out.block g hlt (by simp)]
            · change some g5 = some g at hg
              injection hg with hg
              subst hg
              rcases hat5 with h | h
              · exact .inl h
              · have : ((w2.alloc (.cells #[.int .u8 (t0 : Int), .slice t1 t2 t3, .slice t4 t5 t6] 31)).alloc (.cells #[.int .u8 (t0 : Int), .slice t1 t2 t3, .slice t4 t5 t6] 31)).heap.size = w2.heap.size + 2 := by simp
                exact .inr (by omega)
          have HS6 := Lib.hid hS6
          have HO6 := Lib.hid ho6
          have HAP6 := Lib.hid hap6
          have HG6 := Lib.hid hg5lo
          clear hS5 hS6 ho5 hg5 hat5 hlt5 ho6 hap6 hg5lo
          go_roundw
          case rel =>
            have hz := HREST.out.2.2.2.2.2.2.2.2.2
            have hz2 := HREST.out.2.2.1
            have hz3 := HREST.out.2.1
            refine ⟨A2, n' - mm, c9, c2, L'.drop mm, l ++ [lt], some ⟨g5, 0, none⟩, c5, ln + 1, HS6.out, by rw [List.length_append, HREST.out.1]; rfl, by omega, by omega, by omega, hfit.2.2, by omega, ?_, HO6.out, fun g hg => by change some g5 = some g at hg; injection hg with hg; subst hg; exact HG6.out, HAP6.out, HSP.out⟩
            rw [HREST.out.2.2.2.1, List.drop_drop, show n5 - n' + mm = n5 - (n' - mm) by omega]
          case measure =>
            have h1 := HS6.out.1.cell 0
            have h2 := HST.out.1.cell 0
            simp only [lenAt]
            rw [h1, h2]
            simp
            omega
      case neg =>
        obtain rfl : n' = e := by omega
        have dlt : decide ((n' : Int) < (n' : Int)) = false := decide_eq_false (by omega)
        rw [Nat.sub_self, List.take_zero, rds] at hsp
        have HE : Hid (rd (x :: L.take q) d cnt = .ok (.mk x [] (l.map Lt.t), 1 + u + k, cnt')) := Lib.hid (by rw [HE0.out, hsp]; simp [preT, thingOf])
        have n0 := hst.2.2.1.cell 0
        have n1 := hst.2.2.1.cell 1
        have n2 := hst.2.2.1.cell 2
        have z0 := hst.2.1.cell 0
        have z1 := hst.2.1.cell 1
        have z2 := hst.2.1.cell 2
        have y0 := hst.2.1.open_ 0
        have y1 := hst.2.1.open_ 1
        have y2 := hst.2.1.open_ 2
        have HREST := Lib.hid (And.intro hll (And.intro hn5 (And.intro hL' (And.intro hown (And.intro hKlo hap)))))
        clear hst hll hn5 hlb hL' hown hKlo hap hsp hO'
        go_wp2_with fail
        rw [HE.out]
        obtain ⟨r1, r2, r3, r4, r5, r6⟩ := HST.out.out (.int .u8 (x : Int)) (.slice none 0 0) (.slice K ln kc)
        have hsz := HST.out.2.2.2.2.2.2.1
        refine ret_cell rfl rfl rfl r1 rfl ⟨.mk x none 0 [] K kc l, A', c', ?_, ?_, ?_, r3, ?_, ?_⟩
        · rw [Lt.val, Lt.cells]
          simp only [Lt.tag, Lt.ba, Lt.body, Lt.bc, Lt.ka, Lt.kids, Lt.kc, HREST.out.1]
          rfl
        · rw [Lt.t_mk]
        · refine TrIn.of_kids hx HREST.out.1 (by rw [r5]; omega) (HREST.out.2.2.2.1.keep fun g hg _ => r6 g (by have := HREST.out.2.2.2.2.1 g hg; omega)) (fun g hg => by have := HREST.out.2.2.2.2.1 g hg; omega) ?_
          exact (HREST.out.2.2.2.2.2.keep (by rw [r5]; exact Nat.le_refl _) (fun g hg _ _ => r6 g (by omega)) (fun g hg => .inl hg)).less (by omega)
        · have := HUK.out
          rw [show n - (1 + u + k) = n' by omega]
          exact r2
        · have hu := HUK.out
          rw [show (x :: L).drop (1 + u + k) = L' by rw [HREST.out.2.2.1, hu.2.2.1, List.drop_drop, show 1 + u + k = (u + (n5 - n')) + 1 by omega, List.drop_succ_cons]]
          exact r4
end Go.Proofs.YtbkjjhpnjfdlbaaGreatDoor
