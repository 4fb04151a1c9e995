/-
  All whole blocks of a row: by the program.
-/
import Derived.Test.YtoggfooeeafadaaDoorSha5
import Derived.Test.YtoggfooeeafadaaDoorSha6
namespace Go.Proofs.YtoggfooeeafadaaDoor
open Go.RowKit
set_option linter.unusedVariables false
attribute [local go_sem ↓] Go.wp_at_zero Go.wp_at_succ

set_option maxRecDepth 100000 in
theorem slice_from (g off k c : Nat) (h1 : 64 ≤ k) (h2 : k ≤ c) (W : World) : (Instr.slice 22 (.slice (some ⟨g, off, none⟩) k c) (some (.int .i64 64)) none none).run Tryd.prog W = .ok (.slice (some ⟨g, if c = 64 then off else off + 64, none⟩) (k - 64) (c - 64)) W := by
  have hs : (sizeOf (Tryd.prog.elem 22)).run Tryd.prog W = .ok 1 W := by kernel_rfl
  have ht : Tryd.prog.underlying 22 = some (.slice (Tryd.prog.elem 22)) := by kernel_rfl
  rw [run_slice_l (P := Tryd.prog) (w := W) (t := 22) (ht := ht) (kl := .i64) (l := 64) (h0 := by omega) (h1 := by omega), hs]
  have e1 : (Int.toNat 64) = 64 := rfl
  rw [e1]
  simp only [Result.andThen, sliced, Nat.mul_one, Option.map_some]
  by_cases h : c = 64
  · rw [if_pos h, if_pos h]
  · rw [if_neg h, if_neg h, Addr.add_lit]
theorem results_row_tmp {P : Program} {fn : Func} {p u : Tmp} {ty : TypeId} (h : fn.results = #[.cell p ty, .tmp u]) (tmps : Array Value) (w : World) (g : Nat) (t : TypeId) (cs : Array Value) (fr : Nat × Nat) (d : TypeDesc)
    (hp : tmps.getD p undef = .pointer (some ⟨g, 0, none⟩)) (hg : w.heap[g]? = some (.cells cs t fr))
    (hu : P.underlying ty = some d) (hd : (match d with | .struct _ | .array _ _ => true | _ => false) = true) (hi : (P.info? ty).map (·.size) = some cs.size) (v : Value) (hv : tmps.getD u undef = v) :
    (results fn tmps).run P w = .ok (.tuple #[.agg cs, v]) w := by
  subst hv
  have hp' : tmps[p]?.getD undef = .pointer (some ⟨g, 0, none⟩) := by simpa using hp
  simp [results, h, hp', asAddr, run_loadVar_row w g t ty cs fr d hg hu hd hi]
theorem nums_list (s : St) : nums .u32 s.list = #[.int .u32 (s.a : Int), .int .u32 (s.b : Int), .int .u32 (s.c : Int), .int .u32 (s.d : Int), .int .u32 (s.e : Int), .int .u32 (s.f : Int), .int .u32 (s.g : Int), .int .u32 (s.h : Int)] := rfl
theorem blk_short {s : St} {l : List Nat} (h : l.length ≠ 64) : blk s l = s := by rw [blk, if_neg h]
theorem block_any (w : World) (s : St) (hs : s.Ok) (B : Nat) (A : Option Addr) (c n : Nat) (l : List Nat) (hl : l.length = n) (hr : Rd .u8 w B A c l) (hB : B ≤ w.heap.size) (ho : Oct6 l) (hk : KMet w) :
    Calls Tryd.prog 10 #[.agg (nums .u32 s.list), .slice A n c] w fun e w' => e = .returned (.agg (nums .u32 (blk s l).list)) ∧ Below w.heap.size w w' := by
  by_cases h : n = 64
  · subst h
    exact block_full w s hs B A c l hl hr hB ho hk
  · rw [blk_short (by omega)]
    exact block_short w s A c n h
theorem block'_any (w : World) (s : St) (hs : s.Ok) (B : Nat) (A : Option Addr) (c n : Nat) (l : List Nat) (hl : l.length = n) (hr : Rd .u8 w B A c l) (hB : B ≤ w.heap.size) (ho : Oct6 l) :
    Calls Tryd.prog 11 #[.agg (nums .u32 s.list), .slice A n c] w fun e w' => e = .returned (.agg (nums .u32 (blk s l).list)) ∧ Below w.heap.size w w' := by
  by_cases h : n = 64
  · subst h
    exact block'_full w s hs B A c l hl hr hB ho
  · rw [blk_short (by omega)]
    exact block'_short w s A c n h
/-- So many blocks, one after another. -/
def chain (s : St) (l : List Nat) : Nat → St
  | 0 => s
  | q + 1 => blk (chain s l q) ((l.drop (64 * q)).take 64)
theorem chain_ok {s : St} (h : s.Ok) (l : List Nat) : ∀ q, (chain s l q).Ok
  | 0 => h
  | q + 1 => blk_ok (chain_ok h l q) _
theorem oct_drop {l : List Nat} (h : Oct6 l) (n : Nat) : Oct6 (l.drop n) := fun i => by
  have := h (n + i)
  simpa [List.getD] using this
theorem oct_take {l : List Nat} (h : Oct6 l) (n : Nat) : Oct6 (l.take n) := fun i => by
  by_cases hi : i < n
  · rw [getD_take l hi]; exact h i
  · rw [List.getD, List.getElem?_eq_none (by simp; omega)]; exact (by decide : (0 : Nat) < 256)

def RelH (s : St) (l : List Nat) (n : Nat) (w : World) (B : Nat) (v : Value) (wr : World) : Prop :=
  ∃ (q k : Nat) (A : Option Addr) (c : Nat), Hid (64 * q + k = n) ∧ v = .slice A k c ∧ Mine 5 wr B A c (l.drop (64 * q)) ∧ (∀ g, blk_of A = some g → g < w.heap.size) ∧ Row .u32 28 wr w.heap.size (chain s l q).list ∧ Holds wr (w.heap.size + 1) 28 #[Value.int IntKind.u32 0, Value.int IntKind.u32 0, Value.int IntKind.u32 0, Value.int IntKind.u32 0, Value.int IntKind.u32 0, Value.int IntKind.u32 0, Value.int IntKind.u32 0, Value.int IntKind.u32 0] ∧ Below w.heap.size w wr
/-- What is left behind whole blocks. -/
def WholePost (s : St) (l : List Nat) (n : Nat) (w : World) (B : Nat) (e : Ending) (w' : World) : Prop :=
  ∃ (A : Option Addr) (c : Nat), e = .returned (.tuple #[.agg (nums .u32 (chain s l (n / 64)).list), .slice A (n % 64) c]) ∧ Mine 5 w' B A c (l.drop (64 * (n / 64))) ∧ Below w.heap.size w w'

set_option maxRecDepth 100000 in
set_option maxHeartbeats 1200000 in
theorem whole_any (w : World) (s : St) (hs : s.Ok) (B : Nat) (A : Option Addr) (c n : Nat) (l : List Nat) (hl : l.length = n) (hr : Mine 5 w B A c l) (ho : Oct6 l) (hk : KMet w) :
    Calls Tryd.prog 12 #[.agg (nums .u32 s.list), .slice A n c] w (WholePost s l n w B) := by
  obtain ⟨W, hW, hrow, hres, hbel, _⟩ := begun w s
  have hrW : Mine 5 W B A c l := hr.under hbel
  have hlt : ∀ g, blk_of A = some g → g < w.heap.size := fun g hg => (hr.block hg).2
  have hlc := hr.le
  have HL := Lib.hid hl
  have HO := Lib.hid ho
  have HK := Lib.hid hk
  have HW := Lib.hid hW
  have hnc : n ≤ c := by omega
  have hc63 : c ≤ 9223372036854775807 := by omega
  clear hW hr hl ho hk hlc
  go_enter Tryd.func12, Tryd.ntmps12
  go_wp2_with fail
  rw [← HW.out]
  clear HW
  go_loopw [1] (fun v wr => RelH s l n w B v wr) (fun v _ => match v with | .slice _ m _ => m | _ => 0)
  case atStart => exact ⟨0, n, A, c, Lib.hid (by omega), rfl, hrW, hlt, hrow, hres, hbel⟩
  case round =>
    clear hrW hlt hrow hres hbel
    obtain ⟨q, k, A, c, HQ, rfl, hmine, hlt, hrow, hres, hbel⟩ := hrel
    obtain ⟨V, hV⟩ : ∃ V, V = wr := ⟨_, rfl⟩
    subst hV
    have hlc := hmine.le
    have hdl : (l.drop (64 * q)).length = k := by rw [List.length_drop, HL.out]; have := HQ.out; omega
    rw [hdl] at hlc
    have hkc := hlc.1
    have hc63' := hlc.2
    by_cases hqn : 64 ≤ k
    case pos =>
      obtain ⟨g, off, rfl, hdrop⟩ := hmine.drop (n := 64) (by omega) (by omega)
      have hok := chain_ok hs l q
      have HN : Hid (chain s l (q + 1) = blk (chain s l q) ((l.drop (64 * q)).take 64)) := Lib.hid rfl
      have HO2 := Lib.hid (oct_take (oct_drop HO.out (64 * q)) 64)
      have HTL : Hid (((l.drop (64 * q)).take 64).length = 64) := Lib.hid (by rw [List.length_take, hdl]; omega)
      have HDD : Hid ((l.drop (64 * q)).drop 64 = l.drop (64 * (q + 1))) := Lib.hid (by rw [List.drop_drop]; congr 1)
      have hrd64 := hmine.take 64
      have hsl : ∀ W, (Instr.slice 22 (.slice (some ⟨g, off, none⟩) k c) (some (.int .i64 64)) none none).run Tryd.prog W = .ok (.slice (some ⟨g, if c = 64 then off else off + 64, none⟩) (k - 64) (c - 64)) W := slice_from g off k c hqn hkc
      generalize chain s l q = S at *
      have c0 : V.cell? ⟨w.heap.size, 0, none⟩ = some (.int .u32 (S.a : Int)) := hrow.cell (i := 0) (by show 0 < 8; omega)
      have c1 : V.cell? ⟨w.heap.size, 1, none⟩ = some (.int .u32 (S.b : Int)) := hrow.cell (i := 1) (by show 1 < 8; omega)
      have c2 : V.cell? ⟨w.heap.size, 2, none⟩ = some (.int .u32 (S.c : Int)) := hrow.cell (i := 2) (by show 2 < 8; omega)
      have c3 : V.cell? ⟨w.heap.size, 3, none⟩ = some (.int .u32 (S.d : Int)) := hrow.cell (i := 3) (by show 3 < 8; omega)
      have c4 : V.cell? ⟨w.heap.size, 4, none⟩ = some (.int .u32 (S.e : Int)) := hrow.cell (i := 4) (by show 4 < 8; omega)
      have c5 : V.cell? ⟨w.heap.size, 5, none⟩ = some (.int .u32 (S.f : Int)) := hrow.cell (i := 5) (by show 5 < 8; omega)
      have c6 : V.cell? ⟨w.heap.size, 6, none⟩ = some (.int .u32 (S.g : Int)) := hrow.cell (i := 6) (by show 6 < 8; omega)
      have c7 : V.cell? ⟨w.heap.size, 7, none⟩ = some (.int .u32 (S.h : Int)) := hrow.cell (i := 7) (by show 7 < 8; omega)
      have hcI : (64 : Int) ≤ (c : Int) := by omega
      have hcN : 64 ≤ c := by omega
      clear hdl
      go_wp2_with fail
      go_still_tail 3, (by kernel_rfl)
      change wpList _ _ _ _ _ V.drew
      have hrow1 : Row .u32 28 V.drew w.heap.size S.list := hrow
      have hres1 := hres.drew
      have hmine1 : Mine 5 V.drew B (some ⟨g, if c = 64 then off else off + 64, none⟩) (c - 64) ((l.drop (64 * q)).drop 64) := hdrop
      have hrd1 : Rd .u8 V.drew V.drew.heap.size (some ⟨g, off, none⟩) c ((l.drop (64 * q)).take 64) := hrd64
      have hbel1 : Below w.heap.size w V.drew := hbel.drew
      clear hrow hres hdrop hrd64 hbel hmine c0 c1 c2 c3 c4 c5 c6 c7
      generalize V.drew = V1 at *
      have HC := Lib.hid (block_any V1 S hok _ _ c 64 _ HTL.out hrd1 (Nat.le_refl _) HO2.out (HK.out.under hbel1))
      rw [nums_list] at HC
      go_wp2_with fail
      refine HC.out.mono ?_
      rintro e V2 ⟨rfl, hb2⟩
      have hg0 : g < w.heap.size := hlt g rfl
      have hrow2 := Holds.under hrow1 hb2 (Holds.lt hrow1)
      have hres2 := Holds.under hres1 hb2 (Holds.lt hres1)
      have hmine2 := hmine1.under hb2
      have hbel2 := hbel1.trans (hb2.mono hbel1.size)
      rw [← HN.out]
      clear HC hrow1 hres1 hmine1 hrd1 hbel1 hb2 HN
      have hi := st_info (chain s l (q + 1))
      have hone := nums_one .u32 (chain s l (q + 1)).list
      have hsz : (nums .u32 S.list).size = (nums .u32 (chain s l (q + 1)).list).size := by rw [size8, size8]
      have HR3 := Lib.hid (setRow_heap V2 w.heap.size _ (nums .u32 (chain s l (q + 1)).list) 28 (0, 0) hrow2)
      have HS3 := Lib.hid (holds_setRow hres2 (show w.heap.size + 1 ≠ w.heap.size by omega) (nums .u32 (chain s l (q + 1)).list))
      have HM3 := Lib.hid (hmine2.setRow (g := w.heap.size) (by intro e; injection e with e; change g = _ at e; omega) (nums .u32 (chain s l (q + 1)).list))
      have HB3 := Lib.hid (below_setRow hbel2 (Nat.le_refl _) (nums .u32 (chain s l (q + 1)).list))
      generalize hS2 : chain s l (q + 1) = S2 at *
      go_wp2_with (refine wpList_store_row rfl 28 (.tmp 2) (.tmp 12) rfl (w.heap.size) (nums .u32 S2.list) rfl rfl 28 (nums .u32 S.list) hrow2 hi hsz hone ?_)
      generalize V2.setRow w.heap.size (nums .u32 S2.list) = V3 at *
      go_roundw
      case rel => exact ⟨q + 1, k - 64, _, _, Lib.hid (by have := HQ.out; omega), rfl, by rw [← HDD.out]; exact HM3.out, fun g' hg' => hlt g' hg', by rw [hS2]; exact HR3.out, HS3.out, HB3.out⟩
      case measure => simp; omega
    case neg =>
      have hq : q = n / 64 := by have := HQ.out; omega
      have hkn : k = n % 64 := by have := HQ.out; omega
      have hlt2 : decide ((64 : Int) ≤ (k : Int)) = false := decide_eq_false (by omega)
      have hlt3 : decide (64 ≤ k) = false := decide_eq_false (by omega)
      have HQ2 := Lib.hid hq
      have HK2 := Lib.hid hkn
      have hi := st_info (chain s l q)
      have hone := nums_one .u32 (chain s l q).list
      have HR3 := Lib.hid (setRow_heap V (w.heap.size + 1) _ (nums .u32 (chain s l q).list) 28 (0, 0) hres)
      have HM3 := Lib.hid (hmine.setRow (g := w.heap.size + 1) (fun e => by have := hlt _ e; omega) (nums .u32 (chain s l q).list))
      have HB3 := Lib.hid (below_setRow hbel (Nat.le_succ _) (nums .u32 (chain s l q).list))
      clear hq hkn hdl
      go_wp2_with (first
        | (refine wpList_load_row rfl 28 (.tmp 2) rfl (w.heap.size) rfl 28 (nums .u32 (chain s l q).list) (0, 0) _ hrow Tryd.underlying28 rfl hi ?_)
        | (refine wpList_store_row rfl 28 (.tmp 4) (.tmp 15) rfl (w.heap.size + 1) (nums .u32 (chain s l q).list) rfl rfl 28 (#[Value.int IntKind.u32 0, Value.int IntKind.u32 0, Value.int IntKind.u32 0, Value.int IntKind.u32 0, Value.int IntKind.u32 0, Value.int IntKind.u32 0, Value.int IntKind.u32 0, Value.int IntKind.u32 0]) hres hi rfl hone ?_))
      refine bodyPost_ret (v := .tuple #[.agg (nums .u32 (chain s l q).list), .slice A k c]) (results_row_tmp rfl _ _ (w.heap.size + 1) 28 (nums .u32 (chain s l q).list) (0, 0) _ rfl HR3.out Tryd.underlying28 rfl hi _ rfl) rfl ?_
      exact ⟨A, c, by rw [← HQ2.out, ← HK2.out], by rw [← HQ2.out]; exact HM3.out, HB3.out⟩
end Go.Proofs.YtoggfooeeafadaaDoor
