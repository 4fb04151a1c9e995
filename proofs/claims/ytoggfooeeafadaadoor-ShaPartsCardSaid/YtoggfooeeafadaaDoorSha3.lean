/-
  A block's words: by the program.
-/
import Derived.Test.YtoggfooeeafadaaDoorSha2
import Derived.BigRegion
import Derived.Laws.Tables
import Derived.Laws.CopyOwn
import Derived.Deep.RegionLaw
import Derived.Deep.DrawnRows
namespace Go.Proofs.YtoggfooeeafadaaDoor
open Go.RowKit
set_option linter.unusedVariables false
attribute [local go_sem ↓] Go.wp_at_zero Go.wp_at_succ

set_option maxRecDepth 100000 in
theorem z64 : (#[Value.int IntKind.u32 0, Value.int IntKind.u32 0, Value.int IntKind.u32 0, Value.int IntKind.u32 0, Value.int IntKind.u32 0, Value.int IntKind.u32 0, Value.int IntKind.u32 0, Value.int IntKind.u32 0, Value.int IntKind.u32 0, Value.int IntKind.u32 0, Value.int IntKind.u32 0, Value.int IntKind.u32 0, Value.int IntKind.u32 0, Value.int IntKind.u32 0, Value.int IntKind.u32 0, Value.int IntKind.u32 0, Value.int IntKind.u32 0, Value.int IntKind.u32 0, Value.int IntKind.u32 0, Value.int IntKind.u32 0, Value.int IntKind.u32 0, Value.int IntKind.u32 0, Value.int IntKind.u32 0, Value.int IntKind.u32 0, Value.int IntKind.u32 0, Value.int IntKind.u32 0, Value.int IntKind.u32 0, Value.int IntKind.u32 0, Value.int IntKind.u32 0, Value.int IntKind.u32 0, Value.int IntKind.u32 0, Value.int IntKind.u32 0, Value.int IntKind.u32 0, Value.int IntKind.u32 0, Value.int IntKind.u32 0, Value.int IntKind.u32 0, Value.int IntKind.u32 0, Value.int IntKind.u32 0, Value.int IntKind.u32 0, Value.int IntKind.u32 0, Value.int IntKind.u32 0, Value.int IntKind.u32 0, Value.int IntKind.u32 0, Value.int IntKind.u32 0, Value.int IntKind.u32 0, Value.int IntKind.u32 0, Value.int IntKind.u32 0, Value.int IntKind.u32 0, Value.int IntKind.u32 0, Value.int IntKind.u32 0, Value.int IntKind.u32 0, Value.int IntKind.u32 0, Value.int IntKind.u32 0, Value.int IntKind.u32 0, Value.int IntKind.u32 0, Value.int IntKind.u32 0, Value.int IntKind.u32 0, Value.int IntKind.u32 0, Value.int IntKind.u32 0, Value.int IntKind.u32 0, Value.int IntKind.u32 0, Value.int IntKind.u32 0, Value.int IntKind.u32 0, Value.int IntKind.u32 0] : Array Value) = nums .u32 (List.replicate 64 0) := rfl

/-- Block g is words of which the first k are the block's. -/
def WordsTo (l : List Nat) (w : World) (B : Nat) (A : Option Addr) (c k : Nat) (wr : World) : Prop :=
  ∃ L R : List Nat, Row .u32 39 wr (w.heap.size + 1) L ∧ L.length = 64 ∧ Hid (L.take k = sched l k) ∧ M32 L ∧ Row .u32 39 wr w.heap.size R ∧ R.length = 64 ∧ Rd .u8 wr B A c l ∧ Below w.heap.size w wr
def RelW (l : List Nat) (w : World) (B : Nat) (A : Option Addr) (c n : Nat) (i : Value) (wr : World) : Prop :=
  ∃ k : Nat, k ≤ n ∧ i = .int .i64 k ∧ WordsTo l w B A c k wr

theorem words_store {l L : List Nat} {w wr W2 : World} {B : Nat} {A : Option Addr} {c k : Nat} {R : List Nat} {x : Nat} (hrow : Row .u32 39 wr (w.heap.size + 1) L) (hL : L.length = 64) (HL : L.take k = sched l k) (hm : M32 L) (hR : Row .u32 39 wr w.heap.size R) (hRl : R.length = 64) (hrd : Rd .u8 wr B A c l) (hb : Below w.heap.size w wr) (hB : B ≤ w.heap.size) (hk : k < 64)
    (hx : x = nextW l L k) (hx32 : x < 4294967296) (hW2 : W2 = (wr.setCell ⟨w.heap.size + 1, k, none⟩ (.int .u32 (x : Int))).drewN 1) : WordsTo l w B A c (k + 1) W2 := by
  subst hW2
  have hg : wr.grownBy ((wr.setCell ⟨w.heap.size + 1, k, none⟩ (.int .u32 (x : Int))).drewN 1) (some (w.heap.size + 1)) := one_drewN (one_setCell (World.grownBy.refl wr (some (w.heap.size + 1))) k _) 1
  have hlow := one_below hg (Nat.le_succ _) hb.size
  refine ⟨L.set k x, R, (hrow.set k x).drewN 1, by rw [List.length_set]; exact hL, Lib.hid (sched_put HL (by omega) x hx), m32_set hm k hx32, Holds.grown hR hg (by intro e; injection e; omega), hRl, hrd.under (hlow.mono hB), hb.trans hlow⟩

def RelX (l : List Nat) (w : World) (B : Nat) (A : Option Addr) (c : Nat) (i : Value) (wr : World) : Prop :=
  ∃ k : Nat, 16 ≤ k ∧ k ≤ 64 ∧ i = .int .i64 k ∧ WordsTo l w B A c k wr
theorem words_store' {l L : List Nat} {w wr W2 : World} {B : Nat} {A : Option Addr} {c k : Nat} {R : List Nat} {x : Nat} (hrow : Row .u32 39 wr (w.heap.size + 1) L) (hL : L.length = 64) (HL : L.take k = sched l k) (hm : M32 L) (hR : Row .u32 39 wr w.heap.size R) (hRl : R.length = 64) (hrd : Rd .u8 wr B A c l) (hb : Below w.heap.size w wr) (hB : B ≤ w.heap.size) (hk : k < 64)
    (V2 : World) (hV2 : ∃ n, V2 = wr.drewN n) (hx : x = nextW l L k) (hx32 : x < 4294967296) (hW2 : W2 = (V2.setCell ⟨w.heap.size + 1, k, none⟩ (.int .u32 (x : Int))).drewN 1) : WordsTo l w B A c (k + 1) W2 := by
  obtain ⟨n, rfl⟩ := hV2
  exact words_store (wr := wr.drewN n) (hrow.drewN n) hL HL hm (hR.drewN n) hRl (hrd.drewN n) ⟨hb.os, hb.tape, hb.output, hb.size, hb.block⟩ hB hk hx hx32 hW2
/-- A call that leaves the world alone, in a region's first draws. -/
theorem quiet_one {P : Program} {f : FuncId} {args : Array Value} {w : World} {n : Nat} {v : Value}
    (h : ∀ W : World, Calls P f args W fun e w' => e = .returned v ∧ W = w') : Calls P f args (w.drewN n) fun e w'' => e = .returned v ∧ ∃ m, w'' = w.drewN m :=
  (h _).mono fun _ _ hh => ⟨hh.1, n, hh.2.symm⟩
theorem nums_one (k : IntKind) (l : List Nat) : (nums k l).all (·.oneCell') = true := by
  rw [Array.all_eq_true_iff_forall_mem]
  intro v hv
  simp [nums] at hv
  obtain ⟨a, _, rfl⟩ := hv
  rfl
theorem xor3 {a b x : Nat} (ha : a < 4294967296) (hb : b < 4294967296) (hx : x < 4294967296) (p : Nat) : bits BinOp.xor IntKind.u32 (bits BinOp.xor IntKind.u32 (a : Int) (b : Int)) ((x : Int) / (p : Nat)) = (((a ^^^ b) ^^^ x / p : Nat) : Int) := by
  have e1 := u32_xor_nat a b ha hb
  have e2 := u32_xor_nat (a ^^^ b) (x / p) (lt32_xor ha hb) (Nat.lt_of_le_of_lt (Nat.div_le_self _ _) hx)
  rw [← e2, ← e1, Int.natCast_ediv]
theorem tn2 : Turns 2 := .inl rfl
theorem tn6 : Turns 6 := .inr (.inl rfl)
theorem tn7 : Turns 7 := .inr (.inr (.inl rfl))
theorem tn11 : Turns 11 := .inr (.inr (.inr (.inl rfl)))
theorem tn13 : Turns 13 := .inr (.inr (.inr (.inr (.inl rfl))))
theorem tn17 : Turns 17 := .inr (.inr (.inr (.inr (.inr (.inl rfl)))))
theorem tn18 : Turns 18 := .inr (.inr (.inr (.inr (.inr (.inr (.inl rfl))))))
theorem tn19 : Turns 19 := .inr (.inr (.inr (.inr (.inr (.inr (.inr (.inl rfl)))))))
theorem tn22 : Turns 22 := .inr (.inr (.inr (.inr (.inr (.inr (.inr (.inr (.inl rfl))))))))
instance (n : Nat) : Decidable (Turns n) := by unfold Turns; infer_instance
/-- x turned by a whole number of places. -/
def rotI (x : Nat) (z : Int) : Nat := rot x z.toNat
theorem right_int (w : World) (x : Nat) (z : Int) (hx : x < 4294967296) (hz : 0 ≤ z ∧ Turns z.toNat) : Calls Tryd.prog 17 #[.int .u32 (x : Int), .int .i64 z] w fun e w' => e = .returned (.int .u32 ((rotI x z : Nat) : Int)) ∧ w = w' := by
  obtain ⟨n, rfl⟩ : ∃ n : Nat, z = (n : Int) := ⟨z.toNat, by omega⟩
  exact right_any w x n hx hz.2
theorem tn25 : Turns 25 := .inr (.inr (.inr (.inr (.inr (.inr (.inr (.inr (.inr rfl))))))))

set_option maxRecDepth 100000 in
set_option maxHeartbeats 1000000 in
theorem words_any (w : World) (B : Nat) (A : Option Addr) (c : Nat) (l : List Nat) (hl : l.length = 64) (hr : Rd .u8 w B A c l) (hB : B ≤ w.heap.size) (ho : Oct6 l) :
    Calls Tryd.prog 13 #[.slice A 64 c] w fun e w' => e = .returned (.agg (nums .u32 (sched l 64))) ∧ Below w.heap.size w w' := by
  have hlc := hr.1
  have hc63 := hr.2.1
  have HLL := Lib.hid hl
  have HO := Lib.hid ho
  rw [hl] at hlc
  obtain ⟨b, off, rfl, hb, hcb⟩ := hr.2.2 (by omega)
  clear hl hcb
  have hrow0 := Holds.fresh w 39 (nums .u32 (List.replicate 64 0))
  have hrow := Holds.fresh (w.alloc (.cells (nums .u32 (List.replicate 64 0)) 39)) 39 (nums .u32 (List.replicate 64 0))
  have hrow1 := hrow0.alloc (.cells (nums .u32 (List.replicate 64 0)) 39)
  have hbel : Below w.heap.size w ((w.alloc (.cells (nums .u32 (List.replicate 64 0)) 39)).alloc (.cells (nums .u32 (List.replicate 64 0)) 39)) := ((Below.refl _ _).alloc (Nat.le_refl _) _).alloc (by simp) _
  rw [show (w.alloc (.cells (nums .u32 (List.replicate 64 0)) 39)).heap.size = w.heap.size + 1 by simp] at hrow
  have hrd := hr.under (hbel.mono hB)
  have hm := m32_noughts 64
  rw [← z64] at hrow hrow1 hbel hrd
  clear hrow0 hr
  go_enter Tryd.func13, Tryd.ntmps13
  go_wp2_with fail
  generalize (w.alloc _).alloc _ = W at *
  rw [z64] at hrow hrow1
  have hst : WordsTo l w B (some ⟨b, off, none⟩) c 0 W := ⟨_, _, hrow, List.length_replicate, Lib.hid rfl, hm, hrow1, List.length_replicate, hrd, hbel⟩
  clear hrow hrow1 hrd hbel hm
  go_loopw [8] (fun i wr => RelW l w B (some ⟨b, off, none⟩) c 16 i wr) (fun i _ => 16 - (intOf i).toNat)
  case atStart => exact ⟨0, Nat.zero_le _, rfl, hst⟩
  case round =>
    clear hst
    obtain ⟨k, hk, rfl, hst⟩ := hrel
    obtain ⟨V, hV⟩ : ∃ V, V = wr := ⟨_, rfl⟩
    subst hV
    by_cases hkn : k < 16
    case pos =>
      obtain ⟨L, R, hrow, hL, HL, hm, hR, hRl, hrd, hbk⟩ := hst
      obtain ⟨b2, off2, e2, hb2, hc⟩ := hrd.2.2 (by have := HLL.out; omega)
      injection e2 with e2
      injection e2 with e3 e4
      subst e3 e4
      have c0 := hc (4 * k) (by have := HLL.out; omega)
      have c1 := hc (4 * k + 1) (by have := HLL.out; omega)
      have c2 := hc (4 * k + 2) (by have := HLL.out; omega)
      have c3 := hc (4 * k + 3) (by have := HLL.out; omega)
      obtain ⟨x0, h0⟩ : ∃ x, x = l.getD (4 * k) 0 := ⟨_, rfl⟩
      obtain ⟨x1, h1⟩ : ∃ x, x = l.getD (4 * k + 1) 0 := ⟨_, rfl⟩
      obtain ⟨x2, h2⟩ : ∃ x, x = l.getD (4 * k + 2) 0 := ⟨_, rfl⟩
      obtain ⟨x3, h3⟩ : ∃ x, x = l.getD (4 * k + 3) 0 := ⟨_, rfl⟩
      rw [← h0] at c0; rw [← h1] at c1; rw [← h2] at c2; rw [← h3] at c3
      have z0 : x0 < 256 := by rw [h0]; exact HO.out _
      have z1 : x1 < 256 := by rw [h1]; exact HO.out _
      have z2 : x2 < 256 := by rw [h2]; exact HO.out _
      have z3 : x3 < 256 := by rw [h3]; exact HO.out _
      have HX : Hid (((x0 * 16777216 ||| x1 * 65536) ||| x2 * 256) ||| x3 = nextW l L k) := Lib.hid (by rw [nextW, if_pos hkn, w0, h0, h1, h2, h3])
      have HS : Hid _ := Lib.hid (fun x W2 => words_store (x := x) (W2 := W2) hrow hL HL.out hm hR hRl hrd hbk hB (by omega : k < 64))
      have hw := hrow.cell (i := k) (by omega)
      have hfr := hrow.open_ k
      have k0 : (0 : Int) ≤ (k : Int) := by omega
      have k64 : (k : Int) < 64 := by omega
      have g0 : (0 : Int) ≤ 4 * (k : Int) := by omega
      have g0' : 4 * (k : Int) < 64 := by omega
      have g1 : (0 : Int) ≤ 4 * (k : Int) + 1 := by omega
      have g1' : 4 * (k : Int) + 1 < 64 := by omega
      have g2 : (0 : Int) ≤ 4 * (k : Int) + 2 := by omega
      have g2' : 4 * (k : Int) + 2 < 64 := by omega
      have g3 : (0 : Int) ≤ 4 * (k : Int) + 3 := by omega
      have g3' : 4 * (k : Int) + 3 < 64 := by omega
      clear h0 h1 h2 h3 hc hrow hR hrd hbk hm
      go_wp2_with fail
      go_region
      have E : bits BinOp.or IntKind.u32 (bits BinOp.or IntKind.u32 (bits BinOp.or IntKind.u32 ((x0 : Int) * 16777216) ((x1 : Int) * 65536)) ((x2 : Int) * 256)) (x3 : Int) = ((((x0 * 16777216 ||| x1 * 65536) ||| x2 * 256) ||| x3 : Nat) : Int) := by
        have e1 := u32_or_nat (x0 * 16777216) (x1 * 65536) (by omega) (by omega)
        have e2 := u32_or_nat (x0 * 16777216 ||| x1 * 65536) (x2 * 256) (lt32_or (by omega) (by omega)) (by omega)
        have e3 := u32_or_nat ((x0 * 16777216 ||| x1 * 65536) ||| x2 * 256) x3 (lt32_or (lt32_or (by omega) (by omega)) (by omega)) (by omega)
        rw [← e3, ← e2, ← e1, Int.natCast_mul, Int.natCast_mul, Int.natCast_mul]
        rfl
      have hst2 : WordsTo l w B (some ⟨b, off, none⟩) c (k + 1) (V.setCell ⟨w.heap.size + 1, k, none⟩ (.int .u32 (bits BinOp.or IntKind.u32 (bits BinOp.or IntKind.u32 (bits BinOp.or IntKind.u32 ((x0 : Int) * 16777216) ((x1 : Int) * 65536)) ((x2 : Int) * 256)) (x3 : Int)))).drew :=
        HS.out _ _ HX.out (lt32_or (lt32_or (lt32_or (by omega) (by omega)) (by omega)) (by omega)) (by rw [E]; rfl)
      generalize World.drew _ = V2 at hst2 ⊢
      clear E HS HX c0 c1 c2 c3 hw hfr g0 g0' g1 g1' g2 g2' g3 g3' k64 hL HL hRl
      go_wp2_with fail
      go_roundw
      case rel => exact ⟨k + 1, by omega, by go_num, hst2⟩
      case measure => simp [intOf]; omega
    case neg =>
      obtain rfl : k = 16 := by omega
      have hf : decide (((16 : Nat) : Int) < 16) = false := by decide
      go_wp2_with fail
      clear hf
      go_loopw [5] (fun i wr => RelX l w B (some ⟨b, off, none⟩) c i wr) (fun i _ => 64 - (intOf i).toNat)
      case atStart => exact ⟨16, by omega, by omega, rfl, hst⟩
      case round =>
        clear hst
        obtain ⟨k, hk16, hk, rfl, hst⟩ := hrel
        obtain ⟨V, hV⟩ : ∃ V, V = wr := ⟨_, rfl⟩
        subst hV
        by_cases hkn : k < 64
        case pos =>
          obtain ⟨L, R, hrow, hL, HL, hm, hR, hRl, hrd, hbk⟩ := hst
          have c16 := hrow.cell (i := k - 16) (by omega)
          have c15 := hrow.cell (i := k - 15) (by omega)
          have c7 := hrow.cell (i := k - 7) (by omega)
          have c2 := hrow.cell (i := k - 2) (by omega)
          have z16 := hm (k - 16)
          have z15 := hm (k - 15)
          have z7 := hm (k - 7)
          have z2 := hm (k - 2)
          have HX : Hid ((((L.getD (k - 16) 0 + sg0 (L.getD (k - 15) 0)) % 4294967296 + L.getD (k - 7) 0) % 4294967296 + sg1 (L.getD (k - 2) 0)) % 4294967296 = nextW l L k) := Lib.hid (by rw [nextW, if_neg (by omega)])
          have HS : Hid _ := Lib.hid (fun x V2 hV2 W2 => words_store' (x := x) (W2 := W2) hrow hL HL.out hm hR hRl hrd hbk hB hkn V2 hV2)
          have ck := hrow.cell (i := k) (by omega)
          have cf := hrow.open_ k
          generalize L.getD (k - 16) 0 = x16 at *
          generalize L.getD (k - 15) 0 = x15 at *
          generalize L.getD (k - 7) 0 = x7 at *
          generalize L.getD (k - 2) 0 = x2 at *
          have k0 : (0 : Int) ≤ (k : Int) := by omega
          have g16 : (16 : Int) ≤ (k : Int) := by omega
          have g15 : (15 : Int) ≤ (k : Int) := by omega
          have g7 : (7 : Int) ≤ (k : Int) := by omega
          have g2 : (2 : Int) ≤ (k : Int) := by omega
          have f16 : (k : Int) - 16 < 64 := by omega
          have f15 : (k : Int) - 15 < 64 := by omega
          have f7 : (k : Int) - 7 < 64 := by omega
          have f2 : (k : Int) - 2 < 64 := by omega
          have e16 : ((k : Int) - 16).toNat = k - 16 := by omega
          have e15 : ((k : Int) - 15).toNat = k - 15 := by omega
          have e7 : ((k : Int) - 7).toNat = k - 7 := by omega
          have e2 : ((k : Int) - 2).toNat = k - 2 := by omega
          have q15 : IntKind.i64.wrap ((k : Int) - 15) = (k : Int) - 15 := IntWalk.i64_in _ (by omega)
          have q2 : IntKind.i64.wrap ((k : Int) - 2) = (k : Int) - 2 := IntWalk.i64_in _ (by omega)
          have q7 : IntKind.i64.wrap ((k : Int) - 7) = (k : Int) - 7 := IntWalk.i64_in _ (by omega)
          have q16 : IntKind.i64.wrap ((k : Int) - 16) = (k : Int) - 16 := IntWalk.i64_in _ (by omega)
          clear hrow hR hrd hbk hm
          go_wp2_with fail
          go_quiet ((go_at_call 17; first | exact quiet_one (fun W => right_int W _ _ (by assumption) (by decide)) | exact quiet_on (fun W => right_int W _ _ (by assumption) (by decide))))
          go_wp2_with fail
          go_quiet ((go_at_call 17; first | exact quiet_one (fun W => right_int W _ _ (by assumption) (by decide)) | exact quiet_on (fun W => right_int W _ _ (by assumption) (by decide))))
          have E0 : bits BinOp.xor IntKind.u32 (bits BinOp.xor IntKind.u32 ((rotI x15 7 : Nat) : Int) ((rotI x15 18 : Nat) : Int)) ((x15 : Int) / 8) = ((sg0 x15 : Nat) : Int) := xor3 (rot_lt z15 7) (rot_lt z15 18) z15 8
          have E1 : bits BinOp.xor IntKind.u32 (bits BinOp.xor IntKind.u32 ((rotI x2 17 : Nat) : Int) ((rotI x2 19 : Nat) : Int)) ((x2 : Int) / 1024) = ((sg1 x2 : Nat) : Int) := xor3 (rot_lt z2 17) (rot_lt z2 19) z2 1024
          rw [E0, E1]
          have y0 := sg0_lt z15
          have y1 := sg1_lt z2
          clear E0 E1
          generalize sg0 x15 = s0 at *
          generalize sg1 x2 = s1 at *
          generalize hV3 : World.drewN (World.drewN V _) _ = V3
          have HV3 : Hid (∃ n, V3 = V.drewN n) := Lib.hid ⟨_, by rw [← hV3, World.drewN_drewN]⟩
          have d16 : V3.cell? ⟨w.heap.size + 1, k - 16, none⟩ = some (.int .u32 (x16 : Int)) := by rw [← hV3]; exact c16
          have d7 : V3.cell? ⟨w.heap.size + 1, k - 7, none⟩ = some (.int .u32 (x7 : Int)) := by rw [← hV3]; exact c7
          have hw : V3.cell? ⟨w.heap.size + 1, k, none⟩ = some (.int .u32 ((L.getD k 0 : Nat) : Int)) := by rw [← hV3]; exact ck
          have hfr : V3.frozen? ⟨w.heap.size + 1, k, none⟩ = false := by rw [← hV3]; exact cf
          clear hV3 c16 c15 c7 c2 ck cf
          go_wp2_with fail
          go_region
          have E2 : (((x16 : Int) + (s0 : Int) + (x7 : Int) + (s1 : Int)) % 4294967296) = (((((x16 + s0) % 4294967296 + x7) % 4294967296 + s1) % 4294967296 : Nat) : Int) := by omega
          have hst2 : WordsTo l w B (some ⟨b, off, none⟩) c (k + 1) (V3.setCell ⟨w.heap.size + 1, k, none⟩ (.int .u32 (((x16 : Int) + (s0 : Int) + (x7 : Int) + (s1 : Int)) % 4294967296))).drew :=
            HS.out _ V3 HV3.out _ HX.out (Nat.mod_lt _ (by omega)) (by rw [E2]; rfl)
          generalize World.drew _ = V4 at hst2 ⊢
          clear E2 HS HX d16 d7 hw hfr g16 g15 g7 g2 f16 f15 f7 f2 e16 e15 e7 e2 q15 q2 q7 q16 hL HL hRl HV3
          go_wp2_with fail
          go_roundw
          case rel => exact ⟨k + 1, by omega, by omega, by go_num, hst2⟩
          case measure => simp [intOf]; omega
        case neg =>
          obtain rfl : k = 64 := by omega
          obtain ⟨L, R, hrow, hL, HL, hm, hR, hRl, hrd, hbk⟩ := hst
          have hi : (Tryd.prog.info? 39).map (·.size) = some (nums .u32 L).size := by rw [nums_size, hL]; kernel_rfl
          have hone := nums_one .u32 L
          have hsz : (nums .u32 R).size = (nums .u32 L).size := by rw [nums_size, nums_size, hL, hRl]
          have HE : Hid (L = sched l 64) := Lib.hid (by rw [← HL.out, List.take_of_length_le (by omega)])
          have hf : decide (((64 : Nat) : Int) < 64) = false := by decide
          have HR2 := Lib.hid (setRow_heap V w.heap.size (nums .u32 R) (nums .u32 L) 39 (0, 0) hR)
          have HB2 := Lib.hid (below_setRow hbk (Nat.le_refl _) (nums .u32 L))
          go_wp2_with (first
            | (refine wpList_load_row rfl 39 _ rfl (w.heap.size + 1) rfl 39 (nums .u32 L) (0, 0) _ hrow Tryd.underlying39 rfl hi ?_)
            | (refine wpList_store_row rfl 39 _ _ rfl w.heap.size (nums .u32 L) rfl rfl 39 (nums .u32 R) hR hi hsz hone ?_))
          rw [← HE.out]
          exact bodyPost_ret (v := .agg (nums .u32 L)) (results_cell_row rfl _ _ w.heap.size 39 (nums .u32 L) (0, 0) _ rfl HR2.out Tryd.underlying39 rfl hi) rfl ⟨rfl, HB2.out⟩
end Go.Proofs.YtoggfooeeafadaaDoor
