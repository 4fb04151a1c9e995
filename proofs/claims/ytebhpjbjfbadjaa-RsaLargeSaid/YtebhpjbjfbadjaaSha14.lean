/-
  A digest: by the document's own text.
-/
import Derived.Test.YtebhpjbjfbadjaaSha11
import Derived.Deep.RegionLaw
import Derived.Deep.DrawnRows
import Derived.Deep.RegionHeld3
namespace Go.Proofs.Ytebhpjbjfbadjaa
open Go.RowKit
set_option linter.unusedVariables false
attribute [local go_sem ↓] Go.wp_at_zero Go.wp_at_succ

theorem wrap8 (y : Int) : IntKind.u8.wrap y = y % 256 := by first | rfl | simp [IntKind.wrap] | (unfold IntKind.wrap; simp; done)
theorem rd_wrap (V : World) (e : TypeId) (x : Nat) (hx : x < 4294967296) : Rd .u8 (V.alloc (.cells #[.int .u8 (IntKind.u8.wrap ((x : Int) / 16777216)), .int .u8 (IntKind.u8.wrap ((x : Int) / 65536)), .int .u8 (IntKind.u8.wrap ((x : Int) / 256)), .int .u8 (IntKind.u8.wrap (x : Int))] e)) (V.heap.size + 1) (some ⟨V.heap.size, 0, none⟩) 4 (word4 x) := by
  rw [wrap8, wrap8, wrap8, wrap8, show (x : Int) / 16777216 % 256 = (x : Int) / 16777216 by omega]
  exact rd_word V e x hx
/-- Noughts behind. -/
def RelY (w : World) (D : List Nat) (d z0 : Nat) (v : Value) (wr : World) : Prop :=
  ∃ (z : Nat) (A : Option Addr) (c : Nat), z ≤ z0 ∧ v = .slice A (d + z) c ∧ Mine 5 wr w.heap.size A c (D ++ List.replicate z 0) ∧ Below w.heap.size w wr
/-- The count's bytes behind. -/
def RelV (w : World) (D : List Nat) (d N : Nat) (i v : Value) (wr : World) : Prop :=
  ∃ (j : Nat) (A : Option Addr) (c : Nat), j ≤ 8 ∧ i = .int .i64 (56 - 8 * (j : Int)) ∧ v = .slice A (d + j) c ∧ Mine 5 wr w.heap.size A c (D ++ cntL N j) ∧ Below w.heap.size w wr

/-- The words' bytes, so many, beside the words. -/
def RelES (w : World) (g : Nat) (s : StS) (i v : Value) (wr : World) : Prop :=
  ∃ (k : Nat) (A : Option Addr) (c : Nat), k ≤ 8 ∧ i = .int .i64 k ∧ v = .slice A (4 * k) c ∧ Mine 5 wr (g + 1) A c (outL s k) ∧ Row .u32 57 wr g s.list ∧ Below w.heap.size w wr
/-- So many blocks are worked off. -/
def RelQ6 (w : World) (g : Nat) (L : List Nat) (m : Nat) (v : Value) (wr : World) : Prop :=
  ∃ (q k : Nat) (A : Option Addr) (c : Nat), Hid (64 * q + k = m) ∧ v = .slice A k c ∧ Mine 5 wr w.heap.size A c (L.drop (64 * q)) ∧ (∀ g', blk_of A = some g' → g' < g) ∧ Row .u32 57 wr g (chain H0 L q).list ∧ Below w.heap.size w wr

set_option maxRecDepth 100000 in
set_option maxHeartbeats 6000000 in
theorem shaOf'_any (w : World) (B : Nat) (A : Option Addr) (c n : Nat) (l : List Nat) (hn : l.length = n) (hr : Rd .u8 w B A c l) (hB : B ≤ w.heap.size) (ho : Oct6 l) (hsz : n ≤ 100000) :
    Calls Try.prog 15 #[.slice A n c] w fun e w' => ∃ A' c', e = .returned (.slice A' 32 c') ∧ Rd .u8 w' w'.heap.size A' c' (digest l) ∧ Below w.heap.size w w' := by
  have HN := Lib.hid hn
  have HO := Lib.hid ho
  have hc63 := hr.2.1
  have hlc := hr.1
  have hnc : n ≤ c := by omega
  have hbe0 : Below w.heap.size w (w.alloc (.cells #[] 5)) := (Below.refl _ _).alloc (Nat.le_refl _) _
  have hm0 : Mine 5 (w.alloc (.cells #[] 5)) w.heap.size (some ⟨w.heap.size, 0, none⟩) 0 [] := .inr ⟨w.heap.size, 0, #[], rfl, Nat.le_refl _, heap_alloc_new w _, Nat.le_refl _, by omega, Nat.le_refl _, fun j hj => by simp at hj⟩
  have hr0 := hr.under (hbe0.mono hB)
  have hl0 : ([] : List Nat).length = 0 := rfl
  have hVs0 : w.heap.size ≤ (w.alloc (.cells #[] 5)).heap.size := hbe0.size
  clear hn ho hlc hr
  go_enter Try.func15, Try.ntmps15
  have hone1 : [128].length = 1 := rfl
  go_wp2_with (first
    | (refine wpList_mine _ rfl (.tmp 9) (.tmp 10) 29 rfl 5 rfl rfl rfl hm0 hl0 rfl hr0 HN.out (by omega) (by omega) ?_; intro A1 c1 V1 hm1 hg1 hb1; have hbe1 := hbe0.trans (grown_below hg1 (fun g e => (hm0.block e).1) hVs0); clear hg1 hb1 hm0 hr0 hbe0 hVs0; rw [List.nil_append] at hm1;
        have hm8 : Mine 5 (V1.alloc (.cells #[Value.int .u8 128] 5)) w.heap.size A1 c1 l := hm1.alloc _; have hr8 : Rd .u8 (V1.alloc (.cells #[Value.int .u8 128] 5)) (V1.heap.size + 1) (some ⟨V1.heap.size, 0, none⟩) 1 [128] := rd_one V1 _ 128; have hbe8 := hbe1.alloc hbe1.size (.cells #[Value.int .u8 128] 5); have hVs2 : w.heap.size ≤ (V1.alloc (.cells #[Value.int .u8 128] 5)).heap.size := hbe8.size; clear hm1 hbe1; rw [Nat.zero_add])
    | (refine wpList_mine _ rfl (.tmp 11) (.tmp 12) 29 rfl 5 rfl rfl rfl hm8 HN.out rfl hr8 hone1 (by omega) (by omega) ?_; intro A9 c9 V9 hm9 hg9 hb9; have hbe9 := hbe8.trans (grown_below hg9 (fun g e => (hm8.block e).1) hVs2); clear hg9 hb9 hm8 hbe8 hr8 hVs2))
  have HD1 : Hid ((l ++ [128]).length = n + 1) := Lib.hid (by rw [List.length_append, HN.out]; rfl)
  go_loopw [3] (fun v wr => RelY w (l ++ [128]) (n + 1) (zeros n) v wr) (fun v _ => match v with | .slice _ m _ => 200000 - m | _ => 0)
  case atStart => exact ⟨0, A9, c9, Nat.zero_le _, rfl, by simpa using hm9, hbe9⟩
  case round =>
    clear hm9 hbe9
    obtain ⟨z, A3, c3, hz, rfl, hm3, hbe3⟩ := hrel
    obtain ⟨V3, hV3⟩ : ∃ V, V = wr := ⟨_, rfl⟩
    subst hV3
    have hzz : zeros n = (119 - n % 64) % 64 := rfl
    have HL3 : Hid ((l ++ [128] ++ List.replicate z 0).length = n + 1 + z) := Lib.hid (by rw [List.length_append, HD1.out, List.length_replicate])
    generalize zeros n = z0 at *
    have hz63 : z0 ≤ 63 := by omega
    by_cases hzn : z < z0
    case pos =>
      have hne : (((n : Int) + 1 + z) % 64 != 56) = true := by simp; omega
      have HZZ := Lib.hid hzz
      clear hzz
      have hm8 : Mine 5 (V3.alloc (.cells #[Value.int .u8 0] 5)) w.heap.size A3 c3 (l ++ [128] ++ List.replicate z 0) := hm3.alloc _
      have hr8 : Rd .u8 (V3.alloc (.cells #[Value.int .u8 0] 5)) (V3.heap.size + 1) (some ⟨V3.heap.size, 0, none⟩) 1 [0] := rd_one V3 _ 0
      have hbe8 := hbe3.alloc hbe3.size (.cells #[Value.int .u8 0] 5)
      have hVs2 : w.heap.size ≤ (V3.alloc (.cells #[Value.int .u8 0] 5)).heap.size := hbe8.size
      have hone1 : [0].length = 1 := rfl
      clear hm3 hbe3
      go_wp2_with (refine wpList_mine _ rfl (.tmp 18) (.tmp 19) 29 rfl 5 rfl rfl rfl hm8 HL3.out rfl hr8 hone1 (by omega) (by omega) ?_; intro A9 c9 V9 hm9 hg9 hb9; have hbe9 := hbe8.trans (grown_below hg9 (fun g e => (hm8.block e).1) hVs2); clear hg9 hb9 hm8 hbe8 hr8 hVs2)
      go_roundw
      case rel => exact ⟨z + 1, A9, c9, by omega, rfl, by rw [List.replicate_succ', ← List.append_assoc]; exact hm9, hbe9⟩
      case measure => simp; omega
    case neg =>
      obtain rfl : z = z0 := by omega
      have hne : (((n : Int) + 1 + z) % 64 != 56) = false := by simp; omega
      have HZZ := Lib.hid hzz
      have hz64 : Hid ((n + 1 + z + 8) % 64 = 0) := Lib.hid (by omega)
      clear hzz
      go_wp2_with fail
      have HE : Hid (l ++ [128] ++ List.replicate z 0 = l ++ (128 :: List.replicate z 0)) := Lib.hid (by simp)
      rw [HE.out] at hm3 HL3
      have HD4 := Lib.hid HL3.out
      generalize hD4 : l ++ (128 :: List.replicate z 0) = D4 at *
      have HD4E := Lib.hid hD4
      clear hD4 HL3 HE hne hz hzn
      go_loopw [5, 3] (fun i v wr => RelV w D4 (n + 1 + z) n i v wr) (fun i _ _ => (intOf i + 8).toNat)
      case atStart => exact ⟨0, A3, c3, Nat.zero_le _, rfl, rfl, by simpa [cntL] using hm3, hbe3⟩
      case round =>
        clear hm3 hbe3
        obtain ⟨j, A5, c5, hj, rfl, rfl, hm5, hbe5⟩ := hrel
        obtain ⟨V5, hV5⟩ : ∃ V, V = wr := ⟨_, rfl⟩
        subst hV5
        have HL5 : Hid ((D4 ++ cntL n j).length = n + 1 + z + j) := Lib.hid (by rw [List.length_append, HD4.out, cntL_length])
        by_cases hj8 : j < 8
        case pos =>
          obtain ⟨sh, hsh⟩ : ∃ sh : Nat, sh = 56 - 8 * j := ⟨_, rfl⟩
          have hsI : (56 : Int) - 8 * (j : Int) = (sh : Int) := by omega
          have hs56 : sh ≤ 56 := by omega
          have hsI0 : (0 : Int) ≤ (sh : Int) := by omega
          have HCJ : Hid (cnt8 n j = 8 * n / 2 ^ sh % 256) := Lib.hid (by rw [hsh]; rfl)
          have HSH := Lib.hid hsh
          rw [hsI]
          clear hsh
          have HCX : Hid (((cnt8 n j : Nat) : Int) = (n : Int) * 8 / 2 ^ sh % 256) := Lib.hid (by rw [HCJ.out, Nat.mul_comm]; push_cast; rfl)
          have hm8 : Mine 5 (V5.alloc (.cells #[Value.int .u8 ((n : Int) * 8 / 2 ^ sh % 256)] 5)) w.heap.size A5 c5 (D4 ++ cntL n j) := hm5.alloc _
          have hr8 : Rd .u8 (V5.alloc (.cells #[Value.int .u8 ((n : Int) * 8 / 2 ^ sh % 256)] 5)) (V5.heap.size + 1) (some ⟨V5.heap.size, 0, none⟩) 1 [cnt8 n j] := by rw [← HCX.out]; exact rd_one V5 _ (cnt8 n j)
          have hbe8 := hbe5.alloc hbe5.size (.cells #[Value.int .u8 ((n : Int) * 8 / 2 ^ sh % 256)] 5)
          have hVs2 : w.heap.size ≤ (V5.alloc (.cells #[Value.int .u8 ((n : Int) * 8 / 2 ^ sh % 256)] 5)).heap.size := hbe8.size
          have hone1 : [cnt8 n j].length = 1 := rfl
          clear hm5 hbe5
          go_wp2_with (refine wpList_mine _ rfl (.tmp 29) (.tmp 35) 29 rfl 5 rfl rfl rfl hm8 HL5.out rfl hr8 hone1 (by omega) (by omega) ?_; intro A9 c9 V9 hm9 hg9 hb9; have hbe9 := hbe8.trans (grown_below hg9 (fun g e => (hm8.block e).1) hVs2); clear hg9 hb9 hm8 hbe8 hr8 hVs2)
          go_roundw
          case rel => exact ⟨j + 1, A9, c9, by omega, by have := HSH.out; congr 1; omega, rfl, by rw [cntL, ← List.append_assoc]; exact hm9, hbe9⟩
          case measure => have := HSH.out; simp [intOf]; omega
        case neg =>
          have hj8' : j = 8 := by omega
          rw [show (56 : Int) - 8 * (j : Int) = -8 by omega]
          rw [hj8'] at HL5 hm5 ⊢
          clear hj8' hj8 hj
          have HPE : Hid (D4 ++ cntL n 8 = padded l) := Lib.hid (by unfold padded; rw [← HD4E.out, HN.out, show zeros n = z from HZZ.out.symm])
          rw [HPE.out] at hm5 HL5
          obtain ⟨m5, hm5e⟩ : ∃ m5, m5 = n + 1 + z + 8 := ⟨_, rfl⟩
          have hm5l : m5 ≤ 100200 := by omega
          rw [← hm5e] at HL5 hz64 ⊢
          clear hm5e
          go_wp2_with fail
          have hmA : Mine 5 (V5.alloc (.cells #[.int .u32 1779033703, .int .u32 3144134277, .int .u32 1013904242, .int .u32 2773480762, .int .u32 1359893119, .int .u32 2600822924, .int .u32 528734635, .int .u32 1541459225] 57)) w.heap.size A5 c5 (padded l) := hm5.alloc _
          have hrA : Row .u32 57 (V5.alloc (.cells #[.int .u32 1779033703, .int .u32 3144134277, .int .u32 1013904242, .int .u32 2773480762, .int .u32 1359893119, .int .u32 2600822924, .int .u32 528734635, .int .u32 1541459225] 57)) V5.heap.size H0.list := Holds.fresh _ _ _
          have hbA := hbe5.alloc hbe5.size (.cells #[.int .u32 1779033703, .int .u32 3144134277, .int .u32 1013904242, .int .u32 2773480762, .int .u32 1359893119, .int .u32 2600822924, .int .u32 528734635, .int .u32 1541459225] 57)
          have hltA : ∀ g', blk_of A5 = some g' → g' < V5.heap.size := fun g' hg' => (hm5.block hg').2
          have HG := Lib.hid hbe5.size
          have HOP : Hid (Oct6 (padded l)) := Lib.hid (by unfold padded; exact oct_app (oct_app HO.out (oct_zeros _)) (oct_cnt _ 8))
          clear hm5 hbe5
          generalize V5.alloc (.cells #[.int .u32 1779033703, .int .u32 3144134277, .int .u32 1013904242, .int .u32 2773480762, .int .u32 1359893119, .int .u32 2600822924, .int .u32 528734635, .int .u32 1541459225] 57) = W5 at *
          generalize V5.heap.size = g0 at *
          go_loopw [3] (fun v wr => RelQ6 w g0 (padded l) m5 v wr) (fun v _ => match v with | .slice _ m _ => m | _ => 0)
          case atStart => exact ⟨0, m5, A5, c5, Lib.hid (by omega), rfl, hmA, hltA, hrA, hbA⟩
          case round =>
            clear hmA hltA hrA hbA
            obtain ⟨q, k, A6, c6, HQ, rfl, hmine, hlt, hrow, hbel⟩ := hrel
            obtain ⟨V6, hV6⟩ : ∃ V, V = wr := ⟨_, rfl⟩
            subst hV6
            have hlc := hmine.le
            have hdl : ((padded l).drop (64 * q)).length = k := by rw [List.length_drop, HL5.out]; have := HQ.out; omega
            rw [hdl] at hlc
            have hkc := hlc.1
            have hc63' := hlc.2
            by_cases hqn : 0 < k
            case pos =>
              have hk64 : 64 ≤ k := by have := HQ.out; have := hz64.out; omega
              have hkI : (0 : Int) < (k : Int) := by omega
              obtain ⟨g, off, rfl, hdrop⟩ := hmine.drop (n := 64) (by omega) (by omega)
              have hok := chain_ok h0_ok (padded l) q
              have HN1 : Hid (chain H0 (padded l) (q + 1) = blk (chain H0 (padded l) q) (((padded l).drop (64 * q)).take 64)) := Lib.hid rfl
              have HO2 := Lib.hid (oct_take (oct_drop HOP.out (64 * q)) 64)
              have HTL : Hid ((((padded l).drop (64 * q)).take 64).length = 64) := Lib.hid (by rw [List.length_take, hdl]; omega)
              have HDD : Hid (((padded l).drop (64 * q)).drop 64 = (padded l).drop (64 * (q + 1))) := Lib.hid (by rw [List.drop_drop]; congr 1)
              have hrd64 := hmine.take 64
              have hsl : ∀ W, (Instr.slice 29 (.slice (some ⟨g, off, none⟩) k c6) (some (.int .i64 64)) none none).run Try.prog W = .ok (.slice (some ⟨g, if c6 = 64 then off else off + 64, none⟩) (k - 64) (c6 - 64)) W := slice_from g off k c6 hk64 hkc
              generalize chain H0 (padded l) q = S at *
              have c0 : V6.cell? ⟨g0, 0, none⟩ = some (.int .u32 (S.a : Int)) := hrow.cell (i := 0) (by show 0 < 8; omega)
              have c1 : V6.cell? ⟨g0, 1, none⟩ = some (.int .u32 (S.b : Int)) := hrow.cell (i := 1) (by show 1 < 8; omega)
              have c2 : V6.cell? ⟨g0, 2, none⟩ = some (.int .u32 (S.c : Int)) := hrow.cell (i := 2) (by show 2 < 8; omega)
              have c3 : V6.cell? ⟨g0, 3, none⟩ = some (.int .u32 (S.d : Int)) := hrow.cell (i := 3) (by show 3 < 8; omega)
              have c4 : V6.cell? ⟨g0, 4, none⟩ = some (.int .u32 (S.e : Int)) := hrow.cell (i := 4) (by show 4 < 8; omega)
              have c5_ : V6.cell? ⟨g0, 5, none⟩ = some (.int .u32 (S.f : Int)) := hrow.cell (i := 5) (by show 5 < 8; omega)
              have c6_ : V6.cell? ⟨g0, 6, none⟩ = some (.int .u32 (S.g : Int)) := hrow.cell (i := 6) (by show 6 < 8; omega)
              have c7 : V6.cell? ⟨g0, 7, none⟩ = some (.int .u32 (S.h : Int)) := hrow.cell (i := 7) (by show 7 < 8; omega)
              have hcI : (64 : Int) ≤ (c6 : Int) := by omega
              have hcN : 64 ≤ c6 := by omega
              clear hdl
              go_wp2_with fail
              go_still_tail 3, (by kernel_rfl)
              change wpList _ _ _ _ _ V6.drew
              have hrow1 : Row .u32 57 V6.drew g0 S.list := hrow
              have hmine1 : Mine 5 V6.drew w.heap.size (some ⟨g, if c6 = 64 then off else off + 64, none⟩) (c6 - 64) (((padded l).drop (64 * q)).drop 64) := hdrop
              have hrd1 : Rd .u8 V6.drew V6.drew.heap.size (some ⟨g, off, none⟩) c6 (((padded l).drop (64 * q)).take 64) := hrd64
              have hbel1 : Below w.heap.size w V6.drew := hbel.drew
              clear hrow hdrop hrd64 hbel hmine c0 c1 c2 c3 c4 c5_ c6_ c7
              generalize V6.drew = V7 at *
              have HC := Lib.hid (block'_any V7 S hok _ _ c6 64 _ HTL.out hrd1 (Nat.le_refl _) HO2.out)
              rw [nums_list] at HC
              go_wp2_with fail
              refine HC.out.mono ?_
              rintro e V8 ⟨rfl, hb2⟩
              have hg0 : g < g0 := hlt g rfl
              have hrow2 := Holds.under hrow1 hb2 (Holds.lt hrow1)
              have hmine2 := hmine1.under hb2
              have hbel2 := hbel1.trans (hb2.mono hbel1.size)
              rw [← HN1.out]
              clear HC hrow1 hmine1 hrd1 hbel1 hb2 HN1
              have hi := st_info (chain H0 (padded l) (q + 1))
              have hone := nums_one .u32 (chain H0 (padded l) (q + 1)).list
              have hsz8 : (nums .u32 S.list).size = (nums .u32 (chain H0 (padded l) (q + 1)).list).size := by rw [size8, size8]
              have HR3 := Lib.hid (setRow_heap V8 g0 _ (nums .u32 (chain H0 (padded l) (q + 1)).list) 57 (0, 0) hrow2)
              have HM3 := Lib.hid (hmine2.setRow (g := g0) (by intro e; injection e with e; change g = _ at e; omega) (nums .u32 (chain H0 (padded l) (q + 1)).list))
              have HB3 := Lib.hid (below_setRow hbel2 HG.out (nums .u32 (chain H0 (padded l) (q + 1)).list))
              generalize hS2 : chain H0 (padded l) (q + 1) = S2 at *
              go_wp2_with (refine wpList_store_row rfl 57 (.tmp 6) (.tmp 44) rfl g0 (nums .u32 S2.list) rfl rfl 57 (nums .u32 S.list) hrow2 hi hsz8 hone ?_)
              generalize V8.setRow g0 (nums .u32 S2.list) = V9 at *
              go_roundw
              case rel => exact ⟨q + 1, k - 64, _, _, Lib.hid (by have := HQ.out; omega), rfl, by rw [← HDD.out]; exact HM3.out, fun g' hg' => hlt g' hg', by rw [hS2]; exact HR3.out, HB3.out⟩
              case measure => simp; omega
            case neg =>
              obtain rfl : k = 0 := by omega
              have HDG : Hid (digest l = outL (chain H0 (padded l) q) 8) := Lib.hid (by
                unfold digest
                rw [HL5.out, show m5 / 64 = q by have := HQ.out; omega])
              have HSO := Lib.hid (chain_ok h0_ok (padded l) q)
              clear hmine hdl
              generalize chain H0 (padded l) q = S7 at *
              go_wp2_with fail
              go_loopw [8, 7] (fun i v wr => RelES w g0 S7 i v wr) (fun i _ _ => 8 - (intOf i).toNat)
              case atStart => exact ⟨0, none, 0, Nat.zero_le _, rfl, rfl, Mine.nil _ _ _, hrow, hbel⟩
              case round =>
                clear hrow hbel
                obtain ⟨r, A8, c8, hr8, rfl, rfl, hm8, hrow8, hbe8⟩ := hrel
                obtain ⟨V9, hV9⟩ : ∃ V, V = wr := ⟨_, rfl⟩
                subst hV9
                by_cases hq8 : r < 8
                case pos =>
                  have hqI : (r : Int) < 8 := by omega
                  have hq0 : (0 : Int) ≤ r := by omega
                  have hcx : V9.cell? ⟨g0, r, none⟩ = some (.int .u32 ((S7.list.getD r 0 : Nat) : Int)) := hrow8.cell (i := r) (by show r < 8; exact hq8)
                  have HOQ : Hid (outL S7 (r + 1) = outL S7 r ++ word4 (S7.list.getD r 0)) := Lib.hid rfl
                  have HLQ := Lib.hid (outL_length S7 r)
                  have hxx := st_lt HSO.out r
                  have hbig8 := Holds.lt hrow8
                  generalize S7.list.getD r 0 = x at *
                  have hxI : (x : Int) < 4294967296 := by omega
                  go_wp2_with fail
                  have hmA : Mine 5 (V9.drew.alloc (.cells #[Value.int .u8 (IntKind.u8.wrap ((x : Int) / 16777216)), Value.int .u8 (IntKind.u8.wrap ((x : Int) / 65536)), Value.int .u8 (IntKind.u8.wrap ((x : Int) / 256)), Value.int .u8 (IntKind.u8.wrap (x : Int))] 5)) (g0 + 1) A8 c8 (outL S7 r) := Mine.alloc (w := V9.drew) hm8 _
                  have hrA : Rd .u8 (V9.drew.alloc (.cells #[Value.int .u8 (IntKind.u8.wrap ((x : Int) / 16777216)), Value.int .u8 (IntKind.u8.wrap ((x : Int) / 65536)), Value.int .u8 (IntKind.u8.wrap ((x : Int) / 256)), Value.int .u8 (IntKind.u8.wrap (x : Int))] 5)) (V9.heap.size + 1) (some ⟨V9.heap.size, 0, none⟩) 4 (word4 x) := rd_wrap V9.drew _ x hxx
                  have hl4 : (word4 x).length = 4 := rfl
                  have hbeA := hbe8.drew.alloc hbe8.size (.cells #[Value.int .u8 (IntKind.u8.wrap ((x : Int) / 16777216)), Value.int .u8 (IntKind.u8.wrap ((x : Int) / 65536)), Value.int .u8 (IntKind.u8.wrap ((x : Int) / 256)), Value.int .u8 (IntKind.u8.wrap (x : Int))] 5)
                  have hrowA : Row .u32 57 (V9.drew.alloc (.cells #[Value.int .u8 (IntKind.u8.wrap ((x : Int) / 16777216)), Value.int .u8 (IntKind.u8.wrap ((x : Int) / 65536)), Value.int .u8 (IntKind.u8.wrap ((x : Int) / 256)), Value.int .u8 (IntKind.u8.wrap (x : Int))] 5)) g0 S7.list := Holds.alloc (w := V9.drew) hrow8 _
                  have hVs2 : g0 + 1 ≤ (V9.drew.alloc (.cells #[Value.int .u8 (IntKind.u8.wrap ((x : Int) / 16777216)), Value.int .u8 (IntKind.u8.wrap ((x : Int) / 65536)), Value.int .u8 (IntKind.u8.wrap ((x : Int) / 256)), Value.int .u8 (IntKind.u8.wrap (x : Int))] 5)).heap.size := Nat.le_trans hbig8 (by simp)
                  have HMA := Lib.hid hmA
                  have HRA := Lib.hid hrA
                  have HBA := Lib.hid hbeA
                  have HWA := Lib.hid hrowA
                  have HVA := Lib.hid hVs2
                  have HL4 := Lib.hid hl4
                  have HW0 := Lib.hid hrow8
                  clear hm8 hbe8 hrow8 hmA hrA hl4 hbeA hrowA hVs2
                  have HXX := Lib.hid hxx; have HBG := Lib.hid hbig8
                  clear hxx hbig8 HDG HSO HOP HPE HD4E HD4 HL5 HZZ HD1 HN HO hz64 hm5l hc63 hnc hsz
                  have HCA : Hid (∀ o, (V9.drew.alloc o).cell? ⟨g0, r, none⟩ = some (.int .u32 (x : Int))) := Lib.hid fun o => (World.cell?_alloc_past _ g0 r (Holds.lt HW0.out)).trans hcx
                  have HCB : Hid (∀ o, (V9.alloc o).drew.cell? ⟨g0, r, none⟩ = some (.int .u32 (x : Int))) := Lib.hid fun o => (World.cell?_alloc_past (w := V9) _ g0 r (Holds.lt HW0.out)).trans hcx
                  have HCX := Lib.hid hcx
                  go_region_held3 (fun w' => w'.cell? ⟨g0, r, none⟩ = some (.int .u32 (x : Int))) (first | exact HCX.out | exact HCA.out _ | exact HCB.out _ | exact HCZ.out) ((refine step_mine (P := Try.prog) ((V9.alloc (.cells #[Value.int .u8 (IntKind.u8.wrap ((x : Int) / 16777216)), Value.int .u8 (IntKind.u8.wrap ((x : Int) / 65536)), Value.int .u8 (IntKind.u8.wrap ((x : Int) / 256)), Value.int .u8 (IntKind.u8.wrap (x : Int))] 5)).drew) ?_ (.tmp 51) (.tmp 71) 29 ?_ 5 ?_ rfl rfl ?_ HMA.out HLQ.out ?_ HRA.out HL4.out HVA.out (by omega) ?_; (focus rfl); (focus rfl); (focus rfl); (focus rfl); (focus rfl); intro A9 c9 V10 hm9 hg9; have hbb := HMA.out.grew hg9 HVA.out; have HM9 := Lib.hid hm9; have HW9 := Lib.hid (Holds.under HWA.out hbb (Nat.lt_succ_self _)); have HB9 := Lib.hid (HBA.out.trans (hbb.mono (Nat.le_succ_of_le HG.out))); have HCZ := Lib.hid ((hbb.cell (p := ⟨g0, r, none⟩) (Nat.lt_succ_self _)).trans (HCB.out _)); clear hg9 hbb hm9))
                  go_wp2_with fail
                  go_roundw
                  case rel => exact ⟨r + 1, A9, c9, by omega, by simp, by first | rfl | (congr 1; omega), by rw [HOQ.out]; exact HM9.out, HW9.out, HB9.out⟩
                  case measure => simp [intOf]; omega
                case neg =>
                  obtain rfl : r = 8 := by omega
                  go_wp2_with fail
                  exact bodyPost_ret (v := .slice A8 (4 * 8) c8) (by simp [results, Try.results15, go_sem]) rfl ⟨A8, c8, rfl, by rw [HDG.out]; exact hm8.rd, hbe8⟩
end Go.Proofs.Ytebhpjbjfbadjaa
