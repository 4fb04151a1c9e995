/-
  A digest: by the program.
-/
import Derived.Test.YtoggfooeeafadaaDoorSha9
namespace Go.Proofs.YtoggfooeeafadaaDoor
open Go.RowKit
set_option linter.unusedVariables false
attribute [local go_sem ↓] Go.wp_at_zero Go.wp_at_succ

set_option maxRecDepth 100000 in
set_option maxHeartbeats 1200000 in
theorem of_any (w : World) (B : Nat) (A : Option Addr) (c n : Nat) (rs : List Rw) (hn : rs.length = n) (hr : RdR w B A c rs) (hB : B ≤ w.heap.size) (ho : ∀ j, Oct6 (rs.getD j default).l) (hsz : (flat rs n).length ≤ 100000) (hk : KMet w) :
    Calls Tryd.prog 7 #[.slice A n c] w fun e w' => ∃ A' c', e = .returned (.slice A' 32 c') ∧ Mine 5 w' (w.heap.size + 1) A' c' (digest (flat rs n)) ∧ Below w.heap.size w w' := by
  have HN := Lib.hid hn
  have HO := Lib.hid ho
  have HK := Lib.hid hk
  have hlc := hr.1
  have hc63 := hr.2.1
  have hnc : n ≤ c := by omega
  have hbel : Below w.heap.size w (w.alloc (.cells #[.int .u32 1779033703, .int .u32 3144134277, .int .u32 1013904242, .int .u32 2773480762, .int .u32 1359893119, .int .u32 2600822924, .int .u32 528734635, .int .u32 1541459225] 28)) := (Below.refl _ _).alloc (Nat.le_refl _) _
  have hrow : Row .u32 28 (w.alloc (.cells #[.int .u32 1779033703, .int .u32 3144134277, .int .u32 1013904242, .int .u32 2773480762, .int .u32 1359893119, .int .u32 2600822924, .int .u32 528734635, .int .u32 1541459225] 28)) w.heap.size H0.list := Holds.fresh _ _ _
  have hrr := hr.under (hbel.mono hB)
  clear hn ho hk hr hlc
  go_enter Tryd.func7, Tryd.ntmps7
  go_wp2_with fail
  generalize w.alloc _ = W at *
  go_loopw [4, 5, 15] (fun cnt v i wr => RelA rs w B A c n cnt v i wr) (fun _ _ i _ => n - (intOf i).toNat)
  case atStart => exact ⟨0, none, 0, Nat.zero_le _, rfl, rfl, rfl, by simpa [flat] using Mine.nil 5 W (w.heap.size + 1), by simpa [flat, chain] using hrow, hrr, hbel⟩
  case round =>
    clear hrow hrr hbel
    obtain ⟨k, A', c', hk, rfl, rfl, rfl, hmine, hrow, hrr, hbel⟩ := hrel
    obtain ⟨V, hV⟩ : ∃ V, V = wr := ⟨_, rfl⟩
    subst hV
    by_cases hkn : k < n
    case pos =>
      obtain ⟨b, off, rfl, hb, hcell⟩ := hrr.2.2.2 (by have := HN.out; omega)
      have hcx := hcell k (by have := HN.out; omega)
      have hrd := hrr.2.2.1 k (by have := HN.out; omega)
      have HF : Hid (flat rs (k + 1) = flat rs k ++ (rs.getD k default).l) := Lib.hid rfl
      have hmono : (flat rs (k + 1)).length ≤ 100000 := Nat.le_trans (flat_mono rs hkn) hsz
      have hOM := Lib.hid (flat_oct rs HO.out k)
      have hOR := Lib.hid (HO.out k)
      rw [HF.out, List.length_append] at hmono
      generalize rs.getD k default = r at *
      obtain ⟨ra, rc, rl⟩ := r
      obtain ⟨m, hm⟩ : ∃ m, m = rl.length := ⟨_, rfl⟩
      obtain ⟨N, hN⟩ : ∃ N, N = (flat rs k).length := ⟨_, rfl⟩
      generalize hM : flat rs k = M at *
      have HLEN := Lib.hid (show (M.drop (64 * (N / 64))).length = N % 64 by rw [List.length_drop, ← hN]; omega)
      have HCM := Lib.hid (chain_more H0 M rl)
      dsimp only at hcx hrd
      rw [← hm] at hcx hmono
      have HNN := Lib.hid hN
      rw [← hN] at hmine hrow hmono ⊢
      have hk0 : (0 : Int) ≤ (k : Int) := by omega
      have hkI : (k : Int) < (n : Int) := by omega
      have HM := Lib.hid hm
      have HFM := Lib.hid hM
      have hNm : N % 64 < 64 := Nat.mod_lt _ (by omega)
      have hVs := Holds.lt hrow
      clear hcell hm hN hM
      have hVs1 : w.heap.size + 1 ≤ V.heap.size := hVs
      have hi := st_info (chain H0 M (N / 64))
      have HOKc := Lib.hid (chain_ok h0_ok M (N / 64))
      have HC3 := Lib.hid (show (flat rs (k + 1)).length = N + m by rw [HF.out, List.length_append, ← HNN.out, ← HM.out])
      have HC1 : Hid (chain (chain H0 M (N / 64)) (M.drop (64 * (N / 64)) ++ rl) ((N % 64 + m) / 64) = chain H0 (flat rs (k + 1)) ((flat rs (k + 1)).length / 64)) := Lib.hid (by rw [HF.out, HNN.out, HM.out]; exact HCM.out.1)
      have HC2 : Hid ((M.drop (64 * (N / 64)) ++ rl).drop (64 * ((N % 64 + m) / 64)) = (flat rs (k + 1)).drop (64 * ((flat rs (k + 1)).length / 64))) := Lib.hid (by rw [HF.out, HNN.out, HM.out]; exact HCM.out.2)
      have HL2 : Hid ((M.drop (64 * (N / 64)) ++ rl).length = N % 64 + m) := Lib.hid (by rw [List.length_append, HLEN.out, ← HM.out])
      have HO2 : Hid (Oct6 (M.drop (64 * (N / 64)) ++ rl)) := Lib.hid (oct_app (oct_drop hOM.out _) hOR.out)
      clear HCM
      generalize chain H0 M (N / 64) = S at *
      go_wp2_with (first
        | (refine wpList_mine _ rfl (.tmp 25) (.tmp 26) 22 rfl 5 rfl rfl rfl hmine HLEN.out rfl hrd HM.out.symm (by omega) (by omega) ?_; intro A2 c2 V2 hm2 hg2 hb2; have hbb := hmine.grew hg2 hVs1; have hrow2 := Holds.under hrow hbb (Nat.lt_succ_self _); have hbe2 := hbel.trans (hbb.mono (Nat.le_succ _)); have hrr2 := hrr.under (hbb.mono (Nat.le_succ_of_le hB)); clear hg2 hb2 hbb)
        | (refine wpList_load_row rfl 28 (.tmp 3) rfl (w.heap.size) rfl 28 (nums .u32 S.list) (0, 0) _ hrow2 Tryd.underlying28 rfl hi ?_))
      refine (whole_any V2 S HOKc.out (w.heap.size + 1) A2 c2 (N % 64 + m) _ HL2.out hm2 HO2.out (HK.out.under hbe2)).mono ?_
      rintro e V3 ⟨A3, c3, rfl, hm3, hb3⟩
      rw [HC2.out] at hm3
      have hrow3 := Holds.under hrow2 hb3 (Holds.lt hrow2)
      have hrr3 := hrr2.under (hb3.mono (Nat.le_trans hB hbe2.size))
      have hbe3 := hbe2.trans (hb3.mono hbe2.size)
      rw [HC1.out]
      clear hrow2 hrr2 hbe2 hb3 hm2 hrow hrr hbel hmine HC1 HC2
      have hi2 := st_info (chain H0 (flat rs (k + 1)) ((flat rs (k + 1)).length / 64))
      have hone := nums_one .u32 (chain H0 (flat rs (k + 1)) ((flat rs (k + 1)).length / 64)).list
      have hsz2 : (nums .u32 S.list).size = (nums .u32 (chain H0 (flat rs (k + 1)) ((flat rs (k + 1)).length / 64)).list).size := by rw [size8, size8]
      have HR4 := Lib.hid (setRow_heap V3 w.heap.size _ (nums .u32 (chain H0 (flat rs (k + 1)) ((flat rs (k + 1)).length / 64)).list) 28 (0, 0) hrow3)
      have HM4 := Lib.hid (hm3.setRow (g := w.heap.size) (fun e => by have := (hm3.block e).1; omega) (nums .u32 (chain H0 (flat rs (k + 1)) ((flat rs (k + 1)).length / 64)).list))
      have HB4 := Lib.hid (below_setRow hbe3 (Nat.le_refl _) (nums .u32 (chain H0 (flat rs (k + 1)) ((flat rs (k + 1)).length / 64)).list))
      have hbs : Below B V3 (V3.setRow w.heap.size (nums .u32 (chain H0 (flat rs (k + 1)) ((flat rs (k + 1)).length / 64)).list)) := below_setRow (Below.refl B V3) hB _
      have HRR4 := Lib.hid (hrr3.under hbs)
      clear hbs hm3 hrr3 hbe3
      generalize hS2 : chain H0 (flat rs (k + 1)) ((flat rs (k + 1)).length / 64) = S2 at *
      have HS2 := Lib.hid hS2
      clear hS2
      go_wp2_with (refine wpList_store_row rfl 28 (.tmp 3) (.tmp 32) rfl (w.heap.size) (nums .u32 S2.list) rfl rfl 28 (nums .u32 S.list) hrow3 hi2 hsz2 hone ?_)
      generalize V3.setRow w.heap.size (nums .u32 S2.list) = V4 at *
      go_roundw
      case rel => exact ⟨k + 1, A3, c3, by omega, by simp, by rw [HC3.out]; congr 1; push_cast; omega, by rw [HC3.out], HM4.out, by rw [HS2.out]; exact HR4.out, HRR4.out, HB4.out⟩
      case measure => simp [intOf]; omega
    case neg =>
      obtain rfl : k = n := by omega
      obtain ⟨N, hN⟩ : ∃ N, N = (flat rs k).length := ⟨_, rfl⟩
      obtain ⟨M, hM⟩ : ∃ M, M = flat rs k := ⟨_, rfl⟩
      rw [← hM] at hN hmine hrow hsz ⊢
      rw [← hN] at hmine hrow hsz ⊢
      have hMM := Lib.hid hM
      have HO1 : Hid (Oct6 M) := Lib.hid (hM ▸ flat_oct rs HO.out k)
      have HNN := Lib.hid hN
      have HLEN := Lib.hid (show (M.drop (64 * (N / 64))).length = N % 64 by rw [List.length_drop, ← hN]; omega)
      have hkk : decide ((k : Int) < (k : Int)) = false := decide_eq_false (by omega)
      have hNm : N % 64 < 64 := Nat.mod_lt _ (by omega)
      have hVs := Holds.lt hrow
      have hVs1 : w.heap.size + 1 ≤ V.heap.size := hVs
      clear hM hN hrr
      have hm1 : Mine 5 (V.alloc (.cells #[Value.int .u8 128] 5)) (w.heap.size + 1) A' c' (M.drop (64 * (N / 64))) := hmine.alloc _
      have hr1 : Rd .u8 (V.alloc (.cells #[Value.int .u8 128] 5)) (V.heap.size + 1) (some ⟨V.heap.size, 0, none⟩) 1 [128] := rd_one V _ 128
      have hrow1 : Row .u32 28 (V.alloc (.cells #[Value.int .u8 128] 5)) w.heap.size (chain H0 M (N / 64)).list := Holds.alloc hrow _
      have hbel1 := hbel.alloc (Nat.le_trans (Nat.le_succ _) hVs1) (.cells #[Value.int .u8 128] 5)
      have hVs2 : w.heap.size + 1 ≤ (V.alloc (.cells #[Value.int .u8 128] 5)).heap.size := Nat.le_trans hVs1 (by simp)
      have hone1 : [128].length = 1 := rfl
      have hCO := Lib.hid (chain_ok h0_ok M (N / 64))
      clear hmine hrow hbel
      go_wp2_with (refine wpList_mine _ rfl (.tmp 35) (.tmp 36) 22 rfl 5 rfl rfl rfl hm1 HLEN.out rfl hr1 hone1 (by omega) (by omega) ?_; intro A2 c2 V2 hm2 hg2 hb2; have hbb := hm1.grew hg2 hVs2; have hrow2 := Holds.under hrow1 hbb (Nat.lt_succ_self _); have hbe2 := hbel1.trans (hbb.mono (Nat.le_succ _)); clear hg2 hb2 hbb hm1 hrow1 hbel1 hr1 hVs1 hVs2 hVs)
      have HD1 : Hid ((M.drop (64 * (N / 64)) ++ [128]).length = N % 64 + 1) := Lib.hid (by rw [List.length_append, HLEN.out]; rfl)
      go_loopw [5] (fun v wr => RelZ w (chain H0 M (N / 64)) (M.drop (64 * (N / 64)) ++ [128]) (N % 64 + 1) (zeros N) v wr) (fun v _ => match v with | .slice _ m _ => 200 - m | _ => 0)
      case atStart => exact ⟨0, A2, c2, Nat.zero_le _, rfl, by simpa using hm2, hrow2, hbe2⟩
      case round =>
        clear hm2 hrow2 hbe2
        obtain ⟨z, A3, c3, hz, rfl, hm3, hrow3, hbe3⟩ := hrel
        obtain ⟨V3, hV3⟩ : ∃ V, V = wr := ⟨_, rfl⟩
        subst hV3
        have hzz : zeros N = (119 - N % 64) % 64 := rfl
        have HL3 : Hid ((M.drop (64 * (N / 64)) ++ [128] ++ List.replicate z 0).length = N % 64 + 1 + z) := Lib.hid (by rw [List.length_append, HD1.out, List.length_replicate])
        generalize zeros N = z0 at *
        by_cases hzn : z < z0
        case pos =>
          have hne : (((N : Int) % 64 + 1 + z) % 64 != 56) = true := by simp; omega
          have hVs1 : w.heap.size + 1 ≤ V3.heap.size := Holds.lt hrow3
          have hm8 : Mine 5 (V3.alloc (.cells #[Value.int .u8 0] 5)) (w.heap.size + 1) A3 c3 (M.drop (64 * (N / 64)) ++ [128] ++ List.replicate z 0) := hm3.alloc _
          have hr8 : Rd .u8 (V3.alloc (.cells #[Value.int .u8 0] 5)) (V3.heap.size + 1) (some ⟨V3.heap.size, 0, none⟩) 1 [0] := rd_one V3 _ 0
          have hrow8 : Row .u32 28 (V3.alloc (.cells #[Value.int .u8 0] 5)) w.heap.size (chain H0 M (N / 64)).list := Holds.alloc hrow3 _
          have hbe8 := hbe3.alloc (Nat.le_trans (Nat.le_succ _) hVs1) (.cells #[Value.int .u8 0] 5)
          have hVs2 : w.heap.size + 1 ≤ (V3.alloc (.cells #[Value.int .u8 0] 5)).heap.size := Nat.le_trans hVs1 (by simp)
          have hone1 : [0].length = 1 := rfl
          clear hm3 hrow3 hbe3
          go_wp2_with (refine wpList_mine _ rfl (.tmp 42) (.tmp 43) 22 rfl 5 rfl rfl rfl hm8 HL3.out rfl hr8 hone1 (by omega) (by omega) ?_; intro A9 c9 V9 hm9 hg9 hb9; have hbb := hm8.grew hg9 hVs2; have hrow9 := Holds.under hrow8 hbb (Nat.lt_succ_self _); have hbe9 := hbe8.trans (hbb.mono (Nat.le_succ _)); clear hg9 hb9 hbb hm8 hrow8 hbe8 hr8 hVs2)
          go_roundw
          case rel => exact ⟨z + 1, A9, c9, by omega, rfl, by rw [List.replicate_succ', ← List.append_assoc]; exact hm9, hrow9, hbe9⟩
          case measure => simp; omega
        case neg =>
          obtain rfl : z = z0 := by omega
          have hne : (((N : Int) % 64 + 1 + z) % 64 != 56) = false := by simp; omega
          have HZZ := Lib.hid hzz
          have hzl : z ≤ 63 := by omega
          have hz64 : Hid ((N % 64 + 1 + z + 8) % 64 = 0) := Lib.hid (by omega)
          clear hzz
          have HE : Hid (M.drop (64 * (N / 64)) ++ [128] ++ List.replicate z 0 = M.drop (64 * (N / 64)) ++ (128 :: List.replicate z 0)) := Lib.hid (by simp)
          rw [HE.out] at hm3 HL3
          go_wp2_with fail
          have HD4 : Hid ((M.drop (64 * (N / 64)) ++ (128 :: List.replicate z 0)).length = N % 64 + 1 + z) := Lib.hid HL3.out
          generalize hD4 : M.drop (64 * (N / 64)) ++ (128 :: List.replicate z 0) = D4 at *
          have HD4E := Lib.hid hD4
          clear hD4 HL3 HD1 HE hne hz hzn
          go_loopw [8, 5] (fun i v wr => RelC w (chain H0 M (N / 64)) D4 (N % 64 + 1 + z) N i v wr) (fun i _ _ => (intOf i + 8).toNat)
          case atStart => exact ⟨0, A3, c3, Nat.zero_le _, rfl, rfl, by simpa [cntL] using hm3, hrow3, hbe3⟩
          case round =>
            clear hm3 hrow3 hbe3
            obtain ⟨j, A5, c5, hj, rfl, rfl, hm5, hrow5, hbe5⟩ := hrel
            obtain ⟨V5, hV5⟩ : ∃ V, V = wr := ⟨_, rfl⟩
            subst hV5
            have HL5 : Hid ((D4 ++ cntL N j).length = N % 64 + 1 + z + j) := Lib.hid (by rw [List.length_append, HD4.out, cntL_length])
            have hVs1 : w.heap.size + 1 ≤ V5.heap.size := Holds.lt hrow5
            by_cases hj8 : j < 8
            case pos =>
              obtain ⟨sh, hsh⟩ : ∃ sh : Nat, sh = 56 - 8 * j := ⟨_, rfl⟩
              have hsI : (56 : Int) - 8 * (j : Int) = (sh : Int) := by omega
              have hs56 : sh ≤ 56 := by omega
              have hsI0 : (0 : Int) ≤ (sh : Int) := by omega
              have HCJ : Hid (cnt8 N j = 8 * N / 2 ^ sh % 256) := Lib.hid (by rw [hsh]; rfl)
              have HSH := Lib.hid hsh
              rw [hsI]
              clear hsh
              have HCX : Hid (((cnt8 N j : Nat) : Int) = 8 * (N : Int) / 2 ^ sh % 256) := Lib.hid (by rw [HCJ.out]; push_cast; rfl)
              have hm8 : Mine 5 (V5.alloc (.cells #[Value.int .u8 (8 * (N : Int) / 2 ^ sh % 256)] 5)) (w.heap.size + 1) A5 c5 (D4 ++ cntL N j) := hm5.alloc _
              have hr8 : Rd .u8 (V5.alloc (.cells #[Value.int .u8 (8 * (N : Int) / 2 ^ sh % 256)] 5)) (V5.heap.size + 1) (some ⟨V5.heap.size, 0, none⟩) 1 [cnt8 N j] := by rw [← HCX.out]; exact rd_one V5 _ (cnt8 N j)
              have hrow8 : Row .u32 28 (V5.alloc (.cells #[Value.int .u8 (8 * (N : Int) / 2 ^ sh % 256)] 5)) w.heap.size (chain H0 M (N / 64)).list := Holds.alloc hrow5 _
              have hbe8 := hbe5.alloc (Nat.le_trans (Nat.le_succ _) hVs1) (.cells #[Value.int .u8 (8 * (N : Int) / 2 ^ sh % 256)] 5)
              have hVs2 : w.heap.size + 1 ≤ (V5.alloc (.cells #[Value.int .u8 (8 * (N : Int) / 2 ^ sh % 256)] 5)).heap.size := Nat.le_trans hVs1 (by simp)
              have hone1 : [cnt8 N j].length = 1 := rfl
              clear hm5 hrow5 hbe5
              go_wp2_with (refine wpList_mine _ rfl (.tmp 49) (.tmp 54) 22 rfl 5 rfl rfl rfl hm8 HL5.out rfl hr8 hone1 (by omega) (by omega) ?_; intro A9 c9 V9 hm9 hg9 hb9; have hbb := hm8.grew hg9 hVs2; have hrow9 := Holds.under hrow8 hbb (Nat.lt_succ_self _); have hbe9 := hbe8.trans (hbb.mono (Nat.le_succ _)); clear hg9 hb9 hbb hm8 hrow8 hbe8 hr8 hVs2)
              go_roundw
              case rel => exact ⟨j + 1, A9, c9, by omega, by have := HSH.out; congr 1; omega, rfl, by rw [cntL, ← List.append_assoc]; exact hm9, hrow9, hbe9⟩
              case measure => have := HSH.out; simp [intOf]; omega
            case neg =>
              have hj8' : j = 8 := by omega
              rw [show (56 : Int) - 8 * (j : Int) = -8 by omega]
              rw [hj8'] at HL5 hm5 ⊢
              clear hj8' hj8 hj
              have hi := st_info (chain H0 M (N / 64))
              have HPE : Hid (M ++ (128 :: List.replicate z 0 ++ cntL N 8) = padded M) := Lib.hid (by unfold padded; rw [List.append_assoc, ← HNN.out, show zeros N = z from HZZ.out.symm])
              have HDE : Hid (D4 ++ cntL N 8 = M.drop (64 * (M.length / 64)) ++ (128 :: List.replicate z 0 ++ cntL N 8)) := Lib.hid (by rw [← HD4E.out, ← HNN.out, List.append_assoc])
              have HPC : Hid (chain (chain H0 M (N / 64)) (D4 ++ cntL N 8) ((N % 64 + 1 + z + 8) / 64) = chain H0 (padded M) ((padded M).length / 64)) := Lib.hid (by
                have := (chain_more H0 M (128 :: List.replicate z 0 ++ cntL N 8)).1
                rw [HPE.out, ← HDE.out, ← HNN.out] at this
                rw [← this]
                congr 1
                rw [List.length_append, List.length_cons, List.length_replicate, cntL_length]
                omega)
              have HO5 : Hid (Oct6 (D4 ++ cntL N 8)) := Lib.hid (by rw [HDE.out, ← List.append_assoc]; exact oct_app (oct_app (oct_drop HO1.out _) (oct_zeros z)) (oct_cnt N 8))
              obtain ⟨m5, hm5e⟩ : ∃ m5, m5 = N % 64 + 1 + z + 8 := ⟨_, rfl⟩
              have hm5l : m5 ≤ 200 := by omega
              rw [← hm5e] at HL5 HPC hz64 ⊢
              clear hm5e
              go_wp2_with (refine wpList_load_row rfl 28 (.tmp 3) rfl (w.heap.size) rfl 28 (nums .u32 (chain H0 M (N / 64)).list) (0, 0) _ hrow5 Tryd.underlying28 rfl hi ?_)
              refine (whole_any V5 (chain H0 M (N / 64)) hCO.out (w.heap.size + 1) A5 c5 m5 _ HL5.out hm5 HO5.out (HK.out.under hbe5)).mono ?_
              rintro e V6 ⟨A6, c6, rfl, hm6, hb6⟩
              have hrow6 := Holds.under hrow5 hb6 (Holds.lt hrow5)
              have hbe6 := hbe5.trans (hb6.mono hbe5.size)
              rw [HPC.out]
              clear hrow5 hbe5 hb6 hm6 hm5 HPC
              have hi2 := st_info (chain H0 (padded M) ((padded M).length / 64))
              have hone := nums_one .u32 (chain H0 (padded M) ((padded M).length / 64)).list
              have hsz2 : (nums .u32 (chain H0 M (N / 64)).list).size = (nums .u32 (chain H0 (padded M) ((padded M).length / 64)).list).size := by rw [size8, size8]
              have HR7 := Lib.hid (setRow_heap V6 w.heap.size _ (nums .u32 (chain H0 (padded M) ((padded M).length / 64)).list) 28 (0, 0) hrow6)
              have HB7 := Lib.hid (below_setRow hbe6 (Nat.le_refl _) (nums .u32 (chain H0 (padded M) ((padded M).length / 64)).list))
              have HDG : Hid (digest M = outL (chain H0 (padded M) ((padded M).length / 64)) 8) := Lib.hid rfl
              have HSO := Lib.hid (chain_ok h0_ok (padded M) ((padded M).length / 64))
              generalize chain H0 (padded M) ((padded M).length / 64) = S7 at *
              go_wp2_with (first
                | (refine wpList_store_row rfl 28 (.tmp 3) (.tmp 60) rfl (w.heap.size) (nums .u32 S7.list) rfl rfl 28 (nums .u32 (chain H0 M (N / 64)).list) hrow6 hi2 hsz2 hone ?_; generalize V6.setRow w.heap.size (nums .u32 S7.list) = V7 at *; have hR7 := HR7.out)
                | (refine wpList_load_row rfl 28 (.tmp 3) rfl (w.heap.size) rfl 28 (nums .u32 S7.list) (0, 0) _ hR7 Tryd.underlying28 rfl hi2 ?_))
              have hVs7 : w.heap.size < V7.heap.size := Holds.lt hR7
              clear hR7 HR7 hrow6 hbe6 HL5 HD4 HO5 HDE HPE hi hi2 hone hsz2
              go_loopw [63, 9] (fun i v wr => RelO w S7 i v wr) (fun i _ _ => 8 - (intOf i).toNat)
              case atStart => exact ⟨0, none, 0, Nat.zero_le _, rfl, rfl, Mine.nil _ _ _, HB7.out, hVs7⟩
              case round =>
                clear HB7 hVs7
                obtain ⟨q, A8, c8, hq, rfl, rfl, hm8, hbe8, hbig8⟩ := hrel
                obtain ⟨V8, hV8⟩ : ∃ V, V = wr := ⟨_, rfl⟩
                subst hV8
                by_cases hq8 : q < 8
                case pos =>
                  have hqI : (q : Int) < 8 := by omega
                  have hq0 : (0 : Int) ≤ q := by omega
                  have hix := ix8_any S7 q hq8
                  have HOQ : Hid (outL S7 (q + 1) = outL S7 q ++ word4 (S7.list.getD q 0)) := Lib.hid rfl
                  have HLQ := Lib.hid (outL_length S7 q)
                  have hxx := st_lt HSO.out q
                  generalize S7.list.getD q 0 = x at *
                  have hxI : (x : Int) < 4294967296 := by omega
                  have hVs1 : w.heap.size + 1 ≤ V8.heap.size := hbig8
                  have hmA : Mine 5 (V8.alloc (.cells #[Value.int .u8 ((x : Int) / 16777216), Value.int .u8 ((x : Int) / 65536 % 256), Value.int .u8 ((x : Int) / 256 % 256), Value.int .u8 ((x : Int) % 256)] 5)) (w.heap.size + 1) A8 c8 (outL S7 q) := hm8.alloc _
                  have hrA : Rd .u8 (V8.alloc (.cells #[Value.int .u8 ((x : Int) / 16777216), Value.int .u8 ((x : Int) / 65536 % 256), Value.int .u8 ((x : Int) / 256 % 256), Value.int .u8 ((x : Int) % 256)] 5)) (V8.heap.size + 1) (some ⟨V8.heap.size, 0, none⟩) 4 (word4 x) := rd_word V8 _ x hxx
                  have hl4 : (word4 x).length = 4 := rfl
                  have hbeA := hbe8.alloc (Nat.le_of_lt hbig8) (.cells #[Value.int .u8 ((x : Int) / 16777216), Value.int .u8 ((x : Int) / 65536 % 256), Value.int .u8 ((x : Int) / 256 % 256), Value.int .u8 ((x : Int) % 256)] 5)
                  have hVs2 : w.heap.size + 1 ≤ (V8.alloc (.cells #[Value.int .u8 ((x : Int) / 16777216), Value.int .u8 ((x : Int) / 65536 % 256), Value.int .u8 ((x : Int) / 256 % 256), Value.int .u8 ((x : Int) % 256)] 5)).heap.size := Nat.le_trans hVs1 (by simp)
                  clear hm8 hbe8
                  go_wp2_with (refine wpList_mine _ rfl (.tmp 66) (.tmp 78) 22 rfl 5 rfl rfl rfl hmA HLQ.out rfl hrA hl4 (by omega) (by omega) ?_; intro A9 c9 V9 hm9 hg9 hb9; have hbb := hmA.grew hg9 hVs2; have hbig9 : w.heap.size < V9.heap.size := Nat.lt_of_lt_of_le hVs2 hbb.size; have hbe9 := hbeA.trans (hbb.mono (Nat.le_succ _)); clear hg9 hb9 hbb hmA hbeA hrA hVs2)
                  go_roundw
                  case rel => exact ⟨q + 1, A9, c9, by omega, by simp, rfl, by rw [HOQ.out]; exact hm9, hbe9, hbig9⟩
                  case measure => simp [intOf]; omega
                case neg =>
                  obtain rfl : q = 8 := by omega
                  go_wp2_with fail
                  exact bodyPost_ret (v := .slice A8 (4 * 8) c8) (by simp [results, Tryd.results7, go_sem]) rfl ⟨A8, c8, rfl, by rw [← hMM.out, HDG.out]; exact hm8, hbe8⟩
end Go.Proofs.YtoggfooeeafadaaDoor
