/-
  bytes.Repeat of one byte.
-/
import Derived.Test.YtebhpjbjfbadjaaRsa1
import Derived.Test.YtebhpjbjfbadjaaMul64
import Derived.Lib.MakeNoZero
import Derived.Laws.CopyOwn
import Derived.Deep.RegionLaw
import Derived.Deep.DrawnRows
namespace Go.Proofs.Ytebhpjbjfbadjaa
open Go.RowKit
set_option linter.unusedVariables false

theorem mul_one (w : World) (n : Nat) (h : n ≤ 100000) : Calls Try.prog 38 #[.int .u64 1, .int .u64 n] w fun e w' => e = .returned (.tuple #[.int .u64 0, .int .u64 n]) ∧ w' = w := by
  refine (mulU_any 1 n (by omega) (by omega) w).mono ?_
  rintro e w' ⟨rfl, rfl⟩
  refine ⟨?_, rfl⟩
  have e1 : 1 * n / 18446744073709551616 = 0 := by omega
  have e2 : 1 * n % 18446744073709551616 = n := by omega
  rw [e1, e2]
  rfl

theorem step_copy_own {P : Program} {w : World} {ops : Array Oper} {o : Oper} {a : Act} {K : Act → World → Prop} {Q : Exit → Act → World → Prop} {E : Prop} (hgd : o.guard = none) (d s : Operand) (dT sT : TypeId)
    (ho : o.op = .call { callee := .builtin .copy, args := #[d, s], argTypes := #[dT, sT] }) (elem : TypeId) (hu : P.underlying dT = some (.slice elem)) (hsz : (P.info? elem).map (·.size) = some 1)
    (g off dLen dCap : Nat) (ad : Addr) (sLen sCap : Nat) (hd : a.eval d = .slice (some ⟨g, off, none⟩) dLen dCap) (hs : a.eval s = .slice (some ad) sLen sCap)
    (cur : Array Value) (t : TypeId) (hg : w.heap[g]? = some (.cells cur t (0, 0))) (cs : List Value) (m : Nat) (hm : cs.length = m) (hn : m = Nat.min sLen dLen)
    (hsrc : ∀ j v, cs[j]? = some v → w.cell? (ad.add j) = some v) (hfit : off + m ≤ cur.size) (h1 : ∀ v ∈ cs, v.oneCell' = true)
    (h : K (a.put o.dst (goInt m)) (w.setRow g (cur.toList.take off ++ (cs ++ cur.toList.drop (off + m))).toArray)) : if Region.wanted o (yielded ops a.tmps) = true then Oper.wp P o a w K Q else E := by
  subst hm
  have hw : Region.wanted o (yielded ops a.tmps) = true := by simp [Region.wanted, hgd]
  rw [if_pos hw]
  have hrun := run_copy_row (P := P) w dT sT o.type elem g off dLen dCap ad sLen sCap cur t cs hu hsz hg hn hsrc hfit h1
  unfold Oper.wp
  simp [execOp, ho, resolve, invoke, builtin, hd, hs, hrun, Result.andThen]
  exact h

/-- A row of at least n cells, k of them 255. -/
def Full (w wr : World) (k n : Nat) : Prop :=
  ∃ cur : Array Value, wr.heap[w.heap.size]? = some (.cells cur 5 (0, 0)) ∧ n ≤ cur.size ∧ (∀ j, j < k → cur[j]? = some (.int .u8 255)) ∧ Below w.heap.size w wr
theorem Full.drewN {w wr : World} {k n : Nat} (h : Full w wr k n) (q : Nat) : Full w (wr.drewN q) k n := by
  obtain ⟨cur, h1, h2, h3, h4⟩ := h
  exact ⟨cur, h1, h2, h3, ⟨h4.os, h4.tape, h4.output, h4.size, h4.block⟩⟩
theorem Full.copied {w wr : World} {n : Nat} {cur : Array Value} {k m : Nat} (h1 : wr.heap[w.heap.size]? = some (.cells cur 5 (0, 0))) (h2 : n ≤ cur.size) (h3 : ∀ j, j < k → cur[j]? = some (.int .u8 255)) (h4 : Below w.heap.size w wr) (hkm : k + m ≤ n) :
    Full w (wr.setRow w.heap.size (cur.toList.take k ++ (List.replicate m (Value.int .u8 255) ++ cur.toList.drop (k + m))).toArray) (k + m) n := by
  refine ⟨_, setRow_heap _ _ _ _ _ _ h1, by simp; omega, fun j hj => ?_, below_setRow h4 (Nat.le_refl _) _⟩
  have hlen : (cur.toList.take k).length = k := by simp; omega
  simp only [List.getElem?_toArray]
  by_cases hjk : j < k
  · rw [List.getElem?_append_left (by omega), List.getElem?_take_of_lt hjk, Array.getElem?_toList]
    exact h3 j hjk
  · rw [List.getElem?_append_right (by omega), List.getElem?_append_left (by rw [List.length_replicate, hlen]; omega), hlen]
    rw [List.getElem?_replicate, if_pos (by omega)]
theorem Full.rd {w wr : World} {n : Nat} (h : Full w wr n n) (hn : n ≤ 100000) : Rd .u8 wr wr.heap.size (some ⟨w.heap.size, 0, none⟩) n (List.replicate n 255) := by
  obtain ⟨cur, h1, h2, h3, h4⟩ := h
  refine ⟨by simp, by omega, fun hp => ⟨w.heap.size, 0, rfl, (Array.getElem?_eq_some_iff.1 h1).1, fun j hj => ?_⟩⟩
  have hj' : j < n := by simpa using hj
  rw [Nat.zero_add, show (List.replicate n 255).getD j 0 = 255 by simp [List.getD, hj'], cell_of_row wr w.heap.size j cur 5 (0, 0) h1, h3 j hj']
  rfl
theorem sizeU8 : (Try.prog.info? 5).map (·.size) = some 1 := by kernel_rfl
def RelR (w : World) (n : Nat) (v : Value) (wr : World) : Prop := ∃ k : Nat, v = .int .i64 k ∧ 1 ≤ k ∧ k ≤ n ∧ Full w wr k n

set_option maxRecDepth 100000 in
set_option maxHeartbeats 600000 in
theorem repeat_one (w : World) (b n : Nat) (hn1 : 1 ≤ n) (hn : n ≤ 8192) (hc : w.cell? ⟨b, 0, none⟩ = some (.int .u8 255)) :
    Calls Try.prog 20 #[.slice (some ⟨b, 0, none⟩) 1 1, .int .i64 n] w fun e w' => e = .returned (.slice (some ⟨w.heap.size, 0, none⟩) n n) ∧ Rd .u8 w' w'.heap.size (some ⟨w.heap.size, 0, none⟩) n (List.replicate n 255) ∧ Below w.heap.size w w' := by
  obtain ⟨cs, hrunM, hle, hmax⟩ := Lib.run_makeNoZero (P := Try.prog) w #[3] 29 5 Try.underlying29 n (by omega)
  have hcall : (callFunc 39 #[.int .i64 (n : Int)]).run Try.prog w = .ok (.value (.slice (some ⟨w.heap.size, 0, none⟩) n cs.size)) ((w.alloc (.cells cs 5)).drewN 2) := by
    rw [run_callFunc_extern Try.func39 (by kernel_rfl) (by kernel_rfl) (by kernel_rfl) (e := Extern.BytealgMakeNoZero.makeNoZero #[3] #[29]) (by kernel_rfl), hrunM]
    rfl
  clear hrunM hmax
  have d0 : ((n : Int) == 0) = false := by simp; omega
  have d1 : decide ((n : Int) < 0) = false := decide_eq_false (by omega)
  have d2 : decide ((9223372036854775807 : Int) < (n : Int)) = false := decide_eq_false (by omega)
  have d3 : decide ((8192 : Int) < (n : Int)) = false := decide_eq_false (by omega)
  have w1 : IntKind.u64.wrap (n : Int) = (n : Int) := by rw [IntKind.wrap_u64]; omega
  have w2 : IntKind.i64.wrap (n : Int) = (n : Int) := IntWalk.i64_in _ (by omega)
  have i0 : (0 : Int) ≤ (n : Int) := by omega
  have i1 : (n : Int) ≤ (cs.size : Int) := by omega
  have hlt : b < w.heap.size := World.block_lt_of_cell? w _ hc
  go_enter Try.func20, Try.ntmps20
  go_wp2_with fail
  refine (mul_one w n (by omega)).mono ?_
  rintro e w' ⟨rfl, hw'⟩
  rw [hw']
  clear hw' w'
  have hfr : ((w.alloc (.cells cs 5)).drewN 2).heap[w.heap.size]? = some (.cells cs 5 (0, 0)) := (Holds.fresh w 5 cs).drewN 2
  have hb0 : Below w.heap.size w ((w.alloc (.cells cs 5)).drewN 2) := by
    have h := (Below.refl _ w).alloc (Nat.le_refl _) (.cells cs 5)
    exact ⟨h.os, h.tape, h.output, h.size, h.block⟩
  have hfull := Full.copied (w := w) (k := 0) (m := 1) hfr hle (fun j hj => absurd hj (by omega)) hb0 (by omega)
  have HF := Lib.hid hfull
  have hsrc : Hid (∀ j v, ([Value.int .u8 255] : List Value)[j]? = some v → ((w.alloc (.cells cs 5)).drewN 2).cell? ((⟨b, 0, none⟩ : Addr).add j) = some v) := Lib.hid (fun j v hj => by
    have hj0 : j = 0 := by
      have := (List.getElem?_eq_some_iff.1 hj).1
      simp at this
      exact this
    subst hj0
    have ha : (⟨b, 0, none⟩ : Addr).add 0 = ⟨b, 0, none⟩ := by unfold Addr.add; split <;> simp_all
    rw [ha, hb0.cell (p := ⟨b, 0, none⟩) hlt, hc]
    simpa using hj)
  have HFR := Lib.hid hfr
  clear hfull hfr hb0 hlt hc
  go_wp2_with (refine wpList_copy_own rfl (.tmp 58) (.tmp 59) 29 29 rfl 5 Try.underlying29 sizeU8 w.heap.size 0 n n ⟨b, 0, none⟩ 1 1 rfl rfl cs 5 HFR.out [.int .u8 255] (show 1 = min 1 n by omega) hsrc.out (by simp; omega) (by simp [Value.oneCell']) ?hc0)
  have HF1 : Hid (Full w (((w.alloc (.cells cs 5)).drewN 2).setRow w.heap.size (Value.int .u8 255 :: cs.toList.tail).toArray) 1 n) := Lib.hid (by simpa using HF.out)
  clear HF hsrc HFR hcall
  go_loopw [10] (fun v wr => RelR w n v wr) (fun v _ => n - (RowKit.intOf v).toNat)
  case atStart => exact ⟨1, rfl, Nat.le_refl _, hn1, HF1.out⟩
  case round =>
    obtain ⟨k, rfl, hk1, hkn, hfull⟩ := hrel
    obtain ⟨W, hW⟩ : ∃ W, W = wr := ⟨_, rfl⟩
    subst hW
    by_cases hkl : k < n
    case neg =>
      obtain rfl : k = n := by omega
      have t1 : decide ((k : Int) < (k : Int)) = false := decide_eq_false (by omega)
      have HF2 := Lib.hid hfull
      clear hfull HF1
      go_wp2_with fail
      go_ret
      obtain ⟨cur, h1, h2, h3, h4⟩ := id HF2.out
      exact ⟨rfl, HF2.out.rd (by omega), h4⟩
    case pos =>
      have t1 : decide ((k : Int) < (n : Int)) = true := decide_eq_true (by omega)
      have t2 : decide ((n : Int) < (k : Int)) = false := decide_eq_false (by omega)
      have t3 : decide ((n : Int) ≤ (k : Int)) = false := decide_eq_false (by omega)
      obtain ⟨cur, h1, h2, h3, h4⟩ := hfull
      obtain ⟨m, hm⟩ : ∃ m, m = min k (n - k) := ⟨_, rfl⟩
      have hm1 : 1 ≤ m := by omega
      have hmn : k + m ≤ n := by omega
      have hmk : m ≤ k := by omega
      have hmin : Nat.min k (n - k) = m := hm.symm
      have hw3 : IntKind.i64.wrap ((k : Int) + (m : Int)) = (k : Int) + (m : Int) := IntWalk.i64_in _ (by omega)
      have HNX : Hid (∀ q, Full w ((W.drewN q).setRow w.heap.size (cur.toList.take k ++ (List.replicate m (Value.int .u8 255) ++ cur.toList.drop (k + m))).toArray) (k + m) n) := Lib.hid (fun q => Full.copied (w := w) (wr := W.drewN q) h1 h2 h3 ⟨h4.os, h4.tape, h4.output, h4.size, h4.block⟩ hmn)
      have HSR : Hid (∀ q j v, (List.replicate m (Value.int .u8 255))[j]? = some v → (W.drewN q).cell? ((⟨w.heap.size, 0, none⟩ : Addr).add j) = some v) := Lib.hid (fun q j v hj => by
        have hjm : j < m := by
          have := (List.getElem?_eq_some_iff.1 hj).1
          simpa using this
        have ha : (⟨w.heap.size, 0, none⟩ : Addr).add j = ⟨w.heap.size, j, none⟩ := by unfold Addr.add; split <;> simp_all
        rw [ha]
        have hx : W.cell? ⟨w.heap.size, j, none⟩ = some (.int .u8 255) := by rw [cell_of_row W w.heap.size j cur 5 (0, 0) h1, h3 j (by omega)]
        rw [List.getElem?_replicate, if_pos hjm] at hj
        injection hj with hj
        rw [← hj]
        exact hx)
      have HH1 : Hid (∀ q, (W.drewN q).heap[w.heap.size]? = some (.cells cur 5 (0, 0))) := Lib.hid (fun q => h1)
      have hcur : k + m ≤ cur.size := by omega
      have HM := Lib.hid hmin
      clear h1 h2 h3 h4 HF1 hm hmin
      have j0 : (0 : Int) ≤ (k : Int) := by omega
      have j1 : (k : Int) ≤ (n : Int) := by omega
      have hnk : ¬ n = k := by omega
      have hnk' : ¬ (n : Int) = (k : Int) := by omega
      have hmi : min (k : Int) (n : Int) = (k : Int) := by omega
      go_wp2_with fail
      go_region_law (refine step_copy_own rfl (.tmp 70) (.tmp 73) 29 29 rfl 5 Try.underlying29 sizeU8 w.heap.size k (n - k) (n - k) ⟨w.heap.size, 0, none⟩ k n ?_ ?_ cur 5 (HH1.out _) (List.replicate m (Value.int .u8 255)) m (by simp) HM.out.symm (HSR.out _) hcur (by simp [Value.oneCell']) ?_; (focus (simp [go_sem])); (focus (simp [go_sem])))
      have hfin : Full w (W.drew.setRow w.heap.size (cur.toList.take k ++ (List.replicate m (Value.int .u8 255) ++ cur.toList.drop (k + m))).toArray) (k + m) n := HNX.out 1
      clear HNX HSR HH1
      generalize W.drew.setRow w.heap.size (cur.toList.take k ++ (List.replicate m (Value.int .u8 255) ++ cur.toList.drop (k + m))).toArray = W3 at *
      have HFN := Lib.hid hfin
      clear hfin
      go_simp
      go_roundw
      case rel => exact ⟨.int .i64 ((k : Int) + (m : Int)), _, _, _, _, _, _, _, _, _, _, _, _, _, _, _, _, ⟨k + m, by simp, by omega, hmn, HFN.out⟩, rfl⟩
      case measure => simp [RowKit.intOf]; omega
end Go.Proofs.Ytebhpjbjfbadjaa
