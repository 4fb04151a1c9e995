/-
  How many things it is: by the document; whether it is more than is looked at.
-/
import Derived.Test.YtdjklhglkmacbaaDoorTlv1
import Derived.Test.YtdjklhglkmacbaaDoorStr
namespace Go.Proofs.YtdjklhglkmacbaaDoor
open Go.RowKit
set_option linter.unusedVariables false
set_option linter.unusedSimpArgs false

theorem ret_int {k : IntKind} {a b : Int} (h : a = b) : Ending.returned (.int k a) = .returned (.int k b) := by rw [h]
theorem ret_bool {a b : Bool} (h : a = b) : Ending.returned (.bool a) = .returned (.bool b) := by rw [h]
theorem below_drewN {B : Nat} {a w : World} (h : Below B a w) (n : Nat) : Below B a (w.drewN n) := ⟨h.os, h.tape, h.output, h.size, h.block⟩
theorem not_true {v : Bool} (h : v = true → False) : v = false := by cases v; rfl; exact (h rfl).elim
def RelC (w : World) (cs : Array Value) (l : List Tr) (n : Nat) (v i : Value) (wr : World) : Prop :=
  ∃ k : Nat, k ≤ n ∧ i = .int .i64 k ∧ v = .int .i64 (1 + (Tr.counts (l.take k) : Int)) ∧ Hid (Below w.heap.size w wr) ∧ Hid (Holds wr w.heap.size 31 cs)
set_option maxRecDepth 100000 in
set_option maxHeartbeats 4000000 in
theorem count'_N : ∀ (N : Nat) (t : Lt) (w : World) (B : Nat), t.sz < N → TrAt w B t → B ≤ w.heap.size → t.t.count ≤ 1000000 →
    Calls Tryd.prog 64 #[t.val] w fun e w' => e = .returned (.int .i64 (t.t.count : Int)) ∧ Below w.heap.size w w' := by
  intro N
  induction N with
  | zero => intro t w B h; omega
  | succ N ih =>
    intro t w B hN hr hB hmx
    obtain ⟨tag, ba, bc, body, ka, kc, kids⟩ := t
    rw [trAt_mk] at hr
    obtain ⟨_, _, _, hrow, hkids⟩ := hr
    rw [Lt.t_mk, Tr.count] at hmx ⊢
    obtain ⟨n, hn⟩ : ∃ n, kids.length = n := ⟨_, rfl⟩
    obtain ⟨L, hL⟩ : ∃ L, kids.map Lt.t = L := ⟨_, rfl⟩
    have hLn : L.length = n := by rw [← hL, List.length_map, hn]
    rw [hL] at hmx ⊢
    have HMX := Lib.hid hmx
    have HLN := Lib.hid hLn
    have hlc : n ≤ kc := by have := hrow.1; omega
    have hc63 := hrow.2.1
    have HROW : Hid (∀ W, Below w.heap.size w W → RowT W B ka kc kids) := Lib.hid fun W hW => hrow.under (hW.mono hB)
    have HIH : Hid (∀ k, k < n → ∀ W, Below w.heap.size w W → Calls Tryd.prog 64 #[(kids.getD k default).val] W fun e w' => e = .returned (.int .i64 ((L.getD k default).count : Int)) ∧ Below W.heap.size W w') := Lib.hid fun k hk W hW => by
      have e : (L.getD k default) = (kids.getD k default).t := by rw [← hL, Lt.ts_at (by omega)]
      rw [e]
      refine ih _ W B ?_ ((hkids k (by omega)).under' (hW.mono hB)) (by have := hW.size; omega) ?_
      · have := lt_kid (tag := tag) (ba := ba) (bc := bc) (body := body) (ka := ka) (kc := kc) (kids := kids) (j := k) (by omega)
        omega
      · have h1 := Tr.counts_more (l := L) (k := k) (by omega)
        have h2 := Tr.counts_le L (k + 1)
        rw [e] at h1
        omega
    have HN2 := Lib.hid hn
    clear hN ih hrow hkids hmx hLn hL
    have hcell : (Lt.mk tag ba bc body ka kc kids).cells = #[.int .u8 (tag : Int), .slice ba body.length bc, .slice ka n kc] := by rw [← hn]; rfl
    have hval : (Lt.mk tag ba bc body ka kc kids).val = .agg #[.int .u8 (tag : Int), .slice ba body.length bc, .slice ka n kc] := by unfold Lt.val; rw [hcell]
    rw [hval]
    have hb0 : Hid (Holds (w.alloc (.cells #[.int .u8 (tag : Int), .slice ba body.length bc, .slice ka n kc] 31)) w.heap.size 31 #[.int .u8 (tag : Int), .slice ba body.length bc, .slice ka n kc]) := Lib.hid (Holds.fresh _ _ _)
    have hq0 : Hid (Below w.heap.size w (w.alloc (.cells #[.int .u8 (tag : Int), .slice ba body.length bc, .slice ka n kc] 31))) := Lib.hid ((Below.refl _ _).alloc (Nat.le_refl _) _)
    clear hcell hval hn
    generalize body.length = bl at *
    go_enter Tryd.func64, Tryd.ntmps64
    go_wp2_with fail
    generalize w.alloc (.cells #[.int .u8 (tag : Int), .slice ba bl bc, .slice ka n kc] 31) = W at *
    go_loopw [3, 4] (fun v i wr => RelC w #[.int .u8 (tag : Int), .slice ba bl bc, .slice ka n kc] L n v i wr) (fun v i _ => n - (intOf i).toNat)
    case atStart => exact ⟨0, Nat.zero_le _, rfl, rfl, hq0, hb0⟩
    case round =>
      clear hq0 hb0
      obtain ⟨k, hk, rfl, rfl, HQ, HB⟩ := hrel
      obtain ⟨V, hV⟩ : ∃ V, V = wr := ⟨_, rfl⟩
      subst hV
      have z2 : V.cell? ⟨w.heap.size, 2, none⟩ = some (.slice ka n kc) := HB.out.cell 2
      by_cases hkn : k < n
      case pos =>
        have hkI : (k : Int) < (n : Int) := by omega
        have hk0 : (0 : Int) ≤ (k : Int) := by omega
        obtain ⟨b, off, rfl, hb, hcs⟩ := (HROW.out V HQ.out).2.2 (by have := HN2.out; omega)
        obtain ⟨q0, q1, q2⟩ := hcs k (by have := HN2.out; omega)
        have HC := Lib.hid (HIH.out k hkn V HQ.out)
        have HCM : Hid (Tr.counts (L.take (k + 1)) = Tr.counts (L.take k) + (L.getD k default).count ∧ Tr.counts (L.take (k + 1)) ≤ 1000000) := Lib.hid (by
          have h1 := Tr.counts_more (l := L) (k := k) (by have := HLN.out; omega)
          have h2 := Tr.counts_le L (k + 1)
          have := HMX.out
          omega)
        have hval : (kids.getD k default).val = .agg #[.int .u8 ((kids.getD k default).tag : Int), .slice (kids.getD k default).ba (kids.getD k default).body.length (kids.getD k default).bc, .slice (kids.getD k default).ka (kids.getD k default).kids.length (kids.getD k default).kc] := rfl
        rw [hval] at HC
        clear hcs hval
        generalize (kids.getD k default).tag = dt at *
        generalize (kids.getD k default).ba = dba at *
        generalize (kids.getD k default).bc = dbc at *
        generalize (kids.getD k default).body.length = dbl at *
        generalize (kids.getD k default).ka = dka at *
        generalize (kids.getD k default).kids.length = dkl at *
        generalize (kids.getD k default).kc = dkc at *
        generalize (L.getD k default).count = y at *
        generalize hx0 : Tr.counts (L.take k) = x at *
        have HX0 := Lib.hid hx0
        clear hx0
        have hws : IntKind.i64.wrap (1 + (x : Int) + (y : Int)) = 1 + ((x + y : Nat) : Int) := by rw [IntWalk.i64_in _ (by have := HCM.out; omega)]; push_cast; omega
        go_wp2_with fail
        refine HC.out.mono ?_
        rintro e w2 ⟨rfl, hb2⟩
        have HQ2 : Hid (Below w.heap.size w w2) := Lib.hid (HQ.out.trans (hb2.mono HQ.out.size))
        have HB2 := Lib.hid (HB.out.under hb2 HB.out.lt)
        clear hb2 HC q0 q1 q2 z2
        go_wp2_with fail
        go_roundw
        case rel => exact ⟨k + 1, by omega, by go_num, by rw [HCM.out.1]; push_cast; simp only [Int.add_assoc], HQ2, HB2⟩
        case measure => simp [intOf]; omega
      case neg =>
        obtain rfl : k = n := by omega
        have hkI : ¬ ((k : Int) < (k : Int)) := by omega
        have HE : Hid (Tr.counts (L.take k) = Tr.counts L) := Lib.hid (by rw [List.take_of_length_le (by have := HLN.out; omega)])
        go_wp2_with fail
        go_ret
        exact ⟨ret_int (by rw [HE.out]), HQ.out⟩
end Go.Proofs.YtdjklhglkmacbaaDoor
