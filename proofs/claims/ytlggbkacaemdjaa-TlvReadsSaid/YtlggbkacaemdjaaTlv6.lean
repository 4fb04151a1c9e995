/-
  How many bytes a thing has: by the program.
-/
import Derived.Test.YtlggbkacaemdjaaTlv5
namespace Go.Proofs.Ytlggbkacaemdjaa
open Go.RowKit
set_option linter.unusedVariables false
set_option linter.unusedSimpArgs false

/-- How many bytes stand behind its length. -/
def Tr.inl : Tr → Nat
  | .mk _ body kids => body.length + (Tr.encs kids).length
theorem Tr.enc_len : ∀ t : Tr, t.enc.length = 1 + (lenB t.inl).length + t.inl
  | .mk _ body kids => by rw [Tr.enc, Tr.inl]; simp; omega
theorem Lt.val_eq (t : Lt) : t.val = .agg #[.int .u8 (t.tag : Int), .slice t.ba t.body.length t.bc, .slice t.ka t.kids.length t.kc] := rfl
set_option maxRecDepth 100000 in
set_option maxHeartbeats 4000000 in
theorem size_of (t : Lt) (w : World) (z : Nat) (hz : t.t.inl = z) (hmx : z ≤ 400000) (h : ∀ W, Below w.heap.size w W → Calls Try.prog 32 #[t.val] W fun e w' => e = .returned (.int .i64 (z : Int)) ∧ Below W.heap.size W w') :
    Calls Try.prog 27 #[t.val] w fun e w' => e = .returned (.int .i64 (t.t.enc.length : Int)) ∧ Below w.heap.size w w' := by
  have HE : Hid (t.t.enc.length = 1 + (lenB z).length + z) := Lib.hid (by rw [Tr.enc_len, hz])
  have HC := Lib.hid h
  rw [Lt.val_eq] at HC ⊢
  clear h hz
  generalize t.tag = tag at *
  generalize t.ba = ba at *
  generalize t.bc = bc at *
  generalize t.body.length = bl at *
  generalize t.ka = ka at *
  generalize t.kids.length = n at *
  generalize t.kc = kc at *
  have hq0 : Hid (Below w.heap.size w (w.alloc (.cells #[.int .u8 (tag : Int), .slice ba bl bc, .slice ka n kc] 25))) := Lib.hid ((Below.refl _ _).alloc (Nat.le_refl _) _)
  have hb0 : Holds (w.alloc (.cells #[.int .u8 (tag : Int), .slice ba bl bc, .slice ka n kc] 25)) w.heap.size 25 #[.int .u8 (tag : Int), .slice ba bl bc, .slice ka n kc] := Holds.fresh _ _ _
  have z0 : (w.alloc (.cells #[.int .u8 (tag : Int), .slice ba bl bc, .slice ka n kc] 25)).cell? ⟨w.heap.size, 0, none⟩ = some (.int .u8 (tag : Int)) := hb0.cell 0
  have z1 : (w.alloc (.cells #[.int .u8 (tag : Int), .slice ba bl bc, .slice ka n kc] 25)).cell? ⟨w.heap.size, 1, none⟩ = some (.slice ba bl bc) := hb0.cell 1
  have z2 : (w.alloc (.cells #[.int .u8 (tag : Int), .slice ba bl bc, .slice ka n kc] 25)).cell? ⟨w.heap.size, 2, none⟩ = some (.slice ka n kc) := hb0.cell 2
  have hlb := lenB_len z
  obtain ⟨y, hy⟩ : ∃ y, (lenB z).length = y := ⟨_, rfl⟩
  rw [hy] at HE hlb
  have HY := Lib.hid hy
  have hw1 : IntKind.i64.wrap (1 + (y : Int)) = 1 + (y : Int) := IntWalk.i64_in _ (by omega)
  have hw2 : IntKind.i64.wrap (1 + (y : Int) + (z : Int)) = 1 + (y : Int) + (z : Int) := IntWalk.i64_in _ (by omega)
  clear hb0 hy
  go_enter Try.func27, Try.ntmps27
  go_wp2_with fail
  refine (HC.out _ hq0.out).mono ?_
  rintro e w2 ⟨rfl, hb2⟩
  have HQ2 := Lib.hid (hq0.out.trans (hb2.mono hq0.out.size))
  clear hb2 HC hq0 z0 z1 z2
  go_wp2_with fail
  refine (length_any w2 z (by omega)).mono ?_
  rintro e w3 ⟨A3, c3, rfl, hm3, hb3⟩
  have HQ3 := Lib.hid (HQ2.out.trans (hb3.mono HQ2.out.size))
  rw [HY.out]
  clear hb3 hm3 HQ2
  go_wp2_with fail
  go_ret
  exact ⟨ret_int (by rw [HE.out]; push_cast; rfl), HQ3.out⟩

def RelI (w : World) (cs : Array Value) (bl : Nat) (l : List Tr) (n : Nat) (v i : Value) (wr : World) : Prop :=
  ∃ k : Nat, k ≤ n ∧ i = .int .i64 k ∧ v = .int .i64 ((bl : Int) + ((Tr.encs (l.take k)).length : Int)) ∧ Hid (Below w.heap.size w wr)
set_option maxRecDepth 100000 in
set_option maxHeartbeats 4000000 in
theorem inner_N : ∀ (N : Nat) (t : Lt) (w : World) (B : Nat), t.sz < N → TrAt w B t → B ≤ w.heap.size → t.t.inl ≤ 400000 →
    Calls Try.prog 32 #[t.val] w fun e w' => e = .returned (.int .i64 (t.t.inl : Int)) ∧ Below w.heap.size w w' := by
  intro N
  induction N with
  | zero => intro t w B h; omega
  | succ N ih =>
    intro t w B hN hr hB hmx
    obtain ⟨tag, ba, bc, body, ka, kc, kids⟩ := t
    rw [trAt_mk] at hr
    obtain ⟨_, _, _, hrow, hkids⟩ := hr
    rw [Lt.t_mk, Tr.inl] at hmx ⊢
    obtain ⟨n, hn⟩ : ∃ n, kids.length = n := ⟨_, rfl⟩
    obtain ⟨bl, hbl⟩ : ∃ n, body.length = n := ⟨_, rfl⟩
    obtain ⟨L, hL⟩ : ∃ L, kids.map Lt.t = L := ⟨_, rfl⟩
    have hLn : L.length = n := by rw [← hL, List.length_map, hn]
    rw [hL, hbl] at hmx ⊢
    have HMX := Lib.hid hmx
    have HLN := Lib.hid hLn
    have hlc : n ≤ kc := by have := hrow.1; omega
    have hc63 := hrow.2.1
    have HROW : Hid (∀ W, Below w.heap.size w W → RowT W B ka kc kids) := Lib.hid fun W hW => hrow.under (hW.mono hB)
    have HIH : Hid (∀ k, k < n → ∀ W, Below w.heap.size w W → Calls Try.prog 27 #[(kids.getD k default).val] W fun e w' => e = .returned (.int .i64 ((L.getD k default).enc.length : Int)) ∧ Below W.heap.size W w') := Lib.hid fun k hk W hW => by
      have e : (L.getD k default) = (kids.getD k default).t := by rw [← hL, Lt.ts_at (by omega)]
      have h1 := Tr.enc_kid (l := L) (k := k) (by omega)
      rw [e] at h1 ⊢
      have hin : (kids.getD k default).t.inl ≤ 400000 := by rw [Tr.enc_len] at h1; omega
      refine size_of _ W _ rfl hin fun W' hW' => ?_
      have hWW := hW.trans (hW'.mono hW.size)
      refine ih _ W' B ?_ ((hkids k (by omega)).under' (hWW.mono hB)) (by have := hWW.size; omega) hin
      have := lt_kid (tag := tag) (ba := ba) (bc := bc) (body := body) (ka := ka) (kc := kc) (kids := kids) (j := k) (by omega)
      omega
    have HN2 := Lib.hid hn
    have hval : (Lt.mk tag ba bc body ka kc kids).val = .agg #[.int .u8 (tag : Int), .slice ba bl bc, .slice ka n kc] := by rw [← hn, ← hbl]; rfl
    rw [hval]
    have hb0 : Holds (w.alloc (.cells #[.int .u8 (tag : Int), .slice ba bl bc, .slice ka n kc] 25)) w.heap.size 25 #[.int .u8 (tag : Int), .slice ba bl bc, .slice ka n kc] := Holds.fresh _ _ _
    have hq0 : Hid (Below w.heap.size w (w.alloc (.cells #[.int .u8 (tag : Int), .slice ba bl bc, .slice ka n kc] 25))) := Lib.hid ((Below.refl _ _).alloc (Nat.le_refl _) _)
    have z1 : (w.alloc (.cells #[.int .u8 (tag : Int), .slice ba bl bc, .slice ka n kc] 25)).cell? ⟨w.heap.size, 1, none⟩ = some (.slice ba bl bc) := hb0.cell 1
    have z2 : (w.alloc (.cells #[.int .u8 (tag : Int), .slice ba bl bc, .slice ka n kc] 25)).cell? ⟨w.heap.size, 2, none⟩ = some (.slice ka n kc) := hb0.cell 2
    clear hN ih hrow hkids hmx hLn hL hval hn hbl hb0
    go_enter Try.func32, Try.ntmps32
    go_wp2_with fail
    generalize w.alloc (.cells #[.int .u8 (tag : Int), .slice ba bl bc, .slice ka n kc] 25) = W at *
    clear z1 z2
    go_loopw [3, 12] (fun v i wr => RelI w #[] bl L n v i wr) (fun v i _ => n - (intOf i).toNat)
    case atStart => exact ⟨0, Nat.zero_le _, rfl, by simp [Tr.encs], hq0⟩
    case round =>
      clear hq0
      obtain ⟨k, hk, rfl, rfl, HQ⟩ := hrel
      obtain ⟨V, hV⟩ : ∃ V, V = wr := ⟨_, rfl⟩
      subst hV
      by_cases hkn : k < n
      case pos =>
        have hkI : (k : Int) < (n : Int) := by omega
        have hk0 : (0 : Int) ≤ (k : Int) := by omega
        obtain ⟨b, off, rfl, hb, hcs⟩ := (HROW.out V HQ.out).2.2 (by have := HN2.out; omega)
        obtain ⟨q0, q1, q2⟩ := hcs k (by have := HN2.out; omega)
        have HC : Hid (∀ W, Below w.heap.size w W → Calls Try.prog 27 #[.agg #[.int .u8 ((kids.getD k default).tag : Int), .slice (kids.getD k default).ba (kids.getD k default).body.length (kids.getD k default).bc, .slice (kids.getD k default).ka (kids.getD k default).kids.length (kids.getD k default).kc]] W fun e w' => e = .returned (.int .i64 ((L.getD k default).enc.length : Int)) ∧ Below W.heap.size W w') := Lib.hid fun W hW => HIH.out k hkn W hW
        have HCM : Hid ((Tr.encs (L.take (k + 1))).length = (Tr.encs (L.take k)).length + (L.getD k default).enc.length ∧ bl + (Tr.encs (L.take (k + 1))).length ≤ 400000) := Lib.hid (by
          have h1 := congrArg List.length (Tr.encs_more (l := L) (k := k) (by have := HLN.out; omega))
          have h2 := Tr.encs_le L (k + 1)
          rw [List.length_append] at h1
          have := HMX.out
          omega)
        clear hcs
        generalize (kids.getD k default).tag = dt at *
        generalize (kids.getD k default).ba = dba at *
        generalize (kids.getD k default).bc = dbc at *
        generalize (kids.getD k default).body.length = dbl at *
        generalize (kids.getD k default).ka = dka at *
        generalize (kids.getD k default).kids.length = dkl at *
        generalize (kids.getD k default).kc = dkc at *
        generalize (L.getD k default).enc.length = y at *
        generalize hx0 : (Tr.encs (L.take k)).length = x at *
        have HX0 := Lib.hid hx0
        clear hx0
        have hws : IntKind.i64.wrap ((bl : Int) + (x : Int) + (y : Int)) = (bl : Int) + ((x + y : Nat) : Int) := by rw [IntWalk.i64_in _ (by have := HCM.out; omega)]; push_cast; omega
        have hb9 : Holds (V.alloc (.cells #[.int .u8 (dt : Int), .slice dba dbl dbc, .slice dka dkl dkc] 25)) V.heap.size 25 #[.int .u8 (dt : Int), .slice dba dbl dbc, .slice dka dkl dkc] := Holds.fresh _ _ _
        have hq9 : Hid (Below w.heap.size w (V.alloc (.cells #[.int .u8 (dt : Int), .slice dba dbl dbc, .slice dka dkl dkc] 25))) := Lib.hid (HQ.out.alloc HQ.out.size _)
        have y0 : (V.alloc (.cells #[.int .u8 (dt : Int), .slice dba dbl dbc, .slice dka dkl dkc] 25)).cell? ⟨V.heap.size, 0, none⟩ = some (.int .u8 (dt : Int)) := hb9.cell 0
        have y1 : (V.alloc (.cells #[.int .u8 (dt : Int), .slice dba dbl dbc, .slice dka dkl dkc] 25)).cell? ⟨V.heap.size, 1, none⟩ = some (.slice dba dbl dbc) := hb9.cell 1
        have y2 : (V.alloc (.cells #[.int .u8 (dt : Int), .slice dba dbl dbc, .slice dka dkl dkc] 25)).cell? ⟨V.heap.size, 2, none⟩ = some (.slice dka dkl dkc) := hb9.cell 2
        clear hb9
        go_wp2_with fail
        refine (HC.out _ hq9.out).mono ?_
        rintro e w2 ⟨rfl, hb2⟩
        have HQ2 : Hid (Below w.heap.size w w2) := Lib.hid (hq9.out.trans (hb2.mono hq9.out.size))
        clear hb2 HC q0 q1 q2 y0 y1 y2 hq9
        go_wp2_with fail
        go_roundw
        case rel => exact ⟨k + 1, by omega, by go_num, by rw [HCM.out.1]; push_cast; simp only [Int.add_assoc], HQ2⟩
        case measure => simp [intOf]; omega
      case neg =>
        obtain rfl : k = n := by omega
        have hkI : ¬ ((k : Int) < (k : Int)) := by omega
        have HE : Hid (Tr.encs (L.take k) = Tr.encs L) := Lib.hid (by rw [List.take_of_length_le (by have := HLN.out; omega)])
        go_wp2_with fail
        go_ret
        exact ⟨ret_int (by rw [HE.out]), HQ.out⟩
theorem inner_any (t : Lt) (w : World) (B : Nat) (hr : TrAt w B t) (hB : B ≤ w.heap.size) (hmx : t.t.inl ≤ 400000) :
    Calls Try.prog 32 #[t.val] w fun e w' => e = .returned (.int .i64 (t.t.inl : Int)) ∧ Below w.heap.size w w' := inner_N (t.sz + 1) t w B (Nat.lt_succ_self _) hr hB hmx
theorem size_any (t : Lt) (w : World) (B : Nat) (hr : TrAt w B t) (hB : B ≤ w.heap.size) (hmx : t.t.inl ≤ 400000) :
    Calls Try.prog 27 #[t.val] w fun e w' => e = .returned (.int .i64 (t.t.enc.length : Int)) ∧ Below w.heap.size w w' :=
  size_of t w _ rfl hmx fun W hW => inner_any t W B (hr.under' (hW.mono hB)) (by have := hW.size; omega) hmx
end Go.Proofs.Ytlggbkacaemdjaa
