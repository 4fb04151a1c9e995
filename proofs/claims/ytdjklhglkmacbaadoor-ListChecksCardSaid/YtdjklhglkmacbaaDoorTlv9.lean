/-
  Whether a thing may be: by the document.
-/
import Derived.Test.YtdjklhglkmacbaaDoorTlv8
namespace Go.Proofs.YtdjklhglkmacbaaDoor
open Go.RowKit
set_option linter.unusedVariables false
set_option linter.unusedSimpArgs false

/-- Its own tag and parts are such. -/
def ok1 (tag bl n : Nat) : Bool := tagOk tag && !(parted tag && decide (0 < bl)) && !(!parted tag && decide (0 < n))
mutual
def Tr.sound : Tr → Nat → Bool
  | .mk tag body kids, d => ok1 tag body.length kids.length && decide (d ≤ 12) && Tr.sounds kids (d + 1)
def Tr.sounds : List Tr → Nat → Bool
  | [], _ => true
  | x :: r, d => x.sound d && Tr.sounds r d
end
theorem Tr.sounds_iff : ∀ {l : List Tr} {d : Nat}, Tr.sounds l d = true ↔ ∀ j, j < l.length → (l.getD j default).sound d = true
  | [], d => by simp [Tr.sounds]
  | x :: r, d => by
    rw [Tr.sounds, Bool.and_eq_true, Tr.sounds_iff (l := r)]
    constructor
    · rintro ⟨h1, h2⟩ j hj
      rcases j with _ | j
      · simpa [List.getD] using h1
      · have := h2 j (by simpa using hj)
        simpa [List.getD] using this
    · intro h
      refine ⟨by simpa [List.getD] using h 0 (by simp), fun j hj => ?_⟩
      have := h (j + 1) (by simpa using hj)
      simpa [List.getD] using this
theorem Tr.sounds_not {l : List Tr} {d j : Nat} (hj : j < l.length) (h : (l.getD j default).sound d = false) : Tr.sounds l d = false := by
  cases e : Tr.sounds l d
  · rfl
  · have := Tr.sounds_iff.1 e j hj
    rw [h] at this
    cases this
def RelB (w : World) (cs : Array Value) (l : List Tr) (d n : Nat) (i : Value) (wr : World) : Prop :=
  ∃ k : Nat, k ≤ n ∧ i = .int .i64 k ∧ Hid (∀ j, j < k → (l.getD j default).sound d = true) ∧ Hid (Below w.heap.size w wr) ∧ Hid (Holds wr w.heap.size 31 cs)
set_option maxRecDepth 100000 in
set_option maxHeartbeats 4000000 in
theorem sound_N : ∀ (N : Nat) (t : Lt) (w : World) (B d : Nat), t.sz < N → TrAt w B t → B ≤ w.heap.size → d ≤ 13 →
    Calls Tryd.prog 63 #[t.val, .int .i64 (d : Int)] w fun e w' => e = .returned (.bool (t.t.sound d)) ∧ Below w.heap.size w w' := by
  intro N
  induction N with
  | zero => intro t w B d h; omega
  | succ N ih =>
    intro t w B d hN hr hB hd
    obtain ⟨tag, ba, bc, body, ka, kc, kids⟩ := t
    rw [trAt_mk] at hr
    obtain ⟨htag, hbody, _, hrow, hkids⟩ := hr
    rw [Lt.t_mk]
    obtain ⟨n, hn⟩ : ∃ n, kids.length = n := ⟨_, rfl⟩
    obtain ⟨bl, hbl⟩ : ∃ n, body.length = n := ⟨_, rfl⟩
    obtain ⟨L, hL⟩ : ∃ L, kids.map Lt.t = L := ⟨_, rfl⟩
    have hLn : L.length = n := by rw [← hL, List.length_map, hn]
    rw [hL]
    have HS : Hid ((Tr.mk tag body L).sound d = (ok1 tag bl n && decide (d ≤ 12) && Tr.sounds L (d + 1))) := Lib.hid (by rw [Tr.sound, hbl, hLn])
    have HLN := Lib.hid hLn
    have hlc : n ≤ kc := by have := hrow.1; omega
    have hc63 := hrow.2.1
    have hblc : bl ≤ bc := by have := hbody.1; omega
    have hbc63 := hbody.2.1
    have HROW : Hid (∀ W, Below w.heap.size w W → RowT W B ka kc kids) := Lib.hid fun W hW => hrow.under (hW.mono hB)
    have HIH : Hid (d ≤ 12 → ∀ k, k < n → ∀ W, Below w.heap.size w W → Calls Tryd.prog 63 #[(kids.getD k default).val, .int .i64 ((d + 1 : Nat) : Int)] W fun e w' => e = .returned (.bool ((L.getD k default).sound (d + 1))) ∧ Below W.heap.size W w') := Lib.hid fun hd12 k hk W hW => by
      have e : (L.getD k default) = (kids.getD k default).t := by rw [← hL, Lt.ts_at (by omega)]
      rw [e]
      refine ih _ W B (d + 1) ?_ ((hkids k (by omega)).under' (hW.mono hB)) (by have := hW.size; omega) (by omega)
      have := lt_kid (tag := tag) (ba := ba) (bc := bc) (body := body) (ka := ka) (kc := kc) (kids := kids) (j := k) (by omega)
      omega
    have HN2 := Lib.hid hn
    have hval : (Lt.mk tag ba bc body ka kc kids).val = .agg #[.int .u8 (tag : Int), .slice ba bl bc, .slice ka n kc] := by rw [← hn, ← hbl]; rfl
    rw [hval]
    have hb0 : Holds (w.alloc (.cells #[.int .u8 (tag : Int), .slice ba bl bc, .slice ka n kc] 31)) w.heap.size 31 #[.int .u8 (tag : Int), .slice ba bl bc, .slice ka n kc] := Holds.fresh _ _ _
    have hq0 : Hid (Below w.heap.size w (w.alloc (.cells #[.int .u8 (tag : Int), .slice ba bl bc, .slice ka n kc] 31))) := Lib.hid ((Below.refl _ _).alloc (Nat.le_refl _) _)
    have z0 : (w.alloc (.cells #[.int .u8 (tag : Int), .slice ba bl bc, .slice ka n kc] 31)).cell? ⟨w.heap.size, 0, none⟩ = some (.int .u8 (tag : Int)) := hb0.cell 0
    have z1 : (w.alloc (.cells #[.int .u8 (tag : Int), .slice ba bl bc, .slice ka n kc] 31)).cell? ⟨w.heap.size, 1, none⟩ = some (.slice ba bl bc) := hb0.cell 1
    have z2 : (w.alloc (.cells #[.int .u8 (tag : Int), .slice ba bl bc, .slice ka n kc] 31)).cell? ⟨w.heap.size, 2, none⟩ = some (.slice ka n kc) := hb0.cell 2
    have HB0 := Lib.hid hb0
    have HT := Lib.hid (fun W => tag'_any W tag htag)
    have HP := Lib.hid (fun W => parted'_any W tag htag)
    clear hN ih hrow hkids hLn hL hval hn hbl hb0 hbody
    rcases h1 : tagOk tag with _ | _
    case false =>
      have HF : Hid ((Tr.mk tag body L).sound d = false) := Lib.hid (by rw [HS.out]; simp [ok1, h1])
      go_enter Tryd.func63, Tryd.ntmps63
      go_wp2_with fail
      refine (HT.out _).mono ?_
      rintro e w2 ⟨rfl, rfl⟩
      rw [h1]
      go_wp2_with fail
      go_ret
      exact ⟨ret_bool HF.out.symm, hq0.out⟩
    case true =>
    by_cases h2 : d ≤ 12
    case neg =>
      have HF : Hid ((Tr.mk tag body L).sound d = false) := Lib.hid (by rw [HS.out]; simp [h2])
      have d2 : decide ((12 : Int) < (d : Int)) = true := decide_eq_true (by omega)
      have d3 : decide (12 < d) = true := decide_eq_true (by omega)
      clear h2
      go_enter Tryd.func63, Tryd.ntmps63
      go_wp2_with fail
      refine (HT.out _).mono ?_
      rintro e w2 ⟨rfl, rfl⟩
      rw [h1]
      go_wp2_with fail
      go_ret
      exact ⟨ret_bool HF.out.symm, hq0.out⟩
    have d2 : decide ((12 : Int) < (d : Int)) = false := decide_eq_false (by omega)
    have d3 : decide (12 < d) = false := decide_eq_false (by omega)
    have HIK : Hid (∀ k, k < n → ∀ W, Below w.heap.size w W → Calls Tryd.prog 63 #[(kids.getD k default).val, .int .i64 ((d : Int) + 1)] W fun e w' => e = .returned (.bool ((L.getD k default).sound (d + 1))) ∧ Below W.heap.size W w') := Lib.hid fun k hk W hW => HIH.out h2 k hk W hW
    have HS1 : Hid (ok1 tag bl n = true → (Tr.mk tag body L).sound d = Tr.sounds L (d + 1)) := Lib.hid fun h => by rw [HS.out, h]; simp [h2]
    have HS2 : Hid (ok1 tag bl n = false → (Tr.mk tag body L).sound d = false) := Lib.hid fun h => by rw [HS.out, h]; simp
    clear HIH HS h2
    -- the walk through the guards
    rcases h3 : parted tag with _ | _
    case false =>
      by_cases h4 : 0 < n
      case pos =>
        have HF : Hid ((Tr.mk tag body L).sound d = false) := Lib.hid (HS2.out (by simp [ok1, h1, h3, h4]))
        have e4 : decide ((0 : Int) < (n : Int)) = true := decide_eq_true (by omega)
        have e5 : decide (0 < n) = true := decide_eq_true (by omega)
        go_enter Tryd.func63, Tryd.ntmps63
        go_wp2_with fail
        refine (HT.out _).mono ?_
        rintro e w2 ⟨rfl, rfl⟩
        rw [h1]
        go_wp2_with fail
        refine (HP.out _).mono ?_
        rintro e w2 ⟨rfl, rfl⟩
        rw [h3]
        go_wp2_with fail
        refine (HP.out _).mono ?_
        rintro e w2 ⟨rfl, rfl⟩
        rw [h3]
        go_wp2_with fail
        go_ret
        exact ⟨ret_bool HF.out.symm, hq0.out⟩
      have e4 : decide ((0 : Int) < (n : Int)) = false := decide_eq_false (by omega)
      have e5 : decide (0 < n) = false := decide_eq_false (by omega)
      have HOK : Hid ((Tr.mk tag body L).sound d = Tr.sounds L (d + 1)) := Lib.hid (HS1.out (by simp [ok1, h1, h3, h4]))
      clear HS1 HS2
      go_enter Tryd.func63, Tryd.ntmps63
      go_wp2_with fail
      refine (HT.out _).mono ?_
      rintro e w2 ⟨rfl, rfl⟩
      rw [h1]
      go_wp2_with fail
      refine (HP.out _).mono ?_
      rintro e w2 ⟨rfl, rfl⟩
      rw [h3]
      go_wp2_with fail
      refine (HP.out _).mono ?_
      rintro e w2 ⟨rfl, rfl⟩
      rw [h3]
      go_wp2_with fail
      clear e4 e5
      generalize w.alloc (.cells #[.int .u8 (tag : Int), .slice ba bl bc, .slice ka n kc] 31) = W at *
      clear z0 z1 z2 d2 d3
      go_loopw [5] (fun i wr => RelB w #[.int .u8 (tag : Int), .slice ba bl bc, .slice ka n kc] L (d + 1) n i wr) (fun i _ => n - (intOf i).toNat)
      case atStart => exact ⟨0, Nat.zero_le _, rfl, Lib.hid (fun j hj => by omega), hq0, HB0⟩
      case round =>
        clear hq0 HB0
        obtain ⟨k, hk, rfl, HK, HQ, HB⟩ := hrel
        obtain ⟨V, hV⟩ : ∃ V, V = wr := ⟨_, rfl⟩
        subst hV
        have z2 : V.cell? ⟨w.heap.size, 2, none⟩ = some (.slice ka n kc) := HB.out.cell 2
        by_cases hkn : k < n
        case pos =>
          exact absurd (Nat.lt_of_le_of_lt (Nat.zero_le k) hkn) h4
        case neg =>
          obtain rfl : k = n := by omega
          have hkI : ¬ ((k : Int) < (k : Int)) := by omega
          have HT2 : Hid ((Tr.mk tag body L).sound d = true) := Lib.hid (by rw [HOK.out, Tr.sounds_iff]; intro j hj; exact HK.out j (by have := HLN.out; omega))
          go_wp2_with fail
          go_ret
          exact ⟨ret_bool HT2.out.symm, HQ.out⟩
    case true =>
      by_cases h4 : 0 < bl
      case pos =>
        have HF : Hid ((Tr.mk tag body L).sound d = false) := Lib.hid (HS2.out (by simp [ok1, h1, h3, h4]))
        have e4 : decide ((0 : Int) < (bl : Int)) = true := decide_eq_true (by omega)
        have e5 : decide (0 < bl) = true := decide_eq_true (by omega)
        go_enter Tryd.func63, Tryd.ntmps63
        go_wp2_with fail
        refine (HT.out _).mono ?_
        rintro e w2 ⟨rfl, rfl⟩
        rw [h1]
        go_wp2_with fail
        refine (HP.out _).mono ?_
        rintro e w2 ⟨rfl, rfl⟩
        rw [h3]
        go_wp2_with fail
        go_ret
        exact ⟨ret_bool HF.out.symm, hq0.out⟩
      have e4 : decide ((0 : Int) < (bl : Int)) = false := decide_eq_false (by omega)
      have e5 : decide (0 < bl) = false := decide_eq_false (by omega)
      have HOK : Hid ((Tr.mk tag body L).sound d = Tr.sounds L (d + 1)) := Lib.hid (HS1.out (by simp [ok1, h1, h3, h4]))
      clear HS1 HS2
      go_enter Tryd.func63, Tryd.ntmps63
      go_wp2_with fail
      refine (HT.out _).mono ?_
      rintro e w2 ⟨rfl, rfl⟩
      rw [h1]
      go_wp2_with fail
      refine (HP.out _).mono ?_
      rintro e w2 ⟨rfl, rfl⟩
      rw [h3]
      go_wp2_with fail
      refine (HP.out _).mono ?_
      rintro e w2 ⟨rfl, rfl⟩
      rw [h3]
      go_wp2_with fail
      clear e4 e5
      generalize w.alloc (.cells #[.int .u8 (tag : Int), .slice ba bl bc, .slice ka n kc] 31) = W at *
      clear z0 z1 z2 d2 d3
      go_loopw [5] (fun i wr => RelB w #[.int .u8 (tag : Int), .slice ba bl bc, .slice ka n kc] L (d + 1) n i wr) (fun i _ => n - (intOf i).toNat)
      case atStart => exact ⟨0, Nat.zero_le _, rfl, Lib.hid (fun j hj => by omega), hq0, HB0⟩
      case round =>
        clear hq0 HB0
        obtain ⟨k, hk, rfl, HK, HQ, HB⟩ := hrel
        obtain ⟨V, hV⟩ : ∃ V, V = wr := ⟨_, rfl⟩
        subst hV
        have z2 : V.cell? ⟨w.heap.size, 2, none⟩ = some (.slice ka n kc) := HB.out.cell 2
        by_cases hkn : k < n
        case pos =>
          have hkI : (k : Int) < (n : Int) := by omega
          have hk0 : (0 : Int) ≤ (k : Int) := by omega
          obtain ⟨b, off, rfl, hb, hcs⟩ := (HROW.out V HQ.out).2.2 (by have := HN2.out; omega)
          obtain ⟨q0, q1, q2⟩ := hcs k (by have := HN2.out; omega)
          have HC := Lib.hid (HIK.out k hkn V HQ.out)
          have hwd : IntKind.i64.wrap ((d : Int) + 1) = (d : Int) + 1 := IntWalk.i64_in _ (by omega)
          rw [show (kids.getD k default).val = .agg #[.int .u8 ((kids.getD k default).tag : Int), .slice (kids.getD k default).ba (kids.getD k default).body.length (kids.getD k default).bc, .slice (kids.getD k default).ka (kids.getD k default).kids.length (kids.getD k default).kc] from rfl] at HC
          clear hcs
          generalize (kids.getD k default).tag = dt at *
          generalize (kids.getD k default).ba = dba at *
          generalize (kids.getD k default).bc = dbc at *
          generalize (kids.getD k default).body.length = dbl at *
          generalize (kids.getD k default).ka = dka at *
          generalize (kids.getD k default).kids.length = dkl at *
          generalize (kids.getD k default).kc = dkc at *
          rcases hsk : (L.getD k default).sound (d + 1) with _ | _
          case false =>
            have HF : Hid ((Tr.mk tag body L).sound d = false) := Lib.hid (by rw [HOK.out]; exact Tr.sounds_not (by have := HLN.out; omega) hsk)
            rw [hsk] at HC
            clear hsk
            go_wp2_with fail
            refine HC.out.mono ?_
            rintro e w2 ⟨rfl, hb2⟩
            have HQ2 : Hid (Below w.heap.size w w2) := Lib.hid (HQ.out.trans (hb2.mono HQ.out.size))
            clear hb2 HC q0 q1 q2 z2
            go_wp2_with fail
            go_ret
            exact ⟨ret_bool HF.out.symm, HQ2.out⟩
          case true =>
            have HK2 : Hid (∀ j, j < k + 1 → (L.getD j default).sound (d + 1) = true) := Lib.hid fun j hj => by
              rcases Nat.lt_or_ge j k with h | h
              · exact HK.out j h
              · obtain rfl : j = k := by omega
                exact hsk
            rw [hsk] at HC
            clear hsk
            go_wp2_with fail
            refine HC.out.mono ?_
            rintro e w2 ⟨rfl, hb2⟩
            have HQ2 : Hid (Below w.heap.size w w2) := Lib.hid (HQ.out.trans (hb2.mono HQ.out.size))
            have HB2 := Lib.hid (HB.out.under hb2 HB.out.lt)
            clear hb2 HC q0 q1 q2 z2
            go_wp2_with fail
            go_roundw
            case rel => exact ⟨k + 1, by omega, by go_num, HK2, HQ2, HB2⟩
            case measure => simp [intOf]; omega
        case neg =>
          obtain rfl : k = n := by omega
          have hkI : ¬ ((k : Int) < (k : Int)) := by omega
          have HT2 : Hid ((Tr.mk tag body L).sound d = true) := Lib.hid (by rw [HOK.out, Tr.sounds_iff]; intro j hj; exact HK.out j (by have := HLN.out; omega))
          go_wp2_with fail
          go_ret
          exact ⟨ret_bool HT2.out.symm, HQ.out⟩
theorem sound_any (t : Lt) (w : World) (B : Nat) (hr : TrAt w B t) (hB : B ≤ w.heap.size) :
    Calls Tryd.prog 63 #[t.val, .int .i64 1] w fun e w' => e = .returned (.bool (t.t.sound 1)) ∧ Below w.heap.size w w' := sound_N (t.sz + 1) t w B 1 (Nat.lt_succ_self _) hr hB (by omega)
end Go.Proofs.YtdjklhglkmacbaaDoor
