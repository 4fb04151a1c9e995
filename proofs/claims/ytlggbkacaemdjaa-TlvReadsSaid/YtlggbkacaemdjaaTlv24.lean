/-
  How many things are asked: by the law.
-/
import Derived.Test.YtlggbkacaemdjaaTlv23
namespace Go.Proofs.Ytlggbkacaemdjaa
open Go.RowKit
set_option linter.unusedVariables false
set_option linter.unusedSimpArgs false

mutual
def Tr.many : Tr → Int → Int
  | .mk _ body kids, left => Tr.manys kids (left - 1 - ((body.length / 64 : Nat) : Int))
def Tr.manys : List Tr → Int → Int
  | [], left => left
  | x :: r, left => if 0 < left then Tr.manys r (x.many left) else left
end
theorem Tr.manys_off (l : List Tr) (left : Int) (h : ¬ 0 < left) : Tr.manys l left = left := by
  cases l with
  | nil => rw [Tr.manys]
  | cons x r => rw [Tr.manys, if_neg h]
theorem many_le : ∀ (N : Nat), (∀ (t : Tr) (left : Int), t.size < N → t.many left ≤ left - 1) ∧ (∀ (l : List Tr) (left : Int), Tr.sizes l < N → Tr.manys l left ≤ left)
  | 0 => ⟨fun t _ h => by omega, fun l _ h => by omega⟩
  | N + 1 => by
    obtain ⟨ih1, ih2⟩ := many_le N
    refine ⟨?_, ?_⟩
    · rintro ⟨tag, body, kids⟩ left h
      rw [Tr.size] at h
      rw [Tr.many]
      have := ih2 kids (left - 1 - ((body.length / 64 : Nat) : Int)) (by omega)
      omega
    · rintro (_ | ⟨x, r⟩) left h
      · rw [Tr.manys]; exact Int.le_refl _
      · rw [Tr.sizes] at h
        rw [Tr.manys]
        split
        · have h1 := ih1 x left (by omega)
          have h2 := ih2 r (x.many left) (by omega)
          omega
        · exact Int.le_refl _
theorem Tr.many_lt (t : Tr) (left : Int) : t.many left ≤ left - 1 := (many_le (t.size + 1)).1 t left (Nat.lt_succ_self _)
/-- What is not too many is not too great. -/
theorem many_small : ∀ (N : Nat), (∀ (t : Tr) (left : Int), t.size < N → 0 < t.many left → (t.count : Int) + t.many left ≤ left ∧ (t.enc.length : Int) + 80 * t.many left ≤ 80 * left) ∧
    (∀ (l : List Tr) (left : Int), Tr.sizes l < N → 0 < Tr.manys l left → (Tr.counts l : Int) + Tr.manys l left ≤ left ∧ ((Tr.encs l).length : Int) + 80 * Tr.manys l left ≤ 80 * left)
  | 0 => ⟨fun t _ h => by omega, fun l _ h => by omega⟩
  | N + 1 => by
    obtain ⟨ih1, ih2⟩ := many_small N
    refine ⟨?_, ?_⟩
    · rintro ⟨tag, body, kids⟩ left h hp
      rw [Tr.size] at h
      rw [Tr.many] at hp ⊢
      have h1 := ih2 kids (left - 1 - ((body.length / 64 : Nat) : Int)) (by omega) hp
      rw [Tr.count, Tr.enc]
      have h2 := lenB_len (body.length + (Tr.encs kids).length)
      simp only [List.length_cons, List.length_append]
      omega
    · rintro (_ | ⟨x, r⟩) left h hp
      · rw [Tr.manys] at hp ⊢
        rw [Tr.counts, Tr.encs]
        simp
      · rw [Tr.sizes] at h
        rw [Tr.manys] at hp ⊢
        by_cases h0 : 0 < left
        · rw [if_pos h0] at hp ⊢
          have h2 := ih2 r (x.many left) (by omega) hp
          have h3 : 0 < x.many left := by
            have := (many_le (Tr.sizes r + 1)).2 r (x.many left) (Nat.lt_succ_self _)
            omega
          have h1 := ih1 x left (by omega) h3
          rw [Tr.counts, Tr.encs]
          simp only [List.length_append]
          omega
        · rw [if_neg h0] at hp
          omega
theorem Tr.many_fits {t : Tr} {left : Int} (h : 0 < t.many left) (hl : left ≤ 1000) : t.count ≤ 1000000 ∧ t.enc.length ≤ 400000 := by
  have := (many_small (t.size + 1)).1 t left (Nat.lt_succ_self _) h
  omega
def RelM (w : World) (cs : Array Value) (l : List Tr) (n : Nat) (a : Int) (v i : Value) (wr : World) : Prop :=
  ∃ (k : Nat) (x : Int), k ≤ n ∧ i = .int .i64 k ∧ v = .int .i64 x ∧ x ≤ 1000 ∧ Hid (Tr.manys l a = Tr.manys (l.drop k) x) ∧ Hid (Below w.heap.size w wr) ∧ Hid (Holds wr w.heap.size 25 cs)
set_option maxRecDepth 100000 in
set_option maxHeartbeats 4000000 in
theorem many_N : ∀ (N : Nat) (t : Lt) (w : World) (B : Nat) (left : Int), t.sz < N → TrAt w B t → B ≤ w.heap.size → 0 < left → left ≤ 1000 →
    Calls Try.prog 8 #[t.val, .int .i64 left] w fun e w' => e = .returned (.int .i64 (t.t.many left)) ∧ Below w.heap.size w w' := by
  intro N
  induction N with
  | zero => intro t w B left h; omega
  | succ N ih =>
    intro t w B left hN hr hB hl0 hl1
    obtain ⟨tag, ba, bc, body, ka, kc, kids⟩ := t
    rw [trAt_mk] at hr
    obtain ⟨_, hbody, _, hrow, hkids⟩ := hr
    rw [Lt.t_mk, Tr.many]
    obtain ⟨n, hn⟩ : ∃ n, kids.length = n := ⟨_, rfl⟩
    obtain ⟨L, hL⟩ : ∃ L, kids.map Lt.t = L := ⟨_, rfl⟩
    have hLn : L.length = n := by rw [← hL, List.length_map, hn]
    rw [hL]
    have HLN := Lib.hid hLn
    have hlc : n ≤ kc := by have := hrow.1; omega
    have hc63 := hrow.2.1
    have hblc : body.length ≤ bc := hbody.1
    have hbc63 := hbody.2.1
    have HROW : Hid (∀ W, Below w.heap.size w W → RowT W B ka kc kids) := Lib.hid fun W hW => hrow.under (hW.mono hB)
    have HIH : Hid (∀ k, k < n → ∀ W, Below w.heap.size w W → ∀ x : Int, 0 < x → x ≤ 1000 → Calls Try.prog 8 #[(kids.getD k default).val, .int .i64 x] W fun e w' => e = .returned (.int .i64 ((L.getD k default).many x)) ∧ Below W.heap.size W w') := Lib.hid fun k hk W hW x hx0 hx1 => by
      have e : (L.getD k default) = (kids.getD k default).t := by rw [← hL, Lt.ts_at (by omega)]
      rw [e]
      refine ih _ W B x ?_ ((hkids k (by omega)).under' (hW.mono hB)) (by have := hW.size; omega) hx0 hx1
      have := lt_kid (tag := tag) (ba := ba) (bc := bc) (body := body) (ka := ka) (kc := kc) (kids := kids) (j := k) (by omega)
      omega
    have HN2 := Lib.hid hn
    clear hN ih hrow hkids hLn hL hbody
    have hcell : (Lt.mk tag ba bc body ka kc kids).cells = #[.int .u8 (tag : Int), .slice ba body.length bc, .slice ka n kc] := by rw [← hn]; rfl
    have hval : (Lt.mk tag ba bc body ka kc kids).val = .agg #[.int .u8 (tag : Int), .slice ba body.length bc, .slice ka n kc] := by unfold Lt.val; rw [hcell]
    rw [hval]
    have hb0 : Hid (Holds (w.alloc (.cells #[.int .u8 (tag : Int), .slice ba body.length bc, .slice ka n kc] 25)) w.heap.size 25 #[.int .u8 (tag : Int), .slice ba body.length bc, .slice ka n kc]) := Lib.hid (Holds.fresh _ _ _)
    have hq0 : Hid (Below w.heap.size w (w.alloc (.cells #[.int .u8 (tag : Int), .slice ba body.length bc, .slice ka n kc] 25))) := Lib.hid ((Below.refl _ _).alloc (Nat.le_refl _) _)
    clear hcell hval hn
    generalize body.length = bl at *
    have hq : Int.tdiv (bl : Int) 64 = ((bl / 64 : Nat) : Int) := by rw [Int.tdiv_eq_ediv_of_nonneg (by omega)]; omega
    have hbl64 : ((bl / 64 : Nat) : Int) ≤ 144115188075855872 := by omega
    generalize bl / 64 = p at *
    have z1 := hb0.out.cell 1
    go_enter Try.func8, Try.ntmps8
    go_wp2_with fail
    generalize w.alloc (.cells #[.int .u8 (tag : Int), .slice ba bl bc, .slice ka n kc] 25) = W at *
    clear z1 hq
    go_loopw [1, 5] (fun v i wr => RelM w #[.int .u8 (tag : Int), .slice ba bl bc, .slice ka n kc] L n (left - 1 - (p : Int)) v i wr) (fun v i _ => n - (intOf i).toNat)
    case atStart => exact ⟨0, left - 1 - (p : Int), Nat.zero_le _, rfl, rfl, by omega, Lib.hid rfl, hq0, hb0⟩
    case round =>
      clear hq0 hb0
      obtain ⟨k, x, hk, rfl, rfl, hx1, HM, HQ, HB⟩ := hrel
      obtain ⟨V, hV⟩ : ∃ V, V = wr := ⟨_, rfl⟩
      subst hV
      have z2 : V.cell? ⟨w.heap.size, 2, none⟩ = some (.slice ka n kc) := HB.out.cell 2
      by_cases hkn : k < n
      case pos =>
        have hkI : (k : Int) < (n : Int) := by omega
        have dk : decide ((k : Int) < (n : Int)) = true := decide_eq_true hkI
        have hk0 : (0 : Int) ≤ (k : Int) := by omega
        by_cases hx0 : 0 < x
        case pos =>
          have dx : decide (0 < x) = true := decide_eq_true hx0
          obtain ⟨b, off, rfl, hb, hcs⟩ := (HROW.out V HQ.out).2.2 (by have := HN2.out; omega)
          obtain ⟨q0, q1, q2⟩ := hcs k (by have := HN2.out; omega)
          have HC := Lib.hid (HIH.out k hkn V HQ.out x hx0 hx1)
          have HMM : Hid (Tr.manys L (left - 1 - (p : Int)) = Tr.manys (L.drop (k + 1)) ((L.getD k default).many x)) := Lib.hid (by
            have hkl : k < L.length := by have := HLN.out; omega
            rw [HM.out, List.drop_eq_getElem_cons hkl, Tr.manys, if_pos hx0]
            simp [List.getD, hkl])
          have hlt := (L.getD k default).many_lt x
          have hval : (kids.getD k default).val = .agg #[.int .u8 ((kids.getD k default).tag : Int), .slice (kids.getD k default).ba (kids.getD k default).body.length (kids.getD k default).bc, .slice (kids.getD k default).ka (kids.getD k default).kids.length (kids.getD k default).kc] := rfl
          rw [hval] at HC
          clear hcs hval HM
          generalize (kids.getD k default).tag = dt at *
          generalize (kids.getD k default).ba = dba at *
          generalize (kids.getD k default).bc = dbc at *
          generalize (kids.getD k default).body.length = dbl at *
          generalize (kids.getD k default).ka = dka at *
          generalize (kids.getD k default).kids.length = dkl at *
          generalize (kids.getD k default).kc = dkc at *
          generalize (L.getD k default).many x = y at *
          go_wp2_with fail
          refine HC.out.mono ?_
          rintro e w2 ⟨rfl, hb2⟩
          have HQ2 : Hid (Below w.heap.size w w2) := Lib.hid (HQ.out.trans (hb2.mono HQ.out.size))
          have HB2 := Lib.hid (HB.out.under hb2 HB.out.lt)
          clear hb2 HC q0 q1 q2 z2
          go_wp2_with fail
          go_roundw
          case rel => exact ⟨k + 1, y, by omega, rfl, rfl, by omega, HMM, HQ2, HB2⟩
          case measure => simp [intOf]; omega
        case neg =>
          have dx : decide (0 < x) = false := decide_eq_false hx0
          have HE : Hid (Tr.manys L (left - 1 - (p : Int)) = x) := Lib.hid (by rw [HM.out, Tr.manys_off _ _ hx0])
          go_wp2_with fail
          go_ret
          exact ⟨ret_int (by rw [HE.out]), HQ.out⟩
      case neg =>
        obtain rfl : k = n := by omega
        have hkI : ¬ ((k : Int) < (k : Int)) := by omega
        have HE : Hid (Tr.manys L (left - 1 - (p : Int)) = x) := Lib.hid (by rw [HM.out, List.drop_of_length_le (by have := HLN.out; omega), Tr.manys])
        go_wp2_with fail
        go_ret
        exact ⟨ret_int (by rw [HE.out]), HQ.out⟩
theorem many_any (t : Lt) (w : World) (B : Nat) (left : Int) (hr : TrAt w B t) (hB : B ≤ w.heap.size) (h0 : 0 < left) (h1 : left ≤ 1000) :
    Calls Try.prog 8 #[t.val, .int .i64 left] w fun e w' => e = .returned (.int .i64 (t.t.many left)) ∧ Below w.heap.size w w' := many_N (t.sz + 1) t w B left (Nat.lt_succ_self _) hr hB h0 h1
end Go.Proofs.Ytlggbkacaemdjaa
