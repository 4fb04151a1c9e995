/-
  A time's thing, by the program.
-/
import Derived.Test.YtjhpibbhkdjeiaaWhen5
namespace Go.Proofs.Ytjhpibbhkdjeiaa
open Go.RowKit
set_option linter.unusedVariables false

def tagOf (x : Parts6) : Nat := if 2050 ≤ x.y then 24 else 23
def bodyOf (x : Parts6) : List Nat := (if 2050 ≤ x.y then dig2 (x.y / 100) else []) ++ dig2 (x.y % 100) ++ dig2 x.m ++ dig2 x.d ++ dig2 x.h ++ dig2 x.i ++ dig2 x.s ++ [90]

/-- A thing is being built: the result's block, the thing's block, its body. -/
structure Mk (w0 W : World) (tag : Nat) (A : Option Addr) (n c : Nat) (L : List Nat) : Prop where
  len : L.length = n
  r : Holds W w0.heap.size 25 #[.int .u8 0, .slice none 0 0, .slice none 0 0]
  n : Holds W (w0.heap.size + 1) 25 #[.int .u8 (tag : Int), .slice A n c, .slice none 0 0]
  own : Own .u8 5 W (w0.heap.size + 2) A c L
  bel : Below w0.heap.size w0 W
theorem Mk.step {w0 W W1 : World} {tag : Nat} {A : Option Addr} {n c : Nat} {L : List Nat} (h : Mk w0 W tag A n c L) (hg : W.grownBy W1 (blockOf A)) {g c' m n' : Nat} {M : List Nat} (hm : M.length = m) (hnm : n + m = n')
    (ho : Own .u8 5 W1 (w0.heap.size + 2) (some ⟨g, 0, none⟩) c' (L ++ M)) :
    Holds W1 (w0.heap.size + 1) 25 #[.int .u8 (tag : Int), .slice A n c, .slice none 0 0] ∧ Mk w0 (W1.setCell ⟨w0.heap.size + 1, 1, none⟩ (.slice (some ⟨g, 0, none⟩) n' c')) tag (some ⟨g, 0, none⟩) n' c' (L ++ M) := by
  subst hnm
  have h1 := h.own.apart h.n (by decide)
  have h2 := h.own.apart h.r (by decide)
  have hn := Holds.grown h.n hg (Ne.symm h1)
  have hr := Holds.grown h.r hg (Ne.symm h2)
  refine ⟨hn, by rw [List.length_append, h.len, hm], hr.aside (by simp) _, hn.stored 1 _, ho.aside (by
    have := (ho.block (g := g) rfl).1
    intro e
    have e' : g = w0.heap.size + 1 := by simpa [blockOf] using e
    omega) _, ?_⟩
  refine Below.setCell ?_ (by simp) _
  refine h.bel.trans ⟨hg.os, hg.tape, hg.output, hg.size, fun k hk => hg.block k (Nat.lt_of_lt_of_le hk h.bel.size) (fun e => ?_)⟩
  have := (h.own.block e.symm).1
  omega

theorem Mk.begin (w : World) : Mk w ((w.alloc (.cells #[.int .u8 0, .slice none 0 0, .slice none 0 0] 25)).alloc (.cells #[.int .u8 23, .slice none 0 0, .slice none 0 0] 25)) 23 none 0 0 [] := by
  refine ⟨rfl, (Holds.fresh w _ _).alloc _, ?_, Own.nil _ _ _ _, ((Below.refl _ _).alloc (Nat.le_refl _) _).alloc (by simp) _⟩
  simpa using Holds.fresh (w.alloc (.cells #[.int .u8 0, .slice none 0 0, .slice none 0 0] 25)) 25 #[.int .u8 23, .slice none 0 0, .slice none 0 0]
theorem Mk.finish {w0 W : World} {tag : Nat} {A : Option Addr} {n c : Nat} {L : List Nat} (h : Mk w0 W tag A n c L) (x y z : Value) :
    Rd .u8 (((W.setCell ⟨w0.heap.size, 0, none⟩ x).setCell ⟨w0.heap.size, 1, none⟩ y).setCell ⟨w0.heap.size, 2, none⟩ z) (((W.setCell ⟨w0.heap.size, 0, none⟩ x).setCell ⟨w0.heap.size, 1, none⟩ y).setCell ⟨w0.heap.size, 2, none⟩ z).heap.size A c L ∧
    Below w0.heap.size w0 (((W.setCell ⟨w0.heap.size, 0, none⟩ x).setCell ⟨w0.heap.size, 1, none⟩ y).setCell ⟨w0.heap.size, 2, none⟩ z) := by
  have hne : ∀ i : Nat, blockOf A ≠ some (⟨w0.heap.size, i, none⟩ : Addr).block := fun i e => by
    have := (h.own.block e).1
    simp at this
    omega
  exact ⟨(((h.own.aside (hne 0) _).aside (hne 1) _).aside (hne 2) _).rd, ((h.bel.setCell (by simp) _).setCell (by simp) _).setCell (by simp) _⟩
theorem Mk.start {w v : World} {g c Y : Nat} (hr : Holds v w.heap.size 25 #[.int .u8 0, .slice none 0 0, .slice none 0 0]) (hn : Holds v (w.heap.size + 1) 25 #[.int .u8 23, .slice none 0 0, .slice none 0 0])
    (ho : Own .u8 5 v (w.heap.size + 2) (some ⟨g, 0, none⟩) c ([] ++ dig2 Y))
    (hg : ((w.alloc (.cells #[.int .u8 0, .slice none 0 0, .slice none 0 0] 25)).alloc (.cells #[.int .u8 23, .slice none 0 0, .slice none 0 0] 25)).grownBy v (blockOf none)) :
    Mk w (((v.setCell ⟨w.heap.size + 1, 0, none⟩ (.int .u8 24)).setCell ⟨w.heap.size + 1, 1, none⟩ (.slice (some ⟨g, 0, none⟩) 2 c)).setCell ⟨w.heap.size + 1, 2, none⟩ (.slice none 0 0)) 24 (some ⟨g, 0, none⟩) 2 c (dig2 Y) := by
  have hb := (ho.block (g := g) rfl).1
  have hne : blockOf (some ⟨g, 0, none⟩) ≠ some (w.heap.size + 1) := by
    intro e
    have e' : g = w.heap.size + 1 := by simpa [blockOf] using e
    omega
  refine ⟨rfl, ((hr.aside (by simp) _).aside (by simp) _).aside (by simp) _, ((hn.stored 0 _).stored 1 _).stored 2 _, ((ho.aside hne _).aside hne _).aside hne _, ?_⟩
  refine ((Below.setCell (Below.setCell (Below.setCell ?_ (by simp) _) (by simp) _) (by simp) _))
  exact (((Below.refl _ _).alloc (Nat.le_refl _) _).alloc (by simp) _).trans ⟨hg.os, hg.tape, hg.output, hg.size, fun k hk => hg.block k (by simp; omega) (by simp [blockOf])⟩
theorem Mk.alloc {w0 W : World} {tag : Nat} {A : Option Addr} {n c : Nat} {L : List Nat} (h : Mk w0 W tag A n c L) (o : Obj) : Mk w0 (W.alloc o) tag A n c L :=
  ⟨h.len, h.r.alloc o, h.n.alloc o, h.own.alloc o, h.bel.alloc h.bel.size o⟩
theorem Mk.hle {w0 W : World} {tag : Nat} {A : Option Addr} {n c : Nat} {L : List Nat} (h : Mk w0 W tag A n c L) : w0.heap.size + 2 ≤ W.heap.size := by
  have := Holds.lt h.n
  omega


theorem ix_any (a b c d e f : Value) : (∀ w, (Instr.index 33 (.agg #[a, b, c, d, e, f]) (.int .i64 0)).run Try.prog w = .ok a w) ∧ (∀ w, (Instr.index 33 (.agg #[a, b, c, d, e, f]) (.int .i64 1)).run Try.prog w = .ok b w) ∧ (∀ w, (Instr.index 33 (.agg #[a, b, c, d, e, f]) (.int .i64 2)).run Try.prog w = .ok c w) ∧
    (∀ w, (Instr.index 33 (.agg #[a, b, c, d, e, f]) (.int .i64 3)).run Try.prog w = .ok d w) ∧ (∀ w, (Instr.index 33 (.agg #[a, b, c, d, e, f]) (.int .i64 4)).run Try.prog w = .ok e w) ∧ (∀ w, (Instr.index 33 (.agg #[a, b, c, d, e, f]) (.int .i64 5)).run Try.prog w = .ok f w) :=
  ⟨fun _ => by kernel_rfl, fun _ => by kernel_rfl, fun _ => by kernel_rfl, fun _ => by kernel_rfl, fun _ => by kernel_rfl, fun _ => by kernel_rfl⟩

set_option maxRecDepth 100000 in
theorem time_no (w : World) (t : Int) (h : t < -631152000 ∨ 253402300799 < t) :
    Calls Try.prog 8 #[.int .i64 t] w fun e w' => e = .returned (.agg #[.int .u8 0, .slice none 0 0, .slice none 0 0]) ∧ Below w.heap.size w w' := by
  go_enter Try.func8, Try.ntmps8
  go_wp2_with fail
  refine (is_no _ t h).mono ?_
  rintro e w1 ⟨rfl, rfl⟩
  go_wp2_with fail
  exact bodyPost_ret (v := .agg #[.int .u8 0, .slice none 0 0, .slice none 0 0]) (by simp [results, Try.results8, go_sem]) rfl ⟨rfl, (Below.refl _ _).alloc (Nat.le_refl _) _⟩

set_option maxRecDepth 100000 in
set_option maxHeartbeats 4000000 in
theorem time_yes (w : World) (t : Int) (h0 : -631152000 ≤ t) (h1 : t ≤ 253402300799) (x : Parts6) (hx : IsDate t x) (T : Nat) (N : Nat) (hT : tagOf x = T) (hN : (bodyOf x).length = N) :
    Calls Try.prog 8 #[.int .i64 t] w fun e w' => ∃ A c, e = .returned (.agg #[.int .u8 T, .slice A N c, .slice none 0 0]) ∧ Rd .u8 w' w'.heap.size A c (bodyOf x) ∧ Below w.heap.size w w' := by
  have Hd := fun W => date_yes W t h0 h1 x hx
  have hvy := hx.y9999
  have hvm := hx.valid.m12
  have hvd := hx.valid.d31
  have b1 := hx.h23
  have b2 := hx.i59
  have b3 := hx.s59
  clear hx
  obtain ⟨y, m, d, h, i, s⟩ := x
  unfold Parts6.vals at Hd
  unfold bodyOf at hN ⊢
  unfold tagOf at hT
  simp only at Hd hN hT hvy hvm hvd b1 b2 b3 ⊢
  have HD := Lib.hid Hd
  clear Hd
  have hym : ((y : Int) % 100) = ((y % 100 : Nat) : Int) := by omega
  have HYM := Lib.hid hym
  clear hym
  have IX := fun a b c d e f => (ix_any a b c d e f)
  have i0 := fun a b c d e f => (ix_any a b c d e f).1
  have i1 := fun a b c d e f => (ix_any a b c d e f).2.1
  have i2 := fun a b c d e f => (ix_any a b c d e f).2.2.1
  have i3 := fun a b c d e f => (ix_any a b c d e f).2.2.2.1
  have i4 := fun a b c d e f => (ix_any a b c d e f).2.2.2.2.1
  have i5 := fun a b c d e f => (ix_any a b c d e f).2.2.2.2.2
  clear IX
  by_cases hy : 2050 ≤ y
  · rw [if_pos hy] at hT
    simp only [hy, if_true] at hN ⊢
    have HT := Lib.hid hT
    have HN := Lib.hid hN
    have hyd : ((y : Int) / 100) = ((y / 100 : Nat) : Int) := by omega
    have HYD := Lib.hid hyd
    clear hT hN hyd
    go_enter Try.func8, Try.ntmps8
    go_wp2_with fail
    refine (is_yes _ t h0 h1).mono ?_
    rintro e w1 ⟨rfl, rfl⟩
    go_wp2_with fail
    refine (HD.out _).mono ?_
    rintro e w1 ⟨rfl, rfl⟩
    go_wp2_with fail
    rw [HYD.out]
    refine (two_any _ (w.heap.size + 2) none 0 0 [] rfl (Own.nil _ _ _ _) (by simp) (by omega) (y / 100) (by omega)).mono ?_
    rintro e v ⟨g, c, rfl, ho, hg, _⟩
    have hr : Holds v w.heap.size 25 #[.int .u8 0, .slice none 0 0, .slice none 0 0] := Holds.grown ((Holds.fresh w _ _).alloc _) hg (by simp [blockOf])
    have hn : Holds v (w.heap.size + 1) 25 #[.int .u8 23, .slice none 0 0, .slice none 0 0] := Holds.grown (by simpa using Holds.fresh (w.alloc (.cells #[.int .u8 0, .slice none 0 0, .slice none 0 0] 25)) 25 #[.int .u8 23, .slice none 0 0, .slice none 0 0]) hg (by simp [blockOf])
    have hc := hn.cell
    have hf := hn.open_
    have hm := Mk.start hr hn ho hg
    clear hr ho hg hn
    go_wp2_with fail
    clear hc hf
    refine wp_loop_rounds 7 ?_
    rw [rounds_succ]
    have hc := hm.n.cell
    have hf := hm.n.open_
    go_wp2_with fail
    rw [HYM.out]
    clear hc hf
    refine (two_any _ (w.heap.size + 2) (some ⟨g, 0, none⟩) c 2 (dig2 (y / 100)) hm.len hm.own hm.hle (by omega) (y % 100) (by omega)).mono ?_
    rintro e v0 ⟨g0, c0, rfl, ho0, hg0, _⟩
    have hs0 := Mk.step hm hg0 (m := 2) (n' := 4) rfl rfl ho0
    have hm0 := hs0.2
    have hc0 := hs0.1.cell
    have hf0 := hs0.1.open_
    clear ho0 hg0 hs0 hm
    go_wp2_with fail
    clear hc0 hf0
    rw [rounds_succ]
    have hc0 := hm0.n.cell
    have hf0 := hm0.n.open_
    go_wp2_with fail
    clear hc0 hf0
    refine (two_any _ (w.heap.size + 2) (some ⟨g0, 0, none⟩) c0 4 ((dig2 (y / 100)) ++ dig2 (y % 100)) hm0.len hm0.own hm0.hle (by omega) (m) (by omega)).mono ?_
    rintro e v1 ⟨g1, c1, rfl, ho1, hg1, _⟩
    have hs1 := Mk.step hm0 hg1 (m := 2) (n' := 6) rfl rfl ho1
    have hm1 := hs1.2
    have hc1 := hs1.1.cell
    have hf1 := hs1.1.open_
    clear ho1 hg1 hs1 hm0
    go_wp2_with fail
    clear hc1 hf1
    rw [rounds_succ]
    have hc1 := hm1.n.cell
    have hf1 := hm1.n.open_
    go_wp2_with fail
    clear hc1 hf1
    refine (two_any _ (w.heap.size + 2) (some ⟨g1, 0, none⟩) c1 6 (((dig2 (y / 100)) ++ dig2 (y % 100)) ++ dig2 (m)) hm1.len hm1.own hm1.hle (by omega) (d) (by omega)).mono ?_
    rintro e v2 ⟨g2, c2, rfl, ho2, hg2, _⟩
    have hs2 := Mk.step hm1 hg2 (m := 2) (n' := 8) rfl rfl ho2
    have hm2 := hs2.2
    have hc2 := hs2.1.cell
    have hf2 := hs2.1.open_
    clear ho2 hg2 hs2 hm1
    go_wp2_with fail
    clear hc2 hf2
    rw [rounds_succ]
    have hc2 := hm2.n.cell
    have hf2 := hm2.n.open_
    go_wp2_with fail
    clear hc2 hf2
    refine (two_any _ (w.heap.size + 2) (some ⟨g2, 0, none⟩) c2 8 ((((dig2 (y / 100)) ++ dig2 (y % 100)) ++ dig2 (m)) ++ dig2 (d)) hm2.len hm2.own hm2.hle (by omega) (h) (by omega)).mono ?_
    rintro e v3 ⟨g3, c3, rfl, ho3, hg3, _⟩
    have hs3 := Mk.step hm2 hg3 (m := 2) (n' := 10) rfl rfl ho3
    have hm3 := hs3.2
    have hc3 := hs3.1.cell
    have hf3 := hs3.1.open_
    clear ho3 hg3 hs3 hm2
    go_wp2_with fail
    clear hc3 hf3
    rw [rounds_succ]
    have hc3 := hm3.n.cell
    have hf3 := hm3.n.open_
    go_wp2_with fail
    clear hc3 hf3
    refine (two_any _ (w.heap.size + 2) (some ⟨g3, 0, none⟩) c3 10 (((((dig2 (y / 100)) ++ dig2 (y % 100)) ++ dig2 (m)) ++ dig2 (d)) ++ dig2 (h)) hm3.len hm3.own hm3.hle (by omega) (i) (by omega)).mono ?_
    rintro e v4 ⟨g4, c4, rfl, ho4, hg4, _⟩
    have hs4 := Mk.step hm3 hg4 (m := 2) (n' := 12) rfl rfl ho4
    have hm4 := hs4.2
    have hc4 := hs4.1.cell
    have hf4 := hs4.1.open_
    clear ho4 hg4 hs4 hm3
    go_wp2_with fail
    clear hc4 hf4
    rw [rounds_succ]
    have hc4 := hm4.n.cell
    have hf4 := hm4.n.open_
    go_wp2_with fail
    clear hc4 hf4
    refine (two_any _ (w.heap.size + 2) (some ⟨g4, 0, none⟩) c4 12 ((((((dig2 (y / 100)) ++ dig2 (y % 100)) ++ dig2 (m)) ++ dig2 (d)) ++ dig2 (h)) ++ dig2 (i)) hm4.len hm4.own hm4.hle (by omega) (s) (by omega)).mono ?_
    rintro e v5 ⟨g5, c5, rfl, ho5, hg5, _⟩
    have hs5 := Mk.step hm4 hg5 (m := 2) (n' := 14) rfl rfl ho5
    have hm5 := hs5.2
    have hc5 := hs5.1.cell
    have hf5 := hs5.1.open_
    clear ho5 hg5 hs5 hm4
    go_wp2_with fail
    clear hc5 hf5
    rw [rounds_succ]
    have hc5 := hm5.n.cell
    have hf5 := hm5.n.open_
    generalize (v5.setCell ⟨w.heap.size + 1, 1, none⟩ (.slice (some ⟨g5, 0, none⟩) 14 c5)) = V at *
    have HH : Hid (Holds (V.alloc (.cells #[.int .u8 90] 5)) V.heap.size 5 (nums .u8 [90])) := Lib.hid (Holds.fresh V 5 (nums .u8 [90]))
    have HO := Lib.hid hm5.own
    have HZ := Lib.hid (show w.heap.size + 2 ≤ _ from hm5.hle)
    have HL := Lib.hid hm5.len
    go_wp2_with (with_reducible refine wpList_push _ rfl (.tmp 50) (.tmp 51) 22 rfl .u8 (w.heap.size + 2) 5 1 Try.underlying22 info_u8 (some ⟨g5, 0, none⟩) 14 c5 (((((((dig2 (y / 100)) ++ dig2 (y % 100)) ++ dig2 (m)) ++ dig2 (d)) ++ dig2 (h)) ++ dig2 (i)) ++ dig2 (s)) rfl HL.out (HO.out.alloc _) V.heap.size 1 1 [90] rfl rfl HH.out (by omega) (by omega) (by omega) (Nat.le_trans HZ.out (by simp)) ?hk24)
    intro gz cz wz hoz hgz hatz
    have hz := Mk.step (W := _) (hm5.alloc _) hgz (m := 1) (n' := 15) rfl rfl (g := gz) (c' := cz) (M := [90]) (by first | exact hoz | simpa only [List.append_assoc] using hoz)
    have hmz := hz.2
    have hcz := hz.1.cell
    have hfz := hz.1.open_
    clear hoz hgz hatz hz hm5 HO HZ HL HH
    have hcr := hmz.r.cell
    have hfr := hmz.r.open_
    have hcn := hmz.n.cell
    have hfn := hmz.n.open_
    go_wp2_with fail
    refine bodyPost_ret (v := .agg #[.int .u8 24, .slice (some ⟨gz, 0, none⟩) 15 cz, .slice none 0 0]) (by simp [results, Try.results8, go_sem, hcr]) rfl ⟨some ⟨gz, 0, none⟩, cz, ?_, ?_⟩
    · rw [← HT.out, ← HN.out]; rfl
    · have hfin := hmz.finish (.int .u8 24) (.slice (some ⟨gz, 0, none⟩) 15 cz) (.slice none 0 0)
      exact hfin
  · rw [if_neg hy] at hT
    simp only [hy, if_false, List.nil_append] at hN ⊢
    have HT := Lib.hid hT
    have HN := Lib.hid hN
    clear hT hN
    go_enter Try.func8, Try.ntmps8
    go_wp2_with fail
    refine (is_yes _ t h0 h1).mono ?_
    rintro e w1 ⟨rfl, rfl⟩
    go_wp2_with fail
    refine (HD.out _).mono ?_
    rintro e w1 ⟨rfl, rfl⟩
    obtain ⟨L0, HL0⟩ : ∃ L0 : List Nat, Hid (L0 = []) := ⟨_, rfl⟩
    have hm := Mk.begin w
    rw [← HL0.out] at hm
    go_wp2_with fail
    generalize ((w.alloc (.cells #[.int .u8 0, .slice none 0 0, .slice none 0 0] 25)).alloc (.cells #[.int .u8 23, .slice none 0 0, .slice none 0 0] 25)) = v at *
    refine wp_loop_rounds 7 ?_
    rw [rounds_succ]
    have hc := hm.n.cell
    have hf := hm.n.open_
    go_wp2_with fail
    rw [HYM.out]
    clear hc hf
    refine (two_any _ (w.heap.size + 2) none 0 0 L0 hm.len hm.own hm.hle (by omega) (y % 100) (by omega)).mono ?_
    rintro e v0 ⟨g0, c0, rfl, ho0, hg0, _⟩
    have hs0 := Mk.step hm hg0 (m := 2) (n' := 2) rfl rfl ho0
    have hm0 := hs0.2
    have hc0 := hs0.1.cell
    have hf0 := hs0.1.open_
    clear ho0 hg0 hs0 hm
    go_wp2_with fail
    clear hc0 hf0
    rw [rounds_succ]
    have hc0 := hm0.n.cell
    have hf0 := hm0.n.open_
    go_wp2_with fail
    clear hc0 hf0
    refine (two_any _ (w.heap.size + 2) (some ⟨g0, 0, none⟩) c0 2 (L0 ++ dig2 (y % 100)) hm0.len hm0.own hm0.hle (by omega) (m) (by omega)).mono ?_
    rintro e v1 ⟨g1, c1, rfl, ho1, hg1, _⟩
    have hs1 := Mk.step hm0 hg1 (m := 2) (n' := 4) rfl rfl ho1
    have hm1 := hs1.2
    have hc1 := hs1.1.cell
    have hf1 := hs1.1.open_
    clear ho1 hg1 hs1 hm0
    go_wp2_with fail
    clear hc1 hf1
    rw [rounds_succ]
    have hc1 := hm1.n.cell
    have hf1 := hm1.n.open_
    go_wp2_with fail
    clear hc1 hf1
    refine (two_any _ (w.heap.size + 2) (some ⟨g1, 0, none⟩) c1 4 ((L0 ++ dig2 (y % 100)) ++ dig2 (m)) hm1.len hm1.own hm1.hle (by omega) (d) (by omega)).mono ?_
    rintro e v2 ⟨g2, c2, rfl, ho2, hg2, _⟩
    have hs2 := Mk.step hm1 hg2 (m := 2) (n' := 6) rfl rfl ho2
    have hm2 := hs2.2
    have hc2 := hs2.1.cell
    have hf2 := hs2.1.open_
    clear ho2 hg2 hs2 hm1
    go_wp2_with fail
    clear hc2 hf2
    rw [rounds_succ]
    have hc2 := hm2.n.cell
    have hf2 := hm2.n.open_
    go_wp2_with fail
    clear hc2 hf2
    refine (two_any _ (w.heap.size + 2) (some ⟨g2, 0, none⟩) c2 6 (((L0 ++ dig2 (y % 100)) ++ dig2 (m)) ++ dig2 (d)) hm2.len hm2.own hm2.hle (by omega) (h) (by omega)).mono ?_
    rintro e v3 ⟨g3, c3, rfl, ho3, hg3, _⟩
    have hs3 := Mk.step hm2 hg3 (m := 2) (n' := 8) rfl rfl ho3
    have hm3 := hs3.2
    have hc3 := hs3.1.cell
    have hf3 := hs3.1.open_
    clear ho3 hg3 hs3 hm2
    go_wp2_with fail
    clear hc3 hf3
    rw [rounds_succ]
    have hc3 := hm3.n.cell
    have hf3 := hm3.n.open_
    go_wp2_with fail
    clear hc3 hf3
    refine (two_any _ (w.heap.size + 2) (some ⟨g3, 0, none⟩) c3 8 ((((L0 ++ dig2 (y % 100)) ++ dig2 (m)) ++ dig2 (d)) ++ dig2 (h)) hm3.len hm3.own hm3.hle (by omega) (i) (by omega)).mono ?_
    rintro e v4 ⟨g4, c4, rfl, ho4, hg4, _⟩
    have hs4 := Mk.step hm3 hg4 (m := 2) (n' := 10) rfl rfl ho4
    have hm4 := hs4.2
    have hc4 := hs4.1.cell
    have hf4 := hs4.1.open_
    clear ho4 hg4 hs4 hm3
    go_wp2_with fail
    clear hc4 hf4
    rw [rounds_succ]
    have hc4 := hm4.n.cell
    have hf4 := hm4.n.open_
    go_wp2_with fail
    clear hc4 hf4
    refine (two_any _ (w.heap.size + 2) (some ⟨g4, 0, none⟩) c4 10 (((((L0 ++ dig2 (y % 100)) ++ dig2 (m)) ++ dig2 (d)) ++ dig2 (h)) ++ dig2 (i)) hm4.len hm4.own hm4.hle (by omega) (s) (by omega)).mono ?_
    rintro e v5 ⟨g5, c5, rfl, ho5, hg5, _⟩
    have hs5 := Mk.step hm4 hg5 (m := 2) (n' := 12) rfl rfl ho5
    have hm5 := hs5.2
    have hc5 := hs5.1.cell
    have hf5 := hs5.1.open_
    clear ho5 hg5 hs5 hm4
    go_wp2_with fail
    clear hc5 hf5
    rw [rounds_succ]
    have hc5 := hm5.n.cell
    have hf5 := hm5.n.open_
    generalize (v5.setCell ⟨w.heap.size + 1, 1, none⟩ (.slice (some ⟨g5, 0, none⟩) 12 c5)) = V at *
    have HH : Hid (Holds (V.alloc (.cells #[.int .u8 90] 5)) V.heap.size 5 (nums .u8 [90])) := Lib.hid (Holds.fresh V 5 (nums .u8 [90]))
    have HO := Lib.hid hm5.own
    have HZ := Lib.hid (show w.heap.size + 2 ≤ _ from hm5.hle)
    have HL := Lib.hid hm5.len
    go_wp2_with (with_reducible refine wpList_push _ rfl (.tmp 50) (.tmp 51) 22 rfl .u8 (w.heap.size + 2) 5 1 Try.underlying22 info_u8 (some ⟨g5, 0, none⟩) 12 c5 ((((((L0 ++ dig2 (y % 100)) ++ dig2 (m)) ++ dig2 (d)) ++ dig2 (h)) ++ dig2 (i)) ++ dig2 (s)) rfl HL.out (HO.out.alloc _) V.heap.size 1 1 [90] rfl rfl HH.out (by omega) (by omega) (by omega) (Nat.le_trans HZ.out (by simp)) ?hk23)
    intro gz cz wz hoz hgz hatz
    have hz := Mk.step (W := _) (hm5.alloc _) hgz (m := 1) (n' := 13) rfl rfl (g := gz) (c' := cz) (M := [90]) (by first | exact hoz | simpa only [List.append_assoc] using hoz)
    have hmz := hz.2
    have hcz := hz.1.cell
    have hfz := hz.1.open_
    clear hoz hgz hatz hz hm5 HO HZ HL HH
    have hcr := hmz.r.cell
    have hfr := hmz.r.open_
    have hcn := hmz.n.cell
    have hfn := hmz.n.open_
    go_wp2_with fail
    refine bodyPost_ret (v := .agg #[.int .u8 23, .slice (some ⟨gz, 0, none⟩) 13 cz, .slice none 0 0]) (by simp [results, Try.results8, go_sem, hcr]) rfl ⟨some ⟨gz, 0, none⟩, cz, ?_, ?_⟩
    · rw [← HT.out, ← HN.out]; rfl
    · have hfin := hmz.finish (.int .u8 23) (.slice (some ⟨gz, 0, none⟩) 13 cz) (.slice none 0 0)
      rw [HL0.out] at hfin; exact hfin
end Go.Proofs.Ytjhpibbhkdjeiaa
