/-
  A time's thing, by the document.
-/
import Derived.Test.YtjhpibbhkdjeiaaWhen8
import Derived.Deep.RegionHeld3
import Derived.Deep.RegionLaw
import Derived.Deep.DrawnRows
namespace Go.Proofs.Ytjhpibbhkdjeiaa
open Go.RowKit
set_option linter.unusedVariables false
attribute [local go_sem ↓] Go.wp_at_zero Go.wp_at_succ

set_option maxRecDepth 100000 in
theorem time'_no (w : World) (t : Int) (h : t < -631152000 ∨ 253402300799 < t) :
    Calls Try.prog 12 #[.int .i64 t] w fun e w' => e = .returned (.agg #[.int .u8 0, .slice none 0 0, .slice none 0 0]) ∧ Below w.heap.size w w' := by
  go_enter Try.func12, Try.ntmps12
  go_wp2_with fail
  refine (is'_no _ t h).mono ?_
  rintro e w1 ⟨rfl, rfl⟩
  go_wp2_with fail
  exact bodyPost_ret (v := .agg #[.int .u8 0, .slice none 0 0, .slice none 0 0]) (by simp [results, Try.results12, go_sem]) rfl ⟨rfl, (Below.refl _ _).alloc (Nat.le_refl _) _⟩

/-- A thing is being built, beside a date: the result's block, the date's, the thing's, its body. -/
structure Md (w0 W : World) (G : Nat) (ds : Array Value) (tag : Nat) (A : Option Addr) (n c : Nat) (L : List Nat) : Prop where
  hG : w0.heap.size < G
  len : L.length = n
  r : Holds W w0.heap.size 25 #[.int .u8 0, .slice none 0 0, .slice none 0 0]
  d : Holds W G 33 ds
  n : Holds W (G + 1) 25 #[.int .u8 (tag : Int), .slice A n c, .slice none 0 0]
  own : Own .u8 5 W (G + 2) A c L
  bel : Below w0.heap.size w0 W
theorem Md.step {w0 W W1 : World} {G : Nat} {ds : Array Value} {tag : Nat} {A : Option Addr} {n c : Nat} {L : List Nat} (h : Md w0 W G ds tag A n c L) (hg : W.grownBy W1 (blockOf A)) {g c' m n' : Nat} {M : List Nat} (hm : M.length = m) (hnm : n + m = n')
    (ho : Own .u8 5 W1 (G + 2) (some ⟨g, 0, none⟩) c' (L ++ M)) :
    Holds W1 (G + 1) 25 #[.int .u8 (tag : Int), .slice A n c, .slice none 0 0] ∧ Holds W1 G 33 ds ∧ Md w0 (W1.setCell ⟨G + 1, 1, none⟩ (.slice (some ⟨g, 0, none⟩) n' c')) G ds tag (some ⟨g, 0, none⟩) n' c' (L ++ M) := by
  subst hnm
  have hG := h.hG
  have h1 := h.own.apart h.n (by decide)
  have h2 := h.own.apart h.r (by decide)
  have h3 := h.own.apart h.d (by decide)
  have hn := Holds.grown h.n hg (Ne.symm h1)
  have hr := Holds.grown h.r hg (Ne.symm h2)
  have hd := Holds.grown h.d hg (Ne.symm h3)
  refine ⟨hn, hd, hG, by rw [List.length_append, h.len, hm], hr.aside (by simp; omega) _, hd.aside (by simp) _, hn.stored 1 _, ho.aside (by
    have := (ho.block (g := g) rfl).1
    intro e
    have e' : g = G + 1 := by simpa [blockOf] using e
    omega) _, ?_⟩
  refine Below.setCell ?_ (by simp; omega) _
  refine h.bel.trans ⟨hg.os, hg.tape, hg.output, hg.size, fun k hk => hg.block k (Nat.lt_of_lt_of_le hk h.bel.size) (fun e => ?_)⟩
  have := (h.own.block e.symm).1
  omega
theorem Md.drewN {w0 W : World} {G : Nat} {ds : Array Value} {tag : Nat} {A : Option Addr} {n c : Nat} {L : List Nat} (h : Md w0 W G ds tag A n c L) (k : Nat) : Md w0 (W.drewN k) G ds tag A n c L :=
  ⟨h.hG, h.len, h.r, h.d, h.n, h.own, below_drewN h.bel k⟩
theorem Md.drew {w0 W : World} {G : Nat} {ds : Array Value} {tag : Nat} {A : Option Addr} {n c : Nat} {L : List Nat} (h : Md w0 W G ds tag A n c L) : Md w0 W.drew G ds tag A n c L :=
  ⟨h.hG, h.len, h.r, h.d, h.n, h.own, h.bel.drew⟩
theorem Md.alloc {w0 W : World} {G : Nat} {ds : Array Value} {tag : Nat} {A : Option Addr} {n c : Nat} {L : List Nat} (h : Md w0 W G ds tag A n c L) (o : Obj) : Md w0 (W.alloc o) G ds tag A n c L :=
  ⟨h.hG, h.len, h.r.alloc o, h.d.alloc o, h.n.alloc o, h.own.alloc o, h.bel.alloc h.bel.size o⟩
theorem Md.hle {w0 W : World} {G : Nat} {ds : Array Value} {tag : Nat} {A : Option Addr} {n c : Nat} {L : List Nat} (h : Md w0 W G ds tag A n c L) : G + 2 ≤ W.heap.size := by
  have := Holds.lt h.n
  omega
theorem Md.begin {w W : World} (ds : Array Value) (hr : Holds W w.heap.size 25 #[.int .u8 0, .slice none 0 0, .slice none 0 0]) (hb : Below w.heap.size w W) :
    Md w ((W.alloc (.cells ds 33)).alloc (.cells #[.int .u8 23, .slice none 0 0, .slice none 0 0] 25)) W.heap.size ds 23 none 0 0 [] := by
  refine ⟨Holds.lt hr, rfl, (hr.alloc _).alloc _, (Holds.fresh W _ _).alloc _, ?_, Own.nil _ _ _ _, (hb.alloc hb.size _).alloc (by have := hb.size; simp; omega) _⟩
  simpa using Holds.fresh (W.alloc (.cells ds 33)) 25 #[.int .u8 23, .slice none 0 0, .slice none 0 0]
theorem Md.lead {w W : World} {G : Nat} {ds : Array Value} {Y : Nat} (h : Md w W G ds 23 none 0 0 []) :
    Md w ((((W.alloc (.cells (nums .u8 (dig2 Y)) 5)).setCell ⟨G + 1, 0, none⟩ (.int .u8 24)).setCell ⟨G + 1, 1, none⟩ (.slice (some ⟨W.heap.size, 0, none⟩) 2 2)).setCell ⟨G + 1, 2, none⟩ (.slice none 0 0)) G ds 24 (some ⟨W.heap.size, 0, none⟩) 2 2 (dig2 Y) := by
  have hG := h.hG
  have hle := h.hle
  have hne : blockOf (some ⟨W.heap.size, 0, none⟩) ≠ some (G + 1) := by
    intro e
    have e' : W.heap.size = G + 1 := by simpa [blockOf] using e
    omega
  have ho : Own .u8 5 (W.alloc (.cells (nums .u8 (dig2 Y)) 5)) (G + 2) (some ⟨W.heap.size, 0, none⟩) 2 (dig2 Y) := Own.of_row (l := dig2 Y) hle (by show 2 ≤ _; omega) (Holds.fresh W _ _)
  refine ⟨hG, rfl, (((h.r.alloc _).aside (by simp; omega) _).aside (by simp; omega) _).aside (by simp; omega) _, (((h.d.alloc _).aside (by simp) _).aside (by simp) _).aside (by simp) _, (((h.n.alloc _).stored 0 _).stored 1 _).stored 2 _, ((ho.aside hne _).aside hne _).aside hne _, ?_⟩
  exact Below.setCell (Below.setCell (Below.setCell (h.bel.alloc h.bel.size _) (by simp; omega) _) (by simp; omega) _) (by simp; omega) _
theorem Md.finish {w0 W : World} {G : Nat} {ds : Array Value} {tag : Nat} {A : Option Addr} {n c : Nat} {L : List Nat} (h : Md w0 W G ds tag A n c L) (x y z : Value) :
    Rd .u8 (((W.setCell ⟨w0.heap.size, 0, none⟩ x).setCell ⟨w0.heap.size, 1, none⟩ y).setCell ⟨w0.heap.size, 2, none⟩ z) (((W.setCell ⟨w0.heap.size, 0, none⟩ x).setCell ⟨w0.heap.size, 1, none⟩ y).setCell ⟨w0.heap.size, 2, none⟩ z).heap.size A c L ∧
    Below w0.heap.size w0 (((W.setCell ⟨w0.heap.size, 0, none⟩ x).setCell ⟨w0.heap.size, 1, none⟩ y).setCell ⟨w0.heap.size, 2, none⟩ z) := by
  have hG := h.hG
  have hne : ∀ i : Nat, blockOf A ≠ some (⟨w0.heap.size, i, none⟩ : Addr).block := fun i e => by
    have := (h.own.block e).1
    simp at this
    omega
  exact ⟨(((h.own.aside (hne 0) _).aside (hne 1) _).aside (hne 2) _).rd, ((h.bel.setCell (by simp) _).setCell (by simp) _).setCell (by simp) _⟩

def digs (l : List Nat) : List Nat := (l.map dig2).flatten
theorem digs_length (l : List Nat) : (digs l).length = 2 * l.length := by
  unfold digs
  induction l with
  | nil => rfl
  | cons x l ih => simp [dig2] at ih ⊢; omega
theorem digs_next (l : List Nat) {k : Nat} (hk : k < l.length) : digs (l.take (k+1)) = digs (l.take k) ++ dig2 (l.getD k 0) := by
  unfold digs
  rw [List.take_succ_eq_append_getElem hk]
  rw [List.map_append, List.flatten_append]
  simp [List.getD, hk]
def cells6 (l : List Nat) : Array Value := (l.map fun v : Nat => Value.int .i64 (v : Int)).toArray
theorem cells6_at (l : List Nat) {k : Nat} (hk : k < l.length) : (cells6 l)[k]? = some (.int .i64 ((l.getD k 0 : Nat) : Int)) := by
  simp [cells6, List.getD, hk]

/-- What holds at each round's head. -/
def AtRound (w : World) (G : Nat) (vs L0 : List Nat) (tag : Nat) (v : Value) (W : World) : Prop :=
  ∃ (k n c : Nat) (A : Option Addr), v = .int .i64 (k : Int) ∧ k ≤ 6 ∧ n = L0.length + 2 * k ∧ Md w W G (cells6 vs) tag A n c (L0 ++ digs (vs.take k))

set_option maxRecDepth 100000 in
set_option maxHeartbeats 4000000 in
theorem time'_yes (w : World) (t : Int) (h0 : -631152000 ≤ t) (h1 : t ≤ 253402300799) (x : Parts6) (hx : IsDate t x) (T : Nat) (N : Nat) (hT : tagOf x = T) (hN : (bodyOf x).length = N) :
    Calls Try.prog 12 #[.int .i64 t] w fun e w' => ∃ A c, e = .returned (.agg #[.int .u8 T, .slice A N c, .slice none 0 0]) ∧ Rd .u8 w' w'.heap.size A c (bodyOf x) ∧ Below w.heap.size w w' := by
  have Hd := fun W => date'_yes W t h0 h1 x hx
  have hvy := hx.y9999
  have hvm := hx.valid.m12
  have hvd := hx.valid.d31
  have b1 := hx.h23
  have b2 := hx.i59
  have b3 := hx.s59
  clear hx
  obtain ⟨y, m, d, h, i, s⟩ := x
  unfold Parts6.vals at Hd
  unfold bodyOf at hN ⊢
  unfold tagOf at hT
  simp only at Hd hN hT hvy hvm hvd b1 b2 b3 ⊢
  have HD := Lib.hid Hd
  clear Hd
  by_cases hy : 2050 ≤ y
  · rw [if_pos hy] at hT
    simp only [hy, if_true] at hN ⊢
    have HT := Lib.hid hT
    have HN := Lib.hid hN
    have hyd : ((y : Int) / 100) = ((y / 100 : Nat) : Int) := by omega
    have HYD := Lib.hid hyd
    clear hT hN hyd
    go_enter Try.func12, Try.ntmps12
    go_wp2_with fail
    refine (is'_yes _ t h0 h1).mono ?_
    rintro e w1 ⟨rfl, rfl⟩
    go_wp2_with fail
    refine (HD.out _).mono ?_
    rintro e w1 ⟨rfl, hb1⟩
    have hr := (Holds.fresh w 25 #[.int .u8 0, .slice none 0 0, .slice none 0 0]).under hb1 (by simp)
    have hz : w.heap.size + 1 ≤ w1.heap.size := by have := hb1.size; simpa using this
    have hbw : Below w.heap.size w w1 := ((Below.refl _ _).alloc (Nat.le_refl _) _).trans (hb1.mono (by simp))
    clear hb1
    go_wp2_with fail
    rw [HYD.out]
    have hm := Md.begin #[.int .i64 y, .int .i64 m, .int .i64 d, .int .i64 h, .int .i64 i, .int .i64 s] hr hbw
    clear hr hbw hz
    generalize ((w1.alloc (.cells #[.int .i64 y, .int .i64 m, .int .i64 d, .int .i64 h, .int .i64 i, .int .i64 s] 33)).alloc (.cells #[.int .u8 23, .slice none 0 0, .slice none 0 0] 25)) = W at *
    generalize w1.heap.size = G at *
    refine (two'_any W (y / 100) (by omega)).mono ?_
    rintro e W2 ⟨rfl, rfl⟩
    have hm2 := hm.lead (Y := y / 100)
    have hcn := (hm.n.alloc (.cells (nums .u8 (dig2 (y / 100))) 5)).cell
    have hfn := (hm.n.alloc (.cells (nums .u8 (dig2 (y / 100))) 5)).open_
    clear hm
    generalize W.alloc (.cells (nums .u8 (dig2 (y / 100))) 5) = W3 at *
    go_wp2_with fail
    clear hcn hfn
    generalize (((W3.setCell ⟨G + 1, 0, none⟩ (.int .u8 24)).setCell ⟨G + 1, 1, none⟩ (.slice (some ⟨W.heap.size, 0, none⟩) 2 2)).setCell ⟨G + 1, 2, none⟩ (.slice none 0 0)) = V at *
    generalize W.heap.size = g0 at *
    have hm3 : Md w V G (cells6 [y, m, d, h, i, s]) 24 (some ⟨g0, 0, none⟩) 2 2 (dig2 (y / 100)) := hm2
    clear hm2
    go_loopw [5] (fun v wr => AtRound w G [y, m, d, h, i, s] (dig2 (y / 100)) 24 v wr) (fun v _ => 6 - (intOf v).toNat)
    case atStart => exact ⟨0, 2, 2, _, rfl, by omega, rfl, by rw [List.take_zero]; exact hm3⟩
    case round =>
      obtain ⟨k, n, c, A, rfl, hk, hn, hmr⟩ := hrel
      have hbd : ∀ v ∈ [y, m, d, h, i, s], v ≤ 10000 := by
        intro v hv
        simp at hv
        omega
      by_cases hk6 : k < 6
      · obtain ⟨x, Hx⟩ : ∃ x, Hid (x = [y, m, d, h, i, s].getD k 0) := ⟨_, rfl⟩
        have hx : x ≤ 10000 := by
          rw [Hx.out]
          exact hbd _ (by rw [List.getD, List.getElem?_eq_getElem (by simpa using hk6)]; exact List.getElem_mem _)
        have hL := hmr.len
        have hc1 : wr.cell? ⟨G, k, none⟩ = some (.int .i64 (x : Int)) := by rw [Hx.out]; exact (hmr.d.cell k).trans (cells6_at [y, m, d, h, i, s] (by simpa using hk6))
        have hc2 : wr.cell? ⟨G + 1, 1, none⟩ = some (.slice A n c) := hmr.n.cell 1
        have hf2 : wr.frozen? ⟨G + 1, 1, none⟩ = false := hmr.n.open_ 1
        have hle := hmr.hle
        have hc3 : (wr.alloc (.cells (nums .u8 (dig2 x)) 5)).cell? ⟨G + 1, 1, none⟩ = some (.slice A n c) := (hmr.alloc _).n.cell 1
        have hkI : (0 : Int) ≤ (k : Int) := by omega
        have hkI6 : (k : Int) < 6 := by omega
        have Hhm := Lib.hid hmr
        have Hdg := Lib.hid (digs_next [y, m, d, h, i, s] (k := k) (by simpa using hk6))
        have Hn := Lib.hid hn
        have HL := Lib.hid hL
        have hn20 : n ≤ 20 := by have : (dig2 (y / 100)).length = 2 := rfl; omega
        clear hmr hn hL hbd
        obtain ⟨LL, HLL⟩ : ∃ LL, Hid (LL = dig2 (y / 100) ++ digs (List.take k [y, m, d, h, i, s])) := ⟨_, Lib.hid (Eq.refl (dig2 (y / 100) ++ digs (List.take k [y, m, d, h, i, s])))⟩
        rw [← HLL.out] at Hhm HL
        go_wp2_with fail
        go_region_law (first
          | (go_simp; go_at_call 20; refine (two'_any _ x (by omega)).mono ?_; rintro e w' ⟨rfl, rfl⟩; go_simp)
          | (refine step_push _ ?_ (.tmp 26) (.tmp 30) 22 ?_ .u8 (G + 2) 5 1 Try.underlying22 info_u8 A n c LL ?_ HL.out ?_ wr.heap.size 2 2 (dig2 x) ?_ rfl ?_ (by omega) (by omega) (by omega) ?_ ?_; (focus rfl); (focus rfl); (focus rfl); (focus exact Own.alloc Hhm.out.own _); (focus rfl); (focus exact Holds.fresh wr.drew _ _); (focus (simp; omega)); intro g1 c1 w2 ho hg _; have hh := Md.step (Hhm.out.alloc (.cells (nums .u8 (dig2 x)) 5)).drew hg rfl rfl ho; have hq1 := hh.1.cell 1; have hq2 := hh.1.open_ 1; have HH := Lib.hid hh; clear hh))
        all_goals
          go_wp2_with fail
          go_roundw
          case rel =>
            refine ⟨k + 1, n + 2, c1, some ⟨g1, 0, none⟩, by go_num, by omega, by have := Hn.out; omega, ?_⟩
            rw [Hdg.out, ← List.append_assoc, ← Hx.out, ← HLL.out]
            exact HH.out.2.2
          case measure => simp [intOf]; omega
      · obtain rfl : k = 6 := by omega
        have hcc : [y, m, d, h, i, s].take 6 = [y, m, d, h, i, s] := rfl
        rw [hcc] at hmr
        obtain rfl : n = 14 := hn
        have hL := hmr.len
        generalize HLL : dig2 (y / 100) ++ digs [y, m, d, h, i, s] = LL at *
        have HO := Lib.hid hmr.own
        have HZ := Lib.hid hmr.hle
        have HL := Lib.hid hL
        have HH : Hid (Holds (wr.alloc (.cells #[.int .u8 90] 5)) wr.heap.size 5 (nums .u8 [90])) := Lib.hid (Holds.fresh wr 5 (nums .u8 [90]))
        have hc2 : wr.cell? ⟨G + 1, 1, none⟩ = some (.slice A 14 c) := hmr.n.cell 1
        have hf2 : wr.frozen? ⟨G + 1, 1, none⟩ = false := hmr.n.open_ 1
        have HM := Lib.hid hmr
        have HE := Lib.hid HLL
        clear hmr hcc hL hbd HLL
        go_wp2_with (with_reducible refine wpList_push _ rfl (.tmp 34) (.tmp 35) 22 rfl .u8 (G + 2) 5 1 Try.underlying22 info_u8 A 14 c LL rfl HL.out (HO.out.alloc _) wr.heap.size 1 1 [90] rfl rfl HH.out (by omega) (by omega) (by omega) (Nat.le_trans HZ.out (by simp)) ?hk)
        intro gz cz wz hoz hgz hatz
        have hz := Md.step (HM.out.alloc (.cells #[.int .u8 90] 5)) hgz (m := 1) (n' := 15) rfl rfl hoz
        have hmz := hz.2.2
        have hcz := hz.1.cell
        have hfz := hz.1.open_
        have hcr := hmz.r.cell
        have hfr := hmz.r.open_
        have hcn := hmz.n.cell
        have hfn := hmz.n.open_
        clear hoz hgz hatz hz HO HZ HL HH HM
        go_wp2_with fail
        refine bodyPost_ret (v := .agg #[.int .u8 24, .slice (some ⟨gz, 0, none⟩) 15 cz, .slice none 0 0]) (by simp [results, Try.results12, go_sem, hcr]) rfl ⟨some ⟨gz, 0, none⟩, cz, ?_, ?_⟩
        · rw [← HT.out, ← HN.out]; rfl
        · have hfin := hmz.finish (.int .u8 24) (.slice (some ⟨gz, 0, none⟩) 15 cz) (.slice none 0 0)
          rw [← HE.out] at hfin
          have e : dig2 (y / 100) ++ digs [y, m, d, h, i, s] ++ [90] = dig2 (y / 100) ++ dig2 (y % 100) ++ dig2 m ++ dig2 d ++ dig2 h ++ dig2 i ++ dig2 s ++ [90] := by
            have ey : dig2 (y % 100) = dig2 y := by unfold dig2; congr 2 <;> omega
            rw [ey]; simp [digs]
          rw [e] at hfin
          exact hfin
  · rw [if_neg hy] at hT
    simp only [hy, if_false, List.nil_append] at hN ⊢
    have HT := Lib.hid hT
    have HN := Lib.hid hN
    clear hT hN
    go_enter Try.func12, Try.ntmps12
    go_wp2_with fail
    refine (is'_yes _ t h0 h1).mono ?_
    rintro e w1 ⟨rfl, rfl⟩
    go_wp2_with fail
    refine (HD.out _).mono ?_
    rintro e w1 ⟨rfl, hb1⟩
    have hr := (Holds.fresh w 25 #[.int .u8 0, .slice none 0 0, .slice none 0 0]).under hb1 (by simp)
    have hz : w.heap.size + 1 ≤ w1.heap.size := by have := hb1.size; simpa using this
    have hbw : Below w.heap.size w w1 := ((Below.refl _ _).alloc (Nat.le_refl _) _).trans (hb1.mono (by simp))
    clear hb1
    go_wp2_with fail
    have hm := Md.begin #[.int .i64 y, .int .i64 m, .int .i64 d, .int .i64 h, .int .i64 i, .int .i64 s] hr hbw
    clear hr hbw hz
    generalize ((w1.alloc (.cells #[.int .i64 y, .int .i64 m, .int .i64 d, .int .i64 h, .int .i64 i, .int .i64 s] 33)).alloc (.cells #[.int .u8 23, .slice none 0 0, .slice none 0 0] 25)) = V at *
    generalize w1.heap.size = G at *
    have hm3 : Md w V G (cells6 [y, m, d, h, i, s]) 23 none 0 0 [] := hm
    clear hm
    go_loopw [5] (fun v wr => AtRound w G [y, m, d, h, i, s] [] 23 v wr) (fun v _ => 6 - (intOf v).toNat)
    case atStart => exact ⟨0, 0, 0, _, rfl, by omega, rfl, by rw [List.take_zero]; exact hm3⟩
    case round =>
      obtain ⟨k, n, c, A, rfl, hk, hn, hmr⟩ := hrel
      have hbd : ∀ v ∈ [y, m, d, h, i, s], v ≤ 10000 := by
        intro v hv
        simp at hv
        omega
      by_cases hk6 : k < 6
      · obtain ⟨x, Hx⟩ : ∃ x, Hid (x = [y, m, d, h, i, s].getD k 0) := ⟨_, rfl⟩
        have hx : x ≤ 10000 := by
          rw [Hx.out]
          exact hbd _ (by rw [List.getD, List.getElem?_eq_getElem (by simpa using hk6)]; exact List.getElem_mem _)
        have hL := hmr.len
        have hc1 : wr.cell? ⟨G, k, none⟩ = some (.int .i64 (x : Int)) := by rw [Hx.out]; exact (hmr.d.cell k).trans (cells6_at [y, m, d, h, i, s] (by simpa using hk6))
        have hc2 : wr.cell? ⟨G + 1, 1, none⟩ = some (.slice A n c) := hmr.n.cell 1
        have hf2 : wr.frozen? ⟨G + 1, 1, none⟩ = false := hmr.n.open_ 1
        have hle := hmr.hle
        have hc3 : (wr.alloc (.cells (nums .u8 (dig2 x)) 5)).cell? ⟨G + 1, 1, none⟩ = some (.slice A n c) := (hmr.alloc _).n.cell 1
        have hkI : (0 : Int) ≤ (k : Int) := by omega
        have hkI6 : (k : Int) < 6 := by omega
        have Hhm := Lib.hid hmr
        have Hdg := Lib.hid (digs_next [y, m, d, h, i, s] (k := k) (by simpa using hk6))
        have Hn := Lib.hid hn
        have HL := Lib.hid hL
        have hn20 : n ≤ 20 := by have : ([] : List Nat).length = 0 := rfl; omega
        clear hmr hn hL hbd
        obtain ⟨LL, HLL⟩ : ∃ LL, Hid (LL = [] ++ digs (List.take k [y, m, d, h, i, s])) := ⟨_, Lib.hid (Eq.refl ([] ++ digs (List.take k [y, m, d, h, i, s])))⟩
        rw [← HLL.out] at Hhm HL
        go_wp2_with fail
        go_region_law (first
          | (go_simp; go_at_call 20; refine (two'_any _ x (by omega)).mono ?_; rintro e w' ⟨rfl, rfl⟩; go_simp)
          | (refine step_push _ ?_ (.tmp 26) (.tmp 30) 22 ?_ .u8 (G + 2) 5 1 Try.underlying22 info_u8 A n c LL ?_ HL.out ?_ wr.heap.size 2 2 (dig2 x) ?_ rfl ?_ (by omega) (by omega) (by omega) ?_ ?_; (focus rfl); (focus rfl); (focus rfl); (focus exact Own.alloc Hhm.out.own _); (focus rfl); (focus exact Holds.fresh wr.drew _ _); (focus (simp; omega)); intro g1 c1 w2 ho hg _; have hh := Md.step (Hhm.out.alloc (.cells (nums .u8 (dig2 x)) 5)).drew hg rfl rfl ho; have hq1 := hh.1.cell 1; have hq2 := hh.1.open_ 1; have HH := Lib.hid hh; clear hh))
        all_goals
          go_wp2_with fail
          go_roundw
          case rel =>
            refine ⟨k + 1, n + 2, c1, some ⟨g1, 0, none⟩, by go_num, by omega, by have := Hn.out; omega, ?_⟩
            rw [Hdg.out, ← List.append_assoc, ← Hx.out, ← HLL.out]
            exact HH.out.2.2
          case measure => simp [intOf]; omega
      · obtain rfl : k = 6 := by omega
        have hcc : [y, m, d, h, i, s].take 6 = [y, m, d, h, i, s] := rfl
        rw [hcc] at hmr
        obtain rfl : n = 12 := hn
        have hL := hmr.len
        generalize HLL : [] ++ digs [y, m, d, h, i, s] = LL at *
        have HO := Lib.hid hmr.own
        have HZ := Lib.hid hmr.hle
        have HL := Lib.hid hL
        have HH : Hid (Holds (wr.alloc (.cells #[.int .u8 90] 5)) wr.heap.size 5 (nums .u8 [90])) := Lib.hid (Holds.fresh wr 5 (nums .u8 [90]))
        have hc2 : wr.cell? ⟨G + 1, 1, none⟩ = some (.slice A 12 c) := hmr.n.cell 1
        have hf2 : wr.frozen? ⟨G + 1, 1, none⟩ = false := hmr.n.open_ 1
        have HM := Lib.hid hmr
        have HE := Lib.hid HLL
        clear hmr hcc hL hbd HLL
        go_wp2_with (with_reducible refine wpList_push _ rfl (.tmp 34) (.tmp 35) 22 rfl .u8 (G + 2) 5 1 Try.underlying22 info_u8 A 12 c LL rfl HL.out (HO.out.alloc _) wr.heap.size 1 1 [90] rfl rfl HH.out (by omega) (by omega) (by omega) (Nat.le_trans HZ.out (by simp)) ?hk2)
        intro gz cz wz hoz hgz hatz
        have hz := Md.step (HM.out.alloc (.cells #[.int .u8 90] 5)) hgz (m := 1) (n' := 13) rfl rfl hoz
        have hmz := hz.2.2
        have hcz := hz.1.cell
        have hfz := hz.1.open_
        have hcr := hmz.r.cell
        have hfr := hmz.r.open_
        have hcn := hmz.n.cell
        have hfn := hmz.n.open_
        clear hoz hgz hatz hz HO HZ HL HH HM
        go_wp2_with fail
        refine bodyPost_ret (v := .agg #[.int .u8 23, .slice (some ⟨gz, 0, none⟩) 13 cz, .slice none 0 0]) (by simp [results, Try.results12, go_sem, hcr]) rfl ⟨some ⟨gz, 0, none⟩, cz, ?_, ?_⟩
        · rw [← HT.out, ← HN.out]; rfl
        · have hfin := hmz.finish (.int .u8 23) (.slice (some ⟨gz, 0, none⟩) 13 cz) (.slice none 0 0)
          rw [← HE.out] at hfin
          have e : [] ++ digs [y, m, d, h, i, s] ++ [90] = dig2 (y % 100) ++ dig2 m ++ dig2 d ++ dig2 h ++ dig2 i ++ dig2 s ++ [90] := by
            have ey : dig2 (y % 100) = dig2 y := by unfold dig2; congr 2 <;> omega
            rw [ey]; simp [digs]
          rw [e] at hfin
          exact hfin
end Go.Proofs.Ytjhpibbhkdjeiaa
