/-
  The law of a bent block, walked.
-/
import Derived.Test.YtkfokgkehlcikaaNode19
import Derived.Deep.RegionHeld3
namespace Go.Proofs.Ytkfokgkehlcikaa
open Go.RowKit
set_option linter.unusedVariables false
attribute [local go_sem ↓] Go.wp_at_zero Go.wp_at_succ

set_option maxRecDepth 100000 in
set_option maxHeartbeats 2000000 in
theorem law_turned (w : World) (s : ByteArray) (hs : s.size ≤ 9223372036854775807) (B : Nat) (A : Option Addr) (c n : Nat) (l : List Int) (hn : l.length = n) (hr : RdI .i64 w B A c l) (hB : B ≤ w.heap.size) (at_ : Int) (hat0 : -9223372036854775808 ≤ at_) (hat1 : at_ ≤ 9223372036854775807) (y : Nat) (hy : y < 256) :
    Calls Try.prog 4 #[.string s, .slice A n c, .int .i64 at_, .int .u8 y] w fun e w' => e = .returned (.bool true) ∧ Below w.heap.size w w' := by
  have hlc := hr.1
  have hc63 := hr.2.1
  have hn63 : n ≤ 9223372036854775807 := by omega
  by_cases h1 : 100 < s.size
  case pos =>
    have b1 : decide (100 < (s.size : Int)) = true := decide_eq_true (by omega)
    go_enter Try.func4, Try.ntmps4
    go_wp2_with fail
    go_ret
    exact ⟨rfl, (Below.refl _ _).alloc (Nat.le_refl _) _⟩
  case neg =>
  have b1 : decide (100 < (s.size : Int)) = false := decide_eq_false (by omega)
  by_cases h2 : 9 < n
  case pos =>
    have b2 : decide (9 < (n : Int)) = true := decide_eq_true (by omega)
    go_enter Try.func4, Try.ntmps4
    go_wp2_with fail
    go_ret
    exact ⟨rfl, (Below.refl _ _).alloc (Nat.le_refl _) _⟩
  case neg =>
  have b2 : decide (9 < (n : Int)) = false := decide_eq_false (by omega)
  have hwz : wrap64 (64 * (n : Int)) = 64 * (n : Int) := IntWalk.wrap64_in _ (by omega)
  have hwz2 : IntKind.i64.wrap (64 * (n : Int)) = 64 * (n : Int) := IntWalk.i64_in _ (by omega)
  by_cases h3 : y = 0
  case pos =>
    subst h3
    go_enter Try.func4, Try.ntmps4
    go_wp2_with fail
    go_ret
    exact ⟨rfl, (Below.refl _ _).alloc (Nat.le_refl _) _⟩
  case neg =>
  have b3 : ((y : Int) == 0) = false := by rw [beq_eq_false_iff_ne]; omega
  have hrb := hr.alloc hB (.cells #[.string s, .int .i64 (64 * (n : Int)), .slice A n c] 25)
  have hbel : Below w.heap.size w (w.alloc (.cells #[.string s, .int .i64 (64 * (n : Int)), .slice A n c] 25)) := (Below.refl _ _).alloc (Nat.le_refl _) _
  have hbox := Holds.fresh w 25 #[.string s, .int .i64 (64 * (n : Int)), .slice A n c]
  have hk0 := hbox.cell 0
  have hk1 := hbox.cell 1
  have hk2 := hbox.cell 2
  have hlt := hbox.lt
  by_cases hok : NodeOk s (64 * (n : Int)) l
  case neg =>
    have HOK := Lib.hid hok
    clear hok
    go_enter Try.func4, Try.ntmps4
    go_wp2_with fail
    generalize w.alloc (.cells #[.string s, .int .i64 (64 * (n : Int)), .slice A n c] 25) = W at *
    refine (of_any W s _ A n c).mono ?_
    rintro e w1 ⟨rfl, hb1⟩
    go_wp2_with fail
    refine (is'_any w1 s hs _ (by omega) W.heap.size A c n l hn ((hrb.more (by omega)).under hb1) hb1.size false ⟨(fun e => by cases e), fun h => absurd h HOK.out⟩).mono ?_
    rintro e w2 ⟨rfl, hb2⟩
    go_wp2_with fail
    go_ret
    exact ⟨rfl, (hbel.trans (hb1.mono (by omega))).trans (hb2.mono (Nat.le_trans (Nat.le_of_lt hlt) hb1.size))⟩
  case pos =>
  obtain ⟨hrp, hmap, hsm⟩ := rd_places hrb hok.rng
  obtain ⟨p, Hp⟩ : ∃ p, Hid (p = l.map Int.toNat) := ⟨_, rfl⟩
  rw [← Hp.out] at hrp hmap hsm
  have hpl : p.length = n := by rw [Hp.out, List.length_map]; exact hn
  have hokp : NodeOk s ((64 * n : Nat) : Int) (p.map fun x : Nat => (x : Int)) := by rw [hmap]; push_cast; exact hok
  have hI : IsNode (enc s (64 * n) p) s (64 * n) p := ⟨hokp, hsm, rfl⟩
  have HI := Lib.hid hI
  have HOK := Lib.hid hok
  have HOKP := Lib.hid hokp
  have HSM := Lib.hid hsm
  have HPL := Lib.hid hpl
  have HMAP := Lib.hid hmap
  have hs40 := hok.name.high
  obtain ⟨j, hj, Hj⟩ := and63 at_
  have hj0 : (0 : Int) ≤ (j : Int) := by omega
  have hjI : (j : Int) < 64 := by omega
  clear hok hokp hI hsm hpl hmap
  go_enter Try.func4, Try.ntmps4
  go_wp2_with fail
  generalize w.alloc (.cells #[.string s, .int .i64 (64 * (n : Int)), .slice A n c] 25) = W at *
  refine (of_any W s _ A n c).mono ?_
  rintro e w1 ⟨rfl, hb1⟩
  have hr1 := (hrb.more (show B ≤ W.heap.size by omega)).under hb1
  have hbox1 := hbox.under hb1 hlt
  have hrp1 := (hrp.more (show B ≤ W.heap.size by omega)).under hb1
  have hbel1 := hbel.trans (hb1.mono (by omega))
  have hlt1 := hbox1.lt
  clear hk0 hk1 hk2
  go_wp2_with fail
  refine (is'_any w1 s hs _ (by omega) W.heap.size A c n l hn hr1 hb1.size true ⟨fun _ => HOK.out, fun _ => rfl⟩).mono ?_
  rintro e w2 ⟨rfl, hb2⟩
  have hbox2 := hbox1.under hb2 hlt1
  have hrp2 := (hrp1.more hb1.size).under hb2
  have hbel2 := hbel1.trans (hb2.mono hbel1.size)
  have hlt2 := hbox2.lt
  have hk0 := hbox2.cell 0
  have hk1 := hbox2.cell 1
  have hk2 := hbox2.cell 2
  clear hr1 hbox1 hrp1 hbel1 hlt1 hrb hrp hbox hbel hlt hr
  go_wp2_with fail
  refine (of_any w2 s _ A n c).mono ?_
  rintro e w3 ⟨rfl, hb3⟩
  have hbox3 := hbox2.under hb3 hlt2
  have hrp3 := ((hrp2.more hb2.size).under hb3).more hb3.size
  have hbel3 := hbel2.trans (hb3.mono hbel2.size)
  have hlt3 := hbox3.lt
  clear hk0 hk1 hk2 hbox2 hrp2 hbel2 hb1 hb2 hb3 hlt2
  go_wp2_with fail
  have HBS := Lib.hid (bytes'_some w3 s (64 * n) w3.heap.size A c n p HPL.out hrp3 (Nat.le_refl _) HOKP.out HSM.out)
  push_cast at HBS
  refine HBS.out.mono ?_
  rintro e w4 ⟨g, rfl, hg, hrow4, hb4⟩
  have hbox4 := hbox3.under hb4 hlt3
  have hrp4 := hrp3.under hb4
  have hsz4 := hb4.size
  have hbel4 := hbel3.trans (hb4.mono hbel3.size)
  have hltg := Holds.lt hrow4
  have hgn : g ≠ w.heap.size := by omega
  clear HBS hbox3 hrp3 hbel3 hb4
  obtain ⟨b, Hb⟩ : ∃ b, Hid (b = enc s (64 * n) p) := ⟨_, rfl⟩
  rw [← Hb.out] at hrow4 HI
  have hlb : b.length = 64 := HI.out.length
  have hob : Oct8 b := by rw [Hb.out]; exact enc_oct hs40 (by have := HOKP.out.z600; omega) HSM.out
  have hcj := hrow4.cell (i := j) (by omega)
  have hfj := hrow4.open_ j
  obtain ⟨x, Hx⟩ : ∃ x, Hid (x = b.getD j 0) := ⟨_, rfl⟩
  rw [← Hx.out] at hcj
  have hx8 : x < 256 := by rw [Hx.out]; exact oct_of hob j
  have hxor := xor_u8 x y hx8 hy
  obtain ⟨v, hv⟩ : ∃ v, v = x ^^^ y := ⟨_, rfl⟩
  have hv8 : v < 256 := by rw [hv]; exact Nat.xor_lt_two_pow (n := 8) (by omega) (by omega)
  have Hvx : Hid (v ≠ b.getD j 0) := Lib.hid (by rw [← Hx.out, hv]; exact xor_ne x y h3)
  rw [← hv] at hxor
  clear hv
  go_wp2_with fail
  have hrow5 := hrow4.set j v
  have hg5 : w4.grownBy (w4.setCell ⟨g, j, none⟩ (.int .u8 (v : Int))) (some g) := one_setCell (World.grownBy.refl w4 (some g)) j _
  have hbox5 := hbox4.grown hg5 (by intro e; injection e; omega)
  have hrp5 := hrp4.under (one_below hg5 hg hsz4)
  have hbel5 := hbel4.trans (one_below hg5 (by omega) hbel4.size)
  have hsz5 : w4.heap.size ≤ (w4.setCell ⟨g, j, none⟩ (.int .u8 (v : Int))).heap.size := hg5.size
  have hlb5 : (b.set j v).length = 64 := by rw [List.length_set]; exact hlb
  have hob5 : Oct8 (b.set j v) := fun q hq => by
    rcases List.mem_or_eq_of_mem_set hq with h | h
    · exact hob q h
    · omega
  have HBENT := Lib.hid (bent HI.out hj Hvx.out)
  clear hrow4 hg5 hbox4 hrp4 hbel4 hcj hfj hxor hlb hob
  generalize b.set j v = b5 at *
  generalize w4.setCell ⟨g, j, none⟩ (.int .u8 (v : Int)) = W5 at *
  refine (read_any W5 W5.heap.size (some ⟨g, 0, none⟩) 64 64 b5 hlb5 (hrow5.rd_all hlb5 (by omega)) (Nat.le_refl _) hob5).mono ?_
  rintro e w6 ⟨s', z', A', n', c', p', f, o, rfl, HR, hp', hr6, hb6⟩
  have hbox6 := hbox5.under hb6 (by omega)
  have hrp6 := (hrp5.more (show w3.heap.size ≤ W5.heap.size by omega)).under hb6
  have hbel6 := hbel5.trans (hb6.mono (by omega))
  have hsz6 := hb6.size
  have hz' := HR.out.z64
  clear hbox5 hrp5 hbel5 hb6 hrow5
  go_wp2_with fail
  have hbx6 := Holds.fresh w6 25 #[.string s', .int .i64 z', .slice A' n' c']
  have hbox7 := hbox6.alloc (.cells #[.string s', .int .i64 z', .slice A' n' c'] 25)
  have hr7 := hr6.alloc (Nat.le_refl _) (.cells #[.string s', .int .i64 z', .slice A' n' c'] 25)
  have hrp7 := hrp6.alloc hsz6 (.cells #[.string s', .int .i64 z', .slice A' n' c'] 25)
  have hbel7 := hbel6.alloc hbel6.size (.cells #[.string s', .int .i64 z', .slice A' n' c'] 25)
  have hsz7 : (w6.alloc (.cells #[.string s', .int .i64 z', .slice A' n' c'] 25)).heap.size = w6.heap.size + 1 := by simp
  generalize w6.alloc (.cells #[.string s', .int .i64 z', .slice A' n' c'] 25) = W7 at *
  have hpair : Two w w6.heap.size w.heap.size s' s (z' : Nat) ((64 * n : Nat) : Int) A' A n' n c' c p' p W7 := ⟨hbx6, by push_cast; exact hbox7, hr7.more (by omega), hrp7.more (by omega), hbel7⟩
  push_cast at hpair
  have hpd := hpair.drew
  obtain ⟨g2, Hg2⟩ : ∃ g, Hid (g = w6.heap.size) := ⟨_, rfl⟩
  rw [← Hg2.out] at hpair hpd
  rw [← Hg2.out]
  have HP' := Lib.hid hp'
  have hff : f = false := by
    rcases f with _ | _
    · rfl
    · exfalso
      cases HR.out with
      | free a1 a2 a3 a4 => exact HBENT.out.1 a4
  subst hff
  clear hbox6 hrp6 hbel6 hbx6 hbox7 hr7 hrp7 hbel7 hr6 hp'
  have HNE : Hid (o = true → ¬ (s' = s ∧ z' = 64 * n ∧ p' = p)) := Lib.hid (fun ho => by
    subst ho
    cases HR.out with
    | node ha => exact HBENT.out.2 _ _ _ ha)
  have hS := hpair.cells
  cases o
  case false =>
    have HK : Hid (∀ V, Calls Try.prog 12 #[] V fun e w' => e = .returned (.bool true) ∧ Below V.heap.size V w') := Lib.hid known_any
    go_region_law (go_simp; go_at_call 12; refine (HK.out _).mono ?_; rintro e w8 ⟨rfl, hb8⟩; go_simp)
    all_goals
      have hk8 := hpd.next hb8
      go_wp2_with fail
      go_ret
      exact ⟨rfl, hk8.2.2.2.2⟩
  case true =>
    have HS : Hid (∀ V, Two w g2 w.heap.size s' s z' (64 * (n : Int)) A' A n' n c' c p' p V → Calls Try.prog 10 #[.agg #[.string s', .int .i64 (z' : Int), .slice A' n' c'], .agg #[.string s, .int .i64 (64 * (n : Int)), .slice A n c]] V fun e w' => e = .returned (.bool false) ∧ Below V.heap.size V w') := Lib.hid (fun V h => by
      have h' := same_any V s' s z' (64 * n) (by omega) (by omega) A' A _ _ c' c n' n p' p HP'.out HPL.out h.2.2.1 h.2.2.2.1 (Nat.le_refl _) (Nat.le_refl _) false ⟨(fun e => by cases e), fun e => absurd e (HNE.out rfl)⟩
      push_cast at h'
      exact h')
    go_region_held3 (fun V => V.cell? ⟨g2, 0, none⟩ = some (.string s') ∧ V.cell? ⟨g2, 1, none⟩ = some (.int .i64 (z' : Int)) ∧ V.cell? ⟨g2, 2, none⟩ = some (.slice A' n' c') ∧
      V.cell? ⟨w.heap.size, 0, none⟩ = some (.string s) ∧ V.cell? ⟨w.heap.size, 1, none⟩ = some (.int .i64 (64 * (n : Int))) ∧ V.cell? ⟨w.heap.size, 2, none⟩ = some (.slice A n c) ∧ Two w g2 w.heap.size s' s z' (64 * (n : Int)) A' A n' n c' c p' p V)
      (first | exact Two.cells (by assumption) | assumption | exact Two.cells (Two.drew (by assumption)))
      (first
      | (go_at_call 11; (with_reducible refine (of_any _ s' z' A' n' c').mono ?_); rintro e w7 ⟨rfl, hb7⟩; have hk7 := Two.next (w := w) (g2 := g2) (g4 := w.heap.size) (s2 := s') (s4 := s) (z2 := z') (z4 := 64 * (n : Int)) (A2 := A') (A4 := A) (n2 := n') (n4 := n) (c2 := c') (c4 := c) (p2 := p') (p4 := p) (by assumption) hb7; clear hb7)
      | (go_at_call 11; (with_reducible refine (of_any _ s (64 * (n : Int)) A n c).mono ?_); rintro e w8 ⟨rfl, hb8⟩; have hk8 := Two.next (w := w) (g2 := g2) (g4 := w.heap.size) (s2 := s') (s4 := s) (z2 := z') (z4 := 64 * (n : Int)) (A2 := A') (A4 := A) (n2 := n') (n4 := n) (c2 := c') (c4 := c) (p2 := p') (p4 := p) (by assumption) hb8; clear hb8)
      | (go_at_call 10; refine (HS.out _ (by assumption)).mono ?_; rintro e w9 ⟨rfl, hb9⟩; have hk9 := Two.next (w := w) (g2 := g2) (g4 := w.heap.size) (s2 := s') (s4 := s) (z2 := z') (z4 := 64 * (n : Int)) (A2 := A') (A4 := A) (n2 := n') (n4 := n) (c2 := c') (c4 := c) (p2 := p') (p4 := p) (by assumption) hb9; clear hb9)
      | (go_at_call 12; refine (known_any _).mono ?_; rintro e w10 ⟨rfl, hb10⟩; have hk10 := Two.next (w := w) (g2 := g2) (g4 := w.heap.size) (s2 := s') (s4 := s) (z2 := z') (z4 := 64 * (n : Int)) (A2 := A') (A4 := A) (n2 := n') (n4 := n) (c2 := c') (c4 := c) (p2 := p') (p4 := p) (by assumption) hb10; clear hb10))
    go_wp2_with fail
    go_ret
    exact ⟨rfl, hk10.2.2.2.2⟩
end Go.Proofs.Ytkfokgkehlcikaa
