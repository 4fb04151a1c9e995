/-
  The law of sums, differences, products that go round, walked.
-/
import Derived.Test.YtphfgchfphdcaaaRef8
namespace Go.Proofs.Ytphfgchfphdcaaa
open Go.RowKit
set_option linter.unusedVariables false

/-- Three numbers that read. -/
def Three (w : World) (A A' A'' : Option Addr) (c c' c'' : Nat) (l l' l'' : List Nat) (W : World) : Prop :=
  Rd .u32 W W.heap.size A c l ∧ Rd .u32 W W.heap.size A' c' l' ∧ Rd .u32 W W.heap.size A'' c'' l'' ∧ Below w.heap.size w W
theorem Three.next {w W W' : World} {A A' A'' : Option Addr} {c c' c'' : Nat} {l l' l'' : List Nat} (h : Three w A A' A'' c c' c'' l l' l'' W) (hb : Below W.heap.size W W') : Three w A A' A'' c c' c'' l l' l'' W' :=
  ⟨rd_next h.1 (Nat.le_refl _) hb, rd_next h.2.1 (Nat.le_refl _) hb, rd_next h.2.2.1 (Nat.le_refl _) hb, h.2.2.2.trans (hb.mono h.2.2.2.size)⟩
theorem below_draw (w : World) (q : Nat) : Below w.heap.size w (w.drewN q) := ⟨rfl, rfl, rfl, Nat.le_refl _, fun _ _ => rfl⟩
theorem same_both (w : World) (A A' : Option Addr) (c c' : Nat) (l l' : List Nat) (hr : Rd .u32 w w.heap.size A c l) (hr' : Rd .u32 w w.heap.size A' c' l') (h : l = l') : Calls Try.prog 15 #[.slice A l.length c, .slice A' l'.length c'] w fun e w' => e = .returned (.bool true) ∧ Below w.heap.size w w' := by
  subst h
  refine (same_one w _ _ A A' c c' l hr hr').mono ?_
  rintro e w' ⟨rfl, q, rfl⟩
  exact ⟨rfl, below_draw w q⟩

set_option maxRecDepth 100000 in
set_option maxHeartbeats 2000000 in
theorem law_tells (w : World) (A A' A'' : Option Addr) (c c' c'' : Nat) (l l' l'' : List Nat) (hr : Rd .u32 w w.heap.size A c l) (hr' : Rd .u32 w w.heap.size A' c' l') (hr'' : Rd .u32 w w.heap.size A'' c'' l'') (hd : Dg l) (hd' : Dg l') (hd'' : Dg l'') :
    Calls Try.prog 3 #[.slice A l.length c, .slice A' l'.length c', .slice A'' l''.length c''] w fun e w' => e = .returned (.bool true) ∧ Below w.heap.size w w' := by
  have hT0 : Three w A A' A'' c c' c'' l l' l'' w := ⟨hr, hr', hr'', Below.refl _ _⟩
  have hball := (Below.refl w.heap.size w).alloc (Nat.le_refl _) (.cells #[.slice A l.length c, .slice A' l'.length c', .slice A'' l''.length c''] 23)
  have hbox := Holds.fresh w 23 #[.slice A l.length c, .slice A' l'.length c', .slice A'' l''.length c'']
  have hT1 := hT0.next hball
  obtain ⟨v, Hv⟩ : ∃ v : Bool, Hid (v = true ↔ ∀ j, j < 3 → okN (([⟨A, c, l⟩, ⟨A', c', l'⟩, ⟨A'', c'', l''⟩] : List It).getD j default).l = true ∧ (([⟨A, c, l⟩, ⟨A', c', l'⟩, ⟨A'', c'', l''⟩] : List It).getD j default).l.length ≤ 130) := by
    by_cases h : ∀ j, j < 3 → okN (([⟨A, c, l⟩, ⟨A', c', l'⟩, ⟨A'', c'', l''⟩] : List It).getD j default).l = true ∧ (([⟨A, c, l⟩, ⟨A', c', l'⟩, ⟨A'', c'', l''⟩] : List It).getD j default).l.length ≤ 130
    · exact ⟨true, Lib.hid ⟨fun _ => h, fun _ => rfl⟩⟩
    · exact ⟨false, Lib.hid ⟨(fun e => by cases e), fun e => absurd e h⟩⟩
  have HS := Lib.hid (such_any (w.alloc (.cells #[.slice A l.length c, .slice A' l'.length c', .slice A'' l''.length c''] 23)) 130 w.heap.size 3 [⟨A, c, l⟩, ⟨A', c', l'⟩, ⟨A'', c'', l''⟩] rfl (by omega) (by omega)
    (fun j hj => by
      rcases (show j = 0 ∨ j = 1 ∨ j = 2 by omega) with rfl | rfl | rfl
      · exact hbox.cell 0
      · exact hbox.cell 1
      · exact hbox.cell 2)
    (fun j hj => by
      rcases (show j = 0 ∨ j = 1 ∨ j = 2 by omega) with rfl | rfl | rfl
      · exact hT1.1
      · exact hT1.2.1
      · exact hT1.2.2.1) v Hv.out)
  have hlc := hr.1
  have hlc' := hr'.1
  have hlc'' := hr''.1
  have hc63 := hr.2.1
  have hc63' := hr'.2.1
  have hc63'' := hr''.2.1
  clear hbox hball hT0 hr hr' hr''
  go_enter Try.func3, Try.ntmps3
  go_wp2_with fail
  generalize w.alloc (.cells #[.slice A l.length c, .slice A' l'.length c', .slice A'' l''.length c''] 23) = W at *
  refine HS.out.mono ?_
  rintro e w1 ⟨rfl, rfl⟩
  cases v
  case false =>
    go_wp2_with fail
    go_ret
    exact ⟨rfl, hT1.2.2.2⟩
  case true =>
  have Hall := Hv.out.1 rfl
  obtain ⟨h1a, h1b⟩ := Hall 0 (by omega)
  obtain ⟨h2a, h2b⟩ := Hall 1 (by omega)
  obtain ⟨h3a, h3b⟩ := Hall 2 (by omega)
  change okN l = true at h1a
  change l.length ≤ 130 at h1b
  change okN l' = true at h2a
  change l'.length ≤ 130 at h2b
  change okN l'' = true at h3a
  change l''.length ≤ 130 at h3b
  have Hn := Lib.hid (⟨(okN_nrm h1a).2, (okN_nrm h2a).2, (okN_nrm h3a).2⟩ : nrm l ∧ nrm l' ∧ nrm l'')
  clear h1a h2a h3a Hall HS Hv
  have hT := hT1
  clear hT1
  by_cases h0 : val l'' = 0
  case pos =>
    have H0 := Lib.hid h0
    clear h0
    go_wp2_with fail
    refine (addm_no W A A' A'' c c' c'' l l' l'' hT.1 hT.2.1 hT.2.2.1 hd hd' hd'' (by omega) (by omega) H0.out).mono ?_
    rintro e w2 ⟨rfl, hb2⟩
    have hT2 := hT.next hb2
    clear hT hb2
    go_wp2_with fail
    refine (subm_no w2 A A' A'' c c' c'' l l' l'' hT2.1 hT2.2.2.1 hd'' H0.out).mono ?_
    rintro e w3 ⟨rfl, hb3⟩
    have hT3 := hT2.next hb3
    clear hT2 hb3
    go_wp2_with fail
    refine (mulm_no w3 A A' A'' c c' c'' l l' l'' hT3.1 hT3.2.1 hT3.2.2.1 hd hd' hd'' (by omega) (by omega) H0.out).mono ?_
    rintro e w4 ⟨rfl, hb4⟩
    have hT4 := hT3.next hb4
    clear hT3 hb4
    go_wp2_with fail
    refine (add8_no w4 A A' A'' c c' c'' l l' l'' hT4.1 hT4.2.1 hT4.2.2.1 hd hd' hd'' (by omega) (by omega) (by omega) H0.out Hn.out.2.2).mono ?_
    rintro e w5 ⟨rfl, hb5⟩
    have hT5 := hT4.next hb5
    clear hT4 hb5
    go_wp2_with fail
    refine (sub8_no w5 A A' A'' c c' c'' l l' l'' hT5.1 hT5.2.1 hT5.2.2.1 hd hd' hd'' (by omega) (by omega) (by omega) H0.out Hn.out.2.2).mono ?_
    rintro e w6 ⟨rfl, hb6⟩
    have hT6 := hT5.next hb6
    clear hT5 hb6
    go_wp2_with fail
    refine (mul8_no w6 A A' A'' c c' c'' l l' l'' hT6.1 hT6.2.1 hT6.2.2.1 hd hd' hd'' (by omega) (by omega) (by omega) H0.out Hn.out.2.2).mono ?_
    rintro e w7 ⟨rfl, hb7⟩
    have hT7 := hT6.next hb7
    clear hT6 hb7
    go_wp2_with fail
    refine (same_both w7 none none 0 0 [] [] (Rd.nil_ _ _ _) (Rd.nil_ _ _ _) rfl).mono ?_
    rintro e w8 ⟨rfl, hb8⟩
    have hT8 := hT7.next hb8
    clear hT7 hb8
    go_wp2_with fail
    refine (same_both w8 none none 0 0 [] [] (Rd.nil_ _ _ _) (Rd.nil_ _ _ _) rfl).mono ?_
    rintro e w9 ⟨rfl, hb9⟩
    have hT9 := hT8.next hb9
    clear hT8 hb9
    go_wp2_with fail
    refine (same_both w9 none none 0 0 [] [] (Rd.nil_ _ _ _) (Rd.nil_ _ _ _) rfl).mono ?_
    rintro e w10 ⟨rfl, hb10⟩
    have hT10 := hT9.next hb10
    clear hT9 hb10
    go_wp2_with fail
    refine (known8_any w10).mono ?_
    rintro e w11 ⟨rfl, hb11⟩
    have hT11 := hT10.next hb11
    go_wp2_with fail
    go_ret
    exact ⟨rfl, hT11.2.2.2⟩
  case neg =>
    have H0 := Lib.hid h0
    clear h0
    go_wp2_with fail
    refine (addm_yes W A A' A'' c c' c'' l l' l'' hT.1 hT.2.1 hT.2.2.1 hd hd' hd'' (by omega) (by omega) (by omega) H0.out).mono ?_
    rintro e w2 h
    obtain ⟨A1, c1, r1, rfl, hn1, hf1, hb2⟩ := h.r
    have hT2 := hT.next hb2
    clear hT hb2 h
    go_wp2_with fail
    refine (subm_yes w2 A A' A'' c c' c'' l l' l'' hT2.1 hT2.2.1 hT2.2.2.1 hd hd' hd'' (by omega) (by omega) (by omega) H0.out).mono ?_
    rintro e w3 h
    obtain ⟨A2, c2, r2, rfl, hn2, hf2, hb3⟩ := h.r
    have hT3 := hT2.next hb3
    have hf1 := rd_next hf1 (Nat.le_refl _) hb3
    clear hT2 hb3 h
    go_wp2_with fail
    refine (mulm_yes w3 A A' A'' c c' c'' l l' l'' hT3.1 hT3.2.1 hT3.2.2.1 hd hd' hd'' (by omega) (by omega) (by omega) H0.out).mono ?_
    rintro e w4 h
    obtain ⟨A3, c3, r3, rfl, hn3, hf3, hb4⟩ := h.r
    have hT4 := hT3.next hb4
    have hf1 := rd_next hf1 (Nat.le_refl _) hb4
    have hf2 := rd_next hf2 (Nat.le_refl _) hb4
    clear hT3 hb4 h
    go_wp2_with fail
    refine (add8_yes w4 A A' A'' c c' c'' l l' l'' hT4.1 hT4.2.1 hT4.2.2.1 hd hd' hd'' (by omega) (by omega) (by omega) H0.out Hn.out.2.2).mono ?_
    rintro e w5 ⟨A4, c4, r4, rfl, hn4, hf4, hb5⟩
    have hT5 := hT4.next hb5
    have hf1 := rd_next hf1 (Nat.le_refl _) hb5
    have hf2 := rd_next hf2 (Nat.le_refl _) hb5
    have hf3 := rd_next hf3 (Nat.le_refl _) hb5
    clear hT4 hb5
    go_wp2_with fail
    refine (sub8_yes w5 A A' A'' c c' c'' l l' l'' hT5.1 hT5.2.1 hT5.2.2.1 hd hd' hd'' (by omega) (by omega) (by omega) H0.out Hn.out.1 Hn.out.2.1 Hn.out.2.2).mono ?_
    rintro e w6 ⟨A5, c5, r5, rfl, hn5, hf5, hb6⟩
    have hT6 := hT5.next hb6
    have hf1 := rd_next hf1 (Nat.le_refl _) hb6
    have hf2 := rd_next hf2 (Nat.le_refl _) hb6
    have hf3 := rd_next hf3 (Nat.le_refl _) hb6
    have hf4 := rd_next hf4 (Nat.le_refl _) hb6
    clear hT5 hb6
    go_wp2_with fail
    refine (mul8_yes w6 A A' A'' c c' c'' l l' l'' hT6.1 hT6.2.1 hT6.2.2.1 hd hd' hd'' (by omega) (by omega) (by omega) H0.out Hn.out.2.2).mono ?_
    rintro e w7 ⟨A6, c6, r6, rfl, hn6, hf6, hb7⟩
    have hT7 := hT6.next hb7
    have hf1 := rd_next hf1 (Nat.le_refl _) hb7
    have hf2 := rd_next hf2 (Nat.le_refl _) hb7
    have hf3 := rd_next hf3 (Nat.le_refl _) hb7
    have hf4 := rd_next hf4 (Nat.le_refl _) hb7
    have hf5 := rd_next hf5 (Nat.le_refl _) hb7
    clear hT6 hb7
    have H14 := Lib.hid (num_one hn1 hn4)
    have H25 := Lib.hid (num_one hn2 hn5)
    have H36 := Lib.hid (num_one hn3 hn6)
    clear hn1 hn2 hn3 hn4 hn5 hn6
    go_wp2_with fail
    refine (same_both w7 A1 A4 c1 c4 r1 r4 hf1 hf4 H14.out).mono ?_
    rintro e w8 ⟨rfl, hb8⟩
    have hT8 := hT7.next hb8
    have hf2 := rd_next hf2 (Nat.le_refl _) hb8
    have hf3 := rd_next hf3 (Nat.le_refl _) hb8
    have hf5 := rd_next hf5 (Nat.le_refl _) hb8
    have hf6 := rd_next hf6 (Nat.le_refl _) hb8
    clear hT7 hb8
    go_wp2_with fail
    refine (same_both w8 A2 A5 c2 c5 r2 r5 hf2 hf5 H25.out).mono ?_
    rintro e w9 ⟨rfl, hb9⟩
    have hT9 := hT8.next hb9
    have hf3 := rd_next hf3 (Nat.le_refl _) hb9
    have hf6 := rd_next hf6 (Nat.le_refl _) hb9
    clear hT8 hb9
    go_wp2_with fail
    refine (same_both w9 A3 A6 c3 c6 r3 r6 hf3 hf6 H36.out).mono ?_
    rintro e w10 ⟨rfl, hb10⟩
    have hT10 := hT9.next hb10
    clear hT9 hb10
    go_wp2_with fail
    refine (known8_any w10).mono ?_
    rintro e w11 ⟨rfl, hb11⟩
    have hT11 := hT10.next hb11
    go_wp2_with fail
    go_ret
    exact ⟨rfl, hT11.2.2.2⟩
end Go.Proofs.Ytphfgchfphdcaaa
