/-
  The law of powers that go round, walked.
-/
import Derived.Test.YtphfgchfphdcaaaRef10
namespace Go.Proofs.Ytphfgchfphdcaaa
open Go.RowKit
set_option linter.unusedVariables false

theorem such2_any (w : World) (A A' : Option Addr) (c c' : Nat) (l l' : List Nat) (hr : Rd .u32 w w.heap.size A c l) (hr' : Rd .u32 w w.heap.size A' c' l') (N : Nat) (hN : N ≤ 1000) :
    ∃ v : Bool, (v = true → okN l = true ∧ l.length ≤ N ∧ okN l' = true ∧ l'.length ≤ N) ∧
      Calls Try.prog 8 #[.int .i64 N, .slice (some ⟨w.heap.size, 0, none⟩) 2 2] (w.alloc (.cells #[.slice A l.length c, .slice A' l'.length c'] 23)) fun e w' => e = .returned (.bool v) ∧ w.alloc (.cells #[.slice A l.length c, .slice A' l'.length c'] 23) = w' := by
  have hbox := Holds.fresh w 23 #[.slice A l.length c, .slice A' l'.length c']
  have hb := (Below.refl w.heap.size w).alloc (Nat.le_refl _) (.cells #[.slice A l.length c, .slice A' l'.length c'] 23)
  have h1 := rd_next hr (Nat.le_refl _) hb
  have h2 := rd_next hr' (Nat.le_refl _) hb
  have go : ∀ v : Bool, (v = true ↔ ∀ j, j < 2 → okN (([⟨A, c, l⟩, ⟨A', c', l'⟩] : List It).getD j default).l = true ∧ (([⟨A, c, l⟩, ⟨A', c', l'⟩] : List It).getD j default).l.length ≤ N) → _ := fun v hv => such_any (w.alloc (.cells #[.slice A l.length c, .slice A' l'.length c'] 23)) N w.heap.size 2 [⟨A, c, l⟩, ⟨A', c', l'⟩] rfl (by omega) hN
    (fun j hj => by
      rcases (show j = 0 ∨ j = 1 by omega) with rfl | rfl
      · exact hbox.cell 0
      · exact hbox.cell 1)
    (fun j hj => by
      rcases (show j = 0 ∨ j = 1 by omega) with rfl | rfl
      · exact h1
      · exact h2) v hv
  by_cases h : ∀ j, j < 2 → okN (([⟨A, c, l⟩, ⟨A', c', l'⟩] : List It).getD j default).l = true ∧ (([⟨A, c, l⟩, ⟨A', c', l'⟩] : List It).getD j default).l.length ≤ N
  · exact ⟨true, fun _ => ⟨(h 0 (by omega)).1, (h 0 (by omega)).2, (h 1 (by omega)).1, (h 1 (by omega)).2⟩, go true ⟨fun _ => h, fun _ => rfl⟩⟩
  · exact ⟨false, (fun e => by cases e), go false ⟨(fun e => by cases e), fun e => absurd e h⟩⟩
theorem such1_any (w : World) (A : Option Addr) (c : Nat) (l : List Nat) (hr : Rd .u32 w w.heap.size A c l) (N : Nat) (hN : N ≤ 1000) :
    ∃ v : Bool, (v = true → okN l = true ∧ l.length ≤ N) ∧
      Calls Try.prog 8 #[.int .i64 N, .slice (some ⟨w.heap.size, 0, none⟩) 1 1] (w.alloc (.cells #[.slice A l.length c] 23)) fun e w' => e = .returned (.bool v) ∧ w.alloc (.cells #[.slice A l.length c] 23) = w' := by
  have hbox := Holds.fresh w 23 #[.slice A l.length c]
  have hb := (Below.refl w.heap.size w).alloc (Nat.le_refl _) (.cells #[.slice A l.length c] 23)
  have h1 := rd_next hr (Nat.le_refl _) hb
  have go : ∀ v : Bool, (v = true ↔ ∀ j, j < 1 → okN (([⟨A, c, l⟩] : List It).getD j default).l = true ∧ (([⟨A, c, l⟩] : List It).getD j default).l.length ≤ N) → _ := fun v hv => such_any (w.alloc (.cells #[.slice A l.length c] 23)) N w.heap.size 1 [⟨A, c, l⟩] rfl (by omega) hN
    (fun j hj => by
      obtain rfl : j = 0 := by omega
      exact hbox.cell 0)
    (fun j hj => by
      obtain rfl : j = 0 := by omega
      exact h1) v hv
  by_cases h : ∀ j, j < 1 → okN (([⟨A, c, l⟩] : List It).getD j default).l = true ∧ (([⟨A, c, l⟩] : List It).getD j default).l.length ≤ N
  · exact ⟨true, fun _ => h 0 (by omega), go true ⟨fun _ => h, fun _ => rfl⟩⟩
  · exact ⟨false, (fun e => by cases e), go false ⟨(fun e => by cases e), fun e => absurd e h⟩⟩

set_option maxRecDepth 100000 in
set_option maxHeartbeats 2000000 in
theorem law_powers8 (w : World) (A A' A'' : Option Addr) (c c' c'' : Nat) (l l' l'' : List Nat) (hr : Rd .u32 w w.heap.size A c l) (hr' : Rd .u32 w w.heap.size A' c' l') (hr'' : Rd .u32 w w.heap.size A'' c'' l'') (hd : Dg l) (hd' : Dg l') (hd'' : Dg l'') :
    Calls Try.prog 4 #[.slice A l.length c, .slice A' l'.length c', .slice A'' l''.length c''] w fun e w' => e = .returned (.bool true) ∧ Below w.heap.size w w' := by
  have hT0 : Three w A A' A'' c c' c'' l l' l'' w := ⟨hr, hr', hr'', Below.refl _ _⟩
  have hball := (Below.refl w.heap.size w).alloc (Nat.le_refl _) (.cells #[.slice A l.length c, .slice A'' l''.length c''] 23)
  have hT := hT0.next hball
  obtain ⟨v, hv, hcall⟩ := such2_any w A A'' c c'' l l'' hr hr'' 40 (by omega)
  have HV := Lib.hid hv
  have HS := Lib.hid hcall
  have hlc := hr.1
  have hlc' := hr'.1
  have hlc'' := hr''.1
  have hc63 := hr.2.1
  have hc63' := hr'.2.1
  have hc63'' := hr''.2.1
  clear hball hT0 hr hr' hr'' hv hcall
  go_enter Try.func4, Try.ntmps4
  go_wp2_with fail
  generalize w.alloc (.cells #[.slice A l.length c, .slice A'' l''.length c''] 23) = W at *
  refine HS.out.mono ?_
  rintro e w1 ⟨rfl, rfl⟩
  cases v
  case false =>
    go_wp2_with fail
    go_ret
    exact ⟨rfl, hT.2.2.2⟩
  case true =>
  obtain ⟨h1a, h1b, h3a, h3b⟩ := HV.out rfl
  obtain ⟨v, hv, hcall⟩ := such1_any W A' c' l' hT.2.1 4 (by omega)
  have HV2 := Lib.hid hv
  have HS2 := Lib.hid hcall
  have hball := (Below.refl W.heap.size W).alloc (Nat.le_refl _) (.cells #[.slice A' l'.length c'] 23)
  have hT := hT.next hball
  clear hball hv hcall HS HV
  go_wp2_with fail
  generalize W.alloc (.cells #[.slice A' l'.length c'] 23) = W2 at *
  refine HS2.out.mono ?_
  rintro e w1 ⟨rfl, rfl⟩
  cases v
  case false =>
    go_wp2_with fail
    go_ret
    exact ⟨rfl, hT.2.2.2⟩
  case true =>
  obtain ⟨h2a, h2b⟩ := HV2.out rfl
  have Hn := Lib.hid (⟨(okN_nrm h1a).2, (okN_nrm h2a).2, (okN_nrm h3a).2⟩ : nrm l ∧ nrm l' ∧ nrm l'')
  clear h1a h2a h3a HS2 HV2
  by_cases h0 : val l'' = 0
  case pos =>
    have H0 := Lib.hid h0
    clear h0
    go_wp2_with fail
    refine (exp_no W2 A A' A'' c c' c'' l l' l'' hT.1 hT.2.2.1 hd'' H0.out).mono ?_
    rintro e w2 ⟨rfl, hb2⟩
    have hT2 := hT.next hb2
    clear hT hb2
    go_wp2_with fail
    refine (exp8_no w2 A A' A'' c c' c'' _ _ l'' hd'' H0.out Hn.out.2.2).mono ?_
    rintro e w3 ⟨rfl, hb3⟩
    have hT3 := hT2.next hb3
    clear hT2 hb3
    go_wp2_with fail
    refine (same_both w3 none none 0 0 [] [] (Rd.nil_ _ _ _) (Rd.nil_ _ _ _) rfl).mono ?_
    rintro e w8 ⟨rfl, hb8⟩
    have hT8 := hT3.next hb8
    clear hT3 hb8
    go_wp2_with fail
    refine (known8_any w8).mono ?_
    rintro e w11 ⟨rfl, hb11⟩
    have hT11 := hT8.next hb11
    go_wp2_with fail
    go_ret
    exact ⟨rfl, hT11.2.2.2⟩
  case neg =>
    have H0 := Lib.hid h0
    clear h0
    go_wp2_with fail
    refine (exp_yes W2 A A' A'' c c' c'' l l' l'' hT.1 hT.2.1 hT.2.2.1 hd hd' hd'' (by omega) (by omega) (by omega) H0.out).mono ?_
    rintro e w2 h
    obtain ⟨A1, c1, r1, rfl, hn1, hf1, hb2⟩ := h.r
    have hT2 := hT.next hb2
    clear hT hb2 h
    go_wp2_with fail
    refine (exp8_yes w2 A A' A'' c c' c'' l l' l'' hT2.1 hT2.2.1 hT2.2.2.1 hd hd' hd'' (by omega) (by omega) (by omega) H0.out Hn.out.1 Hn.out.2.1 Hn.out.2.2).mono ?_
    rintro e w5 ⟨A4, c4, r4, rfl, hn4, hf4, hb5⟩
    have hT5 := hT2.next hb5
    have hf1 := rd_next hf1 (Nat.le_refl _) hb5
    have H14 := Lib.hid (num_one hn1 hn4)
    clear hT2 hb5 hn1 hn4
    go_wp2_with fail
    refine (same_both w5 A1 A4 c1 c4 r1 r4 hf1 hf4 H14.out).mono ?_
    rintro e w8 ⟨rfl, hb8⟩
    have hT8 := hT5.next hb8
    clear hT5 hb8
    go_wp2_with fail
    refine (known8_any w8).mono ?_
    rintro e w11 ⟨rfl, hb11⟩
    have hT11 := hT8.next hb11
    go_wp2_with fail
    go_ret
    exact ⟨rfl, hT11.2.2.2⟩
end Go.Proofs.Ytphfgchfphdcaaa
