/-
  Any serial, at any time, in any row that is such; later it stays so (statement CrlGone): the law's walk.
-/
import Derived.Test.YtionikhhdfkhdaaDoorGn4
namespace Go.Proofs.YtionikhhdfkhdaaDoor
open Go.RowKit
set_option linter.unusedVariables false
set_option linter.unusedSimpArgs false
attribute [local go_sem ↓] Go.wp_at_zero Go.wp_at_succ

set_option maxRecDepth 100000 in
set_option maxHeartbeats 2000000 in
theorem digest_no (w : World) (cl : Cl) (h : ClP cl w) (hT : Lib.Utf8Tabs 0 1 w) (hsz : ∀ x ∈ cl.iss, (bts x.s).length ≤ 9223372036854775807) (hno : crlOk cl.v = false) :
    Calls Tryd.prog 14 #[.agg (ccell cl).toArray] w fun e w' => e = .returned (.slice none 0 0) ∧ Below w.heap.size w w' := by
  have hq0 : Below w.heap.size w (w.alloc (.cells (ccell cl).toArray 26)) := (Below.refl _ _).alloc (Nat.le_refl _) _
  have hH0 := Holds.fresh w 26 (ccell cl).toArray
  have his := crlIs_any (w.alloc (.cells (ccell cl).toArray 26)) cl ((Off.of_c h).under hq0).at_ (Utf8Tabs_below hT hq0) hsz
  rw [hno] at his
  obtain ⟨ia, ic, iss, tat, tnx, ga, gc, gone, sa, sc, sig⟩ := cl
  simp only [ccell] at hq0 hH0 his ⊢
  generalize iss.length = isn at *
  generalize gone.length = gn at *
  generalize sig.length = sn at *
  have HIS := Lib.hid his
  have HB0 := Lib.hid hq0
  have c0 := hH0.cell 0
  have c1 := hH0.cell 1
  have c2 := hH0.cell 2
  have c3 := hH0.cell 3
  have c4 := hH0.cell 4
  clear h hT hsz hno hq0 hH0 his
  go_enter Tryd.func14, Tryd.ntmps14
  go_wp2_with fail
  refine HIS.out.mono ?_
  rintro e w2 ⟨rfl, hb2⟩
  have HB2 := Lib.hid (HB0.out.trans (hb2.mono HB0.out.size))
  clear hb2 c0 c1 c2 c3 c4
  go_wp2_with fail
  go_ret
  exact ⟨rfl, HB2.out⟩
theorem rd_one (w : World) (x : Nat) (xi : Int) (hx : xi = (x : Int)) : Off [] (fun w' => Rd .u32 w' w'.heap.size (some ⟨w.heap.size, 0, none⟩) 1 [x]) (w.alloc (.cells #[.int .u32 xi] 36)) := by
  subst hx
  refine Off.of_rd (B := w.heap.size + 1) ?_ (by simp)
  have hH := Holds.fresh w 36 #[.int .u32 (x : Int)]
  refine ⟨Nat.le_refl _, by omega, fun _ => ⟨w.heap.size, 0, rfl, by omega, fun j hj => ?_⟩⟩
  obtain rfl : j = 0 := by simp at hj; omega
  exact hH.cell 0
theorem gs_one {w : World} {g : Gn} (h : Off [] (GnP g) w) : Off [] (GsP (some ⟨w.heap.size, 0, none⟩) 1 [g]) (w.alloc (.cells (gcell g).toArray 38)) := by
  have hH := Holds.fresh w 38 (gcell g).toArray
  intro w' h2 h3
  have hs : (w.alloc (.cells (gcell g).toArray 38)).heap.size = w.heap.size + 1 := by simp
  have hH' : Holds w' w.heap.size 38 (gcell g).toArray := (h3 _ (by simp) (by omega)).trans hH
  refine ⟨⟨by simp, by omega, fun _ => ⟨w.heap.size, 0, rfl, by omega, fun j hj => ?_⟩⟩, fun x hx => ?_⟩
  · obtain rfl : j = 0 := by simp at hj; omega
    exact ⟨hH'.cell 0, hH'.cell 1⟩
  · rw [List.mem_singleton.1 hx]
    exact (h.alloc _) w' h2 h3
theorem dg_one {x : Nat} (h : x < 4294967296) : Dg [x] := fun y hy => by rw [List.mem_singleton.1 hy]; exact h
theorem off_gn {w : World} {A : Option Addr} {c : Nat} {l : List Nat} {t : Int} (h : Off [] (fun w' => Rd .u32 w' w'.heap.size A c l) w) (hd : Dg l) : Off [] (GnP ⟨A, c, l, t⟩) w := fun w' h2 h3 => ⟨h w' h2 h3, hd⟩
set_option maxRecDepth 100000 in
set_option maxHeartbeats 4000000 in
theorem known19_any (w : World) (hT : Lib.Utf8Tabs 0 1 w) :
    Calls Tryd.prog 10 #[] w fun e w' => e = .returned (.bool true) ∧ Below w.heap.size w w' := by
  have hr1 := rd_one w 5 5 rfl
  have hg1 := gs_one (off_gn (t := 10) hr1 (dg_one (by decide)))
  have hs1 : (w.alloc (.cells #[.int .u32 5] 36)).heap.size = w.heap.size + 1 := by simp
  simp only [gcell] at hg1
  rw [hs1] at hg1
  have hg1 : Off [] (GsP (some ⟨w.heap.size + 1, 0, none⟩) 1 [⟨some ⟨w.heap.size, 0, none⟩, 1, [5], 10⟩]) ((w.alloc (.cells #[.int .u32 5] 36)).alloc (.cells #[.slice (some ⟨w.heap.size, 0, none⟩) 1 1, .int .i64 10] 38)) := hg1
  obtain ⟨V, hV⟩ : ∃ V, V = ((w.alloc (.cells #[.int .u32 5] 36)).alloc (.cells #[.slice (some ⟨w.heap.size, 0, none⟩) 1 1, .int .i64 10] 38)).alloc (.cells #[.slice none 0 0, .int .i64 0, .int .i64 0, .slice (some ⟨w.heap.size + 1, 0, none⟩) 1 1, .slice none 0 0] 26) := ⟨_, rfl⟩
  have hbV : Below w.heap.size w V := by
    rw [hV]
    exact (((Below.refl _ _).alloc (Nat.le_refl _) _).alloc (by simp) _).alloc (by simp; omega) _
  have hgV : Off [] (GsP (some ⟨w.heap.size + 1, 0, none⟩) 1 [⟨some ⟨w.heap.size, 0, none⟩, 1, [5], 10⟩]) V := by rw [hV]; exact hg1.alloc _
  have hHV : Holds V (w.heap.size + 1 + 1) 26 #[.slice none 0 0, .int .i64 0, .int .i64 0, .slice (some ⟨w.heap.size + 1, 0, none⟩) 1 1, .slice none 0 0] := by
    rw [hV]
    have h := Holds.fresh ((w.alloc (.cells #[.int .u32 5] 36)).alloc (.cells #[.slice (some ⟨w.heap.size, 0, none⟩) 1 1, .int .i64 10] 38)) 26 #[.slice none 0 0, .int .i64 0, .int .i64 0, .slice (some ⟨w.heap.size + 1, 0, none⟩) 1 1, .slice none 0 0]
    rwa [show ((w.alloc (.cells #[.int .u32 5] 36)).alloc (.cells #[.slice (some ⟨w.heap.size, 0, none⟩) 1 1, .int .i64 10] 38)).heap.size = w.heap.size + 1 + 1 by simp] at h
  have HGONE : Hid (∀ (W : World) (x : Nat) (xi t : Int), xi = (x : Int) → Below V.heap.size V W → Calls Tryd.prog 8 #[.agg #[.slice none 0 0, .int .i64 0, .int .i64 0, .slice (some ⟨w.heap.size + 1, 0, none⟩) 1 1, .slice none 0 0], .slice (some ⟨W.heap.size, 0, none⟩) 1 1, .int .i64 t] (W.alloc (.cells #[.int .u32 xi] 36)) fun e w' => e = .returned (.bool (goneS [⟨[5], 10⟩] [x] t)) ∧ Below (W.alloc (.cells #[.int .u32 xi] 36)).heap.size (W.alloc (.cells #[.int .u32 xi] 36)) w') := Lib.hid fun W x xi t hx hW =>
    gone_any (W.alloc (.cells #[.int .u32 xi] 36)) ⟨none, 0, [], 0, 0, some ⟨w.heap.size + 1, 0, none⟩, 1, [⟨some ⟨w.heap.size, 0, none⟩, 1, [5], 10⟩], none, 0, []⟩ ((hgV.under hW).alloc _) 0 (some ⟨W.heap.size, 0, none⟩) 1 1 [x] (rd_one W x xi hx) rfl t
  have HDIG : Hid (∀ W, Below V.heap.size V W → Calls Tryd.prog 14 #[.agg #[.slice none 0 0, .int .i64 0, .int .i64 0, .slice (some ⟨w.heap.size + 1, 0, none⟩) 1 1, .slice none 0 0]] W fun e w' => e = .returned (.slice none 0 0) ∧ Below W.heap.size W w') := Lib.hid fun W hW =>
    digest_no W ⟨none, 0, [], 0, 0, some ⟨w.heap.size + 1, 0, none⟩, 1, [⟨some ⟨w.heap.size, 0, none⟩, 1, [5], 10⟩], none, 0, []⟩ ⟨RdA.nil_ _ _ _ _ (Nat.zero_le _), (hgV.under hW).at_, Rd.nil_ _ _ _, fun x hx => by cases hx⟩ (Utf8Tabs_below hT (hbV.trans (hW.mono hbV.size))) (fun x hx => by cases hx) rfl
  have HBV := Lib.hid hbV
  have HHV := Lib.hid hHV
  have HLT : Hid (w.heap.size + 1 + 1 < V.heap.size) := Lib.hid hHV.lt
  have HV := Lib.hid hV
  clear hr1 hg1 hs1 hbV hgV hHV hV hT
  have d1 : goneS [⟨[5], 10⟩] [5] 10 = true := by decide
  have d2 : goneS [⟨[5], 10⟩] [5] 9 = false := by decide
  have d3 : goneS [⟨[5], 10⟩] [6] 10 = false := by decide
  have hVs : V.heap.size = w.heap.size + 1 + 1 + 1 := by rw [HV.out]; simp
  have HC1 := HGONE.out V 5 5 10 rfl (Below.refl _ _)
  rw [d1] at HC1
  have HC1 : Calls Tryd.prog 8 #[.agg #[.slice none 0 0, .int .i64 0, .int .i64 0, .slice (some ⟨w.heap.size + 1, 0, none⟩) 1 1, .slice none 0 0], .slice (some ⟨w.heap.size + 1 + 1 + 1, 0, none⟩) 1 1, .int .i64 10] (V.alloc (.cells #[.int .u32 5] 36)) fun e w' => e = .returned (.bool true) ∧ Below (V.alloc (.cells #[.int .u32 5] 36)).heap.size (V.alloc (.cells #[.int .u32 5] 36)) w' := by rw [← hVs]; exact HC1
  have HC1 := Lib.hid HC1
  have hb3 : Below V.heap.size V (V.alloc (.cells #[.int .u32 5] 36)) := (Below.refl _ _).alloc (Nat.le_refl _) _
  have HB3 := Lib.hid hb3
  have c0 := HHV.out.cell 0
  have c1 := HHV.out.cell 1
  have c2 := HHV.out.cell 2
  have c3 := HHV.out.cell 3
  have c4 := HHV.out.cell 4
  rw [HV.out] at c0 c1 c2 c3 c4
  clear hb3 hVs
  go_enter Tryd.func10, Tryd.ntmps10
  go_wp2_with fail
  rw [← HV.out]
  refine HC1.out.mono ?_
  rintro e w1 ⟨rfl, hb1⟩
  have HB1 := Lib.hid (HB3.out.trans (hb1.mono HB3.out.size))
  clear hb1 c0 c1 c2 c3 c4 HC1 HV
  have hh := HHV.out.under HB1.out HLT.out
  have c0 := hh.cell 0
  have c1 := hh.cell 1
  have c2 := hh.cell 2
  have c3 := hh.cell 3
  have c4 := hh.cell 4
  have hc := HGONE.out w1 5 5 9 rfl HB1.out
  rw [d2] at hc
  have HC := Lib.hid hc
  have hq : Below w1.heap.size w1 (w1.alloc (.cells #[.int .u32 5] 36)) := (Below.refl _ _).alloc (Nat.le_refl _) _
  have HQ := Lib.hid (HB1.out.trans (hq.mono HB1.out.size))
  clear hh hc hq
  go_wp2_with fail
  refine HC.out.mono ?_
  rintro e w2 ⟨rfl, hb⟩
  have HB2 := Lib.hid (HQ.out.trans (hb.mono HQ.out.size))
  clear hb c0 c1 c2 c3 c4 HC HQ
  have hh := HHV.out.under HB2.out HLT.out
  have c0 := hh.cell 0
  have c1 := hh.cell 1
  have c2 := hh.cell 2
  have c3 := hh.cell 3
  have c4 := hh.cell 4
  have hc := HGONE.out w2 6 6 10 rfl HB2.out
  rw [d3] at hc
  have HC := Lib.hid hc
  have hq : Below w2.heap.size w2 (w2.alloc (.cells #[.int .u32 6] 36)) := (Below.refl _ _).alloc (Nat.le_refl _) _
  have HQ := Lib.hid (HB2.out.trans (hq.mono HB2.out.size))
  clear hh hc hq
  go_wp2_with fail
  refine HC.out.mono ?_
  rintro e w3 ⟨rfl, hb⟩
  have HB3 := Lib.hid (HQ.out.trans (hb.mono HQ.out.size))
  clear hb c0 c1 c2 c3 c4 HC HQ
  have hh := HHV.out.under HB3.out HLT.out
  have c0 := hh.cell 0
  have c1 := hh.cell 1
  have c2 := hh.cell 2
  have c3 := hh.cell 3
  have c4 := hh.cell 4
  have HC := Lib.hid (HDIG.out w3 HB3.out)
  clear hh
  go_wp2_with fail
  refine HC.out.mono ?_
  rintro e w4 ⟨rfl, hb⟩
  have HB4 := Lib.hid (HBV.out.trans ((HB3.out.trans (hb.mono HB3.out.size)).mono HBV.out.size))
  clear hb c0 c1 c2 c3 c4 HC
  go_wp2_with fail
  go_ret
  exact ⟨rfl, HB4.out⟩
set_option maxRecDepth 100000 in
set_option maxHeartbeats 2000000 in
theorem long19_any (w : World) (cl : Cl) :
    Calls Tryd.prog 5 #[.agg (ccell cl).toArray] w fun e w' => e = .returned (.bool (decide (20 < cl.iss.length ∨ 40 < cl.gone.length ∨ 1000 < cl.sig.length))) ∧ Below w.heap.size w w' := by
  obtain ⟨r, HR⟩ : ∃ r, Hid (r = decide (20 < cl.iss.length ∨ 40 < cl.gone.length ∨ 1000 < cl.sig.length)) := ⟨_, rfl⟩
  rw [← HR.out]
  have hq0 : Below w.heap.size w (w.alloc (.cells (ccell cl).toArray 26)) := (Below.refl _ _).alloc (Nat.le_refl _) _
  have hH0 := Holds.fresh w 26 (ccell cl).toArray
  obtain ⟨ia, ic, iss, tat, tnx, ga, gc, gone, sa, sc, sig⟩ := cl
  dsimp only at HR
  simp only [ccell] at hq0 hH0 ⊢
  generalize iss.length = isn at *
  generalize gone.length = gn at *
  generalize sig.length = sn at *
  have HB0 := Lib.hid hq0
  have c0 := hH0.cell 0
  have c3 := hH0.cell 3
  have c4 := hH0.cell 4
  clear hq0 hH0
  by_cases h1 : 20 < isn
  · have HE : Hid (r = true) := Lib.hid (by rw [HR.out]; exact decide_eq_true (.inl h1))
    have d1 : decide ((20 : Int) < (isn : Int)) = true := decide_eq_true (by omega)
    go_enter Tryd.func5, Tryd.ntmps5
    go_wp2_with fail
    go_ret
    exact ⟨by rw [HE.out]; rfl, HB0.out⟩
  have d1 : decide ((20 : Int) < (isn : Int)) = false := decide_eq_false (by omega)
  by_cases h2 : 40 < gn
  · have HE : Hid (r = true) := Lib.hid (by rw [HR.out]; exact decide_eq_true (.inr (.inl h2)))
    have d2 : decide ((40 : Int) < (gn : Int)) = true := decide_eq_true (by omega)
    go_enter Tryd.func5, Tryd.ntmps5
    go_wp2_with fail
    go_ret
    exact ⟨by rw [HE.out]; rfl, HB0.out⟩
  have d2 : decide ((40 : Int) < (gn : Int)) = false := decide_eq_false (by omega)
  by_cases h3 : 1000 < sn
  · have HE : Hid (r = true) := Lib.hid (by rw [HR.out]; exact decide_eq_true (.inr (.inr h3)))
    have d3 : decide ((1000 : Int) < (sn : Int)) = true := decide_eq_true (by omega)
    go_enter Tryd.func5, Tryd.ntmps5
    go_wp2_with fail
    go_ret
    exact ⟨by rw [HE.out]; rfl, HB0.out⟩
  · have HE : Hid (r = false) := Lib.hid (by rw [HR.out]; exact decide_eq_false (by omega))
    have d3 : decide ((1000 : Int) < (sn : Int)) = false := decide_eq_false (by omega)
    go_enter Tryd.func5, Tryd.ntmps5
    go_wp2_with fail
    go_ret
    exact ⟨by rw [HE.out]; rfl, HB0.out⟩
theorem goneS_more {l : List GV} {s : List Nat} {t u : Int} (h : goneS l s t = true) (hu : t ≤ u) : goneS l s u = true := by
  obtain ⟨g, hg, h2⟩ := List.any_eq_true.1 h
  simp only [Bool.and_eq_true, decide_eq_true_eq] at h2
  exact goneS_yes hg h2.1 (by omega)
end Go.Proofs.YtionikhhdfkhdaaDoor
