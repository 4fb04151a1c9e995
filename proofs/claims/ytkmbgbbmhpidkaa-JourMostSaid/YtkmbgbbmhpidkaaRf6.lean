/-
  The document's disk: Write's other answers, Flush, Restart.
-/
import Derived.Test.YtkmbgbbmhpidkaaRf5
namespace Go.Proofs.Ytkmbgbbmhpidkaa
open Go.RowKit
set_option linter.unusedVariables false
set_option linter.unusedSimpArgs false
attribute [local go_sem ↓] Go.wp_at_zero Go.wp_at_succ

section
variable (w : World) (gx gS cS : Nat) (A : Option Addr) (cw : Nat) (K : Option Addr) (ck : Nat) (at_ : Int) (kl : List Bool) (rs : List Rw) (ws : List (Nat × Rw)) (s : Dk) (F : Nat → Prop)
set_option maxRecDepth 100000 in
theorem rwrite_down (h : RfAt w gx gS cS A cw K ck at_ kl rs ws s) (hdn : s.down = true) (i : Value) (v : Value) :
    Calls Try.prog 22 #[.pointer (some ⟨gx, 0, none⟩), i, v] w fun e w' => e = .returned (.int .i64 6) ∧ w = w' := by
  have c6 : w.cell? ⟨gx, 6, none⟩ = some (.bool s.down) := h.cell 6
  rw [hdn] at c6
  clear h hdn
  go_enter Try.func22, Try.ntmps22
  go_wp2_with fail
  go_ret
  exact ⟨rfl, rfl⟩
set_option maxRecDepth 100000 in
set_option maxHeartbeats 1000000 in
theorem rwrite_arg (h : RfAt w gx gS cS A cw K ck at_ kl rs ws s) (hdn : s.down = false) (i : Int) (A2 : Option Addr) (n2 c2 : Nat) (hb : ¬ (0 ≤ i ∧ i < (rs.length : Int) ∧ n2 = 64)) :
    Calls Try.prog 22 #[.pointer (some ⟨gx, 0, none⟩), .int .i64 i, .slice A2 n2 c2] w fun e w' => e = .returned (.int .i64 1) ∧ w = w' := by
  have c0 : w.cell? ⟨gx, 0, none⟩ = some (.slice (some ⟨gS, 0, none⟩) rs.length cS) := h.cell 0
  have c6 : w.cell? ⟨gx, 6, none⟩ = some (.bool s.down) := h.cell 6
  rw [hdn] at c6
  clear h hdn
  by_cases h0 : i < 0
  · have d0 : decide (i < 0) = true := decide_eq_true h0
    go_enter Try.func22, Try.ntmps22
    go_wp2_with fail
    go_ret
    exact ⟨rfl, rfl⟩
  have d0 : decide (i < 0) = false := decide_eq_false h0
  by_cases h1 : (rs.length : Int) ≤ i
  · have d1 : decide ((rs.length : Int) ≤ i) = true := decide_eq_true h1
    go_enter Try.func22, Try.ntmps22
    go_wp2_with fail
    go_ret
    exact ⟨rfl, rfl⟩
  have d1 : decide ((rs.length : Int) ≤ i) = false := decide_eq_false h1
  have d2 : ((n2 : Int) != 64) = true := by rw [bne_iff_ne]; omega
  go_enter Try.func22, Try.ntmps22
  go_wp2_with fail
  go_ret
  exact ⟨rfl, rfl⟩
set_option maxRecDepth 100000 in
set_option maxHeartbeats 1000000 in
theorem rwrite_due (h : RfAt w gx gS cS A cw K ck at_ kl rs ws s) (hF : ∀ g, RfBlk gx gS A K rs ws g → F g) (hdn : s.down = false) (hdue : s.due = true) (hops : s.ops ≤ 1000000000) (hwl : s.waits.length ≤ 100000) (i : Nat) (hi : i < rs.length) (A2 : Option Addr) (c2 : Nat) :
    Calls Try.prog 22 #[.pointer (some ⟨gx, 0, none⟩), .int .i64 i, .slice A2 64 c2] w fun e w' => e = .returned (.int .i64 6) ∧ (∃ rs', RfAt w' gx gS cS none 0 K ck at_ kl rs' [] s.fall ∧ ∀ g, RfBlk gx gS none K rs' [] g → F g ∨ w.heap.size ≤ g) ∧ Only F w w' := by
  have c0 : w.cell? ⟨gx, 0, none⟩ = some (.slice (some ⟨gS, 0, none⟩) rs.length cS) := h.cell 0
  have c6 : w.cell? ⟨gx, 6, none⟩ = some (.bool s.down) := h.cell 6
  rw [hdn] at c6
  have d0 : decide ((i : Int) < 0) = false := decide_eq_false (by omega)
  have d1 : decide ((rs.length : Int) ≤ (i : Int)) = false := decide_eq_false (by omega)
  have d1n : decide (rs.length ≤ i) = false := decide_eq_false (by omega)
  have HC := Lib.hid (rcrash_yes w gx gS cS A cw K ck at_ kl rs ws s F h hF hdue hops hwl)
  clear h hdn hdue hops hwl hi hF
  go_enter Try.func22, Try.ntmps22
  go_wp2_with fail
  refine HC.out.mono ?_
  rintro e w2 ⟨rfl, h2, ho2⟩
  have H2 := Lib.hid h2
  have HO2 := Lib.hid ho2
  clear h2 ho2 HC
  go_wp2_with fail
  go_ret
  exact ⟨rfl, H2.out, HO2.out⟩
set_option maxRecDepth 100000 in
theorem rflush_down (h : RfAt w gx gS cS A cw K ck at_ kl rs ws s) (hdn : s.down = true) :
    Calls Try.prog 24 #[.pointer (some ⟨gx, 0, none⟩)] w fun e w' => e = .returned (.int .i64 6) ∧ w = w' := by
  have c6 : w.cell? ⟨gx, 6, none⟩ = some (.bool s.down) := h.cell 6
  rw [hdn] at c6
  clear h hdn
  go_enter Try.func24, Try.ntmps24
  go_wp2_with fail
  go_ret
  exact ⟨rfl, rfl⟩
set_option maxRecDepth 100000 in
set_option maxHeartbeats 1000000 in
theorem rflush_due (h : RfAt w gx gS cS A cw K ck at_ kl rs ws s) (hF : ∀ g, RfBlk gx gS A K rs ws g → F g) (hdn : s.down = false) (hdue : s.due = true) (hops : s.ops ≤ 1000000000) (hwl : s.waits.length ≤ 100000) :
    Calls Try.prog 24 #[.pointer (some ⟨gx, 0, none⟩)] w fun e w' => e = .returned (.int .i64 6) ∧ (∃ rs', RfAt w' gx gS cS none 0 K ck at_ kl rs' [] s.fall ∧ ∀ g, RfBlk gx gS none K rs' [] g → F g ∨ w.heap.size ≤ g) ∧ Only F w w' := by
  have c6 : w.cell? ⟨gx, 6, none⟩ = some (.bool s.down) := h.cell 6
  rw [hdn] at c6
  have HC := Lib.hid (rcrash_yes w gx gS cS A cw K ck at_ kl rs ws s F h hF hdue hops hwl)
  clear h hdn hdue hops hwl hF
  go_enter Try.func24, Try.ntmps24
  go_wp2_with fail
  refine HC.out.mono ?_
  rintro e w2 ⟨rfl, h2, ho2⟩
  have H2 := Lib.hid h2
  have HO2 := Lib.hid ho2
  clear h2 ho2 HC
  go_wp2_with fail
  go_ret
  exact ⟨rfl, H2.out, HO2.out⟩
set_option maxRecDepth 100000 in
set_option maxHeartbeats 4000000 in
theorem rflush_ok (h : RfAt w gx gS cS A cw K ck at_ kl rs ws s) (hF : ∀ g, RfBlk gx gS A K rs ws g → F g) (hdn : s.down = false) (hdue : s.due = false) (hops : s.ops ≤ 1000000000) (hwl : s.waits.length ≤ 100000) :
    Calls Try.prog 24 #[.pointer (some ⟨gx, 0, none⟩)] w fun e w' => e = .returned (.int .i64 0) ∧ (∃ rs', RfAt w' gx gS cS none 0 K ck at_ kl rs' [] s.flushed ∧ ∀ g, RfBlk gx gS none K rs' [] g → F g ∨ w.heap.size ≤ g) ∧ Only F w w' := by
  have c6 : w.cell? ⟨gx, 6, none⟩ = some (.bool s.down) := h.cell 6
  rw [hdn] at c6
  have HC := Lib.hid (rcrash_no w gx gS cS A cw K ck at_ kl rs ws s h hdue hops)
  have hlw : s.waits.length = ws.length := by rw [← h.eW, List.length_map]
  have hm1 : ws.length ≤ 100000 := by omega
  have HLW := Lib.hid hlw
  have HFB := Lib.hid hF
  have HEA := Lib.hid h.ea
  clear h hdn hdue hops hwl hF hlw
  go_enter Try.func24, Try.ntmps24
  go_wp2_with fail
  refine HC.out.mono ?_
  rintro e w2 ⟨rfl, h2, ho2⟩
  have H2 := Lib.hid h2
  have HO2 := Lib.hid (ho2.more (F := fun g => g = gx ∨ g = gS) fun g _ e => .inl e)
  clear h2 ho2 HC c6
  go_wp2_with fail
  go_loopw [3] (fun i wr => RelCr (fun _ => true) w gx gS cS A cw K ck at_ kl ws { s with ops := s.ops + 1 } F rs.length ws.length i wr) (fun i _ => ws.length - (intOf i).toNat)
  case atStart => exact ⟨0, rs, Nat.zero_le _, rfl, rfl, H2.out, fun r hr g hg => .inl (HFB.out g (.inr (.inr (.inr (.inr (.inl ⟨r, hr, hg⟩)))))), HO2.out⟩
  case round =>
    obtain ⟨k, rs', hk, rfl, hlen, hrf, hB, hO⟩ := hrel
    obtain ⟨V, hV⟩ : ∃ V, V = wr := ⟨_, rfl⟩
    subst hV
    have c1 : V.cell? ⟨gx, 1, none⟩ = some (.slice A ws.length cw) := hrf.cell 1
    have HR := Lib.hid hrf
    have HLN := Lib.hid hlen
    have HB := Lib.hid hB
    have HO := Lib.hid hO
    have hle := hrf.hW.le
    clear hrf hlen hB hO H2 HO2
    by_cases hkn : k < ws.length
    case pos =>
      have hkI : (k : Int) < (ws.length : Int) := by omega
      have hk0 : (0 : Int) ≤ (k : Int) := by omega
      obtain ⟨gA, rfl, q0, q1, qr, qe, ql, qlt⟩ := HR.out.wait hkn
      have HQR := Lib.hid qr
      have HQL := Lib.hid ql
      have HQE := Lib.hid qe
      have HQT := Lib.hid qlt
      clear qr ql qe qlt
      generalize ws.getD k default = p at *
      obtain ⟨pa, pr⟩ := p
      go_wp2_with fail
      refine (lasts_any V gx gS cS _ cw _ ck at_ kl rs' ws _ HR.out pa (by have := HQT.out; omega) pr.a pr.c pr.l HQR.out HQL.out).mono ?_
      rintro e w2 ⟨rfl, ⟨r, hr2, hrb⟩, hO2⟩
      have HN := Lib.hid (RelCr.next (kp := fun _ => true) (s := { s with ops := s.ops + 1 }) HLN.out HB.out HO.out HQE.out rfl hr2 hrb hO2)
      clear hr2 hrb hO2
      go_wp2_with fail
      go_roundw
      case rel => exact ⟨k + 1, _, by omega, by go_num, HN.out.1, HN.out.2.1, HN.out.2.2.1, HN.out.2.2.2⟩
      case measure => simp [intOf]; omega
    case neg =>
      obtain rfl : k = ws.length := by omega
      have hkI : ¬ ((ws.length : Int) < (ws.length : Int)) := by omega
      have f1 : V.frozen? ⟨gx, 1, none⟩ = false := HR.out.hd.open_ 1
      have hfi := RfAt.to (s' := s.flushed) HR.out.cleared (by show fallN _ _ _ _ = fallN _ _ _ _; rw [HLW.out]) rfl rfl rfl rfl rfl rfl
      have HFI := Lib.hid hfi
      have HO6 : Hid (Only F w (V.setCell ⟨gx, 1, none⟩ (.slice none 0 0))) := Lib.hid ((HO.out.more (F := F) fun g _ e => by
        rcases e with rfl | rfl
        · exact HFB.out _ (.inl rfl)
        · exact HFB.out _ (.inr (.inl rfl))).setCell (p := ⟨gx, 1, none⟩) (.inl (HFB.out _ (.inl rfl))) _)
      clear hfi
      go_wp2_with fail
      go_ret
      refine ⟨rfl, ⟨rs', HFI.out, fun g hg => ?_⟩, HO6.out⟩
      rcases hg with rfl | rfl | hg | hg | ⟨r, hr, hg⟩ | ⟨p, hp, hg⟩
      · exact .inl (HFB.out _ (.inl rfl))
      · exact .inl (HFB.out _ (.inr (.inl rfl)))
      · simp [blockOf] at hg
      · exact .inl (HFB.out _ (.inr (.inr (.inr (.inl hg)))))
      · exact HB.out r hr g hg
      · cases hp
set_option maxRecDepth 100000 in
set_option maxHeartbeats 1000000 in
theorem rrestart_any (h : RfAt w gx gS cS A cw K ck at_ kl rs ws s) :
    Calls Try.prog 15 #[.pointer (some ⟨gx, 0, none⟩)] w fun e w' => e = .returned (.tuple #[]) ∧ RfAt w' gx gS cS none 0 K ck at_ kl rs [] s.restart ∧ Only (fun g => g = gx) w w' := by
  have h1 := h.cleared
  have h2 := RfAt.one (s' := { s with waits := [], armed := false }) h1 5 (.bool false) rfl rfl rfl (fun e => by cases e)
  have h3 := RfAt.one (s' := { s with waits := [], armed := false, down := false }) h2 6 (.bool false) rfl rfl rfl (fun e => by cases e)
  have h4 := RfAt.one (s' := s.restart) h3 2 (.int .i64 0) rfl rfl rfl (fun e => by cases e)
  have c1 : w.cell? ⟨gx, 1, none⟩ = some (.slice A ws.length cw) := h.cell 1
  have f1 : w.frozen? ⟨gx, 1, none⟩ = false := h.hd.open_ 1
  have c2 : (w.setCell ⟨gx, 1, none⟩ (.slice none 0 0)).cell? ⟨gx, 5, none⟩ = some (.bool s.armed) := h1.cell 5
  have f2 : (w.setCell ⟨gx, 1, none⟩ (.slice none 0 0)).frozen? ⟨gx, 5, none⟩ = false := h1.hd.open_ 5
  have c3 : ((w.setCell ⟨gx, 1, none⟩ (.slice none 0 0)).setCell ⟨gx, 5, none⟩ (.bool false)).cell? ⟨gx, 6, none⟩ = some (.bool s.down) := h2.cell 6
  have f3 : ((w.setCell ⟨gx, 1, none⟩ (.slice none 0 0)).setCell ⟨gx, 5, none⟩ (.bool false)).frozen? ⟨gx, 6, none⟩ = false := h2.hd.open_ 6
  have c4 : (((w.setCell ⟨gx, 1, none⟩ (.slice none 0 0)).setCell ⟨gx, 5, none⟩ (.bool false)).setCell ⟨gx, 6, none⟩ (.bool false)).cell? ⟨gx, 2, none⟩ = some (.int .i64 (s.ops : Int)) := h3.cell 2
  have f4 : (((w.setCell ⟨gx, 1, none⟩ (.slice none 0 0)).setCell ⟨gx, 5, none⟩ (.bool false)).setCell ⟨gx, 6, none⟩ (.bool false)).frozen? ⟨gx, 2, none⟩ = false := h3.hd.open_ 2
  have HF := Lib.hid h4
  have HO : Hid (Only (fun g => g = gx) w ((((w.setCell ⟨gx, 1, none⟩ (.slice none 0 0)).setCell ⟨gx, 5, none⟩ (.bool false)).setCell ⟨gx, 6, none⟩ (.bool false)).setCell ⟨gx, 2, none⟩ (.int .i64 0))) := Lib.hid
    (((((Only.refl (fun g => g = gx) w).setCell (F := fun g => g = gx) (p := ⟨gx, 1, none⟩) (.inl rfl) _).setCell (F := fun g => g = gx) (p := ⟨gx, 5, none⟩) (.inl rfl) _).setCell (F := fun g => g = gx) (p := ⟨gx, 6, none⟩) (.inl rfl) _).setCell (F := fun g => g = gx) (p := ⟨gx, 2, none⟩) (.inl rfl) _)
  clear h h1 h2 h3 h4
  go_enter Try.func15, Try.ntmps15
  go_wp2_with fail
  go_end0
  exact ⟨rfl, HF.out, HO.out⟩
end
end Go.Proofs.Ytkmbgbbmhpidkaa
