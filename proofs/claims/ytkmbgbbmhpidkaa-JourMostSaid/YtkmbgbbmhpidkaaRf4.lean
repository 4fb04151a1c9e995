/-
  The document's disk: does it crash here?
-/
import Derived.Test.YtkmbgbbmhpidkaaRf3
namespace Go.Proofs.Ytkmbgbbmhpidkaa
open Go.RowKit
set_option linter.unusedVariables false
set_option linter.unusedSimpArgs false

section
variable {w w' : World} {gx gS cS : Nat} {A : Option Addr} {cw : Nat} {K : Option Addr} {ck : Nat} {at_ : Int} {kl : List Bool} {rs : List Rw} {ws : List (Nat × Rw)} {s s' : Dk}
theorem RfAt.to (h : RfAt w gx gS cS A cw K ck at_ kl rs ws s) (e1 : s'.lasts = s.lasts) (e2 : s'.waits = s.waits) (e3 : s'.ops = s.ops) (e4 : s'.armed = s.armed) (e5 : s'.at_ = s.at_) (e6 : s'.keep = s.keep) (e7 : s'.down = s.down) : RfAt w gx gS cS A cw K ck at_ kl rs ws s' := by
  obtain ⟨n, l, wt, o, a, t, k, d⟩ := s
  obtain ⟨n', l', wt', o', a', t', k', d'⟩ := s'
  simp only at e1 e2 e3 e4 e5 e6 e7
  subst e1 e2 e3 e4 e5 e6 e7
  exact ⟨h.hd, h.hS, h.hW, h.rd, h.wd, h.hk, h.eS, h.eW, h.ea, h.xs, h.ax, h.kx, h.n1, h.n2, h.wat⟩
theorem RfAt.one (h : RfAt w gx gS cS A cw K ck at_ kl rs ws s) (i : Nat) (v : Value)
    (hc : (rcells gS rs.length cS A ws.length cw s.ops at_ K kl.length ck s.armed s.down).setIfInBounds i v = rcells gS rs.length cS A ws.length cw s'.ops at_ K kl.length ck s'.armed s'.down)
    (e1 : s'.lasts = s.lasts) (e2 : s'.waits = s.waits) (ea : s'.armed = true → at_ = s'.at_ ∧ kl = s'.keep) : RfAt (w.setCell ⟨gx, i, none⟩ v) gx gS cS A cw K ck at_ kl rs ws s' :=
  h.re (Nat.le_of_eq (setCell_size _ _ _).symm) (fun g hne _ => Below.heap_setCell w ⟨gx, i, none⟩ v g hne) (by have := Holds.stored h.hd i v; rw [hc] at this; exact this) e1 e2 ea
theorem RfAt.blk (h : RfAt w gx gS cS A cw K ck at_ kl rs ws s) {F : Nat → Prop} (hF : ∀ g, RfBlk gx gS A K rs ws g → F g) : F gx ∧ F gS := ⟨hF _ (.inl rfl), hF _ (.inr (.inl rfl))⟩
end

theorem below_drewN (w : World) (n : Nat) : Below w.heap.size w (w.drewN n) := ⟨rfl, rfl, rfl, Nat.le_refl _, fun _ _ => rfl⟩
def RelCr (kp : Nat → Bool) (w : World) (gx gS cS : Nat) (A : Option Addr) (cw : Nat) (K : Option Addr) (ck : Nat) (at_ : Int) (kl : List Bool) (ws : List (Nat × Rw)) (s : Dk) (F : Nat → Prop) (n m : Nat) (i : Value) (wr : World) : Prop :=
  ∃ (k : Nat) (rs' : List Rw), k ≤ m ∧ i = .int .i64 k ∧ rs'.length = n ∧ RfAt wr gx gS cS A cw K ck at_ kl rs' ws { s with lasts := fallN kp s.waits s.lasts k } ∧ (∀ r ∈ rs', ∀ g, blockOf r.a = some g → F g ∨ w.heap.size ≤ g) ∧ Only (fun g => g = gx ∨ g = gS) w wr
/-- One more has lasted. -/
theorem RelCr.next {kp : Nat → Bool} {w V w' : World} {gx gS cS : Nat} {A : Option Addr} {cw : Nat} {K : Option Addr} {ck : Nat} {at_ : Int} {kl : List Bool} {ws : List (Nat × Rw)} {s : Dk} {F : Nat → Prop} {n k pa : Nat} {l : List Nat} {rs' : List Rw} {r : Rw}
    (hlen : rs'.length = n) (hB : ∀ r ∈ rs', ∀ g, blockOf r.a = some g → F g ∨ w.heap.size ≤ g) (hO : Only (fun g => g = gx ∨ g = gS) w V) (hqe : (pa, l) = s.waits.getD k default) (hkp : kp k = true)
    (hr : RfAt w' gx gS cS A cw K ck at_ kl (rs'.set pa r) ws { ({ s with lasts := fallN kp s.waits s.lasts k } : Dk) with lasts := (fallN kp s.waits s.lasts k).set pa l }) (hrb : ∀ g, blockOf r.a = some g → V.heap.size ≤ g) (hO2 : Only (fun g => g = gS) V w') :
    (rs'.set pa r).length = n ∧ RfAt w' gx gS cS A cw K ck at_ kl (rs'.set pa r) ws { s with lasts := fallN kp s.waits s.lasts (k + 1) } ∧ (∀ r' ∈ rs'.set pa r, ∀ g, blockOf r'.a = some g → F g ∨ w.heap.size ≤ g) ∧ Only (fun g => g = gx ∨ g = gS) w w' := by
  refine ⟨by rw [List.length_set, hlen], ?_, fun r' hr' g hg => ?_, hO.trans hO2 fun g _ e => .inr e⟩
  · rw [fallN, if_pos hkp, ← hqe]
    exact hr
  · rcases List.mem_or_eq_of_mem_set hr' with h1 | h1
    · exact hB r' h1 g hg
    · subst h1
      exact .inr (Nat.le_trans hO.size (hrb g hg))

section
variable (w : World) (gx gS cS : Nat) (A : Option Addr) (cw : Nat) (K : Option Addr) (ck : Nat) (at_ : Int) (kl : List Bool) (rs : List Rw) (ws : List (Nat × Rw)) (s : Dk) (F : Nat → Prop)
set_option maxRecDepth 100000 in
set_option maxHeartbeats 1000000 in
theorem rcrash_no (h : RfAt w gx gS cS A cw K ck at_ kl rs ws s) (hdue : s.due = false) (hops : s.ops ≤ 1000000000) :
    Calls Try.prog 58 #[.pointer (some ⟨gx, 0, none⟩)] w fun e w' => e = .returned (.bool false) ∧ RfAt w' gx gS cS A cw K ck at_ kl rs ws { s with ops := s.ops + 1 } ∧ Only (fun g => g = gx) w w' := by
  have c2 : w.cell? ⟨gx, 2, none⟩ = some (.int .i64 (s.ops : Int)) := h.cell 2
  have c3 : w.cell? ⟨gx, 3, none⟩ = some (.int .i64 at_) := h.cell 3
  have c5 : w.cell? ⟨gx, 5, none⟩ = some (.bool s.armed) := h.cell 5
  have f2 : w.frozen? ⟨gx, 2, none⟩ = false := h.hd.open_ 2
  have o1 : (s.ops : Int) ≤ 1000000000 := by omega
  have o0 : (0 : Int) ≤ (s.ops : Int) := by omega
  have HF : Hid (∀ q, RfAt ((w.drewN q).setCell ⟨gx, 2, none⟩ (.int .i64 ((s.ops : Int) + 1))) gx gS cS A cw K ck at_ kl rs ws { s with ops := s.ops + 1 }) := Lib.hid fun q => (h.under (below_drewN w q)).one 2 _ rfl rfl rfl h.ea
  have HO : Hid (∀ q, Only (fun g => g = gx) w ((w.drewN q).setCell ⟨gx, 2, none⟩ (.int .i64 ((s.ops : Int) + 1)))) := Lib.hid fun q => ((Only.refl (fun g => g = gx) w).drewN q).setCell (F := fun g => g = gx) (p := ⟨gx, 2, none⟩) (.inl rfl) _
  have hea := h.ea
  obtain ⟨b, hb⟩ : ∃ b, b = s.armed := ⟨_, rfl⟩
  rw [← hb] at c5
  have ha := hb.symm
  clear hb
  cases b
  case false =>
    clear h hea hdue ha
    go_enter Try.func58, Try.ntmps58
    go_wp2_with fail
    go_quiet (fail)
    go_wp2_with fail
    go_ret
    exact ⟨rfl, HF.out _, HO.out _⟩
  case true =>
    have hlt : decide ((s.ops : Int) < at_) = true := by
      have h1 := (hea ha).1
      unfold Dk.due at hdue
      rw [ha] at hdue
      have h2 : ¬ s.at_ ≤ (s.ops : Int) := by simpa using hdue
      exact decide_eq_true (by omega)
    clear h hea hdue ha
    go_enter Try.func58, Try.ntmps58
    go_wp2_with fail
    go_big_quiet (fail)
    go_wp2_with fail
    go_ret
    exact ⟨rfl, HF.out _, HO.out _⟩
set_option maxRecDepth 100000 in
set_option maxHeartbeats 4000000 in
theorem rcrash_yes (h : RfAt w gx gS cS A cw K ck at_ kl rs ws s) (hF : ∀ g, RfBlk gx gS A K rs ws g → F g) (hdue : s.due = true) (hops : s.ops ≤ 1000000000) (hwl : s.waits.length ≤ 100000) :
    Calls Try.prog 58 #[.pointer (some ⟨gx, 0, none⟩)] w fun e w' => e = .returned (.bool true) ∧ (∃ rs', RfAt w' gx gS cS none 0 K ck at_ kl rs' [] s.fall ∧ ∀ g, RfBlk gx gS none K rs' [] g → F g ∨ w.heap.size ≤ g) ∧ Only F w w' := by
  have c2 : w.cell? ⟨gx, 2, none⟩ = some (.int .i64 (s.ops : Int)) := h.cell 2
  have c3 : w.cell? ⟨gx, 3, none⟩ = some (.int .i64 at_) := h.cell 3
  have c5 : w.cell? ⟨gx, 5, none⟩ = some (.bool s.armed) := h.cell 5
  have ha : s.armed = true := by unfold Dk.due at hdue; revert hdue; cases s.armed <;> simp
  obtain ⟨ea1, ea2⟩ := h.ea ha
  have hlt : decide ((s.ops : Int) < at_) = false := by
    unfold Dk.due at hdue
    rw [ha] at hdue
    have h2 : s.at_ ≤ (s.ops : Int) := by simpa using hdue
    exact decide_eq_false (by omega)
  have hlw : s.waits.length = ws.length := by rw [← h.eW, List.length_map]
  have HLW := Lib.hid hlw
  have HEA := Lib.hid ea2
  have HFB := Lib.hid hF
  have HH := Lib.hid h
  rw [ha] at c5
  have hm1 : ws.length ≤ 100000 := by omega
  clear h ha ea1 ea2 hdue hwl hops hlw hF
  go_enter Try.func58, Try.ntmps58
  go_wp2_with fail
  go_big_quiet (fail)
  go_wp2_with fail
  go_loopw [3] (fun i wr => RelCr (fun j => kl.getD j false) w gx gS cS A cw K ck at_ kl ws s F rs.length ws.length i wr) (fun i _ => ws.length - (intOf i).toNat)
  case atStart => exact ⟨0, rs, Nat.zero_le _, rfl, rfl, HH.out.under (below_drewN w _), fun r hr g hg => .inl (HFB.out g (.inr (.inr (.inr (.inr (.inl ⟨r, hr, hg⟩)))))), (Only.refl _ w).drewN _⟩
  case round =>
    obtain ⟨k, rs', hk, rfl, hlen, hrf, hB, hO⟩ := hrel
    obtain ⟨V, hV⟩ : ∃ V, V = wr := ⟨_, rfl⟩
    subst hV
    clear c2 c3 c5
    have c1 : V.cell? ⟨gx, 1, none⟩ = some (.slice A ws.length cw) := hrf.cell 1
    have c4 : V.cell? ⟨gx, 4, none⟩ = some (.slice K kl.length ck) := hrf.cell 4
    have HR := Lib.hid hrf
    have HLN := Lib.hid hlen
    have HB := Lib.hid hB
    have HO := Lib.hid hO
    have hle := hrf.hW.le
    have hke : kl.length ≤ ck := hrf.hk.1
    have hke2 : ck ≤ 9223372036854775807 := hrf.hk.2.1
    clear hrf hlen hB hO
    by_cases hkn : k < ws.length
    case pos =>
      have hkI : (k : Int) < (ws.length : Int) := by omega
      have hk0 : (0 : Int) ≤ (k : Int) := by omega
      obtain ⟨gA, rfl, q0, q1, qr, qe, ql, qlt⟩ := HR.out.wait hkn
      have HQR := Lib.hid qr
      have HQL := Lib.hid ql
      have HQE := Lib.hid qe
      have HQT := Lib.hid qlt
      clear qr ql qe qlt
      generalize ws.getD k default = p at *
      obtain ⟨pa, pr⟩ := p
      by_cases hkk : k < kl.length
      case pos =>
        obtain ⟨b, off, rfl, hb, hbc⟩ := HR.out.hk.2.2 (by omega)
        have hcell := hbc k hkk
        have hkkI : (k : Int) < (kl.length : Int) := by omega
        have HKV : Hid (∀ b : Bool, kl.getD k false = b → (fun j => kl.getD j false) k = b) := Lib.hid fun b e => e
        have hkv := HKV.out _ rfl
        have hfn : fallN (fun j => kl.getD j false) s.waits s.lasts (k + 1) = if kl.getD k false = true then (fallN (fun j => kl.getD j false) s.waits s.lasts k).set (s.waits.getD k default).1 (s.waits.getD k default).2 else fallN (fun j => kl.getD j false) s.waits s.lasts k := rfl
        clear hbc HKV hb
        obtain ⟨bk, hbk⟩ : ∃ bk, bk = kl.getD k false := ⟨_, rfl⟩
        rw [← hbk] at hcell hkv hfn
        have HBK := Lib.hid hkv
        have HFN := Lib.hid hfn
        clear hbk hkv hfn
        cases bk
        case true =>
          go_wp2_with fail
          refine (lasts_any V gx gS cS _ cw _ ck at_ kl rs' ws _ HR.out pa (by have := HQT.out; omega) pr.a pr.c pr.l HQR.out HQL.out).mono ?_
          rintro e w2 ⟨rfl, ⟨r, hr2, hrb⟩, hO2⟩
          have HN := Lib.hid (RelCr.next HLN.out HB.out HO.out HQE.out HBK.out hr2 hrb hO2)
          clear hr2 hrb hO2
          go_wp2_with fail
          go_roundw
          case rel => exact ⟨k + 1, _, by omega, by go_num, HN.out.1, HN.out.2.1, HN.out.2.2.1, HN.out.2.2.2⟩
          case measure => simp [intOf]; omega
        case false =>
          go_wp2_with fail
          go_roundw
          case rel => exact ⟨k + 1, rs', by omega, by go_num, HLN.out, by rw [HFN.out, if_neg (by decide)]; exact HR.out, HB.out, HO.out⟩
          case measure => simp [intOf]; omega
      case neg =>
        have hkkB : decide ((k : Int) < (kl.length : Int)) = false := decide_eq_false (by omega)
        have hfn : fallN (fun j => kl.getD j false) s.waits s.lasts (k + 1) = fallN (fun j => kl.getD j false) s.waits s.lasts k := by
          rw [fallN, if_neg]
          rw [show kl.getD k false = false by rw [List.getD, List.getElem?_eq_none (by omega)]; rfl]
          decide
        have HFN := Lib.hid hfn
        clear hfn
        go_wp2_with fail
        go_roundw
        case rel => exact ⟨k + 1, rs', by omega, by go_num, HLN.out, by rw [HFN.out]; exact HR.out, HB.out, HO.out⟩
        case measure => simp [intOf]; omega
    case neg =>
      obtain rfl : k = ws.length := by omega
      have hkI : ¬ ((ws.length : Int) < (ws.length : Int)) := by omega
      have hcl := HR.out.cleared
      have f1 : V.frozen? ⟨gx, 1, none⟩ = false := HR.out.hd.open_ 1
      have f6 : (V.setCell ⟨gx, 1, none⟩ (.slice none 0 0)).frozen? ⟨gx, 6, none⟩ = false := hcl.hd.open_ 6
      have c6 : V.cell? ⟨gx, 6, none⟩ = some (.bool s.down) := HR.out.cell 6
      have c6' : (V.setCell ⟨gx, 1, none⟩ (.slice none 0 0)).cell? ⟨gx, 6, none⟩ = some (.bool s.down) := hcl.cell 6
      have hfi := RfAt.one (s' := s.fall) hcl 6 (.bool true) rfl (by show s.kept = fallN _ _ _ _; unfold Dk.kept; rw [HLW.out, HEA.out]) rfl (fun ea => HR.out.ea ea)
      have HFI := Lib.hid hfi
      have HO6 : Hid (Only F w ((V.setCell ⟨gx, 1, none⟩ (.slice none 0 0)).setCell ⟨gx, 6, none⟩ (.bool true))) := Lib.hid (((HO.out.more (F := F) fun g _ e => by
        rcases e with rfl | rfl
        · exact HFB.out _ (.inl rfl)
        · exact HFB.out _ (.inr (.inl rfl))).setCell (p := ⟨gx, 1, none⟩) (.inl (HFB.out _ (.inl rfl))) _).setCell (p := ⟨gx, 6, none⟩) (.inl (HFB.out _ (.inl rfl))) _)
      clear hcl hfi
      go_wp2_with fail
      trace_state
      go_ret
      refine ⟨rfl, ⟨rs', HFI.out, fun g hg => ?_⟩, HO6.out⟩
      rcases hg with rfl | rfl | hg | hg | ⟨r, hr, hg⟩ | ⟨p, hp, hg⟩
      · exact .inl (HFB.out _ (.inl rfl))
      · exact .inl (HFB.out _ (.inr (.inl rfl)))
      · simp [blockOf] at hg
      · exact .inl (HFB.out _ (.inr (.inr (.inr (.inl hg)))))
      · exact HB.out r hr g hg
      · cases hp
end
end Go.Proofs.Ytkmbgbbmhpidkaa
