/-
  Rows of extensions that are the same.
-/
import Derived.Test.YtaemjgemkgiahaaEx4
namespace Go.Proofs.Ytaemjgemkgiahaa
open Go.RowKit
set_option linter.unusedVariables false
set_option linter.unusedSimpArgs false

set_option maxRecDepth 100000 in
set_option maxHeartbeats 8000000 in
theorem exSame_any (w : World) (A A' : Option Addr) (c c' n : Nat) (l l' : List Ex) (h : XP A c l w) (h' : XP A' c' l' w) (hn : l.length = n) (hv : l.map Ex.v = l'.map Ex.v) :
    Calls Try.prog 11 #[.slice A n c, .slice A' n c'] w fun e w' => e = .returned (.bool true) ∧ Below w.heap.size w w' := by
  have hn' : l'.length = n := by rw [← hn]; have := congrArg List.length hv; simpa using this.symm
  have hlc : n ≤ c := by rw [← hn]; exact h.1.1
  have hc63 := h.1.2.1
  have hlc' : n ≤ c' := by rw [← hn']; exact h'.1.1
  have hc63' := h'.1.2.1
  have HN := Lib.hid hn
  have HN' := Lib.hid hn'
  have HX := Lib.hid (Off.of_x h)
  have HX' := Lib.hid (Off.of_x h')
  have HV := Lib.hid hv
  clear h h' hn hn' hv
  go_enter Try.func11, Try.ntmps11
  go_wp2_with fail
  go_loopw [5] (fun iv wr => ∃ i : Nat, i ≤ n ∧ iv = .int .i64 (i : Int) ∧ Below w.heap.size w wr) (fun iv _ => n - (intOf iv).toNat)
  case atStart => exact ⟨0, by omega, rfl, Below.refl _ _⟩
  case round =>
    obtain ⟨i, hi, rfl, hB⟩ := hrel
    have HB3 := Lib.hid hB
    clear hB
    by_cases hlt : i < n
    · have hx := (HX.out.under HB3.out).at_
      have hx' := (HX'.out.under HB3.out).at_
      obtain ⟨g, off, rfl, hg, hcs⟩ := hx.1.2.2 (by rw [HN.out]; omega)
      obtain ⟨g', off', rfl, hg', hcs'⟩ := hx'.1.2.2 (by rw [HN'.out]; omega)
      obtain ⟨c0, c1, c2⟩ := hcs i (by rw [HN.out]; exact hlt)
      obtain ⟨b0, b1, b2⟩ := hcs' i (by rw [HN'.out]; exact hlt)
      have hxe := hx.at_ (by rw [HN.out]; exact hlt)
      have hxe' := hx'.at_ (by rw [HN'.out]; exact hlt)
      have hev : (l.getD i default).v = (l'.getD i default).v := by
        rw [← ev_at (by rw [HN.out]; exact hlt), ← ev_at (by rw [HN'.out]; exact hlt), HV.out]
      obtain ⟨e, he⟩ : ∃ e, e = l.getD i default := ⟨_, rfl⟩
      obtain ⟨e', he'⟩ : ∃ e, e = l'.getD i default := ⟨_, rfl⟩
      rw [← he] at c0 c1 c2 hxe hev
      rw [← he'] at b0 b1 b2 hxe' hev
      clear he he' hcs hcs' hx hx' hg hg'
      obtain ⟨ia, ic, id, cr, va, vc, val⟩ := e
      obtain ⟨ia', ic', id', cr', va', vc', val'⟩ := e'
      simp only [Ex.v, EV.mk.injEq] at hev
      obtain ⟨rfl, rfl, rfl⟩ := hev
      obtain ⟨hr1, ho1, hr2, ho2⟩ := hxe
      obtain ⟨hr1', _, hr2', _⟩ := hxe'
      dsimp only at c0 c1 c2 hr1 ho1 hr2 ho2 b0 b1 b2 hr1' hr2'
      obtain ⟨n1, hn1⟩ : ∃ n1, id.length = n1 := ⟨_, rfl⟩
      obtain ⟨n2, hn2⟩ : ∃ n2, val.length = n2 := ⟨_, rfl⟩
      rw [hn1] at c0 b0
      rw [hn2] at c2 b2
      have k1 : ∀ k, (convert 23 9 (.slice ia n1 ic)).run Try.prog (wr.drewN k) = .ok (.string (str id)) (wr.drewN k) := fun k => conv_str (hr1.drewN k) hn1 ho1
      have k2 : ∀ k, (convert 23 9 (.slice ia' n1 ic')).run Try.prog (wr.drewN k) = .ok (.string (str id)) (wr.drewN k) := fun k => conv_str (hr1'.drewN k) hn1 ho1
      have k3 : ∀ k, (convert 23 9 (.slice va n2 vc)).run Try.prog (wr.drewN k) = .ok (.string (str val)) (wr.drewN k) := fun k => conv_str (hr2.drewN k) hn2 ho2
      have k4 : ∀ k, (convert 23 9 (.slice va' n2 vc')).run Try.prog (wr.drewN k) = .ok (.string (str val)) (wr.drewN k) := fun k => conv_str (hr2'.drewN k) hn2 ho2
      generalize str id = s1 at *
      generalize str val = s2 at *
      clear hr1 ho1 hr2 ho2 hn1 hn2 hr1' hr2'
      rcases cr with _ | _
      all_goals
        go_wp2_with fail
        go_quiet (fail)
        go_wp2_with fail
        go_roundw
        case rel => exact ⟨i + 1, by omega, by go_num, below_drewN HB3.out _⟩
        case measure => simp [intOf]; omega
    · go_wp2_with fail
      go_ret
      exact ⟨rfl, HB3.out⟩
end Go.Proofs.Ytaemjgemkgiahaa
