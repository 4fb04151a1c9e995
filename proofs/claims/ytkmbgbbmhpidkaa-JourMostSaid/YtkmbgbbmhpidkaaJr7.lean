/-
  Many sectors at once: a commit.
-/
import Derived.Test.YtkmbgbbmhpidkaaJr6
namespace Go.Proofs.Ytkmbgbbmhpidkaa
open Go.RowKit
set_option linter.unusedVariables false
set_option linter.unusedSimpArgs false
attribute [local go_sem ↓] Go.wp_at_zero Go.wp_at_succ

theorem mayJ_good {m : Nat} {L : List (Int × List Nat)} (h : mayJ m L = true) : ∀ p ∈ L, GoodJ m p := (of_decide_eq_true h).1
section
variable {w : World} {F : Nat → Prop} {gd : Nat} {s : Dk}
theorem DJ.then_ {wr w' : World} {s1 s2 : Dk} (h : DJ w F gd s1 wr) (h2 : DJ wr (grow F w wr) gd s2 w') : DJ w F gd s2 w' := h.step h2.1 h2.2
set_option maxRecDepth 100000 in
set_option maxHeartbeats 4000000 in
theorem commit_any (h : Disk w F gd s) (A : Option Addr) (c n : Nat) (l : List Wr) (hl : l.length = n) (hr : OffF F (RdWr A c l) w) (hn : n ≤ 1000) (hwl : s.waits.length ≤ 70000) (hops : s.ops ≤ 700000000) :
    Calls Try.prog 10 #[.pointer (some ⟨gd, 0, none⟩), .slice A n c] w fun e w' => e = .returned (.int .i64 ((s.commit (wv l)).2 : Nat)) ∧ DJ w F gd (s.commit (wv l)).1 w' := by
  have HFI := Lib.hid (fit_any h A c n l hl hr.at_ (by omega))
  have HST := Lib.hid (DJ.start h)
  have hm2 : s.many ≤ 2000 := by have := h.len.2.2; unfold Dk.many; omega
  obtain ⟨r, hr0⟩ : ∃ r, r = s.commit (wv l) := ⟨_, rfl⟩
  rw [← hr0]
  unfold Dk.commit at hr0
  rw [wv_length, hl] at hr0
  have hnil : wv l = [] ↔ n = 0 := by rw [← List.length_eq_zero_iff, wv_length, hl]
  simp only [hnil] at hr0
  have HRR := Lib.hid hr0
  rcases hmay : mayJ s.many (wv l) with _ | _
  case false =>
    rw [hmay] at HFI
    have HRE : Hid (r = (s, 1)) := Lib.hid (by rw [HRR.out, hmay]; rfl)
    clear HRR hr0 hmay hr hl h
    go_enter Try.func10, Try.ntmps10
    go_wp2_with fail
    refine HFI.out.mono ?_
    rintro e w1 ⟨rfl, hb1⟩
    have HD1 := Lib.hid (HST.out.below hb1)
    clear hb1 HFI
    go_wp2_with fail
    go_ret
    rw [HRE.out]
    exact ⟨rfl, HD1.out⟩
  rw [hmay] at HFI
  simp only [hmay, if_true] at hr0
  have HRR := Lib.hid hr0
  have hg := mayJ_good hmay
  have hat : ∀ x ∈ l, 0 ≤ x.at_ ∧ x.at_ < 65536 := fun x hx => by
    have := hg x.v (List.mem_map_of_mem hx)
    have h1 := this.1
    have h2 := this.2.1
    simp only [Wr.v] at h1 h2
    omega
  have HAT := Lib.hid hat
  have HL := Lib.hid hl
  have HR := Lib.hid hr
  clear hr0 hmay hg hat hl hr hnil
  by_cases h150 : 150 < n
  · have HRE : Hid (r = (s, 5)) := Lib.hid (by rw [HRR.out, if_pos h150])
    have d1 : decide ((150 : Int) < (n : Int)) = true := decide_eq_true (by omega)
    clear HRR h
    go_enter Try.func10, Try.ntmps10
    go_wp2_with fail
    refine HFI.out.mono ?_
    rintro e w1 ⟨rfl, hb1⟩
    have HD1 := Lib.hid (HST.out.below hb1)
    clear hb1 HFI
    go_wp2_with fail
    go_ret
    rw [HRE.out]
    exact ⟨rfl, HD1.out⟩
  have d1 : decide ((150 : Int) < (n : Int)) = false := decide_eq_false (by omega)
  by_cases h00 : n = 0
  · have HRE : Hid (r = (s, 0)) := Lib.hid (by rw [HRR.out, if_neg h150, if_pos h00])
    subst h00
    clear HRR h
    go_enter Try.func10, Try.ntmps10
    go_wp2_with fail
    refine HFI.out.mono ?_
    rintro e w1 ⟨rfl, hb1⟩
    have HD1 := Lib.hid (HST.out.below hb1)
    clear hb1 HFI
    go_wp2_with fail
    go_ret
    rw [HRE.out]
    exact ⟨rfl, HD1.out⟩
  have d2 : ((n : Int) == 0) = false := by rw [beq_eq_false_iff_ne]; omega
  have HR1 : Hid (r = if (s.putf (logD (wv l) ++ logS (wv l))).2 = 0 then
      if ((s.putf (logD (wv l) ++ logS (wv l))).1.putf [(1, markB n)]).2 = 0 then ((s.putf (logD (wv l) ++ logS (wv l))).1.putf [(1, markB n)]).1.fin (wv l)
      else (s.putf (logD (wv l) ++ logS (wv l))).1.putf [(1, markB n)]
    else s.putf (logD (wv l) ++ logS (wv l))) := Lib.hid (by rw [HRR.out, if_neg h150, if_neg h00])
  have hle := putf_le s (logD (wv l) ++ logS (wv l))
  rw [List.length_append, logD_length, logS_length, wv_length, HL.out] at hle
  have hsn : sheetsN n ≤ 40 := by unfold sheetsN; omega
  have HLE : Hid ((s.putf (logD (wv l) ++ logS (wv l))).1.waits.length ≤ 75000 ∧ (s.putf (logD (wv l) ++ logS (wv l))).1.ops ≤ 750000000) := Lib.hid (by omega)
  have HNO := Lib.hid fun (w1 : World) (hb : Below w.heap.size w w1) => note_any (HST.out.below hb).1 A c n l HL.out ((HR.out.only (HST.out.below hb).2).less fun g hg => .inl hg) hn HAT.out (by omega) (by omega)
  clear HRR hle hsn h
  generalize s.putf (logD (wv l) ++ logS (wv l)) = q at *
  obtain ⟨s1, e1⟩ := q
  dsimp only at *
  go_enter Try.func10, Try.ntmps10
  go_wp2_with fail
  refine HFI.out.mono ?_
  rintro e w1 ⟨rfl, hb1⟩
  have HD1 := Lib.hid (HST.out.below hb1)
  have HN1 := Lib.hid (HNO.out w1 hb1)
  clear hb1 HFI HNO
  go_wp2_with fail
  refine HN1.out.mono ?_
  rintro e w2 ⟨rfl, hd2⟩
  have HD2 := Lib.hid (HD1.out.then_ hd2)
  clear hd2 HN1 HD1
  by_cases h0 : e1 = 0
  case neg =>
    have HRE : Hid (r = (s1, e1)) := Lib.hid (by rw [HR1.out, if_neg h0])
    have x0 : ((e1 : Int) == 0) = false := by rw [beq_eq_false_iff_ne]; omega
    have x1 : ((e1 : Int) != 0) = true := by rw [bne, x0]; rfl
    clear HR1
    go_wp2_with fail
    go_ret
    rw [HRE.out]
    exact ⟨rfl, HD2.out⟩
  subst h0
  have HR2 : Hid (r = if (s1.putf [(1, markB n)]).2 = 0 then (s1.putf [(1, markB n)]).1.fin (wv l) else s1.putf [(1, markB n)]) := Lib.hid (by rw [HR1.out, if_pos rfl])
  have HMK := Lib.hid (markOf_any w2 n (by omega))
  have hle2 := putf_le s1 [(1, markB n)]
  simp only [List.length_cons, List.length_nil] at hle2
  have HLE2 : Hid ((s1.putf [(1, markB n)]).1.waits.length ≤ 80000 ∧ (s1.putf [(1, markB n)]).1.ops ≤ 800000000) := Lib.hid (by have := HLE.out; omega)
  have HFLU := Lib.hid fun (w3 : World) (hb : Below w2.heap.size w2 w3) (hz : Row .u8 5 w3 w2.heap.size (markB n)) => flushed_any (HD2.out.below hb).1 1 (some ⟨w2.heap.size, 0, none⟩) 64 64 (markB n) (secOf_length _) (Row.rd64 hz (secOf_length _)) (by have := HLE.out; omega) (by have := HLE.out; omega)
  clear HR1 hle2
  generalize s1.putf [(1, markB n)] = q at *
  obtain ⟨s2, e2⟩ := q
  dsimp only at *
  go_wp2_with fail
  refine HMK.out.mono ?_
  rintro e w3 ⟨rfl, hr3, hb3⟩
  have HF3 := Lib.hid (HFLU.out w3 hb3 hr3)
  have HD3 := Lib.hid (HD2.out.below hb3)
  clear hr3 hb3 HMK HFLU HD2
  go_wp2_with fail
  refine HF3.out.mono ?_
  rintro e w4 ⟨rfl, hd4⟩
  have HD4 := Lib.hid (HD3.out.then_ hd4)
  clear hd4 HF3 HD3
  by_cases h0 : e2 = 0
  case neg =>
    have HRE : Hid (r = (s2, e2)) := Lib.hid (by rw [HR2.out, if_neg h0])
    have x0 : ((e2 : Int) == 0) = false := by rw [beq_eq_false_iff_ne]; omega
    have x1 : ((e2 : Int) != 0) = true := by rw [bne, x0]; rfl
    clear HR2
    go_wp2_with fail
    go_ret
    rw [HRE.out]
    exact ⟨rfl, HD4.out⟩
  subst h0
  have HR3 : Hid (r = s2.fin (wv l)) := Lib.hid (by rw [HR2.out, if_pos rfl])
  have HSE := Lib.hid (settle_any HD4.out.1 A c n l HL.out ((HR.out.only HD4.out.2).less fun g hg => .inl hg) hn (fun x hx => by have := HAT.out x hx; omega) HLE2.out.1 HLE2.out.2)
  clear HR2
  go_wp2_with fail
  refine HSE.out.mono ?_
  rintro e w5 ⟨rfl, hd5⟩
  have HD5 := Lib.hid (HD4.out.then_ hd5)
  clear hd5 HSE
  go_wp2_with fail
  go_ret
  rw [HR3.out]
  exact ⟨rfl, HD5.out⟩
end
end Go.Proofs.Ytkmbgbbmhpidkaa
