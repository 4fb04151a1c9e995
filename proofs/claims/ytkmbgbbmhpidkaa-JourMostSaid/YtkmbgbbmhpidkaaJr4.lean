/-
  Many sectors at once: may writes be; what tells places; one sector that lasts; all of a log in its places.
-/
import Derived.Test.YtkmbgbbmhpidkaaJr3
namespace Go.Proofs.Ytkmbgbbmhpidkaa
open Go.RowKit
set_option linter.unusedVariables false
set_option linter.unusedSimpArgs false
attribute [local go_sem ↓] Go.wp_at_zero Go.wp_at_succ

theorem RdWr.under {A : Option Addr} {c : Nat} {l : List Wr} {w w' : World} (h : RdWr A c l w) (hb : Below w.heap.size w w') : RdWr A c l w' :=
  ⟨h.1, h.2.1, fun j hj => ((h.2.2.1 j hj).under hb).more hb.size, fun hn => by
    obtain ⟨b, off, e, hlt, hc⟩ := h.2.2.2 hn
    exact ⟨b, off, e, Nat.lt_of_lt_of_le hlt hb.size, fun j hj => ⟨(hb.cell (p := ⟨b, _, none⟩) hlt).trans (hc j hj).1, (hb.cell (p := ⟨b, _, none⟩) hlt).trans (hc j hj).2⟩⟩⟩
/-- A write of the row. -/
theorem RdWr.at_ {A : Option Addr} {c : Nat} {l : List Wr} {w : World} (h : RdWr A c l w) {j : Nat} (hj : j < l.length) :
    ∃ b off, A = some ⟨b, off, none⟩ ∧ b < w.heap.size ∧ w.cell? ⟨b, off + j * 2, none⟩ = some (.int .i64 (l.getD j default).at_) ∧ w.cell? ⟨b, off + j * 2 + 1, none⟩ = some (.slice (l.getD j default).da (l.getD j default).d.length (l.getD j default).dc) ∧ Rd .u8 w w.heap.size (l.getD j default).da (l.getD j default).dc (l.getD j default).d := by
  obtain ⟨b, off, e, hlt, hc⟩ := h.2.2.2 (by omega)
  exact ⟨b, off, e, hlt, (hc j hj).1, (hc j hj).2, h.2.2.1 j hj⟩
theorem getD_memJ {α : Type} [Inhabited α] {l : List α} {j : Nat} (h : j < l.length) : l.getD j default ∈ l := by simp [List.getD, h]
section
variable {w : World} {F : Nat → Prop} {gd : Nat} {s : Dk}
set_option maxRecDepth 100000 in
set_option maxHeartbeats 1000000 in
theorem flushed_any (h : Disk w F gd s) (i : Int) (A : Option Addr) (n c : Nat) (x : List Nat) (hn : x.length = n) (hr : Rd .u8 w w.heap.size A c x) (hwl : s.waits.length ≤ 90000) (hops : s.ops ≤ 900000000) :
    Calls Try.prog 34 #[.pointer (some ⟨gd, 0, none⟩), .int .i64 i, .slice A n c] w fun e w' => e = .returned (.int .i64 ((s.putf [(i, x)]).2 : Nat)) ∧ DJ w F gd (s.putf [(i, x)]).1 w' := by
  have HW := Lib.hid ((DJ.start h).write i A n c x hn hr (by omega) (by omega))
  have h1 := jwrite_le s i x
  have HF := Lib.hid fun (w1 : World) (hd : DJ w F gd (s.write i x).1 w1) => hd.flush (by omega) (by omega)
  have HP : Hid (s.putf [(i, x)] = if (s.write i x).2 = 0 then (s.write i x).1.flush else s.write i x) := Lib.hid (by
    unfold Dk.putf
    rw [puts_one])
  obtain ⟨r, hr0⟩ : ∃ r, r = s.putf [(i, x)] := ⟨_, rfl⟩
  rw [← hr0] at HP ⊢
  clear h hr hn hwl hops h1 hr0
  generalize s.write i x = q at *
  obtain ⟨s1, e1⟩ := q
  dsimp only at *
  go_enter Try.func34, Try.ntmps34
  go_wp2_with fail
  refine HW.out.mono ?_
  rintro e w1 ⟨rfl, hd1⟩
  have HD1 := Lib.hid hd1
  have HF1 := Lib.hid (HF.out w1 hd1)
  clear hd1 HW HF
  by_cases h0 : e1 = 0
  · subst h0
    have HP' : Hid (r = s1.flush) := Lib.hid (by rw [HP.out, if_pos rfl])
    clear HP
    go_wp2_with fail
    refine HF1.out.mono ?_
    rintro e w2 ⟨rfl, hd2⟩
    have HD2 := Lib.hid hd2
    clear hd2 HF1
    go_wp2_with fail
    go_ret
    rw [HP'.out]
    exact ⟨rfl, HD2.out⟩
  · have HP' : Hid (r = (s1, e1)) := Lib.hid (by rw [HP.out, if_neg h0])
    have d0 : ((e1 : Int) == 0) = false := by rw [beq_eq_false_iff_ne]; omega
    have d1 : ((e1 : Int) != 0) = true := by rw [bne, d0]; rfl
    clear HP HF1
    go_wp2_with fail
    go_ret
    rw [HP'.out]
    exact ⟨rfl, HD1.out⟩
def RelSe (w : World) (F : Nat → Prop) (gd : Nat) (s : Dk) (L : List (Int × List Nat)) (n : Nat) (i : Value) (wr : World) : Prop :=
  ∃ k : Nat, k ≤ n ∧ i = .int .i64 k ∧ (s.puts (L.take k)).2 = 0 ∧ DJ w F gd (s.puts (L.take k)).1 wr
theorem take_snocJ {α : Type} {l : List α} {k : Nat} {x : α} (h : l[k]? = some x) : l.take (k + 1) = l.take k ++ [x] := by
  rw [List.take_add_one, h]; rfl
theorem split_at {α : Type} {l : List α} {k : Nat} {x : α} (h : l[k]? = some x) : l = l.take k ++ x :: l.drop (k + 1) := by
  have hk : k < l.length := (List.getElem?_eq_some_iff.1 h).1
  have hx : l[k] = x := (List.getElem?_eq_some_iff.1 h).2
  conv => lhs; rw [← List.take_append_drop k l]
  rw [List.drop_eq_getElem_cons hk, hx]
theorem finL_at {l : List Wr} {j : Nat} (h : j < l.length) : ((wv l).map fun p => (157 + p.1, p.2))[j]? = some (157 + (l.getD j default).at_, (l.getD j default).d) := by
  rw [List.getElem?_map, wv_at h]; rfl
set_option maxRecDepth 100000 in
set_option maxHeartbeats 4000000 in
theorem settle_any (h : Disk w F gd s) (A : Option Addr) (c n : Nat) (l : List Wr) (hl : l.length = n) (hr : OffF F (RdWr A c l) w) (hn : n ≤ 1000) (hat : ∀ x ∈ l, 0 ≤ x.at_ ∧ x.at_ ≤ 100000) (hwl : s.waits.length ≤ 80000) (hops : s.ops ≤ 800000000) :
    Calls Try.prog 36 #[.pointer (some ⟨gd, 0, none⟩), .slice A n c] w fun e w' => e = .returned (.int .i64 ((s.fin (wv l)).2 : Nat)) ∧ DJ w F gd (s.fin (wv l)).1 w' := by
  obtain ⟨L, hL⟩ : ∃ L, L = (wv l).map fun p => (157 + p.1, p.2) := ⟨_, rfl⟩
  obtain ⟨r, hr0⟩ : ∃ r, r = s.fin (wv l) := ⟨_, rfl⟩
  rw [← hr0]
  unfold Dk.fin at hr0
  rw [← hL] at hr0
  have HRR := Lib.hid hr0
  have HST := Lib.hid (DJ.start h)
  have HLn : Hid (L.length = n) := Lib.hid (by rw [hL, List.length_map, wv_length, hl])
  have HLE : Hid (∀ k, (s.puts (L.take k)).1.waits.length ≤ 81000 ∧ (s.puts (L.take k)).1.ops ≤ 800001000) := Lib.hid fun k => by
    have h1 := puts_le s (L.take k)
    have h2 : (L.take k).length ≤ n := by rw [List.length_take, HLn.out]; omega
    omega
  have HAT : Hid (∀ k, k < n → L[k]? = some (157 + (l.getD k default).at_, (l.getD k default).d) ∧ 0 ≤ (l.getD k default).at_ ∧ (l.getD k default).at_ ≤ 100000) := Lib.hid fun k hk => ⟨by rw [hL]; exact finL_at (by omega), hat _ (getD_memJ (by omega))⟩
  have HR := Lib.hid hr
  have HL := Lib.hid hl
  have hnc : n ≤ c := by have := hr.at_.1; omega
  have hc63 := hr.at_.2.1
  clear h hr hwl hops hat hr0 hl hL
  go_enter Try.func36, Try.ntmps36
  go_wp2_with fail
  go_loopw [11] (fun i wr => RelSe w F gd s L n i wr) (fun i _ => n - (intOf i).toNat)
  case atStart => exact ⟨0, Nat.zero_le _, rfl, rfl, HST.out⟩
  case round =>
    obtain ⟨k, hk, rfl, hp, hd⟩ := hrel
    obtain ⟨V, hV⟩ : ∃ V, V = wr := ⟨_, rfl⟩
    subst hV
    have HP := Lib.hid hp
    have HD := Lib.hid hd
    clear hp hd
    by_cases hlt : k < n
    case pos =>
      have hkI : (k : Int) < (n : Int) := by omega
      have hk0 : (0 : Int) ≤ (k : Int) := by omega
      obtain ⟨b, off, rfl, hb, hc0, hc1, hrd⟩ := (HD.out.rd HR.out).at_ (j := k) (by rw [HL.out]; exact hlt)
      obtain ⟨hLk, ha0, ha1⟩ := HAT.out k hlt
      have HSN : Hid (L.take (k + 1) = L.take k ++ [(157 + (l.getD k default).at_, (l.getD k default).d)]) := Lib.hid (take_snocJ hLk)
      have HSP : Hid (L = L.take k ++ (157 + (l.getD k default).at_, (l.getD k default).d) :: L.drop (k + 1)) := Lib.hid (split_at hLk)
      obtain ⟨x, hx⟩ : ∃ x, x = l.getD k default := ⟨_, rfl⟩
      rw [← hx] at hc0 hc1 hrd ha0 ha1 HSN HSP
      obtain ⟨xa, da, dc, xd⟩ := x
      dsimp only at *
      obtain ⟨dn, hdn⟩ : ∃ d, xd.length = d := ⟨_, rfl⟩
      rw [hdn] at hc1
      have hbv : Below V.heap.size V (V.alloc (.cells #[.int .i64 xa, .slice da dn dc] 42)) := (Below.refl _ _).alloc (Nat.le_refl _) _
      have hh := Holds.fresh V 42 #[.int .i64 xa, .slice da dn dc]
      have z0 := hh.cell 0
      have z1 := hh.cell 1
      have hw : IntKind.i64.wrap (157 + xa) = 157 + xa := IntWalk.i64_in _ (by omega)
      have HW := Lib.hid ((HD.out.below hbv).write (157 + xa) da dn dc xd hdn ((hrd.under hbv).more hbv.size) (by have := HLE.out k; omega) (by have := HLE.out k; omega))
      have hkw : IntKind.i64.wrap ((k : Int) + 1) = (k : Int) + 1 := IntWalk.i64_in _ (by omega)
      clear hLk hrd hbv hh hx
      go_wp2_with fail
      refine HW.out.mono ?_
      rintro e w2 ⟨rfl, hd2⟩
      have HD2 := Lib.hid hd2
      have HG : Hid (((s.puts (L.take k)).1.write (157 + xa) xd).2 = 0 → (s.puts (L.take (k + 1))) = (s.puts (L.take k)).1.write (157 + xa) xd) := Lib.hid fun _ => by rw [HSN.out, puts_snoc HP.out]
      have HS2 : Hid (((s.puts (L.take k)).1.write (157 + xa) xd).2 ≠ 0 → s.putf L = (s.puts (L.take k)).1.write (157 + xa) xd) := Lib.hid fun h => by
        have h1 : s.puts L = (s.puts (L.take k)).1.write (157 + xa) xd := (congrArg s.puts HSP.out).trans (puts_stop (p := (157 + xa, xd)) HP.out h)
        rw [putf_stop (by rw [h1]; exact h), h1]
      generalize (s.puts (L.take k)).1.write (157 + xa) xd = q at *
      obtain ⟨s1, e1⟩ := q
      dsimp only at *
      clear hd2 HW HD HP HSN HSP z0 z1 hc0 hc1
      by_cases h0 : e1 = 0
      · subst h0
        have HG' := Lib.hid (HG.out rfl)
        clear HG HS2
        go_wp2_with fail
        go_roundw
        case rel => exact ⟨k + 1, by omega, by go_num, by rw [HG'.out], by rw [HG'.out]; exact HD2.out⟩
        case measure => simp [intOf]; omega
      · have HS' := Lib.hid (HS2.out h0)
        have d0 : ((e1 : Int) == 0) = false := by rw [beq_eq_false_iff_ne]; omega
        have d1 : ((e1 : Int) != 0) = true := by rw [bne, d0]; rfl
        have HRE : Hid (r = (s1, e1)) := Lib.hid (by rw [HRR.out, HS'.out, if_neg h0])
        clear HG HS2
        go_wp2_with fail
        go_ret
        rw [HRE.out]
        exact ⟨rfl, HD2.out⟩
    case neg =>
      obtain rfl : k = n := by omega
      have hkI : ¬ ((k : Int) < (k : Int)) := by omega
      have hTK : L.take k = L := List.take_of_length_le (by rw [HLn.out]; exact Nat.le_refl _)
      have h1 := HLE.out k
      rw [hTK] at HP HD h1
      have HF := Lib.hid (HD.out.flush (by omega) (by omega))
      have HPF : Hid (s.putf L = (s.puts L).1.flush) := Lib.hid (putf_go HP.out)
      have HB := Lib.hid (putf_le s L)
      rw [← HPF.out] at HF
      have hb2 := HB.out
      rw [HLn.out] at hb2
      have h3 := jflush_le (s.puts L).1
      rw [← HPF.out] at h3
      have HBD : Hid ((s.putf L).1.waits.length ≤ 90000 ∧ (s.putf L).1.ops ≤ 900000000) := Lib.hid (by omega)
      clear HP HD hTK h1 HPF HB hb2 h3 HLE HAT HR
      generalize s.putf L = q at *
      obtain ⟨s1, e1⟩ := q
      dsimp only at *
      go_wp2_with fail
      refine HF.out.mono ?_
      rintro e w2 ⟨rfl, hd2⟩
      have HD2 := Lib.hid hd2
      clear hd2 HF
      by_cases h0 : e1 = 0
      · subst h0
        have HRE : Hid (r = s1.putf [(1, zsec)]) := Lib.hid (by rw [HRR.out, if_pos rfl])
        clear HRR
        have HH := Lib.hid (headed_nil w2)
        go_wp2_with fail
        refine HH.out.mono ?_
        rintro e w3 ⟨rfl, hr3, hb3⟩
        have HD3 := Lib.hid (HD2.out.below hb3)
        have HRz : Hid (Rd .u8 w3 w3.heap.size (some ⟨w2.heap.size, 0, none⟩) 64 zsec) := Lib.hid (Row.rd64 hr3 rfl)
        clear hr3 hb3 HH HD2
        have HFL := Lib.hid (flushed_any HD3.out.1 1 _ 64 64 zsec rfl HRz.out HBD.out.1 HBD.out.2)
        go_wp2_with fail
        refine HFL.out.mono ?_
        rintro e w4 ⟨rfl, hd4⟩
        have HD4 := Lib.hid (HD3.out.step hd4.1 hd4.2)
        clear hd4 HFL
        go_wp2_with fail
        go_ret
        rw [HRE.out]
        exact ⟨rfl, HD4.out⟩
      · have HRE : Hid (r = (s1, e1)) := Lib.hid (by rw [HRR.out, if_neg h0])
        have d0 : ((e1 : Int) == 0) = false := by rw [beq_eq_false_iff_ne]; omega
        have d1 : ((e1 : Int) != 0) = true := by rw [bne, d0]; rfl
        clear HRR
        go_wp2_with fail
        go_ret
        rw [HRE.out]
        exact ⟨rfl, HD2.out⟩
end
end Go.Proofs.Ytkmbgbbmhpidkaa
