/-
  Many sectors at once: an opening where nothing was begun.
-/
import Derived.Test.YtkmbgbbmhpidkaaJr9
namespace Go.Proofs.Ytkmbgbbmhpidkaa
open Go.RowKit Go.Shelf
set_option linter.unusedVariables false
set_option linter.unusedSimpArgs false

theorem Disk.sect_read {w : World} {F : Nat → Prop} {gd : Nat} {s : Dk} (h : Disk w F gd s) {i : Nat} (hi : i < s.now.length) : (s.read (i : Int)).length = 64 := by
  unfold Dk.read
  rw [if_pos (by omega), Int.toNat_natCast]
  have : s.now[i]? = some (s.now.getD i []) := by simp [List.getD, hi]
  exact h.sect this
theorem apst_oct : Oct1 apstB := secOf_oct fun x hx => by simp at hx; rcases hx with rfl | rfl | rfl | rfl <;> omega
section
variable {w : World} {F : Nat → Prop} {gd : Nat} {s : Dk}
set_option maxRecDepth 100000 in
set_option maxHeartbeats 4000000 in
theorem open_none (h : Disk w F gd s) (hdn : s.down = false) (hm : 0 < s.many) (h0 : s.read 0 = apstB) (h1 : s.read 1 = zsec) :
    Calls Try.prog 16 #[.pointer (some ⟨gd, 0, none⟩)] w fun e w' => e = .returned (.int .i64 0) ∧ DJ w F gd s w' := by
  obtain ⟨F', hF'⟩ : ∃ F', F' = fun k => F k ∧ k < w.heap.size := ⟨_, rfl⟩
  have hl := h.low
  rw [← hF'] at hl
  have hFF : ∀ k, F' k → F k ∧ k < w.heap.size := fun k hk => by rw [hF'] at hk; exact hk
  have hb1 : Below w.heap.size w ((w.alloc (.cells #[.pointer (some ⟨gd, 0, none⟩)] 23)).alloc (.cells #[.int .i64 0] 33)) := ((Below.refl _ _).alloc (Nat.le_refl _) _).alloc (by simp) _
  have hbx := (Holds.fresh w 23 #[.pointer (some ⟨gd, 0, none⟩)]).alloc (.cells #[.int .i64 0] 33)
  have hrs := Holds.fresh (w.alloc (.cells #[.pointer (some ⟨gd, 0, none⟩)] 23)) 33 #[.int .i64 0]
  rw [show (w.alloc (.cells #[.pointer (some ⟨gd, 0, none⟩)] 23)).heap.size = w.heap.size + 1 by simp] at hrs
  have hsz : ((w.alloc (.cells #[.pointer (some ⟨gd, 0, none⟩)] 23)).alloc (.cells #[.int .i64 0] 33)).heap.size = w.heap.size + 2 := by simp
  have hd1 : Disk ((w.alloc (.cells #[.pointer (some ⟨gd, 0, none⟩)] 23)).alloc (.cells #[.int .i64 0] 33)) F' gd s := (hl.keep (Only.of_below (F := fun _ => False) hb1) (fun _ _ e => e))
  have z0 := hbx.cell 0
  obtain ⟨V, hV⟩ : ∃ V, V = ((w.alloc (.cells #[.pointer (some ⟨gd, 0, none⟩)] 23)).alloc (.cells #[.int .i64 0] 33)) := ⟨_, rfl⟩
  rw [← hV] at hb1 hbx hrs hsz hd1
  have HV := Lib.hid hV
  have HST := Lib.hid (DJ.start hd1)
  have HBX : Hid (∀ (s' : Dk) (W : World), DJ V F' gd s' W → W.cell? ⟨w.heap.size, 0, none⟩ = some (.pointer (some ⟨gd, 0, none⟩)) ∧ W.cell? ⟨w.heap.size + 1, 0, none⟩ = some (.int .i64 0) ∧ W.frozen? ⟨w.heap.size + 1, 0, none⟩ = false) := Lib.hid fun s' W hW => by
    have k : ∀ g, g = w.heap.size ∨ g = w.heap.size + 1 → W.heap[g]? = V.heap[g]? := fun g hg => hW.2.block g (by omega) fun hF => by have := (hFF g hF).2; omega
    have b1 : Holds W w.heap.size 23 #[.pointer (some ⟨gd, 0, none⟩)] := (k _ (.inl rfl)).trans hbx
    have b2 : Holds W (w.heap.size + 1) 33 #[.int .i64 0] := (k _ (.inr rfl)).trans hrs
    exact ⟨b1.cell 0, b2.cell 0, b2.open_ 0⟩
  have HSET : Hid (∀ (s' : Dk) (W : World) (v : Value), DJ V F' gd s' W → DJr V F' (w.heap.size + 1) gd s' (W.setCell ⟨w.heap.size + 1, 0, none⟩ v)) := Lib.hid fun s' W v hW => by
    have hn : ∀ k, grow F' V W k → k ≠ w.heap.size + 1 := fun k hk e => by
      subst e
      rcases hk with hk | hk
      · have := (hFF _ hk).2; omega
      · omega
    have ho : Only (fun k => k = w.heap.size + 1) W (W.setCell ⟨w.heap.size + 1, 0, none⟩ v) := (Only.refl (fun k => k = w.heap.size + 1) W).setCell (p := ⟨w.heap.size + 1, 0, none⟩) (.inl rfl) v
    refine ⟨(hW.1.keep ho fun k a b => hn k a b).more fun k hk => ?_, (hW.2.more fun k _ hk => .inl hk).setCell (.inl (.inr rfl)) v⟩
    have h2 := ho.size
    rcases hk with hk | hk
    · exact .inl hk
    · exact .inr ⟨hk.1, by omega⟩
  have HOUT : Hid (∀ (s' : Dk) (W : World), DJr V F' (w.heap.size + 1) gd s' W → DJ w F gd s' W) := Lib.hid fun s' W hW => by
    refine ⟨hW.1.more fun k hk => ?_, (Only.of_below (F := F) hb1).trans hW.2 fun k hk hF => by rcases hF with hF | hF; exact (hFF k hF).1; omega⟩
    rcases hk with hk | hk
    · exact .inl (hFF k hk).1
    · exact .inr ⟨by omega, hk.2⟩
  have HFIN : Hid (∀ (s' : Dk) (W : World) (v : Value), DJ V F' gd s' W → DJ w F gd s' (W.setCell ⟨w.heap.size + 1, 0, none⟩ v)) := Lib.hid fun s' W v hW => HOUT.out _ _ (HSET.out s' W v hW)
  have HDN := Lib.hid (disk_down hd1)
  rw [hdn] at HDN
  have HM := Lib.hid (jmany hd1)
  have hmm : s.many ≤ 2000 := by have := h.len.2.2; unfold Dk.many; omega
  have HRD := Lib.hid fun (W : World) (hW : DJ V F' gd s W) (i : Int) => disk_read hW.1 i
  have HR0 := Lib.hid h0
  have HR1 := Lib.hid h1
  clear h hl hF' hb1 hbx hrs hd1 hV hFF hsz hdn h0 h1
  have d0 : ((s.many : Int) == 0) = false := by rw [beq_eq_false_iff_ne]; omega
  generalize s.many = m at *
  obtain ⟨_, k1, k2⟩ := HBX.out _ _ HST.out
  go_enter Try.func16, Try.ntmps16
  go_wp2_with fail
  rw [← HV.out]
  refine HDN.out.mono ?_
  rintro e w1 ⟨rfl, rfl⟩
  obtain ⟨k0, _, _⟩ := HBX.out _ _ HST.out
  go_wp2_with (first | (refine HM.out.mono ?_; rintro e w1 ⟨rfl, rfl⟩) | fail)
  refine (HRD.out V HST.out 0).mono ?_
  rintro e w3 ⟨A3, n3, c3, rfl, hn3, hr3, hx3, hb3⟩
  clear hx3
  have HD3 := Lib.hid (HST.out.below hb3)
  rw [HR0.out] at hn3 hr3
  obtain rfl : 64 = n3 := by rw [← hn3]; exact (apst_len).symm
  have HR3 := Lib.hid hr3
  clear hn3 hr3 hb3 HV z0 k0
  go_wp2_with fail
  refine (headed_apst _).mono ?_
  rintro e w4 ⟨rfl, hr4, hb4⟩
  have HD4 := Lib.hid (HD3.out.below hb4)
  have HEQ := Lib.hid (equalB w4 A3 (some ⟨w3.heap.size, 0, none⟩) c3 64 64 64 apstB apstB apst_len apst_len ((HR3.out.under hb4).more hb4.size) (Row.rd64 hr4 apst_len) apst_oct apst_oct)
  rw [decide_eq_true rfl] at HEQ
  clear hr4 hb4 HR3
  go_wp2_with fail
  refine HEQ.out.mono ?_
  rintro e w5 ⟨rfl, rfl⟩
  obtain ⟨k0, _, _⟩ := HBX.out _ _ HD4.out
  go_wp2_with fail
  refine (HRD.out w4 HD4.out 1).mono ?_
  rintro e w6 ⟨A6, n6, c6, rfl, hn6, hr6, hx6, hb6⟩
  clear hx6
  have HD6 := Lib.hid (HD4.out.below hb6)
  rw [HR1.out] at hn6 hr6
  obtain rfl : 64 = n6 := by rw [← hn6]; exact zsec_len.symm
  have HBG := Lib.hid (begun_any w6 A6 c6 zsec zsec_len hr6 zsec_oct)
  have hbz : begunN zsec = some 0 := by unfold begunN; rw [if_pos rfl]
  rw [hbz] at HBG
  clear hn6 hr6 hb6 hbz k0
  go_wp2_with fail
  refine HBG.out.mono ?_
  rintro e w7 ⟨rfl, hb7⟩
  have HD7 := Lib.hid (HD6.out.below hb7)
  obtain ⟨k0, k1, k2⟩ := HBX.out _ _ HD7.out
  have hc := World.cell?_setCell_same' w7 ⟨w.heap.size + 1, 0, none⟩ (.int .i64 0) (by rw [k1]; rfl)
  clear hb7 HBG
  go_wp2_with fail
  exact bodyPost_ret (v := .int .i64 0) (by simp [results, Try.results16, go_sem, hc]) rfl ⟨rfl, HFIN.out _ _ _ HD7.out⟩
end
end Go.Proofs.Ytkmbgbbmhpidkaa
