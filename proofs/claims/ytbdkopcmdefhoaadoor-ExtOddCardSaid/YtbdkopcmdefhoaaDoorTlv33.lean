/-
  Bytes, read: by the document.
-/
import Derived.Test.YtbdkopcmdefhoaaDoorTlv32
namespace Go.Proofs.YtbdkopcmdefhoaaDoor
open Go.RowKit
set_option linter.unusedVariables false
set_option linter.unusedSimpArgs false

theorem ReadPost.drew {w W : World} {r : Except Nat Tr} {e : Ending} (h : ReadPost w r e W) : ReadPost w r e W.drew := by
  rcases r with x | t
  · exact ⟨h.1, h.2.drew⟩
  · obtain ⟨lt, h1, h2, h3, h4⟩ := h
    exact ⟨lt, h1, h2, h3.under' (Below.refl _ W).drew, h4.drew⟩
set_option maxRecDepth 100000 in
set_option maxHeartbeats 8000000 in
theorem read'_any (w : World) (B : Nat) (A : Option Addr) (c n : Nat) (L : List Nat) (hR : Rd .u8 w B A c L) (hn : L.length = n) (ho : ∀ x ∈ L, x < 256) (hB : B ≤ w.heap.size) :
    Calls Tryd.prog 9 #[.slice A n c] w (ReadPost w (readT L)) := by
  have hlc : n ≤ c := by rw [← hn]; exact hR.1
  have hc63 := hR.2.1
  by_cases h12 : 12000 < n
  case pos =>
    have HE : Hid (readT L = .error 4) := Lib.hid (by unfold readT; rw [if_pos (by omega)])
    have d1 : decide ((12000 : Int) < (n : Int)) = true := decide_eq_true (by omega)
    go_enter Tryd.func9, Tryd.ntmps9
    go_wp2_with fail
    rw [HE.out]
    exact ret_cell rfl rfl rfl (Holds.fresh _ _ _) rfl ⟨rfl, (Below.refl _ _).alloc (Nat.le_refl _) _⟩
  have d1 : decide ((12000 : Int) < (n : Int)) = false := decide_eq_false (by omega)
  by_cases hn0 : n = 0
  case pos =>
    subst hn0
    obtain rfl := List.eq_nil_of_length_eq_zero hn
    have HE : Hid (readT [] = .error 2) := Lib.hid (by unfold readT; rw [if_neg (by simp), rd])
    clear hR hn ho
    go_enter Tryd.func9, Tryd.ntmps9
    go_wp2_with fail
    rw [HE.out]
    exact ret_cell rfl rfl rfl (Holds.fresh _ _ _) rfl ⟨rfl, (Below.refl _ _).alloc (Nat.le_refl _) _⟩
  have d0 : decide ((n : Int) = 0) = false := decide_eq_false (by omega)
  have b0 : ((n : Int) == 0) = false := by simp; omega
  have hs1 : (w.alloc (.cells #[.int .u8 0, .slice none 0 0, .slice none 0 0] 41)).heap.size = w.heap.size + 1 := by simp
  have hH : Holds ((w.alloc (.cells #[.int .u8 0, .slice none 0 0, .slice none 0 0] 41)).alloc (.cells #[.int .i64 0, .int .i64 0] 59)) (w.heap.size + 1) 59 #[.int .i64 ((0 : Nat) : Int), .int .i64 0] := by
    have h := Holds.fresh (w.alloc (.cells #[.int .u8 0, .slice none 0 0, .slice none 0 0] 41)) 59 #[.int .i64 0, .int .i64 0]
    rw [hs1] at h
    exact h
  have hZ : Holds ((w.alloc (.cells #[.int .u8 0, .slice none 0 0, .slice none 0 0] 41)).alloc (.cells #[.int .i64 0, .int .i64 0] 59)) w.heap.size 41 #[.int .u8 0, .slice none 0 0, .slice none 0 0] := (Holds.fresh _ _ _).alloc _
  have hQ : Below w.heap.size w ((w.alloc (.cells #[.int .u8 0, .slice none 0 0, .slice none 0 0] 41)).alloc (.cells #[.int .i64 0, .int .i64 0] 59)) := ((Below.refl _ _).alloc (Nat.le_refl _) _).alloc (by rw [hs1]; omega) _
  have hs2 : ((w.alloc (.cells #[.int .u8 0, .slice none 0 0, .slice none 0 0] 41)).alloc (.cells #[.int .i64 0, .int .i64 0] 59)).heap.size = w.heap.size + 2 := by simp
  have HK : Hid (Calls Tryd.prog 19 #[.pointer (some ⟨w.heap.size + 1, 0, none⟩), .slice A n c, .int .i64 1] ((w.alloc (.cells #[.int .u8 0, .slice none 0 0, .slice none 0 0] 41)).alloc (.cells #[.int .i64 0, .int .i64 0] 59)) (OnePost ((w.alloc (.cells #[.int .u8 0, .slice none 0 0, .slice none 0 0] 41)).alloc (.cells #[.int .i64 0, .int .i64 0] 59)) (w.heap.size + 1) A n c (rd L 1 0))) := Lib.hid
    (one_N (n + 1) _ B (w.heap.size + 1) A c n 1 0 L (Nat.lt_succ_self _) (hR.under (hQ.mono hB)) hn (by omega) (by omega) ho (by omega) hH (by omega) (by omega))
  have HZ := Lib.hid hZ
  have HQ := Lib.hid hQ
  have HS2 := Lib.hid hs2
  have HN := Lib.hid hn
  clear hZ hQ hH hR ho hn hs1 hs2
  rcases h6 : rd L 1 0 with yy | ⟨t, m, cc⟩
  case error =>
    rw [h6] at HK
    have hy0 := (rd_err (L.length + 1)).1 _ _ _ _ (Nat.lt_succ_self _) h6
    have bne : ((yy : Int) != 0) = true := by simp; omega
    have beq : ((yy : Int) == 0) = false := by simp; omega
    have dne : decide ((yy : Int) = 0) = false := decide_eq_false (by omega)
    have HE : Hid (readT L = .error yy) := Lib.hid (by unfold readT; rw [if_neg (by have := HN.out; omega), h6])
    clear h6
    go_enter Tryd.func9, Tryd.ntmps9
    go_wp2_with fail
    refine HK.out.mono ?_
    rintro e w2 ⟨t0, a1, m1, c1, a2, m2, c2, S, s, t, k, y, rfl, hgr, hbr, htell⟩
    have HTELL := Lib.hid htell
    have hw2 : w.heap.size + 2 ≤ w2.heap.size := by have := hgr.size; rw [HS2.out] at this; exact this
    have hz2 := (HZ.out.grown hgr (fun e => by injection e with e; omega)).alloc (.cells #[.int .u8 t0, .slice a1 m1 c1, .slice a2 m2 c2] 41)
    have hq2 : Below w.heap.size w (w2.alloc (.cells #[.int .u8 t0, .slice a1 m1 c1, .slice a2 m2 c2] 41)) := (HQ.out.trans (below_br hgr (by omega) (by rw [HS2.out]; omega))).alloc (by omega) _
    have hb2 := hbr.alloc (.cells #[.int .u8 t0, .slice a1 m1 c1, .slice a2 m2 c2] 41)
    have hA : Holds (w2.alloc (.cells #[.int .u8 t0, .slice a1 m1 c1, .slice a2 m2 c2] 41)) w2.heap.size 41 #[.int .u8 t0, .slice a1 m1 c1, .slice a2 m2 c2] := Holds.fresh _ _ _
    have b1 := hb2.cell 1
    have p0 := hA.cell 0
    have p1 := hA.cell 1
    have p2 := hA.cell 2
    have z0 := hz2.cell 0
    have z1 := hz2.cell 1
    have z2 := hz2.cell 2
    have y0 := hz2.open_ 0
    have y1 := hz2.open_ 1
    have y2 := hz2.open_ 2
    have HZ2 := Lib.hid hz2
    have HQ2 := Lib.hid hq2
    clear hz2 hq2 hgr HK hA hb2 hbr htell

    obtain ⟨rfl, hs⟩ := HTELL.out
    go_wp2_with fail
    go_region
    go_wp2_with fail
    rw [HE.out]
    exact ret_cell rfl rfl rfl (((HZ2.out.stored 0 _).stored 1 _).stored 2 _).drew rfl (ReadPost.drew ⟨rfl, ((HQ2.out.setCell (p := ⟨w.heap.size, 0, none⟩) (Nat.le_refl _) _).setCell (p := ⟨w.heap.size, 1, none⟩) (Nat.le_refl _) _).setCell (p := ⟨w.heap.size, 2, none⟩) (Nat.le_refl _) _⟩)
  case ok =>
    rw [h6] at HK
    have hfit := (rd_fits (L.length + 1)).1 _ _ _ _ _ _ (Nat.lt_succ_self _) h6
    have hmn : m ≤ n := by have := HN.out; omega
    have HRT : Hid (readT L = if m < n then .error 2 else .ok t) := Lib.hid (by unfold readT; rw [if_neg (by have := HN.out; omega), h6, HN.out])
    clear h6 hfit
    go_enter Tryd.func9, Tryd.ntmps9
    go_wp2_with fail
    refine HK.out.mono ?_
    rintro e w2 ⟨t0, a1, m1, c1, a2, m2, c2, S, s, tt, k, y, rfl, hgr, hbr, htell⟩
    have HTELL := Lib.hid htell
    have hw2 : w.heap.size + 2 ≤ w2.heap.size := by have := hgr.size; rw [HS2.out] at this; exact this
    have hz2 := (HZ.out.grown hgr (fun e => by injection e with e; omega)).alloc (.cells #[.int .u8 t0, .slice a1 m1 c1, .slice a2 m2 c2] 41)
    have hq2 : Below w.heap.size w (w2.alloc (.cells #[.int .u8 t0, .slice a1 m1 c1, .slice a2 m2 c2] 41)) := (HQ.out.trans (below_br hgr (by omega) (by rw [HS2.out]; omega))).alloc (by omega) _
    have hb2 := hbr.alloc (.cells #[.int .u8 t0, .slice a1 m1 c1, .slice a2 m2 c2] 41)
    have hA : Holds (w2.alloc (.cells #[.int .u8 t0, .slice a1 m1 c1, .slice a2 m2 c2] 41)) w2.heap.size 41 #[.int .u8 t0, .slice a1 m1 c1, .slice a2 m2 c2] := Holds.fresh _ _ _
    have b1 := hb2.cell 1
    have p0 := hA.cell 0
    have p1 := hA.cell 1
    have p2 := hA.cell 2
    have z0 := hz2.cell 0
    have z1 := hz2.cell 1
    have z2 := hz2.cell 2
    have y0 := hz2.open_ 0
    have y1 := hz2.open_ 1
    have y2 := hz2.open_ 2
    have HZ2 := Lib.hid hz2
    have HQ2 := Lib.hid hq2
    clear hz2 hq2 hgr HK hA hb2 hbr htell

    obtain ⟨rfl, rfl, rfl, hs, ht, lt, hlc2, hlt2, hin⟩ := HTELL.out
    have HIN := Lib.hid hin
    have HT := Lib.hid hlt2
    have HVAL : Hid (lt.val = .agg #[.int .u8 t0, .slice a1 m1 c1, .slice a2 m2 c2]) := Lib.hid (by
      show Value.agg lt.cells = _
      rw [← lcell_cells, hlc2])
    clear hin hlt2 hlc2 HTELL
    by_cases hmn2 : m < n
    case pos =>
      have dp : decide ((0 : Int) < (s : Int)) = true := decide_eq_true (by omega)
      go_wp2_with fail
      rw [HRT.out, if_pos hmn2]
      exact ret_cell rfl rfl rfl (((HZ2.out.stored 0 _).stored 1 _).stored 2 _) rfl ⟨rfl, ((HQ2.out.setCell (p := ⟨w.heap.size, 0, none⟩) (Nat.le_refl _) _).setCell (p := ⟨w.heap.size, 1, none⟩) (Nat.le_refl _) _).setCell (p := ⟨w.heap.size, 2, none⟩) (Nat.le_refl _) _⟩
    case neg =>
      have dp : decide ((0 : Int) < (s : Int)) = false := decide_eq_false (by omega)
      go_wp2_with fail
      rw [HRT.out, if_neg hmn2]
      refine ret_cell rfl rfl rfl (((HZ2.out.stored 0 _).stored 1 _).stored 2 _) rfl ⟨lt, by rw [HVAL.out]; rfl, HT.out, ?_, ((HQ2.out.setCell (p := ⟨w.heap.size, 0, none⟩) (Nat.le_refl _) _).setCell (p := ⟨w.heap.size, 1, none⟩) (Nat.le_refl _) _).setCell (p := ⟨w.heap.size, 2, none⟩) (Nat.le_refl _) _⟩
      have hi := HIN.out
      rw [HS2.out] at hi
      refine (hi _ fun g hg hlt => ?_).more' ?_
      · rw [Below.heap_setCell _ ⟨w.heap.size, 2, none⟩ _ g (by show g ≠ w.heap.size; omega), Below.heap_setCell _ ⟨w.heap.size, 1, none⟩ _ g (by show g ≠ w.heap.size; omega), Below.heap_setCell _ ⟨w.heap.size, 0, none⟩ _ g (by show g ≠ w.heap.size; omega)]
        exact Below.heap_alloc w2 _ g hlt
      · simp [World.setCell]
end Go.Proofs.YtbdkopcmdefhoaaDoor
