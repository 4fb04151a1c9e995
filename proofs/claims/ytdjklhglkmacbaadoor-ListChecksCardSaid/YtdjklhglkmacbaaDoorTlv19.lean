/-
  Bytes, read: by the program.
-/
import Derived.Test.YtdjklhglkmacbaaDoorTlv18
namespace Go.Proofs.YtdjklhglkmacbaaDoor
open Go.RowKit
set_option linter.unusedVariables false
set_option linter.unusedSimpArgs false

def readT (L : List Nat) : Except Nat Tr := if 12000 < L.length then .error 4 else match rd L 1 0 with
  | .error e => .error e
  | .ok (t, m, _) => if m < L.length then .error 2 else .ok t
def ReadPost (w : World) : Except Nat Tr → Ending → World → Prop
  | .error x, e, w' => e = .returned (.tuple #[noNode, .int .i64 (x : Int)]) ∧ Below w.heap.size w w'
  | .ok t, e, w' => ∃ lt, e = .returned (.tuple #[lt.val, .int .i64 0]) ∧ lt.t = t ∧ TrAt w' w'.heap.size lt ∧ Below w.heap.size w w'
set_option maxRecDepth 100000 in
set_option maxHeartbeats 8000000 in
theorem read_any (w : World) (B : Nat) (A : Option Addr) (c n : Nat) (L : List Nat) (hR : Rd .u8 w B A c L) (hn : L.length = n) (ho : ∀ x ∈ L, x < 256) (hB : B ≤ w.heap.size) :
    Calls Tryd.prog 40 #[.slice A n c] w (ReadPost w (readT L)) := by
  have hlc : n ≤ c := by rw [← hn]; exact hR.1
  have hc63 := hR.2.1
  by_cases h12 : 12000 < n
  case pos =>
    have HE : Hid (readT L = .error 4) := Lib.hid (by unfold readT; rw [if_pos (by omega)])
    have d1 : decide ((12000 : Int) < (n : Int)) = true := decide_eq_true (by omega)
    go_enter Tryd.func40, Tryd.ntmps40
    go_wp2_with fail
    rw [HE.out]
    exact ret_cell rfl rfl rfl (Holds.fresh _ _ _) rfl ⟨rfl, (Below.refl _ _).alloc (Nat.le_refl _) _⟩
  have d1 : decide ((12000 : Int) < (n : Int)) = false := decide_eq_false (by omega)
  have hs1 : (w.alloc (.cells #[.int .u8 0, .slice none 0 0, .slice none 0 0] 31)).heap.size = w.heap.size + 1 := by simp
  have hH : Holds ((w.alloc (.cells #[.int .u8 0, .slice none 0 0, .slice none 0 0] 31)).alloc (.cells #[.slice A n c, .int .i64 0] 86)) (w.heap.size + 1) 86 #[.slice A n c, .int .i64 ((0 : Nat) : Int)] := by
    have h := Holds.fresh (w.alloc (.cells #[.int .u8 0, .slice none 0 0, .slice none 0 0] 31)) 86 #[.slice A n c, .int .i64 0]
    rw [hs1] at h
    exact h
  have hZ : Holds ((w.alloc (.cells #[.int .u8 0, .slice none 0 0, .slice none 0 0] 31)).alloc (.cells #[.slice A n c, .int .i64 0] 86)) w.heap.size 31 #[.int .u8 0, .slice none 0 0, .slice none 0 0] := (Holds.fresh _ _ _).alloc _
  have hQ : Below w.heap.size w ((w.alloc (.cells #[.int .u8 0, .slice none 0 0, .slice none 0 0] 31)).alloc (.cells #[.slice A n c, .int .i64 0] 86)) := ((Below.refl _ _).alloc (Nat.le_refl _) _).alloc (by rw [hs1]; omega) _
  have hs2 : ((w.alloc (.cells #[.int .u8 0, .slice none 0 0, .slice none 0 0] 31)).alloc (.cells #[.slice A n c, .int .i64 0] 86)).heap.size = w.heap.size + 2 := by simp
  have hr : ∀ r, rd L 1 0 = r → Calls Tryd.prog 58 #[.pointer (some ⟨w.heap.size + 1, 0, none⟩), .int .i64 (n : Int), .int .i64 1] ((w.alloc (.cells #[.int .u8 0, .slice none 0 0, .slice none 0 0] 31)).alloc (.cells #[.slice A n c, .int .i64 0] 86)) (ThingPost ((w.alloc (.cells #[.int .u8 0, .slice none 0 0, .slice none 0 0] 31)).alloc (.cells #[.slice A n c, .int .i64 0] 86)) B (w.heap.size + 1) L n r) := fun r hr => by
    have h := thing_N (n + 1) _ B (w.heap.size + 1) A c n n 1 0 L (Nat.lt_succ_self _) (hR.under (hQ.mono hB)) hn (by omega) (Nat.le_refl _) ho (by omega) hH (by omega) (by omega)
    rw [show L.take n = L by rw [← hn, List.take_length], hr] at h
    exact h
  have HR := Lib.hid hr
  have HZ := Lib.hid hZ
  have HQ := Lib.hid hQ
  have HS2 := Lib.hid hs2
  have HN := Lib.hid hn
  have HO := Lib.hid ho
  clear hr hZ hQ hH hR ho hn hs1 hs2
  rcases h6 : rd L 1 0 with y | ⟨t, m, c2⟩
  case error =>
    have hy0 := (rd_err (L.length + 1)).1 _ _ _ _ (Nat.lt_succ_self _) h6
    have bne : ((y : Int) != 0) = true := by simp; omega
    have beq : ((y : Int) == 0) = false := by simp; omega
    have HE : Hid (readT L = .error y) := Lib.hid (by unfold readT; rw [if_neg (by have := HN.out; omega), h6])
    have HK := Lib.hid (HR.out _ h6)
    clear h6 HR
    go_enter Tryd.func40, Tryd.ntmps40
    go_wp2_with fail
    refine HK.out.mono ?_
    rintro e w2 ⟨rfl, hgr⟩
    have hz2 := (HZ.out.grown hgr (fun e => by injection e with e; omega)).alloc (.cells #[.int .u8 0, .slice none 0 0, .slice none 0 0] 31)
    have hq2 : Below w.heap.size w (w2.alloc (.cells #[.int .u8 0, .slice none 0 0, .slice none 0 0] 31)) := (HQ.out.trans (below_br hgr (by omega) (by rw [HS2.out]; omega))).alloc (by have := hgr.size; rw [HS2.out] at this; omega) _
    have z0 := hz2.cell 0
    have z1 := hz2.cell 1
    have z2 := hz2.cell 2
    have y0 := hz2.open_ 0
    have y1 := hz2.open_ 1
    have y2 := hz2.open_ 2
    have HZ2 := Lib.hid hz2
    have HQ2 := Lib.hid hq2
    clear hz2 hq2 hgr HK
    simp only [noNode]
    go_wp2_with fail
    rw [HE.out]
    exact ret_cell rfl rfl rfl (((HZ2.out.stored 0 _).stored 1 _).stored 2 _) rfl ⟨rfl, ((HQ2.out.setCell (p := ⟨w.heap.size, 0, none⟩) (Nat.le_refl _) _).setCell (p := ⟨w.heap.size, 1, none⟩) (Nat.le_refl _) _).setCell (p := ⟨w.heap.size, 2, none⟩) (Nat.le_refl _) _⟩
  case ok =>
    have hfit := (rd_fits (L.length + 1)).1 _ _ _ _ _ _ (Nat.lt_succ_self _) h6
    have HK := Lib.hid (HR.out _ h6)
    have hmn : m ≤ n := by have := HN.out; omega
    obtain ⟨p, hp⟩ : ∃ p, p = n - m := ⟨_, rfl⟩
    have HRT : Hid (readT L = if m < n then .error 2 else .ok t) := Lib.hid (by unfold readT; rw [if_neg (by have := HN.out; omega), h6, HN.out])
    clear h6 HR hfit
    go_enter Tryd.func40, Tryd.ntmps40
    go_wp2_with fail
    refine HK.out.mono ?_
    rintro e w2 ⟨lt, A2, c9, rfl, hlt2, hin, hgr, hbr, hrd⟩
    have hval : lt.val = .agg #[.int .u8 (lt.tag : Int), .slice lt.ba lt.body.length lt.bc, .slice lt.ka lt.kids.length lt.kc] := rfl
    have HVAL := Lib.hid hval
    rw [hval]
    rw [← hp] at hbr
    have hpc : p ≤ c9 := by have h := hrd.1; rw [List.length_drop, HN.out, ← hp] at h; exact h
    have hc9 := hrd.2.1
    have HIN := Lib.hid hin
    have HT := Lib.hid hlt2
    generalize lt.tag = t0 at *
    generalize lt.ba = t1 at *
    generalize lt.body.length = t2 at *
    generalize lt.bc = t3 at *
    generalize lt.ka = t4 at *
    generalize lt.kids.length = t5 at *
    generalize lt.kc = t6 at *
    have hw2 : w.heap.size + 2 ≤ w2.heap.size := by have := hgr.size; rw [HS2.out] at this; exact this
    have hz2 := (HZ.out.grown hgr (fun e => by injection e with e; omega)).alloc (.cells #[.int .u8 (t0 : Int), .slice t1 t2 t3, .slice t4 t5 t6] 31)
    have hq2 : Below w.heap.size w (w2.alloc (.cells #[.int .u8 (t0 : Int), .slice t1 t2 t3, .slice t4 t5 t6] 31)) := (HQ.out.trans (below_br hgr (by omega) (by rw [HS2.out]; omega))).alloc (by omega) _
    have hb2 := hbr.alloc (.cells #[.int .u8 (t0 : Int), .slice t1 t2 t3, .slice t4 t5 t6] 31)
    have hA : Holds (w2.alloc (.cells #[.int .u8 (t0 : Int), .slice t1 t2 t3, .slice t4 t5 t6] 31)) w2.heap.size 31 #[.int .u8 (t0 : Int), .slice t1 t2 t3, .slice t4 t5 t6] := Holds.fresh _ _ _
    have b0 := hb2.cell 0
    have a0 := hA.cell 0
    have a1 := hA.cell 1
    have a2 := hA.cell 2
    have z0 := hz2.cell 0
    have z1 := hz2.cell 1
    have z2 := hz2.cell 2
    have y0 := hz2.open_ 0
    have y1 := hz2.open_ 1
    have y2 := hz2.open_ 2
    have HZ2 := Lib.hid hz2
    have HQ2 := Lib.hid hq2
    clear hz2 hq2 hgr HK hA hb2 hbr hrd hin hlt2 hval
    by_cases hmn2 : m < n
    case pos =>
      have dp : decide ((0 : Int) < (p : Int)) = true := decide_eq_true (by omega)
      go_wp2_with fail
      rw [HRT.out, if_pos hmn2]
      exact ret_cell rfl rfl rfl (((HZ2.out.stored 0 _).stored 1 _).stored 2 _) rfl ⟨rfl, ((HQ2.out.setCell (p := ⟨w.heap.size, 0, none⟩) (Nat.le_refl _) _).setCell (p := ⟨w.heap.size, 1, none⟩) (Nat.le_refl _) _).setCell (p := ⟨w.heap.size, 2, none⟩) (Nat.le_refl _) _⟩
    case neg =>
      have dp : decide ((0 : Int) < (p : Int)) = false := decide_eq_false (by omega)
      go_wp2_with fail
      rw [HRT.out, if_neg hmn2]
      refine ret_cell rfl rfl rfl (((HZ2.out.stored 0 _).stored 1 _).stored 2 _) rfl ⟨lt, by rw [HVAL.out]; rfl, HT.out, ?_, ((HQ2.out.setCell (p := ⟨w.heap.size, 0, none⟩) (Nat.le_refl _) _).setCell (p := ⟨w.heap.size, 1, none⟩) (Nat.le_refl _) _).setCell (p := ⟨w.heap.size, 2, none⟩) (Nat.le_refl _) _⟩
      have hi := HIN.out
      rw [HS2.out] at hi
      refine (hi _ fun g hg hlt => ?_).more' ?_
      · rw [Below.heap_setCell _ ⟨w.heap.size, 2, none⟩ _ g (by show g ≠ w.heap.size; omega), Below.heap_setCell _ ⟨w.heap.size, 1, none⟩ _ g (by show g ≠ w.heap.size; omega), Below.heap_setCell _ ⟨w.heap.size, 0, none⟩ _ g (by show g ≠ w.heap.size; omega)]
        exact Below.heap_alloc w2 _ g hlt
      · simp [World.setCell]
end Go.Proofs.YtdjklhglkmacbaaDoor
