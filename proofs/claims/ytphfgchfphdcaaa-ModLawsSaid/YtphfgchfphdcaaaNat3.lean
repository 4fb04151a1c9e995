/-
  Sums: by nat, and by the document's own reckoning.
-/
import Derived.Test.YtphfgchfphdcaaaNat2
namespace Go.Proofs.Ytphfgchfphdcaaa
open Go.RowKit
set_option linter.unusedVariables false

theorem info_u32 : (Try.prog.info? 31).map (fun i => (i.zero, i.size, i.bytes)) = some (some (.int .u32 0), 1, 4) := by kernel_rfl
theorem info_u8 : (Try.prog.info? 5).map (fun i => (i.zero, i.size, i.bytes)) = some (some (.int .u8 0), 1, 1) := by kernel_rfl
/-- What 'make' lays: noughts. -/
theorem make_nat (z : Int) (n : Nat) (hz : z = n) (hn : n ≤ 1000000) (W : World) : (Instr.makeSlice 23 (.int .i64 z) (.int .i64 z)).run Try.prog W = .ok (.slice (some ⟨W.heap.size, 0, none⟩) n n) (W.alloc (.cells (nums .u32 (List.replicate n 0)) 31)) := by
  obtain ⟨i0, hi, hz0, hz1, hz2⟩ := info_parts info_u32
  have h := run_make (P := Try.prog) W 23 31 i0 (.int .u32 0) Try.underlying23 hi hz0 .i64 .i64 (n : Int) (n : Int) (by omega) (by omega) (by rw [hz2]; omega) (by omega)
  rw [hz, h, hz1, nums_noughts]
  simp [Value.cells]
/-- An answer in new memory: the digits r, writable. -/
def Fresh (k : IntKind) (T : TypeId) (w' : World) (B : Nat) (A : Option Addr) (c : Nat) (r : List Nat) : Prop :=
  Rd k w' w'.heap.size A c r ∧ (0 < r.length → ∃ g L, A = some ⟨g, 0, none⟩ ∧ B ≤ g ∧ Row k T w' g L ∧ r = L.take r.length)

theorem fresh_row {k : IntKind} {T : TypeId} {w' : World} {B g n c : Nat} {L : List Nat} (h : Row k T w' g L) (hB : B ≤ g) (hn : n ≤ L.length) (hc : n ≤ c) (h63 : c ≤ 9223372036854775807) : Fresh k T w' B (some ⟨g, 0, none⟩) c (L.take n) :=
  ⟨(h.rd hn hc h63).more (Holds.lt h), fun _ => ⟨g, L, rfl, hB, h, by rw [List.length_take, Nat.min_eq_left hn]⟩⟩

theorem fresh_trl {k : IntKind} {T : TypeId} {w' : World} {B g c : Nat} {L : List Nat} (h : Row k T w' g L) (hB : B ≤ g) (hc : L.length ≤ c) (h63 : c ≤ 9223372036854775807) : Fresh k T w' B (some ⟨g, 0, none⟩) c (trl L) :=
  fresh_row h hB (tlen_le L _) (Nat.le_trans (tlen_le L _) hc) h63
theorem rd_whole {k : IntKind} {T : TypeId} {w : World} {g c : Nat} {L : List Nat} (h : Row k T w g L) (hc : L.length ≤ c) (h63 : c ≤ 9223372036854775807) : Rd k w (g + 1) (some ⟨g, 0, none⟩) c L := by
  have := h.rd (Nat.le_refl _) hc h63
  rwa [List.take_length] at this

set_option maxRecDepth 100000 in
theorem digit_any (w : World) (B : Nat) (A : Option Addr) (c : Nat) (l : List Nat) (hr : Rd .u32 w B A c l) (hd : Dg l) (i : Nat) (hi : i ≤ 1000000) (v : Nat) (hv : l.getD i 0 = v) : Calls Try.prog 36 #[.slice A l.length c, .int .i64 i] w fun e w' => e = .returned (.int .u64 (v : Int)) ∧ w = w' := by
  have hlc : l.length ≤ c := hr.1
  have hc63 : c ≤ 9223372036854775807 := hr.2.1
  by_cases h : i < l.length
  · obtain ⟨b, off, x, rfl, hb, hx, Hx⟩ := hr.at_ h
    have hxl : x < 4294967296 := by rw [Hx.out]; exact hd.at_ i
    have Hv := Lib.hid (show v = x by rw [← hv, Hx.out])
    clear hv
    go_enter Try.func36, Try.ntmps36
    go_wp2_with fail
    go_ret
    exact ⟨by rw [Hv.out]; rfl, rfl⟩
  · have Hv := Lib.hid (show v = 0 by rw [← hv, List.getD, List.getElem?_eq_none (by omega)]; rfl)
    clear hv
    go_enter Try.func36, Try.ntmps36
    go_wp2_with fail
    go_ret
    exact ⟨by rw [Hv.out]; rfl, rfl⟩

set_option maxRecDepth 100000 in
theorem add_long (w : World) (B B' : Nat) (A A' : Option Addr) (c c' : Nat) (l l' : List Nat) (hr : Rd .u32 w B A c l) (hr' : Rd .u32 w B' A' c' l') (hB : B ≤ w.heap.size) (hB' : B' ≤ w.heap.size) (hd : Dg l) (hd' : Dg l') (hs : l.length ≤ 5000) (hs' : l'.length ≤ 5000) (hle : ¬ l.length < l'.length) :
    Calls Try.prog 26 #[.slice A l.length c, .slice A' l'.length c'] w fun e w' => ∃ A2 c2 r, e = .returned (.slice A2 r.length c2) ∧ NumIs r (val l + val l') ∧ Fresh .u32 31 w' w.heap.size A2 c2 r ∧ Below w.heap.size w w' := by
  have hlc : l.length ≤ c := hr.1
  have hc63 : c ≤ 9223372036854775807 := hr.2.1
  have hlc' : l'.length ≤ c' := hr'.1
  have hc63' : c' ≤ 9223372036854775807 := hr'.2.1
  have hmk := make_nat ((l.length : Int) + 1) (l.length + 1) (by omega) (by omega)
  go_enter Try.func26, Try.ntmps26
  go_wp2_with fail
  have hR0 : Row .u32 31 (w.alloc (.cells (nums .u32 (List.replicate (l.length + 1) 0)) 31)) w.heap.size (List.replicate (l.length + 1) 0) := Holds.fresh _ _ _
  clear hmk
  go_loopw [6, 21] (fun ov si wr => ∃ (i o : Nat) (L : List Nat), i ≤ l.length ∧ si = .int .i64 i ∧ ov = .int .u64 o ∧ o ≤ 1 ∧ Row .u32 31 wr w.heap.size L ∧ L.length = l.length + 1 ∧ Dg L ∧ val (L.take i) + pw i * o = val (l.take i) + val (l'.take i) ∧ Below w.heap.size w wr)
    (fun _ si _ => l.length - (intOf si).toNat)
  case atStart => exact ⟨0, 0, _, by omega, rfl, rfl, by omega, hR0, by simp, Dg.noughts _, by simp [val], (Below.refl _ _).alloc (Nat.le_refl _) _⟩
  case round =>
    obtain ⟨i, o, L, hi, rfl, rfl, ho, hR, hL, hdL, hval, hbel⟩ := hrel
    have hz := Holds.lt hR
    have HL := Lib.hid hL
    have Hval := Lib.hid hval
    clear hL hval
    have hfr := hR.open_
    by_cases h : i < l.length
    · obtain ⟨b, off, x, rfl, hb, hx, Hx⟩ := (hr.under (hbel.mono hB)).at_ h
      have hxl : x < 4294967296 := by rw [Hx.out]; exact hd.at_ i
      have hcell := hR.cell (i := i) (by rw [HL.out]; omega)
      by_cases h' : i < l'.length
      · obtain ⟨b', off', y, rfl, hb', hy, Hy⟩ := (hr'.under (hbel.mono hB')).at_ h'
        have hyl : y < 4294967296 := by rw [Hy.out]; exact hd'.at_ i
        go_wp2_with fail
        have hst := hR.set i ((o + x + y) % 4294967296)
        have hv := add_step (by rw [HL.out]; omega) Hval.out Hx.out Hy.out
        refine ⟨⟨i + 1, (o + x + y) / 4294967296, _, by omega, by go_num, by go_num, by omega, hst, by rw [List.length_set]; exact HL.out, hdL.set _ _ (by omega), hv, hbel.setCell (Nat.le_refl _) _⟩, by simp [intOf]; omega⟩
      · have hy0 : (0 : Nat) = l'.getD i 0 := by rw [List.getD, List.getElem?_eq_none (by omega)]; rfl
        have Hy0 := Lib.hid hy0
        clear hy0
        go_wp2_with fail
        have hst := hR.set i ((o + x) % 4294967296)
        have hv := add_step (by rw [HL.out]; omega) Hval.out Hx.out Hy0.out
        rw [Nat.add_zero] at hv
        refine ⟨⟨i + 1, (o + x) / 4294967296, _, by omega, by go_num, by go_num, by omega, hst, by rw [List.length_set]; exact HL.out, hdL.set _ _ (by omega), hv, hbel.setCell (Nat.le_refl _) _⟩, by simp [intOf]; omega⟩
    · have Hi := Lib.hid (show i = l.length by omega)
      have hcell := hR.cell (i := l.length) (by rw [HL.out]; omega)
      go_wp2_with fail
      have hst := hR.set l.length o
      have hlen : (L.set l.length o).length = l.length + 1 := by rw [List.length_set]; exact HL.out
      have hdg := hdL.set l.length o (by omega)
      have hv : val (L.set l.length o) = val l + val l' := by
        have h1 := take_set_succ L l.length o (by rw [HL.out]; omega)
        rw [val_take_all _ _ (by omega)] at h1
        have h2 := Hval.out
        rw [Hi.out, val_take_all l _ (Nat.le_refl _), val_take_all l' _ (by omega)] at h2
        rw [h1, h2]
      generalize L.set l.length o = M at *
      refine (trim_at _ _ _ _ _ M (rd_whole hst (Nat.le_of_eq hlen) (by omega)) hlen).mono ?_
      rintro e w1 ⟨rfl, rfl⟩
      go_wp2_with fail
      go_ret
      exact ⟨_, _, trl M, rfl, num_trl hdg hv, fresh_trl hst (Nat.le_refl _) (Nat.le_of_eq hlen) (by omega), hbel.setCell (Nat.le_refl _) _⟩
set_option maxRecDepth 100000 in
theorem add_short (w : World) (B B' : Nat) (A A' : Option Addr) (c c' : Nat) (l l' : List Nat) (hr : Rd .u32 w B A c l) (hr' : Rd .u32 w B' A' c' l') (hB : B ≤ w.heap.size) (hB' : B' ≤ w.heap.size) (hd : Dg l) (hd' : Dg l') (hs : l.length ≤ 5000) (hs' : l'.length ≤ 5000) (hle : l'.length < l.length) :
    Calls Try.prog 26 #[.slice A' l'.length c', .slice A l.length c] w fun e w' => ∃ A2 c2 r, e = .returned (.slice A2 r.length c2) ∧ NumIs r (val l + val l') ∧ Fresh .u32 31 w' w.heap.size A2 c2 r ∧ Below w.heap.size w w' := by
  have hlc : l.length ≤ c := hr.1
  have hc63 : c ≤ 9223372036854775807 := hr.2.1
  have hlc' : l'.length ≤ c' := hr'.1
  have hc63' : c' ≤ 9223372036854775807 := hr'.2.1
  have hmk := make_nat ((l.length : Int) + 1) (l.length + 1) (by omega) (by omega)
  go_enter Try.func26, Try.ntmps26
  go_wp2_with fail
  have hR0 : Row .u32 31 (w.alloc (.cells (nums .u32 (List.replicate (l.length + 1) 0)) 31)) w.heap.size (List.replicate (l.length + 1) 0) := Holds.fresh _ _ _
  clear hmk
  go_loopw [6, 21] (fun ov si wr => ∃ (i o : Nat) (L : List Nat), i ≤ l.length ∧ si = .int .i64 i ∧ ov = .int .u64 o ∧ o ≤ 1 ∧ Row .u32 31 wr w.heap.size L ∧ L.length = l.length + 1 ∧ Dg L ∧ val (L.take i) + pw i * o = val (l.take i) + val (l'.take i) ∧ Below w.heap.size w wr)
    (fun _ si _ => l.length - (intOf si).toNat)
  case atStart => exact ⟨0, 0, _, by omega, rfl, rfl, by omega, hR0, by simp, Dg.noughts _, by simp [val], (Below.refl _ _).alloc (Nat.le_refl _) _⟩
  case round =>
    obtain ⟨i, o, L, hi, rfl, rfl, ho, hR, hL, hdL, hval, hbel⟩ := hrel
    have hz := Holds.lt hR
    have HL := Lib.hid hL
    have Hval := Lib.hid hval
    clear hL hval
    have hfr := hR.open_
    by_cases h : i < l.length
    · obtain ⟨b, off, x, rfl, hb, hx, Hx⟩ := (hr.under (hbel.mono hB)).at_ h
      have hxl : x < 4294967296 := by rw [Hx.out]; exact hd.at_ i
      have hcell := hR.cell (i := i) (by rw [HL.out]; omega)
      by_cases h' : i < l'.length
      · obtain ⟨b', off', y, rfl, hb', hy, Hy⟩ := (hr'.under (hbel.mono hB')).at_ h'
        have hyl : y < 4294967296 := by rw [Hy.out]; exact hd'.at_ i
        go_wp2_with fail
        have hst := hR.set i ((o + x + y) % 4294967296)
        have hv := add_step (by rw [HL.out]; omega) Hval.out Hx.out Hy.out
        refine ⟨⟨i + 1, (o + x + y) / 4294967296, _, by omega, by go_num, by go_num, by omega, hst, by rw [List.length_set]; exact HL.out, hdL.set _ _ (by omega), hv, hbel.setCell (Nat.le_refl _) _⟩, by simp [intOf]; omega⟩
      · have hy0 : (0 : Nat) = l'.getD i 0 := by rw [List.getD, List.getElem?_eq_none (by omega)]; rfl
        have Hy0 := Lib.hid hy0
        clear hy0
        go_wp2_with fail
        have hst := hR.set i ((o + x) % 4294967296)
        have hv := add_step (by rw [HL.out]; omega) Hval.out Hx.out Hy0.out
        rw [Nat.add_zero] at hv
        refine ⟨⟨i + 1, (o + x) / 4294967296, _, by omega, by go_num, by go_num, by omega, hst, by rw [List.length_set]; exact HL.out, hdL.set _ _ (by omega), hv, hbel.setCell (Nat.le_refl _) _⟩, by simp [intOf]; omega⟩
    · have Hi := Lib.hid (show i = l.length by omega)
      have hcell := hR.cell (i := l.length) (by rw [HL.out]; omega)
      go_wp2_with fail
      have hst := hR.set l.length o
      have hlen : (L.set l.length o).length = l.length + 1 := by rw [List.length_set]; exact HL.out
      have hdg := hdL.set l.length o (by omega)
      have hv : val (L.set l.length o) = val l + val l' := by
        have h1 := take_set_succ L l.length o (by rw [HL.out]; omega)
        rw [val_take_all _ _ (by omega)] at h1
        have h2 := Hval.out
        rw [Hi.out, val_take_all l _ (Nat.le_refl _), val_take_all l' _ (by omega)] at h2
        rw [h1, h2]
      generalize L.set l.length o = M at *
      refine (trim_at _ _ _ _ _ M (rd_whole hst (Nat.le_of_eq hlen) (by omega)) hlen).mono ?_
      rintro e w1 ⟨rfl, rfl⟩
      go_wp2_with fail
      go_ret
      exact ⟨_, _, trl M, rfl, num_trl hdg hv, fresh_trl hst (Nat.le_refl _) (Nat.le_of_eq hlen) (by omega), hbel.setCell (Nat.le_refl _) _⟩

theorem add_any (w : World) (B B' : Nat) (A A' : Option Addr) (c c' : Nat) (l l' : List Nat) (hr : Rd .u32 w B A c l) (hr' : Rd .u32 w B' A' c' l') (hB : B ≤ w.heap.size) (hB' : B' ≤ w.heap.size) (hd : Dg l) (hd' : Dg l') (hs : l.length ≤ 5000) (hs' : l'.length ≤ 5000) :
    Calls Try.prog 26 #[.slice A l.length c, .slice A' l'.length c'] w fun e w' => ∃ A2 c2 r, e = .returned (.slice A2 r.length c2) ∧ NumIs r (val l + val l') ∧ Fresh .u32 31 w' w.heap.size A2 c2 r ∧ Below w.heap.size w w' := by
  by_cases h : l.length < l'.length
  · rw [Nat.add_comm]
    exact add_short w B' B A' A c' c l' l hr' hr hB' hB hd' hd hs' hs h
  · exact add_long w B B' A A' c c' l l' hr hr' hB hB' hd hd' hs hs' h
end Go.Proofs.Ytphfgchfphdcaaa
