/-
  Which places are free: by the program.
-/
import Derived.Test.YtkfokgkehlcikaaRoom8
namespace Go.Proofs.Ytkfokgkehlcikaa
open Go.RowKit Go.WideMaps Go.Maps
set_option linter.unusedVariables false
set_option linter.unusedSimpArgs false

def RelG (l : List Nd) (m : Nat) (B1 g1 : Nat) (w : World) (n : Nat) (i : Value) (wr : World) : Prop :=
  ∃ (k : Nat) (f : Nat → Bool), k ≤ n ∧ i = .int .i64 k ∧ Hid (Holds wr g1 4 (bits m f)) ∧ Hid (∀ x : Nat, f x = true ↔ hasL l (x : Int) k) ∧ Hid (Below w.heap.size w wr)
def RelH (l : List Nd) (m : Nat) (g1 : Nat) (w : World) (k p : Nat) (pl : List Int) (i : Value) (wr : World) : Prop :=
  ∃ (j : Nat) (f : Nat → Bool), j ≤ p ∧ i = .int .i64 j ∧ Hid (Holds wr g1 4 (bits m f)) ∧ Hid (∀ x : Nat, f x = true ↔ hasL l (x : Int) k ∨ ∃ i, i < j ∧ pl.getD i 0 = (x : Int)) ∧ Hid (Below w.heap.size w wr)
def RelF2 (hb : Nat → Bool) (w : World) (g1 m : Nat) (ff : Nat → Bool) (r : Nat) (v i : Value) (wr : World) : Prop :=
  ∃ (k : Nat) (A' : Option Addr) (c' n' : Nat), k ≤ r ∧ i = .int .i64 (40 + (k : Int)) ∧ v = .slice A' n' c' ∧ Hid ((freeN hb k).length = n') ∧ Hid (Own .i64 3 wr w.heap.size A' c' (freeN hb k)) ∧ Hid (Holds wr g1 4 (bits m ff)) ∧ Hid (∀ g, blockOf A' = some g → g ≠ g1) ∧ Hid (Below w.heap.size w wr)

set_option maxRecDepth 100000 in
set_option maxHeartbeats 4000000 in
theorem free_no (w : World) (A : Option Addr) (c n : Nat) (l : List Nd) (hn : l.length = n) (hr : RdN w w.heap.size A c l) (hs : ∀ j, j < n → (l.getD j default).name.size ≤ 9223372036854775807 ∧ (l.getD j default).size ≤ 9223372036854775807) (many : Int) (hv : ¬ RoomOk l many) :
    Calls Try.prog 25 #[.slice A n c, .int .i64 many] w fun e w' => e = .returned (.slice none 0 0) ∧ Below w.heap.size w w' := by
  have HC := Lib.hid (room_any w A c n l hn hr hs many false ⟨(fun e => by cases e), fun e => absurd e hv⟩)
  clear hn hr hs hv
  go_enter Try.func25, Try.ntmps25
  go_wp2_with fail
  refine HC.out.mono ?_
  rintro e w1 ⟨rfl, hb1⟩
  have HB := Lib.hid hb1
  clear hb1 HC
  go_wp2_with fail
  go_ret
  exact ⟨rfl, HB.out⟩

set_option maxRecDepth 100000 in
set_option maxHeartbeats 4000000 in
theorem free_yes (w : World) (A : Option Addr) (c n : Nat) (l : List Nd) (hn : l.length = n) (hr : RdN w w.heap.size A c l) (hs : ∀ j, j < n → (l.getD j default).name.size ≤ 9223372036854775807 ∧ (l.getD j default).size ≤ 9223372036854775807) (m : Nat) (hv : RoomOk l (m : Int)) (hb : Nat → Bool) (hh : ∀ x : Nat, hb x = true ↔ hasL l x n) :
    Calls Try.prog 25 #[.slice A n c, .int .i64 (m : Int)] w fun e w' => ∃ A' c' n', e = .returned (.slice A' n' c') ∧ (freeN hb (m - 40)).length = n' ∧ Own .i64 3 w' w.heap.size A' c' (freeN hb (m - 40)) ∧ Below w.heap.size w w' := by
  have HC := Lib.hid (room_any w A c n l hn hr hs (m : Int) true ⟨fun _ => hv, fun _ => rfl⟩)
  have hm2 : m ≤ 2000 := by have := hv.m1; omega
  have HUP : Hid (RoomUp l (m : Int) n) := Lib.hid (by rw [← hn]; exact hv.all)
  have HH := Lib.hid hh
  have HN := Lib.hid hn
  have HR : Hid (∀ W, Below w.heap.size w W → RdN W w.heap.size A c l) := Lib.hid fun W hW => hr.under hW
  have hlc : n ≤ c := by have := hr.1; omega
  have hc63 := hr.2.1
  have hmb := make_bits m hm2
  clear hn hr hs hv hh
  go_enter Try.func25, Try.ntmps25
  go_wp2_with fail
  refine HC.out.mono ?_
  rintro e w1 ⟨rfl, hb1⟩
  have hbit : Hid (Holds (w1.alloc (.cells (bits m fun _ => false) 4)) w1.heap.size 4 (bits m fun _ => false)) := Lib.hid (Holds.fresh _ _ _)
  have hbel : Hid (Below w.heap.size w (w1.alloc (.cells (bits m fun _ => false) 4))) := Lib.hid (hb1.alloc hb1.size _)
  have HG1 : Hid (w.heap.size ≤ w1.heap.size) := Lib.hid hb1.size
  clear HC hb1
  go_wp2_with fail
  generalize w1.alloc (.cells (bits m fun _ => false) 4) = W at *
  generalize w1.heap.size = g1 at *
  clear hmb
  go_loopw [20] (fun i wr => RelG l m 0 g1 w n i wr) (fun i _ => n - (intOf i).toNat)
  case atStart => exact ⟨0, _, Nat.zero_le _, rfl, hbit, Lib.hid (fun x => ⟨(fun e => by cases e), fun ⟨j, i, h, _⟩ => by omega⟩), hbel⟩
  case round =>
    clear hbit hbel
    obtain ⟨k, f, hk, rfl, HB, HF, HQ⟩ := hrel
    obtain ⟨V, hV⟩ : ∃ V, V = wr := ⟨_, rfl⟩
    subst hV
    by_cases hkn : k < n
    case pos =>
      have hkI : (k : Int) < (n : Int) := by omega
      have hk0 : (0 : Int) ≤ (k : Int) := by omega
      have hkl : k < l.length := by rw [HN.out]; exact hkn
      obtain ⟨b, off, rfl, hb', hcs⟩ := (HR.out V HQ.out).2.2.2 (by omega)
      obtain ⟨q0, q1, q2⟩ := hcs k hkl
      have HRI : Hid (∀ W, Below w.heap.size w W → RdI .i64 W w.heap.size (l.getD k default).pa (l.getD k default).pc (l.getD k default).pl) := Lib.hid fun W hW => (HR.out W hW).2.2.1 k hkl
      have HHN : Hid (∀ x : Int, hasL l x (k + 1) ↔ hasL l x k ∨ ∃ i, i < (l.getD k default).pl.length ∧ (l.getD k default).pl.getD i 0 = x) := Lib.hid fun x => hasL_next hkl
      have HRG : Hid (∀ i, i < (l.getD k default).pl.length → 40 ≤ (l.getD k default).pl.getD i 0 ∧ (l.getD k default).pl.getD i 0 < (m : Int)) := Lib.hid fun i hi => ⟨(HUP.out.rng k i hkn hi).1, (HUP.out.rng k i hkn hi).2.1⟩
      clear hcs
      generalize l.getD k default = d at *
      obtain ⟨dn, dz, pa, pc, pl⟩ := d
      simp only at q0 q1 q2 HRI HHN HRG
      obtain ⟨p, hp⟩ : ∃ p, pl.length = p := ⟨_, rfl⟩
      have HPL := Lib.hid hp
      rw [hp] at q2 HHN HRG
      have hri := HRI.out V HQ.out
      have hpc1 : p ≤ pc := by have := hri.1; omega
      have hpc := hri.2.1
      clear hri hp
      have hVA : Hid (Below w.heap.size w (V.alloc (.cells #[.string dn, .int .i64 dz, .slice pa p pc] 25))) := Lib.hid (HQ.out.alloc HQ.out.size _)
      have hBA : Hid (Holds (V.alloc (.cells #[.string dn, .int .i64 dz, .slice pa p pc] 25)) g1 4 (bits m f)) := Lib.hid (HB.out.alloc _)
      clear HB
      go_wp2_with fail
      go_loopw [27] (fun i wr => RelH l m g1 w k p pl i wr) (fun i _ => p - (intOf i).toNat)
      case atStart => exact ⟨0, f, Nat.zero_le _, rfl, hBA, Lib.hid (fun x => by rw [HF.out]; exact ⟨.inl, fun h => h.elim id fun ⟨i, hi, _⟩ => by omega⟩), hVA⟩
      case round =>
        clear hVA hBA q0 q1 q2
        obtain ⟨j, g, hj, rfl, HB, HG, HW⟩ := hrel
        obtain ⟨W, hW⟩ : ∃ W, W = wr := ⟨_, rfl⟩
        subst hW
        by_cases hjp : j < p
        case pos =>
          have hjI : (j : Int) < (p : Int) := by omega
          have hj0 : (0 : Int) ≤ (j : Int) := by omega
          obtain ⟨b2, off2, y, rfl, hb2, hy, Hy⟩ := (HRI.out W HW.out).at_ (i := j) (by rw [HPL.out]; exact hjp)
          have HVAL : Hid (pl.getD j 0 = y) := Lib.hid Hy.out.symm
          have hyr := HRG.out j hjp
          rw [HVAL.out] at hyr
          obtain ⟨x, rfl⟩ : ∃ x : Nat, y = (x : Int) := ⟨y.toNat, by omega⟩
          have hx0 : (0 : Int) ≤ (x : Int) := by omega
          have hxm : x < m := by omega
          have hxI : (x : Int) < (m : Int) := by omega
          have hbc := (HB.out.cell x).trans (bits_at g hxm)
          have hbf := HB.out.open_ x
          have HB4 : Hid (Holds (W.setCell ⟨g1, x, none⟩ (.bool true)) g1 4 (bits m fun z => z == x || g z)) := Lib.hid (by rw [← bits_set g hxm]; exact HB.out.stored x _)
          have HW4 : Hid (Below w.heap.size w (W.setCell ⟨g1, x, none⟩ (.bool true))) := Lib.hid (HW.out.setCell (p := ⟨g1, x, none⟩) HG1.out _)
          have HG4 : Hid (∀ z : Nat, (z == x || g z) = true ↔ hasL l (z : Int) k ∨ ∃ i, i < j + 1 ∧ pl.getD i 0 = (z : Int)) := Lib.hid fun z => by
            rw [Bool.or_eq_true, HG.out z, beq_iff_eq]
            constructor
            · rintro (rfl | h | ⟨i, hi, he⟩)
              · exact .inr ⟨j, by omega, HVAL.out⟩
              · exact .inl h
              · exact .inr ⟨i, by omega, he⟩
            · rintro (h | ⟨i, hi, he⟩)
              · exact .inr (.inl h)
              · rcases Nat.lt_or_ge i j with h5 | h5
                · exact .inr (.inr ⟨i, h5, he⟩)
                · obtain rfl : i = j := by omega
                  rw [HVAL.out] at he
                  exact .inl (by omega)
          go_wp2_with fail
          go_roundw
          case rel => exact ⟨j + 1, _, by omega, by go_num, HB4, HG4, HW4⟩
          case measure => simp [intOf]; omega
        case neg =>
          obtain rfl : j = p := by omega
          have hjI : ¬ ((j : Int) < (j : Int)) := by omega
          have HGN : Hid (∀ x : Nat, g x = true ↔ hasL l (x : Int) (k + 1)) := Lib.hid fun x => by rw [HG.out, HHN.out]
          go_wp2_with fail
          go_roundw
          case rel => exact ⟨k + 1, g, by omega, by go_num, HB, HGN, HW⟩
          case measure => simp [intOf]; omega
    case neg =>
      obtain rfl : k = n := by omega
      have hkI : ¬ ((k : Int) < (k : Int)) := by omega
      have HFB : Hid (∀ x : Nat, f x = hb x) := Lib.hid fun x => by
        rw [Bool.eq_iff_iff, HF.out, HH.out]
      go_wp2_with fail
      go_loopw [10, 11] (fun v i wr => RelF2 hb w g1 m f (m - 40) v i wr) (fun v i _ => (m - 40) - (intOf i - 40).toNat)
      case atStart => exact ⟨0, none, 0, 0, Nat.zero_le _, rfl, rfl, Lib.hid rfl, Lib.hid (Own.nil _ _ _ _), HB, Lib.hid (fun g hg => by simp [blockOf] at hg), HQ⟩
      case round =>
        clear HB HQ
        obtain ⟨t, A', c', n', ht, rfl, rfl, HL, HO, HB, HNE, HQ⟩ := hrel
        obtain ⟨X, hX⟩ : ∃ X, X = wr := ⟨_, rfl⟩
        subst hX
        have hn' : n' ≤ 2000 := by have := freeN_length hb t; have := HL.out; omega
        by_cases htm : t < m - 40
        case pos =>
          have hkI : decide (40 + (t : Int) < (m : Int)) = true := decide_eq_true (by omega)
          have hw1 : IntKind.i64.wrap (40 + (t : Int) + 1) = 40 + ((t + 1 : Nat) : Int) := by rw [IntWalk.i64_in _ (by omega)]; push_cast; omega
          obtain ⟨x, hx⟩ : ∃ x : Nat, x = 40 + t := ⟨_, rfl⟩
          have hxI : 40 + (t : Int) = (x : Int) := by omega
          have hxm : x < m := by omega
          have hxI2 : (x : Int) < (m : Int) := by omega
          have hx0 : (0 : Int) ≤ (x : Int) := by omega
          have hbc := (HB.out.cell x).trans (bits_at f hxm)
          rw [HFB.out x] at hbc
          have HF1 : Hid (freeN hb (t + 1) = if hb x = true then freeN hb t else freeN hb t ++ [x]) := Lib.hid (by rw [hx]; exact freeN_succ hb t)
          rw [hxI] at hkI hw1
          have HXI := Lib.hid hxI
          rw [hxI]
          clear hx hxI
          generalize hb x = bv at *
          cases bv
          case true =>
            have HF2 : Hid (freeN hb (t + 1) = freeN hb t) := Lib.hid (by have := HF1.out; simpa using this)
            clear HF1
            go_wp2_with fail
            go_roundw
            case rel => exact ⟨t + 1, A', c', n', by omega, by go_num, rfl, Lib.hid (by rw [HF2.out]; exact HL.out), Lib.hid (by rw [HF2.out]; exact HO.out), HB, HNE, HQ⟩
            case measure => have hxi := HXI.out; simp [intOf]; omega
          case false =>
            have HF2 : Hid (freeN hb (t + 1) = freeN hb t ++ [x]) := Lib.hid (by have := HF1.out; simpa using this)
            clear HF1
            have hnu : nums .i64 [x] = #[.int .i64 (x : Int)] := by simp [nums]
            have hg : Holds (X.alloc (.cells #[.int .i64 (x : Int)] 3)) X.heap.size 3 (nums .i64 [x]) := by rw [hnu]; exact Holds.fresh _ _ _
            have HG := Lib.hid hg
            have HO2 : Hid (Own .i64 3 (X.alloc (.cells #[.int .i64 (x : Int)] 3)) w.heap.size A' c' (freeN hb t)) := Lib.hid (HO.out.alloc _)
            have HQ2 : Hid (Below w.heap.size w (X.alloc (.cells #[.int .i64 (x : Int)] 3))) := Lib.hid (HQ.out.alloc HQ.out.size _)
            have HB2 : Hid (Holds (X.alloc (.cells #[.int .i64 (x : Int)] 3)) g1 4 (bits m f)) := Lib.hid (HB.out.alloc _)
            have HAB : Hid (∀ g, blockOf A' = some g → w.heap.size ≤ g) := Lib.hid fun g hg => (HO.out.block hg).1
            have HGL : Hid (g1 < (X.alloc (.cells #[.int .i64 (x : Int)] 3)).heap.size) := Lib.hid HB2.out.lt
            clear hnu hg
            go_wp2_with (first | (refine wpList_push _ rfl (.tmp 46) (.tmp 48) 23 rfl .i64 w.heap.size 3 8 Try.underlying23 info_int A' n' c' (freeN hb t) rfl HL.out HO2.out X.heap.size 1 1 [x] rfl rfl HG.out (by omega) (by omega) (by omega) HQ2.out.size ?_; intro g5 c5 W5 ho5 hgr5 hat5) | fail)
            have HQ5 : Hid (Below w.heap.size w W5) := Lib.hid (HQ2.out.trans ⟨hgr5.os, hgr5.tape, hgr5.output, hgr5.size, fun g hg => hgr5.block g (Nat.lt_of_lt_of_le hg HQ2.out.size) (fun e => by have := HAB.out g e.symm; omega)⟩)
            have HB5 : Hid (Holds W5 g1 4 (bits m f)) := Lib.hid (HB2.out.grown hgr5 (fun e => HNE.out g1 e.symm rfl))
            have HN5 : Hid (∀ g, blockOf (some (⟨g5, 0, none⟩ : Addr)) = some g → g ≠ g1) := Lib.hid (fun g hg => by
              obtain rfl : g5 = g := by simpa [blockOf] using hg
              rcases hat5 with h | h
              · exact HNE.out _ h
              · have := HGL.out; omega)
            have HO5 := Lib.hid ho5
            clear ho5 hgr5 hat5
            go_wp2_with fail
            go_roundw
            case rel => exact ⟨t + 1, _, _, n' + 1, by omega, by go_num, rfl, Lib.hid (by rw [HF2.out, List.length_append, HL.out]; rfl), Lib.hid (by rw [HF2.out]; exact HO5.out), HB5, HN5, HQ5⟩
            case measure => have hxi := HXI.out; simp [intOf]; omega
        case neg =>
          obtain rfl : t = m - 40 := by omega
          have hkI : decide (40 + ((m - 40 : Nat) : Int) < (m : Int)) = false := decide_eq_false (by omega)
          go_wp2_with fail
          go_ret
          exact ⟨A', c', n', rfl, HL.out, HO.out, HQ.out⟩
end Go.Proofs.Ytkfokgkehlcikaa
