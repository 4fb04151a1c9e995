/-
  Many sectors at once: may writes be.
-/
import Derived.Test.YtkmbgbbmhpidkaaJr4
namespace Go.Proofs.Ytkmbgbbmhpidkaa
open Go.RowKit
set_option linter.unusedVariables false
set_option linter.unusedSimpArgs false
attribute [local go_sem ↓] Go.wp_at_zero Go.wp_at_succ

/-- Truths of the first m numbers. -/
def bits (m : Nat) (f : Nat → Bool) : Array Value := ((List.range m).map fun x => Value.bool (f x)).toArray
theorem bits_size (m : Nat) (f : Nat → Bool) : (bits m f).size = m := by simp [bits]
theorem bits_at {m : Nat} (f : Nat → Bool) {i : Nat} (h : i < m) : (bits m f)[i]? = some (.bool (f i)) := by simp [bits, h]
theorem bits_set {m : Nat} (f : Nat → Bool) {i : Nat} (h : i < m) : (bits m f).setIfInBounds i (.bool true) = bits m (fun x => x == i || f x) := by
  apply Array.ext'
  simp only [bits, Array.toList_setIfInBounds]
  apply List.ext_getElem
  · simp
  · intro j h1 h2
    by_cases e : j = i
    · subst e; simp
    · rw [List.getElem_set_ne (by omega)]
      simp [e]
theorem bits_made (m : Nat) : madeCells #[.bool false] m = bits m (fun _ => false) := by
  apply Array.ext'
  simp only [bits, madeCells]
  apply List.ext_getElem <;> simp [Nat.mod_one]
theorem make_bits (n : Nat) (h2 : n ≤ 2000) (W : World) : (Instr.makeSlice 28 (.int .i64 (n : Int)) (.int .i64 (n : Int))).run Try.prog W = .ok (.slice (some ⟨W.heap.size, 0, none⟩) n n) (W.alloc (.cells (bits n fun _ => false) 4)) := by
  obtain ⟨i, hi, hz, hsize, hbytes⟩ := info_parts info_bool
  have h := run_make (P := Try.prog) W 28 4 i (.bool false) Try.underlying28 hi hz .i64 .i64 n n (by omega) (Int.le_refl _) (by rw [hbytes]; omega) (by omega)
  rw [h, hsize, Nat.mul_one, Int.toNat_natCast]
  rw [show (Value.bool false).cells = #[.bool false] from rfl, bits_made]

def GoodJ (m : Nat) (p : Int × List Nat) : Prop := 0 ≤ p.1 ∧ p.1 < (m : Int) ∧ p.2.length = 64
structure FiSt (w : World) (m : Nat) (L : List (Int × List Nat)) (k : Nat) (f : Nat → Bool) (wr : World) : Prop where
  had : ∀ j, j < m → (f j = true ↔ (j : Int) ∈ (L.take k).map (·.1))
  good : ∀ p ∈ L.take k, GoodJ m p
  nodup : ((L.take k).map (·.1)).Nodup
  row : Holds wr w.heap.size 4 (bits m f)
  bel : Below w.heap.size w wr
def RelFi (w : World) (m : Nat) (L : List (Int × List Nat)) (n : Nat) (i : Value) (wr : World) : Prop :=
  ∃ (k : Nat) (f : Nat → Bool), k ≤ n ∧ i = .int .i64 k ∧ FiSt w m L k f wr
theorem mayJ_no {m k : Nat} {L : List (Int × List Nat)} {p : Int × List Nat} (h : L[k]? = some p) (hb : ¬ GoodJ m p) : mayJ m L = false := by
  unfold mayJ
  exact decide_eq_false fun hh => hb (hh.1 p (List.mem_of_getElem? h))
theorem mayJ_two {m k : Nat} {L : List (Int × List Nat)} {p : Int × List Nat} (h : L[k]? = some p) (hb : p.1 ∈ (L.take k).map (·.1)) : mayJ m L = false := by
  unfold mayJ
  refine decide_eq_false fun hh => ?_
  have h1 := hh.2
  rw [split_at h, List.map_append, List.nodup_append] at h1
  exact h1.2.2 p.1 hb p.1 (by simp) rfl
section
variable {w : World} {F : Nat → Prop} {gd : Nat} {s : Dk}
set_option maxRecDepth 100000 in
set_option maxHeartbeats 4000000 in
theorem fit_any (h : Disk w F gd s) (A : Option Addr) (c n : Nat) (l : List Wr) (hl : l.length = n) (hr : RdWr A c l w) (hn : n ≤ 100000) :
    Calls Try.prog 32 #[.pointer (some ⟨gd, 0, none⟩), .slice A n c] w fun e w' => e = .returned (.bool (mayJ s.many (wv l))) ∧ Below w.heap.size w w' := by
  obtain ⟨L, hL⟩ : ∃ L, L = wv l := ⟨_, rfl⟩
  rw [← hL]
  have HM := Lib.hid (jmany h)
  have hm2 : s.many ≤ 2000 := by have := h.len.2.2; unfold Dk.many; omega
  generalize s.many = m at *
  obtain ⟨r, hr0⟩ : ∃ r, r = mayJ m L := ⟨_, rfl⟩
  rw [← hr0]
  have HRR := Lib.hid hr0
  have HLn : Hid (L.length = n) := Lib.hid (by rw [hL, wv_length, hl])
  have HAT : Hid (∀ k, k < n → L[k]? = some ((l.getD k default).at_, (l.getD k default).d)) := Lib.hid fun k hk => by rw [hL]; exact wv_at (by omega)
  have HR := Lib.hid hr
  have HL := Lib.hid hl
  have hnc : n ≤ c := by have := hr.1; omega
  have hc63 := hr.2.1
  have hmb := make_bits m hm2
  have HST : Hid (FiSt w m L 0 (fun _ => false) (w.alloc (.cells (bits m fun _ => false) 4))) := Lib.hid ⟨fun j _ => by simp, fun p hp => by simp at hp, by simp, Holds.fresh _ _ _, (Below.refl _ _).alloc (Nat.le_refl _) _⟩
  clear h hr hr0 hl hL
  go_enter Try.func32, Try.ntmps32
  go_wp2_with (first | (refine HM.out.mono ?_; rintro e w1 ⟨rfl, rfl⟩) | fail)
  clear hmb HM
  generalize w.alloc (.cells (bits m fun _ => false) 4) = W0 at *
  go_loopw [13] (fun i wr => RelFi w m L n i wr) (fun i _ => n - (intOf i).toNat)
  case atStart => exact ⟨0, _, Nat.zero_le _, rfl, HST.out⟩
  case round =>
    obtain ⟨k, f, hk, rfl, hst⟩ := hrel
    obtain ⟨V, hV⟩ : ∃ V, V = wr := ⟨_, rfl⟩
    subst hV
    have HS := Lib.hid hst
    clear hst HST
    by_cases hlt : k < n
    case pos =>
      have hkI : (k : Int) < (n : Int) := by omega
      have hk0 : (0 : Int) ≤ (k : Int) := by omega
      obtain ⟨b, off, rfl, hb, hc0, hc1, hrd⟩ := (HR.out.under HS.out.bel).at_ (j := k) (by rw [HL.out]; exact hlt)
      have HLk := Lib.hid (HAT.out k hlt)
      obtain ⟨x, hx⟩ : ∃ x, x = l.getD k default := ⟨_, rfl⟩
      rw [← hx] at hc0 hc1 HLk
      clear hrd hx
      obtain ⟨xa, da, dc, xd⟩ := x
      dsimp only at *
      obtain ⟨dn, hdn⟩ : ∃ d, xd.length = d := ⟨_, rfl⟩
      rw [hdn] at hc1
      have HDN := Lib.hid hdn
      have hbv : Below V.heap.size V (V.alloc (.cells #[.int .i64 xa, .slice da dn dc] 42)) := (Below.refl _ _).alloc (Nat.le_refl _) _
      have hh := Holds.fresh V 42 #[.int .i64 xa, .slice da dn dc]
      have z0 := hh.cell 0
      have z1 := hh.cell 1
      have hkw : IntKind.i64.wrap ((k : Int) + 1) = (k : Int) + 1 := IntWalk.i64_in _ (by omega)
      have HBV := Lib.hid (HS.out.bel.trans (hbv.mono HS.out.bel.size))
      have hrow := HS.out.row.under hbv HS.out.row.lt
      clear hh hbv hdn
      by_cases h0 : xa < 0
      · have d0 : decide (xa < 0) = true := decide_eq_true h0
        have HE : Hid (r = false) := Lib.hid (by rw [HRR.out]; exact mayJ_no HLk.out (fun h => by have := h.1; dsimp only at this; omega))
        go_wp2_with fail
        go_ret
        rw [HE.out]
        exact ⟨rfl, HBV.out⟩
      have d0 : decide (xa < 0) = false := decide_eq_false h0
      obtain ⟨x, rfl⟩ : ∃ x : Nat, xa = (x : Int) := ⟨xa.toNat, by omega⟩
      by_cases h1 : m ≤ x
      · have d1 : decide ((m : Int) ≤ (x : Int)) = true := decide_eq_true (by omega)
        have HE : Hid (r = false) := Lib.hid (by rw [HRR.out]; exact mayJ_no HLk.out (fun h => by have := h.2.1; dsimp only at this; omega))
        go_wp2_with fail
        go_ret
        rw [HE.out]
        exact ⟨rfl, HBV.out⟩
      have d1 : decide ((m : Int) ≤ (x : Int)) = false := decide_eq_false (by omega)
      have hxm : x < m := by omega
      by_cases h2 : dn = 64
      case neg =>
        have d2 : ((dn : Int) == 64) = false := by rw [beq_eq_false_iff_ne]; omega
        have d2' : ((dn : Int) != 64) = true := by rw [bne, d2]; rfl
        have HE : Hid (r = false) := Lib.hid (by rw [HRR.out]; exact mayJ_no HLk.out (fun h => h2 (by rw [← HDN.out]; exact h.2.2)))
        go_wp2_with fail
        go_ret
        rw [HE.out]
        exact ⟨rfl, HBV.out⟩
      subst h2
      have hbc := (hrow.cell x).trans (bits_at f hxm)
      have hbf := hrow.open_ x
      have hxI : (x : Int) < (m : Int) := by omega
      have hx0 : (0 : Int) ≤ (x : Int) := by omega
      rcases hfx : f x with _ | _
      case true =>
        rw [hfx] at hbc
        have HE : Hid (r = false) := Lib.hid (by rw [HRR.out]; exact mayJ_two HLk.out ((HS.out.had x hxm).1 hfx))
        go_wp2_with fail
        go_ret
        rw [HE.out]
        exact ⟨rfl, HBV.out⟩
      rw [hfx] at hbc
      have HN : Hid (FiSt w m L (k + 1) (fun y => y == x || f y) ((V.alloc (.cells #[.int .i64 (x : Int), .slice da 64 dc] 42)).setCell ⟨w.heap.size, x, none⟩ (.bool true))) := Lib.hid (by
        have e := take_snocJ HLk.out
        refine ⟨fun j hj => ?_, fun p hp => ?_, ?_, ?_, HBV.out.setCell (p := ⟨w.heap.size, x, none⟩) (Nat.le_refl _) _⟩
        · rw [e, List.map_append]
          simp only [Bool.or_eq_true, beq_iff_eq, List.map_cons, List.map_nil, List.mem_append, List.mem_singleton, HS.out.had j hj]
          constructor
          · rintro (rfl | h)
            · exact .inr rfl
            · exact .inl h
          · rintro (h | h)
            · exact .inr h
            · exact .inl (by omega)
        · rw [e] at hp
          rcases List.mem_append.1 hp with hp | hp
          · exact HS.out.good p hp
          · rw [List.mem_singleton.1 hp]
            exact ⟨hx0, hxI, HDN.out⟩
        · rw [e, List.map_append, List.nodup_append]
          refine ⟨HS.out.nodup, by simp, fun a ha b hb => ?_⟩
          simp only [List.map_cons, List.map_nil, List.mem_singleton] at hb
          subst hb
          rintro rfl
          have := (HS.out.had x hxm).2 ha
          rw [hfx] at this
          cases this
        · rw [← bits_set f hxm]
          exact hrow.stored x _)
      clear hrow HBV
      go_wp2_with fail
      go_roundw
      case rel => exact ⟨k + 1, _, by omega, by go_num, HN.out⟩
      case measure => simp [intOf]; omega
    case neg =>
      obtain rfl : k = n := by omega
      have hkI : ¬ ((k : Int) < (k : Int)) := by omega
      have HE : Hid (r = true) := Lib.hid (by
        have h1 := HS.out.good
        have h2 := HS.out.nodup
        rw [List.take_of_length_le (by rw [HLn.out]; exact Nat.le_refl _)] at h1 h2
        rw [HRR.out]
        exact decide_eq_true ⟨h1, h2⟩)
      go_wp2_with fail
      go_ret
      rw [HE.out]
      exact ⟨rfl, HS.out.bel⟩
end
end Go.Proofs.Ytkmbgbbmhpidkaa
