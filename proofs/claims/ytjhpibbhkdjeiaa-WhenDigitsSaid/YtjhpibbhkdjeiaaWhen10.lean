/-
  Two digits each read.
-/
import Derived.Test.YtjhpibbhkdjeiaaWhen9
import Derived.IntWalk
namespace Go.Proofs.Ytjhpibbhkdjeiaa
open Go.RowKit
set_option linter.unusedVariables false
attribute [local go_sem ↓] Go.wp_at_zero Go.wp_at_succ

theorem info_i64 : (Try.prog.info? 3).map (fun i => (i.zero, i.size, i.bytes)) = some (some (.int .i64 0), 1, 8) := by kernel_rfl

/-- A decimal digit. -/
def IsDig (x : Nat) : Prop := 48 ≤ x ∧ x ≤ 57
/-- Pairs of digits and a Z. -/
structure Good (b : List Nat) : Prop where
  odd : b.length % 2 = 1
  len : b.length ≤ 15
  z : b.getD (b.length - 1) 0 = 90
  dig : ∀ i, i + 1 < b.length → IsDig (b.getD i 0)
def pv (b : List Nat) (i : Nat) : Nat := (b.getD (2*i) 0 - 48) * 10 + (b.getD (2*i+1) 0 - 48)
def pvs (b : List Nat) (k : Nat) : List Nat := (List.range k).map (pv b)
theorem pvs_length (b : List Nat) (k : Nat) : (pvs b k).length = k := by simp [pvs]
theorem pvs_at (b : List Nat) {k j : Nat} (h : j < k) : (pvs b k).getD j 0 = pv b j := by simp [pvs, List.getD, h]
theorem pvs_next (b : List Nat) (k : Nat) : pvs b (k+1) = pvs b k ++ [pv b k] := by simp [pvs, List.range_succ]

def PairsPost (w : World) (b : List Nat) (e : Ending) (w' : World) : Prop :=
  (Good b ∧ ∃ A c, e = .returned (.tuple #[.slice A ((b.length - 1) / 2) c, .bool true]) ∧ Rd .i64 w' w'.heap.size A c (pvs b ((b.length - 1) / 2)) ∧ Below w.heap.size w w') ∨
  (¬ Good b ∧ e = .returned (.tuple #[.slice none 0 0, .bool false]) ∧ Below w.heap.size w w')

/-- What holds at each round's head. -/
def AtPair (w : World) (b : List Nat) (v s : Value) (W : World) : Prop :=
  ∃ (k c : Nat) (A : Option Addr), v = .int .i64 ((2 * k : Nat) : Int) ∧ s = .slice A k c ∧ 2 * k < b.length ∧ (∀ i, i < 2 * k → IsDig (b.getD i 0)) ∧ Own .i64 3 W w.heap.size A c (pvs b k) ∧ Below w.heap.size w W

set_option maxRecDepth 100000 in
set_option maxHeartbeats 4000000 in
theorem pairs_any (w : World) (B : Nat) (A : Option Addr) (c n : Nat) (b : List Nat) (hn : b.length = n) (hr : Rd .u8 w B A c b) (hB : B ≤ w.heap.size) (ho : Oct8 b) :
    Calls Try.prog 21 #[.slice A n c] w (PairsPost w b) := by
  have hc1 := hr.1
  have hc2 := hr.2.1
  by_cases hodd : b.length % 2 = 1
  case neg =>
    have hq : ((n : Int) % 2 == 0) = true := by rw [beq_iff_eq]; omega
    have HN := Lib.hid (fun g : Good b => hodd g.odd)
    clear hodd hn
    go_enter Try.func21, Try.ntmps21
    go_wp2_with fail
    go_ret2
    exact .inr ⟨HN.out, rfl, Below.refl _ _⟩
  case pos =>
  have hq : ((n : Int) % 2 == 0) = false := by rw [beq_eq_false_iff_ne]; omega
  by_cases hlen : b.length ≤ 15
  case neg =>
    have hq2 : decide ((15 : Int) < (n : Int)) = true := decide_eq_true (by omega)
    have hq2' : decide (15 < n) = true := decide_eq_true (by omega)
    have hq2'' : 15 < n := by omega
    have HN := Lib.hid (fun g : Good b => hlen g.len)
    clear hodd hn hlen
    go_enter Try.func21, Try.ntmps21
    go_wp2_with fail
    go_ret2
    exact .inr ⟨HN.out, rfl, Below.refl _ _⟩
  case pos =>
  have hq2 : decide ((15 : Int) < (n : Int)) = false := decide_eq_false (by omega)
  obtain ⟨m, rfl⟩ : ∃ m, n = m + 1 := ⟨n - 1, by omega⟩
  obtain ⟨bl, off, z, rfl, hbl, hz, Hz⟩ := hr.at_ (i := m) (by omega)
  have hq : (((m : Int) + 1) % 2 == 0) = false := by rw [beq_eq_false_iff_ne]; omega
  have hq2 : decide ((15 : Int) < (m : Int) + 1) = false := decide_eq_false (by omega)
  have hm0 : (0 : Int) ≤ (m : Int) := by omega
  have hm14 : m ≤ 14 := by omega
  have hm1 : (m : Int) < (m : Int) + 1 := by omega
  have hms : ((m : Int) + 1) - 1 = (m : Int) := by omega
  have hz256 : z < 256 := by rw [Hz.out]; exact ho _ (by rw [List.getD, List.getElem?_eq_getElem (by omega)]; exact List.getElem_mem _)
  by_cases hZ : z = 90
  case neg =>
    have hq3 : ((z : Int) != 90) = true := by rw [bne_iff_ne]; omega
    have HN := Lib.hid (fun g : Good b => hZ (by have := g.z; rw [hn] at this; rw [Hz.out]; exact this))
    clear hodd hn hlen hZ
    go_enter Try.func21, Try.ntmps21
    go_wp2_with fail
    go_ret2
    exact .inr ⟨HN.out, rfl, Below.refl _ _⟩
  case pos =>
  subst hZ
  have hq3 : ((90 : Int) != 90) = false := rfl
  have HB := Lib.hid hn
  have HZ : Hid (b.getD (b.length - 1) 0 = 90) := Lib.hid (by rw [hn]; exact Hz.out.symm)
  have HO := Lib.hid hodd
  have HL := Lib.hid hlen
  clear hn hodd hlen Hz
  go_enter Try.func21, Try.ntmps21
  go_wp2_with fail
  clear hq hq2 hq3
  go_loopw [4, 5] (fun s v wr => AtPair w b v s wr) (fun _ v _ => (m + 1 - intOf v).toNat)
  case atStart => exact ⟨0, 0, none, rfl, rfl, by have := HB.out; omega, fun i hi => by omega, Own.nil _ _ _ _, Below.refl _ _⟩
  case round =>
    obtain ⟨k, c', A', rfl, rfl, hk, hdig, hown, hbel⟩ := hrel
    have HD := Lib.hid hdig
    have HW := Lib.hid hown
    have hle := hbel.size
    have hk2 : (((2 * k : Nat) : Int)) = 2 * (k : Int) := by omega
    rw [hk2]
    have hk0 : (0 : Int) ≤ 2 * (k : Int) := by omega
    have hkm : k ≤ 7 := by have := HB.out; omega
    by_cases hlt : 2 * k < m
    · obtain ⟨_, _, x, e0, _, hx, Hx⟩ := (hr.keep fun b o hb => hbel.cell (p := ⟨b, o, none⟩) (by show b < _; omega)).at_ (i := 2 * k) (by have := HB.out; omega)
      obtain ⟨rfl, rfl⟩ : bl = _ ∧ off = _ := by injection e0 with e0; injection e0 with e1 e2; exact ⟨e1, e2⟩
      clear e0
      obtain ⟨_, _, y, e0, _, hy, Hy⟩ := (hr.keep fun b o hb => hbel.cell (p := ⟨b, o, none⟩) (by show b < _; omega)).at_ (i := 2 * k + 1) (by have := HB.out; omega)
      obtain ⟨rfl, rfl⟩ : bl = _ ∧ off = _ := by injection e0 with e0; injection e0 with e1 e2; exact ⟨e1, e2⟩
      clear e0
      have hx256 : x < 256 := by rw [Hx.out]; exact ho _ (by rw [List.getD, List.getElem?_eq_getElem (by have := HB.out; omega)]; exact List.getElem_mem _)
      have hy256 : y < 256 := by rw [Hy.out]; exact ho _ (by rw [List.getD, List.getElem?_eq_getElem (by have := HB.out; omega)]; exact List.getElem_mem _)
      have hi1 : 2 * (k : Int) < (m : Int) + 1 := by omega
      have hi2 : 2 * (k : Int) + 1 < (m : Int) + 1 := by omega
      have hk1 : (0 : Int) ≤ 2 * (k : Int) + 1 := by omega
      have ht1 : (2 * (k : Int)).toNat = 2 * k := by omega
      have ht2 : (2 * (k : Int) + 1).toNat = 2 * k + 1 := by omega
      by_cases hdx : IsDig x
      case neg =>
        have HN := Lib.hid (fun g : Good b => hdx (by rw [Hx.out]; exact g.dig _ (by have := HB.out; omega)))
        have hdx' : x < 48 ∨ 57 < x := by unfold IsDig at hdx; omega
        clear hdx
        rcases hdx' with h | h
        · have h1 : decide ((x : Int) < 48) = true := decide_eq_true (by omega)
          go_wp2_with fail
          go_ret2
          exact .inr ⟨HN.out, rfl, hbel⟩
        · have h1 : decide ((x : Int) < 48) = false := decide_eq_false (by omega)
          have h2 : decide (57 < (x : Int)) = true := decide_eq_true (by omega)
          go_wp2_with fail
          go_ret2
          exact .inr ⟨HN.out, rfl, hbel⟩
      case pos =>
      have h1 : decide ((x : Int) < 48) = false := decide_eq_false (by have := hdx.1; omega)
      have h2 : decide (57 < (x : Int)) = false := decide_eq_false (by have := hdx.2; omega)
      by_cases hdy : IsDig y
      case neg =>
        have HN := Lib.hid (fun g : Good b => hdy (by rw [Hy.out]; exact g.dig _ (by have := HB.out; have := HO.out; omega)))
        have hdy' : y < 48 ∨ 57 < y := by unfold IsDig at hdy; omega
        clear hdy hdx
        rcases hdy' with h | h
        · have h3 : decide ((y : Int) < 48) = true := decide_eq_true (by omega)
          go_wp2_with fail
          go_ret2
          exact .inr ⟨HN.out, rfl, hbel⟩
        · have h3 : decide ((y : Int) < 48) = false := decide_eq_false (by omega)
          have h4 : decide (57 < (y : Int)) = true := decide_eq_true (by omega)
          go_wp2_with fail
          go_ret2
          exact .inr ⟨HN.out, rfl, hbel⟩
      case pos =>
      have h3 : decide ((y : Int) < 48) = false := decide_eq_false (by have := hdy.1; omega)
      have h4 : decide (57 < (y : Int)) = false := decide_eq_false (by have := hdy.2; omega)
      have hx1 := hdx.1
      have hx2 := hdx.2
      have hy1 := hdy.1
      have hy2 := hdy.2
      have HDX := Lib.hid hdx
      have HDY := Lib.hid hdy
      clear hdx hdy
      obtain ⟨v, Hv⟩ : ∃ v, Hid (v = pv b k) := ⟨_, rfl⟩
      have hv : ((x : Int) - 48) * 10 + ((y : Int) - 48) = (v : Int) := by
        have := Hv.out; unfold pv at this; rw [← Hx.out, ← Hy.out] at this
        omega
      have HH : Hid (Holds (wr.drew.alloc (.cells #[.int .i64 (((x : Int) - 48) * 10 + ((y : Int) - 48))] 3)) wr.heap.size 3 (nums .i64 [v])) := Lib.hid (by rw [hv]; exact Holds.fresh wr.drew _ _)
      have hlen := pvs_length b k
      have HLN := Lib.hid hlen
      clear hv hlen
      go_wp2_with fail
      have hw1 : IntKind.i64.wrap (2 * (k : Int) + 1) = 2 * (k : Int) + 1 := IntWalk.i64_in _ (by omega)
      have hw2 : IntKind.u8.wrap ((x : Int) - 48) = (x : Int) - 48 := IntWalk.u8_in _ (by omega)
      have hw3 : IntKind.u8.wrap ((y : Int) - 48) = (y : Int) - 48 := IntWalk.u8_in _ (by omega)
      have hw4 : IntKind.i64.wrap (((x : Int) - 48) * 10) = ((x : Int) - 48) * 10 := IntWalk.i64_in _ (by omega)
      have hw5 : IntKind.i64.wrap (((x : Int) - 48) * 10 + ((y : Int) - 48)) = ((x : Int) - 48) * 10 + ((y : Int) - 48) := IntWalk.i64_in _ (by omega)
      have hw6 : IntKind.i64.wrap ((x : Int) - 48) = (x : Int) - 48 := IntWalk.i64_in _ (by omega)
      have hw7 : IntKind.i64.wrap ((y : Int) - 48) = (y : Int) - 48 := IntWalk.i64_in _ (by omega)
      go_region_law (refine step_push _ ?_ (.tmp 59) (.tmp 75) 38 ?_ .i64 w.heap.size 3 8 Try.underlying38 info_i64 A' k c' (pvs b k) ?_ HLN.out ?_ wr.heap.size 1 1 [v] ?_ rfl ?_ (by omega) (by omega) (by omega) ?_ ?_; (focus rfl); (focus rfl); (focus rfl); (focus exact Own.alloc HW.out _); (focus rfl); (focus exact HH.out); (focus (simp; omega)); intro g1 c1 w2 ho hg _; have HO2 := Lib.hid ho; have HG2 := Lib.hid hg; clear ho hg)
      all_goals
        clear hw1 hw2 hw3 hw4 hw5 hw6 hw7
        go_wp2_with fail
        go_roundw
        case rel =>
          have hbl2 : Below w.heap.size w w2 := hbel.trans ⟨HG2.out.os, HG2.out.tape, HG2.out.output, Nat.le_trans (by simp) HG2.out.size, fun q hq => (HG2.out.block q (by simp; omega) (fun e => by have := (HW.out.block e.symm).1; omega)).trans (Below.heap_alloc wr.drew _ q (by show q < wr.heap.size; omega))⟩
          refine ⟨k + 1, c1, some ⟨g1, 0, none⟩, by go_num, rfl, by have := HB.out; have := HO.out; omega, fun i hi => ?_, ?_, hbl2⟩
          · rcases Nat.lt_or_ge i (2 * k) with h | h
            · exact HD.out i h
            · have : i = 2 * k ∨ i = 2 * k + 1 := by omega
              rcases this with rfl | rfl
              · rw [← Hx.out]; exact HDX.out
              · rw [← Hy.out]; exact HDY.out
          · rw [pvs_next, ← Hv.out]; exact HO2.out
        case measure => simp [intOf]; omega
    · have hf : decide (2 * (k : Int) + 1 < (m : Int) + 1) = false := decide_eq_false (by omega)
      have hk3 : m = 2 * k := by have := HB.out; omega
      go_wp2_with fail
      go_ret2
      refine .inl ⟨⟨HO.out, HL.out, HZ.out, fun i hi => HD.out i (by have := HB.out; omega)⟩, A', c', ?_, ?_, hbel⟩
      · rw [show (b.length - 1) / 2 = k by have := HB.out; omega]; rfl
      · rw [show (b.length - 1) / 2 = k by have := HB.out; omega]; exact HW.out.rd
end Go.Proofs.Ytjhpibbhkdjeiaa
