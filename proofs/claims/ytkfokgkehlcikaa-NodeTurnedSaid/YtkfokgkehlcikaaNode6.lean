/-
  A node's block: by the program.
-/
import Derived.Test.YtkfokgkehlcikaaNode5
import Derived.Deep.RegionLaw
import Derived.Deep.DrawnRows
namespace Go.Proofs.Ytkfokgkehlcikaa
open Go.RowKit
set_option linter.unusedVariables false
attribute [local go_sem ↓] Go.wp_at_zero Go.wp_at_succ

theorem info_u8 : (Try.prog.info? 5).map (fun i => (i.zero, i.size, i.bytes)) = some (some (.int .u8 0), 1, 1) := by kernel_rfl
theorem size_u8 (w : World) : (Go.sizeOf 5).run Try.prog w = .ok 1 w := by
  obtain ⟨i0, hi, hz0, hz1, hz2⟩ := info_parts info_u8
  exact (run_sizeOf w hi).trans (by kernel_rfl)
theorem make_bytes (z : Int) (n : Nat) (hz : z = n) (hn : n ≤ 1000000) (W : World) : (Instr.makeSlice 22 (.int .i64 z) (.int .i64 z)).run Try.prog W = .ok (.slice (some ⟨W.heap.size, 0, none⟩) n n) (W.alloc (.cells (nums .u8 (List.replicate n 0)) 5)) := by
  obtain ⟨i0, hi, hz0, hz1, hz2⟩ := info_parts info_u8
  have h := run_make (P := Try.prog) W 22 5 i0 (.int .u8 0) Try.underlying22 hi hz0 .i64 .i64 (n : Int) (n : Int) (by omega) (by omega) (by rw [hz2]; omega) (by omega)
  rw [hz, h, hz1, nums_noughts]
  simp [Value.cells]

theorem put_at (w : World) (g c n : Nat) (L : List Nat) (hn : L.length = n) (hR : Row .u8 5 w g L) (hnc : n ≤ c) (hc : c ≤ 9223372036854775807) (i : Nat) (hi : i + 1 < n) (I : Int) (hI : I = i) (v : Nat) (hv : v ≤ 65535) :
    Calls Try.prog 34 #[.slice (some ⟨g, 0, none⟩) n c, .int .i64 I, .int .i64 v] w fun e w' => e = .returned (.tuple #[]) ∧ Row .u8 5 w' g (put2 L i v) ∧ w.grownBy w' (some g) := by
  subst hI
  exact put_any w g c n L hn hR hnc hc i hi v hv

def RelB (s : ByteArray) (z : Nat) (p : List Nat) (w : World) (g n : Nat) (A : Option Addr) (c B : Nat) (i : Value) (wr : World) : Prop :=
  ∃ (k : Nat) (L : List Nat), k ≤ n ∧ i = .int .i64 k ∧ Row .u8 5 wr g L ∧ L.length = 64 ∧ Hid (∀ i, i < 64 → L.getD i 0 = encAt s z (p.take k) i) ∧ Rd .i64 wr B A c p ∧ Below w.heap.size w wr

set_option maxRecDepth 100000 in
set_option maxHeartbeats 4000000 in
theorem bytes_none (w : World) (s : ByteArray) (hs : s.size ≤ 9223372036854775807) (z : Int) (hz : z ≤ 9223372036854775807) (B : Nat) (A : Option Addr) (c n : Nat) (l : List Int) (hn : l.length = n) (hr : RdI .i64 w B A c l) (hB : B ≤ w.heap.size) (hno : ¬ NodeOk s z l) :
    Calls Try.prog 16 #[.agg #[.string s, .int .i64 z, .slice A n c]] w fun e w' => e = .returned (.slice none 0 0) ∧ Below w.heap.size w w' := by
  have hrb := hr.alloc hB (.cells #[.string s, .int .i64 z, .slice A n c] 25)
  have hbel : Below w.heap.size w (w.alloc (.cells #[.string s, .int .i64 z, .slice A n c] 25)) := (Below.refl _ _).alloc (Nat.le_refl _) _
  go_enter Try.func16, Try.ntmps16
  go_wp2_with fail
  refine (is_any _ s hs z hz B A c n l hn hrb (by simp; omega) false ⟨(fun e => by cases e), fun h => absurd h hno⟩).mono ?_
  rintro e w1 ⟨rfl, hb1⟩
  go_wp2_with fail
  go_ret
  exact ⟨rfl, hbel.trans (hb1.mono (by simp))⟩

set_option maxRecDepth 100000 in
set_option maxHeartbeats 4000000 in
theorem bytes_some (w : World) (s : ByteArray) (z : Nat) (B : Nat) (A : Option Addr) (c n : Nat) (p : List Nat) (hn : p.length = n) (hr : Rd .i64 w B A c p) (hB : B ≤ w.heap.size) (hok : NodeOk s z (p.map fun x : Nat => (x : Int))) (hp : ∀ x ∈ p, x ≤ 65535) :
    Calls Try.prog 16 #[.agg #[.string s, .int .i64 z, .slice A n c]] w fun e w' => ∃ g, e = .returned (.slice (some ⟨g, 0, none⟩) 64 64) ∧ w.heap.size ≤ g ∧ Row .u8 5 w' g (enc s z p) ∧ Below w.heap.size w w' := by
  have hz := hok.z600
  have hs40 := hok.name.high
  have hrb := hr.alloc hB (.cells #[.string s, .int .i64 z, .slice A n c] 25)
  have hbel : Below w.heap.size w (w.alloc (.cells #[.string s, .int .i64 z, .slice A n c] 25)) := (Below.refl _ _).alloc (Nat.le_refl _) _
  have hbox := Holds.fresh w 25 #[.string s, .int .i64 z, .slice A n c]
  have hn10 : n ≤ 10 := by have h1 := hok.len; have h2 := needI_le hz; simp at h1; omega
  have HOK := Lib.hid hok
  have HP := Lib.hid hp
  have HN := Lib.hid hn
  clear hok hp
  go_enter Try.func16, Try.ntmps16
  go_wp2_with fail
  refine (is_any _ s (by omega) z (by omega) B A c n _ (by rw [List.length_map]; exact HN.out) (RdI.of_rd hrb) (by simp; omega) true ⟨fun _ => HOK.out, fun _ => rfl⟩).mono ?_
  rintro e w1 ⟨rfl, hb1⟩
  have hbox1 := hbox.under hb1 (by simp)
  have hr1 := hrb.under (hb1.mono (by simp; omega))
  have hbel1 := hbel.trans (hb1.mono (by simp))
  have hlt1 := hbox1.lt
  clear hrb hbel hbox hb1 hr hn
  have hcb0 : w1.cell? ⟨w.heap.size, 0, none⟩ = some (.string s) := hbox1.cell 0
  have hcb1 : w1.cell? ⟨w.heap.size, 1, none⟩ = some (.int .i64 z) := hbox1.cell 1
  have hcb2 : w1.cell? ⟨w.heap.size, 2, none⟩ = some (.slice A n c) := hbox1.cell 2
  obtain ⟨R, hR0⟩ : ∃ R, R = List.replicate 64 0 := ⟨_, rfl⟩
  have hmk := make_bytes 64 64 rfl (by omega) w1
  rw [← hR0] at hmk
  have hRl : R.length = 64 := by rw [hR0, List.length_replicate]
  have HR0 := Lib.hid hR0
  clear hR0
  have hrow : Row .u8 5 (w1.alloc (.cells (nums .u8 R) 5)) w1.heap.size R := Holds.fresh w1 5 (nums .u8 R)
  have hc0 := hrow.cell (i := 0) (by omega)
  have hfr0 := hrow.open_ 0
  go_wp2_with fail
  rw [nums_set]
  clear hrow hc0 hfr0 hmk hcb0 hcb1 hcb2
  have hRl1 : (R.set 0 s.size).length = 64 := by rw [List.length_set]; exact hRl
  have HR1 : Hid (R.set 0 s.size = (List.replicate 64 0).set 0 s.size) := Lib.hid (by rw [HR0.out])
  clear hRl
  generalize R.set 0 s.size = R1 at *
  obtain ⟨g, hg⟩ : ∃ g, g = w1.heap.size := ⟨_, rfl⟩
  have hrow := Holds.fresh w1 5 (nums .u8 R1)
  have hbx := hbox1.alloc (.cells (nums .u8 R1) 5)
  have hbel2 := hbel1.alloc (Nat.le_of_lt hlt1) (.cells (nums .u8 R1) 5)
  have hr2 := hr1.alloc (by omega) (.cells (nums .u8 R1) 5)
  rw [← hg] at hrow hlt1 ⊢
  generalize w1.alloc (.cells (nums .u8 R1) 5) = W at *
  clear hg hr1 hbel1 hbox1
  have hrow' : Row .u8 5 W g R1 := hrow
  have hcx0 : W.cell? ⟨w.heap.size, 0, none⟩ = some (.string s) := hbx.cell 0
  have hcl : ∀ j, j < s.size → (W.cell? ⟨g, 1 + j, none⟩).isSome = true := fun j hj => by rw [hrow'.cell (by omega)]; rfl
  have hfr : ∀ j, j < s.size → W.frozen? ⟨g, 1 + j, none⟩ = false := fun j _ => hrow'.open_ _
  go_region_law (refine step_copy_string rfl (.tmp 17) (.tmp 19) 22 9 rfl 5 Try.underlying22 size_u8 g 1 63 63 rfl s rfl (by omega) hcl hfr ?_)
  have hcs := Row.cells s.data.toList 1 (show Row .u8 5 W.drew g R1 from hrow') (World.grownBy.refl W.drew (some g))
  have hbx3 : Holds (W.drew.setCells g 1 (List.map (fun x => Value.int IntKind.u8 ↑x.toNat) s.data.toList)) w.heap.size 25 #[.string s, .int .i64 z, .slice A n c] := hbx.drew.grown hcs.2 (by intro e; injection e; omega)
  have hb3 : Below w.heap.size w (W.drew.setCells g 1 (List.map (fun x => Value.int IntKind.u8 ↑x.toNat) s.data.toList)) := hbel2.trans ((show Below w.heap.size W W.drew from below_drewN (Below.refl _ _) 1).trans (one_below hcs.2 (by omega) hbel2.size))
  have hr3 : Rd .i64 (W.drew.setCells g 1 (List.map (fun x => Value.int IntKind.u8 ↑x.toNat) s.data.toList)) B A c p := hr2.under ((show Below B W W.drew from below_drewN (Below.refl _ _) 1).trans (one_below hcs.2 (by omega) (Nat.le_trans hB hbel2.size)))
  have hrow3 := hcs.1
  clear hcs hbx hbel2 hr2 hrow hrow' hcx0 hcl hfr
  generalize W.drew.setCells g 1 (List.map (fun x => Value.int IntKind.u8 ↑x.toNat) s.data.toList) = W3 at *
  have hcy1 : W3.cell? ⟨w.heap.size, 1, none⟩ = some (.int .i64 z) := hbx3.cell 1
  have hl3 : (over R1 1 s.data.toList).length = 64 := by rw [over_length]; exact hRl1
  go_wp2_with fail
  refine (put_any W3 g 64 64 _ hl3 hrow3 (by omega) (by omega) 41 (by omega) z (by omega)).mono ?_
  rintro e w4 ⟨rfl, hrow4, hg4⟩
  have hbx4 := hbx3.grown hg4 (by intro e; injection e; omega)
  have hb4 := hb3.trans (one_below hg4 (Nat.le_of_lt hlt1) hb3.size)
  have hr4 := hr3.under (one_below hg4 (by omega) (Nat.le_trans hB hb3.size))
  have HH := Lib.hid (enc_head (z := z) hs40 (show put2 (over R1 1 s.data.toList) 41 z = _ by rw [HR1.out]))
  generalize put2 (over R1 1 s.data.toList) 41 z = L4 at *
  clear hb3 hr3 hbx3 hrow3 hcy1 hl3
  have hcz2 : w4.cell? ⟨w.heap.size, 2, none⟩ = some (.slice A n c) := hbx4.cell 2
  have hlc := hr4.1
  have hc63 := hr4.2.1
  go_wp2_with fail
  go_loopw [4, 5, 28] (fun _ _ i wr => RelB s z p w g n A c B i wr) (fun _ _ i _ => n - (intOf i).toNat)
  case atStart => exact ⟨0, L4, Nat.zero_le _, rfl, hrow4, HH.out.1, Lib.hid (HH.out.2 p), hr4, hb4⟩
  case round =>
    clear hcz2 hbx4 hb4 hr4 hrow4
    obtain ⟨k, L, hk, rfl, hrowk, hLk, HL, hrk, hbk⟩ := hrel
    obtain ⟨W5, hW5⟩ : ∃ W, W = wr := ⟨_, rfl⟩
    subst hW5
    by_cases hkn : k < n
    case neg =>
      obtain rfl : k = n := by omega
      have hf : decide ((k : Int) < (k : Int)) = false := decide_eq_false (by omega)
      have hf2 : decide (k < k) = false := decide_eq_false (by omega)
      have HE := Lib.hid (enc_is hLk (fun i hi => (HL.out i hi).trans (by rw [List.take_of_length_le (by have := HN.out; omega)])))
      go_wp2_with fail
      go_ret
      exact ⟨g, rfl, Nat.le_of_lt hlt1, by rw [← HE.out]; exact hrowk, hbk⟩
    case pos =>
    obtain ⟨b, off, x, rfl, hb, hx, Hx⟩ := hrk.at_ (i := k) (by have := HN.out; omega)
    have hk0 : (0 : Int) ≤ (k : Int) := by omega
    have hkI : (k : Int) < (n : Int) := by omega
    have hx16 : x ≤ 65535 := by
      rw [Hx.out]
      have h' : k < p.length := by have := HN.out; omega
      simpa [List.getD, h'] using HP.out _ (List.getElem_mem h')
    go_wp2_with fail
    refine (put_at W5 g 64 64 L hLk hrowk (by omega) (by omega) (43 + 2 * k) (by omega) _ (by push_cast; first | rfl | omega) x hx16).mono ?_
    rintro e w6 ⟨rfl, hrow6, hg6⟩
    have HS := Lib.hid (enc_step (p := p) hLk (by have := HN.out; omega) (by have := HN.out; omega) HL.out)
    rw [← Hx.out] at HS
    have hb6 := hbk.trans (one_below hg6 (Nat.le_of_lt hlt1) hbk.size)
    have hr6 := hrk.under (one_below hg6 (by omega) (Nat.le_trans hB hbk.size))
    go_wp2_with fail
    go_roundw
    case rel => exact ⟨k + 1, _, by omega, by go_num, hrow6, by rw [put2_length]; exact hLk, HS, hr6, hb6⟩
    case measure => simp [intOf]; omega
end Go.Proofs.Ytkfokgkehlcikaa
