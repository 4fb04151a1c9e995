/-
  A node's block: by the document.
-/
import Derived.Test.YtkfokgkehlcikaaNode10
import Derived.BigRegion
namespace Go.Proofs.Ytkfokgkehlcikaa
open Go.RowKit
set_option linter.unusedVariables false
attribute [local go_sem ↓] Go.wp_at_zero Go.wp_at_succ

theorem over_snoc : ∀ (r : List UInt8) (x : UInt8) (L : List Nat) (o : Nat), over L o (r ++ [x]) = (over L o r).set (o + r.length) x.toNat
  | [], x, L, o => rfl
  | y :: r, x, L, o => by
    show over (L.set o y.toNat) (o + 1) (r ++ [x]) = _
    rw [over_snoc r x]
    show _ = (over (L.set o y.toNat) (o + 1) r).set (o + (r.length + 1)) _
    rw [show o + 1 + r.length = o + (r.length + 1) by omega]
theorem over_step (s : ByteArray) (R : List Nat) (k : Nat) (h : k < s.size) : over R 1 (s.data.toList.take (k + 1)) = (over R 1 (s.data.toList.take k)).set (1 + k) s[k].toNat := by
  have hl : s.data.toList.length = s.size := by simp
  rw [List.take_add_one, List.getElem?_eq_getElem (by omega)]
  simp only [Option.toList]
  rw [over_snoc]
  have e : (s.data.toList.take k).length = k := by simp; omega
  rw [e]
  rfl

def RelH (s : ByteArray) (z : Nat) (p : List Nat) (w : World) (g n : Nat) (A : Option Addr) (c B : Nat) (R : List Nat) (i : Value) (wr : World) : Prop :=
  ∃ (k : Nat) (L : List Nat), k ≤ s.size ∧ i = .int .i64 k ∧ Row .u8 5 wr g L ∧ L.length = 64 ∧ Hid (L = over R 1 (s.data.toList.take k)) ∧ Holds wr w.heap.size 28 #[.string s, .int .i64 z, .slice A n c] ∧ Rd .i64 wr B A c p ∧ Below w.heap.size w wr
def RelP (s : ByteArray) (z : Nat) (p : List Nat) (w : World) (g n : Nat) (A : Option Addr) (c B : Nat) (i : Value) (wr : World) : Prop :=
  ∃ (k : Nat) (L : List Nat), k ≤ n ∧ i = .int .i64 k ∧ Row .u8 5 wr g L ∧ L.length = 64 ∧ Hid (∀ i, i < 64 → L.getD i 0 = encAt s z (p.take k) i) ∧ Holds wr w.heap.size 28 #[.string s, .int .i64 z, .slice A n c] ∧ Rd .i64 wr B A c p ∧ Below w.heap.size w wr

set_option maxRecDepth 100000 in
set_option maxHeartbeats 4000000 in
theorem bytes'_none (w : World) (s : ByteArray) (hs : s.size ≤ 9223372036854775807) (z : Int) (hz : z ≤ 9223372036854775807) (B : Nat) (A : Option Addr) (c n : Nat) (l : List Int) (hn : l.length = n) (hr : RdI .i64 w B A c l) (hB : B ≤ w.heap.size) (hno : ¬ NodeOk s z l) :
    Calls Try.prog 14 #[.agg #[.string s, .int .i64 z, .slice A n c]] w fun e w' => e = .returned (.slice none 0 0) ∧ Below w.heap.size w w' := by
  have hrb := hr.alloc hB (.cells #[.string s, .int .i64 z, .slice A n c] 28)
  have hbel : Below w.heap.size w (w.alloc (.cells #[.string s, .int .i64 z, .slice A n c] 28)) := (Below.refl _ _).alloc (Nat.le_refl _) _
  go_enter Try.func14, Try.ntmps14
  go_wp2_with fail
  refine (is'_any _ s hs z hz B A c n l hn hrb (by simp; omega) false ⟨(fun e => by cases e), fun h => absurd h hno⟩).mono ?_
  rintro e w1 ⟨rfl, hb1⟩
  go_wp2_with fail
  go_ret
  exact ⟨rfl, hbel.trans (hb1.mono (by simp))⟩

set_option maxRecDepth 100000 in
set_option maxHeartbeats 4000000 in
theorem bytes'_some (w : World) (s : ByteArray) (z : Nat) (B : Nat) (A : Option Addr) (c n : Nat) (p : List Nat) (hn : p.length = n) (hr : Rd .i64 w B A c p) (hB : B ≤ w.heap.size) (hok : NodeOk s z (p.map fun x : Nat => (x : Int))) (hp : ∀ x ∈ p, x ≤ 65535) :
    Calls Try.prog 14 #[.agg #[.string s, .int .i64 z, .slice A n c]] w fun e w' => ∃ g, e = .returned (.slice (some ⟨g, 0, none⟩) 64 64) ∧ w.heap.size ≤ g ∧ Row .u8 5 w' g (enc s z p) ∧ Below w.heap.size w w' := by
  have hz := hok.z600
  have hs40 := hok.name.high
  have hrb := hr.alloc hB (.cells #[.string s, .int .i64 z, .slice A n c] 28)
  have hbel : Below w.heap.size w (w.alloc (.cells #[.string s, .int .i64 z, .slice A n c] 28)) := (Below.refl _ _).alloc (Nat.le_refl _) _
  have hbox := Holds.fresh w 28 #[.string s, .int .i64 z, .slice A n c]
  have hn10 : n ≤ 10 := by have h1 := hok.len; have h2 := needI_le hz; simp at h1; omega
  have HOK := Lib.hid hok
  have HP := Lib.hid hp
  have HN := Lib.hid hn
  clear hok hp
  go_enter Try.func14, Try.ntmps14
  go_wp2_with fail
  refine (is'_any _ s (by omega) z (by omega) B A c n _ (by rw [List.length_map]; exact HN.out) (RdI.of_rd hrb) (by simp; omega) true ⟨fun _ => HOK.out, fun _ => rfl⟩).mono ?_
  rintro e w1 ⟨rfl, hb1⟩
  have hbox1 := hbox.under hb1 (by simp)
  have hr1 := hrb.under (hb1.mono (by simp; omega))
  have hbel1 := hbel.trans (hb1.mono (by simp))
  have hlt1 := hbox1.lt
  clear hrb hbel hbox hb1 hr hn
  have hcb0 : w1.cell? ⟨w.heap.size, 0, none⟩ = some (.string s) := hbox1.cell 0
  obtain ⟨R, hR0⟩ : ∃ R, R = List.replicate 64 0 := ⟨_, rfl⟩
  have hmk := make_bytes 64 64 rfl (by omega) w1
  rw [← hR0] at hmk
  have hRl : R.length = 64 := by rw [hR0, List.length_replicate]
  have HR0 := Lib.hid hR0
  clear hR0
  have hrow : Row .u8 5 (w1.alloc (.cells (nums .u8 R) 5)) w1.heap.size R := Holds.fresh w1 5 (nums .u8 R)
  have hc0 := hrow.cell (i := 0) (by omega)
  have hfr0 := hrow.open_ 0
  go_wp2_with fail
  rw [nums_set]
  clear hrow hc0 hfr0 hmk hcb0
  have hRl1 : (R.set 0 s.size).length = 64 := by rw [List.length_set]; exact hRl
  have HR1 : Hid (R.set 0 s.size = (List.replicate 64 0).set 0 s.size) := Lib.hid (by rw [HR0.out])
  clear hRl
  generalize R.set 0 s.size = R1 at *
  obtain ⟨g, hg⟩ : ∃ g, g = w1.heap.size := ⟨_, rfl⟩
  have hrow := Holds.fresh w1 5 (nums .u8 R1)
  have hbx := hbox1.alloc (.cells (nums .u8 R1) 5)
  have hbel2 := hbel1.alloc (Nat.le_of_lt hlt1) (.cells (nums .u8 R1) 5)
  have hr2 := hr1.alloc (by omega) (.cells (nums .u8 R1) 5)
  rw [← hg] at hrow hlt1 ⊢
  generalize w1.alloc (.cells (nums .u8 R1) 5) = W at *
  clear hg hr1 hbel1 hbox1
  have hrow' : Row .u8 5 W g R1 := hrow
  clear hrow
  go_loopw [4] (fun i wr => RelH s z p w g n A c B R1 i wr) (fun i _ => s.size - (intOf i).toNat)
  case atStart => exact ⟨0, R1, Nat.zero_le _, rfl, hrow', hRl1, Lib.hid rfl, hbx, hr2, hbel2⟩
  case round =>
    clear hrow' hbx hr2 hbel2
    obtain ⟨k, L, hk, rfl, hrowk, hLk, HL, hbxk, hrk, hbk⟩ := hrel
    obtain ⟨W5, hW5⟩ : ∃ W, W = wr := ⟨_, rfl⟩
    subst hW5
    have hcx0 : W5.cell? ⟨w.heap.size, 0, none⟩ = some (.string s) := hbxk.cell 0
    by_cases hlt : k < s.size
    case pos =>
      have hcr := hrowk.cell (i := 1 + k) (by omega)
      have hfr := hrowk.open_ (1 + k)
      have hk0 : (0 : Int) ≤ (k : Int) := by omega
      have hk64 : (1 : Int) + (k : Int) < 64 := by omega
      have hk00 : (0 : Int) ≤ 1 + (k : Int) := by omega
      have hrow6 := hrowk.set (1 + k) s[k].toNat
      have hg6 : W5.grownBy (W5.setCell ⟨g, 1 + k, none⟩ (.int .u8 (s[k].toNat : Nat))) (some g) := one_setCell (World.grownBy.refl W5 (some g)) (1 + k) _
      have hbx6 := hbxk.grown hg6 (by intro e; injection e; omega)
      have hb6 := hbk.trans (one_below hg6 (Nat.le_of_lt hlt1) hbk.size)
      have hr6 := hrk.under (one_below hg6 (by omega) (Nat.le_trans hB hbk.size))
      have HS := Lib.hid (show L.set (1 + k) s[k].toNat = over R1 1 (s.data.toList.take (k + 1)) by rw [HL.out]; exact (over_step s R1 k hlt).symm)
      go_wp2_with fail
      go_roundw
      case rel => exact ⟨k + 1, _, hlt, by go_num, hrow6, by rw [List.length_set]; exact hLk, HS, hbx6, hr6, hb6⟩
      case measure => simp [intOf]; omega
    case neg =>
    obtain rfl : k = s.size := by omega
    have hf : decide (s.size < s.size) = false := decide_eq_false (by omega)
    have hcy1 : W5.cell? ⟨w.heap.size, 1, none⟩ = some (.int .i64 z) := hbxk.cell 1
    have hc41 := hrowk.cell (i := 41) (by omega)
    have hc42 := hrowk.cell (i := 42) (by omega)
    have hf41 := hrowk.open_ 41
    have hf42 := hrowk.open_ 42
    have hq : IntKind.u8.wrap ((z : Int) / 256) = (z : Int) / 256 := IntWalk.u8_in _ (by omega)
    have hq2 : IntKind.u8.wrap ((z : Int) % 256) = (z : Int) % 256 := IntWalk.u8_in _ (by omega)
    go_wp2_with fail
    go_region
    have hrow6 := ((hrowk.set 41 (z / 256)).set 42 (z % 256)).drewN 1
    have hg6 : W5.grownBy (((W5.setCell ⟨g, 41, none⟩ (.int .u8 ((z / 256 : Nat) : Int))).setCell ⟨g, 42, none⟩ (.int .u8 ((z % 256 : Nat) : Int))).drewN 1) (some g) := by
      have h := one_setCell (one_setCell (World.grownBy.refl W5 (some g)) 41 (.int .u8 ((z / 256 : Nat) : Int))) 42 (.int .u8 ((z % 256 : Nat) : Int))
      exact ⟨h.os, h.tape, h.output, h.size, h.block⟩
    have hlow := one_below hg6 (Nat.le_of_lt hlt1) hbk.size
    have hbx6 := hbxk.grown hg6 (by intro e; injection e; omega)
    have hb6 := hbk.trans hlow
    have hr6 := hrk.under (one_below hg6 (by omega) (Nat.le_trans hB hbk.size))
    have HL4 := Lib.hid (enc_head (z := z) hs40 (show put2 (over R1 1 s.data.toList) 41 z = _ by rw [HR1.out]))
    have HLL := Lib.hid (show put2 (over R1 1 s.data.toList) 41 z = put2 L 41 z by rw [HL.out, List.take_of_length_le (by simp)])
    have hrow7 : Row .u8 5 (((W5.setCell ⟨g, 41, none⟩ (.int .u8 ((z / 256 : Nat) : Int))).setCell ⟨g, 42, none⟩ (.int .u8 ((z % 256 : Nat) : Int))).drewN 1) g (put2 L 41 z) := hrow6
    rw [← HLL.out] at hrow7
    clear hlow hg6 hrow6 HLL
    generalize put2 (over R1 1 s.data.toList) 41 z = L4 at *
    push_cast at hrow7 hbx6 hb6 hr6
    change Row .u8 5 (World.drew _) g L4 at hrow7
    change Holds (World.drew _) _ _ _ at hbx6
    change Below _ _ (World.drew _) at hb6
    change Rd .i64 (World.drew _) B A c p at hr6
    generalize World.drew _ = W7 at *
    clear hrowk hbxk hrk hbk hcx0 hcy1 hc41 hc42 hf41 hf42 hq hq2 HL hLk
    go_wp2_with fail
    go_loopw [5] (fun i wr => RelP s z p w g n A c B i wr) (fun i _ => n - (intOf i).toNat)
    case atStart => exact ⟨0, L4, Nat.zero_le _, rfl, hrow7, HL4.out.1, Lib.hid (HL4.out.2 p), hbx6, hr6, hb6⟩
    case round =>
      clear hrow7 hbx6 hr6 hb6
      obtain ⟨k, L, hk, rfl, hrowk, hLk, HL, hbxk, hrk, hbk⟩ := hrel
      obtain ⟨W5, hW5⟩ : ∃ W, W = wr := ⟨_, rfl⟩
      subst hW5
      have hcz2 : W5.cell? ⟨w.heap.size, 2, none⟩ = some (.slice A n c) := hbxk.cell 2
      have hlc := hrk.1
      have hc63 := hrk.2.1
      by_cases hkn : k < n
      case neg =>
        obtain rfl : k = n := by omega
        have hf : decide ((k : Int) < (k : Int)) = false := decide_eq_false (by omega)
        have hf2 : decide (k < k) = false := decide_eq_false (by omega)
        have HE := Lib.hid (enc_is hLk (fun i hi => (HL.out i hi).trans (by rw [List.take_of_length_le (by have := HN.out; omega)])))
        go_wp2_with fail
        go_ret
        exact ⟨g, rfl, Nat.le_of_lt hlt1, by rw [← HE.out]; exact hrowk, hbk⟩
      case pos =>
      obtain ⟨b, off, x, rfl, hb, hx, Hx⟩ := hrk.at_ (i := k) (by have := HN.out; omega)
      have hk0 : (0 : Int) ≤ (k : Int) := by omega
      have hkI : (k : Int) < (n : Int) := by omega
      have hx16 : x ≤ 65535 := by
        rw [Hx.out]
        have h' : k < p.length := by have := HN.out; omega
        simpa [List.getD, h'] using HP.out _ (List.getElem_mem h')
      have hc1 := hrowk.cell (i := 43 + 2 * k) (by omega)
      have hc2 := hrowk.cell (i := 44 + 2 * k) (by omega)
      have hf1 := hrowk.open_ (43 + 2 * k)
      have hf2 := hrowk.open_ (44 + 2 * k)
      have hq : IntKind.u8.wrap ((x : Int) / 256) = (x : Int) / 256 := IntWalk.u8_in _ (by omega)
      have hq2 : IntKind.u8.wrap ((x : Int) % 256) = (x : Int) % 256 := IntWalk.u8_in _ (by omega)
      have g1 : (43 : Int) + 2 * (k : Int) < 64 := by omega
      have g2 : (44 : Int) + 2 * (k : Int) < 64 := by omega
      have g3 : (0 : Int) ≤ 43 + 2 * (k : Int) := by omega
      have g4 : (0 : Int) ≤ 44 + 2 * (k : Int) := by omega
      go_wp2_with fail
      go_region
      have hrow6 := ((hrowk.set (43 + 2 * k) (x / 256)).set (44 + 2 * k) (x % 256)).drewN 1
      have hg6 : W5.grownBy (((W5.setCell ⟨g, 43 + 2 * k, none⟩ (.int .u8 ((x / 256 : Nat) : Int))).setCell ⟨g, 44 + 2 * k, none⟩ (.int .u8 ((x % 256 : Nat) : Int))).drewN 1) (some g) := by
        have h := one_setCell (one_setCell (World.grownBy.refl W5 (some g)) (43 + 2 * k) (.int .u8 ((x / 256 : Nat) : Int))) (44 + 2 * k) (.int .u8 ((x % 256 : Nat) : Int))
        exact ⟨h.os, h.tape, h.output, h.size, h.block⟩
      have hlow := one_below hg6 (Nat.le_of_lt hlt1) hbk.size
      have hbx6 := hbxk.grown hg6 (by intro e; injection e; omega)
      have hb6 := hbk.trans hlow
      have hr6 := hrk.under (one_below hg6 (by omega) (Nat.le_trans hB hbk.size))
      have HS := Lib.hid (enc_step (p := p) hLk (by have := HN.out; omega) (by have := HN.out; omega) HL.out)
      rw [← Hx.out] at HS
      have hrow7 : Row .u8 5 (((W5.setCell ⟨g, 43 + 2 * k, none⟩ (.int .u8 ((x / 256 : Nat) : Int))).setCell ⟨g, 44 + 2 * k, none⟩ (.int .u8 ((x % 256 : Nat) : Int))).drewN 1) g (put2 L (43 + 2 * k) x) := by
        have e : (L.set (43 + 2 * k) (x / 256)).set (44 + 2 * k) (x % 256) = put2 L (43 + 2 * k) x := by unfold put2; rw [show 43 + 2 * k + 1 = 44 + 2 * k by omega]
        rw [← e]; exact hrow6
      clear hlow hg6 hrow6
      push_cast at hrow7 hbx6 hb6 hr6
      change Row .u8 5 (World.drew _) g _ at hrow7
      change Holds (World.drew _) _ _ _ at hbx6
      change Below _ _ (World.drew _) at hb6
      change Rd .i64 (World.drew _) B _ c p at hr6
      generalize World.drew _ = W8 at *
      clear hc1 hc2 hf1 hf2 hq hq2 g1 g2 g3 g4
      go_wp2_with fail
      go_roundw
      case rel => exact ⟨k + 1, _, by omega, by go_num, hrow7, by rw [put2_length]; exact hLk, HS, hbx6, hr6, hb6⟩
      case measure => simp [intOf]; omega
end Go.Proofs.Ytkfokgkehlcikaa
