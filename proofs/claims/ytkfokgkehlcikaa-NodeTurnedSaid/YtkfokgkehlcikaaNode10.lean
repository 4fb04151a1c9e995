/-
  A block read: by the program, where a head stands in it.
-/
import Derived.Test.YtkfokgkehlcikaaNode9
namespace Go.Proofs.Ytkfokgkehlcikaa
open Go.RowKit
set_option linter.unusedVariables false

theorem Rd.tail {k : IntKind} {w : World} {B bb off c : Nat} {l : List Nat} (h : Rd k w B (some ⟨bb, off, none⟩) c l) (h0 : 0 < l.length) : Rd k w B (some ⟨bb, off + 1, none⟩) (c - 1) (l.drop 1) := by
  obtain ⟨b', off', e, hb, hc⟩ := h.2.2 h0
  obtain ⟨rfl, rfl⟩ : bb = b' ∧ off = off' := by injection e with e; injection e with e1 e2; exact ⟨e1, e2⟩
  have h1 := h.1
  have h2 := h.2.1
  refine ⟨by rw [List.length_drop]; omega, by omega, fun _ => ⟨bb, off + 1, rfl, hb, fun j hj => ?_⟩⟩
  rw [List.length_drop] at hj
  rw [show off + 1 + j = off + (j + 1) by omega, hc (j + 1) (by omega)]
  simp [List.getD]

theorem enc_oct {s : ByteArray} {z : Nat} {p : List Nat} (hs : s.size ≤ 40) (hz : z ≤ 600) (hp : ∀ x ∈ p, x ≤ 65535) : Oct8 (enc s z p) := by
  intro x hx
  obtain ⟨i, _, rfl⟩ := List.mem_map.1 hx
  have h1 : (s.data.toList.map UInt8.toNat).getD (i - 1) 0 < 256 := by
    simp only [List.getD, List.getElem?_map]
    cases s.data.toList[i - 1]? with
    | none => simp
    | some y => exact y.toNat_lt
  have h2 : p.getD ((i - 43) / 2) 0 ≤ 65535 := by
    by_cases h : (i - 43) / 2 < p.length
    · have := hp _ (List.getElem_mem h)
      simpa [List.getD, h] using this
    · rw [List.getD, List.getElem?_eq_none (by omega)]; exact Nat.zero_le _
  unfold encAt
  repeat (first | omega | split)

theorem info_i64 : (Try.prog.info? 3).map (fun i => (i.zero, i.size, i.bytes)) = some (some (.int .i64 0), 1, 8) := by kernel_rfl
theorem get_at (w : World) (B : Nat) (A : Option Addr) (c n : Nat) (l : List Nat) (hn : l.length = n) (hr : Rd .u8 w B A c l) (ho : Oct l) (i : Nat) (I : Int) (hI : I = i) (hi : i + 1 < n) (v : Nat) (hv : two l i = v) :
    Calls Try.prog 29 #[.slice A n c, .int .i64 I] w fun e w' => e = .returned (.int .i64 v) ∧ ∃ q, w' = w.drewN q := by
  subst hI
  exact get_any w B A c n l hn hr ho i hi v hv
def RelR (w : World) (s : ByteArray) (v nn : Nat) (b : List Nat) (B bb off c : Nat) (i : Value) (wr : World) : Prop :=
  ∃ (k : Nat) (A4 : Option Addr) (c4 : Nat), k ≤ nn ∧ i = .int .i64 k ∧ Holds wr w.heap.size 25 #[.string s, .int .i64 v, .slice A4 k c4] ∧ Own .i64 3 wr w.heap.size A4 c4 (placesOf b k) ∧ Rd .u8 wr B (some ⟨bb, off, none⟩) c b ∧ Below w.heap.size w wr

set_option maxRecDepth 100000 in
set_option maxHeartbeats 4000000 in
theorem read_deep (w : World) (B : Nat) (A : Option Addr) (c : Nat) (b : List Nat) (hn : b.length = 64) (hr : Rd .u8 w B A c b) (hB : B ≤ w.heap.size) (ho : Oct8 b) (h0 : b ≠ List.replicate 64 0) (hgood : b.getD 0 0 ≤ 40 ∧ two b 41 ≤ 600) :
    Calls Try.prog 8 #[.slice A 64 c] w (ReadPost w b) := by
  have hbel : Below w.heap.size w (w.alloc (.cells #[.string ⟨#[]⟩, .int .i64 0, .slice none 0 0] 25)) := (Below.refl _ _).alloc (Nat.le_refl _) _
  have hbox := Holds.fresh w 25 #[.string ⟨#[]⟩, .int .i64 0, .slice none 0 0]
  have hr1 := hr.alloc hB (.cells #[.string ⟨#[]⟩, .int .i64 0, .slice none 0 0] 25)
  have hmk := make_bytes 64 64 rfl (by omega)
  obtain ⟨R, hR0⟩ : ∃ R, R = List.replicate 64 0 := ⟨_, rfl⟩
  have HO0 := Lib.hid (show Oct8 R from fun x hx => by rw [hR0] at hx; have := (List.mem_replicate.1 hx).2; omega)
  have HL0 := Lib.hid (show R.length = 64 by rw [hR0, List.length_replicate])
  have H0 := Lib.hid h0
  have H1 : Hid (b ≠ R) := Lib.hid (by rw [hR0]; exact h0)
  rw [← hR0] at hmk
  clear h0 hR0
  have ho' := oct_of ho
  have hlc := hr.1
  have hc63 := hr.2.1
  go_enter Try.func8, Try.ntmps8
  go_wp2_with fail
  have hlt := hbox.lt
  have hsz : (w.alloc (.cells #[.string ⟨#[]⟩, .int .i64 0, .slice none 0 0] 25)).heap.size = w.heap.size + 1 := by simp
  generalize w.alloc (.cells #[.string ⟨#[]⟩, .int .i64 0, .slice none 0 0] 25) = W at *
  have hbox2 := hbox.alloc (.cells (nums .u8 R) 5)
  have hbel2 := hbel.alloc (Nat.le_of_lt hlt) (.cells (nums .u8 R) 5)
  have hz : Row .u8 5 (W.alloc (.cells (nums .u8 R) 5)) W.heap.size R := Holds.fresh W 5 (nums .u8 R)
  rw [hsz] at hz
  have hr2 := hr1.alloc (by omega) (.cells (nums .u8 R) 5)
  generalize W.alloc (.cells (nums .u8 R) 5) = W2 at *
  refine (equal_no _ B _ A (some ⟨w.heap.size + 1, 0, none⟩) c 64 64 64 b R hn HL0.out hr2 (hz.rd_all HL0.out (by omega)) ho HO0.out H1.out).mono ?_
  rintro e w1 ⟨rfl, rfl⟩
  clear hbox hbel hz hr1 hr hmk
  obtain ⟨bb, off, x, rfl, hb, hx, Hx⟩ := hr2.at_ (i := 0) (by omega)
  rw [Nat.add_zero] at hx
  obtain ⟨v, Hv⟩ : ∃ v, Hid (two b 41 = v) := ⟨_, rfl⟩
  rw [Hv.out, ← Hx.out] at hgood
  have hx8 : x < 256 := by rw [Hx.out]; exact ho' 0
  clear hlt hsz
  obtain ⟨h40, h600⟩ := hgood
  have b1 : decide (40 < (x : Int)) = false := decide_eq_false (by omega)
  have b2 : decide (600 < (v : Int)) = false := decide_eq_false (by omega)
  go_wp2_with fail
  go_quiet ((go_at_call 29; exact quiet_at (get_any _ B (some ⟨bb, off, none⟩) c 64 b hn (hr2.drewN _) ho' 41 (by omega) v Hv.out)))
  have hbox3 := hbox2.drewN nq
  have hbel3 := below_drewN hbel2 nq
  have hr3 := hr2.drewN nq
  generalize W2.drewN nq = W3 at *
  have hcv := conv_str (n := x) ((hr3.tail (by omega)).cut x) (by rw [List.length_take, List.length_drop, hn]; omega) (fun y hy => ho y (List.mem_of_mem_drop (List.mem_of_mem_take hy)))
  have hnm : str ((b.drop 1).take x) = nameOf b x := rfl
  rw [hnm] at hcv
  obtain ⟨s, Hs⟩ : ∃ s, Hid (nameOf b x = s) := ⟨_, rfl⟩
  rw [Hs.out] at hcv
  have hc := hbox3.cell
  have hfz := hbox3.open_
  have hc64 : 64 ≤ c := by omega
  clear hnm hbox2 hbel2 hr2 hx b1 b2
  obtain ⟨nn, Hnn⟩ : ∃ nn : Nat, Hid (needI v = (nn : Int)) := ⟨(needI v).toNat, Lib.hid (by have := needI_ge v; omega)⟩
  have hnn10 : nn ≤ 10 := by have h1 := needI_le (z := v) (by omega); have h2 := Hnn.out; omega
  have hbox4 : Holds (((W3.setCell ⟨w.heap.size, 0, none⟩ (.string s)).setCell ⟨w.heap.size, 1, none⟩ (.int .i64 v)).setCell ⟨w.heap.size, 2, none⟩ (.slice none 0 0)) w.heap.size 25 #[.string s, .int .i64 v, .slice none 0 0] := ((hbox3.stored 0 _).stored 1 _).stored 2 _
  have hbel4 : Below w.heap.size w (((W3.setCell ⟨w.heap.size, 0, none⟩ (.string s)).setCell ⟨w.heap.size, 1, none⟩ (.int .i64 v)).setCell ⟨w.heap.size, 2, none⟩ (.slice none 0 0)) := by repeat (first | exact hbel3 | refine Below.setCell ?_ (by simp) _)
  have hr4 : Rd .u8 (((W3.setCell ⟨w.heap.size, 0, none⟩ (.string s)).setCell ⟨w.heap.size, 1, none⟩ (.int .i64 v)).setCell ⟨w.heap.size, 2, none⟩ (.slice none 0 0)) B (some ⟨bb, off, none⟩) c b := hr3.under (by repeat (first | exact Below.refl _ _ | refine Below.setCell ?_ (by simp; omega) _))
  go_wp2_with fail
  generalize ((W3.setCell ⟨w.heap.size, 0, none⟩ (.string s)).setCell ⟨w.heap.size, 1, none⟩ (.int .i64 v)).setCell ⟨w.heap.size, 2, none⟩ (.slice none 0 0) = W4 at *
  clear hcv hc hfz hbox3 hbel3 hr3
  refine (need_any W4 v (by omega) nn Hnn.out).mono ?_
  rintro e w5 ⟨rfl, rfl⟩
  go_wp2_with fail
  go_loopw [7, 38] (fun _ i wr => RelR w s v nn b B bb off c i wr) (fun _ i _ => nn - (intOf i).toNat)
  case atStart => exact ⟨0, none, 0, Nat.zero_le _, rfl, hbox4, Own.nil _ _ _ _, hr4, hbel4⟩
  case round =>
    clear hbox4 hr4 hbel4
    obtain ⟨k, A4, c4, hk, rfl, hbox, hown, hrk, hbk⟩ := hrel
    obtain ⟨W5, hW5⟩ : ∃ W, W = wr := ⟨_, rfl⟩
    subst hW5
    by_cases hkn : k < nn
    case neg =>
      obtain rfl : k = nn := by omega
      have hf : decide ((k : Int) < (k : Int)) = false := decide_eq_false (by omega)
      have hf2 : decide (k < k) = false := decide_eq_false (by omega)
      have HOne : Hid (∀ s' z' p', IsNode b s' z' p' → s' = s ∧ z' = v ∧ p' = placesOf b k) := Lib.hid (fun s' z' p' h => by
        have e1 := h.long
        have e2 := h.size_
        have e3 := h.count
        have e4 : z' = v := by rw [← e2, Hv.out]
        have e5 := Hnn.out
        rw [e4] at e3
        refine ⟨?_, e4, ?_⟩
        · rw [← Hs.out, Hx.out, e1, h.name_]
        · rw [← h.places_, show p'.length = k by omega])
      have hltk := hbox.lt
      have hcb := hbox.cell
      have hap := hown.apart hbox (by decide)
      by_cases hok : NodeOk s v ((placesOf b k).map fun x : Nat => (x : Int))
      case neg =>
        have HNN : Hid (∀ s' z' p', ¬ IsNode b s' z' p') := Lib.hid (fun s' z' p' h => by
          obtain ⟨rfl, rfl, rfl⟩ := HOne.out s' z' p' h
          exact hok h.ok)
        have hs63 : s.size ≤ 9223372036854775807 := by
          rw [← Hs.out]; unfold nameOf str; show (Array.size _) ≤ _; simp; omega
        have HBN := Lib.hid (bytes_none W5 s hs63 v (by omega) W5.heap.size A4 c4 k _ (by rw [List.length_map, placesOf_length]) (RdI.of_rd hown.rd) (Nat.le_refl _) hok)
        clear hok
        go_wp2_with fail
        refine HBN.out.mono ?_
        rintro e w6 ⟨rfl, hb6⟩
        have hbox6 := hbox.under hb6 hltk
        have hr6 := hrk.under (hb6.mono (by omega))
        have hb6' := hbk.trans (hb6.mono (by omega))
        have hc6 := hbox6.cell
        have hfz6 := hbox6.open_
        go_wp2_with fail
        refine (equal_no w6 0 B none (some ⟨bb, off, none⟩) 0 c 0 64 [] b rfl hn (Rd.nil_ _ _ _) hr6 (fun x hx => by simp at hx) ho (fun e => by rw [← e] at hn; simp at hn)).mono ?_
        rintro e w7 ⟨rfl, rfl⟩
        go_wp2_with fail
        refine bodyPost_ret (v := .tuple #[.agg #[.string ⟨#[]⟩, .int .i64 0, .slice none 0 0], .bool false, .bool false]) (by simp [results, Try.results8, go_sem, hc6]) rfl ?_
        exact read_none H0.out HNN.out (by repeat (first | exact hb6' | refine Below.setCell ?_ (by simp) _))
      case pos =>
      have HOK := Lib.hid hok
      have hs40 := hok.name.high
      have HBS := Lib.hid (bytes_some W5 s v W5.heap.size A4 c4 k (placesOf b k) (placesOf_length b k) hown.rd (Nat.le_refl _) hok (placesOf_le ho k))
      have HEO : Hid (Oct8 (enc s v (placesOf b k))) := Lib.hid (enc_oct hs40 h600 (placesOf_le ho k))
      clear hok
      by_cases heq : enc s v (placesOf b k) = b
      case neg =>
        have HNN : Hid (∀ s' z' p', ¬ IsNode b s' z' p') := Lib.hid (fun s' z' p' h => by
          obtain ⟨rfl, rfl, rfl⟩ := HOne.out s' z' p' h
          exact heq h.enc)
        go_wp2_with fail
        refine HBS.out.mono ?_
        rintro e w6 ⟨g, rfl, hg, hrow6, hb6⟩
        have hbox6 := hbox.under hb6 hltk
        have hr6 := hrk.under (hb6.mono (by omega))
        have hb6' := hbk.trans (hb6.mono (by omega))
        have hc6 := hbox6.cell
        have hfz6 := hbox6.open_
        go_wp2_with fail
        refine (equal_no w6 _ B _ (some ⟨bb, off, none⟩) 64 c 64 64 _ b (enc_length _ _ _) hn (hrow6.rd_all (enc_length _ _ _) (by omega)) hr6 HEO.out ho heq).mono ?_
        rintro e w7 ⟨rfl, rfl⟩
        go_wp2_with fail
        refine bodyPost_ret (v := .tuple #[.agg #[.string ⟨#[]⟩, .int .i64 0, .slice none 0 0], .bool false, .bool false]) (by simp [results, Try.results8, go_sem, hc6]) rfl ?_
        exact read_none H0.out HNN.out (by repeat (first | exact hb6' | refine Below.setCell ?_ (by simp) _))
      case pos =>
        have HEQ := Lib.hid heq
        go_wp2_with fail
        refine HBS.out.mono ?_
        rintro e w6 ⟨g, rfl, hg, hrow6, hb6⟩
        rw [HEQ.out] at hrow6
        clear heq
        have hbox6 := hbox.under hb6 hltk
        have hr6 := hrk.under (hb6.mono (by omega))
        have hb6' := hbk.trans (hb6.mono (by omega))
        have hown6 := hown.under_all hb6
        have hc6 := hbox6.cell
        have hfz6 := hbox6.open_
        go_wp2_with fail
        refine (equal_yes w6 _ B _ (some ⟨bb, off, none⟩) 64 c 64 b hn (hrow6.rd_all hn (by omega)) hr6 ho).mono ?_
        rintro e w7 ⟨rfl, rfl⟩
        go_wp2_with fail
        refine bodyPost_ret (v := .tuple #[.agg #[.string s, .int .i64 v, .slice A4 k c4], .bool false, .bool true]) (by simp [results, Try.results8, go_sem, hc6]) rfl ?_
        refine ⟨s, v, A4, k, c4, placesOf b k, false, true, rfl, Lib.hid (.node ⟨HOK.out, placesOf_le ho k, HEQ.out⟩), placesOf_length b k, Own.rd (B := w.heap.size) (e := 3) (by repeat (first | exact hown6 | refine Own.aside ?_ hap _)), by repeat (first | exact hb6' | refine Below.setCell ?_ (by simp) _)⟩
    case pos =>
    have hk0 : (0 : Int) ≤ (k : Int) := by omega
    have hkI : (k : Int) < (nn : Int) := by omega
    obtain ⟨x2, Hx2⟩ : ∃ x2, Hid (two b (43 + 2 * k) = x2) := ⟨_, rfl⟩
    have hcb2 : W5.cell? ⟨w.heap.size, 2, none⟩ = some (.slice A4 k c4) := hbox.cell 2
    have hcb3 : ∀ n o, ((W5.drewN n).alloc o).cell? ⟨w.heap.size, 2, none⟩ = some (.slice A4 k c4) := fun n o => ((hbox.drewN n).alloc o).cell 2
    have hap := hown.apart hbox (by decide)
    have HH : Hid (∀ n, Holds ((W5.drewN n).alloc (.cells #[.int .i64 (x2 : Int)] 3)) W5.heap.size 3 (nums .i64 [x2])) := Lib.hid (fun n => Holds.fresh (W5.drewN n) _ _)
    have HPL := Lib.hid (placesOf_length b k)
    have hszk := hbk.size
    go_wp2_with fail
    have hw1 : IntKind.i64.wrap (2 * (k : Int)) = 2 * (k : Int) := IntWalk.i64_in _ (by omega)
    have hw2 : IntKind.i64.wrap (43 + 2 * (k : Int)) = 43 + 2 * (k : Int) := IntWalk.i64_in _ (by omega)
    go_region_law (first
      | (go_simp; go_at_call 29; refine (get_at _ B (some ⟨bb, off, none⟩) c 64 b hn (by exact hrk) ho' (43 + 2 * k) _ (by push_cast; first | rfl | omega) (by omega) x2 Hx2.out).mono ?_; rintro e w6 ⟨rfl, q, rfl⟩; go_simp)
      | (refine step_push _ ?_ (.tmp 42) (.tmp 48) 23 ?_ .i64 w.heap.size 3 8 Try.underlying23 info_i64 A4 k c4 (placesOf b k) ?_ HPL.out ?_ W5.heap.size 1 1 [x2] ?_ rfl ?_ (by omega) (by omega) (by omega) ?_ ?_; (focus rfl); (focus rfl); (focus rfl); (focus exact Own.alloc (Own.drewN hown _) _); (focus rfl); (focus exact HH.out _); (focus (simp; omega)); intro g1 c1 w2 ho2 hg2 _; have HO2 := Lib.hid ho2; have HG2 := Lib.hid hg2; have hbox6 := ((hbox.drewN (1 + q)).alloc (.cells #[.int .i64 (x2 : Int)] 3)).grown hg2 (Ne.symm hap); have hcc := hbox6.cell 2; have hff := hbox6.open_ 2; clear ho2 hg2))
    all_goals
      have hstep : Below w.heap.size W5 w2 := ⟨HG2.out.os, HG2.out.tape, HG2.out.output, Nat.le_trans (by simp) HG2.out.size, fun q' hq => (HG2.out.block q' (by simp; omega) (fun e => by have := (hown.block e.symm).1; omega)).trans (Below.heap_alloc (W5.drewN (1 + q)) _ q' (by show q' < W5.heap.size; omega))⟩
      have hbox7 : Holds (w2.setCell ⟨w.heap.size, 2, none⟩ (.slice (some ⟨g1, 0, none⟩) (k + 1) c1)) w.heap.size 25 #[.string s, .int .i64 v, .slice (some ⟨g1, 0, none⟩) (k + 1) c1] := hbox6.stored 2 _
      have hown7 : Own .i64 3 (w2.setCell ⟨w.heap.size, 2, none⟩ (.slice (some ⟨g1, 0, none⟩) (k + 1) c1)) w.heap.size (some ⟨g1, 0, none⟩) c1 (placesOf b k ++ [x2]) := HO2.out.aside (HO2.out.apart hbox6 (by decide)) _
      have hb7 : Below w.heap.size w (w2.setCell ⟨w.heap.size, 2, none⟩ (.slice (some ⟨g1, 0, none⟩) (k + 1) c1)) := (hbk.trans hstep).setCell (by simp) _
      have hr7 : Rd .u8 (w2.setCell ⟨w.heap.size, 2, none⟩ (.slice (some ⟨g1, 0, none⟩) (k + 1) c1)) B (some ⟨bb, off, none⟩) c b := hrk.under ((hstep.mono hB).setCell (by simp; omega) _)
      clear hw1 hw2 hcc hff hbox6
      go_wp2_with fail
      go_roundw
      case rel => exact ⟨k + 1, some ⟨g1, 0, none⟩, c1, by omega, by go_num, hbox7, by rw [placesOf_succ, Hx2.out]; exact hown7, hr7, hb7⟩
      case measure => simp [intOf]; omega

theorem read_any (w : World) (B : Nat) (A : Option Addr) (c n : Nat) (b : List Nat) (hn : b.length = n) (hr : Rd .u8 w B A c b) (hB : B ≤ w.heap.size) (ho : Oct8 b) :
    Calls Try.prog 8 #[.slice A n c] w (ReadPost w b) := by
  by_cases h64 : n = 64
  · subst h64
    by_cases h0 : b = List.replicate 64 0
    · exact read_zero w B A c b hn hr hB ho h0
    · by_cases hg : b.getD 0 0 ≤ 40 ∧ two b 41 ≤ 600
      · exact read_deep w B A c b hn hr hB ho h0 hg
      · exact read_bad w B A c b hn hr hB ho h0 (by omega)
  · exact read_other w B A c n b hn hr hB ho h64
end Go.Proofs.Ytkfokgkehlcikaa
