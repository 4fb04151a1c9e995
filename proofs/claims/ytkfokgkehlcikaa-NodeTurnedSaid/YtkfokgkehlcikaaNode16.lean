/-
  A block read: by the document, where bytes stand in it.
-/
import Derived.Test.YtkfokgkehlcikaaNode15
namespace Go.Proofs.Ytkfokgkehlcikaa
open Go.RowKit
set_option linter.unusedVariables false
attribute [local go_sem ↓] Go.wp_at_zero Go.wp_at_succ

/-- What is walked once, whatever the order was. -/
theorem share {P H : Nat → Nat → World → Prop} {G : Prop} (h : Hid (∀ g c w, H g c w → P g c w) → G) (hp : ∀ g c w, H g c w → P g c w) : G := h (Lib.hid hp)

def RelR' (w : World) (s : ByteArray) (v nn : Nat) (b : List Nat) (B bb off c : Nat) (i : Value) (wr : World) : Prop :=
  ∃ (k : Nat) (A4 : Option Addr) (c4 : Nat), k ≤ nn ∧ i = .int .i64 k ∧ Holds wr w.heap.size 28 #[.string ⟨#[]⟩, .int .i64 0, .slice none 0 0] ∧ Holds wr (w.heap.size + 2) 28 #[.string s, .int .i64 v, .slice A4 k c4] ∧ Own .i64 3 wr w.heap.size A4 c4 (placesOf b k) ∧ Rd .u8 wr B (some ⟨bb, off, none⟩) c b ∧ Below w.heap.size w wr

set_option maxRecDepth 100000 in
set_option maxHeartbeats 4000000 in
theorem read'_more (w : World) (B : Nat) (A : Option Addr) (c : Nat) (b : List Nat) (hn : b.length = 64) (hr : Rd .u8 w B A c b) (hB : B ≤ w.heap.size) (ho : Oct8 b) (h0 : b ≠ List.replicate 64 0) :
    Calls Try.prog 9 #[.slice A 64 c] w (ReadPost w b) := by
  have hbel : Below w.heap.size w (w.alloc (.cells #[.string ⟨#[]⟩, .int .i64 0, .slice none 0 0] 28)) := (Below.refl _ _).alloc (Nat.le_refl _) _
  have hbox := Holds.fresh w 28 #[.string ⟨#[]⟩, .int .i64 0, .slice none 0 0]
  have hr1 := hr.alloc hB (.cells #[.string ⟨#[]⟩, .int .i64 0, .slice none 0 0] 28)
  have hmk := make_bytes 64 64 rfl (by omega)
  have HBAD : Hid ((40 < b.getD 0 0 ∨ 10 < needI (two b 41)) → ∀ s z p, ¬ IsNode b s z p) := Lib.hid (fun hbad s z p h => by
    have h1 := h.long
    have h2 := h.size_
    have h3 := h.ok.name.high
    have h4 := needI_le h.ok.z600
    rw [h2] at hbad
    omega)
  obtain ⟨R, hR0⟩ : ∃ R, R = List.replicate 64 0 := ⟨_, rfl⟩
  have HO0 := Lib.hid (show Oct8 R from fun x hx => by rw [hR0] at hx; have := (List.mem_replicate.1 hx).2; omega)
  have HL0 := Lib.hid (show R.length = 64 by rw [hR0, List.length_replicate])
  have H0 := Lib.hid h0
  have H1 : Hid (b ≠ R) := Lib.hid (by rw [hR0]; exact h0)
  rw [← hR0] at hmk
  clear h0 hR0
  have ho' := oct_of ho
  have hlc := hr.1
  have hc63 := hr.2.1
  go_enter Try.func9, Try.ntmps9
  go_wp2_with fail
  have hlt := hbox.lt
  have hsz : (w.alloc (.cells #[.string ⟨#[]⟩, .int .i64 0, .slice none 0 0] 28)).heap.size = w.heap.size + 1 := by simp
  generalize w.alloc (.cells #[.string ⟨#[]⟩, .int .i64 0, .slice none 0 0] 28) = W at *
  have hbox2 := hbox.alloc (.cells (nums .u8 R) 5)
  have hbel2 := hbel.alloc (Nat.le_of_lt hlt) (.cells (nums .u8 R) 5)
  have hz : Row .u8 5 (W.alloc (.cells (nums .u8 R) 5)) W.heap.size R := Holds.fresh W 5 (nums .u8 R)
  rw [hsz] at hz
  have hr2 := hr1.alloc (by omega) (.cells (nums .u8 R) 5)
  have hA1 := conv_str (n := 64) (w := W.drew) hr1 hn ho
  have hA2 := conv_str (n := 64) (w := (W.alloc (.cells (nums .u8 R) 5)).drew) hr2 hn ho
  have hA3 := conv_str (n := 64) (w := (W.alloc (.cells (nums .u8 R) 5)).drew) (A := some ⟨w.heap.size + 1, 0, none⟩) (c := 64) (hz.rd_all HL0.out (by omega)) HL0.out HO0.out
  have hne := str_ne ho HO0.out H1.out
  generalize str b = s at *
  generalize str R = s' at *
  go_region
  have hbox3 : Holds (W.alloc (.cells (nums .u8 R) 5)).drew w.heap.size 28 #[.string ⟨#[]⟩, .int .i64 0, .slice none 0 0] := hbox2.drewN 1
  have hbel3 : Below w.heap.size w (W.alloc (.cells (nums .u8 R) 5)).drew := below_drewN hbel2 1
  have hr3 : Rd .u8 (W.alloc (.cells (nums .u8 R) 5)).drew B A c b := hr2
  have hsz3 : (W.alloc (.cells (nums .u8 R) 5)).drew.heap.size = w.heap.size + 2 := by show (W.alloc _).heap.size = _; simp [hsz]
  clear hbox2 hbel2 hz hr2 hA1 hA2 hA3 hmk hbox hbel hr1
  generalize (W.alloc (.cells (nums .u8 R) 5)).drew = W2 at *
  obtain ⟨bb, off, x, rfl, hb, hx, Hx⟩ := hr3.at_ (i := 0) (by omega)
  rw [Nat.add_zero] at hx
  obtain ⟨_, _, x1, e0, _, hx1, Hx1⟩ := hr3.at_ (i := 41) (by omega)
  obtain ⟨rfl, rfl⟩ : bb = _ ∧ off = _ := by injection e0 with e0; injection e0 with e1 e2; exact ⟨e1, e2⟩
  obtain ⟨_, _, x2, e0', _, hx2, Hx2⟩ := hr3.at_ (i := 42) (by omega)
  obtain ⟨rfl, rfl⟩ : bb = _ ∧ off = _ := by injection e0' with e0; injection e0 with e1 e2; exact ⟨e1, e2⟩
  clear e0 e0'
  have hx8 : x < 256 := by rw [Hx.out]; exact ho' 0
  have hx18 : x1 < 256 := by rw [Hx1.out]; exact ho' 41
  have hx28 : x2 < 256 := by rw [Hx2.out]; exact ho' 42
  have hN := Holds.fresh W2 28 #[.string ⟨#[]⟩, .int .i64 0, .slice none 0 0]
  rw [hsz3] at hN
  have hr4 := hr3.alloc (by omega) (.cells #[.string ⟨#[]⟩, .int .i64 0, .slice none 0 0] 28)
  have hy1 : (W2.alloc (.cells #[.string ⟨#[]⟩, .int .i64 0, .slice none 0 0] 28)).cell? ⟨bb, off + 41, none⟩ = some (.int .u8 x1) := by rw [World.cell?_alloc_past _ _ _ (by omega)]; exact hx1
  have hy2 : (W2.alloc (.cells #[.string ⟨#[]⟩, .int .i64 0, .slice none 0 0] 28)).cell? ⟨bb, off + 42, none⟩ = some (.int .u8 x2) := by rw [World.cell?_alloc_past _ _ _ (by omega)]; exact hx2
  have hn0 := hN.cell
  have hm0 := hN.open_
  go_wp2_with fail
  go_region
  obtain ⟨v, hv⟩ : ∃ v : Nat, x1 * 256 + x2 = v := ⟨_, rfl⟩
  have Hv : Hid (two b 41 = v) := Lib.hid (by rw [← hv, Hx1.out, Hx2.out]; rfl)
  have hvI : (x1 : Int) * 256 + (x2 : Int) = (v : Int) := by omega
  have hv16 : v < 65536 := by omega
  rw [hvI]
  clear hN hr4 hy1 hy2 hn0 hm0 hv hvI hx1 hx2
  have hB2 : B ≤ W2.heap.size := by omega
  have hboxR : Holds (W2.alloc (.cells #[.string ⟨#[]⟩, .int .i64 v, .slice none 0 0] 28)).drew w.heap.size 28 #[.string ⟨#[]⟩, .int .i64 0, .slice none 0 0] := (hbox3.alloc _).drewN 1
  have hboxN : Holds (W2.alloc (.cells #[.string ⟨#[]⟩, .int .i64 v, .slice none 0 0] 28)).drew (w.heap.size + 2) 28 #[.string ⟨#[]⟩, .int .i64 v, .slice none 0 0] := by
    have h := (Holds.fresh W2 28 #[.string ⟨#[]⟩, .int .i64 v, .slice none 0 0]).drewN 1
    rwa [hsz3] at h
  have hbel4 : Below w.heap.size w (W2.alloc (.cells #[.string ⟨#[]⟩, .int .i64 v, .slice none 0 0] 28)).drew := below_drewN (hbel3.alloc hbel3.size _) 1
  have hr4 : Rd .u8 (W2.alloc (.cells #[.string ⟨#[]⟩, .int .i64 v, .slice none 0 0] 28)).drew B (some ⟨bb, off, none⟩) c b := (hr3.alloc hB2 _).drewN 1
  have hx4 : (W2.alloc (.cells #[.string ⟨#[]⟩, .int .i64 v, .slice none 0 0] 28)).drew.cell? ⟨bb, off, none⟩ = some (.int .u8 x) := by
    have h := World.cell?_alloc_past (w := W2) (.cells #[.string ⟨#[]⟩, .int .i64 v, .slice none 0 0] 28) bb off (by omega)
    exact h.trans hx
  clear hbox3 hbel3 hr3 hx hne
  generalize (W2.alloc (.cells #[.string ⟨#[]⟩, .int .i64 v, .slice none 0 0] 28)).drew = W3 at *
  have hcn1 : W3.cell? ⟨w.heap.size + 2, 1, none⟩ = some (.int .i64 v) := hboxN.cell 1
  by_cases h40 : 40 < x
  case pos =>
    have b1 : decide (40 < (x : Int)) = true := decide_eq_true (by omega)
    have HNN := Lib.hid (HBAD.out (.inl (by rw [← Hx.out]; exact h40)))
    clear h40
    have hc := hboxR.cell
    have hfz := hboxR.open_
    go_wp2_with fail
    refine bodyPost_ret (v := .tuple #[.agg #[.string ⟨#[]⟩, .int .i64 0, .slice none 0 0], .bool false, .bool false]) (by simp [results, Try.results9, go_sem, hc]) rfl ?_
    exact read_none H0.out HNN.out (by repeat (first | exact hbel4 | refine Below.setCell ?_ (by simp) _))
  case neg =>
  have b1 : decide (40 < (x : Int)) = false := decide_eq_false (by omega)
  by_cases h10 : 10 < needI v
  case pos =>
    obtain ⟨nd, Hnd⟩ : ∃ nd : Int, Hid (needI v = nd) := ⟨_, rfl⟩
    have b2 : decide (10 < nd) = true := decide_eq_true (by rw [← Hnd.out]; exact h10)
    have HNN := Lib.hid (HBAD.out (.inr (by rw [Hv.out]; exact h10)))
    clear h40 h10
    have hc := hboxR.cell
    have hfz := hboxR.open_
    go_wp2_with fail
    refine (need'_any W3 v (by omega) nd Hnd.out).mono ?_
    rintro e w5 ⟨rfl, rfl⟩
    go_wp2_with fail
    refine bodyPost_ret (v := .tuple #[.agg #[.string ⟨#[]⟩, .int .i64 0, .slice none 0 0], .bool false, .bool false]) (by simp [results, Try.results9, go_sem, hc]) rfl ?_
    exact read_none H0.out HNN.out (by repeat (first | exact hbel4 | refine Below.setCell ?_ (by simp) _))
  case neg =>
  obtain ⟨nn, Hnn⟩ : ∃ nn : Nat, Hid (needI v = (nn : Int)) := ⟨(needI v).toNat, Lib.hid (by have := needI_ge v; omega)⟩
  have hnn10 : nn ≤ 10 := by have h2 := Hnn.out; omega
  have b2 : decide (10 < (nn : Int)) = false := decide_eq_false (by omega)
  have hcv := conv_str (n := x) ((hr4.tail (by omega)).cut x) (by rw [List.length_take, List.length_drop, hn]; omega) (fun y hy => ho y (List.mem_of_mem_drop (List.mem_of_mem_take hy)))
  have hnm : str ((b.drop 1).take x) = nameOf b x := rfl
  rw [hnm] at hcv
  obtain ⟨s1, Hs⟩ : ∃ s, Hid (nameOf b x = s) := ⟨_, rfl⟩
  rw [Hs.out] at hcv
  have hc := hboxN.cell
  have hfz := hboxN.open_
  have hc64 : 64 ≤ c := by omega
  have hx40 : x ≤ 40 := by omega
  clear hnm h40 h10
  go_wp2_with fail
  refine (need'_any W3 v (by omega) nn Hnn.out).mono ?_
  rintro e w5 ⟨rfl, rfl⟩
  go_wp2_with fail
  have hboxN5 : Holds (W3.setCell ⟨w.heap.size + 2, 0, none⟩ (.string s1)) (w.heap.size + 2) 28 #[.string s1, .int .i64 v, .slice none 0 0] := hboxN.stored 0 _
  have hboxR5 : Holds (W3.setCell ⟨w.heap.size + 2, 0, none⟩ (.string s1)) w.heap.size 28 #[.string ⟨#[]⟩, .int .i64 0, .slice none 0 0] := hboxR.aside (by simp) _
  have hbel5 : Below w.heap.size w (W3.setCell ⟨w.heap.size + 2, 0, none⟩ (.string s1)) := hbel4.setCell (by simp) _
  have hr5 : Rd .u8 (W3.setCell ⟨w.heap.size + 2, 0, none⟩ (.string s1)) B (some ⟨bb, off, none⟩) c b := hr4.under (Below.setCell (Below.refl _ _) (by simp; omega) _)
  clear hcv hc hfz hboxN hboxR hbel4 hr4 hcn1 hx4 b1 b2
  generalize W3.setCell ⟨w.heap.size + 2, 0, none⟩ (.string s1) = W4 at *
  rw [show 1 + x - 1 = x by omega]
  go_loopw [6] (fun i wr => RelR' w s1 v nn b B bb off c i wr) (fun i _ => nn - (intOf i).toNat)
  case atStart => exact ⟨0, none, 0, Nat.zero_le _, rfl, hboxR5, hboxN5, Own.nil _ _ _ _, hr5, hbel5⟩
  case round =>
    clear hboxR5 hboxN5 hr5 hbel5
    obtain ⟨k, A4, c4, hk, rfl, hboxR, hbox, hown, hrk, hbk⟩ := hrel
    obtain ⟨W5, hW5⟩ : ∃ W, W = wr := ⟨_, rfl⟩
    subst hW5
    have hcn1 : W5.cell? ⟨w.heap.size + 2, 1, none⟩ = some (.int .i64 v) := hbox.cell 1
    by_cases hkn : k < nn
    case neg =>
      obtain rfl : k = nn := by omega
      have hf : decide ((k : Int) < (k : Int)) = false := decide_eq_false (by omega)
      have hf2 : decide (k < k) = false := decide_eq_false (by omega)
      have HOne : Hid (∀ s' z' p', IsNode b s' z' p' → s' = s1 ∧ z' = v ∧ p' = placesOf b k) := Lib.hid (fun s' z' p' h => by
        have e1 := h.long
        have e2 := h.size_
        have e3 := h.count
        have e4 : z' = v := by rw [← e2, Hv.out]
        have e5 := Hnn.out
        rw [e4] at e3
        refine ⟨?_, e4, ?_⟩
        · rw [← Hs.out, Hx.out, e1, h.name_]
        · rw [← h.places_, show p'.length = k by omega])
      have hltk := hbox.lt
      have hltR := hboxR.lt
      have hcb := hbox.cell
      have hcb0 := hbox.cell 0
      have hcb2 := hbox.cell 2
      have hap := hown.apart hboxR (by decide)
      have hrD : Rd .u8 W5.drew B (some ⟨bb, off, none⟩) c b := hrk.drewN 1
      have hcv0 := conv_str (n := 64) (w := W5.drew) hrD hn ho
      obtain ⟨sb, Hsb⟩ : ∃ sb, Hid (sb = str b) := ⟨_, rfl⟩
      rw [← Hsb.out] at hcv0
      by_cases hok : NodeOk s1 v ((placesOf b k).map fun x : Nat => (x : Int))
      case neg =>
        have HNN : Hid (∀ s' z' p', ¬ IsNode b s' z' p') := Lib.hid (fun s' z' p' h => by
          obtain ⟨rfl, rfl, rfl⟩ := HOne.out s' z' p' h
          exact hok h.ok)
        have hs63 : s1.size ≤ 9223372036854775807 := by
          rw [← Hs.out]; unfold nameOf str; show (Array.size _) ≤ _; simp; omega
        have HBN := Lib.hid (bytes'_none W5.drew s1 hs63 v (by omega) W5.heap.size A4 c4 k _ (by rw [List.length_map, placesOf_length]) (RdI.of_rd (hown.rd.drewN 1)) (Nat.le_refl _) hok)
        have hne := str_ne (l := []) (l' := b) (fun x hx => by simp at hx) ho (fun e => by rw [← e] at hn; simp at hn)
        rw [← Hsb.out] at hne
        have hcn : ∀ W, _ := fun W => conv_str (n := 0) (l := []) (A := none) (c := 0) (w := W) (Rd.nil_ _ _ 0) rfl (fun x hx => by simp at hx)
        generalize str [] = s0 at *
        clear hok
        go_wp2_with fail
        refine (need'_any W5 v (by omega) k Hnn.out).mono ?_
        rintro e w5 ⟨rfl, rfl⟩
        go_wp2_with fail
        go_region_law (first
          | (go_simp; go_at_call 14; refine HBN.out.mono ?_; rintro e w6 ⟨rfl, hb6⟩; have hcv6 := conv_str (n := 64) (hrD.under (hb6.mono (show B ≤ W5.drew.heap.size by show B ≤ W5.heap.size; omega))) hn ho; rw [← Hsb.out] at hcv6; go_simp))
        all_goals
          have hbox6 := (hboxR.drewN 1).under hb6 (show w.heap.size < W5.heap.size from hltR)
          have hb6' := (below_drewN hbk 1).trans (hb6.mono (show w.heap.size ≤ W5.heap.size by omega))
          have hc6 := hbox6.cell
          have hfz6 := hbox6.open_
          clear hcv6 hcv0 hcn HBN
          go_wp2_with fail
          refine bodyPost_ret (v := .tuple #[.agg #[.string ⟨#[]⟩, .int .i64 0, .slice none 0 0], .bool false, .bool false]) (by simp [results, Try.results9, go_sem, hc6]) rfl ?_
          exact read_none H0.out HNN.out (by repeat (first | exact hb6' | refine Below.setCell ?_ (by simp) _))
      case pos =>
      have HOK := Lib.hid hok
      have hs40 := hok.name.high
      have HBS := Lib.hid (bytes'_some W5.drew s1 v W5.heap.size A4 c4 k (placesOf b k) (placesOf_length b k) (hown.rd.drewN 1) (Nat.le_refl _) hok (placesOf_le ho k))
      have hv600 : v ≤ 600 := by have := hok.z600; omega
      have HEO : Hid (Oct8 (enc s1 v (placesOf b k))) := Lib.hid (enc_oct hs40 hv600 (placesOf_le ho k))
      clear hok
      by_cases heq : enc s1 v (placesOf b k) = b
      case neg =>
        have HNN : Hid (∀ s' z' p', ¬ IsNode b s' z' p') := Lib.hid (fun s' z' p' h => by
          obtain ⟨rfl, rfl, rfl⟩ := HOne.out s' z' p' h
          exact heq h.enc)
        have hne := str_ne HEO.out ho heq
        rw [← Hsb.out] at hne
        obtain ⟨se, Hse⟩ : ∃ se, Hid (se = str (enc s1 v (placesOf b k))) := ⟨_, rfl⟩
        rw [← Hse.out] at hne
        have HCB : Hid (∀ (w6 : World) (g : Nat), Row .u8 5 w6 g (enc s1 v (placesOf b k)) → (convert 22 9 (.slice (some ⟨g, 0, none⟩) 64 64)).run Try.prog w6 = .ok (.string se) w6) := Lib.hid (fun w6 g h => by
          have h' := conv_str (n := 64) (c := 64) (h.rd_all (enc_length _ _ _) (by omega)) (enc_length _ _ _) HEO.out
          rwa [← Hse.out] at h')
        clear heq
        go_wp2_with fail
        refine (need'_any W5 v (by omega) k Hnn.out).mono ?_
        rintro e w5 ⟨rfl, rfl⟩
        go_wp2_with fail
        go_region_law (first
          | (go_simp; go_at_call 14; refine HBS.out.mono ?_; rintro e w6 ⟨g, rfl, hg, hrow6, hb6⟩; have hcv6 := conv_str (n := 64) (hrD.under (hb6.mono (show B ≤ W5.drew.heap.size by show B ≤ W5.heap.size; omega))) hn ho; rw [← Hsb.out] at hcv6; have hcw6 := HCB.out w6 g hrow6; go_simp))
        all_goals
          have hbox6 := (hboxR.drewN 1).under hb6 (show w.heap.size < W5.heap.size from hltR)
          have hb6' := (below_drewN hbk 1).trans (hb6.mono (show w.heap.size ≤ W5.heap.size by omega))
          have hc6 := hbox6.cell
          have hfz6 := hbox6.open_
          clear hcv6 hcv0 hcw6 HBS
          go_wp2_with fail
          refine bodyPost_ret (v := .tuple #[.agg #[.string ⟨#[]⟩, .int .i64 0, .slice none 0 0], .bool false, .bool false]) (by simp [results, Try.results9, go_sem, hc6]) rfl ?_
          exact read_none H0.out HNN.out (by repeat (first | exact hb6' | refine Below.setCell ?_ (by simp) _))
      case pos =>
        have HEQ := Lib.hid heq
        have HCB : Hid (∀ (w6 : World) (g : Nat), Row .u8 5 w6 g b → (convert 22 9 (.slice (some ⟨g, 0, none⟩) 64 64)).run Try.prog w6 = .ok (.string sb) w6) := Lib.hid (fun w6 g h => by
          have h' := conv_str (n := 64) (c := 64) (h.rd_all hn (by omega)) hn ho
          rwa [← Hsb.out] at h')
        rw [heq] at HBS
        have hown1 := hown.apart hbox (by decide)
        clear heq
        go_wp2_with fail
        refine (need'_any W5 v (by omega) k Hnn.out).mono ?_
        rintro e w5 ⟨rfl, rfl⟩
        go_wp2_with fail
        go_region_law (first
          | (go_simp; go_at_call 14; refine HBS.out.mono ?_; rintro e w6 ⟨g, rfl, hg, hrow6, hb6⟩; have hcv6 := conv_str (n := 64) (hrD.under (hb6.mono (show B ≤ W5.drew.heap.size by show B ≤ W5.heap.size; omega))) hn ho; rw [← Hsb.out] at hcv6; have hcw6 := HCB.out w6 g hrow6; go_simp))
        all_goals
          have hbox6 := (hboxR.drewN 1).under hb6 (show w.heap.size < W5.heap.size from hltR)
          have hboxn6 := (hbox.drewN 1).under hb6 (show w.heap.size + 2 < W5.heap.size from hltk)
          have hown6 := (hown.drewN 1).under_all hb6
          have hb6' := (below_drewN hbk 1).trans (hb6.mono (show w.heap.size ≤ W5.heap.size by omega))
          have hc6 := hbox6.cell
          have hfz6 := hbox6.open_
          have hd0 := hboxn6.cell 0
          have hd1 := hboxn6.cell 1
          have hd2 := hboxn6.cell 2
          clear hcv6 hcv0 hcw6 HBS
          go_wp2_with fail
          refine bodyPost_ret (v := .tuple #[.agg #[.string s1, .int .i64 v, .slice A4 k c4], .bool false, .bool true]) (by simp [results, Try.results9, go_sem, hc6]) rfl ?_
          refine ⟨s1, v, A4, k, c4, placesOf b k, false, true, rfl, Lib.hid (.node ⟨HOK.out, placesOf_le ho k, HEQ.out⟩), placesOf_length b k, Own.rd (B := w.heap.size) (e := 3) (by repeat (first | exact hown6 | refine Own.aside ?_ hap _)), by repeat (first | exact hb6' | refine Below.setCell ?_ (by simp) _)⟩
    case pos =>
    have hk0 : (0 : Int) ≤ (k : Int) := by omega
    have hkI : (k : Int) < (nn : Int) := by omega
    obtain ⟨_, _, y1, e0, _, hy1, Hy1⟩ := hrk.at_ (i := 43 + 2 * k) (by omega)
    obtain ⟨rfl, rfl⟩ : bb = _ ∧ off = _ := by injection e0 with e0; injection e0 with e1 e2; exact ⟨e1, e2⟩
    obtain ⟨_, _, y2, e0', _, hy2, Hy2⟩ := hrk.at_ (i := 44 + 2 * k) (by omega)
    obtain ⟨rfl, rfl⟩ : bb = _ ∧ off = _ := by injection e0' with e0; injection e0 with e1 e2; exact ⟨e1, e2⟩
    clear e0 e0'
    have hy18 : y1 < 256 := by rw [Hy1.out]; exact ho' _
    have hy28 : y2 < 256 := by rw [Hy2.out]; exact ho' _
    obtain ⟨xx, hxx⟩ : ∃ xx : Nat, y1 * 256 + y2 = xx := ⟨_, rfl⟩
    have hxI : (y1 : Int) * 256 + (y2 : Int) = (xx : Int) := by omega
    have HPP : Hid (placesOf b (k + 1) = placesOf b k ++ [xx]) := Lib.hid (by
      rw [placesOf_succ]
      have e : two b (43 + 2 * k) = xx := by
        rw [← hxx, Hy1.out, Hy2.out]
        unfold two
        rw [show 43 + 2 * k + 1 = 44 + 2 * k by omega]
      rw [e])
    have hcb2 : W5.cell? ⟨w.heap.size + 2, 2, none⟩ = some (.slice A4 k c4) := hbox.cell 2
    have hcb3 : ∀ o, (W5.alloc o).cell? ⟨w.heap.size + 2, 2, none⟩ = some (.slice A4 k c4) := fun o => (hbox.alloc o).cell 2
    have hap := hown.apart hbox (by decide)
    have hapR := hown.apart hboxR (by decide)
    have HH : Hid (Holds (W5.alloc (.cells #[.int .i64 (xx : Int)] 3)).drew W5.heap.size 3 (nums .i64 [xx])) := Lib.hid ((Holds.fresh W5 3 (nums .i64 [xx])).drewN 1)
    have HPL := Lib.hid (placesOf_length b k)
    have hszk := hbk.size
    have hltk := hbox.lt
    go_wp2_with fail
    refine (need'_any W5 v (by omega) nn Hnn.out).mono ?_
    rintro e w5 ⟨rfl, rfl⟩
    go_wp2_with fail
    have g1 : (43 : Int) + 2 * (k : Int) < 64 := by omega
    have g2 : (44 : Int) + 2 * (k : Int) < 64 := by omega
    have g3 : (0 : Int) ≤ 43 + 2 * (k : Int) := by omega
    have g4 : (0 : Int) ≤ 44 + 2 * (k : Int) := by omega
    have ht1 : ((43 : Int) + 2 * (k : Int)).toNat = 43 + 2 * k := by omega
    have ht2 : ((44 : Int) + 2 * (k : Int)).toNat = 44 + 2 * k := by omega
    have hv1 : IntKind.i64.wrap (y1 : Int) = (y1 : Int) := IntWalk.i64_in _ (by omega)
    have hv2 : IntKind.i64.wrap (y2 : Int) = (y2 : Int) := IntWalk.i64_in _ (by omega)
    have hv3 : IntKind.i64.wrap (xx : Int) = (xx : Int) := IntWalk.i64_in _ (by omega)
    have hw1 : IntKind.i64.wrap (2 * (k : Int)) = 2 * (k : Int) := IntWalk.i64_in _ (by omega)
    have hw2 : IntKind.i64.wrap (43 + 2 * (k : Int)) = 43 + 2 * (k : Int) := IntWalk.i64_in _ (by omega)
    have hw3 : IntKind.i64.wrap (44 + 2 * (k : Int)) = 44 + 2 * (k : Int) := IntWalk.i64_in _ (by omega)
    have hw4 : IntKind.i64.wrap ((y1 : Int) * 256) = (y1 : Int) * 256 := IntWalk.i64_in _ (by omega)
    have hw5 : IntKind.i64.wrap ((y1 : Int) * 256 + (y2 : Int)) = (xx : Int) := by rw [hxI]; exact IntWalk.i64_in _ (by omega)
    apply share (H := fun g5 c5 w2 => Own .i64 3 w2 w.heap.size (some ⟨g5, 0, none⟩) c5 (placesOf b k ++ [xx]) ∧ (W5.alloc (.cells #[.int .i64 (xx : Int)] 3)).drew.grownBy w2 (blockOf A4))
    case h =>
      intro HEND
      go_region_law (refine step_push _ ?_ (.tmp 57) (.tmp 74) 23 ?_ .i64 w.heap.size 3 8 Try.underlying23 info_i64 A4 k c4 (placesOf b k) ?_ HPL.out ?_ W5.heap.size 1 1 [xx] ?_ rfl ?_ (by omega) (by omega) (by omega) ?_ ?_; (focus rfl); (focus rfl); (focus rfl); (focus exact Own.drewN (Own.alloc hown _) 1); (focus rfl); (focus exact HH.out); (focus (simp; omega)); intro g5 c5 w2 ho2 hg2 _; have HO2 := Lib.hid ho2; have HG2 := Lib.hid hg2; have hbox6 := ((hbox.alloc (.cells #[.int .i64 (xx : Int)] 3)).drewN 1).grown hg2 (Ne.symm hap); have hcc := hbox6.cell 2; have hff := hbox6.open_ 2; clear ho2 hg2)
      all_goals exact HEND.out g5 c5 w2 ⟨HO2.out, HG2.out⟩
    case hp =>
      intro g5 c5 w2 hh
      have HO2 := Lib.hid hh.1
      have HG2 := Lib.hid hh.2
      have hbox6 := ((hbox.alloc (.cells #[.int .i64 (xx : Int)] 3)).drewN 1).grown hh.2 (Ne.symm hap)
      clear hh
      have hstep : Below w.heap.size W5 w2 := ⟨HG2.out.os, HG2.out.tape, HG2.out.output, Nat.le_trans (by simp [World.drew]) HG2.out.size, fun q' hq => (HG2.out.block q' (by simp [World.drew]; omega) (fun e => by have := (hown.block e.symm).1; omega)).trans (Below.heap_alloc W5 _ q' (by omega))⟩
      have hbox7 : Holds (w2.setCell ⟨w.heap.size + 2, 2, none⟩ (.slice (some ⟨g5, 0, none⟩) (k + 1) c5)) (w.heap.size + 2) 28 #[.string s1, .int .i64 v, .slice (some ⟨g5, 0, none⟩) (k + 1) c5] := hbox6.stored 2 _
      have hboxR7 : Holds (w2.setCell ⟨w.heap.size + 2, 2, none⟩ (.slice (some ⟨g5, 0, none⟩) (k + 1) c5)) w.heap.size 28 #[.string ⟨#[]⟩, .int .i64 0, .slice none 0 0] := (((hboxR.alloc (.cells #[.int .i64 (xx : Int)] 3)).drewN 1).grown HG2.out (Ne.symm hapR)).aside (by simp) _
      have hown7 : Own .i64 3 (w2.setCell ⟨w.heap.size + 2, 2, none⟩ (.slice (some ⟨g5, 0, none⟩) (k + 1) c5)) w.heap.size (some ⟨g5, 0, none⟩) c5 (placesOf b k ++ [xx]) := HO2.out.aside (HO2.out.apart hbox6 (by decide)) _
      have hb7 : Below w.heap.size w (w2.setCell ⟨w.heap.size + 2, 2, none⟩ (.slice (some ⟨g5, 0, none⟩) (k + 1) c5)) := (hbk.trans hstep).setCell (by simp) _
      have hr7 : Rd .u8 (w2.setCell ⟨w.heap.size + 2, 2, none⟩ (.slice (some ⟨g5, 0, none⟩) (k + 1) c5)) B (some ⟨bb, off, none⟩) c b := hrk.under ((hstep.mono hB).setCell (by simp; omega) _)
      clear hw1 hw2 hw3 hw4 hw5 hv1 hv2 hv3 hbox6
      go_wp2_with fail
      go_roundw
      case rel => exact ⟨k + 1, some ⟨g5, 0, none⟩, c5, by omega, by go_num, hboxR7, hbox7, by rw [HPP.out]; exact hown7, hr7, hb7⟩
      case measure => simp [intOf]; omega

theorem read'_any (w : World) (B : Nat) (A : Option Addr) (c n : Nat) (b : List Nat) (hn : b.length = n) (hr : Rd .u8 w B A c b) (hB : B ≤ w.heap.size) (ho : Oct8 b) :
    Calls Try.prog 9 #[.slice A n c] w (ReadPost w b) := by
  by_cases h64 : n = 64
  · subst h64
    by_cases h0 : b = List.replicate 64 0
    · exact read'_zero w B A c b hn hr hB ho h0
    · exact read'_more w B A c b hn hr hB ho h0
  · exact read'_other w B A c n b hn hr hB ho h64
end Go.Proofs.Ytkfokgkehlcikaa
