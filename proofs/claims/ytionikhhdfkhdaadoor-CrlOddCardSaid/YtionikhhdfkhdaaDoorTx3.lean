/-
  Text: is it one, by the document; a text's thing, by atom and by the document; a thing's text.
-/
import Derived.Test.YtionikhhdfkhdaaDoorTx2
import Derived.Test.YtionikhhdfkhdaaDoorU4
import Derived.Test.YtionikhhdfkhdaaDoorTh4
namespace Go.Proofs.YtionikhhdfkhdaaDoor
open Go.RowKit BigFrame
set_option linter.unusedVariables false
set_option linter.unusedSimpArgs false
attribute [local go_sem ↓] Go.wp_at_zero Go.wp_at_succ

/-- May it be a text? -/
def textOk (l : List Nat) : Bool := decide (l.length ≤ 64) && vd l
theorem rune1_any (w : World) (l : List Nat) (ho : ∀ x ∈ l, x < 256) (hl : 0 < l.length) :
    Calls Tryd.prog 58 #[.string (str l)] w (RunePost w (rn l)) := by
  have := getD_oct ho 0
  rcases (by omega : l.getD 0 0 < 128 ∨ (128 ≤ l.getD 0 0 ∧ (l.getD 0 0 < 192 ∨ 248 ≤ l.getD 0 0)) ∨ (192 ≤ l.getD 0 0 ∧ l.getD 0 0 < 224) ∨ (224 ≤ l.getD 0 0 ∧ l.getD 0 0 < 240) ∨ (240 ≤ l.getD 0 0 ∧ l.getD 0 0 < 248)) with h | ⟨h, h'⟩ | ⟨h, h'⟩ | ⟨h, h'⟩ | ⟨h, h'⟩
  · exact rune1_asc w l ho hl h
  · exact rune1_none w l ho hl h h'
  · exact rune1_2 w l ho hl h h'
  · exact rune1_3 w l ho hl h h'
  · exact rune1_4 w l ho hl h h'
theorem str_list (l : List Nat) : (str l).data.toList = l.map UInt8.ofNat := by simp [str]
theorem str_extract (l : List Nat) (k : Nat) : (str l).extract k l.length = str (l.drop k) := by
  have h := Lib.ext_list (str l) k
  rw [str_len, str_list, ← List.map_drop] at h
  have e : ∀ a b : ByteArray, a.data.toList = b.data.toList → a = b := fun a b h => by
    cases a; cases b
    exact congrArg _ (Array.toList_inj.1 h)
  exact e _ _ (by rw [h, str_list])
set_option maxRecDepth 1000000 in
set_option maxHeartbeats 4000000 in
theorem isText'_any (w : World) (l : List Nat) (ho : ∀ x ∈ l, x < 256) :
    Calls Tryd.prog 36 #[.string (str l)] w fun e w' => e = .returned (.bool (textOk l)) ∧ Below w.heap.size w w' := by
  obtain ⟨r, hr⟩ : ∃ r, textOk l = r := ⟨_, rfl⟩
  rw [hr]
  obtain ⟨T, hT⟩ : ∃ T, str l = T := ⟨_, rfl⟩
  have hts : T.size = l.length := by rw [← hT, str_len]
  rw [hT]
  have HTT := Lib.hid hT
  clear hT
  by_cases h64 : 64 < l.length
  · have d1 : decide ((64 : Int) < (l.length : Int)) = true := decide_eq_true (by omega)
    have hr' : r = false := by rw [← hr]; unfold textOk; rw [decide_eq_false (by omega)]; rfl
    have HR := Lib.hid hr'
    clear hr hr'
    go_enter Tryd.func36, Tryd.ntmps36
    go_wp2_with fail
    go_ret
    rw [HR.out]
    exact ⟨rfl, Below.refl _ _⟩
  have d1 : decide ((64 : Int) < (l.length : Int)) = false := decide_eq_false (by omega)
  have hr' : vd l = r := by rw [← hr]; unfold textOk; rw [decide_eq_true (by omega)]; rfl
  have HV := Lib.hid hr'
  have HO : Hid (∀ x ∈ l, x < 256) := Lib.hid ho
  have hle : l.length ≤ 64 := by omega
  obtain ⟨n, hn⟩ : ∃ n, l.length = n := ⟨_, rfl⟩
  have HN := Lib.hid hn
  rw [hn] at hts d1 hle
  clear hr hr' ho hn h64
  go_enter Tryd.func36, Tryd.ntmps36
  go_wp2_with fail
  go_loopg [0] (65) (fun gk s wx => Below w.heap.size w wx ∧ ∃ (t : List Nat) (U : ByteArray) (m : Nat), s = .string U ∧ Hid (str t = U) ∧ Hid (∀ x ∈ t, x < 256) ∧ Hid (vd t = r) ∧ Hid (t.length = m) ∧ m < gk)
  case atStart => exact ⟨Below.refl _ _, l, T, n, rfl, HTT, HO, HV, HN, by omega⟩
  case round =>
    obtain ⟨hbw, t, U, m, rfl, HU, HOt, HVt, HM, hg⟩ := hrel
    have HB := Lib.hid hbw
    clear hbw HTT HO HV HN hts
    have hus : U.size = m := by rw [← HU.out, str_len, HM.out]
    by_cases h0 : 0 < m
    · have d0 : decide ((0 : Int) < (m : Int)) = true := decide_eq_true (by omega)
      have hc := rune1_any wr t HOt.out (by rw [HM.out]; exact h0)
      rw [HU.out] at hc
      have HC := Lib.hid hc
      clear hc
      obtain ⟨k, hk⟩ : ∃ k, rn t = k := ⟨_, rfl⟩
      rw [hk] at HC
      by_cases hk0 : k = 0
      · have hr' : r = false := by rw [← HVt.out]; exact rn_no HOt.out (by rw [HM.out]; exact h0) (by rw [hk, hk0])
        have HR := Lib.hid hr'
        have z0 : ((k : Int) == 0) = true := by simp [hk0]
        clear hr' hk
        go_wp2_with fail
        refine HC.out.mono ?_
        rintro e W1 ⟨rfl, hb1⟩
        have HB1 := Lib.hid (HB.out.trans (hb1.mono HB.out.size))
        clear hb1 HC
        go_wp2_with fail
        go_ret
        rw [HR.out]
        exact ⟨rfl, HB1.out⟩
      · have hy := rn_yes HOt.out (by rw [HM.out]; exact h0) (by rw [hk]; exact hk0)
        rw [hk, HM.out] at hy
        have hkm := hy.1
        have HY := Lib.hid hy.2
        have z0 : ((k : Int) == 0) = false := by rw [beq_eq_false_iff_ne]; omega
        obtain ⟨g', rfl⟩ : ∃ g', gk = g' + 1 := ⟨gk - 1, by omega⟩
        clear hy hk
        go_wp2_with fail
        refine HC.out.mono ?_
        rintro e W1 ⟨rfl, hb1⟩
        have HB1 := Lib.hid (HB.out.trans (hb1.mono HB.out.size))
        clear hb1 HC
        have hkz : (k : Int) ≤ (m : Int) := by omega
        go_wp2_with fail
        go_roundg g'
        case measure => omega
        case rel =>
          exact ⟨HB1.out, t.drop k, _, m - k, rfl, Lib.hid (by rw [← str_extract, HM.out, HU.out]), Lib.hid (fun x hx => HOt.out x (List.mem_of_mem_drop hx)), Lib.hid (by rw [HY.out]; exact HVt.out), Lib.hid (by rw [List.length_drop, HM.out]), by omega⟩
    · obtain rfl : m = 0 := by omega
      have d0 : decide ((0 : Int) < (0 : Int)) = false := rfl
      have ht : t = [] := List.eq_nil_of_length_eq_zero HM.out
      have hr' : r = true := by rw [← HVt.out, ht, vd_nil]
      have HR := Lib.hid hr'
      clear hr' ht
      go_wp2_with fail
      go_ret
      rw [HR.out]
      exact ⟨rfl, HB.out⟩
theorem conv_bytes (b : List Nat) (ho : Oct8 b) (hl : b.length ≤ 9223372036854775807) : ∃ (cap : World → Nat) (o : World → Obj), (∀ W, (convert 9 24 (.string (str b))).run Tryd.prog W = .ok (.slice (some ⟨W.heap.size, 0, none⟩) b.length (cap W)) (W.drew.alloc (o W))) ∧
    ∀ W, Rd .u8 (W.drew.alloc (o W)) (W.heap.size + 1) (some ⟨W.heap.size, 0, none⟩) (cap W) b := by
  refine ⟨_, _, fun W => by rw [← str_len b]; exact run_bytes_of_string (P := Tryd.prog) W 9 24 5 (str b) Tryd.underlying9 Tryd.underlying24 Tryd.underlying5, fun W => ?_⟩
  have hg := grownCap_ge W (str b).size 0 5
  have hm := grownCap_le_maxLen W (str b).size 0 5 (by rw [str_len]; simp [maxLen]; omega)
  rw [str_len] at hg hm ⊢
  refine ⟨hg, by unfold maxLen at hm; exact hm, fun h0 => ⟨W.heap.size, 0, rfl, by omega, fun j hj => ?_⟩⟩
  rw [Nat.zero_add, cell_of_row (W.drew.alloc _) W.heap.size j _ 5 _ (heap_alloc_new W.drew _)]
  rw [bytesRow_at (str b) _ j (by simpa [str] using hj)]
  have hx := ho b[j] (List.getElem_mem hj)
  simp [str, List.getD, hj, Nat.mod_eq_of_lt hx]
theorem Off.of_new {k : IntKind} {xs : List Nat} {w : World} {B : Nat} {A : Option Addr} {c : Nat} {l : List Nat} (h : Rd k w B A c l) (hB : B ≤ w.heap.size) (hx : ∀ g, blk_of A = some g → g ∉ xs) : Off xs (fun w => Rd k w w.heap.size A c l) w := fun w' h2 h3 => by
  refine ⟨h.1, h.2.1, fun hn => ?_⟩
  obtain ⟨g, off, rfl, hlt, hc⟩ := h.2.2 hn
  refine ⟨g, off, rfl, by omega, fun j hj => ?_⟩
  simp only [World.cell?]
  rw [h3 g (hx g rfl) (by omega)]
  exact hc j hj
set_option maxRecDepth 100000 in
set_option maxHeartbeats 2000000 in
theorem text_any (w : World) (xs : List Nat) (l : List Nat) (ho : ∀ x ∈ l, x < 256) (hl : l.length ≤ 9223372036854775807) (hxs : ∀ x ∈ xs, x < w.heap.size) :
    Calls Tryd.prog 39 #[.string (str l)] w (MadeT w xs (.mk 12 l [])) := by
  obtain ⟨V, hV⟩ : ∃ V, V = w.alloc (.cells #[.int .u8 0, .slice none 0 0, .slice none 0 0] 43) := ⟨_, rfl⟩
  have hz : Holds V w.heap.size 43 #[.int .u8 0, .slice none 0 0, .slice none 0 0] := by rw [hV]; exact Holds.fresh _ _ _
  have HB0 : Hid (Below w.heap.size w V) := Lib.hid (by rw [hV]; exact (Below.refl _ _).alloc (Nat.le_refl _) _)
  have hVs : w.heap.size < V.heap.size := hz.lt
  obtain ⟨cap, o, hconv, hrd⟩ := conv_bytes l ho hl
  have hrun := hconv V
  have HR := Lib.hid (hrd V)
  have hz2 : Holds (V.drew.alloc (o V)) w.heap.size 43 #[.int .u8 0, .slice none 0 0, .slice none 0 0] := Holds.alloc (w := V.drew) hz (o V)
  have HQ2 : Hid (Below w.heap.size w (V.drew.alloc (o V))) := Lib.hid (HB0.out.drew.alloc HB0.out.size _)
  have HS2 : Hid (V.heap.size + 1 = (V.drew.alloc (o V)).heap.size) := Lib.hid (by simp)
  generalize hW2 : V.drew.alloc (o V) = W2 at *
  obtain ⟨G, hG⟩ : ∃ G, V.heap.size = G := ⟨_, rfl⟩
  obtain ⟨C, hC⟩ : ∃ C, cap V = C := ⟨_, rfl⟩
  rw [hG] at hrun HR HS2 hVs
  rw [hC] at hrun HR
  rw [hV] at hrun
  have z0 := hz2.cell 0
  have z1 := hz2.cell 1
  have z2 := hz2.cell 2
  have y0 := hz2.open_ 0
  have y1 := hz2.open_ 1
  have y2 := hz2.open_ 2
  have HV := Lib.hid hV
  have HO := Lib.hid ho
  clear hconv hrd hV ho hW2 hz hG hC HV
  go_enter Tryd.func39, Tryd.ntmps39
  go_wp2_with fail
  refine ret_one rfl rfl (((hz2.stored 0 _).stored 1 _).stored 2 _) rfl ?_
  refine ⟨.mk 12 (some ⟨G, 0, none⟩) C l none 0 [], rfl, rfl, made_out (off_body (Off.of_new HR.out (by rw [HS2.out]; exact Nat.le_refl _) fun g hg hx => ?_) (by omega) HO.out) _ _ _, below_out HQ2.out _ _ _⟩
  have hg' : G = g := by simpa [blk_of] using hg
  rcases List.mem_cons.1 hx with h2 | h2
  · omega
  · have := hxs g h2; omega
end Go.Proofs.YtionikhhdfkhdaaDoor
