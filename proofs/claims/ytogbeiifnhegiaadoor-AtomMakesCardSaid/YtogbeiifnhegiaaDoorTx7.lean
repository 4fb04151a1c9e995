/-
  Any truth, text, bytes, ID, things as a thing, and back (statement AtomMakes): the law's walk.
-/
import Derived.Test.YtogbeiifnhegiaaDoorTx5
import Derived.Test.YtogbeiifnhegiaaDoorAt8
import Derived.Test.YtogbeiifnhegiaaDoorStrong
import Derived.Deep.RegionHeld3
namespace Go.Proofs.YtogbeiifnhegiaaDoor
open Go.RowKit BigFrame
set_option linter.unusedVariables false
set_option linter.unusedSimpArgs false
attribute [local go_sem ↓] Go.wp_at_zero Go.wp_at_succ

def Of6 (lt : Lt) (t : Nat) (a : Option Addr) (n c : Nat) (k : Option Addr) (m d : Nat) : Prop := lcell lt = [.int .u8 (t : Int), .slice a n c, .slice k m d]
theorem MadeT.six {w w' : World} {xs : List Nat} {T : Tr} {e : Ending} (h : MadeT w xs T e w') : ∃ (lt : Lt) (t : Nat) (a : Option Addr) (n c : Nat) (k : Option Addr) (m d : Nat), e = .returned (.agg #[.int .u8 (t : Int), .slice a n c, .slice k m d]) ∧ Of6 lt t a n c k m d ∧ lt.t = T ∧ Off xs (ThP lt) w' ∧ Below w.heap.size w w' := by
  obtain ⟨lt, rfl, h1, h2, h3⟩ := h
  exact ⟨lt, _, _, _, _, _, _, _, rfl, rfl, h1, h2, h3⟩
theorem MadeT.prim {w w' : World} {xs : List Nat} {tag : Nat} {b : List Nat} {e : Ending} (h : MadeT w xs (.mk tag b []) e w') : ∃ A c K kc, e = .returned (.agg #[.int .u8 (tag : Int), .slice A b.length c, .slice K 0 kc]) ∧ Rd .u8 w' w'.heap.size A c b ∧ Below w.heap.size w w' := by
  obtain ⟨lt, rfl, hlt, hoff, hb⟩ := h
  obtain ⟨h1, h2, h3⟩ := lt_parts hlt
  rcases lt with ⟨t, ba, bc, body, ka, kc, kids⟩
  simp only [Lt.tag, Lt.body, Lt.kids] at h1 h2 h3
  subst h1 h2
  refine ⟨ba, bc, ka, kc, ?_, (ThP.iff.1 hoff.at_).2.1, hb⟩
  rw [List.length_nil] at h3
  show Ending.returned (.agg #[.int .u8 (t : Int), .slice ba body.length bc, .slice ka kids.length kc]) = _
  rw [h3]
theorem Of6.val {lt : Lt} {t n c m d : Nat} {a k : Option Addr} (h : Of6 lt t a n c k m d) : lt.val = .agg #[.int .u8 (t : Int), .slice a n c, .slice k m d] := by
  unfold Lt.val
  rw [← lcell_cells, show lcell lt = _ from h]
theorem same6 {lt lt' : Lt} {t n c m d t' n' c' m' d' : Nat} {a k a' k' : Option Addr} (h : Of6 lt t a n c k m d) (h' : Of6 lt' t' a' n' c' k' m' d') {w : World} {xs ys : List Nat} (ho : Off xs (ThP lt) w) (ho' : Off ys (ThP lt') w) (e : lt.t = lt'.t) :
    Calls Tryd.prog 19 #[.agg #[.int .u8 (t : Int), .slice a n c, .slice k m d], .agg #[.int .u8 (t' : Int), .slice a' n' c', .slice k' m' d']] w fun e w' => e = .returned (.bool true) ∧ Below w.heap.size w w' := by
  have := same'_any lt lt' w w.heap.size ho.at_ ho'.at_ (Nat.le_refl _) true (by simp [e])
  rwa [h.val, h'.val] at this
theorem bool_back (v : Bool) : boolOf 1 0 [if v then 255 else 0] = some v := by cases v <;> decide +kernel
theorem tx_back (l : List Nat) : txOf 12 0 l = if textOk l = true then some l else none := by simp [txOf, heldOk]
theorem bi_back (l : List Nat) : bitsOf 3 0 (0 :: l) = some l := by simp [bitsOf, heldOk]
theorem seqPost_one {w w' : World} {xs : List Nat} {ks : List Lt} {b : Bool} {e : Ending} (h : SeqPost w xs ks b e w') : ∃ A c m, e = .returned (.tuple #[.slice A m c, .bool b]) ∧ (b = true → m = ks.length) ∧ Below w.heap.size w w' := by
  cases b
  · exact ⟨none, 0, 0, h.1, by simp, h.2⟩
  · obtain ⟨A, c, h1, _, h3⟩ := h
    exact ⟨A, c, ks.length, h1, fun _ => rfl, h3⟩
set_option maxRecDepth 1000000 in
set_option maxHeartbeats 16000000 in
theorem makes_yes (w : World) (hT : Lib.Utf8Tabs 0 1 w) (v : Bool) (l1 : List Nat) (ho1 : ∀ x ∈ l1, x < 256) (A2 : Option Addr) (n2 c2 : Nat) (l2 : List Nat) (hn2 : l2.length = n2) (hr2 : Rd .u8 w w.heap.size A2 c2 l2) (ho2 : ∀ x ∈ l2, x < 256) (tg : Nat) (htg : tg < 256) (A4 : Option Addr) (n4 c4 : Nat) (ks : List Lt) (hn4 : ks.length = n4) (hk : Off [] (KiP A4 c4 ks) w) (n1 : Nat) (hn1 : l1.length = n1) (q1 : n1 ≤ 200) (q2 : n2 ≤ 300) (q4 : n4 ≤ 10) :
    Calls Tryd.prog 3 #[.bool v, .string (str l1), .slice A2 n2 c2, .int .u8 (tg : Int), .slice A4 n4 c4] w fun e w' => e = .returned (.bool true) ∧ Below w.heap.size w w' := by
  have t1 : decide ((200 : Int) < (n1 : Int)) = false := decide_eq_false (by omega)
  have t2 : decide ((300 : Int) < (n2 : Int)) = false := decide_eq_false (by omega)
  have t4 : decide ((10 : Int) < (n4 : Int)) = false := decide_eq_false (by omega)
  have hsz : (str l1).size = n1 := by rw [str_len]; exact hn1
  have HR2 := Lib.hid hr2
  have HO2 := Lib.hid ho2
  have HN2 := Lib.hid hn2
  have HO1 := Lib.hid ho1
  have HN1 := Lib.hid hn1
  have HN4 := Lib.hid hn4
  have HK := Lib.hid hk
  have HT := Lib.hid hT
  have H0 : Hid (Below w.heap.size w w) := Lib.hid (Below.refl _ _)
  obtain ⟨I, hI⟩ : ∃ I, idOk l2 = I := ⟨_, rfl⟩
  obtain ⟨P, hP⟩ : ∃ P, parted tg = P := ⟨_, rfl⟩
  have HI := Lib.hid hI
  have HP := Lib.hid hP
  have hand := parted_is tg htg
  rw [hP] at hand
  have HAND := Lib.hid hand
  have HAND2 : Hid ((bits .and .u8 (tg : Int) 32 == 0) = !P) := Lib.hid (by unfold bne at hand; rw [← hand, Bool.not_not])
  clear hr2 ho2 hn2 ho1 hn1 hn4 hk hT hI hP hand
  go_enter Tryd.func3, Tryd.ntmps3
  go_wp2_with fail
  refine (bool_any w [] v (by simp)).mono ?_
  intro e w1 hm
  obtain ⟨a1, d1, K1, e1, rfl, hr1, hb⟩ := hm.prim
  have H1 := Lib.hid (H0.out.trans (hb.mono H0.out.size))
  have HR1 := Lib.hid hr1
  clear hm hb hr1
  have hgb := getBool_any w1 1 1 d1 0 e1 _ a1 K1 _ HR1.out rfl (Nat.le_refl _)
  rw [bool_back] at hgb
  have HGB := Lib.hid hgb
  clear hgb
  go_wp2_with fail
  refine HGB.out.mono ?_
  rintro e w2 ⟨rfl, hb⟩
  have H2 := Lib.hid (H1.out.trans (hb.mono H1.out.size))
  clear hb HGB HR1
  go_wp2_with fail
  refine (text_any w2 [] l1 HO1.out (by have := HN1.out; omega) (by simp)).mono ?_
  intro e w3 hm
  obtain ⟨a3, d3, K3, e3, rfl, hr3, hb⟩ := hm.prim
  have H3 := Lib.hid (H2.out.trans (hb.mono H2.out.size))
  have hgt := getText_any w3 12 n1 d3 0 e3 _ a3 K3 l1 hr3 HN1.out (Nat.le_refl _) HO1.out (Utf8Tabs_below HT.out H3.out)
  rw [tx_back] at hgt
  rw [HN1.out]
  have HGT := Lib.hid hgt
  clear hm hb hr3 hgt
  go_wp2_with fail
  refine HGT.out.mono ?_
  intro e w4 hm
  obtain ⟨rfl, hb⟩ := hm.one
  have H4 := Lib.hid (H3.out.trans (hb.mono H3.out.size))
  clear hm hb HGT
  obtain ⟨tk, htk⟩ : ∃ tk, textOk l1 = tk := ⟨_, rfl⟩
  have htx : (if textOk l1 = true then some l1 else none : Option (List Nat)).isSome = tk := by rw [htk]; cases tk <;> rfl
  obtain ⟨X, hX⟩ : ∃ X, (if textOk l1 = true then some l1 else none : Option (List Nat)).getD [] = X := ⟨_, rfl⟩
  have hXt : tk = true → X = l1 := fun h => by rw [← hX, htk, if_pos h]; rfl
  rw [htx, hX]
  have HXT := Lib.hid hXt
  have HTK := Lib.hid htk
  clear htx htk hX hXt
  have HC4 := Lib.hid (octets_any w4 [] A2 c2 n2 _ l2 (HR2.out.under H4.out) HN2.out H4.out.size (by omega) HO2.out (by simp))
  go_wp2_with fail
  refine HC4.out.mono ?_
  intro e w5 hm
  obtain ⟨a5, d5, K5, e5, rfl, hr5, hb⟩ := hm.prim
  have H5 := Lib.hid (H4.out.trans (hb.mono H4.out.size))
  rw [HN2.out]
  have hgo := getOct_any w5 4 n2 d5 0 e5 _ a5 K5 l2 hr5 HN2.out (Nat.le_refl _) (by omega)
  rw [if_pos (show heldOk 4 0 4 = true from rfl)] at hgo
  have HGO := Lib.hid hgo
  clear hm hb hr5 hgo HC4
  go_wp2_with fail
  refine HGO.out.mono ?_
  rintro e w6 ⟨a6, d6, rfl, hm6, hb⟩
  have H6 := Lib.hid (H5.out.trans (hb.mono H5.out.size))
  rw [HN2.out]
  have HM6 := Lib.hid hm6
  clear hb hm6 HGO
  have HC6 := Lib.hid (digs_any w6 [] A2 c2 n2 _ l2 (HR2.out.under H6.out) HN2.out H6.out.size (by omega) HO2.out (by simp))
  go_wp2_with fail
  refine HC6.out.mono ?_
  intro e w7 hm
  obtain ⟨a7, d7, K7, e7, rfl, hr7, hb⟩ := hm.prim
  have H7 := Lib.hid (H6.out.trans (hb.mono H6.out.size))
  have B7 := Lib.hid hb
  obtain ⟨n7, hn7⟩ : ∃ n7, (0 :: l2).length = n7 := ⟨_, rfl⟩
  have hgd := getBits_any w7 3 n7 d7 0 e7 _ a7 K7 (0 :: l2) hr7 hn7 (Nat.le_refl _) (by rw [← hn7, List.length_cons, HN2.out]; omega)
  rw [bi_back] at hgd
  rw [hn7]
  have HGD := Lib.hid hgd
  clear hm hb hr7 hgd HC6 hn7
  go_wp2_with fail
  refine HGD.out.mono ?_
  rintro e w8 ⟨a8, d8, rfl, hm8, hb⟩
  have H8 := Lib.hid (H7.out.trans (hb.mono H7.out.size))
  have B8 := Lib.hid (B7.out.trans (hb.mono B7.out.size))
  rw [HN2.out]
  have HM8 := Lib.hid hm8
  clear hb hm8 HGD B7
  have HC8 := Lib.hid (id_any w8 [] A2 c2 n2 _ l2 (HR2.out.under H8.out) HN2.out H8.out.size (by omega) HO2.out (by simp))
  go_wp2_with fail
  refine HC8.out.mono ?_
  intro e w9 hm
  obtain ⟨a9, d9, K9, e9, rfl, hr9, hb⟩ := hm.prim
  have H9 := Lib.hid (H8.out.trans (hb.mono H8.out.size))
  have B9 := Lib.hid hb
  rw [HN2.out]
  have hgi := getID_any w9 6 n2 d9 0 e9 _ a9 K9 l2 hr9 HN2.out (Nat.le_refl _) HO2.out
  rw [show heldOk 6 0 6 = true from rfl, Bool.true_and, HI.out] at hgi
  have HGI := Lib.hid hgi
  clear hm hb hr9 hgi HC8
  go_wp2_with fail
  refine HGI.out.mono ?_
  intro e w10 hm
  obtain ⟨a10, d10, rfl, _, hb⟩ := hm.one
  have H10 := Lib.hid (H9.out.trans (hb.mono H9.out.size))
  have B10 := Lib.hid (B9.out.trans (hb.mono B9.out.size))
  have hio : (if I = true then some l2 else none : Option (List Nat)).isSome = I := by cases I <;> rfl
  obtain ⟨m10, hm10⟩ : ∃ m, ((if I = true then some l2 else none : Option (List Nat)).getD []).length = m := ⟨_, rfl⟩
  rw [hio, hm10]
  clear hm hb HGI B9 hio hm10
  have HT10 := Lib.hid (isText'_any w10 l1 HO1.out)
  go_wp2_with fail
  refine HT10.out.mono ?_
  rintro e w11 ⟨rfl, hb⟩
  have H11 := Lib.hid (H10.out.trans (hb.mono H10.out.size))
  have B11 := Lib.hid (B10.out.trans (hb.mono B10.out.size))
  have C11 := Lib.hid (B8.out.trans (B11.out.mono B8.out.size))
  have cv6 := conv_str (w := w11) (HM6.out.rd.under C11.out) HN2.out HO2.out
  have cv8 := conv_str (w := w11) (HM8.out.rd.under B11.out) HN2.out HO2.out
  have cv2 := conv_str (w := w11) (HR2.out.under H11.out) HN2.out HO2.out
  have ss := str_same l2
  have s1 := str_same l1
  have HC11 := Lib.hid (isID'_any w11 n2 c2 _ A2 l2 (HR2.out.under H11.out) HN2.out HO2.out)
  clear hb HT10 B10
  rw [HTK.out]
  cases tk
  case false =>
    go_wp2_with fail
    refine HC11.out.mono ?_
    rintro e w12 ⟨rfl, rfl⟩
    rw [HI.out]
    clear cv6 cv8 cv2 HC11 B11 C11 B8 HM6 HM8
    have HC12 := Lib.hid (seq_any w11 [] tg c4 n4 A4 ks (HK.out.under H11.out) HN4.out htg (by omega) (by simp))
    go_wp2_with fail
    refine HC12.out.mono ?_
    intro e w13 hm
    obtain ⟨lt, t, aa, nn, cc, kk, mm, dd, rfl, h6, hlt, hoff, hb⟩ := hm.six
    have H13 := Lib.hid (H11.out.trans (hb.mono H11.out.size))
    have HLT := Lib.hid hlt
    have H6' := Lib.hid h6
    have HOFF := Lib.hid hoff
    have hkids : mm = n4 ∧ t = tg ∧ nn = 0 ∧ ∃ kids : List Lt, kids.length = mm ∧ Off [] (KiP kk dd kids) w13 := by
      rcases lt with ⟨t', ba, bc, body, ka, kc, kids⟩
      have h6' : lcell (.mk t' ba bc body ka kc kids) = _ := h6
      obtain ⟨e1, e2, e3⟩ := lt_parts hlt
      simp only [Lt.tag, Lt.body, Lt.kids] at e1 e2 e3
      simp [lcell, Lt.tag, Lt.ba, Lt.bc, Lt.body, Lt.ka, Lt.kc, Lt.kids] at h6'
      obtain ⟨g1, ⟨_, g2, _⟩, g4, g3, g5⟩ := h6'
      refine ⟨by rw [← g3, e3, List.length_map, HN4.out], by omega, by rw [← g2, e2]; rfl, kids, g3, ?_⟩
      rw [← g4, ← g5]
      exact kids_off hoff
    obtain ⟨rfl, rfl, rfl, kids, hkl, hko⟩ := hkids
    have HKL := Lib.hid hkl
    have HKO := Lib.hid hko
    have hz := Holds.fresh w13 27 #[.int .u8 (t : Int), .slice aa 0 cc, .slice kk mm dd]
    have HA14 : Hid (Below w13.heap.size w13 (w13.alloc (.cells #[.int .u8 (t : Int), .slice aa 0 cc, .slice kk mm dd] 27))) := Lib.hid ((Below.refl _ _).alloc (Nat.le_refl _) _)
    have HZ := Lib.hid hz
    have H14 := Lib.hid (H13.out.trans (HA14.out.mono H13.out.size))
    have z0 := hz.cell 0
    have z1 := hz.cell 1
    have z2 := hz.cell 2
    clear hm hb h6 hlt hoff HC12 hkl hko hz
    have hgs := getSeq_any (w13.alloc (.cells #[.int .u8 (t : Int), .slice aa 0 cc, .slice kk mm dd] 27)) [] t 0 cc mm dd t aa kk kids (HKO.out.under HA14.out) HKL.out htg (by omega) (by simp)
    have hso : seqOk t 0 t = P := by simp [seqOk, HP.out]
    rw [hso] at hgs
    have HGS := Lib.hid hgs
    clear hgs hso
    go_wp2_with fail
    refine HGS.out.mono ?_
    intro e w15 hm
    obtain ⟨a15, d15, m15, rfl, hm15, hb⟩ := seqPost_one hm
    have H15 := Lib.hid (H14.out.trans (hb.mono H14.out.size))
    have B15 := Lib.hid (HA14.out.trans (hb.mono HA14.out.size))
    have hz := HZ.out.under hb HZ.out.lt
    have HZ15 : Hid (∀ W, Below w15.heap.size w15 W → W.cell? ⟨w13.heap.size, 0, none⟩ = some (.int .u8 (t : Int)) ∧ W.cell? ⟨w13.heap.size, 1, none⟩ = some (.slice aa 0 cc) ∧ W.cell? ⟨w13.heap.size, 2, none⟩ = some (.slice kk mm dd)) := Lib.hid fun W hW => by
      have h := hz.under hW hz.lt
      exact ⟨h.cell 0, h.cell 1, h.cell 2⟩
    have HO15 := Lib.hid (HOFF.out.under B15.out)
    have HM15 := Lib.hid hm15
    clear hm hb hz HGS hm15 z0 z1 z2 HZ
    go_wp2_with fail
    cases P
    case false =>
      refine wp_region_noPanic ?_
      refine wp_region_held_drew (S := fun W => Below w15.heap.size w15 W) (by kernel_rfl) (Below.refl _ w15).drew (fun hHeld => ?_)
      refine wpAnyH_take (i := 0) (oi := { dst := some 125, op := Op.load 27 (Operand.tmp 21), type := 27, pos := _, after := _, guard := none }) (v := ?_) rfl (by kernel_rfl) (by kernel_rfl) (by kernel_rfl) (fun _ _ _ h => h) (Or.inl ⟨by rfl, ?_⟩) hHeld ?_
      rotate_left 1
      · (intro W hW; obtain ⟨k0, k1, k2⟩ := HZ15.out W hW; (try dsimp only at hW); go_simp; try with_reducible rfl)
      try simp only [Act.put, List.setIfInBounds_toArray, List.set_cons_zero, List.set_cons_succ]
      refine wpAnyH_take (i := 1) (oi := { dst := some 126, op := Op.move (Operand.tmp 3), type := 5, pos := _, after := _, guard := none }) (v := ?_) rfl (by kernel_rfl) (by kernel_rfl) (by kernel_rfl) (fun _ _ _ h => h) (Or.inl ⟨by rfl, ?_⟩) hHeld ?_
      rotate_left 1
      · (intro W hW; (try dsimp only at hW); go_simp; try with_reducible rfl)
      try simp only [Act.put, List.setIfInBounds_toArray, List.set_cons_zero, List.set_cons_succ]
      refine wpAnyH_take (i := 2) (oi := { dst := some 127, op := Op.move (Operand.tmp 4), type := 23, pos := _, after := _, guard := none }) (v := ?_) rfl (by kernel_rfl) (by kernel_rfl) (by kernel_rfl) (fun _ _ _ h => h) (Or.inl ⟨by rfl, ?_⟩) hHeld ?_
      rotate_left 1
      · (intro W hW; (try dsimp only at hW); go_simp; try with_reducible rfl)
      try simp only [Act.put, List.setIfInBounds_toArray, List.set_cons_zero, List.set_cons_succ]
      refine wpAnyH_ready (rs := [3]) (by kernel_rfl) (by simp) ?_
      refine AllReadyH.cons (o := { dst := some 128, op := Op.call { callee := Callee.value (Operand.func 20), args := #[Operand.tmp 126, Operand.tmp 127], argTypes := #[5, 23] }, type := 27, pos := _, after := _, guard := none }) rfl (fun K hK => ?_) AllReadyH.nil
      go_simp
      refine (seq'_any _ [] t c4 mm A4 ks (HK.out.under (H15.out.trans ((Below.refl _ w15).drew.mono H15.out.size))) HN4.out htg).mono ?_
      intro e w16 hm
      obtain ⟨lt16, t16, a16, n16, c16, k16, m16, d16, rfl, h6, hlt, hoff, hb⟩ := hm.six
      have b16 : Hid (Below w15.heap.size w15 w16) := Lib.hid ((Below.refl _ w15).drew.trans hb)
      have H16 := Lib.hid (H15.out.trans (b16.out.mono H15.out.size))
      have HS16 := Lib.hid h6
      have HT16 := Lib.hid hlt
      have HO16 := Lib.hid hoff
      clear hm hb h6 hlt hoff
      go_simp
      refine hK.out _ _ (b16.out) (fun _ => ?_)
      clear hK K hHeld
      try simp only [Act.put, List.setIfInBounds_toArray, List.set_cons_zero, List.set_cons_succ]
      refine wpAnyH_strong (S' := fun W => Below w16.heap.size w16 W) (fun W hW => b16.out.trans (hW.mono b16.out.size)) _ _ _ _ ?_
      have hHeld : (fun W => Below w16.heap.size w16 W) w16 := Below.refl _ _
      refine wpAnyH_ready (rs := [4]) (by kernel_rfl) (by simp) ?_
      refine AllReadyH.cons (o := { dst := some 129, op := Op.call { callee := Callee.value (Operand.func 19), args := #[Operand.tmp 125, Operand.tmp 128], argTypes := #[27, 27] }, type := 4, pos := _, after := _, guard := none }) rfl (fun K hK => ?_) AllReadyH.nil
      go_simp
      refine (same6 H6'.out HS16.out (HO15.out.under b16.out) HO16.out (by rw [HLT.out, HT16.out])).mono ?_
      rintro e w17 ⟨rfl, hb⟩
      have b17 : Hid (Below w16.heap.size w16 w17) := Lib.hid hb
      have H17 := Lib.hid (H16.out.trans (b17.out.mono H16.out.size))
      clear hb
      go_simp
      refine hK.out _ _ (b17.out) (fun _ => ?_)
      clear hK K hHeld
      try simp only [Act.put, List.setIfInBounds_toArray, List.set_cons_zero, List.set_cons_succ]
      refine wpAnyH_strong (S' := fun W => Below w17.heap.size w17 W) (fun W hW => b17.out.trans (hW.mono b17.out.size)) _ _ _ _ ?_
      have hHeld : (fun W => Below w17.heap.size w17 W) w17 := Below.refl _ _
      refine wpAnyH_take (i := 5) (oi := { dst := some 130, op := Op.move (Operand.tmp 129), type := 4, pos := _, after := _, guard := none }) (v := ?_) rfl (by kernel_rfl) (by kernel_rfl) (by kernel_rfl) (fun _ _ _ h => h) (Or.inl ⟨by rfl, ?_⟩) hHeld ?_
      rotate_left 1
      · (intro W hW; (try dsimp only at hW); go_simp; try with_reducible rfl)
      try simp only [Act.put, List.setIfInBounds_toArray, List.set_cons_zero, List.set_cons_succ]
      refine wpAnyH_take (i := 6) (oi := { dst := some 131, op := Op.move (Operand.tmp 1), type := 9, pos := _, after := _, guard := some (5, true) }) (v := ?_) rfl (by kernel_rfl) (by kernel_rfl) (by kernel_rfl) (fun _ _ _ h => h) (Or.inl ⟨by rfl, ?_⟩) hHeld ?_
      rotate_left 1
      · (intro W hW; (try dsimp only at hW); go_simp; try with_reducible rfl)
      try simp only [Act.put, List.setIfInBounds_toArray, List.set_cons_zero, List.set_cons_succ]
      refine wpAnyH_take (i := 8) (oi := { dst := some 133, op := Op.move (Operand.tmp 1), type := 9, pos := _, after := _, guard := some (5, true) }) (v := ?_) rfl (by kernel_rfl) (by kernel_rfl) (by kernel_rfl) (fun _ _ _ h => h) (Or.inl ⟨by rfl, ?_⟩) hHeld ?_
      rotate_left 1
      · (intro W hW; (try dsimp only at hW); go_simp; try with_reducible rfl)
      try simp only [Act.put, List.setIfInBounds_toArray, List.set_cons_zero, List.set_cons_succ]
      refine wpAnyH_ready (rs := [7]) (by kernel_rfl) (by simp) ?_
      refine AllReadyH.cons (o := { dst := some 132, op := Op.call { callee := Callee.value (Operand.func 8), args := #[Operand.tmp 131], argTypes := #[9] }, type := 27, pos := _, after := _, guard := some (5, true) }) rfl (fun K hK => ?_) AllReadyH.nil
      go_simp
      refine (text_any _ [] l1 HO1.out (by have := HN1.out; omega) (by simp)).mono ?_
      intro e w18 hm
      obtain ⟨lt18, t18, a18, n18, c18, k18, m18, d18, rfl, h6, hlt, hoff, hb⟩ := hm.six
      have b18 : Hid (Below w17.heap.size w17 w18) := Lib.hid (hb)
      have H18 := Lib.hid (H17.out.trans (b18.out.mono H17.out.size))
      have HS18 := Lib.hid h6
      have HT18 := Lib.hid hlt
      have HO18 := Lib.hid hoff
      clear hm hb h6 hlt hoff
      go_simp
      refine hK.out _ _ (b18.out) (fun _ => ?_)
      clear hK K hHeld
      try simp only [Act.put, List.setIfInBounds_toArray, List.set_cons_zero, List.set_cons_succ]
      refine wpAnyH_strong (S' := fun W => Below w18.heap.size w18 W) (fun W hW => b18.out.trans (hW.mono b18.out.size)) _ _ _ _ ?_
      have hHeld : (fun W => Below w18.heap.size w18 W) w18 := Below.refl _ _
      refine wpAnyH_ready (rs := [9]) (by kernel_rfl) (by simp) ?_
      refine AllReadyH.cons (o := { dst := some 134, op := Op.call { callee := Callee.value (Operand.func 21), args := #[Operand.tmp 133], argTypes := #[9] }, type := 27, pos := _, after := _, guard := some (5, true) }) rfl (fun K hK => ?_) AllReadyH.nil
      go_simp
      refine (text'_any _ [] l1 HO1.out (by have := HN1.out; omega) (by simp)).mono ?_
      intro e w19 hm
      obtain ⟨lt19, t19, a19, n19, c19, k19, m19, d19, rfl, h6, hlt, hoff, hb⟩ := hm.six
      have b19 : Hid (Below w18.heap.size w18 w19) := Lib.hid (hb)
      have H19 := Lib.hid (H18.out.trans (b19.out.mono H18.out.size))
      have HS19 := Lib.hid h6
      have HT19 := Lib.hid hlt
      have HO19 := Lib.hid hoff
      clear hm hb h6 hlt hoff
      go_simp
      refine hK.out _ _ (b19.out) (fun _ => ?_)
      clear hK K hHeld
      try simp only [Act.put, List.setIfInBounds_toArray, List.set_cons_zero, List.set_cons_succ]
      refine wpAnyH_strong (S' := fun W => Below w19.heap.size w19 W) (fun W hW => b19.out.trans (hW.mono b19.out.size)) _ _ _ _ ?_
      have hHeld : (fun W => Below w19.heap.size w19 W) w19 := Below.refl _ _
      refine wpAnyH_ready (rs := [10]) (by kernel_rfl) (by simp) ?_
      refine AllReadyH.cons (o := { dst := some 135, op := Op.call { callee := Callee.value (Operand.func 19), args := #[Operand.tmp 132, Operand.tmp 134], argTypes := #[27, 27] }, type := 4, pos := _, after := _, guard := some (5, true) }) rfl (fun K hK => ?_) AllReadyH.nil
      go_simp
      refine (same6 HS18.out HS19.out (HO18.out.under b19.out) HO19.out (by rw [HT18.out, HT19.out])).mono ?_
      rintro e w20 ⟨rfl, hb⟩
      have b20 : Hid (Below w19.heap.size w19 w20) := Lib.hid hb
      have H20 := Lib.hid (H19.out.trans (b20.out.mono H19.out.size))
      clear hb
      go_simp
      refine hK.out _ _ (b20.out) (fun _ => ?_)
      clear hK K hHeld
      try simp only [Act.put, List.setIfInBounds_toArray, List.set_cons_zero, List.set_cons_succ]
      refine wpAnyH_strong (S' := fun W => Below w20.heap.size w20 W) (fun W hW => b20.out.trans (hW.mono b20.out.size)) _ _ _ _ ?_
      have hHeld : (fun W => Below w20.heap.size w20 W) w20 := Below.refl _ _
      refine wpAnyH_take (i := 11) (oi := { dst := some 136, op := Op.pick (Operand.tmp 130) (Operand.tmp 135) (Operand.const (Value.bool false)), type := 4, pos := _, after := _, guard := none }) (v := ?_) rfl (by kernel_rfl) (by kernel_rfl) (by kernel_rfl) (fun _ _ _ h => h) (Or.inl ⟨by rfl, ?_⟩) hHeld ?_
      rotate_left 1
      · (intro W hW; (try dsimp only at hW); go_simp; try with_reducible rfl)
      try simp only [Act.put, List.setIfInBounds_toArray, List.set_cons_zero, List.set_cons_succ]
      refine wpAnyH_take (i := 12) (oi := { dst := some 137, op := Op.move (Operand.tmp 136), type := 4, pos := _, after := _, guard := none }) (v := ?_) rfl (by kernel_rfl) (by kernel_rfl) (by kernel_rfl) (fun _ _ _ h => h) (Or.inl ⟨by rfl, ?_⟩) hHeld ?_
      rotate_left 1
      · (intro W hW; (try dsimp only at hW); go_simp; try with_reducible rfl)
      try simp only [Act.put, List.setIfInBounds_toArray, List.set_cons_zero, List.set_cons_succ]
      refine wpAnyH_take (i := 13) (oi := { dst := some 138, op := Op.move (Operand.tmp 2), type := 22, pos := _, after := _, guard := some (12, true) }) (v := ?_) rfl (by kernel_rfl) (by kernel_rfl) (by kernel_rfl) (fun _ _ _ h => h) (Or.inl ⟨by rfl, ?_⟩) hHeld ?_
      rotate_left 1
      · (intro W hW; (try dsimp only at hW); go_simp; try with_reducible rfl)
      try simp only [Act.put, List.setIfInBounds_toArray, List.set_cons_zero, List.set_cons_succ]
      refine wpAnyH_take (i := 15) (oi := { dst := some 140, op := Op.move (Operand.tmp 2), type := 22, pos := _, after := _, guard := some (12, true) }) (v := ?_) rfl (by kernel_rfl) (by kernel_rfl) (by kernel_rfl) (fun _ _ _ h => h) (Or.inl ⟨by rfl, ?_⟩) hHeld ?_
      rotate_left 1
      · (intro W hW; (try dsimp only at hW); go_simp; try with_reducible rfl)
      try simp only [Act.put, List.setIfInBounds_toArray, List.set_cons_zero, List.set_cons_succ]
      refine wpAnyH_ready (rs := [14]) (by kernel_rfl) (by simp) ?_
      refine AllReadyH.cons (o := { dst := some 139, op := Op.call { callee := Callee.value (Operand.func 10), args := #[Operand.tmp 138], argTypes := #[22] }, type := 27, pos := _, after := _, guard := some (12, true) }) rfl (fun K hK => ?_) AllReadyH.nil
      go_simp
      refine (octets_any _ [] A2 c2 n2 _ l2 (HR2.out.under H20.out) HN2.out H20.out.size (by omega) HO2.out (by simp)).mono ?_
      intro e w21 hm
      obtain ⟨lt21, t21, a21, n21, c21, k21, m21, d21, rfl, h6, hlt, hoff, hb⟩ := hm.six
      have b21 : Hid (Below w20.heap.size w20 w21) := Lib.hid (hb)
      have H21 := Lib.hid (H20.out.trans (b21.out.mono H20.out.size))
      have HS21 := Lib.hid h6
      have HT21 := Lib.hid hlt
      have HO21 := Lib.hid hoff
      clear hm hb h6 hlt hoff
      go_simp
      refine hK.out _ _ (b21.out) (fun _ => ?_)
      clear hK K hHeld
      try simp only [Act.put, List.setIfInBounds_toArray, List.set_cons_zero, List.set_cons_succ]
      refine wpAnyH_strong (S' := fun W => Below w21.heap.size w21 W) (fun W hW => b21.out.trans (hW.mono b21.out.size)) _ _ _ _ ?_
      have hHeld : (fun W => Below w21.heap.size w21 W) w21 := Below.refl _ _
      refine wpAnyH_ready (rs := [16]) (by kernel_rfl) (by simp) ?_
      refine AllReadyH.cons (o := { dst := some 141, op := Op.call { callee := Callee.value (Operand.func 22), args := #[Operand.tmp 140], argTypes := #[22] }, type := 27, pos := _, after := _, guard := some (12, true) }) rfl (fun K hK => ?_) AllReadyH.nil
      go_simp
      refine (octets'_any _ [] A2 c2 n2 _ l2 (HR2.out.under H21.out) HN2.out H21.out.size (by omega) HO2.out (by simp)).mono ?_
      intro e w22 hm
      obtain ⟨lt22, t22, a22, n22, c22, k22, m22, d22, rfl, h6, hlt, hoff, hb⟩ := hm.six
      have b22 : Hid (Below w21.heap.size w21 w22) := Lib.hid (hb)
      have H22 := Lib.hid (H21.out.trans (b22.out.mono H21.out.size))
      have HS22 := Lib.hid h6
      have HT22 := Lib.hid hlt
      have HO22 := Lib.hid hoff
      clear hm hb h6 hlt hoff
      go_simp
      refine hK.out _ _ (b22.out) (fun _ => ?_)
      clear hK K hHeld
      try simp only [Act.put, List.setIfInBounds_toArray, List.set_cons_zero, List.set_cons_succ]
      refine wpAnyH_strong (S' := fun W => Below w22.heap.size w22 W) (fun W hW => b22.out.trans (hW.mono b22.out.size)) _ _ _ _ ?_
      have hHeld : (fun W => Below w22.heap.size w22 W) w22 := Below.refl _ _
      refine wpAnyH_ready (rs := [17]) (by kernel_rfl) (by simp) ?_
      refine AllReadyH.cons (o := { dst := some 142, op := Op.call { callee := Callee.value (Operand.func 19), args := #[Operand.tmp 139, Operand.tmp 141], argTypes := #[27, 27] }, type := 4, pos := _, after := _, guard := some (12, true) }) rfl (fun K hK => ?_) AllReadyH.nil
      go_simp
      refine (same6 HS21.out HS22.out (HO21.out.under b22.out) HO22.out (by rw [HT21.out, HT22.out])).mono ?_
      rintro e w23 ⟨rfl, hb⟩
      have b23 : Hid (Below w22.heap.size w22 w23) := Lib.hid hb
      have H23 := Lib.hid (H22.out.trans (b23.out.mono H22.out.size))
      clear hb
      go_simp
      refine hK.out _ _ (b23.out) (fun _ => ?_)
      clear hK K hHeld
      try simp only [Act.put, List.setIfInBounds_toArray, List.set_cons_zero, List.set_cons_succ]
      refine wpAnyH_strong (S' := fun W => Below w23.heap.size w23 W) (fun W hW => b23.out.trans (hW.mono b23.out.size)) _ _ _ _ ?_
      have hHeld : (fun W => Below w23.heap.size w23 W) w23 := Below.refl _ _
      refine wpAnyH_take (i := 18) (oi := { dst := some 143, op := Op.pick (Operand.tmp 137) (Operand.tmp 142) (Operand.const (Value.bool false)), type := 4, pos := _, after := _, guard := none }) (v := ?_) rfl (by kernel_rfl) (by kernel_rfl) (by kernel_rfl) (fun _ _ _ h => h) (Or.inl ⟨by rfl, ?_⟩) hHeld ?_
      rotate_left 1
      · (intro W hW; (try dsimp only at hW); go_simp; try with_reducible rfl)
      try simp only [Act.put, List.setIfInBounds_toArray, List.set_cons_zero, List.set_cons_succ]
      refine wpAnyH_take (i := 19) (oi := { dst := some 144, op := Op.move (Operand.tmp 143), type := 4, pos := _, after := _, guard := none }) (v := ?_) rfl (by kernel_rfl) (by kernel_rfl) (by kernel_rfl) (fun _ _ _ h => h) (Or.inl ⟨by rfl, ?_⟩) hHeld ?_
      rotate_left 1
      · (intro W hW; (try dsimp only at hW); go_simp; try with_reducible rfl)
      try simp only [Act.put, List.setIfInBounds_toArray, List.set_cons_zero, List.set_cons_succ]
      refine wpAnyH_take (i := 20) (oi := { dst := some 145, op := Op.move (Operand.tmp 2), type := 22, pos := _, after := _, guard := some (19, true) }) (v := ?_) rfl (by kernel_rfl) (by kernel_rfl) (by kernel_rfl) (fun _ _ _ h => h) (Or.inl ⟨by rfl, ?_⟩) hHeld ?_
      rotate_left 1
      · (intro W hW; (try dsimp only at hW); go_simp; try with_reducible rfl)
      try simp only [Act.put, List.setIfInBounds_toArray, List.set_cons_zero, List.set_cons_succ]
      refine wpAnyH_take (i := 22) (oi := { dst := some 147, op := Op.move (Operand.tmp 2), type := 22, pos := _, after := _, guard := some (19, true) }) (v := ?_) rfl (by kernel_rfl) (by kernel_rfl) (by kernel_rfl) (fun _ _ _ h => h) (Or.inl ⟨by rfl, ?_⟩) hHeld ?_
      rotate_left 1
      · (intro W hW; (try dsimp only at hW); go_simp; try with_reducible rfl)
      try simp only [Act.put, List.setIfInBounds_toArray, List.set_cons_zero, List.set_cons_succ]
      refine wpAnyH_ready (rs := [21]) (by kernel_rfl) (by simp) ?_
      refine AllReadyH.cons (o := { dst := some 146, op := Op.call { callee := Callee.value (Operand.func 12), args := #[Operand.tmp 145], argTypes := #[22] }, type := 27, pos := _, after := _, guard := some (19, true) }) rfl (fun K hK => ?_) AllReadyH.nil
      go_simp
      refine (digs_any _ [] A2 c2 n2 _ l2 (HR2.out.under H23.out) HN2.out H23.out.size (by omega) HO2.out (by simp)).mono ?_
      intro e w24 hm
      obtain ⟨lt24, t24, a24, n24, c24, k24, m24, d24, rfl, h6, hlt, hoff, hb⟩ := hm.six
      have b24 : Hid (Below w23.heap.size w23 w24) := Lib.hid (hb)
      have H24 := Lib.hid (H23.out.trans (b24.out.mono H23.out.size))
      have HS24 := Lib.hid h6
      have HT24 := Lib.hid hlt
      have HO24 := Lib.hid hoff
      clear hm hb h6 hlt hoff
      go_simp
      refine hK.out _ _ (b24.out) (fun _ => ?_)
      clear hK K hHeld
      try simp only [Act.put, List.setIfInBounds_toArray, List.set_cons_zero, List.set_cons_succ]
      refine wpAnyH_strong (S' := fun W => Below w24.heap.size w24 W) (fun W hW => b24.out.trans (hW.mono b24.out.size)) _ _ _ _ ?_
      have hHeld : (fun W => Below w24.heap.size w24 W) w24 := Below.refl _ _
      refine wpAnyH_ready (rs := [23]) (by kernel_rfl) (by simp) ?_
      refine AllReadyH.cons (o := { dst := some 148, op := Op.call { callee := Callee.value (Operand.func 23), args := #[Operand.tmp 147], argTypes := #[22] }, type := 27, pos := _, after := _, guard := some (19, true) }) rfl (fun K hK => ?_) AllReadyH.nil
      go_simp
      refine (digs'_any _ [] A2 c2 n2 _ l2 (HR2.out.under H24.out) HN2.out H24.out.size (by omega) HO2.out (by simp)).mono ?_
      intro e w25 hm
      obtain ⟨lt25, t25, a25, n25, c25, k25, m25, d25, rfl, h6, hlt, hoff, hb⟩ := hm.six
      have b25 : Hid (Below w24.heap.size w24 w25) := Lib.hid (hb)
      have H25 := Lib.hid (H24.out.trans (b25.out.mono H24.out.size))
      have HS25 := Lib.hid h6
      have HT25 := Lib.hid hlt
      have HO25 := Lib.hid hoff
      clear hm hb h6 hlt hoff
      go_simp
      refine hK.out _ _ (b25.out) (fun _ => ?_)
      clear hK K hHeld
      try simp only [Act.put, List.setIfInBounds_toArray, List.set_cons_zero, List.set_cons_succ]
      refine wpAnyH_strong (S' := fun W => Below w25.heap.size w25 W) (fun W hW => b25.out.trans (hW.mono b25.out.size)) _ _ _ _ ?_
      have hHeld : (fun W => Below w25.heap.size w25 W) w25 := Below.refl _ _
      refine wpAnyH_ready (rs := [24]) (by kernel_rfl) (by simp) ?_
      refine AllReadyH.cons (o := { dst := some 149, op := Op.call { callee := Callee.value (Operand.func 19), args := #[Operand.tmp 146, Operand.tmp 148], argTypes := #[27, 27] }, type := 4, pos := _, after := _, guard := some (19, true) }) rfl (fun K hK => ?_) AllReadyH.nil
      go_simp
      refine (same6 HS24.out HS25.out (HO24.out.under b25.out) HO25.out (by rw [HT24.out, HT25.out])).mono ?_
      rintro e w26 ⟨rfl, hb⟩
      have b26 : Hid (Below w25.heap.size w25 w26) := Lib.hid hb
      have H26 := Lib.hid (H25.out.trans (b26.out.mono H25.out.size))
      clear hb
      go_simp
      refine hK.out _ _ (b26.out) (fun _ => ?_)
      clear hK K hHeld
      try simp only [Act.put, List.setIfInBounds_toArray, List.set_cons_zero, List.set_cons_succ]
      refine wpAnyH_strong (S' := fun W => Below w26.heap.size w26 W) (fun W hW => b26.out.trans (hW.mono b26.out.size)) _ _ _ _ ?_
      have hHeld : (fun W => Below w26.heap.size w26 W) w26 := Below.refl _ _
      refine wpAnyH_take (i := 25) (oi := { dst := some 150, op := Op.pick (Operand.tmp 144) (Operand.tmp 149) (Operand.const (Value.bool false)), type := 4, pos := _, after := _, guard := none }) (v := ?_) rfl (by kernel_rfl) (by kernel_rfl) (by kernel_rfl) (fun _ _ _ h => h) (Or.inl ⟨by rfl, ?_⟩) hHeld ?_
      rotate_left 1
      · (intro W hW; (try dsimp only at hW); go_simp; try with_reducible rfl)
      try simp only [Act.put, List.setIfInBounds_toArray, List.set_cons_zero, List.set_cons_succ]
      refine wpAnyH_take (i := 26) (oi := { dst := some 151, op := Op.move (Operand.tmp 150), type := 4, pos := _, after := _, guard := none }) (v := ?_) rfl (by kernel_rfl) (by kernel_rfl) (by kernel_rfl) (fun _ _ _ h => h) (Or.inl ⟨by rfl, ?_⟩) hHeld ?_
      rotate_left 1
      · (intro W hW; (try dsimp only at hW); go_simp; try with_reducible rfl)
      try simp only [Act.put, List.setIfInBounds_toArray, List.set_cons_zero, List.set_cons_succ]
      refine wpAnyH_take (i := 27) (oi := { dst := some 152, op := Op.move (Operand.tmp 2), type := 22, pos := _, after := _, guard := some (26, true) }) (v := ?_) rfl (by kernel_rfl) (by kernel_rfl) (by kernel_rfl) (fun _ _ _ h => h) (Or.inl ⟨by rfl, ?_⟩) hHeld ?_
      rotate_left 1
      · (intro W hW; (try dsimp only at hW); go_simp; try with_reducible rfl)
      try simp only [Act.put, List.setIfInBounds_toArray, List.set_cons_zero, List.set_cons_succ]
      refine wpAnyH_take (i := 29) (oi := { dst := some 154, op := Op.move (Operand.tmp 2), type := 22, pos := _, after := _, guard := some (26, true) }) (v := ?_) rfl (by kernel_rfl) (by kernel_rfl) (by kernel_rfl) (fun _ _ _ h => h) (Or.inl ⟨by rfl, ?_⟩) hHeld ?_
      rotate_left 1
      · (intro W hW; (try dsimp only at hW); go_simp; try with_reducible rfl)
      try simp only [Act.put, List.setIfInBounds_toArray, List.set_cons_zero, List.set_cons_succ]
      refine wpAnyH_ready (rs := [28]) (by kernel_rfl) (by simp) ?_
      refine AllReadyH.cons (o := { dst := some 153, op := Op.call { callee := Callee.value (Operand.func 14), args := #[Operand.tmp 152], argTypes := #[22] }, type := 27, pos := _, after := _, guard := some (26, true) }) rfl (fun K hK => ?_) AllReadyH.nil
      go_simp
      refine (id_any _ [] A2 c2 n2 _ l2 (HR2.out.under H26.out) HN2.out H26.out.size (by omega) HO2.out (by simp)).mono ?_
      intro e w27 hm
      obtain ⟨lt27, t27, a27, n27, c27, k27, m27, d27, rfl, h6, hlt, hoff, hb⟩ := hm.six
      have b27 : Hid (Below w26.heap.size w26 w27) := Lib.hid (hb)
      have H27 := Lib.hid (H26.out.trans (b27.out.mono H26.out.size))
      have HS27 := Lib.hid h6
      have HT27 := Lib.hid hlt
      have HO27 := Lib.hid hoff
      clear hm hb h6 hlt hoff
      go_simp
      refine hK.out _ _ (b27.out) (fun _ => ?_)
      clear hK K hHeld
      try simp only [Act.put, List.setIfInBounds_toArray, List.set_cons_zero, List.set_cons_succ]
      refine wpAnyH_strong (S' := fun W => Below w27.heap.size w27 W) (fun W hW => b27.out.trans (hW.mono b27.out.size)) _ _ _ _ ?_
      have hHeld : (fun W => Below w27.heap.size w27 W) w27 := Below.refl _ _
      refine wpAnyH_ready (rs := [30]) (by kernel_rfl) (by simp) ?_
      refine AllReadyH.cons (o := { dst := some 155, op := Op.call { callee := Callee.value (Operand.func 24), args := #[Operand.tmp 154], argTypes := #[22] }, type := 27, pos := _, after := _, guard := some (26, true) }) rfl (fun K hK => ?_) AllReadyH.nil
      go_simp
      refine (id'_any _ [] A2 c2 n2 _ l2 (HR2.out.under H27.out) HN2.out H27.out.size (by omega) HO2.out (by simp)).mono ?_
      intro e w28 hm
      obtain ⟨lt28, t28, a28, n28, c28, k28, m28, d28, rfl, h6, hlt, hoff, hb⟩ := hm.six
      have b28 : Hid (Below w27.heap.size w27 w28) := Lib.hid (hb)
      have H28 := Lib.hid (H27.out.trans (b28.out.mono H27.out.size))
      have HS28 := Lib.hid h6
      have HT28 := Lib.hid hlt
      have HO28 := Lib.hid hoff
      clear hm hb h6 hlt hoff
      go_simp
      refine hK.out _ _ (b28.out) (fun _ => ?_)
      clear hK K hHeld
      try simp only [Act.put, List.setIfInBounds_toArray, List.set_cons_zero, List.set_cons_succ]
      refine wpAnyH_strong (S' := fun W => Below w28.heap.size w28 W) (fun W hW => b28.out.trans (hW.mono b28.out.size)) _ _ _ _ ?_
      have hHeld : (fun W => Below w28.heap.size w28 W) w28 := Below.refl _ _
      refine wpAnyH_ready (rs := [31]) (by kernel_rfl) (by simp) ?_
      refine AllReadyH.cons (o := { dst := some 156, op := Op.call { callee := Callee.value (Operand.func 19), args := #[Operand.tmp 153, Operand.tmp 155], argTypes := #[27, 27] }, type := 4, pos := _, after := _, guard := some (26, true) }) rfl (fun K hK => ?_) AllReadyH.nil
      go_simp
      refine (same6 HS27.out HS28.out (HO27.out.under b28.out) HO28.out (by rw [HT27.out, HT28.out])).mono ?_
      rintro e w29 ⟨rfl, hb⟩
      have b29 : Hid (Below w28.heap.size w28 w29) := Lib.hid hb
      have H29 := Lib.hid (H28.out.trans (b29.out.mono H28.out.size))
      clear hb
      go_simp
      refine hK.out _ _ (b29.out) (fun _ => ?_)
      clear hK K hHeld
      try simp only [Act.put, List.setIfInBounds_toArray, List.set_cons_zero, List.set_cons_succ]
      refine wpAnyH_strong (S' := fun W => Below w29.heap.size w29 W) (fun W hW => b29.out.trans (hW.mono b29.out.size)) _ _ _ _ ?_
      have hHeld : (fun W => Below w29.heap.size w29 W) w29 := Below.refl _ _
      refine wpAnyH_take (i := 32) (oi := { dst := some 157, op := Op.pick (Operand.tmp 151) (Operand.tmp 156) (Operand.const (Value.bool false)), type := 4, pos := _, after := _, guard := none }) (v := ?_) rfl (by kernel_rfl) (by kernel_rfl) (by kernel_rfl) (fun _ _ _ h => h) (Or.inl ⟨by rfl, ?_⟩) hHeld ?_
      rotate_left 1
      · (intro W hW; (try dsimp only at hW); go_simp; try with_reducible rfl)
      try simp only [Act.put, List.setIfInBounds_toArray, List.set_cons_zero, List.set_cons_succ]
      refine wpAnyH_take (i := 33) (oi := { dst := some 158, op := Op.move (Operand.tmp 157), type := 4, pos := _, after := _, guard := none }) (v := ?_) rfl (by kernel_rfl) (by kernel_rfl) (by kernel_rfl) (fun _ _ _ h => h) (Or.inl ⟨by rfl, ?_⟩) hHeld ?_
      rotate_left 1
      · (intro W hW; (try dsimp only at hW); go_simp; try with_reducible rfl)
      try simp only [Act.put, List.setIfInBounds_toArray, List.set_cons_zero, List.set_cons_succ]
      refine wpAnyH_take (i := 34) (oi := { dst := some 159, op := Op.move (Operand.tmp 23), type := 4, pos := _, after := _, guard := some (33, true) }) (v := ?_) rfl (by kernel_rfl) (by kernel_rfl) (by kernel_rfl) (fun _ _ _ h => h) (Or.inl ⟨by rfl, ?_⟩) hHeld ?_
      rotate_left 1
      · (intro W hW; (try dsimp only at hW); go_simp; try with_reducible rfl)
      try simp only [Act.put, List.setIfInBounds_toArray, List.set_cons_zero, List.set_cons_succ]
      refine wpAnyH_take (i := 35) (oi := { dst := some 160, op := Op.move (Operand.tmp 3), type := 5, pos := _, after := _, guard := some (33, true) }) (v := ?_) rfl (by kernel_rfl) (by kernel_rfl) (by kernel_rfl) (fun _ _ _ h => h) (Or.inl ⟨by rfl, ?_⟩) hHeld ?_
      rotate_left 1
      · (intro W hW; (try dsimp only at hW); go_simp; try with_reducible rfl)
      try simp only [Act.put, List.setIfInBounds_toArray, List.set_cons_zero, List.set_cons_succ]
      refine wpAnyH_take (i := 36) (oi := { dst := some 161, op := Op.binOp BinOp.and 5 (Operand.tmp 160) (Operand.const (Value.int IntKind.u8 32)) 5, type := 5, pos := _, after := _, guard := some (33, true) }) (v := ?_) rfl (by kernel_rfl) (by kernel_rfl) (by kernel_rfl) (fun _ _ _ h => h) (Or.inl ⟨by rfl, ?_⟩) hHeld ?_
      rotate_left 1
      · (intro W hW; (try dsimp only at hW); go_simp; try with_reducible rfl)
      try simp only [Act.put, List.setIfInBounds_toArray, List.set_cons_zero, List.set_cons_succ]
      refine wpAnyH_take (i := 37) (oi := { dst := some 162, op := Op.binOp BinOp.neq 5 (Operand.tmp 161) (Operand.const (Value.int IntKind.u8 0)) 5, type := 4, pos := _, after := _, guard := some (33, true) }) (v := ?_) rfl (by kernel_rfl) (by kernel_rfl) (by kernel_rfl) (fun _ _ _ h => h) (Or.inl ⟨by rfl, ?_⟩) hHeld ?_
      rotate_left 1
      · (intro W hW; have hand1 := HAND.out; have hand2 := HAND2.out; (try dsimp only at hW); go_simp; try with_reducible rfl)
      try simp only [Act.put, List.setIfInBounds_toArray, List.set_cons_zero, List.set_cons_succ]
      refine wpAnyH_take (i := 38) (oi := { dst := some 163, op := Op.binOp BinOp.eql 4 (Operand.tmp 159) (Operand.tmp 162) 4, type := 4, pos := _, after := _, guard := some (33, true) }) (v := ?_) rfl (by kernel_rfl) (by kernel_rfl) (by kernel_rfl) (fun _ _ _ h => h) (Or.inl ⟨by rfl, ?_⟩) hHeld ?_
      rotate_left 1
      · (intro W hW; (try dsimp only at hW); go_simp; try with_reducible rfl)
      try simp only [Act.put, List.setIfInBounds_toArray, List.set_cons_zero, List.set_cons_succ]
      refine wpAnyH_take (i := 39) (oi := { dst := some 164, op := Op.pick (Operand.tmp 158) (Operand.tmp 163) (Operand.const (Value.bool false)), type := 4, pos := _, after := _, guard := none }) (v := ?_) rfl (by kernel_rfl) (by kernel_rfl) (by kernel_rfl) (fun _ _ _ h => h) (Or.inl ⟨by rfl, ?_⟩) hHeld ?_
      rotate_left 1
      · (intro W hW; (try dsimp only at hW); go_simp; try with_reducible rfl)
      try simp only [Act.put, List.setIfInBounds_toArray, List.set_cons_zero, List.set_cons_succ]
      refine wpAnyH_take (i := 40) (oi := { dst := some 165, op := Op.move (Operand.tmp 164), type := 4, pos := _, after := _, guard := none }) (v := ?_) rfl (by kernel_rfl) (by kernel_rfl) (by kernel_rfl) (fun _ _ _ h => h) (Or.inl ⟨by rfl, ?_⟩) hHeld ?_
      rotate_left 1
      · (intro W hW; (try dsimp only at hW); go_simp; try with_reducible rfl)
      try simp only [Act.put, List.setIfInBounds_toArray, List.set_cons_zero, List.set_cons_succ]
      refine wpAnyH_take (i := 41) (oi := { dst := some 166, op := Op.move (Operand.tmp 23), type := 4, pos := _, after := _, guard := some (40, true) }) (v := ?_) rfl (by kernel_rfl) (by kernel_rfl) (by kernel_rfl) (fun _ _ _ h => h) (Or.inl ⟨by rfl, ?_⟩) hHeld ?_
      rotate_left 1
      · (intro W hW; (try dsimp only at hW); go_simp; try with_reducible rfl)
      try simp only [Act.put, List.setIfInBounds_toArray, List.set_cons_zero, List.set_cons_succ]
      refine wpAnyH_take (i := 42) (oi := { dst := some 167, op := Op.unOp UnOp.not 4 (Operand.tmp 166), type := 4, pos := _, after := _, guard := some (40, true) }) (v := ?_) rfl (by kernel_rfl) (by kernel_rfl) (by kernel_rfl) (fun _ _ _ h => h) (Or.inl ⟨by rfl, ?_⟩) hHeld ?_
      rotate_left 1
      · (intro W hW; (try dsimp only at hW); go_simp; try with_reducible rfl)
      try simp only [Act.put, List.setIfInBounds_toArray, List.set_cons_zero, List.set_cons_succ]
      refine wpAnyH_take (i := 43) (oi := { dst := some 168, op := Op.move (Operand.tmp 167), type := 4, pos := _, after := _, guard := some (40, true) }) (v := ?_) rfl (by kernel_rfl) (by kernel_rfl) (by kernel_rfl) (fun _ _ _ h => h) (Or.inl ⟨by rfl, ?_⟩) hHeld ?_
      rotate_left 1
      · (intro W hW; (try dsimp only at hW); go_simp; try with_reducible rfl)
      try simp only [Act.put, List.setIfInBounds_toArray, List.set_cons_zero, List.set_cons_succ]
      refine wpAnyH_take (i := 44) (oi := { dst := some 169, op := Op.move (Operand.tmp 22), type := 23, pos := _, after := _, guard := some (43, false) }) (v := undef) rfl (by kernel_rfl) (by kernel_rfl) (by kernel_rfl) (fun _ _ _ h => h) (Or.inr ⟨by rfl, rfl⟩) hHeld ?_
      try simp only [Act.put, List.setIfInBounds_toArray, List.set_cons_zero, List.set_cons_succ]
      refine wpAnyH_take (i := 45) (oi := { dst := some 170, op := Op.call { callee := Callee.builtin Builtin.len, args := #[Operand.tmp 169], argTypes := #[23] }, type := 3, pos := _, after := _, guard := some (43, false) }) (v := undef) rfl (by kernel_rfl) (by kernel_rfl) (by kernel_rfl) (fun _ _ _ h => h) (Or.inr ⟨by rfl, rfl⟩) hHeld ?_
      try simp only [Act.put, List.setIfInBounds_toArray, List.set_cons_zero, List.set_cons_succ]
      refine wpAnyH_take (i := 46) (oi := { dst := some 171, op := Op.move (Operand.tmp 4), type := 23, pos := _, after := _, guard := some (43, false) }) (v := undef) rfl (by kernel_rfl) (by kernel_rfl) (by kernel_rfl) (fun _ _ _ h => h) (Or.inr ⟨by rfl, rfl⟩) hHeld ?_
      try simp only [Act.put, List.setIfInBounds_toArray, List.set_cons_zero, List.set_cons_succ]
      refine wpAnyH_take (i := 47) (oi := { dst := some 172, op := Op.call { callee := Callee.builtin Builtin.len, args := #[Operand.tmp 171], argTypes := #[23] }, type := 3, pos := _, after := _, guard := some (43, false) }) (v := undef) rfl (by kernel_rfl) (by kernel_rfl) (by kernel_rfl) (fun _ _ _ h => h) (Or.inr ⟨by rfl, rfl⟩) hHeld ?_
      try simp only [Act.put, List.setIfInBounds_toArray, List.set_cons_zero, List.set_cons_succ]
      refine wpAnyH_take (i := 48) (oi := { dst := some 173, op := Op.binOp BinOp.eql 3 (Operand.tmp 170) (Operand.tmp 172) 3, type := 4, pos := _, after := _, guard := some (43, false) }) (v := undef) rfl (by kernel_rfl) (by kernel_rfl) (by kernel_rfl) (fun _ _ _ h => h) (Or.inr ⟨by rfl, rfl⟩) hHeld ?_
      try simp only [Act.put, List.setIfInBounds_toArray, List.set_cons_zero, List.set_cons_succ]
      refine wpAnyH_take (i := 49) (oi := { dst := some 174, op := Op.pick (Operand.tmp 168) (Operand.const (Value.bool true)) (Operand.tmp 173), type := 4, pos := _, after := _, guard := some (40, true) }) (v := ?_) rfl (by kernel_rfl) (by kernel_rfl) (by kernel_rfl) (fun _ _ _ h => h) (Or.inl ⟨by rfl, ?_⟩) hHeld ?_
      rotate_left 1
      · (intro W hW; (try dsimp only at hW); go_simp; try with_reducible rfl)
      try simp only [Act.put, List.setIfInBounds_toArray, List.set_cons_zero, List.set_cons_succ]
      refine wpAnyH_take (i := 50) (oi := { dst := some 175, op := Op.pick (Operand.tmp 165) (Operand.tmp 174) (Operand.const (Value.bool false)), type := 4, pos := _, after := _, guard := none }) (v := ?_) rfl (by kernel_rfl) (by kernel_rfl) (by kernel_rfl) (fun _ _ _ h => h) (Or.inl ⟨by rfl, ?_⟩) hHeld ?_
      rotate_left 1
      · (intro W hW; (try dsimp only at hW); go_simp; try with_reducible rfl)
      try simp only [Act.put, List.setIfInBounds_toArray, List.set_cons_zero, List.set_cons_succ]
      refine wpAnyH_take (i := 51) (oi := { dst := some 176, op := Op.move (Operand.tmp 175), type := 4, pos := _, after := _, guard := none }) (v := ?_) rfl (by kernel_rfl) (by kernel_rfl) (by kernel_rfl) (fun _ _ _ h => h) (Or.inl ⟨by rfl, ?_⟩) hHeld ?_
      rotate_left 1
      · (intro W hW; (try dsimp only at hW); go_simp; try with_reducible rfl)
      try simp only [Act.put, List.setIfInBounds_toArray, List.set_cons_zero, List.set_cons_succ]
      refine wpAnyH_ready (rs := [52]) (by kernel_rfl) (by simp) ?_
      refine AllReadyH.cons (o := { dst := some 177, op := Op.call { callee := Callee.value (Operand.func 25), args := #[], argTypes := #[] }, type := 4, pos := _, after := _, guard := some (51, true) }) rfl (fun K hK => ?_) AllReadyH.nil
      go_simp
      refine (known_any _).mono ?_
      rintro e w30 ⟨rfl, hb⟩
      have b30 : Hid (Below w29.heap.size w29 w30) := Lib.hid hb
      have H30 := Lib.hid (H29.out.trans (b30.out.mono H29.out.size))
      clear hb
      go_simp
      refine hK.out _ _ (b30.out) (fun _ => ?_)
      clear hK K hHeld
      try simp only [Act.put, List.setIfInBounds_toArray, List.set_cons_zero, List.set_cons_succ]
      refine wpAnyH_strong (S' := fun W => Below w30.heap.size w30 W) (fun W hW => b30.out.trans (hW.mono b30.out.size)) _ _ _ _ ?_
      have hHeld : (fun W => Below w30.heap.size w30 W) w30 := Below.refl _ _
      refine wpAnyH_take (i := 53) (oi := { dst := some 178, op := Op.pick (Operand.tmp 176) (Operand.tmp 177) (Operand.const (Value.bool false)), type := 4, pos := _, after := _, guard := none }) (v := ?_) rfl (by kernel_rfl) (by kernel_rfl) (by kernel_rfl) (fun _ _ _ h => h) (Or.inl ⟨by rfl, ?_⟩) hHeld ?_
      rotate_left 1
      · (intro W hW; (try dsimp only at hW); go_simp; try with_reducible rfl)
      try simp only [Act.put, List.setIfInBounds_toArray, List.set_cons_zero, List.set_cons_succ]
      refine wpAnyH_take (i := 54) (oi := { dst := some 10, op := Op.assign (Operand.tmp 178), type := 4, pos := _, after := _, guard := none }) (v := ?_) rfl (by kernel_rfl) (by kernel_rfl) (by kernel_rfl) (fun _ _ _ h => h) (Or.inl ⟨by rfl, ?_⟩) hHeld ?_
      rotate_left 1
      · (intro W hW; (try dsimp only at hW); go_simp; try with_reducible rfl)
      try simp only [Act.put, List.setIfInBounds_toArray, List.set_cons_zero, List.set_cons_succ]
      refine wpAnyH_done (by kernel_rfl) ?_ _
      refine NoPanic.normal ?_
      go_wp2_with fail
      go_ret
      exact ⟨rfl, H30.out⟩
    case true =>
      obtain rfl : mm = m15 := by rw [HM15.out rfl, HKL.out]
      refine wp_region_noPanic ?_
      refine wp_region_held_drew (S := fun W => Below w15.heap.size w15 W) (by kernel_rfl) (Below.refl _ w15).drew (fun hHeld => ?_)
      refine wpAnyH_take (i := 0) (oi := { dst := some 125, op := Op.load 27 (Operand.tmp 21), type := 27, pos := _, after := _, guard := none }) (v := ?_) rfl (by kernel_rfl) (by kernel_rfl) (by kernel_rfl) (fun _ _ _ h => h) (Or.inl ⟨by rfl, ?_⟩) hHeld ?_
      rotate_left 1
      · (intro W hW; obtain ⟨k0, k1, k2⟩ := HZ15.out W hW; (try dsimp only at hW); go_simp; try with_reducible rfl)
      try simp only [Act.put, List.setIfInBounds_toArray, List.set_cons_zero, List.set_cons_succ]
      refine wpAnyH_take (i := 1) (oi := { dst := some 126, op := Op.move (Operand.tmp 3), type := 5, pos := _, after := _, guard := none }) (v := ?_) rfl (by kernel_rfl) (by kernel_rfl) (by kernel_rfl) (fun _ _ _ h => h) (Or.inl ⟨by rfl, ?_⟩) hHeld ?_
      rotate_left 1
      · (intro W hW; (try dsimp only at hW); go_simp; try with_reducible rfl)
      try simp only [Act.put, List.setIfInBounds_toArray, List.set_cons_zero, List.set_cons_succ]
      refine wpAnyH_take (i := 2) (oi := { dst := some 127, op := Op.move (Operand.tmp 4), type := 23, pos := _, after := _, guard := none }) (v := ?_) rfl (by kernel_rfl) (by kernel_rfl) (by kernel_rfl) (fun _ _ _ h => h) (Or.inl ⟨by rfl, ?_⟩) hHeld ?_
      rotate_left 1
      · (intro W hW; (try dsimp only at hW); go_simp; try with_reducible rfl)
      try simp only [Act.put, List.setIfInBounds_toArray, List.set_cons_zero, List.set_cons_succ]
      refine wpAnyH_ready (rs := [3]) (by kernel_rfl) (by simp) ?_
      refine AllReadyH.cons (o := { dst := some 128, op := Op.call { callee := Callee.value (Operand.func 20), args := #[Operand.tmp 126, Operand.tmp 127], argTypes := #[5, 23] }, type := 27, pos := _, after := _, guard := none }) rfl (fun K hK => ?_) AllReadyH.nil
      go_simp
      refine (seq'_any _ [] t c4 mm A4 ks (HK.out.under (H15.out.trans ((Below.refl _ w15).drew.mono H15.out.size))) HN4.out htg).mono ?_
      intro e w16 hm
      obtain ⟨lt16, t16, a16, n16, c16, k16, m16, d16, rfl, h6, hlt, hoff, hb⟩ := hm.six
      have b16 : Hid (Below w15.heap.size w15 w16) := Lib.hid ((Below.refl _ w15).drew.trans hb)
      have H16 := Lib.hid (H15.out.trans (b16.out.mono H15.out.size))
      have HS16 := Lib.hid h6
      have HT16 := Lib.hid hlt
      have HO16 := Lib.hid hoff
      clear hm hb h6 hlt hoff
      go_simp
      refine hK.out _ _ (b16.out) (fun _ => ?_)
      clear hK K hHeld
      try simp only [Act.put, List.setIfInBounds_toArray, List.set_cons_zero, List.set_cons_succ]
      refine wpAnyH_strong (S' := fun W => Below w16.heap.size w16 W) (fun W hW => b16.out.trans (hW.mono b16.out.size)) _ _ _ _ ?_
      have hHeld : (fun W => Below w16.heap.size w16 W) w16 := Below.refl _ _
      refine wpAnyH_ready (rs := [4]) (by kernel_rfl) (by simp) ?_
      refine AllReadyH.cons (o := { dst := some 129, op := Op.call { callee := Callee.value (Operand.func 19), args := #[Operand.tmp 125, Operand.tmp 128], argTypes := #[27, 27] }, type := 4, pos := _, after := _, guard := none }) rfl (fun K hK => ?_) AllReadyH.nil
      go_simp
      refine (same6 H6'.out HS16.out (HO15.out.under b16.out) HO16.out (by rw [HLT.out, HT16.out])).mono ?_
      rintro e w17 ⟨rfl, hb⟩
      have b17 : Hid (Below w16.heap.size w16 w17) := Lib.hid hb
      have H17 := Lib.hid (H16.out.trans (b17.out.mono H16.out.size))
      clear hb
      go_simp
      refine hK.out _ _ (b17.out) (fun _ => ?_)
      clear hK K hHeld
      try simp only [Act.put, List.setIfInBounds_toArray, List.set_cons_zero, List.set_cons_succ]
      refine wpAnyH_strong (S' := fun W => Below w17.heap.size w17 W) (fun W hW => b17.out.trans (hW.mono b17.out.size)) _ _ _ _ ?_
      have hHeld : (fun W => Below w17.heap.size w17 W) w17 := Below.refl _ _
      refine wpAnyH_take (i := 5) (oi := { dst := some 130, op := Op.move (Operand.tmp 129), type := 4, pos := _, after := _, guard := none }) (v := ?_) rfl (by kernel_rfl) (by kernel_rfl) (by kernel_rfl) (fun _ _ _ h => h) (Or.inl ⟨by rfl, ?_⟩) hHeld ?_
      rotate_left 1
      · (intro W hW; (try dsimp only at hW); go_simp; try with_reducible rfl)
      try simp only [Act.put, List.setIfInBounds_toArray, List.set_cons_zero, List.set_cons_succ]
      refine wpAnyH_take (i := 6) (oi := { dst := some 131, op := Op.move (Operand.tmp 1), type := 9, pos := _, after := _, guard := some (5, true) }) (v := ?_) rfl (by kernel_rfl) (by kernel_rfl) (by kernel_rfl) (fun _ _ _ h => h) (Or.inl ⟨by rfl, ?_⟩) hHeld ?_
      rotate_left 1
      · (intro W hW; (try dsimp only at hW); go_simp; try with_reducible rfl)
      try simp only [Act.put, List.setIfInBounds_toArray, List.set_cons_zero, List.set_cons_succ]
      refine wpAnyH_take (i := 8) (oi := { dst := some 133, op := Op.move (Operand.tmp 1), type := 9, pos := _, after := _, guard := some (5, true) }) (v := ?_) rfl (by kernel_rfl) (by kernel_rfl) (by kernel_rfl) (fun _ _ _ h => h) (Or.inl ⟨by rfl, ?_⟩) hHeld ?_
      rotate_left 1
      · (intro W hW; (try dsimp only at hW); go_simp; try with_reducible rfl)
      try simp only [Act.put, List.setIfInBounds_toArray, List.set_cons_zero, List.set_cons_succ]
      refine wpAnyH_ready (rs := [7]) (by kernel_rfl) (by simp) ?_
      refine AllReadyH.cons (o := { dst := some 132, op := Op.call { callee := Callee.value (Operand.func 8), args := #[Operand.tmp 131], argTypes := #[9] }, type := 27, pos := _, after := _, guard := some (5, true) }) rfl (fun K hK => ?_) AllReadyH.nil
      go_simp
      refine (text_any _ [] l1 HO1.out (by have := HN1.out; omega) (by simp)).mono ?_
      intro e w18 hm
      obtain ⟨lt18, t18, a18, n18, c18, k18, m18, d18, rfl, h6, hlt, hoff, hb⟩ := hm.six
      have b18 : Hid (Below w17.heap.size w17 w18) := Lib.hid (hb)
      have H18 := Lib.hid (H17.out.trans (b18.out.mono H17.out.size))
      have HS18 := Lib.hid h6
      have HT18 := Lib.hid hlt
      have HO18 := Lib.hid hoff
      clear hm hb h6 hlt hoff
      go_simp
      refine hK.out _ _ (b18.out) (fun _ => ?_)
      clear hK K hHeld
      try simp only [Act.put, List.setIfInBounds_toArray, List.set_cons_zero, List.set_cons_succ]
      refine wpAnyH_strong (S' := fun W => Below w18.heap.size w18 W) (fun W hW => b18.out.trans (hW.mono b18.out.size)) _ _ _ _ ?_
      have hHeld : (fun W => Below w18.heap.size w18 W) w18 := Below.refl _ _
      refine wpAnyH_ready (rs := [9]) (by kernel_rfl) (by simp) ?_
      refine AllReadyH.cons (o := { dst := some 134, op := Op.call { callee := Callee.value (Operand.func 21), args := #[Operand.tmp 133], argTypes := #[9] }, type := 27, pos := _, after := _, guard := some (5, true) }) rfl (fun K hK => ?_) AllReadyH.nil
      go_simp
      refine (text'_any _ [] l1 HO1.out (by have := HN1.out; omega) (by simp)).mono ?_
      intro e w19 hm
      obtain ⟨lt19, t19, a19, n19, c19, k19, m19, d19, rfl, h6, hlt, hoff, hb⟩ := hm.six
      have b19 : Hid (Below w18.heap.size w18 w19) := Lib.hid (hb)
      have H19 := Lib.hid (H18.out.trans (b19.out.mono H18.out.size))
      have HS19 := Lib.hid h6
      have HT19 := Lib.hid hlt
      have HO19 := Lib.hid hoff
      clear hm hb h6 hlt hoff
      go_simp
      refine hK.out _ _ (b19.out) (fun _ => ?_)
      clear hK K hHeld
      try simp only [Act.put, List.setIfInBounds_toArray, List.set_cons_zero, List.set_cons_succ]
      refine wpAnyH_strong (S' := fun W => Below w19.heap.size w19 W) (fun W hW => b19.out.trans (hW.mono b19.out.size)) _ _ _ _ ?_
      have hHeld : (fun W => Below w19.heap.size w19 W) w19 := Below.refl _ _
      refine wpAnyH_ready (rs := [10]) (by kernel_rfl) (by simp) ?_
      refine AllReadyH.cons (o := { dst := some 135, op := Op.call { callee := Callee.value (Operand.func 19), args := #[Operand.tmp 132, Operand.tmp 134], argTypes := #[27, 27] }, type := 4, pos := _, after := _, guard := some (5, true) }) rfl (fun K hK => ?_) AllReadyH.nil
      go_simp
      refine (same6 HS18.out HS19.out (HO18.out.under b19.out) HO19.out (by rw [HT18.out, HT19.out])).mono ?_
      rintro e w20 ⟨rfl, hb⟩
      have b20 : Hid (Below w19.heap.size w19 w20) := Lib.hid hb
      have H20 := Lib.hid (H19.out.trans (b20.out.mono H19.out.size))
      clear hb
      go_simp
      refine hK.out _ _ (b20.out) (fun _ => ?_)
      clear hK K hHeld
      try simp only [Act.put, List.setIfInBounds_toArray, List.set_cons_zero, List.set_cons_succ]
      refine wpAnyH_strong (S' := fun W => Below w20.heap.size w20 W) (fun W hW => b20.out.trans (hW.mono b20.out.size)) _ _ _ _ ?_
      have hHeld : (fun W => Below w20.heap.size w20 W) w20 := Below.refl _ _
      refine wpAnyH_take (i := 11) (oi := { dst := some 136, op := Op.pick (Operand.tmp 130) (Operand.tmp 135) (Operand.const (Value.bool false)), type := 4, pos := _, after := _, guard := none }) (v := ?_) rfl (by kernel_rfl) (by kernel_rfl) (by kernel_rfl) (fun _ _ _ h => h) (Or.inl ⟨by rfl, ?_⟩) hHeld ?_
      rotate_left 1
      · (intro W hW; (try dsimp only at hW); go_simp; try with_reducible rfl)
      try simp only [Act.put, List.setIfInBounds_toArray, List.set_cons_zero, List.set_cons_succ]
      refine wpAnyH_take (i := 12) (oi := { dst := some 137, op := Op.move (Operand.tmp 136), type := 4, pos := _, after := _, guard := none }) (v := ?_) rfl (by kernel_rfl) (by kernel_rfl) (by kernel_rfl) (fun _ _ _ h => h) (Or.inl ⟨by rfl, ?_⟩) hHeld ?_
      rotate_left 1
      · (intro W hW; (try dsimp only at hW); go_simp; try with_reducible rfl)
      try simp only [Act.put, List.setIfInBounds_toArray, List.set_cons_zero, List.set_cons_succ]
      refine wpAnyH_take (i := 13) (oi := { dst := some 138, op := Op.move (Operand.tmp 2), type := 22, pos := _, after := _, guard := some (12, true) }) (v := ?_) rfl (by kernel_rfl) (by kernel_rfl) (by kernel_rfl) (fun _ _ _ h => h) (Or.inl ⟨by rfl, ?_⟩) hHeld ?_
      rotate_left 1
      · (intro W hW; (try dsimp only at hW); go_simp; try with_reducible rfl)
      try simp only [Act.put, List.setIfInBounds_toArray, List.set_cons_zero, List.set_cons_succ]
      refine wpAnyH_take (i := 15) (oi := { dst := some 140, op := Op.move (Operand.tmp 2), type := 22, pos := _, after := _, guard := some (12, true) }) (v := ?_) rfl (by kernel_rfl) (by kernel_rfl) (by kernel_rfl) (fun _ _ _ h => h) (Or.inl ⟨by rfl, ?_⟩) hHeld ?_
      rotate_left 1
      · (intro W hW; (try dsimp only at hW); go_simp; try with_reducible rfl)
      try simp only [Act.put, List.setIfInBounds_toArray, List.set_cons_zero, List.set_cons_succ]
      refine wpAnyH_ready (rs := [14]) (by kernel_rfl) (by simp) ?_
      refine AllReadyH.cons (o := { dst := some 139, op := Op.call { callee := Callee.value (Operand.func 10), args := #[Operand.tmp 138], argTypes := #[22] }, type := 27, pos := _, after := _, guard := some (12, true) }) rfl (fun K hK => ?_) AllReadyH.nil
      go_simp
      refine (octets_any _ [] A2 c2 n2 _ l2 (HR2.out.under H20.out) HN2.out H20.out.size (by omega) HO2.out (by simp)).mono ?_
      intro e w21 hm
      obtain ⟨lt21, t21, a21, n21, c21, k21, m21, d21, rfl, h6, hlt, hoff, hb⟩ := hm.six
      have b21 : Hid (Below w20.heap.size w20 w21) := Lib.hid (hb)
      have H21 := Lib.hid (H20.out.trans (b21.out.mono H20.out.size))
      have HS21 := Lib.hid h6
      have HT21 := Lib.hid hlt
      have HO21 := Lib.hid hoff
      clear hm hb h6 hlt hoff
      go_simp
      refine hK.out _ _ (b21.out) (fun _ => ?_)
      clear hK K hHeld
      try simp only [Act.put, List.setIfInBounds_toArray, List.set_cons_zero, List.set_cons_succ]
      refine wpAnyH_strong (S' := fun W => Below w21.heap.size w21 W) (fun W hW => b21.out.trans (hW.mono b21.out.size)) _ _ _ _ ?_
      have hHeld : (fun W => Below w21.heap.size w21 W) w21 := Below.refl _ _
      refine wpAnyH_ready (rs := [16]) (by kernel_rfl) (by simp) ?_
      refine AllReadyH.cons (o := { dst := some 141, op := Op.call { callee := Callee.value (Operand.func 22), args := #[Operand.tmp 140], argTypes := #[22] }, type := 27, pos := _, after := _, guard := some (12, true) }) rfl (fun K hK => ?_) AllReadyH.nil
      go_simp
      refine (octets'_any _ [] A2 c2 n2 _ l2 (HR2.out.under H21.out) HN2.out H21.out.size (by omega) HO2.out (by simp)).mono ?_
      intro e w22 hm
      obtain ⟨lt22, t22, a22, n22, c22, k22, m22, d22, rfl, h6, hlt, hoff, hb⟩ := hm.six
      have b22 : Hid (Below w21.heap.size w21 w22) := Lib.hid (hb)
      have H22 := Lib.hid (H21.out.trans (b22.out.mono H21.out.size))
      have HS22 := Lib.hid h6
      have HT22 := Lib.hid hlt
      have HO22 := Lib.hid hoff
      clear hm hb h6 hlt hoff
      go_simp
      refine hK.out _ _ (b22.out) (fun _ => ?_)
      clear hK K hHeld
      try simp only [Act.put, List.setIfInBounds_toArray, List.set_cons_zero, List.set_cons_succ]
      refine wpAnyH_strong (S' := fun W => Below w22.heap.size w22 W) (fun W hW => b22.out.trans (hW.mono b22.out.size)) _ _ _ _ ?_
      have hHeld : (fun W => Below w22.heap.size w22 W) w22 := Below.refl _ _
      refine wpAnyH_ready (rs := [17]) (by kernel_rfl) (by simp) ?_
      refine AllReadyH.cons (o := { dst := some 142, op := Op.call { callee := Callee.value (Operand.func 19), args := #[Operand.tmp 139, Operand.tmp 141], argTypes := #[27, 27] }, type := 4, pos := _, after := _, guard := some (12, true) }) rfl (fun K hK => ?_) AllReadyH.nil
      go_simp
      refine (same6 HS21.out HS22.out (HO21.out.under b22.out) HO22.out (by rw [HT21.out, HT22.out])).mono ?_
      rintro e w23 ⟨rfl, hb⟩
      have b23 : Hid (Below w22.heap.size w22 w23) := Lib.hid hb
      have H23 := Lib.hid (H22.out.trans (b23.out.mono H22.out.size))
      clear hb
      go_simp
      refine hK.out _ _ (b23.out) (fun _ => ?_)
      clear hK K hHeld
      try simp only [Act.put, List.setIfInBounds_toArray, List.set_cons_zero, List.set_cons_succ]
      refine wpAnyH_strong (S' := fun W => Below w23.heap.size w23 W) (fun W hW => b23.out.trans (hW.mono b23.out.size)) _ _ _ _ ?_
      have hHeld : (fun W => Below w23.heap.size w23 W) w23 := Below.refl _ _
      refine wpAnyH_take (i := 18) (oi := { dst := some 143, op := Op.pick (Operand.tmp 137) (Operand.tmp 142) (Operand.const (Value.bool false)), type := 4, pos := _, after := _, guard := none }) (v := ?_) rfl (by kernel_rfl) (by kernel_rfl) (by kernel_rfl) (fun _ _ _ h => h) (Or.inl ⟨by rfl, ?_⟩) hHeld ?_
      rotate_left 1
      · (intro W hW; (try dsimp only at hW); go_simp; try with_reducible rfl)
      try simp only [Act.put, List.setIfInBounds_toArray, List.set_cons_zero, List.set_cons_succ]
      refine wpAnyH_take (i := 19) (oi := { dst := some 144, op := Op.move (Operand.tmp 143), type := 4, pos := _, after := _, guard := none }) (v := ?_) rfl (by kernel_rfl) (by kernel_rfl) (by kernel_rfl) (fun _ _ _ h => h) (Or.inl ⟨by rfl, ?_⟩) hHeld ?_
      rotate_left 1
      · (intro W hW; (try dsimp only at hW); go_simp; try with_reducible rfl)
      try simp only [Act.put, List.setIfInBounds_toArray, List.set_cons_zero, List.set_cons_succ]
      refine wpAnyH_take (i := 20) (oi := { dst := some 145, op := Op.move (Operand.tmp 2), type := 22, pos := _, after := _, guard := some (19, true) }) (v := ?_) rfl (by kernel_rfl) (by kernel_rfl) (by kernel_rfl) (fun _ _ _ h => h) (Or.inl ⟨by rfl, ?_⟩) hHeld ?_
      rotate_left 1
      · (intro W hW; (try dsimp only at hW); go_simp; try with_reducible rfl)
      try simp only [Act.put, List.setIfInBounds_toArray, List.set_cons_zero, List.set_cons_succ]
      refine wpAnyH_take (i := 22) (oi := { dst := some 147, op := Op.move (Operand.tmp 2), type := 22, pos := _, after := _, guard := some (19, true) }) (v := ?_) rfl (by kernel_rfl) (by kernel_rfl) (by kernel_rfl) (fun _ _ _ h => h) (Or.inl ⟨by rfl, ?_⟩) hHeld ?_
      rotate_left 1
      · (intro W hW; (try dsimp only at hW); go_simp; try with_reducible rfl)
      try simp only [Act.put, List.setIfInBounds_toArray, List.set_cons_zero, List.set_cons_succ]
      refine wpAnyH_ready (rs := [21]) (by kernel_rfl) (by simp) ?_
      refine AllReadyH.cons (o := { dst := some 146, op := Op.call { callee := Callee.value (Operand.func 12), args := #[Operand.tmp 145], argTypes := #[22] }, type := 27, pos := _, after := _, guard := some (19, true) }) rfl (fun K hK => ?_) AllReadyH.nil
      go_simp
      refine (digs_any _ [] A2 c2 n2 _ l2 (HR2.out.under H23.out) HN2.out H23.out.size (by omega) HO2.out (by simp)).mono ?_
      intro e w24 hm
      obtain ⟨lt24, t24, a24, n24, c24, k24, m24, d24, rfl, h6, hlt, hoff, hb⟩ := hm.six
      have b24 : Hid (Below w23.heap.size w23 w24) := Lib.hid (hb)
      have H24 := Lib.hid (H23.out.trans (b24.out.mono H23.out.size))
      have HS24 := Lib.hid h6
      have HT24 := Lib.hid hlt
      have HO24 := Lib.hid hoff
      clear hm hb h6 hlt hoff
      go_simp
      refine hK.out _ _ (b24.out) (fun _ => ?_)
      clear hK K hHeld
      try simp only [Act.put, List.setIfInBounds_toArray, List.set_cons_zero, List.set_cons_succ]
      refine wpAnyH_strong (S' := fun W => Below w24.heap.size w24 W) (fun W hW => b24.out.trans (hW.mono b24.out.size)) _ _ _ _ ?_
      have hHeld : (fun W => Below w24.heap.size w24 W) w24 := Below.refl _ _
      refine wpAnyH_ready (rs := [23]) (by kernel_rfl) (by simp) ?_
      refine AllReadyH.cons (o := { dst := some 148, op := Op.call { callee := Callee.value (Operand.func 23), args := #[Operand.tmp 147], argTypes := #[22] }, type := 27, pos := _, after := _, guard := some (19, true) }) rfl (fun K hK => ?_) AllReadyH.nil
      go_simp
      refine (digs'_any _ [] A2 c2 n2 _ l2 (HR2.out.under H24.out) HN2.out H24.out.size (by omega) HO2.out (by simp)).mono ?_
      intro e w25 hm
      obtain ⟨lt25, t25, a25, n25, c25, k25, m25, d25, rfl, h6, hlt, hoff, hb⟩ := hm.six
      have b25 : Hid (Below w24.heap.size w24 w25) := Lib.hid (hb)
      have H25 := Lib.hid (H24.out.trans (b25.out.mono H24.out.size))
      have HS25 := Lib.hid h6
      have HT25 := Lib.hid hlt
      have HO25 := Lib.hid hoff
      clear hm hb h6 hlt hoff
      go_simp
      refine hK.out _ _ (b25.out) (fun _ => ?_)
      clear hK K hHeld
      try simp only [Act.put, List.setIfInBounds_toArray, List.set_cons_zero, List.set_cons_succ]
      refine wpAnyH_strong (S' := fun W => Below w25.heap.size w25 W) (fun W hW => b25.out.trans (hW.mono b25.out.size)) _ _ _ _ ?_
      have hHeld : (fun W => Below w25.heap.size w25 W) w25 := Below.refl _ _
      refine wpAnyH_ready (rs := [24]) (by kernel_rfl) (by simp) ?_
      refine AllReadyH.cons (o := { dst := some 149, op := Op.call { callee := Callee.value (Operand.func 19), args := #[Operand.tmp 146, Operand.tmp 148], argTypes := #[27, 27] }, type := 4, pos := _, after := _, guard := some (19, true) }) rfl (fun K hK => ?_) AllReadyH.nil
      go_simp
      refine (same6 HS24.out HS25.out (HO24.out.under b25.out) HO25.out (by rw [HT24.out, HT25.out])).mono ?_
      rintro e w26 ⟨rfl, hb⟩
      have b26 : Hid (Below w25.heap.size w25 w26) := Lib.hid hb
      have H26 := Lib.hid (H25.out.trans (b26.out.mono H25.out.size))
      clear hb
      go_simp
      refine hK.out _ _ (b26.out) (fun _ => ?_)
      clear hK K hHeld
      try simp only [Act.put, List.setIfInBounds_toArray, List.set_cons_zero, List.set_cons_succ]
      refine wpAnyH_strong (S' := fun W => Below w26.heap.size w26 W) (fun W hW => b26.out.trans (hW.mono b26.out.size)) _ _ _ _ ?_
      have hHeld : (fun W => Below w26.heap.size w26 W) w26 := Below.refl _ _
      refine wpAnyH_take (i := 25) (oi := { dst := some 150, op := Op.pick (Operand.tmp 144) (Operand.tmp 149) (Operand.const (Value.bool false)), type := 4, pos := _, after := _, guard := none }) (v := ?_) rfl (by kernel_rfl) (by kernel_rfl) (by kernel_rfl) (fun _ _ _ h => h) (Or.inl ⟨by rfl, ?_⟩) hHeld ?_
      rotate_left 1
      · (intro W hW; (try dsimp only at hW); go_simp; try with_reducible rfl)
      try simp only [Act.put, List.setIfInBounds_toArray, List.set_cons_zero, List.set_cons_succ]
      refine wpAnyH_take (i := 26) (oi := { dst := some 151, op := Op.move (Operand.tmp 150), type := 4, pos := _, after := _, guard := none }) (v := ?_) rfl (by kernel_rfl) (by kernel_rfl) (by kernel_rfl) (fun _ _ _ h => h) (Or.inl ⟨by rfl, ?_⟩) hHeld ?_
      rotate_left 1
      · (intro W hW; (try dsimp only at hW); go_simp; try with_reducible rfl)
      try simp only [Act.put, List.setIfInBounds_toArray, List.set_cons_zero, List.set_cons_succ]
      refine wpAnyH_take (i := 27) (oi := { dst := some 152, op := Op.move (Operand.tmp 2), type := 22, pos := _, after := _, guard := some (26, true) }) (v := ?_) rfl (by kernel_rfl) (by kernel_rfl) (by kernel_rfl) (fun _ _ _ h => h) (Or.inl ⟨by rfl, ?_⟩) hHeld ?_
      rotate_left 1
      · (intro W hW; (try dsimp only at hW); go_simp; try with_reducible rfl)
      try simp only [Act.put, List.setIfInBounds_toArray, List.set_cons_zero, List.set_cons_succ]
      refine wpAnyH_take (i := 29) (oi := { dst := some 154, op := Op.move (Operand.tmp 2), type := 22, pos := _, after := _, guard := some (26, true) }) (v := ?_) rfl (by kernel_rfl) (by kernel_rfl) (by kernel_rfl) (fun _ _ _ h => h) (Or.inl ⟨by rfl, ?_⟩) hHeld ?_
      rotate_left 1
      · (intro W hW; (try dsimp only at hW); go_simp; try with_reducible rfl)
      try simp only [Act.put, List.setIfInBounds_toArray, List.set_cons_zero, List.set_cons_succ]
      refine wpAnyH_ready (rs := [28]) (by kernel_rfl) (by simp) ?_
      refine AllReadyH.cons (o := { dst := some 153, op := Op.call { callee := Callee.value (Operand.func 14), args := #[Operand.tmp 152], argTypes := #[22] }, type := 27, pos := _, after := _, guard := some (26, true) }) rfl (fun K hK => ?_) AllReadyH.nil
      go_simp
      refine (id_any _ [] A2 c2 n2 _ l2 (HR2.out.under H26.out) HN2.out H26.out.size (by omega) HO2.out (by simp)).mono ?_
      intro e w27 hm
      obtain ⟨lt27, t27, a27, n27, c27, k27, m27, d27, rfl, h6, hlt, hoff, hb⟩ := hm.six
      have b27 : Hid (Below w26.heap.size w26 w27) := Lib.hid (hb)
      have H27 := Lib.hid (H26.out.trans (b27.out.mono H26.out.size))
      have HS27 := Lib.hid h6
      have HT27 := Lib.hid hlt
      have HO27 := Lib.hid hoff
      clear hm hb h6 hlt hoff
      go_simp
      refine hK.out _ _ (b27.out) (fun _ => ?_)
      clear hK K hHeld
      try simp only [Act.put, List.setIfInBounds_toArray, List.set_cons_zero, List.set_cons_succ]
      refine wpAnyH_strong (S' := fun W => Below w27.heap.size w27 W) (fun W hW => b27.out.trans (hW.mono b27.out.size)) _ _ _ _ ?_
      have hHeld : (fun W => Below w27.heap.size w27 W) w27 := Below.refl _ _
      refine wpAnyH_ready (rs := [30]) (by kernel_rfl) (by simp) ?_
      refine AllReadyH.cons (o := { dst := some 155, op := Op.call { callee := Callee.value (Operand.func 24), args := #[Operand.tmp 154], argTypes := #[22] }, type := 27, pos := _, after := _, guard := some (26, true) }) rfl (fun K hK => ?_) AllReadyH.nil
      go_simp
      refine (id'_any _ [] A2 c2 n2 _ l2 (HR2.out.under H27.out) HN2.out H27.out.size (by omega) HO2.out (by simp)).mono ?_
      intro e w28 hm
      obtain ⟨lt28, t28, a28, n28, c28, k28, m28, d28, rfl, h6, hlt, hoff, hb⟩ := hm.six
      have b28 : Hid (Below w27.heap.size w27 w28) := Lib.hid (hb)
      have H28 := Lib.hid (H27.out.trans (b28.out.mono H27.out.size))
      have HS28 := Lib.hid h6
      have HT28 := Lib.hid hlt
      have HO28 := Lib.hid hoff
      clear hm hb h6 hlt hoff
      go_simp
      refine hK.out _ _ (b28.out) (fun _ => ?_)
      clear hK K hHeld
      try simp only [Act.put, List.setIfInBounds_toArray, List.set_cons_zero, List.set_cons_succ]
      refine wpAnyH_strong (S' := fun W => Below w28.heap.size w28 W) (fun W hW => b28.out.trans (hW.mono b28.out.size)) _ _ _ _ ?_
      have hHeld : (fun W => Below w28.heap.size w28 W) w28 := Below.refl _ _
      refine wpAnyH_ready (rs := [31]) (by kernel_rfl) (by simp) ?_
      refine AllReadyH.cons (o := { dst := some 156, op := Op.call { callee := Callee.value (Operand.func 19), args := #[Operand.tmp 153, Operand.tmp 155], argTypes := #[27, 27] }, type := 4, pos := _, after := _, guard := some (26, true) }) rfl (fun K hK => ?_) AllReadyH.nil
      go_simp
      refine (same6 HS27.out HS28.out (HO27.out.under b28.out) HO28.out (by rw [HT27.out, HT28.out])).mono ?_
      rintro e w29 ⟨rfl, hb⟩
      have b29 : Hid (Below w28.heap.size w28 w29) := Lib.hid hb
      have H29 := Lib.hid (H28.out.trans (b29.out.mono H28.out.size))
      clear hb
      go_simp
      refine hK.out _ _ (b29.out) (fun _ => ?_)
      clear hK K hHeld
      try simp only [Act.put, List.setIfInBounds_toArray, List.set_cons_zero, List.set_cons_succ]
      refine wpAnyH_strong (S' := fun W => Below w29.heap.size w29 W) (fun W hW => b29.out.trans (hW.mono b29.out.size)) _ _ _ _ ?_
      have hHeld : (fun W => Below w29.heap.size w29 W) w29 := Below.refl _ _
      refine wpAnyH_take (i := 32) (oi := { dst := some 157, op := Op.pick (Operand.tmp 151) (Operand.tmp 156) (Operand.const (Value.bool false)), type := 4, pos := _, after := _, guard := none }) (v := ?_) rfl (by kernel_rfl) (by kernel_rfl) (by kernel_rfl) (fun _ _ _ h => h) (Or.inl ⟨by rfl, ?_⟩) hHeld ?_
      rotate_left 1
      · (intro W hW; (try dsimp only at hW); go_simp; try with_reducible rfl)
      try simp only [Act.put, List.setIfInBounds_toArray, List.set_cons_zero, List.set_cons_succ]
      refine wpAnyH_take (i := 33) (oi := { dst := some 158, op := Op.move (Operand.tmp 157), type := 4, pos := _, after := _, guard := none }) (v := ?_) rfl (by kernel_rfl) (by kernel_rfl) (by kernel_rfl) (fun _ _ _ h => h) (Or.inl ⟨by rfl, ?_⟩) hHeld ?_
      rotate_left 1
      · (intro W hW; (try dsimp only at hW); go_simp; try with_reducible rfl)
      try simp only [Act.put, List.setIfInBounds_toArray, List.set_cons_zero, List.set_cons_succ]
      refine wpAnyH_take (i := 34) (oi := { dst := some 159, op := Op.move (Operand.tmp 23), type := 4, pos := _, after := _, guard := some (33, true) }) (v := ?_) rfl (by kernel_rfl) (by kernel_rfl) (by kernel_rfl) (fun _ _ _ h => h) (Or.inl ⟨by rfl, ?_⟩) hHeld ?_
      rotate_left 1
      · (intro W hW; (try dsimp only at hW); go_simp; try with_reducible rfl)
      try simp only [Act.put, List.setIfInBounds_toArray, List.set_cons_zero, List.set_cons_succ]
      refine wpAnyH_take (i := 35) (oi := { dst := some 160, op := Op.move (Operand.tmp 3), type := 5, pos := _, after := _, guard := some (33, true) }) (v := ?_) rfl (by kernel_rfl) (by kernel_rfl) (by kernel_rfl) (fun _ _ _ h => h) (Or.inl ⟨by rfl, ?_⟩) hHeld ?_
      rotate_left 1
      · (intro W hW; (try dsimp only at hW); go_simp; try with_reducible rfl)
      try simp only [Act.put, List.setIfInBounds_toArray, List.set_cons_zero, List.set_cons_succ]
      refine wpAnyH_take (i := 36) (oi := { dst := some 161, op := Op.binOp BinOp.and 5 (Operand.tmp 160) (Operand.const (Value.int IntKind.u8 32)) 5, type := 5, pos := _, after := _, guard := some (33, true) }) (v := ?_) rfl (by kernel_rfl) (by kernel_rfl) (by kernel_rfl) (fun _ _ _ h => h) (Or.inl ⟨by rfl, ?_⟩) hHeld ?_
      rotate_left 1
      · (intro W hW; (try dsimp only at hW); go_simp; try with_reducible rfl)
      try simp only [Act.put, List.setIfInBounds_toArray, List.set_cons_zero, List.set_cons_succ]
      refine wpAnyH_take (i := 37) (oi := { dst := some 162, op := Op.binOp BinOp.neq 5 (Operand.tmp 161) (Operand.const (Value.int IntKind.u8 0)) 5, type := 4, pos := _, after := _, guard := some (33, true) }) (v := ?_) rfl (by kernel_rfl) (by kernel_rfl) (by kernel_rfl) (fun _ _ _ h => h) (Or.inl ⟨by rfl, ?_⟩) hHeld ?_
      rotate_left 1
      · (intro W hW; have hand1 := HAND.out; have hand2 := HAND2.out; (try dsimp only at hW); go_simp; try with_reducible rfl)
      try simp only [Act.put, List.setIfInBounds_toArray, List.set_cons_zero, List.set_cons_succ]
      refine wpAnyH_take (i := 38) (oi := { dst := some 163, op := Op.binOp BinOp.eql 4 (Operand.tmp 159) (Operand.tmp 162) 4, type := 4, pos := _, after := _, guard := some (33, true) }) (v := ?_) rfl (by kernel_rfl) (by kernel_rfl) (by kernel_rfl) (fun _ _ _ h => h) (Or.inl ⟨by rfl, ?_⟩) hHeld ?_
      rotate_left 1
      · (intro W hW; (try dsimp only at hW); go_simp; try with_reducible rfl)
      try simp only [Act.put, List.setIfInBounds_toArray, List.set_cons_zero, List.set_cons_succ]
      refine wpAnyH_take (i := 39) (oi := { dst := some 164, op := Op.pick (Operand.tmp 158) (Operand.tmp 163) (Operand.const (Value.bool false)), type := 4, pos := _, after := _, guard := none }) (v := ?_) rfl (by kernel_rfl) (by kernel_rfl) (by kernel_rfl) (fun _ _ _ h => h) (Or.inl ⟨by rfl, ?_⟩) hHeld ?_
      rotate_left 1
      · (intro W hW; (try dsimp only at hW); go_simp; try with_reducible rfl)
      try simp only [Act.put, List.setIfInBounds_toArray, List.set_cons_zero, List.set_cons_succ]
      refine wpAnyH_take (i := 40) (oi := { dst := some 165, op := Op.move (Operand.tmp 164), type := 4, pos := _, after := _, guard := none }) (v := ?_) rfl (by kernel_rfl) (by kernel_rfl) (by kernel_rfl) (fun _ _ _ h => h) (Or.inl ⟨by rfl, ?_⟩) hHeld ?_
      rotate_left 1
      · (intro W hW; (try dsimp only at hW); go_simp; try with_reducible rfl)
      try simp only [Act.put, List.setIfInBounds_toArray, List.set_cons_zero, List.set_cons_succ]
      refine wpAnyH_take (i := 41) (oi := { dst := some 166, op := Op.move (Operand.tmp 23), type := 4, pos := _, after := _, guard := some (40, true) }) (v := ?_) rfl (by kernel_rfl) (by kernel_rfl) (by kernel_rfl) (fun _ _ _ h => h) (Or.inl ⟨by rfl, ?_⟩) hHeld ?_
      rotate_left 1
      · (intro W hW; (try dsimp only at hW); go_simp; try with_reducible rfl)
      try simp only [Act.put, List.setIfInBounds_toArray, List.set_cons_zero, List.set_cons_succ]
      refine wpAnyH_take (i := 42) (oi := { dst := some 167, op := Op.unOp UnOp.not 4 (Operand.tmp 166), type := 4, pos := _, after := _, guard := some (40, true) }) (v := ?_) rfl (by kernel_rfl) (by kernel_rfl) (by kernel_rfl) (fun _ _ _ h => h) (Or.inl ⟨by rfl, ?_⟩) hHeld ?_
      rotate_left 1
      · (intro W hW; (try dsimp only at hW); go_simp; try with_reducible rfl)
      try simp only [Act.put, List.setIfInBounds_toArray, List.set_cons_zero, List.set_cons_succ]
      refine wpAnyH_take (i := 43) (oi := { dst := some 168, op := Op.move (Operand.tmp 167), type := 4, pos := _, after := _, guard := some (40, true) }) (v := ?_) rfl (by kernel_rfl) (by kernel_rfl) (by kernel_rfl) (fun _ _ _ h => h) (Or.inl ⟨by rfl, ?_⟩) hHeld ?_
      rotate_left 1
      · (intro W hW; (try dsimp only at hW); go_simp; try with_reducible rfl)
      try simp only [Act.put, List.setIfInBounds_toArray, List.set_cons_zero, List.set_cons_succ]
      refine wpAnyH_take (i := 44) (oi := { dst := some 169, op := Op.move (Operand.tmp 22), type := 23, pos := _, after := _, guard := some (43, false) }) (v := ?_) rfl (by kernel_rfl) (by kernel_rfl) (by kernel_rfl) (fun _ _ _ h => h) (Or.inl ⟨by rfl, ?_⟩) hHeld ?_
      rotate_left 1
      · (intro W hW; (try dsimp only at hW); go_simp; try with_reducible rfl)
      try simp only [Act.put, List.setIfInBounds_toArray, List.set_cons_zero, List.set_cons_succ]
      refine wpAnyH_take (i := 45) (oi := { dst := some 170, op := Op.call { callee := Callee.builtin Builtin.len, args := #[Operand.tmp 169], argTypes := #[23] }, type := 3, pos := _, after := _, guard := some (43, false) }) (v := ?_) rfl (by kernel_rfl) (by kernel_rfl) (by kernel_rfl) (fun _ _ _ h => h) (Or.inl ⟨by rfl, ?_⟩) hHeld ?_
      rotate_left 1
      · (intro W hW; (try dsimp only at hW); go_simp; try with_reducible rfl)
      try simp only [Act.put, List.setIfInBounds_toArray, List.set_cons_zero, List.set_cons_succ]
      refine wpAnyH_take (i := 46) (oi := { dst := some 171, op := Op.move (Operand.tmp 4), type := 23, pos := _, after := _, guard := some (43, false) }) (v := ?_) rfl (by kernel_rfl) (by kernel_rfl) (by kernel_rfl) (fun _ _ _ h => h) (Or.inl ⟨by rfl, ?_⟩) hHeld ?_
      rotate_left 1
      · (intro W hW; (try dsimp only at hW); go_simp; try with_reducible rfl)
      try simp only [Act.put, List.setIfInBounds_toArray, List.set_cons_zero, List.set_cons_succ]
      refine wpAnyH_take (i := 47) (oi := { dst := some 172, op := Op.call { callee := Callee.builtin Builtin.len, args := #[Operand.tmp 171], argTypes := #[23] }, type := 3, pos := _, after := _, guard := some (43, false) }) (v := ?_) rfl (by kernel_rfl) (by kernel_rfl) (by kernel_rfl) (fun _ _ _ h => h) (Or.inl ⟨by rfl, ?_⟩) hHeld ?_
      rotate_left 1
      · (intro W hW; (try dsimp only at hW); go_simp; try with_reducible rfl)
      try simp only [Act.put, List.setIfInBounds_toArray, List.set_cons_zero, List.set_cons_succ]
      refine wpAnyH_take (i := 48) (oi := { dst := some 173, op := Op.binOp BinOp.eql 3 (Operand.tmp 170) (Operand.tmp 172) 3, type := 4, pos := _, after := _, guard := some (43, false) }) (v := ?_) rfl (by kernel_rfl) (by kernel_rfl) (by kernel_rfl) (fun _ _ _ h => h) (Or.inl ⟨by rfl, ?_⟩) hHeld ?_
      rotate_left 1
      · (intro W hW; (try dsimp only at hW); go_simp; try with_reducible rfl)
      try simp only [Act.put, List.setIfInBounds_toArray, List.set_cons_zero, List.set_cons_succ]
      refine wpAnyH_take (i := 49) (oi := { dst := some 174, op := Op.pick (Operand.tmp 168) (Operand.const (Value.bool true)) (Operand.tmp 173), type := 4, pos := _, after := _, guard := some (40, true) }) (v := ?_) rfl (by kernel_rfl) (by kernel_rfl) (by kernel_rfl) (fun _ _ _ h => h) (Or.inl ⟨by rfl, ?_⟩) hHeld ?_
      rotate_left 1
      · (intro W hW; (try dsimp only at hW); go_simp; try with_reducible rfl)
      try simp only [Act.put, List.setIfInBounds_toArray, List.set_cons_zero, List.set_cons_succ]
      refine wpAnyH_take (i := 50) (oi := { dst := some 175, op := Op.pick (Operand.tmp 165) (Operand.tmp 174) (Operand.const (Value.bool false)), type := 4, pos := _, after := _, guard := none }) (v := ?_) rfl (by kernel_rfl) (by kernel_rfl) (by kernel_rfl) (fun _ _ _ h => h) (Or.inl ⟨by rfl, ?_⟩) hHeld ?_
      rotate_left 1
      · (intro W hW; (try dsimp only at hW); go_simp; try with_reducible rfl)
      try simp only [Act.put, List.setIfInBounds_toArray, List.set_cons_zero, List.set_cons_succ]
      refine wpAnyH_take (i := 51) (oi := { dst := some 176, op := Op.move (Operand.tmp 175), type := 4, pos := _, after := _, guard := none }) (v := ?_) rfl (by kernel_rfl) (by kernel_rfl) (by kernel_rfl) (fun _ _ _ h => h) (Or.inl ⟨by rfl, ?_⟩) hHeld ?_
      rotate_left 1
      · (intro W hW; (try dsimp only at hW); go_simp; try with_reducible rfl)
      try simp only [Act.put, List.setIfInBounds_toArray, List.set_cons_zero, List.set_cons_succ]
      refine wpAnyH_ready (rs := [52]) (by kernel_rfl) (by simp) ?_
      refine AllReadyH.cons (o := { dst := some 177, op := Op.call { callee := Callee.value (Operand.func 25), args := #[], argTypes := #[] }, type := 4, pos := _, after := _, guard := some (51, true) }) rfl (fun K hK => ?_) AllReadyH.nil
      go_simp
      refine (known_any _).mono ?_
      rintro e w30 ⟨rfl, hb⟩
      have b30 : Hid (Below w29.heap.size w29 w30) := Lib.hid hb
      have H30 := Lib.hid (H29.out.trans (b30.out.mono H29.out.size))
      clear hb
      go_simp
      refine hK.out _ _ (b30.out) (fun _ => ?_)
      clear hK K hHeld
      try simp only [Act.put, List.setIfInBounds_toArray, List.set_cons_zero, List.set_cons_succ]
      refine wpAnyH_strong (S' := fun W => Below w30.heap.size w30 W) (fun W hW => b30.out.trans (hW.mono b30.out.size)) _ _ _ _ ?_
      have hHeld : (fun W => Below w30.heap.size w30 W) w30 := Below.refl _ _
      refine wpAnyH_take (i := 53) (oi := { dst := some 178, op := Op.pick (Operand.tmp 176) (Operand.tmp 177) (Operand.const (Value.bool false)), type := 4, pos := _, after := _, guard := none }) (v := ?_) rfl (by kernel_rfl) (by kernel_rfl) (by kernel_rfl) (fun _ _ _ h => h) (Or.inl ⟨by rfl, ?_⟩) hHeld ?_
      rotate_left 1
      · (intro W hW; (try dsimp only at hW); go_simp; try with_reducible rfl)
      try simp only [Act.put, List.setIfInBounds_toArray, List.set_cons_zero, List.set_cons_succ]
      refine wpAnyH_take (i := 54) (oi := { dst := some 10, op := Op.assign (Operand.tmp 178), type := 4, pos := _, after := _, guard := none }) (v := ?_) rfl (by kernel_rfl) (by kernel_rfl) (by kernel_rfl) (fun _ _ _ h => h) (Or.inl ⟨by rfl, ?_⟩) hHeld ?_
      rotate_left 1
      · (intro W hW; (try dsimp only at hW); go_simp; try with_reducible rfl)
      try simp only [Act.put, List.setIfInBounds_toArray, List.set_cons_zero, List.set_cons_succ]
      refine wpAnyH_done (by kernel_rfl) ?_ _
      refine NoPanic.normal ?_
      go_wp2_with fail
      go_ret
      exact ⟨rfl, H30.out⟩
  case true =>
    rw [HXT.out rfl]
    go_wp2_with fail
    refine HC11.out.mono ?_
    rintro e w12 ⟨rfl, rfl⟩
    rw [HI.out]
    clear cv6 cv8 cv2 HC11 B11 C11 B8 HM6 HM8
    have HC12 := Lib.hid (seq_any w11 [] tg c4 n4 A4 ks (HK.out.under H11.out) HN4.out htg (by omega) (by simp))
    go_wp2_with fail
    refine HC12.out.mono ?_
    intro e w13 hm
    obtain ⟨lt, t, aa, nn, cc, kk, mm, dd, rfl, h6, hlt, hoff, hb⟩ := hm.six
    have H13 := Lib.hid (H11.out.trans (hb.mono H11.out.size))
    have HLT := Lib.hid hlt
    have H6' := Lib.hid h6
    have HOFF := Lib.hid hoff
    have hkids : mm = n4 ∧ t = tg ∧ nn = 0 ∧ ∃ kids : List Lt, kids.length = mm ∧ Off [] (KiP kk dd kids) w13 := by
      rcases lt with ⟨t', ba, bc, body, ka, kc, kids⟩
      have h6' : lcell (.mk t' ba bc body ka kc kids) = _ := h6
      obtain ⟨e1, e2, e3⟩ := lt_parts hlt
      simp only [Lt.tag, Lt.body, Lt.kids] at e1 e2 e3
      simp [lcell, Lt.tag, Lt.ba, Lt.bc, Lt.body, Lt.ka, Lt.kc, Lt.kids] at h6'
      obtain ⟨g1, ⟨_, g2, _⟩, g4, g3, g5⟩ := h6'
      refine ⟨by rw [← g3, e3, List.length_map, HN4.out], by omega, by rw [← g2, e2]; rfl, kids, g3, ?_⟩
      rw [← g4, ← g5]
      exact kids_off hoff
    obtain ⟨rfl, rfl, rfl, kids, hkl, hko⟩ := hkids
    have HKL := Lib.hid hkl
    have HKO := Lib.hid hko
    have hz := Holds.fresh w13 27 #[.int .u8 (t : Int), .slice aa 0 cc, .slice kk mm dd]
    have HA14 : Hid (Below w13.heap.size w13 (w13.alloc (.cells #[.int .u8 (t : Int), .slice aa 0 cc, .slice kk mm dd] 27))) := Lib.hid ((Below.refl _ _).alloc (Nat.le_refl _) _)
    have HZ := Lib.hid hz
    have H14 := Lib.hid (H13.out.trans (HA14.out.mono H13.out.size))
    have z0 := hz.cell 0
    have z1 := hz.cell 1
    have z2 := hz.cell 2
    clear hm hb h6 hlt hoff HC12 hkl hko hz
    have hgs := getSeq_any (w13.alloc (.cells #[.int .u8 (t : Int), .slice aa 0 cc, .slice kk mm dd] 27)) [] t 0 cc mm dd t aa kk kids (HKO.out.under HA14.out) HKL.out htg (by omega) (by simp)
    have hso : seqOk t 0 t = P := by simp [seqOk, HP.out]
    rw [hso] at hgs
    have HGS := Lib.hid hgs
    clear hgs hso
    go_wp2_with fail
    refine HGS.out.mono ?_
    intro e w15 hm
    obtain ⟨a15, d15, m15, rfl, hm15, hb⟩ := seqPost_one hm
    have H15 := Lib.hid (H14.out.trans (hb.mono H14.out.size))
    have B15 := Lib.hid (HA14.out.trans (hb.mono HA14.out.size))
    have hz := HZ.out.under hb HZ.out.lt
    have HZ15 : Hid (∀ W, Below w15.heap.size w15 W → W.cell? ⟨w13.heap.size, 0, none⟩ = some (.int .u8 (t : Int)) ∧ W.cell? ⟨w13.heap.size, 1, none⟩ = some (.slice aa 0 cc) ∧ W.cell? ⟨w13.heap.size, 2, none⟩ = some (.slice kk mm dd)) := Lib.hid fun W hW => by
      have h := hz.under hW hz.lt
      exact ⟨h.cell 0, h.cell 1, h.cell 2⟩
    have HO15 := Lib.hid (HOFF.out.under B15.out)
    have HM15 := Lib.hid hm15
    clear hm hb hz HGS hm15 z0 z1 z2 HZ
    go_wp2_with fail
    cases P
    case false =>
      refine wp_region_noPanic ?_
      refine wp_region_held_drew (S := fun W => Below w15.heap.size w15 W) (by kernel_rfl) (Below.refl _ w15).drew (fun hHeld => ?_)
      refine wpAnyH_take (i := 0) (oi := { dst := some 125, op := Op.load 27 (Operand.tmp 21), type := 27, pos := _, after := _, guard := none }) (v := ?_) rfl (by kernel_rfl) (by kernel_rfl) (by kernel_rfl) (fun _ _ _ h => h) (Or.inl ⟨by rfl, ?_⟩) hHeld ?_
      rotate_left 1
      · (intro W hW; obtain ⟨k0, k1, k2⟩ := HZ15.out W hW; (try dsimp only at hW); go_simp; try with_reducible rfl)
      try simp only [Act.put, List.setIfInBounds_toArray, List.set_cons_zero, List.set_cons_succ]
      refine wpAnyH_take (i := 1) (oi := { dst := some 126, op := Op.move (Operand.tmp 3), type := 5, pos := _, after := _, guard := none }) (v := ?_) rfl (by kernel_rfl) (by kernel_rfl) (by kernel_rfl) (fun _ _ _ h => h) (Or.inl ⟨by rfl, ?_⟩) hHeld ?_
      rotate_left 1
      · (intro W hW; (try dsimp only at hW); go_simp; try with_reducible rfl)
      try simp only [Act.put, List.setIfInBounds_toArray, List.set_cons_zero, List.set_cons_succ]
      refine wpAnyH_take (i := 2) (oi := { dst := some 127, op := Op.move (Operand.tmp 4), type := 23, pos := _, after := _, guard := none }) (v := ?_) rfl (by kernel_rfl) (by kernel_rfl) (by kernel_rfl) (fun _ _ _ h => h) (Or.inl ⟨by rfl, ?_⟩) hHeld ?_
      rotate_left 1
      · (intro W hW; (try dsimp only at hW); go_simp; try with_reducible rfl)
      try simp only [Act.put, List.setIfInBounds_toArray, List.set_cons_zero, List.set_cons_succ]
      refine wpAnyH_ready (rs := [3]) (by kernel_rfl) (by simp) ?_
      refine AllReadyH.cons (o := { dst := some 128, op := Op.call { callee := Callee.value (Operand.func 20), args := #[Operand.tmp 126, Operand.tmp 127], argTypes := #[5, 23] }, type := 27, pos := _, after := _, guard := none }) rfl (fun K hK => ?_) AllReadyH.nil
      go_simp
      refine (seq'_any _ [] t c4 mm A4 ks (HK.out.under (H15.out.trans ((Below.refl _ w15).drew.mono H15.out.size))) HN4.out htg).mono ?_
      intro e w16 hm
      obtain ⟨lt16, t16, a16, n16, c16, k16, m16, d16, rfl, h6, hlt, hoff, hb⟩ := hm.six
      have b16 : Hid (Below w15.heap.size w15 w16) := Lib.hid ((Below.refl _ w15).drew.trans hb)
      have H16 := Lib.hid (H15.out.trans (b16.out.mono H15.out.size))
      have HS16 := Lib.hid h6
      have HT16 := Lib.hid hlt
      have HO16 := Lib.hid hoff
      clear hm hb h6 hlt hoff
      go_simp
      refine hK.out _ _ (b16.out) (fun _ => ?_)
      clear hK K hHeld
      try simp only [Act.put, List.setIfInBounds_toArray, List.set_cons_zero, List.set_cons_succ]
      refine wpAnyH_strong (S' := fun W => Below w16.heap.size w16 W) (fun W hW => b16.out.trans (hW.mono b16.out.size)) _ _ _ _ ?_
      have hHeld : (fun W => Below w16.heap.size w16 W) w16 := Below.refl _ _
      refine wpAnyH_ready (rs := [4]) (by kernel_rfl) (by simp) ?_
      refine AllReadyH.cons (o := { dst := some 129, op := Op.call { callee := Callee.value (Operand.func 19), args := #[Operand.tmp 125, Operand.tmp 128], argTypes := #[27, 27] }, type := 4, pos := _, after := _, guard := none }) rfl (fun K hK => ?_) AllReadyH.nil
      go_simp
      refine (same6 H6'.out HS16.out (HO15.out.under b16.out) HO16.out (by rw [HLT.out, HT16.out])).mono ?_
      rintro e w17 ⟨rfl, hb⟩
      have b17 : Hid (Below w16.heap.size w16 w17) := Lib.hid hb
      have H17 := Lib.hid (H16.out.trans (b17.out.mono H16.out.size))
      clear hb
      go_simp
      refine hK.out _ _ (b17.out) (fun _ => ?_)
      clear hK K hHeld
      try simp only [Act.put, List.setIfInBounds_toArray, List.set_cons_zero, List.set_cons_succ]
      refine wpAnyH_strong (S' := fun W => Below w17.heap.size w17 W) (fun W hW => b17.out.trans (hW.mono b17.out.size)) _ _ _ _ ?_
      have hHeld : (fun W => Below w17.heap.size w17 W) w17 := Below.refl _ _
      refine wpAnyH_take (i := 5) (oi := { dst := some 130, op := Op.move (Operand.tmp 129), type := 4, pos := _, after := _, guard := none }) (v := ?_) rfl (by kernel_rfl) (by kernel_rfl) (by kernel_rfl) (fun _ _ _ h => h) (Or.inl ⟨by rfl, ?_⟩) hHeld ?_
      rotate_left 1
      · (intro W hW; (try dsimp only at hW); go_simp; try with_reducible rfl)
      try simp only [Act.put, List.setIfInBounds_toArray, List.set_cons_zero, List.set_cons_succ]
      refine wpAnyH_take (i := 6) (oi := { dst := some 131, op := Op.move (Operand.tmp 1), type := 9, pos := _, after := _, guard := some (5, true) }) (v := ?_) rfl (by kernel_rfl) (by kernel_rfl) (by kernel_rfl) (fun _ _ _ h => h) (Or.inl ⟨by rfl, ?_⟩) hHeld ?_
      rotate_left 1
      · (intro W hW; (try dsimp only at hW); go_simp; try with_reducible rfl)
      try simp only [Act.put, List.setIfInBounds_toArray, List.set_cons_zero, List.set_cons_succ]
      refine wpAnyH_take (i := 8) (oi := { dst := some 133, op := Op.move (Operand.tmp 1), type := 9, pos := _, after := _, guard := some (5, true) }) (v := ?_) rfl (by kernel_rfl) (by kernel_rfl) (by kernel_rfl) (fun _ _ _ h => h) (Or.inl ⟨by rfl, ?_⟩) hHeld ?_
      rotate_left 1
      · (intro W hW; (try dsimp only at hW); go_simp; try with_reducible rfl)
      try simp only [Act.put, List.setIfInBounds_toArray, List.set_cons_zero, List.set_cons_succ]
      refine wpAnyH_ready (rs := [7]) (by kernel_rfl) (by simp) ?_
      refine AllReadyH.cons (o := { dst := some 132, op := Op.call { callee := Callee.value (Operand.func 8), args := #[Operand.tmp 131], argTypes := #[9] }, type := 27, pos := _, after := _, guard := some (5, true) }) rfl (fun K hK => ?_) AllReadyH.nil
      go_simp
      refine (text_any _ [] l1 HO1.out (by have := HN1.out; omega) (by simp)).mono ?_
      intro e w18 hm
      obtain ⟨lt18, t18, a18, n18, c18, k18, m18, d18, rfl, h6, hlt, hoff, hb⟩ := hm.six
      have b18 : Hid (Below w17.heap.size w17 w18) := Lib.hid (hb)
      have H18 := Lib.hid (H17.out.trans (b18.out.mono H17.out.size))
      have HS18 := Lib.hid h6
      have HT18 := Lib.hid hlt
      have HO18 := Lib.hid hoff
      clear hm hb h6 hlt hoff
      go_simp
      refine hK.out _ _ (b18.out) (fun _ => ?_)
      clear hK K hHeld
      try simp only [Act.put, List.setIfInBounds_toArray, List.set_cons_zero, List.set_cons_succ]
      refine wpAnyH_strong (S' := fun W => Below w18.heap.size w18 W) (fun W hW => b18.out.trans (hW.mono b18.out.size)) _ _ _ _ ?_
      have hHeld : (fun W => Below w18.heap.size w18 W) w18 := Below.refl _ _
      refine wpAnyH_ready (rs := [9]) (by kernel_rfl) (by simp) ?_
      refine AllReadyH.cons (o := { dst := some 134, op := Op.call { callee := Callee.value (Operand.func 21), args := #[Operand.tmp 133], argTypes := #[9] }, type := 27, pos := _, after := _, guard := some (5, true) }) rfl (fun K hK => ?_) AllReadyH.nil
      go_simp
      refine (text'_any _ [] l1 HO1.out (by have := HN1.out; omega) (by simp)).mono ?_
      intro e w19 hm
      obtain ⟨lt19, t19, a19, n19, c19, k19, m19, d19, rfl, h6, hlt, hoff, hb⟩ := hm.six
      have b19 : Hid (Below w18.heap.size w18 w19) := Lib.hid (hb)
      have H19 := Lib.hid (H18.out.trans (b19.out.mono H18.out.size))
      have HS19 := Lib.hid h6
      have HT19 := Lib.hid hlt
      have HO19 := Lib.hid hoff
      clear hm hb h6 hlt hoff
      go_simp
      refine hK.out _ _ (b19.out) (fun _ => ?_)
      clear hK K hHeld
      try simp only [Act.put, List.setIfInBounds_toArray, List.set_cons_zero, List.set_cons_succ]
      refine wpAnyH_strong (S' := fun W => Below w19.heap.size w19 W) (fun W hW => b19.out.trans (hW.mono b19.out.size)) _ _ _ _ ?_
      have hHeld : (fun W => Below w19.heap.size w19 W) w19 := Below.refl _ _
      refine wpAnyH_ready (rs := [10]) (by kernel_rfl) (by simp) ?_
      refine AllReadyH.cons (o := { dst := some 135, op := Op.call { callee := Callee.value (Operand.func 19), args := #[Operand.tmp 132, Operand.tmp 134], argTypes := #[27, 27] }, type := 4, pos := _, after := _, guard := some (5, true) }) rfl (fun K hK => ?_) AllReadyH.nil
      go_simp
      refine (same6 HS18.out HS19.out (HO18.out.under b19.out) HO19.out (by rw [HT18.out, HT19.out])).mono ?_
      rintro e w20 ⟨rfl, hb⟩
      have b20 : Hid (Below w19.heap.size w19 w20) := Lib.hid hb
      have H20 := Lib.hid (H19.out.trans (b20.out.mono H19.out.size))
      clear hb
      go_simp
      refine hK.out _ _ (b20.out) (fun _ => ?_)
      clear hK K hHeld
      try simp only [Act.put, List.setIfInBounds_toArray, List.set_cons_zero, List.set_cons_succ]
      refine wpAnyH_strong (S' := fun W => Below w20.heap.size w20 W) (fun W hW => b20.out.trans (hW.mono b20.out.size)) _ _ _ _ ?_
      have hHeld : (fun W => Below w20.heap.size w20 W) w20 := Below.refl _ _
      refine wpAnyH_take (i := 11) (oi := { dst := some 136, op := Op.pick (Operand.tmp 130) (Operand.tmp 135) (Operand.const (Value.bool false)), type := 4, pos := _, after := _, guard := none }) (v := ?_) rfl (by kernel_rfl) (by kernel_rfl) (by kernel_rfl) (fun _ _ _ h => h) (Or.inl ⟨by rfl, ?_⟩) hHeld ?_
      rotate_left 1
      · (intro W hW; (try dsimp only at hW); go_simp; try with_reducible rfl)
      try simp only [Act.put, List.setIfInBounds_toArray, List.set_cons_zero, List.set_cons_succ]
      refine wpAnyH_take (i := 12) (oi := { dst := some 137, op := Op.move (Operand.tmp 136), type := 4, pos := _, after := _, guard := none }) (v := ?_) rfl (by kernel_rfl) (by kernel_rfl) (by kernel_rfl) (fun _ _ _ h => h) (Or.inl ⟨by rfl, ?_⟩) hHeld ?_
      rotate_left 1
      · (intro W hW; (try dsimp only at hW); go_simp; try with_reducible rfl)
      try simp only [Act.put, List.setIfInBounds_toArray, List.set_cons_zero, List.set_cons_succ]
      refine wpAnyH_take (i := 13) (oi := { dst := some 138, op := Op.move (Operand.tmp 2), type := 22, pos := _, after := _, guard := some (12, true) }) (v := ?_) rfl (by kernel_rfl) (by kernel_rfl) (by kernel_rfl) (fun _ _ _ h => h) (Or.inl ⟨by rfl, ?_⟩) hHeld ?_
      rotate_left 1
      · (intro W hW; (try dsimp only at hW); go_simp; try with_reducible rfl)
      try simp only [Act.put, List.setIfInBounds_toArray, List.set_cons_zero, List.set_cons_succ]
      refine wpAnyH_take (i := 15) (oi := { dst := some 140, op := Op.move (Operand.tmp 2), type := 22, pos := _, after := _, guard := some (12, true) }) (v := ?_) rfl (by kernel_rfl) (by kernel_rfl) (by kernel_rfl) (fun _ _ _ h => h) (Or.inl ⟨by rfl, ?_⟩) hHeld ?_
      rotate_left 1
      · (intro W hW; (try dsimp only at hW); go_simp; try with_reducible rfl)
      try simp only [Act.put, List.setIfInBounds_toArray, List.set_cons_zero, List.set_cons_succ]
      refine wpAnyH_ready (rs := [14]) (by kernel_rfl) (by simp) ?_
      refine AllReadyH.cons (o := { dst := some 139, op := Op.call { callee := Callee.value (Operand.func 10), args := #[Operand.tmp 138], argTypes := #[22] }, type := 27, pos := _, after := _, guard := some (12, true) }) rfl (fun K hK => ?_) AllReadyH.nil
      go_simp
      refine (octets_any _ [] A2 c2 n2 _ l2 (HR2.out.under H20.out) HN2.out H20.out.size (by omega) HO2.out (by simp)).mono ?_
      intro e w21 hm
      obtain ⟨lt21, t21, a21, n21, c21, k21, m21, d21, rfl, h6, hlt, hoff, hb⟩ := hm.six
      have b21 : Hid (Below w20.heap.size w20 w21) := Lib.hid (hb)
      have H21 := Lib.hid (H20.out.trans (b21.out.mono H20.out.size))
      have HS21 := Lib.hid h6
      have HT21 := Lib.hid hlt
      have HO21 := Lib.hid hoff
      clear hm hb h6 hlt hoff
      go_simp
      refine hK.out _ _ (b21.out) (fun _ => ?_)
      clear hK K hHeld
      try simp only [Act.put, List.setIfInBounds_toArray, List.set_cons_zero, List.set_cons_succ]
      refine wpAnyH_strong (S' := fun W => Below w21.heap.size w21 W) (fun W hW => b21.out.trans (hW.mono b21.out.size)) _ _ _ _ ?_
      have hHeld : (fun W => Below w21.heap.size w21 W) w21 := Below.refl _ _
      refine wpAnyH_ready (rs := [16]) (by kernel_rfl) (by simp) ?_
      refine AllReadyH.cons (o := { dst := some 141, op := Op.call { callee := Callee.value (Operand.func 22), args := #[Operand.tmp 140], argTypes := #[22] }, type := 27, pos := _, after := _, guard := some (12, true) }) rfl (fun K hK => ?_) AllReadyH.nil
      go_simp
      refine (octets'_any _ [] A2 c2 n2 _ l2 (HR2.out.under H21.out) HN2.out H21.out.size (by omega) HO2.out (by simp)).mono ?_
      intro e w22 hm
      obtain ⟨lt22, t22, a22, n22, c22, k22, m22, d22, rfl, h6, hlt, hoff, hb⟩ := hm.six
      have b22 : Hid (Below w21.heap.size w21 w22) := Lib.hid (hb)
      have H22 := Lib.hid (H21.out.trans (b22.out.mono H21.out.size))
      have HS22 := Lib.hid h6
      have HT22 := Lib.hid hlt
      have HO22 := Lib.hid hoff
      clear hm hb h6 hlt hoff
      go_simp
      refine hK.out _ _ (b22.out) (fun _ => ?_)
      clear hK K hHeld
      try simp only [Act.put, List.setIfInBounds_toArray, List.set_cons_zero, List.set_cons_succ]
      refine wpAnyH_strong (S' := fun W => Below w22.heap.size w22 W) (fun W hW => b22.out.trans (hW.mono b22.out.size)) _ _ _ _ ?_
      have hHeld : (fun W => Below w22.heap.size w22 W) w22 := Below.refl _ _
      refine wpAnyH_ready (rs := [17]) (by kernel_rfl) (by simp) ?_
      refine AllReadyH.cons (o := { dst := some 142, op := Op.call { callee := Callee.value (Operand.func 19), args := #[Operand.tmp 139, Operand.tmp 141], argTypes := #[27, 27] }, type := 4, pos := _, after := _, guard := some (12, true) }) rfl (fun K hK => ?_) AllReadyH.nil
      go_simp
      refine (same6 HS21.out HS22.out (HO21.out.under b22.out) HO22.out (by rw [HT21.out, HT22.out])).mono ?_
      rintro e w23 ⟨rfl, hb⟩
      have b23 : Hid (Below w22.heap.size w22 w23) := Lib.hid hb
      have H23 := Lib.hid (H22.out.trans (b23.out.mono H22.out.size))
      clear hb
      go_simp
      refine hK.out _ _ (b23.out) (fun _ => ?_)
      clear hK K hHeld
      try simp only [Act.put, List.setIfInBounds_toArray, List.set_cons_zero, List.set_cons_succ]
      refine wpAnyH_strong (S' := fun W => Below w23.heap.size w23 W) (fun W hW => b23.out.trans (hW.mono b23.out.size)) _ _ _ _ ?_
      have hHeld : (fun W => Below w23.heap.size w23 W) w23 := Below.refl _ _
      refine wpAnyH_take (i := 18) (oi := { dst := some 143, op := Op.pick (Operand.tmp 137) (Operand.tmp 142) (Operand.const (Value.bool false)), type := 4, pos := _, after := _, guard := none }) (v := ?_) rfl (by kernel_rfl) (by kernel_rfl) (by kernel_rfl) (fun _ _ _ h => h) (Or.inl ⟨by rfl, ?_⟩) hHeld ?_
      rotate_left 1
      · (intro W hW; (try dsimp only at hW); go_simp; try with_reducible rfl)
      try simp only [Act.put, List.setIfInBounds_toArray, List.set_cons_zero, List.set_cons_succ]
      refine wpAnyH_take (i := 19) (oi := { dst := some 144, op := Op.move (Operand.tmp 143), type := 4, pos := _, after := _, guard := none }) (v := ?_) rfl (by kernel_rfl) (by kernel_rfl) (by kernel_rfl) (fun _ _ _ h => h) (Or.inl ⟨by rfl, ?_⟩) hHeld ?_
      rotate_left 1
      · (intro W hW; (try dsimp only at hW); go_simp; try with_reducible rfl)
      try simp only [Act.put, List.setIfInBounds_toArray, List.set_cons_zero, List.set_cons_succ]
      refine wpAnyH_take (i := 20) (oi := { dst := some 145, op := Op.move (Operand.tmp 2), type := 22, pos := _, after := _, guard := some (19, true) }) (v := ?_) rfl (by kernel_rfl) (by kernel_rfl) (by kernel_rfl) (fun _ _ _ h => h) (Or.inl ⟨by rfl, ?_⟩) hHeld ?_
      rotate_left 1
      · (intro W hW; (try dsimp only at hW); go_simp; try with_reducible rfl)
      try simp only [Act.put, List.setIfInBounds_toArray, List.set_cons_zero, List.set_cons_succ]
      refine wpAnyH_take (i := 22) (oi := { dst := some 147, op := Op.move (Operand.tmp 2), type := 22, pos := _, after := _, guard := some (19, true) }) (v := ?_) rfl (by kernel_rfl) (by kernel_rfl) (by kernel_rfl) (fun _ _ _ h => h) (Or.inl ⟨by rfl, ?_⟩) hHeld ?_
      rotate_left 1
      · (intro W hW; (try dsimp only at hW); go_simp; try with_reducible rfl)
      try simp only [Act.put, List.setIfInBounds_toArray, List.set_cons_zero, List.set_cons_succ]
      refine wpAnyH_ready (rs := [21]) (by kernel_rfl) (by simp) ?_
      refine AllReadyH.cons (o := { dst := some 146, op := Op.call { callee := Callee.value (Operand.func 12), args := #[Operand.tmp 145], argTypes := #[22] }, type := 27, pos := _, after := _, guard := some (19, true) }) rfl (fun K hK => ?_) AllReadyH.nil
      go_simp
      refine (digs_any _ [] A2 c2 n2 _ l2 (HR2.out.under H23.out) HN2.out H23.out.size (by omega) HO2.out (by simp)).mono ?_
      intro e w24 hm
      obtain ⟨lt24, t24, a24, n24, c24, k24, m24, d24, rfl, h6, hlt, hoff, hb⟩ := hm.six
      have b24 : Hid (Below w23.heap.size w23 w24) := Lib.hid (hb)
      have H24 := Lib.hid (H23.out.trans (b24.out.mono H23.out.size))
      have HS24 := Lib.hid h6
      have HT24 := Lib.hid hlt
      have HO24 := Lib.hid hoff
      clear hm hb h6 hlt hoff
      go_simp
      refine hK.out _ _ (b24.out) (fun _ => ?_)
      clear hK K hHeld
      try simp only [Act.put, List.setIfInBounds_toArray, List.set_cons_zero, List.set_cons_succ]
      refine wpAnyH_strong (S' := fun W => Below w24.heap.size w24 W) (fun W hW => b24.out.trans (hW.mono b24.out.size)) _ _ _ _ ?_
      have hHeld : (fun W => Below w24.heap.size w24 W) w24 := Below.refl _ _
      refine wpAnyH_ready (rs := [23]) (by kernel_rfl) (by simp) ?_
      refine AllReadyH.cons (o := { dst := some 148, op := Op.call { callee := Callee.value (Operand.func 23), args := #[Operand.tmp 147], argTypes := #[22] }, type := 27, pos := _, after := _, guard := some (19, true) }) rfl (fun K hK => ?_) AllReadyH.nil
      go_simp
      refine (digs'_any _ [] A2 c2 n2 _ l2 (HR2.out.under H24.out) HN2.out H24.out.size (by omega) HO2.out (by simp)).mono ?_
      intro e w25 hm
      obtain ⟨lt25, t25, a25, n25, c25, k25, m25, d25, rfl, h6, hlt, hoff, hb⟩ := hm.six
      have b25 : Hid (Below w24.heap.size w24 w25) := Lib.hid (hb)
      have H25 := Lib.hid (H24.out.trans (b25.out.mono H24.out.size))
      have HS25 := Lib.hid h6
      have HT25 := Lib.hid hlt
      have HO25 := Lib.hid hoff
      clear hm hb h6 hlt hoff
      go_simp
      refine hK.out _ _ (b25.out) (fun _ => ?_)
      clear hK K hHeld
      try simp only [Act.put, List.setIfInBounds_toArray, List.set_cons_zero, List.set_cons_succ]
      refine wpAnyH_strong (S' := fun W => Below w25.heap.size w25 W) (fun W hW => b25.out.trans (hW.mono b25.out.size)) _ _ _ _ ?_
      have hHeld : (fun W => Below w25.heap.size w25 W) w25 := Below.refl _ _
      refine wpAnyH_ready (rs := [24]) (by kernel_rfl) (by simp) ?_
      refine AllReadyH.cons (o := { dst := some 149, op := Op.call { callee := Callee.value (Operand.func 19), args := #[Operand.tmp 146, Operand.tmp 148], argTypes := #[27, 27] }, type := 4, pos := _, after := _, guard := some (19, true) }) rfl (fun K hK => ?_) AllReadyH.nil
      go_simp
      refine (same6 HS24.out HS25.out (HO24.out.under b25.out) HO25.out (by rw [HT24.out, HT25.out])).mono ?_
      rintro e w26 ⟨rfl, hb⟩
      have b26 : Hid (Below w25.heap.size w25 w26) := Lib.hid hb
      have H26 := Lib.hid (H25.out.trans (b26.out.mono H25.out.size))
      clear hb
      go_simp
      refine hK.out _ _ (b26.out) (fun _ => ?_)
      clear hK K hHeld
      try simp only [Act.put, List.setIfInBounds_toArray, List.set_cons_zero, List.set_cons_succ]
      refine wpAnyH_strong (S' := fun W => Below w26.heap.size w26 W) (fun W hW => b26.out.trans (hW.mono b26.out.size)) _ _ _ _ ?_
      have hHeld : (fun W => Below w26.heap.size w26 W) w26 := Below.refl _ _
      refine wpAnyH_take (i := 25) (oi := { dst := some 150, op := Op.pick (Operand.tmp 144) (Operand.tmp 149) (Operand.const (Value.bool false)), type := 4, pos := _, after := _, guard := none }) (v := ?_) rfl (by kernel_rfl) (by kernel_rfl) (by kernel_rfl) (fun _ _ _ h => h) (Or.inl ⟨by rfl, ?_⟩) hHeld ?_
      rotate_left 1
      · (intro W hW; (try dsimp only at hW); go_simp; try with_reducible rfl)
      try simp only [Act.put, List.setIfInBounds_toArray, List.set_cons_zero, List.set_cons_succ]
      refine wpAnyH_take (i := 26) (oi := { dst := some 151, op := Op.move (Operand.tmp 150), type := 4, pos := _, after := _, guard := none }) (v := ?_) rfl (by kernel_rfl) (by kernel_rfl) (by kernel_rfl) (fun _ _ _ h => h) (Or.inl ⟨by rfl, ?_⟩) hHeld ?_
      rotate_left 1
      · (intro W hW; (try dsimp only at hW); go_simp; try with_reducible rfl)
      try simp only [Act.put, List.setIfInBounds_toArray, List.set_cons_zero, List.set_cons_succ]
      refine wpAnyH_take (i := 27) (oi := { dst := some 152, op := Op.move (Operand.tmp 2), type := 22, pos := _, after := _, guard := some (26, true) }) (v := ?_) rfl (by kernel_rfl) (by kernel_rfl) (by kernel_rfl) (fun _ _ _ h => h) (Or.inl ⟨by rfl, ?_⟩) hHeld ?_
      rotate_left 1
      · (intro W hW; (try dsimp only at hW); go_simp; try with_reducible rfl)
      try simp only [Act.put, List.setIfInBounds_toArray, List.set_cons_zero, List.set_cons_succ]
      refine wpAnyH_take (i := 29) (oi := { dst := some 154, op := Op.move (Operand.tmp 2), type := 22, pos := _, after := _, guard := some (26, true) }) (v := ?_) rfl (by kernel_rfl) (by kernel_rfl) (by kernel_rfl) (fun _ _ _ h => h) (Or.inl ⟨by rfl, ?_⟩) hHeld ?_
      rotate_left 1
      · (intro W hW; (try dsimp only at hW); go_simp; try with_reducible rfl)
      try simp only [Act.put, List.setIfInBounds_toArray, List.set_cons_zero, List.set_cons_succ]
      refine wpAnyH_ready (rs := [28]) (by kernel_rfl) (by simp) ?_
      refine AllReadyH.cons (o := { dst := some 153, op := Op.call { callee := Callee.value (Operand.func 14), args := #[Operand.tmp 152], argTypes := #[22] }, type := 27, pos := _, after := _, guard := some (26, true) }) rfl (fun K hK => ?_) AllReadyH.nil
      go_simp
      refine (id_any _ [] A2 c2 n2 _ l2 (HR2.out.under H26.out) HN2.out H26.out.size (by omega) HO2.out (by simp)).mono ?_
      intro e w27 hm
      obtain ⟨lt27, t27, a27, n27, c27, k27, m27, d27, rfl, h6, hlt, hoff, hb⟩ := hm.six
      have b27 : Hid (Below w26.heap.size w26 w27) := Lib.hid (hb)
      have H27 := Lib.hid (H26.out.trans (b27.out.mono H26.out.size))
      have HS27 := Lib.hid h6
      have HT27 := Lib.hid hlt
      have HO27 := Lib.hid hoff
      clear hm hb h6 hlt hoff
      go_simp
      refine hK.out _ _ (b27.out) (fun _ => ?_)
      clear hK K hHeld
      try simp only [Act.put, List.setIfInBounds_toArray, List.set_cons_zero, List.set_cons_succ]
      refine wpAnyH_strong (S' := fun W => Below w27.heap.size w27 W) (fun W hW => b27.out.trans (hW.mono b27.out.size)) _ _ _ _ ?_
      have hHeld : (fun W => Below w27.heap.size w27 W) w27 := Below.refl _ _
      refine wpAnyH_ready (rs := [30]) (by kernel_rfl) (by simp) ?_
      refine AllReadyH.cons (o := { dst := some 155, op := Op.call { callee := Callee.value (Operand.func 24), args := #[Operand.tmp 154], argTypes := #[22] }, type := 27, pos := _, after := _, guard := some (26, true) }) rfl (fun K hK => ?_) AllReadyH.nil
      go_simp
      refine (id'_any _ [] A2 c2 n2 _ l2 (HR2.out.under H27.out) HN2.out H27.out.size (by omega) HO2.out (by simp)).mono ?_
      intro e w28 hm
      obtain ⟨lt28, t28, a28, n28, c28, k28, m28, d28, rfl, h6, hlt, hoff, hb⟩ := hm.six
      have b28 : Hid (Below w27.heap.size w27 w28) := Lib.hid (hb)
      have H28 := Lib.hid (H27.out.trans (b28.out.mono H27.out.size))
      have HS28 := Lib.hid h6
      have HT28 := Lib.hid hlt
      have HO28 := Lib.hid hoff
      clear hm hb h6 hlt hoff
      go_simp
      refine hK.out _ _ (b28.out) (fun _ => ?_)
      clear hK K hHeld
      try simp only [Act.put, List.setIfInBounds_toArray, List.set_cons_zero, List.set_cons_succ]
      refine wpAnyH_strong (S' := fun W => Below w28.heap.size w28 W) (fun W hW => b28.out.trans (hW.mono b28.out.size)) _ _ _ _ ?_
      have hHeld : (fun W => Below w28.heap.size w28 W) w28 := Below.refl _ _
      refine wpAnyH_ready (rs := [31]) (by kernel_rfl) (by simp) ?_
      refine AllReadyH.cons (o := { dst := some 156, op := Op.call { callee := Callee.value (Operand.func 19), args := #[Operand.tmp 153, Operand.tmp 155], argTypes := #[27, 27] }, type := 4, pos := _, after := _, guard := some (26, true) }) rfl (fun K hK => ?_) AllReadyH.nil
      go_simp
      refine (same6 HS27.out HS28.out (HO27.out.under b28.out) HO28.out (by rw [HT27.out, HT28.out])).mono ?_
      rintro e w29 ⟨rfl, hb⟩
      have b29 : Hid (Below w28.heap.size w28 w29) := Lib.hid hb
      have H29 := Lib.hid (H28.out.trans (b29.out.mono H28.out.size))
      clear hb
      go_simp
      refine hK.out _ _ (b29.out) (fun _ => ?_)
      clear hK K hHeld
      try simp only [Act.put, List.setIfInBounds_toArray, List.set_cons_zero, List.set_cons_succ]
      refine wpAnyH_strong (S' := fun W => Below w29.heap.size w29 W) (fun W hW => b29.out.trans (hW.mono b29.out.size)) _ _ _ _ ?_
      have hHeld : (fun W => Below w29.heap.size w29 W) w29 := Below.refl _ _
      refine wpAnyH_take (i := 32) (oi := { dst := some 157, op := Op.pick (Operand.tmp 151) (Operand.tmp 156) (Operand.const (Value.bool false)), type := 4, pos := _, after := _, guard := none }) (v := ?_) rfl (by kernel_rfl) (by kernel_rfl) (by kernel_rfl) (fun _ _ _ h => h) (Or.inl ⟨by rfl, ?_⟩) hHeld ?_
      rotate_left 1
      · (intro W hW; (try dsimp only at hW); go_simp; try with_reducible rfl)
      try simp only [Act.put, List.setIfInBounds_toArray, List.set_cons_zero, List.set_cons_succ]
      refine wpAnyH_take (i := 33) (oi := { dst := some 158, op := Op.move (Operand.tmp 157), type := 4, pos := _, after := _, guard := none }) (v := ?_) rfl (by kernel_rfl) (by kernel_rfl) (by kernel_rfl) (fun _ _ _ h => h) (Or.inl ⟨by rfl, ?_⟩) hHeld ?_
      rotate_left 1
      · (intro W hW; (try dsimp only at hW); go_simp; try with_reducible rfl)
      try simp only [Act.put, List.setIfInBounds_toArray, List.set_cons_zero, List.set_cons_succ]
      refine wpAnyH_take (i := 34) (oi := { dst := some 159, op := Op.move (Operand.tmp 23), type := 4, pos := _, after := _, guard := some (33, true) }) (v := ?_) rfl (by kernel_rfl) (by kernel_rfl) (by kernel_rfl) (fun _ _ _ h => h) (Or.inl ⟨by rfl, ?_⟩) hHeld ?_
      rotate_left 1
      · (intro W hW; (try dsimp only at hW); go_simp; try with_reducible rfl)
      try simp only [Act.put, List.setIfInBounds_toArray, List.set_cons_zero, List.set_cons_succ]
      refine wpAnyH_take (i := 35) (oi := { dst := some 160, op := Op.move (Operand.tmp 3), type := 5, pos := _, after := _, guard := some (33, true) }) (v := ?_) rfl (by kernel_rfl) (by kernel_rfl) (by kernel_rfl) (fun _ _ _ h => h) (Or.inl ⟨by rfl, ?_⟩) hHeld ?_
      rotate_left 1
      · (intro W hW; (try dsimp only at hW); go_simp; try with_reducible rfl)
      try simp only [Act.put, List.setIfInBounds_toArray, List.set_cons_zero, List.set_cons_succ]
      refine wpAnyH_take (i := 36) (oi := { dst := some 161, op := Op.binOp BinOp.and 5 (Operand.tmp 160) (Operand.const (Value.int IntKind.u8 32)) 5, type := 5, pos := _, after := _, guard := some (33, true) }) (v := ?_) rfl (by kernel_rfl) (by kernel_rfl) (by kernel_rfl) (fun _ _ _ h => h) (Or.inl ⟨by rfl, ?_⟩) hHeld ?_
      rotate_left 1
      · (intro W hW; (try dsimp only at hW); go_simp; try with_reducible rfl)
      try simp only [Act.put, List.setIfInBounds_toArray, List.set_cons_zero, List.set_cons_succ]
      refine wpAnyH_take (i := 37) (oi := { dst := some 162, op := Op.binOp BinOp.neq 5 (Operand.tmp 161) (Operand.const (Value.int IntKind.u8 0)) 5, type := 4, pos := _, after := _, guard := some (33, true) }) (v := ?_) rfl (by kernel_rfl) (by kernel_rfl) (by kernel_rfl) (fun _ _ _ h => h) (Or.inl ⟨by rfl, ?_⟩) hHeld ?_
      rotate_left 1
      · (intro W hW; have hand1 := HAND.out; have hand2 := HAND2.out; (try dsimp only at hW); go_simp; try with_reducible rfl)
      try simp only [Act.put, List.setIfInBounds_toArray, List.set_cons_zero, List.set_cons_succ]
      refine wpAnyH_take (i := 38) (oi := { dst := some 163, op := Op.binOp BinOp.eql 4 (Operand.tmp 159) (Operand.tmp 162) 4, type := 4, pos := _, after := _, guard := some (33, true) }) (v := ?_) rfl (by kernel_rfl) (by kernel_rfl) (by kernel_rfl) (fun _ _ _ h => h) (Or.inl ⟨by rfl, ?_⟩) hHeld ?_
      rotate_left 1
      · (intro W hW; (try dsimp only at hW); go_simp; try with_reducible rfl)
      try simp only [Act.put, List.setIfInBounds_toArray, List.set_cons_zero, List.set_cons_succ]
      refine wpAnyH_take (i := 39) (oi := { dst := some 164, op := Op.pick (Operand.tmp 158) (Operand.tmp 163) (Operand.const (Value.bool false)), type := 4, pos := _, after := _, guard := none }) (v := ?_) rfl (by kernel_rfl) (by kernel_rfl) (by kernel_rfl) (fun _ _ _ h => h) (Or.inl ⟨by rfl, ?_⟩) hHeld ?_
      rotate_left 1
      · (intro W hW; (try dsimp only at hW); go_simp; try with_reducible rfl)
      try simp only [Act.put, List.setIfInBounds_toArray, List.set_cons_zero, List.set_cons_succ]
      refine wpAnyH_take (i := 40) (oi := { dst := some 165, op := Op.move (Operand.tmp 164), type := 4, pos := _, after := _, guard := none }) (v := ?_) rfl (by kernel_rfl) (by kernel_rfl) (by kernel_rfl) (fun _ _ _ h => h) (Or.inl ⟨by rfl, ?_⟩) hHeld ?_
      rotate_left 1
      · (intro W hW; (try dsimp only at hW); go_simp; try with_reducible rfl)
      try simp only [Act.put, List.setIfInBounds_toArray, List.set_cons_zero, List.set_cons_succ]
      refine wpAnyH_take (i := 41) (oi := { dst := some 166, op := Op.move (Operand.tmp 23), type := 4, pos := _, after := _, guard := some (40, true) }) (v := ?_) rfl (by kernel_rfl) (by kernel_rfl) (by kernel_rfl) (fun _ _ _ h => h) (Or.inl ⟨by rfl, ?_⟩) hHeld ?_
      rotate_left 1
      · (intro W hW; (try dsimp only at hW); go_simp; try with_reducible rfl)
      try simp only [Act.put, List.setIfInBounds_toArray, List.set_cons_zero, List.set_cons_succ]
      refine wpAnyH_take (i := 42) (oi := { dst := some 167, op := Op.unOp UnOp.not 4 (Operand.tmp 166), type := 4, pos := _, after := _, guard := some (40, true) }) (v := ?_) rfl (by kernel_rfl) (by kernel_rfl) (by kernel_rfl) (fun _ _ _ h => h) (Or.inl ⟨by rfl, ?_⟩) hHeld ?_
      rotate_left 1
      · (intro W hW; (try dsimp only at hW); go_simp; try with_reducible rfl)
      try simp only [Act.put, List.setIfInBounds_toArray, List.set_cons_zero, List.set_cons_succ]
      refine wpAnyH_take (i := 43) (oi := { dst := some 168, op := Op.move (Operand.tmp 167), type := 4, pos := _, after := _, guard := some (40, true) }) (v := ?_) rfl (by kernel_rfl) (by kernel_rfl) (by kernel_rfl) (fun _ _ _ h => h) (Or.inl ⟨by rfl, ?_⟩) hHeld ?_
      rotate_left 1
      · (intro W hW; (try dsimp only at hW); go_simp; try with_reducible rfl)
      try simp only [Act.put, List.setIfInBounds_toArray, List.set_cons_zero, List.set_cons_succ]
      refine wpAnyH_take (i := 44) (oi := { dst := some 169, op := Op.move (Operand.tmp 22), type := 23, pos := _, after := _, guard := some (43, false) }) (v := undef) rfl (by kernel_rfl) (by kernel_rfl) (by kernel_rfl) (fun _ _ _ h => h) (Or.inr ⟨by rfl, rfl⟩) hHeld ?_
      try simp only [Act.put, List.setIfInBounds_toArray, List.set_cons_zero, List.set_cons_succ]
      refine wpAnyH_take (i := 45) (oi := { dst := some 170, op := Op.call { callee := Callee.builtin Builtin.len, args := #[Operand.tmp 169], argTypes := #[23] }, type := 3, pos := _, after := _, guard := some (43, false) }) (v := undef) rfl (by kernel_rfl) (by kernel_rfl) (by kernel_rfl) (fun _ _ _ h => h) (Or.inr ⟨by rfl, rfl⟩) hHeld ?_
      try simp only [Act.put, List.setIfInBounds_toArray, List.set_cons_zero, List.set_cons_succ]
      refine wpAnyH_take (i := 46) (oi := { dst := some 171, op := Op.move (Operand.tmp 4), type := 23, pos := _, after := _, guard := some (43, false) }) (v := undef) rfl (by kernel_rfl) (by kernel_rfl) (by kernel_rfl) (fun _ _ _ h => h) (Or.inr ⟨by rfl, rfl⟩) hHeld ?_
      try simp only [Act.put, List.setIfInBounds_toArray, List.set_cons_zero, List.set_cons_succ]
      refine wpAnyH_take (i := 47) (oi := { dst := some 172, op := Op.call { callee := Callee.builtin Builtin.len, args := #[Operand.tmp 171], argTypes := #[23] }, type := 3, pos := _, after := _, guard := some (43, false) }) (v := undef) rfl (by kernel_rfl) (by kernel_rfl) (by kernel_rfl) (fun _ _ _ h => h) (Or.inr ⟨by rfl, rfl⟩) hHeld ?_
      try simp only [Act.put, List.setIfInBounds_toArray, List.set_cons_zero, List.set_cons_succ]
      refine wpAnyH_take (i := 48) (oi := { dst := some 173, op := Op.binOp BinOp.eql 3 (Operand.tmp 170) (Operand.tmp 172) 3, type := 4, pos := _, after := _, guard := some (43, false) }) (v := undef) rfl (by kernel_rfl) (by kernel_rfl) (by kernel_rfl) (fun _ _ _ h => h) (Or.inr ⟨by rfl, rfl⟩) hHeld ?_
      try simp only [Act.put, List.setIfInBounds_toArray, List.set_cons_zero, List.set_cons_succ]
      refine wpAnyH_take (i := 49) (oi := { dst := some 174, op := Op.pick (Operand.tmp 168) (Operand.const (Value.bool true)) (Operand.tmp 173), type := 4, pos := _, after := _, guard := some (40, true) }) (v := ?_) rfl (by kernel_rfl) (by kernel_rfl) (by kernel_rfl) (fun _ _ _ h => h) (Or.inl ⟨by rfl, ?_⟩) hHeld ?_
      rotate_left 1
      · (intro W hW; (try dsimp only at hW); go_simp; try with_reducible rfl)
      try simp only [Act.put, List.setIfInBounds_toArray, List.set_cons_zero, List.set_cons_succ]
      refine wpAnyH_take (i := 50) (oi := { dst := some 175, op := Op.pick (Operand.tmp 165) (Operand.tmp 174) (Operand.const (Value.bool false)), type := 4, pos := _, after := _, guard := none }) (v := ?_) rfl (by kernel_rfl) (by kernel_rfl) (by kernel_rfl) (fun _ _ _ h => h) (Or.inl ⟨by rfl, ?_⟩) hHeld ?_
      rotate_left 1
      · (intro W hW; (try dsimp only at hW); go_simp; try with_reducible rfl)
      try simp only [Act.put, List.setIfInBounds_toArray, List.set_cons_zero, List.set_cons_succ]
      refine wpAnyH_take (i := 51) (oi := { dst := some 176, op := Op.move (Operand.tmp 175), type := 4, pos := _, after := _, guard := none }) (v := ?_) rfl (by kernel_rfl) (by kernel_rfl) (by kernel_rfl) (fun _ _ _ h => h) (Or.inl ⟨by rfl, ?_⟩) hHeld ?_
      rotate_left 1
      · (intro W hW; (try dsimp only at hW); go_simp; try with_reducible rfl)
      try simp only [Act.put, List.setIfInBounds_toArray, List.set_cons_zero, List.set_cons_succ]
      refine wpAnyH_ready (rs := [52]) (by kernel_rfl) (by simp) ?_
      refine AllReadyH.cons (o := { dst := some 177, op := Op.call { callee := Callee.value (Operand.func 25), args := #[], argTypes := #[] }, type := 4, pos := _, after := _, guard := some (51, true) }) rfl (fun K hK => ?_) AllReadyH.nil
      go_simp
      refine (known_any _).mono ?_
      rintro e w30 ⟨rfl, hb⟩
      have b30 : Hid (Below w29.heap.size w29 w30) := Lib.hid hb
      have H30 := Lib.hid (H29.out.trans (b30.out.mono H29.out.size))
      clear hb
      go_simp
      refine hK.out _ _ (b30.out) (fun _ => ?_)
      clear hK K hHeld
      try simp only [Act.put, List.setIfInBounds_toArray, List.set_cons_zero, List.set_cons_succ]
      refine wpAnyH_strong (S' := fun W => Below w30.heap.size w30 W) (fun W hW => b30.out.trans (hW.mono b30.out.size)) _ _ _ _ ?_
      have hHeld : (fun W => Below w30.heap.size w30 W) w30 := Below.refl _ _
      refine wpAnyH_take (i := 53) (oi := { dst := some 178, op := Op.pick (Operand.tmp 176) (Operand.tmp 177) (Operand.const (Value.bool false)), type := 4, pos := _, after := _, guard := none }) (v := ?_) rfl (by kernel_rfl) (by kernel_rfl) (by kernel_rfl) (fun _ _ _ h => h) (Or.inl ⟨by rfl, ?_⟩) hHeld ?_
      rotate_left 1
      · (intro W hW; (try dsimp only at hW); go_simp; try with_reducible rfl)
      try simp only [Act.put, List.setIfInBounds_toArray, List.set_cons_zero, List.set_cons_succ]
      refine wpAnyH_take (i := 54) (oi := { dst := some 10, op := Op.assign (Operand.tmp 178), type := 4, pos := _, after := _, guard := none }) (v := ?_) rfl (by kernel_rfl) (by kernel_rfl) (by kernel_rfl) (fun _ _ _ h => h) (Or.inl ⟨by rfl, ?_⟩) hHeld ?_
      rotate_left 1
      · (intro W hW; (try dsimp only at hW); go_simp; try with_reducible rfl)
      try simp only [Act.put, List.setIfInBounds_toArray, List.set_cons_zero, List.set_cons_succ]
      refine wpAnyH_done (by kernel_rfl) ?_ _
      refine NoPanic.normal ?_
      go_wp2_with fail
      go_ret
      exact ⟨rfl, H30.out⟩
    case true =>
      obtain rfl : mm = m15 := by rw [HM15.out rfl, HKL.out]
      refine wp_region_noPanic ?_
      refine wp_region_held_drew (S := fun W => Below w15.heap.size w15 W) (by kernel_rfl) (Below.refl _ w15).drew (fun hHeld => ?_)
      refine wpAnyH_take (i := 0) (oi := { dst := some 125, op := Op.load 27 (Operand.tmp 21), type := 27, pos := _, after := _, guard := none }) (v := ?_) rfl (by kernel_rfl) (by kernel_rfl) (by kernel_rfl) (fun _ _ _ h => h) (Or.inl ⟨by rfl, ?_⟩) hHeld ?_
      rotate_left 1
      · (intro W hW; obtain ⟨k0, k1, k2⟩ := HZ15.out W hW; (try dsimp only at hW); go_simp; try with_reducible rfl)
      try simp only [Act.put, List.setIfInBounds_toArray, List.set_cons_zero, List.set_cons_succ]
      refine wpAnyH_take (i := 1) (oi := { dst := some 126, op := Op.move (Operand.tmp 3), type := 5, pos := _, after := _, guard := none }) (v := ?_) rfl (by kernel_rfl) (by kernel_rfl) (by kernel_rfl) (fun _ _ _ h => h) (Or.inl ⟨by rfl, ?_⟩) hHeld ?_
      rotate_left 1
      · (intro W hW; (try dsimp only at hW); go_simp; try with_reducible rfl)
      try simp only [Act.put, List.setIfInBounds_toArray, List.set_cons_zero, List.set_cons_succ]
      refine wpAnyH_take (i := 2) (oi := { dst := some 127, op := Op.move (Operand.tmp 4), type := 23, pos := _, after := _, guard := none }) (v := ?_) rfl (by kernel_rfl) (by kernel_rfl) (by kernel_rfl) (fun _ _ _ h => h) (Or.inl ⟨by rfl, ?_⟩) hHeld ?_
      rotate_left 1
      · (intro W hW; (try dsimp only at hW); go_simp; try with_reducible rfl)
      try simp only [Act.put, List.setIfInBounds_toArray, List.set_cons_zero, List.set_cons_succ]
      refine wpAnyH_ready (rs := [3]) (by kernel_rfl) (by simp) ?_
      refine AllReadyH.cons (o := { dst := some 128, op := Op.call { callee := Callee.value (Operand.func 20), args := #[Operand.tmp 126, Operand.tmp 127], argTypes := #[5, 23] }, type := 27, pos := _, after := _, guard := none }) rfl (fun K hK => ?_) AllReadyH.nil
      go_simp
      refine (seq'_any _ [] t c4 mm A4 ks (HK.out.under (H15.out.trans ((Below.refl _ w15).drew.mono H15.out.size))) HN4.out htg).mono ?_
      intro e w16 hm
      obtain ⟨lt16, t16, a16, n16, c16, k16, m16, d16, rfl, h6, hlt, hoff, hb⟩ := hm.six
      have b16 : Hid (Below w15.heap.size w15 w16) := Lib.hid ((Below.refl _ w15).drew.trans hb)
      have H16 := Lib.hid (H15.out.trans (b16.out.mono H15.out.size))
      have HS16 := Lib.hid h6
      have HT16 := Lib.hid hlt
      have HO16 := Lib.hid hoff
      clear hm hb h6 hlt hoff
      go_simp
      refine hK.out _ _ (b16.out) (fun _ => ?_)
      clear hK K hHeld
      try simp only [Act.put, List.setIfInBounds_toArray, List.set_cons_zero, List.set_cons_succ]
      refine wpAnyH_strong (S' := fun W => Below w16.heap.size w16 W) (fun W hW => b16.out.trans (hW.mono b16.out.size)) _ _ _ _ ?_
      have hHeld : (fun W => Below w16.heap.size w16 W) w16 := Below.refl _ _
      refine wpAnyH_ready (rs := [4]) (by kernel_rfl) (by simp) ?_
      refine AllReadyH.cons (o := { dst := some 129, op := Op.call { callee := Callee.value (Operand.func 19), args := #[Operand.tmp 125, Operand.tmp 128], argTypes := #[27, 27] }, type := 4, pos := _, after := _, guard := none }) rfl (fun K hK => ?_) AllReadyH.nil
      go_simp
      refine (same6 H6'.out HS16.out (HO15.out.under b16.out) HO16.out (by rw [HLT.out, HT16.out])).mono ?_
      rintro e w17 ⟨rfl, hb⟩
      have b17 : Hid (Below w16.heap.size w16 w17) := Lib.hid hb
      have H17 := Lib.hid (H16.out.trans (b17.out.mono H16.out.size))
      clear hb
      go_simp
      refine hK.out _ _ (b17.out) (fun _ => ?_)
      clear hK K hHeld
      try simp only [Act.put, List.setIfInBounds_toArray, List.set_cons_zero, List.set_cons_succ]
      refine wpAnyH_strong (S' := fun W => Below w17.heap.size w17 W) (fun W hW => b17.out.trans (hW.mono b17.out.size)) _ _ _ _ ?_
      have hHeld : (fun W => Below w17.heap.size w17 W) w17 := Below.refl _ _
      refine wpAnyH_take (i := 5) (oi := { dst := some 130, op := Op.move (Operand.tmp 129), type := 4, pos := _, after := _, guard := none }) (v := ?_) rfl (by kernel_rfl) (by kernel_rfl) (by kernel_rfl) (fun _ _ _ h => h) (Or.inl ⟨by rfl, ?_⟩) hHeld ?_
      rotate_left 1
      · (intro W hW; (try dsimp only at hW); go_simp; try with_reducible rfl)
      try simp only [Act.put, List.setIfInBounds_toArray, List.set_cons_zero, List.set_cons_succ]
      refine wpAnyH_take (i := 6) (oi := { dst := some 131, op := Op.move (Operand.tmp 1), type := 9, pos := _, after := _, guard := some (5, true) }) (v := ?_) rfl (by kernel_rfl) (by kernel_rfl) (by kernel_rfl) (fun _ _ _ h => h) (Or.inl ⟨by rfl, ?_⟩) hHeld ?_
      rotate_left 1
      · (intro W hW; (try dsimp only at hW); go_simp; try with_reducible rfl)
      try simp only [Act.put, List.setIfInBounds_toArray, List.set_cons_zero, List.set_cons_succ]
      refine wpAnyH_take (i := 8) (oi := { dst := some 133, op := Op.move (Operand.tmp 1), type := 9, pos := _, after := _, guard := some (5, true) }) (v := ?_) rfl (by kernel_rfl) (by kernel_rfl) (by kernel_rfl) (fun _ _ _ h => h) (Or.inl ⟨by rfl, ?_⟩) hHeld ?_
      rotate_left 1
      · (intro W hW; (try dsimp only at hW); go_simp; try with_reducible rfl)
      try simp only [Act.put, List.setIfInBounds_toArray, List.set_cons_zero, List.set_cons_succ]
      refine wpAnyH_ready (rs := [7]) (by kernel_rfl) (by simp) ?_
      refine AllReadyH.cons (o := { dst := some 132, op := Op.call { callee := Callee.value (Operand.func 8), args := #[Operand.tmp 131], argTypes := #[9] }, type := 27, pos := _, after := _, guard := some (5, true) }) rfl (fun K hK => ?_) AllReadyH.nil
      go_simp
      refine (text_any _ [] l1 HO1.out (by have := HN1.out; omega) (by simp)).mono ?_
      intro e w18 hm
      obtain ⟨lt18, t18, a18, n18, c18, k18, m18, d18, rfl, h6, hlt, hoff, hb⟩ := hm.six
      have b18 : Hid (Below w17.heap.size w17 w18) := Lib.hid (hb)
      have H18 := Lib.hid (H17.out.trans (b18.out.mono H17.out.size))
      have HS18 := Lib.hid h6
      have HT18 := Lib.hid hlt
      have HO18 := Lib.hid hoff
      clear hm hb h6 hlt hoff
      go_simp
      refine hK.out _ _ (b18.out) (fun _ => ?_)
      clear hK K hHeld
      try simp only [Act.put, List.setIfInBounds_toArray, List.set_cons_zero, List.set_cons_succ]
      refine wpAnyH_strong (S' := fun W => Below w18.heap.size w18 W) (fun W hW => b18.out.trans (hW.mono b18.out.size)) _ _ _ _ ?_
      have hHeld : (fun W => Below w18.heap.size w18 W) w18 := Below.refl _ _
      refine wpAnyH_ready (rs := [9]) (by kernel_rfl) (by simp) ?_
      refine AllReadyH.cons (o := { dst := some 134, op := Op.call { callee := Callee.value (Operand.func 21), args := #[Operand.tmp 133], argTypes := #[9] }, type := 27, pos := _, after := _, guard := some (5, true) }) rfl (fun K hK => ?_) AllReadyH.nil
      go_simp
      refine (text'_any _ [] l1 HO1.out (by have := HN1.out; omega) (by simp)).mono ?_
      intro e w19 hm
      obtain ⟨lt19, t19, a19, n19, c19, k19, m19, d19, rfl, h6, hlt, hoff, hb⟩ := hm.six
      have b19 : Hid (Below w18.heap.size w18 w19) := Lib.hid (hb)
      have H19 := Lib.hid (H18.out.trans (b19.out.mono H18.out.size))
      have HS19 := Lib.hid h6
      have HT19 := Lib.hid hlt
      have HO19 := Lib.hid hoff
      clear hm hb h6 hlt hoff
      go_simp
      refine hK.out _ _ (b19.out) (fun _ => ?_)
      clear hK K hHeld
      try simp only [Act.put, List.setIfInBounds_toArray, List.set_cons_zero, List.set_cons_succ]
      refine wpAnyH_strong (S' := fun W => Below w19.heap.size w19 W) (fun W hW => b19.out.trans (hW.mono b19.out.size)) _ _ _ _ ?_
      have hHeld : (fun W => Below w19.heap.size w19 W) w19 := Below.refl _ _
      refine wpAnyH_ready (rs := [10]) (by kernel_rfl) (by simp) ?_
      refine AllReadyH.cons (o := { dst := some 135, op := Op.call { callee := Callee.value (Operand.func 19), args := #[Operand.tmp 132, Operand.tmp 134], argTypes := #[27, 27] }, type := 4, pos := _, after := _, guard := some (5, true) }) rfl (fun K hK => ?_) AllReadyH.nil
      go_simp
      refine (same6 HS18.out HS19.out (HO18.out.under b19.out) HO19.out (by rw [HT18.out, HT19.out])).mono ?_
      rintro e w20 ⟨rfl, hb⟩
      have b20 : Hid (Below w19.heap.size w19 w20) := Lib.hid hb
      have H20 := Lib.hid (H19.out.trans (b20.out.mono H19.out.size))
      clear hb
      go_simp
      refine hK.out _ _ (b20.out) (fun _ => ?_)
      clear hK K hHeld
      try simp only [Act.put, List.setIfInBounds_toArray, List.set_cons_zero, List.set_cons_succ]
      refine wpAnyH_strong (S' := fun W => Below w20.heap.size w20 W) (fun W hW => b20.out.trans (hW.mono b20.out.size)) _ _ _ _ ?_
      have hHeld : (fun W => Below w20.heap.size w20 W) w20 := Below.refl _ _
      refine wpAnyH_take (i := 11) (oi := { dst := some 136, op := Op.pick (Operand.tmp 130) (Operand.tmp 135) (Operand.const (Value.bool false)), type := 4, pos := _, after := _, guard := none }) (v := ?_) rfl (by kernel_rfl) (by kernel_rfl) (by kernel_rfl) (fun _ _ _ h => h) (Or.inl ⟨by rfl, ?_⟩) hHeld ?_
      rotate_left 1
      · (intro W hW; (try dsimp only at hW); go_simp; try with_reducible rfl)
      try simp only [Act.put, List.setIfInBounds_toArray, List.set_cons_zero, List.set_cons_succ]
      refine wpAnyH_take (i := 12) (oi := { dst := some 137, op := Op.move (Operand.tmp 136), type := 4, pos := _, after := _, guard := none }) (v := ?_) rfl (by kernel_rfl) (by kernel_rfl) (by kernel_rfl) (fun _ _ _ h => h) (Or.inl ⟨by rfl, ?_⟩) hHeld ?_
      rotate_left 1
      · (intro W hW; (try dsimp only at hW); go_simp; try with_reducible rfl)
      try simp only [Act.put, List.setIfInBounds_toArray, List.set_cons_zero, List.set_cons_succ]
      refine wpAnyH_take (i := 13) (oi := { dst := some 138, op := Op.move (Operand.tmp 2), type := 22, pos := _, after := _, guard := some (12, true) }) (v := ?_) rfl (by kernel_rfl) (by kernel_rfl) (by kernel_rfl) (fun _ _ _ h => h) (Or.inl ⟨by rfl, ?_⟩) hHeld ?_
      rotate_left 1
      · (intro W hW; (try dsimp only at hW); go_simp; try with_reducible rfl)
      try simp only [Act.put, List.setIfInBounds_toArray, List.set_cons_zero, List.set_cons_succ]
      refine wpAnyH_take (i := 15) (oi := { dst := some 140, op := Op.move (Operand.tmp 2), type := 22, pos := _, after := _, guard := some (12, true) }) (v := ?_) rfl (by kernel_rfl) (by kernel_rfl) (by kernel_rfl) (fun _ _ _ h => h) (Or.inl ⟨by rfl, ?_⟩) hHeld ?_
      rotate_left 1
      · (intro W hW; (try dsimp only at hW); go_simp; try with_reducible rfl)
      try simp only [Act.put, List.setIfInBounds_toArray, List.set_cons_zero, List.set_cons_succ]
      refine wpAnyH_ready (rs := [14]) (by kernel_rfl) (by simp) ?_
      refine AllReadyH.cons (o := { dst := some 139, op := Op.call { callee := Callee.value (Operand.func 10), args := #[Operand.tmp 138], argTypes := #[22] }, type := 27, pos := _, after := _, guard := some (12, true) }) rfl (fun K hK => ?_) AllReadyH.nil
      go_simp
      refine (octets_any _ [] A2 c2 n2 _ l2 (HR2.out.under H20.out) HN2.out H20.out.size (by omega) HO2.out (by simp)).mono ?_
      intro e w21 hm
      obtain ⟨lt21, t21, a21, n21, c21, k21, m21, d21, rfl, h6, hlt, hoff, hb⟩ := hm.six
      have b21 : Hid (Below w20.heap.size w20 w21) := Lib.hid (hb)
      have H21 := Lib.hid (H20.out.trans (b21.out.mono H20.out.size))
      have HS21 := Lib.hid h6
      have HT21 := Lib.hid hlt
      have HO21 := Lib.hid hoff
      clear hm hb h6 hlt hoff
      go_simp
      refine hK.out _ _ (b21.out) (fun _ => ?_)
      clear hK K hHeld
      try simp only [Act.put, List.setIfInBounds_toArray, List.set_cons_zero, List.set_cons_succ]
      refine wpAnyH_strong (S' := fun W => Below w21.heap.size w21 W) (fun W hW => b21.out.trans (hW.mono b21.out.size)) _ _ _ _ ?_
      have hHeld : (fun W => Below w21.heap.size w21 W) w21 := Below.refl _ _
      refine wpAnyH_ready (rs := [16]) (by kernel_rfl) (by simp) ?_
      refine AllReadyH.cons (o := { dst := some 141, op := Op.call { callee := Callee.value (Operand.func 22), args := #[Operand.tmp 140], argTypes := #[22] }, type := 27, pos := _, after := _, guard := some (12, true) }) rfl (fun K hK => ?_) AllReadyH.nil
      go_simp
      refine (octets'_any _ [] A2 c2 n2 _ l2 (HR2.out.under H21.out) HN2.out H21.out.size (by omega) HO2.out (by simp)).mono ?_
      intro e w22 hm
      obtain ⟨lt22, t22, a22, n22, c22, k22, m22, d22, rfl, h6, hlt, hoff, hb⟩ := hm.six
      have b22 : Hid (Below w21.heap.size w21 w22) := Lib.hid (hb)
      have H22 := Lib.hid (H21.out.trans (b22.out.mono H21.out.size))
      have HS22 := Lib.hid h6
      have HT22 := Lib.hid hlt
      have HO22 := Lib.hid hoff
      clear hm hb h6 hlt hoff
      go_simp
      refine hK.out _ _ (b22.out) (fun _ => ?_)
      clear hK K hHeld
      try simp only [Act.put, List.setIfInBounds_toArray, List.set_cons_zero, List.set_cons_succ]
      refine wpAnyH_strong (S' := fun W => Below w22.heap.size w22 W) (fun W hW => b22.out.trans (hW.mono b22.out.size)) _ _ _ _ ?_
      have hHeld : (fun W => Below w22.heap.size w22 W) w22 := Below.refl _ _
      refine wpAnyH_ready (rs := [17]) (by kernel_rfl) (by simp) ?_
      refine AllReadyH.cons (o := { dst := some 142, op := Op.call { callee := Callee.value (Operand.func 19), args := #[Operand.tmp 139, Operand.tmp 141], argTypes := #[27, 27] }, type := 4, pos := _, after := _, guard := some (12, true) }) rfl (fun K hK => ?_) AllReadyH.nil
      go_simp
      refine (same6 HS21.out HS22.out (HO21.out.under b22.out) HO22.out (by rw [HT21.out, HT22.out])).mono ?_
      rintro e w23 ⟨rfl, hb⟩
      have b23 : Hid (Below w22.heap.size w22 w23) := Lib.hid hb
      have H23 := Lib.hid (H22.out.trans (b23.out.mono H22.out.size))
      clear hb
      go_simp
      refine hK.out _ _ (b23.out) (fun _ => ?_)
      clear hK K hHeld
      try simp only [Act.put, List.setIfInBounds_toArray, List.set_cons_zero, List.set_cons_succ]
      refine wpAnyH_strong (S' := fun W => Below w23.heap.size w23 W) (fun W hW => b23.out.trans (hW.mono b23.out.size)) _ _ _ _ ?_
      have hHeld : (fun W => Below w23.heap.size w23 W) w23 := Below.refl _ _
      refine wpAnyH_take (i := 18) (oi := { dst := some 143, op := Op.pick (Operand.tmp 137) (Operand.tmp 142) (Operand.const (Value.bool false)), type := 4, pos := _, after := _, guard := none }) (v := ?_) rfl (by kernel_rfl) (by kernel_rfl) (by kernel_rfl) (fun _ _ _ h => h) (Or.inl ⟨by rfl, ?_⟩) hHeld ?_
      rotate_left 1
      · (intro W hW; (try dsimp only at hW); go_simp; try with_reducible rfl)
      try simp only [Act.put, List.setIfInBounds_toArray, List.set_cons_zero, List.set_cons_succ]
      refine wpAnyH_take (i := 19) (oi := { dst := some 144, op := Op.move (Operand.tmp 143), type := 4, pos := _, after := _, guard := none }) (v := ?_) rfl (by kernel_rfl) (by kernel_rfl) (by kernel_rfl) (fun _ _ _ h => h) (Or.inl ⟨by rfl, ?_⟩) hHeld ?_
      rotate_left 1
      · (intro W hW; (try dsimp only at hW); go_simp; try with_reducible rfl)
      try simp only [Act.put, List.setIfInBounds_toArray, List.set_cons_zero, List.set_cons_succ]
      refine wpAnyH_take (i := 20) (oi := { dst := some 145, op := Op.move (Operand.tmp 2), type := 22, pos := _, after := _, guard := some (19, true) }) (v := ?_) rfl (by kernel_rfl) (by kernel_rfl) (by kernel_rfl) (fun _ _ _ h => h) (Or.inl ⟨by rfl, ?_⟩) hHeld ?_
      rotate_left 1
      · (intro W hW; (try dsimp only at hW); go_simp; try with_reducible rfl)
      try simp only [Act.put, List.setIfInBounds_toArray, List.set_cons_zero, List.set_cons_succ]
      refine wpAnyH_take (i := 22) (oi := { dst := some 147, op := Op.move (Operand.tmp 2), type := 22, pos := _, after := _, guard := some (19, true) }) (v := ?_) rfl (by kernel_rfl) (by kernel_rfl) (by kernel_rfl) (fun _ _ _ h => h) (Or.inl ⟨by rfl, ?_⟩) hHeld ?_
      rotate_left 1
      · (intro W hW; (try dsimp only at hW); go_simp; try with_reducible rfl)
      try simp only [Act.put, List.setIfInBounds_toArray, List.set_cons_zero, List.set_cons_succ]
      refine wpAnyH_ready (rs := [21]) (by kernel_rfl) (by simp) ?_
      refine AllReadyH.cons (o := { dst := some 146, op := Op.call { callee := Callee.value (Operand.func 12), args := #[Operand.tmp 145], argTypes := #[22] }, type := 27, pos := _, after := _, guard := some (19, true) }) rfl (fun K hK => ?_) AllReadyH.nil
      go_simp
      refine (digs_any _ [] A2 c2 n2 _ l2 (HR2.out.under H23.out) HN2.out H23.out.size (by omega) HO2.out (by simp)).mono ?_
      intro e w24 hm
      obtain ⟨lt24, t24, a24, n24, c24, k24, m24, d24, rfl, h6, hlt, hoff, hb⟩ := hm.six
      have b24 : Hid (Below w23.heap.size w23 w24) := Lib.hid (hb)
      have H24 := Lib.hid (H23.out.trans (b24.out.mono H23.out.size))
      have HS24 := Lib.hid h6
      have HT24 := Lib.hid hlt
      have HO24 := Lib.hid hoff
      clear hm hb h6 hlt hoff
      go_simp
      refine hK.out _ _ (b24.out) (fun _ => ?_)
      clear hK K hHeld
      try simp only [Act.put, List.setIfInBounds_toArray, List.set_cons_zero, List.set_cons_succ]
      refine wpAnyH_strong (S' := fun W => Below w24.heap.size w24 W) (fun W hW => b24.out.trans (hW.mono b24.out.size)) _ _ _ _ ?_
      have hHeld : (fun W => Below w24.heap.size w24 W) w24 := Below.refl _ _
      refine wpAnyH_ready (rs := [23]) (by kernel_rfl) (by simp) ?_
      refine AllReadyH.cons (o := { dst := some 148, op := Op.call { callee := Callee.value (Operand.func 23), args := #[Operand.tmp 147], argTypes := #[22] }, type := 27, pos := _, after := _, guard := some (19, true) }) rfl (fun K hK => ?_) AllReadyH.nil
      go_simp
      refine (digs'_any _ [] A2 c2 n2 _ l2 (HR2.out.under H24.out) HN2.out H24.out.size (by omega) HO2.out (by simp)).mono ?_
      intro e w25 hm
      obtain ⟨lt25, t25, a25, n25, c25, k25, m25, d25, rfl, h6, hlt, hoff, hb⟩ := hm.six
      have b25 : Hid (Below w24.heap.size w24 w25) := Lib.hid (hb)
      have H25 := Lib.hid (H24.out.trans (b25.out.mono H24.out.size))
      have HS25 := Lib.hid h6
      have HT25 := Lib.hid hlt
      have HO25 := Lib.hid hoff
      clear hm hb h6 hlt hoff
      go_simp
      refine hK.out _ _ (b25.out) (fun _ => ?_)
      clear hK K hHeld
      try simp only [Act.put, List.setIfInBounds_toArray, List.set_cons_zero, List.set_cons_succ]
      refine wpAnyH_strong (S' := fun W => Below w25.heap.size w25 W) (fun W hW => b25.out.trans (hW.mono b25.out.size)) _ _ _ _ ?_
      have hHeld : (fun W => Below w25.heap.size w25 W) w25 := Below.refl _ _
      refine wpAnyH_ready (rs := [24]) (by kernel_rfl) (by simp) ?_
      refine AllReadyH.cons (o := { dst := some 149, op := Op.call { callee := Callee.value (Operand.func 19), args := #[Operand.tmp 146, Operand.tmp 148], argTypes := #[27, 27] }, type := 4, pos := _, after := _, guard := some (19, true) }) rfl (fun K hK => ?_) AllReadyH.nil
      go_simp
      refine (same6 HS24.out HS25.out (HO24.out.under b25.out) HO25.out (by rw [HT24.out, HT25.out])).mono ?_
      rintro e w26 ⟨rfl, hb⟩
      have b26 : Hid (Below w25.heap.size w25 w26) := Lib.hid hb
      have H26 := Lib.hid (H25.out.trans (b26.out.mono H25.out.size))
      clear hb
      go_simp
      refine hK.out _ _ (b26.out) (fun _ => ?_)
      clear hK K hHeld
      try simp only [Act.put, List.setIfInBounds_toArray, List.set_cons_zero, List.set_cons_succ]
      refine wpAnyH_strong (S' := fun W => Below w26.heap.size w26 W) (fun W hW => b26.out.trans (hW.mono b26.out.size)) _ _ _ _ ?_
      have hHeld : (fun W => Below w26.heap.size w26 W) w26 := Below.refl _ _
      refine wpAnyH_take (i := 25) (oi := { dst := some 150, op := Op.pick (Operand.tmp 144) (Operand.tmp 149) (Operand.const (Value.bool false)), type := 4, pos := _, after := _, guard := none }) (v := ?_) rfl (by kernel_rfl) (by kernel_rfl) (by kernel_rfl) (fun _ _ _ h => h) (Or.inl ⟨by rfl, ?_⟩) hHeld ?_
      rotate_left 1
      · (intro W hW; (try dsimp only at hW); go_simp; try with_reducible rfl)
      try simp only [Act.put, List.setIfInBounds_toArray, List.set_cons_zero, List.set_cons_succ]
      refine wpAnyH_take (i := 26) (oi := { dst := some 151, op := Op.move (Operand.tmp 150), type := 4, pos := _, after := _, guard := none }) (v := ?_) rfl (by kernel_rfl) (by kernel_rfl) (by kernel_rfl) (fun _ _ _ h => h) (Or.inl ⟨by rfl, ?_⟩) hHeld ?_
      rotate_left 1
      · (intro W hW; (try dsimp only at hW); go_simp; try with_reducible rfl)
      try simp only [Act.put, List.setIfInBounds_toArray, List.set_cons_zero, List.set_cons_succ]
      refine wpAnyH_take (i := 27) (oi := { dst := some 152, op := Op.move (Operand.tmp 2), type := 22, pos := _, after := _, guard := some (26, true) }) (v := ?_) rfl (by kernel_rfl) (by kernel_rfl) (by kernel_rfl) (fun _ _ _ h => h) (Or.inl ⟨by rfl, ?_⟩) hHeld ?_
      rotate_left 1
      · (intro W hW; (try dsimp only at hW); go_simp; try with_reducible rfl)
      try simp only [Act.put, List.setIfInBounds_toArray, List.set_cons_zero, List.set_cons_succ]
      refine wpAnyH_take (i := 29) (oi := { dst := some 154, op := Op.move (Operand.tmp 2), type := 22, pos := _, after := _, guard := some (26, true) }) (v := ?_) rfl (by kernel_rfl) (by kernel_rfl) (by kernel_rfl) (fun _ _ _ h => h) (Or.inl ⟨by rfl, ?_⟩) hHeld ?_
      rotate_left 1
      · (intro W hW; (try dsimp only at hW); go_simp; try with_reducible rfl)
      try simp only [Act.put, List.setIfInBounds_toArray, List.set_cons_zero, List.set_cons_succ]
      refine wpAnyH_ready (rs := [28]) (by kernel_rfl) (by simp) ?_
      refine AllReadyH.cons (o := { dst := some 153, op := Op.call { callee := Callee.value (Operand.func 14), args := #[Operand.tmp 152], argTypes := #[22] }, type := 27, pos := _, after := _, guard := some (26, true) }) rfl (fun K hK => ?_) AllReadyH.nil
      go_simp
      refine (id_any _ [] A2 c2 n2 _ l2 (HR2.out.under H26.out) HN2.out H26.out.size (by omega) HO2.out (by simp)).mono ?_
      intro e w27 hm
      obtain ⟨lt27, t27, a27, n27, c27, k27, m27, d27, rfl, h6, hlt, hoff, hb⟩ := hm.six
      have b27 : Hid (Below w26.heap.size w26 w27) := Lib.hid (hb)
      have H27 := Lib.hid (H26.out.trans (b27.out.mono H26.out.size))
      have HS27 := Lib.hid h6
      have HT27 := Lib.hid hlt
      have HO27 := Lib.hid hoff
      clear hm hb h6 hlt hoff
      go_simp
      refine hK.out _ _ (b27.out) (fun _ => ?_)
      clear hK K hHeld
      try simp only [Act.put, List.setIfInBounds_toArray, List.set_cons_zero, List.set_cons_succ]
      refine wpAnyH_strong (S' := fun W => Below w27.heap.size w27 W) (fun W hW => b27.out.trans (hW.mono b27.out.size)) _ _ _ _ ?_
      have hHeld : (fun W => Below w27.heap.size w27 W) w27 := Below.refl _ _
      refine wpAnyH_ready (rs := [30]) (by kernel_rfl) (by simp) ?_
      refine AllReadyH.cons (o := { dst := some 155, op := Op.call { callee := Callee.value (Operand.func 24), args := #[Operand.tmp 154], argTypes := #[22] }, type := 27, pos := _, after := _, guard := some (26, true) }) rfl (fun K hK => ?_) AllReadyH.nil
      go_simp
      refine (id'_any _ [] A2 c2 n2 _ l2 (HR2.out.under H27.out) HN2.out H27.out.size (by omega) HO2.out (by simp)).mono ?_
      intro e w28 hm
      obtain ⟨lt28, t28, a28, n28, c28, k28, m28, d28, rfl, h6, hlt, hoff, hb⟩ := hm.six
      have b28 : Hid (Below w27.heap.size w27 w28) := Lib.hid (hb)
      have H28 := Lib.hid (H27.out.trans (b28.out.mono H27.out.size))
      have HS28 := Lib.hid h6
      have HT28 := Lib.hid hlt
      have HO28 := Lib.hid hoff
      clear hm hb h6 hlt hoff
      go_simp
      refine hK.out _ _ (b28.out) (fun _ => ?_)
      clear hK K hHeld
      try simp only [Act.put, List.setIfInBounds_toArray, List.set_cons_zero, List.set_cons_succ]
      refine wpAnyH_strong (S' := fun W => Below w28.heap.size w28 W) (fun W hW => b28.out.trans (hW.mono b28.out.size)) _ _ _ _ ?_
      have hHeld : (fun W => Below w28.heap.size w28 W) w28 := Below.refl _ _
      refine wpAnyH_ready (rs := [31]) (by kernel_rfl) (by simp) ?_
      refine AllReadyH.cons (o := { dst := some 156, op := Op.call { callee := Callee.value (Operand.func 19), args := #[Operand.tmp 153, Operand.tmp 155], argTypes := #[27, 27] }, type := 4, pos := _, after := _, guard := some (26, true) }) rfl (fun K hK => ?_) AllReadyH.nil
      go_simp
      refine (same6 HS27.out HS28.out (HO27.out.under b28.out) HO28.out (by rw [HT27.out, HT28.out])).mono ?_
      rintro e w29 ⟨rfl, hb⟩
      have b29 : Hid (Below w28.heap.size w28 w29) := Lib.hid hb
      have H29 := Lib.hid (H28.out.trans (b29.out.mono H28.out.size))
      clear hb
      go_simp
      refine hK.out _ _ (b29.out) (fun _ => ?_)
      clear hK K hHeld
      try simp only [Act.put, List.setIfInBounds_toArray, List.set_cons_zero, List.set_cons_succ]
      refine wpAnyH_strong (S' := fun W => Below w29.heap.size w29 W) (fun W hW => b29.out.trans (hW.mono b29.out.size)) _ _ _ _ ?_
      have hHeld : (fun W => Below w29.heap.size w29 W) w29 := Below.refl _ _
      refine wpAnyH_take (i := 32) (oi := { dst := some 157, op := Op.pick (Operand.tmp 151) (Operand.tmp 156) (Operand.const (Value.bool false)), type := 4, pos := _, after := _, guard := none }) (v := ?_) rfl (by kernel_rfl) (by kernel_rfl) (by kernel_rfl) (fun _ _ _ h => h) (Or.inl ⟨by rfl, ?_⟩) hHeld ?_
      rotate_left 1
      · (intro W hW; (try dsimp only at hW); go_simp; try with_reducible rfl)
      try simp only [Act.put, List.setIfInBounds_toArray, List.set_cons_zero, List.set_cons_succ]
      refine wpAnyH_take (i := 33) (oi := { dst := some 158, op := Op.move (Operand.tmp 157), type := 4, pos := _, after := _, guard := none }) (v := ?_) rfl (by kernel_rfl) (by kernel_rfl) (by kernel_rfl) (fun _ _ _ h => h) (Or.inl ⟨by rfl, ?_⟩) hHeld ?_
      rotate_left 1
      · (intro W hW; (try dsimp only at hW); go_simp; try with_reducible rfl)
      try simp only [Act.put, List.setIfInBounds_toArray, List.set_cons_zero, List.set_cons_succ]
      refine wpAnyH_take (i := 34) (oi := { dst := some 159, op := Op.move (Operand.tmp 23), type := 4, pos := _, after := _, guard := some (33, true) }) (v := ?_) rfl (by kernel_rfl) (by kernel_rfl) (by kernel_rfl) (fun _ _ _ h => h) (Or.inl ⟨by rfl, ?_⟩) hHeld ?_
      rotate_left 1
      · (intro W hW; (try dsimp only at hW); go_simp; try with_reducible rfl)
      try simp only [Act.put, List.setIfInBounds_toArray, List.set_cons_zero, List.set_cons_succ]
      refine wpAnyH_take (i := 35) (oi := { dst := some 160, op := Op.move (Operand.tmp 3), type := 5, pos := _, after := _, guard := some (33, true) }) (v := ?_) rfl (by kernel_rfl) (by kernel_rfl) (by kernel_rfl) (fun _ _ _ h => h) (Or.inl ⟨by rfl, ?_⟩) hHeld ?_
      rotate_left 1
      · (intro W hW; (try dsimp only at hW); go_simp; try with_reducible rfl)
      try simp only [Act.put, List.setIfInBounds_toArray, List.set_cons_zero, List.set_cons_succ]
      refine wpAnyH_take (i := 36) (oi := { dst := some 161, op := Op.binOp BinOp.and 5 (Operand.tmp 160) (Operand.const (Value.int IntKind.u8 32)) 5, type := 5, pos := _, after := _, guard := some (33, true) }) (v := ?_) rfl (by kernel_rfl) (by kernel_rfl) (by kernel_rfl) (fun _ _ _ h => h) (Or.inl ⟨by rfl, ?_⟩) hHeld ?_
      rotate_left 1
      · (intro W hW; (try dsimp only at hW); go_simp; try with_reducible rfl)
      try simp only [Act.put, List.setIfInBounds_toArray, List.set_cons_zero, List.set_cons_succ]
      refine wpAnyH_take (i := 37) (oi := { dst := some 162, op := Op.binOp BinOp.neq 5 (Operand.tmp 161) (Operand.const (Value.int IntKind.u8 0)) 5, type := 4, pos := _, after := _, guard := some (33, true) }) (v := ?_) rfl (by kernel_rfl) (by kernel_rfl) (by kernel_rfl) (fun _ _ _ h => h) (Or.inl ⟨by rfl, ?_⟩) hHeld ?_
      rotate_left 1
      · (intro W hW; have hand1 := HAND.out; have hand2 := HAND2.out; (try dsimp only at hW); go_simp; try with_reducible rfl)
      try simp only [Act.put, List.setIfInBounds_toArray, List.set_cons_zero, List.set_cons_succ]
      refine wpAnyH_take (i := 38) (oi := { dst := some 163, op := Op.binOp BinOp.eql 4 (Operand.tmp 159) (Operand.tmp 162) 4, type := 4, pos := _, after := _, guard := some (33, true) }) (v := ?_) rfl (by kernel_rfl) (by kernel_rfl) (by kernel_rfl) (fun _ _ _ h => h) (Or.inl ⟨by rfl, ?_⟩) hHeld ?_
      rotate_left 1
      · (intro W hW; (try dsimp only at hW); go_simp; try with_reducible rfl)
      try simp only [Act.put, List.setIfInBounds_toArray, List.set_cons_zero, List.set_cons_succ]
      refine wpAnyH_take (i := 39) (oi := { dst := some 164, op := Op.pick (Operand.tmp 158) (Operand.tmp 163) (Operand.const (Value.bool false)), type := 4, pos := _, after := _, guard := none }) (v := ?_) rfl (by kernel_rfl) (by kernel_rfl) (by kernel_rfl) (fun _ _ _ h => h) (Or.inl ⟨by rfl, ?_⟩) hHeld ?_
      rotate_left 1
      · (intro W hW; (try dsimp only at hW); go_simp; try with_reducible rfl)
      try simp only [Act.put, List.setIfInBounds_toArray, List.set_cons_zero, List.set_cons_succ]
      refine wpAnyH_take (i := 40) (oi := { dst := some 165, op := Op.move (Operand.tmp 164), type := 4, pos := _, after := _, guard := none }) (v := ?_) rfl (by kernel_rfl) (by kernel_rfl) (by kernel_rfl) (fun _ _ _ h => h) (Or.inl ⟨by rfl, ?_⟩) hHeld ?_
      rotate_left 1
      · (intro W hW; (try dsimp only at hW); go_simp; try with_reducible rfl)
      try simp only [Act.put, List.setIfInBounds_toArray, List.set_cons_zero, List.set_cons_succ]
      refine wpAnyH_take (i := 41) (oi := { dst := some 166, op := Op.move (Operand.tmp 23), type := 4, pos := _, after := _, guard := some (40, true) }) (v := ?_) rfl (by kernel_rfl) (by kernel_rfl) (by kernel_rfl) (fun _ _ _ h => h) (Or.inl ⟨by rfl, ?_⟩) hHeld ?_
      rotate_left 1
      · (intro W hW; (try dsimp only at hW); go_simp; try with_reducible rfl)
      try simp only [Act.put, List.setIfInBounds_toArray, List.set_cons_zero, List.set_cons_succ]
      refine wpAnyH_take (i := 42) (oi := { dst := some 167, op := Op.unOp UnOp.not 4 (Operand.tmp 166), type := 4, pos := _, after := _, guard := some (40, true) }) (v := ?_) rfl (by kernel_rfl) (by kernel_rfl) (by kernel_rfl) (fun _ _ _ h => h) (Or.inl ⟨by rfl, ?_⟩) hHeld ?_
      rotate_left 1
      · (intro W hW; (try dsimp only at hW); go_simp; try with_reducible rfl)
      try simp only [Act.put, List.setIfInBounds_toArray, List.set_cons_zero, List.set_cons_succ]
      refine wpAnyH_take (i := 43) (oi := { dst := some 168, op := Op.move (Operand.tmp 167), type := 4, pos := _, after := _, guard := some (40, true) }) (v := ?_) rfl (by kernel_rfl) (by kernel_rfl) (by kernel_rfl) (fun _ _ _ h => h) (Or.inl ⟨by rfl, ?_⟩) hHeld ?_
      rotate_left 1
      · (intro W hW; (try dsimp only at hW); go_simp; try with_reducible rfl)
      try simp only [Act.put, List.setIfInBounds_toArray, List.set_cons_zero, List.set_cons_succ]
      refine wpAnyH_take (i := 44) (oi := { dst := some 169, op := Op.move (Operand.tmp 22), type := 23, pos := _, after := _, guard := some (43, false) }) (v := ?_) rfl (by kernel_rfl) (by kernel_rfl) (by kernel_rfl) (fun _ _ _ h => h) (Or.inl ⟨by rfl, ?_⟩) hHeld ?_
      rotate_left 1
      · (intro W hW; (try dsimp only at hW); go_simp; try with_reducible rfl)
      try simp only [Act.put, List.setIfInBounds_toArray, List.set_cons_zero, List.set_cons_succ]
      refine wpAnyH_take (i := 45) (oi := { dst := some 170, op := Op.call { callee := Callee.builtin Builtin.len, args := #[Operand.tmp 169], argTypes := #[23] }, type := 3, pos := _, after := _, guard := some (43, false) }) (v := ?_) rfl (by kernel_rfl) (by kernel_rfl) (by kernel_rfl) (fun _ _ _ h => h) (Or.inl ⟨by rfl, ?_⟩) hHeld ?_
      rotate_left 1
      · (intro W hW; (try dsimp only at hW); go_simp; try with_reducible rfl)
      try simp only [Act.put, List.setIfInBounds_toArray, List.set_cons_zero, List.set_cons_succ]
      refine wpAnyH_take (i := 46) (oi := { dst := some 171, op := Op.move (Operand.tmp 4), type := 23, pos := _, after := _, guard := some (43, false) }) (v := ?_) rfl (by kernel_rfl) (by kernel_rfl) (by kernel_rfl) (fun _ _ _ h => h) (Or.inl ⟨by rfl, ?_⟩) hHeld ?_
      rotate_left 1
      · (intro W hW; (try dsimp only at hW); go_simp; try with_reducible rfl)
      try simp only [Act.put, List.setIfInBounds_toArray, List.set_cons_zero, List.set_cons_succ]
      refine wpAnyH_take (i := 47) (oi := { dst := some 172, op := Op.call { callee := Callee.builtin Builtin.len, args := #[Operand.tmp 171], argTypes := #[23] }, type := 3, pos := _, after := _, guard := some (43, false) }) (v := ?_) rfl (by kernel_rfl) (by kernel_rfl) (by kernel_rfl) (fun _ _ _ h => h) (Or.inl ⟨by rfl, ?_⟩) hHeld ?_
      rotate_left 1
      · (intro W hW; (try dsimp only at hW); go_simp; try with_reducible rfl)
      try simp only [Act.put, List.setIfInBounds_toArray, List.set_cons_zero, List.set_cons_succ]
      refine wpAnyH_take (i := 48) (oi := { dst := some 173, op := Op.binOp BinOp.eql 3 (Operand.tmp 170) (Operand.tmp 172) 3, type := 4, pos := _, after := _, guard := some (43, false) }) (v := ?_) rfl (by kernel_rfl) (by kernel_rfl) (by kernel_rfl) (fun _ _ _ h => h) (Or.inl ⟨by rfl, ?_⟩) hHeld ?_
      rotate_left 1
      · (intro W hW; (try dsimp only at hW); go_simp; try with_reducible rfl)
      try simp only [Act.put, List.setIfInBounds_toArray, List.set_cons_zero, List.set_cons_succ]
      refine wpAnyH_take (i := 49) (oi := { dst := some 174, op := Op.pick (Operand.tmp 168) (Operand.const (Value.bool true)) (Operand.tmp 173), type := 4, pos := _, after := _, guard := some (40, true) }) (v := ?_) rfl (by kernel_rfl) (by kernel_rfl) (by kernel_rfl) (fun _ _ _ h => h) (Or.inl ⟨by rfl, ?_⟩) hHeld ?_
      rotate_left 1
      · (intro W hW; (try dsimp only at hW); go_simp; try with_reducible rfl)
      try simp only [Act.put, List.setIfInBounds_toArray, List.set_cons_zero, List.set_cons_succ]
      refine wpAnyH_take (i := 50) (oi := { dst := some 175, op := Op.pick (Operand.tmp 165) (Operand.tmp 174) (Operand.const (Value.bool false)), type := 4, pos := _, after := _, guard := none }) (v := ?_) rfl (by kernel_rfl) (by kernel_rfl) (by kernel_rfl) (fun _ _ _ h => h) (Or.inl ⟨by rfl, ?_⟩) hHeld ?_
      rotate_left 1
      · (intro W hW; (try dsimp only at hW); go_simp; try with_reducible rfl)
      try simp only [Act.put, List.setIfInBounds_toArray, List.set_cons_zero, List.set_cons_succ]
      refine wpAnyH_take (i := 51) (oi := { dst := some 176, op := Op.move (Operand.tmp 175), type := 4, pos := _, after := _, guard := none }) (v := ?_) rfl (by kernel_rfl) (by kernel_rfl) (by kernel_rfl) (fun _ _ _ h => h) (Or.inl ⟨by rfl, ?_⟩) hHeld ?_
      rotate_left 1
      · (intro W hW; (try dsimp only at hW); go_simp; try with_reducible rfl)
      try simp only [Act.put, List.setIfInBounds_toArray, List.set_cons_zero, List.set_cons_succ]
      refine wpAnyH_ready (rs := [52]) (by kernel_rfl) (by simp) ?_
      refine AllReadyH.cons (o := { dst := some 177, op := Op.call { callee := Callee.value (Operand.func 25), args := #[], argTypes := #[] }, type := 4, pos := _, after := _, guard := some (51, true) }) rfl (fun K hK => ?_) AllReadyH.nil
      go_simp
      refine (known_any _).mono ?_
      rintro e w30 ⟨rfl, hb⟩
      have b30 : Hid (Below w29.heap.size w29 w30) := Lib.hid hb
      have H30 := Lib.hid (H29.out.trans (b30.out.mono H29.out.size))
      clear hb
      go_simp
      refine hK.out _ _ (b30.out) (fun _ => ?_)
      clear hK K hHeld
      try simp only [Act.put, List.setIfInBounds_toArray, List.set_cons_zero, List.set_cons_succ]
      refine wpAnyH_strong (S' := fun W => Below w30.heap.size w30 W) (fun W hW => b30.out.trans (hW.mono b30.out.size)) _ _ _ _ ?_
      have hHeld : (fun W => Below w30.heap.size w30 W) w30 := Below.refl _ _
      refine wpAnyH_take (i := 53) (oi := { dst := some 178, op := Op.pick (Operand.tmp 176) (Operand.tmp 177) (Operand.const (Value.bool false)), type := 4, pos := _, after := _, guard := none }) (v := ?_) rfl (by kernel_rfl) (by kernel_rfl) (by kernel_rfl) (fun _ _ _ h => h) (Or.inl ⟨by rfl, ?_⟩) hHeld ?_
      rotate_left 1
      · (intro W hW; (try dsimp only at hW); go_simp; try with_reducible rfl)
      try simp only [Act.put, List.setIfInBounds_toArray, List.set_cons_zero, List.set_cons_succ]
      refine wpAnyH_take (i := 54) (oi := { dst := some 10, op := Op.assign (Operand.tmp 178), type := 4, pos := _, after := _, guard := none }) (v := ?_) rfl (by kernel_rfl) (by kernel_rfl) (by kernel_rfl) (fun _ _ _ h => h) (Or.inl ⟨by rfl, ?_⟩) hHeld ?_
      rotate_left 1
      · (intro W hW; (try dsimp only at hW); go_simp; try with_reducible rfl)
      try simp only [Act.put, List.setIfInBounds_toArray, List.set_cons_zero, List.set_cons_succ]
      refine wpAnyH_done (by kernel_rfl) ?_ _
      refine NoPanic.normal ?_
      go_wp2_with fail
      go_ret
      exact ⟨rfl, H30.out⟩
end Go.Proofs.YtogbeiifnhegiaaDoor
