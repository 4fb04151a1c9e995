/-
  Bytes bent, cut, or with one more (statement TlvTurned): the law's walk.
-/
import Derived.Test.YtlggbkacaemdjaaTlv26
import Derived.Laws.BitsAllLaws
namespace Go.Proofs.Ytlggbkacaemdjaa
open Go.RowKit
set_option linter.unusedVariables false
set_option linter.unusedSimpArgs false

theorem i64_and20 (n : Int) : bits .and .i64 n 1048575 = n % 1048576 := by
  have h20 : (BitVec.ofInt 64 1048575).toNat = 2 ^ 20 - 1 := by decide
  have key : (BitVec.ofInt 64 n &&& BitVec.ofInt 64 1048575).toNat = (n % ((2 ^ 64 : Nat) : Int)).toNat % 2 ^ 20 := by
    rw [BitVec.toNat_and, BitVec.toNat_ofInt, h20, Nat.and_two_pow_sub_one_eq_mod]
  show IntKind.i64.wrap ((BitVec.ofInt 64 n &&& BitVec.ofInt 64 1048575).toNat : Nat) = n % 1048576
  rw [key, IntKind.wrap_i64]
  omega
theorem readT_err {M : List Nat} {x : Nat} (h : readT M = .error x) : x ≠ 0 := by
  unfold readT at h
  by_cases h1 : 12000 < M.length
  · rw [if_pos h1] at h; injection h with h; omega
  rw [if_neg h1] at h
  rcases h2 : rd M 1 0 with e | ⟨t', n, c⟩
  · rw [h2] at h
    injection h with h
    subst h
    exact (rd_err (M.length + 1)).1 _ _ _ _ (Nat.lt_succ_self _) h2
  rw [h2] at h
  dsimp only at h
  by_cases h3 : n < M.length
  · rw [if_pos h3] at h; injection h with h; omega
  · rw [if_neg h3] at h; cases h
def noLt : Lt := .mk 0 none 0 [] none 0 []
theorem noLt_at (w : World) (B : Nat) : TrAt w B noLt := by
  unfold noLt
  rw [trAt_mk]
  exact ⟨by omega, Rd.nil_ _ _ _, fun x hx => by simp at hx, ⟨by simp, by omega, fun hn => by simp at hn⟩, fun j hj => by simp at hj⟩
theorem read_lt {w w' : World} {r : Except Nat Tr} {e : Ending} (h : ReadPost w r e w') : ∃ lt : Lt, e = .returned (.tuple #[lt.val, .int .i64 (code r : Int)]) ∧ TrAt w' w'.heap.size lt ∧ (∀ t, r = .ok t → lt.t = t) ∧ (∀ x, r = .error x → lt = noLt) ∧ Below w.heap.size w w' := by
  rcases r with x | t
  · exact ⟨noLt, h.1, noLt_at _ _, fun t h => (by cases h), fun _ _ => rfl, h.2⟩
  · obtain ⟨lt, rfl, h2, h3, hb⟩ := h
    exact ⟨lt, rfl, h3, fun t' h => by injection h with h; rw [← h]; exact h2, fun x h => (by cases h), hb⟩
/-- A byte stored in bytes of one's own. -/
theorem Mine.store {e : TypeId} {w : World} {B g off c : Nat} {l : List Nat} (h : Mine e w B (some ⟨g, off, none⟩) c l) {i : Nat} (hi : i < l.length) (v : Nat) : Mine e (w.setCell ⟨g, off + i, none⟩ (.int .u8 (v : Int))) B (some ⟨g, off, none⟩) c (l.set i v) := by
  rcases h with ⟨h, _⟩ | ⟨g', off', cur, h1, hB, hg, hl, hc, hs, hx⟩
  · cases h
  · injection h1 with h1
    injection h1 with h1 h2
    subst h1 h2
    refine .inr ⟨g, off, cur.setIfInBounds (off + i) (.int .u8 (v : Int)), rfl, hB, by simp [World.setCell, Array.getElem?_modify, hg], by rw [List.length_set]; exact hl, hc, by simpa using hs, fun j hj => ?_⟩
    rw [List.length_set] at hj
    rw [Array.getElem?_setIfInBounds]
    by_cases hij : i = j
    · subst hij
      rw [if_pos rfl, if_pos (by omega)]
      simp [List.getD, hi]
    · rw [if_neg (by omega), hx j hj]
      simp [List.getD, List.getElem?_set_ne hij]
theorem xor_ne {a b : Nat} (hb : b ≠ 0) : a ^^^ b ≠ a := by
  intro h
  have h2 : a ^^^ (a ^^^ b) = a ^^^ a := by rw [h]
  rw [← Nat.xor_assoc, Nat.xor_self, Nat.zero_xor] at h2
  exact hb h2
set_option maxRecDepth 100000 in
set_option maxHeartbeats 8000000 in
theorem law_turned (t : Lt) (w : World) (hr : TrAt w w.heap.size t) (a : Int) (ha : -9223372036854775808 ≤ a ∧ a ≤ 9223372036854775807) (by_ : Nat) (hby : by_ < 256) (cut : Int) (hcut : -9223372036854775808 ≤ cut ∧ cut ≤ 9223372036854775807) :
    Calls Try.prog 5 #[t.val, .int .i64 a, .int .u8 (by_ : Int), .int .i64 cut] w fun e w' => e = .returned (.bool true) ∧ Below w.heap.size w w' := by
  have HQ0 : Hid (Below w.heap.size w (w.alloc (.cells t.cells 25))) := Lib.hid ((Below.refl _ _).alloc (Nat.le_refl _) _)
  have HT : Hid (∀ W, Below (w.alloc (.cells t.cells 25)).heap.size (w.alloc (.cells t.cells 25)) W → TrAt W W.heap.size t) := Lib.hid fun W hW => (hr.under' (HQ0.out.trans (hW.mono HQ0.out.size))).more' (Nat.le_trans HQ0.out.size hW.size)
  have HZ : Hid (∀ W, Below (w.alloc (.cells t.cells 25)).heap.size (w.alloc (.cells t.cells 25)) W → W.cell? ⟨w.heap.size, 0, none⟩ = some (.int .u8 (t.tag : Int)) ∧ W.cell? ⟨w.heap.size, 1, none⟩ = some (.slice t.ba t.body.length t.bc) ∧ W.cell? ⟨w.heap.size, 2, none⟩ = some (.slice t.ka t.kids.length t.kc)) := Lib.hid fun W hW => by
    have h := (Holds.fresh w 25 t.cells).under hW (Holds.fresh w 25 t.cells).lt
    exact ⟨h.cell 0, h.cell 1, h.cell 2⟩
  have H0 : Hid (Below (w.alloc (.cells t.cells 25)).heap.size (w.alloc (.cells t.cells 25)) (w.alloc (.cells t.cells 25))) := Lib.hid (Below.refl _ _)
  have HOC := Lib.hid (enc_oct (t.sz + 1) t w w.heap.size (Nat.lt_succ_self _) hr)
  have HMANY := Lib.hid (fun W hW => many_any t W W.heap.size 400 (HT.out W hW) (Nat.le_refl _) (by omega) (by omega))
  have HFIT : Hid (0 < t.t.many 400 → t.t.count ≤ 1000000 ∧ t.t.enc.length ≤ 400000) := Lib.hid fun h => Tr.many_fits h (by omega)
  have HBY' := Lib.hid (fun hc he W hW => bytes'_any t W W.heap.size (HT.out W hW) (Nat.le_refl _) hc he)
  have HIS' := Lib.hid (fun hc he W hW => is'_any t W W.heap.size (HT.out W hW) (Nat.le_refl _) hc he)
  have HSA' := Lib.hid (fun (lt : Lt) W hW (hl : TrAt W W.heap.size lt) (ht : lt.t ≠ t.t) => same'_any lt t W W.heap.size hl (HT.out W hW) (Nat.le_refl _) false (by simp [ht]))
  have HNO := Lib.hid (fun W => same'_any noLt noLt W W.heap.size (noLt_at _ _) (noLt_at _ _) (Nat.le_refl _) true (by simp))
  rw [show noLt.val = .agg #[.int .u8 0, .slice none 0 0, .slice none 0 0] from rfl] at HNO
  have HYB : Hid (isT t.t = true → bytesT t.t = t.t.enc) := Lib.hid fun h => by unfold bytesT; rw [if_pos h]
  rw [show t.cells = #[.int .u8 (t.tag : Int), .slice t.ba t.body.length t.bc, .slice t.ka t.kids.length t.kc] from rfl] at HQ0 HT HZ H0 HMANY HBY' HIS' HSA'
  rw [Lt.val_eq] at HMANY HBY' HIS' HSA' ⊢
  clear hr HT
  generalize bytesT t.t = y at *
  generalize hsT : isT t.t = s at *
  have HST := Lib.hid hsT
  clear hsT
  generalize t.t.many 400 = x at *
  generalize t.tag = tg at *
  generalize t.ba = ba at *
  generalize t.bc = bc at *
  generalize t.body.length = bl at *
  generalize t.ka = ka at *
  generalize t.kids.length = n at *
  generalize t.kc = kc at *
  obtain ⟨z0, z1, z2⟩ := HZ.out _ H0.out
  by_cases hx : x ≤ 0
  case pos =>
    have dx : decide (x ≤ 0) = true := decide_eq_true hx
    go_enter Try.func5, Try.ntmps5
    go_wp2_with fail
    refine (HMANY.out _ H0.out).mono ?_
    rintro e w1 ⟨rfl, hb1⟩
    have HB := Lib.hid (HQ0.out.trans (hb1.mono HQ0.out.size))
    clear hb1 z0 z1 z2
    go_wp2_with fail
    go_ret
    exact ⟨rfl, HB.out⟩
  have dx : decide (x ≤ 0) = false := decide_eq_false hx
  obtain ⟨hc, he⟩ := HFIT.out (by omega)
  have HC := Lib.hid hc
  have HE := Lib.hid he
  clear hc he HFIT
  cases s
  case false =>
    go_enter Try.func5, Try.ntmps5
    go_wp2_with fail
    refine (HMANY.out _ H0.out).mono ?_
    rintro e w1 ⟨rfl, hb1⟩
    have H1 := Lib.hid (H0.out.trans (hb1.mono H0.out.size))
    clear hb1 z0 z1 z2
    obtain ⟨z0, z1, z2⟩ := HZ.out _ H1.out
    go_wp2_with fail
    refine (HIS'.out HC.out HE.out _ H1.out).mono ?_
    rintro e w2 ⟨rfl, hb2⟩
    have HB := Lib.hid (HQ0.out.trans ((H1.out.trans (hb2.mono H1.out.size)).mono HQ0.out.size))
    clear hb2 z0 z1 z2
    go_wp2_with fail
    go_ret
    exact ⟨rfl, HB.out⟩
  have hyb := HYB.out rfl
  subst hyb
  by_cases h0 : by_ = 0
  case pos =>
    subst h0
    go_enter Try.func5, Try.ntmps5
    go_wp2_with fail
    refine (HMANY.out _ H0.out).mono ?_
    rintro e w1 ⟨rfl, hb1⟩
    have H1 := Lib.hid (H0.out.trans (hb1.mono H0.out.size))
    clear hb1 z0 z1 z2
    obtain ⟨z0, z1, z2⟩ := HZ.out _ H1.out
    go_wp2_with fail
    refine (HIS'.out HC.out HE.out _ H1.out).mono ?_
    rintro e w2 ⟨rfl, hb2⟩
    have HB := Lib.hid (HQ0.out.trans ((H1.out.trans (hb2.mono H1.out.size)).mono HQ0.out.size))
    clear hb2 z0 z1 z2
    go_wp2_with fail
    go_ret
    exact ⟨rfl, HB.out⟩
  have d0 : ((by_ : Int) == 0) = false := by simp; omega
  have hiT := HST.out
  have hEN := HOC.out
  obtain ⟨nb, hnb⟩ : ∃ nb, t.t.enc.length = nb := ⟨_, rfl⟩
  have hnb2 : 2 ≤ nb := by
    rw [← hnb, Tr.enc_len]
    have : 0 < (lenB t.t.inl).length := by
      unfold lenB
      split <;> simp
    omega
  have hnb12 : nb ≤ 12000 := by
    simp only [isT, Bool.and_eq_true, decide_eq_true_eq] at hiT
    omega
  -- the place and the cut
  have hA1 := i64_and20 a
  have hA2 := i64_and20 cut
  obtain ⟨p, hp⟩ : ∃ p : Nat, a % 1048576 = (p : Int) := ⟨(a % 1048576).toNat, by omega⟩
  obtain ⟨q, hq⟩ : ∃ q : Nat, cut % 1048576 = (q : Int) := ⟨(cut % 1048576).toNat, by omega⟩
  rw [hp] at hA1
  rw [hq] at hA2
  have hpm : (p : Int) < 1048576 := by omega
  have hqm : (q : Int) < 1048576 := by omega
  have hP : Int.tmod (p : Int) (nb : Int) = ((p % nb : Nat) : Int) := by rw [Int.tmod_eq_emod_of_nonneg (by omega)]; omega
  have hK : Int.tmod (q : Int) (nb : Int) = ((q % nb : Nat) : Int) := by rw [Int.tmod_eq_emod_of_nonneg (by omega)]; omega
  have hi : p % nb < nb := Nat.mod_lt _ (by omega)
  have hk : q % nb < nb := Nat.mod_lt _ (by omega)
  generalize p % nb = i at *
  generalize q % nb = k at *
  have dnb : ((nb : Int) == 0) = false := by simp; omega
  have enb : (nb : Int) ≠ 0 := by omega
  have HCUT : Hid (∃ x, readT (t.t.enc.take k) = .error x) := Lib.hid (readT_cut hiT hEN (by omega))
  have HMORE : Hid (∃ x, readT (t.t.enc ++ [by_]) = .error x) := Lib.hid (readT_more hiT [by_] (by simp))
  have hui : t.t.enc.getD i 0 < 256 := by
    rw [List.getD_eq_getElem?_getD]
    rcases h : t.t.enc[i]? with _ | y
    · simp
    · exact hEN y (List.mem_of_getElem? h)
  obtain ⟨u, hu⟩ : ∃ u, t.t.enc.getD i 0 = u := ⟨_, rfl⟩
  rw [hu] at hui
  have hxr := u8_xor_nat u by_ hui hby
  have hv256 : u ^^^ by_ < 256 := Nat.xor_lt_two_pow (n := 8) (by omega) (by omega)
  have HNE : Hid (∀ m, readT (t.t.enc.set i (u ^^^ by_)) = .ok m → m ≠ t.t) := Lib.hid fun m hm he => by
    have ho2 : ∀ z ∈ t.t.enc.set i (u ^^^ by_), z < 256 := fun z hz => by
      rcases List.mem_or_eq_of_mem_set hz with h | h
      · exact hEN z h
      · rw [h]; exact hv256
    have := (readT_is ho2 hm).1
    rw [he] at this
    have h2 : (t.t.enc.set i (u ^^^ by_)).getD i 0 = u ^^^ by_ := by simp [List.getD, hnb, hi]
    rw [← this, hu] at h2
    exact xor_ne h0 h2.symm
  have HO2 : Hid (∀ z ∈ t.t.enc.set i (u ^^^ by_), z < 256) := Lib.hid fun z hz => by
    rcases List.mem_or_eq_of_mem_set hz with h | h
    · exact hEN z h
    · rw [h]; exact hv256
  have HNB := Lib.hid hnb
  have HU := Lib.hid hu
  generalize u ^^^ by_ = v at *
  clear hu hnb hiT hEN hp hq HYB
  go_enter Try.func5, Try.ntmps5
  go_wp2_with fail
  refine (HMANY.out _ H0.out).mono ?_
  rintro e w1 ⟨rfl, hb1⟩
  have H1 := Lib.hid (H0.out.trans (hb1.mono H0.out.size))
  clear hb1 z0 z1 z2
  obtain ⟨z0, z1, z2⟩ := HZ.out _ H1.out
  go_wp2_with fail
  refine (HIS'.out HC.out HE.out _ H1.out).mono ?_
  rintro e w2 ⟨rfl, hb2⟩
  have H2 := Lib.hid (H1.out.trans (hb2.mono H1.out.size))
  clear hb2 z0 z1 z2
  obtain ⟨z0, z1, z2⟩ := HZ.out _ H2.out
  go_wp2_with fail
  refine (HBY'.out HC.out HE.out _ H2.out).mono ?_
  rintro e w3 ⟨A3, c3, n3, rfl, hn3, hm3, hb3⟩
  have H3 := Lib.hid (H2.out.trans (hb3.mono H2.out.size))
  obtain rfl : n3 = nb := by rw [← hn3]; exact HNB.out
  have HM3 : Hid (Rd .u8 w3 w3.heap.size A3 c3 t.t.enc) := Lib.hid hm3.rd
  have HX1 : Hid (Mine 5 (w3.alloc (.cells #[] 5)) w3.heap.size (some ⟨w3.heap.size, 0, none⟩) 0 []) := Lib.hid (Mine.fresh0 w3 _ (Nat.le_refl _))
  have HX2 : Hid (Rd .u8 (w3.alloc (.cells #[] 5)) w3.heap.size A3 c3 t.t.enc) := Lib.hid (HM3.out.alloc (Nat.le_refl _) _)
  have HX3 : Hid (Below w3.heap.size w3 (w3.alloc (.cells #[] 5))) := Lib.hid ((Below.refl _ _).alloc (Nat.le_refl _) _)
  clear hb3 hn3 hm3 z0 z1 z2
  have HF4 : Hid (∀ A c w4, Mine 5 w4 w3.heap.size A c ([] ++ t.t.enc) → (w3.alloc (.cells #[] 5)).grownBy w4 (some w3.heap.size) → ∃ g off, A = some ⟨g, off, none⟩ ∧ w4.cell? ⟨g, off + i, none⟩ = some (.int .u8 (u : Int)) ∧ w4.frozen? ⟨g, off + i, none⟩ = false ∧ n3 ≤ c ∧ c ≤ 9223372036854775807) := Lib.hid fun A c w4 hm _ => by
    rcases hm with ⟨_, _, h⟩ | ⟨g, off, cur, rfl, hB, hg, hl, hc, hs, hxx⟩
    · rw [List.nil_append] at h
      have := HNB.out
      rw [h] at this
      simp at this
      omega
    · rw [List.nil_append] at hl hxx
      rw [HNB.out] at hl hxx
      refine ⟨g, off, rfl, ?_, by simp [World.frozen?, hg], hl, hc⟩
      rw [cell_of_row w4 g _ cur _ _ hg, hxx i hi, HU.out]
  go_wp2_with (first | (at_builtin; refine wpList_mine (B2 := w3.heap.size) _ rfl (.tmp 31) (.tmp 32) 22 rfl 5 Try.underlying22 info_u8 rfl HX1.out rfl rfl HX2.out HNB.out HX3.out.size (by omega) ?_; intro A4 c4 w4 hm4 hg4 hat4; obtain ⟨g4, off4, rfl, q0, q1, q2, q3⟩ := HF4.out _ _ _ hm4 hg4))
  have hm5 := hm4.store (i := i) (by rw [List.nil_append, HNB.out]; exact hi) v
  rw [List.nil_append] at hm5
  have hg4lo := (hm4.block rfl).1
  have hb4 : Below w3.heap.size w3 w4 := HX3.out.trans (below_blk hg4 HX3.out.size (fun g hg => by simp [blk_of] at hg; omega))
  have hb5 := hb4.setCell (p := ⟨g4, off4 + i, none⟩) hg4lo (.int .u8 (v : Int))
  have H5 := Lib.hid (H3.out.trans (hb5.mono H3.out.size))
  have B5 := Lib.hid hb5
  clear hm4 hg4 hat4 q0 q1 hb4 hb5 HF4 HX1 HX2 HX3 hg4lo
  generalize w4.setCell ⟨g4, off4 + i, none⟩ (.int .u8 (v : Int)) = w5 at *
  refine (read_any w5 _ _ c4 n3 (t.t.enc.set i v) hm5.rd (by rw [List.length_set]; exact HNB.out) HO2.out (Nat.le_refl _)).mono ?_
  intro e w6 hp
  obtain ⟨l6, rfl, ht6, hok6, hno6, hb6⟩ := read_lt hp
  have H6 := Lib.hid (H5.out.trans (hb6.mono H5.out.size))
  have B6 := Lib.hid (B5.out.trans (hb6.mono B5.out.size))
  have hq7 : Below w6.heap.size w6 (w6.alloc (.cells l6.cells 25)) := (Below.refl _ _).alloc (Nat.le_refl _) _
  have H7 := Lib.hid (H6.out.trans (hq7.mono H6.out.size))
  have B7 := Lib.hid (B6.out.trans (hq7.mono B6.out.size))
  have HL7 : Hid (∀ W, Below (w6.alloc (.cells l6.cells 25)).heap.size (w6.alloc (.cells l6.cells 25)) W → W.cell? ⟨w6.heap.size, 0, none⟩ = some (.int .u8 (l6.tag : Int)) ∧ W.cell? ⟨w6.heap.size, 1, none⟩ = some (.slice l6.ba l6.body.length l6.bc) ∧ W.cell? ⟨w6.heap.size, 2, none⟩ = some (.slice l6.ka l6.kids.length l6.kc)) := Lib.hid fun W hW => by
    have h := (Holds.fresh w6 25 l6.cells).under hW (Holds.fresh w6 25 l6.cells).lt
    exact ⟨h.cell 0, h.cell 1, h.cell 2⟩
  have HT7 : Hid (∀ W, Below (w6.alloc (.cells l6.cells 25)).heap.size (w6.alloc (.cells l6.cells 25)) W → TrAt W W.heap.size l6) := Lib.hid fun W hW => (ht6.under' (hq7.trans (hW.mono hq7.size))).more' (Nat.le_trans hq7.size hW.size)
  have HSL := Lib.hid (fun W hW hh (hne : l6.t ≠ t.t) => HSA'.out l6 W hW (HT7.out W hh) hne)
  have HCASE : Hid (code (readT (t.t.enc.set i v)) ≠ 0 ∨ (code (readT (t.t.enc.set i v)) = 0 ∧ l6.t ≠ t.t)) := Lib.hid (by
    rcases hr6 : readT (t.t.enc.set i v) with x6 | m
    · exact .inl (readT_err hr6)
    · exact .inr ⟨rfl, by rw [hok6 m hr6]; exact HNE.out m hr6⟩)
  rw [show l6.cells = #[.int .u8 (l6.tag : Int), .slice l6.ba l6.body.length l6.bc, .slice l6.ka l6.kids.length l6.kc] from rfl] at H7 B7 HL7 HSL hq7
  rw [Lt.val_eq] at HSL ⊢
  clear hm5 hp ht6 hno6 hb6 hok6 HT7
  generalize l6.t = m6 at *
  generalize code (readT (t.t.enc.set i v)) = e6 at *
  generalize l6.tag = xt at *
  generalize l6.ba = xa at *
  generalize l6.body.length = xl at *
  generalize l6.bc = xc at *
  generalize l6.ka = xk at *
  generalize l6.kids.length = xn at *
  generalize l6.kc = xq at *
  have b7 : Below (w6.alloc (.cells #[.int .u8 (xt : Int), .slice xa xl xc, .slice xk xn xq] 25)).heap.size (w6.alloc (.cells #[.int .u8 (xt : Int), .slice xa xl xc, .slice xk xn xq] 25)) (w6.alloc (.cells #[.int .u8 (xt : Int), .slice xa xl xc, .slice xk xn xq] 25)) := Below.refl _ _
  have HB7 := Lib.hid b7
  obtain ⟨E, hE⟩ : ∃ E, E = dropA A3 0 c3 := ⟨_, rfl⟩
  have hlc3 : n3 ≤ c3 := by have := HM3.out.1; rw [HNB.out] at this; exact this
  have hc33 := HM3.out.2.1
  have hs7 : (Instr.sliceAt 22 (.slice A3 n3 c3) none (some (.int .i64 (k : Int))) none).run Try.prog (w6.alloc (.cells #[.int .u8 (xt : Int), .slice xa xl xc, .slice xk xn xq] 25)) = .ok (.slice E k c3) (w6.alloc (.cells #[.int .u8 (xt : Int), .slice xa xl xc, .slice xk xn xq] 25)) := by rw [hE]; exact run_take _ _ n3 c3 k (by omega) hlc3
  have HRE : Hid (Rd .u8 (w6.alloc (.cells #[.int .u8 (xt : Int), .slice xa xl xc, .slice xk xn xq] 25)) w3.heap.size E c3 (t.t.enc.take k)) := Lib.hid (by rw [hE]; exact (dropA_zero (HM3.out.under B7.out)).cut k)
  have HKL : Hid ((t.t.enc.take k).length = k) := Lib.hid (by rw [List.length_take, HNB.out]; omega)
  clear hE b7 hq7
  go_wp2_with fail
  clear hs7
  refine (read_any _ w3.heap.size E c3 k (t.t.enc.take k) HRE.out HKL.out (fun z hz => HOC.out z (List.mem_of_mem_take hz)) B7.out.size).mono ?_
  intro e w8 hp
  obtain ⟨l8, rfl, _, _, hno8, hb8⟩ := read_lt hp
  obtain ⟨x8, hx8⟩ := HCUT.out
  obtain rfl := hno8 x8 hx8
  rw [hx8]
  have hx80 := readT_err hx8
  rw [show code (Except.error x8 : Except Nat Tr) = x8 from rfl]
  rw [show noLt.val = .agg #[.int .u8 0, .slice none 0 0, .slice none 0 0] from rfl]
  have n8 : ((x8 : Int) != 0) = true := by simp; omega
  have H8 := Lib.hid (H7.out.trans (hb8.mono H7.out.size))
  have B8 := Lib.hid (B7.out.trans (hb8.mono B7.out.size))
  have S8 := Lib.hid (HB7.out.trans hb8)
  clear hp hno8 hb8 hx8 HRE HKL
  have hq9 : Below w8.heap.size w8 (w8.alloc (.cells #[.int .u8 0, .slice none 0 0, .slice none 0 0] 25)) := (Below.refl _ _).alloc (Nat.le_refl _) _
  have hh9 : Holds (w8.alloc (.cells #[.int .u8 0, .slice none 0 0, .slice none 0 0] 25)) w8.heap.size 25 #[.int .u8 0, .slice none 0 0, .slice none 0 0] := Holds.fresh _ _ _
  have H9 := Lib.hid (H8.out.trans (hq9.mono H8.out.size))
  have B9 := Lib.hid (B8.out.trans (hq9.mono B8.out.size))
  have S9 := Lib.hid (S8.out.trans (hq9.mono S8.out.size))
  have hs9 : ((w8.alloc (.cells #[.int .u8 0, .slice none 0 0, .slice none 0 0] 25))).heap.size = w8.heap.size + 1 := by simp
  have HZ9 : Hid (∀ W, Below ((w8.alloc (.cells #[.int .u8 0, .slice none 0 0, .slice none 0 0] 25))).heap.size (w8.alloc (.cells #[.int .u8 0, .slice none 0 0, .slice none 0 0] 25)) W → W.cell? ⟨w8.heap.size, 0, none⟩ = some (.int .u8 0) ∧ W.cell? ⟨w8.heap.size, 1, none⟩ = some (.slice none 0 0) ∧ W.cell? ⟨w8.heap.size, 2, none⟩ = some (.slice none 0 0)) := Lib.hid fun W hW => by
    have h := hh9.under hW hh9.lt
    exact ⟨h.cell 0, h.cell 1, h.cell 2⟩
  have HX1 : Hid (Mine 5 (((w8.alloc (.cells #[.int .u8 0, .slice none 0 0, .slice none 0 0] 25))).alloc (.cells #[] 5)) ((w8.alloc (.cells #[.int .u8 0, .slice none 0 0, .slice none 0 0] 25))).heap.size (some ⟨w8.heap.size + 1, 0, none⟩) 0 []) := Lib.hid (by rw [← hs9]; exact Mine.fresh0 (w8.alloc (.cells #[.int .u8 0, .slice none 0 0, .slice none 0 0] 25)) _ (Nat.le_refl _))
  have HX2 : Hid (Rd .u8 (((w8.alloc (.cells #[.int .u8 0, .slice none 0 0, .slice none 0 0] 25))).alloc (.cells #[] 5)) w3.heap.size A3 c3 t.t.enc) := Lib.hid ((HM3.out.under B9.out).alloc B9.out.size _)
  have HX3 : Hid (Below ((w8.alloc (.cells #[.int .u8 0, .slice none 0 0, .slice none 0 0] 25))).heap.size (w8.alloc (.cells #[.int .u8 0, .slice none 0 0, .slice none 0 0] 25)) (((w8.alloc (.cells #[.int .u8 0, .slice none 0 0, .slice none 0 0] 25))).alloc (.cells #[] 5))) := Lib.hid ((Below.refl _ _).alloc (Nat.le_refl _) _)
  have HS9 := Lib.hid hs9
  clear hh9 hq9 hs9
  go_wp2_with (first
    | (at_builtin; refine wpList_mine (B2 := w3.heap.size) _ rfl (.tmp 62) (.tmp 63) 22 rfl 5 Try.underlying22 info_u8 rfl HX1.out rfl rfl HX2.out HNB.out HX3.out.size (by omega) ?_; intro A11 c11 w11 hm11 hg11 hat11; have q11 := hm11.le)
    | (at_builtin; refine wpList_mine (B2 := (w11.alloc (.cells #[.int .u8 (by_ : Int)] 5)).heap.size) _ rfl (.tmp 64) (.tmp 66) 22 rfl 5 Try.underlying22 info_u8 rfl (hm11.alloc (.cells #[.int .u8 (by_ : Int)] 5)) (by rw [List.nil_append]; exact HNB.out) rfl (Mine.fresh1 w11 w11.heap.size by_ (Nat.le_refl _)).rd rfl (Nat.le_trans HX3.out.size (Nat.le_trans hg11.size (by simp))) (by omega) ?_; intro A13 c13 w13 hm13 hg13 hat13))
  have hb11 : Below ((w8.alloc (.cells #[.int .u8 0, .slice none 0 0, .slice none 0 0] 25))).heap.size (w8.alloc (.cells #[.int .u8 0, .slice none 0 0, .slice none 0 0] 25)) w11 := HX3.out.trans (below_blk hg11 HX3.out.size (fun g hg => by
    have h1 : w8.heap.size + 1 = g := by simpa [blk_of] using hg
    rw [HS9.out]
    omega))
  have hb12 : Below ((w8.alloc (.cells #[.int .u8 0, .slice none 0 0, .slice none 0 0] 25))).heap.size (w8.alloc (.cells #[.int .u8 0, .slice none 0 0, .slice none 0 0] 25)) (w11.alloc (.cells #[.int .u8 (by_ : Int)] 5)) := hb11.alloc hb11.size _
  have hb13 : Below ((w8.alloc (.cells #[.int .u8 0, .slice none 0 0, .slice none 0 0] 25))).heap.size (w8.alloc (.cells #[.int .u8 0, .slice none 0 0, .slice none 0 0] 25)) w13 := hb12.trans (below_blk hg13 hb12.size (fun g hg => (hm11.block hg).1))
  rw [List.nil_append] at hm13
  refine (read_any w13 _ A13 c13 (n3 + 1) (t.t.enc ++ [by_]) hm13.rd (by rw [List.length_append, HNB.out]; rfl) (fun z hz => by
    rcases List.mem_append.1 hz with h | h
    · exact HOC.out z h
    · rw [List.mem_singleton.1 h]; exact hby) (Nat.le_refl _)).mono ?_
  intro e w14 hp
  obtain ⟨l14, rfl, _, _, hno14, hb14⟩ := read_lt hp
  obtain ⟨x14, hx14⟩ := HMORE.out
  obtain rfl := hno14 x14 hx14
  rw [hx14]
  have hx140 := readT_err hx14
  rw [show code (Except.error x14 : Except Nat Tr) = x14 from rfl]
  rw [show noLt.val = .agg #[.int .u8 0, .slice none 0 0, .slice none 0 0] from rfl]
  have n14 : ((x14 : Int) != 0) = true := by simp; omega
  have hq15 : Below w14.heap.size w14 (w14.alloc (.cells #[.int .u8 0, .slice none 0 0, .slice none 0 0] 25)) := (Below.refl _ _).alloc (Nat.le_refl _) _
  have D15 := Lib.hid (hb13.trans ((hb14.trans (hq15.mono hb14.size)).mono hb13.size))
  have H15 := Lib.hid (H9.out.trans (D15.out.mono H9.out.size))
  have S15 := Lib.hid (S9.out.trans (D15.out.mono S9.out.size))
  obtain ⟨z0, z1, z2⟩ := HZ.out _ H15.out
  obtain ⟨y0, y1, y2⟩ := HZ9.out _ D15.out
  obtain ⟨v0, v1, v2⟩ := HL7.out _ S15.out
  clear hp hno14 hb14 hx14 hq15 hb11 hb12 hb13 hm11 hm13 hg11 hg13 hat11 hat13 HX1 HX2 HX3
  by_cases h6 : e6 = 0
  case neg =>
    have n6 : ((e6 : Int) != 0) = true := by simp; omega
    go_wp2_with fail
    refine (HNO.out _).mono ?_
    rintro e w16 ⟨rfl, hb16⟩
    have H16 := Lib.hid (H15.out.trans (hb16.mono H15.out.size))
    clear hb16 z0 z1 z2 y0 y1 y2 v0 v1 v2
    go_wp2_with fail
    refine (known_any _).mono ?_
    rintro e w17 ⟨rfl, hb17⟩
    have HF := Lib.hid (HQ0.out.trans ((H16.out.trans (hb17.mono H16.out.size)).mono HQ0.out.size))
    clear hb17
    go_wp2_with fail
    go_ret
    exact ⟨rfl, HF.out⟩
  case pos =>
    subst h6
    have hne : m6 ≠ t.t := by
      rcases HCASE.out with h | h
      · exact absurd rfl h
      · exact h.2
    have HNE6 := Lib.hid hne
    clear hne HCASE
    go_wp2_with fail
    refine (HSL.out _ H15.out S15.out HNE6.out).mono ?_
    rintro e w16 ⟨rfl, hb16⟩
    have H16 := Lib.hid (H15.out.trans (hb16.mono H15.out.size))
    have D16 := Lib.hid (D15.out.trans (hb16.mono D15.out.size))
    clear hb16 z0 z1 z2 y0 y1 y2 v0 v1 v2
    obtain ⟨y0, y1, y2⟩ := HZ9.out _ D16.out
    go_wp2_with fail
    refine (HNO.out _).mono ?_
    rintro e w17 ⟨rfl, hb17⟩
    have H17 := Lib.hid (H16.out.trans (hb17.mono H16.out.size))
    clear hb17 y0 y1 y2
    go_wp2_with fail
    refine (known_any _).mono ?_
    rintro e w18 ⟨rfl, hb18⟩
    have HF := Lib.hid (HQ0.out.trans ((H17.out.trans (hb18.mono H17.out.size)).mono HQ0.out.size))
    clear hb18
    go_wp2_with fail
    go_ret
    exact ⟨rfl, HF.out⟩
end Go.Proofs.Ytlggbkacaemdjaa
