/-
  What a key whose N is a prime signed is well; bent, it is not: plain.
-/
import Derived.Test.YtebhpjbjfbadjaaKrB
import Derived.Test.YtebhpjbjfbadjaaKr9
namespace Go.Proofs.Ytebhpjbjfbadjaa
open Go.RowKit
set_option linter.unusedVariables false
set_option linter.unusedSimpArgs false

theorem num_zero {l : List Nat} (ho : ∀ x ∈ l, x < 256) (h : l.length + 1 ≤ 1024) : numOf (0 :: l) = numOf l := by
  have hor := oct_rev ho
  have hn : numOf l = trl (words l) := numOf_near (by omega)
  have hd := numOf_dg hor
  have hr := numOf_nrm l
  have hf : nb (numOf l) ≤ 8 * l.length := by rw [hn]; exact words_fit hor
  have hb : bytesOf (numOf l) l.length = l := by rw [hn]; exact words_back hor
  have e : (0 :: l) = bytesOf (numOf l) (l.length + 1) := bytesOf_eq (by simp) fun j hj => by
    rcases j with _ | j
    · rw [show l.length + 1 - 1 - 0 = l.length by omega, byteAt_high hd hr hf]; rfl
    · have h1 := bytesOf_at (numOf l) (n := l.length) (i := j) (by omega)
      rw [hb] at h1
      rw [show l.length + 1 - 1 - (j + 1) = l.length - 1 - j by omega, ← h1]
      rfl
  rw [e, numOf_bytesOf hd hr (by omega) (by omega)]
theorem num_bound {l : List Nat} (ho : ∀ x ∈ l, x < 256) (h : l.length ≤ 1024) : val (numOf l) < 2 ^ (8 * l.length) := by
  have hor := oct_rev ho
  have hn : numOf l = trl (words l) := numOf_near (by omega)
  have hf : nb (numOf l) ≤ 8 * l.length := by rw [hn]; exact words_fit hor
  rcases Nat.eq_zero_or_pos (val (numOf l)) with h0 | h0
  · rw [h0]; exact Nat.pow_pos (by omega)
  · have hb := nb_bounds (r := numOf l) (v := val (numOf l)) ⟨numOf_dg hor, numOf_nrm l, rfl⟩ (by omega)
    exact Nat.lt_of_lt_of_le hb.2.1 (Nat.pow_le_pow_right (by omega) hf)
theorem frame_below {d : List Nat} {sz : Nat} (hd : ∀ x ∈ d, x < 256) (hl : d.length = 32) (h1 : 62 ≤ sz) (h2 : sz ≤ 1024) : val (numOf (frameL d sz)) < 2 ^ (8 * (sz - 1)) := by
  have ho := frameL_oct (n := sz) hd
  have hn := frameL_length hl h1
  obtain ⟨t, ht⟩ : ∃ t, frameL d sz = 0 :: t := ⟨_, rfl⟩
  rw [ht] at ho hn ⊢
  have hot : ∀ x ∈ t, x < 256 := fun x hx => ho x (by simp [hx])
  have hlt : t.length = sz - 1 := by simp at hn; omega
  rw [num_zero hot (by omega), ← hlt]
  exact num_bound hot (by omega)
theorem num_inj {a b : List Nat} (ha : ∀ x ∈ a, x < 256) (hb : ∀ x ∈ b, x < 256) (hl : a.length = b.length) (h1 : a.length ≤ 1024) (h : val (numOf a) = val (numOf b)) : a = b := by
  have oa := oct_rev ha
  have ob := oct_rev hb
  have e : numOf a = numOf b := num_one ⟨numOf_dg oa, numOf_nrm a, h⟩ ⟨numOf_dg ob, numOf_nrm b, rfl⟩
  rw [numOf_near (by omega), numOf_near (by omega)] at e
  rw [← words_back oa, ← words_back ob, e, hl]
theorem frame_inj {d e : List Nat} {n : Nat} (h : frameL d n = frameL e n) : d = e := by
  unfold frameL at h
  exact List.append_cancel_left (List.append_cancel_left h)

/-- A key of a prime and the power that signs. -/
structure PK (v : KV) (N D sz : Nat) : Prop where
  ok : rsaOk v = true
  val : val v.n = N
  pr : Luc.Prime N
  e : v.e = 65537
  inv : 65537 * D % (N - 1) = 1
  size : rsaSize v = sz
  big : 2 ^ (8 * (sz - 1)) < N
  lo : 64 ≤ sz
  hi : sz ≤ 100
theorem PK.round {v : KV} {N D sz : Nat} (h : PK v N D sz) : ∃ k, v.e * D = 1 + (N - 1) * k := by
  rw [h.e]
  have := Nat.div_add_mod (65537 * D) (N - 1)
  rw [h.inv] at this
  exact ⟨65537 * D / (N - 1), by omega⟩
/-- Raised by both powers a number is there again. -/
theorem PK.back {v : KV} {N D sz F : Nat} (h : PK v N D sz) (hF : F < N) : (F ^ D % N) ^ v.e % N = F := by
  obtain ⟨k, hk⟩ := h.round
  rw [← Nat.pow_mod, ← Nat.pow_mul, Nat.mul_comm D, Luc.again h.pr hk, Nat.mod_eq_of_lt hF]
theorem PK.forth {v : KV} {N D sz T F : Nat} (h : PK v N D sz) (hT : T < N) (hF : T ^ v.e % N = F) : T = F ^ D % N := by
  obtain ⟨k, hk⟩ := h.round
  have := Luc.again (a := T) h.pr hk
  rw [Nat.mod_eq_of_lt hT, Nat.pow_mul, Nat.pow_mod, hF] at this
  exact this.symm
section
variable {v : KV} {N D sz : Nat} {d b : List Nat}
theorem PK.signed (h : PK v N D sz) (hd : ∀ x ∈ d, x < 256) (hl : d.length = 32) (hb : b.length = sz) (hv : Go.Proofs.Ytebhpjbjfbadjaa.val (numOf b) = Go.Proofs.Ytebhpjbjfbadjaa.val (numOf (frameL d sz)) ^ D % N) : rsaVer v d b = true := by
  have hF := Nat.lt_trans (frame_below hd hl (show 62 ≤ sz by have := h.lo; omega) (by have := h.hi; omega)) h.big
  have hN : 0 < N := by omega
  unfold rsaVer
  rw [h.ok, h.size, h.val, hb, hl, hv, h.back hF]
  simp [Nat.mod_lt _ hN]
theorem PK.other (h : PK v N D sz) (hd : ∀ x ∈ d, x < 256) (hl : d.length = 32) (hb : b.length = sz) (hv : Go.Proofs.Ytebhpjbjfbadjaa.val (numOf b) = Go.Proofs.Ytebhpjbjfbadjaa.val (numOf (frameL d sz)) ^ D % N) {d2 : List Nat} (hd2 : ∀ x ∈ d2, x < 256) (hl2 : d2.length = 32) (hne : d2 ≠ d) : rsaVer v d2 b = false := by
  have hF := Nat.lt_trans (frame_below hd hl (show 62 ≤ sz by have := h.lo; omega) (by have := h.hi; omega)) h.big
  unfold rsaVer
  rw [h.size, h.val, hv, h.back hF]
  have : ¬ (Go.Proofs.Ytebhpjbjfbadjaa.val (numOf (frameL d sz)) = Go.Proofs.Ytebhpjbjfbadjaa.val (numOf (frameL d2 sz))) := fun e => by
    have h1 := num_inj (frameL_oct hd) (frameL_oct hd2) (by rw [frameL_length hl (by have := h.lo; omega), frameL_length hl2 (by have := h.lo; omega)]) (by rw [frameL_length hl (by have := h.lo; omega)]; have := h.hi; omega) e
    exact hne (frame_inj h1).symm
  rw [decide_eq_false this]
  simp
theorem PK.bent (h : PK v N D sz) (hd : ∀ x ∈ d, x < 256) (hl : d.length = 32) (hb : b.length = sz) (ho : ∀ x ∈ b, x < 256) (hv : Go.Proofs.Ytebhpjbjfbadjaa.val (numOf b) = Go.Proofs.Ytebhpjbjfbadjaa.val (numOf (frameL d sz)) ^ D % N) {t : List Nat} (ht : ∀ x ∈ t, x < 256) (hlt : t.length = sz) (hne : t ≠ b) : rsaVer v d t = false := by
  unfold rsaVer
  rw [h.size, h.val]
  by_cases h1 : Go.Proofs.Ytebhpjbjfbadjaa.val (numOf t) < N
  · have : ¬ (Go.Proofs.Ytebhpjbjfbadjaa.val (numOf t) ^ v.e % N = Go.Proofs.Ytebhpjbjfbadjaa.val (numOf (frameL d sz))) := fun e => by
      have h2 := h.forth h1 e
      rw [← hv] at h2
      exact hne (num_inj ht ho (by omega) (by have := h.hi; omega) h2)
    rw [decide_eq_false this]
    simp
  · rw [decide_eq_false h1]
    simp
theorem PK.long (h : PK v N D sz) {t : List Nat} (hlt : t.length ≠ sz) : rsaVer v d t = false := by
  unfold rsaVer
  rw [h.size, decide_eq_false hlt]
  simp
theorem PK.large (h : PK v N D sz) {t : List Nat} (ht : N ≤ Go.Proofs.Ytebhpjbjfbadjaa.val (numOf t)) : rsaVer v d t = false := by
  unfold rsaVer
  rw [h.val, decide_eq_false (show ¬ (Go.Proofs.Ytebhpjbjfbadjaa.val (numOf t) < N) by omega)]
  simp
end
theorem pk521 {D : Nat} (h : 65537 * D % (Luc.m521 - 1) = 1) : PK ⟨1, pl521, 65537, [], [], false⟩ Luc.m521 D 66 :=
  ⟨by decide +kernel, pl521_val, Luc.prime521, rfl, h, by decide +kernel, of_decide_eq_true (by kernel_rfl), by omega, by omega⟩
theorem pk607 {D : Nat} (h : 65537 * D % (Luc.m607 - 1) = 1) : PK ⟨1, pl607, 65537, [], [], false⟩ Luc.m607 D 76 :=
  ⟨by decide +kernel, pl607_val, Luc.prime607, rfl, h, by decide +kernel, of_decide_eq_true (by kernel_rfl), by omega, by omega⟩
theorem set_ne {l : List Nat} {i y : Nat} (hi : i < l.length) (h : y ≠ l.getD i 0) : l.set i y ≠ l := fun e => by
  have h1 : (l.set i y).getD i 0 = y := by simp [List.getD, hi]
  rw [e] at h1
  exact h h1.symm
theorem set_oct {l : List Nat} {i y : Nat} (hl : ∀ x ∈ l, x < 256) (hy : y < 256) : ∀ x ∈ l.set i y, x < 256 := fun x hx => by
  rcases List.mem_or_eq_of_mem_set hx with h | h
  · exact hl x h
  · omega
end Go.Proofs.Ytebhpjbjfbadjaa
