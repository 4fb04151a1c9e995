/-
  Signatures by RSA: what is well, plain; words for the walks.
-/
import Derived.Test.YtebhpjbjfbadjaaKr1
import Derived.Test.YtebhpjbjfbadjaaKr3
import Derived.Test.YtebhpjbjfbadjaaAt2
import Derived.Test.YtebhpjbjfbadjaaPure4
import Derived.Test.YtebhpjbjfbadjaaModM
import Derived.Test.YtebhpjbjfbadjaaRefB
namespace Go.Proofs.Ytebhpjbjfbadjaa
open Go.RowKit
set_option linter.unusedVariables false
set_option linter.unusedSimpArgs false

theorem headL_oct : ∀ x ∈ headL, x < 256 := by decide
theorem frameL_oct {d : List Nat} {n : Nat} (hd : ∀ x ∈ d, x < 256) : ∀ x ∈ frameL d n, x < 256 := fun x hx => by
  unfold frameL at hx
  rcases List.mem_append.1 hx with h | h
  · rcases List.mem_append.1 h with h | h
    · rcases List.mem_cons.1 h with rfl | h
      · omega
      · rw [List.mem_singleton.1 h]; omega
    · rw [(List.mem_replicate.1 h).2]; omega
  · rcases List.mem_append.1 h with h | h
    · exact headL_oct x h
    · exact hd x h
/-- Whether bytes are a signature of a digest by a key. -/
def rsaVer (v : KV) (d s : List Nat) : Bool :=
  rsaOk v && decide (s.length = rsaSize v) && decide (val (numOf s) < val v.n) && decide (d.length = 32) && decide (val (numOf s) ^ v.e % val v.n = val (numOf (frameL d (rsaSize v))))
theorem rsaSize_bounds {v : KV} (h : rsaOk v = true) : 64 ≤ rsaSize v ∧ rsaSize v ≤ 512 ∧ nb v.n ≤ 8 * rsaSize v := by
  simp only [rsaOk, Bool.and_eq_true, decide_eq_true_eq] at h
  unfold rsaSize
  omega
theorem rsaOk_parts {v : KV} (h : rsaOk v = true) : okN v.n = true ∧ 3 ≤ v.e := by
  simp only [rsaOk, Bool.and_eq_true, decide_eq_true_eq] at h
  exact ⟨h.1.1.1.2, h.2.2⟩
/-- Of less digits of two, less of them. -/
theorem nb_mono {r n : List Nat} {m N : Nat} (hr : NumIs r m) (hn : NumIs n N) (h : m ≤ N) : nb r ≤ nb n := by
  rcases Nat.eq_zero_or_pos m with h0 | h0
  · have : r = [] := by
      have h1 := trl_none hr.1 (by rw [hr.2.2]; exact h0)
      rw [trl_id hr.2.1] at h1
      exact List.eq_nil_of_length_eq_zero h1
    rw [this]
    exact Nat.zero_le _
  · have b1 := nb_bounds hr (by omega)
    have b2 := nb_bounds hn (by omega)
    rcases Nat.lt_or_ge (nb n) (nb r) with h1 | h1
    · have : 2 ^ nb n ≤ 2 ^ (nb r - 1) := Nat.pow_le_pow_right (by omega) (by omega)
      omega
    · exact h1
/-- The bytes of a number are those just if the numbers are one. -/
theorem bytes_same {r b : List Nat} {m n : Nat} (hr : NumIs r m) (hb : ∀ x ∈ b, x < 256) (hn : b.length = n) (h1 : n ≤ 1024) (hf : nb r ≤ 8 * n) : (bytesOf r n = b) ↔ m = val (numOf b) := by
  have ho : Oct b.reverse := oct_rev hb
  have hnb : numOf b = trl (words b) := numOf_near (by omega)
  constructor
  · intro h
    have h2 := numOf_bytesOf hr.1 hr.2.1 hf h1
    rw [h] at h2
    rw [h2, hr.2.2]
  · intro h
    have h2 : r = numOf b := num_one hr ⟨numOf_dg ho, numOf_nrm b, h.symm⟩
    rw [h2, hnb, ← hn]
    exact words_back ho
theorem out_fit {r : List Nat} {n : Nat} (hn : n ≤ 1024) (hf : nb r ≤ 8 * n) : fits r (n : Int) = true ∧ out r (n : Int) = bytesOf r n := by
  have h : fits r (n : Int) = true := by
    unfold fits
    simp only [Bool.and_eq_true, decide_eq_true_eq]
    omega
  exact ⟨h, by unfold out; rw [if_pos h, Int.toNat_natCast]⟩
theorem ofN_at (w : World) (B : Nat) (A : Option Addr) (c n : Nat) (l : List Nat) (hr : Rd .u8 w B A c l) (hn : l.length = n) (hB : B ≤ w.heap.size) (ho : ∀ x ∈ l, x < 256) (z : Nat) (hz : (numOf l).length = z) :
    Calls Try.prog 25 #[.slice A n c] w fun e w' => ∃ A2 c2, e = .returned (.slice A2 z c2) ∧ Rd .u32 w' w'.heap.size A2 c2 (numOf l) ∧ Below w.heap.size w w' := by
  subst hn; subst hz
  exact (of_all w B A c l hr hB (oct_rev ho)).mono fun e w' ⟨A2, c2, h1, h2, h3⟩ => ⟨A2, c2, h1, h2.1, h3⟩
theorem ofN'_at (w : World) (B : Nat) (A : Option Addr) (c n : Nat) (l : List Nat) (hr : Rd .u8 w B A c l) (hn : l.length = n) (hB : B ≤ w.heap.size) (ho : ∀ x ∈ l, x < 256) (z : Nat) (hz : (numOf l).length = z) :
    Calls Try.prog 19 #[.slice A n c] w fun e w' => ∃ A2 c2, e = .returned (.slice A2 z c2) ∧ Rd .u32 w' w'.heap.size A2 c2 (numOf l) ∧ Below w.heap.size w w' := by
  subst hn; subst hz
  exact (of'_all w B A c l hr hB (oct_rev ho)).mono fun e w' ⟨A2, c2, h1, h2, h3⟩ => ⟨A2, c2, h1, h2.1, h3⟩
/-- Two numbers compared: whether the first is not below the second. -/
theorem cmpN_at (w : World) (A A' : Option Addr) (c c' n n' : Nat) (l l' : List Nat) (hr : Rd .u32 w w.heap.size A c l) (hr' : Rd .u32 w w.heap.size A' c' l') (hn : l.length = n) (hn' : l'.length = n') (hd : Dg l) (hd' : Dg l') (h1 : nrm l) (h1' : nrm l') (b : Bool) (hb : b = decide (val l < val l')) :
    Calls Try.prog 26 #[.slice A n c, .slice A' n' c'] w fun e w' => (∃ v : Int, e = .returned (.int .i64 v) ∧ decide ((0 : Int) ≤ v) = !b) ∧ Below w.heap.size w w' := by
  subst hn; subst hn'
  refine (cmp_any w _ _ A A' c c' l l' hr hr' _ rfl).mono ?_
  rintro e w' ⟨rfl, q, rfl⟩
  refine ⟨⟨_, rfl, ?_⟩, below_drewN' (Below.refl _ _) q⟩
  rw [trl_id h1, trl_id h1', cmpL_val hd hd' h1 h1', hb]
  by_cases h : val l < val l'
  · rw [if_pos h, decide_eq_true h]; rfl
  · rw [if_neg h, decide_eq_false h]
    split <;> rfl
theorem cmpN'_at (w : World) (A A' : Option Addr) (c c' n n' : Nat) (l l' : List Nat) (hr : Rd .u32 w w.heap.size A c l) (hr' : Rd .u32 w w.heap.size A' c' l') (hn : l.length = n) (hn' : l'.length = n') (hd : Dg l) (hd' : Dg l') (h1 : nrm l) (h1' : nrm l') (b : Bool) (hb : b = decide (val l < val l')) :
    Calls Try.prog 31 #[.slice A n c, .slice A' n' c'] w fun e w' => (∃ v : Int, e = .returned (.int .i64 v) ∧ decide ((0 : Int) ≤ v) = !b) ∧ Below w.heap.size w w' := by
  subst hn; subst hn'
  refine (cmp'_any w _ _ A A' c c' l l' hr hr' _ rfl).mono ?_
  rintro e w' ⟨rfl, q, rfl⟩
  refine ⟨⟨_, rfl, ?_⟩, below_drewN' (Below.refl _ _) q⟩
  rw [cmpL_val hd hd' h1 h1', hb]
  by_cases h : val l < val l'
  · rw [if_pos h, decide_eq_true h]; rfl
  · rw [if_neg h, decide_eq_false h]
    split <;> rfl
/-- A row of one digit. -/
theorem rd_lone (w : World) (x : Nat) : Rd .u32 (w.alloc (.cells #[.int .u32 (x : Int)] 24)) (w.alloc (.cells #[.int .u32 (x : Int)] 24)).heap.size (some ⟨w.heap.size, 0, none⟩) 1 [x] := by
  have h : Row .u32 24 (w.alloc (.cells #[.int .u32 (x : Int)] 24)) w.heap.size [x] := Holds.fresh w _ _
  exact (rd_whole h (by simp) (by omega)).more (Holds.lt h)
theorem dg_lone {x : Nat} (h : x < 4294967296) : Dg [x] := fun y hy => by rw [List.mem_singleton.1 hy]; exact h
theorem val_lone (x : Nat) : val [x] = x := by simp [val]
/-- A power. -/
theorem expN_at (w : World) (A A'' : Option Addr) (c c'' n n'' : Nat) (l l'' : List Nat) (g ee : Nat) (he : ee < 4294967296) (hr : Rd .u32 w w.heap.size A c l) (hr' : Rd .u32 w w.heap.size (some ⟨g, 0, none⟩) 1 [ee]) (hr'' : Rd .u32 w w.heap.size A'' c'' l'') (hn : l.length = n) (hn'' : l''.length = n'') (hd : Dg l) (hd'' : Dg l'') (hs : n ≤ 1000) (hs'' : n'' ≤ 1000) (h0 : val l'' ≠ 0) :
    Calls Try.prog 27 #[.slice A n c, .slice (some ⟨g, 0, none⟩) 1 1, .slice A'' n'' c''] w (Left w (val l ^ ee % val l'')) := by
  subst hn; subst hn''
  have := exp_yes w A (some ⟨g, 0, none⟩) A'' c 1 c'' l [ee] l'' hr hr' hr'' hd (dg_lone he) hd'' hs (by simp) hs'' h0
  rw [val_lone] at this
  exact this
theorem nrm_lone {x : Nat} (h : x ≠ 0) : nrm [x] := .inr (by simpa using h)
theorem expN'_at (w : World) (A A'' : Option Addr) (c c'' n n'' : Nat) (l l'' : List Nat) (g ee : Nat) (he : ee < 4294967296) (he0 : ee ≠ 0) (hr : Rd .u32 w w.heap.size A c l) (hr' : Rd .u32 w w.heap.size (some ⟨g, 0, none⟩) 1 [ee]) (hr'' : Rd .u32 w w.heap.size A'' c'' l'') (hn : l.length = n) (hn'' : l''.length = n'') (hd : Dg l) (hd'' : Dg l'') (h1 : nrm l) (h1'' : nrm l'') (hs : n ≤ 1000) (hs'' : n'' ≤ 1000) (h0 : val l'' ≠ 0) :
    Calls Try.prog 32 #[.slice A n c, .slice (some ⟨g, 0, none⟩) 1 1, .slice A'' n'' c''] w (LeftR w (val l ^ ee % val l'')) := by
  subst hn; subst hn''
  have := exp8_yes w A (some ⟨g, 0, none⟩) A'' c 1 c'' l [ee] l'' hr hr' hr'' hd (dg_lone he) hd'' hs (by simp) hs'' h0 h1 (nrm_lone he0) h1''
  rw [val_lone] at this
  exact this
end Go.Proofs.Ytebhpjbjfbadjaa
