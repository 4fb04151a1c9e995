/-
  A block, plain: its words, its rounds.
-/
import Derived.Test.YtebhpjbjfbadjaaSha1
namespace Go.Proofs.Ytebhpjbjfbadjaa
set_option linter.unusedVariables false

/-- Word t of a block's bytes. -/
def w0 (B : List Nat) (t : Nat) : Nat := ((B.getD (4 * t) 0 * 16777216 ||| B.getD (4 * t + 1) 0 * 65536) ||| B.getD (4 * t + 2) 0 * 256) ||| B.getD (4 * t + 3) 0
def sg0 (x : Nat) : Nat := (rot x 7 ^^^ rot x 18) ^^^ x / 8
def sg1 (x : Nat) : Nat := (rot x 17 ^^^ rot x 19) ^^^ x / 1024
def nextW (B L : List Nat) (t : Nat) : Nat :=
  if t < 16 then w0 B t else (((L.getD (t - 16) 0 + sg0 (L.getD (t - 15) 0)) % 4294967296 + L.getD (t - 7) 0) % 4294967296 + sg1 (L.getD (t - 2) 0)) % 4294967296
/-- The first words of a block. -/
def sched (B : List Nat) : Nat → List Nat
  | 0 => []
  | t + 1 => sched B t ++ [nextW B (sched B t) t]
theorem sched_length (B : List Nat) : ∀ t, (sched B t).length = t
  | 0 => rfl
  | t + 1 => by rw [sched, List.length_append, sched_length B t]; rfl
theorem getD_take (L : List Nat) {j t : Nat} (h : j < t) : (L.take t).getD j 0 = L.getD j 0 := by simp [List.getD, h]
theorem take_put (L : List Nat) {t : Nat} (x : Nat) (h : t < L.length) : (L.set t x).take (t + 1) = L.take t ++ [x] := by
  rw [List.take_add_one, List.take_set_of_le (Nat.le_refl t)]
  simp [h]
/-- One word more. -/
theorem sched_put {B L : List Nat} {t : Nat} (h : L.take t = sched B t) (hl : t < L.length) (x : Nat) (hx : x = nextW B L t) : (L.set t x).take (t + 1) = sched B (t + 1) := by
  rw [take_put L x hl, h, sched, hx]
  congr 2
  unfold nextW
  split
  · rfl
  · rw [← h]
    rename_i h16
    rw [getD_take L (by omega : t - 16 < t), getD_take L (by omega : t - 15 < t), getD_take L (by omega : t - 7 < t), getD_take L (by omega : t - 2 < t)]

/-- The eight words of a round. -/
structure StS where
  a : Nat
  b : Nat
  c : Nat
  d : Nat
  e : Nat
  f : Nat
  g : Nat
  h : Nat
def StS.Ok (s : StS) : Prop := s.a < 4294967296 ∧ s.b < 4294967296 ∧ s.c < 4294967296 ∧ s.d < 4294967296 ∧ s.e < 4294967296 ∧ s.f < 4294967296 ∧ s.g < 4294967296 ∧ s.h < 4294967296
def t1 (s : StS) (k w : Nat) : Nat := ((((s.h + tri s.e 6 11 25) % 4294967296 + ((s.e &&& s.f) ^^^ ((4294967295 ^^^ s.e) &&& s.g))) % 4294967296 + k) % 4294967296 + w) % 4294967296
def t2 (s : StS) : Nat := (tri s.a 2 13 22 + ((s.a &&& s.b) ^^^ (s.a &&& s.c) ^^^ (s.b &&& s.c))) % 4294967296
def StS.next (s : StS) (k w : Nat) : StS := ⟨(t1 s k w + t2 s) % 4294967296, s.a, s.b, s.c, (s.d + t1 s k w) % 4294967296, s.e, s.f, s.g⟩
def StS.list (s : StS) : List Nat := [s.a, s.b, s.c, s.d, s.e, s.f, s.g, s.h]
def StS.plus (s t : StS) : StS := ⟨(s.a + t.a) % 4294967296, (s.b + t.b) % 4294967296, (s.c + t.c) % 4294967296, (s.d + t.d) % 4294967296, (s.e + t.e) % 4294967296, (s.f + t.f) % 4294967296, (s.g + t.g) % 4294967296, (s.h + t.h) % 4294967296⟩
/-- The words K. -/
def KL : List Nat := [0x428a2f98, 0x71374491, 0xb5c0fbcf, 0xe9b5dba5, 0x3956c25b, 0x59f111f1, 0x923f82a4, 0xab1c5ed5, 0xd807aa98, 0x12835b01, 0x243185be, 0x550c7dc3, 0x72be5d74, 0x80deb1fe, 0x9bdc06a7, 0xc19bf174, 0xe49b69c1, 0xefbe4786, 0x0fc19dc6, 0x240ca1cc, 0x2de92c6f, 0x4a7484aa, 0x5cb0a9dc, 0x76f988da, 0x983e5152, 0xa831c66d, 0xb00327c8, 0xbf597fc7, 0xc6e00bf3, 0xd5a79147, 0x06ca6351, 0x14292967, 0x27b70a85, 0x2e1b2138, 0x4d2c6dfc, 0x53380d13, 0x650a7354, 0x766a0abb, 0x81c2c92e, 0x92722c85, 0xa2bfe8a1, 0xa81a664b, 0xc24b8b70, 0xc76c51a3, 0xd192e819, 0xd6990624, 0xf40e3585, 0x106aa070, 0x19a4c116, 0x1e376c08, 0x2748774c, 0x34b0bcb5, 0x391c0cb3, 0x4ed8aa4a, 0x5b9cca4f, 0x682e6ff3, 0x748f82ee, 0x78a5636f, 0x84c87814, 0x8cc70208, 0x90befffa, 0xa4506ceb, 0xbef9a3f7, 0xc67178f2]
/-- The rounds. -/
def rounds6 (s : StS) (W : List Nat) : Nat → StS
  | 0 => s
  | t + 1 => (rounds6 s W t).next (KL.getD t 0) (W.getD t 0)
/-- One block. -/
def blk (s : StS) (B : List Nat) : StS := if B.length = 64 then s.plus (rounds6 s (sched B 64) 64) else s

theorem next_ok {s : StS} (h : s.Ok) (k w : Nat) : (s.next k w).Ok := by
  obtain ⟨h1, h2, h3, h4, h5, h6, h7, h8⟩ := h
  exact ⟨Nat.mod_lt _ (by omega), h1, h2, h3, Nat.mod_lt _ (by omega), h5, h6, h7⟩
theorem rounds_ok {s : StS} (h : s.Ok) (W : List Nat) : ∀ t, (rounds6 s W t).Ok
  | 0 => h
  | t + 1 => next_ok (rounds_ok h W t) _ _
theorem plus_ok (s t : StS) : (s.plus t).Ok := ⟨Nat.mod_lt _ (by omega), Nat.mod_lt _ (by omega), Nat.mod_lt _ (by omega), Nat.mod_lt _ (by omega), Nat.mod_lt _ (by omega), Nat.mod_lt _ (by omega), Nat.mod_lt _ (by omega), Nat.mod_lt _ (by omega)⟩
theorem blk_ok {s : StS} (h : s.Ok) (B : List Nat) : (blk s B).Ok := by
  unfold blk
  split
  · exact plus_ok _ _
  · exact h
def M32 (L : List Nat) : Prop := ∀ i, L.getD i 0 < 4294967296
theorem sg0_lt {x : Nat} (h : x < 4294967296) : sg0 x < 4294967296 := lt32_xor (lt32_xor (rot_lt h _) (rot_lt h _)) (Nat.lt_of_le_of_lt (Nat.div_le_self _ _) h)
theorem sg1_lt {x : Nat} (h : x < 4294967296) : sg1 x < 4294967296 := lt32_xor (lt32_xor (rot_lt h _) (rot_lt h _)) (Nat.lt_of_le_of_lt (Nat.div_le_self _ _) h)
/-- Bytes. -/
def Oct6 (B : List Nat) : Prop := ∀ i, B.getD i 0 < 256
theorem w0_lt {B : List Nat} (h : Oct6 B) (t : Nat) : w0 B t < 4294967296 := by
  have h0 := h (4 * t); have h1 := h (4 * t + 1); have h2 := h (4 * t + 2); have h3 := h (4 * t + 3)
  exact lt32_or (lt32_or (lt32_or (by omega) (by omega)) (by omega)) (by omega)
theorem nextW_lt {B : List Nat} (h : Oct6 B) (L : List Nat) (t : Nat) : nextW B L t < 4294967296 := by
  unfold nextW
  split
  · exact w0_lt h t
  · exact Nat.mod_lt _ (by omega)
theorem m32_set {L : List Nat} (h : M32 L) (t : Nat) {x : Nat} (hx : x < 4294967296) : M32 (L.set t x) := by
  intro i
  have := h i
  rw [List.getD, List.getElem?_set]
  by_cases e : t = i
  · subst e
    rw [if_pos rfl]
    split
    · exact hx
    · exact Nat.lt_of_le_of_lt (Nat.le_refl 0) (by omega)
  · rw [if_neg e]; exact this
theorem m32_noughts (n : Nat) : M32 (List.replicate n 0) := by
  intro i
  rw [List.getD, List.getElem?_replicate]
  split
  · exact (by omega : (0 : Nat) < 4294967296)
  · exact (by omega : (0 : Nat) < 4294967296)
end Go.Proofs.Ytebhpjbjfbadjaa
