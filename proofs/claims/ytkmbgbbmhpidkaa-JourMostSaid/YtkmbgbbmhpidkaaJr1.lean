/-
  Many sectors at once: what is done to a disk, as functions; words on memory.
-/
import Derived.Test.YtkmbgbbmhpidkaaRf8
import Derived.Test.YtkmbgbbmhpidkaaDevR
namespace Go.Proofs.Ytkmbgbbmhpidkaa
open Go.RowKit
set_option linter.unusedVariables false
set_option linter.unusedSimpArgs false

def Dk.many (s : Dk) : Nat := s.now.length - 157
def Dk.puts (s : Dk) : List (Int × List Nat) → Dk × Nat
  | [] => (s, 0)
  | p :: l => if (s.write p.1 p.2).2 = 0 then (s.write p.1 p.2).1.puts l else s.write p.1 p.2
def Dk.putf (s : Dk) (l : List (Int × List Nat)) : Dk × Nat := if (s.puts l).2 = 0 then (s.puts l).1.flush else s.puts l
theorem puts_append (s : Dk) (l l2 : List (Int × List Nat)) : s.puts (l ++ l2) = if (s.puts l).2 = 0 then (s.puts l).1.puts l2 else s.puts l := by
  induction l generalizing s with
  | nil => rfl
  | cons p l ih =>
    rw [List.cons_append, Dk.puts, Dk.puts]
    by_cases h : (s.write p.1 p.2).2 = 0
    · rw [if_pos h, if_pos h, ih]
    · rw [if_neg h, if_neg h, if_neg h]
theorem puts_one (s : Dk) (p : Int × List Nat) : s.puts [p] = s.write p.1 p.2 := by
  rw [Dk.puts]
  by_cases h : (s.write p.1 p.2).2 = 0
  · rw [if_pos h, Dk.puts]
    exact Prod.ext rfl h.symm
  · rw [if_neg h]
theorem puts_snoc {s : Dk} {l : List (Int × List Nat)} {p : Int × List Nat} (h : (s.puts l).2 = 0) : s.puts (l ++ [p]) = (s.puts l).1.write p.1 p.2 := by
  rw [puts_append, if_pos h, puts_one]
theorem puts_stop {s : Dk} {l : List (Int × List Nat)} {p : Int × List Nat} {r : List (Int × List Nat)} (h : (s.puts l).2 = 0) (hw : ((s.puts l).1.write p.1 p.2).2 ≠ 0) : s.puts (l ++ p :: r) = (s.puts l).1.write p.1 p.2 := by
  rw [puts_append, if_pos h, Dk.puts, if_neg hw]
theorem putf_stop {s : Dk} {l : List (Int × List Nat)} (h : (s.puts l).2 ≠ 0) : s.putf l = s.puts l := by rw [Dk.putf, if_neg h]
theorem putf_go {s : Dk} {l : List (Int × List Nat)} (h : (s.puts l).2 = 0) : s.putf l = (s.puts l).1.flush := by rw [Dk.putf, if_pos h]
theorem jwrite_le (s : Dk) (i : Int) (x : List Nat) : (s.write i x).1.waits.length ≤ s.waits.length + 1 ∧ (s.write i x).1.ops ≤ s.ops + 1 := by
  unfold Dk.write
  split
  · exact ⟨Nat.le_succ _, Nat.le_succ _⟩
  · split
    · split
      · exact ⟨Nat.zero_le _, Nat.le_succ _⟩
      · refine ⟨?_, Nat.le_refl _⟩
        show (s.waits ++ _).length ≤ _
        simp
    · exact ⟨Nat.le_succ _, Nat.le_succ _⟩
theorem jflush_le (s : Dk) : s.flush.1.waits.length ≤ s.waits.length + 1 ∧ s.flush.1.ops ≤ s.ops + 1 := by
  unfold Dk.flush
  split
  · exact ⟨Nat.le_succ _, Nat.le_succ _⟩
  · split
    · exact ⟨Nat.zero_le _, Nat.le_succ _⟩
    · exact ⟨Nat.zero_le _, Nat.le_refl _⟩
theorem puts_le (s : Dk) (l : List (Int × List Nat)) : (s.puts l).1.waits.length ≤ s.waits.length + l.length ∧ (s.puts l).1.ops ≤ s.ops + l.length := by
  induction l generalizing s with
  | nil => exact ⟨Nat.le_refl _, Nat.le_refl _⟩
  | cons p l ih =>
    rw [Dk.puts]
    have h1 := jwrite_le s p.1 p.2
    split
    · have h2 := ih (s.write p.1 p.2).1
      simp only [List.length_cons]
      omega
    · simp only [List.length_cons]
      omega
theorem putf_le (s : Dk) (l : List (Int × List Nat)) : (s.putf l).1.waits.length ≤ s.waits.length + l.length + 1 ∧ (s.putf l).1.ops ≤ s.ops + l.length + 1 := by
  have h1 := puts_le s l
  have h2 := jflush_le (s.puts l).1
  unfold Dk.putf
  split <;> omega
theorem write_now (s : Dk) (i : Int) (x : List Nat) : (s.write i x).1.now.length = s.now.length := by
  unfold Dk.write
  split
  · rfl
  · split
    · split
      · show (backN _ _ _ _).length = _
        rw [backN_length]
      · show (s.now.set _ _).length = _
        simp
    · rfl
theorem flush_now (s : Dk) : s.flush.1.now.length = s.now.length := by
  unfold Dk.flush
  split
  · rfl
  · split
    · show (backN _ _ _ _).length = _
      rw [backN_length]
    · rfl
theorem puts_now (s : Dk) (l : List (Int × List Nat)) : (s.puts l).1.now.length = s.now.length := by
  induction l generalizing s with
  | nil => rfl
  | cons p l ih =>
    rw [Dk.puts]
    split
    · rw [ih, write_now]
    · rw [write_now]
theorem putf_now (s : Dk) (l : List (Int × List Nat)) : (s.putf l).1.now.length = s.now.length := by
  unfold Dk.putf
  split
  · rw [flush_now, puts_now]
  · rw [puts_now]

def two8 (n : Nat) : List Nat := [n / 256 % 256, n % 256]
def apstB : List Nat := secOf [97, 112, 115, 116]
def markB (n : Nat) : List Nat := secOf ([109, 97, 114, 107] ++ two8 n)
def begunN (b : List Nat) : Option Nat :=
  if b = zsec then some 0 else if b.getD 4 0 * 256 + b.getD 5 0 < 1 ∨ 150 < b.getD 4 0 * 256 + b.getD 5 0 ∨ b ≠ markB (b.getD 4 0 * 256 + b.getD 5 0) then none else some (b.getD 4 0 * 256 + b.getD 5 0)
def sheetsN (n : Nat) : Nat := (n + 31) / 32
def placesB (l : List (Int × List Nat)) : List Nat := l.flatMap fun p => two8 p.1.toNat
def shB (l : List (Int × List Nat)) (t : Nat) : List Nat := secOf ((placesB l).drop (64 * t))
def logD (l : List (Int × List Nat)) : List (Int × List Nat) := l.mapIdx fun k p => (((2 + sheetsN l.length + k : Nat) : Int), p.2)
def logS (l : List (Int × List Nat)) : List (Int × List Nat) := (List.range (sheetsN l.length)).map fun t => (((2 + t : Nat) : Int), shB l t)
def Dk.fin (s : Dk) (l : List (Int × List Nat)) : Dk × Nat :=
  if (s.putf (l.map fun p => (157 + p.1, p.2))).2 = 0 then (s.putf (l.map fun p => (157 + p.1, p.2))).1.putf [(1, zsec)] else s.putf (l.map fun p => (157 + p.1, p.2))
def mayJ (n : Nat) (l : List (Int × List Nat)) : Bool := decide ((∀ p ∈ l, 0 ≤ p.1 ∧ p.1 < (n : Int) ∧ p.2.length = 64) ∧ (l.map (·.1)).Nodup)
def Dk.commit (s : Dk) (l : List (Int × List Nat)) : Dk × Nat :=
  if mayJ s.many l = true then
    if 150 < l.length then (s, 5) else if l = [] then (s, 0) else
    if (s.putf (logD l ++ logS l)).2 = 0 then
      if ((s.putf (logD l ++ logS l)).1.putf [(1, markB l.length)]).2 = 0 then ((s.putf (logD l ++ logS l)).1.putf [(1, markB l.length)]).1.fin l
      else (s.putf (logD l ++ logS l)).1.putf [(1, markB l.length)]
    else s.putf (logD l ++ logS l)
  else (s, 1)
def formW (n : Nat) : List (Int × List Nat) := (0, apstB) :: (1, zsec) :: (List.range (n - 157)).map fun i => (((157 + i : Nat) : Int), zsec)
def Dk.format (s : Dk) : Dk × Nat := if s.many = 0 then (s, 5) else s.putf (formW s.now.length)
/-- What a log of n writes tells. -/
def Dk.toldAt (s : Dk) (n k : Nat) : Int × List Nat :=
  ((((s.read ((2 + k / 32 : Nat) : Int)).getD (2 * (k % 32)) 0 * 256 + (s.read ((2 + k / 32 : Nat) : Int)).getD (2 * (k % 32) + 1) 0 : Nat) : Int), s.read ((2 + sheetsN n + k : Nat) : Int))
def Dk.told (s : Dk) (n : Nat) : List (Int × List Nat) := (List.range n).map (s.toldAt n)
def Dk.open_ (s : Dk) : Dk × Nat :=
  if s.down = true then (s, 6) else if s.many = 0 ∨ s.read 0 ≠ apstB then (s, 13) else
  match begunN (s.read 1) with
  | none => (s, 13)
  | some 0 => (s, 0)
  | some n => if ∀ p ∈ s.told n, p.1 < (s.many : Int) then s.fin (s.told n) else (s, 13)

/-! Words on memory. -/
/-- P holds whatever becomes of the blocks F. -/
def OffF (F : Nat → Prop) (P : World → Prop) (w : World) : Prop := ∀ w' : World, w.heap.size ≤ w'.heap.size → (∀ g, ¬ F g → g < w.heap.size → w'.heap[g]? = w.heap[g]?) → P w'
section
variable {F G : Nat → Prop} {P Q : World → Prop} {w w' : World}
theorem OffF.at_ (h : OffF F P w) : P w := h w (Nat.le_refl _) fun _ _ _ => rfl
theorem OffF.keep (h : OffF F P w) (hs : w.heap.size ≤ w'.heap.size) (hk : ∀ g, ¬ F g → g < w.heap.size → w'.heap[g]? = w.heap[g]?) (hx : ∀ g, G g → F g ∨ w.heap.size ≤ g) : OffF G P w' := fun w2 h2 h3 =>
  h w2 (Nat.le_trans hs h2) fun g h4 h5 => (h3 g (fun h6 => by rcases hx g h6 with h7 | h7; exact h4 h7; omega) (by omega)).trans (hk g h4 h5)
theorem OffF.under (h : OffF F P w) (hb : Below w.heap.size w w') : OffF F P w' := h.keep hb.size (fun g _ hg => hb.block g hg) fun g hg => .inl hg
theorem OffF.only (h : OffF F P w) (ho : Only F w w') : OffF (grow F w w') P w' := h.keep ho.size (fun g a b => ho.block g b a) fun g hg => by rcases hg with hg | hg; exact .inl hg; exact .inr hg.1
theorem OffF.less (h : OffF F P w) (hx : ∀ g, G g → F g ∨ w.heap.size ≤ g) : OffF G P w := h.keep (Nat.le_refl _) (fun _ _ _ => rfl) hx
theorem OffF.imp (h : OffF F P w) (hi : ∀ w, P w → Q w) : OffF F Q w := fun w2 h2 h3 => hi w2 (h w2 h2 h3)
theorem OffF.and (h : OffF F P w) (h' : OffF F Q w) : OffF F (fun w => P w ∧ Q w) w := fun w2 h2 h3 => ⟨h w2 h2 h3, h' w2 h2 h3⟩
end
/-- The disk, since w. -/
def DJ (w : World) (F : Nat → Prop) (gd : Nat) (s : Dk) (wr : World) : Prop := Disk wr (grow F w wr) gd s ∧ Only F w wr
section
variable {w wr w' : World} {F : Nat → Prop} {gd : Nat} {s s' : Dk}
theorem DJ.start (h : Disk w F gd s) : DJ w F gd s w := ⟨h.more fun k hk => .inl hk, Only.refl _ _⟩
theorem DJ.below (h : DJ w F gd s wr) (hb : Below wr.heap.size wr w') : DJ w F gd s w' :=
  ⟨(h.1.keep (Only.of_below (F := fun _ => False) hb) (fun _ _ e => e)).more fun k hk => by
    rcases hk with hk | hk
    · exact .inl hk
    · exact .inr ⟨hk.1, Nat.lt_of_lt_of_le hk.2 hb.size⟩, h.2.trans (Only.of_below (F := fun _ => False) hb) fun _ _ e => e.elim⟩
theorem DJ.step (h : DJ w F gd s wr) (hd : Disk w' (grow (grow F w wr) wr w') gd s') (ho : Only (grow F w wr) wr w') : DJ w F gd s' w' :=
  ⟨hd.more fun k hk => by
    have h1 := h.2.size
    have h2 := ho.size
    rcases hk with (hk | hk) | hk
    · exact .inl hk
    · exact .inr ⟨hk.1, by omega⟩
    · exact .inr ⟨by omega, hk.2⟩, h.2.trans ho fun k hk hg => by rcases hg with hg | hg; exact hg; omega⟩
theorem DJ.then {P : World → Prop} (h : DJ w F gd s wr) (hp : OffF F P w) : OffF (grow F w wr) P wr := hp.only h.2
theorem DJ.rd {P : World → Prop} (h : DJ w F gd s wr) (hp : OffF F P w) : P wr := (h.then hp).at_
theorem DJ.write (h : DJ w F gd s wr) (i : Int) (A2 : Option Addr) (n2 c2 : Nat) (x : List Nat) (hn : x.length = n2) (hr : Rd .u8 wr wr.heap.size A2 c2 x) (hwl : s.waits.length ≤ 100000) (hops : s.ops ≤ 1000000000) :
    Calls Try.prog 20 #[.pointer (some ⟨gd, 0, none⟩), .int .i64 i, .slice A2 n2 c2] wr fun e w' => e = .returned (.int .i64 ((s.write i x).2 : Nat)) ∧ DJ w F gd (s.write i x).1 w' :=
  (disk_write h.1 i A2 n2 c2 x hn hr hwl hops).mono fun e w' q => ⟨q.1, h.step q.2.1 q.2.2⟩
theorem DJ.flush (h : DJ w F gd s wr) (hwl : s.waits.length ≤ 100000) (hops : s.ops ≤ 1000000000) :
    Calls Try.prog 23 #[.pointer (some ⟨gd, 0, none⟩)] wr fun e w' => e = .returned (.int .i64 (s.flush.2 : Nat)) ∧ DJ w F gd s.flush.1 w' :=
  (disk_flush h.1 hwl hops).mono fun e w' q => ⟨q.1, h.step q.2.1 q.2.2⟩
end
/-- A row of writes. -/
structure Wr where
  at_ : Int
  da : Option Addr
  dc : Nat
  d : List Nat
instance : Inhabited Wr := ⟨⟨0, none, 0, []⟩⟩
def WrAt (w : World) (g o : Nat) (x : Wr) : Prop := w.cell? ⟨g, o, none⟩ = some (.int .i64 x.at_) ∧ w.cell? ⟨g, o + 1, none⟩ = some (.slice x.da x.d.length x.dc)
def RdWr (A : Option Addr) (c : Nat) (l : List Wr) (w : World) : Prop :=
  l.length ≤ c ∧ c ≤ 9223372036854775807 ∧ (∀ j, j < l.length → Rd .u8 w w.heap.size (l.getD j default).da (l.getD j default).dc (l.getD j default).d) ∧
    (0 < l.length → ∃ b off, A = some ⟨b, off, none⟩ ∧ b < w.heap.size ∧ ∀ j, j < l.length → WrAt w b (off + j * 2) (l.getD j default))
def Wr.v (x : Wr) : Int × List Nat := (x.at_, x.d)
def wv (l : List Wr) : List (Int × List Nat) := l.map Wr.v
theorem wv_length (l : List Wr) : (wv l).length = l.length := List.length_map _
theorem wv_at {l : List Wr} {j : Nat} (h : j < l.length) : (wv l)[j]? = some (l.getD j default).v := by simp [wv, List.getD, h]
theorem wv_drop {l : List Wr} {j : Nat} (h : j < l.length) : (wv l).drop j = (l.getD j default).v :: (wv l).drop (j + 1) := by
  rw [List.drop_eq_getElem_cons (by rw [wv_length]; exact h)]
  congr 1
  simp [wv, List.getD, h]
end Go.Proofs.Ytkmbgbbmhpidkaa
