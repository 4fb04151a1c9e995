/-
  Bytes of one's own; what bytes read as; things that keep to their blocks.
-/
import Derived.Test.YtdjklhglkmacbaaDoorTlv16
import Derived.Laws.ResultCell
import Derived.Laws.Cover3
import Derived.Test.YtdjklhglkmacbaaDoorOwnV
namespace Go.Proofs.YtdjklhglkmacbaaDoor
open Go.RowKit
set_option linter.unusedVariables false
set_option linter.unusedSimpArgs false

theorem run_eql_slice_nil {P : Program} (w : World) (t e : TypeId) (a : Option Addr) (l c : Nat) (h : P.underlying t = some (.slice e)) : (binOp .eql t (.slice a l c) (.slice none 0 0)).run P w = .ok (.bool a.isNone) w := by
  simp only [binOp]
  simp [run_equal_slice_nil w t e a l c h]
set_option maxRecDepth 100000 in
set_option maxHeartbeats 4000000 in
theorem clone_any (w : World) (B : Nat) (A : Option Addr) (c n : Nat) (l : List Nat) (hR : Rd .u8 w B A c l) (hn : l.length = n) (hB : B ≤ w.heap.size) (h12 : n ≤ 12000) :
    Calls Tryd.prog 54 #[.slice A n c] w fun e w' => ∃ A' c', e = .returned (.slice A' n c') ∧ Mine 5 w' w.heap.size A' c' l ∧ Below w.heap.size w w' := by
  rcases A with _ | a
  · have hn0 : n = 0 := by
      rcases Nat.eq_zero_or_pos n with h | h
      · exact h
      · obtain ⟨_, _, e, _⟩ := hR.2.2 (by omega)
        cases e
    subst hn0
    obtain rfl := List.eq_nil_of_length_eq_zero hn
    clear hR
    have hnl : (binOp .eql 28 (.slice none 0 c) (.slice none 0 0)).run Tryd.prog w = .ok (.bool true) w := run_eql_slice_nil w _ _ none 0 c under22
    go_enter Tryd.func54, Tryd.ntmps54
    go_wp2_with fail
    go_ret
    exact ⟨_, _, rfl, Mine.nil _ _ _, Below.refl _ _⟩
  · have HM1 : Hid (Mine 5 (w.alloc (.cells #[] 5)) w.heap.size (some ⟨w.heap.size, 0, none⟩) 0 []) := Lib.hid (Mine.fresh0 w _ (Nat.le_refl _))
    have HQ1 : Hid (Below w.heap.size w (w.alloc (.cells #[] 5))) := Lib.hid ((Below.refl _ _).alloc (Nat.le_refl _) _)
    have HR1 : Hid (Rd .u8 (w.alloc (.cells #[] 5)) B (some a) c l) := Lib.hid (hR.alloc hB _)
    have HN := Lib.hid hn
    clear hR hn
    have hnl : (binOp .eql 28 (.slice (some a) n c) (.slice none 0 0)).run Tryd.prog w = .ok (.bool false) w := run_eql_slice_nil w _ _ (some a) n c under22
    go_enter Tryd.func54, Tryd.ntmps54
    go_wp2_with (first | (refine wpList_mine (B2 := B) _ rfl (.tmp 5) (.tmp 6) 28 rfl 5 Tryd.underlying28 info_u8 rfl HM1.out rfl rfl HR1.out HN.out HQ1.out.size (by omega) ?_; intro A5 c5 W5 hm5 hg5 hat5) | fail)
    have HQ5 : Hid (Below w.heap.size w W5) := Lib.hid (HQ1.out.trans (below_blk hg5 HQ1.out.size (fun g hg => by simp [blk_of] at hg; omega)))
    have HM5 := Lib.hid hm5
    clear hm5 hg5 hat5
    go_wp2_with fail
    go_ret
    exact ⟨_, _, rfl, HM5.out, HQ5.out⟩

mutual
/-- What a window of bytes begins with, so deep, so many things begun before: an error, or a thing, how many bytes it is, how many things are begun. -/
def rd : List Nat → Nat → Nat → Except Nat (Tr × Nat × Nat)
  | [], _, _ => .error 2
  | x :: r, d, c =>
    if tagOk x = false then .error 2 else if 12 < d then .error 3 else if 600 ≤ c then .error 4 else
    match lenOf r with
    | none => .error 2
    | some (k, u) =>
      if parted x = false then .ok (.mk x ((r.drop u).take k) [], 1 + u + k, c + 1)
      else match rds ((r.drop u).take k) (d + 1) (c + 1) with
        | .error e => .error e
        | .ok (l, c') => .ok (.mk x [] l, 1 + u + k, c')
termination_by b _ _ => (b.length, 0)
decreasing_by
  · apply Prod.Lex.left
    simp
    omega
def rds : List Nat → Nat → Nat → Except Nat (List Tr × Nat)
  | [], _, c => .ok ([], c)
  | x :: r, d, c =>
    match rd (x :: r) d c with
    | .error e => .error e
    | .ok (t, n, c') => match rds (r.drop (n - 1)) d c' with
      | .error e => .error e
      | .ok (l, c'') => .ok (t :: l, c'')
termination_by b _ _ => (b.length, 1)
decreasing_by
  · apply Prod.Lex.right
    omega
  · apply Prod.Lex.left
    simp
    omega
end

theorem rd_fits : ∀ (N : Nat), (∀ M d c t n c', M.length < N → rd M d c = .ok (t, n, c') → 1 ≤ n ∧ n ≤ M.length ∧ c' ≤ 600) ∧ (∀ M d c l c', M.length < N → c ≤ 600 → rds M d c = .ok (l, c') → c' ≤ 600)
  | 0 => ⟨fun M _ _ _ _ _ h => by omega, fun M _ _ _ _ h => by omega⟩
  | N + 1 => by
    obtain ⟨ih1, ih2⟩ := rd_fits N
    have h1 : ∀ M d c t n c', M.length < N + 1 → rd M d c = .ok (t, n, c') → 1 ≤ n ∧ n ≤ M.length ∧ c' ≤ 600 := by
      intro M d c t n c' hM h
      rcases M with _ | ⟨x, r⟩
      · rw [rd] at h; cases h
      rw [rd] at h
      by_cases g1 : tagOk x = false
      · rw [if_pos g1] at h; cases h
      rw [if_neg g1] at h
      by_cases g2 : 12 < d
      · rw [if_pos g2] at h; cases h
      rw [if_neg g2] at h
      by_cases g3 : 600 ≤ c
      · rw [if_pos g3] at h; cases h
      rw [if_neg g3] at h
      rcases g4 : lenOf r with _ | ⟨k, u⟩
      · rw [g4] at h; cases h
      rw [g4] at h
      have hf := lenOf_fits g4
      rw [List.length_cons] at hM ⊢
      dsimp only at h
      by_cases g5 : parted x = false
      · rw [if_pos g5] at h
        injection h with h
        injection h with _ h
        injection h with h2 h3
        omega
      rw [if_neg g5] at h
      rcases g6 : rds ((r.drop u).take k) (d + 1) (c + 1) with e | ⟨l, c''⟩
      · rw [g6] at h; cases h
      rw [g6] at h
      injection h with h
      injection h with _ h
      injection h with h2 h3
      have := ih2 _ _ _ _ _ (by simp; omega) (by omega) g6
      omega
    refine ⟨h1, ?_⟩
    intro M d c l c' hM hc h
    rcases M with _ | ⟨x, r⟩
    · rw [rds] at h
      injection h with h
      injection h with _ h
      omega
    rw [rds] at h
    rcases g1 : rd (x :: r) d c with e | ⟨t, n, c2⟩
    · rw [g1] at h; cases h
    rw [g1] at h
    dsimp only at h
    have h2 := h1 _ _ _ _ _ _ hM g1
    rcases g2 : rds (r.drop (n - 1)) d c2 with e | ⟨l2, c3⟩
    · rw [g2] at h; cases h
    rw [g2] at h
    injection h with h
    injection h with _ h
    have := ih2 _ _ _ _ _ (by rw [List.length_cons] at hM; simp; omega) h2.2.2 g2
    omega

/-- A thing that lies from block a on, below block b. -/
def TrIn (w : World) (a b : Nat) (t : Lt) : Prop := ∀ w' : World, (∀ g, a ≤ g → g < b → w'.heap[g]? = w.heap[g]?) → TrAt w' b t
theorem TrIn.at_ {w : World} {a b : Nat} {t : Lt} (h : TrIn w a b t) : TrAt w b t := h w fun _ _ _ => rfl
theorem TrIn.keep {w w' : World} {a b : Nat} {t : Lt} (h : TrIn w a b t) (hk : ∀ g, a ≤ g → g < b → w'.heap[g]? = w.heap[g]?) : TrIn w' a b t :=
  fun w2 h2 => h w2 fun g h3 h4 => (h2 g h3 h4).trans (hk g h3 h4)
/-- Things that lie from block lo on, none in the block of the slice A. -/
def Apart (w : World) (lo : Nat) (A : Option Addr) (l : List Lt) : Prop := ∀ t ∈ l, ∃ a b, lo ≤ a ∧ b ≤ w.heap.size ∧ TrIn w a b t ∧ ∀ g, blockOf A = some g → g < a ∨ b ≤ g
theorem Apart.nil (w : World) (lo : Nat) (A : Option Addr) : Apart w lo A [] := fun t h => by cases h
theorem Apart.keep {w w' : World} {lo : Nat} {A A' : Option Addr} {l : List Lt} (h : Apart w lo A l) (hsz : w.heap.size ≤ w'.heap.size) (hk : ∀ g, lo ≤ g → g < w.heap.size → blockOf A ≠ some g → w'.heap[g]? = w.heap[g]?) (hA : ∀ g, blockOf A' = some g → blockOf A = some g ∨ w.heap.size ≤ g) : Apart w' lo A' l := fun t ht => by
  obtain ⟨a, b, h1, h2, h3, h4⟩ := h t ht
  refine ⟨a, b, h1, by omega, h3.keep fun g h5 h6 => hk g (by omega) (by omega) (fun e => by have := h4 g e; omega), fun g hg => ?_⟩
  rcases hA g hg with h7 | h7
  · exact h4 g h7
  · exact .inr (by omega)
theorem Apart.more {w : World} {lo : Nat} {A : Option Addr} {l : List Lt} (h : Apart w lo A l) {t : Lt} {a b : Nat} (ha : lo ≤ a) (hb : b ≤ w.heap.size) (ht : TrIn w a b t) (hA : ∀ g, blockOf A = some g → g < a ∨ b ≤ g) : Apart w lo A (l ++ [t]) := fun u hu => by
  rcases List.mem_append.1 hu with hu | hu
  · exact h u hu
  · rw [List.mem_singleton.1 hu]
    exact ⟨a, b, ha, hb, ht, hA⟩

def lcell (t : Lt) : List Value := [.int .u8 (t.tag : Int), .slice t.ba t.body.length t.bc, .slice t.ka t.kids.length t.kc]
theorem lcell_cells (t : Lt) : (lcell t).toArray = t.cells := rfl
theorem info_node : (Tryd.prog.info? 31).map (fun i => (i.zero, i.size, i.bytes)) = some (some (.agg #[.int .u8 0, .slice none 0 0, .slice none 0 0]), 3, 56) := by kernel_rfl
theorem RowT.of_own {w : World} {A : Option Addr} {c n : Nat} {l : List Lt} (hl : l.length = n) (h : OwnV 31 3 w A c n (l.flatMap lcell)) : RowT w w.heap.size A c l := by
  subst hl
  refine ⟨h.le.1, h.le.2, fun hn => ?_⟩
  have at3 : ∀ j, j < l.length → ∀ t, t < 3 → ∀ v, (lcell (l.getD j default))[t]? = some v → ∃ g, A = some ⟨g, 0, none⟩ ∧ g < w.heap.size ∧ w.cell? ⟨g, 3 * j + t, none⟩ = some v := fun j hj t ht v hv => by
    have e : l[j]? = some (l.getD j default) := by simp [List.getD, hj]
    have f := flat_at (f := lcell) (m := 3) (L := l) (fun _ _ => rfl) e (j := t) ht
    obtain ⟨g, hA, hlt, hc, _⟩ := h.at_ (j := 3 * j + t) (v := v) (by rw [f]; exact hv)
    exact ⟨g, hA, hlt, hc⟩
  obtain ⟨g, rfl, hlt, _⟩ := at3 0 hn 0 (by omega) _ rfl
  refine ⟨g, 0, rfl, hlt, fun j hj => ?_⟩
  have k : ∀ t, t < 3 → ∀ v, (lcell (l.getD j default))[t]? = some v → w.cell? ⟨g, 3 * j + t, none⟩ = some v := fun t ht v hv => by
    obtain ⟨g', e, _, hc⟩ := at3 j hj t ht v hv
    injection e with e
    obtain rfl : g = g' := by injection e
    exact hc
  exact ⟨by rw [show 0 + j * 3 = 3 * j + 0 by omega]; exact k 0 (by omega) _ rfl, by rw [show 0 + j * 3 + 1 = 3 * j + 1 by omega]; exact k 1 (by omega) _ rfl, by rw [show 0 + j * 3 + 2 = 3 * j + 2 by omega]; exact k 2 (by omega) _ rfl⟩
/-- A thing of kids that were read. -/
theorem TrIn.of_kids {w : World} {lo c n x : Nat} {A : Option Addr} {l : List Lt} (hx : x < 256) (hl : l.length = n) (hlo : lo ≤ w.heap.size) (h : OwnV 31 3 w A c n (l.flatMap lcell)) (hA : ∀ g, blockOf A = some g → lo ≤ g) (ha : Apart w lo A l) : TrIn w lo w.heap.size (.mk x none 0 [] A c l) := fun w' hw' => by
  rw [trAt_mk]
  have h' : OwnV 31 3 w' A c n (l.flatMap lcell) := h.keep fun g hg hlt => hw' g (hA g hg) hlt
  refine ⟨hx, Rd.nil_ _ _ _, fun y hy => by simp at hy, ?_, fun j hj => ?_⟩
  · have h2 := RowT.of_own hl h'
    refine ⟨h2.1, h2.2.1, fun hn => ?_⟩
    obtain ⟨b, off, e, hlt, hc⟩ := h2.2.2 hn
    exact ⟨b, off, e, h.lt (by rw [e]; rfl), hc⟩
  · obtain ⟨a, b, h1, h2, h3, _⟩ := ha _ (show l.getD j default ∈ l by simp [List.getD, hj])
    exact (h3 w' fun g h4 h5 => hw' g (by omega) (by omega)).more' h2
/-- A thing of bytes that were read. -/
theorem TrIn.of_body {w : World} {lo c x : Nat} {A : Option Addr} {l : List Nat} (hx : x < 256) (hlo : lo ≤ w.heap.size) (h : Mine 5 w lo A c l) (ho : ∀ y ∈ l, y < 256) : TrIn w lo w.heap.size (.mk x A c l none 0 []) := fun w' hw' => by
  rw [trAt_mk]
  have h' : Mine 5 w' lo A c l := h.keep fun g hg => hw' g (h.block hg).1 (h.block hg).2
  have h2 := h'.rd
  refine ⟨hx, ⟨h2.1, h2.2.1, fun hn => ?_⟩, ho, ⟨by simp, by omega, fun hn => by simp at hn⟩, fun j hj => by simp at hj⟩
  obtain ⟨b, off, e, hlt, hc⟩ := h2.2.2 hn
  exact ⟨b, off, e, (h.block (by rw [e]; rfl)).2, hc⟩
end Go.Proofs.YtdjklhglkmacbaaDoor
