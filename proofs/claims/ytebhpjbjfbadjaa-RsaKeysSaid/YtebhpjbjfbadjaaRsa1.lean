/-
  A frame, as the document has it.
-/
import Derived.Test.YtebhpjbjfbadjaaOwn
import Derived.Test.YtebhpjbjfbadjaaNatB
namespace Go.Proofs.Ytebhpjbjfbadjaa
open Go.RowKit
set_option linter.unusedVariables false

theorem grown_below {a w : World} {r : Option Nat} {B : Nat} (h : a.grownBy w r) (hr : ∀ g, r = some g → B ≤ g) (hs : B ≤ a.heap.size) : Below B a w :=
  ⟨h.os, h.tape, h.output, h.size, fun b hb => h.block b (by omega) (fun e => by have := hr b e.symm; omega)⟩

theorem vals_from {k : IntKind} {w : World} {B : Nat} {A : Option Addr} {c : Nat} {l : List Nat} (hr : Rd k w B A c l) (h : 0 < l.length) : ∃ ad, A = some ad ∧ ∀ j v, (vals k l)[j]? = some v → w.cell? (ad.add j) = some v := by
  obtain ⟨b, off, rfl, hb, hc⟩ := hr.2.2 h
  refine ⟨_, rfl, fun j v hv => ?_⟩
  have hj : j < l.length := by
    have := (List.getElem?_eq_some_iff.1 hv).1
    simpa [vals] using this
  have ha : (⟨b, off, none⟩ : Addr).add j = ⟨b, off + j, none⟩ := by unfold Addr.add; split <;> simp_all
  rw [ha, hc j hj, ← hv]
  simp [vals, List.getD, hj]

section
variable {P : Program} (w : World) {ops : Array Oper} {rest : List Oper} {o : Oper} {a : Act} {Q : Exit → Act → World → Prop}
/-- append of a slice that reads as numbers, one at the least. -/
theorem wpList_join (hgd : o.guard = none) (s x : Operand) (t : TypeId) (ho : o.op = .call { callee := .builtin .append, args := #[s, x], argTypes := #[t, t] })
    (k : IntKind) (B : Nat) (e : TypeId) (bytes : Nat) (ht : P.underlying t = some (.slice e)) (hi : (P.info? e).map (fun i => (i.zero, i.size, i.bytes)) = some (some (.int k 0), 1, bytes))
    (A : Option Addr) (n c : Nat) (l : List Nat) (hs : a.eval s = .slice A n c) (hn : l.length = n) (hown : Own k e w B A c l)
    (A2 : Option Addr) (B2 m c2 : Nat) (news : List Nat) (hx : a.eval x = .slice A2 m c2) (hm : news.length = m) (hg : Rd k w B2 A2 c2 news) (hm0 : 0 < m) (hsz : n + m ≤ 100000000) (hby : bytes ≤ 8) (hB : B ≤ w.heap.size)
    (hK : ∀ g' c' w', Own k e w' B (some ⟨g', 0, none⟩) c' (l ++ news) → w.grownBy w' (blockOf A) → (blockOf A = some g' ∨ g' = w.heap.size) → wpList P ops Q rest (a.put o.dst (.slice (some ⟨g', 0, none⟩) (n + m) c')) w') :
    wpList P ops Q (o :: rest) a w := by
  subst hn; subst hm
  obtain ⟨i, hi', hz, hsize, hbytes⟩ := info_parts hi
  obtain ⟨ad, rfl, hnews⟩ := vals_from hg hm0
  refine wpList_append_lies w hgd s x t ho B e i (.int k 0) 1 bytes ht hi' hz hsize hbytes rfl (by omega) (.slice A l.length c) l.length (vals k l) hs hown ad news.length c2 (vals k news) hx (by rw [vals_length]; omega)
    hnews (vals_one k news) hm0 (by unfold maxLen; omega)
    (Nat.le_trans (Nat.mul_le_mul hsz hby) (by omega)) hB w.heap.size rfl ?_
  intro g' cap w' hown' hgr hat hlt
  rw [ownBlock_eq] at hgr hat
  refine hK g' cap w' ?_ hgr hat
  unfold Own
  rw [List.length_append, ← vals_append]
  exact hown'
end

def headL : List Nat := [0, 48, 49, 48, 13, 6, 9, 96, 134, 72, 1, 101, 3, 4, 2, 1, 5, 0, 4, 32]
def frameL (d : List Nat) (n : Nat) : List Nat := ([0, 1] ++ List.replicate (n - 54) 255) ++ (headL ++ d)
theorem frameL_length {d : List Nat} {n : Nat} (hd : d.length = 32) (hn : 62 ≤ n) : (frameL d n).length = n := by
  simp [frameL, headL, hd]; omega

def RelF (w : World) (n : Nat) (v : Value) (wr : World) : Prop :=
  ∃ (k m c : Nat) (A : Option Addr), v = .slice A m c ∧ m = 2 + k ∧ k ≤ n - 54 ∧ Own .u8 5 wr w.heap.size A c ([0, 1] ++ List.replicate k 255) ∧ Below w.heap.size w wr

set_option maxRecDepth 100000 in
set_option maxHeartbeats 2000000 in
theorem frame9_no (w : World) (A : Option Addr) (c m : Nat) (n : Int) (h : m ≠ 32 ∨ n < 62 ∨ 1024 < n) :
    Calls Try.prog 8 #[.slice A m c, .int .i64 n] w fun e w' => e = .returned (.tuple #[.slice none 0 0, .bool false]) ∧ w' = w := by
  by_cases a1 : m = 32
  · have d1 : ((m : Int) != 32) = false := by simp; omega
    have d1' : decide (m = 32) = true := by simp [a1]
    by_cases a2 : n < 62
    · have d2 : decide (n < 62) = true := decide_eq_true a2
      go_enter Try.func8, Try.ntmps8
      go_wp2_with fail
      go_ret2
      exact ⟨rfl, rfl⟩
    · have d2 : decide (n < 62) = false := decide_eq_false a2
      have d3 : decide (1024 < n) = true := decide_eq_true (by omega)
      go_enter Try.func8, Try.ntmps8
      go_wp2_with fail
      go_ret2
      exact ⟨rfl, rfl⟩
  · have d1 : ((m : Int) != 32) = true := by simp; omega
    go_enter Try.func8, Try.ntmps8
    go_wp2_with fail
    go_ret2
    exact ⟨rfl, rfl⟩

set_option maxRecDepth 100000 in
set_option maxHeartbeats 4000000 in
theorem frame9_yes (w : World) (B : Nat) (A : Option Addr) (c : Nat) (l : List Nat) (n : Nat) (hl : l.length = 32) (hr : Rd .u8 w B A c l) (hB : B ≤ w.heap.size) (h1 : 62 ≤ n) (h2 : n ≤ 1024) :
    Calls Try.prog 8 #[.slice A 32 c, .int .i64 n] w fun e w' => ∃ A' c', e = .returned (.tuple #[.slice A' n c', .bool true]) ∧ Rd .u8 w' w'.heap.size A' c' (frameL l n) ∧ Below w.heap.size w w' := by
  have d2 : decide ((n : Int) < 62) = false := decide_eq_false (by omega)
  have d2' : decide (n < 62) = false := decide_eq_false (by omega)
  have d3 : decide ((1024 : Int) < (n : Int)) = false := decide_eq_false (by omega)
  have d3' : decide (1024 < n) = false := decide_eq_false (by omega)
  have HL := Lib.hid hl
  have HR := Lib.hid hr
  clear hl hr
  go_enter Try.func8, Try.ntmps8
  go_wp2_with fail
  go_loopw [6] (fun v wr => RelF w n v wr) (fun v _ => n - (match v with | .slice _ m _ => m | _ => 0))
  case atStart =>
    refine ⟨0, 2, 2, some ⟨w.heap.size, 0, none⟩, rfl, rfl, by omega, ?_, (Below.refl _ _).alloc (Nat.le_refl _) _⟩
    exact Own.of_row (l := [0, 1]) (Nat.le_refl _) (by show 2 ≤ _; omega) (Holds.fresh w _ _)
  case round =>
    obtain ⟨k, m, c0, A0, rfl, hm, hk, hown, hbel⟩ := hrel
    obtain ⟨W, hW⟩ : ∃ W, W = wr := ⟨_, rfl⟩
    subst hW
    obtain ⟨L, hL⟩ : ∃ L, Hid (L = [0, 1] ++ List.replicate k 255) := ⟨_, Lib.hid rfl⟩
    rw [← hL.out] at hown
    have hblk : Hid (∀ g, blockOf A0 = some g → w.heap.size ≤ g ∧ g < W.heap.size) := Lib.hid (fun g e => hown.block e)
    have HN : Hid (L.length = m) := Lib.hid (by rw [hL.out]; simp; omega)
    have hsz := hbel.size
    have hm2 : m ≤ 1024 := by omega
    have hw1 : IntKind.i64.wrap ((n : Int) - 52) = (n : Int) - 52 := IntWalk.i64_in _ (by omega)
    have HM := Lib.hid hm
    have HO : Hid (∀ cs, Own .u8 5 (W.alloc (.cells cs 5)) w.heap.size A0 c0 L) := Lib.hid (fun cs => hown.alloc (.cells cs 5))
    have hrowH : Hid (∀ cs, Holds (W.alloc (.cells cs 5)) W.heap.size 5 cs) := Lib.hid (fun cs => Holds.fresh W 5 cs)
    by_cases hkn : k < n - 54
    case neg =>
      have t1 : decide ((m : Int) < (n : Int) - 52) = false := decide_eq_false (by omega)
      have hkn' : Hid (k = n - 54) := Lib.hid (by omega)
      clear hown hm hkn hk
      go_wp2_with (with_reducible (refine wpList_push _ rfl (.tmp 27) (.tmp 28) 29 rfl .u8 w.heap.size 5 1 Try.underlying29 info_u8 A0 m c0 L rfl HN.out (HO.out _) W.heap.size 20 20 headL rfl rfl (hrowH.out _) (by omega) (by omega) (by omega) (by simp; omega) ?hk))
      intro g1 c1 w1 hown1 hgr1 hat1
      have hb1 : Below w.heap.size w w1 := (hbel.alloc hbel.size _).trans (grown_below hgr1 (fun g e => (hblk.out g e).1) (by simp; omega))
      have hr1 := HR.out.under (hb1.mono hB)
      have hl1 : (L ++ headL).length = m + 20 := by rw [List.length_append, HN.out]; rfl
      have HO1 := Lib.hid hown1
      have HR1 := Lib.hid hr1
      have HN1 := Lib.hid hl1
      have hs1 := hb1.size
      have hblk1 : Hid (∀ g, blockOf (some (⟨g1, 0, none⟩ : Addr)) = some g → w.heap.size ≤ g ∧ g < w1.heap.size) := Lib.hid (fun g e => hown1.block e)
      clear hown1 hgr1 hat1 HO hrowH hr1 hl1
      go_wp2_with (with_reducible (refine wpList_join _ rfl (.tmp 30) (.tmp 31) 29 rfl .u8 w.heap.size 5 1 Try.underlying29 info_u8 (some ⟨g1, 0, none⟩) (m + 20) c1 (L ++ headL) rfl HN1.out HO1.out A B 32 c l rfl HL.out HR1.out (by omega) (by omega) (by omega) (by omega) ?hj))
      intro g2 c2 w2 hown2 hgr2 hat2
      have hb2 : Below w.heap.size w w2 := hb1.trans (grown_below hgr2 (fun g e => (hblk1.out g e).1) hs1)
      have HR2 := Lib.hid hown2.rd
      clear hown2 hgr2 hat2
      go_wp2_with fail
      go_ret2
      refine ⟨some ⟨g2, 0, none⟩, c2, ?_, ?_, hb2⟩
      · have e : m + 20 + 32 = n := by have := HM.out; have := hkn'.out; omega
        rw [e]
        rfl
      · have := HR2.out
        rw [hL.out, hkn'.out] at this
        exact this
    case pos =>
      have t1 : decide ((m : Int) < (n : Int) - 52) = true := decide_eq_true (by omega)
      have hk1 : Hid (k + 1 ≤ n - 54) := Lib.hid (by omega)
      have HH : Hid (Holds (W.alloc (.cells #[.int .u8 255] 5)) W.heap.size 5 (nums .u8 [255])) := Lib.hid (Holds.fresh W _ _)
      clear hown hm hkn hk
      go_wp2_with (with_reducible (refine wpList_push _ rfl (.tmp 24) (.tmp 25) 29 rfl .u8 w.heap.size 5 1 Try.underlying29 info_u8 A0 m c0 L rfl HN.out (HO.out _) W.heap.size 1 1 [255] rfl rfl HH.out (by omega) (by omega) (by omega) (by simp; omega) ?hp))
      intro g' c' w1 hown1 hgr hat
      have hb1 : Below w.heap.size w w1 := (hbel.alloc hbel.size _).trans (grown_below hgr (fun g e => (hblk.out g e).1) (by simp; omega))
      have hl1 : L ++ [255] = [0, 1] ++ List.replicate (k + 1) 255 := by rw [hL.out, List.append_assoc, ← List.replicate_succ']
      rw [hl1] at hown1
      have HO1 := Lib.hid hown1
      clear hown1 hgr hat HO hrowH
      go_wp2_with fail
      go_roundw
      case rel => exact ⟨k + 1, m + 1, c', some ⟨g', 0, none⟩, rfl, by have := HM.out; omega, hk1.out, HO1.out, hb1⟩
      case measure =>
        have := HM.out
        have := hk1.out
        simp
        omega
end Go.Proofs.Ytebhpjbjfbadjaa
