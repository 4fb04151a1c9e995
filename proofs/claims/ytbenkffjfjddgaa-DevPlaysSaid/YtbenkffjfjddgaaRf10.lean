/-
  Whatever is done, both disks answer alike: what is read of the acts; the start.
-/
import Derived.Test.YtbenkffjfjddgaaRf9
namespace Go.Proofs.Ytbenkffjfjddgaa
open Go.RowKit
set_option linter.unusedVariables false
set_option linter.unusedSimpArgs false
attribute [local go_sem ↓] Go.wp_at_zero Go.wp_at_succ

/-- An act of the argument. -/
structure Ac where
  kind : Int
  at_ : Int
  ba : Option Addr
  bc : Nat
  b : List Nat
  ca : Int
  ka : Option Addr
  kc : Nat
  kl : List Bool
instance : Inhabited Ac := ⟨⟨0, 0, none, 0, [], 0, none, 0, []⟩⟩
def AcAt (w : World) (g o : Nat) (a : Ac) : Prop :=
  w.cell? ⟨g, o, none⟩ = some (.int .i64 a.kind) ∧ w.cell? ⟨g, o + 1, none⟩ = some (.int .i64 a.at_) ∧ w.cell? ⟨g, o + 2, none⟩ = some (.slice a.ba a.b.length a.bc) ∧ w.cell? ⟨g, o + 3, none⟩ = some (.int .i64 a.ca) ∧ w.cell? ⟨g, o + 4, none⟩ = some (.slice a.ka a.kl.length a.kc)
/-- The slice '.slice A l.length c' reads as these acts. -/
def RdA (w : World) (A : Option Addr) (c : Nat) (l : List Ac) : Prop :=
  l.length ≤ c ∧ c ≤ 9223372036854775807 ∧ (∀ j, j < l.length → Rd .u8 w w.heap.size (l.getD j default).ba (l.getD j default).bc (l.getD j default).b ∧ Truths w (l.getD j default).ka (l.getD j default).kc (l.getD j default).kl ∧ ∀ x ∈ (l.getD j default).b, x < 256) ∧
    (0 < l.length → ∃ b off, A = some ⟨b, off, none⟩ ∧ b < w.heap.size ∧ ∀ j, j < l.length → AcAt w b (off + j * 5) (l.getD j default))
theorem RdA.under {w w' : World} {A : Option Addr} {c : Nat} {l : List Ac} (h : RdA w A c l) (hb : Below w.heap.size w w') : RdA w' A c l :=
  ⟨h.1, h.2.1, fun j hj => ⟨((h.2.2.1 j hj).1.under hb).more hb.size, (h.2.2.1 j hj).2.1.under hb, (h.2.2.1 j hj).2.2⟩, fun hn => by
    obtain ⟨b, off, e, hlt, hc⟩ := h.2.2.2 hn
    refine ⟨b, off, e, Nat.lt_of_lt_of_le hlt hb.size, fun j hj => ?_⟩
    obtain ⟨h0, h1, h2, h3, h4⟩ := hc j hj
    exact ⟨(hb.cell (p := ⟨b, _, none⟩) hlt).trans h0, (hb.cell (p := ⟨b, _, none⟩) hlt).trans h1, (hb.cell (p := ⟨b, _, none⟩) hlt).trans h2, (hb.cell (p := ⟨b, _, none⟩) hlt).trans h3, (hb.cell (p := ⟨b, _, none⟩) hlt).trans h4⟩⟩

theorem two_new {w w1 w2 : World} {gd n : Nat} (hd : Disk w1 (fun k => w.heap.size ≤ k ∧ k < w1.heap.size) gd (fresh n)) (hb : Below w.heap.size w w1) (hp : NewPostR w1 n w2) : Two w2 w.heap.size gd (fresh n) w1.heap.size (fresh n) ∧ Below w.heap.size w w2 := by
  obtain ⟨⟨gS, cS, rs, hr, hF⟩, hb2⟩ := hp
  refine ⟨⟨Nat.le_trans hb.size hb2.size, fun k => w.heap.size ≤ k ∧ k < w1.heap.size, fun k => w1.heap.size ≤ k ∧ k < w2.heap.size, hd.keep (Only.of_below (F := fun _ => False) hb2) (fun _ _ e => e), ?_, fun k hk => ⟨hk.1, Nat.lt_of_lt_of_le hk.2 hb2.size⟩, fun k hk => ⟨Nat.le_trans hb.size hk.1, hk.2⟩, fun k h1 h2 => by omega⟩, hb.trans (hb2.mono hb.size)⟩
  exact ⟨sound_fresh n, gS, cS, none, 0, none, 0, 0, [], rs, [], hr, fun g hg => ⟨hF g hg, hr.lt hg⟩⟩
/-- Both disks, and block bx is none of theirs. -/
def TwoX (w : World) (B bx gd : Nat) (s1 : Dk) (gx : Nat) (s2 : Dk) : Prop :=
  bx < w.heap.size ∧ B ≤ w.heap.size ∧ ∃ F1 F2 : Nat → Prop, Disk w F1 gd s1 ∧ Ref w F2 gx s2 ∧ (∀ k, F1 k → B ≤ k ∧ k < w.heap.size ∧ k ≠ bx) ∧ (∀ k, F2 k → B ≤ k ∧ k < w.heap.size ∧ k ≠ bx) ∧ ∀ k, F1 k → ¬ F2 k
section
variable {w w' : World} {B bx gd gx : Nat} {s1 s2 s1' s2' : Dk}
theorem TwoX.to (h : TwoX w B bx gd s1 gx s2) : Two w B gd s1 gx s2 := by
  obtain ⟨hx, hB, F1, F2, d, r, l1, l2, hd⟩ := h
  exact ⟨hB, F1, F2, d, r, fun k hk => ⟨(l1 k hk).1, (l1 k hk).2.1⟩, fun k hk => ⟨(l2 k hk).1, (l2 k hk).2.1⟩, hd⟩
theorem TwoX.of (h : Two w B gd s1 gx s2) (hb : Below w.heap.size w w') (hw : w.heap.size ≤ bx) (hlt : bx < w'.heap.size) : TwoX w' B bx gd s1 gx s2 := by
  obtain ⟨hB, F1, F2, d, r, l1, l2, hd⟩ := h
  exact ⟨hlt, Nat.le_trans hB hb.size, F1, F2, d.keep (Only.of_below (F := fun _ => False) hb) (fun _ _ e => e), r.under hb, fun k hk => ⟨(l1 k hk).1, Nat.lt_of_lt_of_le (l1 k hk).2 hb.size, by have := (l1 k hk).2; omega⟩, fun k hk => ⟨(l2 k hk).1, Nat.lt_of_lt_of_le (l2 k hk).2 hb.size, by have := (l2 k hk).2; omega⟩, hd⟩
theorem TwoX.under (h : TwoX w B bx gd s1 gx s2) (hb : Below w.heap.size w w') : TwoX w' B bx gd s1 gx s2 := by
  obtain ⟨hx, hB, F1, F2, d, r, l1, l2, hd⟩ := h
  exact ⟨Nat.lt_of_lt_of_le hx hb.size, Nat.le_trans hB hb.size, F1, F2, d.keep (Only.of_below (F := fun _ => False) hb) (fun _ _ e => e), r.under hb, fun k hk => ⟨(l1 k hk).1, Nat.lt_of_lt_of_le (l1 k hk).2.1 hb.size, (l1 k hk).2.2⟩, fun k hk => ⟨(l2 k hk).1, Nat.lt_of_lt_of_le (l2 k hk).2.1 hb.size, (l2 k hk).2.2⟩, hd⟩
theorem TwoX.left {P : Program} {f : FuncId} {args : Array Value} {v : Value} (h : TwoX w B bx gd s1 gx s2) (hc : ∀ F1 : Nat → Prop, Disk w F1 gd s1 → Calls P f args w fun e w' => e = .returned v ∧ Disk w' (grow F1 w w') gd s1' ∧ Only F1 w w') :
    Calls P f args w fun e w' => e = .returned v ∧ TwoX w' B bx gd s1' gx s2 ∧ Below B w w' ∧ w'.heap[bx]? = w.heap[bx]? := by
  obtain ⟨hx, hB, F1, F2, d, r, l1, l2, hd⟩ := h
  refine (hc F1 d).mono ?_
  rintro e w' ⟨rfl, d', ho⟩
  refine ⟨rfl, ⟨Nat.lt_of_lt_of_le hx ho.size, Nat.le_trans hB ho.size, _, F2, d', r.keep ho fun k a b => hd k b a, fun k hk => ?_, fun k hk => ⟨(l2 k hk).1, Nat.lt_of_lt_of_le (l2 k hk).2.1 ho.size, (l2 k hk).2.2⟩, fun k hk hk2 => ?_⟩, ho.below (fun k hk => (l1 k hk).1) hB, ho.block bx hx fun e => (l1 bx e).2.2 rfl⟩
  · rcases hk with hk | hk
    · exact ⟨(l1 k hk).1, Nat.lt_of_lt_of_le (l1 k hk).2.1 ho.size, (l1 k hk).2.2⟩
    · exact ⟨Nat.le_trans hB hk.1, hk.2, by omega⟩
  · rcases hk with hk | hk
    · exact hd k hk hk2
    · have := (l2 k hk2).2.1; omega
theorem TwoX.right {P : Program} {f : FuncId} {args : Array Value} {v : Value} (h : TwoX w B bx gd s1 gx s2) (hc : ∀ F2 : Nat → Prop, Ref w F2 gx s2 → Calls P f args w fun e w' => e = .returned v ∧ Ref w' (grow F2 w w') gx s2' ∧ Only F2 w w') :
    Calls P f args w fun e w' => e = .returned v ∧ TwoX w' B bx gd s1 gx s2' ∧ Below B w w' ∧ w'.heap[bx]? = w.heap[bx]? := by
  obtain ⟨hx, hB, F1, F2, d, r, l1, l2, hd⟩ := h
  refine (hc F2 r).mono ?_
  rintro e w' ⟨rfl, r', ho⟩
  refine ⟨rfl, ⟨Nat.lt_of_lt_of_le hx ho.size, Nat.le_trans hB ho.size, F1, _, d.keep ho fun k a b => hd k a b, r', fun k hk => ⟨(l1 k hk).1, Nat.lt_of_lt_of_le (l1 k hk).2.1 ho.size, (l1 k hk).2.2⟩, fun k hk => ?_, fun k hk hk2 => ?_⟩, ho.below (fun k hk => (l2 k hk).1) hB, ho.block bx hx fun e => (l2 bx e).2.2 rfl⟩
  · rcases hk with hk | hk
    · exact ⟨(l2 k hk).1, Nat.lt_of_lt_of_le (l2 k hk).2.1 ho.size, (l2 k hk).2.2⟩
    · exact ⟨Nat.le_trans hB hk.1, hk.2, by omega⟩
  · rcases hk2 with hk2 | hk2
    · exact hd k hk hk2
    · have := (l1 k hk).2.1; omega
end
theorem two_write1 {w : World} {B bx gd gx : Nat} {s1 s2 : Dk} (h : TwoX w B bx gd s1 gx s2) (i : Int) (A2 : Option Addr) (n2 c2 : Nat) (x : List Nat) (hn : x.length = n2) (hr : Rd .u8 w w.heap.size A2 c2 x) (hwl : s1.waits.length ≤ 100000) (hops : s1.ops ≤ 1000000000) :
    Calls Try.prog 12 #[.pointer (some ⟨gd, 0, none⟩), .int .i64 i, .slice A2 n2 c2] w fun e w' => e = .returned (.int .i64 ((s1.write i x).2 : Nat)) ∧ TwoX w' B bx gd (s1.write i x).1 gx s2 ∧ Below B w w' ∧ w'.heap[bx]? = w.heap[bx]? :=
  h.left fun F1 d => disk_write d i A2 n2 c2 x hn hr hwl hops
theorem two_write2 {w : World} {B bx gd gx : Nat} {s1 s2 : Dk} (h : TwoX w B bx gd s1 gx s2) (i : Int) (A2 : Option Addr) (n2 c2 : Nat) (x : List Nat) (hn : x.length = n2) (hr : Rd .u8 w w.heap.size A2 c2 x) (hA2 : 0 < n2 → ∀ g, blockOf A2 = some g → g ≠ gx) (hwl : s2.waits.length ≤ 100000) (hops : s2.ops ≤ 1000000000) :
    Calls Try.prog 13 #[.pointer (some ⟨gx, 0, none⟩), .int .i64 i, .slice A2 n2 c2] w fun e w' => e = .returned (.int .i64 ((s2.write i x).2 : Nat)) ∧ TwoX w' B bx gd s1 gx (s2.write i x).1 ∧ Below B w w' ∧ w'.heap[bx]? = w.heap[bx]? :=
  h.right fun F2 r => ref_write r i A2 n2 c2 x hn hr hA2 hwl hops
theorem two_flush1 {w : World} {B bx gd gx : Nat} {s1 s2 : Dk} (h : TwoX w B bx gd s1 gx s2) (hwl : s1.waits.length ≤ 100000) (hops : s1.ops ≤ 1000000000) :
    Calls Try.prog 14 #[.pointer (some ⟨gd, 0, none⟩)] w fun e w' => e = .returned (.int .i64 (s1.flush.2 : Nat)) ∧ TwoX w' B bx gd s1.flush.1 gx s2 ∧ Below B w w' ∧ w'.heap[bx]? = w.heap[bx]? :=
  h.left fun F1 d => disk_flush d hwl hops
theorem two_flush2 {w : World} {B bx gd gx : Nat} {s1 s2 : Dk} (h : TwoX w B bx gd s1 gx s2) (hwl : s2.waits.length ≤ 100000) (hops : s2.ops ≤ 1000000000) :
    Calls Try.prog 15 #[.pointer (some ⟨gx, 0, none⟩)] w fun e w' => e = .returned (.int .i64 (s2.flush.2 : Nat)) ∧ TwoX w' B bx gd s1 gx s2.flush.1 ∧ Below B w w' ∧ w'.heap[bx]? = w.heap[bx]? :=
  h.right fun F2 r => ref_flush r hwl hops
theorem two_restart1 {w : World} {B bx gd gx : Nat} {s1 s2 : Dk} (h : TwoX w B bx gd s1 gx s2) (hwl : s1.waits.length ≤ 100000) :
    Calls Try.prog 18 #[.pointer (some ⟨gd, 0, none⟩)] w fun e w' => e = .returned (.tuple #[]) ∧ TwoX w' B bx gd s1.restart gx s2 ∧ Below B w w' ∧ w'.heap[bx]? = w.heap[bx]? :=
  h.left fun F1 d => disk_restart d hwl
theorem two_restart2 {w : World} {B bx gd gx : Nat} {s1 s2 : Dk} (h : TwoX w B bx gd s1 gx s2) :
    Calls Try.prog 19 #[.pointer (some ⟨gx, 0, none⟩)] w fun e w' => e = .returned (.tuple #[]) ∧ TwoX w' B bx gd s1 gx s2.restart ∧ Below B w w' ∧ w'.heap[bx]? = w.heap[bx]? :=
  h.right fun F2 r => ref_restart r
theorem two_arm1 {w : World} {B bx gd gx : Nat} {s1 s2 : Dk} (h : TwoX w B bx gd s1 gx s2) (a : Int) (K2 : Option Addr) (c2 n2 : Nat) (l : List Bool) (hn : l.length = n2) (hr : Truths w K2 c2 l) (hsz : n2 ≤ 1000) (hne : l ≠ [] → ∀ g, blockOf K2 = some g → g ≠ gd) :
    Calls Try.prog 16 #[.pointer (some ⟨gd, 0, none⟩), .agg #[.int .i64 a, .slice K2 n2 c2]] w fun e w' => e = .returned (.tuple #[]) ∧ TwoX w' B bx gd (s1.arm a l) gx s2 ∧ Below B w w' ∧ w'.heap[bx]? = w.heap[bx]? :=
  h.left fun F1 d => disk_arm d a K2 c2 n2 l hn hr (by omega) hne
theorem two_arm2 {w : World} {B bx gd gx : Nat} {s1 s2 : Dk} (h : TwoX w B bx gd s1 gx s2) (a : Int) (K2 : Option Addr) (c2 n2 : Nat) (l : List Bool) (hn : l.length = n2) (hr : Truths w K2 c2 l) (hsz : n2 ≤ 1000) :
    Calls Try.prog 17 #[.pointer (some ⟨gx, 0, none⟩), .agg #[.int .i64 a, .slice K2 n2 c2]] w fun e w' => e = .returned (.tuple #[]) ∧ TwoX w' B bx gd s1 gx (s2.arm a l) ∧ Below B w w' ∧ w'.heap[bx]? = w.heap[bx]? :=
  h.right fun F2 r => ref_arm r a K2 c2 n2 l hn hr hsz
theorem write_le (s : Dk) (i : Int) (x : List Nat) : (s.write i x).1.waits.length ≤ s.waits.length + 1 ∧ (s.write i x).1.ops ≤ s.ops + 1 := by
  unfold Dk.write
  split
  · exact ⟨Nat.le_succ _, Nat.le_succ _⟩
  · split
    · split
      · exact ⟨Nat.zero_le _, Nat.le_succ _⟩
      · refine ⟨?_, Nat.le_refl _⟩
        show (s.waits ++ _).length ≤ _
        simp
    · exact ⟨Nat.le_succ _, Nat.le_succ _⟩
theorem flush_le (s : Dk) : s.flush.1.waits.length ≤ s.waits.length + 1 ∧ s.flush.1.ops ≤ s.ops + 1 := by
  unfold Dk.flush
  split
  · exact ⟨Nat.le_succ _, Nat.le_succ _⟩
  · split
    · exact ⟨Nat.zero_le _, Nat.le_succ _⟩
    · exact ⟨Nat.zero_le _, Nat.le_refl _⟩
/-- Between two acts. -/
structure PlSt (w : World) (gd gx k : Nat) (s : Dk) (wr : World) : Prop where
  two : Two wr w.heap.size gd s gx s
  oct : s.Oct
  wl : s.waits.length ≤ k
  ol : s.ops ≤ k
  bel : Below w.heap.size w wr
def RelP (w : World) (gd gx m : Nat) (i : Value) (wr : World) : Prop :=
  ∃ (k : Nat) (s : Dk), k ≤ m ∧ i = .int .i64 k ∧ PlSt w gd gx k s wr

set_option maxRecDepth 100000 in
set_option maxHeartbeats 2000000 in
theorem plays_no (w : World) (n : Int) (A : Option Addr) (c m : Nat) (h : 50 < n ∨ 80 < m ∨ n < 1) :
    Calls Try.prog 3 #[.int .i64 n, .slice A m c] w fun e w' => e = .returned (.bool true) ∧ Below w.heap.size w w' := by
  by_cases h1 : 50 < n
  · have d1 : decide (50 < n) = true := decide_eq_true h1
    clear h
    go_enter Try.func3, Try.ntmps3
    go_wp2_with fail
    go_ret
    exact ⟨rfl, Below.refl _ _⟩
  have d1 : decide (50 < n) = false := decide_eq_false h1
  by_cases h2 : 80 < m
  · have d2 : decide ((80 : Int) < (m : Int)) = true := decide_eq_true (by omega)
    clear h
    go_enter Try.func3, Try.ntmps3
    go_wp2_with fail
    go_ret
    exact ⟨rfl, Below.refl _ _⟩
  have d2 : decide ((80 : Int) < (m : Int)) = false := decide_eq_false (by omega)
  have h3 : n < 1 := by omega
  clear h
  have HN := Lib.hid (new_no w n (.inl h3))
  have HR := Lib.hid (rnew_no w n (.inl h3))
  go_enter Try.func3, Try.ntmps3
  go_wp2_with (first | (refine HN.out.mono ?_; rintro e w6 ⟨rfl, rfl⟩) | (refine HR.out.mono ?_; rintro e w6 ⟨rfl, rfl⟩) | fail)
  refine (known_any _).mono ?_
  rintro e w2 ⟨rfl, hb⟩
  have HB := Lib.hid hb
  clear hb
  go_wp2_with fail
  go_ret
  exact ⟨rfl, HB.out⟩
end Go.Proofs.Ytbenkffjfjddgaa
