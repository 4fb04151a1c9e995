/-
  A thing, read: by the program.
-/
import Derived.Test.YtdjklhglkmacbaaDoorTlv17
import Derived.Handy
namespace Go.Proofs.YtdjklhglkmacbaaDoor
open Go.RowKit
set_option linter.unusedVariables false
set_option linter.unusedSimpArgs false

def noNode : Value := .agg #[.int .u8 0, .slice none 0 0, .slice none 0 0]
def ThingPost (w : World) (B Br : Nat) (L : List Nat) (n : Nat) : Except Nat (Tr × Nat × Nat) → Ending → World → Prop
  | .error x, e, w' => e = .returned (.tuple #[noNode, .int .i64 (x : Int)]) ∧ w.grownBy w' (some Br)
  | .ok (t, m, c2), e, w' => ∃ lt A' c', e = .returned (.tuple #[lt.val, .int .i64 0]) ∧ lt.t = t ∧ TrIn w' w.heap.size w'.heap.size lt ∧ w.grownBy w' (some Br) ∧ Holds w' Br 86 #[.slice A' (n - m) c', .int .i64 (c2 : Int)] ∧ Rd .u8 w' B A' c' (L.drop m)
theorem rd_err : ∀ (N : Nat), (∀ M d c x, M.length < N → rd M d c = .error x → x ≠ 0) ∧ (∀ M d c x, M.length < N → rds M d c = .error x → x ≠ 0)
  | 0 => ⟨fun M _ _ _ h => by omega, fun M _ _ _ h => by omega⟩
  | N + 1 => by
    obtain ⟨ih1, ih2⟩ := rd_err N
    have h1 : ∀ M d c x, M.length < N + 1 → rd M d c = .error x → x ≠ 0 := by
      intro M d c y hM h
      rcases M with _ | ⟨x, r⟩
      · rw [rd] at h; injection h with h; omega
      rw [rd] at h
      by_cases g1 : tagOk x = false
      · rw [if_pos g1] at h; injection h with h; omega
      rw [if_neg g1] at h
      by_cases g2 : 12 < d
      · rw [if_pos g2] at h; injection h with h; omega
      rw [if_neg g2] at h
      by_cases g3 : 600 ≤ c
      · rw [if_pos g3] at h; injection h with h; omega
      rw [if_neg g3] at h
      rcases g4 : lenOf r with _ | ⟨k, u⟩
      · rw [g4] at h; injection h with h; omega
      rw [g4] at h
      rw [List.length_cons] at hM
      dsimp only at h
      by_cases g5 : parted x = false
      · rw [if_pos g5] at h; cases h
      rw [if_neg g5] at h
      rcases g6 : rds ((r.drop u).take k) (d + 1) (c + 1) with e | ⟨l, c''⟩
      · rw [g6] at h
        injection h with h
        subst h
        exact ih2 _ _ _ _ (by simp; omega) g6
      rw [g6] at h; cases h
    refine ⟨h1, ?_⟩
    intro M d c y hM h
    rcases M with _ | ⟨x, r⟩
    · rw [rds] at h; cases h
    rw [rds] at h
    rcases g1 : rd (x :: r) d c with e | ⟨t, n, c2⟩
    · rw [g1] at h
      injection h with h
      subst h
      exact h1 _ _ _ _ hM g1
    rw [g1] at h
    dsimp only at h
    rcases g2 : rds (r.drop (n - 1)) d c2 with e | ⟨l2, c3⟩
    · rw [g2] at h
      injection h with h
      subst h
      exact ih2 _ _ _ _ (by rw [List.length_cons] at hM; simp; omega) g2
    rw [g2] at h; cases h
theorem ret_cell {R : Ending → World → Prop} {tmps : Array Value} {w : World} {g : Nat} {t : TypeId} {cs : Array Value} {v : Value} {fn : Func} {p u : Tmp}
    (hr : fn.results = #[.cell p 31, .tmp u]) (hp : tmps.getD p undef = .pointer (some ⟨g, 0, none⟩)) (hu : tmps.getD u undef = v) (hg : Holds w g t cs) (hcs : cs.size = 3) (hR : R (.returned (.tuple #[.agg cs, v])) w) :
    bodyPost Tryd.prog fn R .ret { tmps := tmps, defers := [] } w := by
  have hi : (Tryd.prog.info? 31).map (·.size) = some cs.size := by rw [hcs]; kernel_rfl
  refine bodyPost_ret (v := .tuple #[.agg cs, v]) ?_ rfl hR
  rw [results_cell_tmp hr]
  have hp' : tmps[p]?.getD undef = .pointer (some ⟨g, 0, none⟩) := by simpa using hp
  have hu' : tmps[u]?.getD undef = v := by simpa using hu
  simp [hp', hu', asAddr, run_loadVar_row w g t _ cs (0, 0) _ hg Tryd.underlying31 rfl hi, Result.andThen]
theorem below_br {w w' : World} {B Br : Nat} (h : w.grownBy w' (some Br)) (hB : B ≤ Br) (hs : B ≤ w.heap.size) : Below B w w' :=
  ⟨h.os, h.tape, h.output, h.size, fun g hg => h.block g (by omega) (fun e => by injection e with e; omega)⟩
theorem grown_new {w V : World} {r : Option Nat} {p : Addr} (h : w.grownBy V r) (hp : w.heap.size ≤ p.block) (u : Value) : w.grownBy (V.setCell p u) r :=
  ⟨h.os, h.tape, h.output, by show w.heap.size ≤ (V.heap.modify _ _).size; rw [Array.size_modify]; exact h.size, fun g hg hne => by
    rw [Below.heap_setCell V p u g (by omega)]; exact h.block g hg hne⟩
def thingOf (x m : Nat) : Except Nat (List Tr × Nat) → Except Nat (Tr × Nat × Nat)
  | .error e => .error e
  | .ok (l, c) => .ok (.mk x [] l, m, c)
def preT (ts : List Tr) : Except Nat (List Tr × Nat) → Except Nat (List Tr × Nat)
  | .error e => .error e
  | .ok (l, c) => .ok (ts ++ l, c)
theorem preT_nil (r : Except Nat (List Tr × Nat)) : preT [] r = r := by rcases r with e | ⟨l, c⟩ <;> rfl
theorem preT_preT (a b : List Tr) (r : Except Nat (List Tr × Nat)) : preT a (preT b r) = preT (a ++ b) r := by
  rcases r with e | ⟨l, c⟩
  · rfl
  · simp [preT]
theorem rds_err {M : List Nat} {d c y : Nat} (hM : 0 < M.length) (h : rd M d c = .error y) : rds M d c = .error y := by
  rcases M with _ | ⟨x, r⟩
  · simp at hM
  · rw [rds, h]
theorem rds_ok {M : List Nat} {d c n c' : Nat} {t : Tr} (hM : 0 < M.length) (h : rd M d c = .ok (t, n, c')) : rds M d c = preT [t] (rds (M.drop n) d c') := by
  rcases M with _ | ⟨x, r⟩
  · simp at hM
  · have hn := ((rd_fits ((x :: r).length + 1)).1 _ _ _ _ _ _ (Nat.lt_succ_self _) h).1
    obtain ⟨m, rfl⟩ : ∃ m, n = m + 1 := ⟨n - 1, by omega⟩
    rw [rds, h]
    dsimp only
    rw [List.drop_succ_cons, Nat.add_sub_cancel]
    rcases rds (r.drop m) d c' with e | ⟨l, c2⟩ <;> rfl
theorem Apart.less {w : World} {lo lo' : Nat} {A : Option Addr} {l : List Lt} (h : Apart w lo A l) (hlo : lo' ≤ lo) : Apart w lo' A l := fun t ht => by
  obtain ⟨a, b, h1, h2⟩ := h t ht
  exact ⟨a, b, by omega, h2⟩
def lenAt (Br : Nat) (w : World) : Nat := match w.cell? ⟨Br, 0, none⟩ with
  | some (.slice _ n _) => n
  | _ => 0
/-- Where a reading stands. -/
def St (w V : World) (B Br x : Nat) (A : Option Addr) (n c cnt : Nat) (L : List Nat) (bv kv : Value) : Prop :=
  Holds V Br 86 #[.slice A n c, .int .i64 (cnt : Int)] ∧ Holds V w.heap.size 31 #[.int .u8 0, .slice none 0 0, .slice none 0 0] ∧ Holds V (w.heap.size + 1) 31 #[.int .u8 (x : Int), bv, kv] ∧ w.grownBy V (some Br) ∧ Rd .u8 V B A c L ∧ L.length = n ∧ w.heap.size + 2 ≤ V.heap.size ∧ B ≤ Br ∧ Br < w.heap.size
section
variable {w V V' : World} {B Br x : Nat} {A : Option Addr} {n c cnt : Nat} {L : List Nat} {bv kv : Value}
theorem St.rest (h : St w V B Br x A n c cnt L bv kv) {k : Nat} (hk : k ≤ n) : St w (V.setCell ⟨Br, 0, none⟩ (.slice (dropA A k c) (n - k) (c - k))) B Br x (dropA A k c) (n - k) (c - k) cnt (L.drop k) bv kv := by
  obtain ⟨h1, h2, h3, h4, h5, h6, h7, h8, h9⟩ := h
  refine ⟨h1.stored 0 _, h2.aside (by show w.heap.size ≠ Br; omega) _, h3.aside (by show w.heap.size + 1 ≠ Br; omega) _, one_setCell h4 0 _, ?_, by rw [List.length_drop, h6], by show w.heap.size + 2 ≤ (V.heap.modify _ _).size; rw [Array.size_modify]; exact h7, h8, h9⟩
  exact (h5.under ((Below.refl _ _).setCell (p := ⟨Br, 0, none⟩) (by show B ≤ Br; omega) _)).drop k (by omega)
theorem St.bodyv (h : St w V B Br x A n c cnt L bv kv) (v : Value) : St w (V.setCell ⟨w.heap.size + 1, 1, none⟩ v) B Br x A n c cnt L v kv := by
  obtain ⟨h1, h2, h3, h4, h5, h6, h7, h8, h9⟩ := h
  exact ⟨h1.aside (by show Br ≠ w.heap.size + 1; omega) _, h2.aside (by show w.heap.size ≠ w.heap.size + 1; omega) _, h3.stored 1 _, grown_new h4 (by show w.heap.size ≤ w.heap.size + 1; omega) _, h5.under ((Below.refl _ _).setCell (p := ⟨w.heap.size + 1, 1, none⟩) (by show B ≤ w.heap.size + 1; omega) _), h6, by show w.heap.size + 2 ≤ (V.heap.modify _ _).size; rw [Array.size_modify]; exact h7, h8, h9⟩
theorem St.kidsv (h : St w V B Br x A n c cnt L bv kv) (v : Value) : St w (V.setCell ⟨w.heap.size + 1, 2, none⟩ v) B Br x A n c cnt L bv v := by
  obtain ⟨h1, h2, h3, h4, h5, h6, h7, h8, h9⟩ := h
  exact ⟨h1.aside (by show Br ≠ w.heap.size + 1; omega) _, h2.aside (by show w.heap.size ≠ w.heap.size + 1; omega) _, h3.stored 2 _, grown_new h4 (by show w.heap.size ≤ w.heap.size + 1; omega) _, h5.under ((Below.refl _ _).setCell (p := ⟨w.heap.size + 1, 2, none⟩) (by show B ≤ w.heap.size + 1; omega) _), h6, by show w.heap.size + 2 ≤ (V.heap.modify _ _).size; rw [Array.size_modify]; exact h7, h8, h9⟩
theorem St.grown {row : Option Nat} (h : St w V B Br x A n c cnt L bv kv) (hb : V.grownBy V' row) (hr : ∀ g, row = some g → w.heap.size + 2 ≤ g) : St w V' B Br x A n c cnt L bv kv := by
  obtain ⟨h1, h2, h3, h4, h5, h6, h7, h8, h9⟩ := h
  have hne : ∀ g, g < w.heap.size + 2 → some g ≠ row := fun g hg e => by have := hr g e.symm; omega
  refine ⟨h1.grown hb (hne _ (by omega)), h2.grown hb (hne _ (by omega)), h3.grown hb (hne _ (by omega)), ?_, ?_, h6, Nat.le_trans h7 hb.size, h8, h9⟩
  · exact h4.andThen hb fun j hj => .inl (by have := hr j hj; omega)
  · exact h5.under ⟨hb.os, hb.tape, hb.output, hb.size, fun g hg => hb.block g (by omega) (hne _ (by omega))⟩
theorem St.out (h : St w V B Br x A n c cnt L bv kv) (v0 v1 v2 : Value) :
    Holds (((V.setCell ⟨w.heap.size, 0, none⟩ v0).setCell ⟨w.heap.size, 1, none⟩ v1).setCell ⟨w.heap.size, 2, none⟩ v2) w.heap.size 31 #[v0, v1, v2] ∧
    Holds (((V.setCell ⟨w.heap.size, 0, none⟩ v0).setCell ⟨w.heap.size, 1, none⟩ v1).setCell ⟨w.heap.size, 2, none⟩ v2) Br 86 #[.slice A n c, .int .i64 (cnt : Int)] ∧
    w.grownBy (((V.setCell ⟨w.heap.size, 0, none⟩ v0).setCell ⟨w.heap.size, 1, none⟩ v1).setCell ⟨w.heap.size, 2, none⟩ v2) (some Br) ∧
    Rd .u8 (((V.setCell ⟨w.heap.size, 0, none⟩ v0).setCell ⟨w.heap.size, 1, none⟩ v1).setCell ⟨w.heap.size, 2, none⟩ v2) B A c L ∧
    (((V.setCell ⟨w.heap.size, 0, none⟩ v0).setCell ⟨w.heap.size, 1, none⟩ v1).setCell ⟨w.heap.size, 2, none⟩ v2).heap.size = V.heap.size ∧
    ∀ g, g ≠ w.heap.size → (((V.setCell ⟨w.heap.size, 0, none⟩ v0).setCell ⟨w.heap.size, 1, none⟩ v1).setCell ⟨w.heap.size, 2, none⟩ v2).heap[g]? = V.heap[g]? := by
  obtain ⟨h1, h2, h3, h4, h5, h6, h7, h8, h9⟩ := h
  have ne : Br ≠ w.heap.size := by omega
  refine ⟨((h2.stored 0 v0).stored 1 v1).stored 2 v2, ((h1.aside (p := ⟨w.heap.size, 0, none⟩) ne _).aside (p := ⟨w.heap.size, 1, none⟩) ne _).aside (p := ⟨w.heap.size, 2, none⟩) ne _, grown_new (grown_new (grown_new h4 (Nat.le_refl _) _) (Nat.le_refl _) _) (Nat.le_refl _) _, ?_, ?_, fun g hg => ?_⟩
  · have hb : B ≤ w.heap.size := by omega
    exact h5.under ((((Below.refl _ _).setCell (p := ⟨w.heap.size, 0, none⟩) hb _).setCell (p := ⟨w.heap.size, 1, none⟩) hb _).setCell (p := ⟨w.heap.size, 2, none⟩) hb _)
  · simp [World.setCell]
  · rw [Below.heap_setCell _ ⟨w.heap.size, 2, none⟩ _ g hg, Below.heap_setCell _ ⟨w.heap.size, 1, none⟩ _ g hg, Below.heap_setCell _ ⟨w.heap.size, 0, none⟩ _ g hg]
/-- A call has turned the reader. -/
theorem St.turned {A2 : Option Addr} {n2 c2 k2 : Nat} {L2 : List Nat} (h : St w V B Br x A n c cnt L bv kv) (hb : V.grownBy V' (some Br)) (h1' : Holds V' Br 86 #[.slice A2 n2 c2, .int .i64 (k2 : Int)]) (h5' : Rd .u8 V' B A2 c2 L2) (h6' : L2.length = n2) : St w V' B Br x A2 n2 c2 k2 L2 bv kv := by
  obtain ⟨h1, h2, h3, h4, h5, h6, h7, h8, h9⟩ := h
  exact ⟨h1', h2.grown hb (fun e => by injection e with e; omega), h3.grown hb (fun e => by injection e with e; omega), h4.trans hb, h5', h6', Nat.le_trans h7 hb.size, h8, h9⟩
theorem below_grown {B : Nat} (h : Below B V V') (hB : V.heap.size ≤ B) : V.grownBy V' none := ⟨h.os, h.tape, h.output, h.size, fun g hg _ => h.block g (by omega)⟩
end
def RelT (w : World) (B Br x k e n5 d : Nat) (L5 : List Nat) (spec : Except Nat (List Tr × Nat)) (wr : World) : Prop :=
  ∃ (A : Option Addr) (n c cnt : Nat) (L : List Nat) (l : List Lt) (K : Option Addr) (kc ln : Nat), St w wr B Br x A n c cnt L (.slice none 0 0) (.slice K ln kc) ∧ l.length = ln ∧ e ≤ n ∧ n ≤ n5 ∧ n - e ≤ k ∧ cnt ≤ 600 ∧ ln ≤ n5 - n ∧ L = L5.drop (n5 - n) ∧
    OwnV 31 3 wr K kc ln (l.flatMap lcell) ∧ (∀ g, blockOf K = some g → w.heap.size + 2 ≤ g) ∧ Apart wr (w.heap.size + 2) K l ∧ spec = preT (l.map Lt.t) (rds (L.take (n - e)) (d + 1) cnt)
set_option maxRecDepth 100000 in
set_option maxHeartbeats 8000000 in
theorem thing_N : ∀ (N : Nat) (w : World) (B Br : Nat) (A : Option Addr) (c n left d cnt : Nat) (L : List Nat), left < N → Rd .u8 w B A c L → L.length = n → n ≤ 12000 → left ≤ n → (∀ x ∈ L, x < 256) → B ≤ Br → Holds w Br 86 #[.slice A n c, .int .i64 (cnt : Int)] → d ≤ 13 → cnt ≤ 600 →
    Calls Tryd.prog 58 #[.pointer (some ⟨Br, 0, none⟩), .int .i64 (left : Int), .int .i64 (d : Int)] w (ThingPost w B Br L n (rd (L.take left) d cnt)) := by
  intro N
  induction N with
  | zero => intro w B Br A c n left d cnt L h; omega
  | succ N ih =>
    intro w B Br A c n left d cnt L hN hR hn h12 hl ho hB hH hd hc
    have hlc : n ≤ c := by rw [← hn]; exact hR.1
    have hc63 := hR.2.1
    by_cases hl0 : left = 0
    case pos =>
      subst hl0
      rw [List.take_zero, rd]
      have HH := Lib.hid hH
      clear hR ho hn hH ih
      go_enter Tryd.func58, Tryd.ntmps58
      go_wp2_with fail
      exact ret_cell rfl rfl rfl (Holds.fresh _ _ _) rfl ⟨rfl, World.grownBy_alloc _ _ _⟩
    obtain ⟨b, off, rfl, hb, hcs⟩ := hR.2.2 (by omega)
    rcases L with _ | ⟨x, L⟩
    · rw [List.length_nil] at hn; omega
    obtain ⟨q, hq⟩ : ∃ q, left = q + 1 := ⟨left - 1, by omega⟩
    have hx : x < 256 := ho x (by simp)
    have e0 : w.cell? ⟨b, off, none⟩ = some (.int .u8 (x : Int)) := hcs 0 (by rw [List.length_cons]; omega)
    rw [show (x :: L).take left = x :: L.take q by rw [hq, List.take_succ_cons]]
    have hBs : Br < w.heap.size := hH.lt
    have f0 : (w.alloc (.cells #[.int .u8 0, .slice none 0 0, .slice none 0 0] 31)).cell? ⟨Br, 0, none⟩ = some (.slice (some ⟨b, off, none⟩) n c) := (hH.alloc _).cell 0
    have f1 : (w.alloc (.cells #[.int .u8 0, .slice none 0 0, .slice none 0 0] 31)).cell? ⟨Br, 1, none⟩ = some (.int .i64 (cnt : Int)) := (hH.alloc _).cell 1
    have f2 : (w.alloc (.cells #[.int .u8 0, .slice none 0 0, .slice none 0 0] 31)).cell? ⟨b, off, none⟩ = some (.int .u8 (x : Int)) := by rw [World.cell?_alloc_past _ b off (by omega)]; exact e0
    have f3 : (w.alloc (.cells #[.int .u8 0, .slice none 0 0, .slice none 0 0] 31)).frozen? ⟨Br, 1, none⟩ = false := (hH.alloc _).open_ 1
    have HT := Lib.hid (fun W => tagged_any W x hx)
    have HP := Lib.hid (fun W => constructed_any W x hx)
    have HH := Lib.hid hH
    have HR := Lib.hid hR
    have HO := Lib.hid ho
    have HN := Lib.hid hn
    have HIH := Lib.hid ih
    have HNN := Lib.hid hN
    have dq0 : decide ((left : Int) = 0) = false := decide_eq_false (by omega)
    have bq0 : ((left : Int) == 0) = false := by simp; omega
    have hq1 : (left : Int) - 1 = (q : Int) := by omega
    have HQ := Lib.hid hq
    have hs0 : ((w.setCell ⟨Br, 1, none⟩ (.int .i64 ((cnt : Int) + 1)))).heap.size = w.heap.size := by simp [World.setCell]
    have hb0 : Holds (w.setCell ⟨Br, 1, none⟩ (.int .i64 ((cnt : Int) + 1))) Br 86 #[.slice (some ⟨b, off, none⟩) n c, .int .i64 ((cnt : Int) + 1)] := hH.stored 1 _
    have hb2 : Holds ((w.setCell ⟨Br, 1, none⟩ (.int .i64 ((cnt : Int) + 1))).alloc (.cells #[.int .u8 0, .slice none 0 0, .slice none 0 0] 31)) Br 86 #[.slice (some ⟨b, off, none⟩) n c, .int .i64 ((cnt : Int) + 1)] := hb0.alloc _
    have hb3 : Holds (((w.setCell ⟨Br, 1, none⟩ (.int .i64 ((cnt : Int) + 1))).alloc (.cells #[.int .u8 0, .slice none 0 0, .slice none 0 0] 31)).alloc (.cells #[.int .u8 (x : Int), .slice none 0 0, .slice none 0 0] 31)) Br 86 #[.slice (some ⟨b, off, none⟩) n c, .int .i64 ((cnt : Int) + 1)] := hb2.alloc _
    have hz2 : Holds ((w.setCell ⟨Br, 1, none⟩ (.int .i64 ((cnt : Int) + 1))).alloc (.cells #[.int .u8 0, .slice none 0 0, .slice none 0 0] 31)) w.heap.size 31 #[.int .u8 0, .slice none 0 0, .slice none 0 0] := by have h := Holds.fresh (w.setCell ⟨Br, 1, none⟩ (.int .i64 ((cnt : Int) + 1))) 31 #[.int .u8 0, .slice none 0 0, .slice none 0 0]; rw [hs0] at h; exact h
    have hg0 : w.grownBy (w.setCell ⟨Br, 1, none⟩ (.int .i64 ((cnt : Int) + 1))) (some Br) := one_setCell (World.grownBy.refl w _) 1 _
    have hg2 : w.grownBy ((w.setCell ⟨Br, 1, none⟩ (.int .i64 ((cnt : Int) + 1))).alloc (.cells #[.int .u8 0, .slice none 0 0, .slice none 0 0] 31)) (some Br) := hg0.trans (World.grownBy_alloc _ _ _)
    have hg3 : w.grownBy (((w.setCell ⟨Br, 1, none⟩ (.int .i64 ((cnt : Int) + 1))).alloc (.cells #[.int .u8 0, .slice none 0 0, .slice none 0 0] 31)).alloc (.cells #[.int .u8 (x : Int), .slice none 0 0, .slice none 0 0] 31)) (some Br) := hg2.trans (World.grownBy_alloc _ _ _)
    have hbl3 : Below B w (((w.setCell ⟨Br, 1, none⟩ (.int .i64 ((cnt : Int) + 1))).alloc (.cells #[.int .u8 0, .slice none 0 0, .slice none 0 0] 31)).alloc (.cells #[.int .u8 (x : Int), .slice none 0 0, .slice none 0 0] 31)) := below_br hg3 hB (by omega)
    have g0 : (((w.setCell ⟨Br, 1, none⟩ (.int .i64 ((cnt : Int) + 1))).alloc (.cells #[.int .u8 0, .slice none 0 0, .slice none 0 0] 31))).cell? ⟨Br, 0, none⟩ = some (.slice (some ⟨b, off, none⟩) n c) := hb2.cell 0
    have g1 : (((w.setCell ⟨Br, 1, none⟩ (.int .i64 ((cnt : Int) + 1))).alloc (.cells #[.int .u8 0, .slice none 0 0, .slice none 0 0] 31))).cell? ⟨Br, 1, none⟩ = some (.int .i64 ((cnt : Int) + 1)) := hb2.cell 1
    have g2 : (((w.setCell ⟨Br, 1, none⟩ (.int .i64 ((cnt : Int) + 1))).alloc (.cells #[.int .u8 0, .slice none 0 0, .slice none 0 0] 31))).cell? ⟨b, off, none⟩ = some (.int .u8 (x : Int)) := by
      rw [(below_br hg2 hB (by omega)).cell (p := ⟨b, off, none⟩) hb]; exact e0
    have k0 : ((((w.setCell ⟨Br, 1, none⟩ (.int .i64 ((cnt : Int) + 1))).alloc (.cells #[.int .u8 0, .slice none 0 0, .slice none 0 0] 31)).alloc (.cells #[.int .u8 (x : Int), .slice none 0 0, .slice none 0 0] 31))).cell? ⟨Br, 0, none⟩ = some (.slice (some ⟨b, off, none⟩) n c) := hb3.cell 0
    have k1 : ((((w.setCell ⟨Br, 1, none⟩ (.int .i64 ((cnt : Int) + 1))).alloc (.cells #[.int .u8 0, .slice none 0 0, .slice none 0 0] 31)).alloc (.cells #[.int .u8 (x : Int), .slice none 0 0, .slice none 0 0] 31))).frozen? ⟨Br, 0, none⟩ = false := hb3.open_ 0
    obtain ⟨D, hD⟩ : ∃ D, D = dropA (some ⟨b, off, none⟩) 1 c := ⟨_, rfl⟩
    have hs : (Instr.sliceAt 28 (.slice (some ⟨b, off, none⟩) n c) (some (.int .i64 1)) none none).run Tryd.prog (((w.setCell ⟨Br, 1, none⟩ (.int .i64 ((cnt : Int) + 1))).alloc (.cells #[.int .u8 0, .slice none 0 0, .slice none 0 0] 31)).alloc (.cells #[.int .u8 (x : Int), .slice none 0 0, .slice none 0 0] 31)) = .ok (.slice D (n - 1) (c - 1)) (((w.setCell ⟨Br, 1, none⟩ (.int .i64 ((cnt : Int) + 1))).alloc (.cells #[.int .u8 0, .slice none 0 0, .slice none 0 0] 31)).alloc (.cells #[.int .u8 (x : Int), .slice none 0 0, .slice none 0 0] 31)) := by rw [hD]; exact run_drop _ _ n c 1 (by omega) hlc
    have hs9 : (((w.setCell ⟨Br, 1, none⟩ (.int .i64 ((cnt : Int) + 1))).setCell ⟨Br, 0, none⟩ (.slice D (n - 1) (c - 1)))).heap.size = w.heap.size := by simp [World.setCell]
    have hs8 : ((((w.setCell ⟨Br, 1, none⟩ (.int .i64 ((cnt : Int) + 1))).setCell ⟨Br, 0, none⟩ (.slice D (n - 1) (c - 1))).alloc (.cells #[.int .u8 0, .slice none 0 0, .slice none 0 0] 31))).heap.size = w.heap.size + 1 := by rw [← hs9]; simp
    have hb9 : Holds ((w.setCell ⟨Br, 1, none⟩ (.int .i64 ((cnt : Int) + 1))).setCell ⟨Br, 0, none⟩ (.slice D (n - 1) (c - 1))) Br 86 #[.slice D (n - 1) (c - 1), .int .i64 ((cnt : Int) + 1)] := hb0.stored 0 _
    have hb4 : Holds ((((w.setCell ⟨Br, 1, none⟩ (.int .i64 ((cnt : Int) + 1))).setCell ⟨Br, 0, none⟩ (.slice D (n - 1) (c - 1))).alloc (.cells #[.int .u8 0, .slice none 0 0, .slice none 0 0] 31)).alloc (.cells #[.int .u8 (x : Int), .slice none 0 0, .slice none 0 0] 31)) Br 86 #[.slice D (n - 1) (c - 1), .int .i64 ((cnt : Int) + 1)] := (hb9.alloc _).alloc _
    have hz8 : Holds (((w.setCell ⟨Br, 1, none⟩ (.int .i64 ((cnt : Int) + 1))).setCell ⟨Br, 0, none⟩ (.slice D (n - 1) (c - 1))).alloc (.cells #[.int .u8 0, .slice none 0 0, .slice none 0 0] 31)) w.heap.size 31 #[.int .u8 0, .slice none 0 0, .slice none 0 0] := by have h := Holds.fresh ((w.setCell ⟨Br, 1, none⟩ (.int .i64 ((cnt : Int) + 1))).setCell ⟨Br, 0, none⟩ (.slice D (n - 1) (c - 1))) 31 #[.int .u8 0, .slice none 0 0, .slice none 0 0]; rw [hs9] at h; exact h
    have hz4 : Holds ((((w.setCell ⟨Br, 1, none⟩ (.int .i64 ((cnt : Int) + 1))).setCell ⟨Br, 0, none⟩ (.slice D (n - 1) (c - 1))).alloc (.cells #[.int .u8 0, .slice none 0 0, .slice none 0 0] 31)).alloc (.cells #[.int .u8 (x : Int), .slice none 0 0, .slice none 0 0] 31)) w.heap.size 31 #[.int .u8 0, .slice none 0 0, .slice none 0 0] := hz8.alloc _
    have hn4 : Holds ((((w.setCell ⟨Br, 1, none⟩ (.int .i64 ((cnt : Int) + 1))).setCell ⟨Br, 0, none⟩ (.slice D (n - 1) (c - 1))).alloc (.cells #[.int .u8 0, .slice none 0 0, .slice none 0 0] 31)).alloc (.cells #[.int .u8 (x : Int), .slice none 0 0, .slice none 0 0] 31)) (w.heap.size + 1) 31 #[.int .u8 (x : Int), .slice none 0 0, .slice none 0 0] := by have h := Holds.fresh (((w.setCell ⟨Br, 1, none⟩ (.int .i64 ((cnt : Int) + 1))).setCell ⟨Br, 0, none⟩ (.slice D (n - 1) (c - 1))).alloc (.cells #[.int .u8 0, .slice none 0 0, .slice none 0 0] 31)) 31 #[.int .u8 (x : Int), .slice none 0 0, .slice none 0 0]; rw [hs8] at h; exact h
    have hg4 : w.grownBy ((((w.setCell ⟨Br, 1, none⟩ (.int .i64 ((cnt : Int) + 1))).setCell ⟨Br, 0, none⟩ (.slice D (n - 1) (c - 1))).alloc (.cells #[.int .u8 0, .slice none 0 0, .slice none 0 0] 31)).alloc (.cells #[.int .u8 (x : Int), .slice none 0 0, .slice none 0 0] 31)) (some Br) := ((one_setCell hg0 0 _).trans (World.grownBy_alloc _ _ _)).trans (World.grownBy_alloc _ _ _)
    have hR4 : Rd .u8 ((((w.setCell ⟨Br, 1, none⟩ (.int .i64 ((cnt : Int) + 1))).setCell ⟨Br, 0, none⟩ (.slice D (n - 1) (c - 1))).alloc (.cells #[.int .u8 0, .slice none 0 0, .slice none 0 0] 31)).alloc (.cells #[.int .u8 (x : Int), .slice none 0 0, .slice none 0 0] 31)) B D (c - 1) L := by
      have := (hR.under (below_br hg4 hB (by omega))).drop 1 (by simp)
      rw [← hD] at this
      exact this
    have hs4 : (((((w.setCell ⟨Br, 1, none⟩ (.int .i64 ((cnt : Int) + 1))).setCell ⟨Br, 0, none⟩ (.slice D (n - 1) (c - 1))).alloc (.cells #[.int .u8 0, .slice none 0 0, .slice none 0 0] 31)).alloc (.cells #[.int .u8 (x : Int), .slice none 0 0, .slice none 0 0] 31))).heap.size = w.heap.size + 2 := by
      show (((((w.setCell ⟨Br, 1, none⟩ (.int .i64 ((cnt : Int) + 1))).setCell ⟨Br, 0, none⟩ (.slice D (n - 1) (c - 1))).alloc (.cells #[.int .u8 0, .slice none 0 0, .slice none 0 0] 31))).heap.push _).size = _
      rw [Array.size_push, hs8]
    have HALL := Lib.hid (And.intro hb4 (And.intro hz4 (And.intro hn4 (And.intro hg4 (And.intro hR4 hs4)))))
    have HG2 := Lib.hid (And.intro hz2 hg2)
    have hD0 := hD
    clear hD0 hD hR4 hs4 hg4 hz4 hn4 hb4 hb9 hz8 hs8 hs9 hs0 hb0 hg0 hbl3 hg2 hg3 hz2 hb2 hb3 hq
    clear hR ho hn hH ih hcs hN
    rcases h1 : tagOk x with _ | _
    case false =>
      have HE : Hid (rd (x :: L.take q) d cnt = .error 2) := Lib.hid (by rw [rd, if_pos h1])
      go_enter Tryd.func58, Tryd.ntmps58
      go_wp2_with fail
      refine (HT.out _).mono ?_
      rintro e w2 ⟨rfl, rfl⟩
      rw [h1]
      go_wp2_with fail
      rw [HE.out]
      exact ret_cell rfl rfl rfl (Holds.fresh _ _ _) rfl ⟨rfl, World.grownBy_alloc _ _ _⟩
    by_cases h2 : 12 < d
    case pos =>
      have HE : Hid (rd (x :: L.take q) d cnt = .error 3) := Lib.hid (by rw [rd, if_neg (by rw [h1]; simp), if_pos h2])
      have d2 : decide ((12 : Int) < (d : Int)) = true := decide_eq_true (by omega)
      have d3 : decide (12 < d) = true := decide_eq_true (by omega)
      go_enter Tryd.func58, Tryd.ntmps58
      go_wp2_with fail
      refine (HT.out _).mono ?_
      rintro e w2 ⟨rfl, rfl⟩
      rw [h1]
      go_wp2_with fail
      rw [HE.out]
      exact ret_cell rfl rfl rfl (Holds.fresh _ _ _) rfl ⟨rfl, World.grownBy_alloc _ _ _⟩
    have d2 : decide ((12 : Int) < (d : Int)) = false := decide_eq_false (by omega)
    have d3 : decide (12 < d) = false := decide_eq_false (by omega)
    have hcw : IntKind.i64.wrap ((cnt : Int) + 1) = (cnt : Int) + 1 := IntWalk.i64_in _ (by omega)
    by_cases h3 : 600 ≤ cnt
    case pos =>
      have HE : Hid (rd (x :: L.take q) d cnt = .error 4) := Lib.hid (by rw [rd, if_neg (by rw [h1]; simp), if_neg h2, if_pos h3])
      have d4 : decide ((600 : Int) < (cnt : Int) + 1) = true := decide_eq_true (by omega)
      go_enter Tryd.func58, Tryd.ntmps58
      go_wp2_with fail
      refine (HT.out _).mono ?_
      rintro e w2 ⟨rfl, rfl⟩
      rw [h1]
      go_wp2_with fail
      rw [HE.out]
      exact ret_cell rfl rfl rfl HG2.out.1 rfl ⟨rfl, HG2.out.2⟩
    have d4 : decide ((600 : Int) < (cnt : Int) + 1) = false := decide_eq_false (by omega)
    have HL := Lib.hid (show (L.length = n - 1) by have := HN.out; rw [List.length_cons] at this; omega)
    go_enter Tryd.func58, Tryd.ntmps58
    go_wp2_with fail
    refine (HT.out _).mono ?_
    rintro e w2 ⟨rfl, rfl⟩
    rw [h1]
    go_wp2_with fail
    clear hcw g0 g1 g2 k0 k1 hs f0 f1 f2 f3 e0 dq0 bq0 hq1 d2 d3 d4
    refine (rlen_any _ Br B D (c - 1) (n - 1) q L HALL.out.2.2.2.2.1 HL.out (by omega) (by have := HQ.out; omega) (fun y hy => HO.out y (List.mem_cons_of_mem _ hy)) (HALL.out.1.cell 0) (HALL.out.1.open_ 0)).mono ?_
    have HS4 : Hid (St w ((((w.setCell ⟨Br, 1, none⟩ (.int .i64 ((cnt : Int) + 1))).setCell ⟨Br, 0, none⟩ (.slice D (n - 1) (c - 1))).alloc (.cells #[.int .u8 0, .slice none 0 0, .slice none 0 0] 31)).alloc (.cells #[.int .u8 (x : Int), .slice none 0 0, .slice none 0 0] 31)) B Br x D (n - 1) (c - 1) (cnt + 1) L (.slice none 0 0) (.slice none 0 0)) := Lib.hid ⟨HALL.out.1, HALL.out.2.1, HALL.out.2.2.1, HALL.out.2.2.2.1, HALL.out.2.2.2.2.1, HL.out, Nat.le_of_eq HALL.out.2.2.2.2.2.symm, hB, hBs⟩
    clear HALL HG2
    generalize ((((w.setCell ⟨Br, 1, none⟩ (.int .i64 ((cnt : Int) + 1))).setCell ⟨Br, 0, none⟩ (.slice D (n - 1) (c - 1))).alloc (.cells #[.int .u8 0, .slice none 0 0, .slice none 0 0] 31)).alloc (.cells #[.int .u8 (x : Int), .slice none 0 0, .slice none 0 0] 31)) = V4 at *
    intro e V5 hp
    rcases h4 : lenOf (L.take q) with _ | ⟨k, u⟩
    · rw [h4] at hp
      obtain ⟨rfl, rfl⟩ := hp
      have HE : Hid (rd (x :: L.take q) d cnt = .error 2) := Lib.hid (by rw [rd, if_neg (by rw [h1]; simp), if_neg h2, if_neg h3, h4])
      have z0 := HS4.out.2.1.cell 0
      have z1 := HS4.out.2.1.cell 1
      have z2 := HS4.out.2.1.cell 2
      have y0 := HS4.out.2.1.open_ 0
      have y1 := HS4.out.2.1.open_ 1
      have y2 := HS4.out.2.1.open_ 2
      clear h1 h2 h3 h4
      go_wp2_with fail
      rw [HE.out]
      exact ret_cell rfl rfl rfl (((HS4.out.2.1.stored 0 _).stored 1 _).stored 2 _) rfl ⟨rfl, grown_new (grown_new (grown_new HS4.out.2.2.2.1 (Nat.le_refl _) _) (Nat.le_refl _) _) (Nat.le_refl _) _⟩
    rw [h4] at hp
    have hf := lenOf_fits h4
    have hqn : q ≤ n - 1 := by have := HQ.out; omega
    rw [List.length_take, HL.out, Nat.min_eq_left hqn] at hf
    obtain ⟨rfl, hV5⟩ := hp
    have hS5 := HS4.out.rest (k := u) (by omega)
    rw [← hV5] at hS5
    have HS5 := Lib.hid hS5
    clear hS5 hV5 HS4
    generalize hD5 : dropA D u (c - 1) = D5 at *
    generalize hn5 : n - 1 - u = n5 at *
    generalize hc5 : c - 1 - u = c5 at *
    generalize hL5 : L.drop u = L5 at *
    have hkn5 : k ≤ n5 := by omega
    have hn5' : n5 ≤ 12000 := by omega
    have hln5 : n5 ≤ c5 := by omega
    have hO5 : ∀ y ∈ L5, y < 256 := fun y hy => HO.out y (List.mem_cons_of_mem _ (List.mem_of_mem_drop (by rw [hL5]; exact hy)))
    have HO5 := Lib.hid hO5
    have HW : Hid ((((L.take q).drop u).take k) = L5.take k) := Lib.hid (by rw [List.drop_take, List.take_take, Nat.min_eq_left (by omega), hL5])
    have b0 := HS5.out.1.cell 0
    have n0 := HS5.out.2.2.1.cell 0
    clear hO5 hD5
    rcases h5 : parted x with _ | _
    case false =>
      have HE : Hid (rd (x :: L.take q) d cnt = .ok (.mk x (L5.take k) [], 1 + u + k, cnt + 1)) := Lib.hid (by rw [rd, if_neg (by rw [h1]; simp), if_neg h2, if_neg h3, h4]; dsimp only; rw [if_pos h5, HW.out])
      obtain ⟨E, hE⟩ : ∃ E, E = dropA D5 0 c5 := ⟨_, rfl⟩
      have hs : (Instr.sliceAt 28 (.slice D5 n5 c5) none (some (.int .i64 (k : Int))) none).run Tryd.prog V5 = .ok (.slice E k c5) V5 := by rw [hE]; exact run_take _ _ n5 c5 k hkn5 hln5
      have HRE : Hid (Rd .u8 V5 B E c5 (L5.take k)) := Lib.hid (by rw [hE]; exact (dropA_zero HS5.out.2.2.2.2.1).cut k)
      have HLK : Hid ((L5.take k).length = k) := Lib.hid (by rw [List.length_take, HS5.out.2.2.2.2.2.1, Nat.min_eq_left hkn5])
      clear hE h1 h2 h3 h4
      go_wp2_with fail
      refine (HP.out _).mono ?_
      rintro e w2 ⟨rfl, rfl⟩
      rw [h5]
      go_wp2_with fail
      refine (clone_any _ B E c5 k (L5.take k) HRE.out HLK.out (by have := HS5.out.2.2.2.2.2.2; omega) (by omega)).mono ?_
      rintro e V6 ⟨A6, c6, rfl, hm6, hb6⟩
      have hS6 : St w V6 B Br x D5 n5 c5 (cnt + 1) L5 (.slice none 0 0) (.slice none 0 0) := HS5.out.grown (below_grown hb6 (Nat.le_refl _)) (fun g hg => by cases hg)
      have hS7 := hS6.bodyv (.slice A6 k c6)
      have f1 := hS6.2.2.1.open_ 1
      have m1 := hS6.2.2.1.cell 1
      have b7 : (V6.setCell ⟨w.heap.size + 1, 1, none⟩ (.slice A6 k c6)).cell? ⟨Br, 0, none⟩ = some (.slice D5 n5 c5) := hS7.1.cell 0
      have f7 : (V6.setCell ⟨w.heap.size + 1, 1, none⟩ (.slice A6 k c6)).frozen? ⟨Br, 0, none⟩ = false := hS7.1.open_ 0
      have hS8 := hS7.rest hkn5
      obtain ⟨F, hF⟩ : ∃ F, F = dropA D5 k c5 := ⟨_, rfl⟩
      rw [← hF] at hS8
      have hs7 : (Instr.sliceAt 28 (.slice D5 n5 c5) (some (.int .i64 (k : Int))) none none).run Tryd.prog (V6.setCell ⟨w.heap.size + 1, 1, none⟩ (.slice A6 k c6)) = .ok (.slice F (n5 - k) (c5 - k)) (V6.setCell ⟨w.heap.size + 1, 1, none⟩ (.slice A6 k c6)) := by rw [hF]; exact run_drop _ _ n5 c5 k hkn5 hln5
      have n80 : ((V6.setCell ⟨w.heap.size + 1, 1, none⟩ (.slice A6 k c6)).setCell ⟨Br, 0, none⟩ (.slice F (n5 - k) (c5 - k))).cell? ⟨w.heap.size + 1, 0, none⟩ = some (.int .u8 (x : Int)) := hS8.2.2.1.cell 0
      have n81 : ((V6.setCell ⟨w.heap.size + 1, 1, none⟩ (.slice A6 k c6)).setCell ⟨Br, 0, none⟩ (.slice F (n5 - k) (c5 - k))).cell? ⟨w.heap.size + 1, 1, none⟩ = some (.slice A6 k c6) := hS8.2.2.1.cell 1
      have n82 : ((V6.setCell ⟨w.heap.size + 1, 1, none⟩ (.slice A6 k c6)).setCell ⟨Br, 0, none⟩ (.slice F (n5 - k) (c5 - k))).cell? ⟨w.heap.size + 1, 2, none⟩ = some (.slice none 0 0) := hS8.2.2.1.cell 2
      have z80 : ((V6.setCell ⟨w.heap.size + 1, 1, none⟩ (.slice A6 k c6)).setCell ⟨Br, 0, none⟩ (.slice F (n5 - k) (c5 - k))).frozen? ⟨w.heap.size, 0, none⟩ = false := hS8.2.1.open_ 0
      have z81 : ((V6.setCell ⟨w.heap.size + 1, 1, none⟩ (.slice A6 k c6)).setCell ⟨Br, 0, none⟩ (.slice F (n5 - k) (c5 - k))).frozen? ⟨w.heap.size, 1, none⟩ = false := hS8.2.1.open_ 1
      have z82 : ((V6.setCell ⟨w.heap.size + 1, 1, none⟩ (.slice A6 k c6)).setCell ⟨Br, 0, none⟩ (.slice F (n5 - k) (c5 - k))).frozen? ⟨w.heap.size, 2, none⟩ = false := hS8.2.1.open_ 2
      have y80 : ((V6.setCell ⟨w.heap.size + 1, 1, none⟩ (.slice A6 k c6)).setCell ⟨Br, 0, none⟩ (.slice F (n5 - k) (c5 - k))).cell? ⟨w.heap.size, 0, none⟩ = some (.int .u8 0) := hS8.2.1.cell 0
      have y81 : ((V6.setCell ⟨w.heap.size + 1, 1, none⟩ (.slice A6 k c6)).setCell ⟨Br, 0, none⟩ (.slice F (n5 - k) (c5 - k))).cell? ⟨w.heap.size, 1, none⟩ = some (.slice none 0 0) := hS8.2.1.cell 1
      have y82 : ((V6.setCell ⟨w.heap.size + 1, 1, none⟩ (.slice A6 k c6)).setCell ⟨Br, 0, none⟩ (.slice F (n5 - k) (c5 - k))).cell? ⟨w.heap.size, 2, none⟩ = some (.slice none 0 0) := hS8.2.1.cell 2
      have HS8 := Lib.hid hS8
      have HM6 := Lib.hid hm6
      have HDF := Lib.hid hF
      have HVS : Hid (w.heap.size + 2 ≤ V5.heap.size) := Lib.hid HS5.out.2.2.2.2.2.2.1
      clear hS6 hS7 hS8 hm6 hb6 b0 n0 hs hF
      go_wp2_with fail
      rw [HE.out]
      obtain ⟨r1, r2, r3, r4, r5, r6⟩ := HS8.out.out (.int .u8 (x : Int)) (.slice A6 k c6) (.slice none 0 0)
      have hk8 : ∀ g, w.heap.size + 2 ≤ g → ((V6.setCell ⟨w.heap.size + 1, 1, none⟩ (.slice A6 k c6)).setCell ⟨Br, 0, none⟩ (.slice F (n5 - k) (c5 - k))).heap[g]? = V6.heap[g]? := fun g hg => by
        rw [Below.heap_setCell _ ⟨Br, 0, none⟩ _ g (by show g ≠ Br; omega), Below.heap_setCell _ ⟨w.heap.size + 1, 1, none⟩ _ g (by show g ≠ w.heap.size + 1; omega)]
      have hlo : w.heap.size ≤ ((V6.setCell ⟨w.heap.size + 1, 1, none⟩ (.slice A6 k c6)).setCell ⟨Br, 0, none⟩ (.slice F (n5 - k) (c5 - k))).heap.size := by have := HS8.out.2.2.2.2.2.2.1; omega
      have HS9 := HS8.out
      generalize ((V6.setCell ⟨w.heap.size + 1, 1, none⟩ (.slice A6 k c6)).setCell ⟨Br, 0, none⟩ (.slice F (n5 - k) (c5 - k))) = V8 at *
      refine ret_cell rfl rfl rfl r1 rfl ⟨.mk x A6 c6 (L5.take k) none 0 [], F, c5 - k, ?_, ?_, ?_, r3, ?_, ?_⟩
      · rw [Lt.val, Lt.cells]
        simp only [Lt.tag, Lt.ba, Lt.body, Lt.bc, Lt.ka, Lt.kids, Lt.kc, HLK.out]
        rfl
      · rw [Lt.t_mk]; rfl
      · have hM : Mine 5 V6 w.heap.size A6 c6 (L5.take k) := HM6.out.less (by have := HVS.out; omega)
        refine TrIn.of_body hx (by rw [r5]; exact hlo) (hM.keep fun g hg => ?_) (fun y hy => HO5.out y (List.mem_of_mem_take hy))
        have hg2 := (HM6.out.block hg).1
        have := HVS.out
        rw [r6 g (by omega), hk8 g (by omega)]
      · rw [show n - (1 + u + k) = n5 - k by omega]
        exact r2
      · rw [show (x :: L).drop (1 + u + k) = L5.drop k by rw [← hL5, List.drop_drop, show 1 + u + k = (u + k) + 1 by omega, List.drop_succ_cons]]
        exact r4
    have HE0 : Hid (rd (x :: L.take q) d cnt = thingOf x (1 + u + k) (rds (L5.take k) (d + 1) (cnt + 1))) := Lib.hid (by
      rw [rd, if_neg (by rw [h1]; simp), if_neg h2, if_neg h3, h4]
      dsimp only
      rw [if_neg (by rw [h5]; simp), HW.out]
      rcases rds (L5.take k) (d + 1) (cnt + 1) with e | ⟨l, c'⟩ <;> rfl)
    obtain ⟨e, he⟩ : ∃ e, e = n5 - k := ⟨_, rfl⟩
    have heI : (n5 : Int) - (k : Int) = (e : Int) := by omega
    obtain ⟨spec, hspec⟩ : ∃ spec, spec = rds (L5.take k) (d + 1) (cnt + 1) := ⟨_, rfl⟩
    rw [← hspec] at HE0
    have hR0 : RelT w B Br x k e n5 d L5 spec V5 := ⟨D5, n5, c5, cnt + 1, L5, [], none, 0, 0, HS5.out, rfl, by omega, Nat.le_refl _, by omega, by omega, Nat.zero_le _, by simp, OwnV.nil _ _ _, fun g hg => by simp [blockOf] at hg, Apart.nil _ _ _, by
      rw [hspec, List.map_nil, preT_nil, show n5 - e = k by omega]⟩
    have HR0 := Lib.hid hR0
    have HUK := Lib.hid (show u + k ≤ q ∧ n5 = n - 1 - u ∧ L5 = L.drop u ∧ e = n5 - k by exact ⟨hf.2, hn5.symm, hL5.symm, he⟩)
    have hd12 : d ≤ 12 := by omega
    have he12 : e ≤ 12000 := by omega
    have hkn5' : k ≤ n5 := hkn5
    have hn512 : n5 ≤ 12000 := hn5'
    clear hR0 hspec h1 h2 h3 h4 he hf hn5 hL5 HS5 HW hqn hkn5 hn5' hln5 hc5
    go_wp2_with fail
    refine (HP.out _).mono ?_
    rintro e2 w2 ⟨rfl, rfl⟩
    rw [h5]
    go_wp2_with fail
    go_loopw [] (fun wr => RelT w B Br x k e n5 d L5 spec wr) (fun wr => lenAt Br wr)
    case atStart => exact HR0.out
    case round =>
      obtain ⟨A', n', c', cnt', L', l, K, kc, ln, hst, hll, hen, hn5, hnk, hc6, hlb, hL', hown, hKlo, hap, hsp⟩ := hrel
      have hlc' : n' ≤ c' := by rw [← hst.2.2.2.2.2.1]; exact hst.2.2.2.2.1.1
      have b1 : wr.cell? ⟨Br, 0, none⟩ = some (.slice A' n' c') := hst.1.cell 0
      have hn12 : n' ≤ 12000 := by have := HUK.out.2.1; omega
      have hO' : ∀ y ∈ L', y < 256 := fun y hy => HO5.out y (List.mem_of_mem_drop (by rw [hL'] at hy; exact hy))
      have HST := Lib.hid hst
      by_cases hlt : e < n'
      case pos =>
        have dlt : decide ((e : Int) < (n' : Int)) = true := decide_eq_true (by omega)
        obtain ⟨m, hm⟩ : ∃ m, m = n' - e := ⟨_, rfl⟩
        have hmI : (n' : Int) - (e : Int) = (m : Int) := by omega
        rw [← hm] at hsp hnk
        have HK : Hid (Calls Tryd.prog 58 #[.pointer (some ⟨Br, 0, none⟩), .int .i64 (m : Int), .int .i64 ((d : Int) + 1)] wr (ThingPost wr B Br L' n' (rd (L'.take m) (d + 1) cnt'))) := Lib.hid (by
          have := HIH.out wr B Br A' c' n' m (d + 1) cnt' L' (by have := HUK.out.1; have := HQ.out; have := HNN.out; omega) hst.2.2.2.2.1 hst.2.2.2.2.2.1 hn12 (by omega) hO' hB hst.1 (by omega) hc6
          rw [Int.natCast_succ] at this
          exact this)
        have hwd : IntKind.i64.wrap ((d : Int) + 1) = (d : Int) + 1 := IntWalk.i64_in _ (by omega)
        have hLm : (L'.take m).length = m := by rw [List.length_take, hst.2.2.2.2.2.1]; omega
        have HREST := Lib.hid (And.intro hll (And.intro hn5 (And.intro hlb (And.intro hL' (And.intro hown (And.intro hKlo (And.intro hap (And.intro hsp (And.intro hLm hm)))))))))
        have hm0 : 0 < m := by omega
        clear hst hll hn5 hlb hL' hown hKlo hap hsp hO' hLm hm b0 n0
        go_wp2_with fail
        refine HK.out.mono ?_
        intro e2 w2 hp
        rcases h6 : rd (L'.take m) (d + 1) cnt' with y | ⟨t, mm, c2⟩
        · rw [h6] at hp
          obtain ⟨rfl, hgr⟩ := hp
          have hy0 := (rd_err (m + 1)).1 _ _ _ _ (by rw [HREST.out.2.2.2.2.2.2.2.2.1]; omega) h6
          have bne : ((y : Int) != 0) = true := by simp; omega
          have HE : Hid (rd (x :: L.take q) d cnt = .error y) := Lib.hid (by rw [HE0.out, HREST.out.2.2.2.2.2.2.2.1, rds_err (by rw [HREST.out.2.2.2.2.2.2.2.2.1]; omega) h6]; rfl)
          have hz2 : Holds w2 w.heap.size 31 #[.int .u8 0, .slice none 0 0, .slice none 0 0] := HST.out.2.1.grown hgr (fun e => by injection e with e; omega)
          have hg2 : w.grownBy w2 (some Br) := HST.out.2.2.2.1.trans hgr
          have hz3 : Holds (w2.alloc (.cells #[.int .u8 0, .slice none 0 0, .slice none 0 0] 31)) w.heap.size 31 #[.int .u8 0, .slice none 0 0, .slice none 0 0] := hz2.alloc _
          have hg3 : w.grownBy (w2.alloc (.cells #[.int .u8 0, .slice none 0 0, .slice none 0 0] 31)) (some Br) := hg2.trans (World.grownBy_alloc _ _ _)
          have z0 := hz3.cell 0
          have z1 := hz3.cell 1
          have z2 := hz3.cell 2
          have y0 := hz3.open_ 0
          have y1 := hz3.open_ 1
          have y2 := hz3.open_ 2
          have HZ3 := Lib.hid hz3
          have HG3 := Lib.hid hg3
          clear hz2 hg2 hz3 hg3 hgr
          simp only [noNode]
          go_wp2_with fail
          rw [HE.out]
          exact ret_cell rfl rfl rfl (((HZ3.out.stored 0 _).stored 1 _).stored 2 _) rfl ⟨rfl, grown_new (grown_new (grown_new HG3.out (Nat.le_refl _) _) (Nat.le_refl _) _) (Nat.le_refl _) _⟩
        · rw [h6] at hp
          obtain ⟨lt, A2, c9, rfl, hlt2, hin, hgr, hbr, hrd⟩ := hp
          have hfit := (rd_fits (m + 1)).1 _ _ _ _ _ _ (by rw [HREST.out.2.2.2.2.2.2.2.2.1]; omega) h6
          rw [HREST.out.2.2.2.2.2.2.2.2.1] at hfit
          have hst2 := HST.out.turned hgr hbr hrd (by rw [List.length_drop, HST.out.2.2.2.2.2.1])
          have hKlt : ∀ g, blockOf K = some g → g < wr.heap.size := fun g hg => HREST.out.2.2.2.2.1.lt hg
          have hap2 : Apart w2 (w.heap.size + 2) K (l ++ [lt]) := by
            have h := HREST.out.2.2.2.2.2.2.1.keep (w' := w2) (A' := K) hgr.size (fun g hg hlt _ => hgr.block g hlt (fun e => by injection e with e; omega)) (fun g hg => .inl hg)
            exact h.more HST.out.2.2.2.2.2.2.1 (Nat.le_refl _) hin (fun g hg => .inl (hKlt g hg))
          have hsp2 : spec = preT ((l ++ [lt]).map Lt.t) (rds ((L'.drop mm).take (n' - mm - e)) (d + 1) c2) := by
            rw [HREST.out.2.2.2.2.2.2.2.1, rds_ok (by rw [HREST.out.2.2.2.2.2.2.2.2.1]; omega) h6, preT_preT, List.map_append, List.map_cons, List.map_nil, hlt2, List.drop_take]
            have := HREST.out.2.2.2.2.2.2.2.2.2
            rw [show m - mm = n' - mm - e by omega]
          have hown2 : OwnV 31 3 w2 K kc ln (l.flatMap lcell) := HREST.out.2.2.2.2.1.keep fun g hg hlt => hgr.block g hlt (fun e => by injection e with e; have := HREST.out.2.2.2.2.2.1 g hg; omega)
          have hfm : (l ++ [lt]).flatMap lcell = l.flatMap lcell ++ lcell lt := by simp
          have HAP := Lib.hid hap2
          have HSP := Lib.hid hsp2
          have HFM := Lib.hid hfm
          have HLT : Hid (lt.val = .agg (lcell lt).toArray) := Lib.hid rfl
          rw [HLT.out]
          have HCL : Hid (lcell lt = [.int .u8 (lt.tag : Int), .slice lt.ba lt.body.length lt.bc, .slice lt.ka lt.kids.length lt.kc]) := Lib.hid rfl
          rw [HCL.out]
          generalize lt.tag = t0 at *
          generalize lt.ba = t1 at *
          generalize lt.body.length = t2 at *
          generalize lt.bc = t3 at *
          generalize lt.ka = t4 at *
          generalize lt.kids.length = t5 at *
          generalize lt.kc = t6 at *
          have hsA := hst2.grown (World.grownBy_alloc w2 (.cells #[.int .u8 (t0 : Int), .slice t1 t2 t3, .slice t4 t5 t6] 31) none) (fun g hg => by cases hg)
          have hoA : OwnV 31 3 (w2.alloc (.cells #[.int .u8 (t0 : Int), .slice t1 t2 t3, .slice t4 t5 t6] 31)) K kc ln (l.flatMap lcell) := hown2.keep fun g hg hlt => Below.heap_alloc w2 _ g hlt
          have hA : Holds (w2.alloc (.cells #[.int .u8 (t0 : Int), .slice t1 t2 t3, .slice t4 t5 t6] 31)) w2.heap.size 31 #[.int .u8 (t0 : Int), .slice t1 t2 t3, .slice t4 t5 t6] := Holds.fresh _ _ _
          have k0 := hsA.2.2.1.cell 2
          have a0 := hA.cell 0
          have a1 := hA.cell 1
          have a2 := hA.cell 2
          have hw2s : w.heap.size + 2 ≤ w2.heap.size := hst2.2.2.2.2.2.2.1
          have HALLOC : Hid (w2.grownBy (w2.alloc (.cells #[.int .u8 (t0 : Int), .slice t1 t2 t3, .slice t4 t5 t6] 31)) none) := Lib.hid (World.grownBy_alloc _ _ _)
          have HSA := Lib.hid hsA
          have HOA := Lib.hid hoA
          have hszA : (w2.alloc (.cells #[.int .u8 (t0 : Int), .slice t1 t2 t3, .slice t4 t5 t6] 31)).heap.size = w2.heap.size + 1 := by simp
          have hsB := hsA.grown (World.grownBy_alloc (w2.alloc (.cells #[.int .u8 (t0 : Int), .slice t1 t2 t3, .slice t4 t5 t6] 31)) (.cells #[.int .u8 (t0 : Int), .slice t1 t2 t3, .slice t4 t5 t6] 31) none) (fun g hg => by cases hg)
          have HSB := Lib.hid hsB
          have HOB : Hid (OwnV 31 3 ((w2.alloc (.cells #[.int .u8 (t0 : Int), .slice t1 t2 t3, .slice t4 t5 t6] 31)).alloc (.cells #[.int .u8 (t0 : Int), .slice t1 t2 t3, .slice t4 t5 t6] 31)) K kc ln (l.flatMap lcell)) := Lib.hid (hoA.keep fun g hg hlt => Below.heap_alloc _ _ g hlt)
          have HHB : Hid (Holds ((w2.alloc (.cells #[.int .u8 (t0 : Int), .slice t1 t2 t3, .slice t4 t5 t6] 31)).alloc (.cells #[.int .u8 (t0 : Int), .slice t1 t2 t3, .slice t4 t5 t6] 31)) (w2.heap.size + 1) 31 [Value.int .u8 (t0 : Int), .slice t1 t2 t3, .slice t4 t5 t6].toArray) := Lib.hid (by
            have h := Holds.fresh (w2.alloc (.cells #[.int .u8 (t0 : Int), .slice t1 t2 t3, .slice t4 t5 t6] 31)) 31 #[.int .u8 (t0 : Int), .slice t1 t2 t3, .slice t4 t5 t6]
            rw [hszA] at h
            exact h)
          have HF5 : Hid (∀ W, ((w2.alloc (.cells #[.int .u8 (t0 : Int), .slice t1 t2 t3, .slice t4 t5 t6] 31)).alloc (.cells #[.int .u8 (t0 : Int), .slice t1 t2 t3, .slice t4 t5 t6] 31)).grownBy W (blockOf K) → W.frozen? ⟨w.heap.size + 1, 2, none⟩ = false ∧ W.cell? ⟨w.heap.size + 1, 2, none⟩ = some (.slice K ln kc)) := Lib.hid fun W hW => by
            have h := HSB.out.grown hW HREST.out.2.2.2.2.2.1
            exact ⟨h.2.2.1.open_ 2, h.2.2.1.cell 2⟩
          have HW1 : Hid (∀ v ∈ [Value.int .u8 (t0 : Int), .slice t1 t2 t3, .slice t4 t5 t6], v.oneCell' = true) := Lib.hid (by intro v hv; simp at hv; rcases hv with rfl | rfl | rfl <;> rfl)
          have HLN : Hid (ln ≤ 9000000000000000000 ∧ (ln + 1) * 56 ≤ 140737488355328) := Lib.hid (by have := HREST.out.2.2.1; omega)
          have HGB : Hid (w2.grownBy ((w2.alloc (.cells #[.int .u8 (t0 : Int), .slice t1 t2 t3, .slice t4 t5 t6] 31)).alloc (.cells #[.int .u8 (t0 : Int), .slice t1 t2 t3, .slice t4 t5 t6] 31)) none) := Lib.hid (HALLOC.out.trans (World.grownBy_alloc _ _ _))
          clear hsA hsB hszA hoA hA hown2 hfm hsp2 hap2 hKlt hst2 hlt2 hin hgr hbr hrd HK b1
          go_wp2_with (first | (at_builtin; refine wpList_pushV _ rfl (.tmp 123) (.tmp 125) 29 rfl 31 _ 3 56 Tryd.underlying29 info_node rfl (by omega) (by omega) rfl HOB.out (cs := [Value.int .u8 (t0 : Int), .slice t1 t2 t3, .slice t4 t5 t6]) rfl rfl HW1.out HHB.out HLN.out ?_; intro g5 c5 W5 ho5 hg5 hat5 hlt5; obtain ⟨f5, m5⟩ := HF5.out _ hg5))
          have hS5 := HSB.out.grown hg5 HREST.out.2.2.2.2.2.1
          have hS6 := hS5.kidsv (.slice (some ⟨g5, 0, none⟩) (ln + 1) c5)
          have hg5lo : w.heap.size + 2 ≤ g5 := by
            rcases hat5 with h | h
            · exact HREST.out.2.2.2.2.2.1 g5 h
            · have : ((w2.alloc (.cells #[.int .u8 (t0 : Int), .slice t1 t2 t3, .slice t4 t5 t6] 31)).alloc (.cells #[.int .u8 (t0 : Int), .slice t1 t2 t3, .slice t4 t5 t6] 31)).heap.size = w2.heap.size + 2 := by simp
              omega
          have ho6 : OwnV 31 3 (W5.setCell ⟨w.heap.size + 1, 2, none⟩ (.slice (some ⟨g5, 0, none⟩) (ln + 1) c5)) (some ⟨g5, 0, none⟩) c5 (ln + 1) ((l ++ [lt]).flatMap lcell) := by
            rw [HFM.out, HCL.out]
            exact ho5.keep fun g hg hlt => Below.heap_setCell W5 ⟨w.heap.size + 1, 2, none⟩ _ g (by show g ≠ w.heap.size + 1; change some g5 = some g at hg; injection hg with hg; omega)
          have hap6 : Apart (W5.setCell ⟨w.heap.size + 1, 2, none⟩ (.slice (some ⟨g5, 0, none⟩) (ln + 1) c5)) (w.heap.size + 2) (some ⟨g5, 0, none⟩) (l ++ [lt]) := by
            refine HAP.out.keep ?_ (fun g hg hlt hne => ?_) (fun g hg => ?_)
            · show w2.heap.size ≤ (W5.heap.modify _ _).size
              rw [Array.size_modify]
              exact Nat.le_trans HGB.out.size hg5.size
            · rw [Below.heap_setCell W5 ⟨w.heap.size + 1, 2, none⟩ _ g (by show g ≠ w.heap.size + 1; omega), hg5.block g (Nat.lt_of_lt_of_le hlt HGB.out.size) (fun e => hne e.symm), HGB.out.block g hlt (by simp)]
            · change some g5 = some g at hg
              injection hg with hg
              subst hg
              rcases hat5 with h | h
              · exact .inl h
              · have : ((w2.alloc (.cells #[.int .u8 (t0 : Int), .slice t1 t2 t3, .slice t4 t5 t6] 31)).alloc (.cells #[.int .u8 (t0 : Int), .slice t1 t2 t3, .slice t4 t5 t6] 31)).heap.size = w2.heap.size + 2 := by simp
                exact .inr (by omega)
          have HS6 := Lib.hid hS6
          have HO6 := Lib.hid ho6
          have HAP6 := Lib.hid hap6
          have HG6 := Lib.hid hg5lo
          clear hS5 hS6 ho5 hg5 hat5 hlt5 ho6 hap6 hg5lo
          go_roundw
          case rel =>
            have hz := HREST.out.2.2.2.2.2.2.2.2.2
            have hz2 := HREST.out.2.2.1
            have hz3 := HREST.out.2.1
            refine ⟨A2, n' - mm, c9, c2, L'.drop mm, l ++ [lt], some ⟨g5, 0, none⟩, c5, ln + 1, HS6.out, by rw [List.length_append, HREST.out.1]; rfl, by omega, by omega, by omega, hfit.2.2, by omega, ?_, HO6.out, fun g hg => by change some g5 = some g at hg; injection hg with hg; subst hg; exact HG6.out, HAP6.out, HSP.out⟩
            rw [HREST.out.2.2.2.1, List.drop_drop, show n5 - n' + mm = n5 - (n' - mm) by omega]
          case measure =>
            have h1 := HS6.out.1.cell 0
            have h2 := HST.out.1.cell 0
            simp only [lenAt]
            rw [h1, h2]
            simp
            omega
      case neg =>
        obtain rfl : n' = e := by omega
        have dlt : decide ((n' : Int) < (n' : Int)) = false := decide_eq_false (by omega)
        rw [Nat.sub_self, List.take_zero, rds] at hsp
        have HE : Hid (rd (x :: L.take q) d cnt = .ok (.mk x [] (l.map Lt.t), 1 + u + k, cnt')) := Lib.hid (by rw [HE0.out, hsp]; simp [preT, thingOf])
        have n0 := hst.2.2.1.cell 0
        have n1 := hst.2.2.1.cell 1
        have n2 := hst.2.2.1.cell 2
        have z0 := hst.2.1.cell 0
        have z1 := hst.2.1.cell 1
        have z2 := hst.2.1.cell 2
        have y0 := hst.2.1.open_ 0
        have y1 := hst.2.1.open_ 1
        have y2 := hst.2.1.open_ 2
        have HREST := Lib.hid (And.intro hll (And.intro hn5 (And.intro hL' (And.intro hown (And.intro hKlo hap)))))
        clear hst hll hn5 hlb hL' hown hKlo hap hsp hO'
        go_wp2_with fail
        rw [HE.out]
        obtain ⟨r1, r2, r3, r4, r5, r6⟩ := HST.out.out (.int .u8 (x : Int)) (.slice none 0 0) (.slice K ln kc)
        have hsz := HST.out.2.2.2.2.2.2.1
        refine ret_cell rfl rfl rfl r1 rfl ⟨.mk x none 0 [] K kc l, A', c', ?_, ?_, ?_, r3, ?_, ?_⟩
        · rw [Lt.val, Lt.cells]
          simp only [Lt.tag, Lt.ba, Lt.body, Lt.bc, Lt.ka, Lt.kids, Lt.kc, HREST.out.1]
          rfl
        · rw [Lt.t_mk]
        · refine TrIn.of_kids hx HREST.out.1 (by rw [r5]; omega) (HREST.out.2.2.2.1.keep fun g hg _ => r6 g (by have := HREST.out.2.2.2.2.1 g hg; omega)) (fun g hg => by have := HREST.out.2.2.2.2.1 g hg; omega) ?_
          exact (HREST.out.2.2.2.2.2.keep (by rw [r5]; exact Nat.le_refl _) (fun g hg _ _ => r6 g (by omega)) (fun g hg => .inl hg)).less (by omega)
        · have := HUK.out
          rw [show n - (1 + u + k) = n' by omega]
          exact r2
        · have hu := HUK.out
          rw [show (x :: L).drop (1 + u + k) = L' by rw [HREST.out.2.2.1, hu.2.2.1, List.drop_drop, show 1 + u + k = (u + (n5 - n')) + 1 by omega, List.drop_succ_cons]]
          exact r4
end Go.Proofs.YtdjklhglkmacbaaDoor
