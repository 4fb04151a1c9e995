/-
  A thing's bytes behind what is there: by the program.
-/
import Derived.Test.YtlggbkacaemdjaaTlv6
namespace Go.Proofs.Ytlggbkacaemdjaa
open Go.RowKit
set_option linter.unusedVariables false
set_option linter.unusedSimpArgs false

/-- Only the slice's own block has turned, and it lies where it lay or in a new one. -/
def Grew (w w' : World) (A A' : Option Addr) : Prop := w.grownBy w' (blk_of A) ∧ ∀ g, blk_of A' = some g → blk_of A = some g ∨ w.heap.size ≤ g
theorem Grew.refl (w : World) (A : Option Addr) : Grew w w A A := ⟨World.grownBy.refl w _, fun g hg => .inl hg⟩
theorem Grew.trans {w w1 w2 : World} {A A1 A2 : Option Addr} (h : Grew w w1 A A1) (h' : Grew w1 w2 A1 A2) : Grew w w2 A A2 :=
  ⟨⟨h'.1.os.trans h.1.os, h'.1.tape.trans h.1.tape, h'.1.output.trans h.1.output, Nat.le_trans h.1.size h'.1.size, fun k hk hne => (h'.1.block k (Nat.lt_of_lt_of_le hk h.1.size) (fun e => by
    rcases h.2 k e.symm with h1 | h1
    · exact hne h1.symm
    · omega)).trans (h.1.block k hk hne)⟩, fun g hg => by
    rcases h'.2 g hg with h1 | h1
    · exact h.2 g h1
    · exact .inr (Nat.le_trans h.1.size h1)⟩
theorem Grew.of_below {w w' : World} {A : Option Addr} (h : Below w.heap.size w w') : Grew w w' A A := ⟨⟨h.os, h.tape, h.output, h.size, fun k hk _ => h.block k hk⟩, fun g hg => .inl hg⟩
theorem Grew.of_mine {w w' : World} {A A' : Option Addr} (h : w.grownBy w' (blk_of A)) (hat : blk_of A' = blk_of A ∨ blk_of A' = some w.heap.size) : Grew w w' A A' :=
  ⟨h, fun g hg => hat.elim (fun e => .inl (e ▸ hg)) fun e => .inr (by rw [e] at hg; injection hg with hg; omega)⟩
theorem Grew.below {w w' : World} {A A' : Option Addr} {B0 : Nat} (h : Grew w w' A A') (hB : B0 ≤ w.heap.size) (hA : ∀ g, blk_of A = some g → B0 ≤ g) : Below B0 w w' := below_blk h.1 hB hA
theorem Grew.holds {w w' : World} {A A' : Option Addr} {g : Nat} {t : TypeId} {cs : Array Value} (h : Grew w w' A A') (hh : Holds w g t cs) (hne : blk_of A ≠ some g) : Holds w' g t cs := hh.grown h.1 (fun e => hne e.symm)
theorem Grew.apart {w w' : World} {A A' : Option Addr} {g : Nat} (h : Grew w w' A A') (hg : g < w.heap.size) (hne : blk_of A ≠ some g) : blk_of A' ≠ some g := fun e => by
  rcases h.2 g e with h1 | h1
  · exact hne h1
  · omega

def RelU (w : World) (B0 : Nat) (cs : Array Value) (A : Option Addr) (p : List Nat) (l : List Tr) (n : Nat) (v i : Value) (wr : World) : Prop :=
  ∃ (k : Nat) (A' : Option Addr) (c' m : Nat), k ≤ n ∧ i = .int .i64 k ∧ v = .slice A' m c' ∧ Hid ((p ++ Tr.encs (l.take k)).length = m) ∧ Hid (Mine 5 wr B0 A' c' (p ++ Tr.encs (l.take k))) ∧ Hid (Grew w wr A A') ∧ Hid (Holds wr w.heap.size 25 cs) ∧ Hid (blk_of A' ≠ some w.heap.size)
set_option maxRecDepth 100000 in
set_option maxHeartbeats 4000000 in
theorem put_N : ∀ (N : Nat) (t : Lt) (w : World) (B B0 : Nat) (A : Option Addr) (c n0 : Nat) (p : List Nat), t.sz < N → TrAt w B t → B ≤ B0 → B0 ≤ w.heap.size → Mine 5 w B0 A c p → p.length = n0 → n0 + t.t.enc.length ≤ 400000 →
    Calls Try.prog 21 #[.slice A n0 c, t.val] w fun e w' => ∃ A' c', e = .returned (.slice A' (n0 + t.t.enc.length) c') ∧ Mine 5 w' B0 A' c' (p ++ t.t.enc) ∧ Grew w w' A A' := by
  intro N
  induction N with
  | zero => intro t w B B0 A c n0 p h; omega
  | succ N ih =>
    intro t w B B0 A c n0 p hN hr hBB hB hm hp hmx
    have hr0 := hr
    obtain ⟨tag, ba, bc, body, ka, kc, kids⟩ := t
    rw [trAt_mk] at hr
    obtain ⟨_, hbody, _, hrow, hkids⟩ := hr
    have hINN : ∀ W, Below B0 w W → Calls Try.prog 32 #[(Lt.mk tag ba bc body ka kc kids).val] W fun e w' => e = .returned (.int .i64 ((Lt.mk tag ba bc body ka kc kids).t.inl : Int)) ∧ Below W.heap.size W w' := fun W hW => inner_any _ W B (hr0.under' (hW.mono hBB)) (by have := hW.size; omega) (by rw [Tr.enc_len] at hmx; omega)
    rw [Lt.t_mk] at hmx hINN ⊢
    obtain ⟨n, hn⟩ : ∃ n, kids.length = n := ⟨_, rfl⟩
    obtain ⟨bl, hbl⟩ : ∃ n, body.length = n := ⟨_, rfl⟩
    obtain ⟨L, hL⟩ : ∃ L, kids.map Lt.t = L := ⟨_, rfl⟩
    have hLn : L.length = n := by rw [← hL, List.length_map, hn]
    rw [hL] at hmx hINN ⊢
    obtain ⟨z, hz⟩ : ∃ z, (Tr.mk tag body L).inl = z := ⟨_, rfl⟩
    have hzz : z = bl + (Tr.encs L).length := by rw [← hz, Tr.inl, hbl]
    have henl := Tr.enc_len (Tr.mk tag body L)
    rw [hz] at henl hINN
    have HENC : Hid (p ++ (Tr.mk tag body L).enc = p ++ [tag] ++ lenB z ++ body ++ Tr.encs L) := Lib.hid (by rw [Tr.enc, hbl, ← hzz]; simp)
    have HLN := Lib.hid hLn
    have hlc : n ≤ kc := by have := hrow.1; omega
    have hc63 := hrow.2.1
    have hblc : bl ≤ bc := by have := hbody.1; omega
    have hbc63 := hbody.2.1
    have HROW : Hid (∀ W, Below B0 w W → RowT W B ka kc kids) := Lib.hid fun W hW => hrow.under (hW.mono hBB)
    have HBODY : Hid (∀ W, Below B0 w W → Rd .u8 W B ba bc body) := Lib.hid fun W hW => hbody.under (hW.mono hBB)
    have HIH : Hid (∀ k, k < n → ∀ W, Below B0 w W → ∀ (A : Option Addr) (c m : Nat) (q : List Nat), Mine 5 W B0 A c q → q.length = m → m + (L.getD k default).enc.length ≤ 400000 → Calls Try.prog 21 #[.slice A m c, (kids.getD k default).val] W fun e w' => ∃ A' c', e = .returned (.slice A' (m + (L.getD k default).enc.length) c') ∧ Mine 5 w' B0 A' c' (q ++ (L.getD k default).enc) ∧ Grew W w' A A') := Lib.hid fun k hk W hW A c m q hq hql hqm => by
      have e : (L.getD k default) = (kids.getD k default).t := by rw [← hL, Lt.ts_at (by omega)]
      rw [e] at hqm ⊢
      refine ih _ W B B0 A c m q ?_ ((hkids k (by omega)).under' (hW.mono hBB)) hBB (by have := hW.size; omega) hq hql hqm
      have := lt_kid (tag := tag) (ba := ba) (bc := bc) (body := body) (ka := ka) (kc := kc) (kids := kids) (j := k) (by omega)
      omega
    have HN2 := Lib.hid hn
    have HBL := Lib.hid hbl
    have HZZ := Lib.hid hzz
    have HP := Lib.hid hp
    have HINN := Lib.hid hINN
    have hll := lenB_len z
    obtain ⟨y, hy⟩ : ∃ y, lenB z = y := ⟨_, rfl⟩
    obtain ⟨yl, hyl⟩ : ∃ n, y.length = n := ⟨_, rfl⟩
    rw [hy] at hll henl HENC
    rw [hyl] at hll henl
    have HY := Lib.hid hy
    have HYL := Lib.hid hyl
    rw [henl] at hmx ⊢
    have hval : (Lt.mk tag ba bc body ka kc kids).val = .agg #[.int .u8 (tag : Int), .slice ba bl bc, .slice ka n kc] := by rw [← hn, ← hbl]; rfl
    rw [hval] at HINN ⊢
    have hblz : bl ≤ z := by omega
    have hAne : blk_of A ≠ some w.heap.size := fun e => by have := (hm.block e).2; omega
    -- the box
    obtain ⟨W1, hW1⟩ : ∃ W1, w.alloc (.cells #[.int .u8 (tag : Int), .slice ba bl bc, .slice ka n kc] 25) = W1 := ⟨_, rfl⟩
    have hq1 : Below w.heap.size w W1 := by rw [← hW1]; exact (Below.refl _ _).alloc (Nat.le_refl _) _
    have hb1 : Holds W1 w.heap.size 25 #[.int .u8 (tag : Int), .slice ba bl bc, .slice ka n kc] := by rw [← hW1]; exact Holds.fresh _ _ _
    have hm1 : Mine 5 W1 B0 A c p := hm.under hq1
    have hs1 : W1.heap.size = w.heap.size + 1 := by rw [← hW1]; exact World.size_alloc _ _
    have HX1 : Hid (Mine 5 (W1.alloc (.cells #[.int .u8 (tag : Int)] 5)) B0 A c p) := Lib.hid (hm1.alloc _)
    have HX2 : Hid (Rd .u8 (W1.alloc (.cells #[.int .u8 (tag : Int)] 5)) (W1.alloc (.cells #[.int .u8 (tag : Int)] 5)).heap.size (some ⟨w.heap.size + 1, 0, none⟩) 1 [tag]) := Lib.hid (by rw [← hs1]; exact (Mine.fresh1 W1 B0 tag (Nat.le_trans hB hq1.size)).rd)
    have HX3 : Hid (Below w.heap.size w (W1.alloc (.cells #[.int .u8 (tag : Int)] 5))) := Lib.hid (hq1.alloc hq1.size _)
    have HX4 : Hid (Holds (W1.alloc (.cells #[.int .u8 (tag : Int)] 5)) w.heap.size 25 #[.int .u8 (tag : Int), .slice ba bl bc, .slice ka n kc]) := Lib.hid (hb1.alloc _)
    have HBW : Hid (B0 ≤ (W1.alloc (.cells #[.int .u8 (tag : Int)] 5)).heap.size) := Lib.hid (Nat.le_trans hB HX3.out.size)
    have z0 : W1.cell? ⟨w.heap.size, 0, none⟩ = some (.int .u8 (tag : Int)) := hb1.cell 0
    have HAB : Hid (∀ g, blk_of A = some g → B0 ≤ g) := Lib.hid fun g hg => (hm.block hg).1
    rw [← hW1] at HX1 HX2 HX3 HX4 HBW z0 hs1
    have HANE := Lib.hid hAne
    have HF : Hid (∀ w2, (W1.alloc (.cells #[.int .u8 (tag : Int)] 5)).grownBy w2 (blk_of A) → w2.cell? ⟨w.heap.size, 0, none⟩ = some (.int .u8 (tag : Int)) ∧ w2.cell? ⟨w.heap.size, 1, none⟩ = some (.slice ba bl bc) ∧ w2.cell? ⟨w.heap.size, 2, none⟩ = some (.slice ka n kc)) := Lib.hid fun w2 hg => by
      have h := (hb1.alloc (.cells #[.int .u8 (tag : Int)] 5)).grown hg (fun e => hAne e.symm)
      exact ⟨h.cell 0, h.cell 1, h.cell 2⟩
    rw [← hW1] at HF
    clear hN ih hrow hkids hLn hL hn hbl hbody hq1 hb1 hm1 hW1 hval hINN hr0 hm hp hzz henl hy hyl hz hAne
    go_enter Try.func21, Try.ntmps21
    go_wp2_with (first | (at_builtin; refine wpList_mine (B := B0) _ rfl (.tmp 7) (.tmp 10) 22 rfl 5 Try.underlying22 info_u8 rfl HX1.out HP.out rfl HX2.out rfl HBW.out (by omega) ?_; intro A2 c2 w2 hm2 hg2 hat2; obtain ⟨y0, y1, y2⟩ := HF.out _ hg2))
    have HG2 : Hid (Grew w w2 A A2) := Lib.hid ((Grew.of_below HX3.out).trans (Grew.of_mine hg2 hat2))
    have HM2 := Lib.hid hm2
    have HH2 : Hid (Holds w2 w.heap.size 25 #[.int .u8 (tag : Int), .slice ba bl bc, .slice ka n kc]) := Lib.hid (HX4.out.grown hg2 (fun e => HANE.out e.symm))
    have hQ2 := HG2.out.below hB HAB.out
    have hp2 : (p ++ [tag]).length = n0 + 1 := by rw [List.length_append, HP.out]; rfl
    have HP2 := Lib.hid hp2
    have HN2' : Hid (blk_of A2 ≠ some w.heap.size) := Lib.hid fun e => by
      rcases hat2 with h | h
      · exact HANE.out (h ▸ e)
      · rw [e] at h; injection h with h; simp at h; omega
    clear hm2 hg2 hat2 HX1 HX2 HX3 HX4 HBW z0 HF hp2
    refine (HINN.out _ hQ2).mono ?_
    rintro e w3 ⟨rfl, hb3⟩
    have HG3 : Hid (Grew w w3 A A2) := Lib.hid (HG2.out.trans (Grew.of_below hb3))
    have HM3 : Hid (Mine 5 w3 B0 A2 c2 (p ++ [tag])) := Lib.hid (HM2.out.under hb3)
    have HH3 : Hid (Holds w3 w.heap.size 25 #[.int .u8 (tag : Int), .slice ba bl bc, .slice ka n kc]) := Lib.hid (HH2.out.under hb3 HH2.out.lt)
    clear hb3 HG2 HM2 HH2 y0 y1 y2 HINN hQ2
    go_wp2_with fail
    refine (length_any w3 z (by omega)).mono ?_
    rintro e w4 ⟨A4, c4, rfl, hm4, hb4⟩
    have HG4 : Hid (Grew w w4 A A2) := Lib.hid (HG3.out.trans (Grew.of_below hb4))
    have HM4 : Hid (Mine 5 w4 B0 A2 c2 (p ++ [tag])) := Lib.hid (HM3.out.under hb4)
    have HH4 : Hid (Holds w4 w.heap.size 25 #[.int .u8 (tag : Int), .slice ba bl bc, .slice ka n kc]) := Lib.hid (HH3.out.under hb4 HH3.out.lt)
    have HR4 : Hid (Rd .u8 w4 w4.heap.size A4 c4 y) := Lib.hid (by have := hm4.rd; rw [HY.out] at this; exact this)
    have HBW4 : Hid (B0 ≤ w4.heap.size) := Lib.hid (Nat.le_trans hB HG4.out.1.size)
    rw [HY.out, HYL.out]
    have HF4 : Hid (∀ w2, w4.grownBy w2 (blk_of A2) → w2.cell? ⟨w.heap.size, 0, none⟩ = some (.int .u8 (tag : Int)) ∧ w2.cell? ⟨w.heap.size, 1, none⟩ = some (.slice ba bl bc) ∧ w2.cell? ⟨w.heap.size, 2, none⟩ = some (.slice ka n kc)) := Lib.hid fun w2 hg => by
      have h := HH4.out.grown hg (fun e => HN2'.out e.symm)
      exact ⟨h.cell 0, h.cell 1, h.cell 2⟩
    clear hm4 hb4 HG3 HM3 HH3
    have HP4 : Hid ((p ++ [tag] ++ y).length = n0 + 1 + yl) := Lib.hid (by rw [List.length_append, HP2.out, HYL.out])
    have HB5 : Hid (∀ A5 w5, w4.grownBy w5 (blk_of A2) → (blk_of A5 = blk_of A2 ∨ blk_of A5 = some w4.heap.size) → Grew w w5 A A5 ∧ Rd .u8 w5 B ba bc body ∧ B0 ≤ w5.heap.size) := Lib.hid fun A5 w5 hg hat => by
      have h1 := HG4.out.trans (Grew.of_mine hg hat)
      exact ⟨h1, HBODY.out _ (h1.below hB HAB.out), Nat.le_trans hB h1.1.size⟩
    have HF5 : Hid (∀ A5 w5, w4.grownBy w5 (blk_of A2) → (blk_of A5 = blk_of A2 ∨ blk_of A5 = some w4.heap.size) → Holds w5 w.heap.size 25 #[.int .u8 (tag : Int), .slice ba bl bc, .slice ka n kc] ∧ blk_of A5 ≠ some w.heap.size) := Lib.hid fun A5 w5 hg hat => by
      refine ⟨HH4.out.grown hg (fun e => HN2'.out e.symm), fun e => ?_⟩
      rcases hat with h | h
      · exact HN2'.out (h ▸ e)
      · rw [e] at h; injection h with h; have := HH4.out.lt; omega
    have HF6 : Hid (∀ A5 w5, w4.grownBy w5 (blk_of A2) → (blk_of A5 = blk_of A2 ∨ blk_of A5 = some w4.heap.size) → ∀ w6, w5.grownBy w6 (blk_of A5) → w6.cell? ⟨w.heap.size, 2, none⟩ = some (.slice ka n kc)) := Lib.hid fun A5 w5 hg hat w6 hg6 => ((HF5.out A5 w5 hg hat).1.grown hg6 (fun e => (HF5.out A5 w5 hg hat).2 e.symm)).cell 2
    go_wp2_with (first
      | (at_builtin; refine wpList_mine (B := B0) _ rfl (.tmp 12) (.tmp 15) 22 rfl 5 Try.underlying22 info_u8 rfl HM4.out HP2.out rfl HR4.out HYL.out HBW4.out (by omega) ?_; intro A5 c5 w5 hm5 hg5 hat5; obtain ⟨y0, y1, y2⟩ := HF4.out _ hg5)
      | (at_builtin; refine wpList_mine (B := B0) _ rfl (.tmp 17) (.tmp 19) 22 rfl 5 Try.underlying22 info_u8 rfl hm5 HP4.out rfl (HB5.out _ _ hg5 hat5).2.1 HBL.out (HB5.out _ _ hg5 hat5).2.2 (by omega) ?_; intro A6 c6 w6 hm6 hg6 hat6; have x2 := HF6.out _ _ hg5 hat5 _ hg6)
      | fail)
    obtain ⟨hh5, hn5⟩ := HF5.out _ _ hg5 hat5
    have hG5 := (HB5.out _ _ hg5 hat5).1
    have HG6 : Hid (Grew w w6 A A6) := Lib.hid (hG5.trans (Grew.of_mine hg6 hat6))
    have HH6 : Hid (Holds w6 w.heap.size 25 #[.int .u8 (tag : Int), .slice ba bl bc, .slice ka n kc]) := Lib.hid (hh5.grown hg6 (fun e => hn5 e.symm))
    have HN6 : Hid (blk_of A6 ≠ some w.heap.size) := Lib.hid ((Grew.of_mine hg6 hat6).apart hh5.lt hn5)
    have HM6 := Lib.hid hm6
    have HQL : Hid ((p ++ [tag] ++ y ++ body).length = n0 + 1 + yl + bl) := Lib.hid (by rw [List.length_append, HP4.out, HBL.out])
    clear hm6 hg6 hat6 hh5 hn5 hG5 hm5 hg5 hat5 y0 y1 y2 x2 HF4 HF5 HF6 HB5 HG4 HM4 HH4 HR4 HBW4 HP4 HP2
    go_loopw [0, 24] (fun v i wr => RelU w B0 #[.int .u8 (tag : Int), .slice ba bl bc, .slice ka n kc] A (p ++ [tag] ++ y ++ body) L n v i wr) (fun v i _ => n - (intOf i).toNat)
    case atStart => exact ⟨0, _, _, _, Nat.zero_le _, rfl, rfl, Lib.hid (by simpa [Tr.encs] using HQL.out), Lib.hid (by simpa [Tr.encs] using HM6.out), HG6, HH6, HN6⟩
    case round =>
      clear HM6 HG6 HH6 HN6
      obtain ⟨k, A', c', m, hk, rfl, rfl, HL, HM, HG, HB, HN⟩ := hrel
      obtain ⟨V, hV⟩ : ∃ V, V = wr := ⟨_, rfl⟩
      subst hV
      have hBV : Below B0 w V := HG.out.below hB HAB.out
      by_cases hkn : k < n
      case pos =>
        have hkI : (k : Int) < (n : Int) := by omega
        have hk0 : (0 : Int) ≤ (k : Int) := by omega
        obtain ⟨b, off, rfl, hb, hcs⟩ := (HROW.out V hBV).2.2 (by have := HN2.out; omega)
        obtain ⟨q0, q1, q2⟩ := hcs k (by have := HN2.out; omega)
        have HEM : Hid (p ++ [tag] ++ y ++ body ++ Tr.encs (L.take (k + 1)) = p ++ [tag] ++ y ++ body ++ Tr.encs (L.take k) ++ (L.getD k default).enc ∧ m + (L.getD k default).enc.length ≤ 400000) := Lib.hid (by
          have h1 := Tr.encs_more (l := L) (k := k) (by have := HLN.out; omega)
          have h2 := Tr.encs_le L (k + 1)
          have h3 := HL.out
          have h4 := HQL.out
          have h5 := HZZ.out
          refine ⟨by rw [h1, List.append_assoc (p ++ [tag] ++ y ++ body)], ?_⟩
          rw [h1, List.length_append] at h2
          rw [List.length_append, h4] at h3
          omega)
        have hVA : Below w.heap.size V (V.alloc (.cells #[.int .u8 ((kids.getD k default).tag : Int), .slice (kids.getD k default).ba (kids.getD k default).body.length (kids.getD k default).bc, .slice (kids.getD k default).ka (kids.getD k default).kids.length (kids.getD k default).kc] 25)) := (Below.refl _ _).alloc HG.out.1.size _
        have HC : Hid (Calls Try.prog 21 #[.slice A' m c', .agg #[.int .u8 ((kids.getD k default).tag : Int), .slice (kids.getD k default).ba (kids.getD k default).body.length (kids.getD k default).bc, .slice (kids.getD k default).ka (kids.getD k default).kids.length (kids.getD k default).kc]] (V.alloc (.cells #[.int .u8 ((kids.getD k default).tag : Int), .slice (kids.getD k default).ba (kids.getD k default).body.length (kids.getD k default).bc, .slice (kids.getD k default).ka (kids.getD k default).kids.length (kids.getD k default).kc] 25)) fun e w' => ∃ A'' c'', e = .returned (.slice A'' (m + (L.getD k default).enc.length) c'') ∧ Mine 5 w' B0 A'' c'' (p ++ [tag] ++ y ++ body ++ Tr.encs (L.take (k + 1))) ∧ Grew V w' A' A'') := Lib.hid (by
          have h := HIH.out k hkn _ (hBV.trans (hVA.mono hB)) A' c' m _ (HM.out.alloc _) HL.out HEM.out.2
          rw [Lt.val_eq, ← HEM.out.1] at h
          exact h.mono fun _ _ ⟨A'', c'', h1, h2, h3⟩ => ⟨A'', c'', h1, h2, (Grew.of_below ((Below.refl _ _).alloc (Nat.le_refl _) _)).trans h3⟩)
        clear hcs hVA
        generalize (kids.getD k default).tag = dt at *
        generalize (kids.getD k default).ba = dba at *
        generalize (kids.getD k default).bc = dbc at *
        generalize (kids.getD k default).body.length = dbl at *
        generalize (kids.getD k default).ka = dka at *
        generalize (kids.getD k default).kids.length = dkl at *
        generalize (kids.getD k default).kc = dkc at *
        obtain ⟨x, hx⟩ : ∃ x, (L.getD k default).enc.length = x := ⟨_, rfl⟩
        have HXE : Hid ((p ++ [tag] ++ y ++ body ++ Tr.encs (L.take (k + 1))).length = m + x) := Lib.hid (by rw [HEM.out.1, List.length_append, HL.out, hx])
        rw [hx] at HC
        have hb9 : Holds (V.alloc (.cells #[.int .u8 (dt : Int), .slice dba dbl dbc, .slice dka dkl dkc] 25)) V.heap.size 25 #[.int .u8 (dt : Int), .slice dba dbl dbc, .slice dka dkl dkc] := Holds.fresh _ _ _
        have y0 : (V.alloc (.cells #[.int .u8 (dt : Int), .slice dba dbl dbc, .slice dka dkl dkc] 25)).cell? ⟨V.heap.size, 0, none⟩ = some (.int .u8 (dt : Int)) := hb9.cell 0
        have y1 : (V.alloc (.cells #[.int .u8 (dt : Int), .slice dba dbl dbc, .slice dka dkl dkc] 25)).cell? ⟨V.heap.size, 1, none⟩ = some (.slice dba dbl dbc) := hb9.cell 1
        have y2 : (V.alloc (.cells #[.int .u8 (dt : Int), .slice dba dbl dbc, .slice dka dkl dkc] 25)).cell? ⟨V.heap.size, 2, none⟩ = some (.slice dka dkl dkc) := hb9.cell 2
        clear hb9 hx HEM
        go_wp2_with fail
        refine HC.out.mono ?_
        rintro e w7 ⟨A7, c7, rfl, hm7, hg7⟩
        have HG7 : Hid (Grew w w7 A A7) := Lib.hid (HG.out.trans hg7)
        have HH7 : Hid (Holds w7 w.heap.size 25 #[.int .u8 (tag : Int), .slice ba bl bc, .slice (some ⟨b, off, none⟩) n kc]) := Lib.hid (hg7.holds HB.out HN.out)
        have HN7 : Hid (blk_of A7 ≠ some w.heap.size) := Lib.hid (hg7.apart HB.out.lt HN.out)
        have HM7 := Lib.hid hm7
        clear hm7 hg7 HC q0 q1 q2 y0 y1 y2
        go_wp2_with fail
        go_roundw
        case rel => exact ⟨k + 1, _, _, m + x, by omega, by go_num, rfl, HXE, HM7, HG7, HH7, HN7⟩
        case measure => simp [intOf]; omega
      case neg =>
        obtain rfl : k = n := by omega
        have hkI : ¬ ((k : Int) < (k : Int)) := by omega
        have HE : Hid (Tr.encs (L.take k) = Tr.encs L) := Lib.hid (by rw [List.take_of_length_le (by have := HLN.out; omega)])
        have HM2 : Hid (Mine 5 V B0 A' c' (p ++ (Tr.mk tag body L).enc)) := Lib.hid (by have := HM.out; rw [HE.out, ← HENC.out] at this; exact this)
        have HML : Hid (m = n0 + (1 + yl + z)) := Lib.hid (by
          have h1 := HL.out
          rw [HE.out, List.length_append, HQL.out] at h1
          have := HZZ.out
          omega)
        go_wp2_with fail
        go_ret
        exact ⟨_, _, by rw [← HML.out]; rfl, HM2.out, HG.out⟩
theorem put_any (t : Lt) (w : World) (B : Nat) (hr : TrAt w B t) (hB : B ≤ w.heap.size) (hmx : t.t.enc.length ≤ 400000) :
    Calls Try.prog 21 #[.slice none 0 0, t.val] w fun e w' => ∃ A c, e = .returned (.slice A t.t.enc.length c) ∧ Mine 5 w' w.heap.size A c t.t.enc ∧ Below w.heap.size w w' :=
  (put_N (t.sz + 1) t w B w.heap.size none 0 0 [] (Nat.lt_succ_self _) hr hB (Nat.le_refl _) (Mine.nil _ _ _) rfl (by omega)).mono fun _ _ ⟨A, c, h1, h2, h3⟩ => ⟨A, c, by rw [h1, Nat.zero_add], by simpa using h2, h3.below (Nat.le_refl _) (fun g hg => by simp [blk_of] at hg)⟩
end Go.Proofs.Ytlggbkacaemdjaa
