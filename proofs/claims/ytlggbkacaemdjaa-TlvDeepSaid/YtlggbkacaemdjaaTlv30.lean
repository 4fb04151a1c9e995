/-
  So deep, no deeper; so many, no more (statement TlvDeep): the law's walk.
-/
import Derived.Test.YtlggbkacaemdjaaTlv29
import Derived.Deep.RegionHeld3
import Derived.Deep.RegionLaw
import Derived.Deep.DrawnRows
import Derived.StillTailTactics
namespace Go.Proofs.Ytlggbkacaemdjaa
open Go.RowKit
set_option linter.unusedVariables false
set_option linter.unusedSimpArgs false
attribute [local go_sem ↓] Go.wp_at_zero Go.wp_at_succ

theorem isT_chain (n : Nat) (hn : n ≤ 100) : isT (chainT n) = decide (n ≤ 11) := by
  have h := read_chain n hn
  rcases e : isT (chainT n) with _ | _
  · by_cases h2 : n ≤ 11
    · exfalso
      have hl := chain_len n
      have : isT (chainT n) = true := by
        simp only [isT, chain_sound n 1 (by omega), chain_count]
        simp
        omega
      rw [e] at this
      cases this
    · exact (decide_eq_false h2).symm
  · by_cases h2 : n ≤ 11
    · exact (decide_eq_true h2).symm
    · rw [read_enc e, if_neg h2] at h
      cases h
theorem wide_count (n : Nat) : (wideT n).count = n + 1 := by rw [wideT, Tr.count, leaves_counts]; omega
theorem isT_wide (n : Nat) (hn : n ≤ 1200) : isT (wideT n) = decide (n < 600) := by
  have h := read_wide n hn
  rcases e : isT (wideT n) with _ | _
  · by_cases h2 : n < 600
    · exfalso
      have hl := wide_len n
      have : isT (wideT n) = true := by
        have h3 : (wideT n).enc.length ≤ 12000 := by omega
        simp only [isT, Bool.and_eq_true, decide_eq_true_eq]
        refine ⟨⟨?_, ?_⟩, h3⟩
        · rw [wideT, Tr.sound, leaves_sounds n (1 + 1) (by omega)]
          simp [ok1, tagOk, parted]
        · rw [wide_count]; omega
      rw [e] at this
      cases this
    · exact (decide_eq_false h2).symm
  · by_cases h2 : n < 600
    · exact (decide_eq_true h2).symm
    · rw [read_enc e, if_neg h2] at h
      cases h
/-- A thing in a box, and that it lies behind the box. -/
def BoxT (w V : World) (t : Tr) : Prop := ∃ lt : Lt, lt.t = t ∧ Holds V w.heap.size 25 lt.cells ∧ TrIn V (w.heap.size + 1) V.heap.size lt
def RelX (w : World) (d : Nat) (i : Value) (wr : World) : Prop := ∃ k : Nat, k ≤ d ∧ i = .int .i64 ((k + 1 : Nat) : Int) ∧ Hid (BoxT w wr (chainT k)) ∧ Hid (Below w.heap.size w wr)
def leafL : Lt := .mk 5 none 0 [] none 0 []
def RelY (w V : World) (n : Nat) (i : Value) (wr : World) : Prop := ∃ (k : Nat) (K : Option Addr) (kc : Nat), k ≤ n ∧ i = .int .i64 (k : Int) ∧ Hid (Holds wr V.heap.size 25 #[.int .u8 48, .slice none 0 0, .slice K k kc]) ∧ Hid (OwnV 25 3 wr K kc k ((List.replicate k leafL).flatMap lcell)) ∧ Hid (∀ g, blockOf K = some g → V.heap.size + 1 ≤ g) ∧ Hid (Below V.heap.size V wr)
theorem leaves_more (k : Nat) : (List.replicate (k + 1) leafL).flatMap lcell = (List.replicate k leafL).flatMap lcell ++ [.int .u8 5, .slice none 0 0, .slice none 0 0] := by
  rw [List.replicate_succ', List.flatMap_append]
  rfl
set_option maxRecDepth 100000 in
set_option maxHeartbeats 8000000 in
theorem law_deep (w : World) (dp nn : Int) :
    Calls Try.prog 6 #[.int .i64 dp, .int .i64 nn] w fun e w' => e = .returned (.bool true) ∧ Below w.heap.size w w' := by
  by_cases g1 : dp < 1
  case pos =>
    have q1 : decide (dp < 1) = true := decide_eq_true g1
    go_enter Try.func6, Try.ntmps6
    go_wp2_with fail
    go_ret
    exact ⟨rfl, Below.refl _ _⟩
  have q1 : decide (dp < 1) = false := decide_eq_false g1
  by_cases g2 : 20 < dp
  case pos =>
    have q2 : decide (20 < dp) = true := decide_eq_true g2
    go_enter Try.func6, Try.ntmps6
    go_wp2_with fail
    go_ret
    exact ⟨rfl, Below.refl _ _⟩
  have q2 : decide (20 < dp) = false := decide_eq_false g2
  by_cases g3 : nn < 0
  case pos =>
    have q3 : decide (nn < 0) = true := decide_eq_true g3
    go_enter Try.func6, Try.ntmps6
    go_wp2_with fail
    go_ret
    exact ⟨rfl, Below.refl _ _⟩
  have q3 : decide (nn < 0) = false := decide_eq_false g3
  by_cases g4 : 1200 < nn
  case pos =>
    have q4 : decide (1200 < nn) = true := decide_eq_true g4
    go_enter Try.func6, Try.ntmps6
    go_wp2_with fail
    go_ret
    exact ⟨rfl, Below.refl _ _⟩
  have q4 : decide (1200 < nn) = false := decide_eq_false g4
  obtain ⟨d, rfl⟩ : ∃ d : Nat, dp = ((d + 1 : Nat) : Int) := ⟨(dp - 1).toNat, by omega⟩
  obtain ⟨n, rfl⟩ : ∃ n : Nat, nn = (n : Int) := ⟨nn.toNat, by omega⟩
  have hd : d ≤ 19 := by omega
  have hn : n ≤ 1200 := by omega
  obtain ⟨D, hD⟩ : ∃ D : Int, D = ((d + 1 : Nat) : Int) := ⟨_, rfl⟩
  rw [← hD] at q1 q2 ⊢
  have hB0 : BoxT w (w.alloc (.cells #[.int .u8 5, .slice none 0 0, .slice none 0 0] 25)) (chainT 0) := ⟨.mk 5 none 0 [] none 0 [], by rw [Lt.t_mk]; rfl, Holds.fresh _ _ _, fun w' _ => by
    rw [trAt_mk]
    exact ⟨by omega, Rd.nil_ _ _ _, fun x hx => by simp at hx, ⟨by simp, by omega, fun hn => by simp at hn⟩, fun j hj => by simp at hj⟩⟩
  have HB0 := Lib.hid hB0
  have HQ0 : Hid (Below w.heap.size w (w.alloc (.cells #[.int .u8 5, .slice none 0 0, .slice none 0 0] 25))) := Lib.hid ((Below.refl _ _).alloc (Nat.le_refl _) _)
  have HD := Lib.hid hD
  have hD1 : 1 ≤ D ∧ D ≤ 20 := by omega
  clear hB0 g1 g2 g3 g4 hD
  go_enter Try.func6, Try.ntmps6
  go_wp2_with fail
  go_loopw [6] (fun i wr => RelX w d i wr) (fun i _ => 30 - (intOf i).toNat)
  case atStart => exact ⟨0, Nat.zero_le _, rfl, HB0, HQ0⟩
  case round =>
    clear HB0 HQ0
    obtain ⟨k, hk, rfl, HB, HQ⟩ := hrel
    obtain ⟨V, hV⟩ : ∃ V, V = wr := ⟨_, rfl⟩
    subst hV
    obtain ⟨lt, hlt, hh, hin⟩ := HB.out
    have hcl : lt.cells = #[.int .u8 (lt.tag : Int), .slice lt.ba lt.body.length lt.bc, .slice lt.ka lt.kids.length lt.kc] := rfl
    have HIN := Lib.hid hin
    have HLT := Lib.hid hlt
    have HHB := Lib.hid hh
    by_cases hkd : ((k + 1 : Nat) : Int) < D
    case pos =>
      obtain ⟨I, hI⟩ : ∃ I : Int, I = ((k + 1 : Nat) : Int) := ⟨_, rfl⟩
      have HI := Lib.hid hI
      rw [← hI] at hkd ⊢
      have dk : decide (I < D) = true := decide_eq_true hkd
      have hI2 : 0 ≤ I ∧ I ≤ 21 := by omega
      have z0 := hh.cell 0
      have z1 := hh.cell 1
      have z2 := hh.cell 2
      rw [hcl] at z0 z1 z2
      have hhlt := hh.lt
      have v0 := hh.open_ 0
      have v1 := hh.open_ 1
      have v2 := hh.open_ 2
      have hA : Holds (V.alloc (.cells lt.cells 25)) V.heap.size 25 lt.cells := Holds.fresh _ _ _
      have hB : Holds (V.alloc (.cells lt.cells 25)) w.heap.size 25 lt.cells := hh.alloc _
      have y0 := hB.open_ 0
      have y1 := hB.open_ 1
      have y2 := hB.open_ 2
      have x0 := hB.cell 0
      have x1 := hB.cell 1
      have x2 := hB.cell 2
      rw [hcl] at y0 y1 y2 x0 x1 x2
      have HCL := Lib.hid hcl
      clear hI hlt hin hh hA hB hcl HB
      generalize lt.tag = t0 at *
      generalize lt.ba = t1 at *
      generalize lt.body.length = t2 at *
      generalize lt.bc = t3 at *
      generalize lt.ka = t4 at *
      generalize lt.kids.length = t5 at *
      generalize lt.kc = t6 at *
      go_wp2_with fail
      have HCL2 : Hid (lt.cells = #[.int .u8 (t0 : Int), .slice t1 t2 t3, .slice t4 t5 t6]) := HCL
      have hsz : (((V.setCell ⟨w.heap.size, 0, none⟩ (.int .u8 48)).setCell ⟨w.heap.size, 1, none⟩ (.slice none 0 0)).setCell ⟨w.heap.size, 2, none⟩ (.slice (some ⟨V.heap.size, 0, none⟩) 1 1)).heap.size = V.heap.size := by simp [World.setCell]
      have hfr : Holds ((((V.setCell ⟨w.heap.size, 0, none⟩ (.int .u8 48)).setCell ⟨w.heap.size, 1, none⟩ (.slice none 0 0)).setCell ⟨w.heap.size, 2, none⟩ (.slice (some ⟨V.heap.size, 0, none⟩) 1 1)).alloc (.cells #[.int .u8 (t0 : Int), .slice t1 t2 t3, .slice t4 t5 t6] 25)) V.heap.size 25 #[.int .u8 (t0 : Int), .slice t1 t2 t3, .slice t4 t5 t6] := by
        have h := Holds.fresh (((V.setCell ⟨w.heap.size, 0, none⟩ (.int .u8 48)).setCell ⟨w.heap.size, 1, none⟩ (.slice none 0 0)).setCell ⟨w.heap.size, 2, none⟩ (.slice (some ⟨V.heap.size, 0, none⟩) 1 1)) 25 #[.int .u8 (t0 : Int), .slice t1 t2 t3, .slice t4 t5 t6]
        rw [hsz] at h
        exact h
      have hfr2 : Holds ((((V.setCell ⟨w.heap.size, 0, none⟩ (.int .u8 48)).setCell ⟨w.heap.size, 1, none⟩ (.slice none 0 0)).setCell ⟨w.heap.size, 2, none⟩ (.slice (some ⟨V.heap.size, 0, none⟩) 1 1)).alloc (.cells #[.int .u8 (t0 : Int), .slice t1 t2 t3, .slice t4 t5 t6] 25)) V.heap.size 25 lt.cells := by rw [HCL2.out]; exact hfr
      have hsz1 : ((((V.setCell ⟨w.heap.size, 0, none⟩ (.int .u8 48)).setCell ⟨w.heap.size, 1, none⟩ (.slice none 0 0)).setCell ⟨w.heap.size, 2, none⟩ (.slice (some ⟨V.heap.size, 0, none⟩) 1 1)).alloc (.cells #[.int .u8 (t0 : Int), .slice t1 t2 t3, .slice t4 t5 t6] 25)).heap.size = V.heap.size + 1 := by
        show ((((V.setCell ⟨w.heap.size, 0, none⟩ (.int .u8 48)).setCell ⟨w.heap.size, 1, none⟩ (.slice none 0 0)).setCell ⟨w.heap.size, 2, none⟩ (.slice (some ⟨V.heap.size, 0, none⟩) 1 1)).heap.push _).size = _
        rw [Array.size_push, hsz]
      have hold : ∀ g, w.heap.size + 1 ≤ g → g < V.heap.size → ((((V.setCell ⟨w.heap.size, 0, none⟩ (.int .u8 48)).setCell ⟨w.heap.size, 1, none⟩ (.slice none 0 0)).setCell ⟨w.heap.size, 2, none⟩ (.slice (some ⟨V.heap.size, 0, none⟩) 1 1)).alloc (.cells #[.int .u8 (t0 : Int), .slice t1 t2 t3, .slice t4 t5 t6] 25)).heap[g]? = V.heap[g]? := fun g h1 h2 => by
        rw [Below.heap_alloc _ _ g (by rw [hsz]; exact h2), Below.heap_setCell _ ⟨w.heap.size, 2, none⟩ _ g (by show g ≠ w.heap.size; omega), Below.heap_setCell _ ⟨w.heap.size, 1, none⟩ _ g (by show g ≠ w.heap.size; omega), Below.heap_setCell _ ⟨w.heap.size, 0, none⟩ _ g (by show g ≠ w.heap.size; omega)]
      refine ⟨⟨k + 1, by have := HI.out; have := HD.out; omega, by rw [HI.out]; push_cast; rfl, Lib.hid ⟨.mk 48 none 0 [] (some ⟨V.heap.size, 0, none⟩) 1 [lt], ?_, ?_, ?_⟩, Lib.hid ?_⟩, ?_⟩
      · rw [Lt.t_mk, List.map_cons, List.map_nil, HLT.out, chainT]
      · exact (((HHB.out.stored 0 (.int .u8 48)).stored 1 (.slice none 0 0)).stored 2 (.slice (some ⟨V.heap.size, 0, none⟩) 1 1)).alloc _
      · intro w' hw'
        rw [hsz1] at hw' ⊢
        rw [trAt_mk]
        have hb' : Holds w' V.heap.size 25 lt.cells := (hw' V.heap.size (by omega) (by omega)).trans hfr2
        refine ⟨by omega, Rd.nil_ _ _ _, fun x hx => by simp at hx, ⟨by simp, by omega, fun _ => ⟨V.heap.size, 0, rfl, by omega, fun j hj => ?_⟩⟩, fun j hj => ?_⟩
        · obtain rfl : j = 0 := by simp at hj; omega
          exact ⟨hb'.cell 0, hb'.cell 1, hb'.cell 2⟩
        · obtain rfl : j = 0 := by simp at hj; omega
          exact (HIN.out w' fun g h1 h2 => (hw' g h1 (by omega)).trans (hold g h1 h2)).more' (by omega)
      · exact ((((HQ.out.setCell (p := ⟨w.heap.size, 0, none⟩) (Nat.le_refl _) _).setCell (p := ⟨w.heap.size, 1, none⟩) (Nat.le_refl _) _).setCell (p := ⟨w.heap.size, 2, none⟩) (Nat.le_refl _) _)).alloc (by rw [hsz]; exact HQ.out.size) _
      · simp [intOf]; omega
    case neg =>
      obtain rfl : k = d := by have := HD.out; omega
      obtain ⟨I, hI⟩ : ∃ I : Int, I = ((k + 1 : Nat) : Int) := ⟨_, rfl⟩
      have HI := Lib.hid hI
      rw [← hI] at hkd ⊢
      have dk : decide (I < D) = false := decide_eq_false hkd
      clear hI hlt hin hh hcl HB
      have hq0 : Below V.heap.size V (V.alloc (.cells #[.int .u8 48, .slice none 0 0, .slice none 0 0] 25)) := (Below.refl _ _).alloc (Nat.le_refl _) _
      have HY0 : Hid (RelY w V n (.int .i64 0) (V.alloc (.cells #[.int .u8 48, .slice none 0 0, .slice none 0 0] 25))) := Lib.hid ⟨0, none, 0, Nat.zero_le _, rfl, Lib.hid (Holds.fresh _ _ _), Lib.hid (OwnV.nil _ _ _), Lib.hid (fun g hg => by simp [blockOf] at hg), Lib.hid hq0⟩
      clear hq0
      go_wp2_with fail
      go_loopw [8] (fun i wr => RelY w V n i wr) (fun i _ => n - (intOf i).toNat)
      case atStart => exact HY0.out
      case round =>
        clear HY0
        obtain ⟨j, K, kc, hj, rfl, HH, HO, HK, HB⟩ := hrel
        by_cases hjn : j < n
        case pos =>
          have dj : decide ((j : Int) < (n : Int)) = true := decide_eq_true (by omega)
          have hsA : Holds (wr.alloc (.cells #[.int .u8 5, .slice none 0 0, .slice none 0 0] 25)) V.heap.size 25 #[.int .u8 48, .slice none 0 0, .slice K j kc] := HH.out.alloc _
          have HOA : Hid (OwnV 25 3 (wr.alloc (.cells #[.int .u8 5, .slice none 0 0, .slice none 0 0] 25)) K kc j ((List.replicate j leafL).flatMap lcell)) := Lib.hid (HO.out.keep fun g hg hlt => Below.heap_alloc wr _ g hlt)
          have HHA : Hid (Holds (wr.alloc (.cells #[.int .u8 5, .slice none 0 0, .slice none 0 0] 25)) wr.heap.size 25 [Value.int .u8 5, .slice none 0 0, .slice none 0 0].toArray) := Lib.hid (Holds.fresh _ _ _)
          have HW1 : Hid (∀ v ∈ [Value.int .u8 5, .slice none 0 0, .slice none 0 0], v.oneCell' = true) := Lib.hid (by intro v hv; simp at hv; rcases hv with rfl | rfl <;> rfl)
          have HLN : Hid (j ≤ 9000000000000000000 ∧ (j + 1) * 56 ≤ 140737488355328) := Lib.hid (by omega)
          have HF5 : Hid (∀ W, (wr.alloc (.cells #[.int .u8 5, .slice none 0 0, .slice none 0 0] 25)).grownBy W (blockOf K) → Holds W V.heap.size 25 #[.int .u8 48, .slice none 0 0, .slice K j kc]) := Lib.hid fun W hW => hsA.grown hW (fun e => by have := HK.out _ e.symm; omega)
          have z2 := HH.out.cell 2
          clear hsA
          go_wp2_with (first | (at_builtin; refine wpList_pushV _ rfl (.tmp 45) (.tmp 47) 23 rfl 25 _ 3 56 Try.underlying23 info_node rfl (by omega) (by omega) rfl HOA.out (cs := [Value.int .u8 5, .slice none 0 0, .slice none 0 0]) rfl rfl HW1.out HHA.out HLN.out ?_; intro g5 c5 W5 ho5 hg5 hat5 hlt5; have h5 := HF5.out _ hg5; have f5 := h5.open_ 2; have m5 := h5.cell 2))
          have hgl : V.heap.size + 1 ≤ g5 := by
            rcases hat5 with h | h
            · exact HK.out g5 h
            · rw [h]
              have h1 := HH.out.lt
              have : (wr.alloc (.cells #[.int .u8 5, .slice none 0 0, .slice none 0 0] 25)).heap.size = wr.heap.size + 1 := by simp
              omega
          have hbA : Below V.heap.size V (wr.alloc (.cells #[.int .u8 5, .slice none 0 0, .slice none 0 0] 25)) := HB.out.alloc HB.out.size _
          have hb5 : Below V.heap.size V W5 := hbA.trans ⟨hg5.os, hg5.tape, hg5.output, hg5.size, fun g hg => hg5.block g (Nat.lt_of_lt_of_le hg hbA.size) (fun e => by have := HK.out _ e.symm; omega)⟩
          refine ⟨⟨j + 1, some ⟨g5, 0, none⟩, c5, by omega, rfl, Lib.hid (h5.stored 2 _), Lib.hid ?_, Lib.hid (fun g hg => by change some g5 = some g at hg; injection hg with hg; omega), Lib.hid (hb5.setCell (p := ⟨V.heap.size, 2, none⟩) (Nat.le_refl _) _)⟩, by simp [intOf]; omega⟩
          rw [leaves_more]
          exact ho5.keep fun g hg hlt => Below.heap_setCell W5 ⟨V.heap.size, 2, none⟩ _ g (by show g ≠ V.heap.size; change some g5 = some g at hg; injection hg with hg; omega)
        case neg =>
          obtain rfl : j = n := by omega
          have dj : decide ((j : Int) < (j : Int)) = false := decide_eq_false (by omega)
          have hbw := HB.out
          have hX : Holds wr w.heap.size 25 lt.cells := HHB.out.under hbw HHB.out.lt
          have hXin := HIN.out.keep (w' := wr) (fun g _ h2 => hbw.block g h2)
          have hXat : TrAt wr wr.heap.size lt := hXin.at_.more' hbw.size
          have hYat : TrAt wr wr.heap.size (.mk 48 none 0 [] K kc (List.replicate j leafL)) := by
            rw [trAt_mk]
            refine ⟨by omega, Rd.nil_ _ _ _, fun x hx => by simp at hx, RowT.of_own (by simp) HO.out, fun i hi => ?_⟩
            have e : (List.replicate j leafL).getD i default = leafL := by
              simp at hi
              simp [List.getD, hi]
            rw [e]
            unfold leafL
            rw [trAt_mk]
            exact ⟨by omega, Rd.nil_ _ _ _, fun x hx => by simp at hx, ⟨by simp, by omega, fun hn => by simp at hn⟩, fun j hj => by simp at hj⟩
          have hYt : (Lt.mk 48 none 0 [] K kc (List.replicate j leafL)).t = wideT j := by
            rw [Lt.t_mk, List.map_replicate]
            unfold leafL wideT leaf
            rw [Lt.t_mk]
            rfl
          have HXA := Lib.hid hXat
          have HYA := Lib.hid hYat
          have HYT := Lib.hid hYt
          have HXH := Lib.hid hX
          have HBW := Lib.hid hbw
          clear hX hXin hXat hYat hYt hbw
          have hcl2 : lt.cells = #[.int .u8 (lt.tag : Int), .slice lt.ba lt.body.length lt.bc, .slice lt.ka lt.kids.length lt.kc] := rfl
          have hcly : (Lt.mk 48 none 0 [] K kc (List.replicate j leafL)).val = .agg #[.int .u8 48, .slice none 0 0, .slice K j kc] := by
            show Value.agg #[.int .u8 48, .slice none 0 0, .slice K (List.replicate j leafL).length kc] = _
            rw [List.length_replicate]
          have hk20 : k ≤ 19 := hd
          have cl1 := chain_len k
          have cl2 := wide_len j
          have cc1 := chain_count k
          have HRX := Lib.hid (fun W (hW : Below wr.heap.size wr W) => raw_any lt W wr.heap.size (HXA.out.under' hW) hW.size (by rw [HLT.out]; omega))
          have HRY := Lib.hid (fun W (hW : Below wr.heap.size wr W) => raw_any _ W wr.heap.size (HYA.out.under' hW) hW.size (by rw [HYT.out]; omega))
          have HIX := Lib.hid (fun W (hW : Below wr.heap.size wr W) => is_any lt W wr.heap.size (HXA.out.under' hW) hW.size (by rw [HLT.out]; omega) (by rw [HLT.out]; omega))
          have HIY := Lib.hid (fun W (hW : Below wr.heap.size wr W) => is_any _ W wr.heap.size (HYA.out.under' hW) hW.size (by rw [HYT.out, wide_count]; omega) (by rw [HYT.out]; omega))
          have HOX : Hid (∀ x ∈ (chainT k).enc, x < 256) := Lib.hid (by rw [← HLT.out]; exact enc_oct (lt.sz + 1) lt wr wr.heap.size (Nat.lt_succ_self _) HXA.out)
          have HOY : Hid (∀ x ∈ (wideT j).enc, x < 256) := Lib.hid (by rw [← HYT.out]; exact enc_oct (_ + 1) _ wr wr.heap.size (Nat.lt_succ_self _) HYA.out)
          rw [HLT.out, isT_chain k (by omega)] at HIX
          rw [HYT.out, isT_wide j (by omega)] at HIY
          rw [HLT.out] at HRX
          rw [HYT.out] at HRY
          rw [hcly] at HRY HIY
          rw [Lt.val_eq] at HRX HIX
          have HCX : Hid (∀ W, Below wr.heap.size wr W → W.cell? ⟨w.heap.size, 0, none⟩ = some (.int .u8 (lt.tag : Int)) ∧ W.cell? ⟨w.heap.size, 1, none⟩ = some (.slice lt.ba lt.body.length lt.bc) ∧ W.cell? ⟨w.heap.size, 2, none⟩ = some (.slice lt.ka lt.kids.length lt.kc)) := Lib.hid fun W hW => by
            have h := HXH.out.under hW HXH.out.lt
            exact ⟨h.cell 0, h.cell 1, h.cell 2⟩
          have HCY : Hid (∀ W, Below wr.heap.size wr W → W.cell? ⟨V.heap.size, 0, none⟩ = some (.int .u8 48) ∧ W.cell? ⟨V.heap.size, 1, none⟩ = some (.slice none 0 0) ∧ W.cell? ⟨V.heap.size, 2, none⟩ = some (.slice K j kc)) := Lib.hid fun W hW => by
            have h := HH.out.under hW HH.out.lt
            exact ⟨h.cell 0, h.cell 1, h.cell 2⟩
          have HFN : Hid (Below w.heap.size w wr) := Lib.hid (HQ.out.trans (HBW.out.mono HQ.out.size))
          have HEX : Hid (code (readT (chainT k).enc) = if k ≤ 11 then 0 else 3) := Lib.hid (read_chain k (by omega))
          have HEY : Hid (code (readT (wideT j).enc) = if j < 600 then 0 else 4) := Lib.hid (read_wide j (by omega))
          have HDK : Hid (D = ((k + 1 : Nat) : Int)) := HD
          clear hcl2 hcly cl1 cl2 cc1 HXA HYA HXH HYT HIN HLT HHB
          generalize lt.tag = a0 at *
          generalize lt.ba = a1 at *
          generalize lt.body.length = a2 at *
          generalize lt.bc = a3 at *
          generalize lt.ka = a4 at *
          generalize lt.kids.length = a5 at *
          generalize lt.kc = a6 at *
          go_wp2_with fail
          refine wp_region_noPanic ?_
          refine wp_region_held_drew (S := fun W => Below wr.heap.size wr W) (by kernel_rfl) (Below.refl _ wr).drew (fun hHeld => ?_)
          refine wpAnyH_take (i := 0) (oi := { dst := some 50, op := Op.load 25 (Operand.tmp 5), type := 25, pos := _, after := _, guard := none }) (v := ?_) rfl (by kernel_rfl) (by kernel_rfl) (by kernel_rfl) (fun _ _ _ h => h) (Or.inl ⟨by rfl, ?_⟩) hHeld ?_
          rotate_left 1
          · (intro W hW; obtain ⟨k0, k1, k2⟩ := HCX.out W hW; (try dsimp only at hW); go_simp; try with_reducible rfl)
          try simp only [Act.put, List.setIfInBounds_toArray, List.set_cons_zero, List.set_cons_succ]
          refine wpAnyH_take (i := 2) (oi := { dst := some 52, op := Op.load 25 (Operand.tmp 7), type := 25, pos := _, after := _, guard := none }) (v := ?_) rfl (by kernel_rfl) (by kernel_rfl) (by kernel_rfl) (fun _ _ _ h => h) (Or.inl ⟨by rfl, ?_⟩) hHeld ?_
          rotate_left 1
          · (intro W hW; obtain ⟨k0, k1, k2⟩ := HCY.out W hW; (try dsimp only at hW); go_simp; try with_reducible rfl)
          try simp only [Act.put, List.setIfInBounds_toArray, List.set_cons_zero, List.set_cons_succ]
          refine wpAnyH_ready (rs := [1]) (by kernel_rfl) (by simp) ?_
          refine AllReadyH.cons (o := { dst := some 51, op := Op.call { callee := Callee.value (Operand.func 20), args := #[Operand.tmp 50], argTypes := #[25] }, type := 22, pos := _, after := _, guard := none }) rfl (fun K hK => ?_) AllReadyH.nil
          go_simp
          refine (HRX.out _ (Below.refl _ wr).drew).mono ?_
          rintro e w4 ⟨A4, c4, rfl, hm4, hb4⟩
          have b4 : Hid (Below wr.heap.size wr w4) := Lib.hid ((Below.refl _ wr).drew.trans hb4)
          have B4 : Hid (Below wr.heap.size wr w4) := b4
          have M4 : Hid (Rd .u8 w4 w4.heap.size A4 c4 (chainT k).enc) := Lib.hid hm4.rd
          clear hb4 hm4
          go_simp
          refine hK.out _ _ (b4.out) (fun _ => ?_)
          clear hK K hHeld
          try simp only [Act.put, List.setIfInBounds_toArray, List.set_cons_zero, List.set_cons_succ]
          refine wpAnyH_strong (S' := fun W => Below w4.heap.size w4 W) (fun W hW => b4.out.trans (hW.mono b4.out.size)) _ _ _ _ ?_
          have hHeld : (fun W => Below w4.heap.size w4 W) w4 := Below.refl _ _
          refine wpAnyH_ready (rs := [3]) (by kernel_rfl) (by simp) ?_
          refine AllReadyH.cons (o := { dst := some 53, op := Op.call { callee := Callee.value (Operand.func 20), args := #[Operand.tmp 52], argTypes := #[25] }, type := 22, pos := _, after := _, guard := none }) rfl (fun K hK => ?_) AllReadyH.nil
          go_simp
          refine (HRY.out _ B4.out).mono ?_
          rintro e w5 ⟨A5, c5, rfl, hm5, hb5⟩
          have b5 : Hid (Below w4.heap.size w4 w5) := Lib.hid (hb5)
          have B5 := Lib.hid (B4.out.trans (b5.out.mono B4.out.size))
          have M5 : Hid (Rd .u8 w5 w5.heap.size A5 c5 (wideT j).enc) := Lib.hid hm5.rd
          clear hb5 hm5
          go_simp
          refine hK.out _ _ (b5.out) (fun _ => ?_)
          clear hK K hHeld
          try simp only [Act.put, List.setIfInBounds_toArray, List.set_cons_zero, List.set_cons_succ]
          refine wpAnyH_strong (S' := fun W => Below w5.heap.size w5 W) (fun W hW => b5.out.trans (hW.mono b5.out.size)) _ _ _ _ ?_
          have hHeld : (fun W => Below w5.heap.size w5 W) w5 := Below.refl _ _
          refine wpAnyH_take (i := 4) (oi := { dst := some 9, op := Op.assign (Operand.tmp 51), type := 22, pos := _, after := _, guard := none }) (v := ?_) rfl (by kernel_rfl) (by kernel_rfl) (by kernel_rfl) (fun _ _ _ h => h) (Or.inl ⟨by rfl, ?_⟩) hHeld ?_
          rotate_left 1
          · (intro W hW; (try dsimp only at hW); go_simp; try with_reducible rfl)
          try simp only [Act.put, List.setIfInBounds_toArray, List.set_cons_zero, List.set_cons_succ]
          refine wpAnyH_take (i := 5) (oi := { dst := some 10, op := Op.assign (Operand.tmp 53), type := 22, pos := _, after := _, guard := none }) (v := ?_) rfl (by kernel_rfl) (by kernel_rfl) (by kernel_rfl) (fun _ _ _ h => h) (Or.inl ⟨by rfl, ?_⟩) hHeld ?_
          rotate_left 1
          · (intro W hW; (try dsimp only at hW); go_simp; try with_reducible rfl)
          try simp only [Act.put, List.setIfInBounds_toArray, List.set_cons_zero, List.set_cons_succ]
          refine wpAnyH_done (by kernel_rfl) ?_ _
          refine NoPanic.normal ?_
          have M45 : Hid (Rd .u8 w5 w4.heap.size A4 c4 (chainT k).enc) := Lib.hid (M4.out.under b5.out)
          have S45 := Lib.hid b5.out.size
          obtain ⟨nx, hnx⟩ : ∃ nx, (chainT k).enc.length = nx := ⟨_, rfl⟩
          obtain ⟨ny, hny⟩ : ∃ ny, (wideT j).enc.length = ny := ⟨_, rfl⟩
          rw [hnx, hny]
          have HNX := Lib.hid hnx
          have HNY := Lib.hid hny
          have HM5 := M5
          clear hnx hny HRX HRY M4 b4 b5 hHeld
          obtain ⟨ex, hex⟩ : ∃ ex, code (readT (chainT k).enc) = ex := ⟨_, rfl⟩
          obtain ⟨ey, hey⟩ : ∃ ey, code (readT (wideT j).enc) = ey := ⟨_, rfl⟩
          have hex2 := HEX.out
          have hey2 := HEY.out
          rw [hex] at hex2
          rw [hey] at hey2
          have HEX1 := Lib.hid hex
          have HEY1 := Lib.hid hey
          have hDk := HDK.out
          clear hex hey HEX HEY
          have HBX : Hid ((k ≤ 11 ∧ ex = 0 ∧ D ≤ 12) ∨ (¬ k ≤ 11 ∧ ex = 3 ∧ ¬ D ≤ 12)) := Lib.hid (by
            by_cases h : k ≤ 11
            · rw [if_pos h] at hex2; exact .inl ⟨h, hex2, by omega⟩
            · rw [if_neg h] at hex2; exact .inr ⟨h, hex2, by omega⟩)
          have HBY : Hid ((j < 600 ∧ ey = 0) ∨ (¬ j < 600 ∧ ey = 4)) := Lib.hid (by
            by_cases h : j < 600
            · rw [if_pos h] at hey2; exact .inl ⟨h, hey2⟩
            · rw [if_neg h] at hey2; exact .inr ⟨h, hey2⟩)
          clear hex2 hey2 hDk
          go_wp2_with fail
          refine (read_any w5 _ A4 c4 nx (chainT k).enc M45.out HNX.out HOX.out S45.out).mono ?_
          intro e w6 hp
          obtain ⟨l6, rfl, _, _, _, hb6⟩ := read_lt hp
          rw [HEX1.out, Lt.val_eq]
          generalize l6.tag = xt at *
          generalize l6.ba = xa at *
          generalize l6.body.length = xl at *
          generalize l6.bc = xc at *
          generalize l6.ka = xk at *
          generalize l6.kids.length = xn at *
          generalize l6.kc = xq at *
          have B6 := Lib.hid (B5.out.trans (hb6.mono B5.out.size))
          have S6 := Lib.hid hb6
          have hq7 : Below w6.heap.size w6 (w6.alloc (.cells #[.int .u8 (xt : Int), .slice xa xl xc, .slice xk xn xq] 25)) := (Below.refl _ _).alloc (Nat.le_refl _) _
          have B7 := Lib.hid (B6.out.trans (hq7.mono B6.out.size))
          have S7 := Lib.hid (S6.out.trans (hq7.mono S6.out.size))
          have M57 : Hid (Rd .u8 (w6.alloc (.cells #[.int .u8 (xt : Int), .slice xa xl xc, .slice xk xn xq] 25)) w5.heap.size A5 c5 (wideT j).enc) := Lib.hid (HM5.out.under S7.out)
          clear hp hb6 hq7
          go_wp2_with fail
          refine (read_any _ _ A5 c5 ny (wideT j).enc M57.out HNY.out HOY.out S7.out.size).mono ?_
          intro e w8 hp
          obtain ⟨l8, rfl, _, _, _, hb8⟩ := read_lt hp
          rw [HEY1.out, Lt.val_eq]
          generalize l8.tag = yt at *
          generalize l8.ba = ya at *
          generalize l8.body.length = yl at *
          generalize l8.bc = yc at *
          generalize l8.ka = yk at *
          generalize l8.kids.length = yn at *
          generalize l8.kc = yq at *
          have B8 := Lib.hid (B7.out.trans (hb8.mono B7.out.size))
          have hq9 : Below w8.heap.size w8 (w8.alloc (.cells #[.int .u8 (yt : Int), .slice ya yl yc, .slice yk yn yq] 25)) := (Below.refl _ _).alloc (Nat.le_refl _) _
          have B9 := Lib.hid (B8.out.trans (hq9.mono B8.out.size))
          obtain ⟨z0, z1, z2⟩ := HCX.out _ B9.out
          clear hp hb8 hq9
          rcases HBX.out with ⟨h1, rfl, h2⟩ | ⟨h1, rfl, h2⟩ <;> rcases HBY.out with ⟨h3, rfl⟩ | ⟨h3, rfl⟩
          all_goals
            have j1 : decide (D ≤ 12) = decide (k ≤ 11) := by rw [decide_eq_decide]; have := HDK.out; omega
            have j2 : decide ((j : Int) < 600) = decide (j < 600) := by rw [decide_eq_decide]; omega
            first | rw [decide_eq_true h1] at j1 HIX | rw [decide_eq_false h1] at j1 HIX
            first | rw [decide_eq_true h3] at j2 HIY | rw [decide_eq_false h3] at j2 HIY
            clear HBX HBY
            go_wp2_with fail
            refine (HIX.out _ B9.out).mono ?_
            rintro e w10 ⟨rfl, hb10⟩
            have B10 := Lib.hid (B9.out.trans (hb10.mono B9.out.size))
            obtain ⟨y0, y1, y2⟩ := HCY.out _ B10.out
            clear hb10 z0 z1 z2
            go_wp2_with fail
            refine (HIY.out _ B10.out).mono ?_
            rintro e w11 ⟨rfl, hb11⟩
            have B11 := Lib.hid (B10.out.trans (hb11.mono B10.out.size))
            clear hb11 y0 y1 y2
            go_wp2_with fail
            refine (known_any _).mono ?_
            rintro e w12 ⟨rfl, hb12⟩
            have HF := Lib.hid (HFN.out.trans ((B11.out.trans (hb12.mono B11.out.size)).mono HFN.out.size))
            clear hb12
            go_wp2_with fail
            go_ret
            exact ⟨rfl, HF.out⟩
end Go.Proofs.Ytlggbkacaemdjaa
