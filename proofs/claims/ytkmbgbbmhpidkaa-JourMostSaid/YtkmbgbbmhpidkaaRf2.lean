/-
  The document's disk in memory.
-/
import Derived.Test.YtkmbgbbmhpidkaaRf1
namespace Go.Proofs.Ytkmbgbbmhpidkaa
open Go.RowKit
set_option linter.unusedVariables false
set_option linter.unusedSimpArgs false

def rcells (gS n cS : Nat) (A : Option Addr) (m cw ops : Nat) (at_ : Int) (K : Option Addr) (k ck : Nat) (armed down : Bool) : Array Value :=
  #[.slice (some ⟨gS, 0, none⟩) n cS, .slice A m cw, .int .i64 (ops : Int), .int .i64 at_, .slice K k ck, .bool armed, .bool down]
def rslot (r : Rw) : Value := .slice r.a r.l.length r.c
def wslot (p : Nat × Rw) : List Value := [.int .i64 (p.1 : Int), rslot p.2]
/-- A sector's bytes lie aside from what turns. -/
def Good (w : World) (gx gS : Nat) (A : Option Addr) (r : Rw) : Prop :=
  Rd .u8 w w.heap.size r.a r.c r.l ∧ r.l.length = 64 ∧ ∀ g, blockOf r.a = some g → g ≠ gx ∧ g ≠ gS ∧ blockOf A ≠ some g
theorem Rd.lt {w : World} {B : Nat} {A : Option Addr} {c : Nat} {l : List Nat} (h : Rd .u8 w B A c l) (h0 : 0 < l.length) {g : Nat} (hg : blockOf A = some g) : g < B := by
  obtain ⟨b, off, rfl, hb, _⟩ := h.2.2 h0
  obtain rfl : b = g := by simpa [blockOf] using hg
  exact hb
theorem Rd.keepB {w w' : World} {A : Option Addr} {c : Nat} {l : List Nat} (h : Rd .u8 w w.heap.size A c l) (hs : w.heap.size ≤ w'.heap.size) (hk : ∀ g, blockOf A = some g → g < w.heap.size → w'.heap[g]? = w.heap[g]?) : Rd .u8 w' w'.heap.size A c l :=
  ⟨h.1, h.2.1, fun hn => by
    obtain ⟨b, off, rfl, hb, hc⟩ := h.2.2 hn
    exact ⟨b, off, rfl, Nat.lt_of_lt_of_le hb hs, fun j hj => (World.cell?_of_block (a := ⟨b, off + j, none⟩) (hk b rfl hb)).trans (hc j hj)⟩⟩
theorem Good.keep {w w' : World} {gx gS : Nat} {A : Option Addr} {r : Rw} (h : Good w gx gS A r) (hs : w.heap.size ≤ w'.heap.size) (hk : ∀ g, blockOf r.a = some g → g < w.heap.size → w'.heap[g]? = w.heap[g]?) : Good w' gx gS A r :=
  ⟨h.1.keepB hs hk, h.2⟩

structure RfAt (w : World) (gx gS cS : Nat) (A : Option Addr) (cw : Nat) (K : Option Addr) (ck : Nat) (at_ : Int) (kl : List Bool) (rs : List Rw) (ws : List (Nat × Rw)) (s : Dk) : Prop where
  hd : Holds w gx 64 (rcells gS rs.length cS A ws.length cw s.ops at_ K kl.length ck s.armed s.down)
  hS : OwnV 40 1 w (some ⟨gS, 0, none⟩) cS rs.length (rs.map rslot)
  hW : OwnV 42 2 w A cw ws.length (ws.flatMap wslot)
  rd : ∀ r ∈ rs, Good w gx gS A r
  wd : ∀ p ∈ ws, Good w gx gS A p.2
  hk : Truths w K ck kl
  eS : rs.map (fun r => r.l) = s.lasts
  eW : ws.map (fun p => (p.1, p.2.l)) = s.waits
  ea : s.armed = true → at_ = s.at_ ∧ kl = s.keep
  xs : gx ≠ gS
  ax : blockOf A ≠ some gx ∧ blockOf A ≠ some gS
  kx : ∀ g, blockOf K = some g → g < w.heap.size ∧ g ≠ gx ∧ g ≠ gS ∧ blockOf A ≠ some g
  n1 : 1 ≤ rs.length
  n2 : rs.length ≤ 2000
  wat : ∀ p ∈ ws, p.1 < rs.length
section
variable {w w' : World} {gx gS cS : Nat} {A : Option Addr} {cw : Nat} {K : Option Addr} {ck : Nat} {at_ : Int} {kl : List Bool} {rs : List Rw} {ws : List (Nat × Rw)} {s s' : Dk}
/-- Every block of its. -/
def RfBlk (gx gS : Nat) (A K : Option Addr) (rs : List Rw) (ws : List (Nat × Rw)) (g : Nat) : Prop :=
  g = gx ∨ g = gS ∨ blockOf A = some g ∨ blockOf K = some g ∨ (∃ r ∈ rs, blockOf r.a = some g) ∨ ∃ p ∈ ws, blockOf p.2.a = some g
theorem RfAt.lt (h : RfAt w gx gS cS A cw K ck at_ kl rs ws s) {g : Nat} (hg : RfBlk gx gS A K rs ws g) : g < w.heap.size := by
  rcases hg with rfl | rfl | hg | hg | ⟨r, hr, hg⟩ | ⟨p, hp, hg⟩
  · exact Holds.lt h.hd
  · exact h.hS.lt rfl
  · exact h.hW.lt hg
  · exact (h.kx g hg).1
  · exact (h.rd r hr).1.lt (by rw [(h.rd r hr).2.1]; omega) hg
  · exact (h.wd p hp).1.lt (by rw [(h.wd p hp).2.1]; omega) hg
/-- Kept when its blocks are. -/
theorem RfAt.keepAll (h : RfAt w gx gS cS A cw K ck at_ kl rs ws s) (hs : w.heap.size ≤ w'.heap.size) (hk : ∀ g, RfBlk gx gS A K rs ws g → g < w.heap.size → w'.heap[g]? = w.heap[g]?) : RfAt w' gx gS cS A cw K ck at_ kl rs ws s :=
  { h with
    hd := (hk gx (.inl rfl) (Holds.lt h.hd)).trans h.hd
    hS := h.hS.keep fun g hg hlt => hk g (.inr (.inl (by simpa [blockOf] using hg.symm))) hlt
    hW := h.hW.keep fun g hg hlt => hk g (.inr (.inr (.inl hg))) hlt
    rd := fun r hr => (h.rd r hr).keep hs fun g hg hlt => hk g (.inr (.inr (.inr (.inr (.inl ⟨r, hr, hg⟩))))) hlt
    wd := fun p hp => (h.wd p hp).keep hs fun g hg hlt => hk g (.inr (.inr (.inr (.inr (.inr ⟨p, hp, hg⟩))))) hlt
    hk := h.hk.keep hs fun g hg hlt => hk g (.inr (.inr (.inr (.inl hg)))) hlt
    kx := fun g hg => ⟨Nat.lt_of_lt_of_le (h.kx g hg).1 hs, (h.kx g hg).2⟩ }
theorem RfAt.under (h : RfAt w gx gS cS A cw K ck at_ kl rs ws s) (hb : Below w.heap.size w w') : RfAt w' gx gS cS A cw K ck at_ kl rs ws s := h.keepAll hb.size fun g _ hlt => hb.block g hlt
/-- Only its own cells turn. -/
theorem RfAt.re (h : RfAt w gx gS cS A cw K ck at_ kl rs ws s) (hs : w.heap.size ≤ w'.heap.size) (hk : ∀ g, g ≠ gx → g < w.heap.size → w'.heap[g]? = w.heap[g]?)
    (hd : Holds w' gx 64 (rcells gS rs.length cS A ws.length cw s'.ops at_ K kl.length ck s'.armed s'.down)) (e1 : s'.lasts = s.lasts) (e2 : s'.waits = s.waits) (ea : s'.armed = true → at_ = s'.at_ ∧ kl = s'.keep) :
    RfAt w' gx gS cS A cw K ck at_ kl rs ws s' :=
  { hd := hd
    hS := h.hS.keep fun g hg hlt => hk g (by obtain rfl : gS = g := by simpa [blockOf] using hg
                                             exact h.xs.symm) hlt
    hW := h.hW.keep fun g hg hlt => hk g (fun e => h.ax.1 (by rw [hg, e])) hlt
    rd := fun r hr => (h.rd r hr).keep hs fun g hg hlt => hk g ((h.rd r hr).2.2 g hg).1 hlt
    wd := fun p hp => (h.wd p hp).keep hs fun g hg hlt => hk g ((h.wd p hp).2.2 g hg).1 hlt
    hk := h.hk.keep hs fun g hg hlt => hk g (h.kx g hg).2.1 hlt
    eS := by rw [e1]; exact h.eS
    eW := by rw [e2]; exact h.eW
    ea := ea
    xs := h.xs
    ax := h.ax
    kx := fun g hg => ⟨Nat.lt_of_lt_of_le (h.kx g hg).1 hs, (h.kx g hg).2⟩
    n1 := h.n1
    n2 := h.n2
    wat := h.wat }
theorem RfAt.cell (h : RfAt w gx gS cS A cw K ck at_ kl rs ws s) (i : Nat) : w.cell? ⟨gx, i, none⟩ = (rcells gS rs.length cS A ws.length cw s.ops at_ K kl.length ck s.armed s.down)[i]? := h.hd.cell i
/-- A sector's row. -/
theorem RfAt.row (h : RfAt w gx gS cS A cw K ck at_ kl rs ws s) {i : Nat} (hi : i < rs.length) : w.cell? ⟨gS, i, none⟩ = some (.slice (rs.getD i default).a 64 (rs.getD i default).c) ∧ w.frozen? ⟨gS, i, none⟩ = false ∧ Rd .u8 w w.heap.size (rs.getD i default).a (rs.getD i default).c (rs.getD i default).l ∧ (rs.getD i default).l = s.lasts.getD i [] ∧ (rs.getD i default).l.length = 64 := by
  have e : rs[i]? = some (rs.getD i default) := by simp [List.getD, hi]
  have hg := h.rd _ (List.mem_of_getElem? e)
  obtain ⟨g, hA, _, hc, hf⟩ := h.hS.at_ (j := i) (v := rslot (rs.getD i default)) (by rw [List.getElem?_map, e]; rfl)
  injection hA with hA
  obtain rfl : gS = g := by injection hA
  refine ⟨by rw [hc, rslot, hg.2.1], hf, hg.1, ?_, hg.2.1⟩
  rw [← h.eS]
  simp [List.getD, hi]
/-- A write that waits. -/
theorem RfAt.wait (h : RfAt w gx gS cS A cw K ck at_ kl rs ws s) {k : Nat} (hk : k < ws.length) : ∃ g, A = some ⟨g, 0, none⟩ ∧ w.cell? ⟨g, k * 2, none⟩ = some (.int .i64 ((ws.getD k default).1 : Int)) ∧ w.cell? ⟨g, k * 2 + 1, none⟩ = some (.slice (ws.getD k default).2.a 64 (ws.getD k default).2.c) ∧ Rd .u8 w w.heap.size (ws.getD k default).2.a (ws.getD k default).2.c (ws.getD k default).2.l ∧ ((ws.getD k default).1, (ws.getD k default).2.l) = s.waits.getD k default ∧ (ws.getD k default).2.l.length = 64 ∧ (ws.getD k default).1 < rs.length := by
  have e : ws[k]? = some (ws.getD k default) := by simp [List.getD, hk]
  have hm := List.mem_of_getElem? e
  have hg := h.wd _ hm
  have f0 := flat_at (f := wslot) (m := 2) (L := ws) (fun _ _ => rfl) e (j := 0) (by omega)
  have f1 := flat_at (f := wslot) (m := 2) (L := ws) (fun _ _ => rfl) e (j := 1) (by omega)
  obtain ⟨g, hA, _, hc, _⟩ := h.hW.at_ (j := 2 * k + 0) (v := .int .i64 ((ws.getD k default).1 : Int)) (by rw [f0]; rfl)
  obtain ⟨g1, hA1, _, hc1, _⟩ := h.hW.at_ (j := 2 * k + 1) (v := rslot (ws.getD k default).2) (by rw [f1]; rfl)
  rw [hA] at hA1
  injection hA1 with hA1
  obtain rfl : g = g1 := by injection hA1
  refine ⟨g, hA, by rw [show k * 2 = 2 * k + 0 by omega]; exact hc, by rw [show k * 2 + 1 = 2 * k + 1 by omega, hc1, rslot, hg.2.1], hg.1, ?_, hg.2.1, h.wat _ hm⟩
  rw [← h.eW]
  simp [List.getD, hk]
end

def RelRd (w : World) (gx gS cS : Nat) (A : Option Addr) (cw : Nat) (K : Option Addr) (ck : Nat) (at_ : Int) (kl : List Bool) (rs : List Rw) (ws : List (Nat × Rw)) (s : Dk) (i m : Nat) (b k : Value) (wr : World) : Prop :=
  ∃ (j : Nat) (a : Option Addr) (c : Nat), j ≤ m ∧ k = .int .i64 j ∧ b = .slice a 64 c ∧ w = wr ∧ Rd .u8 w w.heap.size a c ((fallN (fun _ => true) s.waits s.lasts j).getD i []) ∧ ((fallN (fun _ => true) s.waits s.lasts j).getD i []).length = 64

set_option maxRecDepth 100000 in
set_option maxHeartbeats 1000000 in
theorem rread_no (w : World) (gx gS cS : Nat) (A : Option Addr) (cw : Nat) (K : Option Addr) (ck : Nat) (at_ : Int) (kl : List Bool) (rs : List Rw) (ws : List (Nat × Rw)) (s : Dk) (h : RfAt w gx gS cS A cw K ck at_ kl rs ws s) (i : Int) (hi : ¬ (0 ≤ i ∧ i < (rs.length : Int))) :
    Calls Try.prog 51 #[.pointer (some ⟨gx, 0, none⟩), .int .i64 i] w fun e w' => e = .returned (.slice none 0 0) ∧ Below w.heap.size w w' := by
  have c0 : w.cell? ⟨gx, 0, none⟩ = some (.slice (some ⟨gS, 0, none⟩) rs.length cS) := h.cell 0
  by_cases h0 : i < 0
  · have d0 : decide (i < 0) = true := decide_eq_true h0
    clear h
    go_enter Try.func51, Try.ntmps51
    go_wp2_with fail
    go_ret
    exact ⟨rfl, Below.refl _ _⟩
  · have d0 : decide (i < 0) = false := decide_eq_false h0
    have d1 : decide ((rs.length : Int) ≤ i) = true := decide_eq_true (by omega)
    clear h
    go_enter Try.func51, Try.ntmps51
    go_wp2_with fail
    go_ret
    exact ⟨rfl, Below.refl _ _⟩
set_option maxRecDepth 100000 in
set_option maxHeartbeats 2000000 in
theorem rread_yes (w : World) (gx gS cS : Nat) (A : Option Addr) (cw : Nat) (K : Option Addr) (ck : Nat) (at_ : Int) (kl : List Bool) (rs : List Rw) (ws : List (Nat × Rw)) (s : Dk) (h : RfAt w gx gS cS A cw K ck at_ kl rs ws s) (hm : ws.length ≤ 100000) (i : Nat) (hi : i < rs.length) :
    Calls Try.prog 51 #[.pointer (some ⟨gx, 0, none⟩), .int .i64 i] w fun e w' => ∃ g' c', e = .returned (.slice (some ⟨g', 0, none⟩) 64 c') ∧ Rd .u8 w' w'.heap.size (some ⟨g', 0, none⟩) c' ((fallN (fun _ => true) s.waits s.lasts s.waits.length).getD i []) ∧ Below w.heap.size w w' := by
  have c0 : w.cell? ⟨gx, 0, none⟩ = some (.slice (some ⟨gS, 0, none⟩) rs.length cS) := h.cell 0
  have c1 : w.cell? ⟨gx, 1, none⟩ = some (.slice A ws.length cw) := h.cell 1
  obtain ⟨r0, _, rr, re, rl⟩ := h.row hi
  rw [re] at rr rl
  clear re
  generalize rs.getD i default = r0v at *
  have hlw : s.waits.length = ws.length := by rw [← h.eW, List.length_map]
  have hll : s.lasts.length = rs.length := by rw [← h.eS, List.length_map]
  have HLW := Lib.hid hlw
  have HLL := Lib.hid hll
  have HRR := Lib.hid rr
  have HRL := Lib.hid rl
  have HH := Lib.hid h
  have hle := h.hW.le
  have d0 : decide ((i : Int) < 0) = false := decide_eq_false (by omega)
  have d1 : decide ((rs.length : Int) ≤ (i : Int)) = false := decide_eq_false (by omega)
  have i0 : (0 : Int) ≤ (i : Int) := by omega
  have i1 : (i : Int) < (rs.length : Int) := by omega
  clear rr rl h hlw hll
  go_enter Try.func51, Try.ntmps51
  go_wp2_with fail
  go_loopw [5, 6] (fun b k wr => RelRd w gx gS cS A cw K ck at_ kl rs ws s i ws.length b k wr) (fun b k _ => ws.length - (intOf k).toNat)
  case atStart => exact ⟨0, _, _, Nat.zero_le _, rfl, rfl, rfl, HRR.out, HRL.out⟩
  case round =>
    obtain ⟨j, a, c, hj, rfl, rfl, rfl, hrd, hrl⟩ := hrel
    have HRD := Lib.hid hrd
    have HRD2 := Lib.hid hrl
    clear hrd hrl HRR HRL
    by_cases hjn : j < ws.length
    case pos =>
      have hjI : (j : Int) < (ws.length : Int) := by omega
      have hj0 : (0 : Int) ≤ (j : Int) := by omega
      obtain ⟨g, rfl, q0, q1, qr, qe, ql, qlt⟩ := HH.out.wait hjn
      have HQR := Lib.hid qr
      have HQL := Lib.hid ql
      have hstep : fallN (fun _ => true) s.waits s.lasts (j + 1) = (fallN (fun _ => true) s.waits s.lasts j).set (ws.getD j default).1 (ws.getD j default).2.l := by
        rw [fallN, if_pos rfl, ← qe]
      have HST := Lib.hid hstep
      have HQT := Lib.hid qlt
      clear qr qe ql hstep qlt
      generalize ws.getD j default = p at *
      obtain ⟨pa, pr⟩ := p
      by_cases hp : pa = i
      case pos =>
        have hpB : ((pa : Int) == (i : Int)) = true := by rw [beq_iff_eq]; omega
        go_wp2_with fail
        go_roundw
        case rel =>
          refine ⟨j + 1, _, _, by omega, by go_num, rfl, rfl, ?_⟩
          have e : (fallN (fun _ => true) s.waits s.lasts (j + 1)).getD i [] = pr.l := by
            rw [HST.out]
            subst hp
            have : pa < (fallN (fun _ => true) s.waits s.lasts j).length := by rw [fallN_length, HLL.out]; exact HQT.out
            simp [List.getD, this]
          rw [e]
          exact ⟨HQR.out, HQL.out⟩
        case measure => simp [intOf]; omega
      case neg =>
        have hpB : ((pa : Int) == (i : Int)) = false := by rw [beq_eq_false_iff_ne]; omega
        go_wp2_with fail
        go_roundw
        case rel =>
          refine ⟨j + 1, _, _, by omega, by go_num, rfl, rfl, ?_⟩
          have e : (fallN (fun _ => true) s.waits s.lasts (j + 1)).getD i [] = (fallN (fun _ => true) s.waits s.lasts j).getD i [] := by
            rw [HST.out]
            simp [List.getD, List.getElem?_set_ne hp]
          rw [e]
          exact ⟨HRD.out, HRD2.out⟩
        case measure => simp [intOf]; omega
    case neg =>
      obtain rfl : j = ws.length := by omega
      have hjI : ¬ ((ws.length : Int) < (ws.length : Int)) := by omega
      have hcp := run_sector (w.alloc (.cells #[] 5)) 64 (HRD.out.under ((Below.refl _ w).alloc (Nat.le_refl _) _)) HRD2.out (by omega) (by omega) w.heap.size (heap_alloc_new w _) 40
      obtain ⟨g', c2, w', hrun, hgr, hrd, hat, hlt⟩ := hcp
      have HGR := Lib.hid hgr
      have HRT := Lib.hid hrd
      clear hgr hrd hat hlt
      go_wp2_with (refine wpList_append_run _ rfl (.tmp 52) (.tmp 53) 40 rfl rfl _ _ rfl rfl _ _ hrun ?_)
      go_ret
      refine ⟨_, _, rfl, ?_, ?_⟩
      · rw [HLW.out]; exact HRT.out
      · exact ((Below.refl _ w).alloc (Nat.le_refl _) _).trans (one_below HGR.out (Nat.le_refl _) (by simp))
end Go.Proofs.Ytkmbgbbmhpidkaa
