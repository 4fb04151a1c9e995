/-
  Of writes of one sector the last one kept stays.
-/
import Derived.Test.YtbenkffjfjddgaaDev16
import Derived.Test.YtbenkffjfjddgaaDevR
namespace Go.Proofs.Ytbenkffjfjddgaa
open Go.RowKit
set_option linter.unusedVariables false
set_option linter.unusedSimpArgs false
attribute [local go_sem ↓] Go.wp_at_zero Go.wp_at_succ

/-- A disk with blocks from B on, none of them wb. -/
def DiskX (w : World) (B wb gd : Nat) (s : Dk) : Prop := B ≤ w.heap.size ∧ wb < w.heap.size ∧ Disk w (fun k => B ≤ k ∧ k ≠ wb) gd s
section
variable {w w' : World} {B wb gd : Nat} {s s' : Dk}
theorem Disk.low {F : Nat → Prop} (h : Disk w F gd s) : Disk w (fun k => F k ∧ k < w.heap.size) gd s := by
  obtain ⟨gn, gl, A, cw, K, ck, h, f1, f2, f3, f4, f5⟩ := h
  exact ⟨gn, gl, A, cw, K, ck, h, ⟨f1, Holds.lt h.hd⟩, ⟨f2, h.hn.lt⟩, ⟨f3, h.hl.lt⟩, fun g hg => ⟨f4 g hg, h.hw.lt hg⟩, fun g hg => ⟨f5 g hg, h.kw g hg⟩⟩
theorem DiskX.toB (h : DiskX w B wb gd s) : DiskB w B gd s := ⟨h.1, h.2.2.more fun k hk => hk.1⟩
theorem DiskX.under (h : DiskX w B wb gd s) (hb : Below w.heap.size w w') : DiskX w' B wb gd s := by
  refine ⟨Nat.le_trans h.1 hb.size, Nat.lt_of_lt_of_le h.2.1 hb.size, ?_⟩
  obtain ⟨gn, gl, A, cw, K, ck, hd, f⟩ := h.2.2
  exact ⟨gn, gl, A, cw, K, ck, hd.keepAll hb.size fun g _ hg => hb.block g hg, f⟩
theorem DiskX.drew (h : DiskX w B wb gd s) : DiskX w.drew B wb gd s := h.under (Below.refl _ w).drew
theorem DiskX.of (h : DiskB w B gd s) (hb : Below w.heap.size w w') (hw : w.heap.size ≤ wb) (hlt : wb < w'.heap.size) : DiskX w' B wb gd s := by
  refine ⟨(h.under hb).1, hlt, ?_⟩
  obtain ⟨gn, gl, A, cw, K, ck, hd, f⟩ := h.2.low
  refine Disk.more (F := fun k => B ≤ k ∧ k < w.heap.size) ⟨gn, gl, A, cw, K, ck, hd.keepAll hb.size fun g _ hg => hb.block g hg, f⟩ fun k hk => ⟨hk.1, by omega⟩
theorem DiskX.turn (h : DiskX w B wb gd s) (hd : Disk w' (grow (fun k => B ≤ k ∧ k ≠ wb) w w') gd s') (ho : Only (fun k => B ≤ k ∧ k ≠ wb) w w') : DiskX w' B wb gd s' ∧ Below B w w' ∧ w'.heap[wb]? = w.heap[wb]? :=
  ⟨⟨Nat.le_trans h.1 ho.size, Nat.lt_of_lt_of_le h.2.1 ho.size, hd.more fun k hk => hk.elim (fun e => e) fun e => ⟨by have := h.1; omega, by have := h.2.1; omega⟩⟩, ho.below (fun k hk => hk.1) h.1, ho.block wb h.2.1 fun e => e.2 rfl⟩
theorem diskX_write (h : DiskX w B wb gd s) (i : Int) (A2 : Option Addr) (n2 c2 : Nat) (x : List Nat) (hn : x.length = n2) (hr : Rd .u8 w w.heap.size A2 c2 x) (hwl : s.waits.length ≤ 100000) (hops : s.ops ≤ 1000000000) :
    Calls Try.prog 12 #[.pointer (some ⟨gd, 0, none⟩), .int .i64 i, .slice A2 n2 c2] w fun e w' => e = .returned (.int .i64 ((s.write i x).2 : Nat)) ∧ DiskX w' B wb gd (s.write i x).1 ∧ Below B w w' ∧ w'.heap[wb]? = w.heap[wb]? :=
  (disk_write h.2.2 i A2 n2 c2 x hn hr hwl hops).mono fun e w' ⟨he, hd, ho⟩ => ⟨he, h.turn hd ho⟩
theorem diskX_flush (h : DiskX w B wb gd s) (hwl : s.waits.length ≤ 100000) (hops : s.ops ≤ 1000000000) :
    Calls Try.prog 14 #[.pointer (some ⟨gd, 0, none⟩)] w fun e w' => e = .returned (.int .i64 (s.flush.2 : Nat)) ∧ DiskX w' B wb gd s.flush.1 ∧ Below B w w' ∧ w'.heap[wb]? = w.heap[wb]? :=
  (disk_flush h.2.2 hwl hops).mono fun e w' ⟨he, hd, ho⟩ => ⟨he, h.turn hd ho⟩
theorem diskX_arm (h : DiskX w B wb gd s) (a : Int) (K2 : Option Addr) (c2 n2 : Nat) (l : List Bool) (hn : l.length = n2) (hr : Truths w K2 c2 l) (hsz : n2 ≤ 1000000) (hne : l ≠ [] → ∀ g, blockOf K2 = some g → g ≠ gd) :
    Calls Try.prog 16 #[.pointer (some ⟨gd, 0, none⟩), .agg #[.int .i64 a, .slice K2 n2 c2]] w fun e w' => e = .returned (.tuple #[]) ∧ DiskX w' B wb gd (s.arm a l) ∧ Below B w w' ∧ w'.heap[wb]? = w.heap[wb]? :=
  (disk_arm h.2.2 a K2 c2 n2 l hn hr hsz hne).mono fun e w' ⟨he, hd, ho⟩ => ⟨he, h.turn hd ho⟩
theorem Row.rd64 {g : Nat} {l : List Nat} (h : Row .u8 5 w g l) (hl : l.length = 64) : Rd .u8 w w.heap.size (some ⟨g, 0, none⟩) 64 l := by
  have := h.rd (n := 64) (c := 64) (by omega) (Nat.le_refl _) (by omega)
  rw [List.take_of_length_le (by omega)] at this
  exact this.more (Holds.lt h)
end

def agW (rs : List Rw) (n : Nat) : List (Nat × List Nat) := (List.range n).map fun j => (0, secOf (rs.getD j default).l)
theorem agW_length (rs : List Rw) (n : Nat) : (agW rs n).length = n := by simp [agW]
theorem agW_getD {rs : List Rw} {n j : Nat} (h : j < n) : (agW rs n).getD j default = (0, secOf (rs.getD j default).l) := by simp [agW, List.getD, h]
theorem agW_succ (rs : List Rw) (n : Nat) : agW rs (n + 1) = agW rs n ++ [(0, secOf (rs.getD n default).l)] := by simp [agW, List.range_succ]
def agWant (rs : List Rw) (keep : List Bool) : Nat → List Nat
  | 0 => zsec
  | k + 1 => if keep.getD k false = true then secOf (rs.getD k default).l else agWant rs keep k
def agNow (rs : List Rw) : Nat → List Nat
  | 0 => zsec
  | k + 1 => secOf (rs.getD k default).l
theorem agWant_length (rs : List Rw) (keep : List Bool) : ∀ k, (agWant rs keep k).length = 64
  | 0 => rfl
  | k + 1 => by
    unfold agWant
    split
    · exact secOf_length _
    · exact agWant_length rs keep k
theorem agWant_oct (rs : List Rw) (ho : ∀ j, Oct1 (rs.getD j default).l) (keep : List Bool) : ∀ k, Oct1 (agWant rs keep k)
  | 0 => zsec_oct
  | k + 1 => by
    unfold agWant
    split
    · exact secOf_oct (ho k)
    · exact agWant_oct rs ho keep k
/-- So many writes of the one sector. -/
structure Agst (rs : List Rw) (i : Nat) (s : Dk) : Prop where
  now : s.now = [agNow rs i]
  lasts : s.lasts = [zsec]
  waits : s.waits = agW rs i
  armed : s.armed = false
  down : s.down = false
  ops : s.ops = i
  lim : i ≤ 30
theorem Agst.wl {rs : List Rw} {i : Nat} {s : Dk} (h : Agst rs i s) : s.waits.length ≤ 100000 := by rw [h.waits, agW_length]; have := h.lim; omega
theorem Agst.ol {rs : List Rw} {i : Nat} {s : Dk} (h : Agst rs i s) : s.ops ≤ 1000000000 := by rw [h.ops]; have := h.lim; omega
theorem Agst.next {rs : List Rw} {i : Nat} {s : Dk} (h : Agst rs i s) (hi : i < 30) (l : List Nat) (hl : (rs.getD i default).l = l) : s.write 0 (secOf l) = (s.wrote 0 (secOf l), 0) ∧ Agst rs (i + 1) (s.wrote 0 (secOf l)) := by
  subst hl
  exact ⟨Dk.write_good (k := 0) h.down (by rw [h.now]; exact Nat.one_pos) (secOf_length _) (due_unarmed h.armed), ⟨by show s.now.set 0 _ = _; rw [h.now]; rfl, h.lasts, by show s.waits ++ _ = _; rw [h.waits, agW_succ], h.armed, h.down, by show s.ops + 1 = _; rw [h.ops], by omega⟩⟩
theorem fallN_ag (rs : List Rw) (keep : List Bool) (n : Nat) : ∀ k, k ≤ n → fallN (fun j => keep.getD j false) (agW rs n) [zsec] k = [agWant rs keep k]
  | 0, _ => rfl
  | k + 1, hk => by
    rw [fallN, agW_getD (by omega), fallN_ag rs keep n k (by omega)]
    show (if keep.getD k false = true then [agWant rs keep k].set 0 (secOf (rs.getD k default).l) else [agWant rs keep k]) = [if keep.getD k false = true then secOf (rs.getD k default).l else agWant rs keep k]
    split <;> rfl
theorem backN_ag (rs : List Rw) (x y : List Nat) (n : Nat) : ∀ k, k ≤ n → 1 ≤ k → backN [x] (agW rs n) [y] k = [x]
  | 1, _, _ => by
    rw [backN, agW_getD (by omega)]
    rfl
  | k + 2, hk, _ => by
    rw [backN, agW_getD (by omega), backN_ag rs x y n (k + 1) (by omega) (by omega)]
    rfl
theorem Agst.crash {rs : List Rw} {n : Nat} {s : Dk} (h : Agst rs (n + 1) s) (keep : List Bool) : (s.arm 0 keep).flush = ((s.arm 0 keep).fall, 6) ∧ (s.arm 0 keep).fall.read 0 = agWant rs keep (n + 1) := by
  have hdue : (s.arm 0 keep).due = true := by simp [Dk.due, Dk.arm]
  constructor
  · unfold Dk.flush
    rw [if_neg (by show ¬ s.down = true; rw [h.down]; decide), if_pos hdue]
  · have hnow : (s.arm 0 keep).fall.now = backN (s.arm 0 keep).kept s.waits s.now s.waits.length := rfl
    have hk : (s.arm 0 keep).kept = fallN (fun j => keep.getD j false) s.waits s.lasts s.waits.length := rfl
    unfold Dk.read
    rw [if_pos (by decide), hnow, hk, h.waits, h.lasts, h.now, agW_length, fallN_ag rs keep _ _ (Nat.le_refl _), backN_ag rs _ _ _ _ (Nat.le_refl _) (by omega)]
    rfl
theorem Agst.read {rs : List Rw} {n : Nat} {s : Dk} (h : Agst rs (n + 1) s) (l : List Nat) (hl : (rs.getD n default).l = l) : s.read 0 = secOf l := by
  subst hl
  unfold Dk.read
  rw [if_pos (by decide), h.now]
  rfl

def RelG (rs : List Rw) (keep : List Bool) (w : World) (gd n : Nat) (v i : Value) (wr : World) : Prop :=
  ∃ (k wb : Nat) (s : Dk), k ≤ n ∧ v = .slice (some ⟨wb, 0, none⟩) 64 64 ∧ i = .int .i64 k ∧ DiskX wr w.heap.size wb gd s ∧ Agst rs k s ∧ Row .u8 5 wr wb (agWant rs keep k) ∧ Below w.heap.size w wr

set_option maxRecDepth 100000 in
set_option maxHeartbeats 4000000 in
theorem again_no (w : World) (A K : Option Addr) (c n c4 m2 : Nat) (h : n < 1 ∨ 30 < n ∨ 40 < m2) :
    Calls Try.prog 8 #[.slice A n c, .slice K m2 c4] w fun e w' => e = .returned (.bool true) ∧ Below w.heap.size w w' := by
  by_cases h1 : n < 1
  · have d1 : decide ((n : Int) < 1) = true := decide_eq_true (by omega)
    clear h
    go_enter Try.func8, Try.ntmps8
    go_wp2_with fail
    go_ret
    exact ⟨rfl, Below.refl _ _⟩
  have d1 : decide ((n : Int) < 1) = false := decide_eq_false (by omega)
  by_cases h2 : 30 < n
  · have d2 : decide ((30 : Int) < (n : Int)) = true := decide_eq_true (by omega)
    clear h
    go_enter Try.func8, Try.ntmps8
    go_wp2_with fail
    go_ret
    exact ⟨rfl, Below.refl _ _⟩
  have d2 : decide ((30 : Int) < (n : Int)) = false := decide_eq_false (by omega)
  have d3 : decide ((40 : Int) < (m2 : Int)) = true := decide_eq_true (by omega)
  clear h
  go_enter Try.func8, Try.ntmps8
  go_wp2_with fail
  go_ret
  exact ⟨rfl, Below.refl _ _⟩

set_option maxRecDepth 100000 in
set_option maxHeartbeats 8000000 in
theorem again_yes (w : World) (A K : Option Addr) (c m1 c4 m2 : Nat) (rs : List Rw) (keep : List Bool) (hn : rs.length = m1 + 1) (hr : RdR w w.heap.size A c rs) (ho : ∀ j, Oct1 (rs.getD j default).l) (hm : keep.length = m2) (ht : Truths w K c4 keep) (h2 : m1 + 1 ≤ 30) (h3 : m2 ≤ 40) :
    Calls Try.prog 8 #[.slice A ((m1 + 1 : Nat)) c, .slice K m2 c4] w fun e w' => e = .returned (.bool true) ∧ Below w.heap.size w w' := by
  have d1 : decide (((m1 + 1 : Nat) : Int) < 1) = false := decide_eq_false (by omega)
  have d2 : decide ((30 : Int) < ((m1 + 1 : Nat) : Int)) = false := decide_eq_false (by omega)
  have d3 : decide ((40 : Int) < (m2 : Int)) = false := decide_eq_false (by omega)
  rw [Int.natCast_add] at d1 d2
  have d1' : decide ((m1 : Int) + 1 < 1) = false := d1
  have d2' : decide ((30 : Int) < (m1 : Int) + 1) = false := d2
  obtain ⟨b, off, rfl, hb, hcs⟩ := hr.2.2.2 (by omega)
  have HCS : Hid (∀ W, Below w.heap.size w W → ∀ j, j < m1 + 1 → W.cell? ⟨b, off + j, none⟩ = some (.slice (rs.getD j default).a (rs.getD j default).l.length (rs.getD j default).c) ∧ Rd .u8 W W.heap.size (rs.getD j default).a (rs.getD j default).c (rs.getD j default).l) := Lib.hid fun W hW j hj =>
    ⟨(hW.cell (p := ⟨b, off + j, none⟩) hb).trans (hcs j (by omega)), ((hr.2.2.1 j (by omega)).under hW).more hW.size⟩
  have hcap : m1 + 1 ≤ c := by have := hr.1; omega
  have HM := Lib.hid hm
  have HT := Lib.hid ht
  have HO := Lib.hid ho
  have hmc : m2 ≤ c4 := by have := ht.1; omega
  have hnew := diskB_new w 1 (by omega) (by omega)
  rw [show ((1 : Nat) : Int) = 1 from rfl] at hnew
  have HNEW := Lib.hid hnew
  clear hnew hm ht hr ho hcs hn d1 d2
  go_enter Try.func8, Try.ntmps8
  go_wp2_with fail
  refine HNEW.out.mono ?_
  rintro e w1 ⟨gd, rfl, hd1, hb1⟩
  have HD1 := Lib.hid hd1
  have HQ1 := Lib.hid hb1
  clear hd1 hb1 HNEW d1' d2' d3
  go_wp2_with fail
  refine (sectorR w1 none 0 0 [] rfl (Rd.nil_ _ _ _)).mono ?_
  rintro e w2 ⟨rfl, hrow2, hr2, hb2⟩
  have HD2 := Lib.hid (DiskX.of HD1.out hb2 (Nat.le_refl _) (Holds.lt hrow2))
  have HQ2 := Lib.hid (HQ1.out.trans (hb2.mono HQ1.out.size))
  have HW2 := Lib.hid hrow2
  clear hrow2 hr2 hb2 HD1 HQ1
  go_wp2_with fail
  go_loopw [6, 7] (fun v i wr => RelG rs keep w gd (m1 + 1) v i wr) (fun v i _ => m1 + 1 - (intOf i).toNat)
  case atStart => exact ⟨0, _, fresh 1, Nat.zero_le _, rfl, rfl, HD2.out, ⟨rfl, rfl, rfl, rfl, rfl, rfl, by omega⟩, HW2.out, HQ2.out⟩
  case round =>
    obtain ⟨k, wb, s, hk, rfl, rfl, hd, hu, hrw, hq⟩ := hrel
    obtain ⟨V, hV⟩ : ∃ V, V = wr := ⟨_, rfl⟩
    subst hV
    have HD := Lib.hid hd
    have HQ := Lib.hid hq
    have HU := Lib.hid hu
    have HW := Lib.hid hrw
    clear hd hq hu hrw HD2 HQ2 HW2
    by_cases hkn : k < m1 + 1
    case pos =>
      have hkI : (k : Int) < (m1 : Int) + 1 := by omega
      have hk0 : (0 : Int) ≤ (k : Int) := by omega
      obtain ⟨r, hr⟩ : ∃ r, r = rs.getD k default := ⟨_, rfl⟩
      obtain ⟨a2, c2, l2⟩ := r
      have HRW : Hid ((rs.getD k default).l = l2) := Lib.hid (by rw [← hr])
      obtain ⟨n2, hn2⟩ : ∃ n, l2.length = n := ⟨_, rfl⟩
      have HN2 := Lib.hid hn2
      have HCW : Hid (∀ W, Below w.heap.size w W → W.cell? ⟨b, off + k, none⟩ = some (.slice a2 n2 c2)) := Lib.hid fun W hW => by
        have := (HCS.out W hW k hkn).1
        rw [← hr] at this
        rw [this, ← hn2]
      have HRD6 : Hid (∀ W, Below w.heap.size w W → Rd .u8 W W.heap.size a2 c2 l2) := Lib.hid fun W hW => by
        have := (HCS.out W hW k hkn).2
        rw [← hr] at this
        exact this
      have HRD : Hid (∀ W, Below V.heap.size V W → Rd .u8 W W.heap.size a2 c2 l2) := Lib.hid fun W hW => HRD6.out W (HQ.out.trans (hW.mono HQ.out.size))
      have HSL : Hid ((secOf l2).length = 64) := Lib.hid (secOf_length _)
      clear hr hn2
      by_cases hl64 : 64 < n2
      case pos =>
        have hlI : decide ((64 : Int) < (n2 : Int)) = true := decide_eq_true (by omega)
        have hcl := HCW.out V HQ.out
        go_wp2_with fail
        go_ret
        exact ⟨rfl, HQ.out⟩
      case neg =>
        have hlI : decide ((64 : Int) < (n2 : Int)) = false := decide_eq_false (by omega)
        obtain ⟨hw, hu⟩ := HU.out.next (by omega) l2 HRW.out
        have HWR := Lib.hid hw
        have HU2 := Lib.hid hu
        clear hw hu
        have hcl := HCW.out V HQ.out
        go_wp2_with fail
        refine (sectorR V a2 c2 n2 l2 HN2.out (HRD.out V (Below.refl _ V))).mono ?_
        rintro e w5 ⟨rfl, _, hr5, hb5⟩
        have HB5 : Hid (Below V.heap.size V w5) := Lib.hid ⟨hb5.os, hb5.tape, hb5.output, hb5.size, hb5.block⟩
        have HQ5 := Lib.hid (HQ.out.trans (HB5.out.mono HQ.out.size))
        have HR5 : Hid (Rd .u8 w5 w5.heap.size (some ⟨V.heap.size, 0, none⟩) 64 (secOf l2)) := Lib.hid hr5
        have HD5 := Lib.hid (HD.out.under HB5.out)
        clear hr5 hb5
        clear hcl
        go_wp2_with fail
        refine (diskX_write HD5.out 0 _ 64 64 (secOf l2) HSL.out HR5.out HU.out.wl HU.out.ol).mono ?_
        rintro e w6 ⟨rfl, hd6, hb6, hk6⟩
        rw [HWR.out] at hd6 ⊢
        have HD6 := Lib.hid hd6
        have HQ6 : Hid (Below w.heap.size w w6) := Lib.hid (HQ5.out.trans hb6)
        have HW6 : Hid (Row .u8 5 w6 wb (agWant rs keep k)) := Lib.hid (hk6.trans (Holds.under HW.out HB5.out (Holds.lt HW.out)))
        clear hd6 hb6 hk6
        have hc6 : w6.cell? ⟨b, off + k, none⟩ = some (.slice a2 n2 c2) := HCW.out w6 HQ6.out
        clear HB5 HQ5 HR5 HD5 HD HQ HW
        by_cases hkm : k < m2
        case pos =>
          obtain ⟨b3, off3, rfl, hb3, hbc⟩ := (HT.out.under HQ6.out).2.2 (by rw [HM.out]; omega)
          have hcell := hbc k (by rw [HM.out]; exact hkm)
          have hkmI : (k : Int) < (m2 : Int) := by omega
          have hkv : agWant rs keep (k + 1) = if keep.getD k false = true then secOf (rs.getD k default).l else agWant rs keep k := rfl
          generalize keep.getD k false = bk at *
          clear hbc
          cases bk
          case true =>
            have HKV : Hid (agWant rs keep (k + 1) = secOf l2) := Lib.hid (by rw [hkv, if_pos rfl, HRW.out])
            clear hkv
            go_wp2_with fail
            refine (sectorR w6 a2 c2 n2 l2 HN2.out ((HRD6.out w6 HQ6.out))).mono ?_
            rintro e w7 ⟨rfl, hrow7, hr7, hb7⟩
            have HD7 := Lib.hid (DiskX.of HD6.out.toB hb7 (Nat.le_refl _) (Holds.lt hrow7))
            have HQ7 := Lib.hid (HQ6.out.trans (hb7.mono HQ6.out.size))
            have HW7 := Lib.hid hrow7
            clear hrow7 hr7 hb7 hc6 hcell
            go_wp2_with fail
            go_roundw
            case rel => exact ⟨k + 1, _, _, by omega, rfl, by go_num, HD7.out, HU2.out, by rw [HKV.out]; exact HW7.out, HQ7.out⟩
            case measure => simp [intOf]; omega
          case false =>
            have HKV : Hid (agWant rs keep (k + 1) = agWant rs keep k) := Lib.hid (by rw [hkv, if_neg (by decide)])
            clear hkv
            go_wp2_with fail
            go_roundw
            case rel => exact ⟨k + 1, _, _, by omega, rfl, by go_num, HD6.out, HU2.out, by rw [HKV.out]; exact HW6.out, HQ6.out⟩
            case measure => simp [intOf]; omega
        case neg =>
          have HKV : Hid (agWant rs keep (k + 1) = agWant rs keep k) := Lib.hid (by show (if keep.getD k false = true then _ else _) = _; rw [if_neg]; rw [show keep.getD k false = false by rw [List.getD, List.getElem?_eq_none (by rw [HM.out]; omega)]; rfl]; decide)
          have hkmB : decide ((k : Int) < (m2 : Int)) = false := decide_eq_false (by omega)
          go_wp2_with fail
          go_roundw
          case rel => exact ⟨k + 1, _, _, by omega, rfl, by go_num, HD6.out, HU2.out, by rw [HKV.out]; exact HW6.out, HQ6.out⟩
          case measure => simp [intOf]; omega
    case neg =>
      obtain rfl : k = m1 + 1 := by omega
      have hkI : ¬ ((m1 : Int) + 1 < (m1 : Int) + 1) := by omega
      obtain ⟨r, hr⟩ : ∃ r, r = rs.getD m1 default := ⟨_, rfl⟩
      obtain ⟨a2, c2, l2⟩ := r
      have HRW : Hid ((rs.getD m1 default).l = l2) := Lib.hid (by rw [← hr])
      obtain ⟨n2, hn2⟩ : ∃ n, l2.length = n := ⟨_, rfl⟩
      have HN2 := Lib.hid hn2
      have HCW : Hid (∀ W, Below w.heap.size w W → W.cell? ⟨b, off + m1, none⟩ = some (.slice a2 n2 c2)) := Lib.hid fun W hW => by
        have := (HCS.out W hW m1 (by omega)).1
        rw [← hr] at this
        rw [this, ← hn2]
      have HRD6 : Hid (∀ W, Below w.heap.size w W → Rd .u8 W W.heap.size a2 c2 l2) := Lib.hid fun W hW => by
        have := (HCS.out W hW m1 (by omega)).2
        rw [← hr] at this
        exact this
      have HSL : Hid ((secOf l2).length = 64) := Lib.hid (secOf_length _)
      have HSO : Hid (∀ x ∈ secOf l2, x < 256) := Lib.hid (secOf_oct (by have := HO.out m1; rw [HRW.out] at this; exact this))
      have HRE := Lib.hid (HU.out.read l2 HRW.out)
      have HAL : Hid ((agWant rs keep (m1 + 1)).length = 64) := Lib.hid (agWant_length _ _ _)
      have HAO : Hid (∀ x ∈ agWant rs keep (m1 + 1), x < 256) := Lib.hid (agWant_oct rs HO.out keep _)
      have HFL := Lib.hid (HU.out.crash keep)
      obtain ⟨z, hz⟩ : ∃ z, z = str (secOf l2) := ⟨_, rfl⟩
      have HZ := Lib.hid hz
      obtain ⟨za, hza⟩ : ∃ z, z = str (agWant rs keep (m1 + 1)) := ⟨_, rfl⟩
      have HZA := Lib.hid hza
      have hm0 : (0 : Int) ≤ (m1 : Int) := by omega
      have hlt1 : (m1 : Int) < (m1 : Int) + 1 := by omega
      have hwm : IntKind.i64.wrap (m1 : Int) = (m1 : Int) := IntWalk.i64_in _ (by omega)
      clear hr hn2 hz hza
      go_wp2_with fail
      refine wp_region_noPanic ?_
      refine wp_region_held_drew (S := fun W => Below V.heap.size V W) (by kernel_rfl) (Below.refl _ V).drew (fun hHeld => ?_)
      refine wpAnyH_take (i := 0) (oi := { dst := some 66, op := Op.move (Operand.tmp 5), type := 23, pos := _, after := _, guard := none }) (v := ?_) rfl (by kernel_rfl) (by kernel_rfl) (by kernel_rfl) (fun _ _ _ h => h) (Or.inl ⟨by rfl, ?_⟩) hHeld ?_
      rotate_left 1
      · (intro W hW; (try dsimp only at hW); go_simp; try with_reducible rfl)
      try simp only [Act.put, List.setIfInBounds_toArray, List.set_cons_zero, List.set_cons_succ]
      refine wpAnyH_take (i := 3) (oi := { dst := some 69, op := Op.move (Operand.tmp 0), type := 48, pos := _, after := _, guard := none }) (v := ?_) rfl (by kernel_rfl) (by kernel_rfl) (by kernel_rfl) (fun _ _ _ h => h) (Or.inl ⟨by rfl, ?_⟩) hHeld ?_
      rotate_left 1
      · (intro W hW; (try dsimp only at hW); go_simp; try with_reducible rfl)
      try simp only [Act.put, List.setIfInBounds_toArray, List.set_cons_zero, List.set_cons_succ]
      refine wpAnyH_take (i := 4) (oi := { dst := some 70, op := Op.move (Operand.tmp 0), type := 48, pos := _, after := _, guard := none }) (v := ?_) rfl (by kernel_rfl) (by kernel_rfl) (by kernel_rfl) (fun _ _ _ h => h) (Or.inl ⟨by rfl, ?_⟩) hHeld ?_
      rotate_left 1
      · (intro W hW; (try dsimp only at hW); go_simp; try with_reducible rfl)
      try simp only [Act.put, List.setIfInBounds_toArray, List.set_cons_zero, List.set_cons_succ]
      refine wpAnyH_take (i := 5) (oi := { dst := some 71, op := Op.call { callee := Callee.builtin Builtin.len, args := #[Operand.tmp 70], argTypes := #[48] }, type := 3, pos := _, after := _, guard := none }) (v := ?_) rfl (by kernel_rfl) (by kernel_rfl) (by kernel_rfl) (fun _ _ _ h => h) (Or.inl ⟨by rfl, ?_⟩) hHeld ?_
      rotate_left 1
      · (intro W hW; (try dsimp only at hW); go_simp; try with_reducible rfl)
      try simp only [Act.put, List.setIfInBounds_toArray, List.set_cons_zero, List.set_cons_succ]
      refine wpAnyH_take (i := 6) (oi := { dst := some 72, op := Op.binOp BinOp.sub 3 (Operand.tmp 71) (Operand.const (Value.int IntKind.i64 1)) 3, type := 3, pos := _, after := _, guard := none }) (v := ?_) rfl (by kernel_rfl) (by kernel_rfl) (by kernel_rfl) (fun _ _ _ h => h) (Or.inl ⟨by rfl, ?_⟩) hHeld ?_
      rotate_left 1
      · (intro W hW; (try dsimp only at hW); go_simp; try with_reducible rfl)
      try simp only [Act.put, List.setIfInBounds_toArray, List.set_cons_zero, List.set_cons_succ]
      refine wpAnyH_take (i := 7) (oi := { dst := some 73, op := Op.indexAddr 48 (Operand.tmp 69) (Operand.tmp 72), type := 0, pos := _, after := _, guard := none }) (v := ?_) rfl (by kernel_rfl) (by kernel_rfl) (by kernel_rfl) (fun _ _ _ h => h) (Or.inl ⟨by rfl, ?_⟩) hHeld ?_
      rotate_left 1
      · (intro W hW; (try dsimp only at hW); go_simp; try with_reducible rfl)
      try simp only [Act.put, List.setIfInBounds_toArray, List.set_cons_zero, List.set_cons_succ]
      refine wpAnyH_take (i := 8) (oi := { dst := some 74, op := Op.load 28 (Operand.tmp 73), type := 28, pos := _, after := _, guard := none }) (v := ?_) rfl (by kernel_rfl) (by kernel_rfl) (by kernel_rfl) (fun _ _ _ h => h) (Or.inl ⟨by rfl, ?_⟩) hHeld ?_
      rotate_left 1
      · (intro W hW; have hcl := HCW.out W (HQ.out.trans (Below.mono hW HQ.out.size)); (try dsimp only at hW); go_simp; try with_reducible rfl)
      try simp only [Act.put, List.setIfInBounds_toArray, List.set_cons_zero, List.set_cons_succ]
      refine wpAnyH_ready (rs := [1]) (by kernel_rfl) (by simp) ?_
      refine AllReadyH.cons (o := { dst := some 67, op := Op.call { callee := Callee.value (Operand.func 23), args := #[Operand.tmp 66, Operand.const (Value.int IntKind.i64 0)], argTypes := #[23, 3] }, type := 28, pos := _, after := _, guard := none }) rfl (fun K hK => ?_) AllReadyH.nil
      go_simp
      refine (diskB_read (HD.out.toB.drew) 0 (secOf l2) HRE.out).mono ?_
      rintro e wa ⟨Aa, ca, rfl, hra, hba⟩
      rw [HSL.out]
      have HBa : Hid (Below V.heap.size V wa) := Lib.hid ⟨hba.os, hba.tape, hba.output, hba.size, hba.block⟩
      have HQa := Lib.hid (HQ.out.trans (HBa.out.mono HQ.out.size))
      have HRa := Lib.hid hra
      clear hra hba
      go_simp
      refine hK.out _ _ (HBa.out) (fun _ => ?_)
      clear hK K hHeld
      try simp only [Act.put, List.setIfInBounds_toArray, List.set_cons_zero, List.set_cons_succ]
      refine wpAnyH_strong (S' := fun W => Below wa.heap.size wa W) (fun W hW => HBa.out.trans (hW.mono HBa.out.size)) _ _ _ _ ?_
      have hHeld : (fun W => Below wa.heap.size wa W) wa := Below.refl _ _
      refine wpAnyH_take (i := 2) (oi := { dst := some 68, op := Op.convert 28 9 (Operand.tmp 67), type := 9, pos := _, after := _, guard := none }) (v := ?_) rfl (by kernel_rfl) (by kernel_rfl) (by kernel_rfl) (fun _ _ _ h => h) (Or.inl ⟨by rfl, ?_⟩) hHeld ?_
      rotate_left 1
      · (intro W hW; have hcv := conv_str (Rd.under HRa.out hW) HSL.out HSO.out; rw [← HZ.out] at hcv; (try dsimp only at hW); go_simp; try with_reducible rfl)
      try simp only [Act.put, List.setIfInBounds_toArray, List.set_cons_zero, List.set_cons_succ]
      refine wpAnyH_ready (rs := [9]) (by kernel_rfl) (by simp) ?_
      refine AllReadyH.cons (o := { dst := some 75, op := Op.call { callee := Callee.value (Operand.func 20), args := #[Operand.tmp 74], argTypes := #[28] }, type := 28, pos := _, after := _, guard := none }) rfl (fun K hK => ?_) AllReadyH.nil
      go_simp
      refine (sectorR wa a2 c2 n2 l2 HN2.out (HRD6.out wa HQa.out)).mono ?_
      rintro e wx ⟨rfl, _, hrb, hbb⟩
      have HBb := Lib.hid hbb
      have HQb := Lib.hid (HQa.out.trans (hbb.mono HQa.out.size))
      have HRb := Lib.hid hrb
      clear hrb hbb
      go_simp
      refine hK.out _ _ (HBb.out) (fun _ => ?_)
      clear hK K hHeld
      try simp only [Act.put, List.setIfInBounds_toArray, List.set_cons_zero, List.set_cons_succ]
      refine wpAnyH_strong (S' := fun W => Below wx.heap.size wx W) (fun W hW => HBb.out.trans (hW.mono HBb.out.size)) _ _ _ _ ?_
      have hHeld : (fun W => Below wx.heap.size wx W) wx := Below.refl _ _
      refine wpAnyH_take (i := 10) (oi := { dst := some 76, op := Op.convert 28 9 (Operand.tmp 75), type := 9, pos := _, after := _, guard := none }) (v := ?_) rfl (by kernel_rfl) (by kernel_rfl) (by kernel_rfl) (fun _ _ _ h => h) (Or.inl ⟨by rfl, ?_⟩) hHeld ?_
      rotate_left 1
      · (intro W hW; have hcv := conv_str (Rd.under HRb.out hW) HSL.out HSO.out; rw [← HZ.out] at hcv; (try dsimp only at hW); go_simp; try with_reducible rfl)
      try simp only [Act.put, List.setIfInBounds_toArray, List.set_cons_zero, List.set_cons_succ]
      refine wpAnyH_take (i := 11) (oi := { dst := some 77, op := Op.binOp BinOp.neq 9 (Operand.tmp 68) (Operand.tmp 76) 9, type := 4, pos := _, after := _, guard := none }) (v := ?_) rfl (by kernel_rfl) (by kernel_rfl) (by kernel_rfl) (fun _ _ _ h => h) (Or.inl ⟨by rfl, ?_⟩) hHeld ?_
      rotate_left 1
      · (intro W hW; (try dsimp only at hW); go_simp; try with_reducible rfl)
      try simp only [Act.put, List.setIfInBounds_toArray, List.set_cons_zero, List.set_cons_succ]
      refine wpAnyH_done (by kernel_rfl) ?_ _
      refine NoPanic.normal ?_
      have HDb := Lib.hid ((HD.out.under HBa.out).under HBb.out)
      have HWb : Hid (Row .u8 5 wx wb (agWant rs keep (m1 + 1))) := Lib.hid (Holds.under (Holds.under HW.out HBa.out (Holds.lt HW.out)) HBb.out (Nat.lt_of_lt_of_le (Holds.lt HW.out) HBa.out.size))
      clear HD HQ HW HBa HQa HRa HBb HRb
      go_wp2_with fail
      refine (diskX_arm HDb.out 0 K c4 m2 keep HM.out (HT.out.under HQb.out) (by omega) (fun hne g hg => by have := HT.out.lt hne g hg; have := HDb.out.toB.pos.1; omega)).mono ?_
      rintro e wc ⟨rfl, hdc, hbc, hkc⟩
      have HDc := Lib.hid hdc
      have HQc : Hid (Below w.heap.size w wc) := Lib.hid (HQb.out.trans hbc)
      have HWc : Hid (Row .u8 5 wc wb (agWant rs keep (m1 + 1))) := Lib.hid (hkc.trans HWb.out)
      clear hdc hbc hkc HDb HQb HWb
      go_wp2_with fail
      refine wp_region_noPanic ?_
      refine wp_region_held_drew (S := fun _ => True) (by kernel_rfl) trivial (fun hHeld => ?_)
      refine wpAnyH_take (i := 0) (oi := { dst := some 82, op := Op.move (Operand.tmp 5), type := 23, pos := _, after := _, guard := none }) (v := ?_) rfl (by kernel_rfl) (by kernel_rfl) (by kernel_rfl) (fun _ _ _ h => h) (Or.inl ⟨by rfl, ?_⟩) hHeld ?_
      rotate_left 1
      · (intro W hW; (try dsimp only at hW); go_simp; try with_reducible rfl)
      try simp only [Act.put, List.setIfInBounds_toArray, List.set_cons_zero, List.set_cons_succ]
      refine wpAnyH_ready (rs := [1]) (by kernel_rfl) (by simp) ?_
      refine AllReadyH.cons (o := { dst := some 83, op := Op.call { callee := Callee.value (Operand.func 14), args := #[Operand.tmp 82], argTypes := #[23] }, type := 34, pos := _, after := _, guard := none }) rfl (fun K hK => ?_) AllReadyH.nil
      go_simp
      refine (diskX_flush (HDc.out.drew) HU.out.wl HU.out.ol).mono ?_
      rintro e wd ⟨rfl, hdd, hbd, hkd⟩
      rw [HFL.out.1] at hdd ⊢
      have HDd := Lib.hid hdd
      have HQd : Hid (Below w.heap.size w wd) := Lib.hid (HQc.out.drew.trans hbd)
      have HWd : Hid (Row .u8 5 wd wb (agWant rs keep (m1 + 1))) := Lib.hid (hkd.trans HWc.out)
      have HRw : Hid (Rd .u8 wd wd.heap.size (some ⟨wb, 0, none⟩) 64 (agWant rs keep (m1 + 1))) := Lib.hid (Row.rd64 HWd.out HAL.out)
      clear hdd hbd hkd
      go_simp
      refine hK.out _ _ (trivial) (fun _ => ?_)
      clear hK K hHeld
      try simp only [Act.put, List.setIfInBounds_toArray, List.set_cons_zero, List.set_cons_succ]
      refine wpAnyH_strong (S' := fun W => Below wd.heap.size wd W) (fun W hW => trivial) _ _ _ _ ?_
      have hHeld : (fun W => Below wd.heap.size wd W) wd := Below.refl _ _
      refine wpAnyH_take (i := 2) (oi := { dst := some 84, op := Op.binOp BinOp.eql 34 (Operand.tmp 83) (Operand.const (Value.int IntKind.i64 6)) 34, type := 4, pos := _, after := _, guard := none }) (v := ?_) rfl (by kernel_rfl) (by kernel_rfl) (by kernel_rfl) (fun _ _ _ h => h) (Or.inl ⟨by rfl, ?_⟩) hHeld ?_
      rotate_left 1
      · (intro W hW; (try dsimp only at hW); go_simp; try with_reducible rfl)
      try simp only [Act.put, List.setIfInBounds_toArray, List.set_cons_zero, List.set_cons_succ]
      refine wpAnyH_take (i := 3) (oi := { dst := some 85, op := Op.move (Operand.tmp 84), type := 4, pos := _, after := _, guard := none }) (v := ?_) rfl (by kernel_rfl) (by kernel_rfl) (by kernel_rfl) (fun _ _ _ h => h) (Or.inl ⟨by rfl, ?_⟩) hHeld ?_
      rotate_left 1
      · (intro W hW; (try dsimp only at hW); go_simp; try with_reducible rfl)
      try simp only [Act.put, List.setIfInBounds_toArray, List.set_cons_zero, List.set_cons_succ]
      refine wpAnyH_take (i := 4) (oi := { dst := some 86, op := Op.move (Operand.tmp 5), type := 23, pos := _, after := _, guard := some (3, true) }) (v := ?_) rfl (by kernel_rfl) (by kernel_rfl) (by kernel_rfl) (fun _ _ _ h => h) (Or.inl ⟨by rfl, ?_⟩) hHeld ?_
      rotate_left 1
      · (intro W hW; (try dsimp only at hW); go_simp; try with_reducible rfl)
      try simp only [Act.put, List.setIfInBounds_toArray, List.set_cons_zero, List.set_cons_succ]
      refine wpAnyH_take (i := 7) (oi := { dst := some 89, op := Op.move (Operand.tmp 6), type := 28, pos := _, after := _, guard := some (3, true) }) (v := ?_) rfl (by kernel_rfl) (by kernel_rfl) (by kernel_rfl) (fun _ _ _ h => h) (Or.inl ⟨by rfl, ?_⟩) hHeld ?_
      rotate_left 1
      · (intro W hW; (try dsimp only at hW); go_simp; try with_reducible rfl)
      try simp only [Act.put, List.setIfInBounds_toArray, List.set_cons_zero, List.set_cons_succ]
      refine wpAnyH_take (i := 8) (oi := { dst := some 90, op := Op.convert 28 9 (Operand.tmp 89), type := 9, pos := _, after := _, guard := some (3, true) }) (v := ?_) rfl (by kernel_rfl) (by kernel_rfl) (by kernel_rfl) (fun _ _ _ h => h) (Or.inl ⟨by rfl, ?_⟩) hHeld ?_
      rotate_left 1
      · (intro W hW; have hcv := conv_str (Rd.under HRw.out hW) HAL.out HAO.out; rw [← HZA.out] at hcv; (try dsimp only at hW); go_simp; try with_reducible rfl)
      try simp only [Act.put, List.setIfInBounds_toArray, List.set_cons_zero, List.set_cons_succ]
      refine wpAnyH_ready (rs := [5]) (by kernel_rfl) (by simp) ?_
      refine AllReadyH.cons (o := { dst := some 87, op := Op.call { callee := Callee.value (Operand.func 23), args := #[Operand.tmp 86, Operand.const (Value.int IntKind.i64 0)], argTypes := #[23, 3] }, type := 28, pos := _, after := _, guard := some (3, true) }) rfl (fun K hK => ?_) AllReadyH.nil
      go_simp
      refine (diskB_read HDd.out.toB 0 (agWant rs keep (m1 + 1)) HFL.out.2).mono ?_
      rintro e we ⟨Ae, ce, rfl, hre, hbe⟩
      rw [HAL.out]
      have HBe := Lib.hid hbe
      have HQe := Lib.hid (HQd.out.trans (hbe.mono HQd.out.size))
      have HRe := Lib.hid hre
      clear hre hbe
      go_simp
      refine hK.out _ _ (HBe.out) (fun _ => ?_)
      clear hK K hHeld
      try simp only [Act.put, List.setIfInBounds_toArray, List.set_cons_zero, List.set_cons_succ]
      refine wpAnyH_strong (S' := fun W => Below we.heap.size we W) (fun W hW => HBe.out.trans (hW.mono HBe.out.size)) _ _ _ _ ?_
      have hHeld : (fun W => Below we.heap.size we W) we := Below.refl _ _
      refine wpAnyH_take (i := 6) (oi := { dst := some 88, op := Op.convert 28 9 (Operand.tmp 87), type := 9, pos := _, after := _, guard := some (3, true) }) (v := ?_) rfl (by kernel_rfl) (by kernel_rfl) (by kernel_rfl) (fun _ _ _ h => h) (Or.inl ⟨by rfl, ?_⟩) hHeld ?_
      rotate_left 1
      · (intro W hW; have hcv := conv_str (Rd.under HRe.out hW) HAL.out HAO.out; rw [← HZA.out] at hcv; (try dsimp only at hW); go_simp; try with_reducible rfl)
      try simp only [Act.put, List.setIfInBounds_toArray, List.set_cons_zero, List.set_cons_succ]
      refine wpAnyH_take (i := 9) (oi := { dst := some 91, op := Op.binOp BinOp.eql 9 (Operand.tmp 88) (Operand.tmp 90) 9, type := 4, pos := _, after := _, guard := some (3, true) }) (v := ?_) rfl (by kernel_rfl) (by kernel_rfl) (by kernel_rfl) (fun _ _ _ h => h) (Or.inl ⟨by rfl, ?_⟩) hHeld ?_
      rotate_left 1
      · (intro W hW; (try dsimp only at hW); go_simp; try with_reducible rfl)
      try simp only [Act.put, List.setIfInBounds_toArray, List.set_cons_zero, List.set_cons_succ]
      refine wpAnyH_take (i := 10) (oi := { dst := some 92, op := Op.pick (Operand.tmp 85) (Operand.tmp 91) (Operand.const (Value.bool false)), type := 4, pos := _, after := _, guard := none }) (v := ?_) rfl (by kernel_rfl) (by kernel_rfl) (by kernel_rfl) (fun _ _ _ h => h) (Or.inl ⟨by rfl, ?_⟩) hHeld ?_
      rotate_left 1
      · (intro W hW; (try dsimp only at hW); go_simp; try with_reducible rfl)
      try simp only [Act.put, List.setIfInBounds_toArray, List.set_cons_zero, List.set_cons_succ]
      refine wpAnyH_take (i := 11) (oi := { dst := some 93, op := Op.move (Operand.tmp 92), type := 4, pos := _, after := _, guard := none }) (v := ?_) rfl (by kernel_rfl) (by kernel_rfl) (by kernel_rfl) (fun _ _ _ h => h) (Or.inl ⟨by rfl, ?_⟩) hHeld ?_
      rotate_left 1
      · (intro W hW; (try dsimp only at hW); go_simp; try with_reducible rfl)
      try simp only [Act.put, List.setIfInBounds_toArray, List.set_cons_zero, List.set_cons_succ]
      refine wpAnyH_ready (rs := [12]) (by kernel_rfl) (by simp) ?_
      refine AllReadyH.cons (o := { dst := some 94, op := Op.call { callee := Callee.value (Operand.func 11), args := #[], argTypes := #[] }, type := 4, pos := _, after := _, guard := some (11, true) }) rfl (fun K hK => ?_) AllReadyH.nil
      go_simp
      refine (known_any we).mono ?_
      rintro e wf ⟨rfl, hbf⟩
      have HBf := Lib.hid hbf
      have HQf := Lib.hid (HQe.out.trans (hbf.mono HQe.out.size))
      clear hbf
      go_simp
      refine hK.out _ _ (HBf.out) (fun _ => ?_)
      clear hK K hHeld
      try simp only [Act.put, List.setIfInBounds_toArray, List.set_cons_zero, List.set_cons_succ]
      refine wpAnyH_strong (S' := fun W => Below wf.heap.size wf W) (fun W hW => HBf.out.trans (hW.mono HBf.out.size)) _ _ _ _ ?_
      have hHeld : (fun W => Below wf.heap.size wf W) wf := Below.refl _ _
      refine wpAnyH_take (i := 13) (oi := { dst := some 95, op := Op.pick (Operand.tmp 93) (Operand.tmp 94) (Operand.const (Value.bool false)), type := 4, pos := _, after := _, guard := none }) (v := ?_) rfl (by kernel_rfl) (by kernel_rfl) (by kernel_rfl) (fun _ _ _ h => h) (Or.inl ⟨by rfl, ?_⟩) hHeld ?_
      rotate_left 1
      · (intro W hW; (try dsimp only at hW); go_simp; try with_reducible rfl)
      try simp only [Act.put, List.setIfInBounds_toArray, List.set_cons_zero, List.set_cons_succ]
      refine wpAnyH_take (i := 14) (oi := { dst := some 4, op := Op.assign (Operand.tmp 95), type := 4, pos := _, after := _, guard := none }) (v := ?_) rfl (by kernel_rfl) (by kernel_rfl) (by kernel_rfl) (fun _ _ _ h => h) (Or.inl ⟨by rfl, ?_⟩) hHeld ?_
      rotate_left 1
      · (intro W hW; (try dsimp only at hW); go_simp; try with_reducible rfl)
      try simp only [Act.put, List.setIfInBounds_toArray, List.set_cons_zero, List.set_cons_succ]
      refine wpAnyH_done (by kernel_rfl) ?_ _
      refine NoPanic.normal ?_
      go_wp2_with fail
      go_ret
      exact ⟨rfl, HQf.out⟩
theorem law_again (w : World) (A K : Option Addr) (c c4 n m2 : Nat) (rs : List Rw) (keep : List Bool) (hn : rs.length = n) (hm : keep.length = m2) (hr : RdR w w.heap.size A c rs) (ho : ∀ j, Oct1 (rs.getD j default).l) (ht : Truths w K c4 keep) :
    Calls Try.prog 8 #[.slice A n c, .slice K m2 c4] w fun e w' => e = .returned (.bool true) ∧ Below w.heap.size w w' := by
  by_cases h : n < 1 ∨ 30 < n ∨ 40 < m2
  · exact again_no w A K c n c4 m2 h
  · obtain ⟨m1, rfl⟩ : ∃ m1, n = m1 + 1 := ⟨n - 1, by omega⟩
    exact again_yes w A K c m1 c4 m2 rs keep hn hr ho hm ht (by omega) (by omega)
end Go.Proofs.Ytbenkffjfjddgaa
