/-
  The second write lasts alone: by hand.
-/
import Derived.Test.YtbenkffjfjddgaaDev10
import Derived.Deep.RegionLaw
import Derived.Deep.DrawnRows
import Derived.Deep.RegionHeld3
namespace Go.Proofs.Ytbenkffjfjddgaa
open Go.RowKit
set_option linter.unusedVariables false
set_option linter.unusedSimpArgs false
attribute [local go_sem ↓] Go.wp_at_zero Go.wp_at_succ

/-- A disk all of whose blocks lie from B on. -/
def DiskB (w : World) (B gd : Nat) (s : Dk) : Prop := B ≤ w.heap.size ∧ Disk w (fun k => B ≤ k) gd s
section
variable {w w' : World} {B gd : Nat} {s : Dk}
theorem DiskB.under (h : DiskB w B gd s) (hb : Below w.heap.size w w') : DiskB w' B gd s := by
  refine ⟨Nat.le_trans h.1 hb.size, ?_⟩
  obtain ⟨gn, gl, A, cw, K, ck, hd, f⟩ := h.2
  exact ⟨gn, gl, A, cw, K, ck, hd.keepAll hb.size fun g _ hg => hb.block g hg, f⟩
theorem DiskB.of (hB : B ≤ w.heap.size) (h : Disk w' (grow (fun k => B ≤ k) w w') gd s) (ho : Only (fun k => B ≤ k) w w') : DiskB w' B gd s ∧ Below B w w' :=
  ⟨⟨Nat.le_trans hB ho.size, h.more fun k hk => hk.elim (fun e => e) fun e => by omega⟩, ho.below (fun k hk => hk) hB⟩
theorem DiskB.pos (h : DiskB w B gd s) : B ≤ gd ∧ gd < w.heap.size := ⟨h.2.pos.1, h.2.pos.2⟩
theorem DiskB.drew (h : DiskB w B gd s) : DiskB w.drew B gd s := h.under (Below.refl _ w).drew
theorem diskB_new (w : World) (n : Nat) (h1 : 1 ≤ n) (h2 : n ≤ 2000) : Calls Try.prog 9 #[.int .i64 n] w fun e w' => ∃ gd, e = .returned (.pointer (some ⟨gd, 0, none⟩)) ∧ DiskB w' w.heap.size gd (fresh n) ∧ Below w.heap.size w w' :=
  (new_yes w n h1 h2).mono fun e w' ⟨gd, he, hd, hb⟩ => ⟨gd, he, ⟨hb.size, hd.more fun k hk => hk.1⟩, hb⟩
theorem diskB_write (h : DiskB w B gd s) (i : Int) (A2 : Option Addr) (n2 c2 : Nat) (x : List Nat) (hn : x.length = n2) (hr : Rd .u8 w w.heap.size A2 c2 x) (hwl : s.waits.length ≤ 100000) (hops : s.ops ≤ 1000000000) :
    Calls Try.prog 12 #[.pointer (some ⟨gd, 0, none⟩), .int .i64 i, .slice A2 n2 c2] w fun e w' => e = .returned (.int .i64 ((s.write i x).2 : Nat)) ∧ DiskB w' B gd (s.write i x).1 ∧ Below B w w' :=
  (disk_write h.2 i A2 n2 c2 x hn hr hwl hops).mono fun e w' ⟨he, hd, ho⟩ => ⟨he, DiskB.of h.1 hd ho⟩
theorem diskB_flush (h : DiskB w B gd s) (hwl : s.waits.length ≤ 100000) (hops : s.ops ≤ 1000000000) :
    Calls Try.prog 14 #[.pointer (some ⟨gd, 0, none⟩)] w fun e w' => e = .returned (.int .i64 (s.flush.2 : Nat)) ∧ DiskB w' B gd s.flush.1 ∧ Below B w w' :=
  (disk_flush h.2 hwl hops).mono fun e w' ⟨he, hd, ho⟩ => ⟨he, DiskB.of h.1 hd ho⟩
theorem diskB_restart (h : DiskB w B gd s) (hwl : s.waits.length ≤ 100000) :
    Calls Try.prog 18 #[.pointer (some ⟨gd, 0, none⟩)] w fun e w' => e = .returned (.tuple #[]) ∧ DiskB w' B gd s.restart ∧ Below B w w' :=
  (disk_restart h.2 hwl).mono fun e w' ⟨he, hd, ho⟩ => ⟨he, DiskB.of h.1 hd ho⟩
theorem diskB_arm (h : DiskB w B gd s) (a : Int) (K2 : Option Addr) (c2 n2 : Nat) (l : List Bool) (hn : l.length = n2) (hr : Truths w K2 c2 l) (hsz : n2 ≤ 1000000) (hne : l ≠ [] → ∀ g, blockOf K2 = some g → g ≠ gd) :
    Calls Try.prog 16 #[.pointer (some ⟨gd, 0, none⟩), .agg #[.int .i64 a, .slice K2 n2 c2]] w fun e w' => e = .returned (.tuple #[]) ∧ DiskB w' B gd (s.arm a l) ∧ Below B w w' :=
  (disk_arm h.2 a K2 c2 n2 l hn hr hsz hne).mono fun e w' ⟨he, hd, ho⟩ => ⟨he, DiskB.of h.1 hd ho⟩
theorem diskB_read (h : DiskB w B gd s) (i : Int) (x : List Nat) (hx : s.read i = x) :
    Calls Try.prog 23 #[.pointer (some ⟨gd, 0, none⟩), .int .i64 i] w fun e w' => ∃ A' c', e = .returned (.slice A' x.length c') ∧ Rd .u8 w' w'.heap.size A' c' x ∧ Below w.heap.size w w' := by
  subst hx
  exact (disk_read h.2 i).mono fun e w' ⟨A', n', c', he, hn, hr, _, hb⟩ => ⟨A', c', by rw [hn]; exact he, hr, hb⟩
end
theorem sectorR (w : World) (A : Option Addr) (c n : Nat) (l : List Nat) (hn : l.length = n) (hr : Rd .u8 w w.heap.size A c l) :
    Calls Try.prog 20 #[.slice A n c] w fun e w' => e = .returned (.slice (some ⟨w.heap.size, 0, none⟩) 64 64) ∧ Row .u8 5 w' w.heap.size (secOf l) ∧ Rd .u8 w' w'.heap.size (some ⟨w.heap.size, 0, none⟩) 64 (secOf l) ∧ Below w.heap.size w w' :=
  (sector_any w w.heap.size A c n l hn hr (Nat.le_refl _)).mono fun e w' ⟨he, hrow, hb⟩ => ⟨he, hrow, by
    have := hrow.rd (n := 64) (c := 64) (by rw [secOf_length]; exact Nat.le_refl _) (Nat.le_refl _) (by omega)
    rw [List.take_of_length_le (by rw [secOf_length]; exact Nat.le_refl _)] at this
    exact this.more (Holds.lt hrow), hb⟩
theorem vals_const (W : World) (e : TypeId) (l : List Nat) (fr : Nat × Nat) (h63 : l.length ≤ 9223372036854775807) : Rd .u8 (W.alloc (.cells (vals .u8 l).toArray e fr)) (W.heap.size + 1) (some ⟨W.heap.size, 0, none⟩) l.length l :=
  ⟨Nat.le_refl _, h63, fun _ => ⟨W.heap.size, 0, rfl, Nat.lt_succ_self _, fun j hj => by
    rw [cell_of_row _ _ _ _ e fr (heap_alloc_new W _), Nat.zero_add, List.getElem?_toArray]
    exact vals_at .u8 l hj⟩⟩
/-- A sector of one byte that was typed. -/
theorem sector_one (W : World) (x : Nat) (fr : Nat × Nat) :
    Calls Try.prog 20 #[.slice (some ⟨W.heap.size, 0, none⟩) 1 1] (W.alloc (.cells #[.int .u8 (x : Int)] 5 fr)) fun e w' => e = .returned (.slice (some ⟨W.heap.size + 1, 0, none⟩) 64 64) ∧ Rd .u8 w' w'.heap.size (some ⟨W.heap.size + 1, 0, none⟩) 64 (secOf [x]) ∧ Below W.heap.size W w' := by
  have hr := (vals_const W 5 [x] fr (by simp)).more (show W.heap.size + 1 ≤ (W.alloc (.cells (vals .u8 [x]).toArray 5 fr)).heap.size by simp)
  refine (sectorR (W.alloc (.cells (vals .u8 [x]).toArray 5 fr)) _ 1 1 [x] rfl hr).mono ?_
  rintro e w' ⟨rfl, _, hr', hb⟩
  have hs : (W.alloc (.cells (vals .u8 [x]).toArray 5 fr)).heap.size = W.heap.size + 1 := by simp
  rw [hs] at hr' hb ⊢
  exact ⟨rfl, hr', ((Below.refl W.heap.size W).alloc (Nat.le_refl _) _).trans (hb.mono (Nat.le_succ _))⟩
theorem sector_nil (W : World) :
    Calls Try.prog 20 #[.slice none 0 0] W fun e w' => e = .returned (.slice (some ⟨W.heap.size, 0, none⟩) 64 64) ∧ Rd .u8 w' w'.heap.size (some ⟨W.heap.size, 0, none⟩) 64 zsec ∧ Below W.heap.size W w' :=
  (sectorR W none 0 0 [] rfl (Rd.nil_ _ _ _)).mono fun e w' ⟨he, _, hr, hb⟩ => ⟨he, hr, hb⟩

/-- An operation's way on may be held to more. -/
theorem wpAnyH_strong {P : Program} {md : Region.Mode} {ops : Array Oper} {Q : Exit → Act → World → Prop} {S S' : World → Prop} (hS : ∀ w, S' w → S w) : ∀ (fuel : Nat) (listed : Array Bool) (a : Act) (w : World), wpAnyH P md ops Q S' fuel listed a w → wpAnyH P md ops Q S fuel listed a w
  | 0, _, _, _, h => h
  | fuel + 1, _, _, _, h => ⟨h.1, fun i hi => wpOp_mono (fun a' w' h' => ⟨hS w' h'.1, wpAnyH_strong hS fuel _ a' w' h'.2⟩) (h.2 i hi)⟩
/-- A typed row of bytes gets its mark, wherever it lies. -/
theorem run_mark (w : World) (b : Nat) (C : Array Value) (n c : Nat) (h : Holds w b 5 C) :
    ∃ w', (convert 28 28 (.slice (some ⟨b, 0, none⟩) n c)).run Try.prog w = .ok (.slice (some ⟨b, 0, none⟩) n c) w' ∧ Below b w w' ∧ (∀ a, w'.cell? a = w.cell? a) ∧ w'.heap.size = w.heap.size := by
  have hsh : w.shape? b = some (5, C.size) := by
    have h' : w.heap[b]? = some (.cells C 5 (0, 0)) := h
    unfold World.shape?
    rw [h']
  have h' : w.heap[b]? = some (.cells C 5 (0, 0)) := h
  have e : (w.freeze ⟨b, C.size, none⟩ 1).heap = w.heap.modify b fun | .cells c elem (lo, hi) => .cells c elem (if lo == hi then (C.size, C.size + 1) else (min lo C.size, max hi (C.size + 1))) | o => o := by
    unfold World.freeze
    rw [if_neg (by decide)]
    rfl
  have hb : (w.freeze ⟨b, C.size, none⟩ 1).heap[b]? = some (.cells C 5 (C.size, C.size + 1)) := by
    rw [e, Array.getElem?_modify, if_pos rfl, h']
    rfl
  have hk : ∀ k, k ≠ b → (w.freeze ⟨b, C.size, none⟩ 1).heap[k]? = w.heap[k]? := fun k hne => by
    rw [e, Array.getElem?_modify, if_neg (fun x => hne x.symm)]
  refine ⟨w.freeze ⟨b, C.size, none⟩ 1, ?_, ⟨?_, ?_, ?_, ?_, fun k hlt => hk k (by omega)⟩, fun a => ?_, ?_⟩
  · simp [convert, run_underlying Try.underlying28, run_underlying Try.underlying5, markStringish, hsh]
  · unfold World.freeze; rw [if_neg (by decide)]
  · unfold World.freeze; rw [if_neg (by decide)]
  · unfold World.freeze; rw [if_neg (by decide)]
  · rw [e, Array.size_modify]; exact Nat.le_refl _
  · by_cases ha : a.block = b
    · simp only [World.cell?]
      rw [ha, hb, h']
    · simp only [World.cell?]
      rw [hk a.block ha]
  · rw [e, Array.size_modify]
theorem rd_marked {w w' : World} {b : Nat} {x : Nat} (h : Holds w b 5 #[Value.int .u8 (x : Int)]) (hc : ∀ a, w'.cell? a = w.cell? a) (hs : w'.heap.size = w.heap.size) : Rd .u8 w' w'.heap.size (some ⟨b, 0, none⟩) 1 [x] :=
  ⟨Nat.le_refl _, by decide, fun _ => ⟨b, 0, rfl, by rw [hs]; exact Holds.lt h, fun j hj => by
    obtain rfl : j = 0 := by simpa using hj
    rw [hc, h.cell]; rfl⟩⟩

def secA : List Nat := secOf [97]
def secB : List Nat := secOf [98]
def knownA : Dk := (fresh 2).arm 2 [false, true]
def knownW : Dk := (knownA.write 0 secA).1
def knownV : Dk := (knownW.write 1 secB).1
def knownS : Dk := knownV.flush.1
theorem known_codes : (knownA.write 0 secA).2 = 0 ∧ (knownW.write 1 secB).2 = 0 ∧ knownV.flush.2 = 6 := by decide +kernel
theorem known_state : knownS.down = true ∧ knownS.read 0 = zsec ∧ knownS.read 1 = secB ∧ knownS.now.length = 2 := by decide +kernel
theorem known_bounds : knownA.waits.length ≤ 100000 ∧ knownA.ops ≤ 1000000000 ∧ knownW.waits.length ≤ 100000 ∧ knownW.ops ≤ 1000000000 ∧ knownV.waits.length ≤ 100000 ∧ knownV.ops ≤ 1000000000 := by decide +kernel

set_option maxRecDepth 100000 in
set_option maxHeartbeats 4000000 in
theorem known_any (w : World) : Calls Try.prog 11 #[] w fun e w' => e = .returned (.bool true) ∧ Below w.heap.size w w' := by
  have kc := fun (w : World) (C : Array Value) (n c : Nat) => Lib.run_convert_bytes_const (P := Try.prog) w 28 5 C n c Try.underlying28 Try.underlying5
  have hnew := diskB_new w 2 (by omega) (by omega)
  rw [show ((2 : Nat) : Int) = 2 from rfl] at hnew
  have HNEW := Lib.hid hnew
  clear hnew
  go_enter Try.func11, Try.ntmps11
  go_wp2_with fail
  refine HNEW.out.mono ?_
  rintro e w1 ⟨gd, rfl, hd1, hb1⟩
  have ha : Below w1.heap.size w1 (w1.alloc (.cells #[.bool false, .bool true] 4)) := (Below.refl _ _).alloc (Nat.le_refl _) _
  have ht : Truths (w1.alloc (.cells #[.bool false, .bool true] 4)) (some ⟨w1.heap.size, 0, none⟩) 2 [false, true] := ⟨Nat.le_refl _, by omega, fun _ => ⟨w1.heap.size, 0, rfl, by simp, fun j hj => by
    rw [cell_of_row _ _ _ _ 4 (0, 0) (heap_alloc_new w1 _)]
    have hj2 : j < 2 := hj
    rcases (by omega : j = 0 ∨ j = 1) with rfl | rfl <;> rfl⟩⟩
  have hp := hd1.pos.2
  have HA := Lib.hid (diskB_arm (hd1.under ha) 2 (some ⟨w1.heap.size, 0, none⟩) 2 2 [false, true] rfl ht (by omega) (fun _ g hg => by
    obtain rfl : w1.heap.size = g := by simpa [blockOf] using hg
    omega))
  have HB1 := Lib.hid (hb1.trans (ha.mono hb1.size))
  clear hd1 hb1 ha ht hp HNEW
  go_wp2_with fail
  refine HA.out.mono ?_
  rintro e w2 ⟨rfl, hd2, hb2⟩
  have HD2 : Hid (DiskB w2 w.heap.size gd knownA) := Lib.hid hd2
  have HB2 := Lib.hid (HB1.out.trans hb2)
  clear hd2 hb2 HA HB1
  go_wp2_with fail
  refine (sector_one w2 97 (1, 2)).mono ?_
  rintro e w3 ⟨rfl, hr3, hb3⟩
  have HD3 := Lib.hid (HD2.out.under hb3)
  have HB3 := Lib.hid (HB2.out.trans (hb3.mono HB2.out.size))
  have HR3 := Lib.hid hr3
  clear hr3 hb3 HD2 HB2
  go_wp2_with fail
  refine (diskB_write HD3.out 0 _ 64 64 secA (secOf_length _) HR3.out known_bounds.1 known_bounds.2.1).mono ?_
  rintro e w4 ⟨rfl, hd4, hb4⟩
  rw [known_codes.1]
  have HD4 : Hid (DiskB w4 w.heap.size gd knownW) := Lib.hid hd4
  have HB4 := Lib.hid (HB3.out.trans hb4)
  clear hd4 hb4 HD3 HB3 HR3
  go_wp2_with fail
  refine (sector_one w4 98 (1, 2)).mono ?_
  rintro e w5 ⟨rfl, hr5, hb5⟩
  have HD5 := Lib.hid (HD4.out.under hb5)
  have HB5 := Lib.hid (HB4.out.trans (hb5.mono HB4.out.size))
  have HR5 := Lib.hid hr5
  clear hr5 hb5 HD4 HB4
  go_wp2_with fail
  refine (diskB_write HD5.out 1 _ 64 64 secB (secOf_length _) HR5.out known_bounds.2.2.1 known_bounds.2.2.2.1).mono ?_
  rintro e w6 ⟨rfl, hd6, hb6⟩
  rw [known_codes.2.1]
  have HD6 : Hid (DiskB w6 w.heap.size gd knownV) := Lib.hid hd6
  have HB6 := Lib.hid (HB5.out.trans hb6)
  clear hd6 hb6 HD5 HB5 HR5
  go_wp2_with fail
  refine (diskB_flush HD6.out known_bounds.2.2.2.2.1 known_bounds.2.2.2.2.2).mono ?_
  rintro e w7 ⟨rfl, hd7, hb7⟩
  rw [known_codes.2.2]
  have HD7 : Hid (DiskB w7.drew w.heap.size gd knownS) := Lib.hid (DiskB.drew hd7)
  have HB7 : Hid (Below w.heap.size w w7.drew) := Lib.hid (HB6.out.trans hb7).drew
  clear hd7 hb7 HD6 HB6
  have HQ0 : Hid (Below w7.heap.size w7.drew w7.drew) := Lib.hid (Below.refl _ _)
  have hdn := fun W (hW : Below w7.heap.size w7.drew W) => disk_down (DiskB.under HD7.out hW).2
  rw [known_state.1] at hdn
  have HDN := Lib.hid hdn
  have HRD0 := Lib.hid (fun W (hW : Below w7.heap.size w7.drew W) => diskB_read (DiskB.under HD7.out hW) 0 zsec known_state.2.1)
  have HRD1 := Lib.hid (fun W (hW : Below w7.heap.size w7.drew W) => diskB_read (DiskB.under HD7.out hW) 1 secB known_state.2.2.1)
  have hsz := fun W (hW : Below w7.heap.size w7.drew W) => disk_size (DiskB.under HD7.out hW).2
  rw [known_state.2.2.2] at hsz
  have HSZ := Lib.hid hsz
  have HZL : Hid (zsec.length = 64) := Lib.hid rfl
  have HBL : Hid (secB.length = 64) := Lib.hid (secOf_length _)
  obtain ⟨z0, hz0⟩ : ∃ z, z = str zsec := ⟨_, rfl⟩
  obtain ⟨z1, hz1⟩ : ∃ z, z = str secB := ⟨_, rfl⟩
  have HZ0 := Lib.hid hz0
  have HZ1 := Lib.hid hz1
  have HZO : Hid (∀ x ∈ zsec, x < 256) := Lib.hid zsec_oct
  have HBO : Hid (∀ x ∈ secB, x < 256) := Lib.hid (secOf_oct (by intro x hx; simp at hx; omega))
  clear hdn hsz hz0 hz1
  go_wp2_with fail
  refine wp_region_noPanic ?_
  refine wp_region_held_drew (S := fun _ => True) (by kernel_rfl) trivial (fun hHeld => ?_)
  refine wpAnyH_take (i := 0) (oi := { dst := some 22, op := Op.move (Operand.tmp 2), type := 34, pos := _, after := _, guard := none }) (v := ?_) rfl (by kernel_rfl) (by kernel_rfl) (by kernel_rfl) (fun _ _ _ h => h) (Or.inl ⟨by rfl, ?_⟩) hHeld ?_
  rotate_left 1
  · (intro W hW; (try dsimp only at hW); go_simp; try with_reducible rfl)
  try simp only [Act.put, List.setIfInBounds_toArray, List.set_cons_zero, List.set_cons_succ]
  refine wpAnyH_take (i := 1) (oi := { dst := some 23, op := Op.binOp BinOp.eql 34 (Operand.tmp 22) (Operand.const (Value.int IntKind.i64 0)) 34, type := 4, pos := _, after := _, guard := none }) (v := ?_) rfl (by kernel_rfl) (by kernel_rfl) (by kernel_rfl) (fun _ _ _ h => h) (Or.inl ⟨by rfl, ?_⟩) hHeld ?_
  rotate_left 1
  · (intro W hW; (try dsimp only at hW); go_simp; try with_reducible rfl)
  try simp only [Act.put, List.setIfInBounds_toArray, List.set_cons_zero, List.set_cons_succ]
  refine wpAnyH_take (i := 2) (oi := { dst := some 24, op := Op.move (Operand.tmp 23), type := 4, pos := _, after := _, guard := none }) (v := ?_) rfl (by kernel_rfl) (by kernel_rfl) (by kernel_rfl) (fun _ _ _ h => h) (Or.inl ⟨by rfl, ?_⟩) hHeld ?_
  rotate_left 1
  · (intro W hW; (try dsimp only at hW); go_simp; try with_reducible rfl)
  try simp only [Act.put, List.setIfInBounds_toArray, List.set_cons_zero, List.set_cons_succ]
  refine wpAnyH_take (i := 3) (oi := { dst := some 25, op := Op.move (Operand.tmp 3), type := 34, pos := _, after := _, guard := some (2, true) }) (v := ?_) rfl (by kernel_rfl) (by kernel_rfl) (by kernel_rfl) (fun _ _ _ h => h) (Or.inl ⟨by rfl, ?_⟩) hHeld ?_
  rotate_left 1
  · (intro W hW; (try dsimp only at hW); go_simp; try with_reducible rfl)
  try simp only [Act.put, List.setIfInBounds_toArray, List.set_cons_zero, List.set_cons_succ]
  refine wpAnyH_take (i := 4) (oi := { dst := some 26, op := Op.binOp BinOp.eql 34 (Operand.tmp 25) (Operand.const (Value.int IntKind.i64 0)) 34, type := 4, pos := _, after := _, guard := some (2, true) }) (v := ?_) rfl (by kernel_rfl) (by kernel_rfl) (by kernel_rfl) (fun _ _ _ h => h) (Or.inl ⟨by rfl, ?_⟩) hHeld ?_
  rotate_left 1
  · (intro W hW; (try dsimp only at hW); go_simp; try with_reducible rfl)
  try simp only [Act.put, List.setIfInBounds_toArray, List.set_cons_zero, List.set_cons_succ]
  refine wpAnyH_take (i := 5) (oi := { dst := some 27, op := Op.pick (Operand.tmp 24) (Operand.tmp 26) (Operand.const (Value.bool false)), type := 4, pos := _, after := _, guard := none }) (v := ?_) rfl (by kernel_rfl) (by kernel_rfl) (by kernel_rfl) (fun _ _ _ h => h) (Or.inl ⟨by rfl, ?_⟩) hHeld ?_
  rotate_left 1
  · (intro W hW; (try dsimp only at hW); go_simp; try with_reducible rfl)
  try simp only [Act.put, List.setIfInBounds_toArray, List.set_cons_zero, List.set_cons_succ]
  refine wpAnyH_take (i := 6) (oi := { dst := some 28, op := Op.move (Operand.tmp 27), type := 4, pos := _, after := _, guard := none }) (v := ?_) rfl (by kernel_rfl) (by kernel_rfl) (by kernel_rfl) (fun _ _ _ h => h) (Or.inl ⟨by rfl, ?_⟩) hHeld ?_
  rotate_left 1
  · (intro W hW; (try dsimp only at hW); go_simp; try with_reducible rfl)
  try simp only [Act.put, List.setIfInBounds_toArray, List.set_cons_zero, List.set_cons_succ]
  refine wpAnyH_take (i := 7) (oi := { dst := some 29, op := Op.move (Operand.tmp 4), type := 34, pos := _, after := _, guard := some (6, true) }) (v := ?_) rfl (by kernel_rfl) (by kernel_rfl) (by kernel_rfl) (fun _ _ _ h => h) (Or.inl ⟨by rfl, ?_⟩) hHeld ?_
  rotate_left 1
  · (intro W hW; (try dsimp only at hW); go_simp; try with_reducible rfl)
  try simp only [Act.put, List.setIfInBounds_toArray, List.set_cons_zero, List.set_cons_succ]
  refine wpAnyH_take (i := 8) (oi := { dst := some 30, op := Op.binOp BinOp.eql 34 (Operand.tmp 29) (Operand.const (Value.int IntKind.i64 6)) 34, type := 4, pos := _, after := _, guard := some (6, true) }) (v := ?_) rfl (by kernel_rfl) (by kernel_rfl) (by kernel_rfl) (fun _ _ _ h => h) (Or.inl ⟨by rfl, ?_⟩) hHeld ?_
  rotate_left 1
  · (intro W hW; (try dsimp only at hW); go_simp; try with_reducible rfl)
  try simp only [Act.put, List.setIfInBounds_toArray, List.set_cons_zero, List.set_cons_succ]
  refine wpAnyH_take (i := 9) (oi := { dst := some 31, op := Op.pick (Operand.tmp 28) (Operand.tmp 30) (Operand.const (Value.bool false)), type := 4, pos := _, after := _, guard := none }) (v := ?_) rfl (by kernel_rfl) (by kernel_rfl) (by kernel_rfl) (fun _ _ _ h => h) (Or.inl ⟨by rfl, ?_⟩) hHeld ?_
  rotate_left 1
  · (intro W hW; (try dsimp only at hW); go_simp; try with_reducible rfl)
  try simp only [Act.put, List.setIfInBounds_toArray, List.set_cons_zero, List.set_cons_succ]
  refine wpAnyH_take (i := 10) (oi := { dst := some 32, op := Op.move (Operand.tmp 31), type := 4, pos := _, after := _, guard := none }) (v := ?_) rfl (by kernel_rfl) (by kernel_rfl) (by kernel_rfl) (fun _ _ _ h => h) (Or.inl ⟨by rfl, ?_⟩) hHeld ?_
  rotate_left 1
  · (intro W hW; (try dsimp only at hW); go_simp; try with_reducible rfl)
  try simp only [Act.put, List.setIfInBounds_toArray, List.set_cons_zero, List.set_cons_succ]
  refine wpAnyH_take (i := 11) (oi := { dst := some 33, op := Op.move (Operand.tmp 1), type := 23, pos := _, after := _, guard := some (10, true) }) (v := ?_) rfl (by kernel_rfl) (by kernel_rfl) (by kernel_rfl) (fun _ _ _ h => h) (Or.inl ⟨by rfl, ?_⟩) hHeld ?_
  rotate_left 1
  · (intro W hW; (try dsimp only at hW); go_simp; try with_reducible rfl)
  try simp only [Act.put, List.setIfInBounds_toArray, List.set_cons_zero, List.set_cons_succ]
  refine wpAnyH_ready (rs := [12]) (by kernel_rfl) (by simp) ?_
  refine AllReadyH.cons (o := { dst := some 34, op := Op.call { callee := Callee.value (Operand.func 22), args := #[Operand.tmp 33], argTypes := #[23] }, type := 4, pos := _, after := _, guard := some (10, true) }) rfl (fun K hK => ?_) AllReadyH.nil
  go_simp
  refine (HDN.out _ HQ0.out).mono ?_
  rintro e w8 ⟨rfl, rfl⟩
  go_simp
  refine hK.out _ _ (trivial) (fun _ => ?_)
  clear hK K hHeld
  try simp only [Act.put, List.setIfInBounds_toArray, List.set_cons_zero, List.set_cons_succ]
  have hHeld : True := trivial
  refine wpAnyH_take (i := 13) (oi := { dst := some 35, op := Op.pick (Operand.tmp 32) (Operand.tmp 34) (Operand.const (Value.bool false)), type := 4, pos := _, after := _, guard := none }) (v := ?_) rfl (by kernel_rfl) (by kernel_rfl) (by kernel_rfl) (fun _ _ _ h => h) (Or.inl ⟨by rfl, ?_⟩) hHeld ?_
  rotate_left 1
  · (intro W hW; (try dsimp only at hW); go_simp; try with_reducible rfl)
  try simp only [Act.put, List.setIfInBounds_toArray, List.set_cons_zero, List.set_cons_succ]
  refine wpAnyH_take (i := 14) (oi := { dst := some 36, op := Op.move (Operand.tmp 35), type := 4, pos := _, after := _, guard := none }) (v := ?_) rfl (by kernel_rfl) (by kernel_rfl) (by kernel_rfl) (fun _ _ _ h => h) (Or.inl ⟨by rfl, ?_⟩) hHeld ?_
  rotate_left 1
  · (intro W hW; (try dsimp only at hW); go_simp; try with_reducible rfl)
  try simp only [Act.put, List.setIfInBounds_toArray, List.set_cons_zero, List.set_cons_succ]
  refine wpAnyH_take (i := 15) (oi := { dst := some 37, op := Op.move (Operand.tmp 1), type := 23, pos := _, after := _, guard := some (14, true) }) (v := ?_) rfl (by kernel_rfl) (by kernel_rfl) (by kernel_rfl) (fun _ _ _ h => h) (Or.inl ⟨by rfl, ?_⟩) hHeld ?_
  rotate_left 1
  · (intro W hW; (try dsimp only at hW); go_simp; try with_reducible rfl)
  try simp only [Act.put, List.setIfInBounds_toArray, List.set_cons_zero, List.set_cons_succ]
  refine wpAnyH_ready (rs := [16]) (by kernel_rfl) (by simp) ?_
  refine AllReadyH.cons (o := { dst := some 38, op := Op.call { callee := Callee.value (Operand.func 23), args := #[Operand.tmp 37, Operand.const (Value.int IntKind.i64 0)], argTypes := #[23, 3] }, type := 28, pos := _, after := _, guard := some (14, true) }) rfl (fun K hK => ?_) AllReadyH.nil
  go_simp
  refine (HRD0.out _ HQ0.out).mono ?_
  rintro e w9 ⟨A9, c9, rfl, hr9, hb9⟩
  rw [HZL.out]
  have HQ9 := Lib.hid (HQ0.out.trans hb9)
  have HR9 := Lib.hid hr9
  clear hr9 hb9
  go_simp
  refine hK.out _ _ (trivial) (fun _ => ?_)
  clear hK K hHeld
  try simp only [Act.put, List.setIfInBounds_toArray, List.set_cons_zero, List.set_cons_succ]
  refine wpAnyH_strong (S' := fun W => Below w9.heap.size w9 W) (fun W hW => trivial) _ _ _ _ ?_
  have hHeld : (fun W => Below w9.heap.size w9 W) _ := Below.refl _ _
  refine wpAnyH_take (i := 17) (oi := { dst := some 39, op := Op.convert 28 9 (Operand.tmp 38), type := 9, pos := _, after := _, guard := some (14, true) }) (v := ?_) rfl (by kernel_rfl) (by kernel_rfl) (by kernel_rfl) (fun _ _ _ h => h) (Or.inl ⟨by rfl, ?_⟩) hHeld ?_
  rotate_left 1
  · (intro W hW; have hcv := conv_str (Rd.under HR9.out hW) HZL.out HZO.out; rw [← HZ0.out] at hcv; (try dsimp only at hW); go_simp; try with_reducible rfl)
  try simp only [Act.put, List.setIfInBounds_toArray, List.set_cons_zero, List.set_cons_succ]
  refine wpAnyH_ready (rs := [18]) (by kernel_rfl) (by simp) ?_
  refine AllReadyH.cons (o := { dst := some 40, op := Op.call { callee := Callee.value (Operand.func 20), args := #[Operand.const (Value.slice none 0 0)], argTypes := #[28] }, type := 28, pos := _, after := _, guard := some (14, true) }) rfl (fun K hK => ?_) AllReadyH.nil
  go_simp
  refine (sector_nil _).mono ?_
  rintro e wa ⟨rfl, hra, hba⟩
  have HQa := Lib.hid (HQ9.out.trans (hba.mono HQ9.out.size))
  have HRa := Lib.hid hra
  have HBa := Lib.hid hba
  clear hra hba
  go_simp
  refine hK.out _ _ (HBa.out) (fun _ => ?_)
  clear hK K hHeld
  try simp only [Act.put, List.setIfInBounds_toArray, List.set_cons_zero, List.set_cons_succ]
  refine wpAnyH_strong (S' := fun W => Below wa.heap.size wa W) (fun W hW => HBa.out.trans (hW.mono HBa.out.size)) _ _ _ _ ?_
  have hHeld : (fun W => Below wa.heap.size wa W) _ := Below.refl _ _
  refine wpAnyH_take (i := 19) (oi := { dst := some 41, op := Op.convert 28 9 (Operand.tmp 40), type := 9, pos := _, after := _, guard := some (14, true) }) (v := ?_) rfl (by kernel_rfl) (by kernel_rfl) (by kernel_rfl) (fun _ _ _ h => h) (Or.inl ⟨by rfl, ?_⟩) hHeld ?_
  rotate_left 1
  · (intro W hW; have hcv := conv_str (Rd.under HRa.out hW) HZL.out HZO.out; rw [← HZ0.out] at hcv; (try dsimp only at hW); go_simp; try with_reducible rfl)
  try simp only [Act.put, List.setIfInBounds_toArray, List.set_cons_zero, List.set_cons_succ]
  refine wpAnyH_take (i := 20) (oi := { dst := some 42, op := Op.binOp BinOp.eql 9 (Operand.tmp 39) (Operand.tmp 41) 9, type := 4, pos := _, after := _, guard := some (14, true) }) (v := ?_) rfl (by kernel_rfl) (by kernel_rfl) (by kernel_rfl) (fun _ _ _ h => h) (Or.inl ⟨by rfl, ?_⟩) hHeld ?_
  rotate_left 1
  · (intro W hW; (try dsimp only at hW); go_simp; try with_reducible rfl)
  try simp only [Act.put, List.setIfInBounds_toArray, List.set_cons_zero, List.set_cons_succ]
  refine wpAnyH_take (i := 21) (oi := { dst := some 43, op := Op.pick (Operand.tmp 36) (Operand.tmp 42) (Operand.const (Value.bool false)), type := 4, pos := _, after := _, guard := none }) (v := ?_) rfl (by kernel_rfl) (by kernel_rfl) (by kernel_rfl) (fun _ _ _ h => h) (Or.inl ⟨by rfl, ?_⟩) hHeld ?_
  rotate_left 1
  · (intro W hW; (try dsimp only at hW); go_simp; try with_reducible rfl)
  try simp only [Act.put, List.setIfInBounds_toArray, List.set_cons_zero, List.set_cons_succ]
  refine wpAnyH_take (i := 22) (oi := { dst := some 44, op := Op.move (Operand.tmp 43), type := 4, pos := _, after := _, guard := none }) (v := ?_) rfl (by kernel_rfl) (by kernel_rfl) (by kernel_rfl) (fun _ _ _ h => h) (Or.inl ⟨by rfl, ?_⟩) hHeld ?_
  rotate_left 1
  · (intro W hW; (try dsimp only at hW); go_simp; try with_reducible rfl)
  try simp only [Act.put, List.setIfInBounds_toArray, List.set_cons_zero, List.set_cons_succ]
  refine wpAnyH_take (i := 23) (oi := { dst := some 45, op := Op.move (Operand.tmp 1), type := 23, pos := _, after := _, guard := some (22, true) }) (v := ?_) rfl (by kernel_rfl) (by kernel_rfl) (by kernel_rfl) (fun _ _ _ h => h) (Or.inl ⟨by rfl, ?_⟩) hHeld ?_
  rotate_left 1
  · (intro W hW; (try dsimp only at hW); go_simp; try with_reducible rfl)
  try simp only [Act.put, List.setIfInBounds_toArray, List.set_cons_zero, List.set_cons_succ]
  refine wpAnyH_ready (rs := [24, 26]) (by kernel_rfl) (by simp) ?_
  refine AllReadyH.cons (o := { dst := some 46, op := Op.call { callee := Callee.value (Operand.func 23), args := #[Operand.tmp 45, Operand.const (Value.int IntKind.i64 1)], argTypes := #[23, 3] }, type := 28, pos := _, after := _, guard := some (22, true) }) rfl (fun K hK => ?_) ?_
  · go_simp
    refine (HRD1.out _ HQa.out).mono ?_
    rintro e wc ⟨Awc, cwc, rfl, hrwc, hbwc⟩
    rw [HBL.out]
    have HQwc := Lib.hid (HQa.out.trans (hbwc.mono HQa.out.size))
    have HRwc := Lib.hid hrwc
    have HBwc := Lib.hid hbwc
    clear hrwc hbwc
    go_simp
    refine hK.out _ _ (HBwc.out) (fun _ => ?_)
    clear hK K hHeld
    try simp only [Act.put, List.setIfInBounds_toArray, List.set_cons_zero, List.set_cons_succ]
    refine wpAnyH_strong (S' := fun W => Below wc.heap.size wc W) (fun W hW => HBwc.out.trans (hW.mono HBwc.out.size)) _ _ _ _ ?_
    have hHeld : (fun W => Below wc.heap.size wc W) _ := Below.refl _ _
    refine wpAnyH_take (i := 25) (oi := { dst := some 47, op := Op.convert 28 9 (Operand.tmp 46), type := 9, pos := _, after := _, guard := some (22, true) }) (v := ?_) rfl (by kernel_rfl) (by kernel_rfl) (by kernel_rfl) (fun _ _ _ h => h) (Or.inl ⟨by rfl, ?_⟩) hHeld ?_
    rotate_left 1
    · (intro W hW; have hcv := conv_str (Rd.under HRwc.out hW) HBL.out HBO.out; rw [← HZ1.out] at hcv; (try dsimp only at hW); go_simp; try with_reducible rfl)
    try simp only [Act.put, List.setIfInBounds_toArray, List.set_cons_zero, List.set_cons_succ]
    refine wpAnyH_ready (rs := [26]) (by kernel_rfl) (by simp) ?_
    refine AllReadyH.cons (o := { dst := some 48, op := Op.buildSlice 28 1 #[(0, Operand.const (Value.int IntKind.u8 98))], type := 28, pos := _, after := _, guard := some (22, true) }) rfl (fun K hK => ?_) AllReadyH.nil
    go_simp
    have hbd : Below wc.heap.size wc (wc.alloc (.cells #[Value.int .u8 98] 5)) := (Below.refl _ _).alloc (Nat.le_refl _) _
    have hfd : Holds (wc.alloc (.cells #[Value.int .u8 98] 5)) wc.heap.size 5 #[Value.int .u8 98] := Holds.fresh _ _ _
    generalize wc.alloc (.cells #[Value.int .u8 98] 5) = wd at *
    have HBd := Lib.hid hbd
    have HFd := Lib.hid hfd
    clear hbd hfd
    refine hK.out _ _ (HBd.out) (fun _ => ?_)
    clear hK K hHeld
    try simp only [Act.put, List.setIfInBounds_toArray, List.set_cons_zero, List.set_cons_succ]
    have hHeld : Below wc.heap.size wc wd := HBd.out
    refine wpAnyH_ready (rs := [27]) (by kernel_rfl) (by simp) ?_
    refine AllReadyH.cons (o := { dst := some 49, op := Op.convert 28 28 (Operand.tmp 48), type := 28, pos := _, after := _, guard := some (22, true) }) rfl (fun K hK => ?_) AllReadyH.nil
    have HQbm := Lib.hid (HQwc.out.size)
    have HQd := Lib.hid (HQwc.out.trans (HBd.out.mono HQwc.out.size))
    obtain ⟨wm, hcvwm, hmwm, hcwm, hswm⟩ := run_mark wd wc.heap.size #[Value.int .u8 98] 1 1 HFd.out
    go_simp
    have HBwm := Lib.hid (show Below wc.heap.size wd wm from hmwm)
    have HCwm := Lib.hid hcwm
    have HSwm := Lib.hid hswm
    have HQwm := Lib.hid (HQd.out.trans ((HBwm.out).mono (HQbm.out)))
    clear hcvwm hmwm hcwm hswm
    have HBm2 := Lib.hid (HBd.out.trans HBwm.out)
    refine hK.out _ _ (HBm2.out) (fun _ => ?_)
    clear hK K hHeld
    try simp only [Act.put, List.setIfInBounds_toArray, List.set_cons_zero, List.set_cons_succ]
    have hHeld : Below wc.heap.size wc wm := HBm2.out
    have HRb : Hid (Rd .u8 wm wm.heap.size (some ⟨wc.heap.size, 0, none⟩) 1 [98]) := Lib.hid (rd_marked HFd.out HCwm.out HSwm.out)
    refine wpAnyH_ready (rs := [28]) (by kernel_rfl) (by simp) ?_
    refine AllReadyH.cons (o := { dst := some 50, op := Op.call { callee := Callee.value (Operand.func 20), args := #[Operand.tmp 49], argTypes := #[28] }, type := 28, pos := _, after := _, guard := some (22, true) }) rfl (fun K hK => ?_) AllReadyH.nil
    go_simp
    refine (sectorR _ _ 1 1 [98] rfl HRb.out).mono ?_
    rintro e we ⟨rfl, _, hre, hbe⟩
    have HQe := Lib.hid (HQwm.out.trans (hbe.mono HQwm.out.size))
    have HRe := Lib.hid (show Rd .u8 we we.heap.size (some ⟨wm.heap.size, 0, none⟩) 64 secB from hre)
    have HBe := Lib.hid hbe
    clear hre hbe
    go_simp
    refine hK.out _ _ (HBm2.out.trans (HBe.out.mono HBm2.out.size)) (fun _ => ?_)
    clear hK K hHeld
    try simp only [Act.put, List.setIfInBounds_toArray, List.set_cons_zero, List.set_cons_succ]
    refine wpAnyH_strong (S' := fun W => Below we.heap.size we W) (fun W hW => HBm2.out.trans ((HBe.out.trans (hW.mono HBe.out.size)).mono HBm2.out.size)) _ _ _ _ ?_
    have hHeld : (fun W => Below we.heap.size we W) _ := Below.refl _ _
    refine wpAnyH_take (i := 29) (oi := { dst := some 51, op := Op.convert 28 9 (Operand.tmp 50), type := 9, pos := _, after := _, guard := some (22, true) }) (v := ?_) rfl (by kernel_rfl) (by kernel_rfl) (by kernel_rfl) (fun _ _ _ h => h) (Or.inl ⟨by rfl, ?_⟩) hHeld ?_
    rotate_left 1
    · (intro W hW; have hcv := conv_str (Rd.under HRe.out hW) HBL.out HBO.out; rw [← HZ1.out] at hcv; (try dsimp only at hW); go_simp; try with_reducible rfl)
    try simp only [Act.put, List.setIfInBounds_toArray, List.set_cons_zero, List.set_cons_succ]
    refine wpAnyH_take (i := 30) (oi := { dst := some 52, op := Op.binOp BinOp.eql 9 (Operand.tmp 47) (Operand.tmp 51) 9, type := 4, pos := _, after := _, guard := some (22, true) }) (v := ?_) rfl (by kernel_rfl) (by kernel_rfl) (by kernel_rfl) (fun _ _ _ h => h) (Or.inl ⟨by rfl, ?_⟩) hHeld ?_
    rotate_left 1
    · (intro W hW; (try dsimp only at hW); go_simp; try with_reducible rfl)
    try simp only [Act.put, List.setIfInBounds_toArray, List.set_cons_zero, List.set_cons_succ]
    refine wpAnyH_take (i := 31) (oi := { dst := some 53, op := Op.pick (Operand.tmp 44) (Operand.tmp 52) (Operand.const (Value.bool false)), type := 4, pos := _, after := _, guard := none }) (v := ?_) rfl (by kernel_rfl) (by kernel_rfl) (by kernel_rfl) (fun _ _ _ h => h) (Or.inl ⟨by rfl, ?_⟩) hHeld ?_
    rotate_left 1
    · (intro W hW; (try dsimp only at hW); go_simp; try with_reducible rfl)
    try simp only [Act.put, List.setIfInBounds_toArray, List.set_cons_zero, List.set_cons_succ]
    refine wpAnyH_take (i := 32) (oi := { dst := some 54, op := Op.move (Operand.tmp 53), type := 4, pos := _, after := _, guard := none }) (v := ?_) rfl (by kernel_rfl) (by kernel_rfl) (by kernel_rfl) (fun _ _ _ h => h) (Or.inl ⟨by rfl, ?_⟩) hHeld ?_
    rotate_left 1
    · (intro W hW; (try dsimp only at hW); go_simp; try with_reducible rfl)
    try simp only [Act.put, List.setIfInBounds_toArray, List.set_cons_zero, List.set_cons_succ]
    refine wpAnyH_take (i := 33) (oi := { dst := some 55, op := Op.move (Operand.tmp 1), type := 23, pos := _, after := _, guard := some (32, true) }) (v := ?_) rfl (by kernel_rfl) (by kernel_rfl) (by kernel_rfl) (fun _ _ _ h => h) (Or.inl ⟨by rfl, ?_⟩) hHeld ?_
    rotate_left 1
    · (intro W hW; (try dsimp only at hW); go_simp; try with_reducible rfl)
    try simp only [Act.put, List.setIfInBounds_toArray, List.set_cons_zero, List.set_cons_succ]
    refine wpAnyH_ready (rs := [34]) (by kernel_rfl) (by simp) ?_
    refine AllReadyH.cons (o := { dst := some 56, op := Op.call { callee := Callee.value (Operand.func 25), args := #[Operand.tmp 55], argTypes := #[23] }, type := 3, pos := _, after := _, guard := some (32, true) }) rfl (fun K hK => ?_) AllReadyH.nil
    go_simp
    refine (HSZ.out _ HQe.out).mono ?_
    rintro e wg ⟨rfl, rfl⟩
    go_simp
    refine hK.out _ _ hHeld (fun _ => ?_)
    clear hK K
    try simp only [Act.put, List.setIfInBounds_toArray, List.set_cons_zero, List.set_cons_succ]
    refine wpAnyH_take (i := 35) (oi := { dst := some 57, op := Op.binOp BinOp.eql 3 (Operand.tmp 56) (Operand.const (Value.int IntKind.i64 2)) 3, type := 4, pos := _, after := _, guard := some (32, true) }) (v := ?_) rfl (by kernel_rfl) (by kernel_rfl) (by kernel_rfl) (fun _ _ _ h => h) (Or.inl ⟨by rfl, ?_⟩) hHeld ?_
    rotate_left 1
    · (intro W hW; (try dsimp only at hW); go_simp; try with_reducible rfl)
    try simp only [Act.put, List.setIfInBounds_toArray, List.set_cons_zero, List.set_cons_succ]
    refine wpAnyH_take (i := 36) (oi := { dst := some 58, op := Op.pick (Operand.tmp 54) (Operand.tmp 57) (Operand.const (Value.bool false)), type := 4, pos := _, after := _, guard := none }) (v := ?_) rfl (by kernel_rfl) (by kernel_rfl) (by kernel_rfl) (fun _ _ _ h => h) (Or.inl ⟨by rfl, ?_⟩) hHeld ?_
    rotate_left 1
    · (intro W hW; (try dsimp only at hW); go_simp; try with_reducible rfl)
    try simp only [Act.put, List.setIfInBounds_toArray, List.set_cons_zero, List.set_cons_succ]
    refine wpAnyH_take (i := 37) (oi := { dst := some 0, op := Op.assign (Operand.tmp 58), type := 4, pos := _, after := _, guard := none }) (v := ?_) rfl (by kernel_rfl) (by kernel_rfl) (by kernel_rfl) (fun _ _ _ h => h) (Or.inl ⟨by rfl, ?_⟩) hHeld ?_
    rotate_left 1
    · (intro W hW; (try dsimp only at hW); go_simp; try with_reducible rfl)
    try simp only [Act.put, List.setIfInBounds_toArray, List.set_cons_zero, List.set_cons_succ]
    refine wpAnyH_done (by kernel_rfl) ?_ _
    refine NoPanic.normal ?_
    go_wp2_with fail
    go_ret
    exact ⟨rfl, HB7.out.trans (HQe.out.mono HB7.out.size)⟩
  refine AllReadyH.cons (o := { dst := some 48, op := Op.buildSlice 28 1 #[(0, Operand.const (Value.int IntKind.u8 98))], type := 28, pos := _, after := _, guard := some (22, true) }) rfl (fun K hK => ?_) AllReadyH.nil
  go_simp
  have hbd : Below wa.heap.size wa (wa.alloc (.cells #[Value.int .u8 98] 5)) := (Below.refl _ _).alloc (Nat.le_refl _) _
  have hfd : Holds (wa.alloc (.cells #[Value.int .u8 98] 5)) wa.heap.size 5 #[Value.int .u8 98] := Holds.fresh _ _ _
  generalize wa.alloc (.cells #[Value.int .u8 98] 5) = wd at *
  have HBd := Lib.hid hbd
  have HFd := Lib.hid hfd
  clear hbd hfd
  have HQd := Lib.hid (HQa.out.trans (HBd.out.mono HQa.out.size))
  refine hK.out _ _ (HBd.out) (fun _ => ?_)
  clear hK K hHeld
  try simp only [Act.put, List.setIfInBounds_toArray, List.set_cons_zero, List.set_cons_succ]
  have hHeld : Below wa.heap.size wa wd := HBd.out
  refine wpAnyH_ready (rs := [24, 27]) (by kernel_rfl) (by simp) ?_
  refine AllReadyH.cons (o := { dst := some 46, op := Op.call { callee := Callee.value (Operand.func 23), args := #[Operand.tmp 45, Operand.const (Value.int IntKind.i64 1)], argTypes := #[23, 3] }, type := 28, pos := _, after := _, guard := some (22, true) }) rfl (fun K hK => ?_) ?_
  · go_simp
    refine (HRD1.out _ HQd.out).mono ?_
    rintro e wc ⟨Awc, cwc, rfl, hrwc, hbwc⟩
    rw [HBL.out]
    have HQwc := Lib.hid (HQd.out.trans (hbwc.mono HQd.out.size))
    have HRwc := Lib.hid hrwc
    have HBwc := Lib.hid hbwc
    clear hrwc hbwc
    go_simp
    have HBc2 := Lib.hid (HBd.out.trans (HBwc.out.mono HBd.out.size))
    have HFc := Lib.hid (Holds.under HFd.out HBwc.out (Holds.lt HFd.out))
    refine hK.out _ _ (HBc2.out) (fun _ => ?_)
    clear hK K hHeld
    try simp only [Act.put, List.setIfInBounds_toArray, List.set_cons_zero, List.set_cons_succ]
    refine wpAnyH_strong (S' := fun W => Below wa.heap.size wa W ∧ Rd .u8 W wc.heap.size Awc cwc secB) (fun W hW => hW.1) _ _ _ _ ?_
    have hHeld : (fun W => Below wa.heap.size wa W ∧ Rd .u8 W wc.heap.size Awc cwc secB) _ := ⟨HBc2.out, HRwc.out⟩
    refine wpAnyH_take (i := 25) (oi := { dst := some 47, op := Op.convert 28 9 (Operand.tmp 46), type := 9, pos := _, after := _, guard := some (22, true) }) (v := ?_) rfl (by kernel_rfl) (by kernel_rfl) (by kernel_rfl) (fun _ _ _ h => h) (Or.inl ⟨by rfl, ?_⟩) hHeld ?_
    rotate_left 1
    · (intro W hW; have hcv := conv_str hW.2 HBL.out HBO.out; rw [← HZ1.out] at hcv; (try dsimp only at hW); go_simp; try with_reducible rfl)
    try simp only [Act.put, List.setIfInBounds_toArray, List.set_cons_zero, List.set_cons_succ]
    refine wpAnyH_ready (rs := [27]) (by kernel_rfl) (by simp) ?_
    refine AllReadyH.cons (o := { dst := some 49, op := Op.convert 28 28 (Operand.tmp 48), type := 28, pos := _, after := _, guard := some (22, true) }) rfl (fun K hK => ?_) AllReadyH.nil
    have HQbm := Lib.hid HQa.out.size
    obtain ⟨wm, hcvwm, hmwm, hcwm, hswm⟩ := run_mark wc wa.heap.size #[Value.int .u8 98] 1 1 HFc.out
    go_simp
    have HBwm := Lib.hid (show Below wa.heap.size wc wm from hmwm)
    have HCwm := Lib.hid hcwm
    have HSwm := Lib.hid hswm
    have HQwm := Lib.hid (HQwc.out.trans ((HBwm.out).mono (HQbm.out)))
    clear hcvwm hmwm hcwm hswm
    have HBm2 := Lib.hid (HBc2.out.trans HBwm.out)
    refine hK.out _ _ (⟨HBm2.out, HRwc.out.keep fun b o _ => HCwm.out _⟩) (fun _ => ?_)
    clear hK K hHeld
    try simp only [Act.put, List.setIfInBounds_toArray, List.set_cons_zero, List.set_cons_succ]
    have hHeld : (fun W => Below wa.heap.size wa W ∧ Rd .u8 W wc.heap.size Awc cwc secB) wm := ⟨HBm2.out, HRwc.out.keep fun b o _ => HCwm.out _⟩
    have HRb : Hid (Rd .u8 wm wm.heap.size (some ⟨wa.heap.size, 0, none⟩) 1 [98]) := Lib.hid (rd_marked HFc.out HCwm.out HSwm.out)
    have HRm := Lib.hid hHeld.2
    refine wpAnyH_ready (rs := [28]) (by kernel_rfl) (by simp) ?_
    refine AllReadyH.cons (o := { dst := some 50, op := Op.call { callee := Callee.value (Operand.func 20), args := #[Operand.tmp 49], argTypes := #[28] }, type := 28, pos := _, after := _, guard := some (22, true) }) rfl (fun K hK => ?_) AllReadyH.nil
    go_simp
    refine (sectorR _ _ 1 1 [98] rfl HRb.out).mono ?_
    rintro e we ⟨rfl, _, hre, hbe⟩
    have HQe := Lib.hid (HQwm.out.trans (hbe.mono HQwm.out.size))
    have HRe := Lib.hid (show Rd .u8 we we.heap.size (some ⟨wm.heap.size, 0, none⟩) 64 secB from hre)
    have HBe := Lib.hid hbe
    clear hre hbe
    go_simp
    refine hK.out _ _ (⟨HBm2.out.trans (HBe.out.mono HBm2.out.size), (HRm.out).keep fun b o hb => HBe.out.cell (p := ⟨b, o, none⟩) (show b < wm.heap.size from by have := HSwm.out; omega)⟩) (fun _ => ?_)
    clear hK K hHeld
    try simp only [Act.put, List.setIfInBounds_toArray, List.set_cons_zero, List.set_cons_succ]
    refine wpAnyH_strong (S' := fun W => Below we.heap.size we W) (fun W hW => ⟨HBm2.out.trans ((HBe.out.trans (hW.mono HBe.out.size)).mono HBm2.out.size), (HRm.out).keep fun b o hb => (HBe.out.trans (hW.mono HBe.out.size)).cell (p := ⟨b, o, none⟩) (show b < wm.heap.size from by have := HSwm.out; omega)⟩) _ _ _ _ ?_
    have hHeld : (fun W => Below we.heap.size we W) _ := Below.refl _ _
    refine wpAnyH_take (i := 29) (oi := { dst := some 51, op := Op.convert 28 9 (Operand.tmp 50), type := 9, pos := _, after := _, guard := some (22, true) }) (v := ?_) rfl (by kernel_rfl) (by kernel_rfl) (by kernel_rfl) (fun _ _ _ h => h) (Or.inl ⟨by rfl, ?_⟩) hHeld ?_
    rotate_left 1
    · (intro W hW; have hcv := conv_str (Rd.under HRe.out hW) HBL.out HBO.out; rw [← HZ1.out] at hcv; (try dsimp only at hW); go_simp; try with_reducible rfl)
    try simp only [Act.put, List.setIfInBounds_toArray, List.set_cons_zero, List.set_cons_succ]
    refine wpAnyH_take (i := 30) (oi := { dst := some 52, op := Op.binOp BinOp.eql 9 (Operand.tmp 47) (Operand.tmp 51) 9, type := 4, pos := _, after := _, guard := some (22, true) }) (v := ?_) rfl (by kernel_rfl) (by kernel_rfl) (by kernel_rfl) (fun _ _ _ h => h) (Or.inl ⟨by rfl, ?_⟩) hHeld ?_
    rotate_left 1
    · (intro W hW; (try dsimp only at hW); go_simp; try with_reducible rfl)
    try simp only [Act.put, List.setIfInBounds_toArray, List.set_cons_zero, List.set_cons_succ]
    refine wpAnyH_take (i := 31) (oi := { dst := some 53, op := Op.pick (Operand.tmp 44) (Operand.tmp 52) (Operand.const (Value.bool false)), type := 4, pos := _, after := _, guard := none }) (v := ?_) rfl (by kernel_rfl) (by kernel_rfl) (by kernel_rfl) (fun _ _ _ h => h) (Or.inl ⟨by rfl, ?_⟩) hHeld ?_
    rotate_left 1
    · (intro W hW; (try dsimp only at hW); go_simp; try with_reducible rfl)
    try simp only [Act.put, List.setIfInBounds_toArray, List.set_cons_zero, List.set_cons_succ]
    refine wpAnyH_take (i := 32) (oi := { dst := some 54, op := Op.move (Operand.tmp 53), type := 4, pos := _, after := _, guard := none }) (v := ?_) rfl (by kernel_rfl) (by kernel_rfl) (by kernel_rfl) (fun _ _ _ h => h) (Or.inl ⟨by rfl, ?_⟩) hHeld ?_
    rotate_left 1
    · (intro W hW; (try dsimp only at hW); go_simp; try with_reducible rfl)
    try simp only [Act.put, List.setIfInBounds_toArray, List.set_cons_zero, List.set_cons_succ]
    refine wpAnyH_take (i := 33) (oi := { dst := some 55, op := Op.move (Operand.tmp 1), type := 23, pos := _, after := _, guard := some (32, true) }) (v := ?_) rfl (by kernel_rfl) (by kernel_rfl) (by kernel_rfl) (fun _ _ _ h => h) (Or.inl ⟨by rfl, ?_⟩) hHeld ?_
    rotate_left 1
    · (intro W hW; (try dsimp only at hW); go_simp; try with_reducible rfl)
    try simp only [Act.put, List.setIfInBounds_toArray, List.set_cons_zero, List.set_cons_succ]
    refine wpAnyH_ready (rs := [34]) (by kernel_rfl) (by simp) ?_
    refine AllReadyH.cons (o := { dst := some 56, op := Op.call { callee := Callee.value (Operand.func 25), args := #[Operand.tmp 55], argTypes := #[23] }, type := 3, pos := _, after := _, guard := some (32, true) }) rfl (fun K hK => ?_) AllReadyH.nil
    go_simp
    refine (HSZ.out _ HQe.out).mono ?_
    rintro e wg ⟨rfl, rfl⟩
    go_simp
    refine hK.out _ _ hHeld (fun _ => ?_)
    clear hK K
    try simp only [Act.put, List.setIfInBounds_toArray, List.set_cons_zero, List.set_cons_succ]
    refine wpAnyH_take (i := 35) (oi := { dst := some 57, op := Op.binOp BinOp.eql 3 (Operand.tmp 56) (Operand.const (Value.int IntKind.i64 2)) 3, type := 4, pos := _, after := _, guard := some (32, true) }) (v := ?_) rfl (by kernel_rfl) (by kernel_rfl) (by kernel_rfl) (fun _ _ _ h => h) (Or.inl ⟨by rfl, ?_⟩) hHeld ?_
    rotate_left 1
    · (intro W hW; (try dsimp only at hW); go_simp; try with_reducible rfl)
    try simp only [Act.put, List.setIfInBounds_toArray, List.set_cons_zero, List.set_cons_succ]
    refine wpAnyH_take (i := 36) (oi := { dst := some 58, op := Op.pick (Operand.tmp 54) (Operand.tmp 57) (Operand.const (Value.bool false)), type := 4, pos := _, after := _, guard := none }) (v := ?_) rfl (by kernel_rfl) (by kernel_rfl) (by kernel_rfl) (fun _ _ _ h => h) (Or.inl ⟨by rfl, ?_⟩) hHeld ?_
    rotate_left 1
    · (intro W hW; (try dsimp only at hW); go_simp; try with_reducible rfl)
    try simp only [Act.put, List.setIfInBounds_toArray, List.set_cons_zero, List.set_cons_succ]
    refine wpAnyH_take (i := 37) (oi := { dst := some 0, op := Op.assign (Operand.tmp 58), type := 4, pos := _, after := _, guard := none }) (v := ?_) rfl (by kernel_rfl) (by kernel_rfl) (by kernel_rfl) (fun _ _ _ h => h) (Or.inl ⟨by rfl, ?_⟩) hHeld ?_
    rotate_left 1
    · (intro W hW; (try dsimp only at hW); go_simp; try with_reducible rfl)
    try simp only [Act.put, List.setIfInBounds_toArray, List.set_cons_zero, List.set_cons_succ]
    refine wpAnyH_done (by kernel_rfl) ?_ _
    refine NoPanic.normal ?_
    go_wp2_with fail
    go_ret
    exact ⟨rfl, HB7.out.trans (HQe.out.mono HB7.out.size)⟩
  refine AllReadyH.cons (o := { dst := some 49, op := Op.convert 28 28 (Operand.tmp 48), type := 28, pos := _, after := _, guard := some (22, true) }) rfl (fun K hK => ?_) AllReadyH.nil
  have HQbm := Lib.hid HQa.out.size
  obtain ⟨wm, hcvwm, hmwm, hcwm, hswm⟩ := run_mark wd wa.heap.size #[Value.int .u8 98] 1 1 HFd.out
  go_simp
  have HBwm := Lib.hid (show Below wa.heap.size wd wm from hmwm)
  have HCwm := Lib.hid hcwm
  have HSwm := Lib.hid hswm
  have HQwm := Lib.hid (HQd.out.trans ((HBwm.out).mono (HQbm.out)))
  clear hcvwm hmwm hcwm hswm
  have HBm2 := Lib.hid (HBd.out.trans HBwm.out)
  refine hK.out _ _ (HBm2.out) (fun _ => ?_)
  clear hK K hHeld
  try simp only [Act.put, List.setIfInBounds_toArray, List.set_cons_zero, List.set_cons_succ]
  have hHeld : Below wa.heap.size wa wm := HBm2.out
  have HRb0 : Hid (Rd .u8 wm wm.heap.size (some ⟨wa.heap.size, 0, none⟩) 1 [98]) := Lib.hid (rd_marked HFd.out HCwm.out HSwm.out)
  refine wpAnyH_ready (rs := [24]) (by kernel_rfl) (by simp) ?_
  refine AllReadyH.cons (o := { dst := some 46, op := Op.call { callee := Callee.value (Operand.func 23), args := #[Operand.tmp 45, Operand.const (Value.int IntKind.i64 1)], argTypes := #[23, 3] }, type := 28, pos := _, after := _, guard := some (22, true) }) rfl (fun K hK => ?_) AllReadyH.nil
  go_simp
  refine (HRD1.out _ HQwm.out).mono ?_
  rintro e wc ⟨Awc, cwc, rfl, hrwc, hbwc⟩
  rw [HBL.out]
  have HQwc := Lib.hid (HQwm.out.trans (hbwc.mono HQwm.out.size))
  have HRwc := Lib.hid hrwc
  have HBwc := Lib.hid hbwc
  clear hrwc hbwc
  go_simp
  have HBc2 := Lib.hid (HBm2.out.trans (HBwc.out.mono HBm2.out.size))
  have HRb := Lib.hid ((HRb0.out.under HBwc.out).more HBwc.out.size)
  refine hK.out _ _ (HBc2.out) (fun _ => ?_)
  clear hK K hHeld
  try simp only [Act.put, List.setIfInBounds_toArray, List.set_cons_zero, List.set_cons_succ]
  refine wpAnyH_strong (S' := fun W => Below wc.heap.size wc W) (fun W hW => HBc2.out.trans (hW.mono HBc2.out.size)) _ _ _ _ ?_
  have hHeld : (fun W => Below wc.heap.size wc W) _ := Below.refl _ _
  refine wpAnyH_take (i := 25) (oi := { dst := some 47, op := Op.convert 28 9 (Operand.tmp 46), type := 9, pos := _, after := _, guard := some (22, true) }) (v := ?_) rfl (by kernel_rfl) (by kernel_rfl) (by kernel_rfl) (fun _ _ _ h => h) (Or.inl ⟨by rfl, ?_⟩) hHeld ?_
  rotate_left 1
  · (intro W hW; have hcv := conv_str (Rd.under HRwc.out hW) HBL.out HBO.out; rw [← HZ1.out] at hcv; (try dsimp only at hW); go_simp; try with_reducible rfl)
  try simp only [Act.put, List.setIfInBounds_toArray, List.set_cons_zero, List.set_cons_succ]
  refine wpAnyH_ready (rs := [28]) (by kernel_rfl) (by simp) ?_
  refine AllReadyH.cons (o := { dst := some 50, op := Op.call { callee := Callee.value (Operand.func 20), args := #[Operand.tmp 49], argTypes := #[28] }, type := 28, pos := _, after := _, guard := some (22, true) }) rfl (fun K hK => ?_) AllReadyH.nil
  go_simp
  refine (sectorR _ _ 1 1 [98] rfl HRb.out).mono ?_
  rintro e we ⟨rfl, _, hre, hbe⟩
  have HQe := Lib.hid (HQwc.out.trans (hbe.mono HQwc.out.size))
  have HRe := Lib.hid (show Rd .u8 we we.heap.size (some ⟨wc.heap.size, 0, none⟩) 64 secB from hre)
  have HBe := Lib.hid hbe
  clear hre hbe
  go_simp
  refine hK.out _ _ (HBe.out) (fun _ => ?_)
  clear hK K hHeld
  try simp only [Act.put, List.setIfInBounds_toArray, List.set_cons_zero, List.set_cons_succ]
  refine wpAnyH_strong (S' := fun W => Below we.heap.size we W) (fun W hW => (HBe.out.trans (hW.mono HBe.out.size))) _ _ _ _ ?_
  have hHeld : (fun W => Below we.heap.size we W) _ := Below.refl _ _
  refine wpAnyH_take (i := 29) (oi := { dst := some 51, op := Op.convert 28 9 (Operand.tmp 50), type := 9, pos := _, after := _, guard := some (22, true) }) (v := ?_) rfl (by kernel_rfl) (by kernel_rfl) (by kernel_rfl) (fun _ _ _ h => h) (Or.inl ⟨by rfl, ?_⟩) hHeld ?_
  rotate_left 1
  · (intro W hW; have hcv := conv_str (Rd.under HRe.out hW) HBL.out HBO.out; rw [← HZ1.out] at hcv; (try dsimp only at hW); go_simp; try with_reducible rfl)
  try simp only [Act.put, List.setIfInBounds_toArray, List.set_cons_zero, List.set_cons_succ]
  refine wpAnyH_take (i := 30) (oi := { dst := some 52, op := Op.binOp BinOp.eql 9 (Operand.tmp 47) (Operand.tmp 51) 9, type := 4, pos := _, after := _, guard := some (22, true) }) (v := ?_) rfl (by kernel_rfl) (by kernel_rfl) (by kernel_rfl) (fun _ _ _ h => h) (Or.inl ⟨by rfl, ?_⟩) hHeld ?_
  rotate_left 1
  · (intro W hW; (try dsimp only at hW); go_simp; try with_reducible rfl)
  try simp only [Act.put, List.setIfInBounds_toArray, List.set_cons_zero, List.set_cons_succ]
  refine wpAnyH_take (i := 31) (oi := { dst := some 53, op := Op.pick (Operand.tmp 44) (Operand.tmp 52) (Operand.const (Value.bool false)), type := 4, pos := _, after := _, guard := none }) (v := ?_) rfl (by kernel_rfl) (by kernel_rfl) (by kernel_rfl) (fun _ _ _ h => h) (Or.inl ⟨by rfl, ?_⟩) hHeld ?_
  rotate_left 1
  · (intro W hW; (try dsimp only at hW); go_simp; try with_reducible rfl)
  try simp only [Act.put, List.setIfInBounds_toArray, List.set_cons_zero, List.set_cons_succ]
  refine wpAnyH_take (i := 32) (oi := { dst := some 54, op := Op.move (Operand.tmp 53), type := 4, pos := _, after := _, guard := none }) (v := ?_) rfl (by kernel_rfl) (by kernel_rfl) (by kernel_rfl) (fun _ _ _ h => h) (Or.inl ⟨by rfl, ?_⟩) hHeld ?_
  rotate_left 1
  · (intro W hW; (try dsimp only at hW); go_simp; try with_reducible rfl)
  try simp only [Act.put, List.setIfInBounds_toArray, List.set_cons_zero, List.set_cons_succ]
  refine wpAnyH_take (i := 33) (oi := { dst := some 55, op := Op.move (Operand.tmp 1), type := 23, pos := _, after := _, guard := some (32, true) }) (v := ?_) rfl (by kernel_rfl) (by kernel_rfl) (by kernel_rfl) (fun _ _ _ h => h) (Or.inl ⟨by rfl, ?_⟩) hHeld ?_
  rotate_left 1
  · (intro W hW; (try dsimp only at hW); go_simp; try with_reducible rfl)
  try simp only [Act.put, List.setIfInBounds_toArray, List.set_cons_zero, List.set_cons_succ]
  refine wpAnyH_ready (rs := [34]) (by kernel_rfl) (by simp) ?_
  refine AllReadyH.cons (o := { dst := some 56, op := Op.call { callee := Callee.value (Operand.func 25), args := #[Operand.tmp 55], argTypes := #[23] }, type := 3, pos := _, after := _, guard := some (32, true) }) rfl (fun K hK => ?_) AllReadyH.nil
  go_simp
  refine (HSZ.out _ HQe.out).mono ?_
  rintro e wg ⟨rfl, rfl⟩
  go_simp
  refine hK.out _ _ hHeld (fun _ => ?_)
  clear hK K
  try simp only [Act.put, List.setIfInBounds_toArray, List.set_cons_zero, List.set_cons_succ]
  refine wpAnyH_take (i := 35) (oi := { dst := some 57, op := Op.binOp BinOp.eql 3 (Operand.tmp 56) (Operand.const (Value.int IntKind.i64 2)) 3, type := 4, pos := _, after := _, guard := some (32, true) }) (v := ?_) rfl (by kernel_rfl) (by kernel_rfl) (by kernel_rfl) (fun _ _ _ h => h) (Or.inl ⟨by rfl, ?_⟩) hHeld ?_
  rotate_left 1
  · (intro W hW; (try dsimp only at hW); go_simp; try with_reducible rfl)
  try simp only [Act.put, List.setIfInBounds_toArray, List.set_cons_zero, List.set_cons_succ]
  refine wpAnyH_take (i := 36) (oi := { dst := some 58, op := Op.pick (Operand.tmp 54) (Operand.tmp 57) (Operand.const (Value.bool false)), type := 4, pos := _, after := _, guard := none }) (v := ?_) rfl (by kernel_rfl) (by kernel_rfl) (by kernel_rfl) (fun _ _ _ h => h) (Or.inl ⟨by rfl, ?_⟩) hHeld ?_
  rotate_left 1
  · (intro W hW; (try dsimp only at hW); go_simp; try with_reducible rfl)
  try simp only [Act.put, List.setIfInBounds_toArray, List.set_cons_zero, List.set_cons_succ]
  refine wpAnyH_take (i := 37) (oi := { dst := some 0, op := Op.assign (Operand.tmp 58), type := 4, pos := _, after := _, guard := none }) (v := ?_) rfl (by kernel_rfl) (by kernel_rfl) (by kernel_rfl) (fun _ _ _ h => h) (Or.inl ⟨by rfl, ?_⟩) hHeld ?_
  rotate_left 1
  · (intro W hW; (try dsimp only at hW); go_simp; try with_reducible rfl)
  try simp only [Act.put, List.setIfInBounds_toArray, List.set_cons_zero, List.set_cons_succ]
  refine wpAnyH_done (by kernel_rfl) ?_ _
  refine NoPanic.normal ?_
  go_wp2_with fail
  go_ret
  exact ⟨rfl, HB7.out.trans (HQe.out.mono HB7.out.size)⟩
end Go.Proofs.Ytbenkffjfjddgaa
