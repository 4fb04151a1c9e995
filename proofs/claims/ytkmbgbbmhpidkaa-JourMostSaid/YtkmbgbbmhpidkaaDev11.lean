/-
  The second write lasts alone: by hand.
-/
import Derived.Test.YtkmbgbbmhpidkaaDev10
import Derived.Deep.RegionLaw
import Derived.Deep.DrawnRows
import Derived.Deep.RegionHeld3
namespace Go.Proofs.Ytkmbgbbmhpidkaa
open Go.RowKit
set_option linter.unusedVariables false
set_option linter.unusedSimpArgs false
attribute [local go_sem ↓] Go.wp_at_zero Go.wp_at_succ

/-- A disk all of whose blocks lie from B on. -/
def DiskB (w : World) (B gd : Nat) (s : Dk) : Prop := B ≤ w.heap.size ∧ Disk w (fun k => B ≤ k) gd s
section
variable {w w' : World} {B gd : Nat} {s : Dk}
theorem DiskB.under (h : DiskB w B gd s) (hb : Below w.heap.size w w') : DiskB w' B gd s := by
  refine ⟨Nat.le_trans h.1 hb.size, ?_⟩
  obtain ⟨gn, gl, A, cw, K, ck, hd, f⟩ := h.2
  exact ⟨gn, gl, A, cw, K, ck, hd.keepAll hb.size fun g _ hg => hb.block g hg, f⟩
theorem DiskB.of (hB : B ≤ w.heap.size) (h : Disk w' (grow (fun k => B ≤ k) w w') gd s) (ho : Only (fun k => B ≤ k) w w') : DiskB w' B gd s ∧ Below B w w' :=
  ⟨⟨Nat.le_trans hB ho.size, h.more fun k hk => hk.elim (fun e => e) fun e => by omega⟩, ho.below (fun k hk => hk) hB⟩
theorem DiskB.pos (h : DiskB w B gd s) : B ≤ gd ∧ gd < w.heap.size := ⟨h.2.pos.1, h.2.pos.2⟩
theorem DiskB.drew (h : DiskB w B gd s) : DiskB w.drew B gd s := h.under (Below.refl _ w).drew
theorem diskB_new (w : World) (n : Nat) (h1 : 1 ≤ n) (h2 : n ≤ 2000) : Calls Try.prog 8 #[.int .i64 n] w fun e w' => ∃ gd, e = .returned (.pointer (some ⟨gd, 0, none⟩)) ∧ DiskB w' w.heap.size gd (fresh n) ∧ Below w.heap.size w w' :=
  (new_yes w n h1 h2).mono fun e w' ⟨gd, he, hd, hb⟩ => ⟨gd, he, ⟨hb.size, hd.more fun k hk => hk.1⟩, hb⟩
theorem diskB_write (h : DiskB w B gd s) (i : Int) (A2 : Option Addr) (n2 c2 : Nat) (x : List Nat) (hn : x.length = n2) (hr : Rd .u8 w w.heap.size A2 c2 x) (hwl : s.waits.length ≤ 100000) (hops : s.ops ≤ 1000000000) :
    Calls Try.prog 20 #[.pointer (some ⟨gd, 0, none⟩), .int .i64 i, .slice A2 n2 c2] w fun e w' => e = .returned (.int .i64 ((s.write i x).2 : Nat)) ∧ DiskB w' B gd (s.write i x).1 ∧ Below B w w' :=
  (disk_write h.2 i A2 n2 c2 x hn hr hwl hops).mono fun e w' ⟨he, hd, ho⟩ => ⟨he, DiskB.of h.1 hd ho⟩
theorem diskB_flush (h : DiskB w B gd s) (hwl : s.waits.length ≤ 100000) (hops : s.ops ≤ 1000000000) :
    Calls Try.prog 23 #[.pointer (some ⟨gd, 0, none⟩)] w fun e w' => e = .returned (.int .i64 (s.flush.2 : Nat)) ∧ DiskB w' B gd s.flush.1 ∧ Below B w w' :=
  (disk_flush h.2 hwl hops).mono fun e w' ⟨he, hd, ho⟩ => ⟨he, DiskB.of h.1 hd ho⟩
theorem diskB_restart (h : DiskB w B gd s) (hwl : s.waits.length ≤ 100000) :
    Calls Try.prog 14 #[.pointer (some ⟨gd, 0, none⟩)] w fun e w' => e = .returned (.tuple #[]) ∧ DiskB w' B gd s.restart ∧ Below B w w' :=
  (disk_restart h.2 hwl).mono fun e w' ⟨he, hd, ho⟩ => ⟨he, DiskB.of h.1 hd ho⟩
theorem diskB_arm (h : DiskB w B gd s) (a : Int) (K2 : Option Addr) (c2 n2 : Nat) (l : List Bool) (hn : l.length = n2) (hr : Truths w K2 c2 l) (hsz : n2 ≤ 1000000) (hne : l ≠ [] → ∀ g, blockOf K2 = some g → g ≠ gd) :
    Calls Try.prog 12 #[.pointer (some ⟨gd, 0, none⟩), .agg #[.int .i64 a, .slice K2 n2 c2]] w fun e w' => e = .returned (.tuple #[]) ∧ DiskB w' B gd (s.arm a l) ∧ Below B w w' :=
  (disk_arm h.2 a K2 c2 n2 l hn hr hsz hne).mono fun e w' ⟨he, hd, ho⟩ => ⟨he, DiskB.of h.1 hd ho⟩
theorem diskB_read (h : DiskB w B gd s) (i : Int) (x : List Nat) (hx : s.read i = x) :
    Calls Try.prog 46 #[.pointer (some ⟨gd, 0, none⟩), .int .i64 i] w fun e w' => ∃ A' c', e = .returned (.slice A' x.length c') ∧ Rd .u8 w' w'.heap.size A' c' x ∧ Below w.heap.size w w' := by
  subst hx
  exact (disk_read h.2 i).mono fun e w' ⟨A', n', c', he, hn, hr, _, hb⟩ => ⟨A', c', by rw [hn]; exact he, hr, hb⟩
end
theorem sectorR (w : World) (A : Option Addr) (c n : Nat) (l : List Nat) (hn : l.length = n) (hr : Rd .u8 w w.heap.size A c l) :
    Calls Try.prog 21 #[.slice A n c] w fun e w' => e = .returned (.slice (some ⟨w.heap.size, 0, none⟩) 64 64) ∧ Row .u8 5 w' w.heap.size (secOf l) ∧ Rd .u8 w' w'.heap.size (some ⟨w.heap.size, 0, none⟩) 64 (secOf l) ∧ Below w.heap.size w w' :=
  (sector_any w w.heap.size A c n l hn hr (Nat.le_refl _)).mono fun e w' ⟨he, hrow, hb⟩ => ⟨he, hrow, by
    have := hrow.rd (n := 64) (c := 64) (by rw [secOf_length]; exact Nat.le_refl _) (Nat.le_refl _) (by omega)
    rw [List.take_of_length_le (by rw [secOf_length]; exact Nat.le_refl _)] at this
    exact this.more (Holds.lt hrow), hb⟩
theorem vals_const (W : World) (e : TypeId) (l : List Nat) (fr : Nat × Nat) (h63 : l.length ≤ 9223372036854775807) : Rd .u8 (W.alloc (.cells (vals .u8 l).toArray e fr)) (W.heap.size + 1) (some ⟨W.heap.size, 0, none⟩) l.length l :=
  ⟨Nat.le_refl _, h63, fun _ => ⟨W.heap.size, 0, rfl, Nat.lt_succ_self _, fun j hj => by
    rw [cell_of_row _ _ _ _ e fr (heap_alloc_new W _), Nat.zero_add, List.getElem?_toArray]
    exact vals_at .u8 l hj⟩⟩
/-- A sector of one byte that was typed. -/
theorem sector_one (W : World) (x : Nat) (fr : Nat × Nat) :
    Calls Try.prog 21 #[.slice (some ⟨W.heap.size, 0, none⟩) 1 1] (W.alloc (.cells #[.int .u8 (x : Int)] 5 fr)) fun e w' => e = .returned (.slice (some ⟨W.heap.size + 1, 0, none⟩) 64 64) ∧ Rd .u8 w' w'.heap.size (some ⟨W.heap.size + 1, 0, none⟩) 64 (secOf [x]) ∧ Below W.heap.size W w' := by
  have hr := (vals_const W 5 [x] fr (by simp)).more (show W.heap.size + 1 ≤ (W.alloc (.cells (vals .u8 [x]).toArray 5 fr)).heap.size by simp)
  refine (sectorR (W.alloc (.cells (vals .u8 [x]).toArray 5 fr)) _ 1 1 [x] rfl hr).mono ?_
  rintro e w' ⟨rfl, _, hr', hb⟩
  have hs : (W.alloc (.cells (vals .u8 [x]).toArray 5 fr)).heap.size = W.heap.size + 1 := by simp
  rw [hs] at hr' hb ⊢
  exact ⟨rfl, hr', ((Below.refl W.heap.size W).alloc (Nat.le_refl _) _).trans (hb.mono (Nat.le_succ _))⟩
theorem sector_nil (W : World) :
    Calls Try.prog 21 #[.slice none 0 0] W fun e w' => e = .returned (.slice (some ⟨W.heap.size, 0, none⟩) 64 64) ∧ Rd .u8 w' w'.heap.size (some ⟨W.heap.size, 0, none⟩) 64 zsec ∧ Below W.heap.size W w' :=
  (sectorR W none 0 0 [] rfl (Rd.nil_ _ _ _)).mono fun e w' ⟨he, _, hr, hb⟩ => ⟨he, hr, hb⟩

/-- An operation's way on may be held to more. -/
theorem wpAnyH_strong {P : Program} {md : Region.Mode} {ops : Array Oper} {Q : Exit → Act → World → Prop} {S S' : World → Prop} (hS : ∀ w, S' w → S w) : ∀ (fuel : Nat) (listed : Array Bool) (a : Act) (w : World), wpAnyH P md ops Q S' fuel listed a w → wpAnyH P md ops Q S fuel listed a w
  | 0, _, _, _, h => h
  | fuel + 1, _, _, _, h => ⟨h.1, fun i hi => wpOp_mono (fun a' w' h' => ⟨hS w' h'.1, wpAnyH_strong hS fuel _ a' w' h'.2⟩) (h.2 i hi)⟩
/-- A typed row of bytes gets its mark, wherever it lies. -/
theorem run_mark (w : World) (b : Nat) (C : Array Value) (n c : Nat) (h : Holds w b 5 C) :
    ∃ w', (convert 40 40 (.slice (some ⟨b, 0, none⟩) n c)).run Try.prog w = .ok (.slice (some ⟨b, 0, none⟩) n c) w' ∧ Below b w w' ∧ (∀ a, w'.cell? a = w.cell? a) ∧ w'.heap.size = w.heap.size := by
  have hsh : w.shape? b = some (5, C.size) := by
    have h' : w.heap[b]? = some (.cells C 5 (0, 0)) := h
    unfold World.shape?
    rw [h']
  have h' : w.heap[b]? = some (.cells C 5 (0, 0)) := h
  have e : (w.freeze ⟨b, C.size, none⟩ 1).heap = w.heap.modify b fun | .cells c elem (lo, hi) => .cells c elem (if lo == hi then (C.size, C.size + 1) else (min lo C.size, max hi (C.size + 1))) | o => o := by
    unfold World.freeze
    rw [if_neg (by decide)]
    rfl
  have hb : (w.freeze ⟨b, C.size, none⟩ 1).heap[b]? = some (.cells C 5 (C.size, C.size + 1)) := by
    rw [e, Array.getElem?_modify, if_pos rfl, h']
    rfl
  have hk : ∀ k, k ≠ b → (w.freeze ⟨b, C.size, none⟩ 1).heap[k]? = w.heap[k]? := fun k hne => by
    rw [e, Array.getElem?_modify, if_neg (fun x => hne x.symm)]
  refine ⟨w.freeze ⟨b, C.size, none⟩ 1, ?_, ⟨?_, ?_, ?_, ?_, fun k hlt => hk k (by omega)⟩, fun a => ?_, ?_⟩
  · simp [convert, run_underlying Try.underlying40, run_underlying Try.underlying5, markStringish, hsh]
  · unfold World.freeze; rw [if_neg (by decide)]
  · unfold World.freeze; rw [if_neg (by decide)]
  · unfold World.freeze; rw [if_neg (by decide)]
  · rw [e, Array.size_modify]; exact Nat.le_refl _
  · by_cases ha : a.block = b
    · simp only [World.cell?]
      rw [ha, hb, h']
    · simp only [World.cell?]
      rw [hk a.block ha]
  · rw [e, Array.size_modify]
theorem rd_marked {w w' : World} {b : Nat} {x : Nat} (h : Holds w b 5 #[Value.int .u8 (x : Int)]) (hc : ∀ a, w'.cell? a = w.cell? a) (hs : w'.heap.size = w.heap.size) : Rd .u8 w' w'.heap.size (some ⟨b, 0, none⟩) 1 [x] :=
  ⟨Nat.le_refl _, by decide, fun _ => ⟨b, 0, rfl, by rw [hs]; exact Holds.lt h, fun j hj => by
    obtain rfl : j = 0 := by simpa using hj
    rw [hc, h.cell]; rfl⟩⟩

def secA : List Nat := secOf [97]
def secB : List Nat := secOf [98]
def knownA : Dk := (fresh 2).arm 2 [false, true]
def knownW : Dk := (knownA.write 0 secA).1
def knownV : Dk := (knownW.write 1 secB).1
def knownS : Dk := knownV.flush.1
theorem known_codes : (knownA.write 0 secA).2 = 0 ∧ (knownW.write 1 secB).2 = 0 ∧ knownV.flush.2 = 6 := by decide +kernel
theorem known_state : knownS.down = true ∧ knownS.read 0 = zsec ∧ knownS.read 1 = secB ∧ knownS.now.length = 2 := by decide +kernel
theorem known_bounds : knownA.waits.length ≤ 100000 ∧ knownA.ops ≤ 1000000000 ∧ knownW.waits.length ≤ 100000 ∧ knownW.ops ≤ 1000000000 ∧ knownV.waits.length ≤ 100000 ∧ knownV.ops ≤ 1000000000 := by decide +kernel

end Go.Proofs.Ytkmbgbbmhpidkaa
