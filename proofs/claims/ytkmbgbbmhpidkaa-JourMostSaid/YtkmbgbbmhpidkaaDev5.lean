/-
  What waits is taken back.
-/
import Derived.Test.YtkmbgbbmhpidkaaDev4
namespace Go.Proofs.Ytkmbgbbmhpidkaa
open Go.RowKit
set_option linter.unusedVariables false

/-- The first k of what waits, taken back. -/
def backN (L : List (List Nat)) (W : List (Nat × List Nat)) (now : List (List Nat)) : Nat → List (List Nat)
  | 0 => now
  | k + 1 => (backN L W now k).set (W.getD k default).1 (L.getD (W.getD k default).1 [])
theorem backN_length (L : List (List Nat)) (W : List (Nat × List Nat)) (now : List (List Nat)) : ∀ k, (backN L W now k).length = now.length
  | 0 => rfl
  | k + 1 => by rw [backN, List.length_set, backN_length L W now k]

theorem DiskAt.drew {w : World} {gd gn gl : Nat} {A : Option Addr} {cw : Nat} {K : Option Addr} {ck : Nat} {s : Dk} (h : DiskAt w gd gn gl A cw K ck s) : DiskAt w.drew gd gn gl A cw K ck s := h.keepAll (Nat.le_refl _) fun _ _ _ => rfl
theorem DiskAt.drewN {w : World} {gd gn gl : Nat} {A : Option Addr} {cw : Nat} {K : Option Addr} {ck : Nat} {s : Dk} (h : DiskAt w gd gn gl A cw K ck s) (n : Nat) : DiskAt (w.drewN n) gd gn gl A cw K ck s := h.keepAll (Nat.le_refl _) fun _ _ _ => rfl
/-- A sector of what Read tells, stored. -/
theorem DiskAt.setNow {W : World} {gd gn gl : Nat} {A : Option Addr} {cw : Nat} {K : Option Addr} {ck : Nat} {s : Dk} (hh : DiskAt W gd gn gl A cw K ck s) {i : Nat} (hi : i < s.now.length) {x : List Nat} (hx : x.length = 64) :
    DiskAt (W.setCells gn (i * 64) (vals .u8 x)) gd gn gl A cw K ck { s with now := s.now.set i x } := {
    hd := by
      have e := (setCells_aside (g := gn) (k := gd) hh.dn (vals .u8 x) (i * 64) W).trans hh.hd
      show Holds _ gd _ (dcells gn gl (s.now.set i x).length A s.waits.length cw s.ops s.armed s.at_ K s.keep.length ck s.down)
      rw [List.length_set]; exact e
    hn := Sect.store (w := W) hh.hn hi hx
    hl := hh.hl.keep (setCells_aside (fun e => hh.nl e.symm) _ _ _)
    len := by show s.lasts.length = (s.now.set i x).length; rw [List.length_set]; exact hh.len
    hw := hh.hw.keep fun g hg => setCells_aside (fun e => hh.ad.2.1 (by rw [hg, e])) _ _ _
    hk := hh.hk.keep (by rw [setCells_size]; exact Nat.le_refl _) fun g hg _ => setCells_aside (fun e => hh.kd.2.1 (by rw [hg, e])) _ _ _
    dn := hh.dn
    dl := hh.dl
    nl := hh.nl
    ad := hh.ad
    kd := hh.kd
    kw := fun g hg => by rw [setCells_size]; exact hh.kw g hg
    n1 := by show 1 ≤ (s.now.set i x).length; rw [List.length_set]; exact hh.n1
    n2 := by show (s.now.set i x).length ≤ 2000; rw [List.length_set]; exact hh.n2
    wat := fun p hp => by show p.1 < (s.now.set i x).length; rw [List.length_set]; exact hh.wat p hp }
/-- A sector of what lasts, stored. -/
theorem DiskAt.setLast {W : World} {gd gn gl : Nat} {A : Option Addr} {cw : Nat} {K : Option Addr} {ck : Nat} {s : Dk} (hh : DiskAt W gd gn gl A cw K ck s) {i : Nat} (hi : i < s.now.length) {x : List Nat} (hx : x.length = 64) :
    DiskAt (W.setCells gl (i * 64) (vals .u8 x)) gd gn gl A cw K ck { s with lasts := s.lasts.set i x } := {
    hd := (setCells_aside (g := gl) (k := gd) hh.dl (vals .u8 x) (i * 64) W).trans hh.hd
    hn := hh.hn.keep (setCells_aside hh.nl _ _ _)
    hl := Sect.store (w := W) hh.hl (by rw [hh.len]; exact hi) hx
    len := by show (s.lasts.set i x).length = s.now.length; rw [List.length_set]; exact hh.len
    hw := hh.hw.keep fun g hg => setCells_aside (fun e => hh.ad.2.2 (by rw [hg, e])) _ _ _
    hk := hh.hk.keep (by rw [setCells_size]; exact Nat.le_refl _) fun g hg _ => setCells_aside (fun e => hh.kd.2.2.1 (by rw [hg, e])) _ _ _
    dn := hh.dn
    dl := hh.dl
    nl := hh.nl
    ad := hh.ad
    kd := hh.kd
    kw := fun g hg => by rw [setCells_size]; exact hh.kw g hg
    n1 := hh.n1
    n2 := hh.n2
    wat := hh.wat }
/-- Nothing waits any more. -/
theorem DiskAt.emptied {w : World} {gd gn gl : Nat} {A : Option Addr} {cw : Nat} {K : Option Addr} {ck : Nat} {s : Dk} (h : DiskAt w gd gn gl A cw K ck s) :
    DiskAt (w.setCell ⟨gd, 2, none⟩ (.slice none 0 0)) gd gn gl none 0 K ck { s with waits := [] } := by
  have k : ∀ g, g ≠ gd → (w.setCell ⟨gd, 2, none⟩ (.slice none 0 0)).heap[g]? = w.heap[g]? := fun g hne => Below.heap_setCell w ⟨gd, 2, none⟩ _ g hne
  have hsz : (w.setCell ⟨gd, 2, none⟩ (.slice none 0 0)).heap.size = w.heap.size := by simp [World.setCell]
  exact {
    hd := Holds.stored h.hd 2 (.slice none 0 0)
    hn := h.hn.keep (k gn fun e => h.dn e.symm)
    hl := h.hl.keep (k gl fun e => h.dl e.symm)
    len := h.len
    hw := Waits.nil _
    hk := h.hk.keep (Nat.le_of_eq hsz.symm) fun g hg _ => k g fun e => h.kd.1 (by rw [hg, e])
    dn := h.dn
    dl := h.dl
    nl := h.nl
    ad := by simp [blockOf]
    kd := ⟨h.kd.1, h.kd.2.1, h.kd.2.2.1, fun g hg => by simp [blockOf]⟩
    kw := fun g hg => by rw [hsz]; exact h.kw g hg
    n1 := h.n1
    n2 := h.n2
    wat := fun p hp => by cases hp }

def RelF (w : World) (gd gn gl : Nat) (A : Option Addr) (cw : Nat) (K : Option Addr) (ck : Nat) (s : Dk) (m : Nat) (i : Value) (wr : World) : Prop :=
  ∃ k : Nat, k ≤ m ∧ i = .int .i64 k ∧ DiskAt wr gd gn gl A cw K ck { s with now := backN s.lasts s.waits s.now k } ∧ Only (fun g => g = gn) w wr

set_option maxRecDepth 100000 in
set_option maxHeartbeats 4000000 in
theorem forget_any (w : World) (gd gn gl : Nat) (A : Option Addr) (cw : Nat) (K : Option Addr) (ck : Nat) (s : Dk) (h : DiskAt w gd gn gl A cw K ck s) (hwl : s.waits.length ≤ 100000) :
    Calls Try.prog 43 #[.pointer (some ⟨gd, 0, none⟩)] w fun e w' => e = .returned (.tuple #[]) ∧ DiskAt w' gd gn gl none 0 K ck { s with now := backN s.lasts s.waits s.now s.waits.length, waits := [] } ∧ Only (fun g => g = gd ∨ g = gn) w w' := by
  have c2 : w.cell? ⟨gd, 2, none⟩ = some (.slice A s.waits.length cw) := h.hd.cell 2
  have HH := Lib.hid h
  have HLE := Lib.hid h.hw.le
  have hnc : s.waits.length ≤ cw := h.hw.le.1
  clear h
  go_enter Try.func43, Try.ntmps43
  obtain ⟨m, hm⟩ : ∃ m, m = s.waits.length := ⟨_, rfl⟩
  have HM := Lib.hid hm
  rw [← hm] at c2 hwl hnc
  clear hm
  go_wp2_with fail
  clear c2
  go_loopw [9] (fun i wr => RelF w gd gn gl A cw K ck s m i wr) (fun i _ => m - (intOf i).toNat)
  case atStart => exact ⟨0, Nat.zero_le _, rfl, HH.out, Only.refl _ _⟩
  case round =>
    obtain ⟨k, hk, rfl, hd, ho⟩ := hrel
    obtain ⟨V, hV⟩ : ∃ V, V = wr := ⟨_, rfl⟩
    subst hV
    by_cases hkm : k < m
    case pos =>
      have hkw : k < s.waits.length := by have := HM.out; omega
      obtain ⟨p, hp⟩ : ∃ p, s.waits[k]? = some p := ⟨_, List.getElem?_eq_getElem hkw⟩
      obtain ⟨g, rfl, hg, hr⟩ := hd.hw.range hp
      have hk0 : (0 : Int) ≤ (k : Int) := by omega
      have hkI : (k : Int) < (m : Int) := by omega
      have hp64 := hd.hw.len p (List.mem_of_getElem? hp)
      have HW65 := wcell_length hp64
      have hzv := zero_wait.1
      have hh1 : Holds (V.alloc (.cells zwait 88)) V.heap.size 88 zwait := Holds.fresh V _ _
      have hlz : (wcell p).length = zwait.size := by rw [HW65, zwait_size]
      have hst := store_over (P := Try.prog) _ _ _ zwait hh1 (wcell p) hlz (wcell_one p)
      have hh2 := holds_over hh1 (wcell p) hlz
      have ho1 : Only (fun _ => False) V (V.alloc (.cells zwait 88)) := (Only.refl _ _).alloc _
      have ho2 := Only.setCells (g := V.heap.size) (.inr (Nat.le_refl _)) (wcell p) 0 ho1
      have hsw : (Try.prog.info? 88).map (·.size) = some (wcell p).length := by rw [HW65]; exact zero_wait.2
      have HH2 := Lib.hid hh2
      have HO2 := Lib.hid ho2
      have HHD := Lib.hid hd
      have HOF := Lib.hid ho
      have HP := Lib.hid hp
      clear hh1 hlz hh2 ho1 ho2 hd ho hp
      generalize zwait = zw at *
      go_wp2_with ((with_reducible refine wpList_load_mid rfl 88 (.tmp 11) rfl g (k * 65) rfl (wcell p) _ hr Try.underlying88 rfl hsw ?_))
      clear hsw hr hst hzv
      have hh3 := HH2.out
      have ho3 := HO2.out
      have hd3 := HHD.out.keepAll ho3.size (fun g _ hg => ho3.block g hg (fun e => e))
      generalize hgV : V.heap.size = gV at *
      have hgV1 := Holds.lt hh3
      clear HH2 HO2
      generalize (V.alloc (.cells zw 88)).setCells gV 0 (wcell p) = V1 at *
      obtain ⟨at', x0⟩ := p
      have hat : at' < (backN s.lasts s.waits s.now k).length := by rw [backN_length]; exact HH.out.wat _ (List.mem_of_getElem? HP.out)
      have hatl : at' < s.lasts.length := by rw [HH.out.len]; rw [backN_length] at hat; exact hat
      obtain ⟨l, hl⟩ : ∃ l, s.lasts[at']? = some l := ⟨_, List.getElem?_eq_getElem hatl⟩
      have hl64 := hd3.hl.len hl
      have HBK : Hid (backN s.lasts s.waits s.now (k + 1) = (backN s.lasts s.waits s.now k).set at' l) := Lib.hid (by
        rw [backN, show s.waits.getD k default = (at', x0) by rw [List.getD, HP.out]; rfl]
        show _ = (backN s.lasts s.waits s.now k).set at' l
        rw [show s.lasts.getD at' [] = l by rw [List.getD, hl]; rfl])
      have c0 : V1.cell? ⟨gd, 0, none⟩ = some (.slice (some ⟨gn, 0, none⟩) (backN s.lasts s.waits s.now k).length (backN s.lasts s.waits s.now k).length) := hd3.hd.cell 0
      have c1 : V1.cell? ⟨gd, 1, none⟩ = some (.slice (some ⟨gl, 0, none⟩) (backN s.lasts s.waits s.now k).length (backN s.lasts s.waits s.now k).length) := hd3.hd.cell 1
      have c3 : V1.cell? ⟨gV, 0, none⟩ = some (.int .i64 (at' : Int)) := (hh3.cell 0).trans (by simp [wcell])
      have r1 : V1.rangeAt gl (at' * 64) (vals .u8 l) := hd3.hl.range hl
      have hls : (vals .u8 l).length = 64 := by rw [vals_length]; exact hl64
      have t1 : V1.there gn (at' * 64) (vals .u8 l).length := by rw [hls]; exact hd3.hn.there hat
      have hsz : (Try.prog.info? 86).map (·.size) = some (vals .u8 l).length := by rw [hls]; exact size_sector
      have hund := Try.underlying86
      have hone := vals_one .u8 l
      have hi0 : (0 : Int) ≤ (at' : Int) := by omega
      have hiI : (at' : Int) < ((backN s.lasts s.waits s.now k).length : Int) := by omega
      have hgvn : gV ≠ gn := fun e => by have := HHD.out.hn.lt; omega
      have q0 : (V1.drew.setCells gn (at' * 64) (vals .u8 l)).cell? ⟨gd, 0, none⟩ = some (.slice (some ⟨gn, 0, none⟩) (backN s.lasts s.waits s.now k).length (backN s.lasts s.waits s.now k).length) := (World.cell?_of_block (a := ⟨gd, 0, none⟩) (setCells_aside hd3.dn _ _ _)).trans c0
      have q1 : (V1.drew.setCells gn (at' * 64) (vals .u8 l)).cell? ⟨gd, 1, none⟩ = some (.slice (some ⟨gl, 0, none⟩) (backN s.lasts s.waits s.now k).length (backN s.lasts s.waits s.now k).length) := (World.cell?_of_block (a := ⟨gd, 1, none⟩) (setCells_aside hd3.dn _ _ _)).trans c1
      have q3 : (V1.drew.setCells gn (at' * 64) (vals .u8 l)).cell? ⟨gV, 0, none⟩ = some (.int .i64 (at' : Int)) := (World.cell?_of_block (a := ⟨gV, 0, none⟩) (setCells_aside hgvn _ _ _)).trans c3
      have q4 : (V1.drew.setCells gn (at' * 64) (vals .u8 l)).rangeAt gl (at' * 64) (vals .u8 l) := World.rangeAt_setCells_apart (w := V1.drew) r1 gn (at' * 64) _ (.inl fun e => hd3.nl e.symm)
      have q5 : (V1.drew.setCells gn (at' * 64) (vals .u8 l)).there gn (at' * 64) (vals .u8 l).length := World.there_setCells (w := V1.drew) t1 gn (at' * 64) _
      have hd4 : DiskAt (V1.drew.setCells gn (at' * 64) (vals .u8 l)) gd gn gl (some ⟨g, 0, none⟩) cw K ck { s with now := backN s.lasts s.waits s.now (k + 1) } := by
        rw [HBK.out]
        exact DiskAt.setNow (W := V1.drew) (s := { s with now := backN s.lasts s.waits s.now k }) hd3.drew hat hl64
      have ho4 : Only (fun g => g = gn) w (V1.drew.setCells gn (at' * 64) (vals .u8 l)) := (HOF.out.trans (Only.setCells (F := fun g => g = gn) (g := gn) (.inl rfl) _ _ (ho3.more (F := fun g => g = gn) (fun _ _ e => e.elim)).drew) (fun _ _ e => e))
      have H0 := Lib.hid q0
      have H1 := Lib.hid q1
      have H3 := Lib.hid q3
      have H4 := Lib.hid q4
      have H5 := Lib.hid q5
      have HD4 := Lib.hid hd4
      have HO4 := Lib.hid ho4
      clear q0 q1 q3 q4 q5 hd4 ho4 hd3 ho3 hh3 hatl hl hl64 hat
      generalize (backN s.lasts s.waits s.now k).length = n at *
      go_region_held3 (fun w' => w'.cell? ⟨gd, 0, none⟩ = some (.slice (some ⟨gn, 0, none⟩) n n) ∧ w'.cell? ⟨gd, 1, none⟩ = some (.slice (some ⟨gl, 0, none⟩) n n) ∧ w'.cell? ⟨gV, 0, none⟩ = some (.int .i64 (at' : Int)) ∧ w'.rangeAt gl (at' * 64) (vals .u8 l) ∧ w'.there gn (at' * 64) (vals .u8 l).length) (first | exact ⟨c0, c1, c3, r1, t1⟩ | exact ⟨H0.out, H1.out, H3.out, H4.out, H5.out⟩) (fail)
      clear c0 c1 c3 r1 t1 hls hsz hund hone H0 H1 H3 H4 H5
      go_wp2_with fail
      go_roundw
      case rel => exact ⟨k + 1, by omega, by go_num, HD4.out, HO4.out⟩
      case measure => simp [intOf]; omega
    case neg =>
      obtain rfl : k = m := by omega
      have hkI : ¬ ((k : Int) < (k : Int)) := by omega
      have f2 : V.frozen? ⟨gd, 2, none⟩ = false := hd.hd.open_ 2
      have c2 : V.cell? ⟨gd, 2, none⟩ = some (.slice A s.waits.length cw) := hd.hd.cell 2
      have hf : DiskAt (V.setCell ⟨gd, 2, none⟩ (.slice none 0 0)) gd gn gl none 0 K ck { s with now := backN s.lasts s.waits s.now s.waits.length, waits := [] } := by
        rw [← HM.out]; exact hd.emptied
      have hof := (ho.more (F := fun g => g = gd ∨ g = gn) (fun _ _ e => .inr e)).setCell (p := ⟨gd, 2, none⟩) (.inl (.inl rfl)) (.slice none 0 0)
      have HF := Lib.hid hf
      have HOF := Lib.hid hof
      clear hf hof hd ho
      go_wp2_with fail
      go_end0
      exact ⟨rfl, HF.out, HOF.out⟩
end Go.Proofs.Ytkmbgbbmhpidkaa
