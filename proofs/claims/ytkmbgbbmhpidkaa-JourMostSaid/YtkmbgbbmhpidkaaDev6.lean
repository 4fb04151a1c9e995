/-
  All that waits lasts; or what is kept of it.
-/
import Derived.Test.YtkmbgbbmhpidkaaDev5
namespace Go.Proofs.Ytkmbgbbmhpidkaa
open Go.RowKit
set_option linter.unusedVariables false

/-- What lasts behind the first k of what waits, those that are kept. -/
def fallN (kp : Nat → Bool) (W : List (Nat × List Nat)) (L : List (List Nat)) : Nat → List (List Nat)
  | 0 => L
  | k + 1 => if kp k then (fallN kp W L k).set (W.getD k default).1 (W.getD k default).2 else fallN kp W L k
theorem fallN_length (kp : Nat → Bool) (W : List (Nat × List Nat)) (L : List (List Nat)) : ∀ k, (fallN kp W L k).length = L.length
  | 0 => rfl
  | k + 1 => by rw [fallN]; split; rw [List.length_set, fallN_length kp W L k]; exact fallN_length kp W L k

def RelL (kp : Nat → Bool) (w : World) (gd gn gl : Nat) (A : Option Addr) (cw : Nat) (K : Option Addr) (ck : Nat) (s : Dk) (m : Nat) (i : Value) (wr : World) : Prop :=
  ∃ k : Nat, k ≤ m ∧ i = .int .i64 k ∧ DiskAt wr gd gn gl A cw K ck { s with lasts := fallN kp s.waits s.lasts k } ∧ Only (fun g => g = gl) w wr

set_option maxRecDepth 100000 in
set_option maxHeartbeats 4000000 in
theorem flush_ok (w : World) (gd gn gl : Nat) (A : Option Addr) (cw : Nat) (K : Option Addr) (ck : Nat) (s : Dk) (h : DiskAt w gd gn gl A cw K ck s) (hdn : s.down = false) (hdue : (s.armed && decide (s.at_ ≤ (s.ops : Int))) = false) (hwl : s.waits.length ≤ 100000) (hops : s.ops ≤ 1000000000) (kp : Nat → Bool) (hkpa : ∀ j, kp j = true) :
    Calls Try.prog 23 #[.pointer (some ⟨gd, 0, none⟩)] w fun e w' => e = .returned (.int .i64 0) ∧ DiskAt w' gd gn gl none 0 K ck { s with lasts := fallN kp s.waits s.lasts s.waits.length, waits := [], ops := s.ops + 1 } ∧ Only (fun g => g = gd ∨ g = gl) w w' := by
  have c2 : ∀ q, (w.drewN q).cell? ⟨gd, 2, none⟩ = some (.slice A s.waits.length cw) := fun q => h.hd.cell 2
  have c3 : w.cell? ⟨gd, 3, none⟩ = some (.int .i64 s.ops) := h.hd.cell 3
  have c4 : w.cell? ⟨gd, 4, none⟩ = some (.bool s.armed) := h.hd.cell 4
  have c5 : w.cell? ⟨gd, 5, none⟩ = some (.int .i64 s.at_) := h.hd.cell 5
  have c7 : w.cell? ⟨gd, 7, none⟩ = some (.bool s.down) := h.hd.cell 7
  have HC1 := Lib.hid (down_any w gd _ c7)
  rw [hdn] at HC1
  have HC3 := Lib.hid (due_any w gd _ _ _ c3 c4 c5 false hdue.symm)
  have HH := Lib.hid h
  have HKP := Lib.hid hkpa
  have HOPS := Lib.hid hops
  have hnc : s.waits.length ≤ cw := h.hw.le.1
  clear h c3 c4 c5 c7 hdn hdue hkpa hops
  go_enter Try.func23, Try.ntmps23
  obtain ⟨m, hm⟩ : ∃ m, m = s.waits.length := ⟨_, rfl⟩
  have HM := Lib.hid hm
  rw [← hm] at c2 hwl hnc
  clear hm
  go_wp2_with (refine HC1.out.mono ?_; rintro e w1 ⟨rfl, rfl⟩)
  refine HC3.out.mono ?_
  rintro e w1 ⟨rfl, q, rfl⟩
  go_wp2_with fail
  clear c2 HC1 HC3
  go_loopw [16] (fun i wr => RelL kp w gd gn gl A cw K ck s m i wr) (fun i _ => m - (intOf i).toNat)
  case atStart => exact ⟨0, Nat.zero_le _, rfl, HH.out.drewN q, (Only.refl _ _).drewN q⟩
  case round =>
    obtain ⟨k, hk, rfl, hd, ho⟩ := hrel
    obtain ⟨V, hV⟩ : ∃ V, V = wr := ⟨_, rfl⟩
    subst hV
    by_cases hkm : k < m
    case pos =>
      have hkw : k < s.waits.length := by have := HM.out; omega
      obtain ⟨p, hp⟩ : ∃ p, s.waits[k]? = some p := ⟨_, List.getElem?_eq_getElem hkw⟩
      obtain ⟨g, rfl, hg, hr⟩ := hd.hw.range hp
      have hk0 : (0 : Int) ≤ (k : Int) := by omega
      have hkI : (k : Int) < (m : Int) := by omega
      have hp64 := hd.hw.len p (List.mem_of_getElem? hp)
      have HW65 := wcell_length hp64
      have hzv := zero_wait.1
      have hh1 : Holds (V.alloc (.cells zwait 88)) V.heap.size 88 zwait := Holds.fresh V _ _
      have hlz : (wcell p).length = zwait.size := by rw [HW65, zwait_size]
      have hst := store_over (P := Try.prog) _ _ _ zwait hh1 (wcell p) hlz (wcell_one p)
      have hh2 := holds_over hh1 (wcell p) hlz
      have ho1 : Only (fun _ => False) V (V.alloc (.cells zwait 88)) := (Only.refl _ _).alloc _
      have ho2 := Only.setCells (g := V.heap.size) (.inr (Nat.le_refl _)) (wcell p) 0 ho1
      have hsw : (Try.prog.info? 88).map (·.size) = some (wcell p).length := by rw [HW65]; exact zero_wait.2
      have HH2 := Lib.hid hh2
      have HO2 := Lib.hid ho2
      have HHD := Lib.hid hd
      have HOF := Lib.hid ho
      have HP := Lib.hid hp
      have hh3 := hh2
      have ho3 := ho2
      have hd3 := hd.keepAll ho3.size (fun g _ hg => ho3.block g hg (fun e => e))
      have HD3 := Lib.hid hd3
      have HO3 := Lib.hid ho3
      have HH3 := Lib.hid hh3
      clear HH2 HO2 hh1 hlz hh2 ho1 ho2 hd ho hp
      generalize zwait = zw at *
      have hkp : kp k = true := HKP.out k
      have HKK := Lib.hid hkp
      clear hkp hh3 ho3 hd3
      go_wp2_with ((with_reducible refine wpList_load_mid rfl 88 (.tmp 18) rfl g (k * 65) rfl (wcell p) _ hr Try.underlying88 rfl hsw ?_))
      have hh3 := HH3.out
      have ho3 := HO3.out
      have hd3 := HD3.out
      have hkp := HKK.out
      clear hsw hr hst hzv HH3 HO3 HD3
      generalize hgV : V.heap.size = gV at *
      have hgV1 := Holds.lt hh3
      generalize (V.alloc (.cells zw 88)).setCells gV 0 (wcell p) = V1 at *
      obtain ⟨at', x0⟩ := p
      have hat : at' < s.now.length := HH.out.wat _ (List.mem_of_getElem? HP.out)
      have hp64' : x0.length = 64 := hp64
      have HBK : Hid (fallN kp s.waits s.lasts (k + 1) = (fallN kp s.waits s.lasts k).set at' x0) := Lib.hid (by
        rw [fallN, show s.waits.getD k default = (at', x0) by rw [List.getD, HP.out]; rfl, hkp]; rfl)
      have c1 : V1.cell? ⟨gd, 1, none⟩ = some (.slice (some ⟨gl, 0, none⟩) s.now.length s.now.length) := hd3.hd.cell 1
      have c3 : V1.cell? ⟨gV, 0, none⟩ = some (.int .i64 (at' : Int)) := (hh3.cell 0).trans (by simp [wcell])
      have r1 : V1.rangeAt gV 1 (vals .u8 x0) := fun j v hv => by
        have := range_of_holds hh3 (j + 1) v (by simpa [wcell] using hv)
        rw [show 1 + j = 0 + (j + 1) by omega]
        exact this
      have hls : (vals .u8 x0).length = 64 := by rw [vals_length]; exact hp64'
      have t1 : V1.there gl (at' * 64) (vals .u8 x0).length := by rw [hls]; exact hd3.hl.there (by rw [hd3.len]; exact hat)
      have hsz : (Try.prog.info? 86).map (·.size) = some (vals .u8 x0).length := by rw [hls]; exact size_sector
      have hund := Try.underlying86
      have hone := vals_one .u8 x0
      have hi0 : (0 : Int) ≤ (at' : Int) := by omega
      have hiI : (at' : Int) < (s.now.length : Int) := by omega
      have hgvn : gV ≠ gl := fun e => by have := HHD.out.hl.lt; omega
      have q1 : (V1.drew.setCells gl (at' * 64) (vals .u8 x0)).cell? ⟨gd, 1, none⟩ = some (.slice (some ⟨gl, 0, none⟩) s.now.length s.now.length) := (World.cell?_of_block (a := ⟨gd, 1, none⟩) (setCells_aside hd3.dl _ _ _)).trans c1
      have q3 : (V1.drew.setCells gl (at' * 64) (vals .u8 x0)).cell? ⟨gV, 0, none⟩ = some (.int .i64 (at' : Int)) := (World.cell?_of_block (a := ⟨gV, 0, none⟩) (setCells_aside hgvn _ _ _)).trans c3
      have q4 : (V1.drew.setCells gl (at' * 64) (vals .u8 x0)).rangeAt gV 1 (vals .u8 x0) := World.rangeAt_setCells_apart (w := V1.drew) r1 gl (at' * 64) _ (.inl hgvn)
      have q5 : (V1.drew.setCells gl (at' * 64) (vals .u8 x0)).there gl (at' * 64) (vals .u8 x0).length := World.there_setCells (w := V1.drew) t1 gl (at' * 64) _
      have hd4 : DiskAt (V1.drew.setCells gl (at' * 64) (vals .u8 x0)) gd gn gl (some ⟨g, 0, none⟩) cw K ck { s with lasts := fallN kp s.waits s.lasts (k + 1) } := by
        rw [HBK.out]
        exact DiskAt.setLast (W := V1.drew) (s := { s with lasts := fallN kp s.waits s.lasts k }) hd3.drew hat hp64'
      have ho4 : Only (fun g => g = gl) w (V1.drew.setCells gl (at' * 64) (vals .u8 x0)) := (HOF.out.trans (Only.setCells (F := fun g => g = gl) (g := gl) (.inl rfl) _ _ (ho3.more (F := fun g => g = gl) (fun _ _ e => e.elim)).drew) (fun _ _ e => e))
      have H1 := Lib.hid q1
      have H3 := Lib.hid q3
      have H4 := Lib.hid q4
      have H5 := Lib.hid q5
      have HD4 := Lib.hid hd4
      have HO4 := Lib.hid ho4
      clear q1 q3 q4 q5 hd4 ho4 hd3 ho3 hh3 hat hp64 hp64'
      generalize s.now.length = n at *
      go_region_held3 (fun w' => w'.cell? ⟨gd, 1, none⟩ = some (.slice (some ⟨gl, 0, none⟩) n n) ∧ w'.cell? ⟨gV, 0, none⟩ = some (.int .i64 (at' : Int)) ∧ w'.rangeAt gV 1 (vals .u8 x0) ∧ w'.there gl (at' * 64) (vals .u8 x0).length) (first | exact ⟨c1, c3, r1, t1⟩ | exact ⟨H1.out, H3.out, H4.out, H5.out⟩) (fail)
      clear c1 c3 r1 t1 hls hsz hund hone H1 H3 H4 H5
      go_wp2_with fail
      go_roundw
      case rel => exact ⟨k + 1, by omega, by go_num, HD4.out, HO4.out⟩
      case measure => simp [intOf]; omega
    case neg =>
      obtain rfl : k = m := by omega
      have hkI : ¬ ((k : Int) < (k : Int)) := by omega
      have f2 : V.frozen? ⟨gd, 2, none⟩ = false := hd.hd.open_ 2
      have c2 : V.cell? ⟨gd, 2, none⟩ = some (.slice A s.waits.length cw) := hd.hd.cell 2
      have hf := hd.emptied
      have hof := (ho.more (F := fun g => g = gd ∨ g = gl) (fun _ _ e => .inr e)).setCell (p := ⟨gd, 2, none⟩) (.inl (.inl rfl)) (.slice none 0 0)
      have e3 : (V.setCell ⟨gd, 2, none⟩ (.slice none 0 0)).cell? ⟨gd, 3, none⟩ = some (.int .i64 s.ops) := hf.hd.cell 3
      have f3 : (V.setCell ⟨gd, 2, none⟩ (.slice none 0 0)).frozen? ⟨gd, 3, none⟩ = false := hf.hd.open_ 3
      have ho0 : (0 : Int) ≤ (s.ops : Int) := by omega
      have ho1 : (s.ops : Int) ≤ 1000000000 := by have := HOPS.out; omega
      have HF : Hid (DiskAt ((V.setCell ⟨gd, 2, none⟩ (.slice none 0 0)).setCell ⟨gd, 3, none⟩ (.int .i64 ((s.ops : Int) + 1))) gd gn gl none 0 K ck { s with lasts := fallN kp s.waits s.lasts k, waits := [], ops := s.ops + 1 }) :=
        Lib.hid (hf.head 3 _ _ rfl rfl rfl rfl rfl)
      have HOF := Lib.hid (hof.setCell (p := ⟨gd, 3, none⟩) (.inl (.inl rfl)) (.int .i64 ((s.ops : Int) + 1)))
      clear hf hof hd ho
      go_wp2_with fail
      go_ret
      exact ⟨rfl, by rw [← HM.out]; exact HF.out, HOF.out⟩

set_option maxRecDepth 100000 in
set_option maxHeartbeats 4000000 in
theorem fall_any (w : World) (gd gn gl : Nat) (A : Option Addr) (cw : Nat) (K : Option Addr) (ck : Nat) (s : Dk) (h : DiskAt w gd gn gl A cw K ck s) (hwl : s.waits.length ≤ 100000) (kp : Nat → Bool) (hkpa : ∀ j, kp j = s.keep.getD j false) :
    Calls Try.prog 57 #[.pointer (some ⟨gd, 0, none⟩)] w fun e w' => e = .returned (.tuple #[]) ∧ DiskAt w' gd gn gl none 0 K ck { s with lasts := fallN kp s.waits s.lasts s.waits.length, now := backN (fallN kp s.waits s.lasts s.waits.length) s.waits s.now s.waits.length, waits := [], down := true } ∧ Only (fun g => g = gd ∨ g = gn ∨ g = gl) w w' := by
  have c2 : w.cell? ⟨gd, 2, none⟩ = some (.slice A s.waits.length cw) := h.hd.cell 2
  have HH := Lib.hid h
  have HKP := Lib.hid hkpa
  have hnc : s.waits.length ≤ cw := h.hw.le.1
  clear h hkpa
  go_enter Try.func57, Try.ntmps57
  obtain ⟨m, hm⟩ : ∃ m, m = s.waits.length := ⟨_, rfl⟩
  have HM := Lib.hid hm
  rw [← hm] at c2 hwl hnc
  clear hm
  go_wp2_with fail
  clear c2
  go_loopw [9] (fun i wr => RelL kp w gd gn gl A cw K ck s m i wr) (fun i _ => m - (intOf i).toNat)
  case atStart => exact ⟨0, Nat.zero_le _, rfl, HH.out, Only.refl _ _⟩
  case round =>
    obtain ⟨k, hk, rfl, hd, ho⟩ := hrel
    obtain ⟨V, hV⟩ : ∃ V, V = wr := ⟨_, rfl⟩
    subst hV
    by_cases hkm : k < m
    case pos =>
      have hkw : k < s.waits.length := by have := HM.out; omega
      obtain ⟨p, hp⟩ : ∃ p, s.waits[k]? = some p := ⟨_, List.getElem?_eq_getElem hkw⟩
      obtain ⟨g, rfl, hg, hr⟩ := hd.hw.range hp
      have hk0 : (0 : Int) ≤ (k : Int) := by omega
      have hkI : (k : Int) < (m : Int) := by omega
      have hp64 := hd.hw.len p (List.mem_of_getElem? hp)
      have HW65 := wcell_length hp64
      have hzv := zero_wait.1
      have hh1 : Holds (V.alloc (.cells zwait 88)) V.heap.size 88 zwait := Holds.fresh V _ _
      have hlz : (wcell p).length = zwait.size := by rw [HW65, zwait_size]
      have hst := store_over (P := Try.prog) _ _ _ zwait hh1 (wcell p) hlz (wcell_one p)
      have hh2 := holds_over hh1 (wcell p) hlz
      have ho1 : Only (fun _ => False) V (V.alloc (.cells zwait 88)) := (Only.refl _ _).alloc _
      have ho2 := Only.setCells (g := V.heap.size) (.inr (Nat.le_refl _)) (wcell p) 0 ho1
      have hsw : (Try.prog.info? 88).map (·.size) = some (wcell p).length := by rw [HW65]; exact zero_wait.2
      have HH2 := Lib.hid hh2
      have HO2 := Lib.hid ho2
      have HHD := Lib.hid hd
      have HOF := Lib.hid ho
      have HP := Lib.hid hp
      have hh3 := hh2
      have ho3 := ho2
      have hd3 := hd.keepAll ho3.size (fun g _ hg => ho3.block g hg (fun e => e))
      have HD3 := Lib.hid hd3
      have HO3 := Lib.hid ho3
      have HH3 := Lib.hid hh3
      clear HH2 HO2 hh1 hlz hh2 ho1 ho2 hd ho hp
      generalize zwait = zw at *
      have c6 : ((V.alloc (.cells zw 88)).setCells V.heap.size 0 (wcell p)).cell? ⟨gd, 6, none⟩ = some (.slice K s.keep.length ck) := hd3.hd.cell 6
      have hKc : s.keep.length ≤ ck := hd3.hk.1
      by_cases hkl : k < s.keep.length
      case pos =>
        obtain ⟨b, off, rfl, hb, hbc⟩ := hd3.hk.2.2 (by show 0 < s.keep.length; omega)
        have hKK : ((V.alloc (.cells zw 88)).setCells V.heap.size 0 (wcell p)).cell? ⟨b, off + k, none⟩ = some (.bool (s.keep.getD k false)) := hbc k hkl
        have hkv : kp k = s.keep.getD k false := HKP.out k
        have hklI : (k : Int) < (s.keep.length : Int) := by omega
        generalize s.keep.getD k false = bk at *
        clear hh3 ho3 hd3 hbc
        cases bk
        case true =>
          have HKK := Lib.hid hkv
          clear hkv
          go_wp2_with ((with_reducible refine wpList_load_mid rfl 88 (.tmp 12) rfl g (k * 65) rfl (wcell p) _ hr Try.underlying88 rfl hsw ?_))
          have hh3 := HH3.out
          have ho3 := HO3.out
          have hd3 := HD3.out
          have hkp := HKK.out
          clear hsw hr hst hzv HH3 HO3 HD3 c6 hKK
          generalize hgV : V.heap.size = gV at *
          have hgV1 := Holds.lt hh3
          generalize (V.alloc (.cells zw 88)).setCells gV 0 (wcell p) = V1 at *
          obtain ⟨at', x0⟩ := p
          have hat : at' < s.now.length := HH.out.wat _ (List.mem_of_getElem? HP.out)
          have hp64' : x0.length = 64 := hp64
          have HBK : Hid (fallN kp s.waits s.lasts (k + 1) = (fallN kp s.waits s.lasts k).set at' x0) := Lib.hid (by
            rw [fallN, show s.waits.getD k default = (at', x0) by rw [List.getD, HP.out]; rfl, hkp]; rfl)
          have c1 : V1.cell? ⟨gd, 1, none⟩ = some (.slice (some ⟨gl, 0, none⟩) s.now.length s.now.length) := hd3.hd.cell 1
          have c3 : V1.cell? ⟨gV, 0, none⟩ = some (.int .i64 (at' : Int)) := (hh3.cell 0).trans (by simp [wcell])
          have r1 : V1.rangeAt gV 1 (vals .u8 x0) := fun j v hv => by
            have := range_of_holds hh3 (j + 1) v (by simpa [wcell] using hv)
            rw [show 1 + j = 0 + (j + 1) by omega]
            exact this
          have hls : (vals .u8 x0).length = 64 := by rw [vals_length]; exact hp64'
          have t1 : V1.there gl (at' * 64) (vals .u8 x0).length := by rw [hls]; exact hd3.hl.there (by rw [hd3.len]; exact hat)
          have hsz : (Try.prog.info? 86).map (·.size) = some (vals .u8 x0).length := by rw [hls]; exact size_sector
          have hund := Try.underlying86
          have hone := vals_one .u8 x0
          have hi0 : (0 : Int) ≤ (at' : Int) := by omega
          have hiI : (at' : Int) < (s.now.length : Int) := by omega
          have hgvn : gV ≠ gl := fun e => by have := HHD.out.hl.lt; omega
          have q1 : (V1.drew.setCells gl (at' * 64) (vals .u8 x0)).cell? ⟨gd, 1, none⟩ = some (.slice (some ⟨gl, 0, none⟩) s.now.length s.now.length) := (World.cell?_of_block (a := ⟨gd, 1, none⟩) (setCells_aside hd3.dl _ _ _)).trans c1
          have q3 : (V1.drew.setCells gl (at' * 64) (vals .u8 x0)).cell? ⟨gV, 0, none⟩ = some (.int .i64 (at' : Int)) := (World.cell?_of_block (a := ⟨gV, 0, none⟩) (setCells_aside hgvn _ _ _)).trans c3
          have q4 : (V1.drew.setCells gl (at' * 64) (vals .u8 x0)).rangeAt gV 1 (vals .u8 x0) := World.rangeAt_setCells_apart (w := V1.drew) r1 gl (at' * 64) _ (.inl hgvn)
          have q5 : (V1.drew.setCells gl (at' * 64) (vals .u8 x0)).there gl (at' * 64) (vals .u8 x0).length := World.there_setCells (w := V1.drew) t1 gl (at' * 64) _
          have hd4 : DiskAt (V1.drew.setCells gl (at' * 64) (vals .u8 x0)) gd gn gl (some ⟨g, 0, none⟩) cw (some ⟨b, off, none⟩) ck { s with lasts := fallN kp s.waits s.lasts (k + 1) } := by
            rw [HBK.out]
            exact DiskAt.setLast (W := V1.drew) (s := { s with lasts := fallN kp s.waits s.lasts k }) hd3.drew hat hp64'
          have ho4 : Only (fun g => g = gl) w (V1.drew.setCells gl (at' * 64) (vals .u8 x0)) := (HOF.out.trans (Only.setCells (F := fun g => g = gl) (g := gl) (.inl rfl) _ _ (ho3.more (F := fun g => g = gl) (fun _ _ e => e.elim)).drew) (fun _ _ e => e))
          have H1 := Lib.hid q1
          have H3 := Lib.hid q3
          have H4 := Lib.hid q4
          have H5 := Lib.hid q5
          have HD4 := Lib.hid hd4
          have HO4 := Lib.hid ho4
          clear q1 q3 q4 q5 hd4 ho4 hd3 ho3 hh3 hat hp64 hp64'
          generalize s.now.length = n at *
          go_region_held3 (fun w' => w'.cell? ⟨gd, 1, none⟩ = some (.slice (some ⟨gl, 0, none⟩) n n) ∧ w'.cell? ⟨gV, 0, none⟩ = some (.int .i64 (at' : Int)) ∧ w'.rangeAt gV 1 (vals .u8 x0) ∧ w'.there gl (at' * 64) (vals .u8 x0).length) (first | exact ⟨c1, c3, r1, t1⟩ | exact ⟨H1.out, H3.out, H4.out, H5.out⟩) (fail)
          clear c1 c3 r1 t1 hls hsz hund hone H1 H3 H4 H5
          go_wp2_with fail
          go_roundw
          case rel => exact ⟨k + 1, by omega, by go_num, HD4.out, HO4.out⟩
          case measure => simp [intOf]; omega
        case false =>
          have HKK := Lib.hid hkv
          clear hkv
          have HBK : Hid (fallN kp s.waits s.lasts (k + 1) = fallN kp s.waits s.lasts k) := Lib.hid (by rw [fallN, HKK.out]; rfl)
          go_wp2_with ((with_reducible refine wpList_load_mid rfl 88 (.tmp 12) rfl g (k * 65) rfl (wcell p) _ hr Try.underlying88 rfl hsw ?_))
          go_roundw
          case rel => exact ⟨k + 1, by omega, by go_num, by rw [HBK.out]; exact HD3.out, HOF.out.trans (HO3.out.more (F := fun g => g = gl) fun _ _ e => e.elim) (fun _ _ e => e)⟩
          case measure => simp [intOf]; omega
      case neg =>
        have HKK : Hid (kp k = false) := Lib.hid (by rw [HKP.out k, List.getD, List.getElem?_eq_none (by omega)]; rfl)
        have hklI : decide ((k : Int) < (s.keep.length : Int)) = false := decide_eq_false (by omega)
        have hklN : ¬ ((k : Int) < (s.keep.length : Int)) := by omega
        clear hh3 ho3 hd3
        have HBK : Hid (fallN kp s.waits s.lasts (k + 1) = fallN kp s.waits s.lasts k) := Lib.hid (by rw [fallN, HKK.out]; rfl)
        go_wp2_with ((with_reducible refine wpList_load_mid rfl 88 (.tmp 12) rfl g (k * 65) rfl (wcell p) _ hr Try.underlying88 rfl hsw ?_))
        go_roundw
        case rel => exact ⟨k + 1, by omega, by go_num, by rw [HBK.out]; exact HD3.out, HOF.out.trans (HO3.out.more (F := fun g => g = gl) fun _ _ e => e.elim) (fun _ _ e => e)⟩
        case measure => simp [intOf]; omega
    case neg =>
      obtain rfl : k = m := by omega
      have hkI : ¬ ((k : Int) < (k : Int)) := by omega
      have HHD := Lib.hid hd
      have HOF := Lib.hid ho
      have HFO := Lib.hid (forget_any V gd gn gl A cw K ck _ hd (by show s.waits.length ≤ 100000; rw [← HM.out]; exact hwl))
      clear hd ho
      go_wp2_with fail
      refine HFO.out.mono ?_
      rintro e V2 ⟨rfl, hd2, ho2⟩
      have e7 : V2.cell? ⟨gd, 7, none⟩ = some (.bool s.down) := hd2.hd.cell 7
      have f7 : V2.frozen? ⟨gd, 7, none⟩ = false := hd2.hd.open_ 7
      have HF : Hid (DiskAt (V2.setCell ⟨gd, 7, none⟩ (.bool true)) gd gn gl none 0 K ck { s with lasts := fallN kp s.waits s.lasts s.waits.length, now := backN (fallN kp s.waits s.lasts s.waits.length) s.waits s.now s.waits.length, waits := [], down := true }) := Lib.hid (by
        have := hd2
        rw [HM.out] at this
        exact this.head 7 _ _ rfl rfl rfl rfl rfl)
      have HOO : Hid (Only (fun g => g = gd ∨ g = gn ∨ g = gl) w (V2.setCell ⟨gd, 7, none⟩ (.bool true))) := Lib.hid (((HOF.out.more (F := fun g => g = gd ∨ g = gn ∨ g = gl) (fun _ _ e => .inr (.inr e))).trans ho2 (fun _ _ e => e.elim .inl fun e => .inr (.inl e))).setCell (.inl (.inl rfl)) _)
      clear hd2 ho2 HFO
      go_wp2_with fail
      go_end0
      exact ⟨rfl, HF.out, HOO.out⟩
end Go.Proofs.Ytkmbgbbmhpidkaa
