/-
  Many sectors at once: so many, no more; all of them are there.
-/
import Derived.Test.YtkmbgbbmhpidkaaJr14
namespace Go.Proofs.Ytkmbgbbmhpidkaa
open Go.RowKit Go.Shelf
set_option linter.unusedVariables false
set_option linter.unusedSimpArgs false
attribute [local go_sem ↓] Go.wp_at_zero Go.wp_at_succ

def secI (i : Nat) : List Nat := secOf [i, 0, 1]
theorem secI_len (i : Nat) : (secI i).length = 64 := secOf_length _
theorem secI_oct {i : Nat} (h : i < 256) : ∀ x ∈ secI i, x < 256 := secOf_oct fun x hx => by simp at hx; omega
def mostW (f n : Nat) : List (Int × List Nat) := (List.range n).map fun i : Nat => (((f + n - 1 - i : Nat) : Int), secI i)
theorem mostW_at {f n i : Nat} (h : i < n) : (mostW f n)[i]? = some (((f + n - 1 - i : Nat) : Int), secI i) := by simp [mostW, h]
theorem most_may {f n : Nat} (hn : n ≤ 160) (hf : f ≤ 40) : mayJ kM.many (mostW f n) = true := by
  rw [kM_many]
  refine decide_eq_true ⟨fun p hp => ?_, ?_⟩
  · obtain ⟨i, hi, rfl⟩ := List.mem_map.1 hp
    have := List.mem_range.1 hi
    exact ⟨by dsimp only; omega, by dsimp only; omega, secI_len _⟩
  · rw [mostW, List.map_map]
    refine List.pairwise_map.2 (List.Pairwise.imp_of_mem (fun {a b} ha hb hne h => hne ?_) List.nodup_range)
    have := List.mem_range.1 ha
    have := List.mem_range.1 hb
    have h2 : f + n - 1 - a = f + n - 1 - b := Int.ofNat.inj h
    omega
theorem most_room {f n : Nat} (hn : n ≤ 160) (hf : f ≤ 40) (h : 150 < n) : kM.commit (mostW f n) = (kM, 5) := by
  unfold Dk.commit
  rw [if_pos (most_may hn hf), if_pos (by simpa [mostW] using h)]
theorem most_good {f n : Nat} (h1 : 1 ≤ n) (hn : n ≤ 150) (hf : f ≤ 40) : (kM.commit (mostW f n)).2 = 0 ∧ Well (kM.commit (mostW f n)).1 ∧ (kM.commit (mostW f n)).1.now = setAll kM.now (commitW (mostW f n)) :=
  kM_well.2.1.commit (by rw [kM_many]; omega) (most_may (by omega) hf) (fun e => by
    have := congrArg List.length e
    simp [mostW] at this
    omega) (by simpa [mostW] using hn)
theorem most_pos {f n : Nat} : ∀ q ∈ mostW f n, 0 ≤ q.1 := fun q hq => by
  obtain ⟨i, _, rfl⟩ := List.mem_map.1 hq
  dsimp only; omega
theorem most_facts {f n : Nat} (h1 : 1 ≤ n) (hn : n ≤ 150) (hf : f ≤ 40) {s : Dk} (hs : s = (kM.commit (mostW f n)).1) : s.down = false ∧ s.many = 243 ∧ s.read 0 = apstB ∧ s.read 1 = zsec ∧ ∀ i, i < n → s.read (157 + ((f + n - 1 - i : Nat) : Int)) = secI i := by
  obtain ⟨_, hw, hnow⟩ := most_good h1 hn hf
  rw [← hs] at hw hnow
  have hl : s.now.length = 400 := by rw [hnow, setAll_length, kM_len]
  refine ⟨hw.dn, by unfold Dk.many; rw [hl], ?_, ?_, fun i hi => ?_⟩
  · have h := Dk.read_now s 0
    have h0 := Dk.read_now kM 0
    rw [hnow, commitW_zero most_pos, ← h0] at h
    exact h.trans kM_apst
  · have h := Dk.read_now s 1
    rw [hnow, commitW_mark (by rw [kM_len]; omega)] at h
    exact h
  · have h := Dk.read_now s (157 + (f + n - 1 - i))
    have hp := commitW_place (a := kM.now) (mostW_at (f := f) hi) (by rw [kM_len]; dsimp only; omega) most_pos (of_decide_eq_true (most_may (f := f) (n := n) (by omega) hf)).2
    dsimp only at hp
    rw [show (157 + ((f + n - 1 - i : Nat) : Int)).toNat = 157 + (f + n - 1 - i) by omega] at hp
    rw [hnow, hp] at h
    rw [← h]
    congr 1
theorem RdWr.at2 {W : World} {b off c : Nat} {l : List Wr} (h : RdWr (some ⟨b, off, none⟩) c l W) {j : Nat} (hj : j < l.length) :
    W.cell? ⟨b, off + j * 2, none⟩ = some (.int .i64 (l.getD j default).at_) ∧ W.cell? ⟨b, off + j * 2 + 1, none⟩ = some (.slice (l.getD j default).da (l.getD j default).d.length (l.getD j default).dc) ∧ Rd .u8 W W.heap.size (l.getD j default).da (l.getD j default).dc (l.getD j default).d := by
  obtain ⟨b', off', e, _, hc⟩ := h.2.2.2 (by omega)
  injection e with e
  injection e with e1 e2
  subst e1 e2
  exact ⟨(hc j hj).1, (hc j hj).2, h.2.2.1 j hj⟩

/-- The first j of the writes, their data at blocks o. -/
def mostR (f n : Nat) (o : Nat → Nat) (j : Nat) : List Wr := (List.range j).map fun i : Nat => ⟨((f + n - 1 - i : Nat) : Int), some ⟨o i, 0, none⟩, 64, secI i⟩
theorem mostR_length (f n : Nat) (o : Nat → Nat) (j : Nat) : (mostR f n o j).length = j := by simp [mostR]
theorem mostR_at {f n j i : Nat} {o : Nat → Nat} (h : i < j) : (mostR f n o j).getD i default = ⟨((f + n - 1 - i : Nat) : Int), some ⟨o i, 0, none⟩, 64, secI i⟩ := by simp [mostR, List.getD, h]
theorem mostR_succ (f n j b : Nat) (o : Nat → Nat) : mostR f n (fun i => if i = j then b else o i) (j + 1) = mostR f n o j ++ [⟨((f + n - 1 - j : Nat) : Int), some ⟨b, 0, none⟩, 64, secI j⟩] := by
  unfold mostR
  rw [List.range_succ, List.map_append]
  congr 1
  · refine List.map_congr_left fun i hi => ?_
    have := List.mem_range.1 hi
    dsimp only
    rw [if_neg (by omega)]
  · simp
theorem mostR_v (f n : Nat) (o : Nat → Nat) : wv (mostR f n o n) = mostW f n := by
  rw [wv, mostR, mostW, List.map_map]
  rfl
set_option maxRecDepth 100000 in
set_option maxHeartbeats 40000000 in
theorem most_any (w : World) (ni fi : Int) : Calls Try.prog 7 #[.int .i64 ni, .int .i64 fi] w fun e w' => e = .returned (.bool true) ∧ Below w.heap.size w w' := by
  by_cases hbad : ni < 1 ∨ 160 < ni ∨ fi < 0 ∨ 40 < fi
  · by_cases c1 : ni < 1
    · have d1 : decide (ni < 1) = true := decide_eq_true c1
      clear hbad
      go_enter Try.func7, Try.ntmps7
      go_wp2_with fail
      go_ret
      exact ⟨rfl, Below.refl _ _⟩
    have d1 : decide (ni < 1) = false := decide_eq_false c1
    by_cases c2 : 160 < ni
    · have d2 : decide (160 < ni) = true := decide_eq_true c2
      clear hbad
      go_enter Try.func7, Try.ntmps7
      go_wp2_with fail
      go_ret
      exact ⟨rfl, Below.refl _ _⟩
    have d2 : decide (160 < ni) = false := decide_eq_false c2
    by_cases c3 : fi < 0
    · have d3 : decide (fi < 0) = true := decide_eq_true c3
      clear hbad
      go_enter Try.func7, Try.ntmps7
      go_wp2_with fail
      go_ret
      exact ⟨rfl, Below.refl _ _⟩
    have d3 : decide (fi < 0) = false := decide_eq_false c3
    have d4 : decide (40 < fi) = true := decide_eq_true (by omega)
    clear hbad
    go_enter Try.func7, Try.ntmps7
    go_wp2_with fail
    go_ret
    exact ⟨rfl, Below.refl _ _⟩
  obtain ⟨n, rfl⟩ : ∃ n : Nat, ni = (n : Int) := ⟨ni.toNat, by omega⟩
  obtain ⟨f, rfl⟩ : ∃ f : Nat, fi = (f : Int) := ⟨fi.toNat, by omega⟩
  have hn1 : 1 ≤ n := by omega
  have hn2 : n ≤ 160 := by omega
  have hf2 : f ≤ 40 := by omega
  have d1 : decide ((n : Int) < 1) = false := decide_eq_false (by omega)
  have d2 : decide (160 < (n : Int)) = false := decide_eq_false (by omega)
  have d3 : decide ((f : Int) < 0) = false := decide_eq_false (by omega)
  have d4 : decide (40 < (f : Int)) = false := decide_eq_false (by omega)
  clear hbad
  have HN := Lib.hid (And.intro hn1 (And.intro hn2 hf2))
  clear hn1 hn2 hf2
  have HF1 := Lib.hid kM_well.1
  have hnew := new_yes w 400 (by omega) (by omega)
  rw [show ((400 : Nat) : Int) = 400 from rfl] at hnew
  have HNEW := Lib.hid hnew
  clear hnew
  go_enter Try.func7, Try.ntmps7
  go_wp2_with fail
  refine HNEW.out.mono ?_
  rintro e w1 ⟨gd, rfl, hd1, hb1⟩
  have HB1 := Lib.hid hb1
  have HD1 := Lib.hid hd1
  clear hd1 hb1 HNEW
  go_wp2_with fail
  refine (format_any HD1.out (by simp [fresh]) (by simp [fresh])).mono ?_
  rintro e w2 ⟨rfl, hd2⟩
  rw [HF1.out]
  have HB2 := Lib.hid (HB1.out.trans ((hd2.2.below (B := w.heap.size) (fun k hk => hk.1) HB1.out.size)))
  obtain ⟨F2, hL2, hF2⟩ : ∃ F2 : Nat → Prop, Disk w2 F2 gd kM ∧ ∀ k, F2 k → w.heap.size ≤ k ∧ k < w2.heap.size := ⟨_, hd2.1.low, fun k hk => ⟨by have := HB1.out.size; rcases hk.1 with h | h; exact h.1; omega, hk.2⟩⟩
  have HL2 := Lib.hid hL2
  have HF := Lib.hid hF2
  clear hL2 hF2 hd2 HD1 HB1 HF1 d1 d2 d3 d4
  go_wp2_with fail
  go_loopw [6, 7] (fun sl si wr => ∃ (k : Nat) (o : Nat → Nat) (A : Option Addr) (c : Nat), k ≤ n ∧ si = .int .i64 k ∧ sl = .slice A k c ∧ Hid (Wrs w2 wr w2.heap.size A c (mostR f n o k))) (fun _ si _ => n - (intOf si).toNat)
  case atStart => exact ⟨0, fun _ => 0, none, 0, Nat.zero_le _, rfl, rfl, Lib.hid (Wrs.nil _ _)⟩
  case round =>
    obtain ⟨k, o, A, c, hk, rfl, rfl, HRS⟩ := hrel
    obtain ⟨U, hU⟩ : ∃ U, U = wr := ⟨_, rfl⟩
    subst hU
    by_cases hlt : k < n
    · have hkI : (k : Int) < (n : Int) := by omega
      have hN := HN.out
      have hk16 : k < 160 := by omega
      have kw0 : IntKind.i64.wrap ((f : Int) + (n : Int)) = (f : Int) + (n : Int) := IntWalk.i64_in _ (by omega)
      have kw1 : IntKind.i64.wrap ((f : Int) + (n : Int) - 1) = (f : Int) + (n : Int) - 1 := IntWalk.i64_in _ (by omega)
      have kw2 : IntKind.i64.wrap ((f : Int) + (n : Int) - 1 - (k : Int)) = ((f + n - 1 - k : Nat) : Int) := by rw [IntWalk.i64_in _ (by omega)]; omega
      have kw3 : IntKind.u8.wrap (k : Int) = (k : Int) := by rw [IntKind.wrap_u8]; omega
      have kw4 : (k : Int) / 256 = 0 := by omega
      clear hN
      obtain ⟨U1, hU1⟩ : ∃ U1, U1 = U.alloc (.cells #[.int .u8 (k : Int), .int .u8 0, .int .u8 1] 5) := ⟨_, rfl⟩
      have HU1 := Lib.hid hU1
      have hb1 : Below U.heap.size U U1 := by rw [hU1]; exact (Below.refl _ _).alloc (Nat.le_refl _) _
      have HB1 := Lib.hid hb1
      have HRD : Hid (Rd .u8 U1 U1.heap.size (some ⟨U.heap.size, 0, none⟩) 3 [k, 0, 1]) := Lib.hid (by
        rw [hU1]
        exact (vals_const U 5 [k, 0, 1] (0, 0) (by simp)).more (by simp))
      clear hU1 hb1
      go_wp2_with fail
      rw [← HU1.out]
      refine (sectorR U1 _ 3 3 [k, 0, 1] rfl HRD.out).mono ?_
      rintro e U2 ⟨rfl, hrow2, hr2, hb2⟩
      have HLT := Lib.hid (Holds.lt hrow2)
      have HSB : Hid (U.heap.size ≤ U1.heap.size) := Lib.hid HB1.out.size
      have HR2 : Hid (Rd .u8 U2 U2.heap.size (some ⟨U1.heap.size, 0, none⟩) 64 (secI k)) := Lib.hid hr2
      have HB2' := Lib.hid (HB1.out.trans (hb2.mono HB1.out.size))
      clear hrow2 hr2 hb2 HRD HU1 HB1
      have hb3 : Below U2.heap.size U2 (U2.alloc (.cells #[.int .i64 ((f + n - 1 - k : Nat) : Int), .slice (some ⟨U1.heap.size, 0, none⟩) 64 64] 42)) := (Below.refl _ _).alloc (Nat.le_refl _) _
      have HL1 : Hid ((mostR f n o k).length = k) := Lib.hid (mostR_length _ _ _ _)
      have hst := HRS.out.under (HB2'.out.trans (hb3.mono HB2'.out.size))
      have HST := Lib.hid hst
      have HFX : Hid (Holds (U2.alloc (.cells #[.int .i64 ((f + n - 1 - k : Nat) : Int), .slice (some ⟨U1.heap.size, 0, none⟩) 64 64] 42)) U2.heap.size 42 (wrCells ⟨((f + n - 1 - k : Nat) : Int), some ⟨U1.heap.size, 0, none⟩, 64, secI k⟩).toArray) := Lib.hid (Holds.fresh _ _ _)
      have HOW : Hid (OwnV 42 2 (U2.alloc (.cells #[.int .i64 ((f + n - 1 - k : Nat) : Int), .slice (some ⟨U1.heap.size, 0, none⟩) 64 64] 42)) A c k ((mostR f n o k).flatMap wrCells)) := Lib.hid (by have := hst.own; rwa [HL1.out] at this)
      have HWC : Hid (∀ u ∈ wrCells ⟨((f + n - 1 - k : Nat) : Int), some ⟨U1.heap.size, 0, none⟩, 64, secI k⟩, u.oneCell' = true) := Lib.hid (by intro u hu; simp [wrCells] at hu; rcases hu with rfl | rfl <;> rfl)
      have HRX : Hid (Rd .u8 (U2.alloc (.cells #[.int .i64 ((f + n - 1 - k : Nat) : Int), .slice (some ⟨U1.heap.size, 0, none⟩) 64 64] 42)) (U2.alloc (.cells #[.int .i64 ((f + n - 1 - k : Nat) : Int), .slice (some ⟨U1.heap.size, 0, none⟩) 64 64] 42)).heap.size (some ⟨U1.heap.size, 0, none⟩) 64 (secI k)) := Lib.hid ((HR2.out.under hb3).more hb3.size)
      have HWL : Hid (U1.heap.size < (U2.alloc (.cells #[.int .i64 ((f + n - 1 - k : Nat) : Int), .slice (some ⟨U1.heap.size, 0, none⟩) 64 64] 42)).heap.size) := Lib.hid (by have := HLT.out; have := hb3.size; omega)
      have HUB : Hid (w2.heap.size ≤ U1.heap.size) := Lib.hid (by have := HRS.out.bel.size; have := HSB.out; omega)
      have HNE : Hid (blockOf A ≠ some U1.heap.size) := Lib.hid fun e => by
        have := HRS.out.own.lt e
        have := HSB.out
        omega
      clear hst hb3
      go_wp2_with (first | (at_builtin; refine wpList_pushV _ rfl (.tmp 33) (.tmp 48) 27 rfl 42 (.agg #[.int .i64 0, .slice none 0 0]) 2 32 Try.underlying27 info_write rfl (by omega) (by omega) rfl HOW.out (cs := wrCells ⟨((f + n - 1 - k : Nat) : Int), some ⟨U1.heap.size, 0, none⟩, 64, secI k⟩) rfl rfl HWC.out HFX.out (by omega) ?_; intro g9 c9 W9 ho9 hg9 hat9 hlt9))
      have HS9 := Lib.hid (HST.out.push (x := ⟨((f + n - 1 - k : Nat) : Int), some ⟨U1.heap.size, 0, none⟩, 64, secI k⟩) ⟨HRX.out, fun b o e => by
        injection e with e
        injection e with e
        subst e
        exact ⟨HUB.out, HWL.out, HNE.out⟩⟩ (by rw [HL1.out]; exact ho9) hg9 hat9)
      rw [← mostR_succ] at HS9
      clear ho9 hg9 hat9 hlt9 HOW HFX HST HWC HRX HWL HNE HUB kw0 kw1 kw2 kw3 kw4
      go_wp2_with fail
      go_roundw
      case rel => exact ⟨k + 1, _, _, _, by omega, by go_num, rfl, HS9⟩
      case measure => simp [intOf]; omega
    · obtain rfl : k = n := by omega
      have hkI : ¬ ((k : Int) < (k : Int)) := by omega
      have HG := Lib.hid (HRS.out.rd (Nat.le_refl _))
      have HDW : Hid (Disk U F2 gd kM) := Lib.hid (HL2.out.keep (Only.of_below (F := fun _ => False) HRS.out.bel) (fun _ _ e => e))
      have HOF := Lib.hid (HG.out.off fun k hk => (HF.out k hk).2)
      have HCM := Lib.hid (commit_any HDW.out A c k (mostR f k o k) (mostR_length _ _ _ _) HOF.out (by have := HN.out; omega) kM_small.1 kM_small.2)
      rw [mostR_v] at HCM
      have HBU := Lib.hid (HB2.out.trans (HRS.out.bel.mono HB2.out.size))
      clear HG HB2 HL2
      by_cases h150 : 150 < k
      · have d1 : decide ((150 : Int) < (k : Int)) = true := decide_eq_true (by omega)
        have hr := most_room (f := f) HN.out.2.1 HN.out.2.2 h150
        rw [hr] at HCM
        clear hr
        go_wp2_with fail
        refine HCM.out.mono ?_
        rintro e wz ⟨rfl, hdz⟩
        have HBz := Lib.hid (HBU.out.trans (hdz.2.below (B := w.heap.size) (fun k hk => (HF.out k hk).1) HBU.out.size))
        clear hdz HCM
        go_wp2_with fail
        refine (known2_any wz).mono ?_
        rintro e wy ⟨rfl, hby⟩
        have HBy := Lib.hid (HBz.out.trans (hby.mono HBz.out.size))
        clear hby
        go_wp2_with fail
        go_ret
        exact ⟨rfl, HBy.out⟩
      · have d1 : decide ((150 : Int) < (k : Int)) = false := decide_eq_false (by omega)
        have hgood := (most_good (f := f) HN.out.1 (by omega) HN.out.2.2).1
        obtain ⟨s2, hs2⟩ : ∃ s2, s2 = (kM.commit (mostW f k)).1 := ⟨_, rfl⟩
        have HFA := Lib.hid (most_facts (f := f) HN.out.1 (by omega) HN.out.2.2 hs2)
        rw [hgood, ← hs2] at HCM
        clear hgood hs2
        go_wp2_with fail
        refine HCM.out.mono ?_
        rintro e wz ⟨rfl, hdz⟩
        have HBz := Lib.hid (HBU.out.trans (hdz.2.below (B := w.heap.size) (fun k hk => (HF.out k hk).1) HBU.out.size))
        have hoz := hdz.then HOF.out
        have hrz := hoz.at_
        obtain ⟨b, off, rfl, _, _⟩ := hrz.2.2.2 (by rw [mostR_length]; have := HN.out.1; omega)
        have HRW : Hid (∀ W, Below wz.heap.size wz W → RdWr (some ⟨b, off, none⟩) c (mostR f k o k) W) := Lib.hid fun W hW => (hoz.under hW).at_
        have HDZ := Lib.hid hdz.1
        have HFB : Hid (∀ k, grow F2 U wz k → w.heap.size ≤ k) := Lib.hid fun k hk => by
          have := HBU.out.size
          rcases hk with h | h
          · exact (HF.out k h).1
          · omega
        clear hdz hoz hrz HCM HOF HDW HRS HBU HF
        go_wp2_with fail
        go_loopw [9] (fun si wr => ∃ (i : Nat), i ≤ k ∧ si = .int .i64 i ∧ Hid (Below wz.heap.size wz wr)) (fun si _ => k - (intOf si).toNat)
        case atStart => exact ⟨0, Nat.zero_le _, rfl, Lib.hid (Below.refl _ _)⟩
        case round =>
          obtain ⟨i, hi, rfl, HBR⟩ := hrel
          by_cases hik : i < k
          · have hiI : (i : Int) < (k : Int) := by omega
            have hi0 : (0 : Int) ≤ (i : Int) := by omega
            have HLI := Lib.hid (secI_len i)
            have HOI : Hid (∀ x ∈ secI i, x < 256) := Lib.hid (secI_oct (by have := HN.out.2.1; omega))
            obtain ⟨z1, hz1⟩ : ∃ z, z = str (secI i) := ⟨_, rfl⟩
            have HZI := Lib.hid hz1
            clear hz1
            have HCE : Hid (∀ W, Below wr.heap.size wr W → W.cell? ⟨b, off + i * 2, none⟩ = some (.int .i64 ((f + k - 1 - i : Nat) : Int)) ∧ W.cell? ⟨b, off + i * 2 + 1, none⟩ = some (.slice (some ⟨o i, 0, none⟩) 64 64) ∧ Rd .u8 W W.heap.size (some ⟨o i, 0, none⟩) 64 (secI i)) := Lib.hid fun W hW => by
              have := (HRW.out W (HBR.out.trans (hW.mono HBR.out.size))).at2 (j := i) (by rw [mostR_length]; exact hik)
              rw [mostR_at hik] at this
              dsimp only at this
              rw [secI_len] at this
              exact this
            have HRE : Hid (∀ W, Below wr.heap.size wr W → Calls Try.prog 29 #[.pointer (some ⟨gd, 0, none⟩), .int .i64 ((f + k - 1 - i : Nat) : Int)] W fun e w' => ∃ A c, e = .returned (.slice A 64 c) ∧ Rd .u8 w' w'.heap.size A c (secI i) ∧ Below W.heap.size W w') := Lib.hid fun W hW => by
              have := dj_read ((DJ.start HDZ.out).below (HBR.out.trans (hW.mono HBR.out.size))) ((f + k - 1 - i : Nat) : Int) HFA.out.2.1 (x := secI i) (by have := HN.out; rw [if_pos (by omega)]; exact HFA.out.2.2.2.2 i hik)
              rw [secI_len] at this
              exact this
            go_wp2_with fail
            refine wp_region_noPanic ?_
            refine wp_region_held_drew (S := fun W => Below wr.heap.size wr W) (by kernel_rfl) ((Below.refl _ wr).drew) (fun hHeld => ?_)
            obtain ⟨wa, hwa⟩ : ∃ W, W = wr.drew := ⟨_, rfl⟩
            rw [← hwa]
            have HQa : Hid (Below wr.heap.size wr wa) := Lib.hid (by rw [hwa]; exact (Below.refl _ _).drew)
            clear hwa
            replace hHeld : (fun W => Below wr.heap.size wr W) wa := HQa.out
            refine wpAnyH_take (i := 0) (oi := { dst := some 65, op := Op.move (Operand.tmp 5), type := 23, pos := _, after := _, guard := none }) (v := ?_) rfl (by kernel_rfl) (by kernel_rfl) (by kernel_rfl) (fun _ _ _ h => h) (Or.inl ⟨by rfl, ?_⟩) hHeld ?_
            rotate_left 1
            · (intro W hW; (try dsimp only at hW); go_simp; try with_reducible rfl)
            try simp only [Act.put, List.setIfInBounds_toArray, List.set_cons_zero, List.set_cons_succ]
            refine wpAnyH_take (i := 1) (oi := { dst := some 66, op := Op.move (Operand.tmp 6), type := 27, pos := _, after := _, guard := none }) (v := ?_) rfl (by kernel_rfl) (by kernel_rfl) (by kernel_rfl) (fun _ _ _ h => h) (Or.inl ⟨by rfl, ?_⟩) hHeld ?_
            rotate_left 1
            · (intro W hW; (try dsimp only at hW); go_simp; try with_reducible rfl)
            try simp only [Act.put, List.setIfInBounds_toArray, List.set_cons_zero, List.set_cons_succ]
            refine wpAnyH_take (i := 2) (oi := { dst := some 67, op := Op.move (Operand.tmp 9), type := 3, pos := _, after := _, guard := none }) (v := ?_) rfl (by kernel_rfl) (by kernel_rfl) (by kernel_rfl) (fun _ _ _ h => h) (Or.inl ⟨by rfl, ?_⟩) hHeld ?_
            rotate_left 1
            · (intro W hW; (try dsimp only at hW); go_simp; try with_reducible rfl)
            try simp only [Act.put, List.setIfInBounds_toArray, List.set_cons_zero, List.set_cons_succ]
            refine wpAnyH_take (i := 3) (oi := { dst := some 68, op := Op.indexAddr 27 (Operand.tmp 66) (Operand.tmp 67), type := 0, pos := _, after := _, guard := none }) (v := ?_) rfl (by kernel_rfl) (by kernel_rfl) (by kernel_rfl) (fun _ _ _ h => h) (Or.inl ⟨by rfl, ?_⟩) hHeld ?_
            rotate_left 1
            · (intro W hW; (try dsimp only at hW); go_simp; try with_reducible rfl)
            try simp only [Act.put, List.setIfInBounds_toArray, List.set_cons_zero, List.set_cons_succ]
            refine wpAnyH_take (i := 4) (oi := { dst := some 69, op := Op.fieldAddr 42 (Operand.tmp 68) 0, type := 0, pos := _, after := _, guard := none }) (v := ?_) rfl (by kernel_rfl) (by kernel_rfl) (by kernel_rfl) (fun _ _ _ h => h) (Or.inl ⟨by rfl, ?_⟩) hHeld ?_
            rotate_left 1
            · (intro W hW; (try dsimp only at hW); go_simp; try with_reducible rfl)
            try simp only [Act.put, List.setIfInBounds_toArray, List.set_cons_zero, List.set_cons_succ]
            refine wpAnyH_take (i := 5) (oi := { dst := some 70, op := Op.load 3 (Operand.tmp 69), type := 3, pos := _, after := _, guard := none }) (v := ?_) rfl (by kernel_rfl) (by kernel_rfl) (by kernel_rfl) (fun _ _ _ h => h) (Or.inl ⟨by rfl, ?_⟩) hHeld ?_
            rotate_left 1
            · (intro W hW; have hcc := HCE.out W hW; have hca := hcc.1; have hcb := hcc.2.1; have hcv := conv_str hcc.2.2 HLI.out HOI.out; rw [← HZI.out] at hcv; clear hcc; (try dsimp only at hW); go_simp; try with_reducible rfl)
            try simp only [Act.put, List.setIfInBounds_toArray, List.set_cons_zero, List.set_cons_succ]
            refine wpAnyH_take (i := 8) (oi := { dst := some 73, op := Op.move (Operand.tmp 6), type := 27, pos := _, after := _, guard := none }) (v := ?_) rfl (by kernel_rfl) (by kernel_rfl) (by kernel_rfl) (fun _ _ _ h => h) (Or.inl ⟨by rfl, ?_⟩) hHeld ?_
            rotate_left 1
            · (intro W hW; (try dsimp only at hW); go_simp; try with_reducible rfl)
            try simp only [Act.put, List.setIfInBounds_toArray, List.set_cons_zero, List.set_cons_succ]
            refine wpAnyH_take (i := 9) (oi := { dst := some 74, op := Op.move (Operand.tmp 9), type := 3, pos := _, after := _, guard := none }) (v := ?_) rfl (by kernel_rfl) (by kernel_rfl) (by kernel_rfl) (fun _ _ _ h => h) (Or.inl ⟨by rfl, ?_⟩) hHeld ?_
            rotate_left 1
            · (intro W hW; (try dsimp only at hW); go_simp; try with_reducible rfl)
            try simp only [Act.put, List.setIfInBounds_toArray, List.set_cons_zero, List.set_cons_succ]
            refine wpAnyH_take (i := 10) (oi := { dst := some 75, op := Op.indexAddr 27 (Operand.tmp 73) (Operand.tmp 74), type := 0, pos := _, after := _, guard := none }) (v := ?_) rfl (by kernel_rfl) (by kernel_rfl) (by kernel_rfl) (fun _ _ _ h => h) (Or.inl ⟨by rfl, ?_⟩) hHeld ?_
            rotate_left 1
            · (intro W hW; (try dsimp only at hW); go_simp; try with_reducible rfl)
            try simp only [Act.put, List.setIfInBounds_toArray, List.set_cons_zero, List.set_cons_succ]
            refine wpAnyH_take (i := 11) (oi := { dst := some 76, op := Op.fieldAddr 42 (Operand.tmp 75) 1, type := 0, pos := _, after := _, guard := none }) (v := ?_) rfl (by kernel_rfl) (by kernel_rfl) (by kernel_rfl) (fun _ _ _ h => h) (Or.inl ⟨by rfl, ?_⟩) hHeld ?_
            rotate_left 1
            · (intro W hW; (try dsimp only at hW); go_simp; try with_reducible rfl)
            try simp only [Act.put, List.setIfInBounds_toArray, List.set_cons_zero, List.set_cons_succ]
            refine wpAnyH_take (i := 12) (oi := { dst := some 77, op := Op.load 40 (Operand.tmp 76), type := 40, pos := _, after := _, guard := none }) (v := ?_) rfl (by kernel_rfl) (by kernel_rfl) (by kernel_rfl) (fun _ _ _ h => h) (Or.inl ⟨by rfl, ?_⟩) hHeld ?_
            rotate_left 1
            · (intro W hW; have hcc := HCE.out W hW; have hca := hcc.1; have hcb := hcc.2.1; have hcv := conv_str hcc.2.2 HLI.out HOI.out; rw [← HZI.out] at hcv; clear hcc; (try dsimp only at hW); go_simp; try with_reducible rfl)
            try simp only [Act.put, List.setIfInBounds_toArray, List.set_cons_zero, List.set_cons_succ]
            refine wpAnyH_take (i := 13) (oi := { dst := some 78, op := Op.convert 40 9 (Operand.tmp 77), type := 9, pos := _, after := _, guard := none }) (v := ?_) rfl (by kernel_rfl) (by kernel_rfl) (by kernel_rfl) (fun _ _ _ h => h) (Or.inl ⟨by rfl, ?_⟩) hHeld ?_
            rotate_left 1
            · (intro W hW; have hcc := HCE.out W hW; have hca := hcc.1; have hcb := hcc.2.1; have hcv := conv_str hcc.2.2 HLI.out HOI.out; rw [← HZI.out] at hcv; clear hcc; (try dsimp only at hW); go_simp; try with_reducible rfl)
            try simp only [Act.put, List.setIfInBounds_toArray, List.set_cons_zero, List.set_cons_succ]
            refine wpAnyH_ready (rs := [6]) (by kernel_rfl) (by simp) ?_
            refine AllReadyH.cons (o := { dst := some 71, op := Op.call { callee := Callee.value (Operand.func 29), args := #[Operand.tmp 65, Operand.tmp 70], argTypes := #[23, 3] }, type := 40, pos := _, after := _, guard := none }) rfl (fun K hK => ?_) AllReadyH.nil
            go_simp
            refine (HRE.out _ HQa.out).mono ?_
            rintro e wc ⟨Ac, cc, rfl, hrc, hbc⟩
            have HQc := Lib.hid (HQa.out.trans (hbc.mono HQa.out.size))
            have HRc := Lib.hid hrc
            clear hrc hbc
            go_simp
            refine hK.out _ _ (HQc.out) (fun _ => ?_)
            clear hK K hHeld
            try simp only [Act.put, List.setIfInBounds_toArray, List.set_cons_zero, List.set_cons_succ]
            refine wpAnyH_strong (S' := fun W => Below wc.heap.size wc W) (fun W hW => HQc.out.trans (hW.mono HQc.out.size)) _ _ _ _ ?_
            have hHeld : (fun W => Below wc.heap.size wc W) _ := Below.refl _ _
            refine wpAnyH_take (i := 7) (oi := { dst := some 72, op := Op.convert 40 9 (Operand.tmp 71), type := 9, pos := _, after := _, guard := none }) (v := ?_) rfl (by kernel_rfl) (by kernel_rfl) (by kernel_rfl) (fun _ _ _ h => h) (Or.inl ⟨by rfl, ?_⟩) hHeld ?_
            rotate_left 1
            · (intro W hW; have hcv := conv_str (Rd.under HRc.out hW) HLI.out HOI.out; rw [← HZI.out] at hcv; (try dsimp only at hW); go_simp; try with_reducible rfl)
            try simp only [Act.put, List.setIfInBounds_toArray, List.set_cons_zero, List.set_cons_succ]
            refine wpAnyH_take (i := 14) (oi := { dst := some 79, op := Op.binOp BinOp.neq 9 (Operand.tmp 72) (Operand.tmp 78) 9, type := 4, pos := _, after := _, guard := none }) (v := ?_) rfl (by kernel_rfl) (by kernel_rfl) (by kernel_rfl) (fun _ _ _ h => h) (Or.inl ⟨by rfl, ?_⟩) hHeld ?_
            rotate_left 1
            · (intro W hW; (try dsimp only at hW); go_simp; try with_reducible rfl)
            try simp only [Act.put, List.setIfInBounds_toArray, List.set_cons_zero, List.set_cons_succ]
            refine wpAnyH_done (by kernel_rfl) ?_ _
            refine NoPanic.normal ?_
            go_wp2_with fail
            go_roundw
            case rel => exact ⟨i + 1, by omega, by go_num, Lib.hid (HBR.out.trans (HQc.out.mono HBR.out.size))⟩
            case measure => simp [intOf]; omega
          · obtain rfl : i = k := by omega
            have hiI : ¬ ((i : Int) < (i : Int)) := by omega
            have HOPN : Hid (∀ W, Below wr.heap.size wr W → Calls Try.prog 16 #[.pointer (some ⟨gd, 0, none⟩)] W fun e w' => e = .returned (.int .i64 0) ∧ Below w.heap.size W w') := Lib.hid fun W hW => by
              have hb := HBR.out.trans (hW.mono HBR.out.size)
              have hd := (DJ.start HDZ.out).below hb
              exact (open_none hd.1 HFA.out.1 (by rw [HFA.out.2.1]; omega) HFA.out.2.2.1 HFA.out.2.2.2.1).mono fun e w' q => ⟨q.1, q.2.2.below (B := w.heap.size) (fun k hk => by rcases hk with h | h; exact HFB.out k h; exact Nat.le_trans HBz.out.size h.1) (Nat.le_trans HBz.out.size hb.size)⟩
            go_wp2_with fail
            refine (HOPN.out _ (Below.refl _ _)).mono ?_
            rintro e wb ⟨rfl, hbb⟩
            have HQb := Lib.hid ((HBz.out.trans (HBR.out.mono HBz.out.size)).trans hbb)
            clear hbb
            go_wp2_with fail
            refine (known2_any _).mono ?_
            rintro e wd ⟨rfl, hbd⟩
            have HQd := Lib.hid (HQb.out.trans (hbd.mono HQb.out.size))
            clear hbd
            go_wp2_with fail
            go_ret
            exact ⟨rfl, HQd.out⟩
end Go.Proofs.Ytkmbgbbmhpidkaa
