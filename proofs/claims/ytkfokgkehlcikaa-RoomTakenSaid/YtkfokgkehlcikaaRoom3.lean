/-
  Whether nodes are such: by the document.
-/
import Derived.Test.YtkfokgkehlcikaaRoom2
import Derived.Lib.Strings
namespace Go.Proofs.Ytkfokgkehlcikaa
open Go.RowKit
set_option linter.unusedVariables false
set_option linter.unusedSimpArgs false

/-- The first k nodes are such. -/
structure RoomUp (l : List Nd) (many : Int) (k : Nat) : Prop where
  node : ∀ j, j < k → NodeOk (l.getD j default).name (l.getD j default).size (l.getD j default).pl
  rng : ∀ j i, j < k → i < (l.getD j default).pl.length → 40 ≤ (l.getD j default).pl.getD i 0 ∧ (l.getD j default).pl.getD i 0 < many ∧ ¬ hasL l ((l.getD j default).pl.getD i 0) j
  names : ∀ j i, i < j → j < k → (l.getD i default).name ≠ (l.getD j default).name
structure RoomOk (l : List Nd) (many : Int) : Prop where
  len : l.length ≤ 40
  m0 : 0 ≤ many
  m1 : many ≤ 2000
  all : RoomUp l many l.length
theorem RoomUp.less {l : List Nd} {many : Int} {k k' : Nat} (h : RoomUp l many k) (hk : k' ≤ k) : RoomUp l many k' :=
  ⟨fun j hj => h.node j (by omega), fun j i hj => h.rng j i (by omega), fun j i hi hj => h.names j i hi (by omega)⟩
theorem RdN.cut {w : World} {B : Nat} {A : Option Addr} {c : Nat} {l : List Nd} (h : RdN w B A c l) (k : Nat) (hk : k ≤ l.length) : RdN w B A c (l.take k) := by
  have e : ∀ j, j < k → (l.take k).getD j default = l.getD j default := fun j hj => by simp [List.getD, hj]
  have hl : (l.take k).length = k := by simp [hk]
  refine ⟨by rw [hl]; have := h.1; omega, h.2.1, fun j hj => ?_, fun hn => ?_⟩
  · rw [hl] at hj
    rw [e j hj]
    exact h.2.2.1 j (by omega)
  · rw [hl] at hn
    obtain ⟨b, off, e2, hb, hc⟩ := h.2.2.2 (by omega)
    refine ⟨b, off, e2, hb, fun j hj => ?_⟩
    rw [hl] at hj
    rw [e j hj]
    exact hc j (by omega)
theorem hasL_take {l : List Nd} {x : Int} {k : Nat} (hk : k ≤ l.length) : hasL (l.take k) x k ↔ hasL l x k := by
  have e : ∀ j, j < k → (l.take k).getD j default = l.getD j default := fun j hj => by simp [List.getD, hj]
  have hl : (l.take k).length = k := by simp [hk]
  constructor
  · rintro ⟨j, i, h1, h2, h3, h4⟩
    rw [e j h1] at h3 h4
    exact ⟨j, i, h1, by omega, h3, h4⟩
  · rintro ⟨j, i, h1, h2, h3, h4⟩
    exact ⟨j, i, h1, by omega, by rw [e j h1]; exact h3, by rw [e j h1]; exact h4⟩

def RelIs (l : List Nd) (many : Int) (w : World) (n : Nat) (i : Value) (wr : World) : Prop :=
  ∃ k : Nat, k ≤ n ∧ i = .int .i64 k ∧ RoomUp l many k ∧ Below w.heap.size w wr
def RelIs2 (l : List Nd) (many : Int) (w : World) (k m : Nat) (i : Value) (wr : World) : Prop :=
  ∃ j : Nat, j ≤ m ∧ i = .int .i64 j ∧ (∀ i, i < j → 40 ≤ (l.getD k default).pl.getD i 0 ∧ (l.getD k default).pl.getD i 0 < many ∧ ¬ hasL l ((l.getD k default).pl.getD i 0) k) ∧ Below w.heap.size w wr
set_option maxRecDepth 100000 in
set_option maxHeartbeats 4000000 in
theorem room'_any (w : World) (A : Option Addr) (c n : Nat) (l : List Nd) (hn : l.length = n) (hr : RdN w w.heap.size A c l) (hs : ∀ j, j < n → (l.getD j default).name.size ≤ 9223372036854775807 ∧ (l.getD j default).size ≤ 9223372036854775807) (many : Int) (v : Bool) (hv : v = true ↔ RoomOk l many) :
    Calls Try.prog 19 #[.slice A n c, .int .i64 many] w fun e w' => e = .returned (.bool v) ∧ Below w.heap.size w w' := by
  have HV := Lib.hid hv
  have HN := Lib.hid hn
  have HS := Lib.hid hs
  have HR : Hid (∀ W, Below w.heap.size w W → RdN W w.heap.size A c l) := Lib.hid fun W hW => hr.under hW
  have hlc : n ≤ c := by have := hr.1; omega
  have hc63 := hr.2.1
  clear hv hn hr hs
  by_cases h1 : 40 < n
  case pos =>
    have d1 : decide ((40 : Int) < (n : Int)) = true := decide_eq_true (by omega)
    have HF : Hid (v = false) := Lib.hid (not_true fun e => by have := (HV.out.1 e).len; have := HN.out; omega)
    go_enter Try.func19, Try.ntmps19
    go_wp2_with fail
    go_ret
    exact ⟨by rw [HF.out]; rfl, Below.refl _ _⟩
  have d1 : decide ((40 : Int) < (n : Int)) = false := decide_eq_false (by omega)
  by_cases h2 : many < 0
  case pos =>
    have d2 : decide (many < 0) = true := decide_eq_true h2
    have HF : Hid (v = false) := Lib.hid (not_true fun e => by have := (HV.out.1 e).m0; omega)
    go_enter Try.func19, Try.ntmps19
    go_wp2_with fail
    go_ret
    exact ⟨by rw [HF.out]; rfl, Below.refl _ _⟩
  have d2 : decide (many < 0) = false := decide_eq_false h2
  by_cases h3 : 2000 < many
  case pos =>
    have d3 : decide (2000 < many) = true := decide_eq_true h3
    have HF : Hid (v = false) := Lib.hid (not_true fun e => by have := (HV.out.1 e).m1; omega)
    go_enter Try.func19, Try.ntmps19
    go_wp2_with fail
    go_ret
    exact ⟨by rw [HF.out]; rfl, Below.refl _ _⟩
  have d3 : decide (2000 < many) = false := decide_eq_false h3
  have HO : Hid (RoomUp l many n → v = true) := Lib.hid fun h => HV.out.2 ⟨by rw [HN.out]; omega, by omega, by omega, by rw [HN.out]; exact h⟩
  have HUP : Hid (∀ k, k ≤ n → v = true → RoomUp l many k) := Lib.hid fun k hk e => (HV.out.1 e).all.less (by rw [HN.out]; exact hk)
  go_enter Try.func19, Try.ntmps19
  go_wp2_with fail
  go_loopw [5] (fun i wr => RelIs l many w n i wr) (fun i _ => n - (intOf i).toNat)
  case atStart => exact ⟨0, Nat.zero_le _, rfl, ⟨fun j hj => by omega, fun j i hj => by omega, fun j i hi hj => by omega⟩, Below.refl _ _⟩
  case round =>
    obtain ⟨k, hk, rfl, hu, hq⟩ := hrel
    obtain ⟨V, hV⟩ : ∃ V, V = wr := ⟨_, rfl⟩
    subst hV
    have HU := Lib.hid hu
    have HQ := Lib.hid hq
    clear hu hq d1 d2 d3
    by_cases hkn : k < n
    case pos =>
      have hkI : (k : Int) < (n : Int) := by omega
      have hk0 : (0 : Int) ≤ (k : Int) := by omega
      obtain ⟨b, off, rfl, hb, _⟩ := (HR.out w (Below.refl _ _)).2.2.2 (by rw [HN.out]; omega)
      have HCS : Hid (∀ W, Below w.heap.size w W → ∀ j, j < n → W.cell? ⟨b, off + j * 3, none⟩ = some (.string (l.getD j default).name) ∧ W.cell? ⟨b, off + j * 3 + 1, none⟩ = some (.int .i64 (l.getD j default).size) ∧ W.cell? ⟨b, off + j * 3 + 2, none⟩ = some (.slice (l.getD j default).pa (l.getD j default).pl.length (l.getD j default).pc)) := Lib.hid fun W hW j hj => by
        obtain ⟨b', off', e, _, h⟩ := (HR.out W hW).2.2.2 (by rw [HN.out]; omega)
        injection e with e
        injection e with e1 e2
        subst e1 e2
        exact h j (by rw [HN.out]; exact hj)
      have HRI : Hid (∀ W, Below w.heap.size w W → RdI .i64 W w.heap.size (l.getD k default).pa (l.getD k default).pc (l.getD k default).pl) := Lib.hid fun W hW => (HR.out W hW).2.2.1 k (by rw [HN.out]; exact hkn)
      obtain ⟨q0, q1, q2⟩ := HCS.out V HQ.out k hkn
      obtain ⟨hs1, hs2⟩ := HS.out k hkn
      have HC2 : Hid (∀ W, Below w.heap.size w W → W.cell? ⟨b, off + k * 3 + 2, none⟩ = some (.slice (l.getD k default).pa (l.getD k default).pl.length (l.getD k default).pc)) := Lib.hid fun W hW => (HCS.out W hW k hkn).2.2
      have HC0 : Hid (∀ W, Below w.heap.size w W → W.cell? ⟨b, off + k * 3, none⟩ = some (.string (l.getD k default).name)) := Lib.hid fun W hW => (HCS.out W hW k hkn).1
      have HBAD : Hid (∀ j, j < (l.getD k default).pl.length → ¬ (40 ≤ (l.getD k default).pl.getD j 0 ∧ (l.getD k default).pl.getD j 0 < many ∧ ¬ hasL l ((l.getD k default).pl.getD j 0) k) → v = false) := Lib.hid fun j hj h => not_true fun e => h ((HUP.out (k + 1) (by omega) e).rng k j (by omega) hj)
      have HNM : Hid (∀ j, j < k → (l.getD j default).name = (l.getD k default).name → v = false) := Lib.hid fun j hj h => not_true fun e => (HUP.out (k + 1) (by omega) e).names k j hj (by omega) h
      have HNX : Hid (NodeOk (l.getD k default).name (l.getD k default).size (l.getD k default).pl → (∀ i, i < (l.getD k default).pl.length → 40 ≤ (l.getD k default).pl.getD i 0 ∧ (l.getD k default).pl.getD i 0 < many ∧ ¬ hasL l ((l.getD k default).pl.getD i 0) k) → (∀ j, j < k → (l.getD j default).name ≠ (l.getD k default).name) → RoomUp l many (k + 1)) := Lib.hid fun h1 h2 h3 =>
        ⟨fun j hj => by
          rcases Nat.lt_or_ge j k with h5 | h5
          · exact HU.out.node j h5
          · obtain rfl : j = k := by omega
            exact h1, fun j i hj => by
          rcases Nat.lt_or_ge j k with h5 | h5
          · exact HU.out.rng j i h5
          · obtain rfl : j = k := by omega
            exact h2 i, fun j i hi hj => by
          rcases Nat.lt_or_ge j k with h5 | h5
          · exact HU.out.names j i hi h5
          · obtain rfl : j = k := by omega
            exact h3 i hi⟩
      have HND : Hid (v = true → NodeOk (l.getD k default).name (l.getD k default).size (l.getD k default).pl) := Lib.hid fun e => (HUP.out (k + 1) (by omega) e).node k (by omega)
      generalize l.getD k default = d at *
      obtain ⟨dn, dz, pa, pc, pl⟩ := d
      simp only at q0 q1 q2 hs1 hs2 HRI HC2 HC0 HBAD HNM HNX HND
      obtain ⟨m, hm⟩ : ∃ m, pl.length = m := ⟨_, rfl⟩
      have HM := Lib.hid hm
      rw [hm] at q2 HC2 HBAD HNX
      have hri := HRI.out V HQ.out
      have hmc : m ≤ pc := by have := hri.1; omega
      have hpc := hri.2.1
      clear hri hm
      by_cases hok : NodeOk dn dz pl
      case neg =>
        have HF : Hid (v = false) := Lib.hid (not_true fun e => hok (HND.out e))
        have HC := Lib.hid (is'_any V dn hs1 dz hs2 w.heap.size pa pc m pl HM.out (HRI.out V HQ.out) HQ.out.size false ⟨(fun e => by cases e), fun e => absurd e hok⟩)
        clear hok
        go_wp2_with fail
        refine HC.out.mono ?_
        rintro e w2 ⟨rfl, hb2⟩
        have HQ2 := Lib.hid (HQ.out.trans (hb2.mono HQ.out.size))
        clear hb2 HC
        go_wp2_with fail
        go_ret
        exact ⟨by rw [HF.out]; rfl, HQ2.out⟩
      case pos =>
      have HC := Lib.hid (is'_any V dn hs1 dz hs2 w.heap.size pa pc m pl HM.out (HRI.out V HQ.out) HQ.out.size true ⟨fun _ => hok, fun _ => rfl⟩)
      have HOK := Lib.hid hok
      clear hok
      go_wp2_with fail
      refine HC.out.mono ?_
      rintro e w2 ⟨rfl, hb2⟩
      have HQ2 := Lib.hid (HQ.out.trans (hb2.mono HQ.out.size))
      clear hb2 HC q0 q1 q2
      go_wp2_with fail
      go_loopw [6] (fun i wr => ∃ j : Nat, j ≤ m ∧ i = .int .i64 j ∧ Hid (∀ i, i < j → 40 ≤ pl.getD i 0 ∧ pl.getD i 0 < many ∧ ¬ hasL l (pl.getD i 0) k) ∧ Hid (Below w.heap.size w wr)) (fun i _ => m - (intOf i).toNat)
      case atStart => exact ⟨0, Nat.zero_le _, rfl, Lib.hid (fun i hi => by omega), HQ2⟩
      case round =>
        obtain ⟨j, hj, rfl, HJ, HW⟩ := hrel
        obtain ⟨W, hW⟩ : ∃ W, W = wr := ⟨_, rfl⟩
        subst hW
        have q2 := HC2.out W HW.out
        by_cases hjm : j < m
        case pos =>
          have hjI : (j : Int) < (m : Int) := by omega
          have hj0 : (0 : Int) ≤ (j : Int) := by omega
          obtain ⟨b2, off2, y, rfl, hb2, hy, Hy⟩ := (HRI.out W HW.out).at_ (i := j) (by rw [HM.out]; exact hjm)
          have hval : pl.getD j 0 = y := Hy.out.symm
          have HVAL := Lib.hid hval
          clear hval
          by_cases y1 : y < 40
          case pos =>
            have e1 : decide (y < 40) = true := decide_eq_true y1
            have HF : Hid (v = false) := Lib.hid (HBAD.out j hjm fun h => by have := h.1; rw [HVAL.out] at this; omega)
            go_wp2_with fail
            go_big_quiet (fail)
            go_wp2_with fail
            go_ret
            exact ⟨by rw [HF.out]; rfl, below_drewN HW.out _⟩
          have e1 : decide (y < 40) = false := decide_eq_false y1
          by_cases y2 : many ≤ y
          case pos =>
            have e2 : decide (many ≤ y) = true := decide_eq_true y2
            have HF : Hid (v = false) := Lib.hid (HBAD.out j hjm fun h => by have := h.2.1; rw [HVAL.out] at this; omega)
            go_wp2_with fail
            go_big_quiet (fail)
            go_wp2_with fail
            go_ret
            exact ⟨by rw [HF.out]; rfl, below_drewN HW.out _⟩
          have e2 : decide (many ≤ y) = false := decide_eq_false y2
          have hlen : (l.take k).length = k := by simp; have := HN.out; omega
          by_cases hh : hasL l y k
          case pos =>
            have HC := Lib.hid (fun q => has_any (W.drewN q) w.heap.size (some ⟨b, off, none⟩) c k (l.take k) hlen ((HR.out _ (below_drewN HW.out q)).cut k (by have := HN.out; omega)) y true ⟨fun _ => (hasL_take (by have := HN.out; omega)).2 hh, fun _ => rfl⟩)
            have HF : Hid (v = false) := Lib.hid (HBAD.out j hjm fun h => by have := h.2.2; rw [HVAL.out] at this; exact this hh)
            clear hh hlen
            go_wp2_with fail
            go_big_quiet ((go_at_call 35; exact (HC.out _).mono fun _ _ hh => ⟨hh.1, _, hh.2.symm⟩))
            go_wp2_with fail
            go_ret
            exact ⟨by rw [HF.out]; rfl, below_drewN HW.out _⟩
          case neg =>
            have HC := Lib.hid (fun q => has_any (W.drewN q) w.heap.size (some ⟨b, off, none⟩) c k (l.take k) hlen ((HR.out _ (below_drewN HW.out q)).cut k (by have := HN.out; omega)) y false ⟨(fun e => by cases e), fun e => absurd ((hasL_take (by have := HN.out; omega)).1 e) hh⟩)
            have HJ2 : Hid (∀ i, i < j + 1 → 40 ≤ pl.getD i 0 ∧ pl.getD i 0 < many ∧ ¬ hasL l (pl.getD i 0) k) := Lib.hid fun i hi => by
              rcases Nat.lt_or_ge i j with h5 | h5
              · exact HJ.out i h5
              · obtain rfl : i = j := by omega
                rw [HVAL.out]
                exact ⟨by omega, by omega, hh⟩
            clear hh hlen
            go_wp2_with fail
            go_big_quiet ((go_at_call 35; exact (HC.out _).mono fun _ _ hh => ⟨hh.1, _, hh.2.symm⟩))
            go_wp2_with fail
            go_roundw
            case rel => exact ⟨j + 1, by omega, by go_num, HJ2, Lib.hid (below_drewN HW.out _)⟩
            case measure => simp [intOf]; omega
        case neg =>
          obtain rfl : j = m := by omega
          have hjI : ¬ ((j : Int) < (j : Int)) := by omega
          go_wp2_with fail
          go_loopw [7] (fun i wr => ∃ t : Nat, t ≤ k ∧ i = .int .i64 t ∧ Hid (∀ i, i < t → (l.getD i default).name ≠ dn) ∧ Hid (Below w.heap.size w wr)) (fun i _ => k - (intOf i).toNat)
          case atStart => exact ⟨0, Nat.zero_le _, rfl, Lib.hid (fun i hi => by omega), HW⟩
          case round =>
            obtain ⟨t, ht, rfl, HT2, HX⟩ := hrel
            obtain ⟨X, hX⟩ : ∃ X, X = wr := ⟨_, rfl⟩
            subst hX
            by_cases htk : t < k
            case pos =>
              have htI : (t : Int) < (k : Int) := by omega
              have ht0 : (0 : Int) ≤ (t : Int) := by omega
              have htn : (t : Int) < (n : Int) := by omega
              have z0 := HC0.out X HX.out
              have z1 := (HCS.out X HX.out t (by omega)).1
              have HNT : Hid ((l.getD t default).name = dn → v = false) := Lib.hid (HNM.out t htk)
              have HT3 : Hid ((l.getD t default).name ≠ dn → ∀ i, i < t + 1 → (l.getD i default).name ≠ dn) := Lib.hid fun hne i hi => by
                rcases Nat.lt_or_ge i t with h5 | h5
                · exact HT2.out i h5
                · obtain rfl : i = t := by omega
                  exact hne
              generalize (l.getD t default).name = tn at z1 HNT HT3
              by_cases htd : tn = dn
              case pos =>
                have HF : Hid (v = false) := Lib.hid (HNT.out htd)
                have hB : (tn.toList == dn.toList) = true := by rw [htd, beq_iff_eq]
                clear htd
                go_wp2_with fail
                go_quiet (fail)
                go_wp2_with fail
                go_ret
                exact ⟨by rw [HF.out]; rfl, below_drewN HX.out _⟩
              case neg =>
                have HT4 := Lib.hid (HT3.out htd)
                have hB : (tn.toList == dn.toList) = false := by
                  rw [beq_eq_false_iff_ne]
                  intro e
                  rw [Lib.toList_data, Lib.toList_data] at e
                  exact htd (ByteArray.ext (Array.ext' e))
                clear htd
                go_wp2_with fail
                go_quiet (fail)
                go_wp2_with fail
                go_roundw
                case rel => exact ⟨t + 1, by omega, by go_num, HT4, Lib.hid (below_drewN HX.out _)⟩
                case measure => simp [intOf]; omega
            case neg =>
              obtain rfl : t = k := by omega
              have htI : ¬ ((t : Int) < (t : Int)) := by omega
              have HUN := Lib.hid (HNX.out HOK.out HJ.out HT2.out)
              go_wp2_with fail
              go_roundw
              case rel => exact ⟨t + 1, by omega, by go_num, HUN.out, HX.out⟩
              case measure => simp [intOf]; omega
    case neg =>
      obtain rfl : k = n := by omega
      have hkI : ¬ ((k : Int) < (k : Int)) := by omega
      have HT : Hid (v = true) := Lib.hid (HO.out HU.out)
      go_wp2_with fail
      go_ret
      exact ⟨by rw [HT.out]; rfl, HQ.out⟩
end Go.Proofs.Ytkfokgkehlcikaa
