/-
  Whether nodes are such: by the program.
-/
import Derived.Test.YtkfokgkehlcikaaRoom7
namespace Go.Proofs.Ytkfokgkehlcikaa
open Go.RowKit Go.WideMaps Go.Maps
set_option linter.unusedVariables false
set_option linter.unusedSimpArgs false

/-- What the outer loop holds to. -/
def RelP (l : List Nd) (many : Int) (m : Nat) (w : World) (n : Nat) (i : Value) (wr : World) : Prop :=
  ∃ (k : Nat) (f : Nat → Bool), k ≤ n ∧ i = .int .i64 k ∧ Hid (RoomUp l many k) ∧ Hid (MapTo wr w.heap.size k (namesOf l k)) ∧ Hid (Holds wr (w.heap.size + 1) 4 (bits m f)) ∧ Hid (∀ x : Nat, f x = true ↔ hasL l (x : Int) k) ∧ Hid (Below w.heap.size w wr)
/-- What the inner loop holds to. -/
def RelQ (l : List Nd) (many : Int) (m : Nat) (w : World) (k p : Nat) (pl : List Int) (ls : List (List UInt8)) (i : Value) (wr : World) : Prop :=
  ∃ (j : Nat) (f : Nat → Bool), j ≤ p ∧ i = .int .i64 j ∧ Hid (∀ i, i < j → 40 ≤ pl.getD i 0 ∧ pl.getD i 0 < many ∧ ¬ hasL l (pl.getD i 0) k) ∧ Hid (MapTo wr w.heap.size (k + 1) ls) ∧ Hid (Holds wr (w.heap.size + 1) 4 (bits m f)) ∧ Hid (∀ x : Nat, f x = true ↔ hasL l (x : Int) k ∨ ∃ i, i < j ∧ pl.getD i 0 = (x : Int)) ∧ Hid (Below w.heap.size w wr)
theorem hasL_next {l : List Nd} {k : Nat} (hk : k < l.length) {x : Int} : hasL l x (k + 1) ↔ hasL l x k ∨ ∃ i, i < (l.getD k default).pl.length ∧ (l.getD k default).pl.getD i 0 = x := by
  constructor
  · rintro ⟨j, i, h1, h2, h3, h4⟩
    rcases Nat.lt_or_ge j k with h5 | h5
    · exact .inl ⟨j, i, h5, h2, h3, h4⟩
    · obtain rfl : j = k := by omega
      exact .inr ⟨i, h3, h4⟩
  · rintro (⟨j, i, h1, h2, h3, h4⟩ | ⟨i, h3, h4⟩)
    · exact ⟨j, i, by omega, h2, h3, h4⟩
    · exact ⟨k, i, by omega, hk, h3, h4⟩

set_option maxRecDepth 100000 in
set_option maxHeartbeats 4000000 in
theorem room_any (w : World) (A : Option Addr) (c n : Nat) (l : List Nd) (hn : l.length = n) (hr : RdN w w.heap.size A c l) (hs : ∀ j, j < n → (l.getD j default).name.size ≤ 9223372036854775807 ∧ (l.getD j default).size ≤ 9223372036854775807) (many : Int) (v : Bool) (hv : v = true ↔ RoomOk l many) :
    Calls Try.prog 20 #[.slice A n c, .int .i64 many] w fun e w' => e = .returned (.bool v) ∧ Below w.heap.size w w' := by
  have HV := Lib.hid hv
  have HN := Lib.hid hn
  have HS := Lib.hid hs
  have HR : Hid (∀ W, Below w.heap.size w W → RdN W w.heap.size A c l) := Lib.hid fun W hW => hr.under hW
  have hlc : n ≤ c := by have := hr.1; omega
  have hc63 := hr.2.1
  clear hv hn hr hs
  by_cases h2 : many < 0
  case pos =>
    have d2 : decide (many < 0) = true := decide_eq_true h2
    have HF : Hid (v = false) := Lib.hid (not_true fun e => by have := (HV.out.1 e).m0; omega)
    go_enter Try.func20, Try.ntmps20
    go_wp2_with fail
    go_ret
    exact ⟨by rw [HF.out]; rfl, Below.refl _ _⟩
  have d2 : decide (many < 0) = false := decide_eq_false h2
  by_cases h3 : 2000 < many
  case pos =>
    have d3 : decide (2000 < many) = true := decide_eq_true h3
    have HF : Hid (v = false) := Lib.hid (not_true fun e => by have := (HV.out.1 e).m1; omega)
    go_enter Try.func20, Try.ntmps20
    go_wp2_with fail
    go_ret
    exact ⟨by rw [HF.out]; rfl, Below.refl _ _⟩
  have d3 : decide (2000 < many) = false := decide_eq_false h3
  by_cases h1 : 40 < n
  case pos =>
    have d1 : decide ((40 : Int) < (n : Int)) = true := decide_eq_true (by omega)
    have HF : Hid (v = false) := Lib.hid (not_true fun e => by have := (HV.out.1 e).len; have := HN.out; omega)
    go_enter Try.func20, Try.ntmps20
    go_wp2_with fail
    go_ret
    exact ⟨by rw [HF.out]; rfl, Below.refl _ _⟩
  have d1 : decide ((40 : Int) < (n : Int)) = false := decide_eq_false (by omega)
  obtain ⟨m, rfl⟩ : ∃ m : Nat, many = (m : Int) := ⟨many.toNat, by omega⟩
  have hm2 : m ≤ 2000 := by omega
  have HO : Hid (RoomUp l (m : Int) n → v = true) := Lib.hid fun h => HV.out.2 ⟨by rw [HN.out]; omega, by omega, by omega, by rw [HN.out]; exact h⟩
  have HUP : Hid (∀ k, k ≤ n → v = true → RoomUp l (m : Int) k) := Lib.hid fun k hk e => (HV.out.1 e).all.less (by rw [HN.out]; exact hk)
  have hmm := @run_makeMap Try.prog
  have hmb := make_bits m hm2
  have hmap := Lib.hid (mapTo_keep (w' := (w.alloc (.map #[] 0)).alloc (.cells (bits m fun _ => false) 4)) (mapTo_made w) (Below.heap_alloc _ _ _ (by simp)))
  have hbit : Hid (Holds ((w.alloc (.map #[] 0)).alloc (.cells (bits m fun _ => false) 4)) (w.heap.size + 1) 4 (bits m fun _ => false)) := Lib.hid (by
    have := Holds.fresh (w.alloc (.map #[] 0)) 4 (bits m fun _ => false)
    rwa [World.size_alloc] at this)
  have hbel : Hid (Below w.heap.size w ((w.alloc (.map #[] 0)).alloc (.cells (bits m fun _ => false) 4))) := Lib.hid (((Below.refl _ _).alloc (Nat.le_refl _) _).alloc (by simp) _)
  go_enter Try.func20, Try.ntmps20
  go_wp2_with fail
  have e1 : (w.alloc (.map #[] 0)).heap.size = w.heap.size + 1 := World.size_alloc _ _
  try rw [e1]
  generalize (w.alloc (.map #[] 0)).alloc (.cells (bits m fun _ => false) 4) = W at *
  clear hmm hmb e1
  go_loopw [27] (fun i wr => RelP l (m : Int) m w n i wr) (fun i _ => n - (intOf i).toNat)
  case atStart => exact ⟨0, _, Nat.zero_le _, rfl, Lib.hid ⟨fun j hj => by omega, fun j i hj => by omega, fun j i hi hj => by omega⟩, hmap, hbit, Lib.hid (fun x => ⟨(fun e => by cases e), fun ⟨j, i, h, _⟩ => by omega⟩), hbel⟩
  case round =>
    clear hmap hbit hbel
    obtain ⟨k, f, hk, rfl, HU, HM, HB, HF, HQ⟩ := hrel
    obtain ⟨V, hV⟩ : ∃ V, V = wr := ⟨_, rfl⟩
    subst hV
    clear d1 d2 d3
    by_cases hkn : k < n
    case pos =>
      have hkI : (k : Int) < (n : Int) := by omega
      have hk0 : (0 : Int) ≤ (k : Int) := by omega
      have hkl : k < l.length := by rw [HN.out]; exact hkn
      obtain ⟨b, off, rfl, hb, hcs⟩ := (HR.out V HQ.out).2.2.2 (by omega)
      obtain ⟨q0, q1, q2⟩ := hcs k hkl
      obtain ⟨hs1, hs2⟩ := HS.out k hkn
      have HRI : Hid (∀ W, Below w.heap.size w W → RdI .i64 W w.heap.size (l.getD k default).pa (l.getD k default).pc (l.getD k default).pl) := Lib.hid fun W hW => (HR.out W hW).2.2.1 k hkl
      have HHN : Hid (∀ x : Int, hasL l x (k + 1) ↔ hasL l x k ∨ ∃ i, i < (l.getD k default).pl.length ∧ (l.getD k default).pl.getD i 0 = x) := Lib.hid fun x => hasL_next hkl
      have HNS : Hid (namesOf l (k + 1) = namesOf l k ++ [(l.getD k default).name.data.toList]) := Lib.hid (namesOf_succ hkl)
      have HMN : Hid ((l.getD k default).name.data.toList ∈ namesOf l k ↔ ∃ j, j < k ∧ (l.getD j default).name = (l.getD k default).name) := Lib.hid (mem_namesOf (by omega))
      have HBAD : Hid (∀ j, j < (l.getD k default).pl.length → ¬ (40 ≤ (l.getD k default).pl.getD j 0 ∧ (l.getD k default).pl.getD j 0 < (m : Int) ∧ ¬ hasL l ((l.getD k default).pl.getD j 0) k) → v = false) := Lib.hid fun j hj h => not_true fun e => h ((HUP.out (k + 1) (by omega) e).rng k j (by omega) hj)
      have HNM : Hid ((l.getD k default).name.data.toList ∈ namesOf l k → v = false) := Lib.hid fun h => not_true fun e => by
        obtain ⟨j, hj, e2⟩ := HMN.out.1 h
        exact (HUP.out (k + 1) (by omega) e).names k j hj (by omega) e2
      have HNX : Hid (NodeOk (l.getD k default).name (l.getD k default).size (l.getD k default).pl → (∀ i, i < (l.getD k default).pl.length → 40 ≤ (l.getD k default).pl.getD i 0 ∧ (l.getD k default).pl.getD i 0 < (m : Int) ∧ ¬ hasL l ((l.getD k default).pl.getD i 0) k) → ¬ (l.getD k default).name.data.toList ∈ namesOf l k → RoomUp l (m : Int) (k + 1)) := Lib.hid fun h1 h2 h3 =>
        ⟨fun j hj => by
          rcases Nat.lt_or_ge j k with h5 | h5
          · exact HU.out.node j h5
          · obtain rfl : j = k := by omega
            exact h1, fun j i hj => by
          rcases Nat.lt_or_ge j k with h5 | h5
          · exact HU.out.rng j i h5
          · obtain rfl : j = k := by omega
            exact h2 i, fun j i hi hj => by
          rcases Nat.lt_or_ge j k with h5 | h5
          · exact HU.out.names j i hi h5
          · obtain rfl : j = k := by omega
            exact fun e => h3 (HMN.out.2 ⟨i, hi, e⟩)⟩
      have HND : Hid (v = true → NodeOk (l.getD k default).name (l.getD k default).size (l.getD k default).pl) := Lib.hid fun e => (HUP.out (k + 1) (by omega) e).node k (by omega)
      clear hcs HMN
      generalize l.getD k default = d at *
      obtain ⟨dn, dz, pa, pc, pl⟩ := d
      simp only at q0 q1 q2 hs1 hs2 HRI HHN HNS HBAD HNM HNX HND
      obtain ⟨p, hp⟩ : ∃ p, pl.length = p := ⟨_, rfl⟩
      have HPL := Lib.hid hp
      rw [hp] at q2 HBAD HNX HHN
      have hri := HRI.out V HQ.out
      have hpc1 : p ≤ pc := by have := hri.1; omega
      have hpc := hri.2.1
      clear hri hp
      have hVA : Hid (Below w.heap.size w (V.alloc (.cells #[.string dn, .int .i64 dz, .slice pa p pc] 25))) := Lib.hid (HQ.out.alloc HQ.out.size _)
      have hMA : Hid (MapTo (V.alloc (.cells #[.string dn, .int .i64 dz, .slice pa p pc] 25)) w.heap.size k (namesOf l k)) := Lib.hid (mapTo_keep HM.out (Below.heap_alloc _ _ _ (mapTo_lt HM.out)))
      have hBA : Hid (Holds (V.alloc (.cells #[.string dn, .int .i64 dz, .slice pa p pc] 25)) (w.heap.size + 1) 4 (bits m f)) := Lib.hid (HB.out.alloc _)
      have hNA : Hid (Holds (V.alloc (.cells #[.string dn, .int .i64 dz, .slice pa p pc] 25)) V.heap.size 25 #[.string dn, .int .i64 dz, .slice pa p pc]) := Lib.hid (Holds.fresh _ _ _)
      clear HM HB
      by_cases hok : NodeOk dn dz pl
      case neg =>
        have HFA : Hid (v = false) := Lib.hid (not_true fun e => hok (HND.out e))
        have HC : Hid (∀ W, Below w.heap.size w W → Calls Try.prog 15 #[.agg #[.string dn, .int .i64 dz, .slice pa p pc]] W fun e w' => e = .returned (.bool false) ∧ Below W.heap.size W w') := Lib.hid fun W hW => is_any W dn hs1 dz hs2 w.heap.size pa pc p pl HPL.out (HRI.out W hW) hW.size false ⟨(fun e => by cases e), fun e => absurd e hok⟩
        clear hok
        go_wp2_with fail
        refine (HC.out _ hVA.out).mono ?_
        rintro e w2 ⟨rfl, hb2⟩
        have HQ2 := Lib.hid (hVA.out.trans (hb2.mono hVA.out.size))
        clear hb2 HC hMA hBA hNA
        go_wp2_with fail
        go_ret
        exact ⟨by rw [HFA.out]; rfl, HQ2.out⟩
      case pos =>
      have HC : Hid (∀ W, Below w.heap.size w W → Calls Try.prog 15 #[.agg #[.string dn, .int .i64 dz, .slice pa p pc]] W fun e w' => e = .returned (.bool true) ∧ Below W.heap.size W w') := Lib.hid fun W hW => is_any W dn hs1 dz hs2 w.heap.size pa pc p pl HPL.out (HRI.out W hW) hW.size true ⟨fun _ => hok, fun _ => rfl⟩
      have HOK := Lib.hid hok
      clear hok
      go_wp2_with fail
      refine (HC.out _ hVA.out).mono ?_
      rintro e w2 ⟨rfl, hb2⟩
      have HQ2 := Lib.hid (hVA.out.trans (hb2.mono hVA.out.size))
      have hlt1 : V.heap.size < (V.alloc (.cells #[.string dn, .int .i64 dz, .slice pa p pc] 25)).heap.size := by simp
      have hm2' : MapTo w2 w.heap.size k (namesOf l k) := mapTo_keep hMA.out (hb2.block _ (mapTo_lt hMA.out))
      have HB2 : Hid (Holds w2 (w.heap.size + 1) 4 (bits m f)) := Lib.hid (hBA.out.under hb2 hBA.out.lt)
      have hn2 : Holds w2 V.heap.size 25 #[.string dn, .int .i64 dz, .slice pa p pc] := hNA.out.under hb2 hlt1
      have hVne : V.heap.size ≠ w.heap.size := by
        have := mapTo_lt hMA.out
        intro e
        have h1 := hn2
        obtain ⟨D, ⟨es, clock, hw, _⟩, _⟩ := hm2'
        rw [e] at h1
        have h2 : w2.heap[w.heap.size]? = _ := h1
        rw [hw] at h2
        cases h2
      have z0 : w2.cell? ⟨V.heap.size, 0, none⟩ = some (.string dn) := hn2.cell 0
      have HN2 := Lib.hid hn2
      have hlk := mapTo_look hm2' dn hs1
      clear hb2 HC hMA hBA hNA hlt1 hn2 hVA q0 q1 q2
      by_cases hin : dn.data.toList ∈ namesOf l k
      case pos =>
        have HFA : Hid (v = false) := Lib.hid (HNM.out hin)
        rw [if_pos hin] at hlk
        clear hin hm2'
        go_wp2_with fail
        go_ret
        exact ⟨by rw [HFA.out]; rfl, HQ2.out⟩
      case neg =>
        rw [if_neg hin] at hlk
        have HIN := Lib.hid hin
        clear hin
        obtain ⟨D, hown, hat⟩ := hm2'
        have HAT := Lib.hid hat
        have hkey := keyOf_string_mk (P := Try.prog) Try.underlying9 (s := dn) (by unfold maxLen; omega)
        clear hat
        go_wp2_with (at_mapUpdate; refine wpList_mapUpdate_own _ rfl _ _ _ 60 rfl 9 3 law Try.underlying60 _ w.heap.size k _ rfl hown (by unfold maxLen; omega) _ _ _ rfl rfl hkey _ [] (plainElem_int Try.underlying3 (by decide)) ?_)
        intro w3 hown3 hgr3
        have HM3 : Hid (MapTo w3 w.heap.size (k + 1) (namesOf l (k + 1))) := Lib.hid (by rw [HNS.out]; exact mapTo_put (World.ownsMap.isMap hown) HAT.out hown3)
        have HQ3 := Lib.hid (HQ2.out.grown hgr3 HQ2.out.size (fun j hj => by cases hj; exact Nat.le_refl _))
        have HB3 : Hid (Holds w3 (w.heap.size + 1) 4 (bits m f)) := Lib.hid (HB2.out.grown hgr3 (by intro e; injection e; omega))
        have hn3 : Holds w3 V.heap.size 25 #[.string dn, .int .i64 dz, .slice pa p pc] := HN2.out.grown hgr3 (by intro e; injection e with e; exact hVne e)
        have z2 : w3.cell? ⟨V.heap.size, 2, none⟩ = some (.slice pa p pc) := hn3.cell 2
        clear hn3 hown hown3 hgr3 hlk HN2 HB2 z0 hkey hVne HAT
        go_wp2_with fail
        go_loopw [47] (fun i wr => RelQ l (m : Int) m w k p pl (namesOf l (k + 1)) i wr) (fun i _ => p - (intOf i).toNat)
        case atStart => exact ⟨0, f, Nat.zero_le _, rfl, Lib.hid (fun i hi => by omega), HM3, HB3, Lib.hid (fun x => by rw [HF.out]; exact ⟨.inl, fun h => h.elim id fun ⟨i, hi, _⟩ => by omega⟩), HQ3⟩
        case round =>
          clear HM3 HB3 HQ3 z2
          obtain ⟨j, g, hj, rfl, HJ, HM, HB, HG, HW⟩ := hrel
          obtain ⟨W, hW⟩ : ∃ W, W = wr := ⟨_, rfl⟩
          subst hW
          by_cases hjp : j < p
          case pos =>
            have hjI : (j : Int) < (p : Int) := by omega
            have hj0 : (0 : Int) ≤ (j : Int) := by omega
            obtain ⟨b2, off2, y, rfl, hb2, hy, Hy⟩ := (HRI.out W HW.out).at_ (i := j) (by rw [HPL.out]; exact hjp)
            have HVAL : Hid (pl.getD j 0 = y) := Lib.hid Hy.out.symm
            by_cases y1 : y < 40
            case pos =>
              have e1 : decide (y < 40) = true := decide_eq_true y1
              have HFA : Hid (v = false) := Lib.hid (HBAD.out j hjp fun h => by have := h.1; rw [HVAL.out] at this; omega)
              go_wp2_with fail
              go_ret
              exact ⟨by rw [HFA.out]; rfl, HW.out⟩
            have e1 : decide (y < 40) = false := decide_eq_false y1
            by_cases y2 : (m : Int) ≤ y
            case pos =>
              have e2 : decide ((m : Int) ≤ y) = true := decide_eq_true y2
              have HFA : Hid (v = false) := Lib.hid (HBAD.out j hjp fun h => by have := h.2.1; rw [HVAL.out] at this; omega)
              go_wp2_with fail
              go_ret
              exact ⟨by rw [HFA.out]; rfl, HW.out⟩
            have e2 : decide ((m : Int) ≤ y) = false := decide_eq_false y2
            obtain ⟨x, rfl⟩ : ∃ x : Nat, y = (x : Int) := ⟨y.toNat, by omega⟩
            have hx0 : (0 : Int) ≤ (x : Int) := by omega
            have hxm : x < m := by omega
            have hxI : (x : Int) < (m : Int) := by omega
            have hbc := (HB.out.cell x).trans (bits_at g hxm)
            have hbf := HB.out.open_ x
            rcases hgx : g x with _ | _
            case true =>
              have HFA : Hid (v = false) := Lib.hid (by
                rcases (HG.out x).1 hgx with h | ⟨i, hi, he⟩
                · exact HBAD.out j hjp fun h2 => h2.2.2 (by rw [HVAL.out]; exact h)
                · exact not_true fun e => (HND.out e).dist j i hi (by rw [HPL.out]; exact hjp) (by rw [he, HVAL.out]))
              rw [hgx] at hbc
              clear hgx
              go_wp2_with fail
              go_ret
              exact ⟨by rw [HFA.out]; rfl, HW.out⟩
            case false =>
              have HNO : Hid (¬ hasL l (x : Int) k) := Lib.hid fun h => by
                have := (HG.out x).2 (.inl h)
                rw [hgx] at this
                cases this
              rw [hgx] at hbc
              clear hgx
              have HJ2 : Hid (∀ i, i < j + 1 → 40 ≤ pl.getD i 0 ∧ pl.getD i 0 < (m : Int) ∧ ¬ hasL l (pl.getD i 0) k) := Lib.hid fun i hi => by
                rcases Nat.lt_or_ge i j with h5 | h5
                · exact HJ.out i h5
                · obtain rfl : i = j := by omega
                  rw [HVAL.out]
                  exact ⟨by omega, by omega, HNO.out⟩
              have HB4 : Hid (Holds (W.setCell ⟨w.heap.size + 1, x, none⟩ (.bool true)) (w.heap.size + 1) 4 (bits m fun z => z == x || g z)) := Lib.hid (by rw [← bits_set g hxm]; exact HB.out.stored x _)
              have HM4 : Hid (MapTo (W.setCell ⟨w.heap.size + 1, x, none⟩ (.bool true)) w.heap.size (k + 1) (namesOf l (k + 1))) := Lib.hid (mapTo_keep HM.out (Below.heap_setCell _ _ _ _ (by show w.heap.size ≠ w.heap.size + 1; omega)))
              have HW4 : Hid (Below w.heap.size w (W.setCell ⟨w.heap.size + 1, x, none⟩ (.bool true))) := Lib.hid (HW.out.setCell (p := ⟨w.heap.size + 1, x, none⟩) (by show w.heap.size ≤ w.heap.size + 1; omega) _)
              have HG4 : Hid (∀ z : Nat, (z == x || g z) = true ↔ hasL l (z : Int) k ∨ ∃ i, i < j + 1 ∧ pl.getD i 0 = (z : Int)) := Lib.hid fun z => by
                rw [Bool.or_eq_true, HG.out z, beq_iff_eq]
                constructor
                · rintro (rfl | h | ⟨i, hi, he⟩)
                  · exact .inr ⟨j, by omega, HVAL.out⟩
                  · exact .inl h
                  · exact .inr ⟨i, by omega, he⟩
                · rintro (h | ⟨i, hi, he⟩)
                  · exact .inr (.inl h)
                  · rcases Nat.lt_or_ge i j with h5 | h5
                    · exact .inr (.inr ⟨i, h5, he⟩)
                    · obtain rfl : i = j := by omega
                      rw [HVAL.out] at he
                      exact .inl (by omega)
              go_wp2_with fail
              go_roundw
              case rel => exact ⟨j + 1, _, by omega, by go_num, HJ2, HM4, HB4, HG4, HW4⟩
              case measure => simp [intOf]; omega
          case neg =>
            obtain rfl : j = p := by omega
            have hjI : ¬ ((j : Int) < (j : Int)) := by omega
            have HUN := Lib.hid (HNX.out HOK.out HJ.out HIN.out)
            have HGN : Hid (∀ x : Nat, g x = true ↔ hasL l (x : Int) (k + 1)) := Lib.hid fun x => by rw [HG.out, HHN.out]
            go_wp2_with fail
            go_roundw
            case rel => exact ⟨k + 1, g, by omega, by go_num, HUN, HM, HB, HGN, HW⟩
            case measure => simp [intOf]; omega
    case neg =>
      obtain rfl : k = n := by omega
      have hkI : ¬ ((k : Int) < (k : Int)) := by omega
      have HT : Hid (v = true) := Lib.hid (HO.out HU.out)
      go_wp2_with fail
      go_ret
      exact ⟨by rw [HT.out]; rfl, HQ.out⟩
end Go.Proofs.Ytkfokgkehlcikaa
