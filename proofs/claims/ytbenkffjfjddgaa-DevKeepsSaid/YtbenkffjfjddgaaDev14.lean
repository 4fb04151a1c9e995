/-
  It crashes ahead of just that operation.
-/
import Derived.Test.YtbenkffjfjddgaaDev13
namespace Go.Proofs.Ytbenkffjfjddgaa
open Go.RowKit
set_option linter.unusedVariables false
set_option linter.unusedSimpArgs false
attribute [local go_sem ↓] Go.wp_at_zero Go.wp_at_succ

/-- Behind so many writes, unarmed. -/
structure Wun (i : Nat) (s : Dk) : Prop where
  now : s.now.length = 2
  waits : s.waits.length = i
  armed : s.armed = false
  down : s.down = false
  ops : s.ops = i
/-- Behind so many more, armed. -/
structure Warm (were : Nat) (a : Int) (j : Nat) (s : Dk) : Prop where
  now : s.now.length = 2
  waits : s.waits.length ≤ were + j
  armed : s.armed = true
  at_ : s.at_ = a
  st : (s.down = false ∧ s.ops = were + j ∧ ∀ i : Nat, i < j → (were : Int) + i < a) ∨ (s.down = true ∧ (s.ops : Int) = max (were : Int) a ∧ a < (were : Int) + j ∧ 0 < j)
theorem Wun.next {i : Nat} {s : Dk} (h : Wun i s) {k : Nat} (hk : k < 2) {x : List Nat} (hx : x.length = 64) : s.write (k : Int) x = (s.wrote k x, 0) ∧ Wun (i + 1) (s.wrote k x) :=
  ⟨Dk.write_good h.down (by rw [h.now]; exact hk) hx (due_unarmed h.armed), ⟨by simp [Dk.wrote, h.now], by simp [Dk.wrote, h.waits], h.armed, h.down, by simp [Dk.wrote, h.ops]⟩⟩
theorem Wun.arm {i : Nat} {s : Dk} (h : Wun i s) (a : Int) : Warm i a 0 (s.arm a []) :=
  ⟨h.now, by show s.waits.length ≤ _; rw [h.waits]; exact Nat.le_refl _, rfl, rfl, .inl ⟨h.down, h.ops, fun i hi => by omega⟩⟩
theorem Warm.next {were : Nat} {a : Int} {j : Nat} {s : Dk} (h : Warm were a j s) {k : Nat} (hk : k < 2) {x : List Nat} (hx : x.length = 64) :
    ((a ≤ (were : Int) + j ∧ (s.write (k : Int) x).2 = 6) ∨ ((were : Int) + j < a ∧ (s.write (k : Int) x).2 = 0)) ∧ Warm were a (j + 1) (s.write (k : Int) x).1 := by
  have hf : s.fits (k : Int) x := ⟨by omega, by rw [h.now]; omega, hx⟩
  rcases h.st with ⟨hd, ho, hi⟩ | ⟨hd, ho, ha, hj⟩
  · unfold Dk.write
    rw [if_neg (by rw [hd]; decide), if_pos hf]
    by_cases hu : a ≤ (were : Int) + j
    · have hdue : s.due = true := by unfold Dk.due; rw [h.armed, h.at_, ho]; simpa using hu
      rw [if_pos hdue]
      refine ⟨.inl ⟨hu, rfl⟩, ⟨?_, by simp [Dk.fall], h.armed, h.at_, .inr ⟨rfl, ?_, by omega, by omega⟩⟩⟩
      · show (backN _ _ _ _).length = 2
        rw [backN_length]; exact h.now
      · show (s.ops : Int) = _
        rw [ho]
        have : j = 0 ∨ (were : Int) + (j - 1 : Nat) < a := by
          rcases j with _ | j
          · exact .inl rfl
          · exact .inr (hi j (by omega))
        rcases this with rfl | h1
        · simp; omega
        · rcases j with _ | j
          · simp; omega
          · simp at h1; push_cast; omega
    · have hdue : s.due = false := by unfold Dk.due; rw [h.armed, h.at_, ho]; simpa using hu
      rw [if_neg (by rw [hdue]; decide), Int.toNat_natCast]
      refine ⟨.inr ⟨by omega, rfl⟩, ⟨by simp [Dk.wrote, h.now], by simp [Dk.wrote]; have := h.waits; omega, h.armed, h.at_, .inl ⟨hd, by simp [Dk.wrote, ho]; omega, fun i hi' => ?_⟩⟩⟩
      rcases Nat.lt_or_ge i j with h1 | h1
      · exact hi i h1
      · rw [show i = j by omega]; omega
  · unfold Dk.write
    rw [if_pos hd]
    exact ⟨.inl ⟨by omega, rfl⟩, ⟨h.now, by show s.waits.length ≤ _; have := h.waits; omega, h.armed, h.at_, .inr ⟨hd, ho, by push_cast; omega, by omega⟩⟩⟩
theorem Warm.bounds {were : Nat} {a : Int} {j : Nat} {s : Dk} (h : Warm were a j s) (hw : were ≤ 20) (hj : j ≤ 20) (ha : a ≤ 100) : s.waits.length ≤ 100000 ∧ s.ops ≤ 1000000000 := by
  refine ⟨by have := h.waits; omega, ?_⟩
  rcases h.st with ⟨hd, ho, hi⟩ | ⟨hd, ho, ha', hj'⟩ <;> omega

def RelW1 (w : World) (gd were : Nat) (i : Value) (wr : World) : Prop :=
  ∃ (k : Nat) (s : Dk), k ≤ were ∧ i = .int .i64 k ∧ DiskB wr w.heap.size gd s ∧ Wun k s ∧ Below w.heap.size w wr
def RelW2 (w : World) (gd were : Nat) (a : Int) (more : Nat) (i : Value) (wr : World) : Prop :=
  ∃ (k : Nat) (s : Dk), k ≤ more ∧ i = .int .i64 k ∧ DiskB wr w.heap.size gd s ∧ Warm were a k s ∧ Below w.heap.size w wr

set_option maxRecDepth 100000 in
set_option maxHeartbeats 4000000 in
theorem where_no (w : World) (were a more : Int) (h : were < 0 ∨ 20 < were ∨ more < 0 ∨ 20 < more ∨ 100 < a) :
    Calls Try.prog 7 #[.int .i64 were, .int .i64 a, .int .i64 more] w fun e w' => e = .returned (.bool true) ∧ Below w.heap.size w w' := by
  by_cases h1 : were < 0
  · have d1 : decide (were < 0) = true := decide_eq_true h1
    clear h
    go_enter Try.func7, Try.ntmps7
    go_wp2_with fail
    go_ret
    exact ⟨rfl, Below.refl _ _⟩
  have d1 : decide (were < 0) = false := decide_eq_false h1
  by_cases h2 : 20 < were
  · have d2 : decide (20 < were) = true := decide_eq_true h2
    clear h
    go_enter Try.func7, Try.ntmps7
    go_wp2_with fail
    go_ret
    exact ⟨rfl, Below.refl _ _⟩
  have d2 : decide (20 < were) = false := decide_eq_false h2
  by_cases h3 : more < 0
  · have d3 : decide (more < 0) = true := decide_eq_true h3
    clear h
    go_enter Try.func7, Try.ntmps7
    go_wp2_with fail
    go_ret
    exact ⟨rfl, Below.refl _ _⟩
  have d3 : decide (more < 0) = false := decide_eq_false h3
  by_cases h4 : 20 < more
  · have d4 : decide (20 < more) = true := decide_eq_true h4
    clear h
    go_enter Try.func7, Try.ntmps7
    go_wp2_with fail
    go_ret
    exact ⟨rfl, Below.refl _ _⟩
  have d4 : decide (20 < more) = false := decide_eq_false h4
  have d5 : decide (100 < a) = true := decide_eq_true (by omega)
  clear h
  go_enter Try.func7, Try.ntmps7
  go_wp2_with fail
  go_ret
  exact ⟨rfl, Below.refl _ _⟩

set_option maxRecDepth 100000 in
set_option maxHeartbeats 4000000 in
theorem where_yes (w : World) (were : Nat) (a : Int) (more : Nat) (h1 : were ≤ 20) (h2 : more ≤ 20) (h3 : a ≤ 100) :
    Calls Try.prog 7 #[.int .i64 were, .int .i64 a, .int .i64 more] w fun e w' => e = .returned (.bool true) ∧ Below w.heap.size w w' := by
  have d1 : decide ((were : Int) < 0) = false := decide_eq_false (by omega)
  have d2 : decide (20 < (were : Int)) = false := decide_eq_false (by omega)
  have d3 : decide ((more : Int) < 0) = false := decide_eq_false (by omega)
  have d4 : decide (20 < (more : Int)) = false := decide_eq_false (by omega)
  have d5 : decide (100 < a) = false := decide_eq_false (by omega)
  have hnew := diskB_new w 2 (by omega) (by omega)
  rw [show ((2 : Nat) : Int) = 2 from rfl] at hnew
  have HNEW := Lib.hid hnew
  clear hnew
  go_enter Try.func7, Try.ntmps7
  go_wp2_with fail
  refine HNEW.out.mono ?_
  rintro e w1 ⟨gd, rfl, hd1, hb1⟩
  have HD1 := Lib.hid hd1
  have HQ1 := Lib.hid hb1
  clear hd1 hb1 HNEW d1 d2 d3 d4 d5
  go_wp2_with fail
  go_loopw [8] (fun i wr => RelW1 w gd were i wr) (fun i _ => were - (intOf i).toNat)
  case atStart => exact ⟨0, fresh 2, Nat.zero_le _, rfl, HD1.out, ⟨rfl, rfl, rfl, rfl, rfl⟩, HQ1.out⟩
  case round =>
    obtain ⟨k, s, hk, rfl, hd, hu, hq⟩ := hrel
    obtain ⟨V, hV⟩ : ∃ V, V = wr := ⟨_, rfl⟩
    subst hV
    have HD := Lib.hid hd
    have HQ := Lib.hid hq
    have HU := Lib.hid hu
    clear hd hq hu HD1 HQ1
    by_cases hkw : k < were
    case pos =>
      have hkI : (k : Int) < (were : Int) := by omega
      have hk0 : (0 : Int) ≤ (k : Int) := by omega
      have HM : Hid ((k : Int) % 2 = ((k % 2 : Nat) : Int)) := Lib.hid (by omega)
      go_wp2_with fail
      refine (sector_nil V).mono ?_
      rintro e w2 ⟨rfl, hr2, hb2⟩
      have HD2 := Lib.hid (HD.out.under hb2)
      have HQ2 := Lib.hid (HQ.out.trans (hb2.mono HQ.out.size))
      have HR2 := Lib.hid hr2
      clear hr2 hb2
      go_wp2_with fail
      obtain ⟨hw, hu⟩ := HU.out.next (k := k % 2) (Nat.mod_lt _ (by omega)) (x := zsec) rfl
      have HW := Lib.hid hw
      have HU2 := Lib.hid hu
      clear hw hu
      rw [HM.out]
      refine (diskB_write HD2.out ((k % 2 : Nat) : Int) _ 64 64 zsec rfl HR2.out (by rw [HU.out.waits]; omega) (by rw [HU.out.ops]; omega)).mono ?_
      rintro e w3 ⟨rfl, hd3, hb3⟩
      rw [HW.out] at hd3 ⊢
      have HD3 := Lib.hid hd3
      have HQ3 := Lib.hid (HQ2.out.trans hb3)
      clear hd3 hb3
      go_wp2_with fail
      go_roundw
      case rel => exact ⟨k + 1, _, by omega, by go_num, HD3.out, HU2.out, HQ3.out⟩
      case measure => simp [intOf]; omega
    case neg =>
      obtain rfl : k = were := by omega
      have hkI : ¬ ((k : Int) < (k : Int)) := by omega
      go_wp2_with fail
      refine (diskB_arm HD.out a none 0 0 [] rfl (Truths.nil _) (by omega) (fun _ g hg => by simp [blockOf] at hg)).mono ?_
      rintro e w2 ⟨rfl, hd2, hb2⟩
      have HD2 := Lib.hid hd2
      have HQ2 := Lib.hid (HQ.out.trans hb2)
      have HA := Lib.hid (HU.out.arm a)
      clear hd2 hb2 HD HQ HU
      go_wp2_with fail
      go_loopw [9] (fun i wr => RelW2 w gd k a more i wr) (fun i _ => more - (intOf i).toNat)
      case atStart => exact ⟨0, _, Nat.zero_le _, rfl, HD2.out, HA.out, HQ2.out⟩
      case round =>
        obtain ⟨j, s2, hj, rfl, hd, hu, hq⟩ := hrel
        obtain ⟨V2, hV⟩ : ∃ V, V = wr := ⟨_, rfl⟩
        subst hV
        have HD := Lib.hid hd
        have HQ := Lib.hid hq
        have HU := Lib.hid hu
        clear hd hq hu HD2 HQ2 HA
        by_cases hjm : j < more
        case pos =>
          have hjI : (j : Int) < (more : Int) := by omega
          have hj0 : (0 : Int) ≤ (j : Int) := by omega
          have HM : Hid ((j : Int) % 2 = ((j % 2 : Nat) : Int)) := Lib.hid (by omega)
          go_wp2_with fail
          refine (sector_nil V2).mono ?_
          rintro e w4 ⟨rfl, hr4, hb4⟩
          have HD4 := Lib.hid (HD.out.under hb4)
          have HQ4 := Lib.hid (HQ.out.trans (hb4.mono HQ.out.size))
          have HR4 := Lib.hid hr4
          clear hr4 hb4
          go_wp2_with fail
          obtain ⟨hw, hu⟩ := HU.out.next (k := j % 2) (Nat.mod_lt _ (by omega)) (x := zsec) rfl
          have HU2 := Lib.hid hu
          clear hu
          rw [HM.out]
          refine (diskB_write HD4.out ((j % 2 : Nat) : Int) _ 64 64 zsec rfl HR4.out (HU.out.bounds h1 (by omega) h3).1 (HU.out.bounds h1 (by omega) h3).2).mono ?_
          rintro e w5 ⟨rfl, hd5, hb5⟩
          have HD5 := Lib.hid hd5
          have HQ5 := Lib.hid (HQ4.out.trans hb5)
          clear hd5 hb5
          have hk20 : (k : Int) ≤ 20 := by omega
          have hj20 : (j : Int) ≤ 20 := by omega
          rcases hw with ⟨hca, hcd⟩ | ⟨hca, hcd⟩
          · have hcB : decide (a ≤ (k : Int) + (j : Int)) = true := decide_eq_true hca
            rw [hcd]
            clear hcd
            go_wp2_with fail
            go_roundw
            case rel => exact ⟨j + 1, _, by omega, by go_num, HD5.out, HU2.out, HQ5.out⟩
            case measure => simp [intOf]; omega
          · have hcB : decide (a ≤ (k : Int) + (j : Int)) = false := decide_eq_false (by omega)
            rw [hcd]
            clear hcd
            go_wp2_with fail
            go_roundw
            case rel => exact ⟨j + 1, _, by omega, by go_num, HD5.out, HU2.out, HQ5.out⟩
            case measure => simp [intOf]; omega
        case neg =>
          obtain rfl : j = more := by omega
          have hjI : ¬ ((j : Int) < (j : Int)) := by omega
          have HDN := Lib.hid (disk_down HD.out.2)
          have HOP := Lib.hid (disk_ops HD.out.2)
          have hk20 : (k : Int) ≤ 20 := by omega
          have hj20 : (j : Int) ≤ 20 := by omega
          have hk0 : (0 : Int) ≤ (k : Int) := by omega
          have hj0 : (0 : Int) ≤ (j : Int) := by omega
          have hst : (s2.down = false ∧ (s2.ops : Int) = min ((k : Int) + (j : Int)) (max (k : Int) a) ∧ (0 < j → (k : Int) + (j : Int) ≤ a)) ∨ (s2.down = true ∧ (s2.ops : Int) = min ((k : Int) + (j : Int)) (max (k : Int) a) ∧ 0 < j ∧ a < (k : Int) + (j : Int)) := by
            rcases HU.out.st with ⟨hd, ho, hi⟩ | ⟨hd, ho, ha, hj⟩
            · refine .inl ⟨hd, ?_, fun h => ?_⟩
              · rw [ho]
                rcases Nat.eq_zero_or_pos j with rfl | h
                · push_cast; omega
                · have := hi (j - 1) (by omega); push_cast; omega
              · have := hi (j - 1) (by omega); omega
            · exact .inr ⟨hd, by rw [ho]; omega, hj, ha⟩
          obtain ⟨o, ho⟩ : ∃ o : Int, o = (s2.ops : Int) := ⟨_, rfl⟩
          rw [← ho] at hst HOP
          clear ho
          rcases hst with ⟨hd, rfl, hp⟩ | ⟨hd, rfl, hp, hp2⟩
          · rw [hd] at HDN
            clear hd
            rcases Nat.eq_zero_or_pos j with rfl | h
            · have b1 : decide ((0 : Int) < ((0 : Nat) : Int)) = false := by decide
              clear hp
              go_wp2_with (first | (refine HDN.out.mono ?_; rintro e w6 ⟨rfl, rfl⟩) | (refine HOP.out.mono ?_; rintro e w6 ⟨rfl, rfl⟩) | fail)
              all_goals
                refine (known_any _).mono ?_
                rintro e w7 ⟨rfl, hb7⟩
                have HB7 := Lib.hid (HQ.out.trans (hb7.mono HQ.out.size))
                clear hb7
                go_wp2_with fail
                go_ret
                exact ⟨rfl, HB7.out⟩
            · have b1 : decide ((0 : Int) < (j : Int)) = true := decide_eq_true (by omega)
              have b2 : decide (a < (k : Int) + (j : Int)) = false := decide_eq_false (by have := hp h; omega)
              have hp' := hp h
              clear hp
              go_wp2_with (first | (refine HDN.out.mono ?_; rintro e w6 ⟨rfl, rfl⟩) | (refine HOP.out.mono ?_; rintro e w6 ⟨rfl, rfl⟩) | fail)
              all_goals
                refine (known_any _).mono ?_
                rintro e w7 ⟨rfl, hb7⟩
                have HB7 := Lib.hid (HQ.out.trans (hb7.mono HQ.out.size))
                clear hb7
                go_wp2_with fail
                go_ret
                exact ⟨rfl, HB7.out⟩
          · rw [hd] at HDN
            clear hd
            have b1 : decide ((0 : Int) < (j : Int)) = true := decide_eq_true (by omega)
            have b2 : decide (a < (k : Int) + (j : Int)) = true := decide_eq_true hp2
            go_wp2_with (first | (refine HDN.out.mono ?_; rintro e w6 ⟨rfl, rfl⟩) | (refine HOP.out.mono ?_; rintro e w6 ⟨rfl, rfl⟩) | fail)
            all_goals
              refine (known_any _).mono ?_
              rintro e w7 ⟨rfl, hb7⟩
              have HB7 := Lib.hid (HQ.out.trans (hb7.mono HQ.out.size))
              clear hb7
              go_wp2_with fail
              go_ret
              exact ⟨rfl, HB7.out⟩
theorem law_where (w : World) (were a more : Int) : Calls Try.prog 7 #[.int .i64 were, .int .i64 a, .int .i64 more] w fun e w' => e = .returned (.bool true) ∧ Below w.heap.size w w' := by
  by_cases h : were < 0 ∨ 20 < were ∨ more < 0 ∨ 20 < more ∨ 100 < a
  · exact where_no w were a more h
  · obtain ⟨k, rfl⟩ : ∃ k : Nat, were = (k : Int) := ⟨were.toNat, by omega⟩
    obtain ⟨j, rfl⟩ : ∃ j : Nat, more = (j : Int) := ⟨more.toNat, by omega⟩
    exact where_yes w k a j (by omega) (by omega) (by omega)
end Go.Proofs.Ytbenkffjfjddgaa
