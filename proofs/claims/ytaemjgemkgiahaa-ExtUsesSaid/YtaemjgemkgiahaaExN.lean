/-
  Whether extensions are more than is looked at; the one of an ID: by ext, by the document. The extension of an ID: by ext. The law of extensions: ExtNodes.
-/
import Derived.Test.YtaemjgemkgiahaaEx10
namespace Go.Proofs.Ytaemjgemkgiahaa
open Go.RowKit
set_option linter.unusedVariables false
set_option linter.unusedSimpArgs false
attribute [local go_sem ↓] Go.wp_at_zero Go.wp_at_succ

def lenX (e : Ex) : Nat := e.id.length + e.val.length
def sumX (l : List Ex) : Nat := (l.map lenX).sum
theorem sumX_more {l : List Ex} {i : Nat} (h : i < l.length) : sumX (l.take (i + 1)) = sumX (l.take i) + lenX (l.getD i default) := by
  unfold sumX
  rw [take_more l h, List.map_append, List.sum_append]
  simp
theorem sumX_le : ∀ {l : List Ex} {x : Ex}, x ∈ l → lenX x ≤ sumX l
  | y :: r, x, h => by
    unfold sumX
    rw [List.map_cons, List.sum_cons]
    rcases List.mem_cons.1 h with rfl | h
    · omega
    · have := sumX_le h
      unfold sumX at this
      omega
set_option maxRecDepth 100000 in
set_option maxHeartbeats 4000000 in
theorem long_any (w : World) (A : Option Addr) (c n : Nat) (l : List Ex) (h : XP A c l w) (hn : l.length = n) (hsz : ∀ x ∈ l, x.id.length ≤ 140737488351232 ∧ x.val.length ≤ 140737488351232) :
    Calls Try.prog 6 #[.slice A n c] w fun e w' => ∃ b, e = .returned (.bool b) ∧ Below w.heap.size w w' ∧ Hid (b = false → n ≤ 30 ∧ ∀ x ∈ l, x.id.length ≤ 9000 ∧ x.val.length ≤ 9000) := by
  have hlc : n ≤ c := by rw [← hn]; exact h.1.1
  have hc63 := h.1.2.1
  have HN := Lib.hid hn
  have HX := Lib.hid (Off.of_x h)
  have HS := Lib.hid hsz
  clear h hn hsz
  go_enter Try.func6, Try.ntmps6
  go_wp2_with fail
  go_loopw [3, 4] (fun sv iv wr => ∃ i s : Nat, i ≤ n ∧ i ≤ 40 ∧ iv = .int .i64 (i : Int) ∧ sv = .int .i64 (s : Int) ∧ s ≤ 281474976702464 * i ∧ Hid (s = sumX (l.take i)) ∧ Below w.heap.size w wr) (fun _ iv _ => n - (intOf iv).toNat)
  case atStart => exact ⟨0, 0, by omega, by omega, rfl, rfl, by omega, rfl, Below.refl _ _⟩
  case round =>
    obtain ⟨i, s, hi, hi4, rfl, rfl, hs, HSU, hB⟩ := hrel
    have HB3 := Lib.hid hB
    clear hB
    by_cases hlt : i < n
    · by_cases h40 : i < 40
      · have hx := (HX.out.under HB3.out).at_
        obtain ⟨g, off, rfl, hg, hcs⟩ := hx.1.2.2 (by rw [HN.out]; omega)
        obtain ⟨c0, c1, c2⟩ := hcs i (by rw [HN.out]; exact hlt)
        have hb := HS.out _ (getD_mem (l := l) (j := i) (by rw [HN.out]; exact hlt))
        have HSM : Hid (sumX (l.take (i + 1)) = sumX (l.take i) + lenX (l.getD i default)) := Lib.hid (sumX_more (by rw [HN.out]; exact hlt))
        obtain ⟨e, he⟩ : ∃ e, e = l.getD i default := ⟨_, rfl⟩
        rw [← he] at c0 c1 c2 hb HSM
        clear he hcs hx hg
        obtain ⟨ia, ic, id, cr, va, vc, val⟩ := e
        dsimp only at c0 c2 hb
        have HL : Hid (lenX ⟨ia, ic, id, cr, va, vc, val⟩ = id.length + val.length) := Lib.hid rfl
        generalize id.length = n1 at *
        generalize val.length = n2 at *
        obtain ⟨hb1, hb2⟩ := hb
        have hov : s + n1 + n2 ≤ 9000000000000000000 := by omega
        have hs2 : s + n1 + n2 ≤ 281474976702464 * (i + 1) := by omega
        have d40 : decide ((i : Int) < 40) = true := decide_eq_true (by omega)
        have e1 : IntKind.i64.wrap ((s : Int) + (n1 : Int)) = (s : Int) + (n1 : Int) := IntWalk.i64_in _ (by omega)
        have e2 : IntKind.i64.wrap ((s : Int) + (n1 : Int) + (n2 : Int)) = (s : Int) + (n1 : Int) + (n2 : Int) := IntWalk.i64_in _ (by omega)
        have HS2 := Lib.hid hs2
        go_wp2_with fail
        go_quiet (fail)
        clear e1 e2
        go_wp2_with fail
        go_roundw
        case rel => exact ⟨i + 1, s + n1 + n2, by omega, by omega, by go_num, by go_num, HS2.out, by show _ = _; rw [HSM.out, HL.out, ← HSU.out]; omega, below_drewN HB3.out _⟩
        case measure => simp [intOf]; omega
      · have d30 : decide ((30 : Int) < (n : Int)) = true := decide_eq_true (by omega)
        have d40 : decide ((i : Int) < 40) = false := decide_eq_false (by omega)
        go_wp2_with fail
        go_ret
        exact ⟨true, rfl, HB3.out, fun h => by cases h⟩
    · obtain rfl : i = n := by omega
      by_cases h30 : 30 < i
      · have d30 : decide ((30 : Int) < (i : Int)) = true := decide_eq_true (by omega)
        go_wp2_with fail
        go_ret
        exact ⟨true, rfl, HB3.out, fun h => by cases h⟩
      · have d30 : decide ((30 : Int) < (i : Int)) = false := decide_eq_false (by omega)
        have HFF : Hid (¬ 9000 < s → i ≤ 30 ∧ ∀ x ∈ l, x.id.length ≤ 9000 ∧ x.val.length ≤ 9000) := Lib.hid fun h => ⟨by omega, fun x hx => by
          have h1 := sumX_le hx
          rw [List.take_of_length_le (by rw [HN.out]; exact Nat.le_refl _)] at HSU
          have h2 := HSU.out
          unfold lenX at h1
          omega⟩
        by_cases h9 : 9000 < s
        · have d9 : decide ((9000 : Int) < (s : Int)) = true := decide_eq_true (by omega)
          go_wp2_with fail
          go_ret
          exact ⟨true, rfl, HB3.out, fun h => by cases h⟩
        · have d9 : decide ((9000 : Int) < (s : Int)) = false := decide_eq_false (by omega)
          have HF2 := Lib.hid (HFF.out h9)
          go_wp2_with fail
          go_ret
          exact ⟨false, rfl, HB3.out, fun _ => HF2.out⟩
/-- The first one of an ID. -/
def firstX : List EV → List Nat → Option EV
  | [], _ => none
  | e :: r, id => if e.id = id then some e else firstX r id
theorem first_at : ∀ {l : List EV} {id : List Nat} {i : Nat}, i < l.length → (l.getD i default).id = id → (∀ j, j < i → (l.getD j default).id ≠ id) → firstX l id = some (l.getD i default)
  | e :: r, id, 0, _, h, _ => by
    rw [firstX]
    have h' : e.id = id := h
    rw [if_pos h']; rfl
  | e :: r, id, i + 1, hi, h, hn => by
    have h0 : e.id ≠ id := hn 0 (by omega)
    rw [firstX, if_neg h0]
    exact first_at (l := r) (by simpa using hi) h (fun j hj => hn (j + 1) (by omega))
theorem first_none : ∀ {l : List EV} {id : List Nat}, (∀ j, j < l.length → (l.getD j default).id ≠ id) → firstX l id = none
  | [], _, _ => rfl
  | e :: r, id, h => by
    have h0 : e.id ≠ id := h 0 (by simp)
    rw [firstX, if_neg h0]
    exact first_none (l := r) (fun j hj => h (j + 1) (by simpa using hj))
def FindPost (w : World) (o : Option EV) (e : Ending) (w' : World) : Prop :=
  ∃ ex : Ex, ex.v = o.getD default ∧ e = .returned (.tuple #[.agg #[.slice ex.ia ex.id.length ex.ic, .bool ex.cr, .slice ex.va ex.val.length ex.vc], .bool o.isSome]) ∧ Off [] (ExP ex) w' ∧ Below w.heap.size w w'
theorem exNone (w : World) : Off [] (ExP ⟨none, 0, [], false, none, 0, []⟩) w := fun w' _ _ => ⟨Rd.nil_ _ _ _, by simp, Rd.nil_ _ _ _, by simp⟩
theorem off_ext {xs : List Nat} {A : Option Addr} {c : Nat} {l : List Ex} {w : World} {j : Nat} (h : Off xs (XP A c l) w) (hj : j < l.length) : Off xs (ExP (l.getD j default)) w := h.imp fun _ hh => hh.at_ hj
theorem ext_out {w w' : World} {e : Ex} (h : Off [w.heap.size] (ExP e) w') (a b c : Value) :
    Off [] (ExP e) (((w'.setCell ⟨w.heap.size, 0, none⟩ a).setCell ⟨w.heap.size, 1, none⟩ b).setCell ⟨w.heap.size, 2, none⟩ c) :=
  (((h.store (p := ⟨w.heap.size, 0, none⟩) (by simp) a).store (p := ⟨w.heap.size, 1, none⟩) (by simp) b).store (p := ⟨w.heap.size, 2, none⟩) (by simp) c).less (fun g hg => by simp at hg)
set_option maxRecDepth 100000 in
set_option maxHeartbeats 8000000 in
theorem find'_any (w : World) (A A2 : Option Addr) (c n c2 m : Nat) (l : List Ex) (q : List Nat) (h : XP A c l w) (hn : l.length = n) (hr : Rd .u8 w w.heap.size A2 c2 q) (hm : q.length = m) (hq : ∀ x ∈ q, x < 256) :
    Calls Try.prog 9 #[.slice A n c, .slice A2 m c2] w (FindPost w (firstX (l.map Ex.v) q)) := by
  obtain ⟨o, HOO⟩ : ∃ o, Hid (o = firstX (l.map Ex.v) q) := ⟨_, rfl⟩
  rw [← HOO.out]
  have hlc : n ≤ c := by rw [← hn]; exact h.1.1
  have hc63 := h.1.2.1
  have HN := Lib.hid hn
  have HX := Lib.hid ((Off.of_x h).new (Nat.le_refl _))
  have HR := Lib.hid (Off.of_rd hr (Nat.le_refl _))
  have HM := Lib.hid hm
  have HQ := Lib.hid hq
  obtain ⟨V, hV⟩ : ∃ V, V = w.alloc (.cells #[.slice none 0 0, .bool false, .slice none 0 0] 26) := ⟨_, rfl⟩
  have hz : Holds V w.heap.size 26 #[.slice none 0 0, .bool false, .slice none 0 0] := by rw [hV]; exact Holds.fresh _ _ _
  have HB0 : Hid (Below w.heap.size w V) := Lib.hid (by rw [hV]; exact (Below.refl _ _).alloc (Nat.le_refl _) _)
  have HZ := Lib.hid hz
  have HV := Lib.hid hV
  clear h hn hr hm hq hz hV
  go_enter Try.func9, Try.ntmps9
  go_wp2_with fail
  rw [← HV.out]
  clear HV
  go_loopw [6] (fun iv wr => ∃ i : Nat, i ≤ n ∧ iv = .int .i64 (i : Int) ∧ Hid (∀ j, j < i → ((l.map Ex.v).getD j default).id ≠ q) ∧ Holds wr w.heap.size 26 #[.slice none 0 0, .bool false, .slice none 0 0] ∧ Below w.heap.size w wr) (fun iv _ => n - (intOf iv).toNat)
  case atStart => exact ⟨0, by omega, rfl, fun j hj => by omega, HZ.out, HB0.out⟩
  case round =>
    obtain ⟨i, hi, rfl, HA, hz, hB⟩ := hrel
    have HB3 := Lib.hid hB
    have HZ3 := Lib.hid hz
    clear hB hz
    by_cases hlt : i < n
    · have hxo := HX.out.under HB3.out
      have hx := hxo.at_
      obtain ⟨g, off, rfl, hg, hcs⟩ := hx.1.2.2 (by rw [HN.out]; omega)
      obtain ⟨c0, c1, c2'⟩ := hcs i (by rw [HN.out]; exact hlt)
      have hxe := hx.at_ (by rw [HN.out]; exact hlt)
      have HV1 : Hid ((l.map Ex.v).getD i default = (l.getD i default).v) := Lib.hid (ev_at (by rw [HN.out]; exact hlt))
      have hoe := off_ext hxo (j := i) (by rw [HN.out]; exact hlt)
      obtain ⟨e, he⟩ : ∃ e, e = l.getD i default := ⟨_, rfl⟩
      rw [← he] at c0 c1 c2' hxe HV1 hoe
      clear he hcs hx hg hxo
      obtain ⟨ia, ic, id, cr, va, vc, val⟩ := e
      obtain ⟨hr1, ho1, hr2, ho2⟩ := hxe
      dsimp only at c0 c1 c2' hr1 ho1 hr2 ho2
      have HOE := Lib.hid hoe
      obtain ⟨n1, hn1⟩ : ∃ n1, id.length = n1 := ⟨_, rfl⟩
      obtain ⟨n2, hn2⟩ : ∃ n2, val.length = n2 := ⟨_, rfl⟩
      rw [hn1] at c0
      rw [hn2] at c2'
      have k1 : ∀ k, (convert 23 9 (.slice ia n1 ic)).run Try.prog (wr.drewN k) = .ok (.string (str id)) (wr.drewN k) := fun k => conv_str (hr1.drewN k) hn1 ho1
      have k2 : ∀ k, (convert 23 9 (.slice A2 m c2)).run Try.prog (wr.drewN k) = .ok (.string (str q)) (wr.drewN k) := fun k => conv_str ((HR.out.under HB3.out).at_.drewN k) HM.out HQ.out
      have k10 := k1 0
      have k20 := k2 0
      have HN1 := Lib.hid hn1
      have HN2 := Lib.hid hn2
      by_cases hid : id = q
      · have hse : ((str id).toList == (str q).toList) = true := by rw [hid]; exact str_same q
        have HFE : Hid (o = some ⟨id, cr, val⟩) := Lib.hid (by
          rw [HOO.out, first_at (i := i) (by rw [List.length_map, HN.out]; exact hlt) (by rw [HV1.out]; exact hid) HA.out, HV1.out]; rfl)
        generalize str id = s1 at *
        generalize str q = s2 at *
        clear hid hr1 ho1 hr2 ho2 hn1 hn2 hoe
        go_wp2_with fail
        go_quiet (fail)
        have z0 := HZ3.out.cell 0
        have z1 := HZ3.out.cell 1
        have z2 := HZ3.out.cell 2
        have y0 := HZ3.out.open_ 0
        have y1 := HZ3.out.open_ 1
        have y2 := HZ3.out.open_ 2
        go_wp2_with fail
        rw [HFE.out]
        refine ret_ext rfl rfl rfl ((((HZ3.out.drewN _).stored 0 _).stored 1 _).stored 2 _) rfl ⟨⟨ia, ic, id, cr, va, vc, val⟩, rfl, ?_, ext_out (HOE.out.drewN _) _ _ _, below_ext (below_drewN HB3.out _) (Nat.le_refl _) _ _ _⟩
        rw [← HN1.out, ← HN2.out]
        rfl
      · have hse : ((str id).toList == (str q).toList) = false := str_ne ho1 HQ.out hid
        have HNI : Hid (((l.map Ex.v).getD i default).id ≠ q) := Lib.hid (by rw [HV1.out]; exact hid)
        generalize str id = s1 at *
        generalize str q = s2 at *
        clear hid hr1 ho1 hr2 ho2 hn1 hn2 hoe
        go_wp2_with fail
        go_quiet (fail)
        go_wp2_with fail
        go_roundw
        case rel => exact ⟨i + 1, by omega, by go_num, fun j hj => by
          rcases Nat.lt_or_ge j i with h3 | h3
          · exact HA.out j h3
          · obtain rfl : j = i := by omega
            exact HNI.out, HZ3.out.drewN _, below_drewN HB3.out _⟩
        case measure => simp [intOf]; omega
    · have HFE : Hid (o = none) := Lib.hid (by rw [HOO.out]; exact first_none fun j hj => HA.out j (by rw [List.length_map, HN.out] at hj; omega))
      have z0 := HZ3.out.cell 0
      have z1 := HZ3.out.cell 1
      have z2 := HZ3.out.cell 2
      have y0 := HZ3.out.open_ 0
      have y1 := HZ3.out.open_ 1
      have y2 := HZ3.out.open_ 2
      go_wp2_with fail
      rw [HFE.out]
      exact ret_ext rfl rfl rfl (((HZ3.out.stored 0 _).stored 1 _).stored 2 _) rfl ⟨⟨none, 0, [], false, none, 0, []⟩, rfl, rfl, exNone _, below_ext HB3.out (Nat.le_refl _) _ _ _⟩
end Go.Proofs.Ytaemjgemkgiahaa
namespace Go.Proofs.Ytaemjgemkgiahaa
open Go.RowKit
set_option linter.unusedVariables false
set_option linter.unusedSimpArgs false
attribute [local go_sem ↓] Go.wp_at_zero Go.wp_at_succ

set_option maxRecDepth 100000 in
set_option maxHeartbeats 8000000 in
theorem find_any (w : World) (A A2 : Option Addr) (c n c2 m : Nat) (l : List Ex) (q : List Nat) (h : XP A c l w) (hn : l.length = n) (hr : Rd .u8 w w.heap.size A2 c2 q) (hm : q.length = m) (hq : ∀ x ∈ q, x < 256) (hsz : ∀ x ∈ l, x.id.length ≤ 12000 ∧ x.val.length ≤ 12000) :
    Calls Try.prog 8 #[.slice A n c, .slice A2 m c2] w (FindPost w (firstX (l.map Ex.v) q)) := by
  obtain ⟨o, HOO⟩ : ∃ o, Hid (o = firstX (l.map Ex.v) q) := ⟨_, rfl⟩
  rw [← HOO.out]
  have hlc : n ≤ c := by rw [← hn]; exact h.1.1
  have hc63 := h.1.2.1
  have HN := Lib.hid hn
  have HX := Lib.hid ((Off.of_x h).new (Nat.le_refl _))
  have HR := Lib.hid (Off.of_rd hr (Nat.le_refl _))
  have HM := Lib.hid hm
  have HQ := Lib.hid hq
  have HS := Lib.hid hsz
  obtain ⟨V, hV⟩ : ∃ V, V = w.alloc (.cells #[.slice none 0 0, .bool false, .slice none 0 0] 26) := ⟨_, rfl⟩
  have hz : Holds V w.heap.size 26 #[.slice none 0 0, .bool false, .slice none 0 0] := by rw [hV]; exact Holds.fresh _ _ _
  have HB0 : Hid (Below w.heap.size w V) := Lib.hid (by rw [hV]; exact (Below.refl _ _).alloc (Nat.le_refl _) _)
  have HZ := Lib.hid hz
  have HV := Lib.hid hV
  clear h hn hr hm hq hz hV hsz
  go_enter Try.func8, Try.ntmps8
  go_wp2_with fail
  rw [← HV.out]
  clear HV
  go_loopw [10] (fun iv wr => ∃ i : Nat, i ≤ n ∧ iv = .int .i64 (i : Int) ∧ Hid (∀ j, j < i → ((l.map Ex.v).getD j default).id ≠ q) ∧ Holds wr w.heap.size 26 #[.slice none 0 0, .bool false, .slice none 0 0] ∧ Below w.heap.size w wr) (fun iv _ => n - (intOf iv).toNat)
  case atStart => exact ⟨0, by omega, rfl, fun j hj => by omega, HZ.out, HB0.out⟩
  case round =>
    obtain ⟨i, hi, rfl, HA, hz, hB⟩ := hrel
    have HB3 := Lib.hid hB
    have HZ3 := Lib.hid hz
    have hwr : w.heap.size < wr.heap.size := hz.lt
    clear hB hz
    by_cases hlt : i < n
    · have hxo := HX.out.under HB3.out
      have hx := hxo.at_
      obtain ⟨g, off, rfl, hg, hcs⟩ := hx.1.2.2 (by rw [HN.out]; omega)
      obtain ⟨c0, c1, c2'⟩ := hcs i (by rw [HN.out]; exact hlt)
      have hxe := hx.at_ (by rw [HN.out]; exact hlt)
      have HV1 : Hid ((l.map Ex.v).getD i default = (l.getD i default).v) := Lib.hid (ev_at (by rw [HN.out]; exact hlt))
      have hs12 := HS.out _ (getD_mem (l := l) (j := i) (by rw [HN.out]; exact hlt))
      obtain ⟨e, he⟩ : ∃ e, e = l.getD i default := ⟨_, rfl⟩
      rw [← he] at c0 c1 c2' hxe HV1 hs12
      clear he hcs hx hg hxo
      obtain ⟨ia, ic, id, cr, va, vc, val⟩ := e
      obtain ⟨hr1, ho1, hr2, ho2⟩ := hxe
      dsimp only at c0 c1 c2' hr1 ho1 hr2 ho2 hs12
      obtain ⟨n1, hn1⟩ : ∃ n1, id.length = n1 := ⟨_, rfl⟩
      obtain ⟨n2, hn2⟩ : ∃ n2, val.length = n2 := ⟨_, rfl⟩
      rw [hn1] at c0 hs12
      rw [hn2] at c2' hs12
      have HN1 := Lib.hid hn1
      have HN2 := Lib.hid hn2
      have HO1 := Lib.hid ho1
      have HO2 := Lib.hid ho2
      have hq1 : Below wr.heap.size wr (wr.alloc (.cells #[.slice ia n1 ic, .bool cr, .slice va n2 vc] 26)) := (Below.refl _ _).alloc (Nat.le_refl _) _
      have hH1 := Holds.fresh wr 26 #[.slice ia n1 ic, .bool cr, .slice va n2 vc]
      have HB4 := Lib.hid (HB3.out.trans (hq1.mono HB3.out.size))
      have HZ4 := Lib.hid (HZ3.out.under hq1 hwr)
      have HRI : Hid (∀ W, Below wr.heap.size wr W → Rd .u8 W wr.heap.size ia ic id) := Lib.hid fun W hW => hr1.under hW
      have HRV : Hid (∀ W, Below wr.heap.size wr W → Rd .u8 W wr.heap.size va vc val) := Lib.hid fun W hW => hr2.under hW
      have hrq := (HR.out.under HB4.out).at_
      have HQ1 := Lib.hid hq1
      have HH1 := Lib.hid hH1
      have z0 := hH1.cell 0
      have z1 := hH1.cell 1
      have z2 := hH1.cell 2
      by_cases hid : id = q
      · have HFE : Hid (o = some ⟨id, cr, val⟩) := Lib.hid (by
          rw [HOO.out, first_at (i := i) (by rw [List.length_map, HN.out]; exact hlt) (by rw [HV1.out]; exact hid) HA.out, HV1.out]; rfl)
        have hmn : n1 = m := by rw [← HM.out, ← hid, hn1]
        subst hmn
        have HEQ := Lib.hid (equal_yes (wr.alloc (.cells #[.slice ia n1 ic, .bool cr, .slice va n2 vc] 26)) _ _ ia A2 ic c2 n1 id hn1 (hr1.under hq1) (by rw [hid]; exact hrq) ho1)
        have HX0 : Hid (∀ W, Below (wr.alloc (.cells #[.slice ia n1 ic, .bool cr, .slice va n2 vc] 26)).heap.size (wr.alloc (.cells #[.slice ia n1 ic, .bool cr, .slice va n2 vc] 26)) W → W.cell? ⟨wr.heap.size, 0, none⟩ = some (.slice ia n1 ic) ∧ W.cell? ⟨wr.heap.size, 1, none⟩ = some (.bool cr) ∧ W.cell? ⟨wr.heap.size, 2, none⟩ = some (.slice va n2 vc)) := Lib.hid fun W hW => by
          have h := hH1.under hW hH1.lt
          exact ⟨h.cell 0, h.cell 1, h.cell 2⟩
        clear hid hr1 ho1 hr2 ho2 hn1 hn2 hq1 hH1 hrq
        go_wp2_with fail
        refine HEQ.out.mono ?_
        rintro e w4 ⟨rfl, hw4⟩
        have HW4 := Lib.hid hw4.symm
        rw [HW4.out]
        clear hw4 HW4
        go_wp2_with fail
        refine wp_region_noPanic ?_
        refine wp_region_held_drew (S := fun W => W.cell? ⟨wr.heap.size, 0, none⟩ = some (.slice ia n1 ic) ∧ W.cell? ⟨wr.heap.size, 1, none⟩ = some (.bool cr) ∧ W.cell? ⟨wr.heap.size, 2, none⟩ = some (.slice va n2 vc)) (by kernel_rfl) (⟨z0, z1, z2⟩) (fun hHeld => ?_)
        refine wpAnyH_take (i := 0) (oi := { dst := some 18, op := Op.fieldAddr 26 (Operand.tmp 7) 0, type := 0, pos := _, after := _, guard := none }) (v := ?_) rfl (by kernel_rfl) (by kernel_rfl) (by kernel_rfl) (fun _ _ _ h => h) (Or.inl ⟨by rfl, ?_⟩) hHeld ?_
        rotate_left 1
        · (intro W hW; (try dsimp only at hW); go_simp; try with_reducible rfl)
        try simp only [Act.put, List.setIfInBounds_toArray, List.set_cons_zero, List.set_cons_succ]
        refine wpAnyH_take (i := 1) (oi := { dst := some 19, op := Op.load 23 (Operand.tmp 18), type := 23, pos := _, after := _, guard := none }) (v := ?_) rfl (by kernel_rfl) (by kernel_rfl) (by kernel_rfl) (fun _ _ _ h => h) (Or.inl ⟨by rfl, ?_⟩) hHeld ?_
        rotate_left 1
        · (intro W hW; obtain ⟨k0, k1, k2⟩ := hW; (try dsimp only at hW); go_simp; try with_reducible rfl)
        try simp only [Act.put, List.setIfInBounds_toArray, List.set_cons_zero, List.set_cons_succ]
        refine wpAnyH_take (i := 3) (oi := { dst := some 21, op := Op.fieldAddr 26 (Operand.tmp 7) 1, type := 0, pos := _, after := _, guard := none }) (v := ?_) rfl (by kernel_rfl) (by kernel_rfl) (by kernel_rfl) (fun _ _ _ h => h) (Or.inl ⟨by rfl, ?_⟩) hHeld ?_
        rotate_left 1
        · (intro W hW; (try dsimp only at hW); go_simp; try with_reducible rfl)
        try simp only [Act.put, List.setIfInBounds_toArray, List.set_cons_zero, List.set_cons_succ]
        refine wpAnyH_take (i := 4) (oi := { dst := some 22, op := Op.load 4 (Operand.tmp 21), type := 4, pos := _, after := _, guard := none }) (v := ?_) rfl (by kernel_rfl) (by kernel_rfl) (by kernel_rfl) (fun _ _ _ h => h) (Or.inl ⟨by rfl, ?_⟩) hHeld ?_
        rotate_left 1
        · (intro W hW; obtain ⟨k0, k1, k2⟩ := hW; (try dsimp only at hW); go_simp; try with_reducible rfl)
        try simp only [Act.put, List.setIfInBounds_toArray, List.set_cons_zero, List.set_cons_succ]
        refine wpAnyH_take (i := 5) (oi := { dst := some 23, op := Op.fieldAddr 26 (Operand.tmp 7) 2, type := 0, pos := _, after := _, guard := none }) (v := ?_) rfl (by kernel_rfl) (by kernel_rfl) (by kernel_rfl) (fun _ _ _ h => h) (Or.inl ⟨by rfl, ?_⟩) hHeld ?_
        rotate_left 1
        · (intro W hW; (try dsimp only at hW); go_simp; try with_reducible rfl)
        try simp only [Act.put, List.setIfInBounds_toArray, List.set_cons_zero, List.set_cons_succ]
        refine wpAnyH_take (i := 6) (oi := { dst := some 24, op := Op.load 23 (Operand.tmp 23), type := 23, pos := _, after := _, guard := none }) (v := ?_) rfl (by kernel_rfl) (by kernel_rfl) (by kernel_rfl) (fun _ _ _ h => h) (Or.inl ⟨by rfl, ?_⟩) hHeld ?_
        rotate_left 1
        · (intro W hW; obtain ⟨k0, k1, k2⟩ := hW; (try dsimp only at hW); go_simp; try with_reducible rfl)
        try simp only [Act.put, List.setIfInBounds_toArray, List.set_cons_zero, List.set_cons_succ]
        refine wpAnyH_ready (rs := [2]) (by kernel_rfl) (by simp) ?_
        refine AllReadyH.cons (o := { dst := some 20, op := Op.call { callee := Callee.value (Operand.func 25), args := #[Operand.tmp 19], argTypes := #[23] }, type := 23, pos := _, after := _, guard := none }) rfl (fun K hK => ?_) AllReadyH.nil
        go_simp
        refine (clone_any (wr.alloc (.cells #[.slice ia n1 ic, .bool cr, .slice va n2 vc] 26)).drew wr.heap.size ia ic n1 id ((HRI.out _ HQ1.out).under ((Below.refl _ (wr.alloc (.cells #[.slice ia n1 ic, .bool cr, .slice va n2 vc] 26))).drew.mono HQ1.out.size)) HN1.out HQ1.out.size (by omega)).mono ?_
        rintro e w5 ⟨A5, c5, rfl, hm5, hb5⟩
        have b5 : Hid (Below (wr.alloc (.cells #[.slice ia n1 ic, .bool cr, .slice va n2 vc] 26)).heap.size (wr.alloc (.cells #[.slice ia n1 ic, .bool cr, .slice va n2 vc] 26)) w5) := Lib.hid ((Below.refl _ (wr.alloc (.cells #[.slice ia n1 ic, .bool cr, .slice va n2 vc] 26))).drew.trans hb5)
        have S5 : Hid ((fun W => W.cell? ⟨wr.heap.size, 0, none⟩ = some (.slice ia n1 ic) ∧ W.cell? ⟨wr.heap.size, 1, none⟩ = some (.bool cr) ∧ W.cell? ⟨wr.heap.size, 2, none⟩ = some (.slice va n2 vc)) w5) := Lib.hid (HX0.out _ b5.out)
        have HM5 := Lib.hid hm5
        have Q5 := Lib.hid (HQ1.out.trans (b5.out.mono HQ1.out.size))
        clear hb5 hm5
        go_simp
        refine hK.out _ _ (S5.out) (fun _ => ?_)
        clear hK K hHeld
        try simp only [Act.put, List.setIfInBounds_toArray, List.set_cons_zero, List.set_cons_succ]
        have hHeld : (fun W => W.cell? ⟨wr.heap.size, 0, none⟩ = some (.slice ia n1 ic) ∧ W.cell? ⟨wr.heap.size, 1, none⟩ = some (.bool cr) ∧ W.cell? ⟨wr.heap.size, 2, none⟩ = some (.slice va n2 vc)) w5 := S5.out
        refine wpAnyH_ready (rs := [7]) (by kernel_rfl) (by simp) ?_
        refine AllReadyH.cons (o := { dst := some 25, op := Op.call { callee := Callee.value (Operand.func 25), args := #[Operand.tmp 24], argTypes := #[23] }, type := 23, pos := _, after := _, guard := none }) rfl (fun K hK => ?_) AllReadyH.nil
        go_simp
        refine (clone_any w5 wr.heap.size va vc n2 val (HRV.out _ Q5.out) HN2.out Q5.out.size (by omega)).mono ?_
        rintro e w7 ⟨A7, c7, rfl, hm7, hb7⟩
        have b7 : Hid (Below (wr.alloc (.cells #[.slice ia n1 ic, .bool cr, .slice va n2 vc] 26)).heap.size (wr.alloc (.cells #[.slice ia n1 ic, .bool cr, .slice va n2 vc] 26)) w7) := Lib.hid (b5.out.trans (hb7.mono b5.out.size))
        have S7 : Hid ((fun W => W.cell? ⟨wr.heap.size, 0, none⟩ = some (.slice ia n1 ic) ∧ W.cell? ⟨wr.heap.size, 1, none⟩ = some (.bool cr) ∧ W.cell? ⟨wr.heap.size, 2, none⟩ = some (.slice va n2 vc)) w7) := Lib.hid (HX0.out _ b7.out)
        have HM7 := Lib.hid hm7
        have H57 := Lib.hid hb7
        have Q7 := Lib.hid (HQ1.out.trans (b7.out.mono HQ1.out.size))
        have hz7 := HZ4.out.under b7.out HZ4.out.lt
        have HZ7 := Lib.hid hz7
        have HB7 := Lib.hid (HB4.out.trans (b7.out.mono HB4.out.size))
        have x0 := hz7.cell 0
        have x1 := hz7.cell 1
        have x2 := hz7.cell 2
        have y0 := hz7.open_ 0
        have y1 := hz7.open_ 1
        have y2 := hz7.open_ 2
        have S9 : Hid ((fun W => W.cell? ⟨wr.heap.size, 0, none⟩ = some (.slice ia n1 ic) ∧ W.cell? ⟨wr.heap.size, 1, none⟩ = some (.bool cr) ∧ W.cell? ⟨wr.heap.size, 2, none⟩ = some (.slice va n2 vc)) (((w7.setCell ⟨w.heap.size, 0, none⟩ (.slice A5 n1 c5)).setCell ⟨w.heap.size, 1, none⟩ (.bool cr)).setCell ⟨w.heap.size, 2, none⟩ (.slice A7 n2 c7))) := Lib.hid (by
          have hne : ∀ (W : World) (j k : Nat) (u : Value), (W.setCell ⟨w.heap.size, j, none⟩ u).cell? ⟨wr.heap.size, k, none⟩ = W.cell? ⟨wr.heap.size, k, none⟩ := fun W j k u => by
            simp only [World.cell?]; rw [Below.heap_setCell W ⟨w.heap.size, j, none⟩ u wr.heap.size (by show wr.heap.size ≠ w.heap.size; omega)]
          refine ⟨?_, ?_, ?_⟩
          · rw [hne, hne, hne]; exact S7.out.1
          · rw [hne, hne, hne]; exact S7.out.2.1
          · rw [hne, hne, hne]; exact S7.out.2.2)
        clear hb7 hm7 hz7
        go_simp
        refine hK.out _ _ (S7.out) (fun _ => ?_)
        clear hK K hHeld
        try simp only [Act.put, List.setIfInBounds_toArray, List.set_cons_zero, List.set_cons_succ]
        have hHeld : (fun W => W.cell? ⟨wr.heap.size, 0, none⟩ = some (.slice ia n1 ic) ∧ W.cell? ⟨wr.heap.size, 1, none⟩ = some (.bool cr) ∧ W.cell? ⟨wr.heap.size, 2, none⟩ = some (.slice va n2 vc)) w7 := S7.out
        refine wpAnyH_take (i := 8) (oi := { dst := some 26, op := Op.build 26 #[(0, Operand.tmp 20), (1, Operand.tmp 22), (2, Operand.tmp 25)], type := 26, pos := _, after := _, guard := none }) (v := ?_) rfl (by kernel_rfl) (by kernel_rfl) (by kernel_rfl) (fun _ _ _ h => h) (Or.inl ⟨by rfl, ?_⟩) hHeld ?_
        rotate_left 1
        · (intro W hW; (try dsimp only at hW); go_simp; try with_reducible rfl)
        try simp only [Act.put, List.setIfInBounds_toArray, List.set_cons_zero, List.set_cons_succ]
        refine wpAnyH_ready (rs := [9]) (by kernel_rfl) (by simp) ?_
        refine AllReadyH.cons (o := { dst := none, op := Op.store 26 (Operand.tmp 4) (Operand.tmp 26), type := 0, pos := _, after := _, guard := none }) rfl (fun K hK => ?_) AllReadyH.nil
        go_simp
        refine hK.out _ _ (S9.out) (fun _ => ?_)
        clear hK K hHeld
        try simp only [Act.put, List.setIfInBounds_toArray, List.set_cons_zero, List.set_cons_succ]
        have hHeld : (fun W => W.cell? ⟨wr.heap.size, 0, none⟩ = some (.slice ia n1 ic) ∧ W.cell? ⟨wr.heap.size, 1, none⟩ = some (.bool cr) ∧ W.cell? ⟨wr.heap.size, 2, none⟩ = some (.slice va n2 vc)) (((w7.setCell ⟨w.heap.size, 0, none⟩ (.slice A5 n1 c5)).setCell ⟨w.heap.size, 1, none⟩ (.bool cr)).setCell ⟨w.heap.size, 2, none⟩ (.slice A7 n2 c7)) := S9.out
        refine wpAnyH_take (i := 10) (oi := { dst := some 5, op := Op.assign (Operand.const (Value.bool true)), type := 4, pos := _, after := _, guard := none }) (v := ?_) rfl (by kernel_rfl) (by kernel_rfl) (by kernel_rfl) (fun _ _ _ h => h) (Or.inl ⟨by rfl, ?_⟩) hHeld ?_
        rotate_left 1
        · (intro W hW; (try dsimp only at hW); go_simp; try with_reducible rfl)
        try simp only [Act.put, List.setIfInBounds_toArray, List.set_cons_zero, List.set_cons_succ]
        refine wpAnyH_done (by kernel_rfl) ?_ _
        refine NoPanic.normal ?_
        go_wp2_with fail
        rw [HFE.out]
        refine ret_ext rfl rfl rfl (((HZ7.out.stored 0 _).stored 1 _).stored 2 _) rfl ?_
        have o5 : Off [w.heap.size] (fun W => Rd .u8 W W.heap.size A5 c5 id) w7 := (Off.of_mine HM5.out (fun g hg hx => by have h1 := (HM5.out.block hg).1; have h2 := HZ4.out.lt; rw [List.mem_singleton] at hx; simp only [World.drew] at h1; omega)).under H57.out
        have o7 : Off [w.heap.size] (fun W => Rd .u8 W W.heap.size A7 c7 val) w7 := Off.of_mine HM7.out (fun g hg hx => by have h1 := (HM7.out.block hg).1; have h2 := HZ4.out.lt; have h3 := b5.out.size; rw [List.mem_singleton] at hx; omega)
        have oe : Off [w.heap.size] (ExP ⟨A5, c5, id, cr, A7, c7, val⟩) w7 := (o5.and o7).imp fun _ hh => ⟨hh.1, HO1.out, hh.2, HO2.out⟩
        refine ⟨⟨A5, c5, id, cr, A7, c7, val⟩, rfl, ?_, ext_out oe _ _ _, below_ext HB7.out (Nat.le_refl _) _ _ _⟩
        rw [← HN1.out, ← HN2.out]
        rfl
      · have HNI : Hid (((l.map Ex.v).getD i default).id ≠ q) := Lib.hid (by rw [HV1.out]; exact hid)
        have HEQ := Lib.hid (equal_no (wr.alloc (.cells #[.slice ia n1 ic, .bool cr, .slice va n2 vc] 26)) _ _ ia A2 ic c2 n1 m id q hn1 HM.out (hr1.under hq1) hrq ho1 HQ.out hid)
        clear hid hr1 ho1 hr2 ho2 hn1 hn2 hq1 hH1 hrq
        go_wp2_with fail
        refine HEQ.out.mono ?_
        rintro e w4 ⟨rfl, hw4⟩
        have HW4 := Lib.hid hw4.symm
        rw [HW4.out]
        clear hw4 HW4
        go_wp2_with fail
        go_roundw
        case rel => exact ⟨i + 1, by omega, by go_num, fun j hj => by
          rcases Nat.lt_or_ge j i with h3 | h3
          · exact HA.out j h3
          · obtain rfl : j = i := by omega
            exact HNI.out, HZ4.out, HB4.out⟩
        case measure => simp [intOf]; omega
    · have HFE : Hid (o = none) := Lib.hid (by rw [HOO.out]; exact first_none fun j hj => HA.out j (by rw [List.length_map, HN.out] at hj; omega))
      have z0 := HZ3.out.cell 0
      have z1 := HZ3.out.cell 1
      have z2 := HZ3.out.cell 2
      have y0 := HZ3.out.open_ 0
      have y1 := HZ3.out.open_ 1
      have y2 := HZ3.out.open_ 2
      go_wp2_with fail
      rw [HFE.out]
      exact ret_ext rfl rfl rfl (((HZ3.out.stored 0 _).stored 1 _).stored 2 _) rfl ⟨⟨none, 0, [], false, none, 0, []⟩, rfl, rfl, exNone _, below_ext HB3.out (Nat.le_refl _) _ _ _⟩
end Go.Proofs.Ytaemjgemkgiahaa
namespace Go.Proofs.Ytaemjgemkgiahaa
open Go.RowKit
set_option linter.unusedVariables false
set_option linter.unusedSimpArgs false
attribute [local go_sem ↓] Go.wp_at_zero Go.wp_at_succ

theorem xp_one {w : World} {e : Ex} (h : Off [] (ExP e) w) : Off [] (XP (some ⟨w.heap.size, 0, none⟩) 1 [e]) (w.alloc (.cells (xcell e).toArray 26)) := by
  have hH := Holds.fresh w 26 (xcell e).toArray
  intro w' h2 h3
  have hs : (w.alloc (.cells (xcell e).toArray 26)).heap.size = w.heap.size + 1 := by simp
  have hH' : Holds w' w.heap.size 26 (xcell e).toArray := (h3 _ (by simp) (by omega)).trans hH
  refine ⟨⟨by simp, by omega, fun _ => ⟨w.heap.size, 0, rfl, by omega, fun j hj => ?_⟩⟩, fun x hx => ?_⟩
  · obtain rfl : j = 0 := by simp at hj; omega
    exact ⟨hH'.cell 0, hH'.cell 1, hH'.cell 2⟩
  · rw [List.mem_singleton.1 hx]
    exact (h.alloc _) w' h2 h3
/-- A row's cells by name. -/
def Of3 (e : Ex) (a : Option Addr) (n c : Nat) (b : Bool) (a2 : Option Addr) (n2 c2 : Nat) : Prop := xcell e = [.slice a n c, .bool b, .slice a2 n2 c2]
theorem same2a {w : World} {e1 e2 : Ex} {xa ya za ua : Option Addr} {xn xc yn yc zn zc un uc : Nat} {xb zb : Bool} (h1 : Off [] (ExP e1) w) (h2 : Off [] (ExP e2) w) (hv : e1.v = e2.v) (f1 : Of3 e1 xa xn xc xb ya yn yc) (f2 : Of3 e2 za zn zc zb ua un uc) :
    Calls Try.prog 11 #[.slice (some ⟨w.heap.size, 0, none⟩) 1 1, .slice (some ⟨w.heap.size + 1, 0, none⟩) 1 1] ((w.alloc (.cells #[.slice xa xn xc, .bool xb, .slice ya yn yc] 26)).alloc (.cells #[.slice za zn zc, .bool zb, .slice ua un uc] 26)) fun e w' => e = .returned (.bool true) ∧ Below ((w.alloc (.cells #[.slice xa xn xc, .bool xb, .slice ya yn yc] 26)).alloc (.cells #[.slice za zn zc, .bool zb, .slice ua un uc] 26)).heap.size ((w.alloc (.cells #[.slice xa xn xc, .bool xb, .slice ya yn yc] 26)).alloc (.cells #[.slice za zn zc, .bool zb, .slice ua un uc] 26)) w' := by
  have g1 : (xcell e1).toArray = #[.slice xa xn xc, .bool xb, .slice ya yn yc] := by rw [show xcell e1 = _ from f1]
  have g2 : (xcell e2).toArray = #[.slice za zn zc, .bool zb, .slice ua un uc] := by rw [show xcell e2 = _ from f2]
  rw [← g1, ← g2]
  have x1 := (xp_one h1).alloc (.cells (xcell e2).toArray 26)
  have x2 := xp_one (h2.alloc (.cells (xcell e1).toArray 26))
  rw [show (w.alloc (.cells (xcell e1).toArray 26)).heap.size = w.heap.size + 1 by simp] at x2
  exact exSame_any _ _ _ 1 1 1 [e1] [e2] x1.at_ x2.at_ rfl (by simp [hv])
theorem same2b {w : World} {e1 e2 : Ex} {xa ya za ua : Option Addr} {xn xc yn yc zn zc un uc : Nat} {xb zb : Bool} (h1 : Off [] (ExP e1) w) (h2 : Off [] (ExP e2) w) (hv : e1.v = e2.v) (f1 : Of3 e1 xa xn xc xb ya yn yc) (f2 : Of3 e2 za zn zc zb ua un uc) :
    Calls Try.prog 11 #[.slice (some ⟨w.heap.size + 1, 0, none⟩) 1 1, .slice (some ⟨w.heap.size, 0, none⟩) 1 1] ((w.alloc (.cells #[.slice za zn zc, .bool zb, .slice ua un uc] 26)).alloc (.cells #[.slice xa xn xc, .bool xb, .slice ya yn yc] 26)) fun e w' => e = .returned (.bool true) ∧ Below ((w.alloc (.cells #[.slice za zn zc, .bool zb, .slice ua un uc] 26)).alloc (.cells #[.slice xa xn xc, .bool xb, .slice ya yn yc] 26)).heap.size ((w.alloc (.cells #[.slice za zn zc, .bool zb, .slice ua un uc] 26)).alloc (.cells #[.slice xa xn xc, .bool xb, .slice ya yn yc] 26)) w' := by
  have g1 : (xcell e1).toArray = #[.slice xa xn xc, .bool xb, .slice ya yn yc] := by rw [show xcell e1 = _ from f1]
  have g2 : (xcell e2).toArray = #[.slice za zn zc, .bool zb, .slice ua un uc] := by rw [show xcell e2 = _ from f2]
  rw [← g1, ← g2]
  have x2 := (xp_one h2).alloc (.cells (xcell e1).toArray 26)
  have x1 := xp_one (h1.alloc (.cells (xcell e2).toArray 26))
  rw [show (w.alloc (.cells (xcell e2).toArray 26)).heap.size = w.heap.size + 1 by simp] at x1
  exact exSame_any _ _ _ 1 1 1 [e1] [e2] x1.at_ x2.at_ rfl (by simp [hv])
theorem FindPost.three {w w' : World} {o : Option EV} {e : Ending} (h : FindPost w o e w') : ∃ (ex : Ex) (a : Option Addr) (n c : Nat) (b : Bool) (a2 : Option Addr) (n2 c2 : Nat), Of3 ex a n c b a2 n2 c2 ∧ ex.v = o.getD default ∧ e = .returned (.tuple #[.agg #[.slice a n c, .bool b, .slice a2 n2 c2], .bool o.isSome]) ∧ Off [] (ExP ex) w' ∧ Below w.heap.size w w' := by
  obtain ⟨ex, h1, rfl, h3, h4⟩ := h
  exact ⟨ex, _, _, _, _, _, _, _, rfl, h1, rfl, h3, h4⟩
theorem fit_exs {L : List EV} (h : exIs L = true) : FitX (exsTr L) := by
  obtain ⟨h12, h1⟩ := exIs_iff.1 h
  refine ⟨by simp [exsTr, Tr.kids]; omega, fun k hk => ?_⟩
  obtain ⟨e, he, rfl⟩ := List.mem_map.1 (show k ∈ L.map exTr from hk)
  obtain ⟨j, hj, rfl⟩ := List.getElem_of_mem he
  have h2 := h1 j hj
  unfold exOne at h2
  simp only [Bool.and_eq_true, decide_eq_true_eq] at h2
  have h3 : L.getD j default = L[j] := by simp [List.getD, hj]
  rw [h3] at h2
  have h4 := (idOk_iff.1 h2.1.1).2.1
  have h5 := h2.1.2
  generalize L[j] = e at *
  obtain ⟨id, cr, val⟩ := e
  dsimp only at h4 h5
  refine ⟨?_, fun p hp => ?_⟩
  · show (exParts ⟨id, cr, val⟩).length ≤ 12000
    unfold exParts
    cases cr <;> simp
  · have hp : p ∈ exParts ⟨id, cr, val⟩ := hp
    unfold exParts at hp
    cases cr <;> simp at hp
    · rcases hp with rfl | rfl <;> simp only [Tr.body] <;> omega
    · rcases hp with rfl | rfl | rfl <;> simp only [Tr.body, List.length_cons, List.length_nil] <;> omega
set_option maxRecDepth 100000 in
set_option maxHeartbeats 16000000 in
theorem law_nodes (w : World) (A : Option Addr) (c n : Nat) (l : List Ex) (h : XP A c l w) (hn : l.length = n) (hsz : ∀ x ∈ l, x.id.length ≤ 140737488351232 ∧ x.val.length ≤ 140737488351232)
    (A2 : Option Addr) (c2 m : Nat) (q : List Nat) (hr : Rd .u8 w w.heap.size A2 c2 q) (hm : q.length = m) (hq : ∀ x ∈ q, x < 256) :
    Calls Try.prog 3 #[.slice A n c, .slice A2 m c2] w fun e w' => e = .returned (.bool true) ∧ Below w.heap.size w w' := by
  have HLG := Lib.hid (long_any w A c n l h hn hsz)
  have HX := Lib.hid (Off.of_x h)
  have HR := Lib.hid (Off.of_rd hr (Nat.le_refl _))
  have HN := Lib.hid hn
  have HM := Lib.hid hm
  have HQ := Lib.hid hq
  clear h hn hsz hr hm hq
  go_enter Try.func3, Try.ntmps3
  go_wp2_with fail
  refine HLG.out.mono ?_
  rintro e w1 ⟨b, rfl, hb1, HSM⟩
  have HB1 := Lib.hid hb1
  clear hb1 HLG
  cases b
  case true =>
    go_wp2_with fail
    go_ret
    exact ⟨rfl, HB1.out⟩
  have hsm := HSM.out rfl
  have HS12 : Hid (∀ x ∈ l, x.id.length ≤ 12000 ∧ x.val.length ≤ 12000) := Lib.hid fun x hx => by have := hsm.2 x hx; omega
  have hn30 := hsm.1
  clear hsm HSM
  by_cases h40 : 40 < m
  case pos =>
    have d40 : decide ((40 : Int) < (m : Int)) = true := decide_eq_true (by omega)
    go_wp2_with fail
    go_ret
    exact ⟨rfl, HB1.out⟩
  have d40 : decide ((40 : Int) < (m : Int)) = false := decide_eq_false (by omega)
  have HXW : Hid (∀ W, Below w.heap.size w W → XP A c l W) := Lib.hid fun W hW => (HX.out.under hW).at_
  have HRW : Hid (∀ W, Below w.heap.size w W → Rd .u8 W W.heap.size A2 c2 q) := Lib.hid fun W hW => (HR.out.under hW).at_
  have his' := exIs'_any w1 A c n l (HXW.out _ HB1.out) HN.out
  go_wp2_with fail
  refine his'.mono ?_
  rintro e w2 ⟨rfl, hb2⟩
  have HB2 := Lib.hid (HB1.out.trans (hb2.mono HB1.out.size))
  have hfi := find_any w2 A A2 c n c2 m l q (HXW.out _ HB2.out) HN.out (HRW.out _ HB2.out) HM.out HQ.out HS12.out
  clear hb2 his' d40
  generalize hr0 : exIs (l.map Ex.v) = r at *
  have HRR := Lib.hid hr0
  clear hr0
  obtain ⟨o, HOO⟩ : ∃ o, Hid (o = firstX (l.map Ex.v) q) := ⟨_, rfl⟩
  rw [← HOO.out] at hfi
  go_wp2_with fail
  refine hfi.mono ?_
  rintro e w3 hp
  obtain ⟨e1, xa, xn, xc, xb, ya, yn, yc, f1, v1, rfl, o1, hb3⟩ := FindPost.three hp
  have HB3 := Lib.hid (HB2.out.trans (hb3.mono HB2.out.size))
  have HB4 : Hid (Below w.heap.size w (w3.alloc (.cells #[.slice xa xn xc, .bool xb, .slice ya yn yc] 26))) := Lib.hid (HB3.out.alloc HB3.out.size _)
  have hfi' := find'_any (w3.alloc (.cells #[.slice xa xn xc, .bool xb, .slice ya yn yc] 26)) A A2 c n c2 m l q (HXW.out _ HB4.out) HN.out (HRW.out _ HB4.out) HM.out HQ.out
  rw [← HOO.out] at hfi'
  have HH4 := Lib.hid (Holds.fresh w3 26 #[.slice xa xn xc, .bool xb, .slice ya yn yc])
  have HO1 := Lib.hid (o1.alloc (.cells #[.slice xa xn xc, .bool xb, .slice ya yn yc] 26))
  have HF1 := Lib.hid f1
  have HV1 := Lib.hid v1
  obtain ⟨sm, hsm⟩ : ∃ b, b = o.isSome := ⟨_, rfl⟩
  rw [← hsm]
  clear hfi hp hb3 o1 f1 v1
  go_wp2_with fail
  refine hfi'.mono ?_
  rintro e w5 hp
  obtain ⟨e2, za, zn, zc, zb, ua, un, uc, f2, v2, rfl, o2, hb5⟩ := FindPost.three hp
  rw [← hsm]
  have HB5 := Lib.hid (HB4.out.trans (hb5.mono HB4.out.size))
  have HH5 := Lib.hid (HH4.out.under hb5 HH4.out.lt)
  have HO15 := Lib.hid (HO1.out.under hb5)
  have hq6 : Below w5.heap.size w5 (w5.alloc (.cells #[.slice za zn zc, .bool zb, .slice ua un uc] 26)) := (Below.refl _ _).alloc (Nat.le_refl _) _
  obtain ⟨V, hV⟩ : ∃ V, V = w5.alloc (.cells #[.slice za zn zc, .bool zb, .slice ua un uc] 26) := ⟨_, rfl⟩
  have HB6 : Hid (Below w.heap.size w V) := Lib.hid (by rw [hV]; exact HB5.out.trans (hq6.mono HB5.out.size))
  have hx6 : Holds V w3.heap.size 26 #[.slice xa xn xc, .bool xb, .slice ya yn yc] := by rw [hV]; exact HH5.out.under hq6 HH5.out.lt
  have hz6 : Holds V w5.heap.size 26 #[.slice za zn zc, .bool zb, .slice ua un uc] := by rw [hV]; exact Holds.fresh _ _ _
  have HO16 : Hid (Off [] (ExP e1) V) := Lib.hid (by rw [hV]; exact HO15.out.under hq6)
  have HO26 : Hid (Off [] (ExP e2) V) := Lib.hid (by rw [hV]; exact o2.under hq6)
  have HF2 := Lib.hid f2
  have HVV : Hid (e1.v = e2.v) := Lib.hid (by rw [HV1.out, v2])
  have HV := Lib.hid hV
  clear hp hb5 o2 f2 v2 hq6 hV hfi' hsm HH4 HO1 HO15
  generalize hbx : w3.heap.size = bx at *
  have HSX : Hid (∀ W, Below V.heap.size V W → (fun W => (W.cell? ⟨bx, 0, none⟩ = some (.slice xa xn xc) ∧ W.cell? ⟨bx, 1, none⟩ = some (.bool xb) ∧ W.cell? ⟨bx, 2, none⟩ = some (.slice ya yn yc)) ∧ W.cell? ⟨w5.heap.size, 0, none⟩ = some (.slice za zn zc) ∧ W.cell? ⟨w5.heap.size, 1, none⟩ = some (.bool zb) ∧ W.cell? ⟨w5.heap.size, 2, none⟩ = some (.slice ua un uc)) W) := Lib.hid fun W hW => by
    have a := hx6.under hW hx6.lt
    have b := hz6.under hW hz6.lt
    exact ⟨⟨a.cell 0, a.cell 1, a.cell 2⟩, b.cell 0, b.cell 1, b.cell 2⟩
  clear hx6 hz6 hbx
  have HIS : Hid (∀ W, Below w.heap.size w W → Calls Try.prog 10 #[.slice A n c] W fun e w' => e = .returned (.bool r) ∧ Below W.heap.size W w') := Lib.hid fun W hW => by
    have h := exIs_any W A c n l (HXW.out _ hW) HN.out (fun x hx => (HS12.out x hx).1)
    rwa [HRR.out] at h
  go_wp2_with fail
  rw [← HV.out]
  clear HV
  cases r
  all_goals cases sm
  all_goals
    refine (HIS.out _ HB6.out).mono ?_
    rintro e w7 ⟨rfl, hb7⟩
    have b7 : Hid (Below V.heap.size V w7) := Lib.hid hb7
    obtain ⟨⟨k0, k1, k2⟩, k3, k4, k5⟩ := HSX.out _ hb7
    obtain ⟨⟨j0, j1, j2⟩, j3, j4, j5⟩ := HSX.out _ (hb7.alloc hb7.size (.cells #[.slice xa xn xc, .bool xb, .slice ya yn yc] 26))
    have hs2 := same2a (HO16.out.under hb7) (HO26.out.under hb7) HVV.out HF1.out HF2.out
    clear hb7
    go_wp2_with fail
    refine hs2.mono ?_
    rintro e w9 ⟨rfl, hb9⟩
    have ba : Below V.heap.size V ((w7.alloc (.cells #[.slice xa xn xc, .bool xb, .slice ya yn yc] 26)).alloc (.cells #[.slice za zn zc, .bool zb, .slice ua un uc] 26)) := (b7.out.alloc b7.out.size _).alloc (by have := b7.out.size; simp; omega) _
    have b9 : Hid (Below V.heap.size V w9) := Lib.hid (ba.trans (hb9.mono ba.size))
    clear hb9 ba hs2 k0 k1 k2 k3 k4 k5 j0 j1 j2 j3 j4 j5
    have HB9 := Lib.hid (HB6.out.trans (b9.out.mono HB6.out.size))
    clear HSX HIS HO16 HO26 HVV HF1 HF2 b7 b9
    first
    | (go_wp2_with fail
       refine (known17_any w9).mono ?_
       rintro e w10 ⟨rfl, hb10⟩
       have HF := Lib.hid (HB9.out.trans (hb10.mono HB9.out.size))
       clear hb10
       go_wp2_with fail
       go_ret
       exact ⟨rfl, HF.out⟩)
    | (have HND : Hid (∀ W, Below w.heap.size w W → Calls Try.prog 14 #[.slice A n c] W (MadeT W [] (exsTr (l.map Ex.v)))) := Lib.hid fun W hW => exNode_any W [] A c n l (HXW.out _ hW) HN.out HS12.out (by omega) (by simp)
       have HND' : Hid (∀ W, Below w.heap.size w W → Calls Try.prog 16 #[.slice A n c] W (MadeT W [] (exsTr (l.map Ex.v)))) := Lib.hid fun W hW => exNode'_any W [] A c n l (HXW.out _ hW) HN.out HS12.out (by omega) (by simp)
       go_wp2_with fail
       refine (HND.out _ HB9.out).mono ?_
       rintro e w10 hm10
       obtain ⟨lt, pt, pa, pn, pc, pk, pm, pd, rfl, h6, hT, hO, hb10⟩ := MadeT.six hm10
       have HB10 := Lib.hid (HB9.out.trans (hb10.mono HB9.out.size))
       have hLT : lt.val = .agg #[.int .u8 (pt : Int), .slice pa pn pc, .slice pk pm pd] := by rw [Lt.val, ← lcell_cells, show lcell lt = _ from h6]
       have hget := getX_any w10 lt hO (by rw [hT]; exact fit_exs HRR.out)
       rw [hLT, hT] at hget
       clear hm10 hb10 hLT h6 hT hO
       go_wp2_with fail
       refine hget.mono ?_
       rintro e w11 hpost
       obtain ⟨A11, c11, l11, b11, rfl, hx11, hb11, H11⟩ := getX_open hpost
       obtain ⟨rfl, hxs, hxt⟩ | ⟨_, _, hno⟩ := H11.out
       case inr => exact absurd rfl (hno _ HRR.out)
       have hvv : l11.map Ex.v = l.map Ex.v := exsTr_inj hxt
       have hl11 : l11.length = n := by rw [← HN.out]; have := congrArg List.length hvv; simpa using this
       rw [hl11]
       have HB11 := Lib.hid (HB10.out.trans (hb11.mono HB10.out.size))
       have HX11 := Lib.hid (Off.of_x hx11)
       have HVV2 := Lib.hid hvv
       have HL11 := Lib.hid hl11
       clear hget hpost hx11 hb11 H11 hxs hxt hvv hl11
       go_wp2_with fail
       refine (HND.out _ HB11.out).mono ?_
       rintro e w12 hm12
       obtain ⟨lt2, qt, qa, qn, qc, qk, qm, qd, rfl, h62, hT2, hO2, hb12⟩ := MadeT.six hm12
       have HB12 := Lib.hid (HB11.out.trans (hb12.mono HB11.out.size))
       have H1112 := Lib.hid hb12
       have HLT2 : Hid (lt2.val = .agg #[.int .u8 (qt : Int), .slice qa qn qc, .slice qk qm qd]) := Lib.hid (by rw [Lt.val, ← lcell_cells, show lcell lt2 = _ from h62])
       have HT2 := Lib.hid hT2
       have HO2 := Lib.hid hO2
       clear hm12 hb12 h62 hT2 hO2
       go_wp2_with fail
       refine (HND'.out _ HB12.out).mono ?_
       rintro e w13 hm13
       obtain ⟨lt3, rt, ra, rn, rc, rk, rm, rd_, rfl, h63, hT3, hO3, hb13⟩ := MadeT.six hm13
       have HB13 := Lib.hid (HB12.out.trans (hb13.mono HB12.out.size))
       have H1113 := Lib.hid (H1112.out.trans (hb13.mono H1112.out.size))
       have hLT3 : lt3.val = .agg #[.int .u8 (rt : Int), .slice ra rn rc, .slice rk rm rd_] := by rw [Lt.val, ← lcell_cells, show lcell lt3 = _ from h63]
       have hsame := same'_any lt2 lt3 w13 w13.heap.size (HO2.out.under hb13).at_ hO3.at_ (Nat.le_refl _) true (by rw [HT2.out, hT3]; simp)
       rw [HLT2.out, hLT3] at hsame
       clear hm13 hb13 h63 hT3 hO3 hLT3 HLT2
       go_wp2_with fail
       refine hsame.mono ?_
       rintro e w14 ⟨rfl, hb14⟩
       have HB14 := Lib.hid (HB13.out.trans (hb14.mono HB13.out.size))
       have H1114 := Lib.hid (H1113.out.trans (hb14.mono H1113.out.size))
       have hxsm := exSame_any w14 A11 A c11 c n l11 l (HX11.out.under H1114.out).at_ (HXW.out _ HB14.out) HL11.out HVV2.out
       clear hsame hb14
       go_wp2_with fail
       refine hxsm.mono ?_
       rintro e w15 ⟨rfl, hb15⟩
       have HB15 := Lib.hid (HB14.out.trans (hb15.mono HB14.out.size))
       clear hxsm hb15
       go_wp2_with fail
       refine (known17_any w15).mono ?_
       rintro e w16 ⟨rfl, hb16⟩
       have HF := Lib.hid (HB15.out.trans (hb16.mono HB15.out.size))
       clear hb16
       go_wp2_with fail
       go_ret
       exact ⟨rfl, HF.out⟩)
end Go.Proofs.Ytaemjgemkgiahaa
