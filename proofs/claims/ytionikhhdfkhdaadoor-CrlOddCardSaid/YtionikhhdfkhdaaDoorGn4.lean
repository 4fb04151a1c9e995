/-
  Is a serial among those that were revoked? By crl, by the document; the known answers.
-/
import Derived.Test.YtionikhhdfkhdaaDoorGn2
import Derived.Test.YtionikhhdfkhdaaDoorGn3
namespace Go.Proofs.YtionikhhdfkhdaaDoor
open Go.RowKit
set_option linter.unusedVariables false
set_option linter.unusedSimpArgs false
attribute [local go_sem ↓] Go.wp_at_zero Go.wp_at_succ

def RelEN (n : Nat) (l l' : List Nat) (W : World) (i : Value) (wr : World) : Prop :=
  ∃ k q : Nat, k ≤ n ∧ i = .int .i64 k ∧ Hid (∀ j, j < k → l.getD j 0 = l'.getD j 0) ∧ wr = W.drewN q
set_option maxRecDepth 100000 in
set_option maxHeartbeats 1000000 in
theorem equalN_any (w : World) (B B' : Nat) (A A' : Option Addr) (c c' n n' : Nat) (l l' : List Nat) (hn : l.length = n) (hn' : l'.length = n') (hr : Rd .u32 w B A c l) (hr' : Rd .u32 w B' A' c' l') :
    Calls Tryd.prog 20 #[.slice A n c, .slice A' n' c'] w fun e w' => e = .returned (.bool (decide (l = l'))) ∧ ∃ q, w' = w.drewN q := by
  obtain ⟨v, hv0⟩ : ∃ v, v = decide (l = l') := ⟨_, rfl⟩
  rw [← hv0]
  have HV : Hid (v = true ↔ l = l') := Lib.hid (by rw [hv0]; simp)
  have HN := Lib.hid hn
  have HN' := Lib.hid hn'
  have hlc := hr.1
  have hc63 := hr.2.1
  have hlc' := hr'.1
  have hc63' := hr'.2.1
  clear hv0
  by_cases hnn : n = n'
  case neg =>
    have q1 : ((n : Int) != (n' : Int)) = true := by rw [bne_iff_ne]; omega
    have HF : Hid (v = false) := Lib.hid (by
      cases v
      · rfl
      · exact absurd (HV.out.1 rfl) (fun e => hnn (by rw [← HN.out, ← HN'.out, e])))
    go_enter Tryd.func20, Tryd.ntmps20
    go_wp2_with fail
    go_ret
    exact ⟨by rw [HF.out]; rfl, 0, rfl⟩
  case pos =>
  subst hnn
  go_enter Tryd.func20, Tryd.ntmps20
  go_wp2_with fail
  go_loopw [13] (fun i wr => RelEN n l l' w i wr) (fun i _ => n - (intOf i).toNat)
  case atStart => exact ⟨0, 0, Nat.zero_le _, rfl, Lib.hid (fun i h => by omega), rfl⟩
  case round =>
    obtain ⟨k, q, hk, rfl, HD, rfl⟩ := hrel
    have hrb := hr.drewN q
    have hrb' := hr'.drewN q
    have HDD := Lib.hid (fun m => World.drewN_drewN w q m)
    obtain ⟨V, HV2⟩ : ∃ V, Hid (V = w.drewN q) := ⟨_, rfl⟩
    rw [← HV2.out] at hrb hrb' ⊢
    by_cases hkn : k < n
    case neg =>
      obtain rfl : k = n := by omega
      have hf : decide ((k : Int) < (k : Int)) = false := decide_eq_false (by omega)
      have hf2 : decide (k < k) = false := decide_eq_false (by omega)
      have hE : l = l' := by
        apply List.ext_getElem (by rw [HN.out, HN'.out])
        intro i h1 h2
        have := HD.out i (by have := HN.out; omega)
        simpa [List.getD, h1, h2] using this
      have HT := Lib.hid (HV.out.2 hE)
      clear hE
      go_wp2_with fail
      go_ret
      exact ⟨by rw [HT.out]; rfl, q, HV2.out⟩
    case pos =>
    obtain ⟨b, off, rfl, hb, hx⟩ := hrb.2.2 (by have := HN.out; omega)
    obtain ⟨b', off', rfl, hb', hy⟩ := hrb'.2.2 (by have := HN'.out; omega)
    have hx1 := hx k (by have := HN.out; omega)
    have hy1 := hy k (by have := HN'.out; omega)
    obtain ⟨a, Ha⟩ : ∃ a, Hid (l.getD k 0 = a) := ⟨_, rfl⟩
    obtain ⟨a', Ha'⟩ : ∃ a, Hid (l'.getD k 0 = a) := ⟨_, rfl⟩
    rw [Ha.out] at hx1
    rw [Ha'.out] at hy1
    have hk0 : (0 : Int) ≤ (k : Int) := by omega
    have hkI : (k : Int) < (n : Int) := by omega
    clear hx hy
    by_cases hab : a = a'
    case neg =>
      have q2 : ((a : Int) != (a' : Int)) = true := by rw [bne_iff_ne]; omega
      have HF : Hid (v = false) := Lib.hid (by
        cases v
        · rfl
        · exfalso
          apply hab
          rw [← Ha.out, ← Ha'.out, HV.out.1 rfl])
      clear hab
      go_wp2_with fail
      go_quiet (fail)
      go_wp2_with fail
      go_ret
      exact ⟨by rw [HF.out]; rfl, q + nq, by rw [HV2.out, HDD.out]⟩
    case pos =>
      have q2 : ((a : Int) != (a' : Int)) = false := by rw [hab]; simp
      have HD2 : Hid (∀ j, j < k + 1 → l.getD j 0 = l'.getD j 0) := Lib.hid (fun j h => by
        rcases Nat.lt_or_ge j k with h' | h'
        · exact HD.out j h'
        · obtain rfl : j = k := by omega
          rw [Ha.out, Ha'.out, hab])
      clear hab
      go_wp2_with fail
      go_quiet (fail)
      go_wp2_with fail
      go_roundw
      case rel => exact ⟨k + 1, q + nq, by omega, by go_num, HD2, by rw [HV2.out, HDD.out]⟩
      case measure => simp [intOf]; omega
theorem goneS_yes {l : List GV} {s : List Nat} {t : Int} {g : GV} (h : g ∈ l) (h1 : g.ser = s) (h2 : g.tm ≤ t) : goneS l s t = true := List.any_eq_true.2 ⟨g, h, by rw [decide_eq_true h1, decide_eq_true h2]; rfl⟩
theorem goneS_no {l : List GV} {s : List Nat} {t : Int} (h : ∀ j, j < l.length → (decide ((l.getD j default).ser = s) && decide ((l.getD j default).tm ≤ t)) = false) : goneS l s t = false := by
  unfold goneS
  rw [List.any_eq_false]
  intro x hx
  obtain ⟨j, hj, rfl⟩ := List.getElem_of_mem hx
  have h2 := h j hj
  rw [show l.getD j default = l[j] by simp only [List.getD, List.getElem?_eq_getElem hj, Option.getD_some]] at h2
  rw [h2]; simp
set_option maxRecDepth 100000 in
set_option maxHeartbeats 8000000 in
theorem gone_any (w : World) (cl : Cl) (h : Off [] (GsP cl.ga cl.gc cl.gone) w) (B2 : Nat) (A2 : Option Addr) (c2 n2 : Nat) (s : List Nat) (hs : Off [] (fun w => Rd .u32 w w.heap.size A2 c2 s) w) (hn2 : s.length = n2) (t : Int) :
    Calls Tryd.prog 8 #[.agg (ccell cl).toArray, .slice A2 n2 c2, .int .i64 t] w fun e w' => e = .returned (.bool (goneS (cl.gone.map Gn.v) s t)) ∧ Below w.heap.size w w' := by
  obtain ⟨r, HR⟩ : ∃ r, Hid (r = goneS (cl.gone.map Gn.v) s t) := ⟨_, rfl⟩
  rw [← HR.out]
  have hq0 : Below w.heap.size w (w.alloc (.cells (ccell cl).toArray 26)) := (Below.refl _ _).alloc (Nat.le_refl _) _
  have hH0 := Holds.fresh w 26 (ccell cl).toArray
  obtain ⟨ia, ic, iss, tat, tnx, ga, gc, gone, sa, sc, sig⟩ := cl
  dsimp only at h HR
  simp only [ccell] at hq0 hH0 ⊢
  obtain ⟨isn, hisn⟩ : ∃ k, iss.length = k := ⟨_, rfl⟩
  obtain ⟨gn, hgn⟩ : ∃ k, gone.length = k := ⟨_, rfl⟩
  obtain ⟨sn, hsn⟩ : ∃ k, sig.length = k := ⟨_, rfl⟩
  rw [hisn, hgn, hsn] at hq0 hH0 ⊢
  have HX := Lib.hid (h.under hq0)
  have HS := Lib.hid (hs.under hq0)
  have HB0 := Lib.hid hq0
  have HN2 := Lib.hid hn2
  have HGN := Lib.hid hgn
  have hgc := HX.out.at_.1.1
  have hgc63 := HX.out.at_.1.2.1
  rw [hgn] at hgc
  have c3 := hH0.cell 3
  clear h hs hn2 hq0 hH0 hgn hisn hsn
  go_enter Tryd.func8, Tryd.ntmps8
  go_wp2_with fail
  clear c3
  go_loopw [12] (fun iv wr => ∃ i : Nat, i ≤ gn ∧ iv = .int .i64 (i : Int) ∧ Hid (∀ j, j < i → (decide (((gone.map Gn.v).getD j default).ser = s) && decide (((gone.map Gn.v).getD j default).tm ≤ t)) = false) ∧ Below (w.alloc (.cells #[.slice ia isn ic, .int .i64 tat, .int .i64 tnx, .slice ga gn gc, .slice sa sn sc] 26)).heap.size (w.alloc (.cells #[.slice ia isn ic, .int .i64 tat, .int .i64 tnx, .slice ga gn gc, .slice sa sn sc] 26)) wr) (fun iv _ => gn - (intOf iv).toNat)
  case atStart => exact ⟨0, by omega, rfl, fun j hj => by omega, Below.refl _ _⟩
  case round =>
    obtain ⟨i, hi, rfl, HA, hB⟩ := hrel
    by_cases hlt : i < gn
    · have hx := (HX.out.under hB).at_
      obtain ⟨g, off, rfl, hg, hcs⟩ := hx.1.2.2 (by rw [HGN.out]; omega)
      obtain ⟨c0, c1⟩ := hcs i (by rw [HGN.out]; exact hlt)
      have hxe := hx.at_ (by rw [HGN.out]; exact hlt)
      have HV : Hid ((gone.map Gn.v).getD i default = (gone.getD i default).v) := Lib.hid (gv_at (by rw [HGN.out]; exact hlt))
      have HMM : Hid ((gone.getD i default).v ∈ gone.map Gn.v) := Lib.hid (List.mem_map_of_mem (getD_mem (by rw [HGN.out]; exact hlt)))
      obtain ⟨e, he⟩ : ∃ e, e = gone.getD i default := ⟨_, rfl⟩
      rw [← he] at c0 c1 hxe HV HMM
      clear he hcs
      obtain ⟨ea, ec, ser, tm⟩ := e
      obtain ⟨hr1, hd1⟩ := hxe
      dsimp only at c0 c1 hr1 hd1
      obtain ⟨n1, hn1⟩ : ∃ n1, ser.length = n1 := ⟨_, rfl⟩
      rw [hn1] at c0
      have hq1 : Below wr.heap.size wr (wr.alloc (.cells #[.slice ea n1 ec, .int .i64 tm] 38)) := (Below.refl _ _).alloc (Nat.le_refl _) _
      have HB2 := Lib.hid (hB.trans (hq1.mono hB.size))
      have hH1 := Holds.fresh wr 38 #[.slice ea n1 ec, .int .i64 tm]
      have HH1 := Lib.hid hH1
      have z0 := hH1.cell 0
      have z1 := hH1.cell 1
      have HEQ := Lib.hid (equalN_any (wr.alloc (.cells #[.slice ea n1 ec, .int .i64 tm] 38)) _ _ ea A2 ec c2 n1 n2 ser s hn1 HN2.out (hr1.under hq1) (HS.out.under HB2.out).at_)
      have HBB := Lib.hid (HB0.out.trans (HB2.out.mono HB0.out.size))
      have HNX : Hid ((decide (ser = s) && decide (tm ≤ t)) = false → ∀ j, j < i + 1 → (decide (((gone.map Gn.v).getD j default).ser = s) && decide (((gone.map Gn.v).getD j default).tm ≤ t)) = false) := Lib.hid fun hc j hj => by
        rcases Nat.lt_or_ge j i with h3 | h3
        · exact HA.out j h3
        · obtain rfl : j = i := by omega
          rw [HV.out]; exact hc
      clear hx hr1 hn1 hq1 hB hH1 hd1
      go_wp2_with fail
      refine HEQ.out.mono ?_
      rintro ex w5 ⟨rfl, q, hw5⟩
      have HB5 : Hid (Below (w.alloc (.cells #[.slice ia isn ic, .int .i64 tat, .int .i64 tnx, .slice (some ⟨g, off, none⟩) gn gc, .slice sa sn sc] 26)).heap.size (w.alloc (.cells #[.slice ia isn ic, .int .i64 tat, .int .i64 tnx, .slice (some ⟨g, off, none⟩) gn gc, .slice sa sn sc] 26)) w5) := Lib.hid (by rw [hw5]; exact below_drewN HB2.out _)
      have HBF : Hid (Below w.heap.size w w5) := Lib.hid (by rw [hw5]; exact below_drewN HBB.out _)
      have hH5 : Holds w5 wr.heap.size 38 #[.slice ea n1 ec, .int .i64 tm] := by rw [hw5]; exact HH1.out.drewN _
      have x1 := hH5.cell 1
      clear hw5 HEQ z0 z1 hH5
      by_cases hes : ser = s
      case neg =>
        rw [decide_eq_false hes]
        have HC := Lib.hid (HNX.out (by rw [decide_eq_false hes]; rfl))
        clear hes HNX
        go_wp2_with fail
        go_roundw
        case rel => exact ⟨i + 1, by omega, by go_num, HC, HB5.out⟩
        case measure => simp [intOf]; omega
      rw [decide_eq_true hes]
      by_cases htm : tm ≤ t
      · have HE : Hid (r = true) := Lib.hid (by rw [HR.out]; exact goneS_yes HMM.out hes htm)
        have d : decide (tm ≤ t) = true := decide_eq_true htm
        clear hes HNX
        go_wp2_with fail
        go_ret
        exact ⟨by rw [HE.out]; rfl, HBF.out⟩
      · have d : decide (tm ≤ t) = false := decide_eq_false htm
        have HC := Lib.hid (HNX.out (by rw [d, Bool.and_false]))
        clear hes HNX
        go_wp2_with fail
        go_roundw
        case rel => exact ⟨i + 1, by omega, by go_num, HC, HB5.out⟩
        case measure => simp [intOf]; omega
    · obtain rfl : i = gn := by omega
      have HE : Hid (r = false) := Lib.hid (by rw [HR.out]; exact goneS_no fun j hj => HA.out j (by rw [List.length_map, HGN.out] at hj; exact hj))
      have HBB := Lib.hid (HB0.out.trans (hB.mono HB0.out.size))
      go_wp2_with fail
      go_ret
      exact ⟨by rw [HE.out]; rfl, HBB.out⟩
set_option maxRecDepth 100000 in
set_option maxHeartbeats 8000000 in
theorem gone'_any (w : World) (cl : Cl) (h : Off [] (GsP cl.ga cl.gc cl.gone) w) (B2 : Nat) (A2 : Option Addr) (c2 n2 : Nat) (s : List Nat) (hs : Off [] (fun w => Rd .u32 w w.heap.size A2 c2 s) w) (hn2 : s.length = n2) (t : Int) :
    Calls Tryd.prog 9 #[.agg (ccell cl).toArray, .slice A2 n2 c2, .int .i64 t] w fun e w' => e = .returned (.bool (goneS (cl.gone.map Gn.v) s t)) ∧ Below w.heap.size w w' := by
  obtain ⟨r, HR⟩ : ∃ r, Hid (r = goneS (cl.gone.map Gn.v) s t) := ⟨_, rfl⟩
  rw [← HR.out]
  have hq0 : Below w.heap.size w (w.alloc (.cells (ccell cl).toArray 26)) := (Below.refl _ _).alloc (Nat.le_refl _) _
  have hH0 := Holds.fresh w 26 (ccell cl).toArray
  obtain ⟨ia, ic, iss, tat, tnx, ga, gc, gone, sa, sc, sig⟩ := cl
  dsimp only at h HR
  simp only [ccell] at hq0 hH0 ⊢
  obtain ⟨isn, hisn⟩ : ∃ k, iss.length = k := ⟨_, rfl⟩
  obtain ⟨gn, hgn⟩ : ∃ k, gone.length = k := ⟨_, rfl⟩
  obtain ⟨sn, hsn⟩ : ∃ k, sig.length = k := ⟨_, rfl⟩
  rw [hisn, hgn, hsn] at hq0 hH0 ⊢
  obtain ⟨w1, hw1⟩ : ∃ W, W = w.alloc (.cells #[.slice ia isn ic, .int .i64 tat, .int .i64 tnx, .slice ga gn gc, .slice sa sn sc] 26) := ⟨_, rfl⟩
  rw [← hw1] at hq0 hH0
  have HX := Lib.hid (h.under hq0)
  have HS := Lib.hid (hs.under hq0)
  have HB0 := Lib.hid hq0
  have HN2 := Lib.hid hn2
  have HGN := Lib.hid hgn
  have HH0 := Lib.hid hH0
  have HW1 := Lib.hid hw1
  have hgc := HX.out.at_.1.1
  have hgc63 := HX.out.at_.1.2.1
  rw [hgn] at hgc
  clear h hs hn2 hq0 hH0 hgn hisn hsn hw1
  go_enter Tryd.func9, Tryd.ntmps9
  go_wp2_with fail
  rw [← HW1.out]
  go_loopw [7] (fun iv wr => ∃ i : Nat, i ≤ gn ∧ iv = .int .i64 (i : Int) ∧ Hid (∀ j, j < i → (decide (((gone.map Gn.v).getD j default).ser = s) && decide (((gone.map Gn.v).getD j default).tm ≤ t)) = false) ∧ Below w1.heap.size w1 wr) (fun iv _ => gn - (intOf iv).toNat)
  case atStart => exact ⟨0, by omega, rfl, fun j hj => by omega, Below.refl _ _⟩
  case round =>
    obtain ⟨i, hi, rfl, HA, hB⟩ := hrel
    have c3 := (HH0.out.under hB HH0.out.lt).cell 3
    by_cases hlt : i < gn
    · have hx := (HX.out.under hB).at_
      obtain ⟨g, off, rfl, hg, hcs⟩ := hx.1.2.2 (by rw [HGN.out]; omega)
      obtain ⟨c0, c1⟩ := hcs i (by rw [HGN.out]; exact hlt)
      have hxe := hx.at_ (by rw [HGN.out]; exact hlt)
      have HV : Hid ((gone.map Gn.v).getD i default = (gone.getD i default).v) := Lib.hid (gv_at (by rw [HGN.out]; exact hlt))
      have HMM : Hid ((gone.getD i default).v ∈ gone.map Gn.v) := Lib.hid (List.mem_map_of_mem (getD_mem (by rw [HGN.out]; exact hlt)))
      obtain ⟨e, he⟩ : ∃ e, e = gone.getD i default := ⟨_, rfl⟩
      rw [← he] at c0 c1 hxe HV HMM
      clear he
      obtain ⟨ea, ec, ser, tm⟩ := e
      obtain ⟨hr1, hd1⟩ := hxe
      dsimp only at c0 c1 hr1 hd1
      obtain ⟨n1, hn1⟩ : ∃ n1, ser.length = n1 := ⟨_, rfl⟩
      rw [hn1] at c0
      have HB2 := Lib.hid hB
      have HCM : Hid (Calls Tryd.prog 17 #[.slice ea n1 ec, .slice A2 n2 c2] wr fun e w' => e = .returned (.int .i64 (cmpL ser s)) ∧ ∃ q, w' = wr.drewN q) := Lib.hid (by
        have h := cmp'_any wr _ _ ea A2 ec c2 ser s hr1 (HS.out.under hB).at_ (cmpL ser s) rfl
        rwa [hn1, HN2.out] at h)
      have HBB := Lib.hid (HB0.out.trans (hB.mono HB0.out.size))
      have HNX : Hid ((decide (ser = s) && decide (tm ≤ t)) = false → ∀ j, j < i + 1 → (decide (((gone.map Gn.v).getD j default).ser = s) && decide (((gone.map Gn.v).getD j default).tm ≤ t)) = false) := Lib.hid fun hc j hj => by
        rcases Nat.lt_or_ge j i with h3 | h3
        · exact HA.out j h3
        · obtain rfl : j = i := by omega
          rw [HV.out]; exact hc
      obtain ⟨z, hz⟩ : ∃ z, z = cmpL ser s := ⟨_, rfl⟩
      rw [← hz] at HCM
      have HZ : Hid (z = 0 ↔ ser = s) := Lib.hid (by rw [hz]; exact cmp_zero)
      have HC3 := Lib.hid c3
      have HC1 := Lib.hid c1
      clear hx hr1 hn1 hB hd1 hcs hz
      go_wp2_with fail
      refine HCM.out.mono ?_
      rintro ex w5 ⟨rfl, q, hw5⟩
      have HB5 : Hid (Below w1.heap.size w1 w5) := Lib.hid (by rw [hw5]; exact below_drewN HB2.out _)
      have HBF : Hid (Below w.heap.size w w5) := Lib.hid (by rw [hw5]; exact below_drewN HBB.out _)
      have x3 : w5.cell? ⟨w.heap.size, 3, none⟩ = some (.slice (some ⟨g, off, none⟩) gn gc) := by rw [hw5]; exact HC3.out
      have x1 : w5.cell? ⟨g, off + i * 2 + 1, none⟩ = some (.int .i64 tm) := by rw [hw5]; exact HC1.out
      clear hw5 HCM c0 c1 c3
      by_cases hes : z = 0
      case neg =>
        have d0 : (z == 0) = false := by rw [beq_eq_false_iff_ne]; exact hes
        have HC := Lib.hid (HNX.out (by rw [decide_eq_false (fun h => hes (HZ.out.2 h))]; rfl))
        clear hes HNX
        go_wp2_with fail
        go_roundw
        case rel => exact ⟨i + 1, by omega, by go_num, HC, HB5.out⟩
        case measure => simp [intOf]; omega
      have d0 : (z == 0) = true := by rw [beq_iff_eq]; exact hes
      have hes := HZ.out.1 hes
      by_cases htm : tm ≤ t
      · have HE : Hid (r = true) := Lib.hid (by rw [HR.out]; exact goneS_yes HMM.out hes htm)
        have d : decide (tm ≤ t) = true := decide_eq_true htm
        clear hes HNX
        go_wp2_with fail
        go_ret
        exact ⟨by rw [HE.out]; rfl, HBF.out⟩
      · have d : decide (tm ≤ t) = false := decide_eq_false htm
        have HC := Lib.hid (HNX.out (by rw [d, Bool.and_false]))
        clear hes HNX
        go_wp2_with fail
        go_roundw
        case rel => exact ⟨i + 1, by omega, by go_num, HC, HB5.out⟩
        case measure => simp [intOf]; omega
    · obtain rfl : i = gn := by omega
      have HE : Hid (r = false) := Lib.hid (by rw [HR.out]; exact goneS_no fun j hj => HA.out j (by rw [List.length_map, HGN.out] at hj; exact hj))
      have HBB := Lib.hid (HB0.out.trans (hB.mono HB0.out.size))
      go_wp2_with fail
      go_ret
      exact ⟨by rw [HE.out]; rfl, HBB.out⟩
end Go.Proofs.YtionikhhdfkhdaaDoor
