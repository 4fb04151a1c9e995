/-
  Any serial, at any time, in any row that is such; later it stays so (statement CrlGone): the law's walk.
-/
import Derived.Test.YtionikhhdfkhdaaDoorGn5
namespace Go.Proofs.YtionikhhdfkhdaaDoor
open Go.RowKit
set_option linter.unusedVariables false
set_option linter.unusedSimpArgs false
attribute [local go_sem ↓] Go.wp_at_zero Go.wp_at_succ

set_option maxRecDepth 100000 in
set_option maxHeartbeats 8000000 in
theorem law_gone (w : World) (hT : Lib.Utf8Tabs 0 1 w) (cl : Cl) (h : ClP cl w) (A2 : Option Addr) (c2 n2 : Nat) (s : List Nat) (hs : Rd .u32 w w.heap.size A2 c2 s) (hn2 : s.length = n2) (t m : Int) (ht : -9223372036854775808 ≤ t) (hm : m ≤ 9223372036854775807) :
    Calls Tryd.prog 3 #[.agg (ccell cl).toArray, .slice A2 n2 c2, .int .i64 t, .int .i64 m] w fun e w' => e = .returned (.bool true) ∧ Below w.heap.size w w' := by
  have hq0 : Below w.heap.size w (w.alloc (.cells (ccell cl).toArray 26)) := (Below.refl _ _).alloc (Nat.le_refl _) _
  have hH0 := Holds.fresh w 26 (ccell cl).toArray
  obtain ⟨V, hV⟩ : ∃ V, V = w.alloc (.cells (ccell cl).toArray 26) := ⟨_, rfl⟩
  rw [← hV] at hq0 hH0
  have hoc := (Off.of_c h).under hq0
  have hos := (Off.of_rd hs (Nat.le_refl _)).under hq0
  have HLO := Lib.hid (long19_any V cl)
  have HIS' := Lib.hid (fun W (hW : Below V.heap.size V W) => crlIs'_any W cl (hoc.under hW).at_)
  have HSER := Lib.hid (fun W (hW : Below V.heap.size V W) (b : Bool) (hb : okN s = b) => is'_at W _ A2 c2 n2 s (hos.under hW).at_ hn2 b hb)
  have HGO := Lib.hid (fun W (hW : Below V.heap.size V W) (u : Int) => gone_any W cl ((hoc.imp fun _ hh => hh.2.1).under hW) 0 A2 c2 n2 s (hos.under hW) hn2 u)
  have HGO' := Lib.hid (fun W (hW : Below V.heap.size V W) (u : Int) => gone'_any W cl ((hoc.imp fun _ hh => hh.2.1).under hW) 0 A2 c2 n2 s (hos.under hW) hn2 u)
  have HKN := Lib.hid (fun W (hW : Below V.heap.size V W) => known19_any W (Utf8Tabs_below hT (hq0.trans (hW.mono hq0.size))))
  have HB0 := Lib.hid hq0
  have HV := Lib.hid hV
  obtain ⟨ok, hok⟩ : ∃ b, b = crlOk cl.v := ⟨_, rfl⟩
  obtain ⟨lo, hlo⟩ : ∃ b, b = decide (20 < cl.iss.length ∨ 40 < cl.gone.length ∨ 1000 < cl.sig.length) := ⟨_, rfl⟩
  obtain ⟨gs, hgs⟩ : ∃ f : Int → Bool, f = fun u => goneS (cl.gone.map Gn.v) s u := ⟨_, rfl⟩
  have HGM : Hid (∀ u v, u ≤ v → gs u = true → gs v = true) := Lib.hid fun u v huv hu => by rw [hgs] at hu ⊢; exact goneS_more hu huv
  have hgs2 : ∀ u, goneS (cl.gone.map Gn.v) s u = gs u := fun u => by rw [hgs]
  simp only [hgs2] at HGO HGO'
  rw [← hok] at HIS'
  rw [← hlo] at HLO
  have HOKS : Hid (∀ b, okN s = b → okN s = b) := Lib.hid fun _ h => h
  obtain ⟨ia, ic, iss, tat, tnx, ga, gc, gone, sa, sc, sig⟩ := cl
  simp only [ccell] at hH0 HV HLO HIS' HGO HGO' ⊢
  clear h hs hn2 hoc hos hq0 hV hT hok hlo hgs hgs2
  generalize iss.length = isn at *
  generalize gone.length = gn at *
  generalize sig.length = sn at *
  have HC : Hid (∀ W, Below V.heap.size V W → W.cell? ⟨w.heap.size, 0, none⟩ = some (.slice ia isn ic) ∧ W.cell? ⟨w.heap.size, 1, none⟩ = some (.int .i64 tat) ∧ W.cell? ⟨w.heap.size, 2, none⟩ = some (.int .i64 tnx) ∧ W.cell? ⟨w.heap.size, 3, none⟩ = some (.slice ga gn gc) ∧ W.cell? ⟨w.heap.size, 4, none⟩ = some (.slice sa sn sc)) := Lib.hid fun W hW => by
    have hh := hH0.under hW hH0.lt
    exact ⟨hh.cell 0, hh.cell 1, hh.cell 2, hh.cell 3, hh.cell 4⟩
  have c0 := hH0.cell 0
  have c1 := hH0.cell 1
  have c2 := hH0.cell 2
  have c3 := hH0.cell 3
  have c4 := hH0.cell 4
  rw [HV.out] at c0 c1 c2 c3 c4
  clear hH0
  go_enter Tryd.func3, Tryd.ntmps3
  go_wp2_with fail
  rw [← HV.out]
  refine HLO.out.mono ?_
  rintro e w1 ⟨rfl, hb1⟩
  have HB1 := Lib.hid hb1
  have HBW1 := Lib.hid (HB0.out.trans (hb1.mono HB0.out.size))
  clear c0 c1 c2 c3 c4 HV HLO hb1
  cases lo with
  | true =>
    go_wp2_with fail
    go_ret
    exact ⟨rfl, HBW1.out⟩
  | false =>
  rcases hos : okN s with _ | _
  · have HS := Lib.hid (HSER.out w1 HB1.out false hos)
    clear hos
    go_wp2_with fail
    refine HS.out.mono ?_
    rintro e w2 ⟨rfl, rfl⟩
    go_wp2_with fail
    go_ret
    exact ⟨rfl, HBW1.out⟩
  have HS := Lib.hid (HSER.out w1 HB1.out true hos)
  clear hos
  go_wp2_with fail
  refine HS.out.mono ?_
  rintro e w2 ⟨rfl, rfl⟩
  by_cases hm0 : m < 0
  · have d : decide (m < (0 : Int)) = true := decide_eq_true hm0
    go_wp2_with fail
    go_ret
    exact ⟨rfl, HBW1.out⟩
  have dm0 : decide (m < (0 : Int)) = false := decide_eq_false hm0
  by_cases hm1 : 1099511627776 < m
  · have d : decide ((1099511627776 : Int) < m) = true := decide_eq_true hm1
    go_wp2_with fail
    go_ret
    exact ⟨rfl, HBW1.out⟩
  have dm1 : decide ((1099511627776 : Int) < m) = false := decide_eq_false hm1
  by_cases ht1 : 1152921504606846976 < t
  · have d : decide ((1152921504606846976 : Int) < t) = true := decide_eq_true ht1
    go_wp2_with fail
    go_ret
    exact ⟨rfl, HBW1.out⟩
  have dt1 : decide ((1152921504606846976 : Int) < t) = false := decide_eq_false ht1
  have hw : IntKind.i64.wrap (t + m) = t + m := by
    simp [IntKind.wrap, IntKind.bits, IntKind.signed]
    try omega
  have HLE : Hid (t ≤ t + m) := Lib.hid (by omega)
  obtain ⟨tm, htm⟩ : ∃ x, x = t + m := ⟨_, rfl⟩
  have HI := Lib.hid (HIS'.out w1 HB1.out)
  obtain ⟨k0, k1, k2, k3, k4⟩ := HC.out w1 HB1.out
  clear HS HSER
  go_wp2_with fail
  refine HI.out.mono ?_
  rintro e w2 ⟨rfl, hb2⟩
  have HB2 := Lib.hid (HB1.out.trans (hb2.mono HB1.out.size))
  have HBW2 := Lib.hid (HBW1.out.trans (hb2.mono HBW1.out.size))
  clear hb2 k0 k1 k2 k3 k4 HI
  cases ok with
  | false =>
    go_wp2_with fail
    go_ret
    exact ⟨rfl, HBW2.out⟩
  | true =>
  obtain ⟨k0, k1, k2, k3, k4⟩ := HC.out w2 HB2.out
  have HG1 := Lib.hid (HGO.out w2 HB2.out t)
  go_wp2_with fail
  refine HG1.out.mono ?_
  rintro e w3 ⟨rfl, hb3⟩
  have HB3 := Lib.hid (HB2.out.trans (hb3.mono HB2.out.size))
  have HBW3 := Lib.hid (HBW2.out.trans (hb3.mono HBW2.out.size))
  clear hb3 k0 k1 k2 k3 k4 HG1
  obtain ⟨k0, k1, k2, k3, k4⟩ := HC.out w3 HB3.out
  have HG2 := Lib.hid (HGO'.out w3 HB3.out t)
  have HMO := Lib.hid (HGM.out t (t + m) HLE.out)
  obtain ⟨g1, hg1⟩ : ∃ b, b = gs t := ⟨_, rfl⟩
  rw [← hg1] at HG2 HMO ⊢
  clear hg1
  go_wp2_with fail
  refine HG2.out.mono ?_
  rintro e w4 ⟨rfl, hb4⟩
  have HB4 := Lib.hid (HB3.out.trans (hb4.mono HB3.out.size))
  have HBW4 := Lib.hid (HBW3.out.trans (hb4.mono HBW3.out.size))
  clear hb4 k0 k1 k2 k3 k4 HG2
  have dg : (g1 == g1) = true := by simp
  cases g1 with
  | false =>
    have HK := Lib.hid (HKN.out w4 HB4.out)
    go_wp2_with fail
    refine HK.out.mono ?_
    rintro e w5 ⟨rfl, hb5⟩
    have HBW5 := Lib.hid (HBW4.out.trans (hb5.mono HBW4.out.size))
    clear hb5
    go_wp2_with fail
    go_ret
    exact ⟨rfl, HBW5.out⟩
  | true =>
    have HG3 := HGO.out w4 HB4.out (t + m)
    rw [HMO.out rfl] at HG3
    have HG3 := Lib.hid HG3
    obtain ⟨k0, k1, k2, k3, k4⟩ := HC.out w4 HB4.out
    go_wp2_with fail
    refine HG3.out.mono ?_
    rintro e w5 ⟨rfl, hb5⟩
    have HB5 := Lib.hid (HB4.out.trans (hb5.mono HB4.out.size))
    have HBW5 := Lib.hid (HBW4.out.trans (hb5.mono HBW4.out.size))
    have HK := Lib.hid (HKN.out w5 HB5.out)
    clear hb5 k0 k1 k2 k3 k4 HG3
    go_wp2_with fail
    refine HK.out.mono ?_
    rintro e w6 ⟨rfl, hb6⟩
    have HBW6 := Lib.hid (HBW5.out.trans (hb6.mono HBW5.out.size))
    clear hb6
    go_wp2_with fail
    go_ret
    exact ⟨rfl, HBW6.out⟩
end Go.Proofs.YtionikhhdfkhdaaDoor
