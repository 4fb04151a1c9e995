/-
  A row of revoked serials that grows; things of rows that may not be.
-/
import Derived.Test.YtionikhhdfkhdaaDoorGn5
import Derived.Test.YtionikhhdfkhdaaDoorKids
import Derived.Test.YtionikhhdfkhdaaDoorTh3
namespace Go.Proofs.YtionikhhdfkhdaaDoor
open Go.RowKit
set_option linter.unusedVariables false
set_option linter.unusedSimpArgs false
attribute [local go_sem ↓] Go.wp_at_zero Go.wp_at_succ

theorem info_gone : (Tryd.prog.info? 38).map (fun i => (i.zero, i.size, i.bytes)) = some (some (.agg #[.slice none 0 0, .int .i64 0]), 2, 32) := by kernel_rfl
/-- A row of one's own of revoked serials. -/
structure Gns (A : Option Addr) (c n : Nat) (l : List Gn) (w : World) : Prop where
  len : l.length = n
  own : OwnV 38 2 w A c n (l.flatMap gcell)
  each : ∀ x ∈ l, Off (bl A) (GnP x) w
theorem RowG.of_own {w : World} {A : Option Addr} {c n : Nat} {l : List Gn} (hl : l.length = n) (h : OwnV 38 2 w A c n (l.flatMap gcell)) : RowG w w.heap.size A c l := by
  subst hl
  refine ⟨h.le.1, h.le.2, fun hn => ?_⟩
  have at3 : ∀ j, j < l.length → ∀ t, t < 2 → ∀ v, (gcell (l.getD j default))[t]? = some v → ∃ g, A = some ⟨g, 0, none⟩ ∧ g < w.heap.size ∧ w.cell? ⟨g, 2 * j + t, none⟩ = some v := fun j hj t ht v hv => by
    have e : l[j]? = some (l.getD j default) := by simp [List.getD, hj]
    have f := flat_at (f := gcell) (m := 2) (L := l) (fun _ _ => rfl) e (j := t) ht
    obtain ⟨g, hA, hlt, hc, _⟩ := h.at_ (j := 2 * j + t) (v := v) (by rw [f]; exact hv)
    exact ⟨g, hA, hlt, hc⟩
  obtain ⟨g, rfl, hlt, _⟩ := at3 0 hn 0 (by omega) _ rfl
  refine ⟨g, 0, rfl, hlt, fun j hj => ?_⟩
  have k : ∀ t, t < 2 → ∀ v, (gcell (l.getD j default))[t]? = some v → w.cell? ⟨g, 2 * j + t, none⟩ = some v := fun t ht v hv => by
    obtain ⟨g', e, _, hc⟩ := at3 j hj t ht v hv
    injection e with e
    obtain rfl : g = g' := by injection e
    exact hc
  exact ⟨by rw [show 0 + j * 2 = 2 * j + 0 by omega]; exact k 0 (by omega) _ rfl, by rw [show 0 + j * 2 + 1 = 2 * j + 1 by omega]; exact k 1 (by omega) _ rfl⟩
section
variable {A : Option Addr} {c n : Nat} {l : List Gn} {w w' : World}
theorem Gns.nil (w : World) : Gns none 0 0 [] w := ⟨rfl, OwnV.nil _ _ _, fun x hx => by cases hx⟩
theorem Gns.under (h : Gns A c n l w) (hb : Below w.heap.size w w') : Gns A c n l w' :=
  ⟨h.len, h.own.keep fun g _ hg => hb.block g hg, fun x hx => (h.each x hx).under hb⟩
theorem Gns.lt (h : Gns A c n l w) {g : Nat} (hg : blockOf A = some g) : g < w.heap.size := h.own.lt hg
theorem Gns.gs (h : Gns A c n l w) : GsP A c l w := ⟨RowG.of_own h.len h.own, fun x hx => (h.each x hx).at_⟩
theorem Gns.push {e : Gn} {g' c' : Nat} (h : Gns A c n l w) (ht : Off (bl A) (GnP e) w) (ho : OwnV 38 2 w' (some ⟨g', 0, none⟩) c' (n + 1) (l.flatMap gcell ++ [.slice e.sa e.ser.length e.sc, .int .i64 e.tm])) (hg : w.grownBy w' (blockOf A))
    (ha : blockOf A = some g' ∨ g' = w.heap.size) : Gns (some ⟨g', 0, none⟩) c' (n + 1) (l ++ [e]) w' := by
  have hy : ∀ g, g ∈ bl (some ⟨g', 0, none⟩) → g ∈ bl A ∨ w.heap.size ≤ g := fun g hg => by
    have e := mem_bl.1 hg
    have e : g' = g := by simpa [blockOf] using e
    subst e
    rcases ha with h2 | h2
    · exact .inl (mem_bl.2 h2)
    · exact .inr (by omega)
  have hA : ∀ g, blockOf A = some g → g ∈ bl A := fun g e => mem_bl.2 e
  refine ⟨by simp [h.len], by rw [List.flatMap_append]; simpa [gcell] using ho, fun x hx2 => ?_⟩
  rcases List.mem_append.1 hx2 with h1 | h1
  · exact (h.each x h1).push hg hA hy
  · rw [List.mem_singleton.1 h1]; exact ht.push hg hA hy
end
theorem one2g {ia : Option Addr} {n1 ic : Nat} {t : Int} : ∀ u ∈ [Value.slice ia n1 ic, .int .i64 t], u.oneCell' = true := by
  intro u hu
  simp only [List.mem_cons, List.not_mem_nil, or_false] at hu
  rcases hu with rfl | rfl <;> rfl
theorem ret_crl {R : Ending → World → Prop} {tmps : Array Value} {w : World} {g : Nat} {t : TypeId} {cs : Array Value} {v : Value} {fn : Func} {p u : Tmp}
    (hr : fn.results = #[.cell p 26, .tmp u]) (hp : tmps.getD p undef = .pointer (some ⟨g, 0, none⟩)) (hu : tmps.getD u undef = v) (hg : Holds w g t cs) (hcs : cs.size = 5) (hR : R (.returned (.tuple #[.agg cs, v])) w) :
    bodyPost Tryd.prog fn R .ret { tmps := tmps, defers := [] } w := by
  have hi : (Tryd.prog.info? 26).map (·.size) = some cs.size := by rw [hcs]; kernel_rfl
  refine bodyPost_ret (v := .tuple #[.agg cs, v]) ?_ rfl hR
  rw [results_cell_tmp hr]
  have hp' : tmps[p]?.getD undef = .pointer (some ⟨g, 0, none⟩) := by simpa using hp
  have hu' : tmps[u]?.getD undef = v := by simpa using hu
  simp [hp', hu', asAddr, run_loadVar_row w g t _ cs (0, 0) _ hg Tryd.underlying26 rfl hi, Result.andThen]
theorem below_five {w w' : World} (h : Below w.heap.size w w') (g : Nat) (hg : w.heap.size ≤ g) (a b c d e : Value) : Below w.heap.size w (((((w'.setCell ⟨g, 0, none⟩ a).setCell ⟨g, 1, none⟩ b).setCell ⟨g, 2, none⟩ c).setCell ⟨g, 3, none⟩ d).setCell ⟨g, 4, none⟩ e) :=
  ((((h.setCell (p := ⟨g, 0, none⟩) hg _).setCell (p := ⟨g, 1, none⟩) hg _).setCell (p := ⟨g, 2, none⟩) hg _).setCell (p := ⟨g, 3, none⟩) hg _).setCell (p := ⟨g, 4, none⟩) hg _
set_option maxRecDepth 100000 in
set_option maxHeartbeats 2000000 in
theorem node_no (w : World) (cl : Cl) (h : ClP cl w) (hT : Lib.Utf8Tabs 0 1 w) (hsz : ∀ x ∈ cl.iss, (bts x.s).length ≤ 9223372036854775807) (hno : crlOk cl.v = false) :
    Calls Tryd.prog 13 #[.agg (ccell cl).toArray] w fun e w' => e = .returned (.agg #[.int .u8 0, .slice none 0 0, .slice none 0 0]) ∧ Below w.heap.size w w' := by
  have hq0 : Below w.heap.size w ((w.alloc (.cells (ccell cl).toArray 26)).alloc (.cells #[.int .u8 0, .slice none 0 0, .slice none 0 0] 43)) := ((Below.refl _ _).alloc (Nat.le_refl _) _).alloc (by simp) _
  have hH0 := (Holds.fresh w 26 (ccell cl).toArray).alloc (.cells #[.int .u8 0, .slice none 0 0, .slice none 0 0] 43)
  have hz := Holds.fresh (w.alloc (.cells (ccell cl).toArray 26)) 43 #[.int .u8 0, .slice none 0 0, .slice none 0 0]
  rw [show (w.alloc (.cells (ccell cl).toArray 26)).heap.size = w.heap.size + 1 by simp] at hz
  have his := crlIs_any ((w.alloc (.cells (ccell cl).toArray 26)).alloc (.cells #[.int .u8 0, .slice none 0 0, .slice none 0 0] 43)) cl ((Off.of_c h).under hq0).at_ (Utf8Tabs_below hT hq0) hsz
  rw [hno] at his
  obtain ⟨ia, ic, iss, tat, tnx, ga, gc, gone, sa, sc, sig⟩ := cl
  simp only [ccell] at hq0 hH0 his hz ⊢
  generalize iss.length = isn at *
  generalize gone.length = gn at *
  generalize sig.length = sn at *
  have HIS := Lib.hid his
  have HB0 := Lib.hid hq0
  have HZ := Lib.hid hz
  have c0 := hH0.cell 0
  have c1 := hH0.cell 1
  have c2 := hH0.cell 2
  have c3 := hH0.cell 3
  have c4 := hH0.cell 4
  clear h hT hsz hno hq0 hH0 his hz
  go_enter Tryd.func13, Tryd.ntmps13
  go_wp2_with fail
  refine HIS.out.mono ?_
  rintro e w2 ⟨rfl, hb2⟩
  have HB2 := Lib.hid (HB0.out.trans (hb2.mono HB0.out.size))
  have hz2 := HZ.out.under hb2 HZ.out.lt
  have HZ2 := Lib.hid hz2
  have z0 := hz2.cell 0
  have z1 := hz2.cell 1
  have z2 := hz2.cell 2
  have y0 := hz2.open_ 0
  have y1 := hz2.open_ 1
  have y2 := hz2.open_ 2
  clear hb2 c0 c1 c2 c3 c4 hz2 HIS
  go_wp2_with fail
  refine ret_one rfl rfl (((HZ2.out.stored 0 _).stored 1 _).stored 2 _) rfl ?_
  have hL : w.heap.size ≤ w.heap.size + 1 := by omega
  exact ⟨rfl, ((HB2.out.setCell (p := ⟨w.heap.size + 1, 0, none⟩) hL _).setCell (p := ⟨w.heap.size + 1, 1, none⟩) hL _).setCell (p := ⟨w.heap.size + 1, 2, none⟩) hL _⟩
set_option maxRecDepth 100000 in
set_option maxHeartbeats 2000000 in
theorem get_none (w : World) :
    Calls Tryd.prog 12 #[.agg #[.int .u8 0, .slice none 0 0, .slice none 0 0]] w fun e w' => e = .returned (.tuple #[.agg #[.slice none 0 0, .int .i64 0, .int .i64 0, .slice none 0 0, .slice none 0 0], .bool false]) ∧ Below w.heap.size w w' := by
  have hq0 : Below w.heap.size w ((w.alloc (.cells #[.int .u8 0, .slice none 0 0, .slice none 0 0] 43)).alloc (.cells #[.slice none 0 0, .int .i64 0, .int .i64 0, .slice none 0 0, .slice none 0 0] 26)) := ((Below.refl _ _).alloc (Nat.le_refl _) _).alloc (by simp) _
  have hH0 := (Holds.fresh w 43 #[.int .u8 0, .slice none 0 0, .slice none 0 0]).alloc (.cells #[.slice none 0 0, .int .i64 0, .int .i64 0, .slice none 0 0, .slice none 0 0] 26)
  have hz := Holds.fresh (w.alloc (.cells #[.int .u8 0, .slice none 0 0, .slice none 0 0] 43)) 26 #[.slice none 0 0, .int .i64 0, .int .i64 0, .slice none 0 0, .slice none 0 0]
  rw [show (w.alloc (.cells #[.int .u8 0, .slice none 0 0, .slice none 0 0] 43)).heap.size = w.heap.size + 1 by simp] at hz
  have hgs := getSeq_any ((w.alloc (.cells #[.int .u8 0, .slice none 0 0, .slice none 0 0] 43)).alloc (.cells #[.slice none 0 0, .int .i64 0, .int .i64 0, .slice none 0 0, .slice none 0 0] 26)) [] 0 0 0 0 0 48 none none [] (off_none _ _) rfl (by omega) (by omega) (by simp)
  rw [show seqOk 0 0 48 = false by decide] at hgs
  have HGS := Lib.hid hgs
  have HB0 := Lib.hid hq0
  have HZ := Lib.hid hz
  have c0 := hH0.cell 0
  have c1 := hH0.cell 1
  have c2 := hH0.cell 2
  clear hq0 hH0 hgs hz
  go_enter Tryd.func12, Tryd.ntmps12
  go_wp2_with fail
  refine HGS.out.mono ?_
  rintro e w2 ⟨rfl, hb2⟩
  have HB2 := Lib.hid (HB0.out.trans (hb2.mono HB0.out.size))
  have hz2 := HZ.out.under hb2 HZ.out.lt
  have HZ2 := Lib.hid hz2
  have z0 := hz2.cell 0
  have z1 := hz2.cell 1
  have z2 := hz2.cell 2
  have z3 := hz2.cell 3
  have z4 := hz2.cell 4
  have y0 := hz2.open_ 0
  have y1 := hz2.open_ 1
  have y2 := hz2.open_ 2
  have y3 := hz2.open_ 3
  have y4 := hz2.open_ 4
  clear hb2 c0 c1 c2 hz2 HGS
  go_wp2_with fail
  exact ret_crl rfl rfl rfl (((((HZ2.out.stored 0 _).stored 1 _).stored 2 _).stored 3 _).stored 4 _) rfl ⟨rfl, below_five HB2.out _ (by omega) _ _ _ _ _⟩
theorem odd_first : crlOk ⟨[⟨3, ⟨#[98]⟩⟩], 5, 9, [⟨[3], 7⟩, ⟨[4], 6⟩], [0]⟩ = true := by decide
theorem odd_0 : crlOk ⟨[], 5, 9, [⟨[3], 7⟩, ⟨[4], 6⟩], [0]⟩ = false := by decide
theorem odd_1 : crlOk ⟨[⟨3, ⟨#[98]⟩⟩], 5, 4, [⟨[3], 7⟩, ⟨[4], 6⟩], [0]⟩ = false := by decide
theorem odd_2 : crlOk ⟨[⟨3, ⟨#[98]⟩⟩], 5, 9, [⟨[3], 7⟩, ⟨[3], 6⟩], [0]⟩ = false := by decide
theorem odd_3 : crlOk ⟨[⟨3, ⟨#[98]⟩⟩], 5, 9, [⟨[], 7⟩, ⟨[4], 6⟩], [0]⟩ = false := by decide
theorem odd_4 : crlOk ⟨[⟨3, ⟨#[98]⟩⟩], 5, 9, [⟨[3], 253402300800⟩, ⟨[4], 6⟩], [0]⟩ = false := by decide
theorem odd_5 : crlOk ⟨[⟨3, ⟨#[98]⟩⟩], 5, 9, [⟨[3], 7⟩, ⟨[4], 6⟩], []⟩ = false := by decide
theorem odd_6 {l : List GV} (h : l.length = 17) : crlOk ⟨[⟨3, ⟨#[98]⟩⟩], 5, 9, l, [0]⟩ = false := by
  unfold crlOk
  rw [show decide (l.length ≤ 16) = false from decide_eq_false (by omega)]
  simp
end Go.Proofs.YtionikhhdfkhdaaDoor
