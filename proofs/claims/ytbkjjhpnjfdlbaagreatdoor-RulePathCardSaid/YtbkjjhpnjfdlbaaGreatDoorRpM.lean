/-
  Extensions made by hand; what rule says of a certificate of any extensions. What rule says of a certificate of a few extensions. With so many between, if no more than that may be (statement RulePath): the law's walk. With so many between, and Usage (statement RulePath): the law's walk.
-/
import Derived.Test.YtbkjjhpnjfdlbaaGreatDoorOd1
import Derived.Test.YtbkjjhpnjfdlbaaGreatDoorRt25
import Derived.Test.YtbkjjhpnjfdlbaaGreatDoorTlv23
import Derived.OwnWalk
import Derived.Test.YtbkjjhpnjfdlbaaGreatDoorTx5
import Derived.Test.YtbkjjhpnjfdlbaaGreatDoorExM
namespace Go.Proofs.YtbkjjhpnjfdlbaaGreatDoor
open Go.RowKit
set_option linter.unusedVariables false
set_option linter.unusedSimpArgs false
attribute [local go_sem ↓] Go.wp_at_zero Go.wp_at_succ

theorem ret_oneX {R : Ending → World → Prop} {tmps : Array Value} {w : World} {g : Nat} {t : TypeId} {cs : Array Value} {fn : Func} {p : Tmp}
    (hr : fn.results = #[.cell p 24]) (hp : tmps.getD p undef = .pointer (some ⟨g, 0, none⟩)) (hg : Holds w g t cs) (hcs : cs.size = 3) (hR : R (.returned (.agg cs)) w) :
    bodyPost Tryz.prog fn R .ret { tmps := tmps, defers := [] } w := by
  have hi : (Tryz.prog.info? 24).map (·.size) = some cs.size := by rw [hcs]; kernel_rfl
  refine bodyPost_ret (v := .agg cs) ?_ rfl hR
  have hp' : tmps[p]?.getD undef = .pointer (some ⟨g, 0, none⟩) := by simpa using hp
  simp [results, hr, hp', asAddr, run_loadVar_row w g t _ cs (0, 0) _ hg Tryz.underlying24 rfl hi, Result.andThen]
set_option maxRecDepth 100000 in
set_option maxHeartbeats 4000000 in
theorem says_any (w : World) (xs : List Nat) (hxs : ∀ x ∈ xs, x < w.heap.size) (last : Nat) (hl : last < 256) (cr : Bool) (t : Lt) (h : Off [] (ThP t) w) (hi : isT t.t = true) :
    Calls Tryz.prog 5 #[.int .u8 (last : Int), .bool cr, t.val] w fun e w' => ∃ x : Ex, e = .returned (.agg (xcell x).toArray) ∧ x.v = ⟨[85, 29, last], cr, t.t.enc⟩ ∧ Off xs (ExP x) w' ∧ Below w.heap.size w w' := by
  have hi2 := hi
  simp only [isT, Bool.and_eq_true, decide_eq_true_eq] at hi2
  obtain ⟨⟨_, hcnt⟩, henc⟩ := hi2
  have HXS := Lib.hid hxs
  have HVAL : Hid (t.val = .agg #[.int .u8 (t.tag : Int), .slice t.ba t.body.length t.bc, .slice t.ka t.kids.length t.kc]) := Lib.hid rfl
  clear hxs
  have e1 : (w.alloc (.cells #[.int .u8 (t.tag : Int), .slice t.ba t.body.length t.bc, .slice t.ka t.kids.length t.kc] 31)).heap.size = w.heap.size + 1 := by simp
  have e2 : ((w.alloc (.cells #[.int .u8 (t.tag : Int), .slice t.ba t.body.length t.bc, .slice t.ka t.kids.length t.kc] 31)).alloc (.cells #[.slice none 0 0, .bool false, .slice none 0 0] 24)).heap.size = w.heap.size + 1 + 1 := by simp
  have hN := ((Holds.fresh w 31 #[.int .u8 (t.tag : Int), .slice t.ba t.body.length t.bc, .slice t.ka t.kids.length t.kc]).alloc (.cells #[.slice none 0 0, .bool false, .slice none 0 0] 24)).alloc (.cells #[.int .u8 85, .int .u8 29, .int .u8 (last : Int)] 5)
  have hX := (Holds.fresh (w.alloc (.cells #[.int .u8 (t.tag : Int), .slice t.ba t.body.length t.bc, .slice t.ka t.kids.length t.kc] 31)) 24 #[.slice none 0 0, .bool false, .slice none 0 0]).alloc (.cells #[.int .u8 85, .int .u8 29, .int .u8 (last : Int)] 5)
  rw [e1] at hX
  have hR := rd_three ((w.alloc (.cells #[.int .u8 (t.tag : Int), .slice t.ba t.body.length t.bc, .slice t.ka t.kids.length t.kc] 31)).alloc (.cells #[.slice none 0 0, .bool false, .slice none 0 0] 24)) 85 29 last 85 29 (last : Int) rfl rfl rfl
  rw [e2] at hR
  have hb : Below w.heap.size w (((w.alloc (.cells #[.int .u8 (t.tag : Int), .slice t.ba t.body.length t.bc, .slice t.ka t.kids.length t.kc] 31)).alloc (.cells #[.slice none 0 0, .bool false, .slice none 0 0] 24)).alloc (.cells #[.int .u8 85, .int .u8 29, .int .u8 (last : Int)] 5)) := (((Below.refl _ _).alloc (Nat.le_refl _) _).alloc (by rw [e1]; omega) _).alloc (by rw [e2]; omega) _
  obtain ⟨V, hV⟩ : ∃ V, V = ((w.alloc (.cells #[.int .u8 (t.tag : Int), .slice t.ba t.body.length t.bc, .slice t.ka t.kids.length t.kc] 31)).alloc (.cells #[.slice none 0 0, .bool false, .slice none 0 0] 24)).alloc (.cells #[.int .u8 85, .int .u8 29, .int .u8 (last : Int)] 5) := ⟨_, rfl⟩
  rw [← hV] at hN hX hR hb
  have hoT := h.under hb
  have hby := bytes'_any t V V.heap.size hoT.at_ (Nat.le_refl _) (by omega) (by omega)
  rw [show bytesT t.t = t.t.enc by unfold bytesT; rw [if_pos hi]] at hby
  have HOCT : Hid (∀ y ∈ t.t.enc, y < 256) := Lib.hid (enc_oct _ t V V.heap.size (Nat.lt_succ_self _) hoT.at_)
  obtain ⟨E, hE⟩ : ∃ E, E = t.t.enc := ⟨_, rfl⟩
  rw [← hE] at hby HOCT ⊢
  rw [HVAL.out] at hby ⊢
  have HBY := Lib.hid hby
  have HB := Lib.hid hb
  have HX := Lib.hid hX
  have HR := Lib.hid hR
  have HVS : Hid (w.heap.size + 1 + 1 + 1 ≤ V.heap.size) := Lib.hid (by rw [hV]; simp)
  have c0 := hN.cell 0
  have c1 := hN.cell 1
  have c2 := hN.cell 2
  rw [hV] at c0 c1 c2
  have HV := Lib.hid hV
  clear h hi hcnt henc hN hX hR hb hoT hby hE hV e1 e2 HVAL
  generalize t.tag = tg at *
  generalize t.ba = ba at *
  generalize t.bc = bc at *
  generalize t.body.length = bn at *
  generalize t.ka = ka at *
  generalize t.kids.length = kn at *
  generalize t.kc = kc at *
  go_enter Tryz.func5, Tryz.ntmps5
  go_wp2_with fail
  rw [← HV.out]
  refine HBY.out.mono ?_
  rintro e w2 ⟨A2, c2', n2, rfl, hn2, hm2, hb2⟩
  have HB2 := Lib.hid (HB.out.trans (hb2.mono HB.out.size))
  have hx2 := HX.out.under hb2 HX.out.lt
  have HX2 := Lib.hid hx2
  have z0 := hx2.cell 0
  have z1 := hx2.cell 1
  have z2 := hx2.cell 2
  have y0 := hx2.open_ 0
  have y1 := hx2.open_ 1
  have y2 := hx2.open_ 2
  have o1 : Off ((w.heap.size + 1) :: xs) (fun w' => Rd .u8 w' w'.heap.size (some ⟨w.heap.size + 1 + 1, 0, none⟩) 3 [85, 29, last]) w2 := fun w' h2 h3 => by
    have hr := HR.out.under (hb2.mono HVS.out)
    refine ⟨hr.1, hr.2.1, fun hn => ?_⟩
    obtain ⟨b, off, e, hlt, hc⟩ := hr.2.2 hn
    obtain ⟨rfl, rfl⟩ : b = w.heap.size + 1 + 1 ∧ off = 0 := by injection e with e; injection e with e1 e2; exact ⟨e1.symm, e2.symm⟩
    have hs2 := hb2.size
    have hvs := HVS.out
    refine ⟨_, _, rfl, by omega, fun j hj => ?_⟩
    rw [show w'.cell? ⟨w.heap.size + 1 + 1, 0 + j, none⟩ = w2.cell? ⟨w.heap.size + 1 + 1, 0 + j, none⟩ by simp only [World.cell?]; rw [h3 (w.heap.size + 1 + 1) (fun hm => by rcases List.mem_cons.1 hm with h | h; omega; have := HXS.out _ h; omega) (by omega)]]
    exact hc j hj
  have o2 : Off ((w.heap.size + 1) :: xs) (fun w' => Rd .u8 w' w'.heap.size A2 c2' E) w2 := Off.of_mine hm2 (fun g hg hx => by
    have h1 := (hm2.block hg).1
    have h3 := HVS.out
    rcases List.mem_cons.1 hx with h | h
    · omega
    · have := HXS.out _ h; omega)
  have HO2 : Hid (Off ((w.heap.size + 1) :: xs) (ExP ⟨some ⟨w.heap.size + 1 + 1, 0, none⟩, 3, [85, 29, last], cr, A2, c2', E⟩) w2) := Lib.hid fun w' h2 h3 => ⟨o1 w' h2 h3, oct_three (by omega) (by omega) hl, o2 w' h2 h3, HOCT.out⟩
  subst hn2
  have HL : Hid (w.heap.size ≤ w.heap.size + 1) := Lib.hid (by omega)
  clear hb2 hx2 c0 c1 c2 o1 o2 hm2 HBY HV
  obtain ⟨en, hen⟩ : ∃ k, k = E.length := ⟨_, rfl⟩
  have HEN := Lib.hid hen
  rw [← hen]
  clear hen
  go_wp2_with fail
  refine ret_oneX rfl rfl (((HX2.out.stored 0 _).stored 1 _).stored 2 _) rfl ?_
  have hm : w.heap.size + 1 ∈ (w.heap.size + 1) :: xs := List.mem_cons.2 (.inl rfl)
  refine ⟨⟨some ⟨w.heap.size + 1 + 1, 0, none⟩, 3, [85, 29, last], cr, A2, c2', E⟩, by rw [HEN.out]; rfl, rfl, ?_, ((HB2.out.setCell (p := ⟨w.heap.size + 1, 0, none⟩) HL.out _).setCell (p := ⟨w.heap.size + 1, 1, none⟩) HL.out _).setCell (p := ⟨w.heap.size + 1, 2, none⟩) HL.out _⟩
  exact (((HO2.out.store (p := ⟨w.heap.size + 1, 0, none⟩) hm _).store (p := ⟨w.heap.size + 1, 1, none⟩) hm _).store (p := ⟨w.heap.size + 1, 2, none⟩) hm _).less (fun g hg => List.mem_cons.2 (.inr hg))
/-- The thing of Basic that tells how many may stand between. -/
def caTr (p : Nat) : Tr := .mk 48 [] [.mk 1 [255] [], .mk 2 (intB (dg2 p)) []]
theorem int_low {p : Nat} (h : p ≤ 100) : intB (dg2 p) = [p] := by
  have key : ∀ q : Fin 101, intB (dg2 q.val) = [q.val] := by decide
  exact key ⟨p, by omega⟩
theorem small_low {p : Nat} (h : p ≤ 100) : smallOf (if heldOk 2 0 2 = true then gi [p] 9 else none) = some p := by
  have key : ∀ q : Fin 101, smallOf (if heldOk 2 0 2 = true then gi [q.val] 9 else none) = some q.val := by decide
  exact key ⟨p, by omega⟩
theorem caTr_is {p : Nat} (h : p ≤ 100) : isT (caTr p) = true := by
  unfold caTr
  rw [int_low h]
  rfl
theorem caTr_bas {p : Nat} (h : p ≤ 100) : basT (caTr p) = some (true, (p : Int)) := by
  unfold caTr
  rw [int_low h]
  have e : smallT (.mk 2 [p] []) = some p := small_low h
  show (match smallT (.mk 2 [p] []) with | some v => if 100 < v then none else some (true, (v : Int)) | none => none) = _
  rw [e]
  show (if 100 < p then none else some (true, (p : Int))) = _
  rw [if_neg (by omega)]
def bitsTr (d : Nat) : Tr := .mk 3 [0, d] []
theorem bitsTr_is (d : Nat) : isT (bitsTr d) = true := rfl
set_option maxRecDepth 100000 in
set_option maxHeartbeats 4000000 in
theorem ca_any (w : World) (p : Nat) (hp : p ≤ 100) :
    Calls Tryz.prog 4 #[.int .u64 (p : Int)] w fun e w' => ∃ x : Ex, e = .returned (.agg (xcell x).toArray) ∧ x.v = ⟨[85, 29, 19], true, (caTr p).enc⟩ ∧ Off [] (ExP x) w' ∧ Below w.heap.size w w' := by
  have hX := Holds.fresh w 24 #[.slice none 0 0, .bool false, .slice none 0 0]
  have hb : Below w.heap.size w (w.alloc (.cells #[.slice none 0 0, .bool false, .slice none 0 0] 24)) := (Below.refl _ _).alloc (Nat.le_refl _) _
  have HBO := Lib.hid (bool'_any (w.alloc (.cells #[.slice none 0 0, .bool false, .slice none 0 0] 24)) [w.heap.size] true (by simp))
  have HX := Lib.hid hX
  have HB := Lib.hid hb
  have HLT : Hid (w.heap.size < (w.alloc (.cells #[.slice none 0 0, .bool false, .slice none 0 0] 24)).heap.size) := Lib.hid hX.lt
  clear hX hb
  go_enter Tryz.func4, Tryz.ntmps4
  go_wp2_with fail
  refine HBO.out.mono ?_
  rintro e w2 hm2
  obtain ⟨lt2, pt2, pa2, pn2, pc2, pk2, pm2, pd2, rfl, h62, hT2, hO2, hb2⟩ := MadeT.six hm2
  have HB2 := Lib.hid (HB.out.trans (hb2.mono HB.out.size))
  have HX2 := Lib.hid (HX.out.under hb2 HX.out.lt)
  have HS := Lib.hid (small'_any w2 p (by omega))
  clear hm2 hb2 HBO
  go_wp2_with fail
  refine HS.out.mono ?_
  rintro e w3 ⟨r3, rfl, hp3, hb3⟩
  have HLT2 : Hid (w.heap.size < w2.heap.size) := Lib.hid (by have := HX2.out.lt; exact this)
  obtain ⟨lt3', hv3, ht3, ho3⟩ := off_prim (xs := [w.heap.size]) hp3 (fun x hx => by rw [List.mem_singleton.1 hx]; exact HLT2.out)
  have hm3 : MadeT w2 [w.heap.size] (.mk 2 (intB (dg2 p)) []) (.returned r3) w3 := ⟨lt3', congrArg Ending.returned hv3, ht3, ho3, hb3⟩
  obtain ⟨lt3, pt3, pa3, pn3, pc3, pk3, pm3, pd3, er3, h63, hT3, hO3, _⟩ := MadeT.six hm3
  obtain rfl : r3 = .agg #[.int .u8 (pt3 : Int), .slice pa3 pn3 pc3, .slice pk3 pm3 pd3] := by injection er3
  have HB3 := Lib.hid (HB2.out.trans (hb3.mono HB2.out.size))
  have HX3 := Lib.hid (HX2.out.under hb3 HLT2.out)
  have HLT3 : Hid (w.heap.size < w3.heap.size) := Lib.hid HX3.out.lt
  have hrow := off_row (xs := [w.heap.size]) (w := w3) (l := [lt2, lt3]) (fun x hx => by
    simp only [List.mem_cons, List.not_mem_nil, or_false] at hx
    rcases hx with rfl | rfl
    · exact hO2.under hb3
    · exact hO3) (fun hm => by have := HLT3.out; rw [List.mem_singleton] at hm; omega) (by simp)
  rw [show ([lt2, lt3].flatMap lcell).toArray = #[.int .u8 (pt2 : Int), .slice pa2 pn2 pc2, .slice pk2 pm2 pd2, .int .u8 (pt3 : Int), .slice pa3 pn3 pc3, .slice pk3 pm3 pd3] by
    show (lcell lt2 ++ (lcell lt3 ++ [])).toArray = _
    rw [show lcell lt2 = _ from h62, show lcell lt3 = _ from h63]; rfl] at hrow
  have hq4 : Below w3.heap.size w3 (w3.alloc (.cells #[.int .u8 (pt2 : Int), .slice pa2 pn2 pc2, .slice pk2 pm2 pd2, .int .u8 (pt3 : Int), .slice pa3 pn3 pc3, .slice pk3 pm3 pd3] 31)) := (Below.refl _ _).alloc (Nat.le_refl _) _
  have HSQ := Lib.hid (seq'_any _ [w.heap.size] 48 2 2 _ [lt2, lt3] hrow rfl (by omega))
  have HB4 := Lib.hid (HB3.out.trans (hq4.mono HB3.out.size))
  have HX4 := Lib.hid (HX3.out.under hq4 HLT3.out)
  have HT23 : Hid ([lt2, lt3].map Lt.t = [.mk 1 [255] [], .mk 2 (intB (dg2 p)) []]) := Lib.hid (by
    show [lt2.t, lt3.t] = _
    rw [hT2, hT3]; rfl)
  clear hp3 hb3 hv3 ht3 ho3 hm3 er3 h62 h63 hT2 hT3 hO2 hO3 hrow hq4 HS
  go_wp2_with fail
  refine HSQ.out.mono ?_
  rintro e w5 hm5
  obtain ⟨lt5, pt5, pa5, pn5, pc5, pk5, pm5, pd5, rfl, h65, hT5, hO5, hb5⟩ := MadeT.six hm5
  have HT5 : lt5.t = caTr p := by rw [hT5, HT23.out]; rfl
  have HB5 := Lib.hid (HB4.out.trans (hb5.mono HB4.out.size))
  have HX5 := Lib.hid (HX4.out.under hb5 HX4.out.lt)
  have hsy := says_any w5 [w.heap.size] (fun x hx => by rw [List.mem_singleton.1 hx]; exact HX5.out.lt) 19 (by omega) true lt5 (hO5.less (fun g hg => by cases hg)) (by rw [HT5]; exact caTr_is hp)
  rw [h65.val, HT5] at hsy
  have HSY := Lib.hid hsy
  clear hm5 h65 hT5 hO5 hb5 hsy HT5 HSQ
  go_wp2_with fail
  refine HSY.out.mono ?_
  rintro e w6 ⟨x, rfl, hxv, hxo, hb6⟩
  have HB6 := Lib.hid (HB5.out.trans (hb6.mono HB5.out.size))
  have hx6 := HX5.out.under hb6 HX5.out.lt
  have HX6 := Lib.hid hx6
  have z0 := hx6.cell 0
  have z1 := hx6.cell 1
  have z2 := hx6.cell 2
  have y0 := hx6.open_ 0
  have y1 := hx6.open_ 1
  have y2 := hx6.open_ 2
  have HXO := Lib.hid hxo
  have HXV := Lib.hid hxv
  obtain ⟨ia, ic, id, cr, va, vc, val⟩ := x
  simp only [xcell]
  obtain ⟨n1, hn1⟩ : ∃ k, k = id.length := ⟨_, rfl⟩
  obtain ⟨n2, hn2⟩ : ∃ k, k = val.length := ⟨_, rfl⟩
  have HN1 := Lib.hid hn1
  have HN2 := Lib.hid hn2
  rw [← hn1, ← hn2]
  clear hb6 hx6 hxo hxv hn1 hn2 HSY
  go_wp2_with fail
  refine ret_oneX rfl rfl (((HX6.out.stored 0 _).stored 1 _).stored 2 _) rfl ?_
  have hm : w.heap.size ∈ [w.heap.size] := List.mem_singleton.2 rfl
  refine ⟨⟨ia, ic, id, cr, va, vc, val⟩, by rw [HN1.out, HN2.out]; rfl, HXV.out, ?_, below_out HB6.out _ _ _⟩
  exact (((HXO.out.store (p := ⟨w.heap.size, 0, none⟩) hm _).store (p := ⟨w.heap.size, 1, none⟩) hm _).store (p := ⟨w.heap.size, 2, none⟩) hm _).less (fun g hg => by cases hg)
end Go.Proofs.YtbkjjhpnjfdlbaaGreatDoor
namespace Go.Proofs.YtbkjjhpnjfdlbaaGreatDoor
open Go.RowKit
set_option linter.unusedVariables false
set_option linter.unusedSimpArgs false
attribute [local go_sem ↓] Go.wp_at_zero Go.wp_at_succ

/-- A certificate's cells of which the extensions alone are told. -/
abbrev cellsE (A : Option Addr) (n c : Nat) : Array Value := #[.slice none 0 0, .slice none 0 0, .int .i64 0, .int .i64 0, .slice none 0 0, .int .i64 0, .slice none 0 0, .int .u32 0, .slice none 0 0, .slice none 0 0, .bool false, .slice A n c, .slice none 0 0]
/-- Has Usage that digit, if it is there? -/
def usableS (o : Option (Option Nat)) (d : Int) : Bool := match o with
  | none => false
  | some none => true
  | some (some u) => bits .and .u8 (u : Int) d != 0
structure RowE (A : Option Addr) (c n : Nat) (l : List Ex) (w : World) : Prop where
  len : l.length = n
  off : Off [] (XP A c l) w
  sz : ∀ x ∈ l, x.id.length ≤ 12000 ∧ x.val.length ≤ 12000
theorem RowE.under {A : Option Addr} {c n : Nat} {l : List Ex} {w w' : World} (h : RowE A c n l w) (hb : Below w.heap.size w w') : RowE A c n l w' := ⟨h.len, h.off.under hb, h.sz⟩
set_option maxRecDepth 100000 in
set_option maxHeartbeats 4000000 in
theorem usable_any (w : World) (A : Option Addr) (c n : Nat) (l : List Ex) (h : RowE A c n l w) (d : Int) (o : Option (Option Nat)) (ho : useS (saidOf (l.map Ex.v) [85, 29, 15]) = o) (hsv : ∀ T, saidOf (l.map Ex.v) [85, 29, 15] = some (.ok T) → T.body.length ≤ 12000) :
    Calls Tryz.prog 16 #[.agg (cellsE A n c), .int .u8 d] w fun e w' => e = .returned (.bool (usableS o d)) ∧ Below w.heap.size w w' := by
  have hq : Below w.heap.size w (w.alloc (.cells (cellsE A n c) 42)) := (Below.refl _ _).alloc (Nat.le_refl _) _
  have hH := Holds.fresh w 42 (cellsE A n c)
  have hu := usageS_any (w.alloc (.cells (cellsE A n c) 42)) A c n l (h.off.under hq).at_ h.len h.sz hsv
  rw [ho] at hu
  have HU := Lib.hid hu
  have HQ := Lib.hid hq
  have c11 := hH.cell 11
  clear h hq hH hu ho hsv
  go_enter Tryz.func16, Tryz.ntmps16
  go_wp2_with fail
  refine HU.out.mono ?_
  rintro e w2 ⟨rfl, hb2⟩
  have HB := Lib.hid (HQ.out.trans (hb2.mono HQ.out.size))
  clear hb2 c11 HU
  rcases o with _ | _ | u
  · simp only [Option.getD_none, Option.isSome_none]
    go_wp2_with fail
    go_ret
    exact ⟨rfl, HB.out⟩
  · simp only [Option.getD_some, Option.isSome_some, Option.getD_none, Option.isSome_none]
    go_wp2_with fail
    go_ret
    exact ⟨rfl, HB.out⟩
  · simp only [Option.getD_some, Option.isSome_some]
    go_wp2_with fail
    go_ret
    exact ⟨rfl, HB.out⟩
set_option maxRecDepth 100000 in
set_option maxHeartbeats 4000000 in
theorem over_any (w : World) (A : Option Addr) (c n : Nat) (l : List Ex) (h : RowE A c n l w) (b : Nat) (p : Nat) (o : Option (Option Nat)) (ho : useS (saidOf (l.map Ex.v) [85, 29, 15]) = o) (hsv : ∀ T, saidOf (l.map Ex.v) [85, 29, 15] = some (.ok T) → T.body.length ≤ 12000)
    (hp : basS (saidOf (l.map Ex.v) [85, 29, 19]) = some (true, (p : Int))) (hsb : ∀ T, saidOf (l.map Ex.v) [85, 29, 19] = some (.ok T) → T.kids.length ≤ 100000) :
    Calls Tryz.prog 7 #[.agg (cellsE A n c), .int .i64 (b : Int)] w fun e w' => e = .returned (.bool (decide (b ≤ p) && usableS o 4)) ∧ Below w.heap.size w w' := by
  obtain ⟨r, HR⟩ : ∃ r, Hid (r = (decide (b ≤ p) && usableS o 4)) := ⟨_, rfl⟩
  rw [← HR.out]
  have hq : Below w.heap.size w (w.alloc (.cells (cellsE A n c) 42)) := (Below.refl _ _).alloc (Nat.le_refl _) _
  have hH := Holds.fresh w 42 (cellsE A n c)
  have hu := basicS_any (w.alloc (.cells (cellsE A n c) 42)) A c n l (h.off.under hq).at_ h.len h.sz hsb
  rw [hp] at hu
  have HU := Lib.hid hu
  have HQ := Lib.hid hq
  have HUS := Lib.hid (fun W (hW : Below (w.alloc (.cells (cellsE A n c) 42)).heap.size (w.alloc (.cells (cellsE A n c) 42)) W) => usable_any W A c n l ((h.under hq).under hW) 4 o ho hsv)
  have HH := Lib.hid hH
  have c11 := hH.cell 11
  clear h hq hH hu ho hsv hp hsb
  go_enter Tryz.func7, Tryz.ntmps7
  go_wp2_with fail
  refine HU.out.mono ?_
  rintro e w2 ⟨rfl, hb2⟩
  have hq3 : Below w2.heap.size w2 (w2.alloc (.cells #[.bool true, .int .i64 (p : Int)] 52)) := (Below.refl _ _).alloc (Nat.le_refl _) _
  have h23 := hb2.trans (hq3.mono hb2.size)
  have HB := Lib.hid (HQ.out.trans (h23.mono HQ.out.size))
  have HUV := Lib.hid (HUS.out _ h23)
  have hB3 := Holds.fresh w2 52 #[.bool true, .int .i64 (p : Int)]
  have b0 := hB3.cell 0
  have b1 := hB3.cell 1
  have hH3 := HH.out.under h23 HH.out.lt
  have k0 := hH3.cell 0
  have k1 := hH3.cell 1
  have k2 := hH3.cell 2
  have k3 := hH3.cell 3
  have k4 := hH3.cell 4
  have k5 := hH3.cell 5
  have k6 := hH3.cell 6
  have k7 := hH3.cell 7
  have k8 := hH3.cell 8
  have k9 := hH3.cell 9
  have k10 := hH3.cell 10
  have k11 := hH3.cell 11
  have k12 := hH3.cell 12
  have dm : ((p : Int) == -1) = false := by rw [beq_eq_false_iff_ne]; omega
  clear hb2 hq3 h23 c11 HU hB3 hH3 HUS
  by_cases hbp : b ≤ p
  · have d : decide ((b : Int) ≤ (p : Int)) = true := decide_eq_true (by omega)
    have HE : Hid (r = usableS o 4) := Lib.hid (by rw [HR.out, decide_eq_true hbp, Bool.true_and])
    go_wp2_with fail
    refine HUV.out.mono ?_
    rintro e w4 ⟨rfl, hb4⟩
    have HB4 := Lib.hid (HB.out.trans (hb4.mono HB.out.size))
    clear hb4
    go_wp2_with fail
    go_ret
    exact ⟨by rw [HE.out]; rfl, HB4.out⟩
  · have d : decide ((b : Int) ≤ (p : Int)) = false := decide_eq_false (by omega)
    have HE : Hid (r = false) := Lib.hid (by rw [HR.out, decide_eq_false hbp, Bool.false_and])
    go_wp2_with fail
    go_ret
    exact ⟨by rw [HE.out]; rfl, HB.out⟩
set_option maxRecDepth 100000 in
set_option maxHeartbeats 4000000 in
theorem may_any (w : World) (A : Option Addr) (c n : Nat) (l : List Ex) (h : RowE A c n l w) (hs : saidOf (l.map Ex.v) [85, 29, 37] = none) :
    Calls Tryz.prog 8 #[.agg (cellsE A n c), .int .i64 1] w fun e w' => e = .returned (.bool false) ∧ Below w.heap.size w w' := by
  have hq : Below w.heap.size w (w.alloc (.cells (cellsE A n c) 42)) := (Below.refl _ _).alloc (Nat.le_refl _) _
  have hH := Holds.fresh w 42 (cellsE A n c)
  have hu := uses_any (w.alloc (.cells (cellsE A n c) 42)) A c n l (h.off.under hq).at_ h.len h.sz (fun T hT => by rw [hs] at hT; cases hT)
  rw [hs] at hu
  have HU := Lib.hid hu
  have HQ := Lib.hid hq
  have c11 := hH.cell 11
  clear h hq hH hu hs
  go_enter Tryz.func8, Tryz.ntmps8
  go_wp2_with fail
  refine HU.out.mono ?_
  rintro e w2 ⟨rfl, hb2⟩
  have HB := Lib.hid (HQ.out.trans (hb2.mono HQ.out.size))
  clear hb2 c11 HU
  go_wp2_with fail
  refine wp_loop_rounds 1 ?_
  rw [rounds_succ]
  go_wp2_with fail
  go_ret
  exact ⟨rfl, HB.out⟩
theorem said_ca {L : List EV} {p : Nat} (hp : p ≤ 100) (h : saidOf L [85, 29, 19] = some (readT (caTr p).enc)) : basS (saidOf L [85, 29, 19]) = some (true, (p : Int)) ∧ ∀ T, saidOf L [85, 29, 19] = some (.ok T) → T.kids.length ≤ 100000 := by
  rw [h, read_enc (caTr_is hp)]
  refine ⟨caTr_bas hp, fun T hT => ?_⟩
  injection hT with hT; injection hT with hT
  subst hT
  simp [caTr, Tr.kids]
theorem enc_ok {t : Tr} (h : isT t = true) : t.enc.length ≤ 12000 := by
  simp only [isT, Bool.and_eq_true, decide_eq_true_eq] at h
  exact h.2
theorem bits_use (d : Nat) : useS (some (readT (bitsTr d).enc)) = some (some d) := by
  rw [read_enc (bitsTr_is d)]; rfl
end Go.Proofs.YtbkjjhpnjfdlbaaGreatDoor
namespace Go.Proofs.YtbkjjhpnjfdlbaaGreatDoor
open Go.RowKit
set_option linter.unusedVariables false
set_option linter.unusedSimpArgs false
attribute [local go_sem ↓] Go.wp_at_zero Go.wp_at_succ

theorem row_one {w : World} {x : Ex} (h : Off [] (ExP x) w) (hs : x.id.length ≤ 12000 ∧ x.val.length ≤ 12000) : RowE (some ⟨w.heap.size, 0, none⟩) 1 1 [x] (w.alloc (.cells (xcell x).toArray 24)) :=
  ⟨rfl, xp_one h, fun y hy => by rw [List.mem_singleton.1 hy]; exact hs⟩
theorem v_sz {x : Ex} {i L : List Nat} {cr : Bool} (h : x.v = ⟨i, cr, L⟩) (hi : i.length ≤ 12000) (hl : L.length ≤ 12000) : x.id.length ≤ 12000 ∧ x.val.length ≤ 12000 := by
  have h1 : x.id = i := congrArg EV.id h
  have h2 : x.val = L := congrArg EV.val h
  rw [h1, h2]; exact ⟨hi, hl⟩
set_option maxRecDepth 100000 in
set_option maxHeartbeats 4000000 in
theorem path_out (w : World) (p b : Int) (d : Int) (some_ : Bool) (h : p < 0 ∨ 100 < p ∨ b < 0 ∨ 100 < b) :
    Calls Tryz.prog 3 #[.int .i64 p, .int .i64 b, .int .u8 d, .bool some_] w fun e w' => e = .returned (.bool true) ∧ Below w.heap.size w w' := by
  by_cases h1 : p < 0
  · have d1 : decide (p < (0 : Int)) = true := decide_eq_true h1
    go_enter Tryz.func3, Tryz.ntmps3
    go_wp2_with fail
    go_ret
    exact ⟨rfl, Below.refl _ _⟩
  have d1 : decide (p < (0 : Int)) = false := decide_eq_false h1
  by_cases h2 : 100 < p
  · have d2 : decide ((100 : Int) < p) = true := decide_eq_true h2
    go_enter Tryz.func3, Tryz.ntmps3
    go_wp2_with fail
    go_ret
    exact ⟨rfl, Below.refl _ _⟩
  have d2 : decide ((100 : Int) < p) = false := decide_eq_false h2
  by_cases h3 : b < 0
  · have d3 : decide (b < (0 : Int)) = true := decide_eq_true h3
    go_enter Tryz.func3, Tryz.ntmps3
    go_wp2_with fail
    go_ret
    exact ⟨rfl, Below.refl _ _⟩
  have d3 : decide (b < (0 : Int)) = false := decide_eq_false h3
  have d4 : decide ((100 : Int) < b) = true := decide_eq_true (by omega)
  go_enter Tryz.func3, Tryz.ntmps3
  go_wp2_with fail
  go_ret
  exact ⟨rfl, Below.refl _ _⟩
set_option maxRecDepth 100000 in
set_option maxHeartbeats 16000000 in
theorem path_no (w : World) (p b : Nat) (d : Int) (hp : p ≤ 100) (hb : b ≤ 100) :
    Calls Tryz.prog 3 #[.int .i64 (p : Int), .int .i64 (b : Int), .int .u8 d, .bool false] w fun e w' => e = .returned (.bool true) ∧ Below w.heap.size w w' := by
  have d1 : decide ((p : Int) < (0 : Int)) = false := decide_eq_false (by omega)
  have d2 : decide ((100 : Int) < (p : Int)) = false := decide_eq_false (by omega)
  have d3 : decide ((b : Int) < (0 : Int)) = false := decide_eq_false (by omega)
  have d4 : decide ((100 : Int) < (b : Int)) = false := decide_eq_false (by omega)
  have hw : IntKind.u64.wrap (p : Int) = (p : Int) := wrap64u _ (by omega) (by omega)
  have HCA := Lib.hid (ca_any w p hp)
  have HP := Lib.hid hp
  clear hp hb
  go_enter Tryz.func3, Tryz.ntmps3
  go_wp2_with fail
  refine HCA.out.mono ?_
  rintro e w2 ⟨x, rfl, hxv, hxo, hb2⟩
  have hrow := row_one hxo (v_sz hxv (by simp) (enc_ok (caTr_is HP.out)))
  have hL : [x].map Ex.v = [⟨[85, 29, 19], true, (caTr p).enc⟩] := by rw [List.map_singleton, hxv]
  have s15 : saidOf ([x].map Ex.v) [85, 29, 15] = none := by rw [hL]; simp [saidOf, firstX]
  have s19 : saidOf ([x].map Ex.v) [85, 29, 19] = some (readT (caTr p).enc) := by rw [hL]; simp [saidOf, firstX]
  have s37 : saidOf ([x].map Ex.v) [85, 29, 37] = none := by rw [hL]; simp [saidOf, firstX]
  obtain ⟨q1, q2⟩ := said_ca HP.out s19
  have hq3 : Below w2.heap.size w2 (w2.alloc (.cells (xcell x).toArray 24)) := (Below.refl _ _).alloc (Nat.le_refl _) _
  have HOV := Lib.hid (fun W (hW : Below (w2.alloc (.cells (xcell x).toArray 24)).heap.size (w2.alloc (.cells (xcell x).toArray 24)) W) => over_any W _ _ _ _ (hrow.under hW) b p (some none) (by rw [s15]; rfl) (fun T hT => by rw [s15] at hT; cases hT) q1 q2)
  have HMA := Lib.hid (fun W (hW : Below (w2.alloc (.cells (xcell x).toArray 24)).heap.size (w2.alloc (.cells (xcell x).toArray 24)) W) => may_any W _ _ _ _ (hrow.under hW) s37)
  have HB3 := Lib.hid (hb2.trans (hq3.mono hb2.size))
  have hs3 : (w2.alloc (.cells (xcell x).toArray 24)).heap.size = w2.heap.size + 1 := by simp
  have hX4 := Holds.fresh (w2.alloc (.cells (xcell x).toArray 24)) 42 (cellsE (some ⟨w2.heap.size, 0, none⟩) 1 1)
  rw [hs3] at hX4
  have hq4 : Below (w2.alloc (.cells (xcell x).toArray 24)).heap.size (w2.alloc (.cells (xcell x).toArray 24)) ((w2.alloc (.cells (xcell x).toArray 24)).alloc (.cells (cellsE (some ⟨w2.heap.size, 0, none⟩) 1 1) 42)) := (Below.refl _ _).alloc (Nat.le_refl _) _
  obtain ⟨ia, ic, id, cr, va, vc, val⟩ := x
  simp only [xcell] at hrow HOV HMA HB3 hX4 hq4 ⊢
  generalize id.length = n1 at *
  generalize val.length = n2 at *
  have HQ4 := Lib.hid hq4
  have HX4 := Lib.hid hX4
  have hov := HOV.out _ hq4
  rw [show usableS (some none) 4 = true from rfl, Bool.and_true] at hov
  have HOV4 := Lib.hid hov
  have k0 := hX4.cell 0
  have k1 := hX4.cell 1
  have k2 := hX4.cell 2
  have k3 := hX4.cell 3
  have k4 := hX4.cell 4
  have k5 := hX4.cell 5
  have k6 := hX4.cell 6
  have k7 := hX4.cell 7
  have k8 := hX4.cell 8
  have k9 := hX4.cell 9
  have k10 := hX4.cell 10
  have k11 := hX4.cell 11
  have k12 := hX4.cell 12
  clear hxv hxo hb2 hrow hL s15 s19 s37 q1 q2 hq3 hs3 hX4 hq4 hov HCA HOV
  have d5 : decide ((b : Int) ≤ (p : Int)) = decide (b ≤ p) := by simp
  rcases hd : decide (b ≤ p) with _ | _
  all_goals
    rw [hd] at HOV4 d5
    go_wp2_with fail
    refine HOV4.out.mono ?_
    rintro e w5 ⟨rfl, hb5⟩
    have h45 := HQ4.out.trans (hb5.mono HQ4.out.size)
    have HB5 := Lib.hid (HB3.out.trans (h45.mono HB3.out.size))
    have hX5 := HX4.out.under hb5 HX4.out.lt
    have HX5 := Lib.hid hX5
    clear k0 k1 k2 k3 k4 k5 k6 k7 k8 k9 k10 k11 k12
    have k0 := hX5.cell 0
    have k1 := hX5.cell 1
    have k2 := hX5.cell 2
    have k3 := hX5.cell 3
    have k4 := hX5.cell 4
    have k5 := hX5.cell 5
    have k6 := hX5.cell 6
    have k7 := hX5.cell 7
    have k8 := hX5.cell 8
    have k9 := hX5.cell 9
    have k10 := hX5.cell 10
    have k11 := hX5.cell 11
    have k12 := hX5.cell 12
    have HM5 := Lib.hid (HMA.out w5 h45)
    clear hb5 h45 hX5
    go_wp2_with fail
    refine HM5.out.mono ?_
    rintro e w6 ⟨rfl, hb6⟩
    have HB6 := Lib.hid (HB5.out.trans (hb6.mono HB5.out.size))
    have HK6 := Lib.hid (known_any25 w6)
    clear hb6 k0 k1 k2 k3 k4 k5 k6 k7 k8 k9 k10 k11 k12
    go_wp2_with fail
    refine HK6.out.mono ?_
    rintro e w7 ⟨rfl, hb7⟩
    have HB7 := Lib.hid (HB6.out.trans (hb7.mono HB6.out.size))
    clear hb7
    go_wp2_with fail
    go_ret
    exact ⟨rfl, HB7.out⟩
end Go.Proofs.YtbkjjhpnjfdlbaaGreatDoor
namespace Go.Proofs.YtbkjjhpnjfdlbaaGreatDoor
open Go.RowKit
set_option linter.unusedVariables false
set_option linter.unusedSimpArgs false
attribute [local go_sem ↓] Go.wp_at_zero Go.wp_at_succ

theorem rd8_one (w : World) (x : Nat) (xi : Int) (hx : xi = (x : Int)) : Rd .u8 (w.alloc (.cells #[.int .u8 xi] 5)) (w.heap.size + 1) (some ⟨w.heap.size, 0, none⟩) 1 [x] := by
  subst hx
  have hH := Holds.fresh w 5 #[.int .u8 (x : Int)]
  refine ⟨Nat.le_refl _, by omega, fun _ => ⟨w.heap.size, 0, rfl, by omega, fun j hj => ?_⟩⟩
  obtain rfl : j = 0 := by simp at hj; omega
  exact hH.cell 0
set_option maxRecDepth 100000 in
set_option maxHeartbeats 16000000 in
theorem path_yes (w : World) (p b m : Nat) (hp : p ≤ 100) (hb : b ≤ 100) (hm : m < 256) :
    Calls Tryz.prog 3 #[.int .i64 (p : Int), .int .i64 (b : Int), .int .u8 (m : Int), .bool true] w fun e w' => e = .returned (.bool true) ∧ Below w.heap.size w w' := by
  have d1 : decide ((p : Int) < (0 : Int)) = false := decide_eq_false (by omega)
  have d2 : decide ((100 : Int) < (p : Int)) = false := decide_eq_false (by omega)
  have d3 : decide ((b : Int) < (0 : Int)) = false := decide_eq_false (by omega)
  have d4 : decide ((100 : Int) < (b : Int)) = false := decide_eq_false (by omega)
  have hw : IntKind.u64.wrap (p : Int) = (p : Int) := wrap64u _ (by omega) (by omega)
  have HCA := Lib.hid (ca_any w p hp)
  have HP := Lib.hid hp
  have HM := Lib.hid hm
  clear hp hb hm
  go_enter Tryz.func3, Tryz.ntmps3
  go_wp2_with fail
  refine HCA.out.mono ?_
  rintro e w2 ⟨x, rfl, hxv, hxo, hb2⟩
  have HZ1 := Lib.hid (v_sz hxv (by simp) (enc_ok (caTr_is HP.out)))
  have HXV := Lib.hid hxv
  have HXO := Lib.hid hxo
  have hq3 : Below w2.heap.size w2 (w2.alloc (.cells (xcell x).toArray 24)) := (Below.refl _ _).alloc (Nat.le_refl _) _
  have hR3 := Holds.fresh w2 24 (xcell x).toArray
  have hs3 : (w2.alloc (.cells (xcell x).toArray 24)).heap.size = w2.heap.size + 1 := by simp
  have hrd := rd8_one (w2.alloc (.cells (xcell x).toArray 24)) m (m : Int) rfl
  rw [hs3] at hrd
  have hq4 : Below w2.heap.size w2 ((w2.alloc (.cells (xcell x).toArray 24)).alloc (.cells #[.int .u8 (m : Int)] 5)) := hq3.alloc (by rw [hs3]; omega) _
  have hdg := digs'_any ((w2.alloc (.cells (xcell x).toArray 24)).alloc (.cells #[.int .u8 (m : Int)] 5)) [] (some ⟨w2.heap.size + 1, 0, none⟩) 1 1 (w2.heap.size + 1 + 1) [m] hrd rfl (by simp) (by omega) (fun y hy => by rw [List.mem_singleton.1 hy]; exact HM.out) (by simp)
  have hR4 := hR3.alloc (.cells #[.int .u8 (m : Int)] 5)
  have HB4 := Lib.hid (hb2.trans (hq4.mono hb2.size))
  have HQ4 := Lib.hid hq4
  have HLT2 : Hid (w2.heap.size < ((w2.alloc (.cells (xcell x).toArray 24)).alloc (.cells #[.int .u8 (m : Int)] 5)).heap.size) := Lib.hid hR4.lt
  obtain ⟨x0, hx0⟩ : ∃ y, y = x := ⟨_, rfl⟩
  have HX0 := Lib.hid hx0
  obtain ⟨ia, ic, id, cr, va, vc, val⟩ := x
  simp only [xcell] at hdg hR4 HB4 HQ4 HLT2 ⊢
  rw [show (xcell ⟨ia, ic, id, cr, va, vc, val⟩) = [.slice ia id.length ic, .bool cr, .slice va val.length vc] from rfl] at *
  obtain ⟨n1, hn1⟩ : ∃ k, k = id.length := ⟨_, rfl⟩
  obtain ⟨n2, hn2⟩ : ∃ k, k = val.length := ⟨_, rfl⟩
  have HXC : Hid (xcell x0 = [.slice ia n1 ic, .bool cr, .slice va n2 vc]) := Lib.hid (by rw [hx0, hn1, hn2]; rfl)
  rw [← hx0] at HZ1 HXV HXO
  rw [← hn1, ← hn2] at hdg hR4 HB4 HQ4 HLT2 ⊢
  have HDG := Lib.hid hdg
  have HR4 := Lib.hid hR4
  clear hxv hxo hb2 hq3 hR3 hs3 hrd hq4 hdg hR4 hx0 hn1 hn2 HCA HX0
  go_wp2_with fail
  refine HDG.out.mono ?_
  rintro e w5 hm5
  obtain ⟨lt5, pt5, pa5, pn5, pc5, pk5, pm5, pd5, rfl, h65, hT5, hO5, hb5⟩ := MadeT.six hm5
  have HB5 := Lib.hid (HB4.out.trans (hb5.mono HB4.out.size))
  have HQ5 := Lib.hid (HQ4.out.trans (hb5.mono HQ4.out.size))
  have HR5 := Lib.hid (HR4.out.under hb5 HR4.out.lt)
  have hsy := says_any w5 [] (by simp) 15 (by omega) true lt5 hO5 (by rw [hT5]; exact bitsTr_is m)
  rw [h65.val, hT5] at hsy
  have HSY := Lib.hid hsy
  clear hm5 h65 hT5 hO5 hb5 hsy HDG
  go_wp2_with fail
  refine HSY.out.mono ?_
  rintro e w6 ⟨x2, rfl, hv6, ho6, hb6⟩
  have HZ2 := Lib.hid (v_sz hv6 (by simp) (enc_ok (bitsTr_is m)))
  have HV6 := Lib.hid hv6
  have HO6 := Lib.hid ho6
  have HB6 := Lib.hid (HB5.out.trans (hb6.mono HB5.out.size))
  have HQ6 := Lib.hid (HQ5.out.trans (hb6.mono HQ5.out.size))
  have HR6 := Lib.hid (HR5.out.under hb6 HR5.out.lt)
  obtain ⟨ja, jc, jd, jr, ua, uc, ual⟩ := x2
  simp only [xcell]
  obtain ⟨y0, hy0⟩ : ∃ y : Ex, y = ⟨ja, jc, jd, jr, ua, uc, ual⟩ := ⟨_, rfl⟩
  obtain ⟨m1, hm1⟩ : ∃ k, k = jd.length := ⟨_, rfl⟩
  obtain ⟨m2, hm2⟩ : ∃ k, k = ual.length := ⟨_, rfl⟩
  have HYC : Hid (xcell y0 = [.slice ja m1 jc, .bool jr, .slice ua m2 uc]) := Lib.hid (by rw [hy0, hm1, hm2]; rfl)
  rw [← hy0] at HZ2 HV6 HO6
  rw [← hm1, ← hm2]
  have hH7 := Holds.fresh w6 24 #[.slice ja m1 jc, .bool jr, .slice ua m2 uc]
  have hq7 : Below w6.heap.size w6 (w6.alloc (.cells #[.slice ja m1 jc, .bool jr, .slice ua m2 uc] 24)) := (Below.refl _ _).alloc (Nat.le_refl _) _
  have HOW : Hid (OwnV 24 3 (w6.alloc (.cells #[.slice ja m1 jc, .bool jr, .slice ua m2 uc] 24)) (some ⟨w6.heap.size, 0, none⟩) 1 1 [.slice ja m1 jc, .bool jr, .slice ua m2 uc]) :=
    Lib.hid ⟨by simp, .inr ⟨w6.heap.size, 1, #[.slice ja m1 jc, .bool jr, .slice ua m2 uc], rfl, Nat.zero_le _, hH7, Nat.le_refl _, by unfold maxLen; omega, by simp, by simp⟩⟩
  have HFX : Hid (Holds (w6.alloc (.cells #[.slice ja m1 jc, .bool jr, .slice ua m2 uc] 24)) w2.heap.size 24 [.slice ia n1 ic, .bool cr, .slice va n2 vc].toArray) := Lib.hid (HR6.out.alloc _)
  have HB7 := Lib.hid (HB6.out.trans (hq7.mono HB6.out.size))
  have HE1 : Hid (Off [w6.heap.size] (ExP x0) (w6.alloc (.cells #[.slice ja m1 jc, .bool jr, .slice ua m2 uc] 24))) := Lib.hid (((HXO.out.under HQ6.out).new (Nat.le_refl _)).alloc _)
  have HE2 : Hid (Off [w6.heap.size] (ExP y0) (w6.alloc (.cells #[.slice ja m1 jc, .bool jr, .slice ua m2 uc] 24))) := Lib.hid ((HO6.out.new (Nat.le_refl _)).alloc _)
  have HW6 : Hid (w.heap.size ≤ w6.heap.size) := Lib.hid HB6.out.size
  clear hv6 ho6 hb6 hy0 hm1 hm2 hH7 hq7 HSY HXO HO6 HR6 HR5 HR4 HQ4 HQ5 HQ6
  obtain ⟨z, hz⟩ : ∃ z, z = bits .and .u8 (m : Int) 4 := ⟨_, rfl⟩
  have HZ : Hid (z = bits .and .u8 (m : Int) 4) := Lib.hid hz
  have hz2 : bits .and .u8 (m : Int) 4 = z := hz.symm
  have d5 : decide ((b : Int) ≤ (p : Int)) = decide (b ≤ p) := by simp
  clear hz
  rcases hd : decide (b ≤ p) with _ | _ <;> rcases hzz : (z != 0) with _ | _
  all_goals
    rw [hd] at d5
    go_wp2_with (first | (at_builtin; refine wpList_pushV _ rfl (.tmp 35) (.tmp 36) 27 rfl 24 _ 3 56 Tryz.underlying27 info_ext rfl (by omega) (by omega) rfl HOW.out (cs := [.slice ia n1 ic, .bool cr, .slice va n2 vc]) rfl rfl one6x HFX.out (by omega) ?_; intro g8 c8 W8 ho8 hg8 hat8 hlt8))
    have hA8 : ∀ g, blockOf (some (⟨w6.heap.size, 0, none⟩ : Addr)) = some g → g ∈ [w6.heap.size] := fun g e => by
      have e : w6.heap.size = g := by simpa [blockOf] using e
      rw [e]; simp
    have he1 : Off [] (ExP x0) W8 := HE1.out.push hg8 hA8 (fun g h => by cases h)
    have he2 : Off [] (ExP y0) W8 := HE2.out.push hg8 hA8 (fun g h => by cases h)
    have ho8' : OwnV 24 3 W8 (some ⟨g8, 0, none⟩) c8 2 ([y0, x0].flatMap xcell) := by
      show OwnV _ 3 W8 _ c8 2 (xcell y0 ++ (xcell x0 ++ []))
      rw [HYC.out, HXC.out]; exact ho8
    have hrow : RowE (some ⟨g8, 0, none⟩) c8 2 [y0, x0] W8 := ⟨rfl, Off.of_x ⟨RowX.of_own rfl ho8', fun y hy => by
      simp only [List.mem_cons, List.not_mem_nil, or_false] at hy
      rcases hy with rfl | rfl
      · exact he2.at_
      · exact he1.at_⟩, fun y hy => by
      simp only [List.mem_cons, List.not_mem_nil, or_false] at hy
      rcases hy with rfl | rfl
      · exact HZ2.out
      · exact HZ1.out⟩
    have HB8 := Lib.hid (below_own HB7.out hg8 (fun g hg => by have e : w6.heap.size = g := (by simpa [blockOf] using hg); have := HW6.out; omega) (Nat.le_refl _))
    have hL : [y0, x0].map Ex.v = [⟨[85, 29, 15], true, (bitsTr m).enc⟩, ⟨[85, 29, 19], true, (caTr p).enc⟩] := by
      show [y0.v, x0.v] = _
      rw [HV6.out, HXV.out]; rfl
    have s15 : saidOf ([y0, x0].map Ex.v) [85, 29, 15] = some (readT (bitsTr m).enc) := by rw [hL]; simp [saidOf, firstX]
    have s19 : saidOf ([y0, x0].map Ex.v) [85, 29, 19] = some (readT (caTr p).enc) := by rw [hL]; simp [saidOf, firstX]
    have s37 : saidOf ([y0, x0].map Ex.v) [85, 29, 37] = none := by rw [hL]; simp [saidOf, firstX]
    obtain ⟨q1, q2⟩ := said_ca HP.out s19
    have hq9 : Below W8.heap.size W8 (W8.alloc (.cells (cellsE (some ⟨g8, 0, none⟩) 2 c8) 42)) := (Below.refl _ _).alloc (Nat.le_refl _) _
    have hov := over_any (W8.alloc (.cells (cellsE (some ⟨g8, 0, none⟩) 2 c8) 42)) _ _ _ _ (hrow.under hq9) b p (some (some m)) (by rw [s15]; exact bits_use m) (fun T hT => by
      rw [s15, read_enc (bitsTr_is m)] at hT
      injection hT with hT; injection hT with hT
      subst hT
      simp [bitsTr, Tr.body]) q1 q2
    rw [hd, show usableS (some (some m)) 4 = (z != 0) by rw [HZ.out]; rfl, hzz] at hov
    have HOV := Lib.hid hov
    have HMA := Lib.hid (fun W (hW : Below W8.heap.size W8 W) => may_any W _ _ _ _ (hrow.under hW) s37)
    have HQ9 := Lib.hid hq9
    have HX9 := Lib.hid (Holds.fresh W8 42 (cellsE (some ⟨g8, 0, none⟩) 2 c8))
    clear ho8 hg8 hat8 hA8 he1 he2 ho8' hrow hL s15 s19 s37 q1 q2 hq9 hov HE1 HE2 HFX HOW
    first
      | refine HOV.out.mono ?_
      | (go_wp2_with fail; refine HOV.out.mono ?_)
    rintro e w9 ⟨rfl, hb9⟩
    have h89 := HQ9.out.trans (hb9.mono HQ9.out.size)
    have HB9 := Lib.hid (HB8.out.trans (h89.mono HB8.out.size))
    have hX9 := HX9.out.under hb9 HX9.out.lt
    have k0 := hX9.cell 0
    have k1 := hX9.cell 1
    have k2 := hX9.cell 2
    have k3 := hX9.cell 3
    have k4 := hX9.cell 4
    have k5 := hX9.cell 5
    have k6 := hX9.cell 6
    have k7 := hX9.cell 7
    have k8 := hX9.cell 8
    have k9 := hX9.cell 9
    have k10 := hX9.cell 10
    have k11 := hX9.cell 11
    have k12 := hX9.cell 12
    have HM9 := Lib.hid (HMA.out w9 h89)
    clear hb9 h89 hX9
    simp only [Bool.false_and, Bool.true_and]
    go_wp2_with fail
    refine HM9.out.mono ?_
    rintro e w10 ⟨rfl, hb10⟩
    have HB10 := Lib.hid (HB9.out.trans (hb10.mono HB9.out.size))
    have HK10 := Lib.hid (known_any25 w10)
    clear hb10 k0 k1 k2 k3 k4 k5 k6 k7 k8 k9 k10 k11 k12
    go_wp2_with fail
    refine HK10.out.mono ?_
    rintro e w11 ⟨rfl, hb11⟩
    have HB11 := Lib.hid (HB10.out.trans (hb11.mono HB10.out.size))
    clear hb11
    go_wp2_with fail
    go_ret
    exact ⟨rfl, HB11.out⟩
theorem law_path (w : World) (p b : Int) (m : Nat) (hm : m < 256) (s : Bool) :
    Calls Tryz.prog 3 #[.int .i64 p, .int .i64 b, .int .u8 (m : Int), .bool s] w fun e w' => e = .returned (.bool true) ∧ Below w.heap.size w w' := by
  by_cases h : p < 0 ∨ 100 < p ∨ b < 0 ∨ 100 < b
  · exact path_out w p b m s h
  · obtain ⟨p', rfl⟩ := Int.eq_ofNat_of_zero_le (show (0 : Int) ≤ p by omega)
    obtain ⟨b', rfl⟩ := Int.eq_ofNat_of_zero_le (show (0 : Int) ≤ b by omega)
    cases s with
    | false => exact path_no w p' b' m (by omega) (by omega)
    | true => exact path_yes w p' b' m (by omega) (by omega) hm
end Go.Proofs.YtbkjjhpnjfdlbaaGreatDoor
