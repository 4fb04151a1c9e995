/-
  What a thing of Basic says; what extensions say by Basic, by Usage.
-/
import Derived.Test.YtbkjjhpnjfdlbaaGreatDoorExU
import Derived.Test.YtbkjjhpnjfdlbaaGreatDoorAt7
import Derived.Test.YtbkjjhpnjfdlbaaGreatDoorTx4
import Derived.Test.YtbkjjhpnjfdlbaaGreatDoorTx5
import Derived.Test.YtbkjjhpnjfdlbaaGreatDoorDn11
namespace Go.Proofs.YtbkjjhpnjfdlbaaGreatDoor
open Go.RowKit
set_option linter.unusedVariables false
set_option linter.unusedSimpArgs false
attribute [local go_sem ↓] Go.wp_at_zero Go.wp_at_succ

def boolT (k : Tr) : Option Bool := boolOf k.tag k.kids.length k.body
def smallT (k : Tr) : Option Nat := smallOf (if heldOk k.tag k.kids.length 2 = true then gi k.body 9 else none)
theorem boolT_lt (t : Lt) : boolT t.t = boolOf t.tag t.kids.length t.body := by
  obtain ⟨h1, h2, h3⟩ := t_parts t
  unfold boolT
  rw [h1, h2, h3, List.length_map]
theorem smallT_lt (t : Lt) : smallT t.t = smallOf (if heldOk t.tag t.kids.length 2 = true then gi t.body 9 else none) := by
  obtain ⟨h1, h2, h3⟩ := t_parts t
  unfold smallT
  rw [h1, h2, h3, List.length_map]
/-- What a thing of Basic says: may it sign others, with how many between. -/
def basT (T : Tr) : Option (Bool × Int) :=
  if seqOk T.tag T.body.length 48 = false ∨ 2 < T.kids.length then none
  else if T.kids.length = 0 then some (false, -1)
  else if boolT (T.kids.getD 0 default) ≠ some true then none
  else if T.kids.length = 1 then some (true, -1)
  else match smallT (T.kids.getD 1 default) with
    | some v => if 100 < v then none else some (true, (v : Int))
    | none => none
def BasP (w : World) : Option (Bool × Int) → Ending → World → Prop
  | none, e, w' => e = .returned (.tuple #[.agg #[.bool false, .int .i64 0], .bool false]) ∧ Below w.heap.size w w'
  | some r, e, w' => e = .returned (.tuple #[.agg #[.bool r.1, .int .i64 r.2], .bool true]) ∧ Below w.heap.size w w'
theorem BasP.one {w : World} {o : Option (Bool × Int)} {e : Ending} {w' : World} (h : BasP w o e w') : e = .returned (.tuple #[.agg #[.bool (o.getD (false, 0)).1, .int .i64 (o.getD (false, 0)).2], .bool o.isSome]) ∧ Below w.heap.size w w' := by
  rcases o with _ | r <;> exact h
theorem below_two {w w' : World} (h : Below w.heap.size w w') (g : Nat) (hg : w.heap.size ≤ g) (a b : Value) : Below w.heap.size w ((w'.setCell ⟨g, 0, none⟩ a).setCell ⟨g, 1, none⟩ b) :=
  (h.setCell (p := ⟨g, 0, none⟩) hg _).setCell (p := ⟨g, 1, none⟩) hg _
theorem kid_prim {t : Lt} {w : World} (h : Off [] (ThP t) w) : Rd .u8 w w.heap.size t.ba t.bc t.body ∧ ∀ y ∈ t.body, y < 256 := by
  obtain ⟨tag, ba, bc, body, ka, kc, kids⟩ := t
  exact ⟨(ThP.iff.1 h.at_).2.1, (ThP.iff.1 h.at_).2.2.1⟩
set_option maxRecDepth 100000 in
set_option maxHeartbeats 16000000 in
theorem basicT_any (w : World) (t : Lt) (h : Off [] (ThP t) w) (hkk : t.t.kids.length ≤ 100000) :
    Calls Tryz.prog 26 #[t.val] w (BasP w (basT t.t)) := by
  obtain ⟨T, hTT⟩ : ∃ T, T = t.t := ⟨_, rfl⟩
  rw [← hTT]
  have HVAL : Hid (t.val = .agg #[.int .u8 (t.tag : Int), .slice t.ba t.body.length t.bc, .slice t.ka t.kids.length t.kc]) := Lib.hid rfl
  have hko : Off [] (KiP t.ka t.kc t.kids) w := by
    obtain ⟨tag, ba, bc, body, ka, kc, kids⟩ := t
    exact kids_off h
  have hkl : t.kids.length ≤ 100000 := by rw [(t_parts t).2.2, List.length_map] at hkk; exact hkk
  have HTK : Hid (T.kids = t.kids.map Lt.t ∧ seqOk T.tag T.body.length 48 = seqOk t.tag t.body.length 48) := Lib.hid (by rw [hTT, (t_parts t).1, (t_parts t).2.1, (t_parts t).2.2]; exact ⟨rfl, rfl⟩)
  rw [HVAL.out]
  obtain ⟨ks, hks⟩ : ∃ ks, ks = t.kids := ⟨_, rfl⟩
  rw [← hks] at hko hkl HTK HVAL ⊢
  clear h hTT hks hkk
  generalize t.tag = tag at *
  generalize t.ba = ba at *
  generalize t.bc = bc at *
  generalize t.body.length = n at *
  generalize t.ka = ka at *
  generalize t.kc = kc at *
  obtain ⟨kn, hkn⟩ : ∃ k, k = ks.length := ⟨_, rfl⟩
  have HKN := Lib.hid hkn
  have HTL : Hid (T.kids.length = kn) := Lib.hid (by rw [HTK.out.1, List.length_map, hkn])
  rw [← hkn] at hkl HVAL ⊢
  obtain ⟨r, HR⟩ : ∃ r, Hid (r = basT T) := ⟨_, rfl⟩
  rw [← HR.out]
  have hH1 := (Holds.fresh w 31 #[.int .u8 (tag : Int), .slice ba n bc, .slice ka kn kc]).alloc (.cells #[.bool false, .int .i64 0] 52)
  have hHb := Holds.fresh (w.alloc (.cells #[.int .u8 (tag : Int), .slice ba n bc, .slice ka kn kc] 31)) 52 #[.bool false, .int .i64 0]
  have hs1 : (w.alloc (.cells #[.int .u8 (tag : Int), .slice ba n bc, .slice ka kn kc] 31)).heap.size = w.heap.size + 1 := by simp
  rw [hs1] at hHb
  have hbv : Below w.heap.size w ((w.alloc (.cells #[.int .u8 (tag : Int), .slice ba n bc, .slice ka kn kc] 31)).alloc (.cells #[.bool false, .int .i64 0] 52)) := ((Below.refl _ _).alloc (Nat.le_refl _) _).alloc (by rw [hs1]; omega) _
  have hk1 := (hko.alloc (.cells #[.int .u8 (tag : Int), .slice ba n bc, .slice ka kn kc] 31)).alloc (.cells #[.bool false, .int .i64 0] 52)
  have HGS := Lib.hid (getSeq_any _ [] tag n bc kn kc 48 ba ka ks hk1 hkn.symm (by omega) hkl (by simp))
  have HHB := Lib.hid hHb
  have HBV := Lib.hid hbv
  have c0 := hH1.cell 0
  have c1 := hH1.cell 1
  have c2 := hH1.cell 2
  have HL : Hid (w.heap.size ≤ w.heap.size + 1) := Lib.hid (by omega)
  clear hko hkn hH1 hk1 hHb hbv hs1
  rcases hsq : seqOk tag n 48 with _ | _
  case false =>
    have HE : Hid (r = none) := Lib.hid (by rw [HR.out]; unfold basT; rw [if_pos (.inl (by rw [HTK.out.2, hsq]))])
    rw [hsq] at HGS
    go_enter Tryz.func26, Tryz.ntmps26
    go_wp2_with fail
    refine HGS.out.mono ?_
    rintro e w3 ⟨rfl, hb3⟩
    have HB3 := Lib.hid (HBV.out.trans (hb3.mono HBV.out.size))
    have hz3 := HHB.out.under hb3 HHB.out.lt
    have z0 := hz3.cell 0
    have z1 := hz3.cell 1
    have y0 := hz3.open_ 0
    have y1 := hz3.open_ 1
    have HZ3 := Lib.hid hz3
    clear hb3 HGS hz3 c0 c1 c2
    go_wp2_with fail
    rw [HE.out]
    exact ret_basic rfl rfl rfl ((HZ3.out.stored 0 _).stored 1 _) rfl ⟨rfl, below_two HB3.out _ HL.out _ _⟩
  rw [hsq] at HGS
  have HSQ := Lib.hid hsq
  clear hsq
  by_cases h2 : 2 < kn
  case pos =>
    have HE : Hid (r = none) := Lib.hid (by rw [HR.out]; unfold basT; rw [if_pos (.inr (by rw [HTL.out]; exact h2))])
    have d2 : decide ((2 : Int) < (kn : Int)) = true := decide_eq_true (by omega)
    go_enter Tryz.func26, Tryz.ntmps26
    go_wp2_with fail
    refine HGS.out.mono ?_
    rintro e w3 ⟨A3, c3, rfl, hk3, hb3⟩
    rw [← HKN.out]
    have HB3 := Lib.hid (HBV.out.trans (hb3.mono HBV.out.size))
    have hz3 := HHB.out.under hb3 HHB.out.lt
    have z0 := hz3.cell 0
    have z1 := hz3.cell 1
    have y0 := hz3.open_ 0
    have y1 := hz3.open_ 1
    have HZ3 := Lib.hid hz3
    clear hb3 HGS hz3 c0 c1 c2 hk3
    go_wp2_with fail
    rw [HE.out]
    exact ret_basic rfl rfl rfl ((HZ3.out.stored 0 _).stored 1 _) rfl ⟨rfl, below_two HB3.out _ HL.out _ _⟩
  have d2 : decide ((2 : Int) < (kn : Int)) = false := decide_eq_false (by omega)
  have HN0 : Hid (¬ (seqOk T.tag T.body.length 48 = false ∨ 2 < T.kids.length)) := Lib.hid (by rw [HTK.out.2, HSQ.out, HTL.out]; simp; omega)
  by_cases h0 : kn = 0
  case pos =>
    have HE : Hid (r = some (false, -1)) := Lib.hid (by rw [HR.out]; unfold basT; rw [if_neg HN0.out, if_pos (by rw [HTL.out]; exact h0)])
    have d0 : ((kn : Int) == 0) = true := by rw [beq_iff_eq]; omega
    clear h0 h2
    go_enter Tryz.func26, Tryz.ntmps26
    go_wp2_with fail
    refine HGS.out.mono ?_
    rintro e w3 ⟨A3, c3, rfl, hk3, hb3⟩
    rw [← HKN.out]
    have HB3 := Lib.hid (HBV.out.trans (hb3.mono HBV.out.size))
    have hz3 := HHB.out.under hb3 HHB.out.lt
    have z0 := hz3.cell 0
    have z1 := hz3.cell 1
    have y0 := hz3.open_ 0
    have y1 := hz3.open_ 1
    have HZ3 := Lib.hid hz3
    clear hb3 HGS hz3 c0 c1 c2 hk3
    go_wp2_with fail
    rw [HE.out]
    exact ret_basic rfl rfl rfl ((HZ3.out.stored 0 _).stored 1 _) rfl ⟨rfl, below_two HB3.out _ HL.out _ _⟩
  have d0 : ((kn : Int) == 0) = false := by rw [beq_eq_false_iff_ne]; omega
  go_enter Tryz.func26, Tryz.ntmps26
  go_wp2_with fail
  refine HGS.out.mono ?_
  rintro e w3 ⟨A3, c3, rfl, hk3, hb3⟩
  rw [← HKN.out]
  have hmc : kn ≤ c3 := by rw [HKN.out]; exact hk3.at_.1.1
  have HB3 := Lib.hid (HBV.out.trans (hb3.mono HBV.out.size))
  have HZ3 := Lib.hid (HHB.out.under hb3 HHB.out.lt)
  obtain ⟨g, off, rfl, hg, hcs⟩ := KiP.cells (j := 0) hk3 (by rw [← HKN.out]; omega)
  obtain ⟨q0, q1, q2⟩ := hcs w3 (Below.refl _ _)
  simp only [Nat.zero_mul, Nat.add_zero] at q0 q1 q2
  have HKD : Hid (∀ j, j < kn → Off [] (ThP (ks.getD j default)) w3) := Lib.hid fun j hj => KiP.kid hk3 (by rw [← HKN.out]; exact hj)
  have HK3 := Lib.hid hk3
  have hp0 := kid_prim (HKD.out 0 (by omega))
  have HBO := Lib.hid (getBool_any w3 (ks.getD 0 default).tag (ks.getD 0 default).body.length (ks.getD 0 default).bc (ks.getD 0 default).kids.length (ks.getD 0 default).kc _ (ks.getD 0 default).ba (ks.getD 0 default).ka (ks.getD 0 default).body hp0.1 rfl (Nat.le_refl _))
  have HB0 : Hid (boolOf (ks.getD 0 default).tag (ks.getD 0 default).kids.length (ks.getD 0 default).body = boolT (T.kids.getD 0 default)) := Lib.hid (by rw [HTK.out.1, lt_at (by rw [← HKN.out]; omega), boolT_lt])
  rw [HB0.out] at HBO
  clear hb3 HGS hk3 c0 c1 c2 hcs hp0 HB0
  generalize (ks.getD 0 default).tag = qt at *
  generalize (ks.getD 0 default).ba = qa at *
  generalize (ks.getD 0 default).bc = qc at *
  generalize (ks.getD 0 default).body.length = qn at *
  generalize (ks.getD 0 default).ka = qk at *
  generalize (ks.getD 0 default).kids.length = qm at *
  generalize (ks.getD 0 default).kc = qd at *
  obtain ⟨o, HO⟩ : ∃ o, Hid (o = boolT (T.kids.getD 0 default)) := ⟨_, rfl⟩
  rw [← HO.out] at HBO
  by_cases ho : o = some true
  case neg =>
    have HE : Hid (r = none) := Lib.hid (by rw [HR.out]; unfold basT; rw [if_neg HN0.out, if_neg (by rw [HTL.out]; exact h0), if_pos (by rw [← HO.out]; exact ho)])
    have ho2 : o.getD false = false := by
      rcases o with _ | _ | _
      · rfl
      · rfl
      · exact absurd rfl ho
    clear ho
    go_wp2_with fail
    refine HBO.out.mono ?_
    rintro e w4 ⟨rfl, hb4⟩
    rw [ho2]
    have HB4 := Lib.hid (HB3.out.trans (hb4.mono HB3.out.size))
    have hz4 := HZ3.out.under hb4 HZ3.out.lt
    have z0 := hz4.cell 0
    have z1 := hz4.cell 1
    have y0 := hz4.open_ 0
    have y1 := hz4.open_ 1
    have HZ4 := Lib.hid hz4
    clear hb4 hz4 q0 q1 q2 HBO
    go_wp2_with fail
    rw [HE.out]
    exact ret_basic rfl rfl rfl ((HZ4.out.stored 0 _).stored 1 _) rfl ⟨rfl, below_two HB4.out _ HL.out _ _⟩
  have HOT : Hid (boolT (T.kids.getD 0 default) = some true) := Lib.hid (by rw [← HO.out, ho])
  rw [ho] at HBO
  clear ho HO
  by_cases h1 : kn = 1
  case pos =>
    have HE : Hid (r = some (true, -1)) := Lib.hid (by rw [HR.out]; unfold basT; rw [if_neg HN0.out, if_neg (by rw [HTL.out]; exact h0), if_neg (by rw [HOT.out]; simp), if_pos (by rw [HTL.out]; exact h1)])
    have d1 : ((kn : Int) == 1) = true := by rw [beq_iff_eq]; omega
    have hk0 : 0 < kn := by omega
    clear h1 h0 h2
    go_wp2_with fail
    refine HBO.out.mono ?_
    rintro e w4 ⟨rfl, hb4⟩
    rw [show (some true).getD false = true from rfl]
    have HB4 := Lib.hid (HB3.out.trans (hb4.mono HB3.out.size))
    have hz4 := HZ3.out.under hb4 HZ3.out.lt
    have z0 := hz4.cell 0
    have z1 := hz4.cell 1
    have y0 := hz4.open_ 0
    have y1 := hz4.open_ 1
    have HZ4 := Lib.hid hz4
    clear hb4 hz4 q0 q1 q2 HBO
    go_wp2_with fail
    rw [HE.out]
    exact ret_basic rfl rfl rfl ((HZ4.out.stored 0 _).stored 1 _) rfl ⟨rfl, below_two HB4.out _ HL.out _ _⟩
  obtain rfl : kn = 2 := by omega
  clear h0 h2 d0 d2
  go_wp2_with fail
  refine HBO.out.mono ?_
  rintro e w4 ⟨rfl, hb4⟩
  rw [show (some true).getD false = true from rfl]
  have HB4 := Lib.hid (HB3.out.trans (hb4.mono HB3.out.size))
  have HZ4 := Lib.hid (HZ3.out.under hb4 HZ3.out.lt)
  obtain ⟨g', off', he, hg', hcs⟩ := KiP.cells (j := 1) HK3.out (by rw [← HKN.out]; omega)
  obtain ⟨rfl, rfl⟩ : g = g' ∧ off = off' := by injection he with he; injection he with h1 h2; exact ⟨h1, h2⟩
  obtain ⟨p0, p1, p2⟩ := hcs w4 hb4
  simp only [Nat.one_mul, Nat.add_assoc, Nat.reduceAdd] at p0 p1 p2
  have hp1 := kid_prim ((HKD.out 1 (by omega)).under hb4)
  have HSM := Lib.hid (getSmall_any w4 (ks.getD 1 default).tag (ks.getD 1 default).body.length (ks.getD 1 default).bc (ks.getD 1 default).kids.length (ks.getD 1 default).kc _ (ks.getD 1 default).ba (ks.getD 1 default).ka (ks.getD 1 default).body hp1.1 rfl (Nat.le_refl _) hp1.2)
  have HS1 : Hid (smallOf (if heldOk (ks.getD 1 default).tag (ks.getD 1 default).kids.length 2 = true then gi (ks.getD 1 default).body 9 else none) = smallT (T.kids.getD 1 default)) := Lib.hid (by rw [HTK.out.1, lt_at (by rw [← HKN.out]; omega), smallT_lt])
  rw [HS1.out] at HSM
  clear hb4 hcs hp1 HS1 q0 q1 q2 HBO he
  generalize (ks.getD 1 default).tag = pt at *
  generalize (ks.getD 1 default).ba = pa at *
  generalize (ks.getD 1 default).bc = pc at *
  generalize (ks.getD 1 default).body.length = pn at *
  generalize (ks.getD 1 default).ka = pk at *
  generalize (ks.getD 1 default).kids.length = pm at *
  generalize (ks.getD 1 default).kc = pd at *
  have HRN : Hid (r = match smallT (T.kids.getD 1 default) with | some v => if 100 < v then none else some (true, (v : Int)) | none => none) := Lib.hid (by rw [HR.out]; unfold basT; rw [if_neg HN0.out, if_neg (by rw [HTL.out]; omega), if_neg (by rw [HOT.out]; simp), if_neg (by rw [HTL.out]; omega)])
  rcases hsm : smallT (T.kids.getD 1 default) with _ | v
  · have HE : Hid (r = none) := Lib.hid (by rw [HRN.out, hsm])
    rw [hsm] at HSM
    clear hsm HRN
    go_wp2_with fail
    refine HSM.out.mono ?_
    rintro e w5 ⟨rfl, hb5⟩
    have HB5 := Lib.hid (HB4.out.trans (hb5.mono HB4.out.size))
    have hz5 := HZ4.out.under hb5 HZ4.out.lt
    have z0 := hz5.cell 0
    have z1 := hz5.cell 1
    have y0 := hz5.open_ 0
    have y1 := hz5.open_ 1
    have HZ5 := Lib.hid hz5
    clear hb5 hz5 p0 p1 p2 HSM
    go_wp2_with fail
    rw [HE.out]
    exact ret_basic rfl rfl rfl ((HZ5.out.stored 0 _).stored 1 _) rfl ⟨rfl, below_two HB5.out _ HL.out _ _⟩
  rw [hsm] at HSM
  by_cases hv : 100 < v
  case pos =>
    have HE : Hid (r = none) := Lib.hid (by rw [HRN.out, hsm]; exact if_pos hv)
    have d5 : decide ((100 : Int) < (v : Int)) = true := decide_eq_true (by omega)
    clear hsm HRN
    go_wp2_with fail
    refine HSM.out.mono ?_
    rintro e w5 ⟨rfl, hb5⟩
    have HB5 := Lib.hid (HB4.out.trans (hb5.mono HB4.out.size))
    have hz5 := HZ4.out.under hb5 HZ4.out.lt
    have z0 := hz5.cell 0
    have z1 := hz5.cell 1
    have y0 := hz5.open_ 0
    have y1 := hz5.open_ 1
    have HZ5 := Lib.hid hz5
    clear hb5 hz5 p0 p1 p2 HSM
    go_wp2_with fail
    rw [HE.out]
    exact ret_basic rfl rfl rfl ((HZ5.out.stored 0 _).stored 1 _) rfl ⟨rfl, below_two HB5.out _ HL.out _ _⟩
  have HE : Hid (r = some (true, (v : Int))) := Lib.hid (by rw [HRN.out, hsm]; exact if_neg hv)
  have d5 : decide ((100 : Int) < (v : Int)) = false := decide_eq_false (by omega)
  have hv2 : v ≤ 100 := by omega
  have hw5 : IntKind.i64.wrap (v : Int) = (v : Int) := by
    simp [IntKind.wrap, IntKind.bits, IntKind.signed]
    try omega
  clear hsm HRN
  go_wp2_with fail
  refine HSM.out.mono ?_
  rintro e w5 ⟨rfl, hb5⟩
  have HB5 := Lib.hid (HB4.out.trans (hb5.mono HB4.out.size))
  have hz5 := HZ4.out.under hb5 HZ4.out.lt
  have z0 := hz5.cell 0
  have z1 := hz5.cell 1
  have y0 := hz5.open_ 0
  have y1 := hz5.open_ 1
  have HZ5 := Lib.hid hz5
  clear hb5 hz5 p0 p1 p2 HSM
  go_wp2_with fail
  rw [HE.out]
  exact ret_basic rfl rfl rfl ((HZ5.out.stored 0 _).stored 1 _) rfl ⟨rfl, below_two HB5.out _ HL.out _ _⟩
/-- What extensions say by Basic. -/
def basS : Option (Except Nat Tr) → Option (Bool × Int)
  | none => some (false, -1)
  | some (.error _) => none
  | some (.ok T) => basT T
set_option maxRecDepth 100000 in
set_option maxHeartbeats 8000000 in
theorem basicS_any (w : World) (A : Option Addr) (c n : Nat) (l : List Ex) (h : XP A c l w) (hn : l.length = n) (hsz : ∀ x ∈ l, x.id.length ≤ 12000 ∧ x.val.length ≤ 12000) (hsv : ∀ T, saidOf (l.map Ex.v) [85, 29, 19] = some (.ok T) → T.kids.length ≤ 100000) :
    Calls Tryz.prog 15 #[.slice A n c] w (BasP w (basS (saidOf (l.map Ex.v) [85, 29, 19]))) := by
  obtain ⟨V, hV⟩ : ∃ V, V = w.alloc (.cells #[.bool false, .int .i64 0] 52) := ⟨_, rfl⟩
  have hz : Holds V w.heap.size 52 #[.bool false, .int .i64 0] := by rw [hV]; exact Holds.fresh _ _ _
  have HB0 : Hid (Below w.heap.size w V) := Lib.hid (by rw [hV]; exact (Below.refl _ _).alloc (Nat.le_refl _) _)
  have hv := value_any V A c n l [85, 29, 19] ((Off.of_x h).under HB0.out).at_ hn (by simp) (by simp) hsz
  rw [show str [85, 29, 19] = ⟨#[85, 29, 19]⟩ from rfl] at hv
  have hlt : w.heap.size < V.heap.size := hz.lt
  have HZ := Lib.hid hz
  have HV := Lib.hid hV
  have HL : Hid (w.heap.size ≤ w.heap.size) := Lib.hid (Nat.le_refl _)
  have HC := Lib.hid hv
  clear hz hV h hn hsz hv
  generalize saidOf (l.map Ex.v) [85, 29, 19] = sv at *
  go_enter Tryz.func15, Tryz.ntmps15
  go_wp2_with fail
  rw [← HV.out]
  refine HC.out.mono ?_
  clear HC
  rcases sv with _ | y | T
  · rintro e w2 ⟨rfl, hb2⟩
    have hq : Below w2.heap.size w2 (w2.alloc (.cells #[.int .u8 0, .slice none 0 0, .slice none 0 0] 31)) := (Below.refl _ _).alloc (Nat.le_refl _) _
    have HB2 := Lib.hid (HB0.out.trans (hb2.mono HB0.out.size))
    have HB3 := Lib.hid (HB2.out.trans (hq.mono HB2.out.size))
    have hz3 := (HZ.out.under hb2 hlt).alloc (.cells #[.int .u8 0, .slice none 0 0, .slice none 0 0] 31)
    have z0 := hz3.cell 0
    have z1 := hz3.cell 1
    have y0 := hz3.open_ 0
    have y1 := hz3.open_ 1
    have HZ3 := Lib.hid hz3
    clear hb2 hq hz3 HV
    go_wp2_with fail
    exact ret_basic rfl rfl rfl ((HZ3.out.stored 0 _).stored 1 _) rfl ⟨rfl, below_two HB3.out _ HL.out _ _⟩
  · rintro e w2 ⟨rfl, hb2⟩
    have hq : Below w2.heap.size w2 (w2.alloc (.cells #[.int .u8 0, .slice none 0 0, .slice none 0 0] 31)) := (Below.refl _ _).alloc (Nat.le_refl _) _
    have HB2 := Lib.hid (HB0.out.trans (hb2.mono HB0.out.size))
    have HB3 := Lib.hid (HB2.out.trans (hq.mono HB2.out.size))
    have hz3 := (HZ.out.under hb2 hlt).alloc (.cells #[.int .u8 0, .slice none 0 0, .slice none 0 0] 31)
    have z0 := hz3.cell 0
    have z1 := hz3.cell 1
    have y0 := hz3.open_ 0
    have y1 := hz3.open_ 1
    have HZ3 := Lib.hid hz3
    clear hb2 hq hz3 HV
    go_wp2_with fail
    exact ret_basic rfl rfl rfl ((HZ3.out.stored 0 _).stored 1 _) rfl ⟨rfl, below_two HB3.out _ HL.out _ _⟩
  · rintro e w2 ⟨t, rfl, hT, hth, hb2⟩
    have hT2 : t.t.kids.length ≤ 100000 := by rw [hT]; exact hsv T rfl
    have HVAL : Hid (t.val = .agg #[.int .u8 (t.tag : Int), .slice t.ba t.body.length t.bc, .slice t.ka t.kids.length t.kc]) := Lib.hid rfl
    have hb := basicT_any (w2.alloc (.cells #[.int .u8 (t.tag : Int), .slice t.ba t.body.length t.bc, .slice t.ka t.kids.length t.kc] 31)) t (hth.alloc _) hT2
    rw [hT, HVAL.out] at hb
    rw [HVAL.out]
    have HBA := Lib.hid hb
    have hH3 := Holds.fresh w2 31 #[.int .u8 (t.tag : Int), .slice t.ba t.body.length t.bc, .slice t.ka t.kids.length t.kc]
    have hq : Below w2.heap.size w2 (w2.alloc (.cells #[.int .u8 (t.tag : Int), .slice t.ba t.body.length t.bc, .slice t.ka t.kids.length t.kc] 31)) := (Below.refl _ _).alloc (Nat.le_refl _) _
    have HB2 := Lib.hid (HB0.out.trans (hb2.mono HB0.out.size))
    have HB3 := Lib.hid (HB2.out.trans (hq.mono HB2.out.size))
    have HZ3 := Lib.hid ((HZ.out.under hb2 hlt).alloc (.cells #[.int .u8 (t.tag : Int), .slice t.ba t.body.length t.bc, .slice t.ka t.kids.length t.kc] 31))
    have x0 := hH3.cell 0
    have x1 := hH3.cell 1
    have x2 := hH3.cell 2
    clear hb2 hq HV hb hH3 hth hT hT2 hsv HVAL
    generalize t.tag = tag at *
    generalize t.ba = ba at *
    generalize t.bc = bc at *
    generalize t.body.length = tn at *
    generalize t.ka = ka at *
    generalize t.kids.length = kn at *
    generalize t.kc = kc at *
    go_wp2_with fail
    refine HBA.out.mono ?_
    rintro e w5 hp
    obtain ⟨rfl, hb5⟩ := BasP.one hp
    have HP : Hid (BasP w (basT T) (.returned (.tuple #[.agg #[.bool ((basT T).getD (false, 0)).1, .int .i64 ((basT T).getD (false, 0)).2], .bool (basT T).isSome])) = BasP w (basT T) (.returned (.tuple #[.agg #[.bool ((basT T).getD (false, 0)).1, .int .i64 ((basT T).getD (false, 0)).2], .bool (basT T).isSome]))) := Lib.hid rfl
    have HB5 := Lib.hid (HB3.out.trans (hb5.mono HB3.out.size))
    have hz5 := HZ3.out.under hb5 HZ3.out.lt
    have z0 := hz5.cell 0
    have z1 := hz5.cell 1
    have y0 := hz5.open_ 0
    have y1 := hz5.open_ 1
    have HZ5 := Lib.hid hz5
    have HFI : Hid (∀ W, Below w.heap.size w W → BasP w (basT T) (.returned (.tuple #[.agg #[.bool ((basT T).getD (false, 0)).1, .int .i64 ((basT T).getD (false, 0)).2], .bool (basT T).isSome])) W) := Lib.hid fun W hW => by
      rcases basT T with _ | r <;> exact ⟨rfl, hW⟩
    obtain ⟨ra, hra⟩ : ∃ x, x = ((basT T).getD (false, 0)).1 := ⟨_, rfl⟩
    obtain ⟨rb, hrb⟩ : ∃ x, x = ((basT T).getD (false, 0)).2 := ⟨_, rfl⟩
    obtain ⟨rs, hrs⟩ : ∃ x, x = (basT T).isSome := ⟨_, rfl⟩
    rw [← hra, ← hrb, ← hrs] at HFI
    rw [← hra, ← hrb, ← hrs]
    clear hb5 hz5 x0 x1 x2 HBA hp HP hra hrb hrs
    go_wp2_with fail
    exact ret_basic rfl rfl rfl ((HZ5.out.stored 0 _).stored 1 _) rfl (HFI.out _ (below_two HB5.out _ HL.out _ _))
/-- What extensions say by Usage. -/
def useS : Option (Except Nat Tr) → Option (Option Nat)
  | none => some none
  | some (.error _) => none
  | some (.ok T) => match bitsOf T.tag T.kids.length T.body with
    | some b => if b.length = 1 then some (some (b.getD 0 0)) else none
    | none => none
def UseP (w : World) (o : Option (Option Nat)) (e : Ending) (w' : World) : Prop :=
  e = .returned (.tuple #[.int .u8 (((o.getD none).getD 0 : Nat) : Int), .bool (o.getD none).isSome, .bool o.isSome]) ∧ Below w.heap.size w w'
set_option maxRecDepth 100000 in
set_option maxHeartbeats 8000000 in
theorem usageS_any (w : World) (A : Option Addr) (c n : Nat) (l : List Ex) (h : XP A c l w) (hn : l.length = n) (hsz : ∀ x ∈ l, x.id.length ≤ 12000 ∧ x.val.length ≤ 12000) (hsv : ∀ T, saidOf (l.map Ex.v) [85, 29, 15] = some (.ok T) → T.body.length ≤ 12000) :
    Calls Tryz.prog 27 #[.slice A n c] w (UseP w (useS (saidOf (l.map Ex.v) [85, 29, 15]))) := by
  have hv := value_any w A c n l [85, 29, 15] h hn (by simp) (by simp) hsz
  rw [show str [85, 29, 15] = ⟨#[85, 29, 15]⟩ from rfl] at hv
  have HC := Lib.hid hv
  clear h hn hsz hv
  generalize saidOf (l.map Ex.v) [85, 29, 15] = sv at *
  go_enter Tryz.func27, Tryz.ntmps27
  go_wp2_with fail
  refine HC.out.mono ?_
  clear HC
  rcases sv with _ | y | T
  · rintro e w2 ⟨rfl, hb2⟩
    have HB3 : Hid (Below w.heap.size w (w2.alloc (.cells #[.int .u8 0, .slice none 0 0, .slice none 0 0] 31))) := Lib.hid (hb2.alloc hb2.size _)
    clear hb2
    go_wp2_with fail
    go_ret3
    exact ⟨rfl, HB3.out⟩
  · rintro e w2 ⟨rfl, hb2⟩
    have HB3 : Hid (Below w.heap.size w (w2.alloc (.cells #[.int .u8 0, .slice none 0 0, .slice none 0 0] 31))) := Lib.hid (hb2.alloc hb2.size _)
    clear hb2
    go_wp2_with fail
    go_ret3
    exact ⟨rfl, HB3.out⟩
  · rintro e w2 ⟨t, rfl, hT, hth, hb2⟩
    have hT2 : t.body.length ≤ 12000 := by rw [← (t_parts t).2.1, hT]; exact hsv T rfl
    have HVAL : Hid (t.val = .agg #[.int .u8 (t.tag : Int), .slice t.ba t.body.length t.bc, .slice t.ka t.kids.length t.kc]) := Lib.hid rfl
    have hp := kid_prim (hth.alloc (.cells #[.int .u8 (t.tag : Int), .slice t.ba t.body.length t.bc, .slice t.ka t.kids.length t.kc] 31))
    have hgb := getBits_any _ t.tag t.body.length t.bc t.kids.length t.kc _ t.ba t.ka t.body hp.1 rfl (Nat.le_refl _) hT2
    have hbe : bitsOf t.tag t.kids.length t.body = bitsOf T.tag T.kids.length T.body := by rw [← hT, (t_parts t).1, (t_parts t).2.1, (t_parts t).2.2, List.length_map]
    rw [hbe] at hgb
    have HGB := Lib.hid hgb
    rw [HVAL.out]
    have HOC : Hid (∀ b, bitsOf T.tag T.kids.length T.body = some b → ∀ y ∈ b, y < 256) := Lib.hid fun b hb y hy => by
      rw [← hbe] at hb
      unfold bitsOf at hb
      split at hb
      · injection hb with hb
        subst hb
        exact hp.2 y (List.mem_of_mem_drop hy)
      · cases hb
    have hH3 := Holds.fresh w2 31 #[.int .u8 (t.tag : Int), .slice t.ba t.body.length t.bc, .slice t.ka t.kids.length t.kc]
    have hq : Below w2.heap.size w2 (w2.alloc (.cells #[.int .u8 (t.tag : Int), .slice t.ba t.body.length t.bc, .slice t.ka t.kids.length t.kc] 31)) := (Below.refl _ _).alloc (Nat.le_refl _) _
    have HB3 := Lib.hid (hb2.trans (hq.mono hb2.size))
    have x0 := hH3.cell 0
    have x1 := hH3.cell 1
    have x2 := hH3.cell 2
    clear hb2 hq hgb hH3 hth hT hT2 hsv HVAL hp hbe
    generalize t.tag = tag at *
    generalize t.ba = ba at *
    generalize t.bc = bc at *
    generalize t.body.length = tn at *
    generalize t.ka = ka at *
    generalize t.kids.length = kn at *
    generalize t.kc = kc at *
    have HRU : Hid (useS (some (.ok T)) = match bitsOf T.tag T.kids.length T.body with | some b => if b.length = 1 then some (some (b.getD 0 0)) else none | none => none) := Lib.hid rfl
    rcases hb : bitsOf T.tag T.kids.length T.body with _ | b
    · have HE : Hid (useS (some (.ok T)) = none) := Lib.hid (by rw [HRU.out, hb])
      rw [hb] at HGB
      clear hb HRU
      go_wp2_with fail
      refine HGB.out.mono ?_
      rintro e w5 ⟨rfl, hb5⟩
      have HB5 := Lib.hid (HB3.out.trans (hb5.mono HB3.out.size))
      clear hb5 x0 x1 x2 HGB
      go_wp2_with fail
      go_ret3
      rw [HE.out]
      exact ⟨rfl, HB5.out⟩
    have hoc := HOC.out b hb
    rw [hb] at HGB
    by_cases h1 : b.length = 1
    case neg =>
      have HE : Hid (useS (some (.ok T)) = none) := Lib.hid (by rw [HRU.out, hb]; exact if_neg h1)
      have d1 : ((b.length : Int) != 1) = true := by simp; omega
      clear hb HRU hoc
      go_wp2_with fail
      refine HGB.out.mono ?_
      rintro e w5 ⟨A5, c5, rfl, hm5, hb5⟩
      have HB5 := Lib.hid (HB3.out.trans (hb5.mono HB3.out.size))
      generalize b.length = bn at *
      clear hb5 x0 x1 x2 HGB hm5
      go_wp2_with fail
      go_ret3
      rw [HE.out]
      exact ⟨rfl, HB5.out⟩
    have HE : Hid (useS (some (.ok T)) = some (some (b.getD 0 0))) := Lib.hid (by rw [HRU.out, hb]; exact if_pos h1)
    obtain ⟨y, rfl⟩ : ∃ y, b = [y] := by
      rcases b with _ | ⟨y, _ | ⟨z, r⟩⟩
      · simp at h1
      · exact ⟨y, rfl⟩
      · simp at h1
    clear hb HRU h1
    go_wp2_with fail
    refine HGB.out.mono ?_
    rintro e w5 ⟨A5, c5, rfl, hm5, hb5⟩
    obtain ⟨g, off, rfl, hg, hcs⟩ := hm5.cells_ (by simp)
    have x5 := hcs 0 (by simp)
    simp only [List.getD_cons_zero, Nat.add_zero] at x5
    have hle : 1 ≤ c5 := hm5.rd.1
    have HB5 := Lib.hid (HB3.out.trans (hb5.mono HB3.out.size))
    rw [show ([y] : List Nat).length = 1 from rfl]
    clear hb5 x0 x1 x2 HGB hm5 hcs
    go_wp2_with fail
    go_ret3
    rw [HE.out]
    exact ⟨rfl, HB5.out⟩
end Go.Proofs.YtbkjjhpnjfdlbaaGreatDoor
